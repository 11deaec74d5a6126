/- A map from keys to slices of texts; the rows of these slices. No function of the program is read here. -/
import Derived.Test.YtopgeclecpaecaaGreatDoorKApp
import Derived.Test.YtopgeclecpaecaaGreatDoorKBdN
import Derived.Maps.OwnSet
import Derived.Laws.CopyRow
namespace Go.Proofs.YtopgeclecpaecaaGreatDoor
open Go.RowKit
/-- what a key has, is turned -/
def upd {α : Type} (F : List UInt8 → α) (k : List UInt8) (x : α) (j : List UInt8) : α := if j = k then x else F j
theorem upd_same {α : Type} (F : List UInt8 → α) (k : List UInt8) (x : α) : upd F k x k = x := if_pos rfl
theorem upd_other {α : Type} (F : List UInt8 → α) {k j : List UInt8} (x : α) (h : j ≠ k) : upd F k x j = F j := if_neg h
/-- a slice's head: block, length, capacity -/
abbrev Hd := Nat × Nat × Nat
def sliV : Option Hd → Value
  | none => .slice none 0 0
  | some (g, n, c) => .slice (some ⟨g, 0, none⟩) n c
def sliD : Option Hd → DataW Unit
  | none => .nil
  | some (g, n, c) => .agg [.lit (.int .i64 g), .lit (.int .i64 n), .lit (.int .i64 c)]
def sliR : Value → Option (DataW Unit × List MemPlace)
  | .slice none n c => if n = 0 ∧ c = 0 then some (sliD none, []) else none
  | .slice (some a) n c => if a.off = 0 ∧ a.spot = none then some (sliD (some (a.block, n, c)), []) else none
  | _ => none
theorem sliD_inj {a b : Option Hd} (h : sliD a = sliD b) : a = b := by
  rcases a with - | ⟨g, n, c⟩ <;> rcases b with - | ⟨g', n', c'⟩
  · rfl
  · cases h
  · cases h
  · simp only [sliD, DataW.agg.injEq, List.cons.injEq, DataW.lit.injEq, Lit.int.injEq, true_and, and_true] at h
    obtain ⟨h1, h2, h3⟩ := h
    rw [Int.ofNat.inj h1, Int.ofNat.inj h2, Int.ofNat.inj h3]
theorem sliR_v (o : Option Hd) : sliR (sliV o) = some (sliD o, []) := by
  rcases o with - | ⟨g, n, c⟩ <;> simp [sliR, sliV, sliD]
theorem sliR_inv {v : Value} {o : Option Hd} {ps : List MemPlace} (h : sliR v = some (sliD o, ps)) : v = sliV o := by
  unfold sliR at h
  split at h
  · split at h
    · rename_i hc
      obtain ⟨rfl, rfl⟩ := hc
      simp only [Option.some.injEq, Prod.mk.injEq] at h
      rw [← sliD_inj h.1]; rfl
    · cases h
  · rename_i a n c
    split at h
    · rename_i ha
      simp only [Option.some.injEq, Prod.mk.injEq] at h
      rw [← sliD_inj h.1]
      obtain ⟨b, o', s⟩ := a
      simp only at ha
      obtain ⟨rfl, rfl⟩ := ha
      rfl
    · cases h
  · cases h
/-- a map's block: which slice has which key -/
def MapS (P : Program) (kt : TypeId) (w : World) (mb : Nat) (F : List UInt8 → Option Hd) (n : Nat) : Prop :=
  ∃ D : DataW Unit, w.ownsMap P kt sliR mb n D ∧ (∀ k : List UInt8, D.atKey (.string k) (sliD none) = sliD (F k)) ∧ (∀ k : List UInt8, Maps.has D (.string k) = (F k).isSome) ∧ Maps.size D = n
theorem ownsMap_tightS {P : Program} {kt : TypeId} {w : World} {mb : Nat} {R : Value → Option (DataW Unit × List MemPlace)} {n : Nat} {D : DataW Unit} (h : w.ownsMap P kt R mb n D) : w.ownsMap P kt R mb (Maps.size D) D := by
  obtain ⟨es, clock, hb, F, hs, rfl⟩ := h
  refine ⟨es, clock, hb, F, ?_, rfl⟩
  rw [show Maps.size (DataW.map ((es.toList.map (WideElems.rg P kt R)).foldr DataW.insert [])) = es.size from by simp [Maps.size, length_sorted]]
  exact Nat.le_refl _
section
variable {P : Program} {kt : TypeId} {w w' : World} {mb n : Nat} {F : List UInt8 → Option Hd}
theorem MapS.new (w : World) : MapS P kt (w.alloc (.map #[] 0)) w.heap.size (fun _ => none) 0 :=
  ⟨_, World.ownsMap_made w P kt sliR, fun _ => rfl, fun _ => rfl, rfl⟩
theorem MapS.keep (h : MapS P kt w mb F n) (hk : w'.heap[mb]? = w.heap[mb]?) : MapS P kt w' mb F n := by
  obtain ⟨D, ⟨es, clock, h1, h2⟩, h3⟩ := h
  exact ⟨D, ⟨es, clock, hk.trans h1, h2⟩, h3⟩
theorem MapS.lt (h : MapS P kt w mb F n) : mb < w.heap.size := by
  obtain ⟨D, h1, -⟩ := h
  exact h1.lt
theorem MapS.ne_cells (h : MapS P kt w mb F n) {b : Nat} {cs : Array Value} {T : TypeId} {fr : Nat × Nat} (hb : w.heap[b]? = some (.cells cs T fr)) : b ≠ mb := by
  rintro rfl
  obtain ⟨D, ⟨es, clock, h1, -⟩, -⟩ := h
  rw [h1] at hb; cases hb
theorem MapS.ne (h : MapS P kt w mb F n) {b : Nat} {cs : Array Value} (hb : bk w b cs) : b ≠ mb := by
  obtain ⟨T, hb⟩ := hb
  exact h.ne_cells hb
theorem MapS.look {t e : TypeId} (h : MapS P kt w mb F n) (hks : P.underlying kt = some .string) (ht : P.underlying t = some (.map kt e)) (hz : (zeroValue e).run P w = .ok (.slice none 0 0) w) (k : List UInt8) (hl : k.length ≤ maxLen) :
    (Instr.lookup t (.map (some mb)) (.string (bs k)) false).run P w = .ok (sliV (F k)) w := by
  obtain ⟨D, h1, h2, -⟩ := h
  obtain ⟨v, ps, hrun, hv⟩ := h1.lookup (Maps.string_keyed hks) ht hz (sliR_v none) (Go.WideMaps.keyOf_string_mk hks (by rw [bs_size]; exact hl))
  rw [bs_data, h2 k] at hv
  rw [hrun, sliR_inv hv]
theorem MapS.put {t e : TypeId} (h : MapS P kt w mb F n) (hks : P.underlying kt = some .string) (ht : P.underlying t = some (.map kt e)) (hn : n < maxLen) (k : List UInt8) (o : Hd) (hl : k.length ≤ maxLen) :
    ∃ w', (Instr.mapUpdate t (.map (some mb)) (.string (bs k)) (sliV (some o))).run P w = .ok () w' ∧ MapS P kt w' mb (upd F k (some o)) (if (F k).isSome then n else n + 1) ∧ w.mapTurned w' mb := by
  obtain ⟨D, h1, h2, h3, h4⟩ := h
  have hT := h1.tidy (Maps.string_keyed hks)
  obtain ⟨w', hrun, hown, hturn⟩ := h1.store (Maps.string_keyed hks) ht hn (Go.WideMaps.keyOf_string_mk hks (s := bs k) (by rw [bs_size]; exact hl)) (sliR_v (some o))
  rw [bs_data] at hown
  have hsz : Maps.size (D.put (.string k) (sliD (some o))) = if (F k).isSome then n else n + 1 := by rw [Maps.size_put hT, h3 k, h4]
  refine ⟨w', hrun, ⟨D.put (.string k) (sliD (some o)), ?_, ?_, ?_, hsz⟩, hturn⟩
  · rw [← hsz]; exact ownsMap_tightS hown
  · intro j
    by_cases e : j = k
    · subst e
      rw [Maps.atKey_put_same hT.isMap (show WideAt.IsKeyLit (.string j) from trivial), upd_same]
    · rw [Maps.atKey_put_other (by intro q; cases q; exact e rfl), h2 j, upd_other _ _ e]
  · intro j
    by_cases e : j = k
    · subst e
      rw [Maps.has_put_same hT.isMap (show WideAt.IsKeyLit (.string j) from trivial), upd_same]; rfl
    · rw [Maps.has_put_other (by intro q; cases q; exact e rfl), h3 j, upd_other _ _ e]
theorem MapS.del {t e : TypeId} (h : MapS P kt w mb F n) (hks : P.underlying kt = some .string) (ht : P.underlying t = some (.map kt e)) (k : List UInt8) (hl : k.length ≤ maxLen) (ty : TypeId) :
    ∃ w' n', (Builtin.delete_ #[t, kt] ty #[.map (some mb), .string (bs k)]).run P w = .ok (.tuple #[]) w' ∧ MapS P kt w' mb (upd F k none) n' ∧ n' ≤ n ∧ w.mapTurned w' mb := by
  obtain ⟨D, h1, h2, h3, h4⟩ := h
  have hT := h1.tidy (Maps.string_keyed hks)
  obtain ⟨w', hrun, hown, hturn⟩ := h1.drop (Maps.string_keyed hks) ht (Go.WideMaps.keyOf_string_mk hks (s := bs k) (by rw [bs_size]; exact hl)) ty
  rw [bs_data] at hown
  refine ⟨w', Maps.size (D.del (.string k)), hrun, ⟨D.del (.string k), ownsMap_tightS hown, ?_, ?_, rfl⟩, ?_, hturn⟩
  · intro j
    by_cases e : j = k
    · subst e
      rw [Maps.atKey_del_same, upd_same]
    · rw [Maps.atKey_del_other (by intro q; cases q; exact e rfl), h2 j, upd_other _ _ e]
  · intro j
    by_cases e : j = k
    · subst e
      rw [Maps.has_del_same, upd_same]; rfl
    · rw [Maps.has_del_other (by intro q; cases q; exact e rfl), h3 j, upd_other _ _ e]
  · have := Maps.size_del (k := .string k) hT
    rw [h4] at this
    omega
end
/-! ### rows of texts -/
theorem strCs_len (L : List (List UInt8)) : (strCs L).length = L.length := by simp [strCs]
/-- a row's cells -/
theorem ownS.cur {w : World} {base g n c : Nat} {L : List (List UInt8)} (h : ownS w base (.slice (some ⟨g, 0, none⟩) n c) L) :
    ∃ cur : Array Value, n = L.length ∧ base ≤ g ∧ w.heap[g]? = some (.cells cur 9 (0, 0)) ∧ L.length ≤ c ∧ c ≤ maxLen ∧ cur.size = c ∧ cur.toList.take L.length = strCs L := by
  rcases h.2 with ⟨hv, -⟩ | ⟨g', cap, cur, hv, hb, hg, hnc, hcm, hcs, ht⟩
  · cases hv
  · cases hv
    exact ⟨cur, rfl, hb, hg, hnc, hcm, by simpa using hcs, by simpa using ht⟩
theorem ownS.of {w : World} {base g c : Nat} {L : List (List UInt8)} {cur : Array Value} (hb : base ≤ g) (hg : w.heap[g]? = some (.cells cur 9 (0, 0))) (hnc : L.length ≤ c) (hcm : c ≤ maxLen) (hcs : cur.size = c) (ht : cur.toList.take L.length = strCs L) :
    ownS w base (.slice (some ⟨g, 0, none⟩) L.length c) L := by
  refine ⟨by rw [strCs_len]; omega, .inr ⟨g, c, cur, rfl, hb, hg, hnc, hcm, by omega, by simpa using ht⟩⟩
/-- a key's row -/
def RowK (w : World) (o : Option Hd) (L : List (List UInt8)) : Prop := match o with
  | none => L = []
  | some (g, m, c) => m = L.length ∧ L ≠ [] ∧ ownS w 0 (.slice (some ⟨g, 0, none⟩) L.length c) L
theorem RowK.keep {w w' : World} {o : Option Hd} {L : List (List UInt8)} (h : RowK w o L) (hk : ∀ g m c, o = some (g, m, c) → w'.heap[g]? = w.heap[g]?) : RowK w' o L := by
  rcases o with - | ⟨g, m, c⟩
  · exact h
  · obtain ⟨h1, h2, h3⟩ := h
    obtain ⟨cur, -, -, hg, a1, a2, a3, a4⟩ := h3.cur
    exact ⟨h1, h2, ownS.of (Nat.zero_le _) ((hk g m c rfl).trans hg) a1 a2 a3 a4⟩
theorem RowK.lt {w : World} {g m c : Nat} {L : List (List UInt8)} (h : RowK w (some (g, m, c)) L) : g < w.heap.size := by
  obtain ⟨-, -, h3⟩ := h
  obtain ⟨cur, -, -, hg, -⟩ := h3.cur
  exact (Array.getElem?_eq_some_iff.1 hg).1
/-- the rows under the keys -/
structure Und (w : World) (umb n : Nat) (F : List UInt8 → Option Hd) (R : List UInt8 → List (List UInt8)) : Prop where
  map : MapS Tryz.prog 9 w umb F n
  row : ∀ k, RowK w (F k) (R k)
  inj : ∀ k k' g m c m' c', F k = some (g, m, c) → F k' = some (g, m', c') → k = k'
def undX (umb : Nat) (F : List UInt8 → Option Hd) (b : Nat) : Prop := b = umb ∨ ∃ k m c, F k = some (b, m, c)
section
variable {w w' : World} {umb n : Nat} {F : List UInt8 → Option Hd} {R : List UInt8 → List (List UInt8)}
theorem Und.keep (h : Und w umb n F R) (hk : ∀ b, undX umb F b → w'.heap[b]? = w.heap[b]?) : Und w' umb n F R :=
  ⟨h.map.keep (hk umb (.inl rfl)), fun k => (h.row k).keep fun g m c e => hk g (.inr ⟨k, m, c, e⟩), h.inj⟩
theorem Und.lt (h : Und w umb n F R) : ∀ b, undX umb F b → b < w.heap.size := by
  rintro b (rfl | ⟨k, m, c, e⟩)
  · exact h.map.lt
  · have := h.row k
    rw [e] at this
    exact this.lt
theorem Und.cells (h : Und w umb n F R) {k : List UInt8} {g m c : Nat} (e : F k = some (g, m, c)) : ∃ cur : Array Value, w.heap[g]? = some (.cells cur 9 (0, 0)) ∧ (R k).length ≤ c ∧ c ≤ maxLen ∧ cur.size = c ∧ cur.toList.take (R k).length = strCs (R k) ∧ m = (R k).length ∧ R k ≠ [] ∧ g ≠ umb := by
  have h1 := h.row k
  rw [e] at h1
  obtain ⟨h2, h3, h4⟩ := h1
  obtain ⟨cur, -, -, hg, a1, a2, a3, a4⟩ := h4.cur
  exact ⟨cur, hg, a1, a2, a3, a4, h2, h3, h.map.ne_cells hg⟩
/-- a key's row is written anew, in its place or elsewhere -/
theorem Und.put {umb n n' : Nat} {w1 w2 : World} {k : List UInt8} {o : Hd} {L : List (List UInt8)} (h : Und w umb n F R) (hm : MapS Tryz.prog 9 w2 umb (upd F k (some o)) n') (hr : RowK w2 (some o) L)
    (hk : ∀ j g m c, j ≠ k → F j = some (g, m, c) → w2.heap[g]? = w.heap[g]?) (hn : ∀ j m c, j ≠ k → F j ≠ some (o.1, m, c)) (_ : w1 = w2) :
    Und w2 umb n' (upd F k (some o)) (upd R k L) := by
  refine ⟨hm, fun j => ?_, fun j j' g m c m' c' h1 h2 => ?_⟩
  · by_cases e : j = k
    · subst e
      rw [upd_same, upd_same]
      exact hr
    · rw [upd_other _ _ e, upd_other _ _ e]
      exact (h.row j).keep fun g m c q => hk j g m c e q
  · by_cases e : j = k <;> by_cases e' : j' = k
    · rw [e, e']
    · subst e
      rw [upd_same, Option.some.injEq] at h1
      rw [upd_other _ _ e'] at h2
      rw [h1] at hn
      exact absurd h2 (hn j' m' c' e')
    · subst e'
      rw [upd_same, Option.some.injEq] at h2
      rw [upd_other _ _ e] at h1
      rw [h2] at hn
      exact absurd h1 (hn j m c e)
    · rw [upd_other _ _ e] at h1
      rw [upd_other _ _ e'] at h2
      exact h.inj j j' g m c m' c' h1 h2
theorem Und.del {n' : Nat} {w2 : World} {k : List UInt8} (h : Und w umb n F R) (hm : MapS Tryz.prog 9 w2 umb (upd F k none) n')
    (hk : ∀ j g m c, j ≠ k → F j = some (g, m, c) → w2.heap[g]? = w.heap[g]?) : Und w2 umb n' (upd F k none) (upd R k []) := by
  refine ⟨hm, fun j => ?_, fun j j' g m c m' c' h1 h2 => ?_⟩
  · by_cases e : j = k
    · subst e
      rw [upd_same, upd_same]
      exact (rfl : ([] : List (List UInt8)) = [])
    · rw [upd_other _ _ e, upd_other _ _ e]
      exact (h.row j).keep fun g m c q => hk j g m c e q
  · by_cases e : j = k <;> by_cases e' : j' = k
    · rw [e, e']
    · subst e; rw [upd_same] at h1; cases h1
    · subst e'; rw [upd_same] at h2; cases h2
    · rw [upd_other _ _ e] at h1
      rw [upd_other _ _ e'] at h2
      exact h.inj j j' g m c m' c' h1 h2
end
end Go.Proofs.YtopgeclecpaecaaGreatDoor
