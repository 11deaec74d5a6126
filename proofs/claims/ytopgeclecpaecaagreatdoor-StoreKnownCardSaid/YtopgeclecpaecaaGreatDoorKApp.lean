/- Slices of fields appended to each other; a slice literal of one field. -/
import Derived.Test.YtopgeclecpaecaaGreatDoorKBytes
import Derived.Test.YtopgeclecpaecaaGreatDoorKFieldsA
import Derived.Lib.AppendZeros
import Derived.Lib.Join
import Derived.Test.YtopgeclecpaecaaGreatDoorShelf
import Derived.Maps.OwnSet
import Derived.Deep.AppendLies
namespace Go.Proofs.YtopgeclecpaecaaGreatDoor
open Go.RowKit

theorem FL.src {w : World} {ad : Addr} {n c : Nat} {l : List Fld} (h : FL w (.slice (some ad) n c) l) : ∀ j u, (fcs l)[j]? = some u → w.cell? (ad.add j) = some u := by
  intro j u hu
  have hj : j < l.length * 2 := by have := (List.getElem?_eq_some_iff.1 hu).1; rw [fcs_len] at this; exact this
  obtain ⟨b, off, he, _, h1, h2⟩ := h.get (j / 2) (by omega)
  obtain rfl := Option.some.inj he
  obtain ⟨f1, f2⟩ := fcs_at l (j / 2) (by omega)
  rw [Addr.add_lit]
  rcases Nat.mod_two_eq_zero_or_one j with hm | hm
  · have e : j = j / 2 * 2 := by omega
    rw [e] at hu ⊢
    rw [f1] at hu
    rw [h1]; exact hu
  · have e : j = j / 2 * 2 + 1 := by omega
    rw [e] at hu ⊢
    rw [f2] at hu
    rw [← Nat.add_assoc, h2]; exact hu
theorem app_nothingF (ty : TypeId) (A : Option Addr) (n cap c : Nat) (w : World) (hA : A = none → n = 0 ∧ cap = 0) (hn : n ≤ cap) :
    (Builtin.append_ #[24, 24] ty #[.slice A n cap, .slice none 0 c]).run Tryz.prog w = .ok (.slice A n cap) w := by
  obtain ⟨i0, hi, hz0, hz1, hz2⟩ := info_parts infoF
  cases A with
  | none =>
    obtain ⟨rfl, rfl⟩ := hA rfl
    simp [Builtin.append_, run_underlying Tryz.underlying24, sizeOf, typeInfo, hi, Builtin.lenOf, Builtin.firstCells]
  | some a =>
    simp [Builtin.append_, run_underlying Tryz.underlying24, sizeOf, typeInfo, hi, Builtin.lenOf, Builtin.firstCells, hn, storeCells]
/-- an append of fields to a slice of the call's own: what is known of its run -/
theorem run_appFF (w0 w : World) (ty : TypeId) (base B : Nat) (v vx : Value) (l m : List Fld) (hown : ownF w base v l) (hb : Below B w0 w) (hBb : B ≤ base) (hbase : base ≤ w.heap.size) (hm : FL w vx m) (hlen : l.length + m.length ≤ 4294967296) :
    ∃ v' w', (Builtin.append_ #[24, 24] ty #[v, vx]).run Tryz.prog w = .ok v' w' ∧ ownF w' base v' (l ++ m) ∧ Below B w0 w' ∧ (∀ b, b < base → w'.heap[b]? = w.heap[b]?) ∧ w.heap.size ≤ w'.heap.size ∧ (∀ b, b < w.heap.size → v.ownBlock ≠ some b → w'.heap[b]? = w.heap[b]?) := by
  obtain ⟨i0, hi, hz0, hz1, hz2⟩ := info_parts infoF
  have key : ∀ (ad : Addr) (c : Nat), vx = .slice (some ad) m.length c → (∀ j u, (fcs m)[j]? = some u → w.cell? (ad.add j) = some u) →
      ∃ v' w', (Builtin.append_ #[24, 24] ty #[v, vx]).run Tryz.prog w = .ok v' w' ∧ ownF w' base v' (l ++ m) ∧ Below B w0 w' ∧ (∀ b, b < base → w'.heap[b]? = w.heap[b]?) ∧ w.heap.size ≤ w'.heap.size ∧ (∀ b, b < w.heap.size → v.ownBlock ≠ some b → w'.heap[b]? = w.heap[b]?) := by
    intro ad c hv hc
    subst hv
    obtain ⟨v', w', h1, h2, h3, _⟩ := run_append_own (P := Tryz.prog) w base 24 ty 66 i0 (.agg #[.string ⟨#[]⟩, .string ⟨#[]⟩]) 2 32 Tryz.underlying24 hi hz0 hz1 hz2 rfl (by decide) v l.length _ hown ad m.length c (fcs m) (fcs_len m) hc (fcs_one m) (by unfold maxLen; omega) (by omega) hbase
    have hge : ∀ k, v.ownBlock = some k → base ≤ k := fun k hk => (World.ownsRow.lt hown k hk).1
    refine ⟨v', w', h1, ?_, hb.grown h3 (Nat.le_trans hBb hbase) (fun k hk => Nat.le_trans hBb (hge k hk)), fun b hb2 => h3.block b (by omega) (fun e => by have := hge b e.symm; omega), h3.size, fun b hb2 hne => h3.block b hb2 (fun e => hne e.symm)⟩
    unfold ownF
    rw [List.length_append, fcs_append]
    exact h2
  rcases hm with ⟨rfl, A, c, rfl⟩ | ⟨b, off, c, rfl, hlt, hc⟩
  · cases A with
    | some ad => exact key ad c rfl (fun j u hu => by simp [fcs] at hu)
    | none =>
      have hform : ∃ A cap, v = .slice A l.length cap ∧ (A = none → l.length = 0 ∧ cap = 0) ∧ l.length ≤ cap := by
        rcases hown.2 with ⟨rfl, hn⟩ | ⟨g, cap, cur, rfl, _, _, hnc, _⟩
        · exact ⟨none, 0, by rw [hn], fun _ => ⟨hn, rfl⟩, by omega⟩
        · exact ⟨some ⟨g, 0, none⟩, cap, rfl, (fun e => by cases e), hnc⟩
      obtain ⟨A, cap, rfl, h1, h2⟩ := hform
      exact ⟨_, w, app_nothingF ty A l.length cap c w h1 h2, by rw [List.append_nil]; exact hown, hb, fun _ _ => rfl, Nat.le_refl _, fun _ _ _ => rfl⟩
  · exact key ⟨b, off, none⟩ c rfl (FL.src (n := m.length) (c := c) (.inr ⟨b, off, c, rfl, hlt, hc⟩))
theorem wpList_appFF {w0 w : World} {ops : Array Oper} {rest : List Oper} {o : Oper} {a : Act} {Q : Exit → Act → World → Prop} (hgd : o.guard = none) (s x : Operand)
    (ho : o.op = .call { callee := .builtin .append, args := #[s, x], argTypes := #[24, 24] })
    (base B : Nat) (v vx : Value) (l m : List Fld) (hs : a.eval s = v) (hown : ownF w base v l) (hb : Below B w0 w) (hBb : B ≤ base) (hbase : base ≤ w.heap.size)
    (hx : a.eval x = vx) (hm : FL w vx m) (hlen : l.length + m.length ≤ 4294967296)
    (h : ∀ v' w', Hid (ownF w' base v' (l ++ m)) → Hid (Below B w0 w') → Hid (∀ b, b < base → w'.heap[b]? = w.heap[b]?) → Hid (w.heap.size ≤ w'.heap.size) → wpList Tryz.prog ops Q rest (a.put o.dst v') w') :
    wpList Tryz.prog ops Q (o :: rest) a w := by
  obtain ⟨v', w', hr, h1, h2, h3, h4, _⟩ := run_appFF w0 w o.type base B v vx l m hown hb hBb hbase hm hlen
  exact Lib.wpList_append_run _ hgd s x 24 24 ho _ _ hs hx _ _ hr (h v' w' h1 h2 h3 h4)
theorem wp_appFF {w0 w : World} {o : Oper} {a : Act} {K : Act → World → Prop} {Q : Exit → Act → World → Prop} (s x : Operand)
    (ho : o.op = .call { callee := .builtin .append, args := #[s, x], argTypes := #[24, 24] })
    (base B : Nat) (v vx : Value) (l m : List Fld) (hs : a.eval s = v) (hown : ownF w base v l) (hb : Below B w0 w) (hBb : B ≤ base) (hbase : base ≤ w.heap.size)
    (hx : a.eval x = vx) (hm : FL w vx m) (hlen : l.length + m.length ≤ 4294967296)
    (h : ∀ v' w', Hid (ownF w' base v' (l ++ m)) → Hid (Below B w0 w') → Hid (∀ b, b < base → w'.heap[b]? = w.heap[b]?) → Hid (w.heap.size ≤ w'.heap.size) → K (a.put o.dst v') w') : o.wp Tryz.prog a w K Q := by
  obtain ⟨v', w', hr, h1, h2, h3, h4, _⟩ := run_appFF w0 w o.type base B v vx l m hown hb hBb hbase hm hlen
  exact Lib.wp_append_run w s x 24 24 ho _ _ hs hx _ _ hr (h v' w' h1 h2 h3 h4)
/-- as wpList_appFF; and what becomes of the blocks that are not the slice's own -/
theorem wpList_appFX {w0 w : World} {ops : Array Oper} {rest : List Oper} {o : Oper} {a : Act} {Q : Exit → Act → World → Prop} (hgd : o.guard = none) (s x : Operand)
    (ho : o.op = .call { callee := .builtin .append, args := #[s, x], argTypes := #[24, 24] })
    (base B : Nat) (v vx : Value) (l m : List Fld) (hs : a.eval s = v) (hown : ownF w base v l) (hb : Below B w0 w) (hBb : B ≤ base) (hbase : base ≤ w.heap.size)
    (hx : a.eval x = vx) (hm : FL w vx m) (hlen : l.length + m.length ≤ 4294967296)
    (h : ∀ v' w', Hid (ownF w' base v' (l ++ m)) → Hid (Below B w0 w') → Hid (∀ b, b < w.heap.size → v.ownBlock ≠ some b → w'.heap[b]? = w.heap[b]?) → wpList Tryz.prog ops Q rest (a.put o.dst v') w') :
    wpList Tryz.prog ops Q (o :: rest) a w := by
  obtain ⟨v', w', hr, h1, h2, _, _, h5⟩ := run_appFF w0 w o.type base B v vx l m hown hb hBb hbase hm hlen
  exact Lib.wpList_append_run _ hgd s x 24 24 ho _ _ hs hx _ _ hr (h v' w' h1 h2 h5)
/-- a slice literal of one field -/
theorem FL_lit (w : World) (f : Fld) : FL (w.alloc (.cells #[.string (bs f.1), .string (bs f.2)] 66)) (.slice (some ⟨w.heap.size, 0, none⟩) 1 1) [f] := by
  refine .inr ⟨w.heap.size, 0, 1, rfl, by simp, fun j hj => ?_⟩
  have : j = 0 := by simpa using hj
  subst this
  have hb := heap_alloc_new w (.cells #[.string (bs f.1), .string (bs f.2)] 66)
  constructor <;> (unfold World.cell?; simp only [hb]; rfl)

/-- blocks from base on stand: so does what lies there -/
theorem ownF.stay {W W' : World} {base : Nat} {v : Value} {l : List Fld} (h : ownF W base v l) (k : ∀ b, base ≤ b → W'.heap[b]? = W.heap[b]?) : ownF W' base v l := by
  rcases h with ⟨h1, h2⟩
  refine ⟨h1, ?_⟩
  rcases h2 with h2 | ⟨g, cap, cur, e, hb, hg, hnc, hrest⟩
  · exact .inl h2
  · exact .inr ⟨g, cap, cur, e, hb, by rw [k g hb]; exact hg, hnc, hrest⟩

/-! Names and values in turn. -/
def flatN (l : List Fld) : List (List UInt8) := l.flatMap fun f => [f.1, f.2]
theorem flatN_len (l : List Fld) : (flatN l).length = 2 * l.length := by
  induction l with
  | nil => rfl
  | cons f r ih => simp [flatN] at ih ⊢; omega
theorem flatN_at (l : List Fld) (j : Nat) (hj : j < l.length) : (flatN l)[2 * j]? = some l[j].1 ∧ (flatN l)[2 * j + 1]? = some l[j].2 := by
  induction l generalizing j with
  | nil => exact absurd hj (by simp)
  | cons f r ih =>
    have e : flatN (f :: r) = f.1 :: f.2 :: flatN r := by simp [flatN]
    rw [e]
    cases j with
    | zero => exact ⟨rfl, rfl⟩
    | succ k =>
      obtain ⟨h1, h2⟩ := ih k (by simpa using hj)
      rw [show 2 * (k + 1) = 2 * k + 2 from by omega]
      exact ⟨h1, h2⟩
theorem SL.at2 {w : World} {A : Option Addr} {n c : Nat} {L : List (List UInt8)} {j : Nat} {x : List UInt8} (h : SL w (.slice A n c) L) (hx : L[j]? = some x) : ∃ b off, A = some ⟨b, off, none⟩ ∧ b < w.heap.size ∧ w.cell? ⟨b, off + j, none⟩ = some (.string (bs x)) := by
  obtain ⟨hj, he⟩ := List.getElem?_eq_some_iff.1 hx
  obtain ⟨b, off, h1, h3, h2⟩ := h.get j hj
  exact ⟨b, off, h1, h3, by rw [h2, he]⟩

end Go.Proofs.YtopgeclecpaecaaGreatDoor

/- Two lists of texts held against each other; the texts of a list as one. -/
namespace Go.Proofs.YtopgeclecpaecaaGreatDoor
open Go.RowKit

theorem below_dnX {B : Nat} {a w : World} (h : Below B a w) (n : Nat) : Below B a (w.drewN n) := ⟨h.os, h.tape, h.output, h.size, h.block⟩
theorem ownS.heap {w w' : World} {base : Nat} {v : Value} {l : List (List UInt8)} (h : ownS w base v l) (hh : w'.heap = w.heap) : ownS w' base v l := by
  refine ⟨h.1, ?_⟩
  rw [hh]; exact h.2

theorem take_eq_snoc {L1 L2 : List (List UInt8)} {k : Nat} (h1 : k < L1.length) (h2 : k < L2.length) (h : L1.take k = L2.take k) (he : L1.getD k [] = L2.getD k []) : L1.take (k + 1) = L2.take (k + 1) := by
  rw [List.take_succ_eq_append_getElem h1, List.take_succ_eq_append_getElem h2, h]
  simp [List.getD, h1, h2] at he
  rw [he]


theorem bs_lists (l : List (List UInt8)) : (l.map bs).map (fun x => x.data.toList) = l := by
  rw [List.map_map]
  have : (fun x : ByteArray => x.data.toList) ∘ bs = id := by funext x; simp
  rw [this, List.map_id]

/-- 'strings.Join' of a slice of the call's own. -/
theorem join_any (B : Nat) (v : Value) (L : List (List UInt8)) (sep : ByteArray) (w : World) (h : ownS w B v L) (hl : L.length ≤ 4294967296) (hlen : (Lib.join L sep.data.toList).length ≤ 140737488355328) :
    Calls Tryz.prog 15 #[v, .string sep] w fun e w' => e = .returned (.string (bs (Lib.join L sep.data.toList))) ∧ Below w.heap.size w w' := by
  rcases h.2 with ⟨rfl, hn⟩ | ⟨g, cap, cur, rfl, hb, hg, hnc, r⟩
  · have : L = [] := List.eq_nil_of_length_eq_zero hn
    subst this
    refine (Tryz.strings_Join_none none 0 sep w).mono ?_
    rintro e w' ⟨rfl, rfl⟩
    exact ⟨rfl, Below.refl _ _⟩
  · have hc := Tryz.strings_Join g 0 cap (L.map bs) sep w (fun j x hx => by
      have hj : j < L.length := by
        have := (List.getElem?_eq_some_iff.1 hx).1; simpa using this
      have h1 := World.ownsRow.cells h (g := g) rfl j (.string x) (by
        simp only [strCs, List.getElem?_map] at hx ⊢
        rw [List.getElem?_eq_getElem hj] at hx ⊢
        simp at hx ⊢; exact hx)
      rw [show (⟨g, 0, none⟩ : Addr).add j = ⟨g, 0 + j, none⟩ from by unfold Addr.add; split <;> simp_all] at h1
      exact h1) (Array.getElem?_eq_some_iff.1 hg).1 (by rw [List.length_map]; omega) (by rw [List.length_map]; exact hnc) (by rw [bs_lists]; exact hlen)
    rw [bs_lists, List.length_map] at hc
    exact hc

theorem inter_len (c : UInt8) : ∀ L : List (List UInt8), (Lib.join L [c]).length ≤ L.flatten.length + L.length
  | [] => by simp [Lib.join, List.intercalate]
  | [x] => by simp [Lib.join, List.intercalate]
  | x :: y :: r => by
    have h := inter_len c (y :: r)
    have e : Lib.join (x :: y :: r) [c] = x ++ [c] ++ Lib.join (y :: r) [c] := by simp [Lib.join, List.intercalate]
    rw [e]
    simp only [List.length_append, List.flatten_cons, List.length_cons, List.length_nil] at h ⊢
    omega

end Go.Proofs.YtopgeclecpaecaaGreatDoor

/- 'append(l, x)' on texts beside blocks that stay: a slice of the call's own, lists that are read. -/
namespace Go.Proofs.YtopgeclecpaecaaGreatDoor
open Go.RowKit

theorem SL.keepG {w w' : World} {v : Value} {L : List (List UInt8)} (h : SL w v L) (hk : ∀ g, v.ownBlock = some g → w'.heap[g]? = w.heap[g]?) (hz : w.heap.size ≤ w'.heap.size) : SL w' v L := by
  rcases h with h | ⟨b, off, c, rfl, hb, hc⟩
  · exact .inl h
  · refine .inr ⟨b, off, c, rfl, by omega, fun j hj => ?_⟩
    rw [World.cell?_of_block (hk b rfl)]
    exact hc j hj
theorem SL.lt {w : World} {A : Option Addr} {n c : Nat} {L : List (List UInt8)} (h : SL w (.slice A n c) L) (hn : 0 < L.length) : ∀ g, (Value.slice A n c).ownBlock = some g → g < w.heap.size := by
  rcases h with ⟨rfl, _⟩ | ⟨b, off, c', hv, hb, hc⟩
  · cases hn
  · intro g hg
    cases hv
    have : b = g := by simpa [Value.ownBlock] using hg
    omega
/-- a list that is read, and the list that is made; what lies below stands -/
structure NR (w0 w : World) (vN : Value) (N : List (List UInt8)) (vM : Value) (M : List (List UInt8)) (o : Value) (acc : List (List UInt8)) : Prop where
  own : ownS w w0.heap.size o acc
  oN : ∀ g, vN.ownBlock = some g → o.ownBlock ≠ some g ∧ g < w.heap.size
  oM : ∀ g, vM.ownBlock = some g → o.ownBlock ≠ some g ∧ g < w.heap.size
  sN : SL w vN N
  sM : SL w vM M
  bel : Below w0.heap.size w0 w
theorem NR.call {w0 w w' : World} {vN vM o : Value} {N M acc : List (List UInt8)} (h : NR w0 w vN N vM M o acc) (hb : Below w.heap.size w w') : NR w0 w' vN N vM M o acc :=
  ⟨h.own.bel hb, fun g hg => ⟨(h.oN g hg).1, Nat.lt_of_lt_of_le (h.oN g hg).2 hb.size⟩, fun g hg => ⟨(h.oM g hg).1, Nat.lt_of_lt_of_le (h.oM g hg).2 hb.size⟩, h.sN.bel hb, h.sM.bel hb, h.bel.trans (hb.mono h.bel.size)⟩
/-- the second list is another one now: one made since -/
theorem NR.next {w0 w w' : World} {vN vM o u : Value} {N M acc U : List (List UInt8)} (h : NR w0 w vN N vM M o acc) (hb : Below w.heap.size w w') (hu : ownS w' w.heap.size u U) : NR w0 w' vN N u U o acc := by
  have h' := h.call hb
  refine ⟨h'.own, h'.oN, fun g hg => ⟨fun e => ?_, (World.ownsRow.lt hu g hg).2⟩, h'.sN, hu.sl, h'.bel⟩
  have h1 := (World.ownsRow.lt h.own g e).2
  have h2 := (World.ownsRow.lt hu g hg).1
  omega
theorem NR.drop {w0 w : World} {vN vM o : Value} {N M acc : List (List UInt8)} (h : NR w0 w vN N vM M o acc) : NR w0 w vN N (.slice none 0 0) [] o acc :=
  ⟨h.own, h.oN, fun g hg => by simp [Value.ownBlock] at hg, h.sN, SL_nil _, h.bel⟩
/-- a block is written (a map's), which none of them is -/
theorem NR.turn {w0 w w' : World} {vN vM o : Value} {N M acc : List (List UInt8)} {m : Nat} (h : NR w0 w vN N vM M o acc) (hg : w.grownBy w' (some m)) (hm : w0.heap.size ≤ m) (ho : o.ownBlock ≠ some m) (hN : vN.ownBlock ≠ some m) (hM : vM.ownBlock ≠ some m) : NR w0 w' vN N vM M o acc := by
  refine ⟨World.ownsRow.kept h.own hg (.inr ho), fun g hq => ⟨(h.oN g hq).1, Nat.lt_of_lt_of_le (h.oN g hq).2 hg.size⟩, fun g hq => ⟨(h.oM g hq).1, Nat.lt_of_lt_of_le (h.oM g hq).2 hg.size⟩, ?_, ?_, h.bel.grown hg h.bel.size (fun k hk => by cases hk; exact hm)⟩
  · exact h.sN.keepG (fun g hq => hg.block g (h.oN g hq).2 (fun e => hN (hq.trans e))) hg.size
  · exact h.sM.keepG (fun g hq => hg.block g (h.oM g hq).2 (fun e => hM (hq.trans e))) hg.size
/-- 'append(o, t)' beside them, and beside the blocks G -/
theorem wpList_appNR {w0 w : World} {ops : Array Oper} {rest : List Oper} {o : Oper} {a : Act} {Q : Exit → Act → World → Prop} (hgd : o.guard = none) (s x : Operand)
    (ho : o.op = .call { callee := .builtin .append, args := #[s, x], argTypes := #[36, 36] })
    (G : Nat → Prop) (v vN vM : Value) (N M l : List (List UInt8)) (t : List UInt8) (hs : a.eval s = v) (h : NR w0 w vN N vM M v l) (hG : ∀ g, G g → v.ownBlock ≠ some g ∧ g < w.heap.size)
    {g : Nat} (hx : a.eval x = .slice (some ⟨g, 0, none⟩) 1 1) (hlen : l.length + 1 ≤ 4294967296)
    (hc : ∀ v' w', Hid (NR w0 w' vN N vM M v' (l ++ [t])) → Hid (∀ k, G k → v'.ownBlock ≠ some k) → Hid (∀ k, G k → w'.heap[k]? = w.heap[k]?) → wpList Tryz.prog ops Q rest (a.put o.dst v') w') (hg : g = w.heap.size := by simp) :
    wpList Tryz.prog ops Q (o :: rest) a (w.alloc (.cells #[.string (bs t)] 9)) := by
  obtain ⟨i0, hi, hz0, hz1, hz2⟩ := info_parts infoS
  subst hg
  have hbase := h.bel.size
  refine wpList_append_lies _ hgd s x 36 ho w0.heap.size 9 i0 (.string ⟨#[]⟩) 1 16 Tryz.underlying36 hi hz0 hz1 hz2 rfl (by decide) v l.length _ hs (h.own.alloc _) ⟨w.heap.size, 0, none⟩ 1 1 [.string (bs t)] hx rfl
    (World.news_of_block (cs := #[.string (bs t)]) (t := 9) (fr := (0, 0)) (heap_alloc_new w _)) ?_ (by omega) ?_ ?_ ?_ (w.heap.size + 1) (by simp) ?_
  · intro v hv; simp at hv; subst hv; rfl
  · unfold maxLen; omega
  · omega
  · simp; omega
  · intro g cap w' h1 h2 hat hlt
    have hz := h2.size
    rw [World.size_alloc] at hz
    have hnew : ∀ k, v.ownBlock ≠ some k → k < w.heap.size → (Value.slice (some ⟨g, 0, none⟩) (l.length + 1) cap).ownBlock ≠ some k := by
      intro k hv hk e
      have hk' : g = k := by simpa [Value.ownBlock] using e
      subst hk'
      rcases hat with h3 | h3
      · exact hv h3
      · omega
    have hsame : ∀ k, v.ownBlock ≠ some k → k < w.heap.size → w'.heap[k]? = w.heap[k]? := by
      intro k hv hk
      rw [h2.block k (by simp; omega) (fun e => hv e.symm)]
      exact Below.heap_alloc _ _ _ hk
    refine hc _ w' ⟨?_, fun k hk => ⟨hnew k (h.oN k hk).1 (h.oN k hk).2, by have := (h.oN k hk).2; omega⟩, fun k hk => ⟨hnew k (h.oM k hk).1 (h.oM k hk).2, by have := (h.oM k hk).2; omega⟩, ?_, ?_, ?_⟩ (fun k hk => hnew k (hG k hk).1 (hG k hk).2) (fun k hk => hsame k (hG k hk).1 (hG k hk).2)
    · have : (l ++ [t]).length = l.length + 1 := by simp
      show ownS _ _ _ _
      unfold ownS
      rw [this]
      simpa [strCs] using h1
    · exact h.sN.keepG (fun k hk => hsame k (h.oN k hk).1 (h.oN k hk).2) (by omega)
    · exact h.sM.keepG (fun k hk => hsame k (h.oM k hk).1 (h.oM k hk).2) (by omega)
    · exact (h.bel.alloc hbase _).grown h2 (by simp; omega) (fun k hk => (World.ownsRow.lt h.own k hk).1)
end Go.Proofs.YtopgeclecpaecaaGreatDoor

/- A set of names in a map's block, beside lists that are read and one that is made. -/
namespace Go.Proofs.YtopgeclecpaecaaGreatDoor
open Go.RowKit

/-- a map's block, beside the lists -/
structure MN (w0 w : World) (m : Nat) (vN vM o : Value) (L : List (List UInt8)) : Prop where
  low : w0.heap.size ≤ m
  oo : o.ownBlock ≠ some m
  nN : vN.ownBlock ≠ some m
  nM : vM.ownBlock ≠ some m
  map : mapAt w m L.length L
theorem MN.call {w0 w w' : World} {m : Nat} {vN vM o : Value} {L : List (List UInt8)} (h : MN w0 w m vN vM o L) (hb : Below w.heap.size w w') : MN w0 w' m vN vM o L := ⟨h.low, h.oo, h.nN, h.nM, h.map.bel hb⟩
theorem MN.next {w0 w w' : World} {m : Nat} {vN vM o u : Value} {L U : List (List UInt8)} (h : MN w0 w m vN vM o L) (hb : Below w.heap.size w w') (hu : ownS w' w.heap.size u U) : MN w0 w' m vN u o L :=
  ⟨h.low, h.oo, h.nN, fun e => by have h1 := (World.ownsRow.lt hu m e).1; have h2 := h.map.lt; omega, h.map.bel hb⟩
theorem MN.drop {w0 w : World} {m : Nat} {vN vM o : Value} {L : List (List UInt8)} (h : MN w0 w m vN vM o L) : MN w0 w m vN (.slice none 0 0) o L := ⟨h.low, h.oo, h.nN, by simp [Value.ownBlock], h.map⟩
theorem mapAt.keepV {w w' : World} {m k : Nat} {L : List (List UInt8)} (h : mapAt w m k L) (hk : w'.heap[m]? = w.heap[m]?) : mapAt w' m k L := by
  obtain ⟨es, clock, h1, h2⟩ := h
  exact ⟨es, clock, hk.trans h1, h2⟩

end Go.Proofs.YtopgeclecpaecaaGreatDoor

/- A slice of texts that the call has made, and all texts of another behind it. -/
namespace Go.Proofs.YtopgeclecpaecaaGreatDoor
open Go.RowKit

theorem app_nothingS (ty : TypeId) (A : Option Addr) (n cap c : Nat) (w : World) (hA : A = none → n = 0 ∧ cap = 0) (hn : n ≤ cap) :
    (Builtin.append_ #[36, 36] ty #[.slice A n cap, .slice none 0 c]).run Tryz.prog w = .ok (.slice A n cap) w := by
  obtain ⟨i0, hi, hz0, hz1, hz2⟩ := info_parts infoS
  cases A with
  | none =>
    obtain ⟨rfl, rfl⟩ := hA rfl
    simp [Builtin.append_, run_underlying Tryz.underlying36, sizeOf, typeInfo, hi, Builtin.lenOf, Builtin.firstCells]
  | some a =>
    simp [Builtin.append_, run_underlying Tryz.underlying36, sizeOf, typeInfo, hi, Builtin.lenOf, Builtin.firstCells, hn, storeCells]
/-- 'append(l, m...)': the texts of the one, those of the other. What lies below the slice's base stands. -/
theorem wpList_appSS {w0 w : World} {ops : Array Oper} {rest : List Oper} {o : Oper} {a : Act} {Q : Exit → Act → World → Prop} (hgd : o.guard = none) (s x : Operand)
    (ho : o.op = .call { callee := .builtin .append, args := #[s, x], argTypes := #[36, 36] })
    (base B : Nat) (v vx : Value) (l m : List (List UInt8)) (hs : a.eval s = v) (hown : ownS w base v l) (hb : Below B w0 w) (hBb : B ≤ base) (hbase : base ≤ w.heap.size)
    (hx : a.eval x = vx) (hm : SL w vx m) (hlen : l.length + m.length ≤ 4294967296)
    (h : ∀ v' w', Hid (ownS w' base v' (l ++ m)) → Hid (Below B w0 w') → Hid (∀ b, b < base → w'.heap[b]? = w.heap[b]?) → Hid (w.heap.size ≤ w'.heap.size) → wpList Tryz.prog ops Q rest (a.put o.dst v') w') :
    wpList Tryz.prog ops Q (o :: rest) a w := by
  obtain ⟨i0, hi, hz0, hz1, hz2⟩ := info_parts infoS
  have key : ∀ (ad : Addr) (c : Nat), vx = .slice (some ad) m.length c → (∀ j u, (strCs m)[j]? = some u → w.cell? (ad.add j) = some u) → wpList Tryz.prog ops Q (o :: rest) a w := by
    intro ad c hv hc
    refine wpList_append_own _ hgd s x 36 ho base 9 i0 (.string ⟨#[]⟩) 1 16 Tryz.underlying36 hi hz0 hz1 hz2 rfl (by decide) v l.length _ hs hown ad m.length c (strCs m) (hx.trans hv) (by simp [strCs]) hc ?_ ?_ ?_ hbase ?_
    · intro v hv; simp [strCs] at hv; obtain ⟨y, _, rfl⟩ := hv; rfl
    · unfold maxLen; omega
    · omega
    · intro v' w' h1 h2 _
      have hge : ∀ k, v.ownBlock = some k → base ≤ k := fun k hk => (World.ownsRow.lt hown k hk).1
      refine h v' w' ?_ ?_ ?_ h2.size
      · show ownS _ _ _ _
        unfold ownS
        rw [List.length_append, show strCs (l ++ m) = strCs l ++ strCs m from by simp [strCs]]
        exact h1
      · exact hb.grown h2 (Nat.le_trans hBb hbase) (fun k hk => Nat.le_trans hBb (hge k hk))
      · intro b hb2
        exact h2.block b (by omega) (fun e => by have := hge b e.symm; omega)
  rcases hm with ⟨rfl, A, c, hv⟩ | ⟨b, off, c, hv, _, hc⟩
  · cases A with
    | some ad => exact key ad c hv (fun j u hu => by simp [strCs] at hu)
    | none =>
      have hform : ∃ A n cap, v = .slice A l.length cap ∧ (A = none → l.length = 0 ∧ cap = 0) ∧ l.length ≤ cap ∧ n = l.length := by
        rcases hown.2 with ⟨rfl, hn⟩ | ⟨g, cap, cur, rfl, _, _, hnc, _⟩
        · exact ⟨none, 0, 0, by rw [hn], fun _ => ⟨hn, rfl⟩, by omega, hn.symm⟩
        · exact ⟨some ⟨g, 0, none⟩, l.length, cap, rfl, (fun e => by cases e), hnc, rfl⟩
      obtain ⟨A, _, cap, rfl, h1, h2, _⟩ := hform
      refine Lib.wpList_append_run _ hgd s x 36 36 ho _ _ hs (hx.trans hv) _ _ (app_nothingS _ A l.length cap c w h1 h2) ?_
      exact h _ _ (by rw [List.append_nil]; exact hown) hb (fun _ _ => rfl) (Nat.le_refl _)
  · refine key ⟨b, off, none⟩ c hv fun j u hu => ?_
    have hj : j < m.length := by have := (List.getElem?_eq_some_iff.1 hu).1; simpa [strCs] using this
    rw [Addr.add_lit, hc j hj]
    simp [strCs, hj] at hu
    rw [hu]
end Go.Proofs.YtopgeclecpaecaaGreatDoor
