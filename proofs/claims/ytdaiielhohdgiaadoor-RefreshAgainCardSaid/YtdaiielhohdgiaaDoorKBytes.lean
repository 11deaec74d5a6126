/- Rows of bytes that a call has made: their cells, a store into them, the text that they are; a text's bytes in a new row. -/
import Derived.Test.YtdaiielhohdgiaaDoorKPlain
import Derived.Test.YtdaiielhohdgiaaDoorChecked
import Derived.WalkKit
import Derived.ProofKit
import Derived.WalkSpells
import Derived.WalkLawsBesides
import Derived.Laws.IdiomStrings
import Derived.Lib.UnsafeStr
import Derived.Lib.BufferMore
import Derived.Lib.Hide
import Derived.Deep.AppendLies
import Derived.Deep.QuietTactic
import Derived.BigQuiet
import Derived.Outline
import Derived.Deep.CutBlock
import Derived.Deep.DeepCutAuto
import Derived.Laws.MakeOwn
import Derived.Lib.BufferWrite
import Derived.Lib.Walk
namespace Go.Proofs.YtdaiielhohdgiaaDoor
open Go.RowKit

theorem infoB : (Tryd.prog.info? 5).map (fun i => (i.zero, i.size, i.bytes)) = some (some (.int .u8 0), 1, 1) := by kernel_rfl

/-- Block b's first n cells are the bytes l; none of them is frozen. -/
def rowB (w : World) (b n : Nat) (l : List UInt8) : Prop :=
  ∃ (C : Array Value) (e : TypeId) (lo hi : Nat), w.heap[b]? = some (.cells C e (lo, hi)) ∧ (n ≤ lo ∨ hi = 0) ∧ l.length = n ∧ C.toList.take n = Lib.byteCells l

theorem rowB.len {w : World} {b n : Nat} {l : List UInt8} (h : rowB w b n l) : l.length = n := by obtain ⟨_, _, _, _, _, _, h, _⟩ := h; exact h
theorem rowB.lt {w : World} {b n : Nat} {l : List UInt8} (h : rowB w b n l) : b < w.heap.size := by
  obtain ⟨_, _, _, _, h, _⟩ := h; exact (Array.getElem?_eq_some_iff.1 h).1
theorem rowB.cell {w : World} {b n : Nat} {l : List UInt8} (h : rowB w b n l) (j : Nat) (hj : j < n) : w.cell? ⟨b, j, none⟩ = some (.int .u8 (l.getD j 0).toNat) := by
  obtain ⟨C, e, lo, hi, hg, _, hl, ht⟩ := h
  rw [World.cell?, hg]
  have h1 : (C.toList.take n)[j]? = C[j]? := by rw [List.getElem?_take, if_pos hj]; simp
  have h2 : j < l.length := by omega
  simp only [Option.isSome_none, Bool.false_eq_true, if_false]
  rw [← h1, ht]
  simp [Lib.byteCells, List.getD, h2]
theorem rowB.free {w : World} {b n : Nat} {l : List UInt8} (h : rowB w b n l) (j : Nat) (hj : j < n) : w.frozen? ⟨b, j, none⟩ = false := by
  obtain ⟨C, e, lo, hi, hg, hf, hl, ht⟩ := h
  rw [World.frozen?, hg]
  simp
  rintro h
  omega
theorem rowB.set {w : World} {b n : Nat} {l : List UInt8} (h : rowB w b n l) (j : Nat) (c : UInt8) : rowB (w.setCell ⟨b, j, none⟩ (.int .u8 c.toNat)) b n (l.set j c) := by
  obtain ⟨C, e, lo, hi, hg, hf, hl, ht⟩ := h
  refine ⟨C.setIfInBounds j (.int .u8 c.toNat), e, lo, hi, Lib.heap_setCell_same hg _, hf, by simpa using hl, ?_⟩
  simp only [Array.toList_setIfInBounds, Lib.byteCells, List.map_set]
  rw [List.take_set, ht]; rfl
theorem rowB.of_block {w w' : World} {b n : Nat} {l : List UInt8} (h : rowB w b n l) (hb : w'.heap[b]? = w.heap[b]?) : rowB w' b n l := by
  obtain ⟨C, e, lo, hi, hg, r⟩ := h
  exact ⟨C, e, lo, hi, hb.trans hg, r⟩
theorem rowB.drew {w : World} {b n : Nat} {l : List UInt8} (h : rowB w b n l) : rowB w.drew b n l := h.of_block rfl
theorem rowB.alloc {w : World} {b n : Nat} {l : List UInt8} (h : rowB w b n l) (o : Obj) : rowB (w.alloc o) b n l := h.of_block (Below.heap_alloc _ _ _ h.lt)
theorem rowB.setOther {w : World} {b n : Nat} {l : List UInt8} (h : rowB w b n l) {a : Addr} (ha : b ≠ a.block) (v : Value) : rowB (w.setCell a v) b n l := h.of_block (Below.heap_setCell _ _ _ _ ha)
theorem rowB.below {B : Nat} {w w' : World} {b n : Nat} {l : List UInt8} (h : rowB w b n l) (hb : Below B w w') (hB : b < B) : rowB w' b n l := h.of_block (hb.block b hB)

/-- 'string(b)' over such a row. -/
theorem rowB.back {w : World} {b n : Nat} {l : List UInt8} (h : rowB w b n l) (cap : Nat) :
    (convert 49 9 (.slice (some ⟨b, 0, none⟩) n cap)).run Tryd.prog w = .ok (.string (bs l)) w := by
  have hr := run_convert_bytes_back (P := Tryd.prog) w 49 9 5 ⟨b, 0, none⟩ cap l Tryd.underlying49 Tryd.underlying5 Tryd.underlying9 (fun j hj => by
    have := h.cell j (by rw [← h.len]; exact hj)
    rw [show (⟨b, 0, none⟩ : Addr).add j = ⟨b, j, none⟩ from by unfold Addr.add; split <;> simp_all, this]
    simp [List.getD, hj])
  rw [h.len] at hr
  exact hr

/-- '[]byte(s)': a new row of s's bytes. -/
theorem bytes_of (s : ByteArray) (w : World) :
    ∃ (cap : Nat) (C : Array Value), (convert 9 49 (.string s)).run Tryd.prog w = .ok (.slice (some ⟨w.heap.size, 0, none⟩) s.size cap) (w.drew.alloc (.cells C 5 (C.size, C.size + 1))) ∧
      s.size ≤ cap ∧ rowB (w.alloc (.cells C 5 (C.size, C.size + 1))) w.heap.size s.size s.data.toList := by
  refine ⟨_, _, run_bytes_of_string (P := Tryd.prog) w 9 49 5 s Tryd.underlying9 Tryd.underlying49 Tryd.underlying5, grownCap_ge _ _ _ _, ?_⟩
  refine ⟨_, _, _, _, heap_alloc_new w _, .inl ?_, rfl, ?_⟩
  · unfold bytesRow; simp
  · unfold bytesRow
    rw [Array.toList_append, List.take_append_of_le_length (by simp), List.take_of_length_le (by simp)]
    simp [Lib.byteCells]

/-- A slice of the call's own that holds the bytes l. -/
def ownB (w : World) (base : Nat) (v : Value) (l : List UInt8) : Prop := w.ownsRow base 5 1 v l.length (Lib.byteCells l)
theorem ownB_nil (w : World) (base : Nat) : ownB w base (.slice none 0 0) [] := World.ownsRow_nil _ _ _ _
theorem ownB.alloc {w : World} {base : Nat} {v : Value} {l : List UInt8} (h : ownB w base v l) (o : Obj) : ownB (w.alloc o) base v l := World.ownsRow.alloc h o
theorem ownB.drew {w : World} {base : Nat} {v : Value} {l : List UInt8} (h : ownB w base v l) : ownB w.drew base v l := World.ownsRow.drew h
theorem ownB.ge {w : World} {base : Nat} {v : Value} {l : List UInt8} (h : ownB w base v l) : ∀ k, v.ownBlock = some k → base ≤ k := fun k hk => (World.ownsRow.lt h k hk).1
/-- A store below the slice's base. -/
theorem ownB.setLow {w : World} {base : Nat} {v : Value} {l : List UInt8} (h : ownB w base v l) {a : Addr} (ha : a.block < base) (u : Value) : ownB (w.setCell a u) base v l := ownsRow_setCell_below h ha u
/-- 'string(b)' over such a slice. -/
theorem ownB.back {w : World} {base : Nat} {v : Value} {l : List UInt8} (h : ownB w base v l) :
    (convert 49 9 v).run Tryd.prog w = .ok (.string (bs l)) w := by
  obtain ⟨hx, h⟩ := h
  rcases h with ⟨rfl, hn⟩ | ⟨g, cap, cur, rfl, hb, hg, hnc, hcm, hcs, ht⟩
  · have : l = [] := List.eq_nil_of_length_eq_zero hn
    subst this
    rw [run_convert_bytes_string w 49 9 5 none 0 0 Tryd.underlying49 Tryd.underlying5 Tryd.underlying9]
    rfl
  · exact rowB.back ⟨cur, _, 0, 0, hg, .inr rfl, rfl, by simpa using ht⟩ cap
/-- 'append(b, c)': the bytes, and c. (The new byte lies in a block of its own, laid just ahead.) What lies below the slice's base stands. -/
theorem wpList_appB {w0 w : World} {ops : Array Oper} {rest : List Oper} {o : Oper} {a : Act} {Q : Exit → Act → World → Prop} (hgd : o.guard = none) (s x : Operand)
    (ho : o.op = .call { callee := .builtin .append, args := #[s, x], argTypes := #[49, 49] })
    (base B : Nat) (v : Value) (l : List UInt8) (c : Int) (u : UInt8) (hs : a.eval s = v) (hown : ownB w base v l) (hb : Below B w0 w) (hBb : B ≤ base) (hbase : base ≤ w.heap.size) (hu : c = (u.toNat : Int))
    {g : Nat} (hx : a.eval x = .slice (some ⟨g, 0, none⟩) 1 1) (hlen : l.length + 1 ≤ 140737488355328)
    (h : ∀ v' w', Hid (ownB w' base v' (l ++ [u])) → Hid (Below B w0 w') → Hid (∀ b, b < base → w'.heap[b]? = w.heap[b]?) → wpList Tryd.prog ops Q rest (a.put o.dst v') w') (hg : g = w.heap.size := by simp) :
    wpList Tryd.prog ops Q (o :: rest) a (w.alloc (.cells #[.int .u8 c] 5)) := by
  obtain ⟨i0, hi, hz0, hz1, hz2⟩ := info_parts infoB
  subst hu hg
  refine wpList_append_own _ hgd s x 49 ho base 5 i0 (.int .u8 0) 1 1 Tryd.underlying49 hi hz0 hz1 hz2 rfl (by decide) v l.length _ hs (hown.alloc _) ⟨w.heap.size, 0, none⟩ 1 1 [.int .u8 u.toNat] hx rfl ?_ ?_ ?_ ?_ ?_ ?_
  · intro j v hj
    match j, hj with
    | 0, hj => simp at hj; subst hj; simp [Addr.add]
  · intro v hv; simp at hv; subst hv; rfl
  · unfold maxLen; omega
  · omega
  · simp; omega
  · intro v' w' h1 h2 _
    refine h v' w' ?_ ?_ ?_
    · have : (l ++ [u]).length = l.length + 1 := by simp
      show ownB _ _ _ _
      unfold ownB
      rw [this, Lib.byteCells_append]
      exact h1
    · exact (hb.alloc (by omega) _).grown h2 (by simp; omega) (fun k hk => Nat.le_trans hBb (hown.ge k hk))
    · intro b hb
      rw [h2.block b (by simp; omega) (fun e => by have := hown.ge b e.symm; omega)]
      exact Below.heap_alloc _ _ _ (by omega)

/-- A slice literal of one byte. -/
theorem ownB_lit (w : World) (base : Nat) (c : Int) (u : UInt8) (hu : c = (u.toNat : Int)) (hb : base ≤ w.heap.size) : ownB (w.alloc (.cells #[.int .u8 c] 5)) base (.slice (some ⟨w.heap.size, 0, none⟩) 1 1) [u] := by
  subst hu
  exact World.ownsRow_lit w #[.int .u8 u.toNat] 1 hb (by unfold maxLen; omega) rfl
end Go.Proofs.YtdaiielhohdgiaaDoor

/- Slices of texts that a call has made. -/
namespace Go.Proofs.YtdaiielhohdgiaaDoor
open Go.RowKit
theorem infoS : (Tryd.prog.info? 9).map (fun i => (i.zero, i.size, i.bytes)) = some (some (.string ⟨#[]⟩), 1, 16) := by kernel_rfl
def strCs (l : List (List UInt8)) : List Value := l.map fun x => Value.string (bs x)
def ownS (w : World) (base : Nat) (v : Value) (l : List (List UInt8)) : Prop := w.ownsRow base 9 1 v l.length (strCs l)
theorem ownS_nil (w : World) (base : Nat) : ownS w base (.slice none 0 0) [] := World.ownsRow_nil _ _ _ _
theorem ownS.alloc {w : World} {base : Nat} {v : Value} {l : List (List UInt8)} (h : ownS w base v l) (o : Obj) : ownS (w.alloc o) base v l := World.ownsRow.alloc h o
theorem ownS.drew {w : World} {base : Nat} {v : Value} {l : List (List UInt8)} (h : ownS w base v l) : ownS w.drew base v l := World.ownsRow.drew h
theorem ownS.setLow {w : World} {base : Nat} {v : Value} {l : List (List UInt8)} (h : ownS w base v l) {a : Addr} (ha : a.block < base) (u : Value) : ownS (w.setCell a u) base v l := ownsRow_setCell_below h ha u
theorem ownS.below {B : Nat} {w w' : World} {base : Nat} {v : Value} {l : List (List UInt8)} (h : ownS w base v l) (hb : Below B w w') (hB : w.heap.size ≤ B) : ownS w' base v l := by
  refine ⟨h.1, ?_⟩
  rcases h.2 with hn | ⟨g, cap, cur, hv, hbg, hg, r⟩
  · exact .inl hn
  · exact .inr ⟨g, cap, cur, hv, hbg, by rw [hb.block g (Nat.lt_of_lt_of_le (Array.getElem?_eq_some_iff.1 hg).1 hB)]; exact hg, r⟩
theorem ownS.mono {w : World} {base base' : Nat} {v : Value} {l : List (List UInt8)} (h : ownS w base v l) (hb : base' ≤ base) : ownS w base' v l := by
  refine ⟨h.1, ?_⟩
  rcases h.2 with hn | ⟨g, cap, cur, hv, hbg, r⟩
  · exact .inl hn
  · exact .inr ⟨g, cap, cur, hv, by omega, r⟩
theorem ownS.form {w : World} {base : Nat} {v : Value} {l : List (List UInt8)} (h : ownS w base v l) : ∃ a c, v = .slice a l.length c := by
  rcases h.2 with ⟨rfl, hn⟩ | ⟨g, cap, cur, rfl, _⟩
  · exact ⟨none, 0, by rw [hn]⟩
  · exact ⟨_, _, rfl⟩
theorem ownS.cell {w : World} {base : Nat} {a : Option Addr} {n c : Nat} {l : List (List UInt8)} (h : ownS w base (.slice a n c) l) (j : Nat) (hj : j < l.length) :
    ∃ g, a = some ⟨g, 0, none⟩ ∧ w.cell? ⟨g, j, none⟩ = some (.string (bs (l.getD j []))) := by
  rcases h.2 with ⟨_, hn⟩ | ⟨g, cap, cur, hv, _⟩
  · omega
  · simp only [Value.slice.injEq] at hv
    obtain ⟨rfl, _, _⟩ := hv
    refine ⟨g, rfl, ?_⟩
    have h1 := World.ownsRow.cells h (g := g) rfl j (.string (bs (l.getD j []))) (by simp [strCs, hj])
    rw [show (⟨g, 0, none⟩ : Addr).add j = ⟨g, j, none⟩ from by unfold Addr.add; split <;> simp_all] at h1
    exact h1
/-- 'append(l, x)': the texts, and x. (The new text lies in a block of its own, laid just ahead.) What lies below the slice's base stands. -/
theorem wpList_appS {w0 w : World} {ops : Array Oper} {rest : List Oper} {o : Oper} {a : Act} {Q : Exit → Act → World → Prop} (hgd : o.guard = none) (s x : Operand)
    (ho : o.op = .call { callee := .builtin .append, args := #[s, x], argTypes := #[33, 33] })
    (base B : Nat) (v : Value) (l : List (List UInt8)) (t : List UInt8) (hs : a.eval s = v) (hown : ownS w base v l) (hb : Below B w0 w) (hBb : B ≤ base) (hbase : base ≤ w.heap.size)
    {g : Nat} (hx : a.eval x = .slice (some ⟨g, 0, none⟩) 1 1) (hlen : l.length + 1 ≤ 4294967296)
    (h : ∀ v' w', Hid (ownS w' base v' (l ++ [t])) → Hid (Below B w0 w') → Hid (∀ b, b < base → w'.heap[b]? = w.heap[b]?) → wpList Tryd.prog ops Q rest (a.put o.dst v') w') (hg : g = w.heap.size := by simp) :
    wpList Tryd.prog ops Q (o :: rest) a (w.alloc (.cells #[.string (bs t)] 9)) := by
  obtain ⟨i0, hi, hz0, hz1, hz2⟩ := info_parts infoS
  subst hg
  refine wpList_append_own _ hgd s x 33 ho base 9 i0 (.string ⟨#[]⟩) 1 16 Tryd.underlying33 hi hz0 hz1 hz2 rfl (by decide) v l.length _ hs (hown.alloc _) ⟨w.heap.size, 0, none⟩ 1 1 [.string (bs t)] hx rfl ?_ ?_ ?_ ?_ ?_ ?_
  · intro j v hj
    match j, hj with
    | 0, hj => simp at hj; subst hj; simp [Addr.add]
  · intro v hv; simp at hv; subst hv; rfl
  · unfold maxLen; omega
  · omega
  · simp; omega
  · intro v' w' h1 h2 _
    have hge : ∀ k, v.ownBlock = some k → base ≤ k := fun k hk => (World.ownsRow.lt hown k hk).1
    refine h v' w' ?_ ?_ ?_
    · have : (l ++ [t]).length = l.length + 1 := by simp
      show ownS _ _ _ _
      unfold ownS
      rw [this]
      simpa [strCs] using h1
    · exact (hb.alloc (by omega) _).grown h2 (by simp; omega) (fun k hk => Nat.le_trans hBb (hge k hk))
    · intro b hb
      rw [h2.block b (by simp; omega) (fun e => by have := hge b e.symm; omega)]
      exact Below.heap_alloc _ _ _ (by omega)
end Go.Proofs.YtdaiielhohdgiaaDoor

/- The text layer's functions on single bytes and whole texts, and the document's own: what each of them answers. -/
namespace Go.Proofs.YtdaiielhohdgiaaDoor
open Go.RowKit

set_option maxHeartbeats 400000 in
theorem tokenByte_any (n : Int) (w : World) :
    Calls Tryd.prog 77 #[.int .u8 n] w fun e w' => e = .returned (.bool (tokI n)) ∧ w = w' := by
  go_enter Tryd.func77, Tryd.ntmps77
  go_wp2
  all_goals go_ret
  all_goals refine ⟨ret_bool ?_, rfl⟩
  all_goals simp only [beq_eq_false_iff_ne, beq_iff_eq, ne_eq] at *
  all_goals unfold tokI
  all_goals rw [Bool.eq_iff_iff]
  all_goals simp
  all_goals omega

set_option maxHeartbeats 400000 in
theorem token_any (s : ByteArray) (w : World) (hs : s.size ≤ maxLen) :
    Calls Tryd.prog 65 #[.string s] w fun e w' => e = .returned (.bool (token s.data.toList)) ∧ w = w' := by
  unfold maxLen at hs
  go_enter Tryd.func65, Tryd.ntmps65
  go_wp2_with fail
  go_loop [6] (fun i => ∃ k : Nat, k ≤ s.size ∧ i = .int .i64 k ∧ (s.data.toList.take k).all tokB = true) (fun i => s.size - (intOf i).toNat)
  case atStart => exact ⟨0, Nat.zero_le _, rfl, rfl⟩
  case round =>
    obtain ⟨k, hk, rfl, ht⟩ := hrel
    have HT := Lib.hid ht; clear ht
    by_cases hlt : k < s.size
    · cases hb : tokB s[k]
      · have hb' : tokI (s[k].toNat : Int) = false := hb
        have HA := Lib.hid (all_not s tokB k hlt hb)
        clear hb
        go_wp2_with (go_at_call 77; refine (tokenByte_any _ _).mono ?_; rintro e w' ⟨rfl, rfl⟩)
        go_ret
        exact ⟨ret_bool (by unfold token; rw [HA.out]; simp), rfl⟩
      · have hb' : tokI (s[k].toNat : Int) = true := hb
        have HA := Lib.hid (all_snoc s tokB k hlt HT.out hb)
        clear hb
        go_wp2_with (go_at_call 77; refine (tokenByte_any _ _).mono ?_; rintro e w' ⟨rfl, rfl⟩)
        go_round
        case rel => exact ⟨k + 1, by omega, by go_num, HA.out⟩
        case measure => simp [intOf]; omega
    · go_wp2_with fail
      go_ret
      exact ⟨ret_bool (by have h := HT.out; rw [take_all hlt] at h; unfold token; rw [h, Lib.toList_data]; simp), rfl⟩



end Go.Proofs.YtdaiielhohdgiaaDoor

/- Small letters, texts that are the same, texts without blanks at their ends: the text layer's functions and the document's own. -/
namespace Go.Proofs.YtdaiielhohdgiaaDoor
open Go.RowKit

theorem low_step {wr : World} {b : Nat} {s : ByteArray} {k : Nat} (hlt : k < s.size) (h1 : 65 ≤ (s[k].toNat : Int)) (h2 : (s[k].toNat : Int) ≤ 90)
    (h : rowB wr b s.size (lower (s.data.toList.take k) ++ s.data.toList.drop k)) :
    rowB (wr.setCell ⟨b, k, none⟩ (.int .u8 ((s[k].toNat : Int) + 32))) b s.size (lower (s.data.toList.take (k + 1)) ++ s.data.toList.drop (k + 1)) := by
  have h3 := h.set k (lowB s[k])
  rw [low_set hlt, low_up h1 h2] at h3
  exact h3
theorem low_stay {wr : World} {b : Nat} {s : ByteArray} {k : Nat} (hlt : k < s.size) (h1 : ¬ (65 ≤ (s[k].toNat : Int) ∧ (s[k].toNat : Int) ≤ 90))
    (h : rowB wr b s.size (lower (s.data.toList.take k) ++ s.data.toList.drop k)) :
    rowB wr b s.size (lower (s.data.toList.take (k + 1)) ++ s.data.toList.drop (k + 1)) := by
  rw [← low_set hlt, low_same h1, ← low_mid hlt, List.getD_eq_getElem?_getD]
  have h2 : k < (lower (s.data.toList.take k) ++ s.data.toList.drop k).length := by rw [h.len]; exact hlt
  rw [List.getElem?_eq_getElem h2, Option.getD_some, List.set_getElem_self]
  exact h
set_option maxHeartbeats 800000 in
set_option maxRecDepth 100000 in
theorem lower_any (s : ByteArray) (w : World) (hs : s.size ≤ maxLen) :
    Calls Tryd.prog 38 #[.string s] w fun e w' => e = .returned (.string (bs (lower s.data.toList))) ∧ Below w.heap.size w w' := by
  unfold maxLen at hs
  obtain ⟨cap, C, hconv, hcap, hrow⟩ := bytes_of s w
  have HR := Lib.hid hrow; clear hrow
  have HC := Lib.hid hcap; clear hcap
  go_enter Tryd.func38, Tryd.ntmps38
  go_wp2_with fail
  go_loopw [9] (fun i wr => ∃ k : Nat, k ≤ s.size ∧ i = .int .i64 k ∧ rowB wr w.heap.size s.size (lower (s.data.toList.take k) ++ s.data.toList.drop k) ∧ Below w.heap.size w wr) (fun i _ => s.size - (intOf i).toNat)
  case atStart => exact ⟨0, Nat.zero_le _, rfl, HR.out.drew, ((Below.refl _ _).alloc (Nat.le_refl _) _).drew⟩
  case round =>
    obtain ⟨k, hk, rfl, hrow, hbel⟩ := hrel
    by_cases hlt : k < s.size
    · have hc := hrow.cell k hlt
      have hf := hrow.free k hlt
      rw [low_mid hlt] at hc
      have HR := Lib.hid hrow; clear hrow
      have HB := Lib.hid hbel; clear hbel
      by_cases hA : 65 ≤ (s[k].toNat : Int) ∧ (s[k].toNat : Int) ≤ 90
      · obtain ⟨h1, h2⟩ := hA
        have HS := Lib.hid (low_step hlt h1 h2 HR.out)
        go_wp2_with fail
        go_roundw
        case rel => exact ⟨k + 1, by omega, by go_num, HS.out, HB.out.setCell (Nat.le_refl _) _⟩
        case measure => simp [intOf]; omega
      · have HS := Lib.hid (low_stay hlt hA HR.out)
        go_wp2_with fail
        all_goals
          go_roundw
          case rel => exact ⟨k + 1, by omega, by go_num, HS.out, HB.out⟩
          case measure => simp [intOf]; omega
    · have HB := Lib.hid hbel; clear hbel
      have hback := hrow.back cap
      rw [take_all hlt, List.drop_of_length_le (by have := size_len s; omega), List.append_nil] at hback
      clear hrow
      go_wp2_with fail
      go_ret
      exact ⟨rfl, HB.out⟩

set_option maxHeartbeats 800000 in
theorem rlower_any (s : ByteArray) (w : World) (hs : s.size ≤ 140737488351232) :
    Calls Tryd.prog 13 #[.string s] w fun e w' => e = .returned (.string (bs (lower s.data.toList))) ∧ Below w.heap.size w w' := by
  go_enter Tryd.func13, Tryd.ntmps13
  go_wp2_with fail
  go_loopw [3, 4] (fun v i wr => ∃ k : Nat, k ≤ s.size ∧ i = .int .i64 k ∧ ownB wr w.heap.size v (lower (s.data.toList.take k)) ∧ Below w.heap.size w wr) (fun _ i _ => s.size - (intOf i).toNat)
  case atStart => exact ⟨0, Nat.zero_le _, rfl, ownB_nil _ _, Below.refl _ _⟩
  case round =>
    obtain ⟨k, hk, rfl, hown, hbel⟩ := hrel
    have HO := Lib.hid hown; clear hown
    have HB := Lib.hid hbel; clear hbel
    by_cases hlt : k < s.size
    · have HL : Hid (∀ c : UInt8, (lower (s.data.toList.take k)).length + 1 ≤ 140737488355328) := fun _ => by simp [lower]; omega
      have HS : Hid (lower (s.data.toList.take k) ++ [lowB s[k]] = lower (s.data.toList.take (k + 1))) := by show _ = _; rw [take_snoc s k hlt]; simp [lower]
      by_cases hA : 65 ≤ (s[k].toNat : Int) ∧ (s[k].toNat : Int) ≤ 90
      · have h3 := low_up hA.1 hA.2
        obtain ⟨h1, h2⟩ := hA
        have h4 := Lib.hid h3; clear h3
        go_wp2_with (at_builtin; refine wpList_appB rfl (.tmp 23) (.tmp 25) rfl w.heap.size w.heap.size _ _ _ (lowB s[k]) rfl HO.out HB.out (Nat.le_refl _) HB.out.size h4.out.symm rfl (HL.out 0) ?_; intro v' w' HO' HB' _)
        go_roundw
        case rel => exact ⟨k + 1, by omega, by go_num, by rw [← HS.out]; exact HO'.out, HB'.out⟩
        case measure => simp [intOf]; omega
      · have h3 := low_same hA
        have h4 := Lib.hid h3; clear h3
        go_wp2_with (at_builtin; refine wpList_appB rfl (.tmp 23) (.tmp 25) rfl w.heap.size w.heap.size _ _ _ s[k] rfl HO.out HB.out (Nat.le_refl _) HB.out.size rfl rfl (HL.out 0) ?_; intro v' w' HO' HB' _)
        all_goals
          go_roundw
          case rel => exact ⟨k + 1, by omega, by go_num, by rw [← HS.out, h4.out]; exact HO'.out, HB'.out⟩
          case measure => simp [intOf]; omega
    · have hback := HO.out.back
      rw [take_all hlt] at hback
      go_wp2_with fail
      go_ret
      exact ⟨rfl, HB.out⟩



set_option maxHeartbeats 400000 in
theorem blank_any (n : Int) (w : World) :
    Calls Tryd.prog 94 #[.int .u8 n] w fun e w' => e = .returned (.bool (blankI n)) ∧ w = w' := by
  go_enter Tryd.func94, Tryd.ntmps94
  go_wp2
  all_goals go_ret
  all_goals refine ⟨ret_bool ?_, rfl⟩
  all_goals rw [Bool.eq_iff_iff]
  all_goals simp_all [blankI]

set_option maxHeartbeats 400000 in
theorem trimmed_any (s : ByteArray) (w : World) (hs : s.size ≤ maxLen) :
    Calls Tryd.prog 86 #[.string s] w fun e w' => e = .returned (.string (bs (trim s.data.toList))) ∧ w = w' := by
  unfold maxLen at hs
  go_enter Tryd.func86, Tryd.ntmps86
  go_upto_block 0 with fail
  go_cut [0] (fun v wx => ∃ t : ByteArray, v = .string t ∧ t.size ≤ s.size ∧ t.data.toList = ltrim s.data.toList ∧ wx = w)
  case first =>
    go_wp2_with fail
    go_loop [0] (fun v => ∃ t : ByteArray, v = .string t ∧ t.size ≤ s.size ∧ ltrim t.data.toList = ltrim s.data.toList) (fun v => match v with | .string t => t.size | _ => 0)
    case atStart => exact ⟨s, rfl, Nat.le_refl _, rfl⟩
    case round =>
      obtain ⟨t, rfl, ht, hl⟩ := hrel
      have HL := Lib.hid hl; clear hl
      rcases ltrim_cases t with ⟨h0, hb, hst⟩ | ⟨h0, hb, hst⟩ | ⟨h0, hst⟩
      · have hne : t.toList.isEmpty = false := by rw [Lib.toList_data, cons_of h0]; rfl
        have HS := Lib.hid hst; clear hst
        go_wp2_with (go_at_call 94; refine (blank_any _ _).mono ?_; rintro e w' ⟨rfl, rfl⟩)
        go_round
        case rel => exact ⟨_, rfl, by simp; omega, by rw [Lib.extract_to_end, HS.out, HL.out]⟩
        case measure => simp; omega
      · have hne : t.toList.isEmpty = false := by rw [Lib.toList_data, cons_of h0]; rfl
        have HS := Lib.hid hst; clear hst
        go_wp2_with (go_at_call 94; refine (blank_any _ _).mono ?_; rintro e w' ⟨rfl, rfl⟩)
        go_meet
        exact ⟨t, rfl, ht, by rw [← HS.out, HL.out], rfl⟩
      · have hne : t.toList.isEmpty = true := by rw [Lib.toList_data, nil_of h0]; rfl
        have HS := Lib.hid hst; clear hst
        go_wp2_with fail
        go_meet
        exact ⟨t, rfl, ht, by rw [← HS.out, HL.out], rfl⟩
  case rest =>
    obtain ⟨t, rfl, ht, htl, rfl⟩ := hcut
    have HT := Lib.hid htl; clear htl
    go_wp2_with fail
    go_loop [0] (fun v => ∃ u : ByteArray, v = .string u ∧ u.size ≤ s.size ∧ rtrim u.data.toList = rtrim t.data.toList) (fun v => match v with | .string t => t.size | _ => 0)
    case atStart => exact ⟨t, rfl, ht, rfl⟩
    case round =>
      obtain ⟨u, rfl, hu, hl⟩ := hrel
      have HL := Lib.hid hl; clear hl
      rcases rtrim_cases u with ⟨h0, hb, hst⟩ | ⟨h0, hb, hst⟩ | ⟨h0, hst⟩
      · have hne : u.toList.isEmpty = false := by rw [Lib.toList_data, cons_of h0]; rfl
        have HS := Lib.hid hst; clear hst
        go_wp2_with (go_at_call 94; refine (blank_any _ _).mono ?_; rintro e w' ⟨rfl, rfl⟩)
        go_round
        case rel => exact ⟨_, rfl, by simp; omega, by rw [Lib.extract_from_zero, HS.out, HL.out]⟩
        case measure => simp; omega
      · have hne : u.toList.isEmpty = false := by rw [Lib.toList_data, cons_of h0]; rfl
        have HS := Lib.hid hst; clear hst
        go_wp2_with (go_at_call 94; refine (blank_any _ _).mono ?_; rintro e w' ⟨rfl, rfl⟩)
        go_ret
        exact ⟨ret_str (bs_of (by rw [← HS.out, HL.out, HT.out]; rfl)), rfl⟩
      · have hne : u.toList.isEmpty = true := by rw [Lib.toList_data, nil_of h0]; rfl
        have HS := Lib.hid hst; clear hst
        go_wp2_with fail
        go_ret
        exact ⟨ret_str (bs_of (by rw [← HS.out, HL.out, HT.out]; rfl)), rfl⟩

set_option maxHeartbeats 1000000 in
set_option maxRecDepth 100000 in
/-- 'strings.Clone' beneath: the same bytes; a new row, frozen, where the text is not empty. -/
theorem sclone_any (s : ByteArray) (w : World) (hlim : s.size ≤ 281474976710656) :
    Calls Tryd.prog 36 #[.string s] w fun e w' => e = .returned (.string s) ∧ Below w.heap.size w w' := by
  by_cases h0 : s.size = 0
  · have hs : s = ⟨#[]⟩ := by
      apply ByteArray.ext
      exact Array.eq_empty_of_size_eq_zero h0
    subst hs
    go_enter Tryd.func36, Tryd.ntmps36
    go_wp2
    go_ret
    exact ⟨rfl, Below.refl _ _⟩
  · obtain ⟨i0, hi, hz0, hz1, hz2⟩ := info_parts infoB
    have hinfo : (Tryd.prog.info? 5).map (·.size) = some 1 := by rw [hi]; simp [hz1]
    have hco : Tryd.prog.cellsOf 5 = 1 := by simp [Program.cellsOf, hi, hz1]
    obtain ⟨M, hM⟩ : ∃ M, M = madeCells (Value.int .u8 0).cells (((s.size : Nat) : Int).toNat * i0.size) := ⟨_, rfl⟩
    have hMs : M.size = s.size := by rw [hM, size_madeCells, hz1]; simp
    have hmk : ∀ W : World, (Instr.makeSlice 49 (.int .i64 (s.size : Int)) (.int .i64 (s.size : Int))).run Tryd.prog W = .ok (.slice (some ⟨W.heap.size, 0, none⟩) s.size s.size) (W.alloc (.cells M 5)) := fun W => by
      have h := run_make (P := Tryd.prog) W 49 5 i0 (.int .u8 0) Tryd.underlying49 hi hz0 .i64 .i64 (s.size : Int) (s.size : Int) (by omega) (by omega) (by rw [hz2]; omega) (by omega)
      rw [← hM] at h
      simpa using h
    clear hM
    have hcp := Lib.run_copy_row_string (P := Tryd.prog) (w.alloc (.cells M 5)) 49 9 3 5 w.heap.size 0 s.size s.size s M 5 Tryd.underlying49 hinfo (heap_alloc_new w _) (Nat.le_refl _) (by omega)
    obtain ⟨Y, hY⟩ : ∃ Y, Y = (M.toList.take 0 ++ Lib.byteCells s.data.toList ++ M.toList.drop (0 + s.size)).toArray := ⟨_, rfl⟩
    rw [← hY] at hcp
    have hYl : Y.toList = Lib.byteCells s.data.toList := by
      rw [hY, List.toList_toArray, List.take_zero, List.nil_append, List.drop_of_length_le (by rw [Array.length_toList]; omega), List.append_nil]
    have hYs : Y.size = s.size := by rw [← Array.length_toList, hYl, Lib.byteCells_length, ← Lib.size_eq]
    have hgY : ((w.alloc (.cells M 5)).setRow w.heap.size Y).heap[w.heap.size]? = some (.cells Y 5 (0, 0)) := setRow_heap _ _ M _ 5 (0, 0) (heap_alloc_new w _)
    have hne : s.data.toList ≠ [] := fun e => h0 (by rw [Lib.size_eq, e]; rfl)
    have hUS := Lib.run_unsafeString_row (P := Tryd.prog) ((w.alloc (.cells M 5)).setRow w.heap.size Y) 85 3 9 5 Tryd.underlying85 hco w.heap.size Y.size (by unfold World.shape?; rw [hgY]) s.data.toList hne (by rw [← Lib.size_eq]; omega) (by rw [← Lib.size_eq]; omega)
      (fun j x hx => Lib.cells_of_row hgY Y.size j _ (by rw [List.take_of_length_le (by rw [Array.length_toList]; exact Nat.le_refl _), hYl]; simp [Lib.byteCells, hx]))
    rw [← Lib.size_eq] at hUS
    clear hY
    go_enter Tryd.func36, Tryd.ntmps36
    go_wp2
    go_ret
    have hb1 : Below w.heap.size w (w.alloc (.cells M 5)) := (Below.refl _ w).alloc (Nat.le_refl _) _
    have hb2 : Below w.heap.size (w.alloc (.cells M 5)) ((w.alloc (.cells M 5)).setRow w.heap.size Y) := ⟨rfl, rfl, rfl, by simp, fun k hk => setRow_other _ _ _ _ (by omega)⟩
    exact ⟨rfl, Lib.below_freeze (hb1.trans hb2) (p := ⟨w.heap.size, 0, none⟩) (Nat.le_refl _) _⟩

set_option maxHeartbeats 400000 in
theorem clone_any (s : ByteArray) (w : World) (hlim : s.size ≤ 281474976710656) :
    Calls Tryd.prog 19 #[.string s] w fun e w' => e = .returned (.string s) ∧ Below w.heap.size w w' := by
  go_enter Tryd.func19, Tryd.ntmps19
  go_wp2_with (go_at_call 36; refine (sclone_any _ _ hlim).mono ?_; rintro e w' ⟨rfl, hb⟩)
  go_ret
  exact ⟨rfl, hb⟩

set_option maxHeartbeats 400000 in
theorem trim_any (s : ByteArray) (w : World) (hlim : s.size ≤ 281474976710656) :
    Calls Tryd.prog 78 #[.string s] w fun e w' => e = .returned (.string (bs (trim s.data.toList))) ∧ Below w.heap.size w w' := by
  have hl : (bs (trim s.data.toList)).size ≤ 281474976710656 := by rw [bs_size]; have := trim_le s.data.toList; rw [← size_len] at this; omega
  go_enter Tryd.func78, Tryd.ntmps78
  go_wp2_with (first | (go_at_call 86; refine (trimmed_any _ _ (by unfold maxLen; omega)).mono ?_; rintro e w' ⟨rfl, rfl⟩) | (go_at_call 19; refine (clone_any _ _ hl).mono ?_; rintro e w' ⟨rfl, hb⟩))
  go_ret
  exact ⟨rfl, hb⟩
end Go.Proofs.YtdaiielhohdgiaaDoor

/- Blanks at both ends by the document; what may stand in a quoted text; texts in quotes. -/
namespace Go.Proofs.YtdaiielhohdgiaaDoor
open Go.RowKit



end Go.Proofs.YtdaiielhohdgiaaDoor
