/- Rows of bytes that a call has made: their cells, a store into them, the text that they are; a text's bytes in a new row. -/
import Derived.Test.YtfjdfdobeiblhaaChecked
import Derived.Test.YtfjdfdobeiblhaaText0
import Derived.WalkKit
import Derived.ProofKit
import Derived.WalkSpells
import Derived.WalkLawsBesides
import Derived.Laws.IdiomStrings
import Derived.Lib.UnsafeStr
import Derived.Lib.BufferMore
import Derived.Lib.Hide
namespace Go.Proofs.Ytfjdfdobeiblhaa
open Go.RowKit

theorem infoB : (Try.prog.info? 5).map (fun i => (i.zero, i.size, i.bytes)) = some (some (.int .u8 0), 1, 1) := by kernel_rfl

/-- Block b's first n cells are the bytes l; none of them is frozen. -/
def rowB (w : World) (b n : Nat) (l : List UInt8) : Prop :=
  ∃ (C : Array Value) (e : TypeId) (lo hi : Nat), w.heap[b]? = some (.cells C e (lo, hi)) ∧ (n ≤ lo ∨ hi = 0) ∧ l.length = n ∧ C.toList.take n = Lib.byteCells l

theorem rowB.len {w : World} {b n : Nat} {l : List UInt8} (h : rowB w b n l) : l.length = n := by obtain ⟨_, _, _, _, _, _, h, _⟩ := h; exact h
theorem rowB.lt {w : World} {b n : Nat} {l : List UInt8} (h : rowB w b n l) : b < w.heap.size := by
  obtain ⟨_, _, _, _, h, _⟩ := h; exact (Array.getElem?_eq_some_iff.1 h).1
theorem rowB.cell {w : World} {b n : Nat} {l : List UInt8} (h : rowB w b n l) (j : Nat) (hj : j < n) : w.cell? ⟨b, j, none⟩ = some (.int .u8 (l.getD j 0).toNat) := by
  obtain ⟨C, e, lo, hi, hg, _, hl, ht⟩ := h
  rw [World.cell?, hg]
  have h1 : (C.toList.take n)[j]? = C[j]? := by rw [List.getElem?_take, if_pos hj]; simp
  have h2 : j < l.length := by omega
  simp only [Option.isSome_none, Bool.false_eq_true, if_false]
  rw [← h1, ht]
  simp [Lib.byteCells, List.getD, h2]
theorem rowB.free {w : World} {b n : Nat} {l : List UInt8} (h : rowB w b n l) (j : Nat) (hj : j < n) : w.frozen? ⟨b, j, none⟩ = false := by
  obtain ⟨C, e, lo, hi, hg, hf, hl, ht⟩ := h
  rw [World.frozen?, hg]
  simp
  rintro h
  omega
theorem rowB.set {w : World} {b n : Nat} {l : List UInt8} (h : rowB w b n l) (j : Nat) (c : UInt8) : rowB (w.setCell ⟨b, j, none⟩ (.int .u8 c.toNat)) b n (l.set j c) := by
  obtain ⟨C, e, lo, hi, hg, hf, hl, ht⟩ := h
  refine ⟨C.setIfInBounds j (.int .u8 c.toNat), e, lo, hi, Lib.heap_setCell_same hg _, hf, by simpa using hl, ?_⟩
  simp only [Array.toList_setIfInBounds, Lib.byteCells, List.map_set]
  rw [List.take_set, ht]; rfl
theorem rowB.of_block {w w' : World} {b n : Nat} {l : List UInt8} (h : rowB w b n l) (hb : w'.heap[b]? = w.heap[b]?) : rowB w' b n l := by
  obtain ⟨C, e, lo, hi, hg, r⟩ := h
  exact ⟨C, e, lo, hi, hb.trans hg, r⟩
theorem rowB.drew {w : World} {b n : Nat} {l : List UInt8} (h : rowB w b n l) : rowB w.drew b n l := h.of_block rfl
theorem rowB.alloc {w : World} {b n : Nat} {l : List UInt8} (h : rowB w b n l) (o : Obj) : rowB (w.alloc o) b n l := h.of_block (Below.heap_alloc _ _ _ h.lt)
theorem rowB.setOther {w : World} {b n : Nat} {l : List UInt8} (h : rowB w b n l) {a : Addr} (ha : b ≠ a.block) (v : Value) : rowB (w.setCell a v) b n l := h.of_block (Below.heap_setCell _ _ _ _ ha)
theorem rowB.below {B : Nat} {w w' : World} {b n : Nat} {l : List UInt8} (h : rowB w b n l) (hb : Below B w w') (hB : b < B) : rowB w' b n l := h.of_block (hb.block b hB)

/-- 'string(b)' over such a row. -/
theorem rowB.back {w : World} {b n : Nat} {l : List UInt8} (h : rowB w b n l) (cap : Nat) :
    (convert 81 9 (.slice (some ⟨b, 0, none⟩) n cap)).run Try.prog w = .ok (.string (bs l)) w := by
  have hr := run_convert_bytes_back (P := Try.prog) w 81 9 5 ⟨b, 0, none⟩ cap l Try.underlying81 Try.underlying5 Try.underlying9 (fun j hj => by
    have := h.cell j (by rw [← h.len]; exact hj)
    rw [show (⟨b, 0, none⟩ : Addr).add j = ⟨b, j, none⟩ from by unfold Addr.add; split <;> simp_all, this]
    simp [List.getD, hj])
  rw [h.len] at hr
  exact hr

/-- '[]byte(s)': a new row of s's bytes. -/
theorem bytes_of (s : ByteArray) (w : World) :
    ∃ (cap : Nat) (C : Array Value), (convert 9 81 (.string s)).run Try.prog w = .ok (.slice (some ⟨w.heap.size, 0, none⟩) s.size cap) (w.drew.alloc (.cells C 5 (C.size, C.size + 1))) ∧
      s.size ≤ cap ∧ rowB (w.alloc (.cells C 5 (C.size, C.size + 1))) w.heap.size s.size s.data.toList := by
  refine ⟨_, _, run_bytes_of_string (P := Try.prog) w 9 81 5 s Try.underlying9 Try.underlying81 Try.underlying5, grownCap_ge _ _ _ _, ?_⟩
  refine ⟨_, _, _, _, heap_alloc_new w _, .inl ?_, rfl, ?_⟩
  · unfold bytesRow; simp
  · unfold bytesRow
    rw [Array.toList_append, List.take_append_of_le_length (by simp), List.take_of_length_le (by simp)]
    simp [Lib.byteCells]

/-- A slice of the call's own that holds the bytes l. -/
def ownB (w : World) (base : Nat) (v : Value) (l : List UInt8) : Prop := w.ownsRow base 5 1 v l.length (Lib.byteCells l)
theorem ownB_nil (w : World) (base : Nat) : ownB w base (.slice none 0 0) [] := World.ownsRow_nil _ _ _ _
theorem ownB.alloc {w : World} {base : Nat} {v : Value} {l : List UInt8} (h : ownB w base v l) (o : Obj) : ownB (w.alloc o) base v l := World.ownsRow.alloc h o
theorem ownB.drew {w : World} {base : Nat} {v : Value} {l : List UInt8} (h : ownB w base v l) : ownB w.drew base v l := World.ownsRow.drew h
theorem ownB.ge {w : World} {base : Nat} {v : Value} {l : List UInt8} (h : ownB w base v l) : ∀ k, v.ownBlock = some k → base ≤ k := fun k hk => (World.ownsRow.lt h k hk).1
/-- A store below the slice's base. -/
theorem ownB.setLow {w : World} {base : Nat} {v : Value} {l : List UInt8} (h : ownB w base v l) {a : Addr} (ha : a.block < base) (u : Value) : ownB (w.setCell a u) base v l := ownsRow_setCell_below h ha u
/-- 'string(b)' over such a slice. -/
theorem ownB.back {w : World} {base : Nat} {v : Value} {l : List UInt8} (h : ownB w base v l) :
    (convert 81 9 v).run Try.prog w = .ok (.string (bs l)) w := by
  obtain ⟨hx, h⟩ := h
  rcases h with ⟨rfl, hn⟩ | ⟨g, cap, cur, rfl, hb, hg, hnc, hcm, hcs, ht⟩
  · have : l = [] := List.eq_nil_of_length_eq_zero hn
    subst this
    rw [run_convert_bytes_string w 81 9 5 none 0 0 Try.underlying81 Try.underlying5 Try.underlying9]
    rfl
  · exact rowB.back ⟨cur, _, 0, 0, hg, .inr rfl, rfl, by simpa using ht⟩ cap
/-- 'append(b, c)': the bytes, and c. (The new byte lies in a block of its own, laid just ahead.) What lies below the slice's base stands. -/
theorem wpList_appB {w0 w : World} {ops : Array Oper} {rest : List Oper} {o : Oper} {a : Act} {Q : Exit → Act → World → Prop} (hgd : o.guard = none) (s x : Operand)
    (ho : o.op = .call { callee := .builtin .append, args := #[s, x], argTypes := #[81, 81] })
    (base B : Nat) (v : Value) (l : List UInt8) (c : Int) (u : UInt8) (hs : a.eval s = v) (hown : ownB w base v l) (hb : Below B w0 w) (hBb : B ≤ base) (hbase : base ≤ w.heap.size) (hu : c = (u.toNat : Int))
    {g : Nat} (hx : a.eval x = .slice (some ⟨g, 0, none⟩) 1 1) (hlen : l.length + 1 ≤ 140737488355328)
    (h : ∀ v' w', Hid (ownB w' base v' (l ++ [u])) → Hid (Below B w0 w') → Hid (∀ b, b < base → w'.heap[b]? = w.heap[b]?) → wpList Try.prog ops Q rest (a.put o.dst v') w') (hg : g = w.heap.size := by simp) :
    wpList Try.prog ops Q (o :: rest) a (w.alloc (.cells #[.int .u8 c] 5)) := by
  obtain ⟨i0, hi, hz0, hz1, hz2⟩ := info_parts infoB
  subst hu hg
  refine wpList_append_own _ hgd s x 81 ho base 5 i0 (.int .u8 0) 1 1 Try.underlying81 hi hz0 hz1 hz2 rfl (by decide) v l.length _ hs (hown.alloc _) ⟨w.heap.size, 0, none⟩ 1 1 [.int .u8 u.toNat] hx rfl ?_ ?_ ?_ ?_ ?_ ?_
  · intro j v hj
    match j, hj with
    | 0, hj => simp at hj; subst hj; simp [Addr.add]
  · intro v hv; simp at hv; subst hv; rfl
  · unfold maxLen; omega
  · omega
  · simp; omega
  · intro v' w' h1 h2 _
    refine h v' w' ?_ ?_ ?_
    · have : (l ++ [u]).length = l.length + 1 := by simp
      show ownB _ _ _ _
      unfold ownB
      rw [this, Lib.byteCells_append]
      exact h1
    · exact (hb.alloc (by omega) _).grown h2 (by simp; omega) (fun k hk => Nat.le_trans hBb (hown.ge k hk))
    · intro b hb
      rw [h2.block b (by simp; omega) (fun e => by have := hown.ge b e.symm; omega)]
      exact Below.heap_alloc _ _ _ (by omega)

/-- A slice literal of one byte. -/
theorem ownB_lit (w : World) (base : Nat) (c : Int) (u : UInt8) (hu : c = (u.toNat : Int)) (hb : base ≤ w.heap.size) : ownB (w.alloc (.cells #[.int .u8 c] 5)) base (.slice (some ⟨w.heap.size, 0, none⟩) 1 1) [u] := by
  subst hu
  exact World.ownsRow_lit w #[.int .u8 u.toNat] 1 hb (by unfold maxLen; omega) rfl
end Go.Proofs.Ytfjdfdobeiblhaa
