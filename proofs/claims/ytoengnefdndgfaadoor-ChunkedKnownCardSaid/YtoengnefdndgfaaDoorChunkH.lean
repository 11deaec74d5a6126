/- Slices of numbers: what is read of them, a row that a call has made; slices.Clone, slices.IndexFunc, slices.DeleteFunc at the sizes that a chunk may not have; the sizes that are left. -/
import Derived.Test.YtoengnefdndgfaaDoorChunkA
import Derived.Shelf.Abstract
import Derived.Lib.SliceRun
import Derived.Lib.SlBuf
import Derived.Deep.LoopGhost
namespace Go.Proofs.YtoengnefdndgfaaDoor
open Go.RowKit
def icells (l : List Int) : List Value := l.map (Value.int .i64)
/-- the slice v reads as the numbers l -/
def IL (w : World) (v : Value) (l : List Int) : Prop :=
  (l = [] ∧ ∃ A c, v = .slice A 0 c) ∨ ∃ b off c, v = .slice (some ⟨b, off, none⟩) l.length c ∧ b < w.heap.size ∧ ∀ j (hj : j < l.length), w.cell? ⟨b, off + j, none⟩ = some (.int .i64 l[j])
theorem IL.form {w : World} {v : Value} {l : List Int} (h : IL w v l) : ∃ A c, v = .slice A l.length c := by
  rcases h with ⟨rfl, A, c, rfl⟩ | ⟨b, off, c, rfl, _⟩
  · exact ⟨A, c, rfl⟩
  · exact ⟨_, _, rfl⟩
theorem IL.bel {w w' : World} {v : Value} {l : List Int} (h : IL w v l) (hb : Below w.heap.size w w') : IL w' v l := by
  rcases h with h | ⟨b, off, c, hv, hlt, hc⟩
  · exact .inl h
  · exact .inr ⟨b, off, c, hv, Nat.lt_of_lt_of_le hlt hb.size, fun j hj => (hb.cell (p := ⟨b, off + j, none⟩) hlt).trans (hc j hj)⟩
theorem IL.get {w : World} {A : Option Addr} {n c : Nat} {l : List Int} (h : IL w (.slice A n c) l) (j : Nat) (hj : j < l.length) :
    ∃ b off, A = some ⟨b, off, none⟩ ∧ b < w.heap.size ∧ w.cell? ⟨b, off + j, none⟩ = some (.int .i64 l[j]) := by
  rcases h with ⟨rfl, _⟩ | ⟨b, off, c, hv, hlt, hc⟩
  · exact absurd hj (by simp)
  · simp only [Value.slice.injEq] at hv
    exact ⟨b, off, hv.1, hlt, hc j hj⟩
theorem IL_lit (w : World) (n : Int) : IL (w.alloc (.cells #[.int .i64 n] 3)) (.slice (some ⟨w.heap.size, 0, none⟩) 1 1) [n] := by
  refine .inr ⟨w.heap.size, 0, 1, rfl, by simp, fun j hj => ?_⟩
  have : j = 0 := by simpa using hj
  subst this
  exact cell_of_one (heap_alloc_new w (.cells #[.int .i64 n] 3))

/-- block b's cells are the numbers R; none of them is frozen -/
def rowI (w : World) (b : Nat) (R : List Int) : Prop := ∃ (C : Array Value) (e : TypeId), w.heap[b]? = some (.cells C e (0, 0)) ∧ C.toList.take R.length = icells R
theorem rowI.lt {w : World} {b : Nat} {R : List Int} (h : rowI w b R) : b < w.heap.size := by obtain ⟨_, _, h, _⟩ := h; exact (Array.getElem?_eq_some_iff.1 h).1
theorem rowI.cell {w : World} {b : Nat} {R : List Int} (h : rowI w b R) (j : Nat) (hj : j < R.length) : w.cell? ⟨b, j, none⟩ = some (.int .i64 R[j]) := by
  obtain ⟨C, e, hg, ht⟩ := h
  rw [World.cell?, hg]
  have h1 : (C.toList.take R.length)[j]? = C[j]? := by rw [List.getElem?_take, if_pos hj]; simp
  simp only [Option.isSome_none, Bool.false_eq_true, if_false]
  rw [← h1, ht]
  simp [icells, hj]
theorem rowI.free {w : World} {b : Nat} {R : List Int} (h : rowI w b R) (j : Nat) : w.frozen? ⟨b, j, none⟩ = false := by
  obtain ⟨C, e, hg, ht⟩ := h
  rw [World.frozen?, hg]
  simp
theorem rowI.set {w : World} {b : Nat} {R : List Int} (h : rowI w b R) (j : Nat) (x : Int) : rowI (w.setCell ⟨b, j, none⟩ (.int .i64 x)) b (R.set j x) := by
  obtain ⟨C, e, hg, ht⟩ := h
  refine ⟨C.setIfInBounds j (.int .i64 x), e, Lib.heap_setCell_same hg _, ?_⟩
  rw [List.length_set, Array.toList_setIfInBounds, List.take_set, ht]
  simp [icells, List.map_set]
theorem rowI.of_block {w w' : World} {b : Nat} {R : List Int} (h : rowI w b R) (hb : w'.heap[b]? = w.heap[b]?) : rowI w' b R := by
  obtain ⟨C, e, hg, r⟩ := h
  exact ⟨C, e, hb.trans hg, r⟩
theorem rowI_of {w : World} {base : Nat} {a : Option Addr} {m c : Nat} {l : List Int} (h : w.ownsRow base 3 1 (.slice a m c) l.length (icells l)) (hl : l ≠ []) : ∃ g, a = some ⟨g, 0, none⟩ ∧ m = l.length ∧ base ≤ g ∧ rowI w g l ∧ l.length ≤ c := by
  rcases h.2 with ⟨hv, hn⟩ | ⟨g, cap, cur, hv, hb, hg, hnc, hcm, hcs, ht⟩
  · exact absurd (List.eq_nil_of_length_eq_zero hn) hl
  · simp only [Value.slice.injEq] at hv
    exact ⟨g, hv.1, hv.2.1, hb, ⟨cur, _, hg, by simpa using ht⟩, by rw [hv.2.2]; exact hnc⟩

set_option maxHeartbeats 1000000 in
theorem cloneI_any (v : Value) (l : List Int) (w : World) (h : IL w v l) (hl : l.length ≤ 4294967296) :
    Calls Tryd.prog 39 #[v] w fun e w' => ∃ v', e = .returned v' ∧ w'.ownsRow w.heap.size 3 1 v' l.length (icells l) ∧ Below w.heap.size w w' := by
  rcases h with ⟨rfl, A, c, rfl⟩ | ⟨b, off, c, rfl, hlt, hc⟩
  · cases A with
    | none =>
      refine (Tryd.slices_Clone_int_nil 0 c w).mono ?_
      rintro e w' ⟨rfl, rfl⟩
      exact ⟨_, rfl, World.ownsRow_nil _ _ _ _, Below.refl _ _⟩
    | some a =>
      refine (Tryd.slices_Clone_int_zero a c w).mono ?_
      rintro e w' ⟨v', rfl, h1, -, h2⟩
      exact ⟨_, rfl, h1, h2⟩
  · refine (Tryd.slices_Clone_int b off l.length c l w (Nat.le_refl _) (by omega) (fun j hj => by rw [hc j hj]; simp [List.getD, hj])).mono ?_
    rintro e w' ⟨v', rfl, h1, -, h2⟩
    rw [List.take_length] at h1
    exact ⟨_, rfl, h1, h2⟩

theorem ret_num {a b : Int} (h : a = b) : Ending.returned (.int .i64 a) = .returned (.int .i64 b) := by rw [h]
set_option maxHeartbeats 400000 in
theorem neg_any (n : Int) (w : World) : Calls Tryd.prog 40 #[.int .i64 n] w fun e w' => e = .returned (.bool (decide (n ≤ 0))) ∧ w = w' := by
  go_enter Tryd.func40, Tryd.ntmps40
  go_wp2
  go_ret
  exact ⟨rfl, rfl⟩
theorem eNeg : ∀ args w, (callFunc 40 args).run Tryd.prog w = .ok (.enter 40 args) w := enters_of Tryd.func40 (by kernel_rfl) rfl

/-- where the first one stands that may not be -/
def negAt (l : List Int) : Int := match l.findIdx? (fun n => decide (n ≤ 0)) with
  | some k => (k : Int)
  | none => -1
set_option maxHeartbeats 2000000 in
set_option maxRecDepth 100000 in
theorem indexI_any (v : Value) (l : List Int) (w : World) (h : IL w v l) (hl : l.length ≤ 4294967296) :
    Calls Tryd.prog 52 #[v, .func (.func 40) #[] #[]] w fun e w' => e = .returned (.int .i64 (negAt l)) ∧ w = w' := by
  obtain ⟨A, c, rfl⟩ := h.form
  have HF := Lib.hid h; clear h
  have eN := eNeg
  go_enter Tryd.func52, Tryd.ntmps52
  go_wp2_with fail
  go_loop [8] (fun i => ∃ k : Nat, k ≤ l.length ∧ i = .int .i64 k ∧ Hid (∀ j (_ : j < k) (hk : k ≤ l.length), decide ((l[j]'(by omega)) ≤ 0) = false)) (fun i => l.length - (intOf i).toNat)
  case atStart => exact ⟨0, Nat.zero_le _, rfl, fun j hj => absurd hj (by omega)⟩
  case round =>
    obtain ⟨k, hk, rfl, HNo⟩ := hrel
    by_cases hlt : k < l.length
    · obtain ⟨b, off, rfl, hbb, hc1⟩ := HF.out.get k hlt
      cases hq : decide (l[k] ≤ 0)
      · have HNN : Hid (∀ j (_ : j < k + 1) (hk : k + 1 ≤ l.length), decide ((l[j]'(by omega)) ≤ 0) = false) := by
          intro j hj hk2
          rcases Nat.lt_or_eq_of_le (Nat.le_of_lt_succ hj) with h1 | h1
          · exact HNo.out j h1 (by omega)
          · subst h1; exact hq
        have hcall := fun w => neg_any l[k] w
        rw [hq] at hcall
        clear hq
        generalize l[k] = f at *
        have HCA := Lib.hid hcall; clear hcall
        go_wp2_with (go_at_fn 40; refine (HCA.out _).mono ?_; rintro e w1 ⟨rfl, rfl⟩)
        go_round
        case rel => exact ⟨k + 1, by omega, by go_num, HNN⟩
        case measure => simp [intOf]; omega
      · have hcall := fun w => neg_any l[k] w
        rw [hq] at hcall
        have HNN : Hid (negAt l = (k : Int)) := by
          show _ = _
          unfold negAt
          rw [show l.findIdx? (fun n => decide (n ≤ 0)) = some k from List.findIdx?_eq_some_iff_getElem.2 ⟨hlt, hq, fun j hj => by rw [HNo.out j hj (by omega)]; simp⟩]
        clear hq
        generalize l[k] = f at *
        have HCA := Lib.hid hcall; clear hcall
        go_wp2_with (go_at_fn 40; refine (HCA.out _).mono ?_; rintro e w1 ⟨rfl, rfl⟩)
        go_ret
        exact ⟨ret_num HNN.out.symm, rfl⟩
    · have HNN : Hid (negAt l = -1) := by
        show _ = _
        unfold negAt
        rw [show l.findIdx? (fun n => decide (n ≤ 0)) = none from List.findIdx?_eq_none_iff.2 fun x hx => by
          obtain ⟨j, hj, rfl⟩ := List.getElem_of_mem hx
          exact HNo.out j (by omega) (by omega)]
      go_wp2_with fail
      go_ret
      exact ⟨ret_num HNN.out.symm, rfl⟩
end Go.Proofs.YtoengnefdndgfaaDoor
