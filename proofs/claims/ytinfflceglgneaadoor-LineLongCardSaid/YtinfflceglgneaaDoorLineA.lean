/- What the lines' small functions answer; a reader's struct in memory, and its steps that change it. -/
import Derived.Test.YtinfflceglgneaaDoorBytes
import Derived.Test.YtinfflceglgneaaDoorLine2
import Derived.Deep.QuietTactic
import Derived.BigQuiet
import Derived.Outline
namespace Go.Proofs.YtinfflceglgneaaDoor
open Go.RowKit

set_option maxRecDepth 100000 in
set_option maxHeartbeats 400000 in
theorem visible_any (n : Int) (w : World) :
    Calls Tryd.prog 25 #[.int .u8 n] w fun e w' => e = .returned (.bool (visI n)) ∧ w = w' := by
  go_enter Tryd.func25, Tryd.ntmps25
  go_wp2
  all_goals go_ret
  all_goals refine ⟨ret_bool ?_, rfl⟩
  all_goals rw [Bool.eq_iff_iff]
  all_goals simp_all [visI]
  all_goals omega

set_option maxRecDepth 100000 in
set_option maxHeartbeats 400000 in
theorem digit_any (n : Int) (w : World) :
    Calls Tryd.prog 50 #[.int .u8 n] w fun e w' => e = .returned (.bool (digI n)) ∧ w = w' := by
  go_enter Tryd.func50, Tryd.ntmps50
  go_wp2
  all_goals go_ret
  all_goals refine ⟨ret_bool ?_, rfl⟩
  all_goals rw [Bool.eq_iff_iff]
  all_goals simp_all [digI]
  all_goals omega

set_option maxRecDepth 100000 in
set_option maxHeartbeats 400000 in
theorem reason_any (n : Int) (w : World) :
    Calls Tryd.prog 37 #[.int .u8 n] w fun e w' => e = .returned (.bool (mayI n)) ∧ w = w' := by
  go_enter Tryd.func37, Tryd.ntmps37
  go_wp2
  all_goals go_ret
  all_goals refine ⟨ret_bool ?_, rfl⟩
  all_goals rw [Bool.eq_iff_iff]
  all_goals simp_all [mayI]
  all_goals omega

set_option maxRecDepth 100000 in
set_option maxHeartbeats 400000 in
theorem rdigit_any (n : Int) (w : World) :
    Calls Tryd.prog 38 #[.int .u8 n] w fun e w' => e = .returned (.bool (digI n)) ∧ w = w' := by
  go_enter Tryd.func38, Tryd.ntmps38
  go_wp2
  all_goals go_ret
  all_goals refine ⟨ret_bool ?_, rfl⟩
  all_goals rw [Bool.eq_iff_iff]
  all_goals simp_all [digI]
  all_goals omega

set_option maxRecDepth 100000 in
set_option maxHeartbeats 400000 in
theorem validStatus_any (n : Int) (w : World) :
    Calls Tryd.prog 36 #[.int .i64 n] w fun e w' => e = .returned (.bool (validS n)) ∧ w = w' := by
  go_enter Tryd.func36, Tryd.ntmps36
  go_wp2
  all_goals go_ret
  all_goals refine ⟨ret_bool ?_, rfl⟩
  all_goals rw [Bool.eq_iff_iff]
  all_goals simp_all [validS]
  all_goals omega


set_option maxRecDepth 100000 in
set_option maxHeartbeats 400000 in
theorem validMinor_any (n : Int) (w : World) :
    Calls Tryd.prog 41 #[.int .i64 n] w fun e w' => e = .returned (.bool (validM n)) ∧ w = w' := by
  go_enter Tryd.func41, Tryd.ntmps41
  go_wp2
  all_goals go_ret
  all_goals refine ⟨ret_bool ?_, rfl⟩
  all_goals rw [Bool.eq_iff_iff]
  all_goals simp_all [validM]

/-- block b holds a reader -/
def Rd (w : World) (b : Nat) (whole : List UInt8) (r : Rs) : Prop :=
  w.heap[b]? = some (.cells #[.string (bs whole), .string (bs r.rest), .bool r.amiss, .int .i64 r.major] 63 (0, 0))
theorem Rd.lt {w : World} {b : Nat} {whole : List UInt8} {r : Rs} (h : Rd w b whole r) : b < w.heap.size := lt_of_block h
theorem Rd.cell {w : World} {b : Nat} {whole : List UInt8} {r : Rs} (h : Rd w b whole r) :
    w.cell? ⟨b, 0, none⟩ = some (.string (bs whole)) ∧ w.cell? ⟨b, 1, none⟩ = some (.string (bs r.rest)) ∧ w.cell? ⟨b, 2, none⟩ = some (.bool r.amiss) ∧ w.cell? ⟨b, 3, none⟩ = some (.int .i64 r.major) := by
  unfold Rd at h
  refine ⟨?_, ?_, ?_, ?_⟩ <;> · rw [World.cell?, h]; rfl
theorem Rd.free {w : World} {b : Nat} {whole : List UInt8} {r : Rs} (h : Rd w b whole r) (j : Nat) : w.frozen? ⟨b, j, none⟩ = false := by
  unfold Rd at h
  rw [World.frozen?, h]; simp
theorem Rd.keep {w w' : World} {b : Nat} {whole : List UInt8} {r : Rs} (h : Rd w b whole r) (hk : w'.heap[b]? = w.heap[b]?) : Rd w' b whole r := hk.trans h
theorem Rd.setRest {w : World} {b : Nat} {whole : List UInt8} {r : Rs} (h : Rd w b whole r) (l : List UInt8) : Rd (w.setCell ⟨b, 1, none⟩ (.string (bs l))) b whole ⟨l, r.amiss, r.major⟩ := by
  unfold Rd at h ⊢
  rw [Lib.heap_setCell_same h]; rfl
theorem Rd.setAmiss {w : World} {b : Nat} {whole : List UInt8} {r : Rs} (h : Rd w b whole r) (x : Bool) : Rd (w.setCell ⟨b, 2, none⟩ (.bool x)) b whole ⟨r.rest, x, r.major⟩ := by
  unfold Rd at h ⊢
  rw [Lib.heap_setCell_same h]; rfl
theorem Rd.setMajor {w : World} {b : Nat} {whole : List UInt8} {r : Rs} (h : Rd w b whole r) (n : Int) : Rd (w.setCell ⟨b, 3, none⟩ (.int .i64 n)) b whole ⟨r.rest, r.amiss, n⟩ := by
  unfold Rd at h ⊢
  rw [Lib.heap_setCell_same h]; rfl
theorem grown_set (w : World) (b j : Nat) (v : Value) : w.grownBy (w.setCell ⟨b, j, none⟩ v) (some b) :=
  ⟨rfl, rfl, rfl, by simp [World.setCell], fun k _ hk => Below.heap_setCell _ _ _ _ (by simpa using hk)⟩
theorem grown_refl (w : World) (r : Option Nat) : w.grownBy w r := ⟨rfl, rfl, rfl, Nat.le_refl _, fun _ _ _ => rfl⟩
theorem grown_trans {a b c : World} {r : Option Nat} (h : a.grownBy b r) (k : b.grownBy c r) : a.grownBy c r :=
  ⟨k.os.trans h.os, k.tape.trans h.tape, k.output.trans h.output, Nat.le_trans h.size k.size, fun i hi hr => (k.block i (Nat.lt_of_lt_of_le hi h.size) hr).trans (h.block i hi hr)⟩
theorem grown_below {a b : World} (h : Below a.heap.size a b) (r : Option Nat) : a.grownBy b r := ⟨h.os, h.tape, h.output, h.size, fun k hk _ => h.block k hk⟩

set_option maxRecDepth 100000 in
set_option maxHeartbeats 400000 in
theorem begin_any (s : ByteArray) (w : World) :
    Calls Tryd.prog 21 #[.string s] w fun e w' => e = .returned (.pointer (some ⟨w.heap.size, 0, none⟩)) ∧ Rd w' w.heap.size s.data.toList (rs0 s.data.toList) ∧ w.grownBy w' none := by
  go_enter Tryd.func21, Tryd.ntmps21
  go_wp2
  go_ret
  exact ⟨rfl, heap_alloc_new w _, World.grownBy_alloc _ _ _⟩

set_option maxRecDepth 100000 in
set_option maxHeartbeats 400000 in
theorem begin_eq (s : ByteArray) (w : World) :
    Calls Tryd.prog 21 #[.string s] w fun e w' => e = .returned (.pointer (some ⟨w.heap.size, 0, none⟩)) ∧ w' = w.alloc (.cells #[.string s, .string s, .bool false, .int .i64 0] 63) := by
  go_enter Tryd.func21, Tryd.ntmps21
  go_wp2
  go_ret
  exact ⟨rfl, rfl⟩

section
variable (b : Nat) (whole : List UInt8) (r : Rs) (w : World)
set_option maxRecDepth 100000 in
set_option maxHeartbeats 400000 in
theorem expect_any (ok : Bool) (h : Rd w b whole r) :
    Calls Tryd.prog 26 #[.pointer (some ⟨b, 0, none⟩), .bool ok] w fun e w' => e = .returned (.tuple #[]) ∧ Rd w' b whole (r.expect ok) ∧ w.grownBy w' (some b) := by
  have h1 := h.cell.2.2.1
  have h2 := h.free 2
  have h3 := h.cell.2.2.1
  have HR : Hid (∀ x, Rd (w.setCell ⟨b, 2, none⟩ (.bool x)) b whole ⟨r.rest, x, r.major⟩) := h.setAmiss
  clear h
  cases hx : r.amiss
  · rw [hx] at h1
    have HX := Lib.hid hx; clear hx h3
    go_enter Tryd.func26, Tryd.ntmps26
    go_wp2
    go_end0
    exact ⟨rfl, by have := HR.out (!ok); unfold Rs.expect; rw [HX.out, Bool.false_or]; exact this, grown_set _ _ _ _⟩
  · rw [hx] at h1
    have HX := Lib.hid hx; clear hx h3
    go_enter Tryd.func26, Tryd.ntmps26
    go_wp2
    go_end0
    exact ⟨rfl, by have := HR.out true; unfold Rs.expect; rw [HX.out, Bool.true_or]; exact this, grown_set _ _ _ _⟩
end
end Go.Proofs.YtinfflceglgneaaDoor
