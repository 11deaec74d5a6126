/- Is a URI long: the statements' own helper. -/
import Derived.Test.YtigaghdalecdlaaGreatDoorUriS
import Derived.Test.YtigaghdalecdlaaGreatDoorGrow3
namespace Go.Proofs.YtigaghdalecdlaaGreatDoor
open Go.RowKit

theorem drewU (w : World) : Below w.heap.size w w.drew := by
  have h := Below.refl w.heap.size w
  exact ⟨h.os, h.tape, h.output, h.size, h.block⟩
theorem index_leU (c : UInt8) : ∀ l : List UInt8, Lib.indexByte l c ≤ l.length
  | [] => by simp [Lib.indexByte]
  | b :: l => by
    have ih := index_leU c l
    unfold Lib.indexByte
    rw [List.length_cons]
    split
    · omega
    · split <;> omega
/-- a URI whose texts are no longer than what one row may reach -/
structure Ur.sized (u : Ur) : Prop where
  sc : u.sc.length ≤ 140737488351232
  ho : u.ho.length ≤ 140737488351232
  pa : u.pa.length ≤ 140737488351232
  qu : u.qu.length ≤ 140737488351232
  po : (Lit.int .i64 u.po).wf = true
theorem i64U {n : Int} (h : (Lit.int .i64 n).wf = true) : -9223372036854775808 ≤ n ∧ n ≤ 9223372036854775807 := by
  simp [Lit.wf, IntKind.min, IntKind.max, IntKind.bits, IntKind.signed] at h
  omega
def longB (u : Ur) : Bool := decide (3000 < u.sc.length + u.ho.length + u.pa.length + u.qu.length)
theorem long_okW {u : Ur} (h : u.sized) (hl : longB u = false) : u.okW := by
  unfold longB at hl
  have h1 := of_decide_eq_false hl
  have h2 := i64U h.po
  refine ⟨by omega, ?_, ?_⟩ <;> omega
set_option maxHeartbeats 1000000 in
set_option maxRecDepth 100000 in
theorem ulong_any (u : Ur) (w : World) (h : u.sized) :
    Calls Tryz.prog 5 #[.agg #[.string (bs u.sc), .string (bs u.ho), .int .i64 u.po, .string (bs u.pa), .string (bs u.qu), .bool u.hq]] w fun r w' => r = .returned (.bool (longB u)) ∧ Below w.heap.size w w' := by
  obtain ⟨h1, h2, h3, h4, -⟩ := h
  unfold longB
  obtain ⟨sc, ho, po, pa, qu, hq⟩ := u
  simp only at h1 h2 h3 h4 ⊢
  have hal : Below w.heap.size w (w.alloc (.cells #[.string (bs sc), .string (bs ho), .int .i64 po, .string (bs pa), .string (bs qu), .bool hq] 23)) := (Below.refl _ _).alloc (Nat.le_refl _) _
  have HAL := Lib.hid hal; clear hal
  have hx := ubk.new w #[.string (bs sc), .string (bs ho), .int .i64 po, .string (bs pa), .string (bs qu), .bool hq] 23
  have xc0 := hx.cell 0 (.string (bs sc)) rfl
  have xc1 := hx.cell 1 (.string (bs ho)) rfl
  have xc2 := hx.cell 2 (.int .i64 po) rfl
  have xc3 := hx.cell 3 (.string (bs pa)) rfl
  have xc4 := hx.cell 4 (.string (bs qu)) rfl
  have xc5 := hx.cell 5 (.bool hq) rfl
  clear hx
  have z1 := bs_size sc
  have z2 := bs_size ho
  have z3 := bs_size pa
  have z4 := bs_size qu
  go_enter Tryz.func5, Tryz.ntmps5
  go_wp2_with fail
  have HF : Hid (decide ((3000 : Int) < ↑sc.length + ↑ho.length + ↑pa.length + ↑qu.length) = decide (3000 < sc.length + ho.length + pa.length + qu.length)) := by
    show _ = _
    rw [Bool.eq_iff_iff, decide_eq_true_eq, decide_eq_true_eq]
    omega
  go_ret
  exact ⟨ret_bool HF.out, HAL.out⟩
end Go.Proofs.YtigaghdalecdlaaGreatDoor
