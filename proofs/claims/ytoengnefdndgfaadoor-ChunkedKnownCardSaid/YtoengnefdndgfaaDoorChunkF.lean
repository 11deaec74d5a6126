/- A number's hexadecimal digits; strconv.AppendInt at base 16. -/
import Derived.Test.YtoengnefdndgfaaDoorChunkA
import Derived.Deep.AppendLies
import Derived.Laws.BitsLemmas
import Derived.Laws.Shifts
namespace Go.Proofs.YtoengnefdndgfaaDoor
open Go.RowKit

/-- a digit of a number below 16 -/
def digC (n : Nat) : UInt8 := if n < 10 then UInt8.ofNat (48 + n) else UInt8.ofNat (87 + n)
def hexL (n : Nat) : List UInt8 := if _h : n < 16 then [digC n] else hexL (n / 16) ++ [digC (n % 16)]
termination_by n
theorem hexL_small {n : Nat} (h : n < 16) : hexL n = [digC n] := by rw [hexL, dif_pos h]
theorem hexL_step {n : Nat} (h : ¬ n < 16) : hexL n = hexL (n / 16) ++ [digC (n % 16)] := by rw [hexL, dif_neg h]

theorem and15 (n : Nat) (h : n < 18446744073709551616) : Go.bits .and .u64 (n : Int) 15 = ((n % 16 : Nat) : Int) := by
  unfold Go.bits
  have e : (BitVec.ofInt IntKind.u64.bits (n : Int) &&& BitVec.ofInt IntKind.u64.bits 15).toNat = n % 16 := by
    rw [BitVec.toNat_and]
    have h1 : (BitVec.ofInt IntKind.u64.bits (n : Int)).toNat = n := by
      rw [BitVec.toNat_ofInt]
      show ((n : Int) % ((2 ^ 64 : Nat) : Int)).toNat = n
      omega
    have h2 : (BitVec.ofInt IntKind.u64.bits 15).toNat = 2 ^ 4 - 1 := by decide
    rw [h1, h2, Nat.and_two_pow_sub_one_eq_mod]
  simp only [e]
  rw [IntKind.wrap_u64]
  omega

set_option maxHeartbeats 400000 in
theorem pow2_16 (w : World) : Calls Tryd.prog 93 #[.int .i64 16] w fun e w' => e = .returned (.bool true) ∧ w = w' := by
  have h : Go.bits .and .i64 16 15 = 0 := by decide
  go_enter Tryd.func93, Tryd.ntmps93
  go_wp2
  go_ret
  exact ⟨rfl, rfl⟩

set_option maxHeartbeats 400000 in
theorem tz64_16 (w : World) (h : Lib.TabIs Tryd.prog w "math/bits.deBruijn64tab" .u8 deBr) : Calls Tryd.prog 97 #[.int .u64 16] w fun e w' => e = .returned (.int .i64 4) ∧ w = w' := by
  have hc : w.cell? ⟨5, 15, none⟩ = some (.int .u8 4) := Lib.TabIs.cell h gBr 15 (by decide)
  have h1 : IntKind.u64.wrap (-16) = 18446744073709551600 := by rw [IntKind.wrap_u64]; decide
  have h2 : Go.bits .and .u64 16 18446744073709551600 = 16 := by decide
  go_enter Tryd.func97, Tryd.ntmps97
  go_wp2
  go_ret
  exact ⟨rfl, rfl⟩
set_option maxHeartbeats 400000 in
theorem tz_16 (w : World) (h : Lib.TabIs Tryd.prog w "math/bits.deBruijn64tab" .u8 deBr) : Calls Tryd.prog 94 #[.int .u64 16] w fun e w' => e = .returned (.int .i64 4) ∧ w = w' := by
  go_enter Tryd.func94, Tryd.ntmps94
  go_wp2_with (go_at_call 97; refine (tz64_16 _ h).mono ?_; rintro e w' ⟨rfl, rfl⟩)
  go_ret
  exact ⟨rfl, rfl⟩
end Go.Proofs.YtoengnefdndgfaaDoor
