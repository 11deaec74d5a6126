/- The document's Digits, names, weekday, clock. -/
import Derived.Test.YtfobjaccpnondaaGreatDoorKBytes
import Derived.Test.YtfobjaccpnondaaGreatDoorKDateS
namespace Go.Proofs.YtfobjaccpnondaaGreatDoor
open Go.RowKit

/-- the last k digits of n -/
def digL : Nat → Nat → List UInt8
  | _, 0 => []
  | n, k + 1 => digL (n / 10) k ++ [digO (n % 10)]
theorem one_backD (w : World) (c : Int) (h0 : 0 ≤ c) (h1 : c < 256) :
    (convert 140 9 (.slice (some ⟨w.heap.size, 0, none⟩) 1 1)).run Tryz.prog (w.alloc (.cells #[.int .u8 c] 5)) = .ok (.string (bs [UInt8.ofNat c.toNat])) (w.alloc (.cells #[.int .u8 c] 5)) :=
  (ownB_lit w 0 c (UInt8.ofNat c.toNat) (by rw [UInt8.toNat_ofNat']; omega) (Nat.zero_le _)).back
theorem dig_intD (k : Nat) : UInt8.ofNat (48 + (k : Int) % 10).toNat = digO (k % 10) := by
  unfold digO; congr 1
theorem one_digit (w : World) (k : Nat) :
    (convert 140 9 (.slice (some ⟨w.heap.size, 0, none⟩) 1 1)).run Tryz.prog (w.alloc (.cells #[.int .u8 (48 + (k : Int) % 10)] 5)) = .ok (.string (bs [digO (k % 10)])) (w.alloc (.cells #[.int .u8 (48 + (k : Int) % 10)] 5)) := by
  rw [← dig_intD k]; exact one_backD w _ (by omega) (by omega)
/-- what is left to write, with what is written behind it -/
def digR (n k i n' : Nat) (l : List UInt8) : Prop := digL n k = digL n' (k - i) ++ l ∧ l.length = i ∧ n' ≤ n
theorem digR.next {n k i n' : Nat} {l : List UInt8} (h : digR n k i n' l) (hi : i < k) : digR n k (i + 1) (n' / 10) (digO (n' % 10) :: l) := by
  obtain ⟨a, b, c⟩ := h
  refine ⟨?_, by simp [b], by omega⟩
  rw [a, show k - i = k - (i + 1) + 1 from by omega, digL, List.append_assoc]; rfl

set_option maxHeartbeats 1000000 in
theorem digits_any (n k : Nat) (w : World) (hn : n < 1000000000) (hk : k ≤ 4) :
    Calls Tryz.prog 112 #[.int .i64 n, .int .i64 k] w fun e w' => e = .returned (.string (bs (digL n k))) ∧ Below w.heap.size w w' := by
  go_enter Tryz.func112, Tryz.ntmps112
  go_wp2_with fail
  go_loopw [0, 5, 6] (fun m s j wr => ∃ (i n' : Nat) (l : List UInt8), j = .int .i64 i ∧ i ≤ k ∧ m = .int .i64 n' ∧ s = .string (bs l) ∧ Hid (digR n k i n' l) ∧ Below w.heap.size w wr) (fun _ _ j _ => k - (intOf j).toNat)
  case atStart => exact ⟨0, n, [], rfl, Nat.zero_le _, rfl, rfl, ⟨by simp, rfl, Nat.le_refl _⟩, Below.refl _ _⟩
  case round =>
    obtain ⟨i, n', l, rfl, hi, rfl, rfl, HR, hb⟩ := hrel
    have hl : l.length ≤ 4 := by have := HR.out.2.1; omega
    have hn' := HR.out.2.2
    by_cases hlt : i < k
    · have k3 : ¬ 9223372036854775807 < 1 + l.length := by omega
      have hcv := one_digit wr n'
      have hap := bs_appendD [digO (n' % 10)] l
      go_wp2_with fail
      go_roundw
      case rel => exact ⟨i + 1, n' / 10, _, by go_num, by omega, by go_num, rfl, HR.out.next hlt, hb.alloc hb.size _⟩
      case measure => simp [intOf]; omega
    · obtain rfl : i = k := by omega
      have HD : Hid (digL n i = l) := by show _ = _; rw [HR.out.1, Nat.sub_self]; rfl
      go_wp2_with fail
      go_ret
      exact ⟨by rw [HD.out]; rfl, hb⟩
theorem dig2 (n : Int) (h0 : 0 ≤ n) (h1 : n < 100) : digL n.toNat 2 = pad2 n := by
  simp only [digL, pad2, List.nil_append]
  rw [show n.toNat / 10 % 10 = n.toNat / 10 from by omega]; rfl
theorem dig4 (n : Int) (h0 : 0 ≤ n) (h1 : n < 10000) : digL n.toNat 4 = pad4 n := by
  simp only [digL, pad4, List.nil_append]
  rw [show n.toNat / 10 / 10 / 10 % 10 = n.toNat / 1000 from by omega, show n.toNat / 10 / 10 % 10 = n.toNat / 100 % 10 from by omega]; rfl
theorem digits2_any (n : Int) (w : World) (h0 : 0 ≤ n) (h1 : n < 100) :
    Calls Tryz.prog 112 #[.int .i64 n, .int .i64 2] w fun e w' => e = .returned (.string (bs [digO (n.toNat / 10), digO (n.toNat % 10)])) ∧ Below w.heap.size w w' := by
  have := digits_any n.toNat 2 w (by omega) (by omega)
  rw [dig2 n h0 h1, show ((n.toNat : Nat) : Int) = n from by omega] at this
  exact this
theorem digits4_any (n : Int) (w : World) (h0 : 0 ≤ n) (h1 : n < 10000) :
    Calls Tryz.prog 112 #[.int .i64 n, .int .i64 4] w fun e w' => e = .returned (.string (bs [digO (n.toNat / 1000), digO (n.toNat / 100 % 10), digO (n.toNat / 10 % 10), digO (n.toNat % 10)])) ∧ Below w.heap.size w w' := by
  have := digits_any n.toNat 4 w (by omega) (by omega)
  rw [dig4 n h0 h1, show ((n.toNat : Nat) : Int) = n from by omega] at this
  exact this

theorem rshort_any (w : World) : Calls Tryz.prog 111 #[] w fun e w' => ∃ A, e = .returned (.slice (some ⟨A, 0, none⟩) 7 7) ∧ Below w.heap.size w w' ∧ w'.heap[A]? = some (.cells (strs sDays) 9 (0, 0)) := by
  go_enter Tryz.func111, Tryz.ntmps111
  go_wp2_with fail
  go_ret
  exact ⟨w.heap.size, rfl, (Below.refl _ _).alloc (Nat.le_refl _) _, alloc_self w (strs sDays) _⟩
theorem rlong_any (w : World) : Calls Tryz.prog 115 #[] w fun e w' => ∃ A, e = .returned (.slice (some ⟨A, 0, none⟩) 7 7) ∧ Below w.heap.size w w' ∧ w'.heap[A]? = some (.cells (strs lDays) 9 (0, 0)) := by
  go_enter Tryz.func115, Tryz.ntmps115
  go_wp2_with fail
  go_ret
  exact ⟨w.heap.size, rfl, (Below.refl _ _).alloc (Nat.le_refl _) _, alloc_self w (strs lDays) _⟩
theorem rmonths_any (w : World) : Calls Tryz.prog 107 #[] w fun e w' => ∃ A, e = .returned (.slice (some ⟨A, 0, none⟩) 12 12) ∧ Below w.heap.size w w' ∧ w'.heap[A]? = some (.cells (strs sMonths) 9 (0, 0)) := by
  go_enter Tryz.func107, Tryz.ntmps107
  go_wp2_with fail
  go_ret
  exact ⟨w.heap.size, rfl, (Below.refl _ _).alloc (Nat.le_refl _) _, alloc_self w (strs sMonths) _⟩
theorem rweekday_any (n : Int) (A : Nat) (ns : List (List UInt8)) (l : List UInt8) (k : Nat) (w : World) (n0 : 0 ≤ n) (n1 : n ≤ 9000000) (hk : wdI n = k) (hl : ns.getD k [] = l) (h7 : ns.length = 7) (hA : w.heap[A]? = some (.cells (strs ns) 9 (0, 0))) :
    Calls Tryz.prog 109 #[.int .i64 n, .slice (some ⟨A, 0, none⟩) 7 7] w fun e w' => e = .returned (.string (bs l)) ∧ w = w' := by
  have hw : (n + 3) % 7 = k := hk
  have hk7 : k < 7 := by omega
  have hc := strs_getD hA (by rw [h7]; exact hk7) hl
  have hk0 : (k : Int) < 7 := by omega
  clear hk hl h7 hA
  go_enter Tryz.func109, Tryz.ntmps109
  go_wp2_with fail
  go_ret
  exact ⟨rfl, rfl⟩
end Go.Proofs.YtfobjaccpnondaaGreatDoor
