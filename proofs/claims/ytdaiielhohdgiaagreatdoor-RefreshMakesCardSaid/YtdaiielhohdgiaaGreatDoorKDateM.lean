/- The document's month. -/
import Derived.Test.YtdaiielhohdgiaaGreatDoorKDateN
namespace Go.Proofs.YtdaiielhohdgiaaGreatDoor
open Go.RowKit

theorem months_len : ∀ n ∈ sMonths, n.length = 3 := by decide
theorem pre_take {n l : List UInt8} (h : n.length = 3) : n.isPrefixOf l = (l.take 3 == n) := by
  rw [Bool.eq_iff_iff, List.isPrefixOf_iff_prefix, beq_iff_eq]
  constructor
  · rintro ⟨r, rfl⟩
    rw [← h, List.take_left']; rfl
  · intro e
    rw [← e]; exact List.take_prefix 3 l
theorem short_take {s : ByteArray} {a : Nat} {n : List UInt8} (h : n.length = 3) (hs : s.size < a + 3) : ((s.data.toList.drop a).take 3 == n) = false := by
  rw [beq_eq_false_iff_ne]
  intro e
  have := congrArg List.length e
  rw [h, List.length_take, List.length_drop, ← size_len] at this
  omega
set_option maxHeartbeats 2000000 in
theorem rmonth_any (s : ByteArray) (a : Nat) (w : World) (ha : a ≤ 3200000) :
    Calls Tryz.prog 48 #[.string s, .int .i64 a] w fun e w' => e = .returned (.int .i64 (monthAt s.data.toList a)) ∧ Below w.heap.size w w' := by
  go_enter Tryz.func48, Tryz.ntmps48
  go_wp2_with fail
  refine (rmonths_any _).mono ?_
  rintro e w1 ⟨A, rfl, hb1, hr1⟩
  have HB1 := Lib.hid hb1
  have HR1 := Lib.hid hr1
  clear hb1 hr1
  go_wp2_with fail
  go_loopw [6] (fun i wr => ∃ k : Nat, k ≤ 12 ∧ i = .int .i64 k ∧ Hid (leadGo k (sMonths.drop k) (s.data.toList.drop a) = leadL sMonths (s.data.toList.drop a)) ∧ Hid (Below w1.heap.size w1 wr)) (fun i _ => 12 - (intOf i).toNat)
  case atStart => exact ⟨0, Nat.zero_le _, rfl, rfl, Below.refl _ _⟩
  case round =>
    obtain ⟨k, hk, rfl, HG, HB⟩ := hrel
    by_cases hlt : k < 12
    · have hkl : k < sMonths.length := hlt
      have hc := strs_getD (k := k) (grown_block HR1.out HB.out) hkl rfl
      have hlt2 : (k : Int) < 12 := by omega
      by_cases hsz : s.size < a + 3
      · have hd : decide ((a : Int) + 3 ≤ (s.size : Int)) = false := decide_eq_false (by omega)
        go_wp2_with fail
        go_quiet (fail)
        go_wp2_with fail
        go_roundw
        case rel => exact ⟨k + 1, by omega, by go_num, by show _ = _; rw [← HG.out]; exact (lead_step hkl (by rw [pre_take (months_len _ (List.getElem_mem hkl))]; exact short_take (months_len _ (List.getElem_mem hkl)) hsz)).symm, below_drewN HB.out _⟩
        case measure => simp [intOf]; omega
      · have hd : decide ((a : Int) + 3 ≤ (s.size : Int)) = true := decide_eq_true (by omega)
        have hd2 : (a : Int) + 3 ≤ (s.size : Int) := by omega
        have ew : IntKind.i64.wrap ((a : Int) + 3) = (a : Int) + 3 := IntWalk.i64_in _ (by omega)
        have hE : ((s.extract a (a + 3)).toList == (bs sMonths[k]).toList) = sMonths[k].isPrefixOf (s.data.toList.drop a) := by
          rw [pre_take (months_len _ (List.getElem_mem hkl)), Lib.toList_data, Lib.toList_data, Lib.extract_data, bs_data]
          congr 2; omega
        cases hb : sMonths[k].isPrefixOf (s.data.toList.drop a)
        · rw [hb] at hE
          have HS := Lib.hid (lead_step hkl hb)
          clear hb
          go_wp2_with fail
          go_quiet (fail)
          go_wp2_with fail
          go_roundw
          case rel => exact ⟨k + 1, by omega, by go_num, by show _ = _; rw [← HS.out]; exact HG, below_drewN HB.out _⟩
          case measure => simp [intOf]; omega
        · rw [hb] at hE
          have HS := Lib.hid (lead_hit hkl hb)
          clear hb
          have HM : Hid (monthAt s.data.toList a = k + 1) := by
            have h3 := months_len _ (List.getElem_mem hkl)
            show _ = _
            unfold monthAt
            rw [← HG.out, HS.out, h3]; rfl
          go_wp2_with fail
          go_quiet (fail)
          go_wp2_with fail
          go_ret
          exact ⟨ret_numD (by rw [HM.out]; simp), HB1.out.trans ((below_drewN HB.out _).mono HB1.out.size)⟩
    · obtain rfl : k = 12 := by omega
      have HZ : Hid (monthAt s.data.toList a = 0) := by
        have := HG.out
        show _ = _
        unfold monthAt
        rw [← this]; rfl
      go_wp2_with fail
      go_ret
      exact ⟨ret_numD (by rw [HZ.out]; rfl), HB1.out.trans (HB.out.mono HB1.out.size)⟩
end Go.Proofs.YtdaiielhohdgiaaGreatDoor
