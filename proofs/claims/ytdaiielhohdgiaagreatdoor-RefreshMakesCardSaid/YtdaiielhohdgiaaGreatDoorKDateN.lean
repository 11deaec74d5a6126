/- The document's num and month. -/
import Derived.Test.YtdaiielhohdgiaaGreatDoorKDateO
namespace Go.Proofs.YtdaiielhohdgiaaGreatDoor
open Go.RowKit

/-- the number that stands at a place; below 0: none does -/
def numAt (l : List UInt8) (a k : Nat) : Int := if numB (l.drop a) k then num ((l.drop a).take k) else -1
/-- the month whose name stands at a place; 0: none does -/
def monthAt (l : List UInt8) (a : Nat) : Nat := if (leadL sMonths (l.drop a)).2 = 0 then 0 else (leadL sMonths (l.drop a)).1 + 1
theorem numAt_no {l : List UInt8} {a k : Nat} (h : numB (l.drop a) k = false) : numAt l a k = -1 := by unfold numAt; rw [h]; rfl
theorem numAt_yes {l : List UInt8} {a k : Nat} (h : numB (l.drop a) k = true) : numAt l a k = num ((l.drop a).take k) := by unfold numAt; rw [if_pos h]
theorem at_drop {s : ByteArray} {a j : Nat} (h : a + j < s.size) : ((s.data.toList.drop a).take (j + 1)) = (s.data.toList.drop a).take j ++ [s[a + j]] := by
  have h1 : j < (s.data.toList.drop a).length := by rw [List.length_drop, ← size_len]; omega
  rw [List.take_succ_eq_append_getElem h1]
  congr 2
  rw [List.getElem_drop]; rfl

set_option maxHeartbeats 1000000 in
theorem rnum_any (s : ByteArray) (a k : Nat) (w : World) (hs : s.size ≤ 3000000) (ha : a ≤ 3200000) (hk0 : 0 < k) (hk : k ≤ 4) :
    Calls Tryz.prog 47 #[.string s, .int .i64 a, .int .i64 k] w fun e w' => e = .returned (.int .i64 (numAt s.data.toList a k)) ∧ w = w' := by
  by_cases hlen : s.size < a + k
  · have HV : Hid (numAt s.data.toList a k = -1) := by
      refine numAt_no ?_
      unfold numB
      rw [decide_eq_false (by rw [List.length_drop, ← size_len]; omega)]; rfl
    have hl2 : (s.size : Int) < (a : Int) + (k : Int) := by omega
    go_enter Tryz.func47, Tryz.ntmps47
    go_wp2_with fail
    go_ret
    exact ⟨ret_numD (by rw [HV.out]), rfl⟩
  · have hlen2 : (a : Int) + (k : Int) ≤ s.size := by omega
    go_enter Tryz.func47, Tryz.ntmps47
    go_wp2_with fail
    go_loop [7, 8] (fun n i => ∃ j : Nat, j ≤ k ∧ i = .int .i64 ((a + j : Nat) : Int) ∧ n = .int .i64 (num ((s.data.toList.drop a).take j)) ∧ Hid (((s.data.toList.drop a).take j).all digC = true)) (fun _ i => a + k - (intOf i).toNat)
    case atStart => exact ⟨0, Nat.zero_le _, rfl, rfl, rfl⟩
    case round =>
      obtain ⟨j, hj, rfl, rfl, HT⟩ := hrel
      have hbd := num_lt10 HT.out (List.length_take_le j _) (by omega)
      have HS : ∀ h : a + j < s.size, (s.data.toList.drop a).take (j + 1) = (s.data.toList.drop a).take j ++ [s[a + j]] := fun h => at_drop h
      obtain ⟨p, hp⟩ : ∃ p, a + j = p := ⟨_, rfl⟩
      by_cases hlt : j < k
      · have hlt2 : p < s.size := by omega
        have hlt3 : (p : Int) < (a : Int) + (k : Int) := by omega
        have hS : (s.data.toList.drop a).take (j + 1) = (s.data.toList.drop a).take j ++ [s[p]] := by subst hp; exact HS hlt2
        clear HS
        rw [hp]
        cases hb : digC s[p]
        · have HV : Hid (numAt s.data.toList a k = -1) := by
            refine numAt_no ?_
            unfold numB
            have : ((s.data.toList.drop a).take k).all digC = false := by
              rw [← Bool.not_eq_true, List.all_eq_true]
              intro h
              have h1 := h s[p] (List.mem_of_mem_take (i := j + 1) (by
                rw [List.take_take, show min (j + 1) k = j + 1 from by omega, hS]; simp))
              rw [hb] at h1; cases h1
            rw [this, Bool.and_false]
          have hc : (s[p].toNat : Int) < 48 ∨ 48 ≤ (s[p].toNat : Int) ∧ 57 < (s[p].toNat : Int) := by
            unfold digC at hb; have := of_decide_eq_false hb; omega
          clear hb hS
          have HP := Lib.hid hp
          clear hp
          rcases hc with hc | ⟨hc0, hc⟩
          · go_wp2_with fail
            go_ret
            exact ⟨ret_numD (by rw [HV.out]), rfl⟩
          · go_wp2_with fail
            go_ret
            exact ⟨ret_numD (by rw [HV.out]), rfl⟩
        · have HA : Hid (((s.data.toList.drop a).take (j + 1)).all digC = true) := by
            show _ = _
            rw [hS, List.all_append, HT.out]; simp [hb]
          have hd := dig_bd hb
          have hc0 : 48 ≤ (s[p].toNat : Int) := by omega
          have hc1 : (s[p].toNat : Int) ≤ 57 := by omega
          have HN : Hid ((num ((s.data.toList.drop a).take (j + 1)) : Int) = 10 * (num ((s.data.toList.drop a).take j) : Int) + ((s[p].toNat : Int) - 48)) := by
            show _ = _
            rw [hS, num_snoc]; omega
          clear hb hd hS
          have HP := Lib.hid hp
          clear hp
          go_wp2_with fail
          go_round
          case rel => exact ⟨j + 1, by omega, by rw [← HP.out]; go_num, by rw [HN.out], HA⟩
          case measure => have := HP.out; simp [intOf]; omega
      · obtain rfl : j = k := by omega
        have HV : Hid (numAt s.data.toList a j = num ((s.data.toList.drop a).take j)) := by
          refine numAt_yes ?_
          unfold numB
          rw [HT.out, decide_eq_true (by rw [List.length_drop, ← size_len]; omega)]; rfl
        clear HS hp
        go_wp2_with fail
        go_ret
        exact ⟨ret_numD (by rw [HV.out]), rfl⟩
end Go.Proofs.YtdaiielhohdgiaaGreatDoor
