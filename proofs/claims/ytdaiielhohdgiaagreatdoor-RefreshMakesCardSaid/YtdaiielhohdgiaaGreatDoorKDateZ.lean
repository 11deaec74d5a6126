/- The document's time, Tick, Near. -/
import Derived.Test.YtdaiielhohdgiaaGreatDoorKDateM
namespace Go.Proofs.YtdaiielhohdgiaaGreatDoor
open Go.RowKit

theorem rnum_off (s : ByteArray) (a c k : Nat) (w : World) (hs : s.size ≤ 3000000) (hk0 : 0 < k) (hk : k ≤ 4) (hac : a + c ≤ 3200000) :
    Calls Tryz.prog 47 #[.string s, .int .i64 ((a : Int) + (c : Int)), .int .i64 k] w fun e w' => e = .returned (.int .i64 (numAt s.data.toList (a + c) k)) ∧ w = w' := by
  have := rnum_any s (a + c) k w hs hac hk0 hk
  rwa [Int.natCast_add] at this

set_option maxRecDepth 100000 in
set_option maxHeartbeats 2000000 in
theorem rtime_any (y m d h i sc : Int) (s : ByteArray) (a : Nat) (w : World) (hs : s.size ≤ 3000000) (ha : a ≤ 3100000) :
    Calls Tryz.prog 49 #[.agg #[.int .i64 y, .int .i64 m, .int .i64 d, .int .i64 h, .int .i64 i, .int .i64 sc], .string s, .int .i64 a] w fun e w' =>
      e = .returned (.agg #[.int .i64 y, .int .i64 m, .int .i64 d, .int .i64 (numAt s.data.toList a 2), .int .i64 (numAt s.data.toList (a + 3) 2), .int .i64 (numAt s.data.toList (a + 6) 2)]) ∧ Below w.heap.size w w' := by
  go_enter Tryz.func49, Tryz.ntmps49
  go_wp2_with fail
  refine (rnum_any s a 2 _ hs (by omega) (by omega) (by omega)).mono ?_
  rintro e w' ⟨rfl, rfl⟩
  go_wp2_with fail
  refine (rnum_off s a 3 2 _ hs (by omega) (by omega) (by omega)).mono ?_
  rintro e w' ⟨rfl, rfl⟩
  go_wp2_with fail
  refine (rnum_off s a 6 2 _ hs (by omega) (by omega) (by omega)).mono ?_
  rintro e w' ⟨rfl, rfl⟩
  go_wp2_with fail
  exact bodyPost_ret (v := .agg #[.int .i64 y, .int .i64 m, .int .i64 d, .int .i64 (numAt s.data.toList a 2), .int .i64 (numAt s.data.toList (a + 3) 2), .int .i64 (numAt s.data.toList (a + 6) 2)]) (by simp [results, Tryz.results49, go_sem]) rfl
    ⟨rfl, ((Below.refl _ _).alloc (Nat.le_refl _) _).alloc (by simp) _⟩

set_option maxRecDepth 100000 in
set_option maxHeartbeats 2000000 in
theorem rtick_any (y m d h i s : Int) (w : World) (y0 : 1970 ≤ y) (y1 : y ≤ 9999) (m0 : 0 ≤ m) (m1 : m ≤ 11) (d0 : 0 ≤ d) (d1 : d ≤ 99) (h0 : 0 ≤ h) (h1 : h ≤ 99) (i0 : 0 ≤ i) (i1 : i ≤ 99) (s0 : 0 ≤ s) (s1 : s ≤ 99) :
    Calls Tryz.prog 52 #[.agg #[.int .i64 y, .int .i64 (m + 1), .int .i64 d, .int .i64 h, .int .i64 i, .int .i64 s]] w fun e w' => e = .returned (.int .i64 ((aheadI y + cumI y m + d - 1) * 86400 + (h * 3600 + i * 60 + s))) ∧ Below w.heap.size w w' := by
  have a0 := ahead_lo y y0
  have a1 := ahead_hi y y0
  have c := cum_bd y m0 (by omega)
  have l := lp_bd y
  go_enter Tryz.func52, Tryz.ntmps52
  go_wp2_with fail
  have HP : Hid ((w.alloc (.cells (dtRow y (m + 1) d h i s) 84)).drew.heap[w.heap.size]? = some (.cells (dtRow y (m + 1) d h i s) 84 (0, 0))) := alloc_self _ _ _
  have HD0 : Hid (Below w.heap.size w (w.alloc (.cells (dtRow y (m + 1) d h i s) 84)).drew) := ((Below.refl _ _).alloc (Nat.le_refl _) _).drew
  refine wp_region_growL [(0, false), (3, false), (4, false), (5, false), (6, false), (7, false), (8, false), (9, false), (10, false), (11, false), (12, false), (1, true), (2, false), (13, false), (14, false)] (by kernel_rfl) (by kernel_rfl) rfl (by kernel_rfl) (by kernel_rfl) (fun ops hops => ?_)
  simp only [inOrder, List.getD_cons_zero, List.getD_cons_succ]
  clear hops
  iterate 11
    refine growL_take (by rfl) ?_
    apply Exists.intro
    refine ⟨fun w' hE => ?_, ?_⟩
    · obtain ⟨c0, c1, c2, c3, c4, c5⟩ := dt_at HP.out hE
      go_simp
      try with_reducible rfl
    simp only [Act.put, List.setIfInBounds_toArray, List.set_cons_zero, List.set_cons_succ]
  refine growL_call (by rfl) (fun K hK => ?_)
  go_simp
  refine (rcount_any y m d h i s _ y0 y1 m0 m1 d0 d1).mono ?_
  rintro e w1 ⟨rfl, hb1⟩
  refine hK.out _ _ hb1 ?_
  clear hK K
  have HD1 := Lib.hid (HD0.out.trans (hb1.mono HD0.out.size))
  clear hb1
  iterate 3
    refine growL_take (by rfl) ?_
    apply Exists.intro
    refine ⟨fun w' hE => ?_, ?_⟩
    · skip
      go_simp
      try with_reducible rfl
    simp only [Act.put, List.setIfInBounds_toArray, List.set_cons_zero, List.set_cons_succ]
  refine growL_done (NoPanic.normal ?_)
  simp only [Exit.then]
  go_wp2_with fail
  go_ret
  refine ⟨ret_numD ?_, HD1.out⟩
  have e1 := IntWalk.i64_in (3600 * h) (by omega)
  have e2 := IntWalk.i64_in (60 * i) (by omega)
  have e3 := IntWalk.i64_in (3600 * h + 60 * i) (by omega)
  have e4 := IntWalk.i64_in (3600 * h + 60 * i + s) (by omega)
  have e5 := IntWalk.i64_in ((aheadI y + cumI y m + d - 1) * 86400) (by omega)
  have e6 := IntWalk.i64_in ((aheadI y + cumI y m + d - 1) * 86400 + (3600 * h + 60 * i + s)) (by omega)
  rw [e1, e2, e3, e4, e5, e6]
  clear e1 e2 e3 e4 e5 e6
  omega

theorem field_y (a0 a1 a2 a3 a4 a5 : Int) (w : World) : (Instr.field 84 (.agg #[.int .i64 a0, .int .i64 a1, .int .i64 a2, .int .i64 a3, .int .i64 a4, .int .i64 a5]) 0).run Tryz.prog w = .ok (.int .i64 a0) w := by kernel_rfl
/-- the greatest year up to nw with these last two digits -/
def nearI (nw v : Int) : Int := nw - (nw - v) % 100
set_option maxRecDepth 100000 in
set_option maxHeartbeats 2000000 in
theorem rnear_any (v now y m d h i s : Int) (w : World) (v0 : 0 ≤ v) (v1 : v < 100) (H : IsT (clampI now) y m d h i s) :
    Calls Tryz.prog 53 #[.int .i64 v, .int .i64 now] w fun e w' => e = .returned (.int .i64 (nearI (y + 50) v)) ∧ Below w.heap.size w w' := by
  have hf := field_y
  have y0 := H.1.1
  have y1 := H.1.2.1
  have nr1 : nearI (y + 50) v ≤ y + 50 := by unfold nearI; omega
  have nr2 : y + 50 - 99 ≤ nearI (y + 50) v := by unfold nearI; omega
  have nr3 : nearI (y + 50) v % 100 = v := by unfold nearI; omega
  rcases Int.lt_or_le now 0 with g | g
  · rw [show clampI now = 0 from by unfold clampI; omega] at H
    have HH := Lib.hid H
    clear H
    go_enter Tryz.func53, Tryz.ntmps53
    go_wp2_with fail
    refine (rofD_any _ _ _ _ _ _ _ _ HH.out).mono ?_
    rintro e w1 ⟨rfl, hb⟩
    have HB := Lib.hid hb
    clear hb
    go_wp2_with fail
    go_loop [5] (fun x => ∃ z : Int, nearI (y + 50) v ≤ z ∧ z ≤ y + 50 ∧ x = .int .i64 z) (fun x => (intOf x - nearI (y + 50) v).toNat)
    case atStart => exact ⟨y + 50, by omega, by omega, rfl⟩
    case round =>
      obtain ⟨z, z0, z1, rfl⟩ := hrel
      by_cases hz : z = nearI (y + 50) v
      · subst hz
        have hq : (nearI (y + 50) v % 100 != v) = false := by rw [nr3]; simp
        go_wp2_with fail
        go_ret
        exact ⟨rfl, HB.out⟩
      · have hq : (z % 100 != v) = true := by rw [bne_iff_ne]; omega
        go_wp2_with fail
        go_round
        case rel => exact ⟨z - 1, by omega, by omega, rfl⟩
        case measure => simp [intOf]; omega
  · rcases Int.lt_or_le 253402300799 now with k | k
    · rw [show clampI now = 253402300799 from by unfold clampI; omega] at H
      have HH := Lib.hid H
      clear H
      go_enter Tryz.func53, Tryz.ntmps53
      go_wp2_with fail
      refine (rofD_any _ _ _ _ _ _ _ _ HH.out).mono ?_
      rintro e w1 ⟨rfl, hb⟩
      have HB := Lib.hid hb
      clear hb
      go_wp2_with fail
      go_loop [5] (fun x => ∃ z : Int, nearI (y + 50) v ≤ z ∧ z ≤ y + 50 ∧ x = .int .i64 z) (fun x => (intOf x - nearI (y + 50) v).toNat)
      case atStart => exact ⟨y + 50, by omega, by omega, rfl⟩
      case round =>
        obtain ⟨z, z0, z1, rfl⟩ := hrel
        by_cases hz : z = nearI (y + 50) v
        · subst hz
          have hq : (nearI (y + 50) v % 100 != v) = false := by rw [nr3]; simp
          go_wp2_with fail
          go_ret
          exact ⟨rfl, HB.out⟩
        · have hq : (z % 100 != v) = true := by rw [bne_iff_ne]; omega
          go_wp2_with fail
          go_round
          case rel => exact ⟨z - 1, by omega, by omega, rfl⟩
          case measure => simp [intOf]; omega
    · rw [show clampI now = now from by unfold clampI; omega] at H
      have HH := Lib.hid H
      clear H
      go_enter Tryz.func53, Tryz.ntmps53
      go_wp2_with fail
      refine (rofD_any _ _ _ _ _ _ _ _ HH.out).mono ?_
      rintro e w1 ⟨rfl, hb⟩
      have HB := Lib.hid hb
      clear hb
      go_wp2_with fail
      go_loop [5] (fun x => ∃ z : Int, nearI (y + 50) v ≤ z ∧ z ≤ y + 50 ∧ x = .int .i64 z) (fun x => (intOf x - nearI (y + 50) v).toNat)
      case atStart => exact ⟨y + 50, by omega, by omega, rfl⟩
      case round =>
        obtain ⟨z, z0, z1, rfl⟩ := hrel
        by_cases hz : z = nearI (y + 50) v
        · subst hz
          have hq : (nearI (y + 50) v % 100 != v) = false := by rw [nr3]; simp
          go_wp2_with fail
          go_ret
          exact ⟨rfl, HB.out⟩
        · have hq : (z % 100 != v) = true := by rw [bne_iff_ne]; omega
          go_wp2_with fail
          go_round
          case rel => exact ⟨z - 1, by omega, by omega, rfl⟩
          case measure => simp [intOf]; omega
end Go.Proofs.YtdaiielhohdgiaaGreatDoor
