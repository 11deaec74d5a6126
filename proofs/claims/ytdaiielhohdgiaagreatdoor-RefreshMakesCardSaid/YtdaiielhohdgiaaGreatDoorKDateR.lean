/- The document's calendar: Leap, Days, Count, Of. -/
import Derived.Test.YtdaiielhohdgiaaGreatDoorKBytes
import Derived.Test.YtdaiielhohdgiaaGreatDoorKDateQ
namespace Go.Proofs.YtdaiielhohdgiaaGreatDoor
open Go.RowKit

theorem step_div (y : Int) (k : Int) (hk : k = 4 ∨ k = 100 ∨ k = 400) : y / k - (y - 1) / k = if y % k = 0 then 1 else 0 := by
  rcases hk with rfl | rfl | rfl <;> split <;> omega
theorem lp_if (y : Int) : lpI y = (if y % 4 = 0 then 1 else 0) - (if y % 100 = 0 then 1 else 0) + (if y % 400 = 0 then 1 else 0) := by
  have a := step_div y 4 (by simp)
  have b := step_div y 100 (by simp)
  have c := step_div y 400 (by simp)
  unfold lpI leapsI
  rw [show y + 1 - 1 = y from by omega, ← a, ← b, ← c]
  omega
theorem lp_key (y : Int) : (lpI y == 1) = (y % 400 == 0 || (y % 4 == 0 && !(y % 100 == 0))) := by
  rw [lp_if]
  by_cases a : y % 400 = 0
  · have b : y % 4 = 0 := by omega
    have c : y % 100 = 0 := by omega
    simp [a, b, c]
  · by_cases b : y % 4 = 0
    · by_cases c : y % 100 = 0
      · simp [a, b, c]
      · simp [a, b, c]
    · have c : ¬ y % 100 = 0 := by omega
      simp [a, b, c]
theorem rleap_any (y : Int) (w : World) (h0 : 0 ≤ y) (h1 : y ≤ 20000) :
    Calls Tryz.prog 108 #[.int .i64 y] w fun e w' => e = .returned (.bool (lpI y == 1)) ∧ w = w' := by
  have key := lp_key y
  rw [key]
  cases a : (y % 400 == 0) <;> cases b : (y % 4 == 0) <;> cases c : (y % 100 == 0)
  all_goals
    have c2 : (y % 100 != 0) = !(y % 100 == 0) := rfl
    rw [c] at c2
    simp only [Bool.not_true, Bool.not_false] at c2
    go_enter Tryz.func108, Tryz.ntmps108
    go_wp2_with fail
    go_ret
    exact ⟨rfl, rfl⟩

def domRow : Array Value := #[.int .i64 31, .int .i64 28, .int .i64 31, .int .i64 30, .int .i64 31, .int .i64 30, .int .i64 31, .int .i64 31, .int .i64 30, .int .i64 31, .int .i64 30, .int .i64 31]
set_option maxHeartbeats 2000000 in
theorem rdays_any (y m : Int) (w : World) (y0 : 0 ≤ y) (y1 : y ≤ 19999) (m0 : 0 ≤ m) (m1 : m ≤ 11) :
    Calls Tryz.prog 82 #[.int .i64 y, .int .i64 (m + 1)] w fun e w' => e = .returned (.int .i64 (domI y m)) ∧ Below w.heap.size w w' := by
  have l := lp_bd y
  rcases month_cases m0 m1 with rfl | rfl | rfl | rfl | rfl | rfl | rfl | rfl | rfl | rfl | rfl | rfl
  case inr.inl =>
    rcases (show lpI y = 0 ∨ lpI y = 1 by omega) with h | h
    · have hb : (lpI y == 1) = false := by rw [h]; rfl
      have HD : Hid (domI y 1 = 28) := by show _ = _; unfold domI; rw [if_pos rfl, h]; rfl
      clear h
      go_enter Tryz.func82, Tryz.ntmps82
      go_wp2_with (go_at_call 108; refine (rleap_any _ _ y0 (by omega)).mono ?_; rintro e w' ⟨rfl, rfl⟩)
      go_ret
      exact ⟨ret_numD HD.out.symm, (Below.refl _ _).alloc (Nat.le_refl _) _⟩
    · have hb : (lpI y == 1) = true := by rw [h]; rfl
      have HD : Hid (domI y 1 = 29) := by show _ = _; unfold domI; rw [if_pos rfl, h]; rfl
      clear h
      go_enter Tryz.func82, Tryz.ntmps82
      go_wp2_with (go_at_call 108; refine (rleap_any _ _ y0 (by omega)).mono ?_; rintro e w' ⟨rfl, rfl⟩)
      go_ret
      exact ⟨ret_numD HD.out.symm, (Below.refl _ _).alloc (Nat.le_refl _) _⟩
  all_goals
    go_enter Tryz.func82, Tryz.ntmps82
    go_wp2_with (go_at_call 108; refine (rleap_any _ _ y0 (by omega)).mono ?_; rintro e w' ⟨rfl, rfl⟩)
    go_ret
    exact ⟨ret_numD (by unfold domI; rfl), (Below.refl _ _).alloc (Nat.le_refl _) _⟩

end Go.Proofs.YtdaiielhohdgiaaGreatDoor

/- The document's calendar: Count, Of. -/
namespace Go.Proofs.YtdaiielhohdgiaaGreatDoor
open Go.RowKit
/-- the document's date, as a row of cells -/
def dtRow (y m d h i s : Int) : Array Value := #[.int .i64 y, .int .i64 m, .int .i64 d, .int .i64 h, .int .i64 i, .int .i64 s]
/-- such a row lies in block b, and what lay below b is as it was -/
def DtAt (b : Nat) (row : Array Value) (w0 w : World) : Prop := w.heap[b]? = some (.cells row 84 (0, 0)) ∧ Below b w0 w
theorem DtAt.step {b : Nat} {row : Array Value} {w0 w w' : World} (h : DtAt b row w0 w) (hb : Below w.heap.size w w') : DtAt b row w0 w' := by
  have hlt : b < w.heap.size := lt_of_block h.1
  exact ⟨(hb.block b hlt).trans h.1, h.2.trans (hb.mono (by omega))⟩
theorem DtAt.boxed (w : World) (row : Array Value) : DtAt w.heap.size row w (w.alloc (.cells row 84)) := ⟨alloc_self _ _ _, (Below.refl _ _).alloc (Nat.le_refl _) _⟩
theorem dt_cells {b : Nat} {y m d h i s : Int} {w : World} (H : w.heap[b]? = some (.cells (dtRow y m d h i s) 84 (0, 0))) :
    w.cell? ⟨b, 0, none⟩ = some (.int .i64 y) ∧ w.cell? ⟨b, 1, none⟩ = some (.int .i64 m) ∧ w.cell? ⟨b, 2, none⟩ = some (.int .i64 d) ∧ w.cell? ⟨b, 3, none⟩ = some (.int .i64 h) ∧
    w.cell? ⟨b, 4, none⟩ = some (.int .i64 i) ∧ w.cell? ⟨b, 5, none⟩ = some (.int .i64 s) := by
  refine ⟨?_, ?_, ?_, ?_, ?_, ?_⟩ <;> simp [World.cell?, H, dtRow]

set_option maxHeartbeats 2000000 in
theorem rcount_any (y m d h i s : Int) (w : World) (y0 : 1970 ≤ y) (y1 : y ≤ 9999) (m0 : 0 ≤ m) (m1 : m ≤ 11) (d0 : 0 ≤ d) (d1 : d ≤ 99) :
    Calls Tryz.prog 84 #[.agg #[.int .i64 y, .int .i64 (m + 1), .int .i64 d, .int .i64 h, .int .i64 i, .int .i64 s]] w fun e w' => e = .returned (.int .i64 (aheadI y + cumI y m + d - 1)) ∧ Below w.heap.size w w' := by
  have a0 := ahead_lo y y0
  have a1 := ahead_hi y y0
  go_enter Tryz.func84, Tryz.ntmps84
  go_wp2_with fail
  go_loop [3, 4] (fun n k => ∃ j : Int, 1970 ≤ j ∧ j ≤ y ∧ k = .int .i64 j ∧ n = .int .i64 (aheadI j + d - 1)) (fun _ k => (y - intOf k).toNat)
  case atStart => exact ⟨1970, by omega, y0, rfl, by rw [ahead_1970, Int.zero_add]⟩
  case round =>
    obtain ⟨j, j0, j1, rfl, rfl⟩ := hrel
    have b0 := ahead_lo j j0
    have b1 := ahead_hi j j0
    by_cases hlt : j < y
    · have l := lp_bd j
      rcases (show lpI j = 0 ∨ lpI j = 1 by omega) with hl | hl
      · have hb : (lpI j == 1) = false := by rw [hl]; rfl
        have HS : Hid (aheadI (j + 1) = aheadI j + 365) := by show _ = _; rw [ahead_succ, hl]; omega
        clear hl
        go_wp2_with (go_at_call 108; refine (rleap_any _ _ (by omega) (by omega)).mono ?_; rintro e w' ⟨rfl, rfl⟩)
        go_round
        case rel => exact ⟨j + 1, by omega, by omega, rfl, by rw [HS.out]; congr 1; omega⟩
        case measure => simp [intOf]; omega
      · have hb : (lpI j == 1) = true := by rw [hl]; rfl
        have HS : Hid (aheadI (j + 1) = aheadI j + 365 + 1) := by show _ = _; rw [ahead_succ, hl]
        clear hl
        go_wp2_with (go_at_call 108; refine (rleap_any _ _ (by omega) (by omega)).mono ?_; rintro e w' ⟨rfl, rfl⟩)
        go_round
        case rel => exact ⟨j + 1, by omega, by omega, rfl, by rw [HS.out]; congr 1; omega⟩
        case measure => simp [intOf]; omega
    · obtain rfl : j = y := by omega
      go_wp2_with fail
      go_loopw [3, 5] (fun n k wr => ∃ c : Int, 0 ≤ c ∧ c ≤ m ∧ k = .int .i64 (c + 1) ∧ n = .int .i64 (aheadI j + cumI j c + d - 1) ∧ Hid (DtAt w.heap.size (dtRow j (m + 1) d h i s) w wr)) (fun _ k _ => (m + 1 - intOf k).toNat)
      case atStart => exact ⟨0, by omega, m0, rfl, by rw [cum_zero, Int.add_zero], DtAt.boxed w (dtRow j (m + 1) d h i s)⟩
      case round =>
        obtain ⟨c, c0, c1, rfl, rfl, HB⟩ := hrel
        obtain ⟨k0, k1, k2, k3, k4, k5⟩ := dt_cells HB.out.1
        have cb := cum_bd j c0 (by omega)
        have db := dom_bd j c
        have lb := lp_bd j
        by_cases hcm : c < m
        · have HC := Lib.hid (cum_succ j c0 (by omega))
          go_wp2_with fail
          refine (rdays_any j c _ (by omega) (by omega) c0 (by omega)).mono ?_
          rintro e w2 ⟨rfl, hb2⟩
          have HB2 := Lib.hid (HB.out.step hb2)
          clear hb2
          go_wp2_with fail
          go_roundw
          case rel => exact ⟨c + 1, by omega, by omega, rfl, by rw [HC.out]; congr 1; omega, HB2⟩
          case measure => simp [intOf]; omega
        · obtain rfl : c = m := by omega
          go_wp2_with fail
          go_ret
          exact ⟨rfl, HB.out.2⟩
end Go.Proofs.YtdaiielhohdgiaaGreatDoor

/- The document's Of. -/
namespace Go.Proofs.YtdaiielhohdgiaaGreatDoor
open Go.RowKit

theorem set_block {w : World} {b k : Nat} {c : Array Value} {T : TypeId} {fz : Nat × Nat} (h : w.heap[b]? = some (.cells c T fz)) (v : Value) : (w.setCell ⟨b, k, none⟩ v).heap[b]? = some (.cells (c.setIfInBounds k v) T fz) := by
  have hlt := lt_of_block h
  have h' : w.heap[b] = .cells c T fz := by simpa [Array.getElem?_eq_getElem hlt] using h
  show (w.heap.modify b _)[b]? = _
  rw [Array.getElem?_eq_getElem (by simpa using hlt), Array.getElem_modify_self, h']
  rfl
theorem set_other {w : World} {b b' k : Nat} {o : Obj} (h : w.heap[b]? = some o) (hb : b ≠ b') (v : Value) : (w.setCell ⟨b', k, none⟩ v).heap[b]? = some o :=
  (Below.heap_setCell _ _ _ _ hb).trans h
theorem dt_free {b : Nat} {y m d h i s : Int} {w : World} (H : w.heap[b]? = some (.cells (dtRow y m d h i s) 84 (0, 0))) (k : Nat) : w.frozen? ⟨b, k, none⟩ = false := by
  simp [World.frozen?, H]
/-- two blocks: the result's, and the date in the making -/
def twoDt (w : World) (y m d h i s : Int) : World := (w.alloc (.cells (dtRow 0 0 0 0 0 0) 84)).alloc (.cells (dtRow y m d h i s) 84)
def OfR (w : World) (y m d h i s : Int) (wr : World) : Prop :=
  wr.heap[w.heap.size]? = some (.cells (dtRow 0 0 0 0 0 0) 84 (0, 0)) ∧ wr.heap[w.heap.size + 1]? = some (.cells (dtRow y m d h i s) 84 (0, 0)) ∧ Below w.heap.size w wr
theorem OfR.start (w : World) (y m d h i s : Int) : OfR w y m d h i s (twoDt w y m d h i s) := by
  refine ⟨?_, ?_, ((Below.refl _ _).alloc (Nat.le_refl _) _).alloc (by simp) _⟩
  · exact (Below.heap_alloc _ _ _ (by simp)).trans (alloc_self _ _ _)
  · have := alloc_self (w.alloc (.cells (dtRow 0 0 0 0 0 0) 84)) (dtRow y m d h i s) 84
    simpa [twoDt] using this
theorem OfR.step {w wr w' : World} {y m d h i s : Int} (H : OfR w y m d h i s wr) (hb : Below wr.heap.size wr w') : OfR w y m d h i s w' := by
  have h1 := lt_of_block H.2.1
  exact ⟨grown_block H.1 hb, grown_block H.2.1 hb, H.2.2.trans (hb.mono (by omega))⟩
theorem OfR.set {w wr : World} {y m d h i s y' m' d' : Int} (H : OfR w y m d h i s wr) (k : Nat) (v : Value) (hv : (dtRow y m d h i s).setIfInBounds k v = dtRow y' m' d' h i s) : OfR w y' m' d' h i s (wr.setCell ⟨w.heap.size + 1, k, none⟩ v) :=
  ⟨set_other H.1 (by omega) v, by rw [← hv]; exact set_block H.2.1 v, H.2.2.setCell (by simp) v⟩

set_option maxRecDepth 100000 in
set_option maxHeartbeats 4000000 in
theorem rofD_any (t y m d h i s : Int) (w : World) (H : IsT t y m d h i s) :
    Calls Tryz.prog 88 #[.int .i64 t] w fun e w' => e = .returned (.agg #[.int .i64 y, .int .i64 (m + 1), .int .i64 d, .int .i64 h, .int .i64 i, .int .i64 s]) ∧ Below w.heap.size w w' := by
  obtain ⟨t0, t1⟩ := H.bd
  obtain ⟨n0, n1⟩ := H.1.bd
  obtain ⟨q0, q1⟩ := H.1.in_year
  obtain ⟨r0, r1⟩ := H.1.in_month
  obtain ⟨hD, eh, ei, es⟩ := H
  obtain ⟨y0, y1, m0, m1, d0, d1, hd⟩ := hD
  obtain ⟨k, hk⟩ : ∃ k, t % 86400 = k := ⟨_, rfl⟩
  obtain ⟨n, hn⟩ : ∃ n, t / 86400 = n := ⟨_, rfl⟩
  have k0 : 0 ≤ k := by omega
  have k1 : k < 86400 := by omega
  have es' : s = k % 60 := by omega
  rw [hk] at eh ei
  rw [hn] at n0 n1 q0 q1 r0 r1 hd
  clear es
  subst eh ei es'
  have HN := Lib.hid hd
  clear hd
  go_enter Tryz.func88, Tryz.ntmps88
  go_wp2_with fail
  have HE := Lib.hid hn
  clear hk hn
  go_loopg [3] ((y - 1970).toNat) (fun c v wr => ∃ j : Int, j + (c : Int) = y ∧ 1970 ≤ j ∧ v = .int .i64 (n - aheadI j) ∧ wr = twoDt w j 1 0 (k / 3600) (k / 60 % 60) (k % 60))
  case atStart => exact ⟨1970, by omega, by omega, by rw [ahead_1970, Int.sub_zero, HE.out], rfl⟩
  case round =>
    obtain ⟨j, hj, j0, rfl, hw⟩ := hrel
    subst hw
    unfold twoDt dtRow
    have b0 := ahead_lo j j0
    have b1 := ahead_hi j j0
    have l := lp_bd j
    rcases Nat.eq_zero_or_pos gk with hz | hz
    · subst hz
      obtain rfl : j = y := by omega
      have hlt : n - aheadI j < 365 + lpI j := by have := ahead_succ j; omega
      rcases (show lpI j = 0 ∨ lpI j = 1 by omega) with hl | hl
      all_goals
        first
          | (have hb : (lpI j == 1) = false := by rw [hl]; rfl)
          | (have hb : (lpI j == 1) = true := by rw [hl]; rfl)
        rw [hl] at hlt
        first
          | (have hlt2 : n - aheadI j < 365 := by omega
             have hlt3 : decide (n - aheadI j < 365) = true := decide_eq_true hlt2)
          | (have hlt2 : n - aheadI j < 366 := by omega
             have hlt3 : decide (n - aheadI j < 366) = true := decide_eq_true hlt2)
        clear hl hlt
        go_wp2_with (go_at_call 108; refine (rleap_any _ _ (by omega) (by omega)).mono ?_; rintro e w' ⟨rfl, rfl⟩)
        go_loopg [3] (m.toNat) (fun c v wr => ∃ x : Int, 0 ≤ x ∧ x + (c : Int) = m ∧ v = .int .i64 (n - aheadI j - cumI j x) ∧ Hid (OfR w j (x + 1) 0 (k / 3600) (k / 60 % 60) (k % 60) wr))
        case atStart => exact ⟨0, by omega, by omega, by rw [cum_zero, Int.sub_zero], OfR.start w j 1 0 _ _ _⟩
        case round =>
          obtain ⟨x, x0, x1, rfl, HO⟩ := hrel
          obtain ⟨c0, c1, c2, c3, c4, c5⟩ := dt_cells HO.out.2.1
          have cb := cum_bd j x0 (by omega)
          have db := dom_bd j x
          have lb := lp_bd j
          rcases Nat.eq_zero_or_pos gk with hz | hz
          · subst hz
            obtain rfl : x = m := by omega
            have hlt : n - aheadI j - cumI j x < domI j x := by
              have := cum_succ j x0 m1
              omega
            go_wp2_with fail
            refine (rdays_any j x _ (by omega) (by omega) x0 m1).mono ?_
            rintro e w2 ⟨rfl, hb2⟩
            have HO2 := Lib.hid (HO.out.step hb2)
            clear hb2 c0 c1 c2 c3 c4 c5
            obtain ⟨c0, c1, c2, c3, c4, c5⟩ := dt_cells HO2.out.2.1
            obtain ⟨z0, z1, z2, z3, z4, z5⟩ := dt_cells HO2.out.1
            have f2 := dt_free HO2.out.2.1 2
            have g0 := dt_free HO2.out.1 0
            have g1 := dt_free HO2.out.1 1
            have g2 := dt_free HO2.out.1 2
            have g3 := dt_free HO2.out.1 3
            have g4 := dt_free HO2.out.1 4
            have g5 := dt_free HO2.out.1 5
            go_wp2_with fail
            have e : n - aheadI j - cumI j x + 1 = d := by have := HN.out; omega
            have R : (((((((w2.setCell ⟨w.heap.size + 1, 2, none⟩ (.int .i64 (n - aheadI j - cumI j x + 1))).setCell ⟨w.heap.size, 0, none⟩ (.int .i64 j)).setCell ⟨w.heap.size, 1, none⟩ (.int .i64 (x + 1))).setCell ⟨w.heap.size, 2, none⟩ (.int .i64 (n - aheadI j - cumI j x + 1))).setCell
                ⟨w.heap.size, 3, none⟩ (.int .i64 (k / 3600))).setCell ⟨w.heap.size, 4, none⟩ (.int .i64 (k / 60 % 60))).setCell ⟨w.heap.size, 5, none⟩ (.int .i64 (k % 60))).heap[w.heap.size]? = some (.cells (dtRow j (x + 1) (n - aheadI j - cumI j x + 1) (k / 3600) (k / 60 % 60) (k % 60)) 84 (0, 0)) :=
              set_block (set_block (set_block (set_block (set_block (set_block (set_other HO2.out.1 (by omega) _) _) _) _) _) _) _
            have HB := Lib.hid (((((((HO2.out.2.2.setCell (p := ⟨w.heap.size + 1, 2, none⟩) (by simp) (.int .i64 (n - aheadI j - cumI j x + 1))).setCell (p := ⟨w.heap.size, 0, none⟩) (by simp) (.int .i64 j)).setCell (p := ⟨w.heap.size, 1, none⟩) (by simp) (.int .i64 (x + 1))).setCell (p := ⟨w.heap.size, 2, none⟩) (by simp) (.int .i64 (n - aheadI j - cumI j x + 1))).setCell
                (p := ⟨w.heap.size, 3, none⟩) (by simp) (.int .i64 (k / 3600))).setCell (p := ⟨w.heap.size, 4, none⟩) (by simp) (.int .i64 (k / 60 % 60))).setCell (p := ⟨w.heap.size, 5, none⟩) (by simp) (.int .i64 (k % 60)))
            clear z0 z1 z2 z3 z4 z5 c0 c1 c2 c3 c4 c5
            obtain ⟨z0, z1, z2, z3, z4, z5⟩ := dt_cells R
            clear R
            rw [← e]
            exact bodyPost_ret (v := .agg #[.int .i64 j, .int .i64 (x + 1), .int .i64 (n - aheadI j - cumI j x + 1), .int .i64 (k / 3600), .int .i64 (k / 60 % 60), .int .i64 (k % 60)]) (by simp only [results, Tryz.results88]; simp [go_sem, z0, z1, z2, z3, z4, z5]) rfl ⟨rfl, HB.out⟩
          · have hge : domI j x ≤ n - aheadI j - cumI j x := by
              have h1 := cum_succ j x0 (by omega)
              have h2 := cum_mono j x0 (show x < m by omega) (by omega)
              omega
            have HC := Lib.hid (cum_succ j x0 (by omega))
            go_wp2_with fail
            refine (rdays_any j x _ (by omega) (by omega) x0 (by omega)).mono ?_
            rintro e w2 ⟨rfl, hb2⟩
            have HO2 := Lib.hid (HO.out.step hb2)
            clear hb2 c0 c1 c2 c3 c4 c5
            obtain ⟨c0, c1, c2, c3, c4, c5⟩ := dt_cells HO2.out.2.1
            go_wp2_with fail
            refine (rdays_any j x _ (by omega) (by omega) x0 (by omega)).mono ?_
            rintro e w3 ⟨rfl, hb3⟩
            have HO3 := Lib.hid (HO2.out.step hb3)
            clear hb3 c0 c1 c2 c3 c4 c5
            obtain ⟨c0, c1, c2, c3, c4, c5⟩ := dt_cells HO3.out.2.1
            have f1 := dt_free HO3.out.2.1 1
            go_wp2_with fail
            go_roundg (gk - 1)
            case rel => exact ⟨x + 1, by omega, by omega, by rw [HC.out, Int.sub_sub], HO3.out.set 1 _ rfl⟩
            case measure => omega
    · have hge : 365 + lpI j ≤ n - aheadI j := by
        have h1 := ahead_succ j
        have h2 := ahead_mono (show j < y by omega)
        omega
      rcases (show lpI j = 0 ∨ lpI j = 1 by omega) with hl | hl
      all_goals
        have HS := Lib.hid (ahead_succ j)
        have HL := Lib.hid hl
        first
          | (have hb : (lpI j == 1) = false := by rw [hl]; rfl)
          | (have hb : (lpI j == 1) = true := by rw [hl]; rfl)
        rw [hl] at hge
        clear hl
        go_wp2_with (go_at_call 108; refine (rleap_any _ _ (by omega) (by omega)).mono ?_; rintro e w' ⟨rfl, rfl⟩)
        go_roundg (gk - 1)
        case rel => exact ⟨j + 1, by omega, by omega, by rw [HS.out, HL.out]; congr 1; omega, rfl⟩
        case measure => omega
end Go.Proofs.YtdaiielhohdgiaaGreatDoor

/- The document's Digits, names, weekday, clock. -/
namespace Go.Proofs.YtdaiielhohdgiaaGreatDoor
open Go.RowKit

/-- the last k digits of n -/
def digL : Nat → Nat → List UInt8
  | _, 0 => []
  | n, k + 1 => digL (n / 10) k ++ [digO (n % 10)]
theorem one_backD (w : World) (c : Int) (h0 : 0 ≤ c) (h1 : c < 256) :
    (convert 67 9 (.slice (some ⟨w.heap.size, 0, none⟩) 1 1)).run Tryz.prog (w.alloc (.cells #[.int .u8 c] 5)) = .ok (.string (bs [UInt8.ofNat c.toNat])) (w.alloc (.cells #[.int .u8 c] 5)) :=
  (ownB_lit w 0 c (UInt8.ofNat c.toNat) (by rw [UInt8.toNat_ofNat']; omega) (Nat.zero_le _)).back
theorem dig_intD (k : Nat) : UInt8.ofNat (48 + (k : Int) % 10).toNat = digO (k % 10) := by
  unfold digO; congr 1
theorem one_digit (w : World) (k : Nat) :
    (convert 67 9 (.slice (some ⟨w.heap.size, 0, none⟩) 1 1)).run Tryz.prog (w.alloc (.cells #[.int .u8 (48 + (k : Int) % 10)] 5)) = .ok (.string (bs [digO (k % 10)])) (w.alloc (.cells #[.int .u8 (48 + (k : Int) % 10)] 5)) := by
  rw [← dig_intD k]; exact one_backD w _ (by omega) (by omega)
/-- what is left to write, with what is written behind it -/
def digR (n k i n' : Nat) (l : List UInt8) : Prop := digL n k = digL n' (k - i) ++ l ∧ l.length = i ∧ n' ≤ n
theorem digR.next {n k i n' : Nat} {l : List UInt8} (h : digR n k i n' l) (hi : i < k) : digR n k (i + 1) (n' / 10) (digO (n' % 10) :: l) := by
  obtain ⟨a, b, c⟩ := h
  refine ⟨?_, by simp [b], by omega⟩
  rw [a, show k - i = k - (i + 1) + 1 from by omega, digL, List.append_assoc]; rfl

set_option maxHeartbeats 1000000 in
theorem digits_any (n k : Nat) (w : World) (hn : n < 1000000000) (hk : k ≤ 4) :
    Calls Tryz.prog 86 #[.int .i64 n, .int .i64 k] w fun e w' => e = .returned (.string (bs (digL n k))) ∧ Below w.heap.size w w' := by
  go_enter Tryz.func86, Tryz.ntmps86
  go_wp2_with fail
  go_loopw [0, 5, 6] (fun m s j wr => ∃ (i n' : Nat) (l : List UInt8), j = .int .i64 i ∧ i ≤ k ∧ m = .int .i64 n' ∧ s = .string (bs l) ∧ Hid (digR n k i n' l) ∧ Below w.heap.size w wr) (fun _ _ j _ => k - (intOf j).toNat)
  case atStart => exact ⟨0, n, [], rfl, Nat.zero_le _, rfl, rfl, ⟨by simp, rfl, Nat.le_refl _⟩, Below.refl _ _⟩
  case round =>
    obtain ⟨i, n', l, rfl, hi, rfl, rfl, HR, hb⟩ := hrel
    have hl : l.length ≤ 4 := by have := HR.out.2.1; omega
    have hn' := HR.out.2.2
    by_cases hlt : i < k
    · have k3 : ¬ 9223372036854775807 < 1 + l.length := by omega
      have hcv := one_digit wr n'
      have hap := bs_appendD [digO (n' % 10)] l
      go_wp2_with fail
      go_roundw
      case rel => exact ⟨i + 1, n' / 10, _, by go_num, by omega, by go_num, rfl, HR.out.next hlt, hb.alloc hb.size _⟩
      case measure => simp [intOf]; omega
    · obtain rfl : i = k := by omega
      have HD : Hid (digL n i = l) := by show _ = _; rw [HR.out.1, Nat.sub_self]; rfl
      go_wp2_with fail
      go_ret
      exact ⟨by rw [HD.out]; rfl, hb⟩
theorem dig2 (n : Int) (h0 : 0 ≤ n) (h1 : n < 100) : digL n.toNat 2 = pad2 n := by
  simp only [digL, pad2, List.nil_append]
  rw [show n.toNat / 10 % 10 = n.toNat / 10 from by omega]; rfl
theorem dig4 (n : Int) (h0 : 0 ≤ n) (h1 : n < 10000) : digL n.toNat 4 = pad4 n := by
  simp only [digL, pad4, List.nil_append]
  rw [show n.toNat / 10 / 10 / 10 % 10 = n.toNat / 1000 from by omega, show n.toNat / 10 / 10 % 10 = n.toNat / 100 % 10 from by omega]; rfl
theorem digits2_any (n : Int) (w : World) (h0 : 0 ≤ n) (h1 : n < 100) :
    Calls Tryz.prog 86 #[.int .i64 n, .int .i64 2] w fun e w' => e = .returned (.string (bs [digO (n.toNat / 10), digO (n.toNat % 10)])) ∧ Below w.heap.size w w' := by
  have := digits_any n.toNat 2 w (by omega) (by omega)
  rw [dig2 n h0 h1, show ((n.toNat : Nat) : Int) = n from by omega] at this
  exact this
theorem digits4_any (n : Int) (w : World) (h0 : 0 ≤ n) (h1 : n < 10000) :
    Calls Tryz.prog 86 #[.int .i64 n, .int .i64 4] w fun e w' => e = .returned (.string (bs [digO (n.toNat / 1000), digO (n.toNat / 100 % 10), digO (n.toNat / 10 % 10), digO (n.toNat % 10)])) ∧ Below w.heap.size w w' := by
  have := digits_any n.toNat 4 w (by omega) (by omega)
  rw [dig4 n h0 h1, show ((n.toNat : Nat) : Int) = n from by omega] at this
  exact this

theorem rshort_any (w : World) : Calls Tryz.prog 85 #[] w fun e w' => ∃ A, e = .returned (.slice (some ⟨A, 0, none⟩) 7 7) ∧ Below w.heap.size w w' ∧ w'.heap[A]? = some (.cells (strs sDays) 9 (0, 0)) := by
  go_enter Tryz.func85, Tryz.ntmps85
  go_wp2_with fail
  go_ret
  exact ⟨w.heap.size, rfl, (Below.refl _ _).alloc (Nat.le_refl _) _, alloc_self w (strs sDays) _⟩
theorem rlong_any (w : World) : Calls Tryz.prog 89 #[] w fun e w' => ∃ A, e = .returned (.slice (some ⟨A, 0, none⟩) 7 7) ∧ Below w.heap.size w w' ∧ w'.heap[A]? = some (.cells (strs lDays) 9 (0, 0)) := by
  go_enter Tryz.func89, Tryz.ntmps89
  go_wp2_with fail
  go_ret
  exact ⟨w.heap.size, rfl, (Below.refl _ _).alloc (Nat.le_refl _) _, alloc_self w (strs lDays) _⟩
theorem rmonths_any (w : World) : Calls Tryz.prog 81 #[] w fun e w' => ∃ A, e = .returned (.slice (some ⟨A, 0, none⟩) 12 12) ∧ Below w.heap.size w w' ∧ w'.heap[A]? = some (.cells (strs sMonths) 9 (0, 0)) := by
  go_enter Tryz.func81, Tryz.ntmps81
  go_wp2_with fail
  go_ret
  exact ⟨w.heap.size, rfl, (Below.refl _ _).alloc (Nat.le_refl _) _, alloc_self w (strs sMonths) _⟩
theorem rweekday_any (n : Int) (A : Nat) (ns : List (List UInt8)) (l : List UInt8) (k : Nat) (w : World) (n0 : 0 ≤ n) (n1 : n ≤ 9000000) (hk : wdI n = k) (hl : ns.getD k [] = l) (h7 : ns.length = 7) (hA : w.heap[A]? = some (.cells (strs ns) 9 (0, 0))) :
    Calls Tryz.prog 83 #[.int .i64 n, .slice (some ⟨A, 0, none⟩) 7 7] w fun e w' => e = .returned (.string (bs l)) ∧ w = w' := by
  have hw : (n + 3) % 7 = k := hk
  have hk7 : k < 7 := by omega
  have hc := strs_getD hA (by rw [h7]; exact hk7) hl
  have hk0 : (k : Int) < 7 := by omega
  clear hk hl h7 hA
  go_enter Tryz.func83, Tryz.ntmps83
  go_wp2_with fail
  go_ret
  exact ⟨rfl, rfl⟩
end Go.Proofs.YtdaiielhohdgiaaGreatDoor

/- The document's clock and Fixed. -/
namespace Go.Proofs.YtdaiielhohdgiaaGreatDoor
open Go.RowKit

/-- the time, as text -/
def clkT (h i s : Int) : List UInt8 := [digO (h.toNat / 10), digO (h.toNat % 10), 58, digO (i.toNat / 10), digO (i.toNat % 10), 58, digO (s.toNat / 10), digO (s.toNat % 10)]
theorem dt_at {b : Nat} {y m d h i s : Int} {w w' : World} (H : w.heap[b]? = some (.cells (dtRow y m d h i s) 84 (0, 0))) (hE : Below w.heap.size w w') :
    w'.cell? ⟨b, 0, none⟩ = some (.int .i64 y) ∧ w'.cell? ⟨b, 1, none⟩ = some (.int .i64 m) ∧ w'.cell? ⟨b, 2, none⟩ = some (.int .i64 d) ∧ w'.cell? ⟨b, 3, none⟩ = some (.int .i64 h) ∧
    w'.cell? ⟨b, 4, none⟩ = some (.int .i64 i) ∧ w'.cell? ⟨b, 5, none⟩ = some (.int .i64 s) := dt_cells (grown_block H hE)

set_option maxRecDepth 100000 in
set_option maxHeartbeats 4000000 in
theorem rclock_any (y m d h i s : Int) (w : World) (h0 : 0 ≤ h) (h1 : h < 100) (i0 : 0 ≤ i) (i1 : i < 100) (s0 : 0 ≤ s) (s1 : s < 100) :
    Calls Tryz.prog 87 #[.agg #[.int .i64 y, .int .i64 m, .int .i64 d, .int .i64 h, .int .i64 i, .int .i64 s]] w fun e w' => e = .returned (.string (bs (clkT h i s))) ∧ Below w.heap.size w w' := by
  go_enter Tryz.func87, Tryz.ntmps87
  go_wp2_with fail
  have HP : Hid ((w.alloc (.cells (dtRow y m d h i s) 84)).drew.heap[w.heap.size]? = some (.cells (dtRow y m d h i s) 84 (0, 0))) := alloc_self _ _ _
  have HD0 : Hid (Below w.heap.size w (w.alloc (.cells (dtRow y m d h i s) 84)).drew) := ((Below.refl _ _).alloc (Nat.le_refl _) _).drew
  refine wp_region_growL [(0, false), (1, false), (4, false), (5, false), (9, false), (10, false), (2, true), (3, false), (6, true), (7, false), (8, false), (11, true), (12, false), (13, false)] (by kernel_rfl) (by kernel_rfl) rfl (by kernel_rfl) (by kernel_rfl) (fun ops hops => ?_)
  simp only [inOrder, List.getD_cons_zero, List.getD_cons_succ]
  clear hops
  iterate 6
    refine growL_take (by rfl) ?_
    apply Exists.intro
    refine ⟨fun w' hE => ?_, ?_⟩
    · obtain ⟨c0, c1, c2, c3, c4, c5⟩ := dt_at HP.out hE
      go_simp
      try with_reducible rfl
    simp only [Act.put, List.setIfInBounds_toArray, List.set_cons_zero, List.set_cons_succ]
  refine growL_call (by rfl) (fun K hK => ?_)
  go_simp
  refine (digits2_any h _ h0 h1).mono ?_
  rintro e w1 ⟨rfl, hb1⟩
  refine hK.out _ _ hb1 ?_
  clear hK K
  have HD1 := Lib.hid (HD0.out.trans (hb1.mono HD0.out.size))
  clear hb1
  iterate 1
    refine growL_take (by rfl) ?_
    apply Exists.intro
    refine ⟨fun w' hE => ?_, ?_⟩
    · skip
      go_simp
      try with_reducible rfl
    simp only [Act.put, List.setIfInBounds_toArray, List.set_cons_zero, List.set_cons_succ]
  refine growL_call (by rfl) (fun K hK => ?_)
  go_simp
  refine (digits2_any i _ i0 i1).mono ?_
  rintro e w2 ⟨rfl, hb2⟩
  refine hK.out _ _ hb2 ?_
  clear hK K
  have HD2 := Lib.hid (HD1.out.trans (hb2.mono HD1.out.size))
  clear hb2
  iterate 2
    refine growL_take (by rfl) ?_
    apply Exists.intro
    refine ⟨fun w' hE => ?_, ?_⟩
    · skip
      go_simp
      try with_reducible rfl
    simp only [Act.put, List.setIfInBounds_toArray, List.set_cons_zero, List.set_cons_succ]
  refine growL_call (by rfl) (fun K hK => ?_)
  go_simp
  refine (digits2_any s _ s0 s1).mono ?_
  rintro e w3 ⟨rfl, hb3⟩
  refine hK.out _ _ hb3 ?_
  clear hK K
  have HD3 := Lib.hid (HD2.out.trans (hb3.mono HD2.out.size))
  clear hb3
  iterate 2
    refine growL_take (by rfl) ?_
    apply Exists.intro
    refine ⟨fun w' hE => ?_, ?_⟩
    · skip
      go_simp
      try with_reducible rfl
    simp only [Act.put, List.setIfInBounds_toArray, List.set_cons_zero, List.set_cons_succ]
  refine growL_done (NoPanic.normal ?_)
  simp only [Exit.then]
  go_wp2_with fail
  go_ret
  refine ⟨congrArg (fun x => Ending.returned (.string x)) ?_, HD3.out⟩
  show bs [digO (h.toNat / 10), digO (h.toNat % 10)] ++ bs [58] ++ bs [digO (i.toNat / 10), digO (i.toNat % 10)] ++ bs [58] ++ bs [digO (s.toNat / 10), digO (s.toNat % 10)] = _
  simp only [bs_appendD]
  rfl

set_option maxRecDepth 100000 in
set_option maxHeartbeats 4000000 in
theorem rfixed_any (y : Int) (wd m : Nat) (d h i s : Int) (w : World) (y0 : 1970 ≤ y) (y1 : y ≤ 9999) (hm : m < 12) (d0 : 1 ≤ d) (d1 : d < 100) (h0 : 0 ≤ h) (h1 : h < 100) (i0 : 0 ≤ i) (i1 : i < 100) (s0 : 0 ≤ s) (s1 : s < 100) (hw : wdI (aheadI y + cumI y m + d - 1) = wd) :
    Calls Tryz.prog 51 #[.agg #[.int .i64 y, .int .i64 ((m : Int) + 1), .int .i64 d, .int .i64 h, .int .i64 i, .int .i64 s]] w fun e w' => e = .returned (.string (bs (fixT wd m d y h i s))) ∧ Below w.heap.size w w' := by
  have hw7 : wd < 7 := by have := wd_bd (aheadI y + cumI y m + d - 1); omega
  have a0 := ahead_lo y y0
  have a1 := ahead_hi y y0
  have lp := lp_bd y
  have cb := cum_bd y (m := (m : Int)) (by omega) (by omega)
  obtain ⟨x1, x2, x3, ha⟩ := day_three wd hw7
  obtain ⟨z1, z2, z3, hb⟩ := month_three m hm
  have HA := Lib.hid ha
  have HM := Lib.hid hb
  have HW := Lib.hid hw
  have hm13 : (m : Int) < 12 := by omega
  clear hw ha hb
  go_enter Tryz.func51, Tryz.ntmps51
  go_wp2_with fail
  have HP : Hid ((w.alloc (.cells (dtRow y ((m : Int) + 1) d h i s) 84)).drew.heap[w.heap.size]? = some (.cells (dtRow y ((m : Int) + 1) d h i s) 84 (0, 0))) := alloc_self _ _ _
  have HD0 : Hid (Below w.heap.size w (w.alloc (.cells (dtRow y ((m : Int) + 1) d h i s) 84)).drew) := ((Below.refl _ _).alloc (Nat.le_refl _) _).drew
  refine wp_region_growL [(0, false), (5, false), (6, false), (11, false), (12, false), (13, false), (18, false), (19, false), (23, false), (1, true), (2, true), (3, true), (4, false), (7, true), (8, false), (9, false), (10, true), (14, false), (15, false), (16, false), (17, false), (20, true), (21, false), (22, false), (24, true), (25, false), (26, false), (27, false)] (by kernel_rfl) (by kernel_rfl) rfl (by kernel_rfl) (by kernel_rfl) (fun ops hops => ?_)
  simp only [inOrder, List.getD_cons_zero, List.getD_cons_succ]
  clear hops
  iterate 9
    refine growL_take (by rfl) ?_
    apply Exists.intro
    refine ⟨fun w' hE => ?_, ?_⟩
    · obtain ⟨c0, c1, c2, c3, c4, c5⟩ := dt_at HP.out hE
      go_simp
      try with_reducible rfl
    simp only [Act.put, List.setIfInBounds_toArray, List.set_cons_zero, List.set_cons_succ]
  refine growL_call (by rfl) (fun K hK => ?_)
  go_simp
  refine (rcount_any y m d h i s _ y0 y1 (by omega) (by omega) (by omega) (by omega)).mono ?_
  rintro e w1 ⟨rfl, hb1⟩
  refine hK.out _ _ hb1 ?_
  clear hK K
  have HD1 := Lib.hid (HD0.out.trans (hb1.mono HD0.out.size))
  clear hb1
  refine growL_call (by rfl) (fun K hK => ?_)
  go_simp
  refine (rshort_any _).mono ?_
  rintro e w2 ⟨A1, rfl, hb2, hr2⟩
  refine hK.out _ _ hb2 ?_
  clear hK K
  have HD2 := Lib.hid (HD1.out.trans (hb2.mono HD1.out.size))
  have HR2 := Lib.hid hr2
  clear hb2 hr2
  refine growL_call (by rfl) (fun K hK => ?_)
  go_simp
  refine (rweekday_any _ _ sDays _ _ _ (by omega) (by omega) HW.out HA.out rfl HR2.out).mono ?_
  rintro e w3 ⟨rfl, rfl⟩
  refine hK.out _ _ (Below.refl _ _) ?_
  clear hK K
  iterate 1
    refine growL_take (by rfl) ?_
    apply Exists.intro
    refine ⟨fun w' hE => ?_, ?_⟩
    · skip
      go_simp
      try with_reducible rfl
    simp only [Act.put, List.setIfInBounds_toArray, List.set_cons_zero, List.set_cons_succ]
  refine growL_call (by rfl) (fun K hK => ?_)
  go_simp
  refine (digits2_any d _ (by omega) (by omega)).mono ?_
  rintro e w3 ⟨rfl, hb3⟩
  refine hK.out _ _ hb3 ?_
  clear hK K
  have HD3 := Lib.hid (HD2.out.trans (hb3.mono HD2.out.size))
  clear hb3
  iterate 2
    refine growL_take (by rfl) ?_
    apply Exists.intro
    refine ⟨fun w' hE => ?_, ?_⟩
    · skip
      go_simp
      try with_reducible rfl
    simp only [Act.put, List.setIfInBounds_toArray, List.set_cons_zero, List.set_cons_succ]
  refine growL_call (by rfl) (fun K hK => ?_)
  go_simp
  refine (rmonths_any _).mono ?_
  rintro e w4 ⟨A2, rfl, hb4, hr4⟩
  refine hK.out _ _ hb4 ?_
  clear hK K
  have HD4 := Lib.hid (HD3.out.trans (hb4.mono HD3.out.size))
  have HR4 := Lib.hid hr4
  clear hb4 hr4
  iterate 4
    refine growL_take (by rfl) ?_
    apply Exists.intro
    refine ⟨fun w' hE => ?_, ?_⟩
    · have c0 := strs_getD (k := m) (grown_block HR4.out hE) hm HM.out
      have ew := IntWalk.i64_in (m : Int) (by omega)
      go_simp
      try with_reducible rfl
    simp only [Act.put, List.setIfInBounds_toArray, List.set_cons_zero, List.set_cons_succ]
  refine growL_call (by rfl) (fun K hK => ?_)
  go_simp
  refine (digits4_any y _ (by omega) (by omega)).mono ?_
  rintro e w5 ⟨rfl, hb5⟩
  refine hK.out _ _ hb5 ?_
  clear hK K
  have HD5 := Lib.hid (HD4.out.trans (hb5.mono HD4.out.size))
  clear hb5
  iterate 2
    refine growL_take (by rfl) ?_
    apply Exists.intro
    refine ⟨fun w' hE => ?_, ?_⟩
    · skip
      go_simp
      try with_reducible rfl
    simp only [Act.put, List.setIfInBounds_toArray, List.set_cons_zero, List.set_cons_succ]
  refine growL_call (by rfl) (fun K hK => ?_)
  go_simp
  refine (rclock_any _ _ _ _ _ _ _ h0 h1 i0 i1 s0 s1).mono ?_
  rintro e w6 ⟨rfl, hb6⟩
  refine hK.out _ _ hb6 ?_
  clear hK K
  have HD6 := Lib.hid (HD5.out.trans (hb6.mono HD5.out.size))
  clear hb6
  unfold clkT
  iterate 3
    refine growL_take (by rfl) ?_
    apply Exists.intro
    refine ⟨fun w' hE => ?_, ?_⟩
    · skip
      go_simp
      try with_reducible rfl
    simp only [Act.put, List.setIfInBounds_toArray, List.set_cons_zero, List.set_cons_succ]
  refine growL_done (NoPanic.normal ?_)
  simp only [Exit.then]
  go_wp2_with fail
  go_ret
  refine ⟨congrArg (fun x => Ending.returned (.string x)) ?_, HD6.out⟩
  show bs [x1, x2, x3] ++ bs [44, 32] ++ bs [digO (d.toNat / 10), digO (d.toNat % 10)] ++ bs [32] ++ bs [z1, z2, z3] ++ bs [32] ++ bs [digO (y.toNat / 1000), digO (y.toNat / 100 % 10), digO (y.toNat / 10 % 10), digO (y.toNat % 10)] ++ bs [32] ++
    bs [digO (h.toNat / 10), digO (h.toNat % 10), 58, digO (i.toNat / 10), digO (i.toNat % 10), 58, digO (s.toNat / 10), digO (s.toNat % 10)] ++ bs [32, 71, 77, 84] = _
  simp only [bs_appendD]
  unfold fixT
  rw [HA.out, HM.out]
  rfl
end Go.Proofs.YtdaiielhohdgiaaGreatDoor
