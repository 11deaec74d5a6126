/- The document's Of. -/
import Derived.Test.YtfobjaccpnondaaGreatDoorKDateR2
namespace Go.Proofs.YtfobjaccpnondaaGreatDoor
open Go.RowKit

theorem set_block {w : World} {b k : Nat} {c : Array Value} {T : TypeId} {fz : Nat × Nat} (h : w.heap[b]? = some (.cells c T fz)) (v : Value) : (w.setCell ⟨b, k, none⟩ v).heap[b]? = some (.cells (c.setIfInBounds k v) T fz) := by
  have hlt := lt_of_block h
  have h' : w.heap[b] = .cells c T fz := by simpa [Array.getElem?_eq_getElem hlt] using h
  show (w.heap.modify b _)[b]? = _
  rw [Array.getElem?_eq_getElem (by simpa using hlt), Array.getElem_modify_self, h']
  rfl
theorem set_other {w : World} {b b' k : Nat} {o : Obj} (h : w.heap[b]? = some o) (hb : b ≠ b') (v : Value) : (w.setCell ⟨b', k, none⟩ v).heap[b]? = some o :=
  (Below.heap_setCell _ _ _ _ hb).trans h
theorem dt_free {b : Nat} {y m d h i s : Int} {w : World} (H : w.heap[b]? = some (.cells (dtRow y m d h i s) 91 (0, 0))) (k : Nat) : w.frozen? ⟨b, k, none⟩ = false := by
  simp [World.frozen?, H]
/-- two blocks: the result's, and the date in the making -/
def twoDt (w : World) (y m d h i s : Int) : World := (w.alloc (.cells (dtRow 0 0 0 0 0 0) 91)).alloc (.cells (dtRow y m d h i s) 91)
def OfR (w : World) (y m d h i s : Int) (wr : World) : Prop :=
  wr.heap[w.heap.size]? = some (.cells (dtRow 0 0 0 0 0 0) 91 (0, 0)) ∧ wr.heap[w.heap.size + 1]? = some (.cells (dtRow y m d h i s) 91 (0, 0)) ∧ Below w.heap.size w wr
theorem OfR.start (w : World) (y m d h i s : Int) : OfR w y m d h i s (twoDt w y m d h i s) := by
  refine ⟨?_, ?_, ((Below.refl _ _).alloc (Nat.le_refl _) _).alloc (by simp) _⟩
  · exact (Below.heap_alloc _ _ _ (by simp)).trans (alloc_self _ _ _)
  · have := alloc_self (w.alloc (.cells (dtRow 0 0 0 0 0 0) 91)) (dtRow y m d h i s) 91
    simpa [twoDt] using this
theorem OfR.step {w wr w' : World} {y m d h i s : Int} (H : OfR w y m d h i s wr) (hb : Below wr.heap.size wr w') : OfR w y m d h i s w' := by
  have h1 := lt_of_block H.2.1
  exact ⟨grown_block H.1 hb, grown_block H.2.1 hb, H.2.2.trans (hb.mono (by omega))⟩
theorem OfR.set {w wr : World} {y m d h i s y' m' d' : Int} (H : OfR w y m d h i s wr) (k : Nat) (v : Value) (hv : (dtRow y m d h i s).setIfInBounds k v = dtRow y' m' d' h i s) : OfR w y' m' d' h i s (wr.setCell ⟨w.heap.size + 1, k, none⟩ v) :=
  ⟨set_other H.1 (by omega) v, by rw [← hv]; exact set_block H.2.1 v, H.2.2.setCell (by simp) v⟩

set_option maxRecDepth 100000 in
set_option maxHeartbeats 4000000 in
theorem rofD_any (t y m d h i s : Int) (w : World) (H : IsT t y m d h i s) :
    Calls Tryz.prog 114 #[.int .i64 t] w fun e w' => e = .returned (.agg #[.int .i64 y, .int .i64 (m + 1), .int .i64 d, .int .i64 h, .int .i64 i, .int .i64 s]) ∧ Below w.heap.size w w' := by
  obtain ⟨t0, t1⟩ := H.bd
  obtain ⟨n0, n1⟩ := H.1.bd
  obtain ⟨q0, q1⟩ := H.1.in_year
  obtain ⟨r0, r1⟩ := H.1.in_month
  obtain ⟨hD, eh, ei, es⟩ := H
  obtain ⟨y0, y1, m0, m1, d0, d1, hd⟩ := hD
  obtain ⟨k, hk⟩ : ∃ k, t % 86400 = k := ⟨_, rfl⟩
  obtain ⟨n, hn⟩ : ∃ n, t / 86400 = n := ⟨_, rfl⟩
  have k0 : 0 ≤ k := by omega
  have k1 : k < 86400 := by omega
  have es' : s = k % 60 := by omega
  rw [hk] at eh ei
  rw [hn] at n0 n1 q0 q1 r0 r1 hd
  clear es
  subst eh ei es'
  have HN := Lib.hid hd
  clear hd
  go_enter Tryz.func114, Tryz.ntmps114
  go_wp2_with fail
  have HE := Lib.hid hn
  clear hk hn
  go_loopg [3] ((y - 1970).toNat) (fun c v wr => ∃ j : Int, j + (c : Int) = y ∧ 1970 ≤ j ∧ v = .int .i64 (n - aheadI j) ∧ wr = twoDt w j 1 0 (k / 3600) (k / 60 % 60) (k % 60))
  case atStart => exact ⟨1970, by omega, by omega, by rw [ahead_1970, Int.sub_zero, HE.out], rfl⟩
  case round =>
    obtain ⟨j, hj, j0, rfl, hw⟩ := hrel
    subst hw
    unfold twoDt dtRow
    have b0 := ahead_lo j j0
    have b1 := ahead_hi j j0
    have l := lp_bd j
    rcases Nat.eq_zero_or_pos gk with hz | hz
    · subst hz
      obtain rfl : j = y := by omega
      have hlt : n - aheadI j < 365 + lpI j := by have := ahead_succ j; omega
      rcases (show lpI j = 0 ∨ lpI j = 1 by omega) with hl | hl
      all_goals
        first
          | (have hb : (lpI j == 1) = false := by rw [hl]; rfl)
          | (have hb : (lpI j == 1) = true := by rw [hl]; rfl)
        rw [hl] at hlt
        first
          | (have hlt2 : n - aheadI j < 365 := by omega
             have hlt3 : decide (n - aheadI j < 365) = true := decide_eq_true hlt2)
          | (have hlt2 : n - aheadI j < 366 := by omega
             have hlt3 : decide (n - aheadI j < 366) = true := decide_eq_true hlt2)
        clear hl hlt
        go_wp2_with (go_at_call 152; refine (rleap_any _ _ (by omega) (by omega)).mono ?_; rintro e w' ⟨rfl, rfl⟩)
        go_loopg [3] (m.toNat) (fun c v wr => ∃ x : Int, 0 ≤ x ∧ x + (c : Int) = m ∧ v = .int .i64 (n - aheadI j - cumI j x) ∧ Hid (OfR w j (x + 1) 0 (k / 3600) (k / 60 % 60) (k % 60) wr))
        case atStart => exact ⟨0, by omega, by omega, by rw [cum_zero, Int.sub_zero], OfR.start w j 1 0 _ _ _⟩
        case round =>
          obtain ⟨x, x0, x1, rfl, HO⟩ := hrel
          obtain ⟨c0, c1, c2, c3, c4, c5⟩ := dt_cells HO.out.2.1
          have cb := cum_bd j x0 (by omega)
          have db := dom_bd j x
          have lb := lp_bd j
          rcases Nat.eq_zero_or_pos gk with hz | hz
          · subst hz
            obtain rfl : x = m := by omega
            have hlt : n - aheadI j - cumI j x < domI j x := by
              have := cum_succ j x0 m1
              omega
            go_wp2_with fail
            refine (rdays_any j x _ (by omega) (by omega) x0 m1).mono ?_
            rintro e w2 ⟨rfl, hb2⟩
            have HO2 := Lib.hid (HO.out.step hb2)
            clear hb2 c0 c1 c2 c3 c4 c5
            obtain ⟨c0, c1, c2, c3, c4, c5⟩ := dt_cells HO2.out.2.1
            obtain ⟨z0, z1, z2, z3, z4, z5⟩ := dt_cells HO2.out.1
            have f2 := dt_free HO2.out.2.1 2
            have g0 := dt_free HO2.out.1 0
            have g1 := dt_free HO2.out.1 1
            have g2 := dt_free HO2.out.1 2
            have g3 := dt_free HO2.out.1 3
            have g4 := dt_free HO2.out.1 4
            have g5 := dt_free HO2.out.1 5
            go_wp2_with fail
            have e : n - aheadI j - cumI j x + 1 = d := by have := HN.out; omega
            have R : (((((((w2.setCell ⟨w.heap.size + 1, 2, none⟩ (.int .i64 (n - aheadI j - cumI j x + 1))).setCell ⟨w.heap.size, 0, none⟩ (.int .i64 j)).setCell ⟨w.heap.size, 1, none⟩ (.int .i64 (x + 1))).setCell ⟨w.heap.size, 2, none⟩ (.int .i64 (n - aheadI j - cumI j x + 1))).setCell
                ⟨w.heap.size, 3, none⟩ (.int .i64 (k / 3600))).setCell ⟨w.heap.size, 4, none⟩ (.int .i64 (k / 60 % 60))).setCell ⟨w.heap.size, 5, none⟩ (.int .i64 (k % 60))).heap[w.heap.size]? = some (.cells (dtRow j (x + 1) (n - aheadI j - cumI j x + 1) (k / 3600) (k / 60 % 60) (k % 60)) 91 (0, 0)) :=
              set_block (set_block (set_block (set_block (set_block (set_block (set_other HO2.out.1 (by omega) _) _) _) _) _) _) _
            have HB := Lib.hid (((((((HO2.out.2.2.setCell (p := ⟨w.heap.size + 1, 2, none⟩) (by simp) (.int .i64 (n - aheadI j - cumI j x + 1))).setCell (p := ⟨w.heap.size, 0, none⟩) (by simp) (.int .i64 j)).setCell (p := ⟨w.heap.size, 1, none⟩) (by simp) (.int .i64 (x + 1))).setCell (p := ⟨w.heap.size, 2, none⟩) (by simp) (.int .i64 (n - aheadI j - cumI j x + 1))).setCell
                (p := ⟨w.heap.size, 3, none⟩) (by simp) (.int .i64 (k / 3600))).setCell (p := ⟨w.heap.size, 4, none⟩) (by simp) (.int .i64 (k / 60 % 60))).setCell (p := ⟨w.heap.size, 5, none⟩) (by simp) (.int .i64 (k % 60)))
            clear z0 z1 z2 z3 z4 z5 c0 c1 c2 c3 c4 c5
            obtain ⟨z0, z1, z2, z3, z4, z5⟩ := dt_cells R
            clear R
            rw [← e]
            exact bodyPost_ret (v := .agg #[.int .i64 j, .int .i64 (x + 1), .int .i64 (n - aheadI j - cumI j x + 1), .int .i64 (k / 3600), .int .i64 (k / 60 % 60), .int .i64 (k % 60)]) (by simp only [results, Tryz.results114]; simp [go_sem, z0, z1, z2, z3, z4, z5]) rfl ⟨rfl, HB.out⟩
          · have hge : domI j x ≤ n - aheadI j - cumI j x := by
              have h1 := cum_succ j x0 (by omega)
              have h2 := cum_mono j x0 (show x < m by omega) (by omega)
              omega
            have HC := Lib.hid (cum_succ j x0 (by omega))
            go_wp2_with fail
            refine (rdays_any j x _ (by omega) (by omega) x0 (by omega)).mono ?_
            rintro e w2 ⟨rfl, hb2⟩
            have HO2 := Lib.hid (HO.out.step hb2)
            clear hb2 c0 c1 c2 c3 c4 c5
            obtain ⟨c0, c1, c2, c3, c4, c5⟩ := dt_cells HO2.out.2.1
            go_wp2_with fail
            refine (rdays_any j x _ (by omega) (by omega) x0 (by omega)).mono ?_
            rintro e w3 ⟨rfl, hb3⟩
            have HO3 := Lib.hid (HO2.out.step hb3)
            clear hb3 c0 c1 c2 c3 c4 c5
            obtain ⟨c0, c1, c2, c3, c4, c5⟩ := dt_cells HO3.out.2.1
            have f1 := dt_free HO3.out.2.1 1
            go_wp2_with fail
            go_roundg (gk - 1)
            case rel => exact ⟨x + 1, by omega, by omega, by rw [HC.out, Int.sub_sub], HO3.out.set 1 _ rfl⟩
            case measure => omega
    · have hge : 365 + lpI j ≤ n - aheadI j := by
        have h1 := ahead_succ j
        have h2 := ahead_mono (show j < y by omega)
        omega
      rcases (show lpI j = 0 ∨ lpI j = 1 by omega) with hl | hl
      all_goals
        have HS := Lib.hid (ahead_succ j)
        have HL := Lib.hid hl
        first
          | (have hb : (lpI j == 1) = false := by rw [hl]; rfl)
          | (have hb : (lpI j == 1) = true := by rw [hl]; rfl)
        rw [hl] at hge
        clear hl
        go_wp2_with (go_at_call 152; refine (rleap_any _ _ (by omega) (by omega)).mono ?_; rintro e w' ⟨rfl, rfl⟩)
        go_roundg (gk - 1)
        case rel => exact ⟨j + 1, by omega, by omega, by rw [HS.out, HL.out]; congr 1; omega, rfl⟩
        case measure => omega
end Go.Proofs.YtfobjaccpnondaaGreatDoor
