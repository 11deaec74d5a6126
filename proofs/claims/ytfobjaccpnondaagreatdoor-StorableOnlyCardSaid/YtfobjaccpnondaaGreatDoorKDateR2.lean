/- The document's calendar: Count, Of. -/
import Derived.Test.YtfobjaccpnondaaGreatDoorKDateR
namespace Go.Proofs.YtfobjaccpnondaaGreatDoor
open Go.RowKit
/-- the document's date, as a row of cells -/
def dtRow (y m d h i s : Int) : Array Value := #[.int .i64 y, .int .i64 m, .int .i64 d, .int .i64 h, .int .i64 i, .int .i64 s]
/-- such a row lies in block b, and what lay below b is as it was -/
def DtAt (b : Nat) (row : Array Value) (w0 w : World) : Prop := w.heap[b]? = some (.cells row 91 (0, 0)) ∧ Below b w0 w
theorem DtAt.step {b : Nat} {row : Array Value} {w0 w w' : World} (h : DtAt b row w0 w) (hb : Below w.heap.size w w') : DtAt b row w0 w' := by
  have hlt : b < w.heap.size := lt_of_block h.1
  exact ⟨(hb.block b hlt).trans h.1, h.2.trans (hb.mono (by omega))⟩
theorem DtAt.boxed (w : World) (row : Array Value) : DtAt w.heap.size row w (w.alloc (.cells row 91)) := ⟨alloc_self _ _ _, (Below.refl _ _).alloc (Nat.le_refl _) _⟩
theorem dt_cells {b : Nat} {y m d h i s : Int} {w : World} (H : w.heap[b]? = some (.cells (dtRow y m d h i s) 91 (0, 0))) :
    w.cell? ⟨b, 0, none⟩ = some (.int .i64 y) ∧ w.cell? ⟨b, 1, none⟩ = some (.int .i64 m) ∧ w.cell? ⟨b, 2, none⟩ = some (.int .i64 d) ∧ w.cell? ⟨b, 3, none⟩ = some (.int .i64 h) ∧
    w.cell? ⟨b, 4, none⟩ = some (.int .i64 i) ∧ w.cell? ⟨b, 5, none⟩ = some (.int .i64 s) := by
  refine ⟨?_, ?_, ?_, ?_, ?_, ?_⟩ <;> simp [World.cell?, H, dtRow]

set_option maxHeartbeats 2000000 in
theorem rcount_any (y m d h i s : Int) (w : World) (y0 : 1970 ≤ y) (y1 : y ≤ 9999) (m0 : 0 ≤ m) (m1 : m ≤ 11) (d0 : 0 ≤ d) (d1 : d ≤ 99) :
    Calls Tryz.prog 110 #[.agg #[.int .i64 y, .int .i64 (m + 1), .int .i64 d, .int .i64 h, .int .i64 i, .int .i64 s]] w fun e w' => e = .returned (.int .i64 (aheadI y + cumI y m + d - 1)) ∧ Below w.heap.size w w' := by
  have a0 := ahead_lo y y0
  have a1 := ahead_hi y y0
  go_enter Tryz.func110, Tryz.ntmps110
  go_wp2_with fail
  go_loop [3, 4] (fun n k => ∃ j : Int, 1970 ≤ j ∧ j ≤ y ∧ k = .int .i64 j ∧ n = .int .i64 (aheadI j + d - 1)) (fun _ k => (y - intOf k).toNat)
  case atStart => exact ⟨1970, by omega, y0, rfl, by rw [ahead_1970, Int.zero_add]⟩
  case round =>
    obtain ⟨j, j0, j1, rfl, rfl⟩ := hrel
    have b0 := ahead_lo j j0
    have b1 := ahead_hi j j0
    by_cases hlt : j < y
    · have l := lp_bd j
      rcases (show lpI j = 0 ∨ lpI j = 1 by omega) with hl | hl
      · have hb : (lpI j == 1) = false := by rw [hl]; rfl
        have HS : Hid (aheadI (j + 1) = aheadI j + 365) := by show _ = _; rw [ahead_succ, hl]; omega
        clear hl
        go_wp2_with (go_at_call 152; refine (rleap_any _ _ (by omega) (by omega)).mono ?_; rintro e w' ⟨rfl, rfl⟩)
        go_round
        case rel => exact ⟨j + 1, by omega, by omega, rfl, by rw [HS.out]; congr 1; omega⟩
        case measure => simp [intOf]; omega
      · have hb : (lpI j == 1) = true := by rw [hl]; rfl
        have HS : Hid (aheadI (j + 1) = aheadI j + 365 + 1) := by show _ = _; rw [ahead_succ, hl]
        clear hl
        go_wp2_with (go_at_call 152; refine (rleap_any _ _ (by omega) (by omega)).mono ?_; rintro e w' ⟨rfl, rfl⟩)
        go_round
        case rel => exact ⟨j + 1, by omega, by omega, rfl, by rw [HS.out]; congr 1; omega⟩
        case measure => simp [intOf]; omega
    · obtain rfl : j = y := by omega
      go_wp2_with fail
      go_loopw [3, 5] (fun n k wr => ∃ c : Int, 0 ≤ c ∧ c ≤ m ∧ k = .int .i64 (c + 1) ∧ n = .int .i64 (aheadI j + cumI j c + d - 1) ∧ Hid (DtAt w.heap.size (dtRow j (m + 1) d h i s) w wr)) (fun _ k _ => (m + 1 - intOf k).toNat)
      case atStart => exact ⟨0, by omega, m0, rfl, by rw [cum_zero, Int.add_zero], DtAt.boxed w (dtRow j (m + 1) d h i s)⟩
      case round =>
        obtain ⟨c, c0, c1, rfl, rfl, HB⟩ := hrel
        obtain ⟨k0, k1, k2, k3, k4, k5⟩ := dt_cells HB.out.1
        have cb := cum_bd j c0 (by omega)
        have db := dom_bd j c
        have lb := lp_bd j
        by_cases hcm : c < m
        · have HC := Lib.hid (cum_succ j c0 (by omega))
          go_wp2_with fail
          refine (rdays_any j c _ (by omega) (by omega) c0 (by omega)).mono ?_
          rintro e w2 ⟨rfl, hb2⟩
          have HB2 := Lib.hid (HB.out.step hb2)
          clear hb2
          go_wp2_with fail
          go_roundw
          case rel => exact ⟨c + 1, by omega, by omega, rfl, by rw [HC.out]; congr 1; omega, HB2⟩
          case measure => simp [intOf]; omega
        · obtain rfl : c = m := by omega
          go_wp2_with fail
          go_ret
          exact ⟨rfl, HB.out.2⟩
end Go.Proofs.YtfobjaccpnondaaGreatDoor
