/- Which texts are hosts, which are made of plain bytes, escapes and marks. -/
import Derived.Test.YtekaiafhnnpkgaaGreatDoorUriB
namespace Go.Proofs.YtekaiafhnnpkgaaGreatDoor
open Go.RowKit

set_option maxHeartbeats 400000 in
set_option maxRecDepth 100000 in
theorem hostC_any (n : Int) (e : Bool) (w : World) :
    Calls Tryz.prog 68 #[.int .u8 n, .bool e] w fun r w' => r = .returned (.bool (!e && hostI n)) ∧ w = w' := by
  rw [host_cases]
  have ha := alnum_any n w
  generalize lettI n = x at *
  have HA := Lib.hid ha; clear ha
  cases e <;> cases x <;> cases h1 : (n == 45) <;> cases h2 : (n == 46)
  all_goals
    go_enter Tryz.func68, Tryz.ntmps68
    go_wp2_with (go_at_call 69; refine HA.out.mono ?_; rintro e w' ⟨rfl, rfl⟩)
    go_ret
    exact ⟨rfl, rfl⟩

set_option maxHeartbeats 400000 in
set_option maxRecDepth 100000 in
theorem consC_any (c : UInt8) (e : Bool) (b : Nat) (m : List UInt8) (w : World) (hb : w.cell? ⟨b, 0, none⟩ = some (.string (bs m))) :
    Calls Tryz.prog 70 #[.int .u8 (c.toNat : Int), .bool e, .pointer (some ⟨b, 0, none⟩)] w fun r w' => r = .returned (.bool (madeP m (c, e))) ∧ w = w' := by
  have hp := plain_any (c.toNat : Int) w
  have hx := indexU_any m c w
  have hi := index_in m c
  have HR : Hid (madeP m (c, e) = (e || (plainI (c.toNat : Int) || inI (c.toNat : Int) m))) := rfl
  rw [HR.out]
  rw [← hi]
  generalize plainI (c.toNat : Int) = x at *
  generalize Lib.indexByte m c = k at *
  have HP := Lib.hid hp; have HX := Lib.hid hx; clear hp hx hi HR
  cases e <;> cases x <;> by_cases hk : 0 ≤ k
  all_goals
    go_enter Tryz.func70, Tryz.ntmps70
    go_wp2_with (first | (go_at_call 53; refine HP.out.mono ?_; rintro e w' ⟨rfl, rfl⟩) | (go_at_call 71; refine HX.out.mono ?_; rintro e w' ⟨rfl, rfl⟩))
    go_ret
    exact ⟨ret_bool (by simp [hk]), rfl⟩

theorem hostU_iff (l : List UInt8) : hostOk l = ((!l.isEmpty && decide (l.length ≤ 253)) && (toks l).all hostP) := rfl
set_option maxHeartbeats 1000000 in
set_option maxRecDepth 100000 in
theorem isHost_any (l : List UInt8) (w : World) (he : EnvU w) (hl : l.length ≤ 281474976710656) :
    Calls Tryz.prog 43 #[.string (bs l)] w fun r w' => r = .returned (.bool (hostOk l)) ∧ Below w.heap.size w w' := by
  have hsc := scan_any l 68 hostP (fun _ W => EnvU W ∧ Below w.heap.size w W) (enters_of Tryz.func68 (by kernel_rfl) rfl)
    (fun _ W W' h hb => ⟨h.1.bel hb, h.2.trans (hb.mono h.2.size)⟩) (fun _ _ h => h.1)
    (fun _ c e W _ h => (hostC_any (c.toNat : Int) e W).mono fun r W' ⟨h1, h2⟩ => ⟨h1, h2 ▸ h⟩) w ⟨he, Below.refl _ _⟩ hl
  have HS := Lib.hid hsc; clear hsc
  rw [hostU_iff]
  generalize hq : (toks l).all hostP = q at *
  clear hq
  by_cases h0 : l = []
  · subst h0
    have hne : (bs []).toList.isEmpty = true := by rw [Lib.toList_data, bs_data]; rfl
    go_enter Tryz.func43, Tryz.ntmps43
    go_wp2_with fail
    go_ret
    exact ⟨ret_bool (by simp), Below.refl _ _⟩
  · have hne : (bs l).toList.isEmpty = false := by rw [Lib.toList_data, bs_data]; cases l with | nil => exact absurd rfl h0 | cons => rfl
    have hie : l.isEmpty = false := by cases l with | nil => exact absurd rfl h0 | cons => rfl
    rw [hie]
    clear hie h0
    by_cases h253 : l.length ≤ 253
    · rw [decide_eq_true h253]
      have hsz : ((bs l).size : Int) ≤ 253 := by rw [bs_size]; omega
      go_enter Tryz.func43, Tryz.ntmps43
      go_wp2_with (go_at_call 51; refine HS.out.mono ?_)
      rintro e w1 ⟨rfl, ⟨T, -, hb⟩, -⟩
      have HB := Lib.hid hb; clear hb
      go_wp2_with fail
      go_ret
      exact ⟨ret_bool (by simp), HB.out⟩
    · rw [decide_eq_false h253]
      have hsz : ¬ ((bs l).size : Int) ≤ 253 := by rw [bs_size]; omega
      go_enter Tryz.func43, Tryz.ntmps43
      go_wp2_with fail
      go_ret
      exact ⟨ret_bool (by simp), Below.refl _ _⟩

set_option maxHeartbeats 1000000 in
set_option maxRecDepth 100000 in
theorem consists_any (l m : List UInt8) (w : World) (he : EnvU w) (hl : l.length ≤ 281474976710656) :
    Calls Tryz.prog 44 #[.string (bs l), .string (bs m)] w fun r w' => r = .returned (.bool (made m l)) ∧ Below w.heap.size w w' := by
  have hal : Below w.heap.size w (w.alloc (.cells #[.string (bs m)] 9)) := (Below.refl _ _).alloc (Nat.le_refl _) _
  have hc0 : (w.alloc (.cells #[.string (bs m)] 9)).cell? ⟨w.heap.size, 0, none⟩ = some (.string (bs m)) := cell_of_one (heap_alloc_new w _)
  have hsc := scanC_any l 70 w.heap.size (madeP m) (fun _ W => EnvU W ∧ Below w.heap.size w W ∧ W.cell? ⟨w.heap.size, 0, none⟩ = some (.string (bs m)) ∧ w.heap.size < W.heap.size) (enters_of Tryz.func70 (by kernel_rfl) rfl)
    (fun _ W W' h hb => ⟨h.1.bel hb, h.2.1.trans (hb.mono h.2.1.size), (hb.cell (p := ⟨w.heap.size, 0, none⟩) h.2.2.2).trans h.2.2.1, Nat.lt_of_lt_of_le h.2.2.2 hb.size⟩) (fun _ _ h => h.1)
    (fun _ c e W _ h => (consC_any c e _ m W h.2.2.1).mono fun r W' ⟨h1, h2⟩ => ⟨h1, h2 ▸ h⟩) _ ⟨he.alloc _, hal, hc0, by simp⟩ hl
  have HS := Lib.hid hsc; clear hsc hal hc0
  have HM : Hid (made m l = (toks l).all (madeP m)) := rfl
  rw [HM.out]
  generalize (toks l).all (madeP m) = q at *
  clear HM
  go_enter Tryz.func44, Tryz.ntmps44
  go_wp2_with (go_at_call 51; refine HS.out.mono ?_)
  rintro e w1 ⟨rfl, ⟨T, -, hb, -⟩, -⟩
  have HB := Lib.hid hb; clear hb
  go_wp2_with fail
  go_ret
  exact ⟨rfl, HB.out⟩
end Go.Proofs.YtekaiafhnnpkgaaGreatDoor
