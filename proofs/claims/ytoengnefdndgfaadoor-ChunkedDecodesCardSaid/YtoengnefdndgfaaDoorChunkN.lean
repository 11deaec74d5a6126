/- Where the document's line ends, where its last lines end. -/
import Derived.Test.YtoengnefdndgfaaDoorChunkL
namespace Go.Proofs.YtoengnefdndgfaaDoor
open Go.RowKit
/-- as 'Hid', and not looked through: 'contradiction' reckons out what a 'Hid' hides -/
structure Hold (p : Prop) : Prop where
  out : p
/-- a place behind p, or 0 -/
def placeI (p : Nat) (F : Nat × Int) (more : Nat) : Int := if F.2 = 0 then ((p + F.1 + more : Nat) : Int) else 0
theorem occ_drop (L sub : List UInt8) (p j : Nat) : Lib.occAt (L.drop p) sub j = Lib.occAt L sub (p + j) := by unfold Lib.occAt; rw [List.drop_drop]
theorem occ4 (t : List UInt8) (k : Nat) : Lib.occAt (13 :: 10 :: t) [13, 10, 13, 10] (k + 2) = (Lib.occAt t [13, 10] k && Lib.occAt t [13, 10] (k + 2)) := by
  rw [Bool.eq_iff_iff, Bool.and_eq_true, occ_two, occ_two, occ_iff]
  constructor
  · intro h
    have h0 := h 0 (by simp)
    have h1 := h 1 (by simp)
    have h2 := h 2 (by simp)
    have h3 := h 3 (by simp)
    simp only [List.getElem_cons_zero, List.getElem_cons_succ, Nat.add_zero] at h0 h1 h2 h3
    exact ⟨⟨by simpa using h0, by simpa [Nat.add_right_comm] using h1⟩, by simpa [Nat.add_right_comm] using h2, by simpa [Nat.add_right_comm] using h3⟩
  · rintro ⟨⟨h0, h1⟩, h2, h3⟩ j hj
    match j, hj with
    | 0, _ => simpa using h0
    | 1, _ => simpa [Nat.add_right_comm] using h1
    | 2, _ => simpa [Nat.add_right_comm] using h2
    | 3, _ => simpa [Nat.add_right_comm] using h3
theorem occ4_zero (t : List UInt8) : Lib.occAt (13 :: 10 :: t) [13, 10, 13, 10] 0 = Lib.occAt t [13, 10] 0 := by
  unfold Lib.occAt
  simp [List.isPrefixOf]
theorem occ4_one (t : List UInt8) : Lib.occAt (13 :: 10 :: t) [13, 10, 13, 10] 1 = false := by
  unfold Lib.occAt
  simp [List.isPrefixOf]

theorem ret_ii {a b c d : Int} (h1 : a = c) (h2 : b = d) : Ending.returned (.tuple #[.int .i64 a, .int .i64 b]) = .returned (.tuple #[.int .i64 c, .int .i64 d]) := by rw [h1, h2]
set_option maxHeartbeats 2000000 in
set_option maxRecDepth 100000 in
theorem rhead_any (s : ByteArray) (p : Nat) (w : World) (hp : p ≤ s.size) (hs : s.size ≤ 1048576) :
    Calls Tryd.prog 23 #[.string s, .int .i64 p] w fun e w' => e = .returned (.tuple #[.int .i64 (placeI p (findL (s.data.toList.drop p) [13, 10] 2050) 0), .int .i64 (findL (s.data.toList.drop p) [13, 10] 2050).2]) ∧ w = w' := by
  have HZ := Hold.mk (size_len s)
  have hfind := fun n (h1 : n + 2 ≤ 2050) h2 h3 => find_of (s := s.data.toList.drop p) (mark := [13, 10]) (most := 2050) (n := n) (by simp) h1 h2 h3
  have hnone := fun h => find_none (s := s.data.toList.drop p) (mark := [13, 10]) (most := 2050) (by simp) h
  rw [List.length_drop, ← size_len] at hnone
  generalize findL (s.data.toList.drop p) [13, 10] 2050 = F at hfind hnone ⊢
  have HF := Hold.mk hfind; have HN := Hold.mk hnone
  clear hfind hnone
  go_enter Tryd.func23, Tryd.ntmps23
  go_wp2_with fail
  go_loop [6] (fun i => ∃ k : Nat, i = .int .i64 ((p + k : Nat) : Int) ∧ k ≤ 2049 ∧ Hold (∀ j, j < k → Lib.occAt (s.data.toList.drop p) [13, 10] j = false)) (fun i => p + 2049 - (intOf i).toNat)
  case atStart => exact ⟨0, rfl, by omega, ⟨fun j hj => absurd hj (by omega)⟩⟩
  case round =>
    obtain ⟨k, rfl, hk, HA⟩ := hrel
    by_cases hlt : k < 2049
    · have hle : ((p + k : Nat) : Int) ≤ (p : Int) + 2048 := by omega
      have hcall := fun w => rends_any s (p + k) w (by omega)
      rw [← occ_drop] at hcall
      cases ho : Lib.occAt (s.data.toList.drop p) [13, 10] k
      · have HAA : Hold (∀ j, j < k + 1 → Lib.occAt (s.data.toList.drop p) [13, 10] j = false) := by
          refine ⟨?_⟩
          intro j hj
          rcases Nat.lt_or_eq_of_le (Nat.le_of_lt_succ hj) with h | h
          · exact HA.out j h
          · rw [h, ho]
        rw [ho] at hcall
        have HC := Hold.mk hcall
        clear hcall ho
        go_wp2_with (go_at_call 25; refine (HC.out _).mono ?_; rintro e w1 ⟨rfl, rfl⟩)
        go_round
        case rel => exact ⟨k + 1, by go_num, by omega, HAA⟩
        case measure => simp [intOf]; omega
      · have HR := Hold.mk (HF.out k (by omega) ho HA.out)
        rw [ho] at hcall
        have HC := Hold.mk hcall
        clear hcall ho
        go_wp2_with (go_at_call 25; refine (HC.out _).mono ?_; rintro e w1 ⟨rfl, rfl⟩)
        go_ret2
        exact ⟨ret_ii (by rw [HR.out]; rfl) (by rw [HR.out]), rfl⟩
    · have HR := Hold.mk (HN.out fun j hj => by
        have hj2 : j < k := by simp only [List.length_cons, List.length_nil] at hj; omega
        exact HA.out j hj2)
      have hle : ¬ ((p + k : Nat) : Int) ≤ (p : Int) + 2048 := by omega
      by_cases hl : 2050 ≤ s.size - p
      · have hl2 : (2050 : Int) ≤ (s.size : Int) - p := by omega
        have HRR : Hold (F = (0, 3)) := ⟨by have h := HR.out; rw [if_pos hl] at h; exact h⟩
        clear HR hl
        go_wp2_with fail
        go_ret2
        exact ⟨ret_ii (by rw [HRR.out]; rfl) (by rw [HRR.out]), rfl⟩
      · have hl2 : ¬ (2050 : Int) ≤ (s.size : Int) - p := by omega
        have HRR : Hold (F = (0, 6)) := ⟨by have h := HR.out; rw [if_neg hl] at h; exact h⟩
        clear HR hl
        go_wp2_with fail
        go_ret2
        exact ⟨ret_ii (by rw [HRR.out]; rfl) (by rw [HRR.out]), rfl⟩

set_option maxHeartbeats 2000000 in
set_option maxRecDepth 100000 in
theorem rtail_any (s : ByteArray) (p : Nat) (w : World) (hp : p ≤ s.size) (hs : s.size ≤ 1048576) :
    Calls Tryd.prog 26 #[.string s, .int .i64 p] w fun e w' => e = .returned (.tuple #[.int .i64 (placeI p (findL (13 :: 10 :: s.data.toList.drop p) [13, 10, 13, 10] 8194) 2), .int .i64 (findL (13 :: 10 :: s.data.toList.drop p) [13, 10, 13, 10] 8194).2]) ∧ w = w' := by
  have HZ := Hold.mk (size_len s)
  have hfind := fun n (h1 : n + 4 ≤ 8194) h2 h3 => find_of (s := 13 :: 10 :: s.data.toList.drop p) (mark := [13, 10, 13, 10]) (most := 8194) (n := n) (by simp) h1 h2 h3
  have hnone := fun h => find_none (s := 13 :: 10 :: s.data.toList.drop p) (mark := [13, 10, 13, 10]) (most := 8194) (by simp) h
  have hll : (13 :: 10 :: s.data.toList.drop p).length = s.size - p + 1 + 1 := by rw [List.length_cons, List.length_cons, List.length_drop, ← size_len]
  rw [hll] at hnone
  clear hll
  generalize findL (13 :: 10 :: s.data.toList.drop p) [13, 10, 13, 10] 8194 = F at hfind hnone ⊢
  have HF := Hold.mk hfind; have HN := Hold.mk hnone
  clear hfind hnone
  have hcall0 := fun w => rends_any s p w (by omega)
  have e0 : Lib.occAt s.data.toList [13, 10] p = Lib.occAt (s.data.toList.drop p) [13, 10] 0 := by rw [occ_drop]; rfl
  rw [e0] at hcall0
  cases ho0 : Lib.occAt (s.data.toList.drop p) [13, 10] 0
  · rw [ho0] at hcall0
    have HC0 := Hold.mk hcall0; have HO0 := Hold.mk ho0
    clear hcall0 ho0 e0
    go_enter Tryd.func26, Tryd.ntmps26
    go_wp2_with (go_at_call 25; refine (HC0.out _).mono ?_; rintro e w1 ⟨rfl, rfl⟩)
    go_loop [6] (fun i => ∃ k : Nat, i = .int .i64 ((p + k : Nat) : Int) ∧ k ≤ 8189 ∧ Hold (∀ j, j < k + 2 → Lib.occAt (13 :: 10 :: s.data.toList.drop p) [13, 10, 13, 10] j = false)) (fun i => p + 8189 - (intOf i).toNat)
    case atStart =>
      refine ⟨0, rfl, by omega, ⟨fun j hj => ?_⟩⟩
      match j, hj with
      | 0, _ => rw [occ4_zero]; exact HO0.out
      | 1, _ => exact occ4_one _
    case round =>
      obtain ⟨k, rfl, hk, HA⟩ := hrel
      by_cases hlt : k < 8189
      · have hcall := fun w => rends_any s (p + k) w (by omega)
        have hcall2 := fun w => rends_any s (p + k + 2) w (by omega)
        rw [show ((p + k + 2 : Nat) : Int) = ((p + k : Nat) : Int) + 2 from by push_cast; rfl] at hcall2
        have tok1 : True := trivial
        rw [← occ_drop] at hcall
        rw [Nat.add_assoc p k 2, ← occ_drop] at hcall2
        have h4 := occ4 (s.data.toList.drop p) k
        have hstep : ∀ b, Lib.occAt (13 :: 10 :: s.data.toList.drop p) [13, 10, 13, 10] (k + 2) = b → b = false → Hold (∀ j, j < k + 1 + 2 → Lib.occAt (13 :: 10 :: s.data.toList.drop p) [13, 10, 13, 10] j = false) := by
          intro b h1 h2
          refine ⟨?_⟩
          intro j hj
          rcases Nat.lt_or_eq_of_le (Nat.le_of_lt_succ (by omega : j < (k + 2) + 1)) with h | h
          · exact HA.out j h
          · rw [h, h1, h2]
        have hhit := HF.out (k + 2) (by omega)
        generalize Lib.occAt (s.data.toList.drop p) [13, 10] k = b1 at *
        generalize Lib.occAt (s.data.toList.drop p) [13, 10] (k + 2) = b2 at *
        have HC := Hold.mk hcall; have HC2 := Hold.mk hcall2; have H4 := Hold.mk h4; have HS := Hold.mk hstep; have HH := Hold.mk hhit
        clear hcall hcall2 h4 hstep hhit
        cases b1
        · have HAA := HS.out _ H4.out rfl
          go_wp2_with (go_at_call 25; refine (HC.out _).mono ?_; rintro e w1 ⟨rfl, rfl⟩)
          go_round
          case rel => exact ⟨k + 1, by go_num, by omega, HAA⟩
          case measure => simp [intOf]; omega
        · cases b2
          · have HAA := HS.out _ H4.out rfl
            go_wp2_with (first | (go_at_call 25; clear tok1; refine (HC.out _).mono ?_; rintro e w1 ⟨rfl, rfl⟩) | (go_at_call 25; refine (HC2.out _).mono ?_; rintro e w1 ⟨rfl, rfl⟩))
            go_round
            case rel => exact ⟨k + 1, by go_num, by omega, HAA⟩
            case measure => simp [intOf]; omega
          · have HR := Hold.mk (HH.out H4.out HA.out)
            go_wp2_with (first | (go_at_call 25; clear tok1; refine (HC.out _).mono ?_; rintro e w1 ⟨rfl, rfl⟩) | (go_at_call 25; refine (HC2.out _).mono ?_; rintro e w1 ⟨rfl, rfl⟩))
            go_ret2
            exact ⟨ret_ii (by rw [HR.out]; unfold placeI; rw [if_pos rfl]; push_cast; omega) (by rw [HR.out]), rfl⟩
      · have HR := Hold.mk (HN.out fun j hj => by
          have hj2 : j < k + 2 := by simp only [List.length_cons, List.length_nil] at hj; omega
          exact HA.out j hj2)
        by_cases hl : 8194 ≤ s.size - p + 1 + 1
        · have hl2 : (8192 : Int) ≤ (s.size : Int) - p := by omega
          have HRR : Hold (F = (0, 3)) := ⟨by have h := HR.out; rw [if_pos hl] at h; exact h⟩
          clear HR hl
          go_wp2_with fail
          go_ret2
          exact ⟨ret_ii (by rw [HRR.out]; rfl) (by rw [HRR.out]), rfl⟩
        · have hl2 : ¬ (8192 : Int) ≤ (s.size : Int) - p := by omega
          have HRR : Hold (F = (0, 6)) := ⟨by have h := HR.out; rw [if_neg hl] at h; exact h⟩
          clear HR hl
          go_wp2_with fail
          go_ret2
          exact ⟨ret_ii (by rw [HRR.out]; rfl) (by rw [HRR.out]), rfl⟩
  · rw [ho0] at hcall0
    have HR := Hold.mk (HF.out 0 (by omega) (by rw [occ4_zero]; exact ho0) (fun j hj => absurd hj (by omega)))
    have HC0 := Hold.mk hcall0
    clear hcall0 ho0 e0
    go_enter Tryd.func26, Tryd.ntmps26
    go_wp2_with (go_at_call 25; refine (HC0.out _).mono ?_; rintro e w1 ⟨rfl, rfl⟩)
    go_ret2
    exact ⟨ret_ii (by rw [HR.out]; rfl) (by rw [HR.out]), rfl⟩
end Go.Proofs.YtoengnefdndgfaaDoor
