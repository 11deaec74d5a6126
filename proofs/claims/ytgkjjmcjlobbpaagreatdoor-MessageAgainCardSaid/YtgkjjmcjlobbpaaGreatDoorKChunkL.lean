/- The document's small functions on bodies in chunks: where a line ends, a digit's value, a size line's size, the head and the tail. -/
import Derived.Test.YtgkjjmcjlobbpaaGreatDoorKChunkA
import Derived.Deep.CutBlock
import Derived.Deep.DeepCutAuto
namespace Go.Proofs.YtgkjjmcjlobbpaaGreatDoor
open Go.RowKit

theorem occ2_at {s : ByteArray} {k : Nat} : (∃ h : k + 1 < s.size, s[k] = 13 ∧ s[k + 1] = 10 ∧ Lib.occAt s.data.toList [13, 10] k = true) ∨
    (∃ h : k + 1 < s.size, s[k] = 13 ∧ s[k + 1] ≠ 10 ∧ Lib.occAt s.data.toList [13, 10] k = false) ∨ (∃ h : k + 1 < s.size, s[k] ≠ 13 ∧ Lib.occAt s.data.toList [13, 10] k = false) ∨
    (¬ k + 1 < s.size ∧ Lib.occAt s.data.toList [13, 10] k = false) := by
  have hz := size_len s
  by_cases h : k + 1 < s.size
  · have g1 : s.data.toList[k]? = some (s[k]'(by omega)) := by
      rw [List.getElem?_eq_getElem (by omega)]; simp [ByteArray.getElem_eq_getElem_data]
    have g2 : s.data.toList[k + 1]? = some (s[k + 1]'h) := by
      rw [List.getElem?_eq_getElem (by omega)]; simp [ByteArray.getElem_eq_getElem_data]
    by_cases h1 : s[k]'(by omega) = 13
    · by_cases h2 : s[k + 1]'h = 10
      · exact .inl ⟨h, h1, h2, (occ_two _ _ _ _).2 ⟨by rw [g1, h1], by rw [g2, h2]⟩⟩
      · refine .inr (.inl ⟨h, h1, h2, ?_⟩)
        cases ho : Lib.occAt s.data.toList [13, 10] k
        · rfl
        · have := ((occ_two _ _ _ _).1 ho).2
          rw [g2] at this
          exact absurd (Option.some.inj this) h2
    · refine .inr (.inr (.inl ⟨h, h1, ?_⟩))
      cases ho : Lib.occAt s.data.toList [13, 10] k
      · rfl
      · have := ((occ_two _ _ _ _).1 ho).1
        rw [g1] at this
        exact absurd (Option.some.inj this) h1
  · refine .inr (.inr (.inr ⟨h, ?_⟩))
    cases ho : Lib.occAt s.data.toList [13, 10] k
    · rfl
    · have := occ_room ho (by simp)
      simp only [List.length_cons, List.length_nil] at this
      omega

set_option maxHeartbeats 1000000 in
set_option maxRecDepth 100000 in
theorem rends_any (s : ByteArray) (k : Nat) (w : World) (hk : k ≤ 4194304) :
    Calls Tryz.prog 122 #[.string s, .int .i64 k] w fun e w' => e = .returned (.bool (Lib.occAt s.data.toList [13, 10] k)) ∧ w = w' := by
  rcases occ2_at (s := s) (k := k) with ⟨h, h1, h2, h3⟩ | ⟨h, h1, h2, h3⟩ | ⟨h, h1, h3⟩ | ⟨h, h3⟩
  · have hlt : (k : Int) + 1 < s.size := by omega
    have q1 : ((s[k].toNat : Int) == 13) = true := by rw [h1]; rfl
    have q2 : ((s[k + 1].toNat : Int) == 10) = true := by rw [h2]; rfl
    rw [h3]
    clear h1 h2 h3
    go_enter Tryz.func122, Tryz.ntmps122
    go_wp2_with fail
    go_ret
    exact ⟨rfl, rfl⟩
  · have hlt : (k : Int) + 1 < s.size := by omega
    have q1 : ((s[k].toNat : Int) == 13) = true := by rw [h1]; rfl
    have q2 : ((s[k + 1].toNat : Int) == 10) = false := by rw [beq_eq_false_iff_ne]; intro e; exact h2 (UInt8.toNat_inj.1 (by simpa using (by omega : s[k + 1].toNat = 10)))
    rw [h3]
    clear h1 h2 h3
    go_enter Tryz.func122, Tryz.ntmps122
    go_wp2_with fail
    go_ret
    exact ⟨rfl, rfl⟩
  · have hlt : (k : Int) + 1 < s.size := by omega
    have q1 : ((s[k].toNat : Int) == 13) = false := by rw [beq_eq_false_iff_ne]; intro e; exact h1 (UInt8.toNat_inj.1 (by simpa using (by omega : s[k].toNat = 13)))
    rw [h3]
    clear h1 h3
    go_enter Tryz.func122, Tryz.ntmps122
    go_wp2_with fail
    go_ret
    exact ⟨rfl, rfl⟩
  · have hlt : ¬ (k : Int) + 1 < s.size := by omega
    rw [h3]
    clear h3
    go_enter Tryz.func122, Tryz.ntmps122
    go_wp2_with fail
    go_ret
    exact ⟨rfl, rfl⟩

theorem ret_i {a b : Int} (h : a = b) : Ending.returned (.int .i64 a) = .returned (.int .i64 b) := by rw [h]
set_option maxHeartbeats 1000000 in
set_option maxRecDepth 100000 in
theorem rhex_any (n : Int) (w : World) (h0 : 0 ≤ n) (h1 : n ≤ 255) :
    Calls Tryz.prog 154 #[.int .u8 n] w fun e w' => e = .returned (.int .i64 (hexI n)) ∧ w = w' := by
  have hh : Hid (hexI n = if 48 ≤ n ∧ n ≤ 57 then n - 48 else if 97 ≤ n ∧ n ≤ 102 then n - 87 else if 65 ≤ n ∧ n ≤ 70 then n - 55 else -1) := rfl
  go_enter Tryz.func154, Tryz.ntmps154
  go_wp2
  all_goals go_ret
  all_goals refine ⟨ret_i ?_, rfl⟩
  all_goals rw [hh.out]
  all_goals repeat' split
  all_goals first | omega | (show (_ : Int) = _; simp; omega)
end Go.Proofs.YtgkjjmcjlobbpaaGreatDoor

/- Where the document's line ends, where its last lines end. -/
namespace Go.Proofs.YtgkjjmcjlobbpaaGreatDoor
open Go.RowKit
/-- as 'Hid', and not looked through: 'contradiction' reckons out what a 'Hid' hides -/
structure Hold (p : Prop) : Prop where
  out : p
/-- a place behind p, or 0 -/
def placeI (p : Nat) (F : Nat × Int) (more : Nat) : Int := if F.2 = 0 then ((p + F.1 + more : Nat) : Int) else 0
theorem occ_drop (L sub : List UInt8) (p j : Nat) : Lib.occAt (L.drop p) sub j = Lib.occAt L sub (p + j) := by unfold Lib.occAt; rw [List.drop_drop]
theorem occ4 (t : List UInt8) (k : Nat) : Lib.occAt (13 :: 10 :: t) [13, 10, 13, 10] (k + 2) = (Lib.occAt t [13, 10] k && Lib.occAt t [13, 10] (k + 2)) := by
  rw [Bool.eq_iff_iff, Bool.and_eq_true, occ_two, occ_two, occ_iff]
  constructor
  · intro h
    have h0 := h 0 (by simp)
    have h1 := h 1 (by simp)
    have h2 := h 2 (by simp)
    have h3 := h 3 (by simp)
    simp only [List.getElem_cons_zero, List.getElem_cons_succ, Nat.add_zero] at h0 h1 h2 h3
    exact ⟨⟨by simpa using h0, by simpa [Nat.add_right_comm] using h1⟩, by simpa [Nat.add_right_comm] using h2, by simpa [Nat.add_right_comm] using h3⟩
  · rintro ⟨⟨h0, h1⟩, h2, h3⟩ j hj
    match j, hj with
    | 0, _ => simpa using h0
    | 1, _ => simpa [Nat.add_right_comm] using h1
    | 2, _ => simpa [Nat.add_right_comm] using h2
    | 3, _ => simpa [Nat.add_right_comm] using h3
theorem occ4_zero (t : List UInt8) : Lib.occAt (13 :: 10 :: t) [13, 10, 13, 10] 0 = Lib.occAt t [13, 10] 0 := by
  unfold Lib.occAt
  simp [List.isPrefixOf]
theorem occ4_one (t : List UInt8) : Lib.occAt (13 :: 10 :: t) [13, 10, 13, 10] 1 = false := by
  unfold Lib.occAt
  simp [List.isPrefixOf]

theorem ret_ii {a b c d : Int} (h1 : a = c) (h2 : b = d) : Ending.returned (.tuple #[.int .i64 a, .int .i64 b]) = .returned (.tuple #[.int .i64 c, .int .i64 d]) := by rw [h1, h2]
set_option maxHeartbeats 2000000 in
set_option maxRecDepth 100000 in
theorem rhead_any (s : ByteArray) (p : Nat) (w : World) (hp : p ≤ s.size) (hs : s.size ≤ 1048576) :
    Calls Tryz.prog 120 #[.string s, .int .i64 p] w fun e w' => e = .returned (.tuple #[.int .i64 (placeI p (findL (s.data.toList.drop p) [13, 10] 2050) 0), .int .i64 (findL (s.data.toList.drop p) [13, 10] 2050).2]) ∧ w = w' := by
  have HZ := Hold.mk (size_len s)
  have hfind := fun n (h1 : n + 2 ≤ 2050) h2 h3 => find_of (s := s.data.toList.drop p) (mark := [13, 10]) (most := 2050) (n := n) (by simp) h1 h2 h3
  have hnone := fun h => find_none (s := s.data.toList.drop p) (mark := [13, 10]) (most := 2050) (by simp) h
  rw [List.length_drop, ← size_len] at hnone
  generalize findL (s.data.toList.drop p) [13, 10] 2050 = F at hfind hnone ⊢
  have HF := Hold.mk hfind; have HN := Hold.mk hnone
  clear hfind hnone
  go_enter Tryz.func120, Tryz.ntmps120
  go_wp2_with fail
  go_loop [6] (fun i => ∃ k : Nat, i = .int .i64 ((p + k : Nat) : Int) ∧ k ≤ 2049 ∧ Hold (∀ j, j < k → Lib.occAt (s.data.toList.drop p) [13, 10] j = false)) (fun i => p + 2049 - (intOf i).toNat)
  case atStart => exact ⟨0, rfl, by omega, ⟨fun j hj => absurd hj (by omega)⟩⟩
  case round =>
    obtain ⟨k, rfl, hk, HA⟩ := hrel
    by_cases hlt : k < 2049
    · have hle : ((p + k : Nat) : Int) ≤ (p : Int) + 2048 := by omega
      have hcall := fun w => rends_any s (p + k) w (by omega)
      rw [← occ_drop] at hcall
      cases ho : Lib.occAt (s.data.toList.drop p) [13, 10] k
      · have HAA : Hold (∀ j, j < k + 1 → Lib.occAt (s.data.toList.drop p) [13, 10] j = false) := by
          refine ⟨?_⟩
          intro j hj
          rcases Nat.lt_or_eq_of_le (Nat.le_of_lt_succ hj) with h | h
          · exact HA.out j h
          · rw [h, ho]
        rw [ho] at hcall
        have HC := Hold.mk hcall
        clear hcall ho
        go_wp2_with (go_at_call 122; refine (HC.out _).mono ?_; rintro e w1 ⟨rfl, rfl⟩)
        go_round
        case rel => exact ⟨k + 1, by go_num, by omega, HAA⟩
        case measure => simp [intOf]; omega
      · have HR := Hold.mk (HF.out k (by omega) ho HA.out)
        rw [ho] at hcall
        have HC := Hold.mk hcall
        clear hcall ho
        go_wp2_with (go_at_call 122; refine (HC.out _).mono ?_; rintro e w1 ⟨rfl, rfl⟩)
        go_ret2
        exact ⟨ret_ii (by rw [HR.out]; rfl) (by rw [HR.out]), rfl⟩
    · have HR := Hold.mk (HN.out fun j hj => by
        have hj2 : j < k := by simp only [List.length_cons, List.length_nil] at hj; omega
        exact HA.out j hj2)
      have hle : ¬ ((p + k : Nat) : Int) ≤ (p : Int) + 2048 := by omega
      by_cases hl : 2050 ≤ s.size - p
      · have hl2 : (2050 : Int) ≤ (s.size : Int) - p := by omega
        have HRR : Hold (F = (0, 3)) := ⟨by have h := HR.out; rw [if_pos hl] at h; exact h⟩
        clear HR hl
        go_wp2_with fail
        go_ret2
        exact ⟨ret_ii (by rw [HRR.out]; rfl) (by rw [HRR.out]), rfl⟩
      · have hl2 : ¬ (2050 : Int) ≤ (s.size : Int) - p := by omega
        have HRR : Hold (F = (0, 6)) := ⟨by have h := HR.out; rw [if_neg hl] at h; exact h⟩
        clear HR hl
        go_wp2_with fail
        go_ret2
        exact ⟨ret_ii (by rw [HRR.out]; rfl) (by rw [HRR.out]), rfl⟩

set_option maxHeartbeats 2000000 in
set_option maxRecDepth 100000 in
theorem rtail_any (s : ByteArray) (p : Nat) (w : World) (hp : p ≤ s.size) (hs : s.size ≤ 1048576) :
    Calls Tryz.prog 123 #[.string s, .int .i64 p] w fun e w' => e = .returned (.tuple #[.int .i64 (placeI p (findL (13 :: 10 :: s.data.toList.drop p) [13, 10, 13, 10] 8194) 2), .int .i64 (findL (13 :: 10 :: s.data.toList.drop p) [13, 10, 13, 10] 8194).2]) ∧ w = w' := by
  have HZ := Hold.mk (size_len s)
  have hfind := fun n (h1 : n + 4 ≤ 8194) h2 h3 => find_of (s := 13 :: 10 :: s.data.toList.drop p) (mark := [13, 10, 13, 10]) (most := 8194) (n := n) (by simp) h1 h2 h3
  have hnone := fun h => find_none (s := 13 :: 10 :: s.data.toList.drop p) (mark := [13, 10, 13, 10]) (most := 8194) (by simp) h
  have hll : (13 :: 10 :: s.data.toList.drop p).length = s.size - p + 1 + 1 := by rw [List.length_cons, List.length_cons, List.length_drop, ← size_len]
  rw [hll] at hnone
  clear hll
  generalize findL (13 :: 10 :: s.data.toList.drop p) [13, 10, 13, 10] 8194 = F at hfind hnone ⊢
  have HF := Hold.mk hfind; have HN := Hold.mk hnone
  clear hfind hnone
  have hcall0 := fun w => rends_any s p w (by omega)
  have e0 : Lib.occAt s.data.toList [13, 10] p = Lib.occAt (s.data.toList.drop p) [13, 10] 0 := by rw [occ_drop]; rfl
  rw [e0] at hcall0
  cases ho0 : Lib.occAt (s.data.toList.drop p) [13, 10] 0
  · rw [ho0] at hcall0
    have HC0 := Hold.mk hcall0; have HO0 := Hold.mk ho0
    clear hcall0 ho0 e0
    go_enter Tryz.func123, Tryz.ntmps123
    go_wp2_with (go_at_call 122; refine (HC0.out _).mono ?_; rintro e w1 ⟨rfl, rfl⟩)
    go_loop [6] (fun i => ∃ k : Nat, i = .int .i64 ((p + k : Nat) : Int) ∧ k ≤ 8189 ∧ Hold (∀ j, j < k + 2 → Lib.occAt (13 :: 10 :: s.data.toList.drop p) [13, 10, 13, 10] j = false)) (fun i => p + 8189 - (intOf i).toNat)
    case atStart =>
      refine ⟨0, rfl, by omega, ⟨fun j hj => ?_⟩⟩
      match j, hj with
      | 0, _ => rw [occ4_zero]; exact HO0.out
      | 1, _ => exact occ4_one _
    case round =>
      obtain ⟨k, rfl, hk, HA⟩ := hrel
      by_cases hlt : k < 8189
      · have hcall := fun w => rends_any s (p + k) w (by omega)
        have hcall2 := fun w => rends_any s (p + k + 2) w (by omega)
        rw [show ((p + k + 2 : Nat) : Int) = ((p + k : Nat) : Int) + 2 from by push_cast; rfl] at hcall2
        have tok1 : True := trivial
        rw [← occ_drop] at hcall
        rw [Nat.add_assoc p k 2, ← occ_drop] at hcall2
        have h4 := occ4 (s.data.toList.drop p) k
        have hstep : ∀ b, Lib.occAt (13 :: 10 :: s.data.toList.drop p) [13, 10, 13, 10] (k + 2) = b → b = false → Hold (∀ j, j < k + 1 + 2 → Lib.occAt (13 :: 10 :: s.data.toList.drop p) [13, 10, 13, 10] j = false) := by
          intro b h1 h2
          refine ⟨?_⟩
          intro j hj
          rcases Nat.lt_or_eq_of_le (Nat.le_of_lt_succ (by omega : j < (k + 2) + 1)) with h | h
          · exact HA.out j h
          · rw [h, h1, h2]
        have hhit := HF.out (k + 2) (by omega)
        generalize Lib.occAt (s.data.toList.drop p) [13, 10] k = b1 at *
        generalize Lib.occAt (s.data.toList.drop p) [13, 10] (k + 2) = b2 at *
        have HC := Hold.mk hcall; have HC2 := Hold.mk hcall2; have H4 := Hold.mk h4; have HS := Hold.mk hstep; have HH := Hold.mk hhit
        clear hcall hcall2 h4 hstep hhit
        cases b1
        · have HAA := HS.out _ H4.out rfl
          go_wp2_with (go_at_call 122; refine (HC.out _).mono ?_; rintro e w1 ⟨rfl, rfl⟩)
          go_round
          case rel => exact ⟨k + 1, by go_num, by omega, HAA⟩
          case measure => simp [intOf]; omega
        · cases b2
          · have HAA := HS.out _ H4.out rfl
            go_wp2_with (first | (go_at_call 122; clear tok1; refine (HC.out _).mono ?_; rintro e w1 ⟨rfl, rfl⟩) | (go_at_call 122; refine (HC2.out _).mono ?_; rintro e w1 ⟨rfl, rfl⟩))
            go_round
            case rel => exact ⟨k + 1, by go_num, by omega, HAA⟩
            case measure => simp [intOf]; omega
          · have HR := Hold.mk (HH.out H4.out HA.out)
            go_wp2_with (first | (go_at_call 122; clear tok1; refine (HC.out _).mono ?_; rintro e w1 ⟨rfl, rfl⟩) | (go_at_call 122; refine (HC2.out _).mono ?_; rintro e w1 ⟨rfl, rfl⟩))
            go_ret2
            exact ⟨ret_ii (by rw [HR.out]; unfold placeI; rw [if_pos rfl]; push_cast; omega) (by rw [HR.out]), rfl⟩
      · have HR := Hold.mk (HN.out fun j hj => by
          have hj2 : j < k + 2 := by simp only [List.length_cons, List.length_nil] at hj; omega
          exact HA.out j hj2)
        by_cases hl : 8194 ≤ s.size - p + 1 + 1
        · have hl2 : (8192 : Int) ≤ (s.size : Int) - p := by omega
          have HRR : Hold (F = (0, 3)) := ⟨by have h := HR.out; rw [if_pos hl] at h; exact h⟩
          clear HR hl
          go_wp2_with fail
          go_ret2
          exact ⟨ret_ii (by rw [HRR.out]; rfl) (by rw [HRR.out]), rfl⟩
        · have hl2 : ¬ (8192 : Int) ≤ (s.size : Int) - p := by omega
          have HRR : Hold (F = (0, 6)) := ⟨by have h := HR.out; rw [if_neg hl] at h; exact h⟩
          clear HR hl
          go_wp2_with fail
          go_ret2
          exact ⟨ret_ii (by rw [HRR.out]; rfl) (by rw [HRR.out]), rfl⟩
  · rw [ho0] at hcall0
    have HR := Hold.mk (HF.out 0 (by omega) (by rw [occ4_zero]; exact ho0) (fun j hj => absurd hj (by omega)))
    have HC0 := Hold.mk hcall0
    clear hcall0 ho0 e0
    go_enter Tryz.func123, Tryz.ntmps123
    go_wp2_with (go_at_call 122; refine (HC0.out _).mono ?_; rintro e w1 ⟨rfl, rfl⟩)
    go_ret2
    exact ⟨ret_ii (by rw [HR.out]; rfl) (by rw [HR.out]), rfl⟩
end Go.Proofs.YtgkjjmcjlobbpaaGreatDoor

/- How the document's decoder sees the same steps. Nothing of the program is read here. -/
namespace Go.Proofs.YtgkjjmcjlobbpaaGreatDoor
section
variable {L acc : List UInt8} {u r : Nat}
theorem dec_noLine (h : (findL (L.drop u) [13, 10] 2050).2 ≠ 0) : behind acc u (decL (L.drop u) r) = bad (findL (L.drop u) [13, 10] 2050).2 := by
  have hh : headL (L.drop u) r = (0, 0, (findL (L.drop u) [13, 10] 2050).2) := by unfold headL; rw [if_neg h]
  rw [decL_eq, hh, if_neg h, behind_bad h]
theorem dec_noSize {f : Nat} (hf : findL (L.drop u) [13, 10] 2050 = (f, 0)) (h : sizeN ((L.drop u).take f) = none) : behind acc u (decL (L.drop u) r) = bad 4 := by
  have hh : headL (L.drop u) r = (0, 0, 4) := by unfold headL; rw [hf]; simp only [if_true, h]
  rw [decL_eq, hh, if_neg (by decide), behind_bad (by decide)]
theorem dec_room {f n : Nat} (hf : findL (L.drop u) [13, 10] 2050 = (f, 0)) (h : sizeN ((L.drop u).take f) = some n) (hr : r < n) : behind acc u (decL (L.drop u) r) = bad 3 := by
  have hh : headL (L.drop u) r = (0, 0, 3) := by unfold headL; rw [hf]; simp only [if_true, h, if_pos hr]
  rw [decL_eq, hh, if_neg (by decide), behind_bad (by decide)]
theorem dec_last {f : Nat} (hf : findL (L.drop u) [13, 10] 2050 = (f, 0)) (h : sizeN ((L.drop u).take f) = some 0) : behind acc u (decL (L.drop u) r) = behind acc (u + f + 2) (lastsD (L.drop (u + f + 2))) := by
  have hh : headL (L.drop u) r = (0, f + 2, 0) := by unfold headL; rw [hf]; simp only [if_true, h]; rw [if_neg (by omega)]
  rw [decL_eq, hh, if_pos rfl, if_pos rfl, behind_behind, List.append_nil, List.drop_drop, show u + (f + 2) = u + f + 2 from by omega]
theorem dec_chunk {f n : Nat} (hf : findL (L.drop u) [13, 10] 2050 = (f, 0)) (h : sizeN ((L.drop u).take f) = some n) (h0 : n ≠ 0) (hr : ¬ r < n) :
    behind acc u (decL (L.drop u) r) = behind acc (u + f + 2) (bytesD (L.drop (u + f + 2)) n r) := by
  have hh : headL (L.drop u) r = (n, f + 2, 0) := by unfold headL; rw [hf]; simp only [if_true, h, if_neg hr]
  rw [decL_eq, hh, if_pos rfl, if_neg h0, behind_behind, List.append_nil, List.drop_drop, show u + (f + 2) = u + f + 2 from by omega]
theorem dec_short {n : Nat} (h : (L.drop u).length < n) : behind acc u (bytesD (L.drop u) n r) = bad 6 := by
  have hh : chunkL (L.drop u) n = ([], 0, 6) := by unfold chunkL; rw [if_pos h]
  unfold bytesD
  rw [hh, if_neg (by decide), behind_bad (by decide)]
theorem dec_badEnd {n : Nat} (h : ¬ (L.drop u).length < n) (he : endEC (L.drop (u + n)) ≠ 0) : behind acc u (bytesD (L.drop u) n r) = bad (endEC (L.drop (u + n))) := by
  have hh : chunkL (L.drop u) n = ([], 0, endEC (L.drop (u + n))) := by unfold chunkL; rw [if_neg h, List.drop_drop, if_neg he]
  unfold bytesD
  rw [hh, if_neg he, behind_bad he]
theorem dec_next {n : Nat} (h : ¬ (L.drop u).length < n) (he : endEC (L.drop (u + n)) = 0) :
    behind acc u (bytesD (L.drop u) n r) = behind (acc ++ (L.drop u).take n) (u + n + 2) (decL (L.drop (u + n + 2)) (r - n)) := by
  have hh : chunkL (L.drop u) n = ((L.drop u).take n, n + 2, 0) := by unfold chunkL; rw [if_neg h, List.drop_drop, if_pos he]
  unfold bytesD
  rw [hh, if_pos rfl, behind_behind, List.drop_drop, show u + (n + 2) = u + n + 2 from by omega]
theorem dec_noTail (h : (findL (13 :: 10 :: L.drop u) [13, 10, 13, 10] 8194).2 ≠ 0) : behind acc u (lastsD (L.drop u)) = bad (findL (13 :: 10 :: L.drop u) [13, 10, 13, 10] 8194).2 := by
  have hh : lastsL (L.drop u) = ([], 0, (findL (13 :: 10 :: L.drop u) [13, 10, 13, 10] 8194).2) := by unfold lastsL; rw [if_neg h]
  unfold lastsD
  rw [hh, if_neg h, behind_bad h]
theorem dec_noFields {n : Nat} (hf : findL (13 :: 10 :: L.drop u) [13, 10, 13, 10] 8194 = (n, 0)) (h : (parseL ((L.drop u).take n)).2 ≠ 0) : behind acc u (lastsD (L.drop u)) = bad (parseL ((L.drop u).take n)).2 := by
  have hh : lastsL (L.drop u) = ([], 0, (parseL ((L.drop u).take n)).2) := by unfold lastsL; rw [hf]; simp only [if_true]; rw [if_neg h]
  unfold lastsD
  rw [hh, if_neg h, behind_bad h]
theorem dec_fields {n : Nat} (hf : findL (13 :: 10 :: L.drop u) [13, 10, 13, 10] 8194 = (n, 0)) (h : (parseL ((L.drop u).take n)).2 = 0) : behind acc u (lastsD (L.drop u)) = (acc, u + n + 2, (parseL ((L.drop u).take n)).1, 0) := by
  have hh : lastsL (L.drop u) = ((parseL ((L.drop u).take n)).1, n + 2, 0) := by unfold lastsL; rw [hf]; simp only [if_true]; rw [if_pos h]
  unfold lastsD behind
  rw [hh]
  simp [Nat.add_assoc]
end
/-- what stands behind a chunk, in the document's words -/
theorem end_at (s : ByteArray) (q : Nat) (hq : q ≤ s.size) :
    (q = s.size ∧ endEC (s.data.toList.drop q) = 6) ∨ (∃ h : q + 1 = s.size, s[q] = 13 ∧ endEC (s.data.toList.drop q) = 6) ∨
    (q + 2 ≤ s.size ∧ Lib.occAt s.data.toList [13, 10] q = true ∧ endEC (s.data.toList.drop q) = 0) ∨
    (q + 2 ≤ s.size ∧ Lib.occAt s.data.toList [13, 10] q = false ∧ endEC (s.data.toList.drop q) = 4) ∨
    (∃ h : q + 1 = s.size, s[q] ≠ 13 ∧ Lib.occAt s.data.toList [13, 10] q = false ∧ endEC (s.data.toList.drop q) = 4) := by
  have hz := size_len s
  have key : ∀ a : List UInt8, endEC a = if Lib.hasPrefix a [13, 10] then 0 else if Lib.hasPrefix [13, 10] a then 6 else 4 := fun _ => rfl
  have ho : Lib.occAt s.data.toList [13, 10] q = Lib.hasPrefix (s.data.toList.drop q) [13, 10] := rfl
  rcases Nat.lt_or_ge q s.size with h | h
  · have hd : s.data.toList.drop q = s[q] :: s.data.toList.drop (q + 1) := List.drop_eq_getElem_cons (by exact h)
    rcases Nat.lt_or_ge (q + 1) s.size with h1 | h1
    · have hd1 : s.data.toList.drop (q + 1) = s[q + 1] :: s.data.toList.drop (q + 2) := List.drop_eq_getElem_cons (by exact h1)
      rw [ho]
      cases hb : Lib.hasPrefix (s.data.toList.drop q) [13, 10]
      · refine .inr (.inr (.inr (.inl ⟨h1, rfl, ?_⟩)))
        rw [key, hb]
        have h2 : Lib.hasPrefix [13, 10] (s.data.toList.drop q) = false := by
          rw [hd, hd1] at hb ⊢
          unfold Lib.hasPrefix at hb ⊢
          cases hr : s.data.toList.drop (q + 2) with
          | nil =>
            simp only [List.isPrefixOf, Bool.and_true, Bool.and_eq_false_iff, beq_eq_false_iff_ne] at hb ⊢
            rcases hb with hb | hb
            · exact .inl (fun e => hb e.symm)
            · exact .inr (fun e => hb e.symm)
          | cons y t => simp [List.isPrefixOf]
        rw [h2]; rfl
      · exact .inr (.inr (.inl ⟨h1, rfl, by rw [key, hb]; rfl⟩))
    · have hq1 : q + 1 = s.size := by omega
      have hd1 : s.data.toList.drop (q + 1) = [] := List.drop_of_length_le (by omega)
      rw [ho, hd, hd1, key]
      by_cases h13 : s[q] = 13
      · exact .inr (.inl ⟨hq1, h13, by rw [h13]; decide⟩)
      · refine .inr (.inr (.inr (.inr ⟨hq1, h13, by simp [Lib.hasPrefix, List.isPrefixOf], ?_⟩)))
        have e1 : Lib.hasPrefix [s[q]] [13, 10] = false := by simp [Lib.hasPrefix, List.isPrefixOf]
        have e2 : Lib.hasPrefix [13, 10] [s[q]] = false := by simp [Lib.hasPrefix, List.isPrefixOf, h13]
        rw [e1, e2]; rfl
  · have hq1 : q = s.size := by omega
    have hd : s.data.toList.drop q = [] := List.drop_of_length_le (by omega)
    exact .inl ⟨hq1, by rw [hd]; decide⟩
end Go.Proofs.YtgkjjmcjlobbpaaGreatDoor

/- The document's size line, head and tail. -/
namespace Go.Proofs.YtgkjjmcjlobbpaaGreatDoor
open Go.RowKit

theorem cut59_hit {a r : List UInt8} (h : ∀ c ∈ a, c ≠ 59) : Lib.cut (a ++ 59 :: r) [59] = (a, r, true) := by
  rw [cut_hit (i := a.length) (by simp) ((occ_one _ _ _).2 (by simp)) fun j hj => ?_]
  · simp
  · cases ho : Lib.occAt (a ++ 59 :: r) [59] j
    · rfl
    · have h1 := (occ_one _ _ _).1 ho
      rw [List.getElem?_append_left hj, List.getElem?_eq_getElem hj] at h1
      exact absurd (Option.some.inj h1) (h _ (List.getElem_mem hj))
theorem cut59_miss {a : List UInt8} (h : ∀ c ∈ a, c ≠ 59) : Lib.cut a [59] = (a, [], false) := by
  refine cut_miss fun j _ => ?_
  cases ho : Lib.occAt a [59] j
  · rfl
  · have h1 := (occ_one _ _ _).1 ho
    exact absurd rfl (h 59 (List.mem_of_getElem? h1))
theorem hexB_no59 {c : UInt8} (h : hexB c = true) : c ≠ 59 := by
  rintro rfl
  exact absurd h (by decide)
theorem no59_of {l : List UInt8} (h : l.all hexB = true) : ∀ c ∈ l, c ≠ 59 := fun c hc => hexB_no59 (List.all_eq_true.1 h c hc)
/-- the digits reach to the end -/
theorem size_all {L : List UInt8} (h : L.all hexB = true) : sizeN L = if L.length = 0 ∨ 8 < L.length then none else some (hexN L) := by
  unfold sizeN
  rw [cut59_miss (no59_of h)]
  simp only [List.all_nil, and_true, h]
  by_cases h0 : L.length = 0 ∨ 8 < L.length
  · rw [if_pos h0, if_neg]
    rintro ⟨h1, h2⟩
    rcases h0 with h0 | h0
    · exact h1 (List.eq_nil_of_length_eq_zero h0)
    · omega
  · rw [if_neg h0, if_pos ⟨fun e => h0 (.inl (by rw [e]; rfl)), by omega⟩]
/-- the digits reach to a byte 59 -/
theorem size_ext {a r : List UInt8} (h : a.all hexB = true) : sizeN (a ++ 59 :: r) = if a.length = 0 ∨ 8 < a.length then none else if r.all ignB = true then some (hexN a) else none := by
  unfold sizeN
  rw [cut59_hit (no59_of h)]
  simp only [h]
  by_cases h0 : a.length = 0 ∨ 8 < a.length
  · rw [if_pos h0, if_neg]
    rintro ⟨h1, h2, _⟩
    rcases h0 with h0 | h0
    · exact h1 (List.eq_nil_of_length_eq_zero h0)
    · omega
  · rw [if_neg h0]
    by_cases hr : r.all ignB = true
    · rw [if_pos hr, if_pos ⟨fun e => h0 (.inl (by rw [e]; rfl)), by omega, trivial, hr⟩]
    · rw [if_neg hr, if_neg (fun h => hr h.2.2.2)]
/-- the digits reach to something else, or there are too many -/
theorem size_bad {a r : List UInt8} {c : UInt8} (h : a.all hexB = true) (hc : c ≠ 59) (hb : hexB c = false ∨ 8 ≤ a.length) : sizeN (a ++ c :: r) = none := by
  unfold sizeN
  rw [if_neg]
  rintro ⟨h1, h2, h3, h4⟩
  -- the part ahead of the first 59 begins with a and c
  have key : ∃ t, (Lib.cut (a ++ c :: r) [59]).1 = a ++ c :: t := by
    by_cases h59 : ∀ x ∈ r, x ≠ 59
    · refine ⟨r, ?_⟩
      rw [cut59_miss]
      intro x hx
      rcases List.mem_append.1 hx with hx | hx
      · exact no59_of h x hx
      · rcases List.mem_cons.1 hx with rfl | hx
        · exact hc
        · exact h59 x hx
    · obtain ⟨p, q, rfl, hp⟩ : ∃ p q, r = p ++ 59 :: q ∧ ∀ x ∈ p, x ≠ 59 := by
        clear h1 h2 h3 h4
        induction r with
        | nil => exact absurd (fun x hx => by cases hx) h59
        | cons y r ih =>
          by_cases hy : y = 59
          · exact ⟨[], r, by rw [hy]; rfl, fun x hx => by cases hx⟩
          · obtain ⟨p, q, e, hp⟩ := ih (fun hall => h59 fun x hx => by
              rcases List.mem_cons.1 hx with rfl | hx
              · exact hy
              · exact hall x hx)
            refine ⟨y :: p, q, by rw [e]; rfl, fun x hx => ?_⟩
            rcases List.mem_cons.1 hx with rfl | hx
            · exact hy
            · exact hp x hx
      refine ⟨p, ?_⟩
      rw [show a ++ c :: (p ++ 59 :: q) = (a ++ c :: p) ++ 59 :: q from by simp, cut59_hit]
      intro x hx
      rcases List.mem_append.1 hx with hx | hx
      · exact no59_of h x hx
      · rcases List.mem_cons.1 hx with rfl | hx
        · exact hc
        · exact hp x hx
  obtain ⟨t, ht⟩ := key
  rw [ht] at h2 h3
  rcases hb with hb | hb
  · rw [List.all_append, List.all_cons, hb] at h3
    simp at h3
  · rw [List.length_append, List.length_cons] at h2
    omega

def sizeI (o : Option Nat) : Int := match o with
  | none => -1
  | some n => n
/-- what the document's reader knows behind its first loop -/
def Digs (L : List UInt8) (k : Nat) : Prop := k ≤ L.length ∧ k ≤ 9 ∧ (L.take k).all hexB = true ∧ (∀ h : k < L.length, hexB L[k] = false ∨ k = 9)
theorem digs_end {L : List UInt8} {k : Nat} (h : Digs L k) (hk : k = L.length) : (L.take k) = L ∧ sizeN L = if k = 0 ∨ 8 < k then none else some (hexN (L.take k)) := by
  have e : L.take k = L := by rw [hk, List.take_length]
  have h1 := h.2.2.1
  rw [e] at h1 ⊢
  exact ⟨rfl, by rw [size_all h1, hk]⟩
theorem digs_split {L : List UInt8} {k : Nat} (hk : k < L.length) : L = L.take k ++ L[k] :: L.drop (k + 1) := by
  rw [← List.drop_eq_getElem_cons hk, List.take_append_drop]
theorem digs_ext {L : List UInt8} {k : Nat} (h : Digs L k) (hk : k < L.length) (h59 : L[k] = 59) : sizeN L = if k = 0 ∨ 8 < k then none else if (L.drop (k + 1)).all ignB = true then some (hexN (L.take k)) else none := by
  have h1 := size_ext (r := L.drop (k + 1)) h.2.2.1
  rw [← h59, ← digs_split hk] at h1
  rw [List.length_take] at h1
  rw [show min k L.length = k from by omega] at h1
  exact h1
theorem digs_bad {L : List UInt8} {k : Nat} (h : Digs L k) (hk : k < L.length) (h59 : L[k] ≠ 59) : sizeN L = none := by
  have h1 := size_bad (r := L.drop (k + 1)) h.2.2.1 h59 (by
    rcases h.2.2.2 hk with h2 | h2
    · exact .inl h2
    · exact .inr (by rw [List.length_take]; omega))
  rwa [← digs_split hk] at h1
theorem hexN_snoc (l : List UInt8) (c : UInt8) : hexN (l ++ [c]) = 16 * hexN l + hexD c := by unfold hexN; rw [List.foldl_append]; rfl
theorem hexN_take9 (L : List UInt8) (k : Nat) (h : k ≤ 9) : hexN (L.take k) < 68719476736 := by
  have h1 := hexN_lt (L.take k)
  have h2 : 16 ^ (L.take k).length ≤ 16 ^ 9 := Nat.pow_le_pow_right (by decide) (by rw [List.length_take]; omega)
  have h3 : (16 : Nat) ^ 9 = 68719476736 := by decide
  omega

set_option maxHeartbeats 4000000 in
set_option maxRecDepth 100000 in
theorem rsize_any (s : ByteArray) (w : World) (hs : s.size ≤ 1048576) :
    Calls Tryz.prog 121 #[.string s] w fun e w' => e = .returned (.int .i64 (sizeI (sizeN s.data.toList))) ∧ w = w' := by
  have HZ := Lib.hid (size_len s)
  have HAT : Hid (∀ k (h : k < s.size), s.data.toList[k]'(by have := size_len s; omega) = s[k]) := fun k h => by simp [ByteArray.getElem_eq_getElem_data]
  go_enter Tryz.func121, Tryz.ntmps121
  go_upto_block 0 with fail
  go_cut [3, 4] (fun n i wx => ∃ k : Nat, i = .int .i64 k ∧ n = .int .i64 (hexN (s.data.toList.take k)) ∧ Digs s.data.toList k ∧ wx = w)
  case first =>
    go_wp2_with fail
    go_loop [3, 4] (fun n i => ∃ k : Nat, i = .int .i64 k ∧ n = .int .i64 (hexN (s.data.toList.take k)) ∧ k ≤ s.size ∧ k ≤ 9 ∧ Hid ((s.data.toList.take k).all hexB = true)) (fun _ i => s.size - (intOf i).toNat)
    case atStart => exact ⟨0, rfl, rfl, Nat.zero_le _, by omega, rfl⟩
    case round =>
      obtain ⟨k, rfl, rfl, hk, hk9, HA⟩ := hrel
      have hx9 := hexN_take9 s.data.toList k hk9
      by_cases hlt : k < s.size
      · have hd := Lib.hid (HAT.out k hlt)
        have hc1 : (s[k].toNat : Int) ≤ 255 := by have := s[k].toNat_lt; omega
        cases hb : hexB s[k]
        · have hq : ¬ 0 ≤ hexI (s[k].toNat : Int) := of_decide_eq_false hb
          have HD : Hid (Digs s.data.toList k) := ⟨by have := HZ.out; omega, hk9, HA.out, fun h => .inl (by rw [hd.out]; exact hb)⟩
          have hcall := fun w => rhex_any (s[k].toNat : Int) w (by omega) hc1
          generalize hexI (s[k].toNat : Int) = q at hcall hq
          have HC := Lib.hid hcall
          clear hb hcall
          go_wp2_with (go_at_call 154; refine (HC.out _).mono ?_; rintro e w1 ⟨rfl, rfl⟩)
          go_meet
          exact ⟨k, rfl, rfl, HD.out, rfl⟩
        · have hq : 0 ≤ hexI (s[k].toNat : Int) := of_decide_eq_true hb
          have hq2 := hexI_lt (s[k].toNat : Int)
          have hcall := fun w => rhex_any (s[k].toNat : Int) w (by omega) hc1
          by_cases h9 : k = 9
          · have HD : Hid (Digs s.data.toList k) := ⟨by have := HZ.out; omega, hk9, HA.out, fun _ => .inr h9⟩
            have h9' : ¬ (k : Int) < 9 := by omega
            generalize hexI (s[k].toNat : Int) = q at hcall hq
            have HC := Lib.hid hcall
            clear hb hcall h9
            go_wp2_with (go_at_call 154; refine (HC.out _).mono ?_; rintro e w1 ⟨rfl, rfl⟩)
            go_meet
            exact ⟨k, rfl, rfl, HD.out, rfl⟩
          · have h9' : (k : Int) < 9 := by omega
            have HAA : Hid ((s.data.toList.take (k + 1)).all hexB = true) := all_snoc s hexB k hlt HA.out hb
            have HV : Hid (16 * (hexN (s.data.toList.take k) : Int) + hexI (s[k].toNat : Int) = (hexN (s.data.toList.take (k + 1)) : Int)) := by
              show _ = _
              rw [take_snoc s k hlt, hexN_snoc]
              unfold hexD
              push_cast
              omega
            generalize hexI (s[k].toNat : Int) = q at hcall hq hq2 HV
            have HC := Lib.hid hcall
            clear hb hcall
            generalize hexN (s.data.toList.take k) = nn at *
            go_wp2_with (go_at_call 154; refine (HC.out _).mono ?_; rintro e w1 ⟨rfl, rfl⟩)
            go_round
            case rel => exact ⟨k + 1, by go_num, by rw [HV.out], by omega, by omega, HAA⟩
            case measure => simp [intOf]; omega
      · have HD : Hid (Digs s.data.toList k) := ⟨by have := HZ.out; omega, hk9, HA.out, fun h => by have := HZ.out; omega⟩
        go_wp2_with fail
        go_meet
        exact ⟨k, rfl, rfl, HD.out, rfl⟩
  case rest =>
    obtain ⟨k, rfl, rfl, hd, rfl⟩ := hcut
    have hk9 := hd.2.1
    have hkl : k ≤ s.size := by have := hd.1; have := HZ.out; omega
    have hend := fun h => digs_end hd h
    have hext := fun h => digs_ext hd h
    have hbad := fun h => digs_bad hd h
    have hnone : k = 0 ∨ 8 < k → sizeN s.data.toList = none := by
      intro h
      by_cases hlt : k < s.data.toList.length
      · by_cases h59 : s.data.toList[k] = 59
        · rw [hext hlt h59, if_pos h]
        · exact hbad hlt h59
      · rw [(hend (by have := hd.1; omega)).2, if_pos h]
    generalize hexN (s.data.toList.take k) = N at hend hext ⊢
    have HEND := Lib.hid hend; have HEXT := Lib.hid hext; have HBAD := Lib.hid hbad
    clear hend hext hbad hd
    by_cases h0 : k = 0
    · have HR := Lib.hid (hnone (.inl h0))
      subst h0
      clear hnone
      go_wp2_with fail
      go_ret
      exact ⟨ret_i (by rw [HR.out]; rfl), rfl⟩
    · have h0' : ((k : Int) == 0) = false := beq_eq_false_iff_ne.2 (by omega)
      by_cases h8 : 8 < k
      · have HR := Lib.hid (hnone (.inr h8))
        have h8' : 8 < (k : Int) := by omega
        clear hnone h8
        go_wp2_with fail
        go_ret
        exact ⟨ret_i (by rw [HR.out]; rfl), rfl⟩
      · have h8' : ¬ 8 < (k : Int) := by omega
        have hno : ¬ (k = 0 ∨ 8 < k) := by omega
        clear hnone
        by_cases hlt : k < s.size
        · have hl2 := HZ.out
          have hcq := HAT.out k hlt
          by_cases h59 : s[k] = 59
          · have hx := HEXT.out (by omega) (by rw [hcq]; exact h59)
            rw [if_neg hno] at hx
            have HX := Lib.hid hx
            have h59' : ((s[k].toNat : Int) != 59) = false := by rw [h59]; rfl
            clear hx hl2 hcq h59 hno HEND HEXT HBAD h8 h0
            go_wp2_with fail
            go_loop [5] (fun i => ∃ j : Nat, i = .int .i64 j ∧ k + 1 ≤ j ∧ j ≤ s.size ∧ Hid (((s.data.toList.drop (k + 1)).take (j - (k + 1))).all ignB = true)) (fun i => s.size - (intOf i).toNat)
            case atStart => exact ⟨k + 1, by go_num, Nat.le_refl _, by omega, by show _ = _; rw [Nat.sub_self]; rfl⟩
            case round =>
              obtain ⟨j, rfl, hj1, hj2, HT⟩ := hrel
              by_cases hjl : j < s.size
              · have hget : (s.data.toList.drop (k + 1))[j - (k + 1)]'(by have := HZ.out; rw [List.length_drop]; omega) = s[j] := by
                  rw [List.getElem_drop]
                  have := HAT.out j hjl
                  rw [← this]
                  congr 1
                  omega
                have hc1 : (s[j].toNat : Int) < 256 := by have := s[j].toNat_lt; omega
                cases hb : ignB s[j]
                · have HA : Hid ((s.data.toList.drop (k + 1)).all ignB = false) := by
                    show _ = _
                    rw [← Bool.not_eq_true, List.all_eq_true]
                    intro H
                    have := H _ (List.getElem_mem (show j - (k + 1) < (s.data.toList.drop (k + 1)).length by have := HZ.out; rw [List.length_drop]; omega))
                    rw [hget, hb] at this
                    exact absurd this (by decide)
                  have HR : Hid (sizeN s.data.toList = none) := by show _ = _; rw [HX.out, HA.out]; rfl
                  have h1 : ((s[j].toNat : Int) != 9) = true := by unfold ignB ignI at hb; simp at hb ⊢; omega
                  have h2 : (s[j].toNat : Int) < 32 ∨ (¬ (s[j].toNat : Int) < 32 ∧ 126 < (s[j].toNat : Int)) := by unfold ignB ignI at hb; simp at hb; omega
                  clear hb hget
                  rcases h2 with h2 | ⟨h2, h3⟩
                  all_goals
                    go_wp2_with fail
                    go_ret
                    exact ⟨ret_i (by rw [HR.out]; rfl), rfl⟩
                · have HA : Hid (((s.data.toList.drop (k + 1)).take (j + 1 - (k + 1))).all ignB = true) := by
                    show _ = _
                    rw [show j + 1 - (k + 1) = j - (k + 1) + 1 from by omega, List.take_succ_eq_append_getElem (by have := HZ.out; rw [List.length_drop]; omega), List.all_append, HT.out, hget]
                    simp [hb]
                  have h2 : (s[j].toNat : Int) = 9 ∨ (((s[j].toNat : Int) != 9) = true ∧ ¬ (s[j].toNat : Int) < 32 ∧ ¬ 126 < (s[j].toNat : Int)) := by unfold ignB ignI at hb; simp at hb ⊢; omega
                  clear hb hget
                  rcases h2 with h2 | ⟨h2, h3, h4⟩
                  · have h3 : ((s[j].toNat : Int) != 9) = false := by rw [h2]; rfl
                    clear h2
                    go_wp2_with fail
                    go_round
                    case rel => exact ⟨j + 1, by go_num, by omega, by omega, HA⟩
                    case measure => simp [intOf]; omega
                  · go_wp2_with fail
                    go_round
                    case rel => exact ⟨j + 1, by go_num, by omega, by omega, HA⟩
                    case measure => simp [intOf]; omega
              · have HR : Hid (sizeN s.data.toList = some N) := by
                  show _ = _
                  have ht := HT.out
                  rw [List.take_of_length_le (by have := HZ.out; rw [List.length_drop]; omega)] at ht
                  rw [HX.out, if_pos ht]
                go_wp2_with fail
                go_ret
                exact ⟨ret_i (by rw [HR.out]; rfl), rfl⟩
          · have HR := Lib.hid (HBAD.out (by omega) (by rw [hcq]; exact h59))
            have h59' : ((s[k].toNat : Int) != 59) = true := by rw [bne_iff_ne]; intro e; exact h59 (UInt8.toNat_inj.1 (by simpa using (by omega : s[k].toNat = 59)))
            clear hl2 hcq h59 hno HEND HEXT HBAD h8 h0
            go_wp2_with fail
            go_ret
            exact ⟨ret_i (by rw [HR.out]; rfl), rfl⟩
        · have hx := (HEND.out (by have := HZ.out; omega)).2
          rw [if_neg hno] at hx
          have HR := Lib.hid hx
          have hks : k = s.size := by omega
          clear hx hno HEND HEXT HBAD h8 h0
          subst hks
          go_wp2_with fail
          go_loop [5] (fun i => i = .int .i64 ((s.size + 1 : Nat) : Int)) (fun _ => 0)
          case atStart => go_num
          case round =>
            obtain rfl := hrel
            go_wp2_with fail
            go_ret
            exact ⟨ret_i (by rw [HR.out]; rfl), rfl⟩
end Go.Proofs.YtgkjjmcjlobbpaaGreatDoor
