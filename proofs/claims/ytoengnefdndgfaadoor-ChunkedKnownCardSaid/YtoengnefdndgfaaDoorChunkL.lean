/- The document's small functions on bodies in chunks: where a line ends, a digit's value, a size line's size, the head and the tail. -/
import Derived.Test.YtoengnefdndgfaaDoorChunkC
namespace Go.Proofs.YtoengnefdndgfaaDoor
open Go.RowKit

theorem occ2_at {s : ByteArray} {k : Nat} : (∃ h : k + 1 < s.size, s[k] = 13 ∧ s[k + 1] = 10 ∧ Lib.occAt s.data.toList [13, 10] k = true) ∨
    (∃ h : k + 1 < s.size, s[k] = 13 ∧ s[k + 1] ≠ 10 ∧ Lib.occAt s.data.toList [13, 10] k = false) ∨ (∃ h : k + 1 < s.size, s[k] ≠ 13 ∧ Lib.occAt s.data.toList [13, 10] k = false) ∨
    (¬ k + 1 < s.size ∧ Lib.occAt s.data.toList [13, 10] k = false) := by
  have hz := size_len s
  by_cases h : k + 1 < s.size
  · have g1 : s.data.toList[k]? = some (s[k]'(by omega)) := by
      rw [List.getElem?_eq_getElem (by omega)]; simp [ByteArray.getElem_eq_getElem_data]
    have g2 : s.data.toList[k + 1]? = some (s[k + 1]'h) := by
      rw [List.getElem?_eq_getElem (by omega)]; simp [ByteArray.getElem_eq_getElem_data]
    by_cases h1 : s[k]'(by omega) = 13
    · by_cases h2 : s[k + 1]'h = 10
      · exact .inl ⟨h, h1, h2, (occ_two _ _ _ _).2 ⟨by rw [g1, h1], by rw [g2, h2]⟩⟩
      · refine .inr (.inl ⟨h, h1, h2, ?_⟩)
        cases ho : Lib.occAt s.data.toList [13, 10] k
        · rfl
        · have := ((occ_two _ _ _ _).1 ho).2
          rw [g2] at this
          exact absurd (Option.some.inj this) h2
    · refine .inr (.inr (.inl ⟨h, h1, ?_⟩))
      cases ho : Lib.occAt s.data.toList [13, 10] k
      · rfl
      · have := ((occ_two _ _ _ _).1 ho).1
        rw [g1] at this
        exact absurd (Option.some.inj this) h1
  · refine .inr (.inr (.inr ⟨h, ?_⟩))
    cases ho : Lib.occAt s.data.toList [13, 10] k
    · rfl
    · have := occ_room ho (by simp)
      simp only [List.length_cons, List.length_nil] at this
      omega

set_option maxHeartbeats 1000000 in
set_option maxRecDepth 100000 in
theorem rends_any (s : ByteArray) (k : Nat) (w : World) (hk : k ≤ 4194304) :
    Calls Tryd.prog 25 #[.string s, .int .i64 k] w fun e w' => e = .returned (.bool (Lib.occAt s.data.toList [13, 10] k)) ∧ w = w' := by
  rcases occ2_at (s := s) (k := k) with ⟨h, h1, h2, h3⟩ | ⟨h, h1, h2, h3⟩ | ⟨h, h1, h3⟩ | ⟨h, h3⟩
  · have hlt : (k : Int) + 1 < s.size := by omega
    have q1 : ((s[k].toNat : Int) == 13) = true := by rw [h1]; rfl
    have q2 : ((s[k + 1].toNat : Int) == 10) = true := by rw [h2]; rfl
    rw [h3]
    clear h1 h2 h3
    go_enter Tryd.func25, Tryd.ntmps25
    go_wp2_with fail
    go_ret
    exact ⟨rfl, rfl⟩
  · have hlt : (k : Int) + 1 < s.size := by omega
    have q1 : ((s[k].toNat : Int) == 13) = true := by rw [h1]; rfl
    have q2 : ((s[k + 1].toNat : Int) == 10) = false := by rw [beq_eq_false_iff_ne]; intro e; exact h2 (UInt8.toNat_inj.1 (by simpa using (by omega : s[k + 1].toNat = 10)))
    rw [h3]
    clear h1 h2 h3
    go_enter Tryd.func25, Tryd.ntmps25
    go_wp2_with fail
    go_ret
    exact ⟨rfl, rfl⟩
  · have hlt : (k : Int) + 1 < s.size := by omega
    have q1 : ((s[k].toNat : Int) == 13) = false := by rw [beq_eq_false_iff_ne]; intro e; exact h1 (UInt8.toNat_inj.1 (by simpa using (by omega : s[k].toNat = 13)))
    rw [h3]
    clear h1 h3
    go_enter Tryd.func25, Tryd.ntmps25
    go_wp2_with fail
    go_ret
    exact ⟨rfl, rfl⟩
  · have hlt : ¬ (k : Int) + 1 < s.size := by omega
    rw [h3]
    clear h3
    go_enter Tryd.func25, Tryd.ntmps25
    go_wp2_with fail
    go_ret
    exact ⟨rfl, rfl⟩

theorem ret_i {a b : Int} (h : a = b) : Ending.returned (.int .i64 a) = .returned (.int .i64 b) := by rw [h]
set_option maxHeartbeats 1000000 in
set_option maxRecDepth 100000 in
theorem rhex_any (n : Int) (w : World) (h0 : 0 ≤ n) (h1 : n ≤ 255) :
    Calls Tryd.prog 36 #[.int .u8 n] w fun e w' => e = .returned (.int .i64 (hexI n)) ∧ w = w' := by
  have hh : Hid (hexI n = if 48 ≤ n ∧ n ≤ 57 then n - 48 else if 97 ≤ n ∧ n ≤ 102 then n - 87 else if 65 ≤ n ∧ n ≤ 70 then n - 55 else -1) := rfl
  go_enter Tryd.func36, Tryd.ntmps36
  go_wp2
  all_goals go_ret
  all_goals refine ⟨ret_i ?_, rfl⟩
  all_goals rw [hh.out]
  all_goals repeat' split
  all_goals first | omega | (show (_ : Int) = _; simp; omega)
end Go.Proofs.YtoengnefdndgfaaDoor
