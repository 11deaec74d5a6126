/- Which lists of fields may be: the fields layer's Check, and the document's own. -/
import Derived.Test.YtilaalfehnngcaaDoorFieldsB
namespace Go.Proofs.YtilaalfehnngcaaDoor
open Go.RowKit

/-- no field of a list is too long to be read -/
def smallF (l : List Fld) : Prop := ∀ j (hj : j < l.length), l[j].1.length ≤ 4294967296 ∧ l[j].2.length ≤ 4294967296

set_option maxHeartbeats 800000 in
theorem check_any (v : Value) (l : List Fld) (w : World) (h : FL w v l) (hs : smallF l) (hl : l.length ≤ 4294967296) :
    Calls Tryd.prog 25 #[v] w fun e w' => e = .returned (.int .i64 (checkL l)) ∧ Below w.heap.size w w' := by
  obtain ⟨A, c, rfl⟩ := h.form
  have HF := Lib.hid h; clear h
  by_cases h64 : 64 < l.length
  · have HC : Hid (checkL l = 3) := by show _ = _; unfold checkL; rw [if_pos h64]
    have h64' : (64 : Int) < (l.length : Int) := by omega
    go_enter Tryd.func25, Tryd.ntmps25
    go_wp2_with fail
    go_ret
    exact ⟨by rw [HC.out]; rfl, Below.refl _ _⟩
  · have HC : Hid (checkL l = firstE l) := by show _ = _; unfold checkL; rw [if_neg h64]
    have h64' : ¬ (64 : Int) < (l.length : Int) := by omega
    go_enter Tryd.func25, Tryd.ntmps25
    go_wp2_with fail
    go_loopw [11] (fun i wr => ∃ k : Nat, k ≤ l.length ∧ i = .int .i64 k ∧ firstE (l.drop k) = firstE l ∧ Below w.heap.size w wr) (fun i _ => l.length - (intOf i).toNat)
    case atStart => exact ⟨0, Nat.zero_le _, rfl, rfl, Below.refl _ _⟩
    case round =>
      obtain ⟨k, hk, rfl, hq, hb⟩ := hrel
      have HQ := Lib.hid hq; have HB := Lib.hid hb; clear hq hb
      by_cases hlt : k < l.length
      · obtain ⟨b, off, rfl, hbb, hc1, hc2⟩ := (HF.out.bel HB.out).get k hlt
        obtain ⟨s1, s2⟩ := hs k hlt
        have hcf := fun w => checkField_any l[k] w s1 s2
        have HG : Hid (chkF l[k] = 0 → firstE (l.drop (k + 1)) = firstE l) := fun hz => by rw [← HQ.out, firstE_step hlt hz]
        have HS : Hid (¬ chkF l[k] = 0 → chkF l[k] = firstE l) := fun hz => by rw [← HQ.out, firstE_stop hlt hz]
        generalize l[k] = f at *
        unfold fv at hcf
        generalize chkF f = E at *
        have HCF := Lib.hid hcf; clear hcf
        by_cases hz : E = 0
        · have hz2 : (E != 0) = false := by simp [hz]
          have HN := Lib.hid (HG.out hz); clear hz
          go_wp2_with (go_at_call 53; refine (HCF.out _).mono ?_; rintro e w1 ⟨rfl, hb1⟩)
          go_roundw
          case rel => exact ⟨k + 1, by omega, by go_num, HN.out, (HB.out.alloc HB.out.size _).trans (hb1.mono (by have := HB.out.size; simp; omega))⟩
          case measure => simp [intOf]; omega
        · have hz2 : (E != 0) = true := by simp [hz]
          have HN := Lib.hid (HS.out hz); clear hz
          go_wp2_with (go_at_call 53; refine (HCF.out _).mono ?_; rintro e w1 ⟨rfl, hb1⟩)
          go_ret
          exact ⟨ret_i64 (by rw [HC.out, ← HN.out]), (HB.out.alloc HB.out.size _).trans (hb1.mono (by have := HB.out.size; simp; omega))⟩
      · have HN : Hid (firstE l = 0) := by rw [← HQ.out, List.drop_of_length_le (by omega)]; rfl
        go_wp2_with fail
        go_ret
        exact ⟨by rw [HC.out, HN.out]; rfl, HB.out⟩



end Go.Proofs.YtilaalfehnngcaaDoor
