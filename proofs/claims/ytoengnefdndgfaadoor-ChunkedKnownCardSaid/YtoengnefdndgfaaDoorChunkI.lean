/- slices.DeleteFunc at the sizes that a chunk may not have; the sizes that are left. -/
import Derived.Test.YtoengnefdndgfaaDoorChunkH
namespace Go.Proofs.YtoengnefdndgfaaDoor
open Go.RowKit
def posL (l : List Int) : List Int := l.filter fun n => decide (0 < n)
theorem pos_snoc (l : List Int) (n : Int) : posL (l ++ [n]) = if 0 < n then posL l ++ [n] else posL l := by
  unfold posL
  rw [List.filter_append]
  by_cases h : 0 < n <;> simp [h]
theorem neg_at (l : List Int) : (negAt l = -1 ∧ posL l = l) ∨ (∃ k : Nat, negAt l = (k : Int) ∧ k < l.length ∧ posL (l.take (k + 1)) = l.take k) := by
  unfold negAt
  cases h : l.findIdx? (fun n => decide (n ≤ 0)) with
  | none =>
    left
    refine ⟨rfl, ?_⟩
    unfold posL
    rw [List.filter_eq_self]
    intro x hx
    have := List.findIdx?_eq_none_iff.1 h x hx
    simp at this ⊢
    omega
  | some k =>
    right
    obtain ⟨hk, h1, h2⟩ := List.findIdx?_eq_some_iff_getElem.1 h
    refine ⟨k, rfl, hk, ?_⟩
    have h3 : ¬ 0 < l[k] := by simp at h1; omega
    rw [List.take_succ_eq_append_getElem hk, pos_snoc, if_neg h3]
    unfold posL
    rw [List.filter_eq_self]
    intro x hx
    obtain ⟨j, hj, rfl⟩ := List.getElem_of_mem hx
    rw [List.getElem_take]
    rw [List.length_take] at hj
    have := h2 j (by omega)
    simp at this ⊢
    omega
/-- how far the striking has come -/
def Strike (l : List Int) (i j : Nat) (R : List Int) : Prop := R.length = l.length ∧ i < j ∧ j ≤ l.length ∧ R.take i = posL (l.take j) ∧ R.drop j = l.drop j ∧ i = (posL (l.take j)).length
theorem Strike.start {l : List Int} {k : Nat} (hk : k < l.length) (h : posL (l.take (k + 1)) = l.take k) : Strike l k (k + 1) l :=
  ⟨rfl, by omega, by omega, h.symm, rfl, by rw [h, List.length_take]; omega⟩
theorem Strike.at {l : List Int} {i j : Nat} {R : List Int} (h : Strike l i j R) (hj : j < l.length) : R[j]'(by have := h.1; omega) = l[j] := by
  obtain ⟨h1, h2, h3, h4, h5, h6⟩ := h
  have e1 : (R.drop j)[0]'(by rw [List.length_drop]; omega) = (l.drop j)[0]'(by rw [List.length_drop]; omega) := by simp only [h5]
  rw [List.getElem_drop, List.getElem_drop] at e1
  simpa using e1
theorem Strike.keep {l : List Int} {i j : Nat} {R : List Int} (h : Strike l i j R) (hj : j < l.length) (hp : 0 < l[j]) : Strike l (i + 1) (j + 1) (R.set i l[j]) := by
  obtain ⟨h1, h2, h3, h4, h5, h6⟩ := h
  have e : posL (l.take (j + 1)) = posL (l.take j) ++ [l[j]] := by rw [List.take_succ_eq_append_getElem hj, pos_snoc, if_pos hp]
  refine ⟨by rw [List.length_set]; exact h1, by omega, by omega, ?_, ?_, by rw [e, List.length_append, ← h6]; rfl⟩
  · rw [e, ← h4, List.take_succ_eq_append_getElem (by rw [List.length_set]; omega), List.getElem_set_self]
    rw [List.take_set_of_le (Nat.le_refl _)]
  · rw [List.drop_set, if_pos (by omega), ← List.drop_drop, ← List.drop_drop, h5]
theorem Strike.skip {l : List Int} {i j : Nat} {R : List Int} (h : Strike l i j R) (hj : j < l.length) (hp : ¬ 0 < l[j]) : Strike l i (j + 1) R := by
  obtain ⟨h1, h2, h3, h4, h5, h6⟩ := h
  have e : posL (l.take (j + 1)) = posL (l.take j) := by rw [List.take_succ_eq_append_getElem hj, pos_snoc, if_neg hp]
  refine ⟨h1, by omega, by omega, by rw [e]; exact h4, ?_, by rw [e]; exact h6⟩
  rw [← List.drop_drop, ← List.drop_drop, h5]
theorem Strike.done {l : List Int} {i : Nat} {R : List Int} (h : Strike l i l.length R) : R.take i = posL l ∧ i = (posL l).length := by
  obtain ⟨h1, h2, h3, h4, h5, h6⟩ := h
  rw [List.take_length] at h4 h6
  exact ⟨h4, h6⟩
theorem rowI.il {w : World} {b c : Nat} {R : List Int} (h : rowI w b R) : IL w (.slice (some ⟨b, 0, none⟩) R.length c) R :=
  .inr ⟨b, 0, c, rfl, h.lt, fun j hj => by rw [Nat.zero_add]; exact h.cell j hj⟩

set_option maxHeartbeats 4000000 in
set_option maxRecDepth 100000 in
theorem deleteI_any (base : Nat) (v : Value) (l : List Int) (w : World) (h : w.ownsRow base 3 1 v l.length (icells l)) (hl : l.length ≤ 4294967296) :
    Calls Tryd.prog 38 #[v, .func (.func 40) #[] #[]] w fun e w' => ∃ v', e = .returned v' ∧ IL w' v' (posL l) ∧ Below base w w' := by
  obtain ⟨a, m, c, rfl⟩ : ∃ a m c, v = .slice a m c := by
    rcases h.2 with ⟨hv, _⟩ | ⟨g, cap, cur, hv, _⟩
    · exact ⟨_, _, _, hv⟩
    · exact ⟨_, _, _, hv⟩
  have hil : IL w (.slice a m c) l := by
    by_cases h0 : l = []
    · subst h0
      rcases h.2 with ⟨hv, _⟩ | ⟨g, cap, cur, hv, _⟩
      · exact .inl ⟨rfl, _, _, hv⟩
      · exact .inl ⟨rfl, _, _, hv⟩
    · obtain ⟨g, rfl, rfl, _, hr, _⟩ := rowI_of h h0
      exact hr.il
  have hix := fun w' (hh : IL w' (.slice a m c) l) => indexI_any (.slice a m c) l w' hh hl
  have HIX := Lib.hid (hix w hil); clear hix
  have eN := eNeg
  rcases neg_at l with ⟨h1, h2⟩ | ⟨k, h1, hk, h2⟩
  · rw [h1] at HIX
    have HL := Lib.hid hil; have HP := Lib.hid h2
    clear h1 h2 h hil
    go_enter Tryd.func38, Tryd.ntmps38
    go_wp2_with fail
    refine HIX.out.mono ?_; rintro e w1 ⟨rfl, rfl⟩
    go_wp2_with fail
    go_ret
    exact ⟨_, rfl, by rw [HP.out]; exact HL.out, Below.refl _ _⟩
  · rw [h1] at HIX
    have hne : l ≠ [] := by intro e; subst e; simp at hk
    obtain ⟨g, rfl, rfl, hg, hr, hcap⟩ := rowI_of h hne
    have HS := Lib.hid (Strike.start hk h2); have HR := Lib.hid hr
    have hkm : ((k : Int) == -1) = false := by rw [beq_eq_false_iff_ne]; omega
    clear h1 h2 h hil hr hne
    go_enter Tryd.func38, Tryd.ntmps38
    go_wp2_with fail
    refine HIX.out.mono ?_; rintro e w1 ⟨rfl, rfl⟩
    go_wp2_with fail
    go_loopw [5, 6, 7] (fun s5 s6 _ wr => ∃ (i j : Nat) (R : List Int), s5 = .int .i64 i ∧ s6 = .int .i64 j ∧ j ≤ l.length ∧ Strike l i j R ∧ rowI wr g R ∧ Below base w wr) (fun _ s6 _ _ => l.length - (intOf s6).toNat)
    case atStart => exact ⟨k, k + 1, l, rfl, by go_num, by omega, HS.out, HR.out, Below.refl _ _⟩
    case round =>
      obtain ⟨i, j, R, rfl, rfl, hjl, hs, hr, hb⟩ := hrel
      have hi := hs.2.1
      have hRl := hs.1
      have HS2 := Lib.hid hs; have HB := Lib.hid hb
      by_cases hlt : j < l.length
      · have hc := hr.cell j (by omega)
        rw [hs.at hlt] at hc
        have hci := hr.cell i (by omega)
        have hfi := hr.free i
        have HR2 := Lib.hid hr; clear hr hs hb
        have hcall := fun w => neg_any l[j] w
        by_cases hp : 0 < l[j]
        · have HN := Lib.hid (HS2.out.keep hlt hp)
          have HR3 := Lib.hid (HR2.out.set i l[j])
          have HB3 : Hid (Below base w (wr.setCell ⟨g, i, none⟩ (.int .i64 l[j]))) := HB.out.setCell (p := ⟨g, i, none⟩) hg _
          rw [show decide (l[j] ≤ 0) = false from decide_eq_false (by omega)] at hcall
          clear hp
          generalize l[j] = f at *
          have HCA := Lib.hid hcall; clear hcall
          go_wp2_with (go_at_fn 40; refine (HCA.out _).mono ?_; rintro e w1 ⟨rfl, rfl⟩)
          go_roundw
          case rel => exact ⟨i + 1, j + 1, _, by go_num, by go_num, by omega, HN.out, HR3.out, HB3.out⟩
          case measure => simp [intOf]; omega
        · have HN := Lib.hid (HS2.out.skip hlt hp)
          rw [show decide (l[j] ≤ 0) = true from decide_eq_true (by omega)] at hcall
          clear hp
          generalize l[j] = f at *
          have HCA := Lib.hid hcall; clear hcall
          go_wp2_with (go_at_fn 40; refine (HCA.out _).mono ?_; rintro e w1 ⟨rfl, rfl⟩)
          go_roundw
          case rel => exact ⟨i, j + 1, R, rfl, by go_num, by omega, HN.out, HR2.out, HB.out⟩
          case measure => simp [intOf]; omega
      · obtain rfl : j = l.length := by omega
        obtain ⟨d1, d2⟩ := hs.done
        have hiL : i < l.length := hi
        have hcl : ∀ ty, (Builtin.clear_ #[31] ty #[.slice (some ⟨g, i, none⟩) (l.length - i) (c - i)]).run Tryd.prog wr = .ok (.tuple #[]) (wr.setCells g i (List.replicate (l.length - i) (.int .i64 0))) :=
          fun ty => Lib.run_clear_slice wr 31 3 ty (.int .i64 0) Tryd.underlying31 (fun w => by kernel_rfl) rfl rfl g i _ _ (by omega) (fun t ht => by rw [hr.cell (i + t) (by omega)]; rfl) (fun t ht => hr.free (i + t))
        have HFI : Hid (∀ cc, IL (wr.setCells g i (List.replicate (l.length - i) (.int .i64 0))) (.slice (some ⟨g, 0, none⟩) i cc) (posL l)) := by
          intro cc
          refine .inr ⟨g, 0, cc, by rw [← d2], ?_, fun t ht => ?_⟩
          · have h3 := hr.lt
            have h4 := (Lib.below_setCells (B := 0) g (Nat.zero_le _) (List.replicate (l.length - i) (Value.int .i64 0)) i (Below.refl 0 wr)).size
            omega
          · rw [Nat.zero_add, World.cell?_setCells_out g _ i wr ⟨g, t, none⟩ (fun _ _ => .inl (by show t < i; omega)), hr.cell t (by omega)]
            have e2 : (R.take i)[t]'(by rw [List.length_take]; omega) = (posL l)[t] := by simp only [d1]
            rw [List.getElem_take] at e2
            rw [e2]
        have HBE : Hid (Below base w (wr.setCells g i (List.replicate (l.length - i) (.int .i64 0)))) := Lib.below_setCells g hg _ _ HB.out
        clear hs hr hb d1 d2
        go_wp2_with fail
        go_ret
        exact ⟨_, rfl, HFI.out _, HBE.out⟩
end Go.Proofs.YtoengnefdndgfaaDoor
