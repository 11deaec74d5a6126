/- What a line is as a field, what a text is as fields: the fields layer's functions. -/
import Derived.Test.YtoengnefdndgfaaDoorFieldsC
import Derived.Test.YtoengnefdndgfaaDoorShelf
import Derived.Test.YtoengnefdndgfaaDoorGrow2
import Derived.Test.YtoengnefdndgfaaDoorFieldsV
namespace Go.Proofs.YtoengnefdndgfaaDoor
open Go.RowKit

/-- the library's variable that strings.Index looks at holds a number -/
def MaxL (w : World) : Prop := ∃ m : Int, w.cell? ⟨0, 0, none⟩ = some (.int .i64 m)
theorem MaxL.lt {w : World} (h : MaxL w) : 0 < w.heap.size := by
  obtain ⟨m, h⟩ := h
  exact block_lt_of_cell h
theorem MaxL.bel {w w' : World} {B : Nat} (h : MaxL w) (hb : Below B w w') (hB : w.heap.size ≤ B) : MaxL w' := by
  have hlt := h.lt
  obtain ⟨m, h⟩ := h
  exact ⟨m, (hb.cell (p := ⟨0, 0, none⟩) (by show 0 < B; omega)).trans h⟩

theorem cut_any (s sep : List UInt8) (w : World) (hm : MaxL w) (hs : s.length < 4294967281) :
    Calls Tryd.prog 43 #[.string (bs s), .string (bs sep)] w fun e w' => e = .returned (.tuple #[.string (bs (Lib.cut s sep).1), .string (bs (Lib.cut s sep).2.1), .bool (Lib.cut s sep).2.2]) ∧ Below w.heap.size w w' := by
  obtain ⟨m, hm⟩ := hm
  refine (Tryd.strings_Cut (bs s) (bs sep) m w (by rw [bs_size]; exact hs) hm).mono ?_
  rw [bs_data, bs_data]
  rintro e w' ⟨he, n, rfl⟩
  exact ⟨he, below_dn (Below.refl _ _) n⟩

/-- a field and the reason it is none, handed back -/
def oneR (s : List UInt8) : Fld := if oneE s = 0 then oneF s else ([], [])
theorem oneF_len (s : List UInt8) : (oneF s).1.length ≤ s.length ∧ (oneF s).2.length ≤ s.length := by
  unfold oneF
  exact ⟨(cut_le s [58]).1, Nat.le_trans (trim_le _) (cut_le s [58]).2⟩

theorem oneR_cases (s : List UInt8) : (oneE s = 0 → oneR s = oneF s) ∧ (¬ oneE s = 0 → oneR s = ([], [])) := by
  unfold oneR
  exact ⟨fun h => if_pos h, fun h => if_neg h⟩
theorem oneF2.stored {w : World} {b : Nat} {x y : Value} (h : oneF2 w b x y) (x' y' : Value) : oneF2 ((w.setCell ⟨b, 0, none⟩ x').setCell ⟨b, 1, none⟩ y') b x' y' := by
  unfold oneF2 at h ⊢
  rw [Lib.heap_setCell_same (Lib.heap_setCell_same h _) _]
  simp

set_option maxHeartbeats 2000000 in
set_option maxRecDepth 100000 in
theorem parseLine_any (s : List UInt8) (w : World) (hm : MaxL w) (hs : s.length ≤ 1048576) :
    Calls Tryd.prog 48 #[.string (bs s)] w fun e w' => e = .returned (.tuple #[fv (oneR s), .int .i64 (oneE s)]) ∧ Below w.heap.size w w' := by
  have hal : Below w.heap.size w (w.alloc (.cells #[.string ⟨#[]⟩, .string ⟨#[]⟩] 64)) := (Below.refl _ _).alloc (Nat.le_refl _) _
  have hct := cut_any s [58] _ (hm.bel hal (Nat.le_refl _)) (by omega)
  rw [show bs [58] = ⟨#[58]⟩ from rfl] at hct
  obtain ⟨hl1, hl2⟩ := cut_le s [58]
  have hE : oneE s = if (Lib.cut s [58]).2.2 then chkF (oneF s) else 4 := rfl
  have hF1 : oneF s = ((Lib.cut s [58]).1, trim (Lib.cut s [58]).2.1) := rfl
  obtain ⟨hR1, hR2⟩ := oneR_cases s
  have HP : Hid (oneF2 (w.alloc (.cells #[.string ⟨#[]⟩, .string ⟨#[]⟩] 64)) w.heap.size (.string ⟨#[]⟩) (.string ⟨#[]⟩)) := oneF2.new _ _ _
  generalize Lib.cut s [58] = C at *
  obtain ⟨c1, c2, c3⟩ := C
  simp only at hct hl1 hl2 hE hF1
  have HCT := Lib.hid hct; have HB0 := Lib.hid hal; clear hct hal
  generalize oneR s = R at *
  generalize oneE s = E at *
  cases c3
  · have hE4 : E = 4 := hE
    have HR : Hid (R = ([], [])) := hR2 (by omega)
    subst hE4
    clear hE hF1 hR1 hR2
    go_enter Tryd.func48, Tryd.ntmps48
    go_wp2_with fail
    refine HCT.out.mono ?_; rintro e w1 ⟨rfl, hb1⟩
    have HP1 := Lib.hid (HP.out.bel hb1); have HB1 := Lib.hid (HB0.out.trans (hb1.mono HB0.out.size)); clear hb1
    obtain ⟨k1, k2, k3, k4⟩ := HP1.out.cells
    go_wp2_with fail
    obtain ⟨m1, m2, m3, m4⟩ := (HP1.out.stored (.string ⟨#[]⟩) (.string ⟨#[]⟩)).cells
    exact bodyPost_ret (v := .tuple #[.agg #[.string ⟨#[]⟩, .string ⟨#[]⟩], .int .i64 4]) (by simp [results, Tryd.results48, go_sem, m1, m2]) rfl ⟨by rw [HR.out]; rfl, (HB1.out.setCell (Nat.le_refl _) _).setCell (Nat.le_refl _) _⟩
  · have hEc : E = chkF (oneF s) := hE
    rw [hF1] at hEc hR1
    clear hE hF1
    have ht := trim_le c2
    have hcl := fun w => clone_l c1 w (by omega)
    have htr := fun w => trim_l c2 w (by omega)
    have hck := fun w => checkField_any (c1, trim c2) w (by simp only; omega) (by simp only; omega)
    rw [← hEc] at hck
    unfold fv at hck; simp only at hck
    clear hEc
    generalize trim c2 = t at *
    have HCL := Lib.hid hcl; have HTR := Lib.hid htr; have HCK := Lib.hid hck
    clear hcl htr hck
    go_enter Tryd.func48, Tryd.ntmps48
    go_wp2_with fail
    refine HCT.out.mono ?_; rintro e w1 ⟨rfl, hb1⟩
    have HP1 := Lib.hid (HP.out.bel hb1); have HB1 := Lib.hid (HB0.out.trans (hb1.mono HB0.out.size)); clear hb1
    go_wp2_with fail
    refine (HCL.out _).mono ?_; rintro e w2 ⟨rfl, hb2⟩
    have HP2 := Lib.hid (HP1.out.bel hb2); have HB2 := Lib.hid (HB1.out.trans (hb2.mono HB1.out.size)); clear hb2
    go_wp2_with fail
    refine (HTR.out _).mono ?_; rintro e w3 ⟨rfl, hb3⟩
    have HP3 := Lib.hid (HP2.out.bel hb3); have HB3 := Lib.hid (HB2.out.trans (hb3.mono HB2.out.size)); clear hb3
    have hal : Below w3.heap.size w3 (w3.alloc (.cells #[.string (bs c1), .string (bs t)] 64)) := (Below.refl _ _).alloc (Nat.le_refl _) _
    have HQ := Lib.hid (oneF2.new w3 (.string (bs c1)) (.string (bs t)))
    have HP4 := Lib.hid (HP3.out.bel hal); have HB4 := Lib.hid (HB3.out.trans (hal.mono HB3.out.size)); clear hal
    go_wp2_with fail
    refine (HCK.out _).mono ?_; rintro e w5 ⟨rfl, hb5⟩
    have HP5 := Lib.hid (HP4.out.bel hb5); have HB5 := Lib.hid (HB4.out.trans (hb5.mono HB4.out.size)); have HQ5 := Lib.hid (HQ.out.bel hb5); clear hb5
    obtain ⟨k1, k2, k3, k4⟩ := HP5.out.cells
    obtain ⟨q1, q2, q3, q4⟩ := HQ5.out.cells
    by_cases hz : E = 0
    · have HR : Hid (R = (c1, t)) := hR1 hz
      subst hz
      clear hR1 hR2
      go_wp2_with fail
      obtain ⟨m1, m2, m3, m4⟩ := (HP5.out.stored (.string (bs c1)) (.string (bs t))).cells
      exact bodyPost_ret (v := .tuple #[.agg #[.string (bs c1), .string (bs t)], .int .i64 0]) (by simp [results, Tryd.results48, go_sem, m1, m2]) rfl ⟨by rw [HR.out]; rfl, (HB5.out.setCell (Nat.le_refl _) _).setCell (Nat.le_refl _) _⟩
    · have HR : Hid (R = ([], [])) := hR2 hz
      have hz2 : (E != 0) = true := by simp [hz]
      clear hR1 hR2 hz
      go_wp2_with fail
      obtain ⟨m1, m2, m3, m4⟩ := (HP5.out.stored (.string ⟨#[]⟩) (.string ⟨#[]⟩)).cells
      exact bodyPost_ret (v := .tuple #[.agg #[.string ⟨#[]⟩, .string ⟨#[]⟩], .int .i64 E]) (by simp [results, Tryd.results48, go_sem, m1, m2]) rfl ⟨by rw [HR.out]; rfl, (HB5.out.setCell (Nat.le_refl _) _).setCell (Nat.le_refl _) _⟩
end Go.Proofs.YtoengnefdndgfaaDoor
