/- What a text is as fields: the fields layer's Parse. -/
import Derived.Test.YtoengnefdndgfaaDoorFieldsT
namespace Go.Proofs.YtoengnefdndgfaaDoor
open Go.RowKit

theorem parseW_step {r : List UInt8} (out : List Fld) (h : (cutN r).2.2 = true) :
    parseW r out = if out.length = 64 ∨ 2048 < (cutN r).1.length then ([], 3) else if oneE (cutN r).1 = 0 then parseW (cutN r).2.1 (out ++ [oneF (cutN r).1]) else ([], oneE (cutN r).1) := by
  rw [parseW, dif_pos h]
theorem cutN_no {r : List UInt8} (h : (cutN r).2.2 = false) : (cutN r).1 = r ∧ (cutN r).2.1 = [] := by
  unfold cutN Lib.cut at h ⊢
  split at h
  · cases h
  · rename_i h0; rw [if_neg h0]; exact ⟨rfl, rfl⟩
theorem parseW_end {r : List UInt8} (out : List Fld) (h : (cutN r).2.2 = false) : parseW r out = if (cutN r).1 = [] then (out, 0) else ([], 4) := by
  rw [parseW, dif_neg (by rw [h]; simp), (cutN_no h).1]
/-- fields and the reason there are none, handed back -/
def RetP (w : World) (R : List Fld × Int) (e : Ending) (w' : World) : Prop := ∃ v', e = .returned (.tuple #[v', .int .i64 R.2]) ∧ ownF w' w.heap.size v' R.1 ∧ Below w.heap.size w w'
theorem retP_none {w w' : World} {R : List Fld × Int} {E : Int} (h : R = ([], E)) (hb : Below w.heap.size w w') : RetP w R (.returned (.tuple #[.slice none 0 0, .int .i64 E])) w' := by
  subst h; exact ⟨_, rfl, ownF_nil _ _, hb⟩
theorem retP_of {w w' : World} {R : List Fld × Int} {v : Value} {l : List Fld} (h : R = (l, 0)) (ho : ownF w' w.heap.size v l) (hb : Below w.heap.size w w') : RetP w R (.returned (.tuple #[v, .int .i64 0])) w' := by
  subst h; exact ⟨_, rfl, ho, hb⟩

set_option maxHeartbeats 4000000 in
set_option maxRecDepth 100000 in
theorem parse_any (s : List UInt8) (w : World) (hm : MaxL w) (hs : s.length ≤ 1048576) :
    Calls Tryd.prog 35 #[.string (bs s)] w (RetP w (parseL s)) := by
  have hct := fun (r : List UInt8) (w' : World) (hb : Below w.heap.size w w') (hr : r.length ≤ s.length) => cut_any r [13, 10] w' (hm.bel hb (Nat.le_refl _)) (by omega)
  rw [show bs [13, 10] = ⟨#[13, 10]⟩ from rfl] at hct
  have HM := Lib.hid hm; clear hm
  have HCT : Hid (∀ (r : List UInt8) (w' : World), Below w.heap.size w w' → r.length ≤ s.length → Calls Tryd.prog 43 #[.string (bs r), .string ⟨#[13, 10]⟩] w' fun e w2 => e = .returned (.tuple #[.string (bs (cutN r).1), .string (bs (cutN r).2.1), .bool (cutN r).2.2]) ∧ Below w'.heap.size w' w2) := hct
  clear hct
  go_enter Tryd.func35, Tryd.ntmps35
  go_wp2_with fail
  refine (HCT.out s w (Below.refl _ _) (Nat.le_refl _)).mono ?_; rintro e w1 ⟨rfl, hb1⟩
  have HB1 := Lib.hid hb1; clear hb1
  go_wp2_with fail
  go_loopw [4, 5, 6, 7] (fun o ln re en wr => ∃ (r : List UInt8) (acc : List Fld), ln = .string (bs (cutN r).1) ∧ re = .string (bs (cutN r).2.1) ∧ en = .bool (cutN r).2.2 ∧ ownF wr w.heap.size o acc ∧ acc.length ≤ 64 ∧ r.length ≤ s.length ∧ parseW r acc = parseL s ∧ Below w.heap.size w wr)
    (fun _ _ re en _ => (match re with | .string t => t.size | _ => 0) + (match en with | .bool true => 1 | _ => 0))
  case atStart => exact ⟨s, [], rfl, rfl, rfl, ownF_nil _ _, by simp, Nat.le_refl _, rfl, HB1.out⟩
  case round =>
    obtain ⟨r, acc, rfl, rfl, rfl, ho, hl, hr, hp, hb⟩ := hrel
    obtain ⟨Ao, co, rfl⟩ := ho.form
    have HO := Lib.hid ho; have HB := Lib.hid hb; clear ho hb
    cases hen : (cutN r).2.2
    · have HE : Hid (parseL s = if (cutN r).1 = [] then (acc, 0) else ([], 4)) := hp.symm.trans (parseW_end acc hen)
      generalize (cutN r).1 = c1 at *
      generalize (cutN r).2.1 = c2 at *
      clear hp hen
      by_cases hc : c1 = []
      · have HR : Hid (parseL s = (acc, 0)) := by have h := HE.out; rw [if_pos hc] at h; exact h
        have hq : (bs c1).toList.isEmpty = true := by rw [Lib.toList_data, bs_data, hc]; rfl
        clear hc HE
        go_wp2_with fail
        go_ret2
        exact retP_of HR.out HO.out HB.out
      · have HR : Hid (parseL s = ([], 4)) := by have h := HE.out; rw [if_neg hc] at h; exact h
        have hq : (bs c1).toList.isEmpty = false := by rw [Lib.toList_data, bs_data]; cases c1 <;> simp_all
        clear hc HE
        go_wp2_with fail
        go_ret2
        exact retP_none HR.out HB.out
    · have HE : Hid (parseL s = if acc.length = 64 ∨ 2048 < (cutN r).1.length then ([], 3) else if oneE (cutN r).1 = 0 then parseW (cutN r).2.1 (acc ++ [oneF (cutN r).1]) else ([], oneE (cutN r).1)) := hp.symm.trans (parseW_step acc hen)
      have hlt := cutN_lt hen
      have hle := (cut_le r [13, 10]).1
      replace hle : (cutN r).1.length ≤ r.length := hle
      generalize (cutN r).1 = c1 at *
      generalize (cutN r).2.1 = c2 at *
      clear hp hen
      by_cases h64 : acc.length = 64
      · have HR : Hid (parseL s = ([], 3)) := by have h := HE.out; rw [if_pos (.inl h64)] at h; exact h
        have hq : ((acc.length : Int) == 64) = true := by simp; omega
        clear h64 HE
        go_wp2_with fail
        go_ret2
        exact retP_none HR.out HB.out
      · have hq : ((acc.length : Int) == 64) = false := by simp; omega
        by_cases h20 : 2048 < c1.length
        · have HR : Hid (parseL s = ([], 3)) := by have h := HE.out; rw [if_pos (.inr h20)] at h; exact h
          have hq2 : (2048 : Int) < (c1.length : Int) := by omega
          clear h64 HE h20
          go_wp2_with fail
          go_ret2
          exact retP_none HR.out HB.out
        · have hq2 : ¬ (2048 : Int) < (c1.length : Int) := by omega
          have HE2 : Hid (parseL s = if oneE c1 = 0 then parseW c2 (acc ++ [oneF c1]) else ([], oneE c1)) := by have h := HE.out; rw [if_neg (by omega)] at h; exact h
          have hpl := parseLine_any c1 wr (HM.out.bel HB.out (Nat.le_refl _)) (by omega)
          obtain ⟨hR1, hR2⟩ := oneR_cases c1
          have HCN := fun w' hb => HCT.out c2 w' hb (by omega)
          have HCC := Lib.hid HCN; clear HCN
          clear HE
          generalize oneE c1 = E at *
          generalize oneF c1 = F at *
          generalize oneR c1 = R at *
          by_cases hz : E = 0
          · have hRF := hR1 hz
            have HE3 : Hid (parseL s = parseW c2 (acc ++ [F])) := by have h := HE2.out; rw [if_pos hz] at h; exact h
            subst hz
            subst hRF
            obtain ⟨x, y⟩ := R
            have hM : ∀ k : List UInt8, k.length ≤ c2.length → (if (cutN k).2.2 = true then (cutN k).2.1.length + 1 else (cutN k).2.1.length) ≤ c2.length := by
              intro k hk
              split
              · rename_i h; have := cutN_lt h; omega
              · rename_i h; rw [(cutN_no (by simpa using h)).2]; simp
            have HMs := Lib.hid (hM c2 (Nat.le_refl _))
            have hl2 : acc.length < 64 := by omega
            clear hM hR1 hR2 HE2 h64 h20
            unfold fv at hpl; simp only at hpl
            have HPL := Lib.hid hpl; clear hpl
            go_wp2_with fail
            refine HPL.out.mono ?_; rintro e w2 ⟨rfl, hb2⟩
            have hal : Below w2.heap.size w2 (w2.alloc (.cells #[.string (bs x), .string (bs y)] 64)) := (Below.refl _ _).alloc (Nat.le_refl _) _
            have hb3 := hb2.trans (hal.mono hb2.size)
            have HO3 := Lib.hid (HO.out.bel hb3); have HB3 := Lib.hid (HB.out.trans (hb3.mono HB.out.size))
            clear hb2 hal hb3
            go_wp2_with (first
              | (at_builtin; refine wpList_appF rfl (.tmp 39) (.tmp 41) rfl w.heap.size w.heap.size _ _ x y rfl HO3.out HB3.out (Nat.le_refl _) HB3.out.size rfl (by omega) ?_; intro v4 w4 HO4 HB4 _)
              | (go_at_call 43; refine (HCC.out _ HB4.out).mono ?_; rintro e w5 ⟨rfl, hb5⟩; have HO5 := Lib.hid (HO4.out.bel hb5); have HB5 := Lib.hid (HB4.out.trans (hb5.mono HB4.out.size)); clear hb5))
            go_roundw
            case rel => exact ⟨c2, acc ++ [(x, y)], rfl, rfl, rfl, HO5.out, by simp; omega, by omega, HE3.out.symm, HB5.out⟩
            case measure =>
              have h := HMs.out
              simp only [bs_size]
              cases hq : (cutN c2).2.2 <;> rw [hq] at h <;> simp at h ⊢ <;> omega
          · have HE3 : Hid (parseL s = ([], E)) := by have h := HE2.out; rw [if_neg hz] at h; exact h
            have hz2 : (E != 0) = true := by simp [hz]
            clear hR1 hR2 HE2 hz h64 h20
            obtain ⟨x, y⟩ := R
            unfold fv at hpl; simp only at hpl
            have HPL := Lib.hid hpl; clear hpl
            go_wp2_with fail
            refine HPL.out.mono ?_; rintro e w2 ⟨rfl, hb2⟩
            have HB2 := Lib.hid ((HB.out.trans (hb2.mono HB.out.size)).alloc (Nat.le_trans HB.out.size hb2.size) (.cells #[.string (bs x), .string (bs y)] 64)); clear hb2
            go_wp2_with fail
            go_ret2
            exact retP_none HE3.out HB2.out
end Go.Proofs.YtoengnefdndgfaaDoor
