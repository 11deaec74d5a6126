/- The chapter's examples, and those of RFC 3986: the statement's own walk. -/
import Derived.Test.YtekaiafhnnpkgaaGreatDoorResE
import Derived.Test.YtekaiafhnnpkgaaGreatDoorZeros
namespace Go.Proofs.YtekaiafhnnpkgaaGreatDoor
open Go.RowKit

def refsL : List (List UInt8) := [[46, 47, 103], [103, 47], [47, 103], [47, 47, 103], [103, 63, 121], [35, 115], [103, 35, 115], [103, 63, 121, 35, 115], [59, 120], [103, 59, 120], [103, 59, 120, 63, 121, 35, 115], [], [46], [46, 47], [46, 46], [46, 46, 47], [46, 46, 47, 46, 46], [46, 46, 47, 46, 46, 47], [46, 46, 47, 46, 46, 47, 103], [46, 46, 47, 46, 46, 47, 46, 46, 47, 103], [46, 46, 47, 46, 46, 47, 46, 46, 47, 46, 46, 47, 103], [47, 46, 47, 103], [47, 46, 46, 47, 103], [103, 46], [46, 103], [103, 46, 46], [46, 46, 103], [46, 47, 46, 46, 47, 103], [46, 47, 103, 47, 46], [103, 47, 46, 47, 104], [103, 47, 46, 46, 47, 104], [103, 59, 120, 61, 49, 47, 46, 47, 121], [103, 59, 120, 61, 49, 47, 46, 46, 47, 121], [103, 63, 121, 47, 46, 47, 120], [103, 63, 121, 47, 46, 46, 47, 120], [103, 35, 115, 47, 46, 47, 120]]
def wantsL : List (List UInt8) := [[47, 98, 47, 99, 47, 103], [47, 98, 47, 99, 47, 103, 47], [47, 103], [], [47, 98, 47, 99, 47, 103, 63, 121], [47, 98, 47, 99, 47, 100, 59, 112, 63, 113], [47, 98, 47, 99, 47, 103], [47, 98, 47, 99, 47, 103, 63, 121], [47, 98, 47, 99, 47, 59, 120], [47, 98, 47, 99, 47, 103, 59, 120], [47, 98, 47, 99, 47, 103, 59, 120, 63, 121], [47, 98, 47, 99, 47, 100, 59, 112, 63, 113], [47, 98, 47, 99, 47], [47, 98, 47, 99, 47], [47, 98, 47], [47, 98, 47], [47], [47], [47, 103], [47, 103], [47, 103], [47, 103], [47, 103], [47, 98, 47, 99, 47, 103, 46], [47, 98, 47, 99, 47, 46, 103], [47, 98, 47, 99, 47, 103, 46, 46], [47, 98, 47, 99, 47, 46, 46, 103], [47, 98, 47, 103], [47, 98, 47, 99, 47, 103, 47], [47, 98, 47, 99, 47, 103, 47, 104], [47, 98, 47, 99, 47, 104], [47, 98, 47, 99, 47, 103, 59, 120, 61, 49, 47, 121], [47, 98, 47, 99, 47, 121], [47, 98, 47, 99, 47, 103, 63, 121, 47, 46, 47, 120], [47, 98, 47, 99, 47, 103, 63, 121, 47, 46, 46, 47, 120], [47, 98, 47, 99, 47, 103]]
def okR (r x : List UInt8) : Bool := decide ((refU baseU r).2 = 0) && (decide ((refU baseU r).1.put = x) && !x.isEmpty)
theorem okR_of {r x : List UInt8} (h : okR r x = true) : (refU baseU r).2 = 0 ∧ (refU baseU r).1.put = x ∧ x ≠ [] := by
  unfold okR at h
  simp only [Bool.and_eq_true, decide_eq_true_eq] at h
  refine ⟨h.1, h.2.1, ?_⟩
  rintro rfl
  exact absurd h.2.2 (by decide)
theorem tab_all : ((List.range 36).all fun i => okR (refsL.getD i []) (if refsL.getD i [] = [47, 47, 103] then [104, 116, 116, 112, 58, 47, 47, 103, 47] else [104, 116, 116, 112, 58, 47, 47, 97] ++ wantsL.getD i []) && decide ((wantsL.getD i []).length ≤ 1000)) = true := by kernel_rfl
theorem tab_at {k : Nat} (h : k < 36) (h1 : k < refsL.length) (h2 : k < wantsL.length) : okR refsL[k] (if refsL[k] = [47, 47, 103] then [104, 116, 116, 112, 58, 47, 47, 103, 47] else [104, 116, 116, 112, 58, 47, 47, 97] ++ wantsL[k]) = true ∧ wantsL[k].length ≤ 1000 := by
  have h3 := List.all_eq_true.1 tab_all k (List.mem_range.2 h)
  rw [List.getD_eq_getElem?_getD, List.getD_eq_getElem?_getD, List.getElem?_eq_getElem h1, List.getElem?_eq_getElem h2, Option.getD_some, Option.getD_some, Bool.and_eq_true] at h3
  exact ⟨h3.1, of_decide_eq_true h3.2⟩
theorem mor0 : refU baseU [104, 116, 116, 112, 58, 103] = (ur0, 4) := by kernel_rfl
theorem mor1 : okR [72, 84, 84, 80, 58, 47, 47, 71] [104, 116, 116, 112, 58, 47, 47, 103, 47] = true := by kernel_rfl
theorem mor2 : okR [47, 47, 103, 58, 57, 57] [104, 116, 116, 112, 58, 47, 47, 103, 58, 57, 57, 47] = true := by kernel_rfl
theorem mor3 : refU baseU [47, 97, 32, 98] = (ur0, 4) := by kernel_rfl
theorem mor4 : refU baseU [37, 122, 122] = (ur0, 4) := by kernel_rfl
theorem mor5 : okR [104, 116, 116, 112, 115, 58, 47, 47, 65, 58, 52, 52, 51, 63, 37, 55, 101] [104, 116, 116, 112, 115, 58, 47, 47, 97, 47, 63, 126] = true := by kernel_rfl
theorem mor6 : okR [49, 97, 58, 98] [104, 116, 116, 112, 58, 47, 47, 97, 47, 98, 47, 99, 47, 49, 97, 58, 98] = true := by kernel_rfl
theorem mor7 : refU baseU [47, 47] = (ur0, 4) := by kernel_rfl
theorem mor8 : okR [46, 47, 103, 58, 104] [104, 116, 116, 112, 58, 47, 47, 97, 47, 98, 47, 99, 47, 103, 58, 104] = true := by kernel_rfl
theorem rowU.belowR {w w' : World} {b : Nat} {C : List (List UInt8)} (h : rowU w b C) (hb : Below w.heap.size w w') : rowU w' b C := h.keep (hb.block b h.lt)
set_option maxHeartbeats 8000000 in
set_option maxRecDepth 100000 in
theorem resolveKnown_law (w : World) (hm : MaxU w) (hl0 : Env w) :
    Calls Tryz.prog 5 #[] w fun e w' => e = .returned (.bool true) ∧ Below w.heap.size w w' := by
  have HE : Hid (EnvU w) := ⟨hm, hl0⟩
  clear hm hl0
  have K0 := Lib.hid (fun W (hb : EnvU W) => means_no _ W hb mor0)
  have K1 := Lib.hid (fun W (hb : EnvU W) => means_yes _ _ W hb (okR_of mor1).1 (okR_of mor1).2.1 (okR_of mor1).2.2)
  have K2 := Lib.hid (fun W (hb : EnvU W) => means_yes _ _ W hb (okR_of mor2).1 (okR_of mor2).2.1 (okR_of mor2).2.2)
  have K3 := Lib.hid (fun W (hb : EnvU W) => means_no _ W hb mor3)
  have K4 := Lib.hid (fun W (hb : EnvU W) => means_no _ W hb mor4)
  have K5 := Lib.hid (fun W (hb : EnvU W) => means_yes _ _ W hb (okR_of mor5).1 (okR_of mor5).2.1 (okR_of mor5).2.2)
  have K6 := Lib.hid (fun W (hb : EnvU W) => means_yes _ _ W hb (okR_of mor6).1 (okR_of mor6).2.1 (okR_of mor6).2.2)
  have K7 := Lib.hid (fun W (hb : EnvU W) => means_no _ W hb mor7)
  have K8 := Lib.hid (fun W (hb : EnvU W) => means_yes _ _ W hb (okR_of mor8).1 (okR_of mor8).2.1 (okR_of mor8).2.2)
  have K9 : Hid (∀ W, EnvU W → Calls Tryz.prog 8 #[.agg #[.string ⟨#[]⟩, .string ⟨#[]⟩, .int .i64 0, .string ⟨#[]⟩, .string ⟨#[]⟩, .bool false], .string ⟨#[103]⟩] W fun e w' => e = .returned (.tuple #[.agg #[.string ⟨#[]⟩, .string ⟨#[]⟩, .int .i64 0, .string ⟨#[]⟩, .string ⟨#[]⟩, .bool false], .int .i64 2]) ∧ Below W.heap.size W w') := fun W hb => by
    have h := ref_any ur0 [103] W hb ⟨by decide, by decide, by decide⟩
    rw [ref_bad ur0_norm0 (by decide)] at h
    exact h
  have K10 : Hid (∀ W, EnvU W → Calls Tryz.prog 8 #[.agg #[.string ⟨#[]⟩, .string ⟨#[]⟩, .int .i64 0, .string ⟨#[]⟩, .string ⟨#[]⟩, .bool false], .string (zerosZ 1025)] W fun e w' => e = .returned (.tuple #[.agg #[.string ⟨#[]⟩, .string ⟨#[]⟩, .int .i64 0, .string ⟨#[]⟩, .string ⟨#[]⟩, .bool false], .int .i64 3]) ∧ Below W.heap.size W w') := fun W hb => by
    have h := ref_any ur0 (zerosZ 1025).data.toList W hb ⟨by decide, by decide, by decide⟩
    rw [show refU ur0 (zerosZ 1025).data.toList = (ur0, 3) from if_pos (by rw [← size_len, zerosZ_size]; decide), bs_self] at h
    exact h
  have hal : Below w.heap.size w ((w.alloc (.cells (refsL.map fun x => Value.string (bs x)).toArray 9)).alloc (.cells (wantsL.map fun x => Value.string (bs x)).toArray 9)) := ((Below.refl _ _).alloc (Nat.le_refl _) _).alloc (by simp) _
  have HB1 := Lib.hid hal; clear hal
  have hr1 : rowU (w.alloc (.cells (refsL.map fun x => Value.string (bs x)).toArray 9)) w.heap.size refsL := ⟨_, heap_alloc_new _ _⟩
  have HR1 : Hid (rowU ((w.alloc (.cells (refsL.map fun x => Value.string (bs x)).toArray 9)).alloc (.cells (wantsL.map fun x => Value.string (bs x)).toArray 9)) w.heap.size refsL) := hr1.keep (Below.heap_alloc _ _ _ hr1.lt)
  clear hr1
  have hr2 : rowU ((w.alloc (.cells (refsL.map fun x => Value.string (bs x)).toArray 9)).alloc (.cells (wantsL.map fun x => Value.string (bs x)).toArray 9)) (w.alloc (.cells (refsL.map fun x => Value.string (bs x)).toArray 9)).heap.size wantsL := ⟨_, heap_alloc_new _ _⟩
  rw [World.size_alloc] at hr2
  have HR2 := Lib.hid hr2; clear hr2
  go_enter Tryz.func5, Tryz.ntmps5
  go_wp2_with fail
  refine (show Code.wp Tryz.prog _ _ _ ((w.alloc (.cells (refsL.map fun x => Value.string (bs x)).toArray 9)).alloc (.cells (wantsL.map fun x => Value.string (bs x)).toArray 9)) from ?_)
  generalize hwx : ((w.alloc (.cells (refsL.map fun x => Value.string (bs x)).toArray 9)).alloc (.cells (wantsL.map fun x => Value.string (bs x)).toArray 9)) = w2 at *
  clear hwx
  go_loopw [3] (fun i wr => ∃ k : Nat, i = .int .i64 k ∧ k ≤ 36 ∧ Below w2.heap.size w2 wr) (fun i _ => 36 - (intOf i).toNat)
  case atStart => exact ⟨0, rfl, by omega, Below.refl _ _⟩
  case round =>
  obtain ⟨k, rfl, hk, hr⟩ := hrel
  have HR := Lib.hid hr; clear hr
  have HER := Lib.hid (HE.out.bel (HB1.out.trans (HR.out.mono HB1.out.size)))
  by_cases hlt : k < 36
  · have hc1 := (HR1.out.belowR HR.out).cell k hlt
    have hc2 := (HR2.out.belowR HR.out).cell k hlt
    obtain ⟨hok, hwl⟩ := tab_at hlt hlt hlt
    generalize refsL[k] = x at *
    generalize wantsL[k] = y at *
    by_cases hx : x = [47, 47, 103]
    · rw [if_pos hx] at hok
      have q1 : ((bs x).toList == [47, 47, 103]) = true := by rw [beq_lit]; exact beq_iff_eq.2 hx
      obtain ⟨o1, o2, o3⟩ := okR_of hok
      have HM := Lib.hid (fun W (hb : EnvU W) => means_yes x _ W hb o1 o2 o3)
      clear hx hok o1 o2 o3
      go_wp2_with fail
      refine (HM.out _ HER.out).mono ?_
      rintro e w9 ⟨rfl, hb9⟩
      have HR9 := Lib.hid (HR.out.trans (hb9.mono HR.out.size)); clear hb9
      go_wp2_with fail
      go_roundw
      case rel => exact ⟨k + 1, by go_num, by omega, HR9.out⟩
      case measure => simp [intOf]; omega
    · rw [if_neg hx] at hok
      have q1 : ((bs x).toList == [47, 47, 103]) = false := by rw [beq_lit]; exact beq_eq_false_iff_ne.2 hx
      obtain ⟨o1, o2, o3⟩ := okR_of hok
      have HM : Hid (∀ W, EnvU W → Calls Tryz.prog 13 #[.string (bs x), .string (⟨#[104, 116, 116, 112, 58, 47, 47, 97]⟩ ++ bs y)] W fun r w' => r = .returned (.bool true) ∧ Below W.heap.size W w') := fun W hb => by
        rw [show ⟨#[104, 116, 116, 112, 58, 47, 47, 97]⟩ ++ bs y = bs ([104, 116, 116, 112, 58, 47, 47, 97] ++ y) from bs_of (by rw [ByteArray.data_append, Array.toList_append, bs_data])]
        exact means_yes x _ W hb o1 o2 o3
      clear hx hok o1 o2 o3
      go_wp2_with fail
      refine (HM.out _ HER.out).mono ?_
      rintro e w9 ⟨rfl, hb9⟩
      have HR9 := Lib.hid (HR.out.trans (hb9.mono HR.out.size)); clear hb9
      go_wp2_with fail
      go_roundw
      case rel => exact ⟨k + 1, by go_num, by omega, HR9.out⟩
      case measure => simp [intOf]; omega
  have hge : ¬ (k : Int) < 36 := by omega
  have HB0 := Lib.hid (HB1.out.trans (HR.out.mono HB1.out.size))
  generalize wr = w3 at *
  clear HR HER HR1 HR2 HB1
  go_wp2_with fail
  refine (K0.out _ (HE.out.bel HB0.out)).mono ?_
  rintro r yw1 ⟨rfl, hb⟩
  have HB1 := Lib.hid (HB0.out.trans (hb.mono HB0.out.size))
  clear hb HB0
  go_wp2_with fail
  refine (K1.out _ (HE.out.bel HB1.out)).mono ?_
  rintro r yw2 ⟨rfl, hb⟩
  have HB2 := Lib.hid (HB1.out.trans (hb.mono HB1.out.size))
  clear hb HB1
  go_wp2_with fail
  refine (K2.out _ (HE.out.bel HB2.out)).mono ?_
  rintro r yw3 ⟨rfl, hb⟩
  have HB3 := Lib.hid (HB2.out.trans (hb.mono HB2.out.size))
  clear hb HB2
  go_wp2_with fail
  refine (K3.out _ (HE.out.bel HB3.out)).mono ?_
  rintro r yw4 ⟨rfl, hb⟩
  have HB4 := Lib.hid (HB3.out.trans (hb.mono HB3.out.size))
  clear hb HB3
  go_wp2_with fail
  refine (K4.out _ (HE.out.bel HB4.out)).mono ?_
  rintro r yw5 ⟨rfl, hb⟩
  have HB5 := Lib.hid (HB4.out.trans (hb.mono HB4.out.size))
  clear hb HB4
  go_wp2_with fail
  refine (K5.out _ (HE.out.bel HB5.out)).mono ?_
  rintro r yw6 ⟨rfl, hb⟩
  have HB6 := Lib.hid (HB5.out.trans (hb.mono HB5.out.size))
  clear hb HB5
  go_wp2_with fail
  refine (K6.out _ (HE.out.bel HB6.out)).mono ?_
  rintro r yw7 ⟨rfl, hb⟩
  have HB7 := Lib.hid (HB6.out.trans (hb.mono HB6.out.size))
  clear hb HB6
  go_wp2_with fail
  refine (K7.out _ (HE.out.bel HB7.out)).mono ?_
  rintro r yw8 ⟨rfl, hb⟩
  have HB8 := Lib.hid (HB7.out.trans (hb.mono HB7.out.size))
  clear hb HB7
  go_wp2_with fail
  refine (K8.out _ (HE.out.bel HB8.out)).mono ?_
  rintro r yw9 ⟨rfl, hb⟩
  have HB9 := Lib.hid (HB8.out.trans (hb.mono HB8.out.size))
  clear hb HB8
  go_wp2_with fail
  refine (K9.out _ (HE.out.bel HB9.out)).mono ?_
  rintro r yw10 ⟨rfl, hb⟩
  have HB10 := Lib.hid (HB9.out.trans (hb.mono HB9.out.size))
  clear hb HB9
  have hal : Below yw10.heap.size yw10 (yw10.alloc (.cells #[.string ⟨#[]⟩, .string ⟨#[]⟩, .int .i64 0, .string ⟨#[]⟩, .string ⟨#[]⟩, .bool false] 23)) := (Below.refl _ _).alloc (Nat.le_refl _) _
  have HB11 := Lib.hid (HB10.out.trans (hal.mono HB10.out.size))
  have hn := ubk.new yw10 #[.string ⟨#[]⟩, .string ⟨#[]⟩, .int .i64 0, .string ⟨#[]⟩, .string ⟨#[]⟩, .bool false] 23
  have HU11 := Lib.hid hn; clear hn
  clear hal HB10
  have hmk : (Instr.makeSlice 38 (.int .i64 1025) (.int .i64 1025)).run Tryz.prog (yw10.alloc (.cells #[.string ⟨#[]⟩, .string ⟨#[]⟩, .int .i64 0, .string ⟨#[]⟩, .string ⟨#[]⟩, .bool false] 23)) = .ok (.slice (some ⟨(yw10.alloc (.cells #[.string ⟨#[]⟩, .string ⟨#[]⟩, .int .i64 0, .string ⟨#[]⟩, .string ⟨#[]⟩, .bool false] 23)).heap.size, 0, none⟩) 1025 1025) (madeZ (yw10.alloc (.cells #[.string ⟨#[]⟩, .string ⟨#[]⟩, .int .i64 0, .string ⟨#[]⟩, .string ⟨#[]⟩, .bool false] 23)) 1025) := make_zZ 1025 (yw10.alloc (.cells #[.string ⟨#[]⟩, .string ⟨#[]⟩, .int .i64 0, .string ⟨#[]⟩, .string ⟨#[]⟩, .bool false] 23)) (by decide)
  have hcv := conv_zZ 1025 (yw10.alloc (.cells #[.string ⟨#[]⟩, .string ⟨#[]⟩, .int .i64 0, .string ⟨#[]⟩, .string ⟨#[]⟩, .bool false] 23))
  rw [World.size_alloc] at hmk hcv
  go_wp2_with fail
  have hz := below_zZ 1025 (yw10.alloc (.cells #[.string ⟨#[]⟩, .string ⟨#[]⟩, .int .i64 0, .string ⟨#[]⟩, .string ⟨#[]⟩, .bool false] 23))
  have HB12 := Lib.hid (HB11.out.trans (hz.mono HB11.out.size)); clear hz hmk hcv
  generalize madeZ (yw10.alloc (.cells #[.string ⟨#[]⟩, .string ⟨#[]⟩, .int .i64 0, .string ⟨#[]⟩, .string ⟨#[]⟩, .bool false] 23)) 1025 = w5 at *
  refine (K10.out _ (HE.out.bel HB12.out)).mono ?_
  rintro r yw13 ⟨rfl, hb⟩
  have HB13 := Lib.hid (HB12.out.trans (hb.mono HB12.out.size))
  clear hb HB12
  have hal : Below yw13.heap.size yw13 (yw13.alloc (.cells #[.string ⟨#[]⟩, .string ⟨#[]⟩, .int .i64 0, .string ⟨#[]⟩, .string ⟨#[]⟩, .bool false] 23)) := (Below.refl _ _).alloc (Nat.le_refl _) _
  have HB14 := Lib.hid (HB13.out.trans (hal.mono HB13.out.size))
  have hn := ubk.new yw13 #[.string ⟨#[]⟩, .string ⟨#[]⟩, .int .i64 0, .string ⟨#[]⟩, .string ⟨#[]⟩, .bool false] 23
  have HV14 := Lib.hid hn; clear hn
  clear hal HB13
  go_wp2_with fail
  refine (works_any _ (HE.out.bel HB14.out)).mono ?_
  rintro r yw15 ⟨rfl, hb⟩
  have HB15 := Lib.hid (HB14.out.trans (hb.mono HB14.out.size))
  have HV15 := Lib.hid (HV14.out.below hb)
  clear hb HB14 HV14
  go_wp2_with fail
  go_ret
  exact ⟨rfl, HB15.out⟩
end Go.Proofs.YtekaiafhnnpkgaaGreatDoor
