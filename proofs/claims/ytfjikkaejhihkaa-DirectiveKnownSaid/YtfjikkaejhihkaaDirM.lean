/- The statement DirectiveKnown's walk: the chapter's examples. -/
import Derived.Test.YtfjikkaejhihkaaDirL
namespace Go.Proofs.Ytfjikkaejhihkaa
open Go.RowKit

/-- a slice literal of some texts -/
theorem SL_lits (w : World) (X : List (List UInt8)) : SL (w.alloc (.cells (X.map fun x => Value.string (bs x)).toArray 9)) (.slice (some ⟨w.heap.size, 0, none⟩) X.length X.length) X := by
  refine .inr ⟨w.heap.size, 0, X.length, rfl, by simp, fun j hj => ?_⟩
  have e1 := cell_of_row _ w.heap.size j _ _ _ (heap_alloc_new w (.cells (X.map fun x => Value.string (bs x)).toArray 9))
  rw [Nat.zero_add, e1]
  simp [hj]
theorem told_many (X : List (List UInt8)) (r : List UInt8) (w : World) (hm : MaxD w) (hx : (X.all fun x => decide (x.length ≤ 4294967200)) = true) (hl : X.length ≤ 1000000) (hz : sizeD (dirsAll X) ≤ 1000000) (hr : tolds (dirsAll X) (dirsAll X).length = r) :
    Calls Try.prog 15 #[.slice (some ⟨w.heap.size, 0, none⟩) X.length X.length] (w.alloc (.cells (X.map fun x => Value.string (bs x)).toArray 9)) fun e w' => e = .returned (.string (bs r)) ∧ Below w.heap.size w w' := by
  have hb : Below w.heap.size w (w.alloc (.cells (X.map fun x => Value.string (bs x)).toArray 9)) := (Below.refl _ _).alloc (Nat.le_refl _) _
  refine (told_any _ X _ (hm.bel hb) (SL_lits w X) (fun y hy => of_decide_eq_true (List.all_eq_true.1 hx y hy)) hl hz).mono ?_
  rw [hr]
  rintro e w' ⟨he, h⟩
  exact ⟨he, hb.trans (h.mono hb.size)⟩
theorem rep65_told : sizeD (dirsAll [Lib.repeatL [97, 44] 65]) ≤ 1000000 ∧ tolds (dirsAll [Lib.repeatL [97, 44] 65]) (dirsAll [Lib.repeatL [97, 44] 65]).length = [110, 111, 45, 115, 116, 111, 114, 101] ∧ (Lib.repeatL [97, 44] 65).length ≤ 4294967200 := of_decide_eq_true (by kernel_rfl)
theorem tk0 (w : World) (hm : MaxD w) : Calls Try.prog 15 #[.slice (some ⟨w.heap.size, 0, none⟩) 1 1] (w.alloc (.cells #[.string ⟨#[97, 61, 32, 44, 32, 61, 98, 44, 32, 97, 32, 98, 44, 32, 97, 32, 61, 32, 98, 44, 32, 99, 61, 40, 44, 32, 100, 61, 34, 120, 34, 121, 44, 32, 101, 61]⟩] 9)) fun e w' => e = .returned (.string ⟨#[]⟩) ∧ Below w.heap.size w w' :=
  told_many [[97, 61, 32, 44, 32, 61, 98, 44, 32, 97, 32, 98, 44, 32, 97, 32, 61, 32, 98, 44, 32, 99, 61, 40, 44, 32, 100, 61, 34, 120, 34, 121, 44, 32, 101, 61]] [] w hm (by kernel_rfl) (by decide) (of_decide_eq_true (by kernel_rfl)) (by kernel_rfl)
theorem tk1 (w : World) (hm : MaxD w) : Calls Try.prog 15 #[.slice (some ⟨w.heap.size, 0, none⟩) 2 2] (w.alloc (.cells #[.string ⟨#[97]⟩, .string ⟨#[98, 44, 32, 99]⟩] 9)) fun e w' => e = .returned (.string ⟨#[97, 32, 98, 32, 99]⟩) ∧ Below w.heap.size w w' :=
  told_many [[97], [98, 44, 32, 99]] [97, 32, 98, 32, 99] w hm (by kernel_rfl) (by decide) (of_decide_eq_true (by kernel_rfl)) (by kernel_rfl)
theorem tk2 (w : World) (hm : MaxD w) : Calls Try.prog 15 #[.slice none 0 0] w fun e w' => e = .returned (.string ⟨#[]⟩) ∧ Below w.heap.size w w' :=
  told_any _ [] w hm (SL_nil w) (fun y hy => by cases hy) (by simp) (of_decide_eq_true (by kernel_rfl))
theorem tk3 (w : World) (hm : MaxD w) : Calls Try.prog 15 #[.slice (some ⟨w.heap.size, 0, none⟩) 2 2] (w.alloc (.cells #[.string ⟨#[]⟩, .string ⟨#[32, 44, 32, 44]⟩] 9)) fun e w' => e = .returned (.string ⟨#[]⟩) ∧ Below w.heap.size w w' :=
  told_many [[], [32, 44, 32, 44]] [] w hm (by kernel_rfl) (by decide) (of_decide_eq_true (by kernel_rfl)) (by kernel_rfl)
theorem tk4 (w : World) (hm : MaxD w) : Calls Try.prog 15 #[.slice (some ⟨w.heap.size, 0, none⟩) 1 1] (w.alloc (.cells #[.string ⟨#[97, 61, 98, 61, 99]⟩] 9)) fun e w' => e = .returned (.string ⟨#[]⟩) ∧ Below w.heap.size w w' :=
  told_many [[97, 61, 98, 61, 99]] [] w hm (by kernel_rfl) (by decide) (of_decide_eq_true (by kernel_rfl)) (by kernel_rfl)
theorem tk5 (w : World) (hm : MaxD w) : Calls Try.prog 15 #[.slice (some ⟨w.heap.size, 0, none⟩) 1 1] (w.alloc (.cells #[.string ⟨#[97, 61, 34, 92, 34, 34]⟩] 9)) fun e w' => e = .returned (.string ⟨#[97, 61, 34]⟩) ∧ Below w.heap.size w w' :=
  told_many [[97, 61, 34, 92, 34, 34]] [97, 61, 34] w hm (by kernel_rfl) (by decide) (of_decide_eq_true (by kernel_rfl)) (by kernel_rfl)
theorem tk6 (w : World) (hm : MaxD w) : Calls Try.prog 15 #[.slice (some ⟨w.heap.size, 0, none⟩) 1 1] (w.alloc (.cells #[.string ⟨#[97, 61, 34, 34]⟩] 9)) fun e w' => e = .returned (.string ⟨#[97, 61]⟩) ∧ Below w.heap.size w w' :=
  told_many [[97, 61, 34, 34]] [97, 61] w hm (by kernel_rfl) (by decide) (of_decide_eq_true (by kernel_rfl)) (by kernel_rfl)
theorem tk8 (w : World) (hm : MaxD w) : Calls Try.prog 15 #[.slice (some ⟨w.heap.size, 0, none⟩) 3 3] (w.alloc (.cells #[.string ⟨#[120]⟩, .string ⟨#[34]⟩, .string ⟨#[121]⟩] 9)) fun e w' => e = .returned (.string ⟨#[120, 32, 110, 111, 45, 115, 116, 111, 114, 101, 32, 121]⟩) ∧ Below w.heap.size w w' :=
  told_many [[120], [34], [121]] [120, 32, 110, 111, 45, 115, 116, 111, 114, 101, 32, 121] w hm (by kernel_rfl) (by decide) (of_decide_eq_true (by kernel_rfl)) (by kernel_rfl)
/-- the list that is looked through -/
def three : List Dv := [([110, 111, 45, 99, 97, 99, 104, 101], [], false, []), ([109, 97, 120, 45, 97, 103, 101], [53], true, []), ([109, 97, 120, 45, 97, 103, 101], [54], true, [])]
theorem three_is : dirsAll [[78, 111, 45, 67, 97, 99, 104, 101, 44, 32, 109, 97, 120, 45, 97, 103, 101, 61, 53, 44, 32, 109, 97, 120, 45, 97, 103, 101, 61, 54]] = three := of_decide_eq_true (by kernel_rfl)
theorem three_w : ∀ j (hj : j < three.length), DvW three[j] := fun j hj => by
  have h : ∀ d ∈ three, DvW d := by unfold three DvW; decide
  exact h _ (List.getElem_mem hj)
theorem find_max : findD three [77, 65, 88, 45, 65, 71, 69] = some ([109, 97, 120, 45, 97, 103, 101], [53], true, []) := of_decide_eq_true (by kernel_rfl)
theorem find_x : findD three [120] = none := of_decide_eq_true (by kernel_rfl)
theorem eql5 (W : World) : (binOp .eql 29 (.agg #[.string ⟨#[109, 97, 120, 45, 97, 103, 101]⟩, .string ⟨#[53]⟩, .bool true, .string ⟨#[]⟩]) (.agg #[.string ⟨#[109, 97, 120, 45, 97, 103, 101]⟩, .string ⟨#[53]⟩, .bool true, .string ⟨#[]⟩])).run Try.prog W = .ok (.bool true) W := run_eqlD ([109, 97, 120, 45, 97, 103, 101], [53], true, []) ([109, 97, 120, 45, 97, 103, 101], [53], true, []) W
theorem eql0 (W : World) : (binOp .eql 29 (.agg #[.string ⟨#[]⟩, .string ⟨#[]⟩, .bool false, .string ⟨#[]⟩]) (.agg #[.string ⟨#[]⟩, .string ⟨#[]⟩, .bool false, .string ⟨#[]⟩])).run Try.prog W = .ok (.bool true) W := run_eqlD dv0 dv0 W
theorem fk1 (A : Option Addr) (c : Nat) (w : World) (h : DL w (.slice A 3 c) three) : Calls Try.prog 13 #[.slice A 3 c, .string ⟨#[77, 65, 88, 45, 65, 71, 69]⟩] w fun e w' => e = .returned (.tuple #[.agg #[.string ⟨#[109, 97, 120, 45, 97, 103, 101]⟩, .string ⟨#[53]⟩, .bool true, .string ⟨#[]⟩], .bool true]) ∧ Below w.heap.size w w' := by
  have h := findD_any _ three [77, 65, 88, 45, 65, 71, 69] w h three_w (by decide) (by decide)
  unfold RetR at h
  rw [find_max] at h
  exact h
theorem fk2 (A : Option Addr) (c : Nat) (w : World) (h : DL w (.slice A 3 c) three) : Calls Try.prog 13 #[.slice A 3 c, .string ⟨#[120]⟩] w fun e w' => e = .returned (.tuple #[.agg #[.string ⟨#[]⟩, .string ⟨#[]⟩, .bool false, .string ⟨#[]⟩], .bool false]) ∧ Below w.heap.size w w' := by
  have h := findD_any _ three [120] w h three_w (by decide) (by decide)
  unfold RetR at h
  rw [find_x] at h
  exact h
theorem fk3 (w : World) : Calls Try.prog 13 #[.slice none 0 0, .string ⟨#[]⟩] w fun e w' => e = .returned (.tuple #[.agg #[.string ⟨#[]⟩, .string ⟨#[]⟩, .bool false, .string ⟨#[]⟩], .bool false]) ∧ Below w.heap.size w w' :=
  findD_any _ [] [] w (DL_nil w) (fun j hj => absurd hj (by simp)) (by decide) (by decide)
set_option maxHeartbeats 8000000 in
set_option maxRecDepth 100000 in
theorem directiveKnown_any (w : World) (hm : MaxD w) :
    Calls Try.prog 5 #[] w fun e w' => e = .returned (.bool true) ∧ Below w.heap.size w w' := by
  have HM := Lib.hid hm; clear hm
  go_enter Try.func5, Try.ntmps5
  go_wp2_with fail
  refine (tk0 _ HM.out).mono ?_
  rintro e w1 ⟨rfl, hb⟩
  have HB1 := Lib.hid hb; clear hb
  go_wp2_with fail
  refine (tk1 _ (HM.out.bel HB1.out)).mono ?_
  rintro e w2 ⟨rfl, hb⟩
  have HB2 := Lib.hid (HB1.out.trans (hb.mono HB1.out.size)); clear hb HB1
  go_wp2_with fail
  refine (tk2 _ (HM.out.bel HB2.out)).mono ?_
  rintro e w3 ⟨rfl, hb⟩
  have HB3 := Lib.hid (HB2.out.trans (hb.mono HB2.out.size)); clear hb HB2
  go_wp2_with fail
  refine (tk3 _ (HM.out.bel HB3.out)).mono ?_
  rintro e w4 ⟨rfl, hb⟩
  have HB4 := Lib.hid (HB3.out.trans (hb.mono HB3.out.size)); clear hb HB3
  go_wp2_with fail
  refine (tk4 _ (HM.out.bel HB4.out)).mono ?_
  rintro e w5 ⟨rfl, hb⟩
  have HB5 := Lib.hid (HB4.out.trans (hb.mono HB4.out.size)); clear hb HB4
  go_wp2_with fail
  refine (tk5 _ (HM.out.bel HB5.out)).mono ?_
  rintro e w6 ⟨rfl, hb⟩
  have HB6 := Lib.hid (HB5.out.trans (hb.mono HB5.out.size)); clear hb HB5
  go_wp2_with fail
  refine (tk6 _ (HM.out.bel HB6.out)).mono ?_
  rintro e w7 ⟨rfl, hb⟩
  have HB7 := Lib.hid (HB6.out.trans (hb.mono HB6.out.size)); clear hb HB6
  go_wp2_with fail
  refine (Try.strings_Repeat (⟨#[97, 44]⟩ : ByteArray) 65 _ (by decide) (by decide)).mono ?_
  rw [show (⟨#[97, 44]⟩ : ByteArray).data.toList = [97, 44] from rfl]
  rintro e w8 ⟨rfl, hb⟩
  have HB8 := Lib.hid (HB7.out.trans (hb.mono HB7.out.size)); clear hb HB7
  obtain ⟨r1, r2, r3⟩ := rep65_told
  generalize Lib.repeatL [97, 44] 65 = rep at *
  have hk := fun W (h : MaxD W) => told_one rep [110, 111, 45, 115, 116, 111, 114, 101] W h r3 r1 r2
  have hk2 : ∀ W, MaxD W → Calls Try.prog 15 #[.slice (some ⟨W.heap.size, 0, none⟩) 1 1] (W.alloc (.cells #[.string (bs rep)] 9)) fun e w' => e = .returned (.string ⟨#[110, 111, 45, 115, 116, 111, 114, 101]⟩) ∧ Below W.heap.size W w' := hk
  have HK := Lib.hid hk2
  clear hk hk2 r1 r2 r3
  go_wp2_with fail
  refine (HK.out _ (HM.out.bel HB8.out)).mono ?_
  rintro e w9 ⟨rfl, hb⟩
  have HB9 := Lib.hid (HB8.out.trans (hb.mono HB8.out.size)); clear hb HB8
  go_wp2_with fail
  refine (tk8 _ (HM.out.bel HB9.out)).mono ?_
  rintro e w10 ⟨rfl, hb⟩
  have HB10 := Lib.hid (HB9.out.trans (hb.mono HB9.out.size)); clear hb HB9
  have hz : Below w10.heap.size w10 (w10.alloc (.cells #[.string ⟨#[78, 111, 45, 67, 97, 99, 104, 101, 44, 32, 109, 97, 120, 45, 97, 103, 101, 61, 53, 44, 32, 109, 97, 120, 45, 97, 103, 101, 61, 54]⟩] 9)) := (Below.refl _ _).alloc (Nat.le_refl _) _
  have hls := listD_any _ [[78, 111, 45, 67, 97, 99, 104, 101, 44, 32, 109, 97, 120, 45, 97, 103, 101, 61, 53, 44, 32, 109, 97, 120, 45, 97, 103, 101, 61, 54]] _ (HM.out.bel (HB10.out.trans (hz.mono HB10.out.size))) (SL_lits w10 [[78, 111, 45, 67, 97, 99, 104, 101, 44, 32, 109, 97, 120, 45, 97, 103, 101, 61, 53, 44, 32, 109, 97, 120, 45, 97, 103, 101, 61, 54]]) (fun y hy => by rw [List.mem_singleton.1 hy]; decide) (by decide)
  rw [three_is] at hls
  have HZ := Lib.hid hz; have HLS : Hid (Calls Try.prog 11 #[.slice (some ⟨w10.heap.size, 0, none⟩) 1 1] (w10.alloc (.cells #[.string ⟨#[78, 111, 45, 67, 97, 99, 104, 101, 44, 32, 109, 97, 120, 45, 97, 103, 101, 61, 53, 44, 32, 109, 97, 120, 45, 97, 103, 101, 61, 54]⟩] 9)) fun e w' => ∃ u, e = .returned u ∧ ownD w' (w10.alloc (.cells #[.string ⟨#[78, 111, 45, 67, 97, 99, 104, 101, 44, 32, 109, 97, 120, 45, 97, 103, 101, 61, 53, 44, 32, 109, 97, 120, 45, 97, 103, 101, 61, 54]⟩] 9)).heap.size u three ∧ Below (w10.alloc (.cells #[.string ⟨#[78, 111, 45, 67, 97, 99, 104, 101, 44, 32, 109, 97, 120, 45, 97, 103, 101, 61, 53, 44, 32, 109, 97, 120, 45, 97, 103, 101, 61, 54]⟩] 9)).heap.size (w10.alloc (.cells #[.string ⟨#[78, 111, 45, 67, 97, 99, 104, 101, 44, 32, 109, 97, 120, 45, 97, 103, 101, 61, 53, 44, 32, 109, 97, 120, 45, 97, 103, 101, 61, 54]⟩] 9)) w') := hls
  clear hz hls
  go_wp2_with fail
  refine HLS.out.mono ?_
  rintro e w11 ⟨u, rfl, ho, hb⟩
  have HD0 := Lib.hid ho.dl
  have hb' := HZ.out.trans (hb.mono HZ.out.size)
  have HB11 := Lib.hid (HB10.out.trans (hb'.mono HB10.out.size)); clear hb hb' HB10 HZ HLS ho
  obtain ⟨A, c, rfl⟩ := HD0.out.form
  have HD : Hid (DL w11 (.slice A 3 c) three) := HD0.out
  have h3 : three.length = 3 := rfl
  rw [h3]
  clear HD0 h3
  go_wp2_with fail
  refine (fk1 A c _ HD.out).mono ?_
  rintro e x0 ⟨rfl, hb⟩
  have hz : Below x0.heap.size x0 (x0.alloc (.cells #[.string ⟨#[109, 97, 120, 45, 97, 103, 101]⟩, .string ⟨#[53]⟩, .bool true, .string ⟨#[]⟩] 29)) := (Below.refl _ _).alloc (Nat.le_refl _) _
  have hb2 := hb.trans (hz.mono hb.size)
  have hn := dbk.new x0 #[.string ⟨#[109, 97, 120, 45, 97, 103, 101]⟩, .string ⟨#[53]⟩, .bool true, .string ⟨#[]⟩] 29
  have HB12 := Lib.hid (HB11.out.trans (hb2.mono HB11.out.size))
  have HD_0 := Lib.hid (HD.out.bel hb2)
  have HN0_0 := Lib.hid hn
  clear hb hz hb2 hn HB11 HD
  go_wp2_with fail
  refine (fk2 A c _ HD_0.out).mono ?_
  rintro e x1 ⟨rfl, hb⟩
  have hz : Below x1.heap.size x1 (x1.alloc (.cells #[.string ⟨#[]⟩, .string ⟨#[]⟩, .bool false, .string ⟨#[]⟩] 29)) := (Below.refl _ _).alloc (Nat.le_refl _) _
  have hb2 := hb.trans (hz.mono hb.size)
  have hn := dbk.new x1 #[.string ⟨#[]⟩, .string ⟨#[]⟩, .bool false, .string ⟨#[]⟩] 29
  have HB13 := Lib.hid (HB12.out.trans (hb2.mono HB12.out.size))
  have HD_1 := Lib.hid (HD_0.out.bel hb2)
  have HN0_1 := Lib.hid (HN0_0.out.below hb2)
  have HN1_1 := Lib.hid hn
  clear hb hz hb2 hn HB12 HD_0 HN0_0
  go_wp2_with fail
  refine (fk3 _).mono ?_
  rintro e x2 ⟨rfl, hb⟩
  have hz : Below x2.heap.size x2 (x2.alloc (.cells #[.string ⟨#[]⟩, .string ⟨#[]⟩, .bool false, .string ⟨#[]⟩] 29)) := (Below.refl _ _).alloc (Nat.le_refl _) _
  have hb2 := hb.trans (hz.mono hb.size)
  have hn := dbk.new x2 #[.string ⟨#[]⟩, .string ⟨#[]⟩, .bool false, .string ⟨#[]⟩] 29
  have HB14 := Lib.hid (HB13.out.trans (hb2.mono HB13.out.size))
  have HD_2 := Lib.hid (HD_1.out.bel hb2)
  have HN0_2 := Lib.hid (HN0_1.out.below hb2)
  have HN1_2 := Lib.hid (HN1_1.out.below hb2)
  have HN2_2 := Lib.hid hn
  clear hb hz hb2 hn HB13 HD_1 HN0_1 HN1_1
  have c00 := HN0_2.out.cell 0 (.string ⟨#[109, 97, 120, 45, 97, 103, 101]⟩) rfl
  have c01 := HN0_2.out.cell 1 (.string ⟨#[53]⟩) rfl
  have c02 := HN0_2.out.cell 2 (.bool true) rfl
  have c03 := HN0_2.out.cell 3 (.string ⟨#[]⟩) rfl
  have c10 := HN1_2.out.cell 0 (.string ⟨#[]⟩) rfl
  have c11 := HN1_2.out.cell 1 (.string ⟨#[]⟩) rfl
  have c12 := HN1_2.out.cell 2 (.bool false) rfl
  have c13 := HN1_2.out.cell 3 (.string ⟨#[]⟩) rfl
  have c20 := HN2_2.out.cell 0 (.string ⟨#[]⟩) rfl
  have c21 := HN2_2.out.cell 1 (.string ⟨#[]⟩) rfl
  have c22 := HN2_2.out.cell 2 (.bool false) rfl
  have c23 := HN2_2.out.cell 3 (.string ⟨#[]⟩) rfl
  have e5 := eql5
  have e0 := eql0
  go_wp2_with fail
  refine (awakeD_any _ (HM.out.bel HB14.out)).mono ?_
  rintro e y ⟨rfl, hb⟩
  have HBz := Lib.hid (HB14.out.trans (hb.mono HB14.out.size)); clear hb HB14
  go_wp2_with fail
  go_ret
  exact ⟨rfl, HBz.out⟩
end Go.Proofs.Ytfjikkaejhihkaa
