/- The walk of the statement FieldsKnown. -/
import Derived.Test.YtilaalfehnngcaaDoorHopC
import Derived.Test.YtilaalfehnngcaaDoorFieldsS
namespace Go.Proofs.YtilaalfehnngcaaDoor
open Go.RowKit

/-- the line 'A: b', and what it is -/
abbrev lineA : List UInt8 := [65, 58, 32, 98, 13, 10]
abbrev fA : Fld := ([65], [98])
theorem cut_lineA (r : List UInt8) : cutN (lineA ++ r) = ([65, 58, 32, 98], r, true) := by rfl
theorem repA_succ (n : Nat) : Lib.repeatL lineA (n + 1) = lineA ++ Lib.repeatL lineA n := rfl
theorem repA_go : ∀ (n : Nat) (out : List Fld), out.length + n ≤ 64 → parseW (Lib.repeatL lineA n) out = (out ++ List.replicate n fA, 0)
  | 0, out, _ => by rw [show Lib.repeatL lineA 0 = [] from rfl, parse_nil]; simp
  | n + 1, out, h => by
    rw [repA_succ, parse_go (c1 := [65, 58, 32, 98]) (c2 := Lib.repeatL lineA n) (f := fA) (cut_lineA _) (by omega) (by decide) (by decide) (by decide), repA_go n _ (by simp; omega)]
    simp [List.replicate_succ]
theorem rep64 : parseL (Lib.repeatL lineA 64) = (List.replicate 64 fA, 0) := by unfold parseL; rw [repA_go 64 [] (by simp)]; rfl
theorem repA_long (n m : Nat) : ∀ (out : List Fld), out.length + n = 64 → parseW (Lib.repeatL lineA (n + 1 + m)) out = ([], 3) := by
  induction n with
  | zero =>
    intro out h
    rw [show 0 + 1 + m = m + 1 from by omega, repA_succ, parseW_step out (by rw [cut_lineA]), cut_lineA]
    simp only
    rw [if_pos (.inl (by omega))]
  | succ n ih =>
    intro out h
    rw [show n + 1 + 1 + m = (n + 1 + m) + 1 from by omega, repA_succ, parse_go (c1 := [65, 58, 32, 98]) (c2 := Lib.repeatL lineA (n + 1 + m)) (f := fA) (cut_lineA _) (by omega) (by decide) (by decide) (by decide)]
    exact ih _ (by simp; omega)
theorem rep65 : parseL (Lib.repeatL lineA 65) = ([], 3) := repA_long 64 0 [] (by simp)
theorem repB : ∀ n : Nat, Lib.repeatL [98] n = List.replicate n 98
  | 0 => rfl
  | n + 1 => by rw [show Lib.repeatL [98] (n + 1) = [98] ++ Lib.repeatL [98] n from rfl, repB n, List.replicate_succ]; rfl
theorem repB_mem {n : Nat} {c : UInt8} (h : c ∈ Lib.repeatL [98] n) : c = 98 := by rw [repB] at h; exact (List.mem_replicate.1 h).2
theorem repB_len (n : Nat) : (Lib.repeatL [98] n).length = n := by rw [repB, List.length_replicate]
theorem ltrim_B (n : Nat) : ltrim (List.replicate n (98 : UInt8)) = List.replicate n 98 := by
  cases n with
  | zero => rfl
  | succ n => unfold ltrim; rw [List.replicate_succ, List.dropWhile_cons, if_neg (by decide)]
theorem trim_B (n : Nat) : trim (Lib.repeatL [98] n) = Lib.repeatL [98] n := by
  rw [repB]
  have h := ltrim_B n
  unfold trim
  rw [h]
  unfold rtrim ltrim at *
  rw [List.reverse_replicate, h, List.reverse_replicate]
theorem cutB (n : Nat) : cutN ([65, 58] ++ Lib.repeatL [98] n ++ [13, 10]) = ([65, 58] ++ Lib.repeatL [98] n, [], true) := by
  refine cutN_of (a := [65, 58] ++ Lib.repeatL [98] n) (r := []) fun c hc => ?_
  rcases List.mem_append.1 hc with h | h
  · intro e; subst e; exact absurd h (by decide)
  · rw [repB_mem h]; decide
theorem cutCB (n : Nat) : Lib.cut ([65, 58] ++ Lib.repeatL [98] n) [58] = ([65], Lib.repeatL [98] n, true) := cutC_of (a := [65]) (r := Lib.repeatL [98] n) (by decide)
theorem oneF_B (n : Nat) : oneF ([65, 58] ++ Lib.repeatL [98] n) = ([65], Lib.repeatL [98] n) := by
  unfold oneF; rw [cutCB]; simp only; rw [trim_B]
theorem oneE_B (n : Nat) : oneE ([65, 58] ++ Lib.repeatL [98] n) = if 2045 < n then 3 else 0 := by
  have hv : valV (Lib.repeatL [98] n) = true := by
    unfold valV
    rw [trim_B, beq_self_eq_true, Bool.and_true]
    exact List.all_eq_true.2 fun c hc => by rw [repB_mem hc]; decide
  have hm : mayF ([65], Lib.repeatL [98] n) = true := by
    unfold mayF; simp only; rw [hv]; decide
  have hl : lenF ([65], Lib.repeatL [98] n) = 3 + n := by unfold lenF; simp only; rw [repB_len]; rfl
  unfold oneE
  rw [oneF_B, cutCB]
  simp only [if_true]
  unfold chkF longF
  rw [hm, hl]
  by_cases h : 2045 < n
  · rw [if_pos rfl, decide_eq_true (by omega), if_pos rfl, if_pos h]
  · rw [if_pos rfl, decide_eq_false (by omega), if_neg h]; rfl
theorem lenB (n : Nat) : ([65, 58] ++ Lib.repeatL [98] n).length = n + 2 := by rw [List.length_append, repB_len]; simp; omega
theorem p2046 : parseL ([65, 58] ++ Lib.repeatL [98] 2046 ++ [13, 10]) = ([], 3) := by
  unfold parseL
  exact parse_bad (cutB 2046) (by simp) (by rw [lenB]; omega) (by rw [oneE_B]; rfl) (by decide)
theorem p2045 : parseL ([65, 58] ++ Lib.repeatL [98] 2045 ++ [13, 10]) = ([([65], Lib.repeatL [98] 2045)], 0) := by
  unfold parseL
  rw [parse_go (cutB 2045) (by simp) (by rw [lenB]; omega) (by rw [oneE_B]; rfl) (oneF_B 2045), parse_nil]
  rfl
theorem p_nil : parseL [] = ([], 0) := by unfold parseL; rw [parse_nil]
theorem p_one : parseL lineA = ([fA], 0) := by
  unfold parseL
  rw [parse_go (c1 := [65, 58, 32, 98]) (c2 := []) (f := fA) (by decide) (by decide) (by decide) (by decide) (by decide), parse_nil]; rfl
theorem p_empty : parseL [65, 58, 13, 10] = ([([65], [])], 0) := by
  unfold parseL
  rw [parse_go (c1 := [65, 58]) (c2 := []) (f := ([65], [])) (by decide) (by decide) (by decide) (by decide) (by decide), parse_nil]; rfl
theorem p_f1 : parseL [58, 32, 98, 13, 10] = ([], 4) := by unfold parseL; exact parse_bad (c1 := [58, 32, 98]) (c2 := []) (by decide) (by decide) (by decide) (by decide) (by decide)
theorem p_f2 : parseL [65, 32, 98, 13, 10] = ([], 4) := by unfold parseL; exact parse_bad (c1 := [65, 32, 98]) (c2 := []) (by decide) (by decide) (by decide) (by decide) (by decide)
theorem p_f3 : parseL [65, 58, 32, 98] = ([], 4) := by
  unfold parseL parseW
  rw [dif_neg (by decide), if_neg (by decide)]
theorem p_f4 : parseL [32, 65, 58, 32, 98, 13, 10] = ([], 4) := by unfold parseL; exact parse_bad (c1 := [32, 65, 58, 32, 98]) (c2 := []) (by decide) (by decide) (by decide) (by decide) (by decide)
theorem p_f5 : parseL [65, 58, 32, 98, 10, 13, 10] = ([], 4) := by unfold parseL; exact parse_bad (c1 := [65, 58, 32, 98, 10]) (c2 := []) (by decide) (by decide) (by decide) (by decide) (by decide)

/-- two texts in a slice of their own -/
theorem SL_lit2 (w : World) (x y : ByteArray) : SL (w.alloc (.cells #[.string x, .string y] 9)) (.slice (some ⟨w.heap.size, 0, none⟩) 2 2) [x.data.toList, y.data.toList] := by
  refine .inr ⟨w.heap.size, 0, 2, rfl, by simp, fun j hj => ?_⟩
  have hh := heap_alloc_new w (.cells #[.string x, .string y] 9)
  rw [cell_of_row _ w.heap.size (0 + j) _ _ _ hh, Nat.zero_add]
  match j, hj with
  | 0, _ => rfl
  | 1, _ => rfl
def okK (w0 : World) (e : Ending) (w' : World) : Prop := e = .returned (.bool true) ∧ Below w0.heap.size w0 w'
theorem readsK {w0 w : World} (hm : MaxL w0) (hb : Below w0.heap.size w0 w) (b x y : ByteArray) (s : List UInt8) (hs : b = bs s) (hl : s.length ≤ 1048576) (hp : parseL s = ([(x.data.toList, y.data.toList)], 0)) :
    Calls Tryd.prog 16 #[.string b, .slice (some ⟨w.heap.size, 0, none⟩) 2 2] (w.alloc (.cells #[.string x, .string y] 9)) (okK w0) := by
  subst hs
  have hal := hb.alloc hb.size (.cells #[.string x, .string y] 9)
  exact (reads_any s _ _ _ (hm.bel hal (Nat.le_refl _)) hl hp (SL_lit2 w x y) (by simp)).mono fun e w' ⟨he, h⟩ => ⟨he, hal.trans (h.mono hal.size)⟩
theorem reads0 {w0 w : World} (hm : MaxL w0) (hb : Below w0.heap.size w0 w) : Calls Tryd.prog 16 #[.string ⟨#[]⟩, .slice none 0 0] w (okK w0) :=
  (reads_any [] _ [] _ (hm.bel hb (Nat.le_refl _)) (by simp) p_nil (SL_nil w) (by simp)).mono fun _ _ ⟨he, h⟩ => ⟨he, hb.trans (h.mono hb.size)⟩
theorem failsK {w0 w : World} (hm : MaxL w0) (hb : Below w0.heap.size w0 w) (b : ByteArray) (E : Int) (s : List UInt8) (hs : b = bs s) (hl : s.length ≤ 1048576) (hp : parseL s = ([], E)) :
    Calls Tryd.prog 17 #[.string b, .int .i64 E] w (okK w0) := by
  subst hs
  exact (fails_any s E _ (hm.bel hb (Nat.le_refl _)) hl hp).mono fun e w' ⟨he, h⟩ => ⟨he, hb.trans (h.mono hb.size)⟩
theorem worksK {w0 w : World} (hm : MaxL w0) (hb : Below w0.heap.size w0 w) : Calls Tryd.prog 7 #[] w (okK w0) := worksL hm w hb
theorem repK {w0 w : World} (hb : Below w0.heap.size w0 w) (s : List UInt8) (c : Nat) (hc : c ≤ 4096) (hs : s.length ≤ 8) :
    Calls Tryd.prog 19 #[.string (bs s), .int .i64 c] w fun e w' => e = .returned (.string (bs (Lib.repeatL s c))) ∧ Below w0.heap.size w0 w' := by
  have h := Tryd.strings_Repeat (bs s) c w (by omega) (by rw [bs_size]; exact Nat.le_trans (Nat.mul_le_mul hs hc) (by decide))
  rw [bs_data] at h
  exact h.mono fun e w' ⟨he, h⟩ => ⟨he, hb.trans (h.mono hb.size)⟩
theorem glue (x y z : List UInt8) : bs x ++ bs y ++ bs z = bs (x ++ y ++ z) := by rw [bs_append, bs_append]

/-- the three fields that name hops -/
def hopsK : List Fld := [([67, 111, 110, 110, 101, 99, 116, 105, 111, 110], [67, 108, 111, 115, 101, 44, 32, 88, 45, 65, 44, 32, 34, 98, 34, 44, 32, 116, 101, 44, 32, 40, 99, 41]), ([120, 45, 97], [49]), ([89], [50])]
theorem hopsK_hop : hopL hopsK = nine ++ [[99, 108, 111, 115, 101], [120, 45, 97]] := of_decide_eq_true (by kernel_rfl)
theorem hopsK_clean : putL (cleanL hopsK) = [89, 58, 32, 50, 13, 10] := of_decide_eq_true (by kernel_rfl)
theorem FL_hops (w : World) : FL (w.alloc (.cells (fcs hopsK).toArray 44)) (.slice (some ⟨w.heap.size, 0, none⟩) 3 3) hopsK := by
  refine .inr ⟨w.heap.size, 0, 3, rfl, by simp, fun j hj => ?_⟩
  have hh := heap_alloc_new w (.cells (fcs hopsK).toArray 44)
  rw [Nat.zero_add]
  obtain ⟨f1, f2⟩ := fcs_at hopsK j hj
  have e1 := cell_of_row _ w.heap.size (j * 2) _ _ _ hh
  have e2 := cell_of_row _ w.heap.size (j * 2 + 1) _ _ _ hh
  rw [List.getElem?_toArray] at e1 e2
  exact ⟨e1.trans f1, e2.trans f2⟩
theorem FL_one (w : World) (x y : List UInt8) : FL (w.alloc (.cells #[.string (bs x), .string (bs y)] 44)) (.slice (some ⟨w.heap.size, 0, none⟩) 1 1) [(x, y)] := by
  refine .inr ⟨w.heap.size, 0, 1, rfl, by simp, fun j hj => ?_⟩
  have : j = 0 := by simpa using hj
  subst this
  have h := oneF2.new w (.string (bs x)) (.string (bs y))
  exact ⟨h.cells.1, h.cells.2.1⟩
theorem smallF_clean {l : List Fld} (h : smallF l) : smallF (cleanL l) := smallF_filter h _
theorem clean_few (l : List Fld) (h : l.length ≤ 4294967296) : (cleanL l).length ≤ 4294967296 := Nat.le_trans (del_le l (hopL l)) h
theorem someS : smallF someL := (few_small (l := someL) (by decide)).2.2
theorem hopsS : smallF hopsK := (few_small (l := hopsK) (of_decide_eq_true (by kernel_rfl))).2.2

set_option maxHeartbeats 8000000 in
set_option maxRecDepth 100000 in
theorem fieldsKnown_any (w : World) (hm : MaxL w) (ht : Spc w) :
    Calls Tryd.prog 5 #[] w fun e w' => e = .returned (.bool true) ∧ Below w.heap.size w w' := by
  have HM : Hid (MaxL w) := hm
  have HSp : Hid (∀ w', Below w.heap.size w w' → Spc w') := fun w' hb => ht.bel hb
  have HB0 : Hid (Below w.heap.size w w) := Below.refl _ _
  clear hm ht
  go_enter Tryd.func5, Tryd.ntmps5
  go_wp2_with fail
  refine (worksK HM.out HB0.out).mono ?_
  rintro e w1 ⟨rfl, hb⟩
  have HB1 := Lib.hid hb; clear hb HB0
  go_wp2_with fail
  refine (reads0 HM.out HB1.out).mono ?_
  rintro e w2 ⟨rfl, hb⟩
  have HB2 := Lib.hid hb; clear hb HB1
  go_wp2_with fail
  refine (readsK HM.out HB2.out _ _ _ lineA rfl (by decide) p_one).mono ?_
  rintro e w3 ⟨rfl, hb⟩
  have HB3 := Lib.hid hb; clear hb HB2
  go_wp2_with fail
  refine (readsK HM.out HB3.out _ _ _ [65, 58, 13, 10] rfl (by decide) p_empty).mono ?_
  rintro e w4 ⟨rfl, hb⟩
  have HB4 := Lib.hid hb; clear hb HB3
  go_wp2_with fail
  refine (failsK HM.out HB4.out _ _ [58, 32, 98, 13, 10] rfl (by decide) p_f1).mono ?_
  rintro e w5 ⟨rfl, hb⟩
  have HB5 := Lib.hid hb; clear hb HB4
  go_wp2_with fail
  refine (failsK HM.out HB5.out _ _ [65, 32, 98, 13, 10] rfl (by decide) p_f2).mono ?_
  rintro e w6 ⟨rfl, hb⟩
  have HB6 := Lib.hid hb; clear hb HB5
  go_wp2_with fail
  refine (failsK HM.out HB6.out _ _ [65, 58, 32, 98] rfl (by decide) p_f3).mono ?_
  rintro e w7 ⟨rfl, hb⟩
  have HB7 := Lib.hid hb; clear hb HB6
  go_wp2_with fail
  refine (failsK HM.out HB7.out _ _ [32, 65, 58, 32, 98, 13, 10] rfl (by decide) p_f4).mono ?_
  rintro e w8 ⟨rfl, hb⟩
  have HB8 := Lib.hid hb; clear hb HB7
  go_wp2_with fail
  refine (failsK HM.out HB8.out _ _ [65, 58, 32, 98, 10, 13, 10] rfl (by decide) p_f5).mono ?_
  rintro e w9 ⟨rfl, hb⟩
  have HB9 := Lib.hid hb; clear hb HB8
  go_wp2_with fail
  refine (repK HB9.out lineA 64 (by omega) (by decide)).mono ?_
  rintro e w10 ⟨rfl, hb⟩
  have HB10 := Lib.hid hb; clear hb HB9
  go_wp2_with fail
  refine (parse_any (Lib.repeatL lineA 64) _ (HM.out.bel HB10.out (Nat.le_refl _)) (of_decide_eq_true (by kernel_rfl))).mono ?_
  rw [rep64]
  rintro e w11 ⟨v11, rfl, ho, hb⟩
  have HB11 := Lib.hid (HB10.out.trans (hb.mono HB10.out.size))
  obtain ⟨A11, c11, rfl⟩ : ∃ a c, v11 = .slice a 64 c := ho.form
  clear hb ho HB10
  go_wp2_with fail
  refine (repK HB11.out lineA 65 (by omega) (by decide)).mono ?_
  rintro e w12 ⟨rfl, hb⟩
  have HB12 := Lib.hid hb; clear hb HB11
  go_wp2_with fail
  refine (failsK HM.out HB12.out _ _ (Lib.repeatL lineA 65) rfl (of_decide_eq_true (by kernel_rfl)) rep65).mono ?_
  rintro e w13 ⟨rfl, hb⟩
  have HB13 := Lib.hid hb; clear hb HB12
  go_wp2_with fail
  refine (repK HB13.out [98] 2046 (by omega) (by decide)).mono ?_
  rintro e w14 ⟨rfl, hb⟩
  have HB14 := Lib.hid hb; clear hb HB13
  go_wp2_with fail
  refine (failsK HM.out HB14.out _ _ ([65, 58] ++ Lib.repeatL [98] 2046 ++ [13, 10]) (glue [65, 58] _ [13, 10]) (of_decide_eq_true (by kernel_rfl)) p2046).mono ?_
  rintro e w15 ⟨rfl, hb⟩
  have HB15 := Lib.hid hb; clear hb HB14
  go_wp2_with fail
  refine (repK HB15.out [98] 2045 (by omega) (by decide)).mono ?_
  rintro e w16 ⟨rfl, hb⟩
  have HB16 := Lib.hid hb; clear hb HB15
  go_wp2_with fail
  refine (repK HB16.out [98] 2045 (by omega) (by decide)).mono ?_
  rintro e w17 ⟨rfl, hb⟩
  have HB17 := Lib.hid hb; clear hb HB16
  go_wp2_with fail
  refine (readsK HM.out HB17.out _ _ _ ([65, 58] ++ Lib.repeatL [98] 2045 ++ [13, 10]) (glue [65, 58] _ [13, 10]) (of_decide_eq_true (by kernel_rfl)) p2045).mono ?_
  rintro e w18 ⟨rfl, hb⟩
  have HB18 := Lib.hid hb; clear hb HB17
  go_wp2_with fail
  refine (some_any _).mono ?_
  rintro e w19 ⟨v19, rfl, ho, hb⟩
  have HO19 := Lib.hid ho
  have HB19 := Lib.hid (HB18.out.trans (hb.mono HB18.out.size))
  clear hb ho HB18
  go_wp2_with fail
  refine (values_any _ someL [65] _ HO19.out someS (by decide) (by decide)).mono ?_
  rw [show valsL someL [65] = [[98], [99]] from by decide]
  rintro e w20 ⟨v20, rfl, ho, hb⟩
  have HB20 := Lib.hid (HB19.out.trans (hb.mono HB19.out.size))
  have HO20 := Lib.hid ho.sl
  clear hb ho HB19 HO19
  go_wp2_with fail
  refine (sameT_any _ _ _ [[98], [99]] _ (HO20.out.bel ((Below.refl _ _).alloc (Nat.le_refl _) _)) (SL_lit2 w20 ⟨#[98]⟩ ⟨#[99]⟩) (by decide)).mono ?_
  rw [beq_self_eq_true]
  rintro e w21 ⟨rfl, hb⟩
  have HB21 : Hid (Below w.heap.size w w21) := (HB20.out.alloc HB20.out.size _).trans (hb.mono (by have := HB20.out.size; simp; omega))
  clear hb HB20 HO20
  go_wp2_with fail
  refine (some_any _).mono ?_
  rintro e w22 ⟨v22, rfl, ho, hb⟩
  have HO22 := Lib.hid ho
  have HB22 := Lib.hid (HB21.out.trans (hb.mono HB21.out.size))
  clear hb ho HB21
  go_wp2_with fail
  refine (set_any _ someL [97] [110] _ HO22.out someS (by decide) (by decide) (by decide)).mono ?_
  rw [show setL someL [97] [110] = [([65], [110]), ([120], [121])] from by decide]
  rintro e w23 ⟨v23, rfl, ho, hb⟩
  have HB23 := Lib.hid (HB22.out.trans (hb.mono HB22.out.size))
  have HO23 := Lib.hid ho.fl
  clear hb ho HB22 HO22
  go_wp2_with fail
  refine (put_any _ [([65], [110]), ([120], [121])] _ HO23.out (few_small (l := [([65], [110]), ([120], [121])]) (by decide)).2.2 (by decide)).mono ?_
  rw [show putL [([65], [110]), ([120], [121])] = [65, 58, 32, 110, 13, 10, 120, 58, 32, 121, 13, 10] from of_decide_eq_true (by kernel_rfl), show bs [65, 58, 32, 110, 13, 10, 120, 58, 32, 121, 13, 10] = ⟨#[65, 58, 32, 110, 13, 10, 120, 58, 32, 121, 13, 10]⟩ from rfl]
  rintro e w24 ⟨rfl, hb⟩
  have HB24 := Lib.hid (HB23.out.trans (hb.mono HB23.out.size))
  clear hb HB23 HO23
  go_wp2_with fail
  refine (some_any _).mono ?_
  rintro e w25 ⟨v25, rfl, ho, hb⟩
  have HO25 := Lib.hid ho
  have HB25 := Lib.hid (HB24.out.trans (hb.mono HB24.out.size))
  clear hb ho HB24
  go_wp2_with fail
  refine (set_any _ someL [122] [110] _ HO25.out someS (by decide) (by decide) (by decide)).mono ?_
  rw [show setL someL [122] [110] = [([65], [98]), ([120], [121]), ([97], [99]), ([122], [110])] from by decide]
  rintro e w26 ⟨v26, rfl, ho, hb⟩
  have HB26 := Lib.hid (HB25.out.trans (hb.mono HB25.out.size))
  have HO26 := Lib.hid ho.fl
  clear hb ho HB25 HO25
  go_wp2_with fail
  refine (put_any _ [([65], [98]), ([120], [121]), ([97], [99]), ([122], [110])] _ HO26.out (few_small (l := [([65], [98]), ([120], [121]), ([97], [99]), ([122], [110])]) (by decide)).2.2 (by decide)).mono ?_
  rw [show putL [([65], [98]), ([120], [121]), ([97], [99]), ([122], [110])] = [65, 58, 32, 98, 13, 10, 120, 58, 32, 121, 13, 10, 97, 58, 32, 99, 13, 10, 122, 58, 32, 110, 13, 10] from of_decide_eq_true (by kernel_rfl), show bs [65, 58, 32, 98, 13, 10, 120, 58, 32, 121, 13, 10, 97, 58, 32, 99, 13, 10, 122, 58, 32, 110, 13, 10] = ⟨#[65, 58, 32, 98, 13, 10, 120, 58, 32, 121, 13, 10, 97, 58, 32, 99, 13, 10, 122, 58, 32, 110, 13, 10]⟩ from rfl]
  rintro e w27 ⟨rfl, hb⟩
  have HB27 := Lib.hid (HB26.out.trans (hb.mono HB26.out.size))
  clear hb HB26 HO26
  go_wp2_with fail
  refine (some_any _).mono ?_
  rintro e w28 ⟨v28, rfl, ho, hb⟩
  have HO28 := Lib.hid ho
  have HB28 := Lib.hid (HB27.out.trans (hb.mono HB27.out.size))
  clear hb ho HB27
  go_wp2_with fail
  refine (del_any _ _ someL [[65], [88]] _ (HO28.out.bel ((Below.refl _ _).alloc (Nat.le_refl _) _)) (SL_lit2 w28 ⟨#[65]⟩ ⟨#[88]⟩) someS (by decide) (by decide) (by decide)).mono ?_
  rw [show delL someL [[65], [88]] = [] from by decide]
  rintro e w29 ⟨v29, rfl, ho, hb⟩
  have HB29 : Hid (Below w.heap.size w w29) := (HB28.out.alloc HB28.out.size _).trans (hb.mono (by have := HB28.out.size; simp; omega))
  obtain ⟨A29, c29, rfl⟩ : ∃ a c, v29 = .slice a 0 c := ho.form
  clear hb ho HB28 HO28
  go_wp2_with fail
  refine (some_any _).mono ?_
  rintro e w30 ⟨v30, rfl, ho, hb⟩
  have HO30 := Lib.hid ho
  have HB30 := Lib.hid (HB29.out.trans (hb.mono HB29.out.size))
  clear hb ho HB29
  go_wp2_with fail
  refine (get_any _ someL [122] _ HO30.out someS (by decide) (by decide) (by decide)).mono ?_
  rw [show hasF someL [122] = false from by decide]
  rintro e w31 ⟨rfl, hb⟩
  have HB31 := Lib.hid (HB30.out.trans (hb.mono HB30.out.size))
  clear hb HB30 HO30
  go_wp2_with fail
  refine (hop_any _ hopsK _ (FL_hops w31) hopsS (by decide) (by decide) (HSp.out _ (HB31.out.alloc HB31.out.size _))).mono ?_
  rw [hopsK_hop]
  rintro e w32 ⟨v32, rfl, ho, hb⟩
  have HL32 : Hid (FL w32 (.slice (some ⟨w31.heap.size, 0, none⟩) 3 3) hopsK) := (FL_hops w31).bel hb
  have HB32 : Hid (Below w.heap.size w w32) := (HB31.out.alloc HB31.out.size _).trans (hb.mono (by have := HB31.out.size; simp; omega))
  have HS32 := Lib.hid ho.sl
  obtain ⟨A32, c32, rfl⟩ : ∃ a c, v32 = .slice a 11 c := ho.form
  obtain ⟨b, off, rfl, _, r0⟩ := HS32.out.get 0 (by decide)
  have r8 := HS32.out.cellAt 8 (by decide)
  have r9 := HS32.out.cellAt 9 (by decide)
  have r10 := HS32.out.cellAt 10 (by decide)
  skip
  replace r0 : w32.cell? ⟨b, off + 0, none⟩ = some (.string ⟨#[99, 111, 110, 110, 101, 99, 116, 105, 111, 110]⟩) := r0
  replace r8 : w32.cell? ⟨b, off + 8, none⟩ = some (.string ⟨#[112, 114, 111, 120, 121, 45, 97, 117, 116, 104, 111, 114, 105, 122, 97, 116, 105, 111, 110]⟩) := r8
  replace r9 : w32.cell? ⟨b, off + 9, none⟩ = some (.string ⟨#[99, 108, 111, 115, 101]⟩) := r9
  replace r10 : w32.cell? ⟨b, off + 10, none⟩ = some (.string ⟨#[120, 45, 97]⟩) := r10
  rw [Nat.add_zero] at r0
  clear hb ho HB31
  go_wp2_with fail
  refine (clean_any _ hopsK _ HL32.out hopsS (by decide) (by decide) (HSp.out _ HB32.out)).mono ?_
  rintro e w33 ⟨v33, rfl, ho, hb⟩
  have HB33 := Lib.hid (HB32.out.trans (hb.mono HB32.out.size))
  have HO33 := Lib.hid ho.fl
  clear hb ho HB32 r0 r8 r9 r10 HL32 HS32
  go_wp2_with fail
  refine (put_any _ (cleanL hopsK) _ HO33.out (smallF_clean hopsS) (clean_few hopsK (by decide))).mono ?_
  rw [hopsK_clean, show bs [89, 58, 32, 50, 13, 10] = ⟨#[89, 58, 32, 50, 13, 10]⟩ from rfl]
  rintro e w34 ⟨rfl, hb⟩
  have HB34 := Lib.hid (HB33.out.trans (hb.mono HB33.out.size))
  clear hb HB33 HO33
  go_wp2_with fail
  refine (check_any _ [([65], [32, 98])] _ (FL_one w34 [65] [32, 98]) (few_small (l := [([65], [32, 98])]) (by decide)).2.2 (by decide)).mono ?_
  rw [show checkL [([65], [32, 98])] = 4 from by decide]
  rintro e w35 ⟨rfl, hb⟩
  have HB35 : Hid (Below w.heap.size w w35) := (HB34.out.alloc HB34.out.size _).trans (hb.mono (by have := HB34.out.size; simp; omega))
  clear hb HB34
  go_wp2_with fail
  refine (put_any _ [([], [])] _ (FL_one w35 [] []) (few_small (l := [([], [])]) (by decide)).2.2 (by decide)).mono ?_
  rw [show putL [([], [])] = [] from by decide, show bs ([] : List UInt8) = ⟨#[]⟩ from rfl]
  rintro e w36 ⟨rfl, hb⟩
  have HB36 : Hid (Below w.heap.size w w36) := (HB35.out.alloc HB35.out.size _).trans (hb.mono (by have := HB35.out.size; simp; omega))
  clear hb HB35
  go_wp2_with fail
  refine (worksK HM.out HB36.out).mono ?_
  rintro e w37 ⟨rfl, hb⟩
  go_wp2_with fail
  go_ret
  exact ⟨rfl, hb⟩
end Go.Proofs.YtilaalfehnngcaaDoor
