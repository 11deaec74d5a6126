/- The chapter's examples: the statement's own walk. -/
import Derived.Test.YtigaghdalecdlaaDoorUriS
import Derived.Test.YtigaghdalecdlaaDoorUriK
import Derived.Test.YtigaghdalecdlaaDoorUri5
import Derived.Test.YtigaghdalecdlaaDoorGrow3
namespace Go.Proofs.YtigaghdalecdlaaDoor
open Go.RowKit

theorem path_len (j : Nat) : (pathL.getD j []).length ≤ 1000 := by
  have h : (pathL.all fun x => decide (x.length ≤ 1000)) = true := by kernel_rfl
  rw [List.getD_eq_getElem?_getD]
  cases hx : pathL[j]? with
  | none => simp
  | some x => exact of_decide_eq_true (List.all_eq_true.1 h x (List.mem_of_getElem? hx))
theorem drewK (w : World) : Below w.heap.size w w.drew := by
  have h := Below.refl w.heap.size w
  exact ⟨h.os, h.tape, h.output, h.size, h.block⟩
theorem rowU.below {w w' : World} {b : Nat} {C : List (List UInt8)} (h : rowU w b C) (hb : Below w.heap.size w w') : rowU w' b C := h.keep (hb.block b h.lt)
set_option maxHeartbeats 1000000 in
set_option maxRecDepth 100000 in
theorem normal_yes (s m : List UInt8) (w : World) (he : EnvU w) (h : (parseU s).1.normal.put = m) (h1 : (parseU s).1.normal.sc.length + (parseU s).1.normal.ho.length + (parseU s).1.normal.pa.length + (parseU s).1.normal.qu.length ≤ 1000) (h2 : 0 ≤ (parseU s).1.normal.po ∧ (parseU s).1.normal.po ≤ 65535) :
    Calls Tryd.prog 14 #[.string (bs s)] w fun r w' => r = .returned (.string (bs m)) ∧ Below w.heap.size w w' := by
  have hk := parse_okW s
  have hk2 : (parseU s).1.normal.okW := ⟨by omega, by omega, by omega⟩
  have HP := Lib.hid (parse_any s w he)
  have HN := Lib.hid (fun W (hb : EnvU W) => normal_any (parseU s).1 W hb hk)
  have HT := Lib.hid (fun W (hb : EnvU W) => uriPut_any (parseU s).1.normal W hb hk2)
  rw [h] at HT
  have HE := Lib.hid he
  clear he hk hk2 h h1 h2
  generalize (parseU s).1.normal = N at *
  generalize parseU s = Q at *
  obtain ⟨⟨sc, ho, po, pa, qu, hq⟩, e⟩ := Q
  obtain ⟨nsc, nho, npo, npa, nqu, nhq⟩ := N
  unfold RetU at HP
  simp only at HP HN HT
  go_enter Tryd.func14, Tryd.ntmps14
  go_wp2_with fail
  refine HP.out.mono ?_
  rintro r w1 ⟨rfl, hb1⟩
  have HB1 := Lib.hid hb1; clear HP
  have hal : Below w1.heap.size w1 (w1.alloc (.cells #[.string (bs sc), .string (bs ho), .int .i64 po, .string (bs pa), .string (bs qu), .bool hq] 24)) := (Below.refl _ _).alloc (Nat.le_refl _) _
  have HB2 := Lib.hid (hb1.trans (hal.mono hb1.size)); clear hal hb1
  have hN := ubk.new w1 #[.string (bs sc), .string (bs ho), .int .i64 po, .string (bs pa), .string (bs qu), .bool hq] 24
  have c0 := hN.cell 0 (.string (bs sc)) rfl
  have c1 := hN.cell 1 (.string (bs ho)) rfl
  have c2 := hN.cell 2 (.int .i64 po) rfl
  have c3 := hN.cell 3 (.string (bs pa)) rfl
  have c4 := hN.cell 4 (.string (bs qu)) rfl
  have c5 := hN.cell 5 (.bool hq) rfl
  clear hN
  go_wp2_with fail
  refine (HN.out _ (HE.out.bel HB2.out)).mono ?_
  rintro r w3 ⟨rfl, hb3⟩
  have HB3 := Lib.hid (HB2.out.trans (hb3.mono HB2.out.size)); clear hb3
  go_wp2_with fail
  refine (HT.out _ (HE.out.bel HB3.out)).mono ?_
  rintro r w4 ⟨rfl, hb4⟩
  have HB4 := Lib.hid (HB3.out.trans (hb4.mono HB3.out.size)); clear hb4
  go_wp2_with fail
  go_ret
  exact ⟨rfl, HB4.out⟩
set_option maxHeartbeats 8000000 in
set_option maxRecDepth 100000 in
theorem uriKnown_law (w : World) (hm : MaxU w) (hl0 : Env w) :
    Calls Tryd.prog 5 #[] w fun e w' => e = .returned (.bool true) ∧ Below w.heap.size w w' := by
  have HE : Hid (EnvU w) := ⟨hm, hl0⟩
  clear hm hl0
  have BAD := Lib.hid bad_parse
  have K1 : Hid (∀ W, EnvU W → Calls Tryd.prog 8 #[.string (bs [104, 116, 116, 112, 115, 58, 47, 47, 97])] W fun e w' => e = .returned (.tuple #[.agg #[.string ⟨#[104, 116, 116, 112, 115]⟩, .string ⟨#[97]⟩, .int .i64 0, .string ⟨#[47]⟩, .string ⟨#[]⟩, .bool false], .int .i64 0]) ∧ Below W.heap.size W w') := fun W hb => by
    have h := parse_any [104, 116, 116, 112, 115, 58, 47, 47, 97] W hb
    rw [kn1] at h
    exact h
  have K2 : Hid (∀ W, EnvU W → Calls Tryd.prog 8 #[.string (bs [104, 116, 116, 112, 58, 47, 47, 97, 63])] W fun e w' => e = .returned (.tuple #[.agg #[.string ⟨#[104, 116, 116, 112]⟩, .string ⟨#[97]⟩, .int .i64 0, .string ⟨#[47]⟩, .string ⟨#[]⟩, .bool true], .int .i64 0]) ∧ Below W.heap.size W w') := fun W hb => by
    have h := parse_any [104, 116, 116, 112, 58, 47, 47, 97, 63] W hb
    rw [kn2] at h
    exact h
  have hX : (⟨(List.replicate 1015 (120 : UInt8)).toArray⟩ : ByteArray).data.toList = List.replicate 1015 120 := by simp
  have hXz : (⟨(List.replicate 1015 (120 : UInt8)).toArray⟩ : ByteArray).size = 1015 := by rw [size_len, hX, List.length_replicate]
  have REP : Hid (∀ W, Calls Tryd.prog 15 #[.string ⟨#[120]⟩, .int .i64 1015] W fun e w' => e = .returned (.string ⟨(List.replicate 1015 (120 : UInt8)).toArray⟩) ∧ Below W.heap.size W w') := fun W => by
    have h := Tryd.strings_Repeat (⟨#[120]⟩ : ByteArray) 1015 W (by decide) (by decide)
    have e : Lib.repeatL (⟨#[120]⟩ : ByteArray).data.toList 1015 = List.replicate 1015 120 := by kernel_rfl
    rw [e] at h
    exact h
  generalize (⟨(List.replicate 1015 (120 : UInt8)).toArray⟩ : ByteArray) = X at *
  have eA : ⟨#[104, 116, 116, 112, 58, 47, 47, 97, 47]⟩ ++ X = bs longA := bs_of (by rw [ByteArray.data_append, Array.toList_append, hX]; rfl)
  have eB : ⟨#[104, 116, 116, 112, 58, 47, 47, 97, 47]⟩ ++ X ++ ⟨#[120]⟩ = bs (longA ++ [120]) := bs_of (by rw [eA, ByteArray.data_append, Array.toList_append, bs_data])
  have eC : ⟨#[104, 116, 116, 112, 58, 47, 47, 97, 63]⟩ ++ X = bs longC := bs_of (by rw [ByteArray.data_append, Array.toList_append, hX]; rfl)
  have KA : Hid (∀ W, EnvU W → Calls Tryd.prog 8 #[.string (⟨#[104, 116, 116, 112, 58, 47, 47, 97, 47]⟩ ++ X)] W fun e w' => e = .returned (.tuple #[.agg #[.string (bs (parseU longA).1.sc), .string (bs (parseU longA).1.ho), .int .i64 (parseU longA).1.po, .string (bs (parseU longA).1.pa), .string (bs (parseU longA).1.qu), .bool (parseU longA).1.hq], .int .i64 0]) ∧ Below W.heap.size W w') := fun W hb => by
    have h := parse_any longA W hb
    unfold RetU at h
    rw [of_decide_eq_true la0, ← eA] at h
    exact h
  generalize (parseU longA).1 = qa at *
  have KB : Hid (∀ W, EnvU W → Calls Tryd.prog 8 #[.string (⟨#[104, 116, 116, 112, 58, 47, 47, 97, 47]⟩ ++ X ++ ⟨#[120]⟩)] W fun e w' => e = .returned (.tuple #[.agg #[.string (bs (parseU (longA ++ [120])).1.sc), .string (bs (parseU (longA ++ [120])).1.ho), .int .i64 (parseU (longA ++ [120])).1.po, .string (bs (parseU (longA ++ [120])).1.pa), .string (bs (parseU (longA ++ [120])).1.qu), .bool (parseU (longA ++ [120])).1.hq], .int .i64 3]) ∧ Below W.heap.size W w') := fun W hb => by
    have h := parse_any (longA ++ [120]) W hb
    unfold RetU at h
    rw [of_decide_eq_true lb0, ← eB] at h
    exact h
  generalize (parseU (longA ++ [120])).1 = qb at *
  have KC : Hid (∀ W, EnvU W → Calls Tryd.prog 8 #[.string (⟨#[104, 116, 116, 112, 58, 47, 47, 97, 63]⟩ ++ X)] W fun e w' => e = .returned (.tuple #[.agg #[.string (bs (parseU longC).1.sc), .string (bs (parseU longC).1.ho), .int .i64 (parseU longC).1.po, .string (bs (parseU longC).1.pa), .string (bs (parseU longC).1.qu), .bool (parseU longC).1.hq], .int .i64 3]) ∧ Below W.heap.size W w') := fun W hb => by
    have h := parse_any longC W hb
    unfold RetU at h
    rw [of_decide_eq_true lc0, ← eC] at h
    exact h
  generalize (parseU longC).1 = qc at *
  clear eA eB eC hX
  have C1 : Hid (∀ W, EnvU W → Calls Tryd.prog 16 #[.agg #[.string ⟨#[104, 116, 116, 112]⟩, .string ⟨#[97]⟩, .int .i64 0, .string ⟨#[47]⟩, .string ⟨#[113]⟩, .bool false]] W fun e w' => e = .returned (.int .i64 4) ∧ Below W.heap.size W w') := fun W hb => by
    have h := uriCheck_any ⟨[104, 116, 116, 112], [97], 0, [47], [113], false⟩ W hb ⟨by decide, by decide, by decide⟩
    rw [wk1] at h
    exact h
  have C2 : Hid (∀ W, EnvU W → Calls Tryd.prog 17 #[.agg #[.string ⟨#[104, 116, 116, 112]⟩, .string ⟨#[97]⟩, .int .i64 0, .string ⟨#[47]⟩, .string ⟨#[113]⟩, .bool false]] W fun e w' => e = .returned (.string (bs [])) ∧ Below W.heap.size W w') := fun W hb => by
    have h := uriPut_any ⟨[104, 116, 116, 112], [97], 0, [47], [113], false⟩ W hb ⟨by decide, by decide, by decide⟩
    rw [wk2] at h
    exact h
  have C3 : Hid (∀ W, EnvU W → Calls Tryd.prog 18 #[.agg #[.string ⟨#[104, 116, 116, 112]⟩, .string ⟨#[97]⟩, .int .i64 0, .string ⟨#[47]⟩, .string ⟨#[113]⟩, .bool false]] W fun e w' => e = .returned (.agg #[.string ⟨#[]⟩, .string ⟨#[]⟩, .int .i64 0, .string ⟨#[]⟩, .string ⟨#[]⟩, .bool false]) ∧ Below W.heap.size W w') := fun W hb => by
    have h := normal_any ⟨[104, 116, 116, 112], [97], 0, [47], [113], false⟩ W hb ⟨by decide, by decide, by decide⟩
    rw [wk3] at h
    exact h
  have C4 : Hid (∀ W, EnvU W → Calls Tryd.prog 16 #[.agg #[.string ⟨#[104, 116, 116, 112]⟩, .string ⟨#[97]⟩, .int .i64 (-1), .string ⟨#[47]⟩, .string ⟨#[]⟩, .bool false]] W fun e w' => e = .returned (.int .i64 4) ∧ Below W.heap.size W w') := fun W hb => by
    have h := uriCheck_any ⟨[104, 116, 116, 112], [97], -1, [47], [], false⟩ W hb ⟨by decide, by decide, by decide⟩
    rw [wk4] at h
    exact h
  have K3 := Lib.hid (fun W (hb : EnvU W) => is_yes _ _ W hb kn3 kn3p)
  have N1 := Lib.hid (fun W (hb : EnvU W) => normal_yes [104, 116, 116, 112, 58, 47, 47, 65, 58, 56, 48, 47, 37, 55, 101, 98, 47, 37, 50, 70, 47, 46, 46, 47, 99, 47, 46, 47, 37, 50, 101, 37, 50, 69, 47, 100, 63, 37, 54, 49, 37, 51, 100] [104, 116, 116, 112, 58, 47, 47, 97, 47, 126, 98, 47, 100, 63, 97, 37, 51, 68] W hb nm1 (of_decide_eq_true nl1) (of_decide_eq_true np1))
  have N2 := Lib.hid (fun W (hb : EnvU W) => normal_yes [104, 116, 116, 112, 115, 58, 47, 47, 97, 58, 52, 52, 51, 47, 63] [104, 116, 116, 112, 115, 58, 47, 47, 97, 47, 63] W hb nm2 (of_decide_eq_true nl2) (of_decide_eq_true np2))
  have N3 := Lib.hid (fun W (hb : EnvU W) => normal_yes [104, 116, 116, 112, 58, 47, 47, 97, 58, 52, 52, 51, 47, 46, 46] [104, 116, 116, 112, 58, 47, 47, 97, 58, 52, 52, 51, 47] W hb nm3 (of_decide_eq_true nl3) (of_decide_eq_true np3))
  go_enter Tryd.func5, Tryd.ntmps5
  go_wp2_with fail
  refine (K1.out _ HE.out).mono ?_
  rintro r w1 ⟨rfl, hb1⟩
  have HB1 := Lib.hid (hb1)
  clear hb1
  have hal : Below w1.heap.size w1 (w1.alloc (.cells #[.string ⟨#[104, 116, 116, 112, 115]⟩, .string ⟨#[97]⟩, .int .i64 0, .string ⟨#[47]⟩, .string ⟨#[]⟩, .bool false] 24)) := (Below.refl _ _).alloc (Nat.le_refl _) _
  have HB2 := Lib.hid (HB1.out.trans (hal.mono HB1.out.size))
  have HXu2 := Lib.hid (ubk.new w1 #[.string ⟨#[104, 116, 116, 112, 115]⟩, .string ⟨#[97]⟩, .int .i64 0, .string ⟨#[47]⟩, .string ⟨#[]⟩, .bool false] 24)
  have hbnu : w1.heap.size = w1.heap.size := rfl
  clear hal hbnu
  go_wp2_with fail
  refine (K2.out _ (HE.out.bel HB2.out)).mono ?_
  rintro r w3 ⟨rfl, hb3⟩
  have HB3 := Lib.hid (HB2.out.trans (hb3.mono HB2.out.size))
  have HXu3 := Lib.hid (HXu2.out.below hb3)
  clear hb3
  have hal : Below w3.heap.size w3 (w3.alloc (.cells #[.string ⟨#[104, 116, 116, 112]⟩, .string ⟨#[97]⟩, .int .i64 0, .string ⟨#[47]⟩, .string ⟨#[]⟩, .bool true] 24)) := (Below.refl _ _).alloc (Nat.le_refl _) _
  have HB4 := Lib.hid (HB3.out.trans (hal.mono HB3.out.size))
  have HXu4 := Lib.hid (HXu3.out.below hal)
  have HXv4 := Lib.hid (ubk.new w3 #[.string ⟨#[104, 116, 116, 112]⟩, .string ⟨#[97]⟩, .int .i64 0, .string ⟨#[47]⟩, .string ⟨#[]⟩, .bool true] 24)
  have hbnv : w3.heap.size = w3.heap.size := rfl
  clear hal hbnv
  have uc0 := HXu4.out.cell 0 (.string ⟨#[104, 116, 116, 112, 115]⟩) rfl
  have uc1 := HXu4.out.cell 1 (.string ⟨#[97]⟩) rfl
  have uc2 := HXu4.out.cell 2 (.int .i64 0) rfl
  have uc3 := HXu4.out.cell 3 (.string ⟨#[47]⟩) rfl
  have uc4 := HXu4.out.cell 4 (.string ⟨#[]⟩) rfl
  have uc5 := HXu4.out.cell 5 (.bool false) rfl
  have vc0 := HXv4.out.cell 0 (.string ⟨#[104, 116, 116, 112]⟩) rfl
  have vc1 := HXv4.out.cell 1 (.string ⟨#[97]⟩) rfl
  have vc2 := HXv4.out.cell 2 (.int .i64 0) rfl
  have vc3 := HXv4.out.cell 3 (.string ⟨#[47]⟩) rfl
  have vc4 := HXv4.out.cell 4 (.string ⟨#[]⟩) rfl
  have vc5 := HXv4.out.cell 5 (.bool true) rfl
  go_wp2_with fail
  refine (K3.out _ (HE.out.bel HB4.out)).mono ?_
  rintro r w5 ⟨rfl, hb5⟩
  have HB5 := Lib.hid (HB4.out.trans (hb5.mono HB4.out.size))
  have HXu5 := Lib.hid (HXu4.out.below hb5)
  have HXv5 := Lib.hid (HXv4.out.below hb5)
  clear hb5
  clear uc0 uc1 uc2 uc3 uc4 uc5 vc0 vc1 vc2 vc3 vc4 vc5
  have hal : Below w5.heap.size w5 (w5.alloc (.cells (badL.map fun x => Value.string (bs x)).toArray 9)) := (Below.refl _ _).alloc (Nat.le_refl _) _
  have HB6 := Lib.hid (HB5.out.trans (hal.mono HB5.out.size)); clear hal
  have HR6 : Hid (rowU (w5.alloc (.cells (badL.map fun x => Value.string (bs x)).toArray 9)) w5.heap.size badL) := ⟨_, heap_alloc_new _ _⟩
  go_wp2_with fail
  refine (show Code.wp Tryd.prog _ _ _ (w5.alloc (.cells (badL.map fun x => Value.string (bs x)).toArray 9)) from ?_)
  generalize hwx : (w5.alloc (.cells (badL.map fun x => Value.string (bs x)).toArray 9)) = w6 at *
  clear hwx
  go_loopw [6] (fun i wr => ∃ k : Nat, i = .int .i64 k ∧ k ≤ 18 ∧ Below w6.heap.size w6 wr) (fun i _ => 18 - (intOf i).toNat)
  case atStart => exact ⟨0, rfl, by omega, Below.refl _ _⟩
  case round =>
  obtain ⟨k4, rfl, hk4, hr4⟩ := hrel
  have HR4 := Lib.hid hr4; clear hr4
  have HE4 := Lib.hid (HE.out.bel (HB6.out.trans (HR4.out.mono HB6.out.size)))
  by_cases hlt4 : k4 < 18
  · have hcell := ((HR6.out.below HR4.out).cell k4 hlt4)
    have hfl := BAD.out _ (List.getElem_mem hlt4)
    generalize badL[k4] = z at *
    have HFL := Lib.hid hfl
    clear hfl
    go_wp2_with fail
    refine (no_yes z _ HE4.out HFL.out).mono ?_
    rintro e w9 ⟨rfl, hb9⟩
    have HR9 := Lib.hid (HR4.out.trans (hb9.mono HR4.out.size)); clear hb9
    go_wp2_with fail
    go_roundw
    case rel => exact ⟨k4 + 1, by go_num, by omega, HR9.out⟩
    case measure => simp [intOf]; omega
  have hge4 : ¬ (k4 : Int) < 18 := by omega
  have HB7 := Lib.hid (HB6.out.trans (HR4.out.mono HB6.out.size))
  generalize wr = w7 at *
  clear HR4 HE4 HR6
  go_wp2_with fail
  refine (N1.out _ (HE.out.bel HB7.out)).mono ?_
  rintro r w8 ⟨rfl, hb8⟩
  have HB8 := Lib.hid (HB7.out.trans (hb8.mono HB7.out.size))
  clear hb8
  have nq1 : ((bs [104, 116, 116, 112, 58, 47, 47, 97, 47, 126, 98, 47, 100, 63, 97, 37, 51, 68]).toList == [104, 116, 116, 112, 58, 47, 47, 97, 47, 126, 98, 47, 100, 63, 97, 37, 51, 68]) = true := by rw [beq_lit]; rfl
  go_wp2_with fail
  refine (N2.out _ (HE.out.bel HB8.out)).mono ?_
  rintro r w9 ⟨rfl, hb9⟩
  have HB9 := Lib.hid (HB8.out.trans (hb9.mono HB8.out.size))
  clear hb9
  have nq2 : ((bs [104, 116, 116, 112, 115, 58, 47, 47, 97, 47, 63]).toList == [104, 116, 116, 112, 115, 58, 47, 47, 97, 47, 63]) = true := by rw [beq_lit]; rfl
  go_wp2_with fail
  refine (N3.out _ (HE.out.bel HB9.out)).mono ?_
  rintro r w10 ⟨rfl, hb10⟩
  have HB10 := Lib.hid (HB9.out.trans (hb10.mono HB9.out.size))
  clear hb10
  have nq3 : ((bs [104, 116, 116, 112, 58, 47, 47, 97, 58, 52, 52, 51, 47]).toList == [104, 116, 116, 112, 58, 47, 47, 97, 58, 52, 52, 51, 47]) = true := by rw [beq_lit]; rfl
  have hal : Below w10.heap.size w10 (w10.alloc (.cells (pathL.map fun x => Value.string (bs x)).toArray 9)) := (Below.refl _ _).alloc (Nat.le_refl _) _
  have HB11 := Lib.hid (HB10.out.trans (hal.mono HB10.out.size)); clear hal
  have HR11 : Hid (rowU (w10.alloc (.cells (pathL.map fun x => Value.string (bs x)).toArray 9)) w10.heap.size pathL) := ⟨_, heap_alloc_new _ _⟩
  go_wp2_with fail
  refine (show Code.wp Tryd.prog _ _ _ (w10.alloc (.cells (pathL.map fun x => Value.string (bs x)).toArray 9)) from ?_)
  generalize hwx : (w10.alloc (.cells (pathL.map fun x => Value.string (bs x)).toArray 9)) = w11 at *
  clear hwx
  go_loopw [8] (fun i wr => ∃ k : Nat, i = .int .i64 ((2 * k : Nat) : Int) ∧ k ≤ 11 ∧ Below w11.heap.size w11 wr) (fun i _ => 22 - (intOf i).toNat)
  case atStart => exact ⟨0, rfl, by omega, Below.refl _ _⟩
  case round =>
  obtain ⟨k5, rfl, hk5, hr5⟩ := hrel
  have HR5 := Lib.hid hr5; clear hr5
  have HE5 := Lib.hid (HE.out.bel (HB11.out.trans (HR5.out.mono HB11.out.size)))
  by_cases hlt5 : k5 < 11
  · have hl2 : 2 * k5 < pathL.length := Nat.lt_of_lt_of_le (show 2 * k5 < 22 by omega) (Nat.le_refl 22)
    have hl3 : 2 * k5 + 1 < pathL.length := Nat.lt_of_lt_of_le (show 2 * k5 + 1 < 22 by omega) (Nat.le_refl 22)
    have hr := (HR11.out.below HR5.out)
    have hca := hr.cell (2 * k5) hl2
    have hcb := hr.cell (2 * k5 + 1) hl3
    have hpd := path_dots k5 hlt5
    have hpz := path_len (2 * k5)
    rw [List.getD_eq_getElem?_getD, List.getD_eq_getElem?_getD, List.getElem?_eq_getElem hl2, List.getElem?_eq_getElem hl3, Option.getD_some, Option.getD_some] at hpd
    rw [List.getD_eq_getElem?_getD, List.getElem?_eq_getElem hl2, Option.getD_some] at hpz
    generalize pathL[2 * k5] = xa at *
    generalize pathL[2 * k5 + 1] = xb at *
    have HDT := Lib.hid (fun W (hb : EnvU W) => dots_any xa W hb (by omega))
    rw [hpd] at HDT
    clear hpd hpz hl2 hl3 hr
    have qq : ((bs xb).toList == (bs xb).toList) = true := by simp
    have hj1 : 2 * k5 < 22 := by omega
    have hj2 : 2 * k5 + 1 < 22 := by omega
    generalize hjj : 2 * k5 = j at *
    have HJJ := Lib.hid hjj; clear hjj
    have hji : (j : Int) + 1 < 22 := by omega
    have hj0 : 0 ≤ (j : Int) + 1 := by omega
    have hjw := IntWalk.i64_in ((j : Int) + 1) (by omega)
    have hjt : ((j : Int) + 1).toNat = j + 1 := by omega
    have hE0 : wr.drew.cell? ⟨w10.heap.size, j, none⟩ = some (.string (bs xa)) ∧ wr.drew.cell? ⟨w10.heap.size, j + 1, none⟩ = some (.string (bs xb)) ∧ EnvU wr.drew := ⟨hca, hcb, HE5.out.bel (drewK wr)⟩
    have HBD := Lib.hid ((HR5.out.trans ((drewK wr).mono HR5.out.size)))
    clear hca hcb
    go_wp2_with fail
    refine wp_region_growS (.one 0 false (.one 1 false (.one 2 false (.one 3 false (.one 5 false (.one 6 false (.one 7 false (.one 8 false (.one 9 false (.one 4 true (.one 10 false .done)))))))))))
      (fun W => W.cell? ⟨w10.heap.size, j, none⟩ = some (.string (bs xa)) ∧ W.cell? ⟨w10.heap.size, j + 1, none⟩ = some (.string (bs xb)) ∧ EnvU W) (by kernel_rfl) (by kernel_rfl) rfl (by kernel_rfl) (by kernel_rfl) hE0 (fun ops hops => ?_)
    simp only [GT.ins, List.getD_cons_zero, List.getD_cons_succ]
    clear hops
    iterate 9
      refine growS_take (by rfl) ?_
      apply Exists.intro
      refine ⟨fun w' hE => ?_, ?_⟩
      · obtain ⟨r1, r2, r3⟩ := hE
        go_simp
        try with_reducible rfl
      simp only [Act.put, List.setIfInBounds_toArray, List.set_cons_zero, List.set_cons_succ]
    refine growS_call (by rfl) (fun K hK => ?_)
    go_simp
    refine (HDT.out _ hE0.2.2).mono ?_
    rintro r w99 ⟨rfl, hb9⟩
    have hE9 : w99.cell? ⟨w10.heap.size, j, none⟩ = some (.string (bs xa)) ∧ w99.cell? ⟨w10.heap.size, j + 1, none⟩ = some (.string (bs xb)) ∧ EnvU w99 := ⟨(hb9.cell (block_lt_of_cell hE0.1)).trans hE0.1, (hb9.cell (block_lt_of_cell hE0.2.1)).trans hE0.2.1, hE0.2.2.bel hb9⟩
    refine hK.out _ _ hE9 ?_
    have HR9 : Hid (Below w11.heap.size w11 w99) := HBD.out.trans (hb9.mono HBD.out.size)
    clear hK K hb9
    iterate 1
      refine growS_take (by rfl) ?_
      apply Exists.intro
      refine ⟨fun w' hE => ?_, ?_⟩
      · obtain ⟨r1, r2, r3⟩ := hE
        go_simp
        try with_reducible rfl
      simp only [Act.put, List.setIfInBounds_toArray, List.set_cons_zero, List.set_cons_succ]
    refine growS_done (NoPanic.normal ?_)
    go_wp2_with fail
    go_roundw
    case rel => exact ⟨k5 + 1, by rw [← HJJ.out]; go_num, by omega, HR9.out⟩
    case measure => have := HJJ.out; simp [intOf]; omega
  have hge5 : ¬ (((2 * k5 : Nat) : Int) < 22) := by omega
  have HB12 := Lib.hid (HB11.out.trans (HR5.out.mono HB11.out.size))
  generalize wr = w12 at *
  clear HR5 HE5 HR11
  generalize ((2 * k5 : Nat) : Int) = jj at *
  go_wp2_with fail
  refine (REP.out _).mono ?_
  rintro r w13 ⟨rfl, hb13⟩
  have HB13 := Lib.hid (HB12.out.trans (hb13.mono HB12.out.size))
  clear hb13
  go_wp2_with fail
  refine (KA.out _ (HE.out.bel HB13.out)).mono ?_
  rintro r w14 ⟨rfl, hb14⟩
  have HB14 := Lib.hid (HB13.out.trans (hb14.mono HB13.out.size))
  clear hb14
  have hal : Below w14.heap.size w14 (w14.alloc (.cells #[.string (bs qa.sc), .string (bs qa.ho), .int .i64 qa.po, .string (bs qa.pa), .string (bs qa.qu), .bool qa.hq] 24)) := (Below.refl _ _).alloc (Nat.le_refl _) _
  have HB15 := Lib.hid (HB14.out.trans (hal.mono HB14.out.size))
  have HXa15 := Lib.hid (ubk.new w14 #[.string (bs qa.sc), .string (bs qa.ho), .int .i64 qa.po, .string (bs qa.pa), .string (bs qa.qu), .bool qa.hq] 24)
  have hbna : w14.heap.size = w14.heap.size := rfl
  clear hal hbna
  go_wp2_with fail
  refine (KB.out _ (HE.out.bel HB15.out)).mono ?_
  rintro r w16 ⟨rfl, hb16⟩
  have HB16 := Lib.hid (HB15.out.trans (hb16.mono HB15.out.size))
  clear hb16
  have hal : Below w16.heap.size w16 (w16.alloc (.cells #[.string (bs qb.sc), .string (bs qb.ho), .int .i64 qb.po, .string (bs qb.pa), .string (bs qb.qu), .bool qb.hq] 24)) := (Below.refl _ _).alloc (Nat.le_refl _) _
  have HB17 := Lib.hid (HB16.out.trans (hal.mono HB16.out.size))
  have HXb17 := Lib.hid (ubk.new w16 #[.string (bs qb.sc), .string (bs qb.ho), .int .i64 qb.po, .string (bs qb.pa), .string (bs qb.qu), .bool qb.hq] 24)
  have hbnb : w16.heap.size = w16.heap.size := rfl
  clear hal hbnb
  go_wp2_with fail
  refine (REP.out _).mono ?_
  rintro r w18 ⟨rfl, hb18⟩
  have HB18 := Lib.hid (HB17.out.trans (hb18.mono HB17.out.size))
  clear hb18
  go_wp2_with fail
  refine (KC.out _ (HE.out.bel HB18.out)).mono ?_
  rintro r w19 ⟨rfl, hb19⟩
  have HB19 := Lib.hid (HB18.out.trans (hb19.mono HB18.out.size))
  clear hb19
  have hal : Below w19.heap.size w19 (w19.alloc (.cells #[.string (bs qc.sc), .string (bs qc.ho), .int .i64 qc.po, .string (bs qc.pa), .string (bs qc.qu), .bool qc.hq] 24)) := (Below.refl _ _).alloc (Nat.le_refl _) _
  have HB20 := Lib.hid (HB19.out.trans (hal.mono HB19.out.size))
  have HXc20 := Lib.hid (ubk.new w19 #[.string (bs qc.sc), .string (bs qc.ho), .int .i64 qc.po, .string (bs qc.pa), .string (bs qc.qu), .bool qc.hq] 24)
  have hbnc : w19.heap.size = w19.heap.size := rfl
  clear hal hbnc
  have hal : Below (w19.alloc (.cells #[.string (bs qc.sc), .string (bs qc.ho), .int .i64 qc.po, .string (bs qc.pa), .string (bs qc.qu), .bool qc.hq] 24)).heap.size (w19.alloc (.cells #[.string (bs qc.sc), .string (bs qc.ho), .int .i64 qc.po, .string (bs qc.pa), .string (bs qc.qu), .bool qc.hq] 24)) ((w19.alloc (.cells #[.string (bs qc.sc), .string (bs qc.ho), .int .i64 qc.po, .string (bs qc.pa), .string (bs qc.qu), .bool qc.hq] 24)).alloc (.cells #[.string ⟨#[104, 116, 116, 112]⟩, .string ⟨#[97]⟩, .int .i64 0, .string ⟨#[47]⟩, .string ⟨#[113]⟩, .bool false] 24)) := (Below.refl _ _).alloc (Nat.le_refl _) _
  have HB21 := Lib.hid (HB20.out.trans (hal.mono HB20.out.size)); clear hal
  have hxw := ubk.new (w19.alloc (.cells #[.string (bs qc.sc), .string (bs qc.ho), .int .i64 qc.po, .string (bs qc.pa), .string (bs qc.qu), .bool qc.hq] 24)) #[.string ⟨#[104, 116, 116, 112]⟩, .string ⟨#[97]⟩, .int .i64 0, .string ⟨#[47]⟩, .string ⟨#[113]⟩, .bool false] 24
  rw [World.size_alloc] at hxw
  have HXw21 := Lib.hid hxw; clear hxw
  have hxw := HXw21.out
  have z21c0 := hxw.cell 0 (.string ⟨#[104, 116, 116, 112]⟩) rfl
  have z21c1 := hxw.cell 1 (.string ⟨#[97]⟩) rfl
  have z21c2 := hxw.cell 2 (.int .i64 0) rfl
  have z21c3 := hxw.cell 3 (.string ⟨#[47]⟩) rfl
  have z21c4 := hxw.cell 4 (.string ⟨#[113]⟩) rfl
  have z21c5 := hxw.cell 5 (.bool false) rfl
  clear hxw
  go_wp2_with fail
  refine (C1.out _ (HE.out.bel HB21.out)).mono ?_
  rintro r w22 ⟨rfl, hb22⟩
  have HB22 := Lib.hid (HB21.out.trans (hb22.mono HB21.out.size))
  have HXw22 := Lib.hid (HXw21.out.below hb22)
  clear hb22
  have hxw := HXw22.out
  have z22c0 := hxw.cell 0 (.string ⟨#[104, 116, 116, 112]⟩) rfl
  have z22c1 := hxw.cell 1 (.string ⟨#[97]⟩) rfl
  have z22c2 := hxw.cell 2 (.int .i64 0) rfl
  have z22c3 := hxw.cell 3 (.string ⟨#[47]⟩) rfl
  have z22c4 := hxw.cell 4 (.string ⟨#[113]⟩) rfl
  have z22c5 := hxw.cell 5 (.bool false) rfl
  clear hxw
  go_wp2_with fail
  refine (C2.out _ (HE.out.bel HB22.out)).mono ?_
  rintro r w23 ⟨rfl, hb23⟩
  have HB23 := Lib.hid (HB22.out.trans (hb23.mono HB22.out.size))
  have HXw23 := Lib.hid (HXw22.out.below hb23)
  clear hb23
  have hxw := HXw23.out
  have z23c0 := hxw.cell 0 (.string ⟨#[104, 116, 116, 112]⟩) rfl
  have z23c1 := hxw.cell 1 (.string ⟨#[97]⟩) rfl
  have z23c2 := hxw.cell 2 (.int .i64 0) rfl
  have z23c3 := hxw.cell 3 (.string ⟨#[47]⟩) rfl
  have z23c4 := hxw.cell 4 (.string ⟨#[113]⟩) rfl
  have z23c5 := hxw.cell 5 (.bool false) rfl
  clear hxw
  have nqz : ((bs []).toList == []) = true := by rw [beq_lit]; rfl
  go_wp2_with fail
  refine (C3.out _ (HE.out.bel HB23.out)).mono ?_
  rintro r w24 ⟨rfl, hb24⟩
  have HB24 := Lib.hid (HB23.out.trans (hb24.mono HB23.out.size))
  have HXw24 := Lib.hid (HXw23.out.below hb24)
  clear hb24
  go_wp2_with fail
  refine (C4.out _ (HE.out.bel HB24.out)).mono ?_
  rintro r w25 ⟨rfl, hb25⟩
  have HB25 := Lib.hid (HB24.out.trans (hb25.mono HB24.out.size))
  have HXw25 := Lib.hid (HXw24.out.below hb25)
  clear hb25
  go_wp2_with fail
  refine (awakeU_any _ (HE.out.bel HB25.out)).mono ?_
  rintro r w26 ⟨rfl, hb26⟩
  have HB26 := Lib.hid (HB25.out.trans (hb26.mono HB25.out.size))
  have HXw26 := Lib.hid (HXw25.out.below hb26)
  clear hb26
  go_wp2_with fail
  go_ret
  exact ⟨rfl, HB26.out⟩
end Go.Proofs.YtigaghdalecdlaaDoor
