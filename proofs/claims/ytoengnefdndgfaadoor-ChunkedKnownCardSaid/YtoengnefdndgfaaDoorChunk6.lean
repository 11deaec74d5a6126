/- The chapter's examples: the statement's own walk. -/
import Derived.Test.YtoengnefdndgfaaDoorChunkR
import Derived.Test.YtoengnefdndgfaaDoorChunk5
import Derived.Laws.OwnMore
import Derived.Laws.MakeOwn
namespace Go.Proofs.YtoengnefdndgfaaDoor
open Go.RowKit

theorem row_zero (w : World) (n : Nat) : rowB (w.alloc (.cells (madeCells #[.int .u8 0] n) 5)) w.heap.size n (List.replicate n 0) := by
  refine ⟨_, _, _, _, heap_alloc_new w _, .inr rfl, by simp, ?_⟩
  rw [toList_madeCells_one, List.take_of_length_le (by simp)]
  simp [Lib.byteCells]

theorem SL_row (w : World) (T : TypeId) (M : List (List UInt8)) : SL (w.alloc (.cells (strCs M).toArray T)) (.slice (some ⟨w.heap.size, 0, none⟩) M.length M.length) M := by
  refine .inr ⟨w.heap.size, 0, M.length, rfl, by simp, fun j hj => ?_⟩
  unfold World.cell?
  rw [heap_alloc_new]
  simp [strCs, hj]
theorem IL_row (w : World) (T : TypeId) (M : List Int) : IL (w.alloc (.cells (M.map (Value.int .i64)).toArray T)) (.slice (some ⟨w.heap.size, 0, none⟩) M.length M.length) M := by
  refine .inr ⟨w.heap.size, 0, M.length, rfl, by simp, fun j hj => ?_⟩
  unfold World.cell?
  rw [heap_alloc_new]
  simp [hj]
theorem one_len (Z : List UInt8) (h0 : 0 < Z.length) (h : Z.length ≤ 262144) : (encodeL Z []).length ≤ Z.length + 17 := by
  have hne : Z ≠ [] := List.length_pos_iff.1 h0
  have hok := useL_ok [] (whole := (Z.length : Int)) (by omega)
  have hU : useL [] Z.length = [(Z.length : Int)] := rfl
  rw [hU] at hok
  show (tailE (useL [] Z.length) 0 Z).length ≤ _
  rw [hU]
  obtain ⟨m, hm, hmr, hmt, hmd, hm0⟩ := sz_min hok 0 Z
  have h1 : ([(Z.length : Int)].getD (0 % [(Z.length : Int)].length) 0) = (Z.length : Int) := rfl
  rw [h1] at hm
  have hmZ : m = Z.length := by omega
  rw [tailE_step hok 0 hne, hmt, hmd, hmZ, List.take_length, List.drop_length, tailE_nil, List.length_append]
  have := chunkT_len (c := Z) (by omega)
  have h5 : lastT.length = 5 := rfl
  omega
theorem more_short : ∀ s ∈ moreL, s.length ≤ 1048576 := by decide
theorem bad_short : ∀ s ∈ badL, s.length ≤ 1048576 := by decide
set_option maxHeartbeats 8000000 in
set_option maxRecDepth 100000 in
theorem known_any (w : World) (he : EnvC w) : Calls Tryd.prog 6 #[] w fun e w' => e = .returned (.bool true) ∧ Below w.heap.size w w' := by
  have g1 := fun (w' : World) (hb : EnvC w') => gives_any [48, 13, 10, 13, 10] [] 100 5 0 w' hb (by decide)
  have g2 := fun (w' : World) (hb : EnvC w') => gives_any [51, 59, 97, 61, 98, 13, 10, 97, 98, 99, 13, 10, 48, 48, 13, 10, 65, 58, 32, 98, 13, 10, 13, 10] [97, 98, 99] 100 24 1 w' hb (by decide)
  have g3 := fun (w' : World) (hb : EnvC w') => gives_any [65, 13, 10, 48, 49, 50, 51, 52, 53, 54, 55, 56, 57, 13, 10, 48, 59, 9, 13, 10, 13, 10] [48, 49, 50, 51, 52, 53, 54, 55, 56, 57] 10 22 0 w' hb (by decide)
  rw [dec_nil] at g1; rw [dec_one] at g2; rw [dec_ten] at g3
  have G1 := Lib.hid g1; have G2 := Lib.hid g2; have G3 := Lib.hid g3; have HE := Lib.hid he
  clear g1 g2 g3 he
  have f4 := fun (s : List UInt8) (hs : s ∈ moreL) (w' : World) (hb : EnvC w') => fails_any s 100 6 w' hb (more_short s hs)
  have f4 : ∀ s ∈ moreL, ∀ w' : World, EnvC w' → Calls Tryd.prog 17 #[.string (bs s), .int .i64 100, .int .i64 6] w' fun e w2 => e = .returned (.bool true) ∧ Below w'.heap.size w' w2 := fun s hs w' hb => by
    have h := f4 s hs w' hb
    rw [more_fails s hs] at h
    exact h
  have f5 := fun (s : List UInt8) (hs : s ∈ badL) (w' : World) (hb : EnvC w') => fails_any s 100 4 w' hb (bad_short s hs)
  have f5 : ∀ s ∈ badL, ∀ w' : World, EnvC w' → Calls Tryd.prog 17 #[.string (bs s), .int .i64 100, .int .i64 4] w' fun e w2 => e = .returned (.bool true) ∧ Below w'.heap.size w' w2 := fun s hs w' hb => by
    have h := f5 s hs w' hb
    rw [bad_fails s hs] at h
    exact h
  have F4 := Lib.hid f4; have F6 := Lib.hid f5; clear f4 f5
  go_enter Tryd.func6, Tryd.ntmps6
  go_wp2_with fail
  refine (G1.out _ HE.out).mono ?_; rintro e w1 ⟨rfl, hb1⟩
  have HE1 := Lib.hid (HE.out.bel hb1); have HB1 := Lib.hid hb1; clear hb1
  rw [show givesB ([], 5, [], 0) [] 5 0 = true from rfl]
  go_wp2_with fail
  refine (G2.out _ HE1.out).mono ?_; rintro e w2 ⟨rfl, hb2⟩
  have HE2 := Lib.hid (HE1.out.bel hb2); have HB2 := Lib.hid (HB1.out.trans (hb2.mono HB1.out.size)); clear hb2
  rw [show givesB ([97, 98, 99], 24, [([65], [98])], 0) [97, 98, 99] 24 1 = true from rfl]
  go_wp2_with fail
  refine (G3.out _ HE2.out).mono ?_; rintro e w3 ⟨rfl, hb3⟩
  have HE3 := Lib.hid (HE2.out.bel hb3); have HB3 := Lib.hid (HB2.out.trans (hb3.mono HB2.out.size)); clear hb3
  rw [show givesB ([48, 49, 50, 51, 52, 53, 54, 55, 56, 57], 22, [], 0) [48, 49, 50, 51, 52, 53, 54, 55, 56, 57] 22 0 = true from rfl]
  have ha4 : Below w3.heap.size w3 (w3.alloc (.cells (strCs moreL).toArray 9)) := (Below.refl _ _).alloc (Nat.le_refl _) _
  have HB4 := Lib.hid (HB3.out.trans (ha4.mono HB3.out.size)); have HE4 := Lib.hid (HE3.out.bel ha4)
  have HL4 := Lib.hid (SL_row w3 9 moreL)
  clear ha4
  go_wp2_with fail
  refine (show Code.wp Tryd.prog _ _ _ (w3.alloc (.cells (strCs moreL).toArray 9)) from ?_)
  generalize w3.alloc (.cells (strCs moreL).toArray 9) = w4 at *
  generalize (some (⟨w3.heap.size, 0, none⟩ : Addr)) = A4 at *
  go_loopw [2] (fun i wr => ∃ k : Nat, i = .int .i64 k ∧ k ≤ 8 ∧ Below w4.heap.size w4 wr) (fun i _ => 8 - (intOf i).toNat)
  case atStart => exact ⟨0, rfl, by omega, Below.refl _ _⟩
  case round =>
  obtain ⟨k4, rfl, hk4, hr4⟩ := hrel
  have HR4 := Lib.hid hr4; clear hr4
  have HER4 := Lib.hid (HE4.out.bel HR4.out)
  by_cases hlt4 : k4 < 8
  · obtain ⟨bb, off, rfl, hbb, hcc⟩ := HL4.out.get k4 hlt4
    have hcell := (HR4.out.cell (p := ⟨bb, off + k4, none⟩) hbb).trans hcc
    have hfl := F4.out _ (List.getElem_mem hlt4)
    generalize moreL[k4] = z at *
    have HFL := Lib.hid hfl
    clear hfl hcc
    go_wp2_with fail
    refine (HFL.out _ HER4.out).mono ?_; rintro e w9 ⟨rfl, hb9⟩
    have HR9 := Lib.hid (HR4.out.trans (hb9.mono HR4.out.size)); clear hb9
    go_wp2_with fail
    go_roundw
    case rel => exact ⟨k4 + 1, by go_num, by omega, HR9.out⟩
    case measure => simp [intOf]; omega
  have hge4 : ¬ (k4 : Int) < 8 := by omega
  have HB5 := Lib.hid (HB4.out.trans (HR4.out.mono HB4.out.size))
  have ha6 : Below wr.heap.size wr (wr.alloc (.cells (strCs badL).toArray 9)) := (Below.refl _ _).alloc (Nat.le_refl _) _
  have HB6 := Lib.hid (HB5.out.trans (ha6.mono HB5.out.size)); have HE6 := Lib.hid (HER4.out.bel ha6)
  have HL6 := Lib.hid (SL_row wr 9 badL)
  clear ha6
  go_wp2_with fail
  refine (show Code.wp Tryd.prog _ _ _ (wr.alloc (.cells (strCs badL).toArray 9)) from ?_)
  generalize wr.alloc (.cells (strCs badL).toArray 9) = w6 at *
  generalize (some (⟨wr.heap.size, 0, none⟩ : Addr)) = A6 at *
  go_loopw [4] (fun i wr => ∃ k : Nat, i = .int .i64 k ∧ k ≤ 8 ∧ Below w6.heap.size w6 wr) (fun i _ => 8 - (intOf i).toNat)
  case atStart => exact ⟨0, rfl, by omega, Below.refl _ _⟩
  case round =>
  obtain ⟨k6, rfl, hk6, hr6⟩ := hrel
  have HR6 := Lib.hid hr6; clear hr6
  have HER6 := Lib.hid (HE6.out.bel HR6.out)
  by_cases hlt6 : k6 < 8
  · obtain ⟨bb, off, rfl, hbb, hcc⟩ := HL6.out.get k6 hlt6
    have hcell := (HR6.out.cell (p := ⟨bb, off + k6, none⟩) hbb).trans hcc
    have hfl := F6.out _ (List.getElem_mem hlt6)
    generalize badL[k6] = z at *
    have HFL := Lib.hid hfl
    clear hfl hcc
    go_wp2_with fail
    refine (HFL.out _ HER6.out).mono ?_; rintro e w9 ⟨rfl, hb9⟩
    have HR9 := Lib.hid (HR6.out.trans (hb9.mono HR6.out.size)); clear hb9
    go_wp2_with fail
    go_roundw
    case rel => exact ⟨k6 + 1, by go_num, by omega, HR9.out⟩
    case measure => simp [intOf]; omega
  have hge6 : ¬ (k6 : Int) < 8 := by omega
  have HB7 := Lib.hid (HB6.out.trans (HR6.out.mono HB6.out.size))
  obtain ⟨N, hN⟩ : ∃ N : Nat, N = 262144 := ⟨_, rfl⟩
  have hNi : (N : Int) = 262144 := by rw [hN]; rfl
  obtain ⟨i0, hi, hz0, hz1, hz2⟩ := info_parts infoB
  have hmk : ∀ W : World, (Instr.makeSlice 36 (.int .i64 262144) (.int .i64 262144)).run Tryd.prog W = .ok (.slice (some ⟨W.heap.size, 0, none⟩) N N) (W.alloc (.cells (madeCells #[.int .u8 0] N) 5)) := fun W => by
    rw [← hNi]
    have h := run_make (P := Tryd.prog) W 36 5 i0 (.int .u8 0) Tryd.underlying36 hi hz0 .i64 .i64 (N : Int) (N : Int) (by omega) (by omega) (by rw [hz2]; omega) (by omega)
    rw [hz1] at h
    simpa [Value.cells] using h
  have HMK := Lib.hid hmk
  have HN := Lib.hid hN
  clear hmk hi hz0 hz1 hz2 hNi hN
  have hmk1 := HMK.out wr
  have hal : Below wr.heap.size wr (wr.alloc (.cells (madeCells #[.int .u8 0] N) 5)) := (Below.refl _ _).alloc (Nat.le_refl _) _
  have hro := row_zero wr N
  generalize wr.alloc (.cells (madeCells #[.int .u8 0] N) 5) = W1 at hal hro hmk1
  have hbk1 := hro.back N
  have hZl : (List.replicate N (0 : UInt8)).length = N := List.length_replicate
  generalize hZ : List.replicate N (0 : UInt8) = Z at *
  have HZ := Lib.hid hZ; have HZL := Lib.hid hZl; clear hZ hZl hro
  have HB8 := Lib.hid (HB7.out.trans (hal.mono HB7.out.size)); have HE8 := Lib.hid (HER6.out.bel hal)
  clear hal
  have hen := fun (w' : World) (hb : EnvC w') => encode_any Z (.slice none 0 0) [] w' hb (.inl ⟨rfl, _, _, rfl⟩) (by have := HZL.out; have := HN.out; omega) (by decide)
  have hgv := fun (w' : World) (hb : EnvC w') => gives_any (encodeL Z []) Z 1099511627776 ((encodeL Z []).length : Int) 0 w' hb (by have := one_len Z (by have := HZL.out; have := HN.out; omega) (by have := HZL.out; have := HN.out; omega); have := HZL.out; have := HN.out; omega)
  have hd1 : decodeL (encodeL Z []) 1099511627776 = (Z, (encodeL Z []).length, [], 0) := by
    have h := (back_enc Z [] [] 262144 (by have := HZL.out; have := HN.out; omega)).1 (by have := HZL.out; have := HN.out; omega)
    rw [List.append_nil] at h
    exact h
  have hgb : givesB (decodeL (encodeL Z []) 1099511627776) Z ((encodeL Z []).length : Int) 0 = true := by
    rw [hd1]; simp [givesB]
  rw [hgb] at hgv
  have hEs : (bs (encodeL Z [])).size = (encodeL Z []).length := bs_size _
  rw [← hEs] at hgv
  generalize bs (encodeL Z []) = EB at *
  have HEN := Lib.hid hen; have HGV := Lib.hid hgv
  clear hen hgv hd1 hgb hEs
  go_wp2_with fail
  refine (HEN.out _ HE8.out).mono ?_; rintro e w10 ⟨rfl, hb10⟩
  have HB10 := Lib.hid (HB8.out.trans (hb10.mono HB8.out.size)); have HE10 := Lib.hid (HE8.out.bel hb10); clear hb10 hmk1 hbk1
  have h11 := fails_any [54, 53, 13, 10] 100 3 w10 HE10.out (by decide)
  rw [long_1] at h11
  have H11 := Lib.hid h11; clear h11
  go_wp2_with fail
  refine H11.out.mono ?_; rintro e w11 ⟨rfl, hb11⟩
  have HB11 := Lib.hid (HB10.out.trans (hb11.mono HB10.out.size)); have HE11 := Lib.hid (HE10.out.bel hb11); clear hb11
  rw [show failsB (bad 3) 3 = true from rfl]
  have h12 := fails_any [102, 102, 102, 102, 102, 102, 102, 102, 13, 10] 100 3 w11 HE11.out (by decide)
  rw [long_2] at h12
  have H12 := Lib.hid h12; clear h12
  go_wp2_with fail
  refine H12.out.mono ?_; rintro e w12 ⟨rfl, hb12⟩
  have HB12 := Lib.hid (HB11.out.trans (hb12.mono HB11.out.size)); have HE12 := Lib.hid (HE11.out.bel hb12); clear hb12
  rw [show failsB (bad 3) 3 = true from rfl]
  have h13 := fails_any [49, 13, 10, 120, 13, 10, 48, 13, 10, 13, 10] (-1) 3 w12 HE12.out (by decide)
  rw [long_3] at h13
  have H13 := Lib.hid h13; clear h13
  go_wp2_with fail
  refine H13.out.mono ?_; rintro e w13 ⟨rfl, hb13⟩
  have HB13 := Lib.hid (HB12.out.trans (hb13.mono HB12.out.size)); have HE13 := Lib.hid (HE12.out.bel hb13); clear hb13
  rw [show failsB (bad 3) 3 = true from rfl]
  have hmk2 := HMK.out w13
  have hal : Below w13.heap.size w13 (w13.alloc (.cells (madeCells #[.int .u8 0] N) 5)) := (Below.refl _ _).alloc (Nat.le_refl _) _
  have hro := row_zero w13 N
  rw [HZ.out] at hro
  generalize w13.alloc (.cells (madeCells #[.int .u8 0] N) 5) = W2 at hal hro hmk2
  have hbk2 := hro.back N
  have HB14 := Lib.hid (HB13.out.trans (hal.mono HB13.out.size)); have HE14 := Lib.hid (HE13.out.bel hal)
  clear hal hro
  go_wp2_with fail
  refine (HGV.out _ HE14.out).mono ?_; rintro e w15 ⟨rfl, hb15⟩
  have HB15 := Lib.hid (HB14.out.trans (hb15.mono HB14.out.size)); have HE15 := Lib.hid (HE14.out.bel hb15); clear hb15 hmk2 hbk2
  have h16 := fails_any [52, 48, 48, 48, 49, 13, 10] 1099511627776 3 w15 HE15.out (by decide)
  rw [long_4] at h16
  have H16 := Lib.hid h16; clear h16
  go_wp2_with fail
  refine H16.out.mono ?_; rintro e w16 ⟨rfl, hb16⟩
  have HB16 := Lib.hid (HB15.out.trans (hb16.mono HB15.out.size)); have HE16 := Lib.hid (HE15.out.bel hb16); clear hb16
  rw [show failsB (bad 3) 3 = true from rfl]
  have ha17 : Below w16.heap.size w16 (w16.alloc (.cells (([3, 0, 5] : List Int).map (Value.int .i64)).toArray 3)) := (Below.refl _ _).alloc (Nat.le_refl _) _
  have h17 := encode_any [97, 98, 99, 100, 101, 102, 103, 104, 105, 106, 107] _ [3, 0, 5] _ (HE16.out.bel ha17) (IL_row w16 3 [3, 0, 5]) (by decide) (by decide)
  rw [enc_ex] at h17
  have H17 := Lib.hid h17; have HB17 := Lib.hid (HB16.out.trans (ha17.mono HB16.out.size)); have HE17 := Lib.hid (HE16.out.bel ha17); clear h17 ha17
  go_wp2_with fail
  refine H17.out.mono ?_; rintro e w18 ⟨rfl, hb18⟩
  have HB18 := Lib.hid (HB17.out.trans (hb18.mono HB17.out.size)); have HE18 := Lib.hid (HE17.out.bel hb18); clear hb18
  have h19 := encode_any [] (.slice none 0 0) [] w18 HE18.out (.inl ⟨rfl, _, _, rfl⟩) (by decide) (by decide)
  rw [enc_none] at h19
  have H19 := Lib.hid h19; clear h19
  have hs18 : (bs [51, 13, 10, 97, 98, 99, 13, 10, 53, 13, 10, 100, 101, 102, 103, 104, 13, 10, 51, 13, 10, 105, 106, 107, 13, 10, 48, 13, 10, 13, 10]).toList = [51, 13, 10, 97, 98, 99, 13, 10, 53, 13, 10, 100, 101, 102, 103, 104, 13, 10, 51, 13, 10, 105, 106, 107, 13, 10, 48, 13, 10, 13, 10] := by rw [Lib.toList_data, bs_data]
  go_wp2_with fail
  refine H19.out.mono ?_; rintro e w20 ⟨rfl, hb20⟩
  have HB20 := Lib.hid (HB18.out.trans (hb20.mono HB18.out.size)); have HE20 := Lib.hid (HE18.out.bel hb20); clear hb20
  have hs20 : (bs [48, 13, 10, 13, 10]).toList = [48, 13, 10, 13, 10] := by rw [Lib.toList_data, bs_data]
  have ha21 : Below w20.heap.size w20 (w20.alloc (.cells (([0, -5] : List Int).map (Value.int .i64)).toArray 3)) := (Below.refl _ _).alloc (Nat.le_refl _) _
  have h21 := encode_any [97, 98, 99] _ [0, -5] _ (HE20.out.bel ha21) (IL_row w20 3 [0, -5]) (by decide) (by decide)
  rw [enc_abc0] at h21
  have H21 := Lib.hid h21; have HB21 := Lib.hid (HB20.out.trans (ha21.mono HB20.out.size)); have HE21 := Lib.hid (HE20.out.bel ha21); clear h21 ha21
  go_wp2_with fail
  refine H21.out.mono ?_; rintro e w22 ⟨rfl, hb22⟩
  have HB22 := Lib.hid (HB21.out.trans (hb22.mono HB21.out.size)); have HE22 := Lib.hid (HE21.out.bel hb22); clear hb22
  have h23 := encode_any [97, 98, 99] (.slice none 0 0) [] w22 HE22.out (.inl ⟨rfl, _, _, rfl⟩) (by decide) (by decide)
  rw [enc_abc] at h23
  have H23 := Lib.hid h23; clear h23
  go_wp2_with fail
  refine H23.out.mono ?_; rintro e w24 ⟨rfl, hb24⟩
  have HB24 := Lib.hid (HB22.out.trans (hb24.mono HB22.out.size)); have HE24 := Lib.hid (HE22.out.bel hb24); clear hb24
  go_wp2_with fail
  refine (awake_any _ HE24.out).mono ?_; rintro e w25 ⟨rfl, hb25⟩
  have HB25 := Lib.hid (HB24.out.trans (hb25.mono HB24.out.size)); clear hb25
  go_wp2_with fail
  go_ret
  exact ⟨rfl, HB25.out⟩
theorem known_law (w : World) (hm : MaxL w) (hl : LibC w) : Calls Tryd.prog 6 #[] w fun e w' => e = .returned (.bool true) ∧ Below w.heap.size w w' := known_any w (envC hm hl)
end Go.Proofs.YtoengnefdndgfaaDoor
