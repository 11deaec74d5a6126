/- A body in chunks: the document's. -/
import Derived.Test.YtoengnefdndgfaaDoorChunkX
import Derived.Test.YtoengnefdndgfaaDoorGrow3
import Derived.Deep.CutBlock
import Derived.Deep.DeepCutAuto
namespace Go.Proofs.YtoengnefdndgfaaDoor
open Go.RowKit

def sizeOfV : Value → Nat
  | .string s => s.size
  | _ => 0
theorem ownI.shape {w : World} {base : Nat} {v : Value} {l : List Int} (h : ownI w base v l) : ∃ a n c, v = .slice a n c := by
  obtain ⟨a, c, h⟩ := h.form
  exact ⟨_, _, _, h⟩
theorem pos_take {L : List Int} {k : Nat} (h : k < L.length) : posL (L.take (k + 1)) = if 0 < L[k] then posL (L.take k) ++ [L[k]] else posL (L.take k) := by
  rw [List.take_succ_eq_append_getElem h, pos_snoc]
set_option maxHeartbeats 8000000 in
set_option maxRecDepth 100000 in
theorem rencode_any (body : List UInt8) (v : Value) (L : List Int) (w : World) (hi : IL w v L) (hb : body.length ≤ 1048576) (hs : L.length ≤ 1048576) :
    Calls Tryd.prog 14 #[.string (bs body), v] w fun e w' => e = .returned (.string (bs (encodeL body L))) ∧ Below w.heap.size w w' := by
  have hpl : (posL L).length ≤ L.length := List.length_filter_le _ _
  obtain ⟨A, c, rfl⟩ := hi.form
  obtain ⟨S, hSe, hSl, hSz⟩ := text_of body
  rw [← hSe]
  have HI := Lib.hid hi; have HS := Lib.hid hSe; have HZ := Lib.hid hSz
  have hok : body ≠ [] → okS (useL L body.length) := fun h => useL_ok L (by have := List.length_pos_iff.2 h; omega)
  have hE : encodeL body L = tailE (useL L body.length) 0 body := rfl
  have hU1 : posL L = [] → useL L body.length = [(body.length : Int)] := fun h => if_pos h
  have hU2 : posL L ≠ [] → useL L body.length = posL L := fun h => if_neg h
  generalize encodeL body L = E at hE ⊢
  generalize useL L body.length = U at hok hE hU1 hU2
  have HOK := Lib.hid hok; have HE := Lib.hid hE; have HU1 := Lib.hid hU1; have HU2 := Lib.hid hU2
  rw [← hSz] at hb
  clear hi hSe hSl hSz hok hE hU1 hU2
  go_enter Tryd.func14, Tryd.ntmps14
  go_upto_block 0 with fail
  go_cut [5, 6] (fun s5 _ wx => IL wx s5 (posL L) ∧ Below w.heap.size w wx)
  case first =>
    go_wp2_with fail
    go_loopw [5, 6] (fun s5 s6 wr => ∃ k : Nat, s6 = .int .i64 k ∧ k ≤ L.length ∧ ownI wr w.heap.size s5 (posL (L.take k)) ∧ Below w.heap.size w wr) (fun _ s6 _ => L.length - (intOf s6).toNat)
    case atStart => exact ⟨0, rfl, Nat.zero_le _, World.ownsRow_nil _ _ _ _, Below.refl _ _⟩
    case round =>
      obtain ⟨k, rfl, hk, ho, hb2⟩ := hrel
      obtain ⟨a5, c5, rfl⟩ := ho.form
      have hpk : (posL (L.take k)).length ≤ 1048576 := by
        have h1 : (posL (L.take k)).length ≤ (L.take k).length := List.length_filter_le _ _
        rw [List.length_take] at h1
        omega
      have HO := Lib.hid ho; have HB := Lib.hid hb2; clear ho hb2
      by_cases hlt : k < L.length
      · obtain ⟨bb, off, rfl, hbb, hcc⟩ := HI.out.get k hlt
        have hcell := (HB.out.cell (p := ⟨bb, off + k, none⟩) hbb).trans hcc
        have hst := pos_take hlt
        by_cases hp : 0 < L[k]
        · rw [if_pos hp] at hst
          have HST := Lib.hid hst
          generalize L[k] = z at *
          clear hst hcc
          go_wp2_with (at_builtin; refine wpList_appI rfl (.tmp 22) (.tmp 27) rfl w.heap.size w.heap.size _ _ z rfl HO.out HB.out (Nat.le_refl _) HB.out.size rfl (by omega) ?_; intro v' w' HO' HB' _; obtain ⟨a6, n6, c6, rfl⟩ := HO'.out.shape)
          go_roundw
          case rel => exact ⟨k + 1, by go_num, by omega, by rw [HST.out]; exact HO'.out, HB'.out⟩
          case measure => simp [intOf]; omega
        · rw [if_neg hp] at hst
          have HST := Lib.hid hst
          generalize L[k] = z at *
          clear hst hcc
          go_wp2_with fail
          go_roundw
          case rel => exact ⟨k + 1, by go_num, by omega, by rw [HST.out]; exact HO.out, HB.out⟩
          case measure => simp [intOf]; omega
      · obtain rfl : k = L.length := by omega
        have hfin := HO.out.il
        rw [List.take_length] at hfin
        have HFI := Lib.hid hfin; clear hfin
        rw [List.take_length] at *
        go_wp2_with fail
        go_meet
        exact ⟨HFI.out, HB.out⟩
  case rest =>
    obtain ⟨hl1, hb1⟩ := hcut
    obtain ⟨a1, c1, rfl⟩ := hl1.form
    have HL1 := Lib.hid hl1; have HB1 := Lib.hid hb1; clear hl1 hb1
    go_wp2_with fail
    go_loopw [0, 7, 8, 9, 10] (fun re o ki _ _ wr => ∃ (k : Nat) (r acc : List UInt8) (R : ByteArray), re = .string R ∧ R = bs r ∧ ki = .int .i64 k ∧ k + r.length ≤ S.size ∧ acc.length + 13 * r.length ≤ 13 * S.size ∧ (r = [] ∨ okS U) ∧ ownB wr wc.heap.size o acc ∧ Below wc.heap.size wc wr ∧ E = acc ++ tailE U k r)
      (fun re _ _ _ _ _ => sizeOfV re)
    case atStart =>
      refine ⟨0, body, [], S, rfl, HS.out, rfl, by have := HZ.out; omega, by have := HZ.out; simp; omega, ?_, ownB_nil _ _, Below.refl _ _, by rw [HE.out]; rfl⟩
      by_cases h : body = []
      · exact .inl h
      · exact .inr (HOK.out h)
    case round =>
      obtain ⟨k, r, acc, R, rfl, hR, rfl, hkr, hal, hor, ho, hbr, hE⟩ := hrel
      obtain ⟨a2, n2, c2, rfl⟩ := ho.shape
      have hRl : R.data.toList = r := by rw [hR, bs_data]
      have hRz : R.size = r.length := by rw [hR, bs_size]
      have HO := Lib.hid ho; have HBR := Lib.hid hbr; have HEE := Lib.hid hE
      clear ho hbr hE hR
      by_cases h0 : r = []
      · have HFI : Hid (E = acc ++ lastT) := by show _ = _; rw [HEE.out, h0, tailE_nil]
        have hR0 : R.size = 0 := by rw [hRz, h0]; rfl
        have hR1 : ¬ (0 : Int) < R.size := by omega
        have hll : acc.length ≤ 13631488 := by omega
        have hback := HO.out.back
        have hap := bs_app acc lastT
        have hap2 : bs acc ++ (⟨#[48, 13, 10, 13, 10]⟩ : ByteArray) = bs (acc ++ lastT) := hap
        clear h0 hRl hRz hor hap
        go_wp2_with fail
        go_ret
        exact ⟨ret_str (hap2.trans (congrArg bs HFI.out.symm)), HB1.out.trans (HBR.out.mono HB1.out.size)⟩
      · have hU := hor.resolve_left h0
        obtain ⟨m, hm, hmr, hmt, hmd, hm0⟩ := sz_min hU k r
        have hm1 := hm0 h0
        have HST := Lib.hid (tailE_step hU k h0)
        rw [hmt, hmd] at HST
        have hex2 : R.extract m R.size = bs (r.drop m) := ext_from hRl m
        have hct := chunkT_len (c := r.take m) (by rw [List.length_take]; omega)
        have hrt : (r.take m).length = m := by rw [List.length_take]; omega
        have hm32 : m < 4294967296 := by omega
        have hh8 := hexL_len8 hm32
        have hRpos : (0 : Int) < R.size := by rw [hRz]; have := List.length_pos_iff.2 h0; omega
        have hchunk : ((bs (hexL m) ++ (⟨#[13, 10]⟩ : ByteArray)) ++ R.extract 0 m ++ ⟨#[13, 10]⟩).data.toList = chunkT (r.take m) := by
          rw [ByteArray.data_append, ByteArray.data_append, ByteArray.data_append, Array.toList_append, Array.toList_append, Array.toList_append, bs_data, Lib.extract_from_zero, hRl]
          unfold chunkT
          rw [hrt]
        have HCH := Lib.hid hchunk
        have HCZ : Hid (((bs (hexL m) ++ (⟨#[13, 10]⟩ : ByteArray)) ++ R.extract 0 m ++ ⟨#[13, 10]⟩).size ≤ m + 12) := by
          show _ ≤ _
          rw [size_len, hchunk]
          omega
        have z1 : (bs (hexL m)).size ≤ 8 := by rw [bs_size]; exact hh8
        have z2 : (bs (hexL m) ++ (⟨#[13, 10]⟩ : ByteArray)).size ≤ 10 := by rw [ByteArray.size_append]; show _ + 2 ≤ _; omega
        have z3 : (R.extract 0 m).size = m := by rw [size_len, Lib.extract_from_zero, hRl, hrt]
        have z4 : ((bs (hexL m) ++ (⟨#[13, 10]⟩ : ByteArray)) ++ R.extract 0 m).size ≤ m + 10 := by rw [ByteArray.size_append, z3]; omega
        have f1 : ¬ 9223372036854775807 < (hexL m).length + 2 := by omega
        have f2 : ¬ 9223372036854775807 < (hexL m).length + 2 + m := by omega
        have f3 : ¬ 9223372036854775807 < (hexL m).length + 2 + m + 2 := by omega
        rw [← hRz] at hm hmr hkr hal
        have f4 : ¬ 9223372036854775807 < (hexL m).length + 2 + min m R.size := by omega
        have f5 : ¬ 9223372036854775807 < (hexL m).length + 2 + min m R.size + 2 := by omega
        have HX2 := Lib.hid hex2; have HRZ := Lib.hid hRz; have HCT := Lib.hid hct; have HRT := Lib.hid hrt
        by_cases hp : posL L = []
        · have hu := HU1.out hp
          have hp0 : (posL L).length = 0 := by rw [hp]; rfl
          have hmz : m = R.size := by
            rw [hu] at hm
            have h1 : ([(body.length : Int)].getD (k % [(body.length : Int)].length) 0) = (body.length : Int) := by simp [Nat.mod_one]
            rw [h1] at hm
            have := HZ.out
            omega
          rw [hp0]
          have hmI : Hid ((R.size : Int) = (m : Int)) := by show _ = _; omega
          clear hmz
          clear hex2 hct hrt hchunk hRl hRz hm hmt hmd hm0 h0 hor hu hh8 hp hp0
          go_wp2_with fail
          rw [show (R.size : Int) = (m : Int) from hmI.out]
          refine wp_region_growS (.one 0 false (.one 3 false (.one 4 false (.one 5 false (.one 1 true (.one 2 false (.one 6 false (.one 7 false (.one 8 false .done)))))))))
            (fun _ => True) (by kernel_rfl) (by kernel_rfl) rfl (by kernel_rfl) (by kernel_rfl) trivial (fun ops hops => ?_)
          simp only [GT.ins, List.getD_cons_zero, List.getD_cons_succ]
          clear hops
          iterate 4
            refine growS_take (by rfl) ?_
            apply Exists.intro
            refine ⟨fun w' hE => ?_, ?_⟩
            · skip
              go_simp
              try with_reducible rfl
            simp only [Act.put, List.setIfInBounds_toArray, List.set_cons_zero, List.set_cons_succ]
          refine growS_call (by rfl) (fun K hK => ?_)
          go_simp
          refine (rhexs_any m _ hm32).mono ?_
          rintro e w2 ⟨rfl, hb2⟩
          refine hK.out _ _ trivial ?_
          clear hK K
          have HB2 := Lib.hid (HBR.out.drew.trans (hb2.mono HBR.out.size)); have HO2 := Lib.hid (HO.out.drew.bel hb2); clear hb2
          iterate 4
            refine growS_take (by rfl) ?_
            apply Exists.intro
            refine ⟨fun w' hE => ?_, ?_⟩
            · skip
              go_simp
              try with_reducible rfl
            simp only [Act.put, List.setIfInBounds_toArray, List.set_cons_zero, List.set_cons_succ]
          refine growS_done (NoPanic.normal ?_)
          have hch : ((bs (hexL m) ++ (⟨#[13, 10]⟩ : ByteArray)) ++ R.extract 0 m ++ ⟨#[13, 10]⟩).data.toList = chunkT (r.take m) := HCH.out
          have hcz : ((bs (hexL m) ++ (⟨#[13, 10]⟩ : ByteArray)) ++ R.extract 0 m ++ ⟨#[13, 10]⟩).size ≤ m + 12 := HCZ.out
          generalize ((bs (hexL m) ++ (⟨#[13, 10]⟩ : ByteArray)) ++ R.extract 0 m ++ ⟨#[13, 10]⟩) = CH at hch hcz ⊢
          have hac : acc.length + CH.size ≤ 140737488355328 := by omega
          go_wp2_with (at_builtin; refine wpList_appT rfl (.tmp 65) (.tmp 66) rfl wc.heap.size wc.heap.size _ acc CH rfl HO2.out HB2.out (Nat.le_refl _) HB2.out.size rfl hac ?_; intro v3 w3 HO3 HB3; obtain ⟨a3, n3, c3, rfl⟩ := HO3.out.shape)
          go_roundw
          case rel =>
            have h1 := HRZ.out; have h2 := HCT.out; have h3 := HRT.out
            have h4 : (r.drop m).length = R.size - m := by rw [List.length_drop, h1]
            refine ⟨k + 1, r.drop m, acc ++ chunkT (r.take m), _, rfl, HX2.out, by go_num, by omega, by rw [List.length_append]; omega, .inr hU, by rw [← hch]; exact HO3.out, HB3.out, ?_⟩
            rw [HEE.out, HST.out, List.append_assoc]
          case measure =>
            have h2 : (R.extract m R.size).size = R.size - m := by rw [ByteArray.size_extract, Nat.min_self]
            show (R.extract m R.size).size < R.size
            omega
        · have hu := HU2.out hp
          have hU0 : 0 < (posL L).length := List.length_pos_iff.2 hp
          subst hu
          have hmod : k % (posL L).length < (posL L).length := Nat.mod_lt _ hU0
          obtain ⟨bb, off, rfl, hbb, hcc⟩ := HL1.out.get (k % (posL L).length) hmod
          have hcell := (HBR.out.cell (p := ⟨bb, off + k % (posL L).length, none⟩) hbb).trans hcc
          rw [show (posL L)[k % (posL L).length] = (posL L).getD (k % (posL L).length) 0 from by rw [List.getD_eq_getElem?_getD, List.getElem?_eq_getElem hmod, Option.getD_some]] at hcell
          have hrem : (k : Int).tmod ((posL L).length : Int) = ((k % (posL L).length : Nat) : Int) := by rw [Int.tmod_eq_emod_of_nonneg (by omega)]; rfl
          generalize (posL L).getD (k % (posL L).length) 0 = z at *
          by_cases hzr : z < R.size
          · have hzm : z = (m : Int) := by omega
            subst hzm
            clear hex2 hct hrt hchunk hRl hRz hm hmt hmd hm0 h0 hor hh8 hp hcc
            go_wp2_with fail
            refine wp_region_growS (.one 0 false (.one 3 false (.one 4 false (.one 5 false (.one 1 true (.one 2 false (.one 6 false (.one 7 false (.one 8 false .done)))))))))
              (fun _ => True) (by kernel_rfl) (by kernel_rfl) rfl (by kernel_rfl) (by kernel_rfl) trivial (fun ops hops => ?_)
            simp only [GT.ins, List.getD_cons_zero, List.getD_cons_succ]
            clear hops
            iterate 4
              refine growS_take (by rfl) ?_
              apply Exists.intro
              refine ⟨fun w' hE => ?_, ?_⟩
              · skip
                go_simp
                try with_reducible rfl
              simp only [Act.put, List.setIfInBounds_toArray, List.set_cons_zero, List.set_cons_succ]
            refine growS_call (by rfl) (fun K hK => ?_)
            go_simp
            refine (rhexs_any m _ hm32).mono ?_
            rintro e w2 ⟨rfl, hb2⟩
            refine hK.out _ _ trivial ?_
            clear hK K
            have HB2 := Lib.hid (HBR.out.drew.trans (hb2.mono HBR.out.size)); have HO2 := Lib.hid (HO.out.drew.bel hb2); clear hb2
            iterate 4
              refine growS_take (by rfl) ?_
              apply Exists.intro
              refine ⟨fun w' hE => ?_, ?_⟩
              · skip
                go_simp
                try with_reducible rfl
              simp only [Act.put, List.setIfInBounds_toArray, List.set_cons_zero, List.set_cons_succ]
            refine growS_done (NoPanic.normal ?_)
            have hch : ((bs (hexL m) ++ (⟨#[13, 10]⟩ : ByteArray)) ++ R.extract 0 m ++ ⟨#[13, 10]⟩).data.toList = chunkT (r.take m) := HCH.out
            have hcz : ((bs (hexL m) ++ (⟨#[13, 10]⟩ : ByteArray)) ++ R.extract 0 m ++ ⟨#[13, 10]⟩).size ≤ m + 12 := HCZ.out
            generalize ((bs (hexL m) ++ (⟨#[13, 10]⟩ : ByteArray)) ++ R.extract 0 m ++ ⟨#[13, 10]⟩) = CH at hch hcz ⊢
            have hac : acc.length + CH.size ≤ 140737488355328 := by omega
            go_wp2_with (at_builtin; refine wpList_appT rfl (.tmp 65) (.tmp 66) rfl wc.heap.size wc.heap.size _ acc CH rfl HO2.out HB2.out (Nat.le_refl _) HB2.out.size rfl hac ?_; intro v3 w3 HO3 HB3; obtain ⟨a3, n3, c3, rfl⟩ := HO3.out.shape)
            go_roundw
            case rel =>
              have h1 := HRZ.out; have h2 := HCT.out; have h3 := HRT.out
              have h4 : (r.drop m).length = R.size - m := by rw [List.length_drop, h1]
              refine ⟨k + 1, r.drop m, acc ++ chunkT (r.take m), _, rfl, HX2.out, by go_num, by omega, by rw [List.length_append]; omega, .inr hU, by rw [← hch]; exact HO3.out, HB3.out, ?_⟩
              rw [HEE.out, HST.out, List.append_assoc]
            case measure =>
              have h2 : (R.extract m R.size).size = R.size - m := by rw [ByteArray.size_extract, Nat.min_self]
              show (R.extract m R.size).size < R.size
              omega
          · have hmz : m = R.size := by omega
            have hmI : Hid ((R.size : Int) = (m : Int)) := by show _ = _; omega
            clear hmz
            clear hex2 hct hrt hchunk hRl hRz hm hmt hmd hm0 h0 hor hh8 hp hcc
            go_wp2_with fail
            rw [show (R.size : Int) = (m : Int) from hmI.out]
            refine wp_region_growS (.one 0 false (.one 3 false (.one 4 false (.one 5 false (.one 1 true (.one 2 false (.one 6 false (.one 7 false (.one 8 false .done)))))))))
              (fun _ => True) (by kernel_rfl) (by kernel_rfl) rfl (by kernel_rfl) (by kernel_rfl) trivial (fun ops hops => ?_)
            simp only [GT.ins, List.getD_cons_zero, List.getD_cons_succ]
            clear hops
            iterate 4
              refine growS_take (by rfl) ?_
              apply Exists.intro
              refine ⟨fun w' hE => ?_, ?_⟩
              · skip
                go_simp
                try with_reducible rfl
              simp only [Act.put, List.setIfInBounds_toArray, List.set_cons_zero, List.set_cons_succ]
            refine growS_call (by rfl) (fun K hK => ?_)
            go_simp
            refine (rhexs_any m _ hm32).mono ?_
            rintro e w2 ⟨rfl, hb2⟩
            refine hK.out _ _ trivial ?_
            clear hK K
            have HB2 := Lib.hid (HBR.out.drew.trans (hb2.mono HBR.out.size)); have HO2 := Lib.hid (HO.out.drew.bel hb2); clear hb2
            iterate 4
              refine growS_take (by rfl) ?_
              apply Exists.intro
              refine ⟨fun w' hE => ?_, ?_⟩
              · skip
                go_simp
                try with_reducible rfl
              simp only [Act.put, List.setIfInBounds_toArray, List.set_cons_zero, List.set_cons_succ]
            refine growS_done (NoPanic.normal ?_)
            have hch : ((bs (hexL m) ++ (⟨#[13, 10]⟩ : ByteArray)) ++ R.extract 0 m ++ ⟨#[13, 10]⟩).data.toList = chunkT (r.take m) := HCH.out
            have hcz : ((bs (hexL m) ++ (⟨#[13, 10]⟩ : ByteArray)) ++ R.extract 0 m ++ ⟨#[13, 10]⟩).size ≤ m + 12 := HCZ.out
            generalize ((bs (hexL m) ++ (⟨#[13, 10]⟩ : ByteArray)) ++ R.extract 0 m ++ ⟨#[13, 10]⟩) = CH at hch hcz ⊢
            have hac : acc.length + CH.size ≤ 140737488355328 := by omega
            go_wp2_with (at_builtin; refine wpList_appT rfl (.tmp 65) (.tmp 66) rfl wc.heap.size wc.heap.size _ acc CH rfl HO2.out HB2.out (Nat.le_refl _) HB2.out.size rfl hac ?_; intro v3 w3 HO3 HB3; obtain ⟨a3, n3, c3, rfl⟩ := HO3.out.shape)
            go_roundw
            case rel =>
              have h1 := HRZ.out; have h2 := HCT.out; have h3 := HRT.out
              have h4 : (r.drop m).length = R.size - m := by rw [List.length_drop, h1]
              refine ⟨k + 1, r.drop m, acc ++ chunkT (r.take m), _, rfl, HX2.out, by go_num, by omega, by rw [List.length_append]; omega, .inr hU, by rw [← hch]; exact HO3.out, HB3.out, ?_⟩
              rw [HEE.out, HST.out, List.append_assoc]
            case measure =>
              have h2 : (R.extract m R.size).size = R.size - m := by rw [ByteArray.size_extract, Nat.min_self]
              show (R.extract m R.size).size < R.size
              omega
end Go.Proofs.YtoengnefdndgfaaDoor
