/- A body in chunks: the encoder. -/
import Derived.Test.YtoengnefdndgfaaDoorChunkJ
namespace Go.Proofs.YtoengnefdndgfaaDoor
open Go.RowKit

set_option maxHeartbeats 4000000 in
set_option maxRecDepth 100000 in
theorem encode_any (body : List UInt8) (v : Value) (sizes : List Int) (w : World) (he : EnvC w) (hi : IL w v sizes) (hb : body.length ≤ 1048576) (hs : sizes.length ≤ 1048576) :
    Calls Tryd.prog 13 #[.string (bs body), v] w fun e w' => e = .returned (.string (bs (encodeL body sizes))) ∧ Below w.heap.size w w' := by
  have hu := usable_any v sizes body.length w hi (by omega)
  have hul : (useL sizes body.length).length ≤ 1048577 := by
    unfold useL; split
    · simp
    · have : (posL sizes).length ≤ sizes.length := List.length_filter_le _ _
      omega
  have hne := useL_ne sizes body.length
  have hok : body ≠ [] → okS (useL sizes body.length) := fun h => useL_ok sizes (by have := List.length_pos_iff.2 h; omega)
  have hE : encodeL body sizes = tailE (useL sizes body.length) 0 body := rfl
  obtain ⟨A, c, rfl⟩ := hi.form
  generalize useL sizes body.length = U at *
  generalize encodeL body sizes = E at *
  obtain ⟨S, hSe, hSl, hSz⟩ := text_of body
  have hS2 : S = bs body := hSe
  rw [← hSe]
  rw [← hSz] at hu
  have HU := Lib.hid hu; have HE := Lib.hid hE; have HOK := Lib.hid hok; have HEV := Lib.hid he; have HS := Lib.hid hS2
  have hU0 : 0 < U.length := List.length_pos_iff.2 hne
  rw [← hSz] at hb
  have HZ := Lib.hid hSz
  clear hu hE hok he hi hSe hSl hSz hne hS2 hs
  go_enter Tryd.func13, Tryd.ntmps13
  go_wp2_with fail
  refine HU.out.mono ?_; rintro e w1 ⟨v1, rfl, hl1, hb1⟩
  obtain ⟨a1, c1, rfl⟩ := hl1.form
  have HL1 := Lib.hid hl1; have HB1 := Lib.hid hb1; have HE1 := Lib.hid (HEV.out.bel hb1); clear hl1 hb1
  go_wp2_with fail
  go_loopw [5, 6, 7, 8, 16] (fun o re _ _ i wr => ∃ (k : Nat) (r acc : List UInt8) (R : ByteArray), i = .int .i64 k ∧ re = .string R ∧ R = bs r ∧ k + r.length ≤ S.size ∧ k ≤ S.size ∧ acc.length + 13 * r.length ≤ 13 * S.size ∧ (r = [] ∨ okS U) ∧ ownB wr w1.heap.size o acc ∧ Below w1.heap.size w1 wr ∧ E = acc ++ tailE U k r)
    (fun _ _ _ _ i _ => S.size - (intOf i).toNat)
  case atStart =>
    refine ⟨0, body, [], S, rfl, rfl, HS.out, by have := HZ.out; omega, Nat.zero_le _, by have := HZ.out; simp; omega, ?_, ownB_nil _ _, Below.refl _ _, by rw [HE.out]; rfl⟩
    by_cases h : body = []
    · exact .inl h
    · exact .inr (HOK.out h)
  case round =>
    obtain ⟨k, r, acc, R, rfl, rfl, hR, hkr, hk, hal, hor, ho, hbr, hE⟩ := hrel
    obtain ⟨a2, n2, c2, rfl⟩ := ho.shape
    have hRl : R.data.toList = r := by rw [hR, bs_data]
    have hRz : R.size = r.length := by rw [hR, bs_size]
    have HO := Lib.hid ho; have HBR := Lib.hid hbr; have HEE := Lib.hid hE
    clear ho hbr hE hR
    have hfin : Hid (r = [] → E = acc ++ lastT) := fun h => by rw [HEE.out, h, tailE_nil]
    by_cases h0 : r = []
    · have HFI := Lib.hid (hfin.out h0)
      have hemp : R.toList.isEmpty = true := by rw [Lib.toList_data, hRl, h0]; rfl
      have hll : acc.length ≤ 13631488 := by omega
      clear h0 hfin hRl hRz hor
      by_cases hlt : k < S.size
      all_goals
        go_wp2_with (at_builtin; refine wpList_appT rfl (.tmp 40) (.const (.string ⟨#[48, 13, 10, 13, 10]⟩)) rfl w1.heap.size w1.heap.size _ _ ⟨#[48, 13, 10, 13, 10]⟩ rfl HO.out HBR.out (Nat.le_refl _) HBR.out.size rfl ?c2 ?_)
        case c2 =>
          show _ + 5 ≤ _
          omega
        intro v3 w3 HO3 HB3
        have hback := HO3.out.back
        go_wp2_with fail
        go_ret
        exact ⟨ret_str (by rw [HFI.out]; rfl), HB1.out.trans (HB3.out.mono HB1.out.size)⟩
    · have hU := hor.resolve_left h0
      obtain ⟨m, hm, hmr, hmt, hmd, hm0⟩ := sz_min hU k r
      have hm1 := hm0 h0
      have HST := Lib.hid (tailE_step hU k h0)
      rw [hmt, hmd] at HST
      have hmod : k % U.length < U.length := Nat.mod_lt _ hU0
      obtain ⟨bb, off, rfl, hbb, hcc⟩ := HL1.out.get (k % U.length) hmod
      have hcell := (HBR.out.cell (p := ⟨bb, off + k % U.length, none⟩) hbb).trans hcc
      rw [show U[k % U.length] = U.getD (k % U.length) 0 from by rw [List.getD_eq_getElem?_getD, List.getElem?_eq_getElem hmod, Option.getD_some]] at hcell
      have hrem : (k : Int).tmod (U.length : Int) = ((k % U.length : Nat) : Int) := by rw [Int.tmod_eq_emod_of_nonneg (by omega)]; rfl
      have hemp : R.toList.isEmpty = false := by rw [Lib.toList_data, hRl]; cases r <;> simp_all
      have hex1 : R.extract 0 m = bs (r.take m) := ext_upto hRl m
      have hex2 : R.extract m R.size = bs (r.drop m) := ext_from hRl m
      have hap := fun (w' : World) (h1 : ownB w' w1.heap.size (.slice a2 n2 c2) acc) (h2 : Below w1.heap.size w1 w') => appendChunk_any w1.heap.size (.slice a2 n2 c2) acc (r.take m) w' (HE1.out.bel h2) h1 h2.size (by omega) (by rw [List.length_take]; omega)
      rw [← hex1] at hap
      have HAP := Lib.hid hap
      have hct := chunkT_len (c := r.take m) (by rw [List.length_take]; omega)
      have hrt : (r.take m).length = m := by rw [List.length_take]; omega
      have hlt : k < S.size := by have := List.length_pos_iff.2 h0; omega
      rw [← hRz] at hm hmr hkr hal
      have hmR : min (U.getD (k % U.length) 0) (R.size : Int) = (m : Int) := hm
      have HX2 := Lib.hid hex2; have HRZ := Lib.hid hRz; have HCT := Lib.hid hct; have HRT := Lib.hid hrt
      generalize U.getD (k % U.length) 0 = z at *
      clear hap hex1 hex2 hfin hmt hmd hm0 h0 hor hm hct hrt hRl hRz hcc
      go_wp2_with fail
      refine (HAP.out _ HO.out HBR.out).mono ?_; rintro e w2 ⟨v2, rfl, ho2, hb2⟩
      obtain ⟨a3, n3, c3, rfl⟩ := ho2.shape
      have HO2 := Lib.hid ho2; have HB2 := Lib.hid (HBR.out.trans hb2); clear ho2 hb2
      go_wp2_with fail
      go_roundw
      case rel =>
        have h1 := HRZ.out; have h2 := HCT.out; have h3 := HRT.out
        have h4 : (r.drop m).length = R.size - m := by rw [List.length_drop, h1]
        refine ⟨k + 1, r.drop m, acc ++ chunkT (r.take m), _, by go_num, rfl, HX2.out, by omega, by omega, by rw [List.length_append]; omega, .inr hU, HO2.out, HB2.out, ?_⟩
        rw [HEE.out, HST.out, List.append_assoc]
      case measure => simp [intOf]; omega
end Go.Proofs.YtoengnefdndgfaaDoor
