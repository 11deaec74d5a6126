/- FramingOnly: walked. -/
import Derived.Test.YtnhkebbmgiokbaaDoorFramingN
namespace Go.Proofs.YtnhkebbmgiokbaaDoor
open Go.RowKit

theorem FL.take {w : World} {A : Option Addr} {n c : Nat} {l : List Fld} (h : FL w (.slice A n c) l) (k c' : Nat) (hk : k ≤ l.length) : FL w (.slice A k c') (l.take k) := by
  rcases Nat.eq_zero_or_pos k with h0 | h0
  · subst h0; exact .inl ⟨by simp, A, c', rfl⟩
  · obtain ⟨b, off, rfl, hlt, _⟩ := h.get 0 (by omega)
    refine .inr ⟨b, off, c', by rw [List.length_take, Nat.min_eq_left hk], hlt, fun j hj => ?_⟩
    rw [List.length_take] at hj
    obtain ⟨b2, off2, he, _, h1, h2⟩ := h.get j (by omega)
    obtain ⟨rfl, rfl⟩ : b = b2 ∧ off = off2 := by simpa using he
    rw [List.getElem_take]
    exact ⟨h1, h2⟩
theorem FL.drop {w : World} {b off n c : Nat} {l : List Fld} (h : FL w (.slice (some ⟨b, off, none⟩) n c) l) (k c' : Nat) (hk : k ≤ l.length) : FL w (.slice (some ⟨b, off + k * 2, none⟩) (l.length - k) c') (l.drop k) := by
  rcases Nat.eq_zero_or_pos (l.length - k) with h0 | h0
  · exact .inl ⟨by rw [List.drop_eq_nil_iff]; omega, _, c', by rw [h0]⟩
  · obtain ⟨b1, off1, he1, hlt, _⟩ := h.get 0 (by omega)
    obtain ⟨rfl, rfl⟩ : b = b1 ∧ off = off1 := by simpa using he1
    refine .inr ⟨b, off + k * 2, c', by rw [List.length_drop], hlt, fun j hj => ?_⟩
    rw [List.length_drop] at hj
    obtain ⟨b2, off2, he, _, h1, h2⟩ := h.get (k + j) (by omega)
    obtain ⟨rfl, rfl⟩ : b = b2 ∧ off = off2 := by simpa using he
    rw [List.getElem_drop]
    rw [show off + k * 2 + j * 2 = off + (k + j) * 2 from by omega]
    exact ⟨h1, h2⟩
theorem u8_bdF {n : Int} (h : (Lit.int .u8 n).wf = true) : 0 ≤ n ∧ n ≤ 255 := by
  simp [Lit.wf, IntKind.min, IntKind.max, IntKind.bits, IntKind.signed] at h
  omega
theorem vals_one (f : Fld) (n : List UInt8) : valsL [f] n = if sameN f.1 n then [f.2] else [] := by
  rw [vals_cons]; rfl

/-- what the four ways begin with -/
structure OnlyMem (v : Value) (l : List Fld) (n x : List UInt8) (p : Int) (w : World) (k : Nat) : Prop where
  hp0 : 0 ≤ p ∧ p ≤ 255
  he : Env w
  hf : FL w v l
  hl80 : l.length ≤ 80
  hz : sizeL l ≤ 12000
  hsm : smallF l
  hf1 : n.length ≤ 140737488351232
  hf2 : x.length ≤ 140737488351232
  hal : Below w.heap.size w (w.alloc (.cells #[.string (bs n), .string (bs x)] 38))
  hfb : blk (w.alloc (.cells #[.string (bs n), .string (bs x)] 38)) w.heap.size #[.string (bs n), .string (bs x)]
  hfw : Calls Tryd.prog 7 #[v] (w.alloc (.cells #[.string (bs n), .string (bs x)] 38)) fun e w' => e = .returned (.bool true) ∧ Below (w.alloc (.cells #[.string (bs n), .string (bs x)] 38)).heap.size (w.alloc (.cells #[.string (bs n), .string (bs x)] 38)) w'
  hbig : ¬ 2000 < ((n.length : Int) + (x.length : Int))
  hk : k ≤ l.length
  hkm : Int.tmod p ((l.length : Int) + 1) = (k : Int)
def OnlyWay (v : Value) (n x : List UInt8) (p : Int) (w : World) : Prop :=
  Calls Tryd.prog 5 #[v, .agg #[.string (bs n), .string (bs x)], .int .u8 p] w fun e w' => e = .returned (.bool true) ∧ Below w.heap.size w w'

set_option maxRecDepth 100000 in
set_option maxHeartbeats 8000000 in
theorem only1 (l : List Fld) (n x : List UInt8) (p : Int) (w : World) (H : OnlyMem (.slice none 0 0) l n x p w 0) (hll : l.length = 0) : OnlyWay (.slice none 0 0) n x p w := by
  obtain ⟨hp0, he, hf, hl80, hz, hsm, hf1, hf2, hal, hfb, hfw, hbig, hk, hkm⟩ := H
  have HE := Lib.hid he; have HF := Lib.hid hf; have HSM := Lib.hid hsm; have HAL := Lib.hid hal; have HFB := Lib.hid hfb; have HFW := Lib.hid hfw
  clear he hf hsm hal hfb hfw
  unfold OnlyWay
  have HLL := Lib.hid hll; clear hll hkm
  obtain ⟨T, HTE⟩ : ∃ T, Hid (l.take 0 = T) := ⟨_, rfl⟩
  obtain ⟨D, HDE⟩ : ∃ D, Hid (l.drop 0 = D) := ⟨_, rfl⟩
  have HTL : Hid (T.length = 0) := by show _ = _; rw [← HTE.out, List.length_take]; omega
  have HDL : Hid (D.length = l.length - 0) := by show _ = _; rw [← HDE.out, List.length_drop]
  have HLT : Hid (([] : List Fld).length + T.length ≤ 4294967296) := by show _ ≤ _; have := HTL.out; simp; omega
  go_enter Tryd.func5, Tryd.ntmps5
  go_wp2_with fail
  refine HFW.out.mono ?_
  rintro e w1 ⟨rfl, hb1⟩
  have HB1 := Lib.hid (HAL.out.trans (hb1.mono HAL.out.size)); have HFB1 := Lib.hid (HFB.out.below hb1)
  have c0 := HFB1.out.cell 0 (.string (bs n)) rfl
  have c1 := HFB1.out.cell 1 (.string (bs x)) rfl
  have hBw : w.heap.size < w1.heap.size := HFB1.out.lt
  clear hb1
  have hne : ((l.length : Int) + 1) ≠ 0 := by omega
  have HF1 := Lib.hid (HF.out.bel HB1.out)
  have tok1 : True := trivial
  go_wp2_with (first | (at_builtin; have := tok1; refine wpList_appFF rfl (.tmp 41) (.tmp 44) rfl w1.heap.size w.heap.size _ _ [] T rfl (ownF_nil _ _) HB1.out (Nat.le_of_lt hBw) (Nat.le_refl _) rfl (.inl ⟨List.eq_nil_of_length_eq_zero (by have := HTL.out; omega), _, _, rfl⟩) HLT.out ?_; intro v2 w2 HO2 HB2 HK2 HZ2; obtain ⟨M1, HM1⟩ : ∃ M1, Hid (([] : List Fld) ++ T = M1) := ⟨_, rfl⟩; rw [HM1.out] at HO2; obtain ⟨A2, c2, rfl⟩ := HO2.out.form; have HFB2 := Lib.hid (HFB1.out.keep (HK2.out _ hBw)); have c0' := HFB2.out.cell 0 (.string (bs n)) rfl; have c1' := HFB2.out.cell 1 (.string (bs x)) rfl; clear this tok1) | (at_builtin; have HO2a := Lib.hid (HO2.out.alloc (.cells #[.string (bs n), .string (bs x)] 38)); have HB2a := Lib.hid (HB2.out.alloc HB2.out.size (.cells #[.string (bs n), .string (bs x)] 38)); have HN2 := Lib.hid (FL_lit w2 (n, x)); have HZ2a : Hid (w1.heap.size ≤ (w2.alloc (.cells #[.string (bs n), .string (bs x)] 38)).heap.size) := (by show _ ≤ _; have := HZ2.out; simp; omega); have HL2 : Hid (M1.length + [(n, x)].length ≤ 4294967296) := (by show _ ≤ _; have := HTL.out; rw [← HM1.out]; simp; omega); refine wpList_appFF rfl (.tmp 46) (.tmp 48) rfl w1.heap.size w.heap.size _ _ M1 [(n, x)] rfl HO2a.out HB2a.out (Nat.le_of_lt hBw) HZ2a.out rfl HN2.out HL2.out ?_; intro v3 w3 HO3 HB3 HK3 HZ3; obtain ⟨M2, HM2⟩ : ∃ M2, Hid (M1 ++ [(n, x)] = M2) := ⟨_, rfl⟩; rw [HM2.out] at HO3; obtain ⟨A3, c3, rfl⟩ := HO3.out.form; have HFB3 := Lib.hid ((HFB2.out.alloc (.cells #[.string (bs n), .string (bs x)] 38)).keep (HK3.out _ hBw)); have HF3 := Lib.hid (HF.out.bel HB3.out); have HZ3a : Hid (w1.heap.size ≤ w3.heap.size) := Nat.le_trans HZ2a.out HZ3.out; clear HO2 HO2a HN2) | (at_builtin; have HL3 : Hid (M2.length + D.length ≤ 4294967296) := (by show _ ≤ _; have := HTL.out; have := HDL.out; rw [← HM2.out, ← HM1.out]; simp; omega); refine wpList_appFF rfl (.tmp 50) (.tmp 53) rfl w1.heap.size w.heap.size _ _ M2 D rfl HO3.out HB3.out (Nat.le_of_lt hBw) HZ3a.out rfl (.inl ⟨List.eq_nil_of_length_eq_zero (by have := HDL.out; have := HLL.out; omega), _, _, rfl⟩) HL3.out ?_; intro v4 w4 HO4 HB4 HK4 HZ4; obtain ⟨M, HM⟩ : ∃ M, Hid (M2 ++ D = M) := ⟨_, rfl⟩; rw [HM.out] at HO4; obtain ⟨A4, c4, rfl⟩ := HO4.out.form; have HFB4 := Lib.hid (HFB3.out.keep (HK4.out _ hBw)); have c0'' := HFB4.out.cell 0 (.string (bs n)) rfl; have c1'' := HFB4.out.cell 1 (.string (bs x)) rfl; have hb5 : Below w.heap.size w (w4.alloc (.cells #[.string (bs n), .string (bs x)] 38)) := HB4.out.alloc HB4.out.size _; have hb45 : Below w4.heap.size w4 (w4.alloc (.cells #[.string (bs n), .string (bs x)] 38)) := (Below.refl _ _).alloc (Nat.le_refl _) _; have HB5 := Lib.hid hb5; have HQ5 := Lib.hid hb45; have HN5 := Lib.hid (FL_lit w4 (n, x)); clear hb5 hb45 HO3))
  have HME : Hid (M = l.take 0 ++ (n, x) :: l.drop 0) := by show _ = _; rw [← HM.out, ← HM2.out, ← HM1.out, ← HTE.out, ← HDE.out]; simp
  have HMl : Hid (M.length ≤ 81) := by show _ ≤ _; rw [HME.out]; simp; omega
  have hva := values_any _ [(n, x)] clN _ HN5.out (small_of (by simp [sizeL]; omega)) (by simp) (by decide)
  rw [vals_one] at hva
  rw [← bs_cl] at hva
  have hvb := fun W hb => values_any _ [(n, x)] teN W (HN5.out.bel hb) (small_of (by simp [sizeL]; omega)) (by simp) (by decide)
  rw [vals_one] at hvb
  rw [← bs_te] at hvb
  cases hs1 : sameN n clN
  · simp only [hs1, Bool.false_eq_true, if_false] at hva
    cases hs2 : sameN n teN
    · simp only [hs2, Bool.false_eq_true, if_false] at hvb
      have HVA := Lib.hid hva; have HVB := Lib.hid hvb; clear hva hvb
      have HA : Hid (askR M = askR l) := by show _ = _; rw [HME.out]; exact ask_ins l (n, x) 0 hs1 hs2
      have HT : Hid (tellR M 200 false = tellR l 200 false) := by show _ = _; rw [HME.out]; exact tell_ins l (n, x) 0 200 false hs1 hs2
      have HVM : Hid (valsL M clN = valsL l clN) := by show _ = _; rw [HME.out]; exact vals_ins l (n, x) 0 hs1
      have HSMM : Hid (smallF M) := small_of (by
        rw [HME.out]
        have h1 : sizeL (l.take 0 ++ (n, x) :: l.drop 0) = sizeL (l.take 0) + (n.length + x.length + sizeL (l.drop 0)) := by rw [sizeL_append, sizeL_cons]
        have h2 : sizeL l = sizeL (l.take 0) + sizeL (l.drop 0) := by rw [← sizeL_append, List.take_append_drop]
        omega)
      clear hs1 hs2
      refine HVA.out.mono ?_
      rintro e w6 ⟨v6, rfl, ho6, hb6⟩
      obtain ⟨A6, c6, rfl⟩ := ho6.form
      have HB6 := Lib.hid (HB5.out.trans (hb6.mono HB5.out.size)); have HQ6 := Lib.hid (HQ5.out.trans (hb6.mono HQ5.out.size)); clear ho6
      go_wp2_with fail
      refine (HVB.out _ hb6).mono ?_
      rintro e w7 ⟨v7, rfl, ho7, hb7⟩
      obtain ⟨A7, c7, rfl⟩ := ho7.form
      have HB7 := Lib.hid (HB6.out.trans (hb7.mono HB6.out.size)); have HQ7 := Lib.hid (HQ6.out.trans (hb7.mono HQ6.out.size)); clear ho7 hb6 hb7
      go_wp2_with fail
      generalize hr : askR l = r at *
      have HR := Lib.hid hr; clear hr
      generalize hq : tellR l 200 false = q at *
      have HTQ := Lib.hid hq; clear hq
      obtain ⟨r0, r1, r2⟩ := r
      obtain ⟨q0, q1, q2⟩ := q
      refine (request_any _ l _ (HE.out.below HB7.out (Nat.le_refl _)) (HF.out.bel HB7.out) HSM.out (by omega)).mono ?_
      rw [HR.out]
      rintro e w8 ⟨rfl, hb⟩
      unfold ansV
      have HB8 := Lib.hid (HB7.out.trans (hb.mono HB7.out.size)); have HQ8 := Lib.hid (HQ7.out.trans (hb.mono HQ7.out.size))
      have HG8 := Lib.hid (blk.new w8 #[.int .i64 r0, .int .i64 r1] 26)
      have HB8a := Lib.hid (HB8.out.alloc HB8.out.size (.cells #[.int .i64 r0, .int .i64 r1] 26)); have HQ8a := Lib.hid (HQ8.out.alloc HQ8.out.size (.cells #[.int .i64 r0, .int .i64 r1] 26))
      have HZ8 : Hid (w4.heap.size ≤ w8.heap.size) := HQ8.out.size
      clear hb
      go_wp2_with fail
      generalize w8.alloc (.cells #[.int .i64 r0, .int .i64 r1] 26) = g8 at *
      generalize w8.heap.size = B8 at *
      refine (request_any _ M _ (HE.out.below HB8a.out (Nat.le_refl _)) (HO4.out.fl.bel HQ8a.out) HSMM.out (by have := HMl.out; omega)).mono ?_
      rw [HA.out]
      rintro e w9 ⟨rfl, hb⟩
      unfold ansV
      have HB9 := Lib.hid (HB8a.out.trans (hb.mono HB8a.out.size)); have HQ9 := Lib.hid (HQ8a.out.trans (hb.mono HQ8a.out.size))
      have HG8 := Lib.hid ((HG8.out.below hb).alloc (.cells #[.int .i64 r0, .int .i64 r1] 26))
      have HG9 := Lib.hid (blk.new w9 #[.int .i64 r0, .int .i64 r1] 26)
      have HB9a := Lib.hid (HB9.out.alloc HB9.out.size (.cells #[.int .i64 r0, .int .i64 r1] 26)); have HQ9a := Lib.hid (HQ9.out.alloc HQ9.out.size (.cells #[.int .i64 r0, .int .i64 r1] 26))
      have HZ9 : Hid (w4.heap.size ≤ w9.heap.size) := HQ9.out.size
      clear hb
      go_wp2_with fail
      generalize w9.alloc (.cells #[.int .i64 r0, .int .i64 r1] 26) = g9 at *
      generalize w9.heap.size = B9 at *
      refine (reply_any _ l 200 false _ (HE.out.below HB9a.out (Nat.le_refl _)) (HF.out.bel HB9a.out) HSM.out (by omega)).mono ?_
      rw [HTQ.out]
      rintro e w10 ⟨rfl, hb⟩
      unfold ansV
      have HB10 := Lib.hid (HB9a.out.trans (hb.mono HB9a.out.size)); have HQ10 := Lib.hid (HQ9a.out.trans (hb.mono HQ9a.out.size))
      have HG8 := Lib.hid ((HG8.out.below hb).alloc (.cells #[.int .i64 q0, .int .i64 q1] 26))
      have HG9 := Lib.hid ((HG9.out.below hb).alloc (.cells #[.int .i64 q0, .int .i64 q1] 26))
      have HG10 := Lib.hid (blk.new w10 #[.int .i64 q0, .int .i64 q1] 26)
      have HB10a := Lib.hid (HB10.out.alloc HB10.out.size (.cells #[.int .i64 q0, .int .i64 q1] 26)); have HQ10a := Lib.hid (HQ10.out.alloc HQ10.out.size (.cells #[.int .i64 q0, .int .i64 q1] 26))
      have HZ10 : Hid (w4.heap.size ≤ w10.heap.size) := HQ10.out.size
      clear hb
      go_wp2_with fail
      generalize w10.alloc (.cells #[.int .i64 q0, .int .i64 q1] 26) = g10 at *
      generalize w10.heap.size = B10 at *
      refine (reply_any _ M 200 false _ (HE.out.below HB10a.out (Nat.le_refl _)) (HO4.out.fl.bel HQ10a.out) HSMM.out (by have := HMl.out; omega)).mono ?_
      rw [HT.out]
      rintro e w11 ⟨rfl, hb⟩
      unfold ansV
      have HB11 := Lib.hid (HB10a.out.trans (hb.mono HB10a.out.size)); have HQ11 := Lib.hid (HQ10a.out.trans (hb.mono HQ10a.out.size))
      have HG8 := Lib.hid ((HG8.out.below hb).alloc (.cells #[.int .i64 q0, .int .i64 q1] 26))
      have HG9 := Lib.hid ((HG9.out.below hb).alloc (.cells #[.int .i64 q0, .int .i64 q1] 26))
      have HG10 := Lib.hid ((HG10.out.below hb).alloc (.cells #[.int .i64 q0, .int .i64 q1] 26))
      have HG11 := Lib.hid (blk.new w11 #[.int .i64 q0, .int .i64 q1] 26)
      have HB11a := Lib.hid (HB11.out.alloc HB11.out.size (.cells #[.int .i64 q0, .int .i64 q1] 26)); have HQ11a := Lib.hid (HQ11.out.alloc HQ11.out.size (.cells #[.int .i64 q0, .int .i64 q1] 26))
      have HZ11 : Hid (w4.heap.size ≤ w11.heap.size) := HQ11.out.size
      clear hb
      have x8 := HG8.out.cell 0 (.int .i64 r0) rfl
      have y8 := HG8.out.cell 1 (.int .i64 r1) rfl
      have x9 := HG9.out.cell 0 (.int .i64 r0) rfl
      have y9 := HG9.out.cell 1 (.int .i64 r1) rfl
      have x10 := HG10.out.cell 0 (.int .i64 q0) rfl
      have y10 := HG10.out.cell 1 (.int .i64 q1) rfl
      have x11 := HG11.out.cell 0 (.int .i64 q0) rfl
      have y11 := HG11.out.cell 1 (.int .i64 q1) rfl
      have hcmp := run_neqR_same
      go_wp2_with fail
      clear hcmp x8 y8 x9 y9 x10 y10 x11 y11
      generalize w11.alloc (.cells #[.int .i64 q0, .int .i64 q1] 26) = g11 at *
      generalize w11.heap.size = B11 at *
      have hvl := values_any _ l clN _ (HF.out.bel HB11a.out) HSM.out (by omega) (by decide)
      rw [← bs_cl] at hvl
      have HMEM : Hid (∀ s ∈ valsL l clN, askR (M ++ [(clU, s)]) = (r0, r1, r2)) := fun s hs => by rw [ask_again M s (by rw [HVM.out]; exact hs)]; exact HA.out
      have HVS : Hid (∀ s ∈ valsL l clN, s.length ≤ 12000) := fun s hs => Nat.le_trans (memF_flat hs) (Nat.le_trans (vals_flat l clN) hz)
      generalize valsL l clN = sd at *
      have HVL := Lib.hid hvl; clear hvl
      refine HVL.out.mono ?_
      rintro e w12 ⟨v12, rfl, ho12, hb12⟩
      obtain ⟨A12, c12, rfl⟩ := ho12.form
      have HB12 := Lib.hid (HB11a.out.trans (hb12.mono HB11a.out.size)); have HQ12 := Lib.hid (HQ11a.out.trans (hb12.mono HQ11a.out.size)); have HG12 := Lib.hid (HG8.out.below hb12)
      have HS12 := Lib.hid ho12.sl; clear ho12 hb12 HVL
      by_cases hsd : sd.length = 0
      · have hsd' : ((sd.length : Int) == 0) = true := by rw [beq_iff_eq]; omega
        clear hsd
        go_wp2_with fail
        refine (works_any _ (HE.out.below HB12.out (Nat.le_refl _))).mono ?_
        rintro e w99 ⟨rfl, hb⟩
        have HB99 := Lib.hid (HB12.out.trans (hb.mono HB12.out.size)); clear hb
        go_wp2_with fail
        go_ret
        exact ⟨rfl, HB99.out⟩
      · have hsd' : ((sd.length : Int) == 0) = false := by rw [beq_eq_false_iff_ne]; omega
        have hsp : 0 < sd.length := by omega
        have hspi : (0 : Int) < (sd.length : Int) := by omega
        obtain ⟨bs0, off0, rfl, _, hc0⟩ := HS12.out.get 0 hsp
        rw [Nat.add_zero] at hc0
        have HRM := Lib.hid (HMEM.out _ (List.getElem_mem hsp)); have HXS := Lib.hid (HVS.out _ (List.getElem_mem hsp))
        generalize sd[0] = y at *
        clear hsd
        have HO12 := Lib.hid (HO4.out.bel HQ12.out)
        have HO13 := Lib.hid (HO12.out.alloc (.cells #[.string (bs clU), .string (bs y)] 38))
        have HB13 := Lib.hid (HB12.out.alloc HB12.out.size (.cells #[.string (bs clU), .string (bs y)] 38))
        have HG13 := Lib.hid (HG12.out.alloc (.cells #[.string (bs clU), .string (bs y)] 38))
        have HN13 := Lib.hid (FL_lit w12 (clU, y))
        have HZ13 : Hid (w1.heap.size ≤ (w12.alloc (.cells #[.string (bs clU), .string (bs y)] 38)).heap.size) := by
          have h1 := HZ4.out; have h2 := HZ3a.out; have h3 := HQ12.out.size
          show _ ≤ _; simp; omega
        have HL13 : Hid (M.length + [(clU, y)].length ≤ 4294967296) := by show _ ≤ _; have := HMl.out; simp; omega
        have HOW : Hid ((Value.slice A4 M.length c4).ownBlock ≠ some B8) := fun e => by
          have h1 := (World.ownsRow.lt HO4.out _ e).2; have h2 := HZ8.out; omega
        go_wp2_with (at_builtin; refine wpList_appFX rfl (.tmp 113) (.tmp 118) rfl w1.heap.size w.heap.size _ _ M [(clU, y)] rfl HO13.out HB13.out (Nat.le_of_lt hBw) HZ13.out rfl HN13.out HL13.out ?_; intro v14 w14 HO14 HB14 HX14; obtain ⟨N, HNN⟩ : ∃ N, Hid (M ++ [(clU, y)] = N) := ⟨_, rfl⟩; rw [HNN.out] at HO14; obtain ⟨A14, c14, rfl⟩ := HO14.out.form; have HG14 := Lib.hid (HG13.out.keep (HX14.out _ HG13.out.lt HOW.out)))
        have HRN : Hid (askR N = (r0, r1, r2)) := by show _ = _; rw [← HNN.out]; exact HRM.out
        have HNL : Hid (N.length ≤ 82) := by show _ ≤ _; rw [← HNN.out]; have := HMl.out; simp; omega
        have HSM14 : Hid (smallF N) := by
         rw [← HNN.out]
         exact fun j hj => by
          have hm := List.getElem_mem hj
          rw [List.mem_append] at hm
          rcases hm with hm | hm
          · obtain ⟨i, hi, he⟩ := List.getElem_of_mem hm
            rw [← he]; exact HSMM.out i hi
          · rw [List.mem_singleton.1 hm]
            exact ⟨(show clU.length ≤ 4294967296 from by decide), (show y.length ≤ 4294967296 from by have := HXS.out; omega)⟩
        refine (request_any _ N _ (HE.out.below HB14.out (Nat.le_refl _)) HO14.out.fl HSM14.out (by have := HNL.out; omega)).mono ?_
        rw [HRN.out]
        rintro e w15 ⟨rfl, hb⟩
        unfold ansV
        have HB15 := Lib.hid (HB14.out.trans (hb.mono HB14.out.size))
        have HB16 := Lib.hid (HB15.out.alloc HB15.out.size (.cells #[.int .i64 r0, .int .i64 r1] 26))
        have hg8 := (HG14.out.below hb).alloc (.cells #[.int .i64 r0, .int .i64 r1] 26)
        have x8 := hg8.cell 0 (.int .i64 r0) rfl
        have y8 := hg8.cell 1 (.int .i64 r1) rfl
        have hcmp := run_eqlR_same
        clear hb hg8
        go_wp2_with fail
        refine (works_any _ (HE.out.below HB16.out (Nat.le_refl _))).mono ?_
        rintro e w99 ⟨rfl, hb⟩
        have HB99 := Lib.hid (HB16.out.trans (hb.mono HB16.out.size)); clear hb
        go_wp2_with fail
        go_ret
        exact ⟨rfl, HB99.out⟩
    · simp only [hs2, if_true] at hvb
      have HVA := Lib.hid hva; have HVB := Lib.hid hvb; clear hva hvb hs1 hs2
      refine HVA.out.mono ?_
      rintro e w6 ⟨v6, rfl, ho6, hb6⟩
      obtain ⟨A6, c6, rfl⟩ := ho6.form
      have HB6 := Lib.hid (HB5.out.trans (hb6.mono HB5.out.size)); clear ho6
      go_wp2_with fail
      refine (HVB.out _ hb6).mono ?_
      rintro e w7 ⟨v7, rfl, ho7, hb7⟩
      obtain ⟨A7, c7, rfl⟩ := ho7.form
      have HB7 := Lib.hid (HB6.out.trans (hb7.mono HB6.out.size)); clear ho7 hb6 hb7
      go_wp2_with fail
      refine (works_any _ (HE.out.below HB7.out (Nat.le_refl _))).mono ?_
      rintro e w99 ⟨rfl, hb⟩
      have HB99 := Lib.hid (HB7.out.trans (hb.mono HB7.out.size)); clear hb
      go_wp2_with fail
      go_ret
      exact ⟨rfl, HB99.out⟩
  · simp only [hs1, if_true] at hva
    have HVA := Lib.hid hva; clear hva hvb hs1
    refine HVA.out.mono ?_
    rintro e w6 ⟨v6, rfl, ho6, hb6⟩
    obtain ⟨A6, c6, rfl⟩ := ho6.form
    have HB6 := Lib.hid (HB5.out.trans (hb6.mono HB5.out.size)); clear ho6 hb6
    go_wp2_with fail
    refine (works_any _ (HE.out.below HB6.out (Nat.le_refl _))).mono ?_
    rintro e w99 ⟨rfl, hb⟩
    have HB99 := Lib.hid (HB6.out.trans (hb.mono HB6.out.size)); clear hb
    go_wp2_with fail
    go_ret
    exact ⟨rfl, HB99.out⟩

set_option maxRecDepth 100000 in
set_option maxHeartbeats 8000000 in
theorem only2 (a : Addr) (l : List Fld) (n x : List UInt8) (p : Int) (w : World) (c : Nat) (H : OnlyMem (.slice (some a) 0 c) l n x p w 0) (hll : l.length = 0) : OnlyWay (.slice (some a) 0 c) n x p w := by
  obtain ⟨hp0, he, hf, hl80, hz, hsm, hf1, hf2, hal, hfb, hfw, hbig, hk, hkm⟩ := H
  have HE := Lib.hid he; have HF := Lib.hid hf; have HSM := Lib.hid hsm; have HAL := Lib.hid hal; have HFB := Lib.hid hfb; have HFW := Lib.hid hfw
  clear he hf hsm hal hfb hfw
  unfold OnlyWay
  have HLL := Lib.hid hll; clear hll hkm
  obtain ⟨T, HTE⟩ : ∃ T, Hid (l.take 0 = T) := ⟨_, rfl⟩
  obtain ⟨D, HDE⟩ : ∃ D, Hid (l.drop 0 = D) := ⟨_, rfl⟩
  have HTL : Hid (T.length = 0) := by show _ = _; rw [← HTE.out, List.length_take]; omega
  have HDL : Hid (D.length = l.length - 0) := by show _ = _; rw [← HDE.out, List.length_drop]
  have HLT : Hid (([] : List Fld).length + T.length ≤ 4294967296) := by show _ ≤ _; have := HTL.out; simp; omega
  go_enter Tryd.func5, Tryd.ntmps5
  go_wp2_with fail
  refine HFW.out.mono ?_
  rintro e w1 ⟨rfl, hb1⟩
  have HB1 := Lib.hid (HAL.out.trans (hb1.mono HAL.out.size)); have HFB1 := Lib.hid (HFB.out.below hb1)
  have c0 := HFB1.out.cell 0 (.string (bs n)) rfl
  have c1 := HFB1.out.cell 1 (.string (bs x)) rfl
  have hBw : w.heap.size < w1.heap.size := HFB1.out.lt
  clear hb1
  have hne : ((l.length : Int) + 1) ≠ 0 := by omega
  have HF1 := Lib.hid (HF.out.bel HB1.out)
  have tok1 : True := trivial
  go_wp2_with (first | (at_builtin; have := tok1; refine wpList_appFF rfl (.tmp 41) (.tmp 44) rfl w1.heap.size w.heap.size _ _ [] T rfl (ownF_nil _ _) HB1.out (Nat.le_of_lt hBw) (Nat.le_refl _) rfl (.inl ⟨List.eq_nil_of_length_eq_zero (by have := HTL.out; omega), _, _, rfl⟩) HLT.out ?_; intro v2 w2 HO2 HB2 HK2 HZ2; obtain ⟨M1, HM1⟩ : ∃ M1, Hid (([] : List Fld) ++ T = M1) := ⟨_, rfl⟩; rw [HM1.out] at HO2; obtain ⟨A2, c2, rfl⟩ := HO2.out.form; have HFB2 := Lib.hid (HFB1.out.keep (HK2.out _ hBw)); have c0' := HFB2.out.cell 0 (.string (bs n)) rfl; have c1' := HFB2.out.cell 1 (.string (bs x)) rfl; clear this tok1) | (at_builtin; have HO2a := Lib.hid (HO2.out.alloc (.cells #[.string (bs n), .string (bs x)] 38)); have HB2a := Lib.hid (HB2.out.alloc HB2.out.size (.cells #[.string (bs n), .string (bs x)] 38)); have HN2 := Lib.hid (FL_lit w2 (n, x)); have HZ2a : Hid (w1.heap.size ≤ (w2.alloc (.cells #[.string (bs n), .string (bs x)] 38)).heap.size) := (by show _ ≤ _; have := HZ2.out; simp; omega); have HL2 : Hid (M1.length + [(n, x)].length ≤ 4294967296) := (by show _ ≤ _; have := HTL.out; rw [← HM1.out]; simp; omega); refine wpList_appFF rfl (.tmp 46) (.tmp 48) rfl w1.heap.size w.heap.size _ _ M1 [(n, x)] rfl HO2a.out HB2a.out (Nat.le_of_lt hBw) HZ2a.out rfl HN2.out HL2.out ?_; intro v3 w3 HO3 HB3 HK3 HZ3; obtain ⟨M2, HM2⟩ : ∃ M2, Hid (M1 ++ [(n, x)] = M2) := ⟨_, rfl⟩; rw [HM2.out] at HO3; obtain ⟨A3, c3, rfl⟩ := HO3.out.form; have HFB3 := Lib.hid ((HFB2.out.alloc (.cells #[.string (bs n), .string (bs x)] 38)).keep (HK3.out _ hBw)); have HF3 := Lib.hid (HF.out.bel HB3.out); have HZ3a : Hid (w1.heap.size ≤ w3.heap.size) := Nat.le_trans HZ2a.out HZ3.out; clear HO2 HO2a HN2) | (at_builtin; have HL3 : Hid (M2.length + D.length ≤ 4294967296) := (by show _ ≤ _; have := HTL.out; have := HDL.out; rw [← HM2.out, ← HM1.out]; simp; omega); refine wpList_appFF rfl (.tmp 50) (.tmp 53) rfl w1.heap.size w.heap.size _ _ M2 D rfl HO3.out HB3.out (Nat.le_of_lt hBw) HZ3a.out rfl (.inl ⟨List.eq_nil_of_length_eq_zero (by have := HDL.out; have := HLL.out; omega), _, _, rfl⟩) HL3.out ?_; intro v4 w4 HO4 HB4 HK4 HZ4; obtain ⟨M, HM⟩ : ∃ M, Hid (M2 ++ D = M) := ⟨_, rfl⟩; rw [HM.out] at HO4; obtain ⟨A4, c4, rfl⟩ := HO4.out.form; have HFB4 := Lib.hid (HFB3.out.keep (HK4.out _ hBw)); have c0'' := HFB4.out.cell 0 (.string (bs n)) rfl; have c1'' := HFB4.out.cell 1 (.string (bs x)) rfl; have hb5 : Below w.heap.size w (w4.alloc (.cells #[.string (bs n), .string (bs x)] 38)) := HB4.out.alloc HB4.out.size _; have hb45 : Below w4.heap.size w4 (w4.alloc (.cells #[.string (bs n), .string (bs x)] 38)) := (Below.refl _ _).alloc (Nat.le_refl _) _; have HB5 := Lib.hid hb5; have HQ5 := Lib.hid hb45; have HN5 := Lib.hid (FL_lit w4 (n, x)); clear hb5 hb45 HO3))
  have HME : Hid (M = l.take 0 ++ (n, x) :: l.drop 0) := by show _ = _; rw [← HM.out, ← HM2.out, ← HM1.out, ← HTE.out, ← HDE.out]; simp
  have HMl : Hid (M.length ≤ 81) := by show _ ≤ _; rw [HME.out]; simp; omega
  have hva := values_any _ [(n, x)] clN _ HN5.out (small_of (by simp [sizeL]; omega)) (by simp) (by decide)
  rw [vals_one] at hva
  rw [← bs_cl] at hva
  have hvb := fun W hb => values_any _ [(n, x)] teN W (HN5.out.bel hb) (small_of (by simp [sizeL]; omega)) (by simp) (by decide)
  rw [vals_one] at hvb
  rw [← bs_te] at hvb
  cases hs1 : sameN n clN
  · simp only [hs1, Bool.false_eq_true, if_false] at hva
    cases hs2 : sameN n teN
    · simp only [hs2, Bool.false_eq_true, if_false] at hvb
      have HVA := Lib.hid hva; have HVB := Lib.hid hvb; clear hva hvb
      have HA : Hid (askR M = askR l) := by show _ = _; rw [HME.out]; exact ask_ins l (n, x) 0 hs1 hs2
      have HT : Hid (tellR M 200 false = tellR l 200 false) := by show _ = _; rw [HME.out]; exact tell_ins l (n, x) 0 200 false hs1 hs2
      have HVM : Hid (valsL M clN = valsL l clN) := by show _ = _; rw [HME.out]; exact vals_ins l (n, x) 0 hs1
      have HSMM : Hid (smallF M) := small_of (by
        rw [HME.out]
        have h1 : sizeL (l.take 0 ++ (n, x) :: l.drop 0) = sizeL (l.take 0) + (n.length + x.length + sizeL (l.drop 0)) := by rw [sizeL_append, sizeL_cons]
        have h2 : sizeL l = sizeL (l.take 0) + sizeL (l.drop 0) := by rw [← sizeL_append, List.take_append_drop]
        omega)
      clear hs1 hs2
      refine HVA.out.mono ?_
      rintro e w6 ⟨v6, rfl, ho6, hb6⟩
      obtain ⟨A6, c6, rfl⟩ := ho6.form
      have HB6 := Lib.hid (HB5.out.trans (hb6.mono HB5.out.size)); have HQ6 := Lib.hid (HQ5.out.trans (hb6.mono HQ5.out.size)); clear ho6
      go_wp2_with fail
      refine (HVB.out _ hb6).mono ?_
      rintro e w7 ⟨v7, rfl, ho7, hb7⟩
      obtain ⟨A7, c7, rfl⟩ := ho7.form
      have HB7 := Lib.hid (HB6.out.trans (hb7.mono HB6.out.size)); have HQ7 := Lib.hid (HQ6.out.trans (hb7.mono HQ6.out.size)); clear ho7 hb6 hb7
      go_wp2_with fail
      generalize hr : askR l = r at *
      have HR := Lib.hid hr; clear hr
      generalize hq : tellR l 200 false = q at *
      have HTQ := Lib.hid hq; clear hq
      obtain ⟨r0, r1, r2⟩ := r
      obtain ⟨q0, q1, q2⟩ := q
      refine (request_any _ l _ (HE.out.below HB7.out (Nat.le_refl _)) (HF.out.bel HB7.out) HSM.out (by omega)).mono ?_
      rw [HR.out]
      rintro e w8 ⟨rfl, hb⟩
      unfold ansV
      have HB8 := Lib.hid (HB7.out.trans (hb.mono HB7.out.size)); have HQ8 := Lib.hid (HQ7.out.trans (hb.mono HQ7.out.size))
      have HG8 := Lib.hid (blk.new w8 #[.int .i64 r0, .int .i64 r1] 26)
      have HB8a := Lib.hid (HB8.out.alloc HB8.out.size (.cells #[.int .i64 r0, .int .i64 r1] 26)); have HQ8a := Lib.hid (HQ8.out.alloc HQ8.out.size (.cells #[.int .i64 r0, .int .i64 r1] 26))
      have HZ8 : Hid (w4.heap.size ≤ w8.heap.size) := HQ8.out.size
      clear hb
      go_wp2_with fail
      generalize w8.alloc (.cells #[.int .i64 r0, .int .i64 r1] 26) = g8 at *
      generalize w8.heap.size = B8 at *
      refine (request_any _ M _ (HE.out.below HB8a.out (Nat.le_refl _)) (HO4.out.fl.bel HQ8a.out) HSMM.out (by have := HMl.out; omega)).mono ?_
      rw [HA.out]
      rintro e w9 ⟨rfl, hb⟩
      unfold ansV
      have HB9 := Lib.hid (HB8a.out.trans (hb.mono HB8a.out.size)); have HQ9 := Lib.hid (HQ8a.out.trans (hb.mono HQ8a.out.size))
      have HG8 := Lib.hid ((HG8.out.below hb).alloc (.cells #[.int .i64 r0, .int .i64 r1] 26))
      have HG9 := Lib.hid (blk.new w9 #[.int .i64 r0, .int .i64 r1] 26)
      have HB9a := Lib.hid (HB9.out.alloc HB9.out.size (.cells #[.int .i64 r0, .int .i64 r1] 26)); have HQ9a := Lib.hid (HQ9.out.alloc HQ9.out.size (.cells #[.int .i64 r0, .int .i64 r1] 26))
      have HZ9 : Hid (w4.heap.size ≤ w9.heap.size) := HQ9.out.size
      clear hb
      go_wp2_with fail
      generalize w9.alloc (.cells #[.int .i64 r0, .int .i64 r1] 26) = g9 at *
      generalize w9.heap.size = B9 at *
      refine (reply_any _ l 200 false _ (HE.out.below HB9a.out (Nat.le_refl _)) (HF.out.bel HB9a.out) HSM.out (by omega)).mono ?_
      rw [HTQ.out]
      rintro e w10 ⟨rfl, hb⟩
      unfold ansV
      have HB10 := Lib.hid (HB9a.out.trans (hb.mono HB9a.out.size)); have HQ10 := Lib.hid (HQ9a.out.trans (hb.mono HQ9a.out.size))
      have HG8 := Lib.hid ((HG8.out.below hb).alloc (.cells #[.int .i64 q0, .int .i64 q1] 26))
      have HG9 := Lib.hid ((HG9.out.below hb).alloc (.cells #[.int .i64 q0, .int .i64 q1] 26))
      have HG10 := Lib.hid (blk.new w10 #[.int .i64 q0, .int .i64 q1] 26)
      have HB10a := Lib.hid (HB10.out.alloc HB10.out.size (.cells #[.int .i64 q0, .int .i64 q1] 26)); have HQ10a := Lib.hid (HQ10.out.alloc HQ10.out.size (.cells #[.int .i64 q0, .int .i64 q1] 26))
      have HZ10 : Hid (w4.heap.size ≤ w10.heap.size) := HQ10.out.size
      clear hb
      go_wp2_with fail
      generalize w10.alloc (.cells #[.int .i64 q0, .int .i64 q1] 26) = g10 at *
      generalize w10.heap.size = B10 at *
      refine (reply_any _ M 200 false _ (HE.out.below HB10a.out (Nat.le_refl _)) (HO4.out.fl.bel HQ10a.out) HSMM.out (by have := HMl.out; omega)).mono ?_
      rw [HT.out]
      rintro e w11 ⟨rfl, hb⟩
      unfold ansV
      have HB11 := Lib.hid (HB10a.out.trans (hb.mono HB10a.out.size)); have HQ11 := Lib.hid (HQ10a.out.trans (hb.mono HQ10a.out.size))
      have HG8 := Lib.hid ((HG8.out.below hb).alloc (.cells #[.int .i64 q0, .int .i64 q1] 26))
      have HG9 := Lib.hid ((HG9.out.below hb).alloc (.cells #[.int .i64 q0, .int .i64 q1] 26))
      have HG10 := Lib.hid ((HG10.out.below hb).alloc (.cells #[.int .i64 q0, .int .i64 q1] 26))
      have HG11 := Lib.hid (blk.new w11 #[.int .i64 q0, .int .i64 q1] 26)
      have HB11a := Lib.hid (HB11.out.alloc HB11.out.size (.cells #[.int .i64 q0, .int .i64 q1] 26)); have HQ11a := Lib.hid (HQ11.out.alloc HQ11.out.size (.cells #[.int .i64 q0, .int .i64 q1] 26))
      have HZ11 : Hid (w4.heap.size ≤ w11.heap.size) := HQ11.out.size
      clear hb
      have x8 := HG8.out.cell 0 (.int .i64 r0) rfl
      have y8 := HG8.out.cell 1 (.int .i64 r1) rfl
      have x9 := HG9.out.cell 0 (.int .i64 r0) rfl
      have y9 := HG9.out.cell 1 (.int .i64 r1) rfl
      have x10 := HG10.out.cell 0 (.int .i64 q0) rfl
      have y10 := HG10.out.cell 1 (.int .i64 q1) rfl
      have x11 := HG11.out.cell 0 (.int .i64 q0) rfl
      have y11 := HG11.out.cell 1 (.int .i64 q1) rfl
      have hcmp := run_neqR_same
      go_wp2_with fail
      clear hcmp x8 y8 x9 y9 x10 y10 x11 y11
      generalize w11.alloc (.cells #[.int .i64 q0, .int .i64 q1] 26) = g11 at *
      generalize w11.heap.size = B11 at *
      have hvl := values_any _ l clN _ (HF.out.bel HB11a.out) HSM.out (by omega) (by decide)
      rw [← bs_cl] at hvl
      have HMEM : Hid (∀ s ∈ valsL l clN, askR (M ++ [(clU, s)]) = (r0, r1, r2)) := fun s hs => by rw [ask_again M s (by rw [HVM.out]; exact hs)]; exact HA.out
      have HVS : Hid (∀ s ∈ valsL l clN, s.length ≤ 12000) := fun s hs => Nat.le_trans (memF_flat hs) (Nat.le_trans (vals_flat l clN) hz)
      generalize valsL l clN = sd at *
      have HVL := Lib.hid hvl; clear hvl
      refine HVL.out.mono ?_
      rintro e w12 ⟨v12, rfl, ho12, hb12⟩
      obtain ⟨A12, c12, rfl⟩ := ho12.form
      have HB12 := Lib.hid (HB11a.out.trans (hb12.mono HB11a.out.size)); have HQ12 := Lib.hid (HQ11a.out.trans (hb12.mono HQ11a.out.size)); have HG12 := Lib.hid (HG8.out.below hb12)
      have HS12 := Lib.hid ho12.sl; clear ho12 hb12 HVL
      by_cases hsd : sd.length = 0
      · have hsd' : ((sd.length : Int) == 0) = true := by rw [beq_iff_eq]; omega
        clear hsd
        go_wp2_with fail
        refine (works_any _ (HE.out.below HB12.out (Nat.le_refl _))).mono ?_
        rintro e w99 ⟨rfl, hb⟩
        have HB99 := Lib.hid (HB12.out.trans (hb.mono HB12.out.size)); clear hb
        go_wp2_with fail
        go_ret
        exact ⟨rfl, HB99.out⟩
      · have hsd' : ((sd.length : Int) == 0) = false := by rw [beq_eq_false_iff_ne]; omega
        have hsp : 0 < sd.length := by omega
        have hspi : (0 : Int) < (sd.length : Int) := by omega
        obtain ⟨bs0, off0, rfl, _, hc0⟩ := HS12.out.get 0 hsp
        rw [Nat.add_zero] at hc0
        have HRM := Lib.hid (HMEM.out _ (List.getElem_mem hsp)); have HXS := Lib.hid (HVS.out _ (List.getElem_mem hsp))
        generalize sd[0] = y at *
        clear hsd
        have HO12 := Lib.hid (HO4.out.bel HQ12.out)
        have HO13 := Lib.hid (HO12.out.alloc (.cells #[.string (bs clU), .string (bs y)] 38))
        have HB13 := Lib.hid (HB12.out.alloc HB12.out.size (.cells #[.string (bs clU), .string (bs y)] 38))
        have HG13 := Lib.hid (HG12.out.alloc (.cells #[.string (bs clU), .string (bs y)] 38))
        have HN13 := Lib.hid (FL_lit w12 (clU, y))
        have HZ13 : Hid (w1.heap.size ≤ (w12.alloc (.cells #[.string (bs clU), .string (bs y)] 38)).heap.size) := by
          have h1 := HZ4.out; have h2 := HZ3a.out; have h3 := HQ12.out.size
          show _ ≤ _; simp; omega
        have HL13 : Hid (M.length + [(clU, y)].length ≤ 4294967296) := by show _ ≤ _; have := HMl.out; simp; omega
        have HOW : Hid ((Value.slice A4 M.length c4).ownBlock ≠ some B8) := fun e => by
          have h1 := (World.ownsRow.lt HO4.out _ e).2; have h2 := HZ8.out; omega
        go_wp2_with (at_builtin; refine wpList_appFX rfl (.tmp 113) (.tmp 118) rfl w1.heap.size w.heap.size _ _ M [(clU, y)] rfl HO13.out HB13.out (Nat.le_of_lt hBw) HZ13.out rfl HN13.out HL13.out ?_; intro v14 w14 HO14 HB14 HX14; obtain ⟨N, HNN⟩ : ∃ N, Hid (M ++ [(clU, y)] = N) := ⟨_, rfl⟩; rw [HNN.out] at HO14; obtain ⟨A14, c14, rfl⟩ := HO14.out.form; have HG14 := Lib.hid (HG13.out.keep (HX14.out _ HG13.out.lt HOW.out)))
        have HRN : Hid (askR N = (r0, r1, r2)) := by show _ = _; rw [← HNN.out]; exact HRM.out
        have HNL : Hid (N.length ≤ 82) := by show _ ≤ _; rw [← HNN.out]; have := HMl.out; simp; omega
        have HSM14 : Hid (smallF N) := by
         rw [← HNN.out]
         exact fun j hj => by
          have hm := List.getElem_mem hj
          rw [List.mem_append] at hm
          rcases hm with hm | hm
          · obtain ⟨i, hi, he⟩ := List.getElem_of_mem hm
            rw [← he]; exact HSMM.out i hi
          · rw [List.mem_singleton.1 hm]
            exact ⟨(show clU.length ≤ 4294967296 from by decide), (show y.length ≤ 4294967296 from by have := HXS.out; omega)⟩
        refine (request_any _ N _ (HE.out.below HB14.out (Nat.le_refl _)) HO14.out.fl HSM14.out (by have := HNL.out; omega)).mono ?_
        rw [HRN.out]
        rintro e w15 ⟨rfl, hb⟩
        unfold ansV
        have HB15 := Lib.hid (HB14.out.trans (hb.mono HB14.out.size))
        have HB16 := Lib.hid (HB15.out.alloc HB15.out.size (.cells #[.int .i64 r0, .int .i64 r1] 26))
        have hg8 := (HG14.out.below hb).alloc (.cells #[.int .i64 r0, .int .i64 r1] 26)
        have x8 := hg8.cell 0 (.int .i64 r0) rfl
        have y8 := hg8.cell 1 (.int .i64 r1) rfl
        have hcmp := run_eqlR_same
        clear hb hg8
        go_wp2_with fail
        refine (works_any _ (HE.out.below HB16.out (Nat.le_refl _))).mono ?_
        rintro e w99 ⟨rfl, hb⟩
        have HB99 := Lib.hid (HB16.out.trans (hb.mono HB16.out.size)); clear hb
        go_wp2_with fail
        go_ret
        exact ⟨rfl, HB99.out⟩
    · simp only [hs2, if_true] at hvb
      have HVA := Lib.hid hva; have HVB := Lib.hid hvb; clear hva hvb hs1 hs2
      refine HVA.out.mono ?_
      rintro e w6 ⟨v6, rfl, ho6, hb6⟩
      obtain ⟨A6, c6, rfl⟩ := ho6.form
      have HB6 := Lib.hid (HB5.out.trans (hb6.mono HB5.out.size)); clear ho6
      go_wp2_with fail
      refine (HVB.out _ hb6).mono ?_
      rintro e w7 ⟨v7, rfl, ho7, hb7⟩
      obtain ⟨A7, c7, rfl⟩ := ho7.form
      have HB7 := Lib.hid (HB6.out.trans (hb7.mono HB6.out.size)); clear ho7 hb6 hb7
      go_wp2_with fail
      refine (works_any _ (HE.out.below HB7.out (Nat.le_refl _))).mono ?_
      rintro e w99 ⟨rfl, hb⟩
      have HB99 := Lib.hid (HB7.out.trans (hb.mono HB7.out.size)); clear hb
      go_wp2_with fail
      go_ret
      exact ⟨rfl, HB99.out⟩
  · simp only [hs1, if_true] at hva
    have HVA := Lib.hid hva; clear hva hvb hs1
    refine HVA.out.mono ?_
    rintro e w6 ⟨v6, rfl, ho6, hb6⟩
    obtain ⟨A6, c6, rfl⟩ := ho6.form
    have HB6 := Lib.hid (HB5.out.trans (hb6.mono HB5.out.size)); clear ho6 hb6
    go_wp2_with fail
    refine (works_any _ (HE.out.below HB6.out (Nat.le_refl _))).mono ?_
    rintro e w99 ⟨rfl, hb⟩
    have HB99 := Lib.hid (HB6.out.trans (hb.mono HB6.out.size)); clear hb
    go_wp2_with fail
    go_ret
    exact ⟨rfl, HB99.out⟩

set_option maxRecDepth 100000 in
set_option maxHeartbeats 8000000 in
theorem only3 (b off : Nat) (l : List Fld) (n x : List UInt8) (p : Int) (w : World) (k : Nat) (H : OnlyMem (.slice (some ⟨b, off, none⟩) l.length k) l n x p w k) (hpos : 0 < l.length) (hlc : l.length ≤ k) : OnlyWay (.slice (some ⟨b, off, none⟩) l.length k) n x p w := by
  obtain ⟨hp0, he, hf, hl80, hz, hsm, hf1, hf2, hal, hfb, hfw, hbig, hk, hkm⟩ := H
  have HE := Lib.hid he; have HF := Lib.hid hf; have HSM := Lib.hid hsm; have HAL := Lib.hid hal; have HFB := Lib.hid hfb; have HFW := Lib.hid hfw
  clear he hf hsm hal hfb hfw
  unfold OnlyWay
  have hc0 : ¬ k = 0 := by omega
  obtain ⟨T, HTE⟩ : ∃ T, Hid (l.take k = T) := ⟨_, rfl⟩
  obtain ⟨D, HDE⟩ : ∃ D, Hid (l.drop k = D) := ⟨_, rfl⟩
  have HTL : Hid (T.length = k) := by show _ = _; rw [← HTE.out, List.length_take]; omega
  have HDL : Hid (D.length = l.length - k) := by show _ = _; rw [← HDE.out, List.length_drop]
  have HLT : Hid (([] : List Fld).length + T.length ≤ 4294967296) := by show _ ≤ _; have := HTL.out; simp; omega
  go_enter Tryd.func5, Tryd.ntmps5
  go_wp2_with fail
  refine HFW.out.mono ?_
  rintro e w1 ⟨rfl, hb1⟩
  have HB1 := Lib.hid (HAL.out.trans (hb1.mono HAL.out.size)); have HFB1 := Lib.hid (HFB.out.below hb1)
  have c0 := HFB1.out.cell 0 (.string (bs n)) rfl
  have c1 := HFB1.out.cell 1 (.string (bs x)) rfl
  have hBw : w.heap.size < w1.heap.size := HFB1.out.lt
  clear hb1
  have hne : ((l.length : Int) + 1) ≠ 0 := by omega
  have HF1 := Lib.hid (HF.out.bel HB1.out)
  have tok1 : True := trivial
  go_wp2_with (first | (at_builtin; have := tok1; refine wpList_appFF rfl (.tmp 41) (.tmp 44) rfl w1.heap.size w.heap.size _ _ [] T rfl (ownF_nil _ _) HB1.out (Nat.le_of_lt hBw) (Nat.le_refl _) rfl (by rw [← HTE.out]; exact HF1.out.take k _ hk) HLT.out ?_; intro v2 w2 HO2 HB2 HK2 HZ2; obtain ⟨M1, HM1⟩ : ∃ M1, Hid (([] : List Fld) ++ T = M1) := ⟨_, rfl⟩; rw [HM1.out] at HO2; obtain ⟨A2, c2, rfl⟩ := HO2.out.form; have HFB2 := Lib.hid (HFB1.out.keep (HK2.out _ hBw)); have c0' := HFB2.out.cell 0 (.string (bs n)) rfl; have c1' := HFB2.out.cell 1 (.string (bs x)) rfl; clear this tok1) | (at_builtin; have HO2a := Lib.hid (HO2.out.alloc (.cells #[.string (bs n), .string (bs x)] 38)); have HB2a := Lib.hid (HB2.out.alloc HB2.out.size (.cells #[.string (bs n), .string (bs x)] 38)); have HN2 := Lib.hid (FL_lit w2 (n, x)); have HZ2a : Hid (w1.heap.size ≤ (w2.alloc (.cells #[.string (bs n), .string (bs x)] 38)).heap.size) := (by show _ ≤ _; have := HZ2.out; simp; omega); have HL2 : Hid (M1.length + [(n, x)].length ≤ 4294967296) := (by show _ ≤ _; have := HTL.out; rw [← HM1.out]; simp; omega); refine wpList_appFF rfl (.tmp 46) (.tmp 48) rfl w1.heap.size w.heap.size _ _ M1 [(n, x)] rfl HO2a.out HB2a.out (Nat.le_of_lt hBw) HZ2a.out rfl HN2.out HL2.out ?_; intro v3 w3 HO3 HB3 HK3 HZ3; obtain ⟨M2, HM2⟩ : ∃ M2, Hid (M1 ++ [(n, x)] = M2) := ⟨_, rfl⟩; rw [HM2.out] at HO3; obtain ⟨A3, c3, rfl⟩ := HO3.out.form; have HFB3 := Lib.hid ((HFB2.out.alloc (.cells #[.string (bs n), .string (bs x)] 38)).keep (HK3.out _ hBw)); have HF3 := Lib.hid (HF.out.bel HB3.out); have HZ3a : Hid (w1.heap.size ≤ w3.heap.size) := Nat.le_trans HZ2a.out HZ3.out; clear HO2 HO2a HN2) | (at_builtin; have HL3 : Hid (M2.length + D.length ≤ 4294967296) := (by show _ ≤ _; have := HTL.out; have := HDL.out; rw [← HM2.out, ← HM1.out]; simp; omega); refine wpList_appFF rfl (.tmp 50) (.tmp 53) rfl w1.heap.size w.heap.size _ _ M2 D rfl HO3.out HB3.out (Nat.le_of_lt hBw) HZ3a.out rfl (by rw [← HDE.out]; exact .inl ⟨by rw [List.drop_eq_nil_iff]; omega, _, _, by first | rfl | rw [show l.length - k = 0 from by omega]⟩) HL3.out ?_; intro v4 w4 HO4 HB4 HK4 HZ4; obtain ⟨M, HM⟩ : ∃ M, Hid (M2 ++ D = M) := ⟨_, rfl⟩; rw [HM.out] at HO4; obtain ⟨A4, c4, rfl⟩ := HO4.out.form; have HFB4 := Lib.hid (HFB3.out.keep (HK4.out _ hBw)); have c0'' := HFB4.out.cell 0 (.string (bs n)) rfl; have c1'' := HFB4.out.cell 1 (.string (bs x)) rfl; have hb5 : Below w.heap.size w (w4.alloc (.cells #[.string (bs n), .string (bs x)] 38)) := HB4.out.alloc HB4.out.size _; have hb45 : Below w4.heap.size w4 (w4.alloc (.cells #[.string (bs n), .string (bs x)] 38)) := (Below.refl _ _).alloc (Nat.le_refl _) _; have HB5 := Lib.hid hb5; have HQ5 := Lib.hid hb45; have HN5 := Lib.hid (FL_lit w4 (n, x)); clear hb5 hb45 HO3))
  have HME : Hid (M = l.take k ++ (n, x) :: l.drop k) := by show _ = _; rw [← HM.out, ← HM2.out, ← HM1.out, ← HTE.out, ← HDE.out]; simp
  have HMl : Hid (M.length ≤ 81) := by show _ ≤ _; rw [HME.out]; simp; omega
  have hva := values_any _ [(n, x)] clN _ HN5.out (small_of (by simp [sizeL]; omega)) (by simp) (by decide)
  rw [vals_one] at hva
  rw [← bs_cl] at hva
  have hvb := fun W hb => values_any _ [(n, x)] teN W (HN5.out.bel hb) (small_of (by simp [sizeL]; omega)) (by simp) (by decide)
  rw [vals_one] at hvb
  rw [← bs_te] at hvb
  cases hs1 : sameN n clN
  · simp only [hs1, Bool.false_eq_true, if_false] at hva
    cases hs2 : sameN n teN
    · simp only [hs2, Bool.false_eq_true, if_false] at hvb
      have HVA := Lib.hid hva; have HVB := Lib.hid hvb; clear hva hvb
      have HA : Hid (askR M = askR l) := by show _ = _; rw [HME.out]; exact ask_ins l (n, x) k hs1 hs2
      have HT : Hid (tellR M 200 false = tellR l 200 false) := by show _ = _; rw [HME.out]; exact tell_ins l (n, x) k 200 false hs1 hs2
      have HVM : Hid (valsL M clN = valsL l clN) := by show _ = _; rw [HME.out]; exact vals_ins l (n, x) k hs1
      have HSMM : Hid (smallF M) := small_of (by
        rw [HME.out]
        have h1 : sizeL (l.take k ++ (n, x) :: l.drop k) = sizeL (l.take k) + (n.length + x.length + sizeL (l.drop k)) := by rw [sizeL_append, sizeL_cons]
        have h2 : sizeL l = sizeL (l.take k) + sizeL (l.drop k) := by rw [← sizeL_append, List.take_append_drop]
        omega)
      clear hs1 hs2
      refine HVA.out.mono ?_
      rintro e w6 ⟨v6, rfl, ho6, hb6⟩
      obtain ⟨A6, c6, rfl⟩ := ho6.form
      have HB6 := Lib.hid (HB5.out.trans (hb6.mono HB5.out.size)); have HQ6 := Lib.hid (HQ5.out.trans (hb6.mono HQ5.out.size)); clear ho6
      go_wp2_with fail
      refine (HVB.out _ hb6).mono ?_
      rintro e w7 ⟨v7, rfl, ho7, hb7⟩
      obtain ⟨A7, c7, rfl⟩ := ho7.form
      have HB7 := Lib.hid (HB6.out.trans (hb7.mono HB6.out.size)); have HQ7 := Lib.hid (HQ6.out.trans (hb7.mono HQ6.out.size)); clear ho7 hb6 hb7
      go_wp2_with fail
      generalize hr : askR l = r at *
      have HR := Lib.hid hr; clear hr
      generalize hq : tellR l 200 false = q at *
      have HTQ := Lib.hid hq; clear hq
      obtain ⟨r0, r1, r2⟩ := r
      obtain ⟨q0, q1, q2⟩ := q
      refine (request_any _ l _ (HE.out.below HB7.out (Nat.le_refl _)) (HF.out.bel HB7.out) HSM.out (by omega)).mono ?_
      rw [HR.out]
      rintro e w8 ⟨rfl, hb⟩
      unfold ansV
      have HB8 := Lib.hid (HB7.out.trans (hb.mono HB7.out.size)); have HQ8 := Lib.hid (HQ7.out.trans (hb.mono HQ7.out.size))
      have HG8 := Lib.hid (blk.new w8 #[.int .i64 r0, .int .i64 r1] 26)
      have HB8a := Lib.hid (HB8.out.alloc HB8.out.size (.cells #[.int .i64 r0, .int .i64 r1] 26)); have HQ8a := Lib.hid (HQ8.out.alloc HQ8.out.size (.cells #[.int .i64 r0, .int .i64 r1] 26))
      have HZ8 : Hid (w4.heap.size ≤ w8.heap.size) := HQ8.out.size
      clear hb
      go_wp2_with fail
      generalize w8.alloc (.cells #[.int .i64 r0, .int .i64 r1] 26) = g8 at *
      generalize w8.heap.size = B8 at *
      refine (request_any _ M _ (HE.out.below HB8a.out (Nat.le_refl _)) (HO4.out.fl.bel HQ8a.out) HSMM.out (by have := HMl.out; omega)).mono ?_
      rw [HA.out]
      rintro e w9 ⟨rfl, hb⟩
      unfold ansV
      have HB9 := Lib.hid (HB8a.out.trans (hb.mono HB8a.out.size)); have HQ9 := Lib.hid (HQ8a.out.trans (hb.mono HQ8a.out.size))
      have HG8 := Lib.hid ((HG8.out.below hb).alloc (.cells #[.int .i64 r0, .int .i64 r1] 26))
      have HG9 := Lib.hid (blk.new w9 #[.int .i64 r0, .int .i64 r1] 26)
      have HB9a := Lib.hid (HB9.out.alloc HB9.out.size (.cells #[.int .i64 r0, .int .i64 r1] 26)); have HQ9a := Lib.hid (HQ9.out.alloc HQ9.out.size (.cells #[.int .i64 r0, .int .i64 r1] 26))
      have HZ9 : Hid (w4.heap.size ≤ w9.heap.size) := HQ9.out.size
      clear hb
      go_wp2_with fail
      generalize w9.alloc (.cells #[.int .i64 r0, .int .i64 r1] 26) = g9 at *
      generalize w9.heap.size = B9 at *
      refine (reply_any _ l 200 false _ (HE.out.below HB9a.out (Nat.le_refl _)) (HF.out.bel HB9a.out) HSM.out (by omega)).mono ?_
      rw [HTQ.out]
      rintro e w10 ⟨rfl, hb⟩
      unfold ansV
      have HB10 := Lib.hid (HB9a.out.trans (hb.mono HB9a.out.size)); have HQ10 := Lib.hid (HQ9a.out.trans (hb.mono HQ9a.out.size))
      have HG8 := Lib.hid ((HG8.out.below hb).alloc (.cells #[.int .i64 q0, .int .i64 q1] 26))
      have HG9 := Lib.hid ((HG9.out.below hb).alloc (.cells #[.int .i64 q0, .int .i64 q1] 26))
      have HG10 := Lib.hid (blk.new w10 #[.int .i64 q0, .int .i64 q1] 26)
      have HB10a := Lib.hid (HB10.out.alloc HB10.out.size (.cells #[.int .i64 q0, .int .i64 q1] 26)); have HQ10a := Lib.hid (HQ10.out.alloc HQ10.out.size (.cells #[.int .i64 q0, .int .i64 q1] 26))
      have HZ10 : Hid (w4.heap.size ≤ w10.heap.size) := HQ10.out.size
      clear hb
      go_wp2_with fail
      generalize w10.alloc (.cells #[.int .i64 q0, .int .i64 q1] 26) = g10 at *
      generalize w10.heap.size = B10 at *
      refine (reply_any _ M 200 false _ (HE.out.below HB10a.out (Nat.le_refl _)) (HO4.out.fl.bel HQ10a.out) HSMM.out (by have := HMl.out; omega)).mono ?_
      rw [HT.out]
      rintro e w11 ⟨rfl, hb⟩
      unfold ansV
      have HB11 := Lib.hid (HB10a.out.trans (hb.mono HB10a.out.size)); have HQ11 := Lib.hid (HQ10a.out.trans (hb.mono HQ10a.out.size))
      have HG8 := Lib.hid ((HG8.out.below hb).alloc (.cells #[.int .i64 q0, .int .i64 q1] 26))
      have HG9 := Lib.hid ((HG9.out.below hb).alloc (.cells #[.int .i64 q0, .int .i64 q1] 26))
      have HG10 := Lib.hid ((HG10.out.below hb).alloc (.cells #[.int .i64 q0, .int .i64 q1] 26))
      have HG11 := Lib.hid (blk.new w11 #[.int .i64 q0, .int .i64 q1] 26)
      have HB11a := Lib.hid (HB11.out.alloc HB11.out.size (.cells #[.int .i64 q0, .int .i64 q1] 26)); have HQ11a := Lib.hid (HQ11.out.alloc HQ11.out.size (.cells #[.int .i64 q0, .int .i64 q1] 26))
      have HZ11 : Hid (w4.heap.size ≤ w11.heap.size) := HQ11.out.size
      clear hb
      have x8 := HG8.out.cell 0 (.int .i64 r0) rfl
      have y8 := HG8.out.cell 1 (.int .i64 r1) rfl
      have x9 := HG9.out.cell 0 (.int .i64 r0) rfl
      have y9 := HG9.out.cell 1 (.int .i64 r1) rfl
      have x10 := HG10.out.cell 0 (.int .i64 q0) rfl
      have y10 := HG10.out.cell 1 (.int .i64 q1) rfl
      have x11 := HG11.out.cell 0 (.int .i64 q0) rfl
      have y11 := HG11.out.cell 1 (.int .i64 q1) rfl
      have hcmp := run_neqR_same
      go_wp2_with fail
      clear hcmp x8 y8 x9 y9 x10 y10 x11 y11
      generalize w11.alloc (.cells #[.int .i64 q0, .int .i64 q1] 26) = g11 at *
      generalize w11.heap.size = B11 at *
      have hvl := values_any _ l clN _ (HF.out.bel HB11a.out) HSM.out (by omega) (by decide)
      rw [← bs_cl] at hvl
      have HMEM : Hid (∀ s ∈ valsL l clN, askR (M ++ [(clU, s)]) = (r0, r1, r2)) := fun s hs => by rw [ask_again M s (by rw [HVM.out]; exact hs)]; exact HA.out
      have HVS : Hid (∀ s ∈ valsL l clN, s.length ≤ 12000) := fun s hs => Nat.le_trans (memF_flat hs) (Nat.le_trans (vals_flat l clN) hz)
      generalize valsL l clN = sd at *
      have HVL := Lib.hid hvl; clear hvl
      refine HVL.out.mono ?_
      rintro e w12 ⟨v12, rfl, ho12, hb12⟩
      obtain ⟨A12, c12, rfl⟩ := ho12.form
      have HB12 := Lib.hid (HB11a.out.trans (hb12.mono HB11a.out.size)); have HQ12 := Lib.hid (HQ11a.out.trans (hb12.mono HQ11a.out.size)); have HG12 := Lib.hid (HG8.out.below hb12)
      have HS12 := Lib.hid ho12.sl; clear ho12 hb12 HVL
      by_cases hsd : sd.length = 0
      · have hsd' : ((sd.length : Int) == 0) = true := by rw [beq_iff_eq]; omega
        clear hsd
        go_wp2_with fail
        refine (works_any _ (HE.out.below HB12.out (Nat.le_refl _))).mono ?_
        rintro e w99 ⟨rfl, hb⟩
        have HB99 := Lib.hid (HB12.out.trans (hb.mono HB12.out.size)); clear hb
        go_wp2_with fail
        go_ret
        exact ⟨rfl, HB99.out⟩
      · have hsd' : ((sd.length : Int) == 0) = false := by rw [beq_eq_false_iff_ne]; omega
        have hsp : 0 < sd.length := by omega
        have hspi : (0 : Int) < (sd.length : Int) := by omega
        obtain ⟨bs0, off0, rfl, _, hc0⟩ := HS12.out.get 0 hsp
        rw [Nat.add_zero] at hc0
        have HRM := Lib.hid (HMEM.out _ (List.getElem_mem hsp)); have HXS := Lib.hid (HVS.out _ (List.getElem_mem hsp))
        generalize sd[0] = y at *
        clear hsd
        have HO12 := Lib.hid (HO4.out.bel HQ12.out)
        have HO13 := Lib.hid (HO12.out.alloc (.cells #[.string (bs clU), .string (bs y)] 38))
        have HB13 := Lib.hid (HB12.out.alloc HB12.out.size (.cells #[.string (bs clU), .string (bs y)] 38))
        have HG13 := Lib.hid (HG12.out.alloc (.cells #[.string (bs clU), .string (bs y)] 38))
        have HN13 := Lib.hid (FL_lit w12 (clU, y))
        have HZ13 : Hid (w1.heap.size ≤ (w12.alloc (.cells #[.string (bs clU), .string (bs y)] 38)).heap.size) := by
          have h1 := HZ4.out; have h2 := HZ3a.out; have h3 := HQ12.out.size
          show _ ≤ _; simp; omega
        have HL13 : Hid (M.length + [(clU, y)].length ≤ 4294967296) := by show _ ≤ _; have := HMl.out; simp; omega
        have HOW : Hid ((Value.slice A4 M.length c4).ownBlock ≠ some B8) := fun e => by
          have h1 := (World.ownsRow.lt HO4.out _ e).2; have h2 := HZ8.out; omega
        go_wp2_with (at_builtin; refine wpList_appFX rfl (.tmp 113) (.tmp 118) rfl w1.heap.size w.heap.size _ _ M [(clU, y)] rfl HO13.out HB13.out (Nat.le_of_lt hBw) HZ13.out rfl HN13.out HL13.out ?_; intro v14 w14 HO14 HB14 HX14; obtain ⟨N, HNN⟩ : ∃ N, Hid (M ++ [(clU, y)] = N) := ⟨_, rfl⟩; rw [HNN.out] at HO14; obtain ⟨A14, c14, rfl⟩ := HO14.out.form; have HG14 := Lib.hid (HG13.out.keep (HX14.out _ HG13.out.lt HOW.out)))
        have HRN : Hid (askR N = (r0, r1, r2)) := by show _ = _; rw [← HNN.out]; exact HRM.out
        have HNL : Hid (N.length ≤ 82) := by show _ ≤ _; rw [← HNN.out]; have := HMl.out; simp; omega
        have HSM14 : Hid (smallF N) := by
         rw [← HNN.out]
         exact fun j hj => by
          have hm := List.getElem_mem hj
          rw [List.mem_append] at hm
          rcases hm with hm | hm
          · obtain ⟨i, hi, he⟩ := List.getElem_of_mem hm
            rw [← he]; exact HSMM.out i hi
          · rw [List.mem_singleton.1 hm]
            exact ⟨(show clU.length ≤ 4294967296 from by decide), (show y.length ≤ 4294967296 from by have := HXS.out; omega)⟩
        refine (request_any _ N _ (HE.out.below HB14.out (Nat.le_refl _)) HO14.out.fl HSM14.out (by have := HNL.out; omega)).mono ?_
        rw [HRN.out]
        rintro e w15 ⟨rfl, hb⟩
        unfold ansV
        have HB15 := Lib.hid (HB14.out.trans (hb.mono HB14.out.size))
        have HB16 := Lib.hid (HB15.out.alloc HB15.out.size (.cells #[.int .i64 r0, .int .i64 r1] 26))
        have hg8 := (HG14.out.below hb).alloc (.cells #[.int .i64 r0, .int .i64 r1] 26)
        have x8 := hg8.cell 0 (.int .i64 r0) rfl
        have y8 := hg8.cell 1 (.int .i64 r1) rfl
        have hcmp := run_eqlR_same
        clear hb hg8
        go_wp2_with fail
        refine (works_any _ (HE.out.below HB16.out (Nat.le_refl _))).mono ?_
        rintro e w99 ⟨rfl, hb⟩
        have HB99 := Lib.hid (HB16.out.trans (hb.mono HB16.out.size)); clear hb
        go_wp2_with fail
        go_ret
        exact ⟨rfl, HB99.out⟩
    · simp only [hs2, if_true] at hvb
      have HVA := Lib.hid hva; have HVB := Lib.hid hvb; clear hva hvb hs1 hs2
      refine HVA.out.mono ?_
      rintro e w6 ⟨v6, rfl, ho6, hb6⟩
      obtain ⟨A6, c6, rfl⟩ := ho6.form
      have HB6 := Lib.hid (HB5.out.trans (hb6.mono HB5.out.size)); clear ho6
      go_wp2_with fail
      refine (HVB.out _ hb6).mono ?_
      rintro e w7 ⟨v7, rfl, ho7, hb7⟩
      obtain ⟨A7, c7, rfl⟩ := ho7.form
      have HB7 := Lib.hid (HB6.out.trans (hb7.mono HB6.out.size)); clear ho7 hb6 hb7
      go_wp2_with fail
      refine (works_any _ (HE.out.below HB7.out (Nat.le_refl _))).mono ?_
      rintro e w99 ⟨rfl, hb⟩
      have HB99 := Lib.hid (HB7.out.trans (hb.mono HB7.out.size)); clear hb
      go_wp2_with fail
      go_ret
      exact ⟨rfl, HB99.out⟩
  · simp only [hs1, if_true] at hva
    have HVA := Lib.hid hva; clear hva hvb hs1
    refine HVA.out.mono ?_
    rintro e w6 ⟨v6, rfl, ho6, hb6⟩
    obtain ⟨A6, c6, rfl⟩ := ho6.form
    have HB6 := Lib.hid (HB5.out.trans (hb6.mono HB5.out.size)); clear ho6 hb6
    go_wp2_with fail
    refine (works_any _ (HE.out.below HB6.out (Nat.le_refl _))).mono ?_
    rintro e w99 ⟨rfl, hb⟩
    have HB99 := Lib.hid (HB6.out.trans (hb.mono HB6.out.size)); clear hb
    go_wp2_with fail
    go_ret
    exact ⟨rfl, HB99.out⟩

set_option maxRecDepth 100000 in
set_option maxHeartbeats 8000000 in
theorem only4 (b off : Nat) (l : List Fld) (n x : List UInt8) (p : Int) (w : World) (c k : Nat) (H : OnlyMem (.slice (some ⟨b, off, none⟩) l.length c) l n x p w k) (hpos : 0 < l.length) (hlc : l.length ≤ c) (hck : ¬ c = k) : OnlyWay (.slice (some ⟨b, off, none⟩) l.length c) n x p w := by
  obtain ⟨hp0, he, hf, hl80, hz, hsm, hf1, hf2, hal, hfb, hfw, hbig, hk, hkm⟩ := H
  have HE := Lib.hid he; have HF := Lib.hid hf; have HSM := Lib.hid hsm; have HAL := Lib.hid hal; have HFB := Lib.hid hfb; have HFW := Lib.hid hfw
  clear he hf hsm hal hfb hfw
  unfold OnlyWay
  have hkc : k ≤ c := by omega
  have hc0 : ¬ c = 0 := by omega
  obtain ⟨T, HTE⟩ : ∃ T, Hid (l.take k = T) := ⟨_, rfl⟩
  obtain ⟨D, HDE⟩ : ∃ D, Hid (l.drop k = D) := ⟨_, rfl⟩
  have HTL : Hid (T.length = k) := by show _ = _; rw [← HTE.out, List.length_take]; omega
  have HDL : Hid (D.length = l.length - k) := by show _ = _; rw [← HDE.out, List.length_drop]
  have HLT : Hid (([] : List Fld).length + T.length ≤ 4294967296) := by show _ ≤ _; have := HTL.out; simp; omega
  go_enter Tryd.func5, Tryd.ntmps5
  go_wp2_with fail
  refine HFW.out.mono ?_
  rintro e w1 ⟨rfl, hb1⟩
  have HB1 := Lib.hid (HAL.out.trans (hb1.mono HAL.out.size)); have HFB1 := Lib.hid (HFB.out.below hb1)
  have c0 := HFB1.out.cell 0 (.string (bs n)) rfl
  have c1 := HFB1.out.cell 1 (.string (bs x)) rfl
  have hBw : w.heap.size < w1.heap.size := HFB1.out.lt
  clear hb1
  have hne : ((l.length : Int) + 1) ≠ 0 := by omega
  have HF1 := Lib.hid (HF.out.bel HB1.out)
  have tok1 : True := trivial
  go_wp2_with (first | (at_builtin; have := tok1; refine wpList_appFF rfl (.tmp 41) (.tmp 44) rfl w1.heap.size w.heap.size _ _ [] T rfl (ownF_nil _ _) HB1.out (Nat.le_of_lt hBw) (Nat.le_refl _) rfl (by rw [← HTE.out]; exact HF1.out.take k _ hk) HLT.out ?_; intro v2 w2 HO2 HB2 HK2 HZ2; obtain ⟨M1, HM1⟩ : ∃ M1, Hid (([] : List Fld) ++ T = M1) := ⟨_, rfl⟩; rw [HM1.out] at HO2; obtain ⟨A2, c2, rfl⟩ := HO2.out.form; have HFB2 := Lib.hid (HFB1.out.keep (HK2.out _ hBw)); have c0' := HFB2.out.cell 0 (.string (bs n)) rfl; have c1' := HFB2.out.cell 1 (.string (bs x)) rfl; clear this tok1) | (at_builtin; have HO2a := Lib.hid (HO2.out.alloc (.cells #[.string (bs n), .string (bs x)] 38)); have HB2a := Lib.hid (HB2.out.alloc HB2.out.size (.cells #[.string (bs n), .string (bs x)] 38)); have HN2 := Lib.hid (FL_lit w2 (n, x)); have HZ2a : Hid (w1.heap.size ≤ (w2.alloc (.cells #[.string (bs n), .string (bs x)] 38)).heap.size) := (by show _ ≤ _; have := HZ2.out; simp; omega); have HL2 : Hid (M1.length + [(n, x)].length ≤ 4294967296) := (by show _ ≤ _; have := HTL.out; rw [← HM1.out]; simp; omega); refine wpList_appFF rfl (.tmp 46) (.tmp 48) rfl w1.heap.size w.heap.size _ _ M1 [(n, x)] rfl HO2a.out HB2a.out (Nat.le_of_lt hBw) HZ2a.out rfl HN2.out HL2.out ?_; intro v3 w3 HO3 HB3 HK3 HZ3; obtain ⟨M2, HM2⟩ : ∃ M2, Hid (M1 ++ [(n, x)] = M2) := ⟨_, rfl⟩; rw [HM2.out] at HO3; obtain ⟨A3, c3, rfl⟩ := HO3.out.form; have HFB3 := Lib.hid ((HFB2.out.alloc (.cells #[.string (bs n), .string (bs x)] 38)).keep (HK3.out _ hBw)); have HF3 := Lib.hid (HF.out.bel HB3.out); have HZ3a : Hid (w1.heap.size ≤ w3.heap.size) := Nat.le_trans HZ2a.out HZ3.out; clear HO2 HO2a HN2) | (at_builtin; have HL3 : Hid (M2.length + D.length ≤ 4294967296) := (by show _ ≤ _; have := HTL.out; have := HDL.out; rw [← HM2.out, ← HM1.out]; simp; omega); refine wpList_appFF rfl (.tmp 50) (.tmp 53) rfl w1.heap.size w.heap.size _ _ M2 D rfl HO3.out HB3.out (Nat.le_of_lt hBw) HZ3a.out rfl (by rw [← HDE.out]; exact HF3.out.drop k _ hk) HL3.out ?_; intro v4 w4 HO4 HB4 HK4 HZ4; obtain ⟨M, HM⟩ : ∃ M, Hid (M2 ++ D = M) := ⟨_, rfl⟩; rw [HM.out] at HO4; obtain ⟨A4, c4, rfl⟩ := HO4.out.form; have HFB4 := Lib.hid (HFB3.out.keep (HK4.out _ hBw)); have c0'' := HFB4.out.cell 0 (.string (bs n)) rfl; have c1'' := HFB4.out.cell 1 (.string (bs x)) rfl; have hb5 : Below w.heap.size w (w4.alloc (.cells #[.string (bs n), .string (bs x)] 38)) := HB4.out.alloc HB4.out.size _; have hb45 : Below w4.heap.size w4 (w4.alloc (.cells #[.string (bs n), .string (bs x)] 38)) := (Below.refl _ _).alloc (Nat.le_refl _) _; have HB5 := Lib.hid hb5; have HQ5 := Lib.hid hb45; have HN5 := Lib.hid (FL_lit w4 (n, x)); clear hb5 hb45 HO3))
  have HME : Hid (M = l.take k ++ (n, x) :: l.drop k) := by show _ = _; rw [← HM.out, ← HM2.out, ← HM1.out, ← HTE.out, ← HDE.out]; simp
  have HMl : Hid (M.length ≤ 81) := by show _ ≤ _; rw [HME.out]; simp; omega
  have hva := values_any _ [(n, x)] clN _ HN5.out (small_of (by simp [sizeL]; omega)) (by simp) (by decide)
  rw [vals_one] at hva
  rw [← bs_cl] at hva
  have hvb := fun W hb => values_any _ [(n, x)] teN W (HN5.out.bel hb) (small_of (by simp [sizeL]; omega)) (by simp) (by decide)
  rw [vals_one] at hvb
  rw [← bs_te] at hvb
  cases hs1 : sameN n clN
  · simp only [hs1, Bool.false_eq_true, if_false] at hva
    cases hs2 : sameN n teN
    · simp only [hs2, Bool.false_eq_true, if_false] at hvb
      have HVA := Lib.hid hva; have HVB := Lib.hid hvb; clear hva hvb
      have HA : Hid (askR M = askR l) := by show _ = _; rw [HME.out]; exact ask_ins l (n, x) k hs1 hs2
      have HT : Hid (tellR M 200 false = tellR l 200 false) := by show _ = _; rw [HME.out]; exact tell_ins l (n, x) k 200 false hs1 hs2
      have HVM : Hid (valsL M clN = valsL l clN) := by show _ = _; rw [HME.out]; exact vals_ins l (n, x) k hs1
      have HSMM : Hid (smallF M) := small_of (by
        rw [HME.out]
        have h1 : sizeL (l.take k ++ (n, x) :: l.drop k) = sizeL (l.take k) + (n.length + x.length + sizeL (l.drop k)) := by rw [sizeL_append, sizeL_cons]
        have h2 : sizeL l = sizeL (l.take k) + sizeL (l.drop k) := by rw [← sizeL_append, List.take_append_drop]
        omega)
      clear hs1 hs2
      refine HVA.out.mono ?_
      rintro e w6 ⟨v6, rfl, ho6, hb6⟩
      obtain ⟨A6, c6, rfl⟩ := ho6.form
      have HB6 := Lib.hid (HB5.out.trans (hb6.mono HB5.out.size)); have HQ6 := Lib.hid (HQ5.out.trans (hb6.mono HQ5.out.size)); clear ho6
      go_wp2_with fail
      refine (HVB.out _ hb6).mono ?_
      rintro e w7 ⟨v7, rfl, ho7, hb7⟩
      obtain ⟨A7, c7, rfl⟩ := ho7.form
      have HB7 := Lib.hid (HB6.out.trans (hb7.mono HB6.out.size)); have HQ7 := Lib.hid (HQ6.out.trans (hb7.mono HQ6.out.size)); clear ho7 hb6 hb7
      go_wp2_with fail
      generalize hr : askR l = r at *
      have HR := Lib.hid hr; clear hr
      generalize hq : tellR l 200 false = q at *
      have HTQ := Lib.hid hq; clear hq
      obtain ⟨r0, r1, r2⟩ := r
      obtain ⟨q0, q1, q2⟩ := q
      refine (request_any _ l _ (HE.out.below HB7.out (Nat.le_refl _)) (HF.out.bel HB7.out) HSM.out (by omega)).mono ?_
      rw [HR.out]
      rintro e w8 ⟨rfl, hb⟩
      unfold ansV
      have HB8 := Lib.hid (HB7.out.trans (hb.mono HB7.out.size)); have HQ8 := Lib.hid (HQ7.out.trans (hb.mono HQ7.out.size))
      have HG8 := Lib.hid (blk.new w8 #[.int .i64 r0, .int .i64 r1] 26)
      have HB8a := Lib.hid (HB8.out.alloc HB8.out.size (.cells #[.int .i64 r0, .int .i64 r1] 26)); have HQ8a := Lib.hid (HQ8.out.alloc HQ8.out.size (.cells #[.int .i64 r0, .int .i64 r1] 26))
      have HZ8 : Hid (w4.heap.size ≤ w8.heap.size) := HQ8.out.size
      clear hb
      go_wp2_with fail
      generalize w8.alloc (.cells #[.int .i64 r0, .int .i64 r1] 26) = g8 at *
      generalize w8.heap.size = B8 at *
      refine (request_any _ M _ (HE.out.below HB8a.out (Nat.le_refl _)) (HO4.out.fl.bel HQ8a.out) HSMM.out (by have := HMl.out; omega)).mono ?_
      rw [HA.out]
      rintro e w9 ⟨rfl, hb⟩
      unfold ansV
      have HB9 := Lib.hid (HB8a.out.trans (hb.mono HB8a.out.size)); have HQ9 := Lib.hid (HQ8a.out.trans (hb.mono HQ8a.out.size))
      have HG8 := Lib.hid ((HG8.out.below hb).alloc (.cells #[.int .i64 r0, .int .i64 r1] 26))
      have HG9 := Lib.hid (blk.new w9 #[.int .i64 r0, .int .i64 r1] 26)
      have HB9a := Lib.hid (HB9.out.alloc HB9.out.size (.cells #[.int .i64 r0, .int .i64 r1] 26)); have HQ9a := Lib.hid (HQ9.out.alloc HQ9.out.size (.cells #[.int .i64 r0, .int .i64 r1] 26))
      have HZ9 : Hid (w4.heap.size ≤ w9.heap.size) := HQ9.out.size
      clear hb
      go_wp2_with fail
      generalize w9.alloc (.cells #[.int .i64 r0, .int .i64 r1] 26) = g9 at *
      generalize w9.heap.size = B9 at *
      refine (reply_any _ l 200 false _ (HE.out.below HB9a.out (Nat.le_refl _)) (HF.out.bel HB9a.out) HSM.out (by omega)).mono ?_
      rw [HTQ.out]
      rintro e w10 ⟨rfl, hb⟩
      unfold ansV
      have HB10 := Lib.hid (HB9a.out.trans (hb.mono HB9a.out.size)); have HQ10 := Lib.hid (HQ9a.out.trans (hb.mono HQ9a.out.size))
      have HG8 := Lib.hid ((HG8.out.below hb).alloc (.cells #[.int .i64 q0, .int .i64 q1] 26))
      have HG9 := Lib.hid ((HG9.out.below hb).alloc (.cells #[.int .i64 q0, .int .i64 q1] 26))
      have HG10 := Lib.hid (blk.new w10 #[.int .i64 q0, .int .i64 q1] 26)
      have HB10a := Lib.hid (HB10.out.alloc HB10.out.size (.cells #[.int .i64 q0, .int .i64 q1] 26)); have HQ10a := Lib.hid (HQ10.out.alloc HQ10.out.size (.cells #[.int .i64 q0, .int .i64 q1] 26))
      have HZ10 : Hid (w4.heap.size ≤ w10.heap.size) := HQ10.out.size
      clear hb
      go_wp2_with fail
      generalize w10.alloc (.cells #[.int .i64 q0, .int .i64 q1] 26) = g10 at *
      generalize w10.heap.size = B10 at *
      refine (reply_any _ M 200 false _ (HE.out.below HB10a.out (Nat.le_refl _)) (HO4.out.fl.bel HQ10a.out) HSMM.out (by have := HMl.out; omega)).mono ?_
      rw [HT.out]
      rintro e w11 ⟨rfl, hb⟩
      unfold ansV
      have HB11 := Lib.hid (HB10a.out.trans (hb.mono HB10a.out.size)); have HQ11 := Lib.hid (HQ10a.out.trans (hb.mono HQ10a.out.size))
      have HG8 := Lib.hid ((HG8.out.below hb).alloc (.cells #[.int .i64 q0, .int .i64 q1] 26))
      have HG9 := Lib.hid ((HG9.out.below hb).alloc (.cells #[.int .i64 q0, .int .i64 q1] 26))
      have HG10 := Lib.hid ((HG10.out.below hb).alloc (.cells #[.int .i64 q0, .int .i64 q1] 26))
      have HG11 := Lib.hid (blk.new w11 #[.int .i64 q0, .int .i64 q1] 26)
      have HB11a := Lib.hid (HB11.out.alloc HB11.out.size (.cells #[.int .i64 q0, .int .i64 q1] 26)); have HQ11a := Lib.hid (HQ11.out.alloc HQ11.out.size (.cells #[.int .i64 q0, .int .i64 q1] 26))
      have HZ11 : Hid (w4.heap.size ≤ w11.heap.size) := HQ11.out.size
      clear hb
      have x8 := HG8.out.cell 0 (.int .i64 r0) rfl
      have y8 := HG8.out.cell 1 (.int .i64 r1) rfl
      have x9 := HG9.out.cell 0 (.int .i64 r0) rfl
      have y9 := HG9.out.cell 1 (.int .i64 r1) rfl
      have x10 := HG10.out.cell 0 (.int .i64 q0) rfl
      have y10 := HG10.out.cell 1 (.int .i64 q1) rfl
      have x11 := HG11.out.cell 0 (.int .i64 q0) rfl
      have y11 := HG11.out.cell 1 (.int .i64 q1) rfl
      have hcmp := run_neqR_same
      go_wp2_with fail
      clear hcmp x8 y8 x9 y9 x10 y10 x11 y11
      generalize w11.alloc (.cells #[.int .i64 q0, .int .i64 q1] 26) = g11 at *
      generalize w11.heap.size = B11 at *
      have hvl := values_any _ l clN _ (HF.out.bel HB11a.out) HSM.out (by omega) (by decide)
      rw [← bs_cl] at hvl
      have HMEM : Hid (∀ s ∈ valsL l clN, askR (M ++ [(clU, s)]) = (r0, r1, r2)) := fun s hs => by rw [ask_again M s (by rw [HVM.out]; exact hs)]; exact HA.out
      have HVS : Hid (∀ s ∈ valsL l clN, s.length ≤ 12000) := fun s hs => Nat.le_trans (memF_flat hs) (Nat.le_trans (vals_flat l clN) hz)
      generalize valsL l clN = sd at *
      have HVL := Lib.hid hvl; clear hvl
      refine HVL.out.mono ?_
      rintro e w12 ⟨v12, rfl, ho12, hb12⟩
      obtain ⟨A12, c12, rfl⟩ := ho12.form
      have HB12 := Lib.hid (HB11a.out.trans (hb12.mono HB11a.out.size)); have HQ12 := Lib.hid (HQ11a.out.trans (hb12.mono HQ11a.out.size)); have HG12 := Lib.hid (HG8.out.below hb12)
      have HS12 := Lib.hid ho12.sl; clear ho12 hb12 HVL
      by_cases hsd : sd.length = 0
      · have hsd' : ((sd.length : Int) == 0) = true := by rw [beq_iff_eq]; omega
        clear hsd
        go_wp2_with fail
        refine (works_any _ (HE.out.below HB12.out (Nat.le_refl _))).mono ?_
        rintro e w99 ⟨rfl, hb⟩
        have HB99 := Lib.hid (HB12.out.trans (hb.mono HB12.out.size)); clear hb
        go_wp2_with fail
        go_ret
        exact ⟨rfl, HB99.out⟩
      · have hsd' : ((sd.length : Int) == 0) = false := by rw [beq_eq_false_iff_ne]; omega
        have hsp : 0 < sd.length := by omega
        have hspi : (0 : Int) < (sd.length : Int) := by omega
        obtain ⟨bs0, off0, rfl, _, hc0⟩ := HS12.out.get 0 hsp
        rw [Nat.add_zero] at hc0
        have HRM := Lib.hid (HMEM.out _ (List.getElem_mem hsp)); have HXS := Lib.hid (HVS.out _ (List.getElem_mem hsp))
        generalize sd[0] = y at *
        clear hsd
        have HO12 := Lib.hid (HO4.out.bel HQ12.out)
        have HO13 := Lib.hid (HO12.out.alloc (.cells #[.string (bs clU), .string (bs y)] 38))
        have HB13 := Lib.hid (HB12.out.alloc HB12.out.size (.cells #[.string (bs clU), .string (bs y)] 38))
        have HG13 := Lib.hid (HG12.out.alloc (.cells #[.string (bs clU), .string (bs y)] 38))
        have HN13 := Lib.hid (FL_lit w12 (clU, y))
        have HZ13 : Hid (w1.heap.size ≤ (w12.alloc (.cells #[.string (bs clU), .string (bs y)] 38)).heap.size) := by
          have h1 := HZ4.out; have h2 := HZ3a.out; have h3 := HQ12.out.size
          show _ ≤ _; simp; omega
        have HL13 : Hid (M.length + [(clU, y)].length ≤ 4294967296) := by show _ ≤ _; have := HMl.out; simp; omega
        have HOW : Hid ((Value.slice A4 M.length c4).ownBlock ≠ some B8) := fun e => by
          have h1 := (World.ownsRow.lt HO4.out _ e).2; have h2 := HZ8.out; omega
        go_wp2_with (at_builtin; refine wpList_appFX rfl (.tmp 113) (.tmp 118) rfl w1.heap.size w.heap.size _ _ M [(clU, y)] rfl HO13.out HB13.out (Nat.le_of_lt hBw) HZ13.out rfl HN13.out HL13.out ?_; intro v14 w14 HO14 HB14 HX14; obtain ⟨N, HNN⟩ : ∃ N, Hid (M ++ [(clU, y)] = N) := ⟨_, rfl⟩; rw [HNN.out] at HO14; obtain ⟨A14, c14, rfl⟩ := HO14.out.form; have HG14 := Lib.hid (HG13.out.keep (HX14.out _ HG13.out.lt HOW.out)))
        have HRN : Hid (askR N = (r0, r1, r2)) := by show _ = _; rw [← HNN.out]; exact HRM.out
        have HNL : Hid (N.length ≤ 82) := by show _ ≤ _; rw [← HNN.out]; have := HMl.out; simp; omega
        have HSM14 : Hid (smallF N) := by
         rw [← HNN.out]
         exact fun j hj => by
          have hm := List.getElem_mem hj
          rw [List.mem_append] at hm
          rcases hm with hm | hm
          · obtain ⟨i, hi, he⟩ := List.getElem_of_mem hm
            rw [← he]; exact HSMM.out i hi
          · rw [List.mem_singleton.1 hm]
            exact ⟨(show clU.length ≤ 4294967296 from by decide), (show y.length ≤ 4294967296 from by have := HXS.out; omega)⟩
        refine (request_any _ N _ (HE.out.below HB14.out (Nat.le_refl _)) HO14.out.fl HSM14.out (by have := HNL.out; omega)).mono ?_
        rw [HRN.out]
        rintro e w15 ⟨rfl, hb⟩
        unfold ansV
        have HB15 := Lib.hid (HB14.out.trans (hb.mono HB14.out.size))
        have HB16 := Lib.hid (HB15.out.alloc HB15.out.size (.cells #[.int .i64 r0, .int .i64 r1] 26))
        have hg8 := (HG14.out.below hb).alloc (.cells #[.int .i64 r0, .int .i64 r1] 26)
        have x8 := hg8.cell 0 (.int .i64 r0) rfl
        have y8 := hg8.cell 1 (.int .i64 r1) rfl
        have hcmp := run_eqlR_same
        clear hb hg8
        go_wp2_with fail
        refine (works_any _ (HE.out.below HB16.out (Nat.le_refl _))).mono ?_
        rintro e w99 ⟨rfl, hb⟩
        have HB99 := Lib.hid (HB16.out.trans (hb.mono HB16.out.size)); clear hb
        go_wp2_with fail
        go_ret
        exact ⟨rfl, HB99.out⟩
    · simp only [hs2, if_true] at hvb
      have HVA := Lib.hid hva; have HVB := Lib.hid hvb; clear hva hvb hs1 hs2
      refine HVA.out.mono ?_
      rintro e w6 ⟨v6, rfl, ho6, hb6⟩
      obtain ⟨A6, c6, rfl⟩ := ho6.form
      have HB6 := Lib.hid (HB5.out.trans (hb6.mono HB5.out.size)); clear ho6
      go_wp2_with fail
      refine (HVB.out _ hb6).mono ?_
      rintro e w7 ⟨v7, rfl, ho7, hb7⟩
      obtain ⟨A7, c7, rfl⟩ := ho7.form
      have HB7 := Lib.hid (HB6.out.trans (hb7.mono HB6.out.size)); clear ho7 hb6 hb7
      go_wp2_with fail
      refine (works_any _ (HE.out.below HB7.out (Nat.le_refl _))).mono ?_
      rintro e w99 ⟨rfl, hb⟩
      have HB99 := Lib.hid (HB7.out.trans (hb.mono HB7.out.size)); clear hb
      go_wp2_with fail
      go_ret
      exact ⟨rfl, HB99.out⟩
  · simp only [hs1, if_true] at hva
    have HVA := Lib.hid hva; clear hva hvb hs1
    refine HVA.out.mono ?_
    rintro e w6 ⟨v6, rfl, ho6, hb6⟩
    obtain ⟨A6, c6, rfl⟩ := ho6.form
    have HB6 := Lib.hid (HB5.out.trans (hb6.mono HB5.out.size)); clear ho6 hb6
    go_wp2_with fail
    refine (works_any _ (HE.out.below HB6.out (Nat.le_refl _))).mono ?_
    rintro e w99 ⟨rfl, hb⟩
    have HB99 := Lib.hid (HB6.out.trans (hb.mono HB6.out.size)); clear hb
    go_wp2_with fail
    go_ret
    exact ⟨rfl, HB99.out⟩

set_option maxRecDepth 100000 in
set_option maxHeartbeats 4000000 in
theorem framingOnly_any (v : Value) (l : List Fld) (f : Fld) (p : Int) (w : World) (h : FL w v l) (hs : ∀ j (hj : j < l.length), l[j].1.length ≤ 9223372036854775807 ∧ l[j].2.length ≤ 9223372036854775807) (hl : l.length ≤ 9223372036854775807)
    (hcap : ∃ A n c, v = .slice A n c ∧ n ≤ c ∧ (A = none → c = 0)) (hf1 : f.1.length ≤ 140737488351232) (hf2 : f.2.length ≤ 140737488351232) (hp : (Lit.int .u8 p).wf = true) (he : Env w) :
    Calls Tryd.prog 5 #[v, fv f, .int .u8 p] w fun e w' => e = .returned (.bool true) ∧ Below w.heap.size w w' := by
  have hp0 : 0 ≤ p ∧ p ≤ 255 := u8_bdF hp
  have hal : Below w.heap.size w (w.alloc (.cells #[.string (bs f.1), .string (bs f.2)] 38)) := (Below.refl _ _).alloc (Nat.le_refl _) _
  have hfb := blk.new w #[.string (bs f.1), .string (bs f.2)] 38
  have hfw := few_any v l _ (h.bel hal) hs hl
  have HE := Lib.hid he; have HF := Lib.hid h; have HAL := Lib.hid hal; have HFB := Lib.hid hfb; clear he h hs hl hp hal hfb
  unfold fv
  cases hf : fewB l
  · rw [hf] at hfw
    have HFW := Lib.hid hfw; clear hfw hf
    go_enter Tryd.func5, Tryd.ntmps5
    go_wp2_with fail
    refine HFW.out.mono ?_
    rintro e w1 ⟨rfl, hb1⟩
    have HB1 := Lib.hid (HAL.out.trans (hb1.mono HAL.out.size)); clear hb1
    go_wp2_with fail
    refine (works_any _ (HE.out.below HB1.out (Nat.le_refl _))).mono ?_
    rintro e w2 ⟨rfl, hb2⟩
    have HB2 := Lib.hid (HB1.out.trans (hb2.mono HB1.out.size)); clear hb2
    go_wp2_with fail
    go_ret
    exact ⟨rfl, HB2.out⟩
  · rw [hf] at hfw
    obtain ⟨hl80, hz, hsm⟩ := few_small hf
    have HFW := Lib.hid hfw; have HSM := Lib.hid hsm; clear hfw hf hsm
    obtain ⟨n, x⟩ := f; simp only at hf1 hf2 HFB HFW HAL ⊢
    by_cases hbig : 2000 < ((n.length : Int) + (x.length : Int))
    · go_enter Tryd.func5, Tryd.ntmps5
      go_wp2_with fail
      refine HFW.out.mono ?_
      rintro e w1 ⟨rfl, hb1⟩
      have HB1 := Lib.hid (HAL.out.trans (hb1.mono HAL.out.size))
      have c0 := (HFB.out.below hb1).cell 0 (.string (bs n)) rfl
      have c1 := (HFB.out.below hb1).cell 1 (.string (bs x)) rfl
      clear hb1
      go_wp2_with fail
      refine (works_any _ (HE.out.below HB1.out (Nat.le_refl _))).mono ?_
      rintro e w2 ⟨rfl, hb2⟩
      have HB2 := Lib.hid (HB1.out.trans (hb2.mono HB1.out.size)); clear hb2
      go_wp2_with fail
      go_ret
      exact ⟨rfl, HB2.out⟩
    · obtain ⟨k, hk, hkm⟩ : ∃ k : Nat, k ≤ l.length ∧ Int.tmod p ((l.length : Int) + 1) = (k : Int) := by
        refine ⟨(p % ((l.length : Int) + 1)).toNat, ?_, ?_⟩
        · have := Int.emod_lt_of_pos p (show (0 : Int) < (l.length : Int) + 1 by omega); omega
        · rw [Int.tmod_eq_emod_of_nonneg hp0.1]
          have := Int.emod_nonneg p (show ((l.length : Int) + 1) ≠ 0 by omega); omega
      obtain ⟨A, c, rfl⟩ := HF.out.form
      have hcap2 : l.length ≤ c ∧ (A = none → c = 0) := by
        obtain ⟨A', n', c', he, h1, h2⟩ := hcap
        simp only [Value.slice.injEq] at he
        obtain ⟨rfl, rfl, rfl⟩ := he
        exact ⟨h1, h2⟩
      obtain ⟨hlc, hcn⟩ := hcap2
      have hA : (l = [] ∧ A = none) ∨ (l = [] ∧ ∃ a, A = some a) ∨ ∃ b off, A = some ⟨b, off, none⟩ ∧ 0 < l.length := by
        rcases Nat.eq_zero_or_pos l.length with h0 | h0
        · cases A with
          | none => exact .inl ⟨List.eq_nil_of_length_eq_zero h0, rfl⟩
          | some a => exact .inr (.inl ⟨List.eq_nil_of_length_eq_zero h0, a, rfl⟩)
        · obtain ⟨b, off, rfl, _⟩ := HF.out.get 0 h0
          exact .inr (.inr ⟨b, off, rfl, h0⟩)
      have key : ∀ (v : Value), v = .slice A l.length c → FL w v l → Calls Tryd.prog 7 #[v] (w.alloc (.cells #[.string (bs n), .string (bs x)] 38)) (fun e w' => e = .returned (.bool true) ∧ Below (w.alloc (.cells #[.string (bs n), .string (bs x)] 38)).heap.size (w.alloc (.cells #[.string (bs n), .string (bs x)] 38)) w') → OnlyMem v l n x p w k :=
        fun v _ h1 h2 => ⟨hp0, HE.out, h1, hl80, hz, HSM.out, hf1, hf2, HAL.out, HFB.out, h2, hbig, hk, hkm⟩
      have hw : ∀ (v : Value), OnlyWay v n x p w → v = .slice A l.length c → OnlyWay (.slice A l.length c) n x p w := fun v h e => e ▸ h
      show OnlyWay (.slice A l.length c) n x p w
      rcases hA with ⟨hl0, hA0⟩ | ⟨hl0, a, hA0⟩ | ⟨b, off, hA0, hpos⟩
      · have hll : l.length = 0 := by rw [hl0]; rfl
        have hk0 : k = 0 := by omega
        have e : (Value.slice none 0 0) = .slice A l.length c := by rw [hA0, hll, hcn hA0]
        refine hw _ (only1 l n x p w ?_ hll) e
        have h := key _ e (e ▸ HF.out) (e ▸ HFW.out)
        rw [hk0] at h
        exact h
      · have hll : l.length = 0 := by rw [hl0]; rfl
        have hk0 : k = 0 := by omega
        have e : (Value.slice (some a) 0 c) = .slice A l.length c := by rw [hA0, hll]
        refine hw _ (only2 a l n x p w c ?_ hll) e
        have h := key _ e (e ▸ HF.out) (e ▸ HFW.out)
        rw [hk0] at h
        exact h
      · have e : (Value.slice (some ⟨b, off, none⟩) l.length c) = .slice A l.length c := by rw [hA0]
        by_cases hck : c = k
        · have e3 : (Value.slice (some ⟨b, off, none⟩) l.length k) = .slice A l.length c := by rw [hA0, hck]
          exact hw _ (only3 b off l n x p w k (key _ e3 (e3 ▸ HF.out) (e3 ▸ HFW.out)) hpos (by omega)) e3
        · exact hw _ (only4 b off l n x p w c k (key _ e (e ▸ HF.out) (e ▸ HFW.out)) hpos hlc hck) e
end Go.Proofs.YtnhkebbmgiokbaaDoor
