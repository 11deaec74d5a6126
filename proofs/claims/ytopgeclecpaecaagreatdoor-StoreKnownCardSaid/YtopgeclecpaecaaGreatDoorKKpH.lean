/- The keys of a store; entries are dropped and forgotten. -/
import Derived.Test.YtopgeclecpaecaaGreatDoorKKpG
namespace Go.Proofs.YtopgeclecpaecaaGreatDoor
open Go.RowKit
theorem ownS.setAt {w : World} {base g n c : Nat} {L : List (List UInt8)} (h : ownS w base (.slice (some ⟨g, 0, none⟩) n c) L) (j : Nat) (x : List UInt8) : ownS (w.setCell ⟨g, j, none⟩ (.string (bs x))) base (.slice (some ⟨g, 0, none⟩) n c) (L.set j x) := by
  obtain ⟨cur, rfl, hb, hg, a1, a2, a3, a4⟩ := h.cur
  have h1 := Lib.heap_setCell_same hg (.string (bs x)) (i := j)
  have h2 := ownS.of (c := c) (L := L.set j x) hb h1 (by simpa using a1) a2 (by simpa using a3) (by
    rw [List.length_set, Array.toList_setIfInBounds, List.take_set, a4]
    simp [strCs, List.map_set])
  rw [List.length_set] at h2
  exact h2
theorem ownS.free {w : World} {base g n c : Nat} {L : List (List UInt8)} (h : ownS w base (.slice (some ⟨g, 0, none⟩) n c) L) (j : Nat) : w.frozen? ⟨g, j, none⟩ = false := by
  obtain ⟨cur, rfl, hb, hg, -⟩ := h.cur
  simp [World.frozen?, hg]
/-- the ids, of which the first ones have become keys -/
def partly (A : List (It He)) (j : Nat) : List (List UInt8) := (keysS A).take j ++ (keysK A).drop j
theorem partly_set {A : List (It He)} {j : Nat} (hj : j < A.length) : (partly A j).set j A[j].2.2.key = partly A (j + 1) ∧ (partly A j).getD j [] = A[j].1 ∧ (partly A j).length = A.length := by
  have h1 : ((keysS A).take j).length = j := by simp [keysS]; omega
  have h2 : (keysK A).drop j = A[j].1 :: (keysK A).drop (j + 1) := by
    have : j < (keysK A).length := by simpa [keysK] using hj
    rw [List.drop_eq_getElem_cons this]; simp [keysK]
  have h3 : (keysS A).take (j + 1) = (keysS A).take j ++ [A[j].2.2.key] := by
    have : j < (keysS A).length := by simpa [keysS] using hj
    rw [List.take_succ_eq_append_getElem this]; simp [keysS]
  refine ⟨?_, ?_, by simp [partly, keysS, keysK]; omega⟩
  · unfold partly
    rw [h2, h3, List.set_append_right _ _ (by omega), h1, Nat.sub_self, List.set_cons_zero]; simp
  · unfold partly
    rw [h2, List.getD_eq_getElem?_getD, List.getElem?_append_right (by omega), h1, Nat.sub_self]; rfl
set_option maxRecDepth 100000 in
set_option maxHeartbeats 2000000 in
theorem skeys_any {w : World} {s : Nat} {X : Nat → Prop} {n m : Nat} {A : List (It He)} {pu : Nat} (h : Sto w s X n m A pu) {w0 : World} (hb : Base w0 w X) :
    Calls Tryz.prog 17 #[.pointer (some ⟨s, 0, none⟩)] w fun r w' => ∃ v, r = .returned v ∧ ownS w' w.heap.size v (keysS A) ∧ Below w.heap.size w w' := by
  obtain ⟨tb, bb, umb, nF, XB, F, l, hw⟩ := h
  have HK := Lib.hid (skept_any s tb w hw.top)
  have HL := Lib.hid (BT.keys_any hw.st.bud)
  have c0 := hw.st.st.cell 0 (.pointer (some ⟨bb, 0, none⟩)) rfl
  have HKE := Lib.hid hb.ke
  have HSM := Lib.hid hw.sm; have HOF := Lib.hid hw.of
  have HLN : Hid (A.length ≤ 4096) := by
    have h1 := hw.st.bud.ok.len
    have h2 := hw.st.bud.bounds.2.1
    rw [← hw.sim.len] at h1
    show _ ≤ _; omega
  rw [← hw.sim.keys] at HL
  clear hw hb
  go_enter Tryz.func17, Tryz.ntmps17
  go_wp2_with fail
  refine HK.out.mono ?_
  rintro r wx ⟨rfl, rfl⟩
  go_wp2_with fail
  refine HL.out.mono ?_
  rintro r w1 ⟨v, rfl, hv, hb1⟩
  obtain ⟨Ag, cg, hvf⟩ := hv.form
  subst hvf
  have hlk : (keysK A).length = A.length := by simp [keysK]
  rw [hlk] at hv
  rw [hlk]
  have HV1 : Hid (ownS w1 w.heap.size (.slice Ag A.length cg) (partly A 0)) := hv
  have HB1 := Lib.hid hb1
  clear hv hb1 HL HK c0
  go_wp2_with fail
  go_loopg [14] A.length (fun c i wr => ∃ j : Nat, i = .int .i64 j ∧ j + c = A.length ∧ Hid (ownS wr w.heap.size (.slice Ag A.length cg) (partly A j) ∧ Below w.heap.size w wr))
  case atStart => exact ⟨0, rfl, by omega, HV1.out, HB1.out⟩
  case round =>
    obtain ⟨j, rfl, hj, hr⟩ := hrel
    have HV := Lib.hid hr.out.1; have HB := Lib.hid hr.out.2
    clear hr
    have HBZ : Hid (w.heap.size ≤ wr.heap.size) := HB.out.size
    by_cases hend : j < A.length
    · obtain ⟨q1, q2, q3⟩ := partly_set hend
      obtain ⟨g, rfl, c1⟩ := ownS.cell HV.out j (by omega)
      have hof := congrArg Prod.fst (HOF.out _ (List.getElem_mem hend))
      have hsm := HSM.out _ (List.getElem_mem hend)
      have HST : Hid (∀ W, Below wr.heap.size wr W → ownS (W.setCell ⟨g, j, none⟩ (.string (bs A[j].2.2.key))) w.heap.size (.slice (some ⟨g, 0, none⟩) A.length cg) (partly A (j + 1)) ∧ W.frozen? ⟨g, j, none⟩ = false ∧ W.cell? ⟨g, j, none⟩ = some (.string (bs A[j].1)) ∧ w.heap.size ≤ g) := fun W hW => by
        have h1 := HV.out.bel hW
        have h2 := h1.setAt j A[j].2.2.key
        rw [q1] at h2
        obtain ⟨g', e1, e2⟩ := ownS.cell h1 j (by omega)
        simp only [Option.some.injEq, Addr.mk.injEq, and_true] at e1
        subst e1
        rw [q2] at e2
        exact ⟨h2, h1.free j, e2, (World.ownsRow.lt h1 g rfl).1⟩
      rw [q2] at c1
      have hid : A[j].1 = idT A[j].2.2.key A[j].2.2.e.vy := hof
      have HKO := Lib.hid (keyOf_any A[j].2.2.key A[j].2.2.e.vy wr hsm.k hsm.vy (HKE.out.bel ((HB.out.trans (Below.refl _ _)))))
      rw [← hid] at HKO
      have HKL : Hid (A[j].2.2.key.length ≤ 281474976710656) := by have := hsm.k; show _ ≤ _; omega
      have HKK : Hid (gk - 1 < gk ∧ j + 1 + (gk - 1) = A.length) := ⟨by omega, by omega⟩
      have HJJ : Hid (j < 1000000) := by have := HLN.out; show _ < _; omega
      clear q1 q2 q3 hof hsm hid hj
      generalize A[j].2.2.key = ky at *
      generalize A[j].1 = ij at *
      go_wp2_with fail
      refine HKO.out.mono ?_
      rintro r w2 ⟨rfl, hb2⟩
      have HB2 := Lib.hid hb2
      clear hb2 c1
      go_wp2_with fail
      refine (clone_l ky w2 HKL.out).mono ?_
      rintro r w3 ⟨rfl, hb3⟩
      have HB3 := Lib.hid (HB2.out.trans (hb3.mono HB2.out.size))
      obtain ⟨s1, s2, s3, s4⟩ := HST.out w3 HB3.out
      have HS1 := Lib.hid s1
      have HB4 := Lib.hid ((HB.out.trans (HB3.out.mono HB.out.size)).setCell (p := ⟨g, j, none⟩) s4 (.string (bs ky)))
      clear hb3 s1 s4 HB2 HV
      go_wp2_with fail
      go_roundg (gk - 1)
      case measure => exact HKK.out.1
      case rel => exact ⟨j + 1, by first | rfl | exact wrapJ j HJJ.out, HKK.out.2, HS1.out, HB4.out⟩
    · have HE : Hid (partly A j = keysS A) := by
        show _ = _
        unfold partly
        rw [List.take_of_length_le (by simp [keysS]; omega), List.drop_eq_nil_of_le (by simp [keysK]; omega), List.append_nil]
      clear hj
      go_wp2_with fail
      go_ret
      exact ⟨_, rfl, by rw [← HE.out]; exact HV.out, HB.out⟩
/-- one goes, at its place -/
def forgetS (A : List (It He)) (N : Int) : List (It He) := match (if 0 ≤ N then A[N.toNat]? else none) with
  | some a => dropK a.1 A
  | none => A
def forgetB (A : List (It He)) (N : Int) : Bool := decide (0 ≤ N ∧ N < (A.length : Int))
theorem forgetS_sub (A : List (It He)) (N : Int) : (forgetS A N).Sublist A := by
  unfold forgetS
  split
  · exact dropK_sub _ _
  · exact List.Sublist.refl _
set_option maxRecDepth 100000 in
set_option maxHeartbeats 2000000 in
theorem sforget_any {w : World} {s : Nat} {X : Nat → Prop} {n m : Nat} {A : List (It He)} {pu : Nat} (h : Sto w s X n m A pu) (N : Int) (hp : pu < 1000000) {w0 : World} (hb : Base w0 w X) :
    Calls Tryz.prog 18 #[.pointer (some ⟨s, 0, none⟩), .int .i64 N] w fun r w' => r = .returned (.bool (forgetB A N)) ∧ ∃ X', Sto w' s X' n m (forgetS A N) pu ∧ Did X X' w w' := by
  obtain ⟨tb, bb, umb, nF, XB, F, l, hw⟩ := h
  have HK := Lib.hid (skept_any s tb w hw.top)
  have c0 := hw.st.st.cell 0 (.pointer (some ⟨bb, 0, none⟩)) rfl
  have HLE := Lib.hid (BT.len_any hw.st.bud)
  rw [← hw.sim.len] at HLE
  have HW := Lib.hid hw
  have HSTO : Hid (Sto w s X n m A pu) := ⟨tb, bb, umb, nF, XB, F, l, hw⟩
  by_cases h0 : N < 0
  · have HF : Hid (forgetB A N = false ∧ forgetS A N = A) := by
      refine ⟨decide_eq_false (by omega), ?_⟩
      unfold forgetS; rw [if_neg (by omega)]
    clear hw hb c0 HLE
    go_enter Tryz.func18, Tryz.ntmps18
    go_wp2_with fail
    refine HK.out.mono ?_
    rintro r wx ⟨rfl, rfl⟩
    go_wp2_with fail
    go_ret
    exact ⟨by rw [HF.out.1]; rfl, X, by rw [HF.out.2]; exact HSTO.out, Did.refl _ _⟩
  · by_cases h1 : N < (A.length : Int)
    · have hnl : N.toNat < A.length := by omega
      have HF : Hid (forgetB A N = true ∧ forgetS A N = dropK A[N.toNat].1 A) := by
        refine ⟨decide_eq_true ⟨by omega, h1⟩, ?_⟩
        unfold forgetS; rw [if_pos (by omega), List.getElem?_eq_getElem hnl]
      have HKY := Lib.hid (BT.keys_any hw.st.bud)
      rw [← hw.sim.keys] at HKY
      have hge : ¬ (A.length : Int) ≤ N := by omega
      have HBA := Lib.hid (Base.mk hb.ke0 hb.bel (fun b e => hb.low b (by rw [hw.eX]; exact .inr e)) : Base w0 w (stX tb umb F XB))
      have HDP : Hid (nF < maxLen) := by have := hw.nF; unfold maxLen; show _ < _; omega
      have hid : A[N.toNat].1 = idT A[N.toNat].2.2.key A[N.toNat].2.2.e.vy := congrArg Prod.fst (hw.of _ (List.getElem_mem hnl))
      have hsm := hw.sm _ (List.getElem_mem hnl)
      have HSM := Lib.hid hsm; have HID := Lib.hid hid
      have hgd : (keysK A).getD N.toNat [] = A[N.toNat].1 := by simp [keysK, List.getD, hnl]
      have HGD := Lib.hid hgd
      obtain ⟨N', rfl⟩ : ∃ N' : Nat, N = N' := ⟨N.toNat, by omega⟩
      simp only [Int.toNat_natCast] at HF HID HSM HGD hnl
      have HAN : Hid ((keysK A).length = A.length) := by show _ = _; simp [keysK]
      have HNL := Lib.hid hnl
      have h2 : N' < A.length := hnl
      clear hw hb hid hsm hgd h1
      go_enter Tryz.func18, Tryz.ntmps18
      go_wp2_with fail
      refine HK.out.mono ?_
      rintro r wx ⟨rfl, rfl⟩
      go_wp2_with fail
      refine HLE.out.mono ?_
      rintro r wx ⟨rfl, rfl⟩
      go_wp2_with fail
      refine HKY.out.mono ?_
      rintro r w1 ⟨v, rfl, hv, hb1⟩
      obtain ⟨Ag, cg, hvf⟩ := hv.form
      subst hvf
      rw [HAN.out] at hv
      rw [HAN.out]
      obtain ⟨g, rfl, c1⟩ := ownS.cell hv N' (by rw [HAN.out]; exact HNL.out)
      rw [HGD.out, HID.out] at c1
      have HST1 := Lib.hid (HW.out.st.bel hb1)
      have HB1 := Lib.hid hb1
      have HRM := Lib.hid (remove_any9 HST1.out A[N'].2.2.key A[N'].2.2.e.vy HSM.out.k HSM.out.vy HDP.out (HBA.out.down hb1) (fun _ => by
        obtain ⟨us, vs, r1, r2, -, -⟩ := rowS_mid (xs := A.take N') (zs := A.drop (N' + 1)) (a := A[N']) (by rw [← List.drop_eq_getElem_cons HNL.out, List.take_append_drop]; exact HW.out.nd2)
        rw [← List.drop_eq_getElem_cons HNL.out, List.take_append_drop] at r1
        rw [HID.out] at r1 r2
        exact ⟨us, vs, r1, r2⟩))
      have HHS : Hid (hasK (idT A[N'].2.2.key A[N'].2.2.e.vy) l = true) := by
        show _ = _
        rw [← HW.out.sim.has, hasK_iff, ← HID.out]
        exact List.mem_map.2 ⟨A[N'], List.getElem_mem HNL.out, rfl⟩
      clear hv hb1 HKY HLE
      generalize A[N'].2.2.key = ky at *
      generalize A[N'].2.2.e.vy = vy at *
      generalize A[N'].1 = ia at *
      go_wp2_with fail
      refine HRM.out.mono ?_
      rintro r w3 ⟨rfl, XB3, F3, nF3, hs3, hle3, hd3⟩
      have hd03 := (Did.of_below HB1.out).trans hd3
      have hs3' : StI w3 tb bb umb nF3 XB3 F3 n m (dropK (idT ky vy) l) (rowS (dropK (idT ky vy) A)) pu := by
        rw [← rows_less HW.out.of HW.out.nd2 HW.out.sim ky vy]; exact hs3
      have HRES : Hid (∃ X', Sto w3 s X' n m (dropK (idT ky vy) A) pu ∧ Did X X' w w3) := by
        obtain ⟨u1, u2, u3⟩ := HW.out.subs (fun a ha => (dropK_sub (idT ky vy) A).subset ha)
        refine HW.out.done hs3' hd03 ?_ (Nat.le_trans hle3 HW.out.nF) u1 u2 u3 (HW.out.nd.sublist ((dropK_sub _ _).map _))
        refine (HW.out.sim.drop _).mono (fun a b q => ?_)
        have q1 := q.wider (Y := stX tb umb F XB) (fun b e => .inl (by rw [HW.out.eX]; exact .inr e))
        exact q1.did hd03
      clear hs3 hle3 hd3 hd03 hs3' HRM HST1 c1
      go_wp2_with fail
      go_ret
      exact ⟨by rw [HF.out.1, HHS.out]; rfl, by rw [HF.out.2, HID.out]; exact HRES.out⟩
    · have HF : Hid (forgetB A N = false ∧ forgetS A N = A) := by
        refine ⟨decide_eq_false (by omega), ?_⟩
        unfold forgetS; rw [if_pos (by omega), List.getElem?_eq_none (by omega)]
      have hge : (A.length : Int) ≤ N := by omega
      clear hw hb h1
      go_enter Tryz.func18, Tryz.ntmps18
      go_wp2_with fail
      refine HK.out.mono ?_
      rintro r wx ⟨rfl, rfl⟩
      go_wp2_with fail
      refine HLE.out.mono ?_
      rintro r wx ⟨rfl, rfl⟩
      go_wp2_with fail
      go_ret
      exact ⟨by rw [HF.out.1]; rfl, X, by rw [HF.out.2]; exact HSTO.out, Did.refl _ _⟩
end Go.Proofs.YtopgeclecpaecaaGreatDoor
