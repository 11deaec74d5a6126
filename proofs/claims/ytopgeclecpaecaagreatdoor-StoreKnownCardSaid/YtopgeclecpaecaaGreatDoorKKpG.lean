/- Entries are removed; new stores; how many there are. -/
import Derived.Test.YtopgeclecpaecaaGreatDoorKKpF
namespace Go.Proofs.YtopgeclecpaecaaGreatDoor
open Go.RowKit
set_option maxRecDepth 100000 in
set_option maxHeartbeats 3000000 in
theorem sremove_any {w : World} {s : Nat} {X : Nat → Prop} {n m : Nat} {A : List (It He)} {pu : Nat} (h : Sto w s X n m A pu) (k : List UInt8) (e : En) (vf vv : Value) (hf : FLX w X vf e.fs) (hv : FLX w X vv e.vy) (hs : SmE k e) (hp : pu < 1000000) {w0 : World} (hb : Base w0 w X) :
    Calls Tryz.prog 21 #[.pointer (some ⟨s, 0, none⟩), .string (bs k), entV e vf vv] w fun r w' => r = .returned (.bool (hasK (idT k e.vy) A)) ∧ ∃ X', Sto w' s X' n m (dropK (idT k e.vy) A) pu ∧ Did X X' w w' := by
  obtain ⟨tb, bb, umb, nF, XB, F, l, hw⟩ := h
  obtain ⟨Af0, cf0, hff⟩ := hf.fl.form
  obtain ⟨Av0, cv0, hfv⟩ := hv.fl.form
  subst hff hfv
  have hal : Below w.heap.size w (w.alloc (.cells #[.int .i64 e.st, .string (bs e.re), .int .i64 e.mi, .slice Af0 e.fs.length cf0, .string (bs e.bo), .int .i64 e.ak, .int .i64 e.gt, .slice Av0 e.vy.length cv0] 28)) := (Below.refl _ _).alloc (Nat.le_refl _) _
  have hX : ∀ b, stX tb umb F XB b → X b := fun b e => by rw [hw.eX]; exact .inr e
  have hpq : PQ w0 w (w.alloc (.cells #[.int .i64 e.st, .string (bs e.re), .int .i64 e.mi, .slice Af0 e.fs.length cf0, .string (bs e.bo), .int .i64 e.ak, .int .i64 e.gt, .slice Av0 e.vy.length cv0] 28)) w.heap.size e (.slice Af0 e.fs.length cf0) (.slice Av0 e.vy.length cv0) (stX tb umb F XB) tb bb umb nF XB F n m l (rowS A) pu :=
    ⟨hw.st.bel hal, (Base.mk hb.ke0 hb.bel (fun b e => hb.low b (hX b e)) : Base w0 w (stX tb umb F XB)).down hal, bk.new w _ _, fun q => absurd (hw.st.lt _ q) (Nat.lt_irrefl _), (hf.wider (fun b e => .inl (hX b e))).did (Did.of_below hal), (hv.wider (fun b e => .inl (hX b e))).did (Did.of_below hal), Did.of_below hal⟩
  have HP0 := Lib.hid hpq
  have HTP := Lib.hid (hw.top.below hal)
  have HSL : Hid (s < (w.alloc (.cells #[.int .i64 e.st, .string (bs e.re), .int .i64 e.mi, .slice Af0 e.fs.length cf0, .string (bs e.bo), .int .i64 e.ak, .int .i64 e.gt, .slice Av0 e.vy.length cv0] 28)).heap.size) := (hw.top.below hal).lt
  have HW := Lib.hid hw; have HSM := Lib.hid hs
  have HDP : Hid (nF < maxLen) := by have := hw.nF; unfold maxLen; show _ < _; omega
  clear hal hX hpq hw hs hp hf hv hb
  unfold entV
  go_enter Tryz.func21, Tryz.ntmps21
  go_wp2_with fail
  generalize (w.alloc (.cells #[.int .i64 e.st, .string (bs e.re), .int .i64 e.mi, .slice Af0 e.fs.length cf0, .string (bs e.bo), .int .i64 e.ak, .int .i64 e.gt, .slice Av0 e.vy.length cv0] 28)) = W0 at *
  generalize hpp : w.heap.size = p at *
  clear hpp
  have HK0 : Hid (∀ W : World, W.heap[s]? = W0.heap[s]? → Calls Tryz.prog 28 #[.pointer (some ⟨s, 0, none⟩)] W fun e w' => e = .returned (.pointer (some ⟨tb, 0, none⟩)) ∧ W = w') := fun W hW => skept_any s tb W (HTP.out.keep hW)
  have HFV : Hid (FL W0.drew (.slice Av0 e.vy.length cv0) e.vy) := HP0.out.fv.fl
  have HKE : Hid (KE W0.drew) := HP0.out.ba.ke
  have HRM : Hid (∀ z1, PQ w0 w z1 p e (.slice Af0 e.fs.length cf0) (.slice Av0 e.vy.length cv0) (stX tb umb F XB) tb bb umb nF XB F n m l (rowS A) pu → Calls Tryz.prog 30 #[.pointer (some ⟨tb, 0, none⟩), .string (bs (idT k e.vy))] z1 fun e' w' => e' = .returned (.bool (hasK (idT k e.vy) l)) ∧ ∃ XB' F' nF', StI w' tb bb umb nF' XB' F' n m (dropK (idT k e.vy) l) (lessIf (hasK (idT k e.vy) l) (rowS A) k (idT k e.vy)) pu ∧ nF' ≤ nF ∧ Did (stX tb umb F XB) (stX tb umb F' XB') z1 w') := fun z1 hz => by
    refine remove_any9 hz.st k e.vy HSM.out.k HSM.out.vy HDP.out hz.ba (fun hh => ?_)
    have h1 : hasK (idT k e.vy) A = true := by rw [HW.out.sim.has]; exact hh
    obtain ⟨xs, a, zs, hA, ha, -⟩ := splitK (hasK_iff.1 h1)
    have hk := of_has HW.out.of hA ha
    obtain ⟨us, vs, r1, r2, -, -⟩ := rowS_mid (xs := xs) (zs := zs) (a := a) (by rw [← hA]; exact HW.out.nd2)
    rw [← hA, hk, ha] at r1
    rw [ha] at r2
    exact ⟨us, vs, r1, r2⟩
  refine wp_region_growS (.one 0 false (.one 2 false (.one 3 false (.one 4 false (.one 1 true (.one 5 true (.one 6 true (.one 7 false .done))))))))
    (fun x => x.heap[p]? = W0.heap[p]? ∧ x.heap[s]? = W0.heap[s]?) (by kernel_rfl) (by kernel_rfl) rfl (by kernel_rfl) (by kernel_rfl) ⟨rfl, rfl⟩ (fun ops hops => ?_)
  simp only [GT.ins, List.getD_cons_zero, List.getD_cons_succ]
  clear hops
  iterate 4
    refine growS_take (by rfl) ?_
    apply Exists.intro
    refine ⟨fun w' hE => ?_, ?_⟩
    · have p7 : w'.cell? ⟨p, 7, none⟩ = some (.slice Av0 e.vy.length cv0) := (World.cell?_of_block (a := ⟨p, 7, none⟩) hE.1).trans (HP0.out.pe.cell 7 _ rfl)
      go_simp
      try with_reducible rfl
    simp only [Act.put, List.setIfInBounds_toArray, List.set_cons_zero, List.set_cons_succ]
  refine growS_call (by rfl) (fun K hK => ?_)
  go_simp
  refine (HK0.out W0.drew rfl).mono ?_
  rintro r wx ⟨rfl, rfl⟩
  refine hK.out _ _ ⟨rfl, rfl⟩ ?_
  clear hK K
  refine growS_call (by rfl) (fun K hK => ?_)
  go_simp
  refine (identity_any k (.slice Av0 e.vy.length cv0) e.vy W0.drew HFV.out HSM.out.k HSM.out.vy HKE.out).mono ?_
  rintro r z1 ⟨rfl, hb⟩
  have hb : Below W0.heap.size W0 z1 := ⟨hb.os, hb.tape, hb.output, hb.size, hb.block⟩
  have HP1 := Lib.hid (HP0.out.bel hb)
  have HBB : Hid (z1.heap[p]? = W0.heap[p]? ∧ z1.heap[s]? = W0.heap[s]?) := ⟨hb.block p HP0.out.pe.lt, hb.block s HSL.out⟩
  refine hK.out _ _ HBB.out ?_
  clear hK K hb
  refine growS_call (by rfl) (fun K hK => ?_)
  go_simp
  refine (HRM.out z1 HP1.out).mono ?_
  rintro r w3 ⟨rfl, XB3, F3, nF3, hs3, hle3, hd3⟩
  have hp3 := (HP1.out.step hs3 hd3).rowsEq (R' := rowS (dropK (idT k e.vy) A)) (rows_less HW.out.of HW.out.nd2 HW.out.sim k e.vy)
  have HP3 := Lib.hid hp3; have HLE3 := Lib.hid hle3
  have hsq : w3.heap[s]? = W0.heap[s]? := (hd3.keep s (HTP.out.keep HBB.out.2).lt (fun q => HW.out.ns q)).trans HBB.out.2
  have hpq : w3.heap[p]? = W0.heap[p]? := (hd3.keep p HP1.out.pe.lt HP1.out.np).trans HBB.out.1
  refine hK.out _ _ ⟨hpq, hsq⟩ ?_
  clear hK K hs3 hle3 hd3 hp3 hsq hpq
  iterate 1
    refine growS_take (by rfl) ?_
    apply Exists.intro
    refine ⟨fun w' hE => ?_, ?_⟩
    · have p7 : w'.cell? ⟨p, 7, none⟩ = some (.slice Av0 e.vy.length cv0) := (World.cell?_of_block (a := ⟨p, 7, none⟩) hE.1).trans (HP0.out.pe.cell 7 _ rfl)
      go_simp
      try with_reducible rfl
    simp only [Act.put, List.setIfInBounds_toArray, List.set_cons_zero, List.set_cons_succ]
  refine growS_done (NoPanic.normal ?_)
  have HSIM : Hid (Sim (Hld w3 (stX tb umb F3 XB3)) (dropK (idT k e.vy) A) (dropK (idT k e.vy) l)) := by
    refine (HW.out.sim.drop _).mono (fun a b q => ?_)
    have q1 := q.wider (Y := stX tb umb F XB) (fun b e => .inl (by rw [HW.out.eX]; exact .inr e))
    exact q1.did (HP3.out.did)
  have HRES : Hid (∃ X', Sto w3 s X' n m (dropK (idT k e.vy) A) pu ∧ Did X X' w w3) := by
    obtain ⟨u1, u2, u3⟩ := HW.out.subs (fun a ha => (dropK_sub (idT k e.vy) A).subset ha)
    exact HW.out.done HP3.out.st HP3.out.did HSIM.out (Nat.le_trans HLE3.out HW.out.nF) u1 u2 u3 (HW.out.nd.sublist ((dropK_sub _ _).map _))
  clear HP3 HSIM HLE3 HP1 HBB HRM
  go_wp2_with fail
  go_ret
  exact ⟨by rw [HW.out.sim.has]; rfl, HRES.out⟩
section
variable {w : World} {s n m pu : Nat} {X : Nat → Prop} {A : List (It He)}
theorem slen_any (h : Sto w s X n m A pu) : Calls Tryz.prog 13 #[.pointer (some ⟨s, 0, none⟩)] w fun r w' => r = .returned (.int .i64 (A.length : Int)) ∧ w = w' := by
  obtain ⟨tb, bb, umb, nF, XB, F, l, hw⟩ := h
  have HK := Lib.hid (skept_any s tb w hw.top)
  have HL := Lib.hid (BT.len_any hw.st.bud)
  have c0 := hw.st.st.cell 0 (.pointer (some ⟨bb, 0, none⟩)) rfl
  rw [hw.sim.len]
  clear hw
  generalize (l.length : Int) = q at *
  go_enter Tryz.func13, Tryz.ntmps13
  go_wp2_with fail
  refine HK.out.mono ?_
  rintro r wx ⟨rfl, rfl⟩
  go_wp2_with fail
  refine HL.out.mono ?_
  rintro r wx ⟨rfl, rfl⟩
  go_wp2_with fail
  go_ret
  exact ⟨rfl, rfl⟩
theorem sbytes_any (h : Sto w s X n m A pu) : Calls Tryz.prog 14 #[.pointer (some ⟨s, 0, none⟩)] w fun r w' => r = .returned (.int .i64 (totK A : Int)) ∧ w = w' := by
  obtain ⟨tb, bb, umb, nF, XB, F, l, hw⟩ := h
  have HK := Lib.hid (skept_any s tb w hw.top)
  have HL := Lib.hid (BT.bytes_any hw.st.bud)
  have c0 := hw.st.st.cell 0 (.pointer (some ⟨bb, 0, none⟩)) rfl
  rw [hw.sim.tot]
  clear hw
  generalize (totK l : Int) = q at *
  go_enter Tryz.func14, Tryz.ntmps14
  go_wp2_with fail
  refine HK.out.mono ?_
  rintro r wx ⟨rfl, rfl⟩
  go_wp2_with fail
  refine HL.out.mono ?_
  rintro r wx ⟨rfl, rfl⟩
  go_wp2_with fail
  go_ret
  exact ⟨rfl, rfl⟩
end
set_option maxRecDepth 100000 in
set_option maxHeartbeats 1000000 in
theorem snew_any (n m : Nat) (w : World) (n1 : 1 ≤ n) (n2 : n ≤ 4096) (m1 : 1 ≤ m) (m2 : m ≤ 1073741824) :
    Calls Tryz.prog 7 #[.int .i64 n, .int .i64 m] w fun r w' => ∃ s X, r = .returned (.pointer (some ⟨s, 0, none⟩)) ∧ Sto w' s X n m [] 0 ∧ Below w.heap.size w w' ∧ (∀ b, X b → w.heap.size ≤ b) := by
  have HN := Lib.hid (BT.new_any n m w n1 n2 m1 m2)
  have hmk := @run_makeMap Tryz.prog
  clear n1 n2 m1 m2
  go_enter Tryz.func7, Tryz.ntmps7
  go_wp2_with fail
  refine HN.out.mono ?_
  rintro r w1 ⟨b, XB, rfl, hb, hbl, hx⟩
  have HB := Lib.hid hb; have HBL := Lib.hid hbl; have HX := Lib.hid hx
  clear hb hbl hx HN
  go_wp2_with fail
  go_ret
  have hm : MapS Tryz.prog 9 (w1.alloc (.map #[] 0)) w1.heap.size (fun _ => none) 0 := MapS.new w1
  have hal1 : Below w1.heap.size w1 (w1.alloc (.map #[] 0)) := (Below.refl _ _).alloc (Nat.le_refl _) _
  have hal2 : Below (w1.alloc (.map #[] 0)).heap.size (w1.alloc (.map #[] 0)) ((w1.alloc (.map #[] 0)).alloc (.cells #[.pointer (some ⟨b, 0, none⟩), .map (some w1.heap.size), .int .i64 0] 64)) := (Below.refl _ _).alloc (Nat.le_refl _) _
  have hs2 := bk.new (w1.alloc (.map #[] 0)) #[.pointer (some ⟨b, 0, none⟩), .map (some w1.heap.size), .int .i64 0] 64
  have hm2 := hm.keep (hal2.block _ hm.lt)
  have hb2 : BT.Bd ((w1.alloc (.map #[] 0)).alloc (.cells #[.pointer (some ⟨b, 0, none⟩), .map (some w1.heap.size), .int .i64 0] 64)) b XB n m [] := (HB.out.bel hal1).bel hal2
  have hz1 : (w1.alloc (.map #[] 0)).heap.size = w1.heap.size + 1 := by simp
  rw [hz1] at hs2
  have hbl2 := (hal1.trans (hal2.mono (by rw [hz1]; omega)))
  generalize hW2 : (w1.alloc (.map #[] 0)).alloc (.cells #[.pointer (some ⟨b, 0, none⟩), .map (some w1.heap.size), .int .i64 0] 64) = W2 at *
  have hz2 : W2.heap.size = w1.heap.size + 2 := by rw [← hW2]; simp
  have hal3 : Below W2.heap.size W2 (W2.alloc (.cells #[.pointer (some ⟨w1.heap.size + 1, 0, none⟩)] 44)) := (Below.refl _ _).alloc (Nat.le_refl _) _
  have htop := bk.new W2 #[.pointer (some ⟨w1.heap.size + 1, 0, none⟩)] 44
  have hXl := HB.out.lt
  have hst : StI W2 (w1.heap.size + 1) b w1.heap.size 0 XB (fun _ => none) n m [] (rowS []) 0 :=
    ⟨hs2, hb2, ⟨hm2, fun k => (rfl : ([] : List (List UInt8)) = []), fun k k' g m c m' c' e => by cases e⟩, fun c hc => by
      have := hXl c hc
      refine ⟨by omega, ?_⟩
      rintro (e | ⟨k, m, c', e⟩)
      · omega
      · cases e⟩
  rw [hz2] at htop
  refine ⟨w1.heap.size + 2, fun c => c = w1.heap.size + 2 ∨ stX (w1.heap.size + 1) w1.heap.size (fun _ => none) XB c, rfl, ⟨w1.heap.size + 1, b, w1.heap.size, 0, XB, fun _ => none, [], htop, hst.bel hal3, trivial, rfl, ?_, Nat.le_refl _, fun a ha => (by cases ha), fun a ha => (by cases ha), fun a ha => (by cases ha), List.nodup_nil⟩, ?_, ?_⟩
  · rintro (e | (e | ⟨k, m, c', e⟩) | e)
    · omega
    · omega
    · cases e
    · have := hXl _ e; omega
  · exact HBL.out.trans ((hbl2.trans (hal3.mono (by rw [hz2]; omega))).mono HBL.out.size)
  · have h1 := HBL.out.size
    rintro c (e | e | (e | ⟨k, m, c', e⟩) | e)
    · omega
    · omega
    · omega
    · cases e
    · exact HX.out c e
end Go.Proofs.YtopgeclecpaecaaGreatDoor
