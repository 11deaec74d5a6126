/- A store whose values lie apart from more blocks than its own: Put, Remove, Drop, New. Two stores beside each other. -/
import Derived.Test.YtopgeclecpaecaaGreatDoorKKpQ
namespace Go.Proofs.YtopgeclecpaecaaGreatDoor
open Go.RowKit
def zU (Z X : Nat → Prop) (b : Nat) : Prop := Z b ∨ X b
theorem Did.more {Z X X' : Nat → Prop} {w w' : World} (h : Did X X' w w') : Did (zU Z X) (zU Z X') w w' :=
  ⟨h.os, h.tape, h.output, h.size, fun b hb hx => h.keep b hb (fun e => hx (.inr e)), fun b hb => hb.elim (fun e => .inl (.inl e)) (fun e => (h.new b e).imp .inr id)⟩
def ZLt (Z : Nat → Prop) (w : World) : Prop := ∀ b, Z b → b < w.heap.size
/-- a store; its values lie in no block of Z -/
def StoZ (w : World) (s : Nat) (X Z : Nat → Prop) (n m : Nat) (A : List (It He)) (pu : Nat) : Prop :=
  ∃ tb bb umb nF XB F l, StoW w s tb bb umb nF XB F l X n m A pu ∧ Sim (Hld w Z) A l ∧ (∀ b, X b → Z b) ∧ ∀ b, Z b → b < w.heap.size
theorem StoZ.sto {w : World} {s : Nat} {X Z : Nat → Prop} {n m : Nat} {A : List (It He)} {pu : Nat} (h : StoZ w s X Z n m A pu) : Sto w s X n m A pu := by
  obtain ⟨tb, bb, umb, nF, XB, F, l, hw, -⟩ := h
  exact ⟨tb, bb, umb, nF, XB, F, l, hw⟩
/-- what a call has made of a store -/
theorem StoW.doneZ {w W : World} {s tb bb umb nF nF' : Nat} {XB X XB' Z : Nat → Prop} {F F' : List UInt8 → Option Hd} {l l' : List (It Iv)} {n m : Nat} {A A' : List (It He)} {pu pu' : Nat} (h : StoW w s tb bb umb nF XB F l X n m A pu) (hZ : ∀ b, X b → Z b) (hZl : ∀ b, Z b → b < w.heap.size)
    (hst : StI W tb bb umb nF' XB' F' n m l' (rowS A') pu') (hd : Did (stX tb umb F XB) (stX tb umb F' XB') w W) (hs : Sim (Hld W (zU Z (stX tb umb F' XB'))) A' l') (hn : nF' ≤ pu') (hof : Of A') (hsm : ∀ a ∈ A', SmE a.2.2.key a.2.2.e) (hnum : ∀ a ∈ A', 1 ≤ a.2.2.n ∧ a.2.2.n ≤ pu') (hnd : (A'.map (·.2.2.n)).Nodup) :
    ∃ X', StoZ W s X' (zU Z X') n m A' pu' ∧ Did X X' w W := by
  have htop := h.top.keep (hd.keep s h.top.lt h.ns)
  have hsX : X s := by rw [h.eX]; exact .inl rfl
  refine ⟨fun b => b = s ∨ stX tb umb F' XB' b, ⟨tb, bb, umb, nF', XB', F', l', ⟨htop, hst, hs.mono (fun a b q => q.wider fun c hc => ?_), rfl, fun q => (hd.new s q).elim h.ns (fun e => by have := h.top.lt; omega), hn, hof, hsm, hnum, hnd⟩, hs.mono (fun a b q => q.wider fun c hc => ?_), fun b e => .inr e, fun b e => ?_⟩, ?_⟩
  · rcases hc with rfl | hc
    · exact .inl (.inl (hZ _ hsX))
    · exact .inl (.inr hc)
  · rcases hc with hc | rfl | hc
    · exact .inl (.inl hc)
    · exact .inl (.inl (hZ _ hsX))
    · exact .inl (.inr hc)
  · rcases e with e | rfl | e
    · exact Nat.lt_of_lt_of_le (hZl b e) hd.size
    · exact htop.lt
    · exact hst.lt b e
  · rw [h.eX]
    exact ⟨hd.os, hd.tape, hd.output, hd.size, fun b hb hx => hd.keep b hb (fun e => hx (.inr e)), fun b hb => hb.elim (fun e => .inl (.inl e)) (fun e => (hd.new b e).imp .inr id)⟩
set_option maxRecDepth 100000 in
set_option maxHeartbeats 4000000 in
theorem zput_any {w : World} {s : Nat} {X Z : Nat → Prop} {n m : Nat} {A : List (It He)} {pu : Nat} (h : StoZ w s X Z n m A pu) (k : List UInt8) (e : En) (vf vv : Value) (hf : FLX w X vf e.fs) (hv : FLX w X vv e.vy) (hs : SmE k e) (hp : pu < 1000000) {w0 : World} (hb : Base w0 w X) :
    Calls Tryz.prog 11 #[.pointer (some ⟨s, 0, none⟩), .string (bs k), entV e vf vv] w fun r w' => r = .returned (.bool (decide (sizeE k e ≤ m))) ∧ ∃ X', StoZ w' s X' (zU Z X') n m (putS n m A ⟨k, e, pu + 1⟩).2 (pu + 1) ∧ Did X X' w w' := by
  obtain ⟨tb, bb, umb, nF, XB, F, l, hw, hwz, hZX, hZL⟩ := h
  have HWZ := Lib.hid hwz; have HZX := Lib.hid hZX; have HZL : Hid (ZLt Z w) := hZL
  clear hwz hZX hZL
  obtain ⟨Af0, cf0, hff⟩ := hf.fl.form
  obtain ⟨Av0, cv0, hfv⟩ := hv.fl.form
  subst hff hfv
  have hal : Below w.heap.size w (w.alloc (.cells #[.int .i64 e.st, .string (bs e.re), .int .i64 e.mi, .slice Af0 e.fs.length cf0, .string (bs e.bo), .int .i64 e.ak, .int .i64 e.gt, .slice Av0 e.vy.length cv0] 28)) := (Below.refl _ _).alloc (Nat.le_refl _) _
  have hX : ∀ b, stX tb umb F XB b → X b := fun b e => by rw [hw.eX]; exact .inr e
  have hpq : PQ w0 w (w.alloc (.cells #[.int .i64 e.st, .string (bs e.re), .int .i64 e.mi, .slice Af0 e.fs.length cf0, .string (bs e.bo), .int .i64 e.ak, .int .i64 e.gt, .slice Av0 e.vy.length cv0] 28)) w.heap.size e (.slice Af0 e.fs.length cf0) (.slice Av0 e.vy.length cv0) (stX tb umb F XB) tb bb umb nF XB F n m l (rowS A) pu :=
    ⟨hw.st.bel hal, (Base.mk hb.ke0 hb.bel (fun b e => hb.low b (hX b e)) : Base w0 w (stX tb umb F XB)).down hal, bk.new w _ _, fun q => absurd (hw.st.lt _ q) (Nat.lt_irrefl _), (hf.wider (fun b e => .inl (hX b e))).did (Did.of_below hal), (hv.wider (fun b e => .inl (hX b e))).did (Did.of_below hal), Did.of_below hal⟩
  have HP0 := Lib.hid hpq
  have HK0 := Lib.hid (skept_any s tb (w.alloc (.cells #[.int .i64 e.st, .string (bs e.re), .int .i64 e.mi, .slice Af0 e.fs.length cf0, .string (bs e.bo), .int .i64 e.ak, .int .i64 e.gt, .slice Av0 e.vy.length cv0] 28)) (hw.top.below hal))
  have HW := Lib.hid hw; have HSM := Lib.hid hs
  have HIL : Hid ((idT k e.vy).length ≤ KL) := Nat.le_trans (idT_len hs.k hs.vy) KL_7000
  have HPU := Lib.hid hp
  have p7 := hpq.pe.cell 7 (.slice Av0 e.vy.length cv0) rfl
  have HDP : Hid (nF < maxLen) := by have := hw.nF; unfold maxLen; show _ < _; omega
  obtain ⟨pu1, hpu1⟩ : ∃ q, q = pu + 1 := ⟨_, rfl⟩
  have hwp : IntKind.i64.wrap ((pu : Int) + 1) = (pu1 : Int) := by rw [IntKind.wrap_i64]; omega
  have HPU1 := Lib.hid hpu1; clear hpu1
  clear hal hX hpq hw hs hp hf hv hb
  unfold entV
  go_enter Tryz.func11, Tryz.ntmps11
  go_wp2_with fail
  generalize (w.alloc (.cells #[.int .i64 e.st, .string (bs e.re), .int .i64 e.mi, .slice Af0 e.fs.length cf0, .string (bs e.bo), .int .i64 e.ak, .int .i64 e.gt, .slice Av0 e.vy.length cv0] 28)) = W0 at *
  generalize hpp : w.heap.size = p at *
  have HPP := Lib.hid hpp; clear hpp
  refine HK0.out.mono ?_
  rintro r wx ⟨rfl, rfl⟩
  clear HK0
  go_wp2_with fail
  refine (identity_any k (.slice Av0 e.vy.length cv0) e.vy W0 HP0.out.fv.fl HSM.out.k HSM.out.vy HP0.out.ba.ke).mono ?_
  rintro r w2 ⟨rfl, hb⟩
  have HP2 := Lib.hid (HP0.out.bel hb)
  clear hb HP0 p7
  go_wp2_with fail
  refine (remove_any9 HP2.out.st k e.vy HSM.out.k HSM.out.vy HDP.out HP2.out.ba (fun hh => ?_)).mono ?_
  · have h1 : hasK (idT k e.vy) A = true := by rw [HW.out.sim.has]; exact hh
    obtain ⟨xs, a, zs, hA, ha, -⟩ := splitK (hasK_iff.1 h1)
    have hk := of_has HW.out.of hA ha
    obtain ⟨us, vs, r1, r2, -, -⟩ := rowS_mid (xs := xs) (zs := zs) (a := a) (by rw [← hA]; exact HW.out.nd2)
    rw [← hA, hk, ha] at r1
    rw [ha] at r2
    exact ⟨us, vs, r1, r2⟩
  rintro r w3 ⟨rfl, XB3, F3, nF3, hs3, hle3, hd3⟩
  have hp3 := (HP2.out.step hs3 hd3).rowsEq (R' := rowS (dropK (idT k e.vy) A)) (rows_less HW.out.of HW.out.nd2 HW.out.sim k e.vy)
  have HP3 := Lib.hid hp3; have HLE3 := Lib.hid hle3
  have HSIM : Hid (Sim (Hld w3 (zU Z (stX tb umb F3 XB3))) (dropK (idT k e.vy) A) (dropK (idT k e.vy) l)) := by
    refine (HWZ.out.drop _).mono (fun a b q => ?_)
    have q1 := q.wider (Y := zU Z (stX tb umb F XB)) (fun b e => .inl (e.elim id fun e => HZX.out b (by rw [HW.out.eX]; exact .inr e)))
    exact q1.did (HP3.out.did.more)
  have c2 := hp3.st.st.cell 2 (.int .i64 (pu : Int)) rfl
  have f2 := hp3.st.st.free 2
  clear hs3 hle3 hd3 hp3 HP2
  go_wp2_with fail
  obtain ⟨hs4, hd4⟩ := HP3.out.st.count pu1
  have HP4 := Lib.hid (HP3.out.step hs4 hd4)
  have HSIM4 := Lib.hid (HSIM.out.mono (fun a b q => q.did hd4.more))
  clear hs4 hd4 HP3 HSIM c2 f2
  generalize w3.setCell ⟨tb, 2, none⟩ (.int .i64 (pu1 : Int)) = w4 at *
  have HZ0 : Hid (w4.drew.heap[p]? = w4.heap[p]? ∧ w4.drew.heap[tb]? = w4.heap[tb]?) := ⟨rfl, rfl⟩
  have HFF : Hid (FL w4.drew (.slice Af0 e.fs.length cf0) e.fs) := HP4.out.ff.fl
  have HFV : Hid (FL w4.drew (.slice Av0 e.vy.length cv0) e.vy) := HP4.out.fv.fl
  refine wp_region_growS (.one 0 false (.one 1 false (.one 2 false (.one 3 false (.one 4 false (.one 5 false (.one 6 false (.one 8 false (.one 10 false (.one 11 false (.one 12 false (.one 13 false (.one 17 false (.one 7 true (.one 9 true (.one 14 false (.one 15 true (.one 16 false .done))))))))))))))))))
    (fun x => x.heap[p]? = w4.heap[p]? ∧ x.heap[tb]? = w4.heap[tb]?) (by kernel_rfl) (by kernel_rfl) rfl (by kernel_rfl) (by kernel_rfl) HZ0.out (fun ops hops => ?_)
  simp only [GT.ins, List.getD_cons_zero, List.getD_cons_succ]
  clear hops
  iterate 13
    refine growS_take (by rfl) ?_
    apply Exists.intro
    refine ⟨fun w' hE => ?_, ?_⟩
    · have t0 : w'.cell? ⟨tb, 0, none⟩ = some (.pointer (some ⟨bb, 0, none⟩)) := (World.cell?_of_block (a := ⟨tb, 0, none⟩) hE.2).trans (HP4.out.st.st.cell 0 _ rfl)
      have t2 : w'.cell? ⟨tb, 2, none⟩ = some (.int .i64 (pu1 : Int)) := (World.cell?_of_block (a := ⟨tb, 2, none⟩) hE.2).trans (HP4.out.st.st.cell 2 _ rfl)
      have p0 : w'.cell? ⟨p, 0, none⟩ = some (.int .i64 e.st) := (World.cell?_of_block (a := ⟨p, 0, none⟩) hE.1).trans (HP4.out.pe.cell 0 _ rfl)
      have p1 : w'.cell? ⟨p, 1, none⟩ = some (.string (bs e.re)) := (World.cell?_of_block (a := ⟨p, 1, none⟩) hE.1).trans (HP4.out.pe.cell 1 _ rfl)
      have p2 : w'.cell? ⟨p, 2, none⟩ = some (.int .i64 e.mi) := (World.cell?_of_block (a := ⟨p, 2, none⟩) hE.1).trans (HP4.out.pe.cell 2 _ rfl)
      have p3 : w'.cell? ⟨p, 3, none⟩ = some (.slice Af0 e.fs.length cf0) := (World.cell?_of_block (a := ⟨p, 3, none⟩) hE.1).trans (HP4.out.pe.cell 3 _ rfl)
      have p4 : w'.cell? ⟨p, 4, none⟩ = some (.string (bs e.bo)) := (World.cell?_of_block (a := ⟨p, 4, none⟩) hE.1).trans (HP4.out.pe.cell 4 _ rfl)
      have p5 : w'.cell? ⟨p, 5, none⟩ = some (.int .i64 e.ak) := (World.cell?_of_block (a := ⟨p, 5, none⟩) hE.1).trans (HP4.out.pe.cell 5 _ rfl)
      have p6 : w'.cell? ⟨p, 6, none⟩ = some (.int .i64 e.gt) := (World.cell?_of_block (a := ⟨p, 6, none⟩) hE.1).trans (HP4.out.pe.cell 6 _ rfl)
      have p7 : w'.cell? ⟨p, 7, none⟩ = some (.slice Av0 e.vy.length cv0) := (World.cell?_of_block (a := ⟨p, 7, none⟩) hE.1).trans (HP4.out.pe.cell 7 _ rfl)
      go_simp
      try with_reducible rfl
    simp only [Act.put, List.setIfInBounds_toArray, List.set_cons_zero, List.set_cons_succ]
  refine growS_call (by rfl) (fun K hK => ?_)
  go_simp
  refine (size_any k e (.slice Af0 e.fs.length cf0) (.slice Av0 e.vy.length cv0) w4.drew HFF.out HFV.out HSM.out).mono ?_
  rintro r z1 ⟨rfl, hb⟩
  have hb : Below w4.heap.size w4 z1 := ⟨hb.os, hb.tape, hb.output, hb.size, hb.block⟩
  have HPz1 := Lib.hid (HP4.out.bel hb)
  have HZ1 : Hid (Did (stX tb umb F3 XB3) (stX tb umb F3 XB3) w4 z1) := Did.of_below hb
  have HBB1 : Hid (z1.heap[p]? = w4.heap[p]? ∧ z1.heap[tb]? = w4.heap[tb]?) := ⟨hb.block p HP4.out.pe.lt, hb.block tb HP4.out.st.st.lt⟩
  refine hK.out _ _ HBB1.out ?_
  clear hK K hb
  refine growS_call (by rfl) (fun K hK => ?_)
  go_simp
  refine (copied_any9 e (.slice Af0 e.fs.length cf0) (.slice Av0 e.vy.length cv0) z1 HPz1.out.ff.fl HPz1.out.fv.fl HSM.out.fs HSM.out.vy (by have := HSM.out.re; omega) (by have := HSM.out.bo; omega)).mono ?_
  rintro r z2 ⟨vf', vv', rfl, of', ov', hb⟩
  obtain ⟨Af, cf, rfl⟩ := of'.form
  obtain ⟨Av, cv, rfl⟩ := ov'.form
  have HPz2 := Lib.hid (HPz1.out.bel hb)
  have hzl : ∀ b, zU Z (stX tb umb F3 XB3) b → b < z1.heap.size := fun b e => e.elim (fun e => Nat.lt_of_lt_of_le (HZL.out b e) HPz1.out.did.size) (fun e => HPz1.out.st.lt b e)
  have HNF := Lib.hid (FLX.own of' hzl); have HNV := Lib.hid (FLX.own ov' hzl)
  clear hzl
  have HZ2 := Lib.hid (HZ1.out.trans (Did.of_below hb))
  simp only [entV]
  have HBB2 : Hid (z2.heap[p]? = w4.heap[p]? ∧ z2.heap[tb]? = w4.heap[tb]?) := ⟨(hb.block p HPz1.out.pe.lt).trans HBB1.out.1, (hb.block tb HPz1.out.st.st.lt).trans HBB1.out.2⟩
  refine hK.out _ _ HBB2.out ?_
  clear hK K hb of' ov'
  iterate 1
    refine growS_take (by rfl) ?_
    apply Exists.intro
    refine ⟨fun w' hE => ?_, ?_⟩
    · have t0 : w'.cell? ⟨tb, 0, none⟩ = some (.pointer (some ⟨bb, 0, none⟩)) := (World.cell?_of_block (a := ⟨tb, 0, none⟩) hE.2).trans (HP4.out.st.st.cell 0 _ rfl)
      have t2 : w'.cell? ⟨tb, 2, none⟩ = some (.int .i64 (pu1 : Int)) := (World.cell?_of_block (a := ⟨tb, 2, none⟩) hE.2).trans (HP4.out.st.st.cell 2 _ rfl)
      have p0 : w'.cell? ⟨p, 0, none⟩ = some (.int .i64 e.st) := (World.cell?_of_block (a := ⟨p, 0, none⟩) hE.1).trans (HP4.out.pe.cell 0 _ rfl)
      have p1 : w'.cell? ⟨p, 1, none⟩ = some (.string (bs e.re)) := (World.cell?_of_block (a := ⟨p, 1, none⟩) hE.1).trans (HP4.out.pe.cell 1 _ rfl)
      have p2 : w'.cell? ⟨p, 2, none⟩ = some (.int .i64 e.mi) := (World.cell?_of_block (a := ⟨p, 2, none⟩) hE.1).trans (HP4.out.pe.cell 2 _ rfl)
      have p3 : w'.cell? ⟨p, 3, none⟩ = some (.slice Af0 e.fs.length cf0) := (World.cell?_of_block (a := ⟨p, 3, none⟩) hE.1).trans (HP4.out.pe.cell 3 _ rfl)
      have p4 : w'.cell? ⟨p, 4, none⟩ = some (.string (bs e.bo)) := (World.cell?_of_block (a := ⟨p, 4, none⟩) hE.1).trans (HP4.out.pe.cell 4 _ rfl)
      have p5 : w'.cell? ⟨p, 5, none⟩ = some (.int .i64 e.ak) := (World.cell?_of_block (a := ⟨p, 5, none⟩) hE.1).trans (HP4.out.pe.cell 5 _ rfl)
      have p6 : w'.cell? ⟨p, 6, none⟩ = some (.int .i64 e.gt) := (World.cell?_of_block (a := ⟨p, 6, none⟩) hE.1).trans (HP4.out.pe.cell 6 _ rfl)
      have p7 : w'.cell? ⟨p, 7, none⟩ = some (.slice Av0 e.vy.length cv0) := (World.cell?_of_block (a := ⟨p, 7, none⟩) hE.1).trans (HP4.out.pe.cell 7 _ rfl)
      go_simp
      try with_reducible rfl
    simp only [Act.put, List.setIfInBounds_toArray, List.set_cons_zero, List.set_cons_succ]
  refine growS_call (by rfl) (fun K hK => ?_)
  go_simp
  refine (BT.put_any HPz2.out.st.bud (idT k e.vy) HIL.out (sizeE k e : Int) (by omega) (by have := HSM.out.size; omega) ⟨.int .i64 e.st, .string (bs e.re), .int .i64 e.mi, .slice Af e.fs.length cf, .string (bs e.bo), .int .i64 e.ak, .int .i64 e.gt, .slice Av e.vy.length cv, .int .i64 (pu1 : Int), item_one e pu1 Af Av cf cv⟩).mono ?_
  rintro r w5 ⟨v, rfl, hv, XB5, hb5, hd5⟩
  rw [Int.toNat_natCast] at hv hb5
  obtain ⟨hs5, hd5x⟩ := HPz2.out.st.budget hb5 hd5
  have HP5 := Lib.hid (HPz2.out.step hs5 hd5x)
  have hsm2 := HSIM4.out.mono (Q := Hld z2 (zU Z (stX tb umb F3 XB3))) (fun a b q => q.did HZ2.out.more)
  obtain ⟨hg5, hsm5⟩ := hsm2.put n m (idT k e.vy) (sizeE k e) ⟨k, e, pu1⟩ ⟨.int .i64 e.st, .string (bs e.re), .int .i64 e.mi, .slice Af e.fs.length cf, .string (bs e.bo), .int .i64 e.ak, .int .i64 e.gt, .slice Av e.vy.length cv, .int .i64 (pu1 : Int), item_one e pu1 Af Av cf cv⟩ ⟨rfl, rfl, rfl, HNF.out, rfl, rfl, rfl, HNV.out, rfl⟩
  rw [← hg5] at hv
  obtain ⟨Ag, cg, hvf⟩ := hv.form
  subst hvf
  have HSM5 := Lib.hid (hsm5.mono (Q := Hld w5 (zU Z (stX tb umb F3 XB5))) (fun a b q => q.did hd5x.more))
  have HV5 := Lib.hid hv
  have HGN : Hid (∀ gv, (Value.slice Ag (putK n m (idT k e.vy) (sizeE k e) (⟨k, e, pu1⟩ : He) (dropK (idT k e.vy) A)).1.length cg).ownBlock = some gv → ¬ undX umb F3 gv) := fun gv hgv hu => by
    have h1 := (World.ownsRow.lt hv gv hgv).1
    have h2 := HPz2.out.st.und.lt gv hu
    omega
  refine hK.out _ _ ⟨(hd5.keep p HPz2.out.pe.lt (fun q => HPz2.out.np (.inr (.inr q)))).trans HBB2.out.1, (hd5.keep tb HPz2.out.st.st.lt (fun q => (HPz2.out.st.dis tb q).1 rfl)).trans HBB2.out.2⟩ ?_
  generalize HL5 : (putK n m (idT k e.vy) (sizeE k e) (⟨.int .i64 e.st, .string (bs e.re), .int .i64 e.mi, .slice Af e.fs.length cf, .string (bs e.bo), .int .i64 e.ak, .int .i64 e.gt, .slice Av e.vy.length cv, .int .i64 (pu1 : Int), item_one e pu1 Af Av cf cv⟩ : Iv) (dropK (idT k e.vy) l)).2 = l5 at *
  clear HL5 hK K hs5 hd5x hsm2 hg5 hsm5 hv hb5 hd5 HNF HNV HZ1 HZ2 HPz1 HPz2 HBB1 HBB2 HSIM4 HFF HFV HZ0
  iterate 1
    refine growS_take (by rfl) ?_
    apply Exists.intro
    refine ⟨fun w' hE => ?_, ?_⟩
    · have t0 : w'.cell? ⟨tb, 0, none⟩ = some (.pointer (some ⟨bb, 0, none⟩)) := (World.cell?_of_block (a := ⟨tb, 0, none⟩) hE.2).trans (HP4.out.st.st.cell 0 _ rfl)
      have t2 : w'.cell? ⟨tb, 2, none⟩ = some (.int .i64 (pu1 : Int)) := (World.cell?_of_block (a := ⟨tb, 2, none⟩) hE.2).trans (HP4.out.st.st.cell 2 _ rfl)
      have p0 : w'.cell? ⟨p, 0, none⟩ = some (.int .i64 e.st) := (World.cell?_of_block (a := ⟨p, 0, none⟩) hE.1).trans (HP4.out.pe.cell 0 _ rfl)
      have p1 : w'.cell? ⟨p, 1, none⟩ = some (.string (bs e.re)) := (World.cell?_of_block (a := ⟨p, 1, none⟩) hE.1).trans (HP4.out.pe.cell 1 _ rfl)
      have p2 : w'.cell? ⟨p, 2, none⟩ = some (.int .i64 e.mi) := (World.cell?_of_block (a := ⟨p, 2, none⟩) hE.1).trans (HP4.out.pe.cell 2 _ rfl)
      have p3 : w'.cell? ⟨p, 3, none⟩ = some (.slice Af0 e.fs.length cf0) := (World.cell?_of_block (a := ⟨p, 3, none⟩) hE.1).trans (HP4.out.pe.cell 3 _ rfl)
      have p4 : w'.cell? ⟨p, 4, none⟩ = some (.string (bs e.bo)) := (World.cell?_of_block (a := ⟨p, 4, none⟩) hE.1).trans (HP4.out.pe.cell 4 _ rfl)
      have p5 : w'.cell? ⟨p, 5, none⟩ = some (.int .i64 e.ak) := (World.cell?_of_block (a := ⟨p, 5, none⟩) hE.1).trans (HP4.out.pe.cell 5 _ rfl)
      have p6 : w'.cell? ⟨p, 6, none⟩ = some (.int .i64 e.gt) := (World.cell?_of_block (a := ⟨p, 6, none⟩) hE.1).trans (HP4.out.pe.cell 6 _ rfl)
      have p7 : w'.cell? ⟨p, 7, none⟩ = some (.slice Av0 e.vy.length cv0) := (World.cell?_of_block (a := ⟨p, 7, none⟩) hE.1).trans (HP4.out.pe.cell 7 _ rfl)
      go_simp
      try with_reducible rfl
    simp only [Act.put, List.setIfInBounds_toArray, List.set_cons_zero, List.set_cons_succ]
  refine growS_done (NoPanic.normal ?_)
  obtain ⟨xs, rest, hA1, hG, hA5⟩ := put_split n m (idT k e.vy) (sizeE k e) (⟨k, e, pu1⟩ : He) A
  rw [hG] at HV5 HGN
  rw [hG]
  rw [hA5] at HSM5
  generalize hA5g : (if m < sizeE k e then rest else rest ++ [(idT k e.vy, sizeE k e, (⟨k, e, pu1⟩ : He))]) = A5 at HSM5
  have HA5 : Hid ((putS n m A ⟨k, e, pu + 1⟩).2 = A5) := by
    have h1 := HPU1.out
    show _ = _
    rw [← hA5g, ← hA5, put_again, h1]; rfl
  have HAG := Lib.hid hA5g
  have HA1 := Lib.hid hA1
  have HP6 := Lib.hid (HP5.out.rowsEq (R' := rowS (xs ++ rest)) (by rw [hA1]))
  have HKL : Hid ((keysK xs).length = xs.length ∧ xs.length ≤ 4096) := by
    refine ⟨by simp [keysK], ?_⟩
    have h1 := HW.out.st.bud.ok.len
    have h2 := HW.out.st.bud.bounds.2.1
    have h3 := HW.out.sim.len
    have h4 := (dropK_sub (idT k e.vy) A).length_le
    rw [hA1] at h4
    simp at h4
    omega
  clear hA1 hG hA5 hA5g HP5
  go_wp2_with fail
  go_loopg [46] (keysK xs).length (fun c i wr => ∃ (j nF' : Nat) (F' : List UInt8 → Option Hd), i = .int .i64 j ∧ j + c = (keysK xs).length ∧ Hid (PQ w0 w wr p e (.slice Af0 e.fs.length cf0) (.slice Av0 e.vy.length cv0) (stX tb umb F XB) tb bb umb nF' XB5 F' n m l5 (rowS (xs.drop j ++ rest)) pu1 ∧ nF' ≤ nF3 ∧ Sim (Hld wr (zU Z (stX tb umb F' XB5))) A5 l5 ∧ ownS wr z2.heap.size (.slice Ag (keysK xs).length cg) (keysK xs) ∧ (∀ gv, (Value.slice Ag (keysK xs).length cg).ownBlock = some gv → ¬ undX umb F' gv)))
  case atStart => exact ⟨0, nF3, F3, rfl, by omega, HP6.out, Nat.le_refl _, HSM5.out, HV5.out, HGN.out⟩
  case round =>
    obtain ⟨j, nF', F', rfl, hj, hr⟩ := hrel
    have HP := Lib.hid hr.out.1; have HLE := Lib.hid hr.out.2.1; have HS := Lib.hid hr.out.2.2.1; have HV := Lib.hid hr.out.2.2.2.1; have HG := Lib.hid hr.out.2.2.2.2
    clear hr HP6 HSM5 HV5 HGN
    have hkl := HKL.out
    have HNM : Hid (nF' < maxLen) := by have h1 := HLE.out; have h2 := HLE3.out; have h3 := HW.out.nF; have h4 := HPU.out; unfold maxLen; show _ < _; omega
    by_cases hend : j < (keysK xs).length
    · obtain ⟨gv, rfl, hcv⟩ := ownS.cell HV.out j hend
      have hjx : j < xs.length := by omega
      have hgd : (keysK xs).getD j [] = xs[j].1 := by simp [keysK, List.getD, hjx]
      have hdr : xs.drop j = xs[j] :: xs.drop (j + 1) := List.drop_eq_getElem_cons hjx
      have hmem : xs[j] ∈ A := (dropK_sub (idT k e.vy) A).subset (by rw [HA1.out]; exact List.mem_append_left _ (List.getElem_mem hjx))
      have hof := HW.out.of _ hmem
      have hsm := HW.out.sm _ hmem
      have hnd : (keysK (xs.drop j ++ rest)).Nodup := by
        have h1 : (keysK (dropK (idT k e.vy) A)).Nodup := HW.out.nd2.sublist (keysK_sub (dropK_sub _ _))
        rw [HA1.out] at h1
        exact h1.sublist (keysK_sub (List.Sublist.append_right (List.drop_sublist j xs) rest))
      rw [hdr] at hnd
      obtain ⟨us, vs, r1, r2, -, r4⟩ := rowS_mid (xs := []) (zs := xs.drop (j + 1) ++ rest) (a := xs[j]) hnd
      have hR : rowS (xs.drop j ++ rest) = rowS ([] ++ xs[j] :: (xs.drop (j + 1) ++ rest)) := by rw [hdr]; rfl
      rw [← hR] at r1 r4
      have hRn : upd (rowS (xs.drop j ++ rest)) xs[j].2.2.key (us ++ vs) = rowS (xs.drop (j + 1) ++ rest) := by
        funext q
        have := r4 q
        simp only [List.nil_append] at this
        rw [this]
        by_cases e' : q = xs[j].2.2.key
        · rw [if_pos e', e', upd_same]
        · rw [if_neg e', upd_other _ _ e']
      have hid : xs[j].1 = idT xs[j].2.2.key xs[j].2.2.e.vy := congrArg Prod.fst hof
      rw [hgd, hid] at hcv
      rw [hid] at r1 r2
      have HU := Lib.hid (unlist_any wr tb umb nF' F' (rowS (xs.drop j ++ rest)) (some ⟨bb, 0, none⟩) (.int .i64 (pu1 : Int)) xs[j].2.2.key xs[j].2.2.e.vy us vs HP.out.st.st HP.out.st.und HNM.out hsm.k hsm.vy r1 r2 HP.out.ba.ke)
      have HRN := Lib.hid hRn
      have HKK : Hid (gk - 1 < gk ∧ j + 1 + (gk - 1) = (keysK xs).length) := ⟨by omega, by omega⟩
      have HJJ : Hid (j < 1000000) := by show _ < _; omega
      generalize xs[j] = a at *
      clear hjx hgd hdr hmem hof hsm hnd r1 r2 r4 hR hRn hid hkl hj
      generalize idT a.2.2.key a.2.2.e.vy = ia at *
      go_wp2_with fail
      refine HU.out.mono ?_
      rintro r w6 ⟨rfl, n', F'', hle, hu, hd⟩
      obtain ⟨hs, hdx⟩ := HP.out.st.rows hu hd
      have HP' := Lib.hid ((HP.out.step hs hdx).rowsEq HRN.out)
      have HS' := Lib.hid (HS.out.mono (Q := Hld w6 (zU Z (stX tb umb F'' XB5))) (fun a b q => q.did hdx.more))
      have HLE' : Hid (n' ≤ nF3) := Nat.le_trans hle HLE.out
      have HG' : Hid (∀ gv', (Value.slice (some ⟨gv, 0, none⟩) (keysK xs).length cg).ownBlock = some gv' → ¬ undX umb F'' gv') := fun gv' hgv hx => by
        rcases hd.new gv' hx with q | q
        · exact HG.out gv' hgv q
        · have := (World.ownsRow.lt HV.out gv' hgv).2; omega
      have HV' := Lib.hid (BT.ownS.keepG HV.out (fun g hg => hd.keep g (World.ownsRow.lt HV.out g hg).2 (HG.out g hg)))
      clear hs hdx hle hu hd hcv HP HS HLE HG HV HU
      go_wp2_with fail
      go_roundg (gk - 1)
      case measure => exact HKK.out.1
      case rel => exact ⟨j + 1, n', F'', by first | rfl | exact wrapJ j HJJ.out, HKK.out.2, HP'.out, HLE'.out, HS'.out, HV'.out, HG'.out⟩
    · have hjl : xs.drop j = [] := List.drop_eq_nil_of_le (by omega)
      have HQ := Lib.hid (HP.out.rowsEq (R' := rowS rest) (by rw [hjl]; rfl))
      have HPK := Lib.hid (BT.peek_any HQ.out.st.bud (idT k e.vy) HIL.out)
      have t0 := HQ.out.st.st.cell 0 (.pointer (some ⟨bb, 0, none⟩)) rfl
      have hfd : (findK (idT k e.vy) l5).isSome = decide (sizeE k e ≤ m) := by
        have hne : idT k e.vy ∉ keysK rest := fun q => dropK_keys (idT k e.vy) A (by rw [HA1.out, keysK_append]; exact List.mem_append_right _ q)
        have h1 : (findK (idT k e.vy) A5).isSome = decide (sizeE k e ≤ m) := by
          rw [← HAG.out]
          by_cases hms : m < sizeE k e
          · rw [if_pos hms, findK_none hne, decide_eq_false (by omega)]; rfl
          · rw [if_neg hms, find_snoc (idT k e.vy) rest (idT k e.vy, sizeE k e, (⟨k, e, pu1⟩ : He)) rfl hne, decide_eq_true (by omega)]; rfl
        rw [← h1]
        rcases HS.out.find (idT k e.vy) with ⟨q1, q2⟩ | ⟨a, y, q1, q2, -⟩
        · rw [q1, q2]; rfl
        · rw [q1, q2]; rfl
      rw [hfd] at HPK
      generalize valK BT.zero (findK (idT k e.vy) l5) = y0 at HPK
      clear hkl hj hjl hfd HP HG HV
      go_wp2_with fail
      refine HPK.out.mono ?_
      rintro r w6 ⟨rfl, hb⟩
      have HQ6 := Lib.hid (HQ.out.bel hb)
      have HS6 := Lib.hid (HS.out.mono (Q := Hld w6 (zU Z (stX tb umb F' XB5))) (fun a b q => q.did (Did.of_below hb)))
      clear hb t0 HPK HQ HS
      unfold Iv.agg
      have hst : World.there (w6.alloc (.cells #[.int .i64 0, .string ⟨#[]⟩, .int .i64 0, .slice none 0 0, .string ⟨#[]⟩, .int .i64 0, .int .i64 0, .slice none 0 0, .int .i64 0] 61)) w6.heap.size 0 9 := (bk.new w6 #[.int .i64 0, .string ⟨#[]⟩, .int .i64 0, .slice none 0 0, .string ⟨#[]⟩, .int .i64 0, .int .i64 0, .slice none 0 0, .int .i64 0] 61).there 0 9 (by decide)
      have HST := Lib.hid hst; have HON := Lib.hid y0.one
      have hb7 : Below w6.heap.size w6 (World.setCells (w6.alloc (.cells #[.int .i64 0, .string ⟨#[]⟩, .int .i64 0, .slice none 0 0, .string ⟨#[]⟩, .int .i64 0, .int .i64 0, .slice none 0 0, .int .i64 0] 61)) w6.heap.size 0 [y0.c0, y0.c1, y0.c2, y0.c3, y0.c4, y0.c5, y0.c6, y0.c7, y0.c8]) := Below.cells ((Below.refl _ _).alloc (Nat.le_refl _) _) _ (Nat.le_refl _) _ 0
      have HB7 := Lib.hid hb7
      clear hst hb7
      by_cases hms : m < sizeE k e
      · have hdm : decide (sizeE k e ≤ m) = false := decide_eq_false (by omega)
        rw [hdm]
        go_wp2_with (refine wpList_store_mid rfl 61 (.tmp 11) (.tmp 61) rfl _ 0 #[y0.c0, y0.c1, y0.c2, y0.c3, y0.c4, y0.c5, y0.c6, y0.c7, y0.c8] rfl rfl HST.out BT.infoT.out HON.out ?_; clear HST)
        go_ret
        have hA5e : A5 = rest := by rw [← HAG.out, if_pos hms]
        have HQ7 := Lib.hid (HQ6.out.bel HB7.out)
        have hsub : ∀ a ∈ rest, a ∈ A := fun a ha => (dropK_sub (idT k e.vy) A).subset (by rw [HA1.out]; exact List.mem_append_right _ ha)
        obtain ⟨u1, u2, u3⟩ := HW.out.subs hsub
        have hsl : rest.Sublist A := List.Sublist.trans (by rw [HA1.out]; exact List.sublist_append_right xs rest) (dropK_sub (idT k e.vy) A)
        have HS7 := HS6.out.mono (Q := Hld (World.setCells (w6.alloc (.cells #[.int .i64 0, .string ⟨#[]⟩, .int .i64 0, .slice none 0 0, .string ⟨#[]⟩, .int .i64 0, .int .i64 0, .slice none 0 0, .int .i64 0] 61)) w6.heap.size 0 [y0.c0, y0.c1, y0.c2, y0.c3, y0.c4, y0.c5, y0.c6, y0.c7, y0.c8]) (zU Z (stX tb umb F' XB5))) (fun a b q => q.did (Did.of_below HB7.out))
        rw [hA5e] at HS7
        have h9 := HPU1.out
        have hst7 := HQ7.out.st
        obtain ⟨X', q1, q2⟩ := HW.out.doneZ HZX.out HZL.out (pu' := pu1) hst7 HQ7.out.did HS7 (by have h1 := HLE.out; have h2 := HLE3.out; have h3 := HW.out.nF; omega) u1 u2 (fun a ha => ⟨(u3 a ha).1, by have := (u3 a ha).2; omega⟩) (HW.out.nd.sublist (hsl.map _))
        exact ⟨by rw [decide_eq_false (by omega : ¬ sizeE k e ≤ m)]; rfl, X', by rw [HA5.out, hA5e, ← h9]; exact q1, q2⟩
      · have hdm : decide (sizeE k e ≤ m) = true := decide_eq_true (by omega)
        rw [hdm]
        have hA5e : A5 = rest ++ [(idT k e.vy, sizeE k e, (⟨k, e, pu1⟩ : He))] := by rw [← HAG.out, if_neg hms]
        have HQ7 := Lib.hid (HQ6.out.bel HB7.out)
        have HKM : Hid (k.length ≤ maxLen) := by have := HSM.out.k; unfold maxLen; show _ ≤ _; omega
        have HOW : Hid (ownS (World.setCells (w6.alloc (.cells #[.int .i64 0, .string ⟨#[]⟩, .int .i64 0, .slice none 0 0, .string ⟨#[]⟩, .int .i64 0, .int .i64 0, .slice none 0 0, .int .i64 0] 61)) w6.heap.size 0 [y0.c0, y0.c1, y0.c2, y0.c3, y0.c4, y0.c5, y0.c6, y0.c7, y0.c8]) 0 (sliV (F' k)) (rowS rest k)) := by
          have h1 := HQ7.out.st.und.row k
          show ownS _ _ _ _
          cases hFk : F' k with
          | none => rw [hFk] at h1; have h2 : rowS rest k = [] := h1; rw [h2]; exact ownS_nil _ _
          | some o =>
            rw [hFk] at h1
            obtain ⟨g0, m0, c0⟩ := o
            obtain ⟨h2, -, h3⟩ := h1
            show ownS _ _ (.slice (some ⟨g0, 0, none⟩) m0 c0) _
            rw [h2]; exact h3
        have HRL : Hid ((rowS rest k).length ≤ 4096) := by
          have h1 := HW.out.st.bud.ok.len
          have h2 := HW.out.st.bud.bounds.2.1
          have h3 := HW.out.sim.len
          have h4 := (dropK_sub (idT k e.vy) A).length_le
          rw [HA1.out] at h4
          have h5 : (rowS rest k).length ≤ rest.length := by unfold rowS; rw [List.length_map]; exact List.length_filter_le _ _
          simp at h4
          show _ ≤ _
          omega
        have HMS := Lib.hid hms
        clear hms
        obtain ⟨i0, hi, hz0, hz1, hz2⟩ := info_parts infoS
        go_wp2_with (first | (refine wpList_store_mid rfl 61 (.tmp 11) (.tmp 61) rfl _ 0 #[y0.c0, y0.c1, y0.c2, y0.c3, y0.c4, y0.c5, y0.c6, y0.c7, y0.c8] rfl rfl HST.out BT.infoT.out HON.out ?_; clear HST; generalize (World.setCells (w6.alloc (.cells #[.int .i64 0, .string ⟨#[]⟩, .int .i64 0, .slice none 0 0, .string ⟨#[]⟩, .int .i64 0, .int .i64 0, .slice none 0 0, .int .i64 0] 61)) w6.heap.size 0 [y0.c0, y0.c1, y0.c2, y0.c3, y0.c4, y0.c5, y0.c6, y0.c7, y0.c8]) = w7 at *; have q1 := HQ7.out.st.st.cell 1 (.map (some umb)) rfl; have hrun := HQ7.out.st.und.map.look Tryz.underlying9 Tryz.underlying62 (zeroSl w7) k HKM.out) | (at_builtin; refine wpList_append_lies _ rfl (.tmp 72) (.tmp 74) 36 rfl 0 9 i0 (.string ⟨#[]⟩) 1 16 Tryz.underlying36 hi hz0 hz1 hz2 rfl (by decide) (sliV (F' k)) (rowS rest k).length (strCs (rowS rest k)) rfl (World.ownsRow.alloc HOW.out _) ⟨w7.heap.size, 0, none⟩ 1 1 [.string (bs (idT k e.vy))] rfl rfl ?d1 ?d2 (by decide) ?d3 ?d4 (Nat.zero_le _) (w7.heap.size + 1) (by simp) ?_))
        case d1 =>
          intro j v hj
          match j, hj with
          | 0, hj => simp at hj; subst hj; simp [Addr.add]
        case d2 => intro v hv; simp at hv; subst hv; rfl
        case d3 => have := HRL.out; unfold maxLen; omega
        case d4 => have := HRL.out; omega
        intro g' cap' w9 ho9 hg9 hor hlt9
        have hal9 : Below w7.heap.size w7 (w7.alloc (.cells #[.string (bs (idT k e.vy))] 9)) := (Below.refl _ _).alloc (Nat.le_refl _) _
        have hke9 : ∀ b, b < w7.heap.size → ¬ (∃ q m c, F' q = some (b, m, c)) → w9.heap[b]? = w7.heap[b]? := fun b hb hne => (hg9.block b (by simp; omega) (fun e' => by obtain ⟨m', c', e'⟩ := sliV_own e'.symm; exact hne ⟨k, m', c', e'⟩)).trans (hal9.block b hb)
        have hbt9 := HQ7.out.st.st.keep (hke9 tb HQ7.out.st.st.lt (fun ⟨q, m', c', e'⟩ => HQ7.out.st.ntb (.inr ⟨q, m', c', e'⟩)))
        have hmp9 := HQ7.out.st.und.map.keep (hke9 umb HQ7.out.st.und.map.lt (fun ⟨q, m', c', e'⟩ => by obtain ⟨cur, -, -, -, -, -, -, -, q9⟩ := HQ7.out.st.und.cells e'; exact q9 rfl))
        have HSU := Lib.hid (setUnder_put w9 tb umb nF' g' ((rowS rest k).length + 1) cap' F' _ _ k hbt9 hmp9 HNM.out (by have := HSM.out.k; omega) (Nat.succ_ne_zero _))
        have H9 : Hid (w9.ownsRow 0 9 1 (.slice (some ⟨g', 0, none⟩) ((rowS rest k).length + 1) cap') ((rowS rest k).length + 1) (strCs (rowS rest k) ++ [.string (bs (idT k e.vy))]) ∧ (w7.alloc (.cells #[.string (bs (idT k e.vy))] 9)).grownBy w9 (sliV (F' k)).ownBlock ∧ ((sliV (F' k)).ownBlock = some g' ∨ g' = (w7.alloc (.cells #[.string (bs (idT k e.vy))] 9)).heap.size)) := ⟨ho9, hg9, hor.imp id (fun e' => by rw [e']; simp)⟩
        have HA9 := Lib.hid hal9
        clear ho9 hg9 hor hlt9 hal9 hke9 hbt9 hmp9 q1 hrun hi hz0 hz1 hz2
        go_wp2_with fail
        refine HSU.out.mono ?_
        rintro r w10 ⟨rfl, hm10, hd10⟩
        have h9 := H9.out
        obtain ⟨hu10, hdu10⟩ := und_append HQ7.out.st.und HA9.out h9.1 h9.2.1 h9.2.2 hm10 hd10
        obtain ⟨hst10, hdx10⟩ := HQ7.out.st.rows hu10 hdu10
        have HQ10 := Lib.hid ((HQ7.out.step hst10 hdx10).rowsEq (R' := rowS A5) (by
          rw [hA5e, rowS_snoc]
          funext q
          show (if q = k then rowS rest k ++ [idT k e.vy] else rowS rest q) = (if q = k then rowS rest q ++ [idT k e.vy] else rowS rest q)
          by_cases e' : q = k
          · rw [if_pos e', if_pos e', e']
          · rw [if_neg e', if_neg e']))
        have HS10 := Lib.hid ((HS6.out.mono (Q := Hld w7 (zU Z (stX tb umb F' XB5))) (fun a b q => q.did (Did.of_below HB7.out))).mono (Q := Hld w10 (zU Z (stX tb umb _ XB5))) (fun a b q => q.did hdx10.more))
        have HRES : Hid (∃ X', StoZ w10 s X' (zU Z X') n m A5 pu1 ∧ Did X X' w w10) := by
          have hsub : ∀ a ∈ rest, a ∈ A := fun a ha => (dropK_sub (idT k e.vy) A).subset (by rw [HA1.out]; exact List.mem_append_right _ ha)
          obtain ⟨u1, u2, u3⟩ := HW.out.subs hsub
          have hsl : rest.Sublist A := List.Sublist.trans (by rw [HA1.out]; exact List.sublist_append_right xs rest) (dropK_sub (idT k e.vy) A)
          have h8 := HPU1.out
          refine HW.out.doneZ HZX.out HZL.out (pu' := pu1) HQ10.out.st HQ10.out.did HS10.out ?_ ?_ ?_ ?_ ?_
          · have h1 := HLE.out; have h2 := HLE3.out; have h3 := HW.out.nF
            split <;> omega
          · rw [hA5e]
            intro a ha
            rcases List.mem_append.1 ha with ha | ha
            · exact u1 a ha
            · rw [List.mem_singleton.1 ha]; rfl
          · rw [hA5e]
            intro a ha
            rcases List.mem_append.1 ha with ha | ha
            · exact u2 a ha
            · rw [List.mem_singleton.1 ha]; exact HSM.out
          · rw [hA5e]
            intro a ha
            rcases List.mem_append.1 ha with ha | ha
            · exact ⟨(u3 a ha).1, by have := (u3 a ha).2; omega⟩
            · rw [List.mem_singleton.1 ha]; show 1 ≤ pu1 ∧ pu1 ≤ pu1; omega
          · rw [hA5e, List.map_append, List.nodup_append]
            refine ⟨HW.out.nd.sublist (hsl.map _), by simp, ?_⟩
            intro x hx y hy exy
            obtain ⟨a, ha, rfl⟩ := List.mem_map.1 hx
            have hy' : y = pu1 := by simpa using hy
            have := (u3 a ha).2
            omega
        clear hm10 hd10 h9 hu10 hdu10 hst10 hdx10 HQ10 HS10 HSU H9 HA9 HQ7 HQ6 HS6 HB7
        go_wp2_with fail
        go_ret
        obtain ⟨X', r1, r2⟩ := HRES.out
        have h8 := HPU1.out
        have h7 := HMS.out
        exact ⟨by rw [decide_eq_true (by omega : sizeE k e ≤ m)]; rfl, X', by rw [HA5.out, ← h8]; exact r1, r2⟩
set_option maxRecDepth 100000 in
set_option maxHeartbeats 3000000 in
theorem zremove_any {w : World} {s : Nat} {X Z : Nat → Prop} {n m : Nat} {A : List (It He)} {pu : Nat} (h : StoZ w s X Z n m A pu) (k : List UInt8) (e : En) (vf vv : Value) (hf : FLX w X vf e.fs) (hv : FLX w X vv e.vy) (hs : SmE k e) (hp : pu < 1000000) {w0 : World} (hb : Base w0 w X) :
    Calls Tryz.prog 21 #[.pointer (some ⟨s, 0, none⟩), .string (bs k), entV e vf vv] w fun r w' => r = .returned (.bool (hasK (idT k e.vy) A)) ∧ ∃ X', StoZ w' s X' (zU Z X') n m (dropK (idT k e.vy) A) pu ∧ Did X X' w w' := by
  obtain ⟨tb, bb, umb, nF, XB, F, l, hw, hwz, hZX, hZL⟩ := h
  have HWZ := Lib.hid hwz; have HZX := Lib.hid hZX; have HZL : Hid (ZLt Z w) := hZL
  clear hwz hZX hZL
  obtain ⟨Af0, cf0, hff⟩ := hf.fl.form
  obtain ⟨Av0, cv0, hfv⟩ := hv.fl.form
  subst hff hfv
  have hal : Below w.heap.size w (w.alloc (.cells #[.int .i64 e.st, .string (bs e.re), .int .i64 e.mi, .slice Af0 e.fs.length cf0, .string (bs e.bo), .int .i64 e.ak, .int .i64 e.gt, .slice Av0 e.vy.length cv0] 28)) := (Below.refl _ _).alloc (Nat.le_refl _) _
  have hX : ∀ b, stX tb umb F XB b → X b := fun b e => by rw [hw.eX]; exact .inr e
  have hpq : PQ w0 w (w.alloc (.cells #[.int .i64 e.st, .string (bs e.re), .int .i64 e.mi, .slice Af0 e.fs.length cf0, .string (bs e.bo), .int .i64 e.ak, .int .i64 e.gt, .slice Av0 e.vy.length cv0] 28)) w.heap.size e (.slice Af0 e.fs.length cf0) (.slice Av0 e.vy.length cv0) (stX tb umb F XB) tb bb umb nF XB F n m l (rowS A) pu :=
    ⟨hw.st.bel hal, (Base.mk hb.ke0 hb.bel (fun b e => hb.low b (hX b e)) : Base w0 w (stX tb umb F XB)).down hal, bk.new w _ _, fun q => absurd (hw.st.lt _ q) (Nat.lt_irrefl _), (hf.wider (fun b e => .inl (hX b e))).did (Did.of_below hal), (hv.wider (fun b e => .inl (hX b e))).did (Did.of_below hal), Did.of_below hal⟩
  have HP0 := Lib.hid hpq
  have HTP := Lib.hid (hw.top.below hal)
  have HSL : Hid (s < (w.alloc (.cells #[.int .i64 e.st, .string (bs e.re), .int .i64 e.mi, .slice Af0 e.fs.length cf0, .string (bs e.bo), .int .i64 e.ak, .int .i64 e.gt, .slice Av0 e.vy.length cv0] 28)).heap.size) := (hw.top.below hal).lt
  have HW := Lib.hid hw; have HSM := Lib.hid hs
  have HDP : Hid (nF < maxLen) := by have := hw.nF; unfold maxLen; show _ < _; omega
  clear hal hX hpq hw hs hp hf hv hb
  unfold entV
  go_enter Tryz.func21, Tryz.ntmps21
  go_wp2_with fail
  generalize (w.alloc (.cells #[.int .i64 e.st, .string (bs e.re), .int .i64 e.mi, .slice Af0 e.fs.length cf0, .string (bs e.bo), .int .i64 e.ak, .int .i64 e.gt, .slice Av0 e.vy.length cv0] 28)) = W0 at *
  generalize hpp : w.heap.size = p at *
  clear hpp
  have HK0 : Hid (∀ W : World, W.heap[s]? = W0.heap[s]? → Calls Tryz.prog 28 #[.pointer (some ⟨s, 0, none⟩)] W fun e w' => e = .returned (.pointer (some ⟨tb, 0, none⟩)) ∧ W = w') := fun W hW => skept_any s tb W (HTP.out.keep hW)
  have HFV : Hid (FL W0.drew (.slice Av0 e.vy.length cv0) e.vy) := HP0.out.fv.fl
  have HKE : Hid (KE W0.drew) := HP0.out.ba.ke
  have HRM : Hid (∀ z1, PQ w0 w z1 p e (.slice Af0 e.fs.length cf0) (.slice Av0 e.vy.length cv0) (stX tb umb F XB) tb bb umb nF XB F n m l (rowS A) pu → Calls Tryz.prog 30 #[.pointer (some ⟨tb, 0, none⟩), .string (bs (idT k e.vy))] z1 fun e' w' => e' = .returned (.bool (hasK (idT k e.vy) l)) ∧ ∃ XB' F' nF', StI w' tb bb umb nF' XB' F' n m (dropK (idT k e.vy) l) (lessIf (hasK (idT k e.vy) l) (rowS A) k (idT k e.vy)) pu ∧ nF' ≤ nF ∧ Did (stX tb umb F XB) (stX tb umb F' XB') z1 w') := fun z1 hz => by
    refine remove_any9 hz.st k e.vy HSM.out.k HSM.out.vy HDP.out hz.ba (fun hh => ?_)
    have h1 : hasK (idT k e.vy) A = true := by rw [HW.out.sim.has]; exact hh
    obtain ⟨xs, a, zs, hA, ha, -⟩ := splitK (hasK_iff.1 h1)
    have hk := of_has HW.out.of hA ha
    obtain ⟨us, vs, r1, r2, -, -⟩ := rowS_mid (xs := xs) (zs := zs) (a := a) (by rw [← hA]; exact HW.out.nd2)
    rw [← hA, hk, ha] at r1
    rw [ha] at r2
    exact ⟨us, vs, r1, r2⟩
  refine wp_region_growS (.one 0 false (.one 2 false (.one 3 false (.one 4 false (.one 1 true (.one 5 true (.one 6 true (.one 7 false .done))))))))
    (fun x => x.heap[p]? = W0.heap[p]? ∧ x.heap[s]? = W0.heap[s]?) (by kernel_rfl) (by kernel_rfl) rfl (by kernel_rfl) (by kernel_rfl) ⟨rfl, rfl⟩ (fun ops hops => ?_)
  simp only [GT.ins, List.getD_cons_zero, List.getD_cons_succ]
  clear hops
  iterate 4
    refine growS_take (by rfl) ?_
    apply Exists.intro
    refine ⟨fun w' hE => ?_, ?_⟩
    · have p7 : w'.cell? ⟨p, 7, none⟩ = some (.slice Av0 e.vy.length cv0) := (World.cell?_of_block (a := ⟨p, 7, none⟩) hE.1).trans (HP0.out.pe.cell 7 _ rfl)
      go_simp
      try with_reducible rfl
    simp only [Act.put, List.setIfInBounds_toArray, List.set_cons_zero, List.set_cons_succ]
  refine growS_call (by rfl) (fun K hK => ?_)
  go_simp
  refine (HK0.out W0.drew rfl).mono ?_
  rintro r wx ⟨rfl, rfl⟩
  refine hK.out _ _ ⟨rfl, rfl⟩ ?_
  clear hK K
  refine growS_call (by rfl) (fun K hK => ?_)
  go_simp
  refine (identity_any k (.slice Av0 e.vy.length cv0) e.vy W0.drew HFV.out HSM.out.k HSM.out.vy HKE.out).mono ?_
  rintro r z1 ⟨rfl, hb⟩
  have hb : Below W0.heap.size W0 z1 := ⟨hb.os, hb.tape, hb.output, hb.size, hb.block⟩
  have HP1 := Lib.hid (HP0.out.bel hb)
  have HBB : Hid (z1.heap[p]? = W0.heap[p]? ∧ z1.heap[s]? = W0.heap[s]?) := ⟨hb.block p HP0.out.pe.lt, hb.block s HSL.out⟩
  refine hK.out _ _ HBB.out ?_
  clear hK K hb
  refine growS_call (by rfl) (fun K hK => ?_)
  go_simp
  refine (HRM.out z1 HP1.out).mono ?_
  rintro r w3 ⟨rfl, XB3, F3, nF3, hs3, hle3, hd3⟩
  have hp3 := (HP1.out.step hs3 hd3).rowsEq (R' := rowS (dropK (idT k e.vy) A)) (rows_less HW.out.of HW.out.nd2 HW.out.sim k e.vy)
  have HP3 := Lib.hid hp3; have HLE3 := Lib.hid hle3
  have hsq : w3.heap[s]? = W0.heap[s]? := (hd3.keep s (HTP.out.keep HBB.out.2).lt (fun q => HW.out.ns q)).trans HBB.out.2
  have hpq : w3.heap[p]? = W0.heap[p]? := (hd3.keep p HP1.out.pe.lt HP1.out.np).trans HBB.out.1
  refine hK.out _ _ ⟨hpq, hsq⟩ ?_
  clear hK K hs3 hle3 hd3 hp3 hsq hpq
  iterate 1
    refine growS_take (by rfl) ?_
    apply Exists.intro
    refine ⟨fun w' hE => ?_, ?_⟩
    · have p7 : w'.cell? ⟨p, 7, none⟩ = some (.slice Av0 e.vy.length cv0) := (World.cell?_of_block (a := ⟨p, 7, none⟩) hE.1).trans (HP0.out.pe.cell 7 _ rfl)
      go_simp
      try with_reducible rfl
    simp only [Act.put, List.setIfInBounds_toArray, List.set_cons_zero, List.set_cons_succ]
  refine growS_done (NoPanic.normal ?_)
  have HSIM : Hid (Sim (Hld w3 (zU Z (stX tb umb F3 XB3))) (dropK (idT k e.vy) A) (dropK (idT k e.vy) l)) := by
    refine (HWZ.out.drop _).mono (fun a b q => ?_)
    have q1 := q.wider (Y := zU Z (stX tb umb F XB)) (fun b e => .inl (e.elim id fun e => HZX.out b (by rw [HW.out.eX]; exact .inr e)))
    exact q1.did (HP3.out.did.more)
  have HRES : Hid (∃ X', StoZ w3 s X' (zU Z X') n m (dropK (idT k e.vy) A) pu ∧ Did X X' w w3) := by
    obtain ⟨u1, u2, u3⟩ := HW.out.subs (fun a ha => (dropK_sub (idT k e.vy) A).subset ha)
    exact HW.out.doneZ HZX.out HZL.out HP3.out.st HP3.out.did HSIM.out (Nat.le_trans HLE3.out HW.out.nF) u1 u2 u3 (HW.out.nd.sublist ((dropK_sub _ _).map _))
  clear HP3 HSIM HLE3 HP1 HBB HRM
  go_wp2_with fail
  go_ret
  exact ⟨by rw [HW.out.sim.has]; rfl, HRES.out⟩
set_option maxRecDepth 100000 in
set_option maxHeartbeats 3000000 in
theorem zdrop_any {w : World} {s : Nat} {X Z : Nat → Prop} {n m : Nat} {A : List (It He)} {pu : Nat} (h : StoZ w s X Z n m A pu) (k : List UInt8) (hk : k.length ≤ 300) :
    Calls Tryz.prog 20 #[.pointer (some ⟨s, 0, none⟩), .string (bs k)] w fun r w' => r = .returned (.int .i64 ((rowS A k).length : Int)) ∧ ∃ X', StoZ w' s X' (zU Z X') n m (dropS A k) pu ∧ Did X X' w w' := by
  obtain ⟨tb, bb, umb, nF, XB, F, l, hw, hwz, hZX, hZL⟩ := h
  have HWZ := Lib.hid hwz; have HZX := Lib.hid hZX; have HZL : Hid (ZLt Z w) := hZL
  clear hwz hZX hZL
  have HK := Lib.hid (skept_any s tb w hw.top)
  have c1 := hw.st.st.cell 1 (.map (some umb)) rfl
  have hkm : k.length ≤ maxLen := by unfold maxLen; omega
  have hrun := hw.st.und.map.look Tryz.underlying9 Tryz.underlying62 (zeroSl w) k hkm
  obtain ⟨hrow, Ag, cg, hsl, hgx⟩ := rowOf hw.st.und k
  rw [hsl] at hrun hrow hgx
  have HROW := Lib.hid hrow; have HGX := Lib.hid hgx
  have HW := Lib.hid hw
  have HKL : Hid (k.length ≤ 281474976710656) := by show _ ≤ _; omega
  have HIDS : Hid (∀ i ∈ rowS A k, i.length ≤ KL) := fun i hi => by
    obtain ⟨a, ha, rfl⟩ := List.mem_map.1 hi
    have ha' := (List.mem_filter.1 ha).1
    have h1 := hw.sm a ha'
    rw [congrArg Prod.fst (hw.of a ha')]
    exact Nat.le_trans (idT_len h1.k h1.vy) KL_7000
  have HLN : Hid ((rowS A k).length ≤ 4096) := by
    have h1 := hw.st.bud.ok.len
    have h2 := hw.st.bud.bounds.2.1
    have h3 := hw.sim.len
    have h4 : (rowS A k).length ≤ A.length := by unfold rowS; rw [List.length_map]; exact List.length_filter_le _ _
    show _ ≤ _; omega
  have HS0 : Hid (Sim (Hld w (zU Z (stX tb umb F XB))) A l) := HWZ.out.mono (fun a b q => q.wider (fun b e => .inl (e.elim id fun e => HZX.out b (by rw [hw.eX]; exact .inr e))))
  clear hw hrow hgx hsl hkm
  generalize HL : rowS A k = L at *
  have HL := Lib.hid HL
  go_enter Tryz.func20, Tryz.ntmps20
  go_wp2_with fail
  refine HK.out.mono ?_
  rintro r wx ⟨rfl, rfl⟩
  go_wp2_with fail
  clear hrun c1
  go_loopg [19] L.length (fun c i wr => ∃ (j : Nat) (XB' : Nat → Prop) (l' : List (It Iv)), i = .int .i64 j ∧ j + c = L.length ∧ Hid (StI wr tb bb umb nF XB' F n m l' (rowS A) pu ∧ Sim (Hld wr (zU Z (stX tb umb F XB'))) (dropL (L.take j) A) l' ∧ Did (stX tb umb F XB) (stX tb umb F XB') w wr ∧ Did XB XB' w wr))
  case atStart => exact ⟨0, XB, l, rfl, by omega, HW.out.st, by rw [List.take_zero, dropL_nil]; exact HS0.out, Did.refl _ _, Did.refl _ _⟩
  case round =>
    obtain ⟨j, XB', l', rfl, hj, hr⟩ := hrel
    have HST := Lib.hid hr.out.1; have HS := Lib.hid hr.out.2.1; have HD := Lib.hid hr.out.2.2.1; have HDB := Lib.hid hr.out.2.2.2
    clear hr
    have hln := HLN.out
    by_cases hend : j < L.length
    · obtain ⟨g, rfl, hcv⟩ := ownS.cell HROW.out j hend
      have hgu := HGX.out g rfl
      have c1 : wr.cell? ⟨g, j, none⟩ = some (.string (bs (L.getD j []))) := (World.cell?_of_block (a := ⟨g, j, none⟩) (HDB.out.keep g (World.ownsRow.lt HROW.out g rfl).2 (fun q => (HW.out.st.dis g q).2 hgu))).trans hcv
      have hgd : L.getD j [] = L[j] := by simp [List.getD, hend]
      rw [hgd] at c1
      have c0 := HST.out.st.cell 0 (.pointer (some ⟨bb, 0, none⟩)) rfl
      have HDR := Lib.hid (BT.drop_any HST.out.bud L[j] (HIDS.out _ (List.getElem_mem hend)))
      have HTK : Hid (L.take (j + 1) = L.take j ++ [L[j]]) := List.take_succ_eq_append_getElem hend
      have HKK : Hid (gk - 1 < gk ∧ j + 1 + (gk - 1) = L.length) := ⟨by omega, by omega⟩
      have HJJ : Hid (j < 1000000) := by show _ < _; omega
      clear hgu hcv hgd hj hln
      generalize L[j] = i at *
      go_wp2_with fail
      refine HDR.out.mono ?_
      rintro r w2 ⟨rfl, XB2, hb2, hd2⟩
      obtain ⟨hs2, hd2x⟩ := HST.out.budget hb2 hd2
      have HST2 := Lib.hid hs2
      have HS2 : Hid (Sim (Hld w2 (zU Z (stX tb umb F XB2))) (dropL (L.take (j + 1)) A) (dropK i l')) := by
        show Sim _ _ _
        rw [HTK.out, dropL_snoc]
        exact (HS.out.drop i).mono (fun a b q => q.did hd2x.more)
      have HD2 := Lib.hid (HD.out.trans hd2x)
      have HDB2 := Lib.hid (HDB.out.trans hd2)
      clear hs2 hd2x hb2 hd2 c0 c1 HST HS HD HDB HDR
      go_wp2_with fail
      go_roundg (gk - 1)
      case measure => exact HKK.out.1
      case rel => exact ⟨j + 1, XB2, _, by first | rfl | exact wrapJ j HJJ.out, HKK.out.2, HST2.out, HS2.out, HD2.out, HDB2.out⟩
    · have HE : Hid (dropL (L.take j) A = dropS A k) := by
        show _ = _
        rw [List.take_of_length_le (by omega), ← HL.out, dropL_row HW.out.of]
      have HSU := Lib.hid (setUnder_del wr tb umb nF 0 none F _ _ k HST.out.st HST.out.und.map HKL.out)
      clear hj hln
      go_wp2_with fail
      refine HSU.out.mono ?_
      rintro r w3 ⟨rfl, n', hle, hm3, hd3⟩
      have hu3 := HST.out.und.del (k := k) hm3 (fun q g m' c' hq hF => by
        obtain ⟨cur, hc, -, -, -, -, -, -, hgu⟩ := HST.out.und.cells hF
        exact hd3.keep g (Array.getElem?_eq_some_iff.1 hc).1 hgu)
      have hdu : Did (undX umb F) (undX umb (upd F k none)) wr w3 := by
        refine ⟨hd3.os, hd3.tape, hd3.output, hd3.size, fun b hb' hx => hd3.keep b hb' (fun e => hx (.inl e)), ?_⟩
        rintro b (e | ⟨q, m', c', e⟩)
        · exact .inl (.inl e)
        · by_cases hq : q = k
          · subst hq; rw [upd_same] at e; cases e
          · rw [upd_other _ _ hq] at e; exact .inl (.inr ⟨q, _, _, e⟩)
      obtain ⟨hs3, hd3x⟩ := HST.out.rows hu3 hdu
      have hR : upd (rowS A) k [] = rowS (dropS A k) := by
        funext q
        rw [rowS_drop]
        by_cases hq : q = k
        · rw [if_pos hq, hq, upd_same]
        · rw [if_neg hq, upd_other _ _ hq]
      rw [hR] at hs3
      have HRES : Hid (∃ X', StoZ w3 s X' (zU Z X') n m (dropS A k) pu ∧ Did X X' w w3) := by
        have hsl : (dropS A k).Sublist A := List.filter_sublist
        obtain ⟨u1, u2, u3⟩ := HW.out.subs (fun a ha => hsl.subset ha)
        have hsm := HS.out.mono (Q := Hld w3 (zU Z (stX tb umb (upd F k none) XB'))) (fun a b q => q.did hd3x.more)
        rw [HE.out] at hsm
        exact HW.out.doneZ HZX.out HZL.out hs3 (HD.out.trans hd3x) hsm (Nat.le_trans hle HW.out.nF) u1 u2 u3 (HW.out.nd.sublist (hsl.map _))
      clear hle hm3 hd3 hu3 hdu hs3 hd3x hR HSU HST HS HD HDB
      go_wp2_with fail
      go_ret
      exact ⟨rfl, HRES.out⟩
set_option maxRecDepth 100000 in
set_option maxHeartbeats 4000000 in
theorem findsP_any {w : World} {s : Nat} (P : World → Prop) (o : Option (It He)) (k : List UInt8) (vr : Value) (HP : Hid (∀ w1 w2, P w1 → Below w1.heap.size w1 w2 → P w2))
    (HF : Hid (Calls Tryz.prog 22 #[.pointer (some ⟨s, 0, none⟩), .string (bs k), vr] w fun r w' => FoundV o w.heap.size r w' ∧ P w')) :
    Calls Tryz.prog 12 #[.pointer (some ⟨s, 0, none⟩), .string (bs k), vr] w fun r w' => r = .returned (.string (bs (bodyS o))) ∧ P w' := by
  go_enter Tryz.func12, Tryz.ntmps12
  go_wp2_with fail
  refine HF.out.mono ?_
  rintro r w1 ⟨⟨v, b, rfl, hf⟩, hs⟩
  have HS := Lib.hid hs
  clear hs HF
  cases o with
  | none =>
    obtain ⟨rfl, rfl⟩ := hf
    have h := bk.new w1 #[.int .i64 0, .string ⟨#[]⟩, .int .i64 0, .slice none 0 0, .string ⟨#[]⟩, .int .i64 0, .int .i64 0, .slice none 0 0] 28
    have HST : Hid (World.there (w1.alloc (.cells #[.int .i64 0, .string ⟨#[]⟩, .int .i64 0, .slice none 0 0, .string ⟨#[]⟩, .int .i64 0, .int .i64 0, .slice none 0 0] 28)) w1.heap.size 0 8) := h.there 0 8 (by decide)
    have HB : Hid (Below w1.heap.size w1 _) := Below.cells (((Below.refl w1.heap.size w1).alloc (Nat.le_refl _) (.cells #[.int .i64 0, .string ⟨#[]⟩, .int .i64 0, .slice none 0 0, .string ⟨#[]⟩, .int .i64 0, .int .i64 0, .slice none 0 0] 28))) w1.heap.size (Nat.le_refl _) [.int .i64 0, .string ⟨#[]⟩, .int .i64 0, .slice none 0 0, .string ⟨#[]⟩, .int .i64 0, .int .i64 0, .slice none 0 0] 0
    have HS1 := Lib.hid (HP.out _ _ HS.out HB.out)
    clear h HB
    go_wp2_with (refine wpList_store_mid rfl 28 (.tmp 7) (.tmp 14) rfl _ 0 #[.int .i64 0, .string ⟨#[]⟩, .int .i64 0, .slice none 0 0, .string ⟨#[]⟩, .int .i64 0, .int .i64 0, .slice none 0 0] rfl rfl HST.out infoEn.out (by kernel_rfl) ?_; clear HST; generalize (World.setCells (w1.alloc (.cells #[.int .i64 0, .string ⟨#[]⟩, .int .i64 0, .slice none 0 0, .string ⟨#[]⟩, .int .i64 0, .int .i64 0, .slice none 0 0] 28)) w1.heap.size 0 [.int .i64 0, .string ⟨#[]⟩, .int .i64 0, .slice none 0 0, .string ⟨#[]⟩, .int .i64 0, .int .i64 0, .slice none 0 0]) = W0 at *)
    go_ret
    exact ⟨rfl, HS1.out⟩
  | some a =>
    obtain ⟨rfl, vf, vv, rfl, of, ov⟩ := hf
    obtain ⟨Af, cf, rfl⟩ := of.form
    obtain ⟨Av, cv, rfl⟩ := ov.form
    have HON : Hid ((#[.int .i64 a.2.2.e.st, .string (bs a.2.2.e.re), .int .i64 a.2.2.e.mi, .slice Af a.2.2.e.fs.length cf, .string (bs a.2.2.e.bo), .int .i64 a.2.2.e.ak, .int .i64 a.2.2.e.gt, .slice Av a.2.2.e.vy.length cv] : Array Value).all (·.oneCell') = true) := ent_one a.2.2.e _ _ of.fl ov.fl
    have h := bk.new w1 #[.int .i64 0, .string ⟨#[]⟩, .int .i64 0, .slice none 0 0, .string ⟨#[]⟩, .int .i64 0, .int .i64 0, .slice none 0 0] 28
    have HST : Hid (World.there (w1.alloc (.cells #[.int .i64 0, .string ⟨#[]⟩, .int .i64 0, .slice none 0 0, .string ⟨#[]⟩, .int .i64 0, .int .i64 0, .slice none 0 0] 28)) w1.heap.size 0 8) := h.there 0 8 (by decide)
    have HB : Hid (Below w1.heap.size w1 _) := Below.cells (((Below.refl w1.heap.size w1).alloc (Nat.le_refl _) (.cells #[.int .i64 0, .string ⟨#[]⟩, .int .i64 0, .slice none 0 0, .string ⟨#[]⟩, .int .i64 0, .int .i64 0, .slice none 0 0] 28))) w1.heap.size (Nat.le_refl _) [.int .i64 a.2.2.e.st, .string (bs a.2.2.e.re), .int .i64 a.2.2.e.mi, .slice Af a.2.2.e.fs.length cf, .string (bs a.2.2.e.bo), .int .i64 a.2.2.e.ak, .int .i64 a.2.2.e.gt, .slice Av a.2.2.e.vy.length cv] 0
    have HS1 := Lib.hid (HP.out _ _ HS.out HB.out)
    have HQ := Lib.hid (h.setAll [.int .i64 a.2.2.e.st, .string (bs a.2.2.e.re), .int .i64 a.2.2.e.mi, .slice Af a.2.2.e.fs.length cf, .string (bs a.2.2.e.bo), .int .i64 a.2.2.e.ak, .int .i64 a.2.2.e.gt, .slice Av a.2.2.e.vy.length cv] rfl)
    clear h HB of ov
    unfold entV
    go_wp2_with (refine wpList_store_mid rfl 28 (.tmp 7) (.tmp 14) rfl _ 0 #[.int .i64 a.2.2.e.st, .string (bs a.2.2.e.re), .int .i64 a.2.2.e.mi, .slice Af a.2.2.e.fs.length cf, .string (bs a.2.2.e.bo), .int .i64 a.2.2.e.ak, .int .i64 a.2.2.e.gt, .slice Av a.2.2.e.vy.length cv] rfl rfl HST.out infoEn.out HON.out ?_; clear HST HON; generalize (World.setCells (w1.alloc (.cells #[.int .i64 0, .string ⟨#[]⟩, .int .i64 0, .slice none 0 0, .string ⟨#[]⟩, .int .i64 0, .int .i64 0, .slice none 0 0] 28)) w1.heap.size 0 [.int .i64 a.2.2.e.st, .string (bs a.2.2.e.re), .int .i64 a.2.2.e.mi, .slice Af a.2.2.e.fs.length cf, .string (bs a.2.2.e.bo), .int .i64 a.2.2.e.ak, .int .i64 a.2.2.e.gt, .slice Av a.2.2.e.vy.length cv]) = W0 at *; have q4 := HQ.out.cell 4 (.string (bs a.2.2.e.bo)) rfl)
    go_ret
    exact ⟨rfl, HS1.out⟩
/-! awake -/
theorem findsX_any {w0 w : World} {s n m pu : Nat} {A : List (It He)} {X : Nat → Prop} (h : Sto w s X n m A pu) (hb : Base w0 w X) (k : List UInt8) (hk : k.length ≤ 300) (vr : Value) (req : List Fld) (hr : FL w0 vr req) (hreq : VfB req) (hp : pu ≤ 1000000) :
    Calls Tryz.prog 12 #[.pointer (some ⟨s, 0, none⟩), .string (bs k), vr] w fun r w' => r = .returned (.string (bs (bodyS (foundS A k req)))) ∧ ∃ X', Sto w' s X' n m (findA A k req) pu ∧ Did X X' w w' := by
  have h1 : ∀ w1 w2, (∃ X', Sto w1 s X' n m (findA A k req) pu ∧ Did X X' w w1) → Below w1.heap.size w1 w2 → ∃ X', Sto w2 s X' n m (findA A k req) pu ∧ Did X X' w w2 := by
    rintro w1 w2 ⟨X', hs, hd⟩ hbl
    exact ⟨X', hs.bel hbl, hd.trans (Did.of_below hbl)⟩
  have h2 : Calls Tryz.prog 22 #[.pointer (some ⟨s, 0, none⟩), .string (bs k), vr] w fun r w' => FoundV (foundS A k req) w.heap.size r w' ∧ ∃ X', Sto w' s X' n m (findA A k req) pu ∧ Did X X' w w' := by
    refine (sfind_any h k hk vr req (flx_low hr hb).fl hreq hp).mono ?_
    rintro r w' ⟨v, b, rfl, hd, hf⟩
    exact ⟨⟨v, b, rfl, hf⟩, hd⟩
  exact findsP_any (fun w' => ∃ X', Sto w' s X' n m (findA A k req) pu ∧ Did X X' w w') (foundS A k req) k vr (Lib.hid h1) (Lib.hid h2)
/-! two stores in one memory -/
structure TwoX (w0 w : World) (sa sb n m : Nat) (A B : List (It He)) (pa pb : Nat) (Xa Xb : Nat → Prop) : Prop where
  a : StoZ w sa Xa (zU Xa Xb) n m A pa
  b : StoZ w sb Xb (zU Xa Xb) n m B pb
  dis : ∀ c, Xa c → ¬ Xb c
  ba : Base w0 w Xa
  bb : Base w0 w Xb
def Two (w0 w : World) (sa sb n m : Nat) (A B : List (It He)) (pa pb : Nat) : Prop := ∃ Xa Xb, TwoX w0 w sa sb n m A B pa pb Xa Xb
theorem StoZ.lt {w : World} {s : Nat} {X Z : Nat → Prop} {n m : Nat} {A : List (It He)} {pu : Nat} (h : StoZ w s X Z n m A pu) : ∀ b, X b → b < w.heap.size := by
  obtain ⟨tb, bb, umb, nF, XB, F, l, hw, -⟩ := h
  exact hw.lt
theorem StoZ.zlt {w : World} {s : Nat} {X Z : Nat → Prop} {n m : Nat} {A : List (It He)} {pu : Nat} (h : StoZ w s X Z n m A pu) : ∀ b, Z b → b < w.heap.size := by
  obtain ⟨tb, bb, umb, nF, XB, F, l, -, -, -, hz⟩ := h
  exact hz
/-- what turns is none of its blocks, and all that turns is Z -/
theorem StoZ.apart {w w' : World} {s : Nat} {X Z Y Y' Z' : Nat → Prop} {n m : Nat} {A : List (It He)} {pu : Nat} (h : StoZ w s X Z n m A pu) (hd : Did Y Y' w w') (hXY : ∀ b, X b → ¬ Y b) (hYZ : ∀ b, Y b → Z b) (hZ' : ∀ b, Z' b → Z b ∨ Y' b) (hX : ∀ b, X b → Z' b) (hZl : ∀ b, Z' b → b < w'.heap.size) : StoZ w' s X Z' n m A pu := by
  obtain ⟨tb, bb, umb, nF, XB, F, l, hw, hs, h1, h2⟩ := h
  have hk : ∀ b, X b → w'.heap[b]? = w.heap[b]? := fun b hb => hd.keep b (hw.lt b hb) (hXY b hb)
  have hdz : Did Z (zU Z Y') w w' := ⟨hd.os, hd.tape, hd.output, hd.size, fun b hb hx => hd.keep b hb (fun e => hx (hYZ b e)), fun b hb => hb.elim .inl (fun e => (hd.new b e).imp (hYZ b) id)⟩
  have hs' : Sim (Hld w' (zU Z Y')) A l := hs.mono (fun _ _ q => q.did hdz)
  have hs2 : Sim (Hld w' Z') A l := hs'.mono (fun _ _ q => q.wider fun b e => .inl (hZ' b e))
  exact ⟨tb, bb, umb, nF, XB, F, l, ⟨hw.top.keep (hk s (by rw [hw.eX]; exact .inl rfl)), hw.st.keep (fun b e => hk b (by rw [hw.eX]; exact .inr e)), hs2.mono (fun _ _ q => q.wider fun b e => .inl (hX b e)), hw.eX, hw.ns, hw.nF, hw.of, hw.sm, hw.num, hw.nd⟩, hs2, hX, hZl⟩
section
variable {w0 w w' : World} {sa sb n m pa pb : Nat} {A B A' : List (It He)} {pa' : Nat} {Xa Xb Xa' : Nat → Prop}
/-- a call on one of them -/
theorem TwoX.turn (h : TwoX w0 w sa sb n m A B pa pb Xa Xb) (ha : StoZ w' sa Xa' (zU (zU Xa Xb) Xa') n m A' pa') (hd : Did Xa Xa' w w') : TwoX w0 w' sa sb n m A' B pa' pb Xa' Xb := by
  have hlb : ∀ c, Xb c → c < w'.heap.size := fun c e => Nat.lt_of_lt_of_le (h.b.lt c e) hd.size
  have hzl : ∀ c, zU Xa' Xb c → c < w'.heap.size := fun c e => e.elim (ha.lt c) (hlb c)
  refine ⟨?_, ?_, fun c e q => (hd.new c e).elim (fun e => h.dis c e q) (fun e => absurd (h.b.lt c q) (Nat.not_lt.2 e)), h.ba.did hd, ⟨h.bb.ke0, (h.ba.did hd).bel, h.bb.low⟩⟩
  · exact ha.apart (Y := fun _ => False) (Y' := fun _ => False) ⟨rfl, rfl, rfl, Nat.le_refl _, fun _ _ _ => rfl, fun _ e => e.elim⟩ (fun _ _ e => e) (fun _ e => e.elim) (fun b e => .inl (e.elim .inr (fun e => .inl (.inr e)))) (fun b e => .inl e) hzl
  · exact h.b.apart hd (fun b e q => h.dis b q e) (fun b e => .inl e) (fun b e => e.elim .inr (fun e => .inl (.inr e))) (fun b e => .inr e) hzl
theorem Two.low (h : Two w0 w sa sb n m A B pa pb) : Below w0.heap.size w0 w := by
  obtain ⟨Xa, Xb, h⟩ := h
  exact h.ba.bel
theorem Two.ke (h : Two w0 w sa sb n m A B pa pb) : KE w := by
  obtain ⟨Xa, Xb, h⟩ := h
  exact h.ba.ke
theorem Two.facts (h : Two w0 w sa sb n m A B pa pb) : Of A ∧ (∀ a ∈ A, SmE a.2.2.key a.2.2.e) ∧ ∀ a ∈ A, 1 ≤ a.2.2.n ∧ a.2.2.n ≤ pa := by
  obtain ⟨Xa, Xb, h⟩ := h
  obtain ⟨tb, bb, umb, nF, XB, F, l, hw⟩ := h.a.sto
  exact ⟨hw.of, hw.sm, hw.num⟩
/-- two stores, and a block that is none of theirs -/
def TwoB (w0 w : World) (sa sb n m : Nat) (A B : List (It He)) (pa pb p : Nat) (cs : Array Value) : Prop := ∃ Xa Xb, TwoX w0 w sa sb n m A B pa pb Xa Xb ∧ bk w p cs ∧ ¬ Xa p ∧ ¬ Xb p
variable {p : Nat} {cs : Array Value}
theorem TwoB.two (h : TwoB w0 w sa sb n m A B pa pb p cs) : Two w0 w sa sb n m A B pa pb := by
  obtain ⟨Xa, Xb, h, -⟩ := h
  exact ⟨Xa, Xb, h⟩
theorem TwoB.blk (h : TwoB w0 w sa sb n m A B pa pb p cs) : bk w p cs := by
  obtain ⟨Xa, Xb, -, h, -⟩ := h
  exact h
theorem TwoX.swap (h : TwoX w0 w sa sb n m A B pa pb Xa Xb) : TwoX w0 w sb sa n m B A pb pa Xb Xa := by
  have hz : ∀ c, zU Xb Xa c → zU Xa Xb c := fun c e => e.elim .inr .inl
  have hs : ∀ {s X C pu}, (∀ c, X c → zU Xb Xa c) → StoZ w s X (zU Xa Xb) n m C pu → StoZ w s X (zU Xb Xa) n m C pu := fun hX k => k.apart (Y := fun _ => False) (Y' := fun _ => False) ⟨rfl, rfl, rfl, Nat.le_refl _, fun _ _ _ => rfl, fun _ e => e.elim⟩ (fun _ _ e => e) (fun _ e => e.elim) (fun b e => .inl (hz b e)) hX (fun b e => k.zlt b (hz b e))
  exact ⟨hs (fun c e => .inl e) h.b, hs (fun c e => .inr e) h.a, fun c e q => h.dis c q e, h.bb, h.ba⟩
theorem TwoB.swap (h : TwoB w0 w sa sb n m A B pa pb p cs) : TwoB w0 w sb sa n m B A pb pa p cs := by
  obtain ⟨Xa, Xb, h, hk, h1, h2⟩ := h
  exact ⟨Xb, Xa, h.swap, hk, h2, h1⟩
theorem TwoX.bel (h : TwoX w0 w sa sb n m A B pa pb Xa Xb) (hb : Below w.heap.size w w') : TwoX w0 w' sa sb n m A B pa pb Xa Xb := by
  have hd : Did (fun _ => False) (fun _ => False) w w' := Did.of_below hb
  have hz : ∀ c, zU Xa Xb c → c < w'.heap.size := fun c e => Nat.lt_of_lt_of_le (h.a.zlt c e) hb.size
  exact ⟨h.a.apart hd (fun _ _ e => e) (fun _ e => e.elim) (fun b e => .inl e) (fun b e => .inl e) hz, h.b.apart hd (fun _ _ e => e) (fun _ e => e.elim) (fun b e => .inl e) (fun b e => .inr e) hz, h.dis, h.ba.down hb, h.bb.down hb⟩
theorem TwoB.bel (h : TwoB w0 w sa sb n m A B pa pb p cs) (hb : Below w.heap.size w w') : TwoB w0 w' sa sb n m A B pa pb p cs := by
  obtain ⟨Xa, Xb, h, hk, h1, h2⟩ := h
  exact ⟨Xa, Xb, h.bel hb, hk.below hb, h1, h2⟩
theorem Two.held (h : Two w0 w sa sb n m A B pa pb) (hb : Below w.heap.size w w') (hk : bk w' w.heap.size cs) : TwoB w0 w' sa sb n m A B pa pb w.heap.size cs := by
  obtain ⟨Xa, Xb, h⟩ := h
  exact ⟨Xa, Xb, h.bel hb, hk, fun e => Nat.lt_irrefl _ (h.a.lt _ e), fun e => Nat.lt_irrefl _ (h.b.lt _ e)⟩
theorem twoB_put (h : TwoB w0 w sa sb n m A B pa pb p cs) (k : List UInt8) (e : En) (vf vv : Value) (hf : FL w0 vf e.fs) (hv : FL w0 vv e.vy) (hs : SmE k e) (hp : pa < 1000000) :
    Calls Tryz.prog 11 #[.pointer (some ⟨sa, 0, none⟩), .string (bs k), entV e vf vv] w fun r w' => r = .returned (.bool (decide (sizeE k e ≤ m))) ∧ TwoB w0 w' sa sb n m (putS n m A ⟨k, e, pa + 1⟩).2 B (pa + 1) pb p cs := by
  obtain ⟨Xa, Xb, h, hk, hxa, hxb⟩ := h
  refine (zput_any h.a k e vf vv (flx_low hf h.ba) (flx_low hv h.ba) hs hp h.ba).mono ?_
  rintro r w' ⟨rfl, X', hs', hd⟩
  exact ⟨rfl, X', Xb, h.turn hs' hd, hk.keep (hd.keep p hk.lt hxa), fun q => (hd.new p q).elim hxa (fun q => absurd hk.lt (Nat.not_lt.2 q)), hxb⟩
theorem twoB_remove (h : TwoB w0 w sa sb n m A B pa pb p cs) (k : List UInt8) (e : En) (vf vv : Value) (hf : FL w0 vf e.fs) (hv : FL w0 vv e.vy) (hs : SmE k e) (hp : pa < 1000000) :
    Calls Tryz.prog 21 #[.pointer (some ⟨sa, 0, none⟩), .string (bs k), entV e vf vv] w fun r w' => (∃ b, r = .returned (.bool b)) ∧ TwoB w0 w' sa sb n m (dropK (idT k e.vy) A) B pa pb p cs := by
  obtain ⟨Xa, Xb, h, hk, hxa, hxb⟩ := h
  refine (zremove_any h.a k e vf vv (flx_low hf h.ba) (flx_low hv h.ba) hs hp h.ba).mono ?_
  rintro r w' ⟨rfl, X', hs', hd⟩
  exact ⟨⟨_, rfl⟩, X', Xb, h.turn hs' hd, hk.keep (hd.keep p hk.lt hxa), fun q => (hd.new p q).elim hxa (fun q => absurd hk.lt (Nat.not_lt.2 q)), hxb⟩
theorem twoB_drop (h : TwoB w0 w sa sb n m A B pa pb p cs) (k : List UInt8) (hkl : k.length ≤ 300) :
    Calls Tryz.prog 20 #[.pointer (some ⟨sa, 0, none⟩), .string (bs k)] w fun r w' => (∃ z, r = .returned (.int .i64 z)) ∧ TwoB w0 w' sa sb n m (dropS A k) B pa pb p cs := by
  obtain ⟨Xa, Xb, h, hk, hxa, hxb⟩ := h
  refine (zdrop_any h.a k hkl).mono ?_
  rintro r w' ⟨rfl, X', hs', hd⟩
  exact ⟨⟨_, rfl⟩, X', Xb, h.turn hs' hd, hk.keep (hd.keep p hk.lt hxa), fun q => (hd.new p q).elim hxa (fun q => absurd hk.lt (Nat.not_lt.2 q)), hxb⟩
/-- the last look: in the one, then in the other -/
theorem Two.sqa (h : Two w0 w sa sb n m A B pa pb) : Sq w0 w sa n m A pa := by
  obtain ⟨Xa, Xb, h⟩ := h
  exact ⟨Xa, h.a.sto, h.ba⟩
theorem two_finds (h : Two w0 w sa sb n m A B pa pb) (k : List UInt8) (hk : k.length ≤ 300) (vr : Value) (req : List Fld) (hr : FL w0 vr req) (hreq : VfB req) (hp : pa ≤ 1000000) :
    Calls Tryz.prog 12 #[.pointer (some ⟨sa, 0, none⟩), .string (bs k), vr] w fun r w' => r = .returned (.string (bs (bodyS (foundS A k req)))) ∧ Sq w0 w' sb n m B pb := by
  obtain ⟨Xa, Xb, h⟩ := h
  refine (findsX_any h.a.sto h.ba k hk vr req hr hreq hp).mono ?_
  rintro r w' ⟨rfl, X', hs', hd⟩
  have hz : ∀ c, Xb c → c < w'.heap.size := fun c e => Nat.lt_of_lt_of_le (h.b.lt c e) hd.size
  have hb' : StoZ w' sb Xb Xb n m B pb := h.b.apart hd (fun b e q => h.dis b q e) (fun b e => .inl e) (fun b e => .inl (.inr e)) (fun b e => e) hz
  exact ⟨rfl, Xb, hb'.sto, ⟨h.bb.ke0, (h.ba.did hd).bel, h.bb.low⟩⟩
end
/-- two new ones -/
theorem two_new {w0 w w' : World} {sa sb n m : Nat} (ha : Sq w0 w sa n m [] 0) (hb : ∃ X, Sto w' sb X n m [] 0 ∧ Below w.heap.size w w' ∧ ∀ b, X b → w.heap.size ≤ b) : Two w0 w' sa sb n m [] [] 0 0 := by
  obtain ⟨Xa, ⟨tb, bb, umb, nF, XB, F, l, hwa⟩, hba⟩ := ha
  obtain ⟨Xb, ⟨tb', bb', umb', nF', XB', F', l', hwb⟩, hbl, hx⟩ := hb
  have hl : l = [] := by cases l with
    | nil => rfl
    | cons _ _ => exact hwa.sim.elim
  have hl' : l' = [] := by cases l' with
    | nil => rfl
    | cons _ _ => exact hwb.sim.elim
  subst hl hl'
  have hza : ∀ c, zU Xa Xb c → c < w'.heap.size := fun c e => e.elim (fun e => Nat.lt_of_lt_of_le (hwa.lt c e) hbl.size) (hwb.lt c)
  refine ⟨Xa, Xb, ⟨tb, bb, umb, nF, XB, F, [], hwa.bel hbl, trivial, fun _ e => .inl e, hza⟩, ⟨tb', bb', umb', nF', XB', F', [], hwb, trivial, fun _ e => .inr e, hza⟩, fun c e q => absurd (hwa.lt c e) (Nat.not_lt.2 (hx c q)), hba.down hbl, ⟨hba.ke0, (hba.down hbl).bel, fun c e => Nat.le_trans hba.bel.size (hx c e)⟩⟩
theorem sq_findsV {w0 w : World} {s n m pu : Nat} {A : List (It He)} (h : Sq w0 w s n m A pu) (k : List UInt8) (hk : k.length ≤ 300) (vr : Value) (req : List Fld) (hr : FL w0 vr req) (hreq : VfB req) (hp : pu ≤ 1000000) :
    Calls Tryz.prog 12 #[.pointer (some ⟨s, 0, none⟩), .string (bs k), vr] w fun r w' => r = .returned (.string (bs (bodyS (foundS A k req)))) ∧ Sq w0 w' s n m (findA A k req) pu := by
  obtain ⟨X, hsto, hb⟩ := h
  refine (findsX_any hsto hb k hk vr req hr hreq hp).mono ?_
  rintro r w' ⟨rfl, X', hs', hd⟩
  exact ⟨rfl, X', hs', hb.did hd⟩
end Go.Proofs.YtopgeclecpaecaaGreatDoor
