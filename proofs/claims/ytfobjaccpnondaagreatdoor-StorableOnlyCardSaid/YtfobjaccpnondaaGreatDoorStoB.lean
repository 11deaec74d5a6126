/- The conditions of a reply that may be kept: the list of lists of closures that the program makes. -/
import Derived.Test.YtfobjaccpnondaaGreatDoorStoA
namespace Go.Proofs.YtfobjaccpnondaaGreatDoor
open Go.RowKit Go.Shelf

/-- a slice of function values, each answers what stands in the list, whenever it is called -/
def RowC (W : World) (v : Value) (xs : List Bool) : Prop := ∃ b cs, v = .slice (some ⟨b, 0, none⟩) xs.length xs.length ∧ dbk W b cs ∧ ∀ j (hj : j < xs.length), ∃ f cap, cs[j]? = some (.func (.func f) #[] cap) ∧ Cond W f cap xs[j]
theorem RowC.bel {W W' : World} {v : Value} {xs : List Bool} (h : RowC W v xs) (hb : Below W.heap.size W W') : RowC W' v xs := by
  obtain ⟨b, cs, rfl, hd, hc⟩ := h
  refine ⟨b, cs, rfl, hd.below hb, fun j hj => ?_⟩
  obtain ⟨f, cap, h1, h2⟩ := hc j hj
  exact ⟨f, cap, h1, h2.bel hb⟩
/-- a slice of such slices -/
def RowsC (W : World) (v : Value) (X : List (List Bool)) : Prop := ∃ b cs, v = .slice (some ⟨b, 0, none⟩) X.length X.length ∧ dbk W b cs ∧ ∀ j (hj : j < X.length), ∃ u, cs[j]? = some u ∧ RowC W u X[j]
theorem RowsC.bel {W W' : World} {v : Value} {X : List (List Bool)} (h : RowsC W v X) (hb : Below W.heap.size W W') : RowsC W' v X := by
  obtain ⟨b, cs, rfl, hd, hc⟩ := h
  refine ⟨b, cs, rfl, hd.below hb, fun j hj => ?_⟩
  obtain ⟨u, h1, h2⟩ := hc j hj
  exact ⟨u, h1, h2.bel hb⟩
theorem row1 {W : World} {f : FuncId} {cap : Array Value} {x : Bool} (h : Cond W f cap x) : RowC (W.alloc (.cells #[.func (.func f) #[] cap] 30)) (.slice (some ⟨W.heap.size, 0, none⟩) 1 1) [x] := by
  have hb : Below W.heap.size W (W.alloc (.cells #[.func (.func f) #[] cap] 30)) := (Below.refl _ _).alloc (Nat.le_refl _) _
  refine ⟨_, _, rfl, dbk.new W _ _, fun j hj => ?_⟩
  match j, hj with
  | 0, _ => exact ⟨f, cap, rfl, h.bel hb⟩
theorem row3 {W : World} {f0 f1 f2 : FuncId} {c0 c1 c2 : Array Value} {x0 x1 x2 : Bool} (h0 : Cond W f0 c0 x0) (h1 : Cond W f1 c1 x1) (h2 : Cond W f2 c2 x2) :
    RowC (W.alloc (.cells #[.func (.func f0) #[] c0, .func (.func f1) #[] c1, .func (.func f2) #[] c2] 30)) (.slice (some ⟨W.heap.size, 0, none⟩) 3 3) [x0, x1, x2] := by
  have hb : Below W.heap.size W (W.alloc (.cells #[.func (.func f0) #[] c0, .func (.func f1) #[] c1, .func (.func f2) #[] c2] 30)) := (Below.refl _ _).alloc (Nat.le_refl _) _
  refine ⟨_, _, rfl, dbk.new W _ _, fun j hj => ?_⟩
  match j, hj with
  | 0, _ => exact ⟨f0, c0, rfl, h0.bel hb⟩
  | 1, _ => exact ⟨f1, c1, rfl, h1.bel hb⟩
  | 2, _ => exact ⟨f2, c2, rfl, h2.bel hb⟩
theorem row5 {W : World} {f0 f1 f2 f3 f4 : FuncId} {c0 c1 c2 c3 c4 : Array Value} {x0 x1 x2 x3 x4 : Bool} (h0 : Cond W f0 c0 x0) (h1 : Cond W f1 c1 x1) (h2 : Cond W f2 c2 x2) (h3 : Cond W f3 c3 x3) (h4 : Cond W f4 c4 x4) :
    RowC (W.alloc (.cells #[.func (.func f0) #[] c0, .func (.func f1) #[] c1, .func (.func f2) #[] c2, .func (.func f3) #[] c3, .func (.func f4) #[] c4] 30)) (.slice (some ⟨W.heap.size, 0, none⟩) 5 5) [x0, x1, x2, x3, x4] := by
  have hb : Below W.heap.size W (W.alloc (.cells #[.func (.func f0) #[] c0, .func (.func f1) #[] c1, .func (.func f2) #[] c2, .func (.func f3) #[] c3, .func (.func f4) #[] c4] 30)) := (Below.refl _ _).alloc (Nat.le_refl _) _
  refine ⟨_, _, rfl, dbk.new W _ _, fun j hj => ?_⟩
  match j, hj with
  | 0, _ => exact ⟨f0, c0, rfl, h0.bel hb⟩
  | 1, _ => exact ⟨f1, c1, rfl, h1.bel hb⟩
  | 2, _ => exact ⟨f2, c2, rfl, h2.bel hb⟩
  | 3, _ => exact ⟨f3, c3, rfl, h3.bel hb⟩
  | 4, _ => exact ⟨f4, c4, rfl, h4.bel hb⟩
theorem rows9 {W : World} {v0 v1 v2 v3 v4 v5 v6 v7 v8 : Value} {x0 x1 x2 x3 x4 x5 x6 x7 x8 : List Bool} (h0 : RowC W v0 x0) (h1 : RowC W v1 x1) (h2 : RowC W v2 x2) (h3 : RowC W v3 x3) (h4 : RowC W v4 x4) (h5 : RowC W v5 x5) (h6 : RowC W v6 x6) (h7 : RowC W v7 x7) (h8 : RowC W v8 x8) :
    RowsC (W.alloc (.cells #[v0, v1, v2, v3, v4, v5, v6, v7, v8] 46)) (.slice (some ⟨W.heap.size, 0, none⟩) 9 9) [x0, x1, x2, x3, x4, x5, x6, x7, x8] := by
  have hb : Below W.heap.size W (W.alloc (.cells #[v0, v1, v2, v3, v4, v5, v6, v7, v8] 46)) := (Below.refl _ _).alloc (Nat.le_refl _) _
  refine ⟨_, _, rfl, dbk.new W _ _, fun j hj => ?_⟩
  match j, hj with
  | 0, _ => exact ⟨_, rfl, h0.bel hb⟩
  | 1, _ => exact ⟨_, rfl, h1.bel hb⟩
  | 2, _ => exact ⟨_, rfl, h2.bel hb⟩
  | 3, _ => exact ⟨_, rfl, h3.bel hb⟩
  | 4, _ => exact ⟨_, rfl, h4.bel hb⟩
  | 5, _ => exact ⟨_, rfl, h5.bel hb⟩
  | 6, _ => exact ⟨_, rfl, h6.bel hb⟩
  | 7, _ => exact ⟨_, rfl, h7.bel hb⟩
  | 8, _ => exact ⟨_, rfl, h8.bel hb⟩
theorem wp_meetW {P : Program} {c : Code} {Q : Exit → Act → World → Prop} {a : Act} {w : World} {act : Nat → Option Addr → Nat → Act} (Good : Nat → Option Addr → Nat → World → Prop)
    (h1 : c.wp P (fun e a' w' => ∃ g u k, e = .normal ∧ a' = act g u k ∧ Good g u k w') a w)
    (h2 : ∀ g u k w', Good g u k w' → Q .normal (act g u k) w') : c.wp P Q a w :=
  Code.wp_mono (by rintro e a' w' ⟨g, u, k, rfl, rfl, h⟩; exact h2 g u k w' h) h1

/-- all that must hold, and the ways in which each can -/
def condsB (m : List UInt8) (st : Int) (q l : List Fld) (Y got : Int) (dev : List UInt8) : List (List Bool) :=
  [[m == getM], [lastS st], [!dirB q nosN], [!dirB l nosN], [!dirB l prvN], [!(ctlE l dev).1], [!allB (valsL l varyN)],
    [secB q, dirB l pubN, dirB l smN, dirB l musN, (ctlE l dev).2.2.2.1], [decide (0 < lifeI Y l got dev), isE (getL l etgN), (dateO Y l lmdN).isSome]]
theorem conds_may (m : List UInt8) (st : Int) (q l : List Fld) (Y got : Int) (dev : List UInt8) : (condsB m st q l Y got dev).all (fun r => r.any id) = stoB m st q l Y got dev := by
  simp [condsB, stoB, openB, useB]

variable {st mi asked got Y : Int} {re bo : ByteArray} {fs : Value} {vA : Option Addr} {vn vc : Nat} {l : List Fld}
set_option maxRecDepth 100000 in
set_option maxHeartbeats 16000000 in
theorem conditions_any (m dev : List UInt8) {vq : Value} {q : List Fld} (w : World) (hq : FL w vq q) (hfq : Fe q) (h : EnW w fs l asked got Y) :
    Calls Tryz.prog 16 #[.string (bs m), vq, .agg #[.int .i64 st, .string re, .int .i64 mi, fs, .string bo, .int .i64 asked, .int .i64 got, .slice vA vn vc], .string (bs dev)] w
      fun e w' => ∃ v, e = .returned v ∧ RowsC w' v (condsB m st q l Y got dev) ∧ Below w.heap.size w w' := by
  obtain ⟨fA, fc, rfl⟩ := h.fl.form
  obtain ⟨qA, qc, rfl⟩ := hq.form
  have x1 : Below w.heap.size w (w.alloc (.cells #[.string (bs m)] 9)) := (Below.refl _ _).alloc (Nat.le_refl _) _
  have x2 := x1.alloc x1.size (.cells #[.slice qA q.length qc] 22)
  have x3 := x2.alloc x2.size (.cells #[.int .i64 st, .string re, .int .i64 mi, .slice fA l.length fc, .string bo, .int .i64 asked, .int .i64 got, .slice vA vn vc] 28)
  have x4 := x3.alloc x3.size (.cells #[.string (bs dev)] 9)
  have x5 := x4.alloc x4.size (.cells #[.slice fA l.length fc] 22)
  have H4 := Lib.hid (((((dbk.new w #[.string (bs m)] 9).alloc (.cells #[.slice qA q.length qc] 22)).alloc (.cells #[.int .i64 st, .string re, .int .i64 mi, .slice fA l.length fc, .string bo, .int .i64 asked, .int .i64 got, .slice vA vn vc] 28)).alloc (.cells #[.string (bs dev)] 9)).alloc (.cells #[.slice fA l.length fc] 22))
  have H5 := Lib.hid ((((dbk.new (w.alloc (.cells #[.string (bs m)] 9)) #[.slice qA q.length qc] 22).alloc (.cells #[.int .i64 st, .string re, .int .i64 mi, .slice fA l.length fc, .string bo, .int .i64 asked, .int .i64 got, .slice vA vn vc] 28)).alloc (.cells #[.string (bs dev)] 9)).alloc (.cells #[.slice fA l.length fc] 22))
  have H6 := Lib.hid (((dbk.new ((w.alloc (.cells #[.string (bs m)] 9)).alloc (.cells #[.slice qA q.length qc] 22)) #[.int .i64 st, .string re, .int .i64 mi, .slice fA l.length fc, .string bo, .int .i64 asked, .int .i64 got, .slice vA vn vc] 28).alloc (.cells #[.string (bs dev)] 9)).alloc (.cells #[.slice fA l.length fc] 22))
  have H7 := Lib.hid ((dbk.new (((w.alloc (.cells #[.string (bs m)] 9)).alloc (.cells #[.slice qA q.length qc] 22)).alloc (.cells #[.int .i64 st, .string re, .int .i64 mi, .slice fA l.length fc, .string bo, .int .i64 asked, .int .i64 got, .slice vA vn vc] 28)) #[.string (bs dev)] 9).alloc (.cells #[.slice fA l.length fc] 22))
  have H9 := Lib.hid (dbk.new ((((w.alloc (.cells #[.string (bs m)] 9)).alloc (.cells #[.slice qA q.length qc] 22)).alloc (.cells #[.int .i64 st, .string re, .int .i64 mi, .slice fA l.length fc, .string bo, .int .i64 asked, .int .i64 got, .slice vA vn vc] 28)).alloc (.cells #[.string (bs dev)] 9)) #[.slice fA l.length fc] 22)
  simp only [World.size_alloc] at H5 H6 H7 H9
  have HFQ0 := Lib.hid (hq.bel x5); have HEW0 := Lib.hid (h.bel x5)
  have HFE := Lib.hid hfq
  have HWQ := Lib.hid (dirsE_w hfq); have HWL := Lib.hid (dirsE_w h.fe)
  have HLQ : Hid ((dirsE q).length ≤ 4294967296) := by show _ ≤ _; have := dirsE_len hfq; omega
  have HLL : Hid ((dirsE l).length ≤ 4294967296) := by show _ ≤ _; have := dirsE_len h.fe; omega
  have hva := fun W (hv : FL W (.slice fA l.length fc) l) => values_any (.slice fA l.length fc) l scN W hv h.fe.small (by have := h.fe.1; omega) (by decide)
  obtain ⟨hf1, hf2⟩ := h.fe.vals scN
  have hso := fun W v (hm : MaxD W) (hv : SL W v (valsL l scN)) => sof_wide v (valsL l scN) dev W hm hv hf2 (by omega)
  have hct : ofC (valsL l scN) dev = ctlE l dev := rfl
  rw [hct] at hso
  have hex : ∀ c : Ctl, (ctA c) = #[.bool c.1, .bool c.2.1, .bool c.2.2.1, .bool c.2.2.2.1, .int .i64 c.2.2.2.2.1, .int .i64 c.2.2.2.2.2] := fun _ => rfl
  simp only [hex] at hso
  have hfe := h.fe
  obtain ⟨X, hX⟩ : ∃ X, X = condsB m st q l Y got dev := ⟨_, rfl⟩
  rw [← hX]
  have HX : Hid (X = condsB m st q l Y got dev) := hX
  clear hX hct hex hf1 hf2 x1 x2 x3 x4
  have HBX0 := Lib.hid x5
  clear x5
  clear h hq
  go_enter Tryz.func16, Tryz.ntmps16
  have hmf : ∀ (fn : Fn) (first cap : Array Value) (w : World), (Instr.makeFunc fn first cap).run Tryz.prog w = .ok (.func fn first cap) w := fun _ _ _ _ => rfl
  go_wp2_with fail
  generalize hCC : ((((w.alloc (.cells #[.string (bs m)] 9)).alloc (.cells #[.slice qA q.length qc] 22)).alloc (.cells #[.int .i64 st, .string re, .int .i64 mi, .slice fA l.length fc, .string bo, .int .i64 asked, .int .i64 got, .slice vA vn vc] 28)).alloc (.cells #[.string (bs dev)] 9)).alloc (.cells #[.slice fA l.length fc] 22) = C at *
  clear hCC
  have HDQ := Lib.hid fun W (hb : Below C.heap.size C W) => sdirs_any W (HFQ0.out.bel hb) hfq (HEW0.out.bel hb).mx
  have HDL := Lib.hid fun W (hb : Below C.heap.size C W) => sdirs_any W (HEW0.out.bel hb).fl hfe (HEW0.out.bel hb).mx
  clear hfq hfe
  refine wp_region_growS (.one 0 false (.one 2 false (.one 1 true (.one 3 true (.one 4 false (.one 5 false .done))))))
    (fun W => Below C.heap.size C W) (by kernel_rfl) (by kernel_rfl) rfl (by kernel_rfl) (by kernel_rfl) ((Below.refl _ _).drew) (fun ops hops => ?_)
  simp only [GT.ins, List.getD_cons_zero, List.getD_cons_succ]
  clear hops
  iterate 2
    refine growS_take (by rfl) ?_
    apply Exists.intro
    refine ⟨fun w' hE => ?_, ?_⟩
    · have q5 := (H5.out.below hE).cell 0 _ rfl; have q9 := (H9.out.below hE).cell 0 _ rfl
      go_simp
      try with_reducible rfl
    simp only [Act.put, List.setIfInBounds_toArray, List.set_cons_zero, List.set_cons_succ]
  refine growS_call (by rfl) (fun K hK => ?_)
  go_simp
  refine (HDQ.out _ (Below.refl _ _).drew).mono ?_
  rintro e z1 ⟨vdq, rfl, ho, hb⟩
  have hz : Below C.heap.size C z1 := (Below.refl _ _).drew.trans hb
  have HZ1 := Lib.hid hz; have HQ1 := Lib.hid ho
  obtain ⟨qa, qk, rfl⟩ := ho.form
  refine hK.out _ _ hz ?_
  clear hK K ho hb hz
  refine growS_call (by rfl) (fun K hK => ?_)
  go_simp
  refine (HDL.out _ HZ1.out).mono ?_
  rintro e z2 ⟨vdl, rfl, ho, hb⟩
  have hz : Below C.heap.size C z2 := HZ1.out.trans (hb.mono HZ1.out.size)
  have HZ2 := Lib.hid hz; have HL2 := Lib.hid ho; have HQ2 := Lib.hid (HQ1.out.bel hb)
  obtain ⟨la, lk, rfl⟩ := ho.form
  refine hK.out _ _ hz ?_
  clear hK K ho hb hz
  iterate 2
    refine growS_take (by rfl) ?_
    apply Exists.intro
    refine ⟨fun w' hE => ?_, ?_⟩
    · have q5 := (H5.out.below hE).cell 0 _ rfl; have q9 := (H9.out.below hE).cell 0 _ rfl
      go_simp
      try with_reducible rfl
    simp only [Act.put, List.setIfInBounds_toArray, List.set_cons_zero, List.set_cons_succ]
  refine growS_done (NoPanic.normal ?_)
  try simp only [Exit.then]
  go_wp2_with fail
  have HBX1 := Lib.hid (HBX0.out.trans (HZ2.out.mono HBX0.out.size))
  have hmv : ∀ {b : Nat} {cs : Array Value}, dbk C b cs → dbk z2 b cs := fun h => h.below HZ2.out
  replace H4 := Lib.hid (hmv H4.out); replace H5 := Lib.hid (hmv H5.out); replace H6 := Lib.hid (hmv H6.out); replace H7 := Lib.hid (hmv H7.out); replace H9 := Lib.hid (hmv H9.out)
  replace HFQ0 := Lib.hid (HFQ0.out.bel HZ2.out); replace HEW0 := Lib.hid (HEW0.out.bel HZ2.out)
  clear hmv HDQ HDL HZ1 HZ2 HQ1 HBX0
  clear C
  obtain ⟨C, hC⟩ : ∃ C, C = z2 := ⟨_, rfl⟩
  subst hC
  have HVA := Lib.hid fun W (hb : Below C.heap.size C W) => hva W (HEW0.out.bel hb).fl
  have HSO := Lib.hid fun W v (hb : Below C.heap.size C W) (hv : SL W v (valsL l scN)) => hso W v (HEW0.out.bel hb).mx hv
  clear hva hso
  obtain ⟨c, hc⟩ : ∃ c, c = ctlE l dev := ⟨_, rfl⟩
  rw [← hc] at HSO
  have HCE := Lib.hid hc
  clear hc
  obtain ⟨N, hN⟩ : ∃ N, N = valsL l scN := ⟨_, rfl⟩
  rw [← hN] at HVA HSO
  clear hN
  apply wp_meetW (fun g ua uc W => dbk W g #[.bool c.1, .bool c.2.1, .bool c.2.2.1, .bool c.2.2.2.1, .int .i64 c.2.2.2.2.1, .int .i64 c.2.2.2.2.2] ∧ Below C.heap.size C W)
  case h1 =>
    refine wp_region_growS (.one 0 false (.one 2 false (.two 1 4 (.two 3 4 (.one 4 true (.one 5 true .done)) (.one 3 true (.one 5 true .done))) (.one 1 true (.one 3 true (.one 5 true .done))))))
      (fun W => Below C.heap.size C W) (by kernel_rfl) (by kernel_rfl) rfl (by kernel_rfl) (by kernel_rfl) ((Below.refl _ _).drew) (fun ops hops => ?_)
    simp only [GT.ins, List.getD_cons_zero, List.getD_cons_succ]
    clear hops
    iterate 2
      refine growS_take (by rfl) ?_
      apply Exists.intro
      refine ⟨fun w' hE => ?_, ?_⟩
      · have q9 := (H9.out.below hE).cell 0 _ rfl; have q7 := (H7.out.below hE).cell 0 _ rfl
        go_simp
        try with_reducible rfl
      simp only [Act.put, List.setIfInBounds_toArray, List.set_cons_zero, List.set_cons_succ]
    refine growS_two (by rfl) (by rfl) (fun K hK => ?_) (fun K hK => ?_)
    · go_simp
      refine (HVA.out _ ((Below.refl _ _).drew : Below C.heap.size C C.drew)).mono ?_
      rintro e z1 ⟨u, rfl, ho, hb⟩
      have hz : Below C.heap.size C z1 := ((Below.refl _ _).drew : Below C.heap.size C C.drew).trans (hb.mono ((Below.refl _ _).drew : Below C.heap.size C C.drew).size)
      have HSL := Lib.hid ho.sl
      obtain ⟨ua, uc, rfl⟩ := ho.sl.form
      refine hK.out _ _ hz ?_
      have HE1 := Lib.hid hz
      clear hK K hb hz ho
      refine growS_two (by rfl) (by rfl) (fun K hK => ?_) (fun K hK => ?_)
      · go_simp
        refine (HSO.out _ _ HE1.out HSL.out).mono ?_
        rintro e z2 ⟨rfl, hb⟩
        have hz : Below C.heap.size C z2 := HE1.out.trans (hb.mono HE1.out.size)
        refine hK.out _ _ hz ?_
        have HE2 := Lib.hid hz
        clear hK K hb hz HE1 HSL
        refine growS_call (by rfl) (fun K hK => ?_)
        go_simp
        have hal : Below z2.heap.size z2 (z2.alloc (.cells #[.bool false, .bool false, .bool false, .bool false, .int .i64 0, .int .i64 0] 70)) := (Below.refl _ _).alloc (Nat.le_refl _) _
        have hE2 : Below C.heap.size C (z2.alloc (.cells #[.bool false, .bool false, .bool false, .bool false, .int .i64 0, .int .i64 0] 70)) := HE2.out.trans (hal.mono HE2.out.size)
        have hz := dbk.new z2 #[.bool false, .bool false, .bool false, .bool false, .int .i64 0, .int .i64 0] 70
        have HGL := Lib.hid HE2.out.size
        refine hK.out _ _ hE2 ?_
        have HE := Lib.hid hE2; have HZ := Lib.hid hz
        clear hK K hal hE2 hz
        generalize z2.alloc (.cells #[.bool false, .bool false, .bool false, .bool false, .int .i64 0, .int .i64 0] 70) = z3 at *
        clear HE2
        generalize z2.heap.size = g at *
        have nc0 := HZ.out.cell 0 (.bool false) rfl
        have nf0 := HZ.out.free 0
        have nc1 := HZ.out.cell 1 (.bool false) rfl
        have nf1 := HZ.out.free 1
        have nc2 := HZ.out.cell 2 (.bool false) rfl
        have nf2 := HZ.out.free 2
        have nc3 := HZ.out.cell 3 (.bool false) rfl
        have nf3 := HZ.out.free 3
        have nc4 := HZ.out.cell 4 (.int .i64 0) rfl
        have nf4 := HZ.out.free 4
        have nc5 := HZ.out.cell 5 (.int .i64 0) rfl
        have nf5 := HZ.out.free 5
        have hq0 := ((((((HZ.out.set 0 (.bool c.1)).set 1 (.bool c.2.1)).set 2 (.bool c.2.2.1)).set 3 (.bool c.2.2.2.1)).set 4 (.int .i64 c.2.2.2.2.1)).set 5 (.int .i64 c.2.2.2.2.2))
        simp only [List.setIfInBounds_toArray, List.set_cons_zero, List.set_cons_succ] at hq0
        have HQ0 := Lib.hid hq0; clear hq0
        have hE9 := ((((((HE.out.setCell (p := ⟨g, 0, none⟩) HGL.out (.bool c.1)).setCell (p := ⟨g, 1, none⟩) HGL.out (.bool c.2.1)).setCell (p := ⟨g, 2, none⟩) HGL.out (.bool c.2.2.1)).setCell (p := ⟨g, 3, none⟩) HGL.out (.bool c.2.2.2.1)).setCell (p := ⟨g, 4, none⟩) HGL.out (.int .i64 c.2.2.2.2.1)).setCell (p := ⟨g, 5, none⟩) HGL.out (.int .i64 c.2.2.2.2.2))
        have HE9 := Lib.hid hE9; clear hE9
        refine growS_call (by rfl) (fun K hK => ?_)
        go_simp
        refine hK.out _ _ HE9.out ?_
        clear hK K
        refine growS_done (NoPanic.normal ?_)
        exact ⟨g, ua, uc, rfl, rfl, HQ0.out, HE9.out⟩
      · go_simp
        have hal : Below z1.heap.size z1 (z1.alloc (.cells #[.bool false, .bool false, .bool false, .bool false, .int .i64 0, .int .i64 0] 70)) := (Below.refl _ _).alloc (Nat.le_refl _) _
        have hE2 : Below C.heap.size C (z1.alloc (.cells #[.bool false, .bool false, .bool false, .bool false, .int .i64 0, .int .i64 0] 70)) := HE1.out.trans (hal.mono HE1.out.size)
        have hz := dbk.new z1 #[.bool false, .bool false, .bool false, .bool false, .int .i64 0, .int .i64 0] 70
        have HGL := Lib.hid HE1.out.size
        have HSL2 := Lib.hid (HSL.out.bel hal)
        refine hK.out _ _ hE2 ?_
        have HE1b := Lib.hid hE2; have HZ1 := Lib.hid hz
        clear hK K hal hE2 hz HSL
        generalize z1.alloc (.cells #[.bool false, .bool false, .bool false, .bool false, .int .i64 0, .int .i64 0] 70) = z1b at *
        clear HE1
        generalize z1.heap.size = g at *
        refine growS_call (by rfl) (fun K hK => ?_)
        go_simp
        refine (HSO.out _ _ HE1b.out HSL2.out).mono ?_
        rintro e z3 ⟨rfl, hb⟩
        have hz : Below C.heap.size C z3 := HE1b.out.trans (hb.mono HE1b.out.size)
        refine hK.out _ _ hz ?_
        have HE2 := Lib.hid hz
        have HZ := Lib.hid (HZ1.out.below hb)
        have HE := HE2
        clear hK K hb hz HE1b HSL2 HZ1
        have nc0 := HZ.out.cell 0 (.bool false) rfl
        have nf0 := HZ.out.free 0
        have nc1 := HZ.out.cell 1 (.bool false) rfl
        have nf1 := HZ.out.free 1
        have nc2 := HZ.out.cell 2 (.bool false) rfl
        have nf2 := HZ.out.free 2
        have nc3 := HZ.out.cell 3 (.bool false) rfl
        have nf3 := HZ.out.free 3
        have nc4 := HZ.out.cell 4 (.int .i64 0) rfl
        have nf4 := HZ.out.free 4
        have nc5 := HZ.out.cell 5 (.int .i64 0) rfl
        have nf5 := HZ.out.free 5
        have hq0 := ((((((HZ.out.set 0 (.bool c.1)).set 1 (.bool c.2.1)).set 2 (.bool c.2.2.1)).set 3 (.bool c.2.2.2.1)).set 4 (.int .i64 c.2.2.2.2.1)).set 5 (.int .i64 c.2.2.2.2.2))
        simp only [List.setIfInBounds_toArray, List.set_cons_zero, List.set_cons_succ] at hq0
        have HQ0 := Lib.hid hq0; clear hq0
        have hE9 := ((((((HE.out.setCell (p := ⟨g, 0, none⟩) HGL.out (.bool c.1)).setCell (p := ⟨g, 1, none⟩) HGL.out (.bool c.2.1)).setCell (p := ⟨g, 2, none⟩) HGL.out (.bool c.2.2.1)).setCell (p := ⟨g, 3, none⟩) HGL.out (.bool c.2.2.2.1)).setCell (p := ⟨g, 4, none⟩) HGL.out (.int .i64 c.2.2.2.2.1)).setCell (p := ⟨g, 5, none⟩) HGL.out (.int .i64 c.2.2.2.2.2))
        have HE9 := Lib.hid hE9; clear hE9
        refine growS_call (by rfl) (fun K hK => ?_)
        go_simp
        refine hK.out _ _ HE9.out ?_
        clear hK K
        refine growS_done (NoPanic.normal ?_)
        exact ⟨g, ua, uc, rfl, rfl, HQ0.out, HE9.out⟩
    · go_simp
      have hd1 : Below C.heap.size C (C.alloc (.cells #[.bool false, .bool false, .bool false, .bool false, .int .i64 0, .int .i64 0] 70)).drew := ((Below.refl _ _).alloc (Nat.le_refl _) _).drew
      have hz1 := (dbk.new C #[.bool false, .bool false, .bool false, .bool false, .int .i64 0, .int .i64 0] 70).below ((Below.refl _ _).drew : Below (C.alloc (.cells #[.bool false, .bool false, .bool false, .bool false, .int .i64 0, .int .i64 0] 70)).heap.size (C.alloc (.cells #[.bool false, .bool false, .bool false, .bool false, .int .i64 0, .int .i64 0] 70)) (C.alloc (.cells #[.bool false, .bool false, .bool false, .bool false, .int .i64 0, .int .i64 0] 70)).drew)
      refine hK.out _ _ hd1 ?_
      have HE0 := Lib.hid hd1; have HZ0 := Lib.hid hz1
      clear hK K hd1 hz1
      generalize (C.alloc (.cells #[.bool false, .bool false, .bool false, .bool false, .int .i64 0, .int .i64 0] 70)).drew = z0 at *
      refine growS_call (by rfl) (fun K hK => ?_)
      go_simp
      refine (HVA.out _ HE0.out).mono ?_
      rintro e z1 ⟨u, rfl, ho, hb⟩
      have hz : Below C.heap.size C z1 := HE0.out.trans (hb.mono HE0.out.size)
      have HSL := Lib.hid ho.sl
      obtain ⟨ua, uc, rfl⟩ := ho.sl.form
      refine hK.out _ _ hz ?_
      have HE1 := Lib.hid hz
      have HZ1 := Lib.hid (HZ0.out.below hb)
      clear hK K hb hz ho HE0 HZ0
      refine growS_call (by rfl) (fun K hK => ?_)
      go_simp
      refine (HSO.out _ _ HE1.out HSL.out).mono ?_
      rintro e z3 ⟨rfl, hb⟩
      have hz : Below C.heap.size C z3 := HE1.out.trans (hb.mono HE1.out.size)
      refine hK.out _ _ hz ?_
      have HE2 := Lib.hid hz
      have HZ := Lib.hid (HZ1.out.below hb)
      have HE := HE2
      have HGL : Hid (C.heap.size ≤ C.heap.size) := Nat.le_refl _
      clear hK K hb hz HE1 HSL HZ1
      have nc0 := HZ.out.cell 0 (.bool false) rfl
      have nf0 := HZ.out.free 0
      have nc1 := HZ.out.cell 1 (.bool false) rfl
      have nf1 := HZ.out.free 1
      have nc2 := HZ.out.cell 2 (.bool false) rfl
      have nf2 := HZ.out.free 2
      have nc3 := HZ.out.cell 3 (.bool false) rfl
      have nf3 := HZ.out.free 3
      have nc4 := HZ.out.cell 4 (.int .i64 0) rfl
      have nf4 := HZ.out.free 4
      have nc5 := HZ.out.cell 5 (.int .i64 0) rfl
      have nf5 := HZ.out.free 5
      have hq0 := ((((((HZ.out.set 0 (.bool c.1)).set 1 (.bool c.2.1)).set 2 (.bool c.2.2.1)).set 3 (.bool c.2.2.2.1)).set 4 (.int .i64 c.2.2.2.2.1)).set 5 (.int .i64 c.2.2.2.2.2))
      simp only [List.setIfInBounds_toArray, List.set_cons_zero, List.set_cons_succ] at hq0
      have HQ0 := Lib.hid hq0; clear hq0
      have hE9 := ((((((HE.out.setCell (p := ⟨C.heap.size, 0, none⟩) HGL.out (.bool c.1)).setCell (p := ⟨C.heap.size, 1, none⟩) HGL.out (.bool c.2.1)).setCell (p := ⟨C.heap.size, 2, none⟩) HGL.out (.bool c.2.2.1)).setCell (p := ⟨C.heap.size, 3, none⟩) HGL.out (.bool c.2.2.2.1)).setCell (p := ⟨C.heap.size, 4, none⟩) HGL.out (.int .i64 c.2.2.2.2.1)).setCell (p := ⟨C.heap.size, 5, none⟩) HGL.out (.int .i64 c.2.2.2.2.2))
      have HE9 := Lib.hid hE9; clear hE9
      refine growS_call (by rfl) (fun K hK => ?_)
      go_simp
      refine hK.out _ _ HE9.out ?_
      clear hK K
      refine growS_done (NoPanic.normal ?_)
      exact ⟨C.heap.size, ua, uc, rfl, rfl, HQ0.out, HE9.out⟩
  case h2 =>
    rintro g ua uc W1 ⟨hg, hb1⟩
    replace H4 := Lib.hid (H4.out.below hb1); replace H5 := Lib.hid (H5.out.below hb1); replace H6 := Lib.hid (H6.out.below hb1); replace H7 := Lib.hid (H7.out.below hb1); replace H9 := Lib.hid (H9.out.below hb1)
    have HFQ := Lib.hid (HFQ0.out.bel hb1); have HEW := Lib.hid (HEW0.out.bel hb1); have H12 : Hid (dbk W1 g (ctA c)) := hg
    have HDQ2 := Lib.hid (HQ2.out.bel hb1); have HDL2 := Lib.hid (HL2.out.bel hb1)
    have HBX0 := Lib.hid (HBX1.out.trans (hb1.mono HBX1.out.size))
    clear hb1 hg HVA HSO HFQ0 HEW0 HBX1 HQ2 HL2
    clear C
    obtain ⟨C, hC⟩ : ∃ C, C = W1 := ⟨_, rfl⟩
    subst hC
    have hr1 := row1 (W := C) (c1_cond (H4.out.below (Below.refl C.heap.size C)))
    have ha1 : Below C.heap.size C (C.alloc (.cells #[.func (.func 34) #[] #[.pointer (some ⟨w.heap.size, 0, none⟩)]] 30)) := (Below.refl _ _).alloc (Nat.le_refl _) _
    have hy1 : Below C.heap.size C (C.alloc (.cells #[.func (.func 34) #[] #[.pointer (some ⟨w.heap.size, 0, none⟩)]] 30)) := (Below.refl C.heap.size C).trans (ha1.mono (Below.refl C.heap.size C).size)
    have hr2 := row1 (W := (C.alloc (.cells #[.func (.func 34) #[] #[.pointer (some ⟨w.heap.size, 0, none⟩)]] 30))) (c2_cond (H6.out.below hy1))
    simp only [World.size_alloc] at hr2
    have ha2 : Below (C.alloc (.cells #[.func (.func 34) #[] #[.pointer (some ⟨w.heap.size, 0, none⟩)]] 30)).heap.size (C.alloc (.cells #[.func (.func 34) #[] #[.pointer (some ⟨w.heap.size, 0, none⟩)]] 30)) ((C.alloc (.cells #[.func (.func 34) #[] #[.pointer (some ⟨w.heap.size, 0, none⟩)]] 30)).alloc (.cells #[.func (.func 35) #[] #[.pointer (some ⟨w.heap.size + 1 + 1, 0, none⟩)]] 30)) := (Below.refl _ _).alloc (Nat.le_refl _) _
    have hy2 : Below C.heap.size C ((C.alloc (.cells #[.func (.func 34) #[] #[.pointer (some ⟨w.heap.size, 0, none⟩)]] 30)).alloc (.cells #[.func (.func 35) #[] #[.pointer (some ⟨w.heap.size + 1 + 1, 0, none⟩)]] 30)) := hy1.trans (ha2.mono hy1.size)
    have HR0 := Lib.hid (hr1.bel ha2)
    have HR1 := Lib.hid hr2
    have HBX := Lib.hid (hy2 : Below C.heap.size C ((C.alloc (.cells #[.func (.func 34) #[] #[.pointer (some ⟨w.heap.size, 0, none⟩)]] 30)).alloc (.cells #[.func (.func 35) #[] #[.pointer (some ⟨w.heap.size + 1 + 1, 0, none⟩)]] 30)))
    have HCL := Lib.hid (contain_any nosN _ (HDQ2.out.bel HBX.out) HWQ.out (by decide) HLQ.out)
    try clear hr1 ha1 hy1
    try clear hr2 ha2 hy2
    go_wp2_with fail
    refine HCL.out.mono ?_
    rintro e w1 ⟨f1, cap1, rfl, hc, hb⟩
    replace HR0 := Lib.hid (HR0.out.bel hb)
    replace HR1 := Lib.hid (HR1.out.bel hb)
    have HC1 := Lib.hid hc
    replace HBX := Lib.hid (HBX.out.trans (hb.mono HBX.out.size))
    clear hc hb HCL
    replace HR0 := Lib.hid HR0.out
    replace HR1 := Lib.hid HR1.out
    replace HBX := Lib.hid (HBX.out : Below C.heap.size C w1)
    have HCL := Lib.hid (not_any _ (HC1.out.bel (Below.refl w1.heap.size w1)))
    try clear hr1 ha1 hy1
    try clear hr2 ha2 hy2
    go_wp2_with fail
    refine HCL.out.mono ?_
    rintro e w2 ⟨f2, cap2, rfl, hc, hb⟩
    replace HR0 := Lib.hid (HR0.out.bel hb)
    replace HR1 := Lib.hid (HR1.out.bel hb)
    have HC2 := Lib.hid hc
    replace HBX := Lib.hid (HBX.out.trans (hb.mono HBX.out.size))
    replace HC1 := Lib.hid (HC1.out.bel hb)
    clear hc hb HCL
    have hr3 := row1 (W := w2) ((HC2.out.bel (Below.refl w2.heap.size w2)))
    have ha3 : Below w2.heap.size w2 (w2.alloc (.cells #[.func (.func f2) #[] cap2] 30)) := (Below.refl _ _).alloc (Nat.le_refl _) _
    have hy3 : Below C.heap.size C (w2.alloc (.cells #[.func (.func f2) #[] cap2] 30)) := HBX.out.trans (ha3.mono HBX.out.size)
    replace HR0 := Lib.hid (HR0.out.bel ha3)
    replace HR1 := Lib.hid (HR1.out.bel ha3)
    have HR2 := Lib.hid hr3
    replace HBX := Lib.hid (hy3 : Below C.heap.size C (w2.alloc (.cells #[.func (.func f2) #[] cap2] 30)))
    have HCL := Lib.hid (contain_any nosN _ (HDL2.out.bel HBX.out) HWL.out (by decide) HLL.out)
    try clear hr1 ha1 hy1
    try clear hr2 ha2 hy2
    try clear hr3 ha3 hy3
    go_wp2_with fail
    refine HCL.out.mono ?_
    rintro e w3 ⟨f3, cap3, rfl, hc, hb⟩
    replace HR0 := Lib.hid (HR0.out.bel hb)
    replace HR1 := Lib.hid (HR1.out.bel hb)
    replace HR2 := Lib.hid (HR2.out.bel hb)
    have HC3 := Lib.hid hc
    replace HBX := Lib.hid (HBX.out.trans (hb.mono HBX.out.size))
    clear hc hb HCL
    replace HR0 := Lib.hid HR0.out
    replace HR1 := Lib.hid HR1.out
    replace HR2 := Lib.hid HR2.out
    replace HBX := Lib.hid (HBX.out : Below C.heap.size C w3)
    have HCL := Lib.hid (not_any _ (HC3.out.bel (Below.refl w3.heap.size w3)))
    try clear hr1 ha1 hy1
    try clear hr2 ha2 hy2
    try clear hr3 ha3 hy3
    go_wp2_with fail
    refine HCL.out.mono ?_
    rintro e w4 ⟨f4, cap4, rfl, hc, hb⟩
    replace HR0 := Lib.hid (HR0.out.bel hb)
    replace HR1 := Lib.hid (HR1.out.bel hb)
    replace HR2 := Lib.hid (HR2.out.bel hb)
    have HC4 := Lib.hid hc
    replace HBX := Lib.hid (HBX.out.trans (hb.mono HBX.out.size))
    replace HC3 := Lib.hid (HC3.out.bel hb)
    clear hc hb HCL
    have hr4 := row1 (W := w4) ((HC4.out.bel (Below.refl w4.heap.size w4)))
    have ha4 : Below w4.heap.size w4 (w4.alloc (.cells #[.func (.func f4) #[] cap4] 30)) := (Below.refl _ _).alloc (Nat.le_refl _) _
    have hy4 : Below C.heap.size C (w4.alloc (.cells #[.func (.func f4) #[] cap4] 30)) := HBX.out.trans (ha4.mono HBX.out.size)
    replace HR0 := Lib.hid (HR0.out.bel ha4)
    replace HR1 := Lib.hid (HR1.out.bel ha4)
    replace HR2 := Lib.hid (HR2.out.bel ha4)
    have HR3 := Lib.hid hr4
    replace HBX := Lib.hid (hy4 : Below C.heap.size C (w4.alloc (.cells #[.func (.func f4) #[] cap4] 30)))
    have HCL := Lib.hid (contain_any prvN _ (HDL2.out.bel HBX.out) HWL.out (by decide) HLL.out)
    try clear hr1 ha1 hy1
    try clear hr2 ha2 hy2
    try clear hr3 ha3 hy3
    try clear hr4 ha4 hy4
    go_wp2_with fail
    refine HCL.out.mono ?_
    rintro e w5 ⟨f5, cap5, rfl, hc, hb⟩
    replace HR0 := Lib.hid (HR0.out.bel hb)
    replace HR1 := Lib.hid (HR1.out.bel hb)
    replace HR2 := Lib.hid (HR2.out.bel hb)
    replace HR3 := Lib.hid (HR3.out.bel hb)
    have HC5 := Lib.hid hc
    replace HBX := Lib.hid (HBX.out.trans (hb.mono HBX.out.size))
    clear hc hb HCL
    replace HR0 := Lib.hid HR0.out
    replace HR1 := Lib.hid HR1.out
    replace HR2 := Lib.hid HR2.out
    replace HR3 := Lib.hid HR3.out
    replace HBX := Lib.hid (HBX.out : Below C.heap.size C w5)
    have HCL := Lib.hid (not_any _ (HC5.out.bel (Below.refl w5.heap.size w5)))
    try clear hr1 ha1 hy1
    try clear hr2 ha2 hy2
    try clear hr3 ha3 hy3
    try clear hr4 ha4 hy4
    go_wp2_with fail
    refine HCL.out.mono ?_
    rintro e w6 ⟨f6, cap6, rfl, hc, hb⟩
    replace HR0 := Lib.hid (HR0.out.bel hb)
    replace HR1 := Lib.hid (HR1.out.bel hb)
    replace HR2 := Lib.hid (HR2.out.bel hb)
    replace HR3 := Lib.hid (HR3.out.bel hb)
    have HC6 := Lib.hid hc
    replace HBX := Lib.hid (HBX.out.trans (hb.mono HBX.out.size))
    replace HC5 := Lib.hid (HC5.out.bel hb)
    clear hc hb HCL
    have hr5 := row1 (W := w6) ((HC6.out.bel (Below.refl w6.heap.size w6)))
    have ha5 : Below w6.heap.size w6 (w6.alloc (.cells #[.func (.func f6) #[] cap6] 30)) := (Below.refl _ _).alloc (Nat.le_refl _) _
    have hy5 : Below C.heap.size C (w6.alloc (.cells #[.func (.func f6) #[] cap6] 30)) := HBX.out.trans (ha5.mono HBX.out.size)
    have hr6 := row1 (W := (w6.alloc (.cells #[.func (.func f6) #[] cap6] 30))) (c3_cond (H12.out.below hy5))
    simp only [World.size_alloc] at hr6
    have ha6 : Below (w6.alloc (.cells #[.func (.func f6) #[] cap6] 30)).heap.size (w6.alloc (.cells #[.func (.func f6) #[] cap6] 30)) ((w6.alloc (.cells #[.func (.func f6) #[] cap6] 30)).alloc (.cells #[.func (.func 39) #[] #[.pointer (some ⟨g, 0, none⟩)]] 30)) := (Below.refl _ _).alloc (Nat.le_refl _) _
    have hy6 : Below C.heap.size C ((w6.alloc (.cells #[.func (.func f6) #[] cap6] 30)).alloc (.cells #[.func (.func 39) #[] #[.pointer (some ⟨g, 0, none⟩)]] 30)) := hy5.trans (ha6.mono hy5.size)
    have hr7 := row1 (W := ((w6.alloc (.cells #[.func (.func f6) #[] cap6] 30)).alloc (.cells #[.func (.func 39) #[] #[.pointer (some ⟨g, 0, none⟩)]] 30))) (c4_cond (H6.out.below hy6) (HEW.out.bel hy6).fl HEW.out.fe)
    simp only [World.size_alloc] at hr7
    have ha7 : Below ((w6.alloc (.cells #[.func (.func f6) #[] cap6] 30)).alloc (.cells #[.func (.func 39) #[] #[.pointer (some ⟨g, 0, none⟩)]] 30)).heap.size ((w6.alloc (.cells #[.func (.func f6) #[] cap6] 30)).alloc (.cells #[.func (.func 39) #[] #[.pointer (some ⟨g, 0, none⟩)]] 30)) (((w6.alloc (.cells #[.func (.func f6) #[] cap6] 30)).alloc (.cells #[.func (.func 39) #[] #[.pointer (some ⟨g, 0, none⟩)]] 30)).alloc (.cells #[.func (.func 40) #[] #[.pointer (some ⟨w.heap.size + 1 + 1, 0, none⟩)]] 30)) := (Below.refl _ _).alloc (Nat.le_refl _) _
    have hy7 : Below C.heap.size C (((w6.alloc (.cells #[.func (.func f6) #[] cap6] 30)).alloc (.cells #[.func (.func 39) #[] #[.pointer (some ⟨g, 0, none⟩)]] 30)).alloc (.cells #[.func (.func 40) #[] #[.pointer (some ⟨w.heap.size + 1 + 1, 0, none⟩)]] 30)) := hy6.trans (ha7.mono hy6.size)
    replace HR0 := Lib.hid (((HR0.out.bel ha5).bel ha6).bel ha7)
    replace HR1 := Lib.hid (((HR1.out.bel ha5).bel ha6).bel ha7)
    replace HR2 := Lib.hid (((HR2.out.bel ha5).bel ha6).bel ha7)
    replace HR3 := Lib.hid (((HR3.out.bel ha5).bel ha6).bel ha7)
    have HR4 := Lib.hid ((hr5.bel ha6).bel ha7)
    have HR5 := Lib.hid (hr6.bel ha7)
    have HR6 := Lib.hid hr7
    replace HBX := Lib.hid (hy7 : Below C.heap.size C (((w6.alloc (.cells #[.func (.func f6) #[] cap6] 30)).alloc (.cells #[.func (.func 39) #[] #[.pointer (some ⟨g, 0, none⟩)]] 30)).alloc (.cells #[.func (.func 40) #[] #[.pointer (some ⟨w.heap.size + 1 + 1, 0, none⟩)]] 30)))
    have HCL := Lib.hid (contain_any pubN _ (HDL2.out.bel HBX.out) HWL.out (by decide) HLL.out)
    try clear hr1 ha1 hy1
    try clear hr2 ha2 hy2
    try clear hr3 ha3 hy3
    try clear hr4 ha4 hy4
    try clear hr5 ha5 hy5
    try clear hr6 ha6 hy6
    try clear hr7 ha7 hy7
    go_wp2_with fail
    refine HCL.out.mono ?_
    rintro e w7 ⟨f7, cap7, rfl, hc, hb⟩
    replace HR0 := Lib.hid (HR0.out.bel hb)
    replace HR1 := Lib.hid (HR1.out.bel hb)
    replace HR2 := Lib.hid (HR2.out.bel hb)
    replace HR3 := Lib.hid (HR3.out.bel hb)
    replace HR4 := Lib.hid (HR4.out.bel hb)
    replace HR5 := Lib.hid (HR5.out.bel hb)
    replace HR6 := Lib.hid (HR6.out.bel hb)
    have HC7 := Lib.hid hc
    replace HBX := Lib.hid (HBX.out.trans (hb.mono HBX.out.size))
    clear hc hb HCL
    replace HR0 := Lib.hid HR0.out
    replace HR1 := Lib.hid HR1.out
    replace HR2 := Lib.hid HR2.out
    replace HR3 := Lib.hid HR3.out
    replace HR4 := Lib.hid HR4.out
    replace HR5 := Lib.hid HR5.out
    replace HR6 := Lib.hid HR6.out
    replace HBX := Lib.hid (HBX.out : Below C.heap.size C w7)
    have HCL := Lib.hid (contain_any smN _ (HDL2.out.bel HBX.out) HWL.out (by decide) HLL.out)
    try clear hr1 ha1 hy1
    try clear hr2 ha2 hy2
    try clear hr3 ha3 hy3
    try clear hr4 ha4 hy4
    try clear hr5 ha5 hy5
    try clear hr6 ha6 hy6
    try clear hr7 ha7 hy7
    go_wp2_with fail
    refine HCL.out.mono ?_
    rintro e w8 ⟨f8, cap8, rfl, hc, hb⟩
    replace HR0 := Lib.hid (HR0.out.bel hb)
    replace HR1 := Lib.hid (HR1.out.bel hb)
    replace HR2 := Lib.hid (HR2.out.bel hb)
    replace HR3 := Lib.hid (HR3.out.bel hb)
    replace HR4 := Lib.hid (HR4.out.bel hb)
    replace HR5 := Lib.hid (HR5.out.bel hb)
    replace HR6 := Lib.hid (HR6.out.bel hb)
    have HC8 := Lib.hid hc
    replace HBX := Lib.hid (HBX.out.trans (hb.mono HBX.out.size))
    replace HC7 := Lib.hid (HC7.out.bel hb)
    clear hc hb HCL
    replace HR0 := Lib.hid HR0.out
    replace HR1 := Lib.hid HR1.out
    replace HR2 := Lib.hid HR2.out
    replace HR3 := Lib.hid HR3.out
    replace HR4 := Lib.hid HR4.out
    replace HR5 := Lib.hid HR5.out
    replace HR6 := Lib.hid HR6.out
    replace HBX := Lib.hid (HBX.out : Below C.heap.size C w8)
    have HCL := Lib.hid (contain_any musN _ (HDL2.out.bel HBX.out) HWL.out (by decide) HLL.out)
    try clear hr1 ha1 hy1
    try clear hr2 ha2 hy2
    try clear hr3 ha3 hy3
    try clear hr4 ha4 hy4
    try clear hr5 ha5 hy5
    try clear hr6 ha6 hy6
    try clear hr7 ha7 hy7
    go_wp2_with fail
    refine HCL.out.mono ?_
    rintro e w9 ⟨f9, cap9, rfl, hc, hb⟩
    replace HR0 := Lib.hid (HR0.out.bel hb)
    replace HR1 := Lib.hid (HR1.out.bel hb)
    replace HR2 := Lib.hid (HR2.out.bel hb)
    replace HR3 := Lib.hid (HR3.out.bel hb)
    replace HR4 := Lib.hid (HR4.out.bel hb)
    replace HR5 := Lib.hid (HR5.out.bel hb)
    replace HR6 := Lib.hid (HR6.out.bel hb)
    have HC9 := Lib.hid hc
    replace HBX := Lib.hid (HBX.out.trans (hb.mono HBX.out.size))
    replace HC7 := Lib.hid (HC7.out.bel hb)
    replace HC8 := Lib.hid (HC8.out.bel hb)
    clear hc hb HCL
    have hr8 := row5 (W := w9) (c5_cond (H5.out.below HBX.out) (HFQ.out.bel HBX.out) HFE.out) ((HC7.out.bel (Below.refl w9.heap.size w9))) ((HC8.out.bel (Below.refl w9.heap.size w9))) ((HC9.out.bel (Below.refl w9.heap.size w9))) (c6_cond (H12.out.below HBX.out))
    have ha8 : Below w9.heap.size w9 (w9.alloc (.cells #[.func (.func 42) #[] #[.pointer (some ⟨w.heap.size + 1, 0, none⟩)], .func (.func f7) #[] cap7, .func (.func f8) #[] cap8, .func (.func f9) #[] cap9, .func (.func 43) #[] #[.pointer (some ⟨g, 0, none⟩)]] 30)) := (Below.refl _ _).alloc (Nat.le_refl _) _
    have hy8 : Below C.heap.size C (w9.alloc (.cells #[.func (.func 42) #[] #[.pointer (some ⟨w.heap.size + 1, 0, none⟩)], .func (.func f7) #[] cap7, .func (.func f8) #[] cap8, .func (.func f9) #[] cap9, .func (.func 43) #[] #[.pointer (some ⟨g, 0, none⟩)]] 30)) := HBX.out.trans (ha8.mono HBX.out.size)
    have hr9 := row3 (W := (w9.alloc (.cells #[.func (.func 42) #[] #[.pointer (some ⟨w.heap.size + 1, 0, none⟩)], .func (.func f7) #[] cap7, .func (.func f8) #[] cap8, .func (.func f9) #[] cap9, .func (.func 43) #[] #[.pointer (some ⟨g, 0, none⟩)]] 30))) (c7_cond dev (H6.out.below hy8) (H7.out.below hy8) (HEW.out.bel hy8)) (c8_cond (H9.out.below hy8) (HEW.out.bel hy8).fl HEW.out.fe) (c9_cond (H9.out.below hy8) (H6.out.below hy8) (HEW.out.bel hy8))
    simp only [World.size_alloc] at hr9
    have ha9 : Below (w9.alloc (.cells #[.func (.func 42) #[] #[.pointer (some ⟨w.heap.size + 1, 0, none⟩)], .func (.func f7) #[] cap7, .func (.func f8) #[] cap8, .func (.func f9) #[] cap9, .func (.func 43) #[] #[.pointer (some ⟨g, 0, none⟩)]] 30)).heap.size (w9.alloc (.cells #[.func (.func 42) #[] #[.pointer (some ⟨w.heap.size + 1, 0, none⟩)], .func (.func f7) #[] cap7, .func (.func f8) #[] cap8, .func (.func f9) #[] cap9, .func (.func 43) #[] #[.pointer (some ⟨g, 0, none⟩)]] 30)) ((w9.alloc (.cells #[.func (.func 42) #[] #[.pointer (some ⟨w.heap.size + 1, 0, none⟩)], .func (.func f7) #[] cap7, .func (.func f8) #[] cap8, .func (.func f9) #[] cap9, .func (.func 43) #[] #[.pointer (some ⟨g, 0, none⟩)]] 30)).alloc (.cells #[.func (.func 44) #[] #[.pointer (some ⟨w.heap.size + 1 + 1, 0, none⟩), .pointer (some ⟨w.heap.size + 1 + 1 + 1, 0, none⟩)], .func (.func 46) #[] #[.pointer (some ⟨w.heap.size + 1 + 1 + 1 + 1, 0, none⟩)], .func (.func 48) #[] #[.pointer (some ⟨w.heap.size + 1 + 1 + 1 + 1, 0, none⟩), .pointer (some ⟨w.heap.size + 1 + 1, 0, none⟩)]] 30)) := (Below.refl _ _).alloc (Nat.le_refl _) _
    have hy9 : Below C.heap.size C ((w9.alloc (.cells #[.func (.func 42) #[] #[.pointer (some ⟨w.heap.size + 1, 0, none⟩)], .func (.func f7) #[] cap7, .func (.func f8) #[] cap8, .func (.func f9) #[] cap9, .func (.func 43) #[] #[.pointer (some ⟨g, 0, none⟩)]] 30)).alloc (.cells #[.func (.func 44) #[] #[.pointer (some ⟨w.heap.size + 1 + 1, 0, none⟩), .pointer (some ⟨w.heap.size + 1 + 1 + 1, 0, none⟩)], .func (.func 46) #[] #[.pointer (some ⟨w.heap.size + 1 + 1 + 1 + 1, 0, none⟩)], .func (.func 48) #[] #[.pointer (some ⟨w.heap.size + 1 + 1 + 1 + 1, 0, none⟩), .pointer (some ⟨w.heap.size + 1 + 1, 0, none⟩)]] 30)) := hy8.trans (ha9.mono hy8.size)
    have hrs := rows9 (W := ((w9.alloc (.cells #[.func (.func 42) #[] #[.pointer (some ⟨w.heap.size + 1, 0, none⟩)], .func (.func f7) #[] cap7, .func (.func f8) #[] cap8, .func (.func f9) #[] cap9, .func (.func 43) #[] #[.pointer (some ⟨g, 0, none⟩)]] 30)).alloc (.cells #[.func (.func 44) #[] #[.pointer (some ⟨w.heap.size + 1 + 1, 0, none⟩), .pointer (some ⟨w.heap.size + 1 + 1 + 1, 0, none⟩)], .func (.func 46) #[] #[.pointer (some ⟨w.heap.size + 1 + 1 + 1 + 1, 0, none⟩)], .func (.func 48) #[] #[.pointer (some ⟨w.heap.size + 1 + 1 + 1 + 1, 0, none⟩), .pointer (some ⟨w.heap.size + 1 + 1, 0, none⟩)]] 30))) (((HR0.out.bel ha8).bel ha9)) (((HR1.out.bel ha8).bel ha9)) (((HR2.out.bel ha8).bel ha9)) (((HR3.out.bel ha8).bel ha9)) (((HR4.out.bel ha8).bel ha9)) (((HR5.out.bel ha8).bel ha9)) (((HR6.out.bel ha8).bel ha9)) ((hr8.bel ha9)) (hr9)
    simp only [World.size_alloc] at hrs
    have hal : Below ((w9.alloc (.cells #[.func (.func 42) #[] #[.pointer (some ⟨w.heap.size + 1, 0, none⟩)], .func (.func f7) #[] cap7, .func (.func f8) #[] cap8, .func (.func f9) #[] cap9, .func (.func 43) #[] #[.pointer (some ⟨g, 0, none⟩)]] 30)).alloc (.cells #[.func (.func 44) #[] #[.pointer (some ⟨w.heap.size + 1 + 1, 0, none⟩), .pointer (some ⟨w.heap.size + 1 + 1 + 1, 0, none⟩)], .func (.func 46) #[] #[.pointer (some ⟨w.heap.size + 1 + 1 + 1 + 1, 0, none⟩)], .func (.func 48) #[] #[.pointer (some ⟨w.heap.size + 1 + 1 + 1 + 1, 0, none⟩), .pointer (some ⟨w.heap.size + 1 + 1, 0, none⟩)]] 30)).heap.size ((w9.alloc (.cells #[.func (.func 42) #[] #[.pointer (some ⟨w.heap.size + 1, 0, none⟩)], .func (.func f7) #[] cap7, .func (.func f8) #[] cap8, .func (.func f9) #[] cap9, .func (.func 43) #[] #[.pointer (some ⟨g, 0, none⟩)]] 30)).alloc (.cells #[.func (.func 44) #[] #[.pointer (some ⟨w.heap.size + 1 + 1, 0, none⟩), .pointer (some ⟨w.heap.size + 1 + 1 + 1, 0, none⟩)], .func (.func 46) #[] #[.pointer (some ⟨w.heap.size + 1 + 1 + 1 + 1, 0, none⟩)], .func (.func 48) #[] #[.pointer (some ⟨w.heap.size + 1 + 1 + 1 + 1, 0, none⟩), .pointer (some ⟨w.heap.size + 1 + 1, 0, none⟩)]] 30)) (((w9.alloc (.cells #[.func (.func 42) #[] #[.pointer (some ⟨w.heap.size + 1, 0, none⟩)], .func (.func f7) #[] cap7, .func (.func f8) #[] cap8, .func (.func f9) #[] cap9, .func (.func 43) #[] #[.pointer (some ⟨g, 0, none⟩)]] 30)).alloc (.cells #[.func (.func 44) #[] #[.pointer (some ⟨w.heap.size + 1 + 1, 0, none⟩), .pointer (some ⟨w.heap.size + 1 + 1 + 1, 0, none⟩)], .func (.func 46) #[] #[.pointer (some ⟨w.heap.size + 1 + 1 + 1 + 1, 0, none⟩)], .func (.func 48) #[] #[.pointer (some ⟨w.heap.size + 1 + 1 + 1 + 1, 0, none⟩), .pointer (some ⟨w.heap.size + 1 + 1, 0, none⟩)]] 30)).alloc (.cells #[.slice (some ⟨C.heap.size, 0, none⟩) 1 1, .slice (some ⟨C.heap.size + 1, 0, none⟩) 1 1, .slice (some ⟨w2.heap.size, 0, none⟩) 1 1, .slice (some ⟨w4.heap.size, 0, none⟩) 1 1, .slice (some ⟨w6.heap.size, 0, none⟩) 1 1, .slice (some ⟨w6.heap.size + 1, 0, none⟩) 1 1, .slice (some ⟨w6.heap.size + 1 + 1, 0, none⟩) 1 1, .slice (some ⟨w9.heap.size, 0, none⟩) 5 5, .slice (some ⟨w9.heap.size + 1, 0, none⟩) 3 3] 46)) := (Below.refl _ _).alloc (Nat.le_refl _) _
    have HRS := Lib.hid hrs; have HBZ := Lib.hid (hy9.trans (hal.mono hy9.size))
    try clear hr1 ha1 hy1
    try clear hr2 ha2 hy2
    try clear hr3 ha3 hy3
    try clear hr4 ha4 hy4
    try clear hr5 ha5 hy5
    try clear hr6 ha6 hy6
    try clear hr7 ha7 hy7
    try clear hr8 ha8 hy8
    try clear hr9 ha9 hy9
    clear hrs hal
    go_wp2_with fail
    go_ret
    refine ⟨_, rfl, ?_, HBX0.out.trans (HBZ.out.mono HBX0.out.size)⟩
    rw [HX.out]
    unfold condsB dirB
    rw [← HCE.out]
    exact HRS.out

/-! The loops over the conditions. -/
theorem RowsC.at {W : World} {v : Value} {X : List (List Bool)} (h : RowsC W v X) : ∃ b, v = .slice (some ⟨b, 0, none⟩) X.length X.length ∧ b < W.heap.size ∧ ∀ j (hj : j < X.length), ∃ c, W.cell? ⟨b, j, none⟩ = some (.slice (some ⟨c, 0, none⟩) (X[j]).length (X[j]).length) ∧ RowC W (.slice (some ⟨c, 0, none⟩) (X[j]).length (X[j]).length) X[j] := by
  obtain ⟨b, cs, rfl, hd, hc⟩ := h
  refine ⟨b, rfl, hd.lt, fun j hj => ?_⟩
  obtain ⟨u, h1, h2⟩ := hc j hj
  obtain ⟨c, ds, rfl, h3⟩ := h2
  exact ⟨c, hd.cell j _ h1, c, ds, rfl, h3⟩
theorem RowC.at {W : World} {c n m : Nat} {xs : List Bool} (h : RowC W (.slice (some ⟨c, 0, none⟩) n m) xs) {t : Nat} (ht : t < xs.length) : ∃ f cap, W.cell? ⟨c, t, none⟩ = some (.func (.func f) #[] cap) ∧ Cond W f cap xs[t] := by
  obtain ⟨c', ds, h1, hd, hc⟩ := h
  injection h1 with h2
  injection h2 with h3
  injection h3 with h4
  subst h4
  obtain ⟨f, cap, h5, h6⟩ := hc t ht
  exact ⟨f, cap, hd.cell t _ h5, h6⟩

set_option maxRecDepth 100000 in
set_option maxHeartbeats 8000000 in
theorem smay_any (m dev : List UInt8) {vq : Value} {q : List Fld} (w : World) (hq : FL w vq q) (hfq : Fe q) (h : EnW w fs l asked got Y) :
    Calls Tryz.prog 8 #[.string (bs m), vq, .agg #[.int .i64 st, .string re, .int .i64 mi, fs, .string bo, .int .i64 asked, .int .i64 got, .slice vA vn vc], .string (bs dev)] w
      fun e w' => e = .returned (.bool (stoB m st q l Y got dev)) ∧ Below w.heap.size w w' := by
  have hx : Below w.heap.size w (w.alloc (.cells #[.int .i64 st, .string re, .int .i64 mi, fs, .string bo, .int .i64 asked, .int .i64 got, .slice vA vn vc] 28)) := (Below.refl _ _).alloc (Nat.le_refl _) _
  have hd := dbk.new w #[.int .i64 st, .string re, .int .i64 mi, fs, .string bo, .int .i64 asked, .int .i64 got, .slice vA vn vc] 28
  have hc := conditions_any (st := st) (mi := mi) (re := re) (bo := bo) (vA := vA) (vn := vn) (vc := vc) m dev _ (hq.bel hx) hfq (h.bel hx)
  rw [← conds_may]
  have hX9 : (condsB m st q l Y got dev).length ≤ 9 := Nat.le_refl _
  have hXr : ∀ r ∈ condsB m st q l Y got dev, r.length ≤ 5 := fun r hr => by
    simp only [condsB, List.mem_cons, List.not_mem_nil, or_false] at hr
    rcases hr with rfl | rfl | rfl | rfl | rfl | rfl | rfl | rfl | rfl <;> simp
  generalize condsB m st q l Y got dev = X at *
  obtain ⟨N, hN⟩ : ∃ N, N = X.all (fun r => r.any id) := ⟨_, rfl⟩
  rw [← hN]
  have HN := Lib.hid hN; have HC := Lib.hid hc; have HX := Lib.hid hx
  obtain ⟨y0, y1, y2, y3, y4, y5, y6, y7⟩ := dbk.eight hd
  clear hN hc hx hd hq hfq h
  go_enter Tryz.func8, Tryz.ntmps8
  go_wp2_with fail
  go_step3
  go_wp2_with fail
  go_step3
  go_wp2_with fail
  refine HC.out.mono ?_
  rintro e w1 ⟨v, rfl, hr, hb⟩
  obtain ⟨b, rfl, hbl, _⟩ := hr.at
  have HR := Lib.hid hr; have HB := Lib.hid (HX.out.trans (hb.mono HX.out.size))
  clear hr hb hbl HC HX y0 y1 y2 y3 y4 y5 y6 y7
  go_wp2_with fail
  go_loopg [19] X.length (fun k i wr => ∃ j : Nat, j + k = X.length ∧ i = .int .i64 j ∧ Hid (Below w.heap.size w wr ∧ RowsC wr (.slice (some ⟨b, 0, none⟩) X.length X.length) X ∧ (X.drop j).all (fun r => r.any id) = N))
  case atStart => exact ⟨0, Nat.zero_add _, rfl, HB.out, HR.out, HN.out.symm⟩
  case round =>
    obtain ⟨j, hj, rfl, HO⟩ := hrel
    obtain ⟨wo, rfl⟩ : ∃ wo : World, wo = wr := ⟨_, rfl⟩
    obtain ⟨ko, rfl⟩ : ∃ ko : Nat, ko = gk := ⟨_, rfl⟩
    clear HB HR HN
    rcases Nat.eq_zero_or_pos ko with hz | hz
    · subst hz
      obtain rfl : j = X.length := by omega
      have HL : Hid (N = true) := by
        have h := HO.out.2.2
        rw [List.drop_length] at h
        exact h.symm
      go_wp2_with fail
      try rw [Exit.noGoto_ret]
      go_ret
      exact ⟨ret_bool HL.out.symm, HO.out.1⟩
    · have hlt : j < X.length := by omega
      have hji : (j : Int) < (X.length : Int) := by omega
      obtain ⟨b', he, hbl, hat⟩ := HO.out.2.1.at
      injection he with he1
      injection he1 with he2
      injection he2 with he3
      subst he3
      obtain ⟨c, hcell, hrow⟩ := hat j hlt
      have hst : (X[j].any id && (X.drop (j + 1)).all (fun r => r.any id)) = N := by
        rw [← HO.out.2.2, List.drop_eq_getElem_cons hlt, List.all_cons]
      obtain ⟨R, hR⟩ : ∃ R, R = (X.drop (j + 1)).all (fun r => r.any id) := ⟨_, rfl⟩
      rw [← hR] at hst
      have HRR := Lib.hid hR
      have HROW := Lib.hid hrow; have HST := Lib.hid hst
      clear hat hrow hst hR hbl
      have hx5 := hXr _ (List.getElem_mem hlt)
      generalize X[j] = xs at *
      go_wp2_with fail
      go_loopg [25] xs.length (fun k i wr => ∃ t : Nat, t + k = xs.length ∧ i = .int .i64 t ∧ Hid (Below w.heap.size w wr ∧ RowsC wr (.slice (some ⟨b, 0, none⟩) X.length X.length) X ∧ RowC wr (.slice (some ⟨c, 0, none⟩) xs.length xs.length) xs ∧ ((xs.drop t).any id && R) = N))
      case atStart =>
        have h := HO.out
        exact ⟨0, Nat.zero_add _, rfl, h.1, h.2.1, HROW.out, HST.out⟩
      case round =>
        obtain ⟨t, ht, rfl, HI⟩ := hrel
        obtain ⟨wi, rfl⟩ : ∃ wi : World, wi = wr := ⟨_, rfl⟩
        clear HROW HST hcell
        rcases Nat.eq_zero_or_pos gk with hz2 | hz2
        · subst hz2
          obtain rfl : t = xs.length := by omega
          have HL : Hid (N = false) := by
            have h := HI.out.2.2.2
            rw [List.drop_length] at h
            exact h.symm
          go_wp2_with fail
          try rw [Exit.noGoto_ret]
          go_ret
          exact ⟨ret_bool HL.out.symm, HI.out.1⟩
        · have hlt2 : t < xs.length := by omega
          have hti : (t : Int) < (xs.length : Int) := by omega
          obtain ⟨f, cap, hcell, hcond⟩ := HI.out.2.2.1.at hlt2
          have eg := hcond.1
          have hcall := hcond.2 wi (Below.refl _ _)
          have hfi : ((xs[t] || (xs.drop (t + 1)).any id) && R) = N := by
            have h := HI.out.2.2.2
            rw [List.drop_eq_getElem_cons hlt2, List.any_cons] at h
            exact h
          generalize xs[t] = x at *
          have HCALL := Lib.hid hcall; have HFI := Lib.hid hfi
          clear hcall hfi hcond
          cases x
          · go_wp2_with (go_at_fn f; refine HCALL.out.mono ?_; rintro e w3 ⟨rfl, hb3⟩; have HB3 := Lib.hid hb3; clear hb3)
            go_roundg (gk - 1)
            case rel =>
              have h := HI.out
              have hb3 := HB3.out
              exact ⟨t + 1, by omega, by go_num, h.1.trans (hb3.mono h.1.size), h.2.1.bel hb3, h.2.2.1.bel hb3, by simpa using HFI.out⟩
            case measure => omega
          · have hf2 : R = N := by simpa using HFI.out
            have HF2 := Lib.hid hf2; clear hf2
            clear HFI
            go_wp2_with (go_at_fn f; refine HCALL.out.mono ?_; rintro e w3 ⟨rfl, hb3⟩; have HB3 := Lib.hid hb3; clear hb3)
            go_roundg (ko - 1)
            case rel =>
              have h := HI.out
              have hb3 := HB3.out
              exact ⟨j + 1, by omega, by go_num, h.1.trans (hb3.mono h.1.size), h.2.1.bel hb3, by rw [← HRR.out]; exact HF2.out⟩
            case measure => omega
end Go.Proofs.YtfobjaccpnondaaGreatDoor
