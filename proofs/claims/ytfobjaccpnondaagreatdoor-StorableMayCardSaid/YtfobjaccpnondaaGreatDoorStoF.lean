/- The statement StorableMay. -/
import Derived.Test.YtfobjaccpnondaaGreatDoorStoD
import Derived.Test.YtfobjaccpnondaaGreatDoorStoE
import Derived.Test.YtfobjaccpnondaaGreatDoorOpenX
namespace Go.Proofs.YtfobjaccpnondaaGreatDoor
open Go.RowKit Go.Shelf

theorem dbk.three {w : World} {b : Nat} {x0 x1 x2 : Value} (h : dbk w b #[x0, x1, x2]) : w.cell? ⟨b, 0, none⟩ = some x0 ∧ w.cell? ⟨b, 1, none⟩ = some x1 ∧ w.cell? ⟨b, 2, none⟩ = some x2 := ⟨h.cell 0 _ rfl, h.cell 1 _ rfl, h.cell 2 _ rfl⟩
set_option maxRecDepth 100000 in
set_option maxHeartbeats 8000000 in
theorem storableMay_law {m dev : List UInt8} {vq : Value} {q : List Fld} {st mi : Int} {re bo : ByteArray} {fs : Value} {asked got : Int} {vA : Option Addr} {vn vc : Nat} {l : List Fld} (w : World)
    (gq : InA w m dev vq q) (ge : InN w fs l asked got) {p : Prop} (_ : p) (hm : MaxD w) (ht : Tabs w) :
    Calls Tryz.prog 3 #[.agg #[.string (bs m), .string (bs dev), vq], .agg #[.int .i64 st, .string re, .int .i64 mi, fs, .string bo, .int .i64 asked, .int .i64 got, .slice vA vn vc]] w
      fun e w' => e = .returned (.bool true) ∧ Below w.heap.size w w' := by
  obtain ⟨qA, qc, rfl⟩ := gq.fl.form
  obtain ⟨fA, fc, rfl⟩ := ge.fl.form
  have x1 : Below w.heap.size w (w.alloc (.cells #[.string (bs m), .string (bs dev), .slice qA q.length qc] 24)) := (Below.refl _ _).alloc (Nat.le_refl _) _
  have x2 := x1.alloc x1.size (.cells #[.int .i64 st, .string re, .int .i64 mi, .slice fA l.length fc, .string bo, .int .i64 asked, .int .i64 got, .slice vA vn vc] 28)
  have hA := (dbk.new w #[.string (bs m), .string (bs dev), .slice qA q.length qc] 24).alloc (.cells #[.int .i64 st, .string re, .int .i64 mi, .slice fA l.length fc, .string bo, .int .i64 asked, .int .i64 got, .slice vA vn vc] 28)
  have hE := dbk.new (w.alloc (.cells #[.string (bs m), .string (bs dev), .slice qA q.length qc] 24)) #[.int .i64 st, .string re, .int .i64 mi, .slice fA l.length fc, .string bo, .int .i64 asked, .int .i64 got, .slice vA vn vc] 28
  rw [World.size_alloc] at hE
  obtain ⟨Y, m0, d0, h0, i0, s0, HY⟩ := clamp_ex got
  have hw : -9223372036854775808 ≤ asked ∧ asked ≤ 9223372036854775807 ∧ -9223372036854775808 ≤ got ∧ got ≤ 9223372036854775807 := by
    obtain ⟨a0, a1⟩ := i64_bd ge.wa
    obtain ⟨g0, g1⟩ := i64_bd ge.wg
    exact ⟨a0, a1, g0, g1⟩
  have hfq := fun W (hb : Below w.heap.size w W) => fewS_any _ q W (gq.fl.bel hb) gq.big gq.len
  have hfl := fun W (hb : Below w.heap.size w W) => fewS_any _ l W (ge.fl.bel hb) ge.big ge.len
  have hwk := fun W (hb : Below w.heap.size w W) => sworks_any W (hm.bel hb) (ht.below hb)
  have hml := gq.ml
  have hdl := gq.dl
  have hq1 : ∀ W, Below w.heap.size w W → FL W (.slice qA q.length qc) q := fun W hb => gq.fl.bel hb
  have hl1 : ∀ W, Below w.heap.size w W → Fe l → EnW W (.slice fA l.length fc) l asked got Y := fun W hb hf => ⟨ge.fl.bel hb, hf, hm.bel hb, ht.below hb, ⟨m0, d0, h0, i0, s0, HY⟩, hw.1, hw.2.1, hw.2.2.1, hw.2.2.2⟩
  have HFQ := Lib.hid hfq; have HFL := Lib.hid hfl; have HWK0 := Lib.hid hwk; have HQ1 := Lib.hid hq1; have HL1 := Lib.hid hl1
  have HA := Lib.hid hA; have HE := Lib.hid hE; have HX := Lib.hid x2
  clear x1 x2 hA hE HY hw hfq hfl hwk hq1 hl1 gq ge hm ht
  have hsm : (bs m).size = m.length := bs_size m
  have hsd : (bs dev).size = dev.length := bs_size dev
  obtain ⟨a0, a1, a2⟩ := HA.out.three
  obtain ⟨y0, y1, y2, y3, y4, y5, y6, y7⟩ := HE.out.eight
  go_enter Tryz.func3, Tryz.ntmps3
  go_upto_region 1 with fail
  generalize hCC : (w.alloc (.cells #[.string (bs m), .string (bs dev), .slice qA q.length qc] 24)).alloc (.cells #[.int .i64 st, .string re, .int .i64 mi, .slice fA l.length fc, .string bo, .int .i64 asked, .int .i64 got, .slice vA vn vc] 28) = C at *
  clear hCC
  go_cut [27] (fun v wx => v = .bool (!(fewS q && (fewS l && (decide (m.length ≤ 300) && decide (dev.length ≤ 300))))) ∧ ∃ W, W = wx ∧ Below C.heap.size C W)
  case first =>
    go_wp2_with fail
    refine (HFQ.out _ HX.out).mono ?_
    rintro e w1 ⟨rfl, hb⟩
    obtain ⟨a0, a1, a2⟩ := (HA.out.below hb).three
    obtain ⟨y0, y1, y2, y3, y4, y5, y6, y7⟩ := (HE.out.below hb).eight
    cases hq2 : fewS q
    · go_wp2_with fail
      go_meet
      exact ⟨by rw [hq2]; rfl, _, rfl, hb⟩
    · go_wp2_with fail
      refine (HFL.out _ (HX.out.trans (hb.mono HX.out.size))).mono ?_
      rintro e w2 ⟨rfl, hb2⟩
      replace hb := hb.trans (hb2.mono hb.size)
      obtain ⟨a0, a1, a2⟩ := (HA.out.below hb).three
      cases hl2 : fewS l
      · go_wp2_with fail
        go_meet
        exact ⟨by rw [hq2, hl2]; rfl, _, rfl, hb⟩
      · by_cases h3 : m.length ≤ 300
        · have hd3 : ¬ (300 : Int) < (m.length : Int) := by omega
          by_cases h4 : dev.length ≤ 300
          · have hd4 : ¬ (300 : Int) < (dev.length : Int) := by omega
            go_wp2_with fail
            go_meet
            exact ⟨by rw [hq2, hl2, decide_eq_true h3, decide_eq_true h4, decide_eq_false (p := (300 : Int) < (m.length : Int)) (by omega), decide_eq_false (p := (300 : Int) < (dev.length : Int)) (by omega)]; rfl, _, rfl, hb⟩
          · have hd4 : (300 : Int) < (dev.length : Int) := by omega
            go_wp2_with fail
            go_meet
            exact ⟨by rw [hq2, hl2, decide_eq_false h4, decide_eq_true h3]; rfl, _, rfl, hb⟩
        · have hd3 : (300 : Int) < (m.length : Int) := by omega
          go_wp2_with fail
          go_meet
          exact ⟨by rw [hq2, hl2, decide_eq_false h3]; rfl, _, rfl, hb⟩
  case rest =>
    obtain ⟨rfl, wr, rfl, hb⟩ := hcut
    replace HX := Lib.hid (HX.out.trans (hb.mono HX.out.size)); replace HA := Lib.hid (HA.out.below hb); replace HE := Lib.hid (HE.out.below hb)
    clear hb HFQ HFL a0 a1 a2 y0 y1 y2 y3 y4 y5 y6 y7
    clear C
    cases hok : (fewS q && (fewS l && (decide (m.length ≤ 300) && decide (dev.length ≤ 300))))
    · clear hok
      go_wp2_with fail
      refine (HWK0.out _ HX.out).mono ?_
      rintro e w1 ⟨rfl, hb⟩
      replace HX := Lib.hid (HX.out.trans (hb.mono HX.out.size))
      clear hb
      go_wp2_with fail
      go_ret
      exact ⟨rfl, HX.out⟩
    · simp only [Bool.and_eq_true] at hok
      obtain ⟨hq2, hl2, _, _⟩ := hok
      have feq := (fewS_fw hq2).fe
      have fel := (fewS_fw hl2).fe
      obtain ⟨C, hC⟩ : ∃ C, C = wr := ⟨_, rfl⟩
      subst hC
      have hma := fun W (hb : Below C.heap.size C W) => smay_any (st := st) (mi := mi) (re := re) (bo := bo) (vA := vA) (vn := vn) (vc := vc) m dev W ((HQ1.out W (HX.out.trans (hb.mono HX.out.size)))) feq (HL1.out W (HX.out.trans (hb.mono HX.out.size)) fel)
      have hrm := fun W (hb : Below C.heap.size C W) => rsto_any (st := st) (mi := mi) (re := re) (bo := bo) (vA := vA) (vn := vn) (vc := vc) m dev W ((HQ1.out W (HX.out.trans (hb.mono HX.out.size)))) feq (HL1.out W (HX.out.trans (hb.mono HX.out.size)) fel)
      generalize stoB m st q l Y got dev = N at *
      have HMA := Lib.hid hma; have HRM := Lib.hid hrm
      have HWK := Lib.hid fun W (hb : Below C.heap.size C W) => HWK0.out W (HX.out.trans (hb.mono HX.out.size))
      clear hma hrm HWK0 HQ1 HL1 hq2 hl2 feq fel
      go_wp2_with fail
      cases N
      · refine wp_region_growS (.one 0 false (.one 1 false (.one 2 false (.one 3 false (.one 4 false (.one 5 false (.one 6 false (.one 8 false (.one 9 false (.one 10 false (.one 11 false (.one 12 false (.one 13 false (.one 14 false (.one 7 true (.one 15 true (.one 16 false (.one 17 false (.one 18 true (.one 19 false (.one 20 false .done)))))))))))))))))))))
          (fun W => Below C.heap.size C W) (by kernel_rfl) (by kernel_rfl) rfl (by kernel_rfl) (by kernel_rfl) ((Below.refl _ _).drew) (fun ops hops => ?_)
        simp only [GT.ins, List.getD_cons_zero, List.getD_cons_succ]
        have g17 : (ops[17]?).bind (·.dst) = some 46 := by rw [hops.out]; rfl
        have G17 := Lib.hid g17
        clear hops g17
        iterate 14
          refine growS_take (by rfl) ?_
          apply Exists.intro
          refine ⟨fun w' hE => ?_, ?_⟩
          · obtain ⟨a0, a1, a2⟩ := (HA.out.below hE).three; obtain ⟨y0, y1, y2, y3, y4, y5, y6, y7⟩ := (HE.out.below hE).eight
            go_simp
            try with_reducible rfl
          simp only [Act.put, List.setIfInBounds_toArray, List.set_cons_zero, List.set_cons_succ]
        refine growS_call (by rfl) (fun K hK => ?_)
        go_simp
        refine (HMA.out _ ((Below.refl _ _).drew : Below C.heap.size C C.drew)).mono ?_
        rintro e x1 ⟨rfl, hb⟩
        have hz : Below C.heap.size C x1 := ((Below.refl _ _).drew : Below C.heap.size C C.drew).trans (hb.mono ((Below.refl _ _).drew : Below C.heap.size C C.drew).size)
        have HZ1 := Lib.hid hz
        refine hK.out _ _ hz ?_
        clear hK K hb hz
        refine growS_call (by rfl) (fun K hK => ?_)
        go_simp
        refine (HRM.out _ HZ1.out).mono ?_
        rintro e x2 ⟨rfl, hb⟩
        have hz : Below C.heap.size C x2 := HZ1.out.trans (hb.mono HZ1.out.size)
        have HZ2 := Lib.hid hz
        refine hK.out _ _ hz ?_
        clear hK K hb hz HZ1
        iterate 2
          refine growS_take (by rfl) ?_
          apply Exists.intro
          refine ⟨fun w' hE => ?_, ?_⟩
          · obtain ⟨a0, a1, a2⟩ := (HA.out.below hE).three; obtain ⟨y0, y1, y2, y3, y4, y5, y6, y7⟩ := (HE.out.below hE).eight
            go_simp
            try with_reducible rfl
          simp only [Act.put, List.setIfInBounds_toArray, List.set_cons_zero, List.set_cons_succ]
        refine growS_call (wantedS G17.out rfl rfl) (fun K hK => ?_)
        go_simp
        refine (HWK.out _ HZ2.out).mono ?_
        rintro e x3 ⟨rfl, hb⟩
        have hz : Below C.heap.size C x3 := HZ2.out.trans (hb.mono HZ2.out.size)
        have HZ3 := Lib.hid hz
        refine hK.out _ _ hz ?_
        clear hK K hb hz HZ2
        iterate 2
          refine growS_take (by rfl) ?_
          apply Exists.intro
          refine ⟨fun w' hE => ?_, ?_⟩
          · obtain ⟨a0, a1, a2⟩ := (HA.out.below hE).three; obtain ⟨y0, y1, y2, y3, y4, y5, y6, y7⟩ := (HE.out.below hE).eight
            go_simp
            try with_reducible rfl
          simp only [Act.put, List.setIfInBounds_toArray, List.set_cons_zero, List.set_cons_succ]
        refine growS_done (NoPanic.normal ?_)
        try simp only [Exit.then]
        go_wp2_with fail
        go_ret
        exact ⟨rfl, HX.out.trans (HZ3.out.mono HX.out.size)⟩
      · refine wp_region_growS (.one 0 false (.one 1 false (.one 2 false (.one 3 false (.one 4 false (.one 5 false (.one 6 false (.one 8 false (.one 9 false (.one 10 false (.one 11 false (.one 12 false (.one 13 false (.one 14 false (.one 7 true (.one 15 true (.one 16 false (.one 17 false (.one 18 true (.one 19 false (.one 20 false .done)))))))))))))))))))))
          (fun W => Below C.heap.size C W) (by kernel_rfl) (by kernel_rfl) rfl (by kernel_rfl) (by kernel_rfl) ((Below.refl _ _).drew) (fun ops hops => ?_)
        simp only [GT.ins, List.getD_cons_zero, List.getD_cons_succ]
        have g17 : (ops[17]?).bind (·.dst) = some 46 := by rw [hops.out]; rfl
        have G17 := Lib.hid g17
        clear hops g17
        iterate 14
          refine growS_take (by rfl) ?_
          apply Exists.intro
          refine ⟨fun w' hE => ?_, ?_⟩
          · obtain ⟨a0, a1, a2⟩ := (HA.out.below hE).three; obtain ⟨y0, y1, y2, y3, y4, y5, y6, y7⟩ := (HE.out.below hE).eight
            go_simp
            try with_reducible rfl
          simp only [Act.put, List.setIfInBounds_toArray, List.set_cons_zero, List.set_cons_succ]
        refine growS_call (by rfl) (fun K hK => ?_)
        go_simp
        refine (HMA.out _ ((Below.refl _ _).drew : Below C.heap.size C C.drew)).mono ?_
        rintro e x1 ⟨rfl, hb⟩
        have hz : Below C.heap.size C x1 := ((Below.refl _ _).drew : Below C.heap.size C C.drew).trans (hb.mono ((Below.refl _ _).drew : Below C.heap.size C C.drew).size)
        have HZ1 := Lib.hid hz
        refine hK.out _ _ hz ?_
        clear hK K hb hz
        refine growS_call (by rfl) (fun K hK => ?_)
        go_simp
        refine (HRM.out _ HZ1.out).mono ?_
        rintro e x2 ⟨rfl, hb⟩
        have hz : Below C.heap.size C x2 := HZ1.out.trans (hb.mono HZ1.out.size)
        have HZ2 := Lib.hid hz
        refine hK.out _ _ hz ?_
        clear hK K hb hz HZ1
        iterate 2
          refine growS_take (by rfl) ?_
          apply Exists.intro
          refine ⟨fun w' hE => ?_, ?_⟩
          · obtain ⟨a0, a1, a2⟩ := (HA.out.below hE).three; obtain ⟨y0, y1, y2, y3, y4, y5, y6, y7⟩ := (HE.out.below hE).eight
            go_simp
            try with_reducible rfl
          simp only [Act.put, List.setIfInBounds_toArray, List.set_cons_zero, List.set_cons_succ]
        refine growS_call (wantedS G17.out rfl rfl) (fun K hK => ?_)
        go_simp
        refine (HWK.out _ HZ2.out).mono ?_
        rintro e x3 ⟨rfl, hb⟩
        have hz : Below C.heap.size C x3 := HZ2.out.trans (hb.mono HZ2.out.size)
        have HZ3 := Lib.hid hz
        refine hK.out _ _ hz ?_
        clear hK K hb hz HZ2
        iterate 2
          refine growS_take (by rfl) ?_
          apply Exists.intro
          refine ⟨fun w' hE => ?_, ?_⟩
          · obtain ⟨a0, a1, a2⟩ := (HA.out.below hE).three; obtain ⟨y0, y1, y2, y3, y4, y5, y6, y7⟩ := (HE.out.below hE).eight
            go_simp
            try with_reducible rfl
          simp only [Act.put, List.setIfInBounds_toArray, List.set_cons_zero, List.set_cons_succ]
        refine growS_done (NoPanic.normal ?_)
        try simp only [Exit.then]
        go_wp2_with fail
        go_ret
        exact ⟨rfl, HX.out.trans (HZ3.out.mono HX.out.size)⟩
end Go.Proofs.YtfobjaccpnondaaGreatDoor
