/- The statement RefreshMakes. -/
import Derived.Test.YtdaiielhohdgiaaGreatDoorRefI
import Derived.Test.YtdaiielhohdgiaaGreatDoorRefF
namespace Go.Proofs.YtdaiielhohdgiaaGreatDoor
open Go.RowKit Go.Shelf

set_option maxRecDepth 100000 in
set_option maxHeartbeats 2000000 in
theorem refreshMakes_law (e : En) (vf vv : Value) (vr : Value) (rep : List Fld) (t0 t1 : Int) (w : World) (h : InRe w e vf vv) (hr : FL w vr rep) (hz : SzF rep) (_w0 : (Lit.int .i64 t0).wf = true) (_w1 : (Lit.int .i64 t1).wf = true) (ht : TabsP w) :
    Calls Tryz.prog 4 #[entV e vf vv, vr, .agg #[.int .i64 t0, .int .i64 t1]] w fun r w' => r = .returned (.bool true) ∧ Below w.heap.size w w' := by
  obtain ⟨Af, cf, rfl⟩ := h.fl.form
  obtain ⟨Av, cv, rfl⟩ := h.vl.form
  obtain ⟨Ar, cr, rfl⟩ := hr.form
  have HW := Lib.hid (fun W (hb : Below w.heap.size w W) => worksQ_any W (ht.below hb))
  have HF1 := Lib.hid (fun W (hb : Below w.heap.size w W) => fewQ_any _ e.fs W (h.fl.bel hb) (szQ h.fz) h.fz.2)
  have HF2 := Lib.hid (fun W (hb : Below w.heap.size w W) => fewQ_any _ e.vy W (h.vl.bel hb) (szQ h.vz) h.vz.2)
  have HF3 := Lib.hid (fun W (hb : Below w.heap.size w W) => fewQ_any _ rep W (hr.bel hb) (szQ hz) hz.2)
  have hal : Below w.heap.size w ((w.alloc (.cells #[.int .i64 e.st, .string (bs e.re), .int .i64 e.mi, .slice Af e.fs.length cf, .string (bs e.bo), .int .i64 e.ak, .int .i64 e.gt, .slice Av e.vy.length cv] 26)).alloc (.cells #[.int .i64 t0, .int .i64 t1] 34)) := ((Below.refl _ _).alloc (Nat.le_refl _) _).alloc (by simp) _
  have hp : bk ((w.alloc (.cells #[.int .i64 e.st, .string (bs e.re), .int .i64 e.mi, .slice Af e.fs.length cf, .string (bs e.bo), .int .i64 e.ak, .int .i64 e.gt, .slice Av e.vy.length cv] 26)).alloc (.cells #[.int .i64 t0, .int .i64 t1] 34)) w.heap.size #[.int .i64 e.st, .string (bs e.re), .int .i64 e.mi, .slice Af e.fs.length cf, .string (bs e.bo), .int .i64 e.ak, .int .i64 e.gt, .slice Av e.vy.length cv] := (bk.new w _ _).alloc _
  have hg := bk.new (w.alloc (.cells #[.int .i64 e.st, .string (bs e.re), .int .i64 e.mi, .slice Af e.fs.length cf, .string (bs e.bo), .int .i64 e.ak, .int .i64 e.gt, .slice Av e.vy.length cv] 26)) #[.int .i64 t0, .int .i64 t1] 34
  rw [World.size_alloc] at hg
  have HP := Lib.hid hp; have HG := Lib.hid hg; have HB := Lib.hid hal
  have HH := Lib.hid h; have HT := Lib.hid ht; have HRr := Lib.hid hr
  clear hal hp hg h ht hr hz _w0 _w1
  unfold entV
  cases q1 : fewQ e.fs
  · rw [q1] at HF1
    clear q1
    go_enter Tryz.func4, Tryz.ntmps4
    have c3 := HP.out.cell 3 (.slice Af e.fs.length cf) rfl
    go_wp2_with fail
    clear c3
    generalize (w.alloc (.cells #[.int .i64 e.st, .string (bs e.re), .int .i64 e.mi, .slice Af e.fs.length cf, .string (bs e.bo), .int .i64 e.ak, .int .i64 e.gt, .slice Av e.vy.length cv] 26)).alloc (.cells #[.int .i64 t0, .int .i64 t1] 34) = W0 at *
    refine (HF1.out W0 HB.out).mono ?_
    rintro r w1 ⟨rfl, hb⟩
    have HB1 := Lib.hid (HB.out.trans (hb.mono HB.out.size)); have HP1 := Lib.hid (HP.out.below hb); have HG1 := Lib.hid (HG.out.below hb); clear hb HB HP HG
    go_wp2_with fail
    refine (HW.out _ HB1.out).mono ?_
    rintro r wz ⟨rfl, hb⟩
    have HBz := Lib.hid (HB1.out.trans (hb.mono HB1.out.size)); clear hb
    go_wp2_with fail
    go_ret
    exact ⟨rfl, HBz.out⟩
  cases q2 : fewQ e.vy
  · rw [q1] at HF1; rw [q2] at HF2
    clear q1 q2
    go_enter Tryz.func4, Tryz.ntmps4
    have c3 := HP.out.cell 3 (.slice Af e.fs.length cf) rfl
    go_wp2_with fail
    clear c3
    generalize (w.alloc (.cells #[.int .i64 e.st, .string (bs e.re), .int .i64 e.mi, .slice Af e.fs.length cf, .string (bs e.bo), .int .i64 e.ak, .int .i64 e.gt, .slice Av e.vy.length cv] 26)).alloc (.cells #[.int .i64 t0, .int .i64 t1] 34) = W0 at *
    refine (HF1.out W0 HB.out).mono ?_
    rintro r w1 ⟨rfl, hb⟩
    have HB1 := Lib.hid (HB.out.trans (hb.mono HB.out.size)); have HP1 := Lib.hid (HP.out.below hb); have HG1 := Lib.hid (HG.out.below hb); clear hb HB HP HG
    have c7 := HP1.out.cell 7 (.slice Av e.vy.length cv) rfl
    go_wp2_with fail
    clear c7
    refine (HF2.out _ HB1.out).mono ?_
    rintro r w2 ⟨rfl, hb⟩
    have HB2 := Lib.hid (HB1.out.trans (hb.mono HB1.out.size)); have HP2 := Lib.hid (HP1.out.below hb); have HG2 := Lib.hid (HG1.out.below hb); clear hb HB1 HP1 HG1
    go_wp2_with fail
    refine (HW.out _ HB2.out).mono ?_
    rintro r wz ⟨rfl, hb⟩
    have HBz := Lib.hid (HB2.out.trans (hb.mono HB2.out.size)); clear hb
    go_wp2_with fail
    go_ret
    exact ⟨rfl, HBz.out⟩
  cases q3 : fewQ rep
  · rw [q1] at HF1; rw [q2] at HF2; rw [q3] at HF3
    clear q1 q2 q3
    go_enter Tryz.func4, Tryz.ntmps4
    have c3 := HP.out.cell 3 (.slice Af e.fs.length cf) rfl
    go_wp2_with fail
    clear c3
    generalize (w.alloc (.cells #[.int .i64 e.st, .string (bs e.re), .int .i64 e.mi, .slice Af e.fs.length cf, .string (bs e.bo), .int .i64 e.ak, .int .i64 e.gt, .slice Av e.vy.length cv] 26)).alloc (.cells #[.int .i64 t0, .int .i64 t1] 34) = W0 at *
    refine (HF1.out W0 HB.out).mono ?_
    rintro r w1 ⟨rfl, hb⟩
    have HB1 := Lib.hid (HB.out.trans (hb.mono HB.out.size)); have HP1 := Lib.hid (HP.out.below hb); have HG1 := Lib.hid (HG.out.below hb); clear hb HB HP HG
    have c7 := HP1.out.cell 7 (.slice Av e.vy.length cv) rfl
    go_wp2_with fail
    clear c7
    refine (HF2.out _ HB1.out).mono ?_
    rintro r w2 ⟨rfl, hb⟩
    have HB2 := Lib.hid (HB1.out.trans (hb.mono HB1.out.size)); have HP2 := Lib.hid (HP1.out.below hb); have HG2 := Lib.hid (HG1.out.below hb); clear hb HB1 HP1 HG1
    go_wp2_with fail
    refine (HF3.out _ HB2.out).mono ?_
    rintro r w3 ⟨rfl, hb⟩
    have HB3 := Lib.hid (HB2.out.trans (hb.mono HB2.out.size)); have HP3 := Lib.hid (HP2.out.below hb); have HG3 := Lib.hid (HG2.out.below hb); clear hb HB2 HP2 HG2
    go_wp2_with fail
    refine (HW.out _ HB3.out).mono ?_
    rintro r wz ⟨rfl, hb⟩
    have HBz := Lib.hid (HB3.out.trans (hb.mono HB3.out.size)); clear hb
    go_wp2_with fail
    go_ret
    exact ⟨rfl, HBz.out⟩
  · have HQ1 := Lib.hid (fewQ_qh q1); have HQ2 := Lib.hid (fewQ_qh q2); have HQ3 := Lib.hid (fewQ_qh q3)
    rw [q1] at HF1; rw [q2] at HF2; rw [q3] at HF3
    clear q1 q2 q3
    go_enter Tryz.func4, Tryz.ntmps4
    have c3 := HP.out.cell 3 (.slice Af e.fs.length cf) rfl
    go_wp2_with fail
    clear c3
    generalize (w.alloc (.cells #[.int .i64 e.st, .string (bs e.re), .int .i64 e.mi, .slice Af e.fs.length cf, .string (bs e.bo), .int .i64 e.ak, .int .i64 e.gt, .slice Av e.vy.length cv] 26)).alloc (.cells #[.int .i64 t0, .int .i64 t1] 34) = W0 at *
    refine (HF1.out W0 HB.out).mono ?_
    rintro r w1 ⟨rfl, hb⟩
    have HB1 := Lib.hid (HB.out.trans (hb.mono HB.out.size)); have HP1 := Lib.hid (HP.out.below hb); have HG1 := Lib.hid (HG.out.below hb); clear hb HB HP HG
    have c7 := HP1.out.cell 7 (.slice Av e.vy.length cv) rfl
    go_wp2_with fail
    clear c7
    refine (HF2.out _ HB1.out).mono ?_
    rintro r w2 ⟨rfl, hb⟩
    have HB2 := Lib.hid (HB1.out.trans (hb.mono HB1.out.size)); have HP2 := Lib.hid (HP1.out.below hb); have HG2 := Lib.hid (HG1.out.below hb); clear hb HB1 HP1 HG1
    go_wp2_with fail
    refine (HF3.out _ HB2.out).mono ?_
    rintro r w3 ⟨rfl, hb⟩
    have HB3 := Lib.hid (HB2.out.trans (hb.mono HB2.out.size)); have HP3 := Lib.hid (HP2.out.below hb); have HG3 := Lib.hid (HG2.out.below hb); clear hb HB2 HP2 HG2
    clear HF1 HF2 HF3
    have HLD := Lib.hid (HP3.out.range0 (l := [.int .i64 e.st, .string (bs e.re), .int .i64 e.mi, .slice Af e.fs.length cf, .string (bs e.bo), .int .i64 e.ak, .int .i64 e.gt, .slice Av e.vy.length cv]))
    go_wp2_with (refine wpList_load_mid rfl 26 (.tmp 3) rfl _ 0 rfl [.int .i64 e.st, .string (bs e.re), .int .i64 e.mi, .slice Af e.fs.length cf, .string (bs e.bo), .int .i64 e.ak, .int .i64 e.gt, .slice Av e.vy.length cv] _ HLD.out Tryz.underlying26 rfl infoEn.out ?_; clear HLD)
    refine (rcopyQ_any e (.slice Af e.fs.length cf) (.slice Av e.vy.length cv) w3 (HH.out.fl.bel HB3.out) (HH.out.vl.bel HB3.out) (by have := HQ1.out.len; omega) (by have := HQ2.out.len; omega)).mono ?_
    rintro r w4 ⟨vf3, vv3, rfl, hof, hov, hb⟩
    obtain ⟨Ao, co, rfl⟩ := hof.form
    obtain ⟨Ap, cp, rfl⟩ := hov.form
    have HB4 := Lib.hid (HB3.out.trans (hb.mono HB3.out.size)); have HP4 := Lib.hid (HP3.out.below hb); have HG4 := Lib.hid (HG3.out.below hb)
    have HFo := Lib.hid hof.fl; have HVo := Lib.hid hov.fl
    clear hof hov hb HB3 HP3 HG3
    unfold entV
    have hY : Below w4.heap.size w4 ((w4.alloc (.cells #[.int .i64 0, .string ⟨#[]⟩, .int .i64 0, .slice none 0 0, .string ⟨#[]⟩, .int .i64 0, .int .i64 0, .slice none 0 0] 26)).setCells w4.heap.size 0 [.int .i64 e.st, .string (bs e.re), .int .i64 e.mi, .slice Ao e.fs.length co, .string (bs e.bo), .int .i64 e.ak, .int .i64 e.gt, .slice Ap e.vy.length cp]) := Below.cells ((Below.refl _ _).alloc (Nat.le_refl _) _) _ (Nat.le_refl _) _ 0
    have hn0 := bk.new w4 #[.int .i64 0, .string ⟨#[]⟩, .int .i64 0, .slice none 0 0, .string ⟨#[]⟩, .int .i64 0, .int .i64 0, .slice none 0 0] 26
    have HST : Hid (World.there (w4.alloc (.cells #[.int .i64 0, .string ⟨#[]⟩, .int .i64 0, .slice none 0 0, .string ⟨#[]⟩, .int .i64 0, .int .i64 0, .slice none 0 0] 26)) w4.heap.size 0 8) := hn0.there 0 8 (by decide)
    have HO5 : Hid (bk ((w4.alloc (.cells #[.int .i64 0, .string ⟨#[]⟩, .int .i64 0, .slice none 0 0, .string ⟨#[]⟩, .int .i64 0, .int .i64 0, .slice none 0 0] 26)).setCells w4.heap.size 0 [.int .i64 e.st, .string (bs e.re), .int .i64 e.mi, .slice Ao e.fs.length co, .string (bs e.bo), .int .i64 e.ak, .int .i64 e.gt, .slice Ap e.vy.length cp]) w4.heap.size #[.int .i64 e.st, .string (bs e.re), .int .i64 e.mi, .slice Ao e.fs.length co, .string (bs e.bo), .int .i64 e.ak, .int .i64 e.gt, .slice Ap e.vy.length cp]) := hn0.setAll [.int .i64 e.st, .string (bs e.re), .int .i64 e.mi, .slice Ao e.fs.length co, .string (bs e.bo), .int .i64 e.ak, .int .i64 e.gt, .slice Ap e.vy.length cp] rfl
    have HON : Hid ((#[.int .i64 e.st, .string (bs e.re), .int .i64 e.mi, .slice Ao e.fs.length co, .string (bs e.bo), .int .i64 e.ak, .int .i64 e.gt, .slice Ap e.vy.length cp] : Array Value).all (·.oneCell') = true) := ent_one e (.slice Ao e.fs.length co) (.slice Ap e.vy.length cp) HFo.out HVo.out
    have HB5 := Lib.hid (HB4.out.trans (hY.mono HB4.out.size)); have HP5 := Lib.hid (HP4.out.below hY); have HG5 := Lib.hid (HG4.out.below hY); have HFo5 := Lib.hid (HFo.out.bel hY); have HVo5 := Lib.hid (HVo.out.bel hY)
    clear hY hn0 HB4 HP4 HG4 HFo HVo
    have HRL : Hid (rep.length ≤ 4294967296) := by have := HQ3.out.len; show _ ≤ _; omega
    go_wp2_with (first | (refine wpList_store_mid rfl 26 (.tmp 7) (.tmp 30) rfl _ 0 #[.int .i64 e.st, .string (bs e.re), .int .i64 e.mi, .slice Ao e.fs.length co, .string (bs e.bo), .int .i64 e.ak, .int .i64 e.gt, .slice Ap e.vy.length cp] rfl rfl HST.out infoEn.out HON.out ?_; clear HST HON; generalize (w4.alloc (.cells #[.int .i64 0, .string ⟨#[]⟩, .int .i64 0, .slice none 0 0, .string ⟨#[]⟩, .int .i64 0, .int .i64 0, .slice none 0 0] 26)).setCells w4.heap.size 0 [.int .i64 e.st, .string (bs e.re), .int .i64 e.mi, .slice Ao e.fs.length co, .string (bs e.bo), .int .i64 e.ak, .int .i64 e.gt, .slice Ap e.vy.length cp] = Y at *; generalize w4.heap.size = m0 at *) | (at_builtin; (refine wpList_appFF (w0 := w) rfl (.tmp 31) (.tmp 32) rfl Y.heap.size w.heap.size _ _ [] rep rfl (ownF_nil _ _) HB5.out HB5.out.size (Nat.le_refl _) rfl (HRr.out.bel HB5.out) (by simpa using HRL.out) ?_; intro v6 y6 HN6 HB6 HK6 HS6; rw [List.nil_append] at HN6; obtain ⟨Aq, cq, rfl⟩ := HN6.out.form; have hb : Below Y.heap.size Y y6 := ⟨HB6.out.os.trans HB5.out.os.symm, HB6.out.tape.trans HB5.out.tape.symm, HB6.out.output.trans HB5.out.output.symm, HS6.out, HK6.out⟩; have hal7 : Below y6.heap.size y6 (y6.alloc (.cells #[.int .i64 304, .string ⟨#[]⟩, .int .i64 0, .slice Aq rep.length cq, .string ⟨#[]⟩] 24)) := (Below.refl _ _).alloc (Nat.le_refl _) _; have HP7 := Lib.hid ((HP5.out.below hb).below hal7); have HG7 := Lib.hid ((HG5.out.below hb).below hal7); have HO7 := Lib.hid ((HO5.out.below hb).below hal7); have HFo7 := Lib.hid ((HFo5.out.bel hb).bel hal7); have HVo7 := Lib.hid ((HVo5.out.bel hb).bel hal7); have HQr7 := Lib.hid (HN6.out.fl.bel hal7); have HB7 := Lib.hid (HB6.out.trans (hal7.mono HB6.out.size)); have HR7 := Lib.hid (bk.new y6 #[.int .i64 304, .string ⟨#[]⟩, .int .i64 0, .slice Aq rep.length cq, .string ⟨#[]⟩] 24); have HLDo := Lib.hid (HO7.out.range0 (l := [.int .i64 e.st, .string (bs e.re), .int .i64 e.mi, .slice Ao e.fs.length co, .string (bs e.bo), .int .i64 e.ak, .int .i64 e.gt, .slice Ap e.vy.length cp])); have HLDr := Lib.hid (HR7.out.range0 (l := [.int .i64 304, .string ⟨#[]⟩, .int .i64 0, .slice Aq rep.length cq, .string ⟨#[]⟩])); have t0c := HG7.out.cell 0 (.int .i64 t0) rfl; have t1c := HG7.out.cell 1 (.int .i64 t1) rfl; clear HB5 HP5 HG5 HO5 HFo5 HVo5 HN6 HB6 HK6 HS6 hb hal7 HRL)) | (refine wpList_load_mid rfl 26 (.tmp 7) rfl _ 0 rfl [.int .i64 e.st, .string (bs e.re), .int .i64 e.mi, .slice Ao e.fs.length co, .string (bs e.bo), .int .i64 e.ak, .int .i64 e.gt, .slice Ap e.vy.length cp] _ HLDo.out Tryz.underlying26 rfl infoEn.out ?_; clear HLDo) | (refine wpList_load_mid rfl 24 (.tmp 9) rfl _ 0 rfl [.int .i64 304, .string ⟨#[]⟩, .int .i64 0, .slice Aq rep.length cq, .string ⟨#[]⟩] _ HLDr.out Tryz.underlying24 rfl infoRy.out ?_; clear HLDr))
    generalize y6.alloc (.cells #[.int .i64 304, .string ⟨#[]⟩, .int .i64 0, .slice Aq rep.length cq, .string ⟨#[]⟩] 24) = Y7 at *
    clear t0c t1c
    refine (xwith_any (st := 304) (mi := 0) (re := ⟨#[]⟩) (bo := ⟨#[]⟩) e (.slice Ao e.fs.length co) (.slice Ap e.vy.length cp) (.slice Aq rep.length cq) rep t0 t1 Y7 HFo7.out HVo7.out HQr7.out HQ1.out.qf HQ2.out.qf HQ3.out (by have := HH.out.re; omega) (by have := HH.out.bo; omega) (HT.out.2.below HB7.out)).mono ?_
    rintro r w8 ⟨vf8, vv8, rfl, hof, hov, hb⟩
    obtain ⟨M, hM⟩ : ∃ M, M = madeL e.fs rep := ⟨_, rfl⟩
    have HEM := Lib.hid hM
    have HML : Hid (M.length ≤ 160) := by rw [hM]; exact (HQ1.out.made HQ3.out).len
    rw [← hM] at hof
    clear hM
    obtain ⟨A8, k8, rfl⟩ := hof.form
    obtain ⟨A9, k9, rfl⟩ := hov.form
    have HB8 := Lib.hid (HB7.out.trans (hb.mono HB7.out.size)); have HP8 := Lib.hid (HP7.out.below hb); have HG8 := Lib.hid (HG7.out.below hb); have HO8 := Lib.hid (HO7.out.below hb)
    have HFo8 := Lib.hid (HFo7.out.bel hb); have HVo8 := Lib.hid (HVo7.out.bel hb); have HQr8 := Lib.hid (HQr7.out.bel hb); have HFa8 := Lib.hid hof.fl; have HVa8 := Lib.hid hov.fl
    clear hof hov hb HB7 HP7 HG7 HO7 HFo7 HVo7 HQr7 HR7
    simp only [entV, ent2]
    have hY : Below w8.heap.size w8 ((w8.alloc (.cells #[.int .i64 0, .string ⟨#[]⟩, .int .i64 0, .slice none 0 0, .string ⟨#[]⟩, .int .i64 0, .int .i64 0, .slice none 0 0] 26)).setCells w8.heap.size 0 [.int .i64 e.st, .string (bs e.re), .int .i64 e.mi, .slice A8 M.length k8, .string (bs e.bo), .int .i64 t0, .int .i64 t1, .slice A9 e.vy.length k9]) := Below.cells ((Below.refl _ _).alloc (Nat.le_refl _) _) _ (Nat.le_refl _) _ 0
    have hn0 := bk.new w8 #[.int .i64 0, .string ⟨#[]⟩, .int .i64 0, .slice none 0 0, .string ⟨#[]⟩, .int .i64 0, .int .i64 0, .slice none 0 0] 26
    have HST : Hid (World.there (w8.alloc (.cells #[.int .i64 0, .string ⟨#[]⟩, .int .i64 0, .slice none 0 0, .string ⟨#[]⟩, .int .i64 0, .int .i64 0, .slice none 0 0] 26)) w8.heap.size 0 8) := hn0.there 0 8 (by decide)
    have HXa9 : Hid (bk ((w8.alloc (.cells #[.int .i64 0, .string ⟨#[]⟩, .int .i64 0, .slice none 0 0, .string ⟨#[]⟩, .int .i64 0, .int .i64 0, .slice none 0 0] 26)).setCells w8.heap.size 0 [.int .i64 e.st, .string (bs e.re), .int .i64 e.mi, .slice A8 M.length k8, .string (bs e.bo), .int .i64 t0, .int .i64 t1, .slice A9 e.vy.length k9]) w8.heap.size #[.int .i64 e.st, .string (bs e.re), .int .i64 e.mi, .slice A8 M.length k8, .string (bs e.bo), .int .i64 t0, .int .i64 t1, .slice A9 e.vy.length k9]) := hn0.setAll [.int .i64 e.st, .string (bs e.re), .int .i64 e.mi, .slice A8 M.length k8, .string (bs e.bo), .int .i64 t0, .int .i64 t1, .slice A9 e.vy.length k9] rfl
    have HON : Hid ((#[.int .i64 e.st, .string (bs e.re), .int .i64 e.mi, .slice A8 M.length k8, .string (bs e.bo), .int .i64 t0, .int .i64 t1, .slice A9 e.vy.length k9] : Array Value).all (·.oneCell') = true) := ent_one (ent2 e M t0 t1) (.slice A8 M.length k8) (.slice A9 e.vy.length k9) HFa8.out HVa8.out
    have HB9 := Lib.hid (HB8.out.trans (hY.mono HB8.out.size))
    have HP9 := Lib.hid (HP8.out.below hY)
    have HG9 := Lib.hid (HG8.out.below hY)
    have HO9 := Lib.hid (HO8.out.below hY)
    have HFo9 := Lib.hid (HFo8.out.bel hY)
    have HVo9 := Lib.hid (HVo8.out.bel hY)
    have HQr9 := Lib.hid (HQr8.out.bel hY)
    have HFa9 := Lib.hid (HFa8.out.bel hY)
    have HVa9 := Lib.hid (HVa8.out.bel hY)
    clear hY hn0 HB8 HP8 HG8 HO8 HFo8 HVo8 HQr8 HFa8 HVa8
    have t0c := HG9.out.cell 0 (.int .i64 t0) rfl
    have t1c := HG9.out.cell 1 (.int .i64 t1) rfl
    go_wp2_with (first | (refine wpList_store_mid rfl 26 (.tmp 10) (.tmp 42) rfl _ 0 #[.int .i64 e.st, .string (bs e.re), .int .i64 e.mi, .slice A8 M.length k8, .string (bs e.bo), .int .i64 t0, .int .i64 t1, .slice A9 e.vy.length k9] rfl rfl HST.out infoEn.out HON.out ?_; clear HST HON; generalize (w8.alloc (.cells #[.int .i64 0, .string ⟨#[]⟩, .int .i64 0, .slice none 0 0, .string ⟨#[]⟩, .int .i64 0, .int .i64 0, .slice none 0 0] 26)).setCells w8.heap.size 0 [.int .i64 e.st, .string (bs e.re), .int .i64 e.mi, .slice A8 M.length k8, .string (bs e.bo), .int .i64 t0, .int .i64 t1, .slice A9 e.vy.length k9] = Y9 at *; generalize w8.heap.size = m1 at *; have HLDe := Lib.hid (HP9.out.range0 (l := [.int .i64 e.st, .string (bs e.re), .int .i64 e.mi, .slice Af e.fs.length cf, .string (bs e.bo), .int .i64 e.ak, .int .i64 e.gt, .slice Av e.vy.length cv]))) | (refine wpList_load_mid rfl 26 (.tmp 3) rfl w.heap.size 0 rfl [.int .i64 e.st, .string (bs e.re), .int .i64 e.mi, .slice Af e.fs.length cf, .string (bs e.bo), .int .i64 e.ak, .int .i64 e.gt, .slice Av e.vy.length cv] _ HLDe.out Tryz.underlying26 rfl infoEn.out ?_; clear HLDe))
    clear t0c t1c
    refine (rwithQ_any (st := 0) (mi := 0) (re := ⟨#[]⟩) (bo := ⟨#[]⟩) e (.slice Af e.fs.length cf) (.slice Av e.vy.length cv) (.slice Ar rep.length cr) rep t0 t1 Y9 (HH.out.fl.bel HB9.out) (HH.out.vl.bel HB9.out) (HRr.out.bel HB9.out) HQ1.out.qf HQ3.out).mono ?_
    rintro r w10 ⟨vf10, rfl, hof, hb⟩
    rw [← HEM.out] at hof
    obtain ⟨B1, l1, rfl⟩ := hof.form
    have HB10 := Lib.hid (HB9.out.trans (hb.mono HB9.out.size))
    have HP10 := Lib.hid (HP9.out.below hb)
    have HG10 := Lib.hid (HG9.out.below hb)
    have HO10 := Lib.hid (HO9.out.below hb)
    have HFo10 := Lib.hid (HFo9.out.bel hb)
    have HVo10 := Lib.hid (HVo9.out.bel hb)
    have HQr10 := Lib.hid (HQr9.out.bel hb)
    have HFa10 := Lib.hid (HFa9.out.bel hb)
    have HVa10 := Lib.hid (HVa9.out.bel hb)
    have HXa10 := Lib.hid (HXa9.out.below hb)
    have HFb10 := Lib.hid hof.fl
    clear hof hb HB9 HP9 HG9 HO9 HFo9 HVo9 HQr9 HFa9 HVa9 HXa9
    simp only [entV, ent2]
    have hY : Below w10.heap.size w10 ((w10.alloc (.cells #[.int .i64 0, .string ⟨#[]⟩, .int .i64 0, .slice none 0 0, .string ⟨#[]⟩, .int .i64 0, .int .i64 0, .slice none 0 0] 26)).setCells w10.heap.size 0 [.int .i64 e.st, .string (bs e.re), .int .i64 e.mi, .slice B1 M.length l1, .string (bs e.bo), .int .i64 t0, .int .i64 t1, .slice Av e.vy.length cv]) := Below.cells ((Below.refl _ _).alloc (Nat.le_refl _) _) _ (Nat.le_refl _) _ 0
    have hn0 := bk.new w10 #[.int .i64 0, .string ⟨#[]⟩, .int .i64 0, .slice none 0 0, .string ⟨#[]⟩, .int .i64 0, .int .i64 0, .slice none 0 0] 26
    have HST : Hid (World.there (w10.alloc (.cells #[.int .i64 0, .string ⟨#[]⟩, .int .i64 0, .slice none 0 0, .string ⟨#[]⟩, .int .i64 0, .int .i64 0, .slice none 0 0] 26)) w10.heap.size 0 8) := hn0.there 0 8 (by decide)
    have HXb11 : Hid (bk ((w10.alloc (.cells #[.int .i64 0, .string ⟨#[]⟩, .int .i64 0, .slice none 0 0, .string ⟨#[]⟩, .int .i64 0, .int .i64 0, .slice none 0 0] 26)).setCells w10.heap.size 0 [.int .i64 e.st, .string (bs e.re), .int .i64 e.mi, .slice B1 M.length l1, .string (bs e.bo), .int .i64 t0, .int .i64 t1, .slice Av e.vy.length cv]) w10.heap.size #[.int .i64 e.st, .string (bs e.re), .int .i64 e.mi, .slice B1 M.length l1, .string (bs e.bo), .int .i64 t0, .int .i64 t1, .slice Av e.vy.length cv]) := hn0.setAll [.int .i64 e.st, .string (bs e.re), .int .i64 e.mi, .slice B1 M.length l1, .string (bs e.bo), .int .i64 t0, .int .i64 t1, .slice Av e.vy.length cv] rfl
    have HON : Hid ((#[.int .i64 e.st, .string (bs e.re), .int .i64 e.mi, .slice B1 M.length l1, .string (bs e.bo), .int .i64 t0, .int .i64 t1, .slice Av e.vy.length cv] : Array Value).all (·.oneCell') = true) := ent_one (ent2 e M t0 t1) (.slice B1 M.length l1) (.slice Av e.vy.length cv) HFb10.out HH.out.vl
    have HB11 := Lib.hid (HB10.out.trans (hY.mono HB10.out.size))
    have HP11 := Lib.hid (HP10.out.below hY)
    have HG11 := Lib.hid (HG10.out.below hY)
    have HO11 := Lib.hid (HO10.out.below hY)
    have HFo11 := Lib.hid (HFo10.out.bel hY)
    have HVo11 := Lib.hid (HVo10.out.bel hY)
    have HQr11 := Lib.hid (HQr10.out.bel hY)
    have HFa11 := Lib.hid (HFa10.out.bel hY)
    have HVa11 := Lib.hid (HVa10.out.bel hY)
    have HXa11 := Lib.hid (HXa10.out.below hY)
    have HFb11 := Lib.hid (HFb10.out.bel hY)
    clear hY hn0 HB10 HP10 HG10 HO10 HFo10 HVo10 HQr10 HFa10 HVa10 HXa10 HFb10
    go_wp2_with (first | (refine wpList_store_mid rfl 26 (.tmp 11) (.tmp 50) rfl _ 0 #[.int .i64 e.st, .string (bs e.re), .int .i64 e.mi, .slice B1 M.length l1, .string (bs e.bo), .int .i64 t0, .int .i64 t1, .slice Av e.vy.length cv] rfl rfl HST.out infoEn.out HON.out ?_; clear HST HON; generalize (w10.alloc (.cells #[.int .i64 0, .string ⟨#[]⟩, .int .i64 0, .slice none 0 0, .string ⟨#[]⟩, .int .i64 0, .int .i64 0, .slice none 0 0] 26)).setCells w10.heap.size 0 [.int .i64 e.st, .string (bs e.re), .int .i64 e.mi, .slice B1 M.length l1, .string (bs e.bo), .int .i64 t0, .int .i64 t1, .slice Av e.vy.length cv] = Y11 at *; generalize w10.heap.size = m2 at *; have HLDa := Lib.hid (HXa11.out.range0 (l := [.int .i64 e.st, .string (bs e.re), .int .i64 e.mi, .slice A8 M.length k8, .string (bs e.bo), .int .i64 t0, .int .i64 t1, .slice A9 e.vy.length k9])); have HLDb := Lib.hid (HXb11.out.range0 (l := [.int .i64 e.st, .string (bs e.re), .int .i64 e.mi, .slice B1 M.length l1, .string (bs e.bo), .int .i64 t0, .int .i64 t1, .slice Av e.vy.length cv]))) | (refine wpList_load_mid rfl 26 (.tmp 10) rfl m1 0 rfl [.int .i64 e.st, .string (bs e.re), .int .i64 e.mi, .slice A8 M.length k8, .string (bs e.bo), .int .i64 t0, .int .i64 t1, .slice A9 e.vy.length k9] _ HLDa.out Tryz.underlying26 rfl infoEn.out ?_; clear HLDa) | (refine wpList_load_mid rfl 26 (.tmp 11) rfl m2 0 rfl [.int .i64 e.st, .string (bs e.re), .int .i64 e.mi, .slice B1 M.length l1, .string (bs e.bo), .int .i64 t0, .int .i64 t1, .slice Av e.vy.length cv] _ HLDb.out Tryz.underlying26 rfl infoEn.out ?_; clear HLDb))
    refine (rsameQ_same (ent2 e M t0 t1) (.slice A8 M.length k8) (.slice A9 e.vy.length k9) (.slice B1 M.length l1) (.slice Av e.vy.length cv) Y11 HFa11.out HVa11.out HFb11.out (HH.out.vl.bel HB11.out) (by have := HML.out; show M.length ≤ _; omega) (by have := HQ2.out.len; show e.vy.length ≤ _; omega)).mono ?_
    rintro r w12 ⟨rfl, hb⟩
    have HB12 := Lib.hid (HB11.out.trans (hb.mono HB11.out.size)); have HO12 := Lib.hid (HO11.out.below hb); have HP12 := Lib.hid (HP11.out.below hb); have HFo12 := Lib.hid (HFo11.out.bel hb); have HVo12 := Lib.hid (HVo11.out.bel hb); have HQr12 := Lib.hid (HQr11.out.bel hb)
    clear hb HB11 HP11 HG11 HO11 HFo11 HVo11 HQr11 HFa11 HVa11 HXa11 HXb11 HFb11
    have c0 := HO12.out.cell 0 (.int .i64 e.st) rfl
    have c1 := HO12.out.cell 1 (.string (bs e.re)) rfl
    have c2 := HO12.out.cell 2 (.int .i64 e.mi) rfl
    have c3 := HO12.out.cell 3 (.slice Ao e.fs.length co) rfl
    have c4 := HO12.out.cell 4 (.string (bs e.bo)) rfl
    have c5 := HO12.out.cell 5 (.int .i64 e.ak) rfl
    have c6 := HO12.out.cell 6 (.int .i64 e.gt) rfl
    have c7 := HO12.out.cell 7 (.slice Ap e.vy.length cp) rfl
    have d0 := HP12.out.cell 0 (.int .i64 e.st) rfl
    have d1 := HP12.out.cell 1 (.string (bs e.re)) rfl
    have d2 := HP12.out.cell 2 (.int .i64 e.mi) rfl
    have d3 := HP12.out.cell 3 (.slice Af e.fs.length cf) rfl
    have d4 := HP12.out.cell 4 (.string (bs e.bo)) rfl
    have d5 := HP12.out.cell 5 (.int .i64 e.ak) rfl
    have d6 := HP12.out.cell 6 (.int .i64 e.gt) rfl
    have d7 := HP12.out.cell 7 (.slice Av e.vy.length cv) rfl
    go_wp2_with fail
    clear c0 d0 c1 d1 c2 d2 c3 d3 c4 d4 c5 d5 c6 d6 c7 d7
    refine (rsameQ_same e (.slice Ao e.fs.length co) (.slice Ap e.vy.length cp) (.slice Af e.fs.length cf) (.slice Av e.vy.length cv) w12 HFo12.out HVo12.out (HH.out.fl.bel HB12.out) (HH.out.vl.bel HB12.out) (by have := HQ1.out.len; omega) (by have := HQ2.out.len; omega)).mono ?_
    rintro r w13 ⟨rfl, hb⟩
    have HB13 := Lib.hid (HB12.out.trans (hb.mono HB12.out.size)); have HQr13 := Lib.hid (HQr12.out.bel hb)
    clear hb HB12 HO12 HP12 HFo12 HVo12 HQr12
    go_wp2_with fail
    have hsf := sameF_any _ _ rep rep w13 HQr13.out (HRr.out.bel HB13.out) (by have := HQ3.out.len; omega)
    rw [beq_self_eq_true] at hsf
    refine hsf.mono ?_
    rintro r w14 ⟨rfl, hb⟩
    have HB14 := Lib.hid (HB13.out.trans (hb.mono HB13.out.size)); clear hb hsf
    go_wp2_with fail
    refine (HW.out _ HB14.out).mono ?_
    rintro r w15 ⟨rfl, hb⟩
    have HB15 := Lib.hid (HB14.out.trans (hb.mono HB14.out.size)); clear hb
    go_wp2_with fail
    go_ret
    exact ⟨rfl, HB15.out⟩
end Go.Proofs.YtdaiielhohdgiaaGreatDoor
