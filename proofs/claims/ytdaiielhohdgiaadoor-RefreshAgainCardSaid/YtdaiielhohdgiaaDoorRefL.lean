/- The statement RefreshAgain. -/
import Derived.Test.YtdaiielhohdgiaaDoorRefH
import Derived.Test.YtdaiielhohdgiaaDoorRefE
import Derived.Test.YtdaiielhohdgiaaDoorOpenR
import Derived.Test.YtdaiielhohdgiaaDoorExecM
import Derived.Test.YtdaiielhohdgiaaDoorKOpen
import Derived.Test.YtdaiielhohdgiaaDoorKFieldsG
namespace Go.Proofs.YtdaiielhohdgiaaDoor
open Go.RowKit Go.Shelf

theorem szQ {l : List Fld} (h : SzF l) : ∀ j (hj : j < l.length), l[j].1.length ≤ 9223372036854775807 ∧ l[j].2.length ≤ 9223372036854775807 := fun j hj => by
  have := h.1 j hj
  omega
def fiveS : List (List UInt8) := [[99, 111, 110, 116, 101, 110, 116, 45, 108, 101, 110, 103, 116, 104], [99, 111, 110, 116, 101, 110, 116, 45, 116, 121, 112, 101], [99, 111, 110, 116, 101, 110, 116, 45, 101, 110, 99, 111, 100, 105, 110, 103], [99, 111, 110, 116, 101, 110, 116, 45, 114, 97, 110, 103, 101], [118, 97, 114, 121]]
theorem litFiveS (w : World) : SL (w.alloc (.cells #[.string ⟨#[99, 111, 110, 116, 101, 110, 116, 45, 108, 101, 110, 103, 116, 104]⟩, .string ⟨#[99, 111, 110, 116, 101, 110, 116, 45, 116, 121, 112, 101]⟩, .string ⟨#[99, 111, 110, 116, 101, 110, 116, 45, 101, 110, 99, 111, 100, 105, 110, 103]⟩, .string ⟨#[99, 111, 110, 116, 101, 110, 116, 45, 114, 97, 110, 103, 101]⟩, .string ⟨#[118, 97, 114, 121]⟩] 9)) (.slice (some ⟨w.heap.size, 0, none⟩) 5 5) fiveS := SL_strs w fiveS
theorem fiveS_in : ∀ x ∈ fiveS, hasN fiveN x = true ∧ hasN adN x = false ∧ x.length ≤ 30 := by
  intro x hx
  simp only [fiveS, List.mem_cons, List.not_mem_nil, or_false] at hx
  rcases hx with rfl | rfl | rfl | rfl | rfl <;> decide
theorem ageN_eq (n : List UInt8) : hasN adN n = ((lower n == [97, 103, 101]) || (lower n == [100, 97, 116, 101])) := by
  have h1 : lower [97, 103, 101] = [97, 103, 101] := by decide
  have h2 : lower [100, 97, 116, 101] = [100, 97, 116, 101] := by decide
  unfold hasN adN
  simp only [List.any_cons, List.any_nil, Bool.or_false, sameN, h1, h2]
  rw [Bool.beq_comm, Bool.beq_comm (a := [100, 97, 116, 101])]

set_option maxRecDepth 100000 in
set_option maxHeartbeats 2000000 in
theorem refreshAgain_law (e : En) (vf vv : Value) (vr : Value) (rep : List Fld) (nm : ByteArray) (w : World) (h : InRe w e vf vv) (hr : FL w vr rep) (hz : SzF rep) (hnm : nm.size ≤ maxLen) (ht : TabsP w) :
    Calls Tryd.prog 3 #[entV e vf vv, vr, .string nm] w fun r w' => r = .returned (.bool true) ∧ Below w.heap.size w w' := by
  obtain ⟨n, rfl⟩ : ∃ n, nm = bs n := ⟨nm.data.toList, by rw [bs_self]⟩
  rw [bs_size] at hnm
  obtain ⟨Af, cf, rfl⟩ := h.fl.form
  obtain ⟨Av, cv, rfl⟩ := h.vl.form
  obtain ⟨Ar, cr, rfl⟩ := hr.form
  have HW := Lib.hid (fun W (hb : Below w.heap.size w W) => worksQ_any W (ht.below hb))
  have HF1 := Lib.hid (fun W (hb : Below w.heap.size w W) => fewQ_any _ e.fs W (h.fl.bel hb) (szQ h.fz) h.fz.2)
  have HF2 := Lib.hid (fun W (hb : Below w.heap.size w W) => fewQ_any _ e.vy W (h.vl.bel hb) (szQ h.vz) h.vz.2)
  have HF3 := Lib.hid (fun W (hb : Below w.heap.size w W) => fewQ_any _ rep W (hr.bel hb) (szQ hz) hz.2)
  have hal : Below w.heap.size w (w.alloc (.cells #[.int .i64 e.st, .string (bs e.re), .int .i64 e.mi, .slice Af e.fs.length cf, .string (bs e.bo), .int .i64 e.ak, .int .i64 e.gt, .slice Av e.vy.length cv] 26)) := (Below.refl _ _).alloc (Nat.le_refl _) _
  have HP := Lib.hid (bk.new w #[.int .i64 e.st, .string (bs e.re), .int .i64 e.mi, .slice Af e.fs.length cf, .string (bs e.bo), .int .i64 e.ak, .int .i64 e.gt, .slice Av e.vy.length cv] 26); have HB := Lib.hid hal
  have HH := Lib.hid h; have HT := Lib.hid ht; have HRr := Lib.hid hr
  have HNM : Hid (n.length ≤ 9223372036854775807) := by unfold maxLen at hnm; exact hnm
  clear hal h ht hr hz hnm
  unfold entV
  cases q1 : fewQ e.fs
  · rw [q1] at HF1
    clear q1
    go_enter Tryd.func3, Tryd.ntmps3
    have c3 := HP.out.cell 3 (.slice Af e.fs.length cf) rfl
    go_wp2_with fail
    clear c3
    generalize w.alloc (.cells #[.int .i64 e.st, .string (bs e.re), .int .i64 e.mi, .slice Af e.fs.length cf, .string (bs e.bo), .int .i64 e.ak, .int .i64 e.gt, .slice Av e.vy.length cv] 26) = W0 at *
    refine (HF1.out W0 HB.out).mono ?_
    rintro r w1 ⟨rfl, hb⟩
    have HB1 := Lib.hid (HB.out.trans (hb.mono HB.out.size)); have HP1 := Lib.hid (HP.out.below hb); clear hb HB HP
    go_wp2_with fail
    refine (HW.out _ HB1.out).mono ?_
    rintro r wz ⟨rfl, hb⟩
    have HBz := Lib.hid (HB1.out.trans (hb.mono HB1.out.size)); clear hb
    go_wp2_with fail
    go_ret
    exact ⟨rfl, HBz.out⟩
  cases q2 : fewQ e.vy
  · rw [q1] at HF1; rw [q2] at HF2
    clear q1 q2
    go_enter Tryd.func3, Tryd.ntmps3
    have c3 := HP.out.cell 3 (.slice Af e.fs.length cf) rfl
    go_wp2_with fail
    clear c3
    generalize w.alloc (.cells #[.int .i64 e.st, .string (bs e.re), .int .i64 e.mi, .slice Af e.fs.length cf, .string (bs e.bo), .int .i64 e.ak, .int .i64 e.gt, .slice Av e.vy.length cv] 26) = W0 at *
    refine (HF1.out W0 HB.out).mono ?_
    rintro r w1 ⟨rfl, hb⟩
    have HB1 := Lib.hid (HB.out.trans (hb.mono HB.out.size)); have HP1 := Lib.hid (HP.out.below hb); clear hb HB HP
    have c7 := HP1.out.cell 7 (.slice Av e.vy.length cv) rfl
    go_wp2_with fail
    clear c7
    refine (HF2.out _ HB1.out).mono ?_
    rintro r w2 ⟨rfl, hb⟩
    have HB2 := Lib.hid (HB1.out.trans (hb.mono HB1.out.size)); have HP2 := Lib.hid (HP1.out.below hb); clear hb HB1 HP1
    go_wp2_with fail
    refine (HW.out _ HB2.out).mono ?_
    rintro r wz ⟨rfl, hb⟩
    have HBz := Lib.hid (HB2.out.trans (hb.mono HB2.out.size)); clear hb
    go_wp2_with fail
    go_ret
    exact ⟨rfl, HBz.out⟩
  cases q3 : fewQ rep
  · rw [q1] at HF1; rw [q2] at HF2; rw [q3] at HF3
    clear q1 q2 q3
    go_enter Tryd.func3, Tryd.ntmps3
    have c3 := HP.out.cell 3 (.slice Af e.fs.length cf) rfl
    go_wp2_with fail
    clear c3
    generalize w.alloc (.cells #[.int .i64 e.st, .string (bs e.re), .int .i64 e.mi, .slice Af e.fs.length cf, .string (bs e.bo), .int .i64 e.ak, .int .i64 e.gt, .slice Av e.vy.length cv] 26) = W0 at *
    refine (HF1.out W0 HB.out).mono ?_
    rintro r w1 ⟨rfl, hb⟩
    have HB1 := Lib.hid (HB.out.trans (hb.mono HB.out.size)); have HP1 := Lib.hid (HP.out.below hb); clear hb HB HP
    have c7 := HP1.out.cell 7 (.slice Av e.vy.length cv) rfl
    go_wp2_with fail
    clear c7
    refine (HF2.out _ HB1.out).mono ?_
    rintro r w2 ⟨rfl, hb⟩
    have HB2 := Lib.hid (HB1.out.trans (hb.mono HB1.out.size)); have HP2 := Lib.hid (HP1.out.below hb); clear hb HB1 HP1
    go_wp2_with fail
    refine (HF3.out _ HB2.out).mono ?_
    rintro r w3 ⟨rfl, hb⟩
    have HB3 := Lib.hid (HB2.out.trans (hb.mono HB2.out.size)); have HP3 := Lib.hid (HP2.out.below hb); clear hb HB2 HP2
    go_wp2_with fail
    refine (HW.out _ HB3.out).mono ?_
    rintro r wz ⟨rfl, hb⟩
    have HBz := Lib.hid (HB3.out.trans (hb.mono HB3.out.size)); clear hb
    go_wp2_with fail
    go_ret
    exact ⟨rfl, HBz.out⟩
  have HQ1 := Lib.hid (fewQ_qh q1); have HQ2 := Lib.hid (fewQ_qh q2); have HQ3 := Lib.hid (fewQ_qh q3)
  rw [q1] at HF1; rw [q2] at HF2; rw [q3] at HF3
  clear q1 q2 q3
  by_cases hl6 : 600 < n.length
  · have hl7 : (600 : Int) < (n.length : Int) := by omega
    go_enter Tryd.func3, Tryd.ntmps3
    have c3 := HP.out.cell 3 (.slice Af e.fs.length cf) rfl
    go_wp2_with fail
    clear c3
    generalize w.alloc (.cells #[.int .i64 e.st, .string (bs e.re), .int .i64 e.mi, .slice Af e.fs.length cf, .string (bs e.bo), .int .i64 e.ak, .int .i64 e.gt, .slice Av e.vy.length cv] 26) = W0 at *
    refine (HF1.out W0 HB.out).mono ?_
    rintro r w1 ⟨rfl, hb⟩
    have HB1 := Lib.hid (HB.out.trans (hb.mono HB.out.size)); have HP1 := Lib.hid (HP.out.below hb); clear hb HB HP
    have c7 := HP1.out.cell 7 (.slice Av e.vy.length cv) rfl
    go_wp2_with fail
    clear c7
    refine (HF2.out _ HB1.out).mono ?_
    rintro r w2 ⟨rfl, hb⟩
    have HB2 := Lib.hid (HB1.out.trans (hb.mono HB1.out.size)); have HP2 := Lib.hid (HP1.out.below hb); clear hb HB1 HP1
    go_wp2_with fail
    refine (HF3.out _ HB2.out).mono ?_
    rintro r w3 ⟨rfl, hb⟩
    have HB3 := Lib.hid (HB2.out.trans (hb.mono HB2.out.size)); have HP3 := Lib.hid (HP2.out.below hb); clear hb HB2 HP2
    go_wp2_with fail
    refine (HW.out _ HB3.out).mono ?_
    rintro r wz ⟨rfl, hb⟩
    have HBz := Lib.hid (HB3.out.trans (hb.mono HB3.out.size)); clear hb
    go_wp2_with fail
    go_ret
    exact ⟨rfl, HBz.out⟩
  · have hl7 : ¬ (600 : Int) < (n.length : Int) := by omega
    go_enter Tryd.func3, Tryd.ntmps3
    have c3 := HP.out.cell 3 (.slice Af e.fs.length cf) rfl
    go_wp2_with fail
    clear c3
    generalize w.alloc (.cells #[.int .i64 e.st, .string (bs e.re), .int .i64 e.mi, .slice Af e.fs.length cf, .string (bs e.bo), .int .i64 e.ak, .int .i64 e.gt, .slice Av e.vy.length cv] 26) = W0 at *
    refine (HF1.out W0 HB.out).mono ?_
    rintro r w1 ⟨rfl, hb⟩
    have HB1 := Lib.hid (HB.out.trans (hb.mono HB.out.size)); have HP1 := Lib.hid (HP.out.below hb); clear hb HB HP
    have c7 := HP1.out.cell 7 (.slice Av e.vy.length cv) rfl
    go_wp2_with fail
    clear c7
    refine (HF2.out _ HB1.out).mono ?_
    rintro r w2 ⟨rfl, hb⟩
    have HB2 := Lib.hid (HB1.out.trans (hb.mono HB1.out.size)); have HP2 := Lib.hid (HP1.out.below hb); clear hb HB1 HP1
    go_wp2_with fail
    refine (HF3.out _ HB2.out).mono ?_
    rintro r w3 ⟨rfl, hb⟩
    have HB3 := Lib.hid (HB2.out.trans (hb.mono HB2.out.size)); have HP3 := Lib.hid (HP2.out.below hb); clear hb HB2 HP2
    clear HF1 HF2 HF3
    have hal : Below w3.heap.size w3 (w3.alloc (.cells #[.int .i64 304, .string ⟨#[]⟩, .int .i64 0, .slice Ar rep.length cr, .string ⟨#[120]⟩] 24)) := (Below.refl _ _).alloc (Nat.le_refl _) _
    have HP4 := Lib.hid (HP3.out.below hal); have HB4 := Lib.hid (HB3.out.trans (hal.mono HB3.out.size)); have HX4 := Lib.hid (bk.new w3 #[.int .i64 304, .string ⟨#[]⟩, .int .i64 0, .slice Ar rep.length cr, .string ⟨#[120]⟩] 24)
    clear hal HP3 HB3
    have HLD := Lib.hid (HP4.out.range0 (l := [.int .i64 e.st, .string (bs e.re), .int .i64 e.mi, .slice Af e.fs.length cf, .string (bs e.bo), .int .i64 e.ak, .int .i64 e.gt, .slice Av e.vy.length cv]))
    go_wp2_with (refine wpList_load_mid rfl 26 (.tmp 3) rfl w.heap.size 0 rfl [.int .i64 e.st, .string (bs e.re), .int .i64 e.mi, .slice Af e.fs.length cf, .string (bs e.bo), .int .i64 e.ak, .int .i64 e.gt, .slice Av e.vy.length cv] _ HLD.out Tryd.underlying26 rfl infoEn.out ?_; clear HLD)
    clear hl7
    generalize w3.alloc (.cells #[.int .i64 304, .string ⟨#[]⟩, .int .i64 0, .slice Ar rep.length cr, .string ⟨#[120]⟩] 24) = Y4 at *; generalize w3.heap.size = mq at *
    have HMN : Hid (madeL e.fs [] = delL e.fs adN) := made_nil e.fs
    refine (xwith_any (st := 304) (mi := 0) (re := ⟨#[]⟩) (bo := ⟨#[]⟩) e (.slice Af e.fs.length cf) (.slice Av e.vy.length cv) (.slice none 0 0) [] 1 2 Y4 (HH.out.fl.bel HB4.out) (HH.out.vl.bel HB4.out) (FL_nil _) HQ1.out.qf HQ2.out.qf ⟨by decide, by decide⟩ (by have := HH.out.re; omega) (by have := HH.out.bo; omega) (HT.out.2.below HB4.out)).mono ?_
    rintro r w5 ⟨vf5, vv5, rfl, hof, hov, hb⟩
    rw [HMN.out] at hof
    clear HMN
    obtain ⟨D0, hD⟩ : ∃ D, D = delL e.fs adN := ⟨_, rfl⟩
    have HED := Lib.hid hD
    rw [← hD] at hof
    have HDL : Hid (D0.length ≤ 160) := by rw [hD]; have h := del_le e.fs adN; have := HQ1.out.len; show _ ≤ _; omega
    clear hD
    obtain ⟨A5, k5, rfl⟩ := hof.form
    obtain ⟨A6, k6, rfl⟩ := hov.form
    have HB5 := Lib.hid (HB4.out.trans (hb.mono HB4.out.size)); have HP5 := Lib.hid (HP4.out.below hb); have HX5 := Lib.hid (HX4.out.below hb); have HFn5 := Lib.hid hof.fl; have HVn5 := Lib.hid hov.fl
    clear hof hov hb HB4 HP4 HX4
    simp only [entV, ent2]
    have hY : Below w5.heap.size w5 ((w5.alloc (.cells #[.int .i64 0, .string ⟨#[]⟩, .int .i64 0, .slice none 0 0, .string ⟨#[]⟩, .int .i64 0, .int .i64 0, .slice none 0 0] 26)).setCells w5.heap.size 0 [.int .i64 e.st, .string (bs e.re), .int .i64 e.mi, .slice A5 D0.length k5, .string (bs e.bo), .int .i64 1, .int .i64 2, .slice A6 e.vy.length k6]) := Below.cells ((Below.refl _ _).alloc (Nat.le_refl _) _) _ (Nat.le_refl _) _ 0
    have hn0 := bk.new w5 #[.int .i64 0, .string ⟨#[]⟩, .int .i64 0, .slice none 0 0, .string ⟨#[]⟩, .int .i64 0, .int .i64 0, .slice none 0 0] 26
    have HST : Hid (World.there (w5.alloc (.cells #[.int .i64 0, .string ⟨#[]⟩, .int .i64 0, .slice none 0 0, .string ⟨#[]⟩, .int .i64 0, .int .i64 0, .slice none 0 0] 26)) w5.heap.size 0 8) := hn0.there 0 8 (by decide)
    have HNn6 : Hid (bk ((w5.alloc (.cells #[.int .i64 0, .string ⟨#[]⟩, .int .i64 0, .slice none 0 0, .string ⟨#[]⟩, .int .i64 0, .int .i64 0, .slice none 0 0] 26)).setCells w5.heap.size 0 [.int .i64 e.st, .string (bs e.re), .int .i64 e.mi, .slice A5 D0.length k5, .string (bs e.bo), .int .i64 1, .int .i64 2, .slice A6 e.vy.length k6]) w5.heap.size #[.int .i64 e.st, .string (bs e.re), .int .i64 e.mi, .slice A5 D0.length k5, .string (bs e.bo), .int .i64 1, .int .i64 2, .slice A6 e.vy.length k6]) := hn0.setAll [.int .i64 e.st, .string (bs e.re), .int .i64 e.mi, .slice A5 D0.length k5, .string (bs e.bo), .int .i64 1, .int .i64 2, .slice A6 e.vy.length k6] rfl
    have HON : Hid ((#[.int .i64 e.st, .string (bs e.re), .int .i64 e.mi, .slice A5 D0.length k5, .string (bs e.bo), .int .i64 1, .int .i64 2, .slice A6 e.vy.length k6] : Array Value).all (·.oneCell') = true) := ent_one (ent2 e D0 1 2) (.slice A5 D0.length k5) (.slice A6 e.vy.length k6) HFn5.out HVn5.out
    have HB6 := Lib.hid (HB5.out.trans (hY.mono HB5.out.size))
    have HP6 := Lib.hid (HP5.out.below hY)
    have HX6 := Lib.hid (HX5.out.below hY)
    have HFn6 := Lib.hid (HFn5.out.bel hY)
    clear hY hn0 HB5 HP5 HX5 HFn5
    go_wp2_with (refine wpList_store_mid rfl 26 (.tmp 8) (.tmp 43) rfl _ 0 #[.int .i64 e.st, .string (bs e.re), .int .i64 e.mi, .slice A5 D0.length k5, .string (bs e.bo), .int .i64 1, .int .i64 2, .slice A6 e.vy.length k6] rfl rfl HST.out infoEn.out HON.out ?_; clear HST HON; generalize (w5.alloc (.cells #[.int .i64 0, .string ⟨#[]⟩, .int .i64 0, .slice none 0 0, .string ⟨#[]⟩, .int .i64 0, .int .i64 0, .slice none 0 0] 26)).setCells w5.heap.size 0 [.int .i64 e.st, .string (bs e.re), .int .i64 e.mi, .slice A5 D0.length k5, .string (bs e.bo), .int .i64 1, .int .i64 2, .slice A6 e.vy.length k6] = Y6 at *; generalize w5.heap.size = m1 at *)
    have HDC := Lib.hid (fun W (hb : Below w.heap.size w W) L (hL : SL W L adN) => del_any (.slice Af e.fs.length cf) L e.fs adN W (HH.out.fl.bel hb) hL HQ1.out.small (by have := HQ1.out.len; omega) (fun x hx => by have : x.length ≤ 4 := (by simp only [adN, List.mem_cons, List.not_mem_nil, or_false] at hx; rcases hx with rfl | rfl <;> decide); omega) (by decide))
    refine wp_region_growS (.one 0 false (.one 1 false (.one 2 false (.one 3 false (.one 4 false (.one 5 false (.one 6 true (.one 7 true (.one 8 true (.one 9 false .done))))))))))
      (fun W => Below Y6.heap.size Y6 W) (by kernel_rfl) (by kernel_rfl) rfl (by kernel_rfl) (by kernel_rfl) (Below.drew (Below.refl Y6.heap.size Y6)) (fun ops hops => ?_)
    simp only [GT.ins, List.getD_cons_zero, List.getD_cons_succ]
    have HZ0 : Hid (Below Y6.heap.size Y6 Y6.drew) := (Below.drew (Below.refl Y6.heap.size Y6))
    generalize hx0 : Y6.drew = x0 at *
    clear hx0
    clear hops
    iterate 6
      refine growS_take (by rfl) ?_
      apply Exists.intro
      refine ⟨fun w' hE => ?_, ?_⟩
      · have u1 := (HNn6.out.below hE).cell 3 (.slice A5 D0.length k5) rfl; have u2 := (HP6.out.below hE).cell 3 (.slice Af e.fs.length cf) rfl
        go_simp
        try with_reducible rfl
      simp only [Act.put, List.setIfInBounds_toArray, List.set_cons_zero, List.set_cons_succ]
    refine growS_call (by rfl) (fun K hK => ?_)
    go_simp
    have hal : Below x0.heap.size x0 (x0.alloc (.cells #[.string ⟨#[97, 103, 101]⟩, .string ⟨#[100, 97, 116, 101]⟩] 9)) := (Below.refl _ _).alloc (Nat.le_refl _) _
    have hl := litAd x0
    have HZ1 : Hid (Below Y6.heap.size Y6 (x0.alloc (.cells #[.string ⟨#[97, 103, 101]⟩, .string ⟨#[100, 97, 116, 101]⟩] 9))) := HZ0.out.trans (hal.mono HZ0.out.size)
    have HS1 := Lib.hid hl
    refine hK.out _ _ HZ1.out ?_
    clear hK K hal hl
    refine growS_call (by rfl) (fun K hK => ?_)
    go_simp
    generalize x0.alloc (.cells #[.string ⟨#[97, 103, 101]⟩, .string ⟨#[100, 97, 116, 101]⟩] 9) = x1 at *
    refine (HDC.out _ (HB6.out.trans (HZ1.out.mono HB6.out.size)) _ HS1.out).mono ?_
    rintro r x2 ⟨v2, rfl, ho2, hb⟩
    have HZ2 : Hid (Below Y6.heap.size Y6 x2) := HZ1.out.trans (hb.mono HZ1.out.size)
    rw [← HED.out] at ho2
    obtain ⟨Ad, kd, rfl⟩ := ho2.form
    have HD2 := Lib.hid ho2.fl; have HFn2 := Lib.hid (HFn6.out.bel HZ2.out); clear ho2
    refine hK.out _ _ HZ2.out ?_
    clear hK K hb
    refine growS_call (by rfl) (fun K hK => ?_)
    go_simp
    have hsf := sameF_any _ _ D0 D0 _ HFn2.out HD2.out (by have := HDL.out; omega)
    rw [beq_self_eq_true] at hsf
    refine (hsf).mono ?_
    rintro r x3 ⟨rfl, hb⟩
    have HZ3 : Hid (Below Y6.heap.size Y6 x3) := HZ2.out.trans (hb.mono HZ2.out.size)
    refine hK.out _ _ HZ3.out ?_
    clear hK K hb
    iterate 1
      refine growS_take (by rfl) ?_
      apply Exists.intro
      refine ⟨fun w' hE => ?_, ?_⟩
      · have u1 := (HNn6.out.below hE).cell 3 (.slice A5 D0.length k5) rfl; have u2 := (HP6.out.below hE).cell 3 (.slice Af e.fs.length cf) rfl
        go_simp
        try with_reducible rfl
      simp only [Act.put, List.setIfInBounds_toArray, List.set_cons_zero, List.set_cons_succ]
    refine growS_done (NoPanic.normal ?_)
    have hb := HZ3.out
    have HB7 := Lib.hid (HB6.out.trans (hb.mono HB6.out.size))
    have HP7 := Lib.hid (HP6.out.below hb)
    have HX7 := Lib.hid (HX6.out.below hb)
    clear hb HB6 HP6 HX6 HNn6 HFn6
    clear HZ0 HZ1 HZ2 HZ3 HS1 HD2 HFn2 HDC HED HDL HVn5
    have HLD := Lib.hid (HP7.out.range0 (l := [.int .i64 e.st, .string (bs e.re), .int .i64 e.mi, .slice Af e.fs.length cf, .string (bs e.bo), .int .i64 e.ak, .int .i64 e.gt, .slice Av e.vy.length cv])); have HLQ := Lib.hid (HX7.out.range0 (l := [.int .i64 304, .string ⟨#[]⟩, .int .i64 0, .slice Ar rep.length cr, .string ⟨#[120]⟩]))
    go_wp2_with (first | (refine wpList_load_mid rfl 26 (.tmp 3) rfl w.heap.size 0 rfl [.int .i64 e.st, .string (bs e.re), .int .i64 e.mi, .slice Af e.fs.length cf, .string (bs e.bo), .int .i64 e.ak, .int .i64 e.gt, .slice Av e.vy.length cv] _ HLD.out Tryd.underlying26 rfl infoEn.out ?_; clear HLD) | (refine wpList_load_mid rfl 24 (.tmp 7) rfl mq 0 rfl [.int .i64 304, .string ⟨#[]⟩, .int .i64 0, .slice Ar rep.length cr, .string ⟨#[120]⟩] _ HLQ.out Tryd.underlying24 rfl infoRy.out ?_; clear HLQ))
    refine (xwith_any (st := 304) (mi := 0) (re := ⟨#[]⟩) (bo := ⟨#[120]⟩) e (.slice Af e.fs.length cf) (.slice Av e.vy.length cv) (.slice Ar rep.length cr) rep 1 2 x3 (HH.out.fl.bel HB7.out) (HH.out.vl.bel HB7.out) (HRr.out.bel HB7.out) HQ1.out.qf HQ2.out.qf HQ3.out (by have := HH.out.re; omega) (by have := HH.out.bo; omega) (HT.out.2.below HB7.out)).mono ?_
    rintro r w8 ⟨vf8, vv8, rfl, hof, hov, hb⟩
    obtain ⟨M, hM⟩ : ∃ M, M = madeL e.fs rep := ⟨_, rfl⟩
    have HEM := Lib.hid hM
    have HMQ : Hid (QF M) := by rw [hM]; exact HQ1.out.made HQ3.out
    have HMM : Hid (madeL (ent2 e M 1 2).fs rep = M) := by have h := made_made e.fs rep; rw [← hM] at h; exact h
    rw [← hM] at hof
    clear hM
    obtain ⟨A8, k8, rfl⟩ := hof.form
    obtain ⟨A9, k9, rfl⟩ := hov.form
    have HB8 := Lib.hid (HB7.out.trans (hb.mono HB7.out.size))
    have HP8 := Lib.hid (HP7.out.below hb)
    have HX8 := Lib.hid (HX7.out.below hb)
    have HFa8 := Lib.hid hof.fl; have HVa8 := Lib.hid hov.fl
    clear hof hov
    clear hb HB7 HP7 HX7
    simp only [entV, ent2]
    have hY : Below w8.heap.size w8 ((w8.alloc (.cells #[.int .i64 0, .string ⟨#[]⟩, .int .i64 0, .slice none 0 0, .string ⟨#[]⟩, .int .i64 0, .int .i64 0, .slice none 0 0] 26)).setCells w8.heap.size 0 [.int .i64 e.st, .string (bs e.re), .int .i64 e.mi, .slice A8 M.length k8, .string (bs e.bo), .int .i64 1, .int .i64 2, .slice A9 e.vy.length k9]) := Below.cells ((Below.refl _ _).alloc (Nat.le_refl _) _) _ (Nat.le_refl _) _ 0
    have hn0 := bk.new w8 #[.int .i64 0, .string ⟨#[]⟩, .int .i64 0, .slice none 0 0, .string ⟨#[]⟩, .int .i64 0, .int .i64 0, .slice none 0 0] 26
    have HST : Hid (World.there (w8.alloc (.cells #[.int .i64 0, .string ⟨#[]⟩, .int .i64 0, .slice none 0 0, .string ⟨#[]⟩, .int .i64 0, .int .i64 0, .slice none 0 0] 26)) w8.heap.size 0 8) := hn0.there 0 8 (by decide)
    have HA9 : Hid (bk ((w8.alloc (.cells #[.int .i64 0, .string ⟨#[]⟩, .int .i64 0, .slice none 0 0, .string ⟨#[]⟩, .int .i64 0, .int .i64 0, .slice none 0 0] 26)).setCells w8.heap.size 0 [.int .i64 e.st, .string (bs e.re), .int .i64 e.mi, .slice A8 M.length k8, .string (bs e.bo), .int .i64 1, .int .i64 2, .slice A9 e.vy.length k9]) w8.heap.size #[.int .i64 e.st, .string (bs e.re), .int .i64 e.mi, .slice A8 M.length k8, .string (bs e.bo), .int .i64 1, .int .i64 2, .slice A9 e.vy.length k9]) := hn0.setAll [.int .i64 e.st, .string (bs e.re), .int .i64 e.mi, .slice A8 M.length k8, .string (bs e.bo), .int .i64 1, .int .i64 2, .slice A9 e.vy.length k9] rfl
    have HON : Hid ((#[.int .i64 e.st, .string (bs e.re), .int .i64 e.mi, .slice A8 M.length k8, .string (bs e.bo), .int .i64 1, .int .i64 2, .slice A9 e.vy.length k9] : Array Value).all (·.oneCell') = true) := ent_one (ent2 e M 1 2) (.slice A8 M.length k8) (.slice A9 e.vy.length k9) HFa8.out HVa8.out
    have HB9 := Lib.hid (HB8.out.trans (hY.mono HB8.out.size))
    have HP9 := Lib.hid (HP8.out.below hY)
    have HX9 := Lib.hid (HX8.out.below hY)
    have HFa9 := Lib.hid (HFa8.out.bel hY)
    have HVa9 := Lib.hid (HVa8.out.bel hY)
    clear hY hn0 HB8 HP8 HX8 HFa8 HVa8
    go_wp2_with (first | (refine wpList_store_mid rfl 26 (.tmp 9) (.tmp 56) rfl _ 0 #[.int .i64 e.st, .string (bs e.re), .int .i64 e.mi, .slice A8 M.length k8, .string (bs e.bo), .int .i64 1, .int .i64 2, .slice A9 e.vy.length k9] rfl rfl HST.out infoEn.out HON.out ?_; clear HST HON; generalize (w8.alloc (.cells #[.int .i64 0, .string ⟨#[]⟩, .int .i64 0, .slice none 0 0, .string ⟨#[]⟩, .int .i64 0, .int .i64 0, .slice none 0 0] 26)).setCells w8.heap.size 0 [.int .i64 e.st, .string (bs e.re), .int .i64 e.mi, .slice A8 M.length k8, .string (bs e.bo), .int .i64 1, .int .i64 2, .slice A9 e.vy.length k9] = Y9 at *; generalize w8.heap.size = m2 at *; have HLD := Lib.hid (HA9.out.range0 (l := [.int .i64 e.st, .string (bs e.re), .int .i64 e.mi, .slice A8 M.length k8, .string (bs e.bo), .int .i64 1, .int .i64 2, .slice A9 e.vy.length k9])); have HLQ := Lib.hid (HX9.out.range0 (l := [.int .i64 304, .string ⟨#[]⟩, .int .i64 0, .slice Ar rep.length cr, .string ⟨#[120]⟩]))) | (refine wpList_load_mid rfl 26 (.tmp 9) rfl m2 0 rfl [.int .i64 e.st, .string (bs e.re), .int .i64 e.mi, .slice A8 M.length k8, .string (bs e.bo), .int .i64 1, .int .i64 2, .slice A9 e.vy.length k9] _ HLD.out Tryd.underlying26 rfl infoEn.out ?_; clear HLD) | (refine wpList_load_mid rfl 24 (.tmp 7) rfl mq 0 rfl [.int .i64 304, .string ⟨#[]⟩, .int .i64 0, .slice Ar rep.length cr, .string ⟨#[120]⟩] _ HLQ.out Tryd.underlying24 rfl infoRy.out ?_; clear HLQ))
    refine (xwith_any (st := 304) (mi := 0) (re := ⟨#[]⟩) (bo := ⟨#[120]⟩) (ent2 e M 1 2) (.slice A8 M.length k8) (.slice A9 e.vy.length k9) (.slice Ar rep.length cr) rep 1 2 Y9 HFa9.out HVa9.out (HRr.out.bel HB9.out) HMQ.out HQ2.out.qf HQ3.out (by have h : e.re.length ≤ 140737488351232 := HH.out.re; show e.re.length ≤ _; omega) (by have h : e.bo.length ≤ 140737488351232 := HH.out.bo; show e.bo.length ≤ _; omega) (HT.out.2.below HB9.out)).mono ?_
    rintro r w10 ⟨vf10, vv10, rfl, hof, hov, hb⟩
    rw [HMM.out] at hof
    have hov : ownF w10 Y9.heap.size vv10 e.vy := hov
    obtain ⟨B1, l1, rfl⟩ := hof.form
    obtain ⟨B2, l2, rfl⟩ := hov.form
    have HB10 := Lib.hid (HB9.out.trans (hb.mono HB9.out.size))
    have HP10 := Lib.hid (HP9.out.below hb)
    have HA10 := Lib.hid (HA9.out.below hb)
    have HFa10 := Lib.hid (HFa9.out.bel hb)
    have HVa10 := Lib.hid (HVa9.out.bel hb)
    have HFb10 := Lib.hid hof.fl; have HVb10 := Lib.hid hov.fl
    clear hof hov HX9 HMM
    clear hb HB9 HP9 HA9 HFa9 HVa9
    simp only [entV, ent2]
    have hY : Below w10.heap.size w10 ((w10.alloc (.cells #[.int .i64 0, .string ⟨#[]⟩, .int .i64 0, .slice none 0 0, .string ⟨#[]⟩, .int .i64 0, .int .i64 0, .slice none 0 0] 26)).setCells w10.heap.size 0 [.int .i64 e.st, .string (bs e.re), .int .i64 e.mi, .slice B1 M.length l1, .string (bs e.bo), .int .i64 1, .int .i64 2, .slice B2 e.vy.length l2]) := Below.cells ((Below.refl _ _).alloc (Nat.le_refl _) _) _ (Nat.le_refl _) _ 0
    have hn0 := bk.new w10 #[.int .i64 0, .string ⟨#[]⟩, .int .i64 0, .slice none 0 0, .string ⟨#[]⟩, .int .i64 0, .int .i64 0, .slice none 0 0] 26
    have HST : Hid (World.there (w10.alloc (.cells #[.int .i64 0, .string ⟨#[]⟩, .int .i64 0, .slice none 0 0, .string ⟨#[]⟩, .int .i64 0, .int .i64 0, .slice none 0 0] 26)) w10.heap.size 0 8) := hn0.there 0 8 (by decide)
    have HBb11 : Hid (bk ((w10.alloc (.cells #[.int .i64 0, .string ⟨#[]⟩, .int .i64 0, .slice none 0 0, .string ⟨#[]⟩, .int .i64 0, .int .i64 0, .slice none 0 0] 26)).setCells w10.heap.size 0 [.int .i64 e.st, .string (bs e.re), .int .i64 e.mi, .slice B1 M.length l1, .string (bs e.bo), .int .i64 1, .int .i64 2, .slice B2 e.vy.length l2]) w10.heap.size #[.int .i64 e.st, .string (bs e.re), .int .i64 e.mi, .slice B1 M.length l1, .string (bs e.bo), .int .i64 1, .int .i64 2, .slice B2 e.vy.length l2]) := hn0.setAll [.int .i64 e.st, .string (bs e.re), .int .i64 e.mi, .slice B1 M.length l1, .string (bs e.bo), .int .i64 1, .int .i64 2, .slice B2 e.vy.length l2] rfl
    have HON : Hid ((#[.int .i64 e.st, .string (bs e.re), .int .i64 e.mi, .slice B1 M.length l1, .string (bs e.bo), .int .i64 1, .int .i64 2, .slice B2 e.vy.length l2] : Array Value).all (·.oneCell') = true) := ent_one (ent2 e M 1 2) (.slice B1 M.length l1) (.slice B2 e.vy.length l2) HFb10.out HVb10.out
    have HB11 := Lib.hid (HB10.out.trans (hY.mono HB10.out.size))
    have HP11 := Lib.hid (HP10.out.below hY)
    have HA11 := Lib.hid (HA10.out.below hY)
    have HFa11 := Lib.hid (HFa10.out.bel hY)
    have HVa11 := Lib.hid (HVa10.out.bel hY)
    have HFb11 := Lib.hid (HFb10.out.bel hY)
    have HVb11 := Lib.hid (HVb10.out.bel hY)
    clear hY hn0 HB10 HP10 HA10 HFa10 HVa10 HFb10 HVb10
    go_wp2_with (first | (refine wpList_store_mid rfl 26 (.tmp 10) (.tmp 59) rfl _ 0 #[.int .i64 e.st, .string (bs e.re), .int .i64 e.mi, .slice B1 M.length l1, .string (bs e.bo), .int .i64 1, .int .i64 2, .slice B2 e.vy.length l2] rfl rfl HST.out infoEn.out HON.out ?_; clear HST HON; generalize (w10.alloc (.cells #[.int .i64 0, .string ⟨#[]⟩, .int .i64 0, .slice none 0 0, .string ⟨#[]⟩, .int .i64 0, .int .i64 0, .slice none 0 0] 26)).setCells w10.heap.size 0 [.int .i64 e.st, .string (bs e.re), .int .i64 e.mi, .slice B1 M.length l1, .string (bs e.bo), .int .i64 1, .int .i64 2, .slice B2 e.vy.length l2] = Y11 at *; generalize w10.heap.size = m3 at *; have HLD := Lib.hid (HA11.out.range0 (l := [.int .i64 e.st, .string (bs e.re), .int .i64 e.mi, .slice A8 M.length k8, .string (bs e.bo), .int .i64 1, .int .i64 2, .slice A9 e.vy.length k9])); have HLB := Lib.hid (HBb11.out.range0 (l := [.int .i64 e.st, .string (bs e.re), .int .i64 e.mi, .slice B1 M.length l1, .string (bs e.bo), .int .i64 1, .int .i64 2, .slice B2 e.vy.length l2]))) | (refine wpList_load_mid rfl 26 (.tmp 9) rfl m2 0 rfl [.int .i64 e.st, .string (bs e.re), .int .i64 e.mi, .slice A8 M.length k8, .string (bs e.bo), .int .i64 1, .int .i64 2, .slice A9 e.vy.length k9] _ HLD.out Tryd.underlying26 rfl infoEn.out ?_; clear HLD) | (refine wpList_load_mid rfl 26 (.tmp 10) rfl m3 0 rfl [.int .i64 e.st, .string (bs e.re), .int .i64 e.mi, .slice B1 M.length l1, .string (bs e.bo), .int .i64 1, .int .i64 2, .slice B2 e.vy.length l2] _ HLB.out Tryd.underlying26 rfl infoEn.out ?_; clear HLB))
    refine (rsameQ_same (ent2 e M 1 2) (.slice A8 M.length k8) (.slice A9 e.vy.length k9) (.slice B1 M.length l1) (.slice B2 e.vy.length l2) Y11 HFa11.out HVa11.out HFb11.out HVb11.out (by have := HMQ.out.len; show M.length ≤ _; omega) (by have := HQ2.out.len; show e.vy.length ≤ _; omega)).mono ?_
    rintro r w12 ⟨rfl, hb⟩
    have HB12 := Lib.hid (HB11.out.trans (hb.mono HB11.out.size))
    have HP12 := Lib.hid (HP11.out.below hb)
    have HA12 := Lib.hid (HA11.out.below hb)
    have HFa12 := Lib.hid (HFa11.out.bel hb)
    have HVa12 := Lib.hid (HVa11.out.bel hb)
    clear HBb11 HFb11 HVb11
    clear hb HB11 HP11 HA11 HFa11 HVa11
    have a0 := HA12.out.cell 0 (.int .i64 e.st) rfl
    have p0 := HP12.out.cell 0 (.int .i64 e.st) rfl
    have a4 := HA12.out.cell 4 (.string (bs e.bo)) rfl
    have p4 := HP12.out.cell 4 (.string (bs e.bo)) rfl
    have a7 := HA12.out.cell 7 (.slice A9 e.vy.length k9) rfl
    have p7 := HP12.out.cell 7 (.slice Av e.vy.length cv) rfl
    go_wp2_with fail
    clear a0 a4 a7 p0 p4 p7
    have hsf := sameF_any _ _ e.vy e.vy w12 HVa12.out (HH.out.vl.bel HB12.out) (by have := HQ2.out.len; omega)
    rw [beq_self_eq_true] at hsf
    refine hsf.mono ?_
    rintro r w13 ⟨rfl, hb⟩
    have hal : Below w13.heap.size w13 (w13.alloc (.cells #[.string ⟨#[99, 111, 110, 116, 101, 110, 116, 45, 108, 101, 110, 103, 116, 104]⟩, .string ⟨#[99, 111, 110, 116, 101, 110, 116, 45, 116, 121, 112, 101]⟩, .string ⟨#[99, 111, 110, 116, 101, 110, 116, 45, 101, 110, 99, 111, 100, 105, 110, 103]⟩, .string ⟨#[99, 111, 110, 116, 101, 110, 116, 45, 114, 97, 110, 103, 101]⟩, .string ⟨#[118, 97, 114, 121]⟩] 9)) := (Below.refl _ _).alloc (Nat.le_refl _) _
    have hb := hb.trans (hal.mono hb.size)
    have HB13 := Lib.hid (HB12.out.trans (hb.mono HB12.out.size))
    have HP13 := Lib.hid (HP12.out.below hb)
    have HA13 := Lib.hid (HA12.out.below hb)
    have HFa13 := Lib.hid (HFa12.out.bel hb)
    have HS13 := Lib.hid (litFiveS w13)
    clear hal hsf HVa12
    clear hb HB12 HP12 HA12 HFa12
    go_wp2_with fail
    generalize w13.alloc (.cells #[.string ⟨#[99, 111, 110, 116, 101, 110, 116, 45, 108, 101, 110, 103, 116, 104]⟩, .string ⟨#[99, 111, 110, 116, 101, 110, 116, 45, 116, 121, 112, 101]⟩, .string ⟨#[99, 111, 110, 116, 101, 110, 116, 45, 101, 110, 99, 111, 100, 105, 110, 103]⟩, .string ⟨#[99, 111, 110, 116, 101, 110, 116, 45, 114, 97, 110, 103, 101]⟩, .string ⟨#[118, 97, 114, 121]⟩] 9) = X at *; generalize w13.heap.size = g5 at *
    go_loopw [12] (fun i wr => ∃ k : Nat, k ≤ 5 ∧ i = .int .i64 k ∧ Hid (Below X.heap.size X wr)) (fun i _ => 5 - (intOf i).toNat)
    case atStart => exact ⟨0, Nat.zero_le _, rfl, Below.refl _ _⟩
    case round =>
      obtain ⟨k, hk, rfl, HBr⟩ := hrel
      have HPr := Lib.hid (HP13.out.below HBr.out); have HAr := Lib.hid (HA13.out.below HBr.out); have HFr := Lib.hid (HFa13.out.bel HBr.out); have HSr := Lib.hid (HS13.out.bel HBr.out)
      have HBw : Hid (Below w.heap.size w wr) := HB13.out.trans (HBr.out.mono HB13.out.size)
      by_cases hlt : k < 5
      · have hki : (k : Int) < 5 := by omega
        have hk0 : (0 : Int) ≤ (k : Int) := by omega
        have hlf : k < fiveS.length := hlt
        obtain ⟨b9, off9, he9, hg9, hc9⟩ := HSr.out.get k hlf
        obtain ⟨rfl, rfl⟩ : g5 = b9 ∧ 0 = off9 := by simpa using he9
        rw [Nat.zero_add] at hc9
        have hx := fiveS_in fiveS[k] (List.getElem_mem hlf)
        generalize fiveS[k] = x at *
        have hve : valsL M x = valsL e.fs x := by rw [HEM.out]; exact made_five hx.1 hx.2.1
        have hva := fun W (hW : Below wr.heap.size wr W) => values_any (.slice A8 M.length k8) M x W (HFr.out.bel hW) HMQ.out.small (by have := HMQ.out.len; omega) (by have := hx.2.2; omega)
        have hvb := fun W (hW : Below wr.heap.size wr W) => values_any (.slice Af e.fs.length cf) e.fs x W (HH.out.fl.bel (HBw.out.trans (hW.mono HBw.out.size))) HQ1.out.small (by have := HQ1.out.len; omega) (by have := hx.2.2; omega)
        have hvl : (valsL e.fs x).length ≤ 4294967296 := by have h := vals_len e.fs x; have := HQ1.out.len; omega
        rw [hve] at hva
        generalize valsL e.fs x = V at *
        have HC9 := Lib.hid hc9; have HG9 := Lib.hid hg9; have HVA := Lib.hid hva; have HVB := Lib.hid hvb; have HVL := Lib.hid hvl
        clear hc9 hg9 he9 hx hve hva hvb hvl hlf
        go_wp2_with fail
        refine wp_region_growS (.one 0 false (.one 1 false (.one 2 false (.one 3 false (.one 4 false (.one 5 false (.one 6 false (.one 8 false (.one 9 false (.one 10 false (.one 11 false (.one 12 false (.one 13 false (.one 14 false (.one 7 true (.one 15 true (.one 16 true (.one 17 false .done))))))))))))))))))
          (fun W => Below wr.heap.size wr W) (by kernel_rfl) (by kernel_rfl) rfl (by kernel_rfl) (by kernel_rfl) (Below.drew (Below.refl wr.heap.size wr)) (fun ops hops => ?_)
        simp only [GT.ins, List.getD_cons_zero, List.getD_cons_succ]
        clear hops
        iterate 14
          refine growS_take (by rfl) ?_
          apply Exists.intro
          refine ⟨fun w' hE => ?_, ?_⟩
          · have z1 := (HAr.out.below hE).cell 3 (.slice A8 M.length k8) rfl; have z2 := (HPr.out.below hE).cell 3 (.slice Af e.fs.length cf) rfl; have z3 := (hE.cell (p := ⟨g5, k, none⟩) HG9.out).trans HC9.out
            go_simp
            try with_reducible rfl
          simp only [Act.put, List.setIfInBounds_toArray, List.set_cons_zero, List.set_cons_succ]
        refine growS_call (by rfl) (fun K hK => ?_)
        go_simp
        refine (HVA.out _ (Below.drew (Below.refl wr.heap.size wr))).mono ?_
        rintro r u1 ⟨v1, rfl, ho1, hb⟩
        have HU1 : Hid (Below wr.heap.size wr u1) := (Below.drew (Below.refl wr.heap.size wr)).trans (hb.mono (Below.drew (Below.refl wr.heap.size wr)).size)
        obtain ⟨V1, j1, rfl⟩ := ho1.form
        have HL1 := Lib.hid ho1.sl; clear ho1
        refine hK.out _ _ HU1.out ?_
        clear hK K hb
        refine growS_call (by rfl) (fun K hK => ?_)
        go_simp
        refine (HVB.out _ HU1.out).mono ?_
        rintro r u2 ⟨v2, rfl, ho2, hb⟩
        have HU2 : Hid (Below wr.heap.size wr u2) := HU1.out.trans (hb.mono HU1.out.size)
        obtain ⟨V2, j2, rfl⟩ := ho2.form
        have HL2 := Lib.hid ho2.sl; have HL1b := Lib.hid (HL1.out.bel hb); clear ho2 HL1
        refine hK.out _ _ HU2.out ?_
        clear hK K hb
        refine growS_call (by rfl) (fun K hK => ?_)
        go_simp
        have hst := sameT_any _ _ V V _ HL1b.out HL2.out HVL.out
        rw [beq_self_eq_true] at hst
        refine (hst).mono ?_
        rintro r u3 ⟨rfl, hb⟩
        have HU3 : Hid (Below wr.heap.size wr u3) := HU2.out.trans (hb.mono HU2.out.size)
        refine hK.out _ _ HU3.out ?_
        clear hK K hb
        iterate 1
          refine growS_take (by rfl) ?_
          apply Exists.intro
          refine ⟨fun w' hE => ?_, ?_⟩
          · have z1 := (HAr.out.below hE).cell 3 (.slice A8 M.length k8) rfl; have z2 := (HPr.out.below hE).cell 3 (.slice Af e.fs.length cf) rfl; have z3 := (hE.cell (p := ⟨g5, k, none⟩) HG9.out).trans HC9.out
            go_simp
            try with_reducible rfl
          simp only [Act.put, List.setIfInBounds_toArray, List.set_cons_zero, List.set_cons_succ]
        refine growS_done (NoPanic.normal ?_)
        go_wp2_with fail
        go_roundw
        case rel => exact ⟨k + 1, by omega, by go_num, HBr.out.trans (HU3.out.mono HBr.out.size)⟩
        case measure => simp [intOf]; omega
      · have hk5 : k = 5 := by omega
        subst hk5
        have a3 := HAr.out.cell 3 (.slice A8 M.length k8) rfl
        go_wp2_with fail
        clear a3 HP13 HA13 HFa13 HS13 HB13 HSr HBr
        generalize wr = X2 at *
        have HLOW := Lib.hid (lowR n (by omega))
        have hT := made_told e.fs rep n
        rw [← HEM.out, ageN_eq] at hT
        have htv := values_any (.slice A8 M.length k8) M n X2 HFr.out HMQ.out.small (by have := HMQ.out.len; omega) (by omega)
        have hbv := fun W (hW : Below X2.heap.size X2 W) => values_any (.slice Ar rep.length cr) rep n W (HRr.out.bel (HBw.out.trans (hW.mono HBw.out.size))) HQ3.out.small (by have := HQ3.out.len; omega) (by omega)
        have hkv := fun W (hW : Below X2.heap.size X2 W) => values_any (.slice Af e.fs.length cf) e.fs n W (HH.out.fl.bel (HBw.out.trans (hW.mono HBw.out.size))) HQ1.out.small (by have := HQ1.out.len; omega) (by omega)
        have hTL : (valsL M n).length ≤ 4294967296 := by have h := vals_len M n; have := HMQ.out.len; omega
        generalize valsL M n = T at *
        generalize valsL rep n = Bq at *
        generalize valsL e.fs n = Kp at *
        have hq1 : ((bs (lower n)).toList == [97, 103, 101]) = (lower n == [97, 103, 101]) := by rw [Lib.toList_data, bs_data]
        have hq2 : ((bs (lower n)).toList == [100, 97, 116, 101]) = (lower n == [100, 97, 116, 101]) := by rw [Lib.toList_data, bs_data]
        generalize (lower n == [97, 103, 101]) = dA at *
        generalize (lower n == [100, 97, 116, 101]) = dD at *
        generalize lower n = ln at *
        have HT0 := Lib.hid hT; have HTV := Lib.hid htv; have HBV := Lib.hid hbv; have HKV := Lib.hid hkv; have HTL := Lib.hid hTL; have HE1 := Lib.hid hq1; have HE2 := Lib.hid hq2
        clear hT htv hbv hkv hTL hq1 hq2 HEM
        refine HTV.out.mono ?_
        rintro r y1 ⟨v1, rfl, ho, hb⟩
        obtain ⟨V1, j1, rfl⟩ := ho.form
        have HY1 := Lib.hid hb; have HL1 := Lib.hid ho.sl; clear ho hb HTV
        go_wp2_with fail
        refine (HBV.out _ HY1.out).mono ?_
        rintro r y2 ⟨v2, rfl, ho, hb⟩
        obtain ⟨V2, j2, rfl⟩ := ho.form
        have HY2 : Hid (Below X2.heap.size X2 y2) := HY1.out.trans (hb.mono HY1.out.size); have HL2 := Lib.hid ho.sl; have HL1b := Lib.hid (HL1.out.bel hb); clear ho hb HBV HL1
        have p3 := (HPr.out.below HY2.out).cell 3 (.slice Af e.fs.length cf) rfl
        go_wp2_with fail
        clear p3
        refine (HKV.out _ HY2.out).mono ?_
        rintro r y3 ⟨v3, rfl, ho, hb⟩
        obtain ⟨V3, j3, rfl⟩ := ho.form
        have HY3 : Hid (Below X2.heap.size X2 y3) := HY2.out.trans (hb.mono HY2.out.size); have HL3 := Lib.hid ho.sl; have HL1c := Lib.hid (HL1b.out.bel hb); have HL2c := Lib.hid (HL2.out.bel hb); clear ho hb HKV HL1b HL2
        go_wp2_with fail
        refine (HLOW.out _).mono ?_
        rintro r y4 ⟨rfl, hb⟩
        have HY4 : Hid (Below X2.heap.size X2 y4) := HY3.out.trans (hb.mono HY3.out.size); have HL1 := Lib.hid (HL1c.out.bel hb); have HL2 := Lib.hid (HL2c.out.bel hb); have HL3d := Lib.hid (HL3.out.bel hb); clear hb HL1c HL2c HL3
        have hq1 := HE1.out
        cases dA
        · go_wp2_with fail
          clear hq1
          refine (HLOW.out _).mono ?_
          rintro r y5 ⟨rfl, hb⟩
          have HY5 : Hid (Below X2.heap.size X2 y5) := HY4.out.trans (hb.mono HY4.out.size); have HL1e := Lib.hid (HL1.out.bel hb); have HL2e := Lib.hid (HL2.out.bel hb); have HL3e := Lib.hid (HL3d.out.bel hb); clear hb HL1 HL2 HL3d
          have HL1 := HL1e; have HL2 := HL2e; have HL3d := HL3e; clear HL1e HL2e HL3e
          have hq2 := HE2.out
          cases dD
          · go_wp2_with fail
            clear hq2
            have hst := sameT_any _ _ T Bq _ HL1.out HL2.out HTL.out
            refine hst.mono ?_
            rintro r y6 ⟨rfl, hb⟩
            have HY6 : Hid (Below X2.heap.size X2 y6) := HY5.out.trans (hb.mono HY5.out.size); have HL1t := Lib.hid (HL1.out.bel hb); have HL3t := Lib.hid (HL3d.out.bel hb)
            clear hb hst HL1 HL2
            cases b1 : (T == Bq)
            · have HNB : Hid (T ≠ Bq) := by show _ ≠ _; intro h; rw [h, beq_self_eq_true] at b1; cases b1
              clear b1
              go_wp2_with fail
              have hst := sameT_any _ _ T Kp _ HL1t.out HL3t.out HTL.out
              refine hst.mono ?_
              rintro r y7 ⟨rfl, hb⟩
              have HY7 : Hid (Below X2.heap.size X2 y7) := HY6.out.trans (hb.mono HY6.out.size)
              clear hb hst HL1t HL3t
              cases b2 : (T == Kp)
              · have HNK : T ≠ Kp := by intro h; rw [h, beq_self_eq_true] at b2; cases b2
                rcases HT0.out with h | h | ⟨h, _⟩
                · exact absurd h HNB.out
                · exact absurd h HNK
                · cases h
              · clear b2
                go_wp2_with fail
                refine (HW.out _ (HBw.out.trans (HY7.out.mono HBw.out.size))).mono ?_
                rintro r y9 ⟨rfl, hb⟩
                have HY9 : Hid (Below X2.heap.size X2 y9) := HY7.out.trans (hb.mono HY7.out.size)
                clear hb
                go_wp2_with fail
                go_ret
                exact ⟨rfl, HBw.out.trans (HY9.out.mono HBw.out.size)⟩
            · clear b1
              go_wp2_with fail
              refine (HW.out _ (HBw.out.trans (HY6.out.mono HBw.out.size))).mono ?_
              rintro r y9 ⟨rfl, hb⟩
              have HY9 : Hid (Below X2.heap.size X2 y9) := HY6.out.trans (hb.mono HY6.out.size)
              clear hb
              go_wp2_with fail
              go_ret
              exact ⟨rfl, HBw.out.trans (HY9.out.mono HBw.out.size)⟩
          · go_wp2_with fail
            clear hq2
            have hst := sameT_any _ _ T Bq _ HL1.out HL2.out HTL.out
            refine hst.mono ?_
            rintro r y6 ⟨rfl, hb⟩
            have HY6 : Hid (Below X2.heap.size X2 y6) := HY5.out.trans (hb.mono HY5.out.size); have HL1t := Lib.hid (HL1.out.bel hb); have HL3t := Lib.hid (HL3d.out.bel hb)
            clear hb hst HL1 HL2
            cases b1 : (T == Bq)
            · have HNB : Hid (T ≠ Bq) := by show _ ≠ _; intro h; rw [h, beq_self_eq_true] at b1; cases b1
              clear b1
              go_wp2_with fail
              have hst := sameT_any _ _ T Kp _ HL1t.out HL3t.out HTL.out
              refine hst.mono ?_
              rintro r y7 ⟨rfl, hb⟩
              have HY7 : Hid (Below X2.heap.size X2 y7) := HY6.out.trans (hb.mono HY6.out.size)
              clear hb hst HL1t HL3t
              cases b2 : (T == Kp)
              · have HNK : T ≠ Kp := by intro h; rw [h, beq_self_eq_true] at b2; cases b2
                have hT0 : T.length = 0 := by rcases HT0.out with h | h | ⟨_, h⟩ <;> first | exact absurd h HNB.out | exact absurd h HNK | (rw [h]; rfl)
                clear b2 HNK
                go_wp2_with fail
                refine (HW.out _ (HBw.out.trans (HY7.out.mono HBw.out.size))).mono ?_
                rintro r y9 ⟨rfl, hb⟩
                have HY9 : Hid (Below X2.heap.size X2 y9) := HY7.out.trans (hb.mono HY7.out.size)
                clear hb
                go_wp2_with fail
                go_ret
                exact ⟨rfl, HBw.out.trans (HY9.out.mono HBw.out.size)⟩
              · clear b2
                go_wp2_with fail
                refine (HW.out _ (HBw.out.trans (HY7.out.mono HBw.out.size))).mono ?_
                rintro r y9 ⟨rfl, hb⟩
                have HY9 : Hid (Below X2.heap.size X2 y9) := HY7.out.trans (hb.mono HY7.out.size)
                clear hb
                go_wp2_with fail
                go_ret
                exact ⟨rfl, HBw.out.trans (HY9.out.mono HBw.out.size)⟩
            · clear b1
              go_wp2_with fail
              refine (HW.out _ (HBw.out.trans (HY6.out.mono HBw.out.size))).mono ?_
              rintro r y9 ⟨rfl, hb⟩
              have HY9 : Hid (Below X2.heap.size X2 y9) := HY6.out.trans (hb.mono HY6.out.size)
              clear hb
              go_wp2_with fail
              go_ret
              exact ⟨rfl, HBw.out.trans (HY9.out.mono HBw.out.size)⟩
        · go_wp2_with fail
          clear hq1
          have hst := sameT_any _ _ T Bq _ HL1.out HL2.out HTL.out
          refine hst.mono ?_
          rintro r y6 ⟨rfl, hb⟩
          have HY6 : Hid (Below X2.heap.size X2 y6) := HY4.out.trans (hb.mono HY4.out.size); have HL1t := Lib.hid (HL1.out.bel hb); have HL3t := Lib.hid (HL3d.out.bel hb)
          clear hb hst HL1 HL2
          cases b1 : (T == Bq)
          · have HNB : Hid (T ≠ Bq) := by show _ ≠ _; intro h; rw [h, beq_self_eq_true] at b1; cases b1
            clear b1
            go_wp2_with fail
            have hst := sameT_any _ _ T Kp _ HL1t.out HL3t.out HTL.out
            refine hst.mono ?_
            rintro r y7 ⟨rfl, hb⟩
            have HY7 : Hid (Below X2.heap.size X2 y7) := HY6.out.trans (hb.mono HY6.out.size)
            clear hb hst HL1t HL3t
            cases b2 : (T == Kp)
            · have HNK : T ≠ Kp := by intro h; rw [h, beq_self_eq_true] at b2; cases b2
              have hT0 : T.length = 0 := by rcases HT0.out with h | h | ⟨_, h⟩ <;> first | exact absurd h HNB.out | exact absurd h HNK | (rw [h]; rfl)
              clear b2 HNK
              go_wp2_with fail
              refine (HW.out _ (HBw.out.trans (HY7.out.mono HBw.out.size))).mono ?_
              rintro r y9 ⟨rfl, hb⟩
              have HY9 : Hid (Below X2.heap.size X2 y9) := HY7.out.trans (hb.mono HY7.out.size)
              clear hb
              go_wp2_with fail
              go_ret
              exact ⟨rfl, HBw.out.trans (HY9.out.mono HBw.out.size)⟩
            · clear b2
              go_wp2_with fail
              refine (HW.out _ (HBw.out.trans (HY7.out.mono HBw.out.size))).mono ?_
              rintro r y9 ⟨rfl, hb⟩
              have HY9 : Hid (Below X2.heap.size X2 y9) := HY7.out.trans (hb.mono HY7.out.size)
              clear hb
              go_wp2_with fail
              go_ret
              exact ⟨rfl, HBw.out.trans (HY9.out.mono HBw.out.size)⟩
          · clear b1
            go_wp2_with fail
            refine (HW.out _ (HBw.out.trans (HY6.out.mono HBw.out.size))).mono ?_
            rintro r y9 ⟨rfl, hb⟩
            have HY9 : Hid (Below X2.heap.size X2 y9) := HY6.out.trans (hb.mono HY6.out.size)
            clear hb
            go_wp2_with fail
            go_ret
            exact ⟨rfl, HBw.out.trans (HY9.out.mono HBw.out.size)⟩
end Go.Proofs.YtdaiielhohdgiaaDoor
