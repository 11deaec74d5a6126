/- The document's Of; capabilities; the statements' own helpers: are values few, are directives short, what a value tells, some of the chapter's answers. -/
import Derived.Test.YtonioemenjjajaaSurG
import Derived.Test.YtonioemenjjajaaSurE
import Derived.Test.YtonioemenjjajaaGrow3
namespace Go.Proofs.Ytonioemenjjajaa
open Go.RowKit

/-! The document's Of. -/
theorem res6_new2 (w : World) : dbk (w.alloc (.cells #[.bool false, .bool false, .bool false, .bool false, .int .i64 0, .int .i64 0] 34)) w.heap.size (ctA ctl0) := dbk.new w _ _
set_option maxRecDepth 100000 in
set_option maxHeartbeats 4000000 in
theorem rsof_any (v : Value) (L : List (List UInt8)) (dev : List UInt8) (w : World) (hv : SL w v L) (hs : ∀ x ∈ L, x.length ≤ 3000) (hl : L.length ≤ 100000) :
    Calls Try.prog 17 #[v, .string (bs dev)] w fun e w' => e = .returned (.agg (ctA (ofC L dev))) ∧ Below w.heap.size w w' := by
  have hat : ∀ d ∈ listS L, DvN 3000 d := fun d hd => listS_at hs hd
  have hln := listS_len L
  have hoc : ofC L dev = ctlOf (mineS (listS L) dev) := rfl
  rw [hoc]
  have hLS := fun W (h : SL W v L) => rslist_any v L W h (fun x hx => by have := hs x hx; omega) (by omega)
  generalize listS L = l at *
  have hml := mineS_len l dev
  have hmm : ∀ d ∈ mineS l dev, d.2.1.length ≤ 3000 := fun d hd => (hat d (mineS_mem hd)).2.1
  have HMN := Lib.hid (fun (W : World) (v : Value) (h : DL W v l) => rmine_any v l dev W h (by omega))
  generalize mineS l dev = m at *
  have hf := fun n (W : World) (v : Value) (h : DL W v m) => rfirst_any v m n W h (by omega)
  have hfl := fun n => first_len (l := m) (n := n) hmm
  have hdef : ctlOf m = ((firstS m nosN).2, (firstS m remN).2, esiB (firstS m conN).1, (firstS m maxN).2, (agesP (firstS m maxN).1).1, (agesP (firstS m maxN).1).2) := rfl
  rw [hdef]
  have f1 : ∀ (W : World) (v : Value) (h : DL W v m), Calls Try.prog 28 #[v, .string ⟨#[110, 111, 45, 115, 116, 111, 114, 101]⟩] W fun e w' => e = .returned (.tuple #[.string (bs (firstS m nosN).1), .bool (firstS m nosN).2]) ∧ W = w' := hf nosN
  have f2 : ∀ (W : World) (v : Value) (h : DL W v m), Calls Try.prog 28 #[v, .string ⟨#[110, 111, 45, 115, 116, 111, 114, 101, 45, 114, 101, 109, 111, 116, 101]⟩] W fun e w' => e = .returned (.tuple #[.string (bs (firstS m remN).1), .bool (firstS m remN).2]) ∧ W = w' := hf remN
  have f3 : ∀ (W : World) (v : Value) (h : DL W v m), Calls Try.prog 28 #[v, .string ⟨#[99, 111, 110, 116, 101, 110, 116]⟩] W fun e w' => e = .returned (.tuple #[.string (bs (firstS m conN).1), .bool (firstS m conN).2]) ∧ W = w' := hf conN
  have f4 : ∀ (W : World) (v : Value) (h : DL W v m), Calls Try.prog 28 #[v, .string ⟨#[109, 97, 120, 45, 97, 103, 101]⟩] W fun e w' => e = .returned (.tuple #[.string (bs (firstS m maxN).1), .bool (firstS m maxN).2]) ∧ W = w' := hf maxN
  have l3 := hfl conN; have l4 := hfl maxN
  generalize firstS m nosN = r1 at *; generalize firstS m remN = r2 at *; generalize firstS m conN = r3 at *; generalize firstS m maxN = r4 at *
  obtain ⟨v1, b1⟩ := r1; obtain ⟨v2, b2⟩ := r2; obtain ⟨v3, b3⟩ := r3; obtain ⟨v4, b4⟩ := r4
  simp only at f1 f2 f3 f4 l3 l4 ⊢
  have hwd : ∀ W : World, Calls Try.prog 29 #[.string (bs v3), .string ⟨#[69, 83, 73, 47, 49, 46, 48]⟩] W fun e w' => e = .returned (.bool (esiB v3)) ∧ W = w' := fun W => by
    have h := rword_any (bs v3) (bs esiN) W (by rw [bs_size]; omega)
    rw [bs_data, bs_data] at h
    exact h
  have hag : ∀ W : World, Calls Try.prog 30 #[.string (bs v4)] W fun e w' => e = .returned (.tuple #[.int .i64 (agesP v4).1, .int .i64 (agesP v4).2]) ∧ W = w' := fun W => by
    have h := rages_any (bs v4) W (by rw [bs_size]; omega)
    rw [bs_data] at h
    exact h
  generalize esiB v3 = b3' at *
  generalize agesP v4 = ag at *
  obtain ⟨x, y⟩ := ag
  simp only at hag ⊢
  have F1 := Lib.hid f1; have F2 := Lib.hid f2; have F3 := Lib.hid f3; have F4 := Lib.hid f4; have HWD := Lib.hid hwd; have HAG := Lib.hid hag; have HLS := Lib.hid hLS
  have HV := Lib.hid hv
  clear hat hln hoc hLS hml hmm hv hs hl hf hfl hdef f1 f2 f3 f4 l3 l4 hwd hag
  have hal : Below w.heap.size w (w.alloc (.cells #[.bool false, .bool false, .bool false, .bool false, .int .i64 0, .int .i64 0] 34)) := (Below.refl _ _).alloc (Nat.le_refl _) _
  have HR := Lib.hid (res6_new2 w)
  have HAL := Lib.hid hal
  clear hal
  go_enter Try.func17, Try.ntmps17
  go_wp2_with fail
  refine (HLS.out _ (HV.out.bel HAL.out)).mono ?_
  rintro e w3 ⟨u, rfl, ho, hb3⟩
  have HO3 := Lib.hid ho.dl
  have HB3 := Lib.hid (HAL.out.trans (hb3.mono HAL.out.size)); have HR3 := Lib.hid (HR.out.below hb3)
  clear ho hb3 HAL HR HLS
  go_wp2_with fail
  refine (HMN.out _ _ HO3.out).mono ?_
  rintro e w4 ⟨u2, rfl, ho, hb4⟩
  have HO4 := Lib.hid ho.dl
  have HB4 := Lib.hid (HB3.out.trans (hb4.mono HB3.out.size)); have HR4 := Lib.hid (HR3.out.below hb4)
  clear ho hb4 HB3 HR3 HMN HO3
  have hx : Below w4.heap.size w4 (w4.alloc (.cells #[.bool false, .bool false, .bool false, .bool false, .int .i64 0, .int .i64 0] 34)) := (Below.refl _ _).alloc (Nat.le_refl _) _
  have HX := Lib.hid hx
  have HG := Lib.hid (res6_new2 w4)
  have HS := Lib.hid HB4.out.size
  clear hx
  go_wp2_with fail
  generalize w4.alloc (.cells #[.bool false, .bool false, .bool false, .bool false, .int .i64 0, .int .i64 0] 34) = X0 at *
  refine (F1.out _ _ (HO4.out.bel HX.out)).mono ?_
  rintro e X ⟨rfl, rfl⟩
  have c0 := HG.out.cell 0 _ rfl
  have f0 := HG.out.free 0
  have hg : dbk (X0.setCell ⟨w4.heap.size, 0, none⟩ (.bool b1)) w4.heap.size (ctA (b1, false, false, false, 0, 0)) := by simpa [ctA, ctl0] using HG.out.set 0 (.bool b1)
  have hx := HX.out.setCell (p := ⟨w4.heap.size, 0, none⟩) (Nat.le_refl _) (.bool b1)
  have HG1 := Lib.hid hg; have HX1 := Lib.hid hx; clear hg hx HG HX
  go_wp2_with fail
  clear c0 f0
  generalize X0.setCell ⟨w4.heap.size, 0, none⟩ (.bool b1) = X1 at *
  refine (F2.out _ _ (HO4.out.bel HX1.out)).mono ?_
  rintro e X ⟨rfl, rfl⟩
  have c0 := HG1.out.cell 1 _ rfl
  have f0 := HG1.out.free 1
  have hg : dbk (X1.setCell ⟨w4.heap.size, 1, none⟩ (.bool b2)) w4.heap.size (ctA (b1, b2, false, false, 0, 0)) := by simpa [ctA, ctl0] using HG1.out.set 1 (.bool b2)
  have hx := HX1.out.setCell (p := ⟨w4.heap.size, 1, none⟩) (Nat.le_refl _) (.bool b2)
  have HG2 := Lib.hid hg; have HX2 := Lib.hid hx; clear hg hx HG1 HX1
  go_wp2_with fail
  clear c0 f0
  generalize X1.setCell ⟨w4.heap.size, 1, none⟩ (.bool b2) = X2 at *
  refine (F3.out _ _ (HO4.out.bel HX2.out)).mono ?_
  rintro e X ⟨rfl, rfl⟩
  go_wp2_with fail
  refine (HWD.out _).mono ?_
  rintro e X ⟨rfl, rfl⟩
  have c0 := HG2.out.cell 2 _ rfl
  have f0 := HG2.out.free 2
  have hg : dbk (X2.setCell ⟨w4.heap.size, 2, none⟩ (.bool b3')) w4.heap.size (ctA (b1, b2, b3', false, 0, 0)) := by simpa [ctA, ctl0] using HG2.out.set 2 (.bool b3')
  have hx := HX2.out.setCell (p := ⟨w4.heap.size, 2, none⟩) (Nat.le_refl _) (.bool b3')
  have HG3 := Lib.hid hg; have HX3 := Lib.hid hx; clear hg hx HG2 HX2
  go_wp2_with fail
  clear c0 f0
  generalize X2.setCell ⟨w4.heap.size, 2, none⟩ (.bool b3') = X3 at *
  refine (F4.out _ _ (HO4.out.bel HX3.out)).mono ?_
  rintro e X ⟨rfl, rfl⟩
  have c0 := HG3.out.cell 3 _ rfl
  have f0 := HG3.out.free 3
  have hg : dbk (X3.setCell ⟨w4.heap.size, 3, none⟩ (.bool b4)) w4.heap.size (ctA (b1, b2, b3', b4, 0, 0)) := by simpa [ctA, ctl0] using HG3.out.set 3 (.bool b4)
  have hx := HX3.out.setCell (p := ⟨w4.heap.size, 3, none⟩) (Nat.le_refl _) (.bool b4)
  have HG4 := Lib.hid hg; have HX4 := Lib.hid hx; clear hg hx HG3 HX3
  go_wp2_with fail
  clear c0 f0
  generalize X3.setCell ⟨w4.heap.size, 3, none⟩ (.bool b4) = X4 at *
  refine (HAG.out _).mono ?_
  rintro e X ⟨rfl, rfl⟩
  have c0 := HG4.out.cell 4 _ rfl
  have f0 := HG4.out.free 4
  have c1 := (HG4.out.set 4 (.int .i64 x)).cell 5 _ rfl
  have f1 := (HG4.out.set 4 (.int .i64 x)).free 5
  have hg := (HG4.out.set 4 (.int .i64 x)).set 5 (.int .i64 y)
  have hgf : dbk ((X4.setCell ⟨w4.heap.size, 4, none⟩ (.int .i64 x)).setCell ⟨w4.heap.size, 5, none⟩ (.int .i64 y)) w4.heap.size (ctA (b1, b2, b3', b4, x, y)) := by simpa [ctA] using hg
  have hxf := (HX4.out.setCell (p := ⟨w4.heap.size, 4, none⟩) (Nat.le_refl _) (.int .i64 x)).setCell (p := ⟨w4.heap.size, 5, none⟩) (Nat.le_refl _) (.int .i64 y)
  obtain ⟨cc, hcc⟩ : ∃ cc : Ctl, cc = (b1, b2, b3', b4, x, y) := ⟨_, rfl⟩
  rw [← hcc] at hgf
  have HCC := Lib.hid hcc
  obtain ⟨k0, k1, k2, k3, k4, k5⟩ := hgf.six
  have HB := Lib.hid (HB4.out.trans (hxf.mono HB4.out.size))
  have HA := Lib.hid (HR4.out.below hxf)
  clear hg hgf hxf hcc HG4 HX4 HR4 HB4 HO4 F1 F2 F3 F4 HWD HAG HV
  obtain ⟨a0, d0, a1, d1, a2, d2, a3, d3, a4, d4, a5, d5⟩ := HA.out.asks6 (.bool cc.1) (.bool cc.2.1) (.bool cc.2.2.1) (.bool cc.2.2.2.1) (.int .i64 cc.2.2.2.2.1)
  obtain ⟨g0, g1, g2, g3, g4, g5⟩ := (HA.out.putc cc).six
  have hq := putC_below (b := w.heap.size) HB.out (Nat.le_refl _) cc
  simp only [putC, ctl0] at a0 a1 a2 a3 a4 a5 d0 d1 d2 d3 d4 d5 g0 g1 g2 g3 g4 g5 hq
  have HQ := Lib.hid hq; have HGG := Lib.hid (And.intro g0 (And.intro g1 (And.intro g2 (And.intro g3 (And.intro g4 g5))))); clear hq g0 g1 g2 g3 g4 g5
  go_wp2_with fail
  obtain ⟨g0, g1, g2, g3, g4, g5⟩ := HGG.out
  refine bodyPost_ret (v := .agg (ctA cc)) (by simp [results, Try.results17, go_sem, ctA, g0, g1, g2, g3, g4, g5]) rfl ?_
  exact ⟨by rw [HCC.out], HQ.out⟩

/-! Capabilities. -/
def capT : List UInt8 := [61, 34, 83, 117, 114, 114, 111, 103, 97, 116, 101, 47, 49, 46, 48, 32, 69, 83, 73, 47, 49, 46, 48, 34]
def capL (dev : List UInt8) : List UInt8 := if token dev then dev ++ capT else []
theorem cap_any (dev : List UInt8) (w : World) (hd : dev.length ≤ 4294967200) :
    Calls Try.prog 18 #[.string (bs dev)] w fun e w' => e = .returned (.string (bs (capL dev))) ∧ w = w' := by
  have HT := Lib.hid (token_any (bs dev) w (by rw [bs_size]; unfold maxLen; omega))
  rw [bs_data] at HT
  have hcap : capL dev = if token dev then dev ++ capT else [] := rfl
  cases ht : token dev
  · rw [ht] at hcap HT
    have HC : Hid (capL dev = []) := hcap
    clear hcap ht
    go_enter Try.func18, Try.ntmps18
    go_wp2_with fail
    refine HT.out.mono ?_
    rintro e w1 ⟨rfl, rfl⟩
    go_wp2_with fail
    go_ret
    exact ⟨by rw [HC.out]; rfl, rfl⟩
  · rw [ht] at hcap HT
    have HC : Hid (capL dev = dev ++ capT) := hcap
    clear hcap ht
    have n1 : ¬ 9223372036854775807 < dev.length + 2 := by omega
    have n2 : ¬ 9223372036854775807 < dev.length + 2 + 21 := by omega
    have n3 : ¬ 9223372036854775807 < dev.length + 2 + 21 + 1 := by omega
    go_enter Try.func18, Try.ntmps18
    go_wp2_with fail
    refine HT.out.mono ?_
    rintro e w1 ⟨rfl, rfl⟩
    go_wp2_with fail
    go_ret
    refine ⟨ret_str ?_, rfl⟩
    rw [HC.out]
    exact bs_of (by simp only [cat_data, bs_data]; simp [capT])
theorem rcap_any (dev : List UInt8) (w : World) (hd : dev.length ≤ 4294967200) :
    Calls Try.prog 19 #[.string (bs dev)] w fun e w' => e = .returned (.string (bs (capL dev))) ∧ w = w' := by
  have HT := Lib.hid (rtoken_any (bs dev) w (by rw [bs_size]; unfold maxLen; omega))
  rw [bs_data] at HT
  have hcap : capL dev = if token dev then dev ++ capT else [] := rfl
  cases ht : token dev
  · rw [ht] at hcap HT
    have HC : Hid (capL dev = []) := hcap
    clear hcap ht
    go_enter Try.func19, Try.ntmps19
    go_wp2_with fail
    refine HT.out.mono ?_
    rintro e w1 ⟨rfl, rfl⟩
    go_wp2_with fail
    go_ret
    exact ⟨by rw [HC.out]; rfl, rfl⟩
  · rw [ht] at hcap HT
    have HC : Hid (capL dev = dev ++ capT) := hcap
    clear hcap ht
    have n1 : ¬ 9223372036854775807 < dev.length + 24 := by omega
    go_enter Try.func19, Try.ntmps19
    go_wp2_with fail
    refine HT.out.mono ?_
    rintro e w1 ⟨rfl, rfl⟩
    go_wp2_with fail
    go_ret
    refine ⟨ret_str ?_, rfl⟩
    rw [HC.out]
    exact bs_of (by simp only [cat_data, bs_data]; simp [capT])

/-! few. -/
def fewV (L : List (List UInt8)) : Bool := (L.take 20).all (fun x => decide (x.length ≤ 3000)) && decide (L.length ≤ 12)
theorem fewV_small {L : List (List UInt8)} (h : fewV L = true) : L.length ≤ 12 ∧ ∀ x ∈ L, x.length ≤ 3000 := by
  unfold fewV at h
  simp only [Bool.and_eq_true, decide_eq_true_eq, List.all_eq_true] at h
  refine ⟨h.2, fun x hx => h.1 x ?_⟩
  rw [List.take_of_length_le (by omega)]
  exact hx
set_option maxHeartbeats 1000000 in
theorem fewV_any (v : Value) (L : List (List UInt8)) (w : World) (hv : SL w v L) (hs : ∀ j (hj : j < L.length), L[j].length ≤ 9223372036854775807) (hl : L.length ≤ 9223372036854775807) :
    Calls Try.prog 8 #[v] w fun e w' => e = .returned (.bool (fewV L)) ∧ w = w' := by
  obtain ⟨A, c, rfl⟩ := hv.form
  have HV := Lib.hid hv; clear hv
  go_enter Try.func8, Try.ntmps8
  go_wp2_with fail
  go_loop [3] (fun i => ∃ k : Nat, k ≤ L.length ∧ k ≤ 20 ∧ i = .int .i64 k ∧ (L.take k).all (fun x => decide (x.length ≤ 3000)) = true) (fun i => L.length - (intOf i).toNat)
  case atStart => exact ⟨0, Nat.zero_le _, Nat.zero_le _, rfl, rfl⟩
  case round =>
    obtain ⟨k, hk, hk3, rfl, ha⟩ := hrel
    have HA := Lib.hid ha; clear ha
    by_cases hlt : k < L.length
    · by_cases h12 : k < 20
      · obtain ⟨b, off, rfl, hbl, hcell⟩ := HV.out.get k hlt
        have hsz := hs k hlt
        have hst : L.take (k + 1) = L.take k ++ [L[k]] := List.take_succ_eq_append_getElem hlt
        have hin : L[k] ∈ L.take 20 := by
          rw [List.mem_take_iff_getElem]
          exact ⟨k, by omega, rfl⟩
        by_cases hbig : 3000 < L[k].length
        · have hno : fewV L = false := by
            unfold fewV
            rw [Bool.and_eq_false_iff]
            left
            rw [List.all_eq_false]
            exact ⟨L[k], hin, by simp; omega⟩
          have HNO := Lib.hid hno
          have hd : (3000 : Int) < (L[k].length : Int) := by omega
          clear hno hst hin hbig
          generalize L[k] = x at *
          go_wp2_with fail
          go_ret
          exact ⟨ret_bool HNO.out.symm, rfl⟩
        · have HS2 : Hid ((L.take (k + 1)).all (fun x => decide (x.length ≤ 3000)) = true) := by
            show _ = _
            rw [hst, List.all_append, HA.out]
            simp; omega
          have hd : ¬ (3000 : Int) < (L[k].length : Int) := by omega
          clear hst hin hbig
          generalize L[k] = x at *
          go_wp2_with fail
          go_round
          case rel => exact ⟨k + 1, by omega, by omega, by go_num, HS2.out⟩
          case measure => simp [intOf]; omega
      · have hE : fewV L = false := by
          unfold fewV
          rw [Bool.and_eq_false_iff]
          right
          exact decide_eq_false (by omega)
        have HE := Lib.hid hE; clear hE
        have hd : ¬ (k : Int) < 20 := by omega
        have hbig : ¬ (L.length : Int) ≤ 12 := by omega
        go_wp2_with fail
        go_ret
        exact ⟨ret_bool HE.out.symm, rfl⟩
    · have hE : fewV L = decide ((L.length : Int) ≤ 12) := by
        unfold fewV
        have h := HA.out
        rw [List.take_of_length_le (by omega)] at h
        rw [List.take_of_length_le (by omega), h, Bool.true_and]
        congr 1
        simp; omega
      have HE := Lib.hid hE; clear hE
      by_cases h12 : (L.length : Int) ≤ 12
      · go_wp2_with fail
        go_ret
        exact ⟨ret_bool (by rw [HE.out]; simp [h12]), rfl⟩
      · go_wp2_with fail
        go_ret
        exact ⟨ret_bool (by rw [HE.out]; simp [h12]), rfl⟩


/-! What a value tells. -/
theorem run_eqlC (x y : Ctl) (w : World) : (binOp .eql 32 (.agg #[.bool x.1, .bool x.2.1, .bool x.2.2.1, .bool x.2.2.2.1, .int .i64 x.2.2.2.2.1, .int .i64 x.2.2.2.2.2]) (.agg #[.bool y.1, .bool y.2.1, .bool y.2.2.1, .bool y.2.2.2.1, .int .i64 y.2.2.2.2.1, .int .i64 y.2.2.2.2.2])).run Try.prog w = .ok (.bool (x == y)) w := by
  have e : (x == y) = ((x.1 == y.1) && ((x.2.1 == y.2.1) && ((x.2.2.1 == y.2.2.1) && ((x.2.2.2.1 == y.2.2.2.1) && ((x.2.2.2.2.1 == y.2.2.2.2.1) && (x.2.2.2.2.2 == y.2.2.2.2.2)))))) := rfl
  have u3 := Try.underlying3
  have a3 := Try.isAgg3
  have z3 := Try.sizeOf3
  have u4 := Try.underlying4
  have a4 := Try.isAgg4
  have z4 := Try.sizeOf4
  have hS : Try.prog.underlying 32 = some (.struct (Try.prog.fieldsOf 32)) := by kernel_rfl
  have hp : Try.prog.stoodInHeld 32 = false := by kernel_rfl
  rw [e, run_eql_struct, show (10000 : Nat) = 9999 + 1 from rfl, run_equalIn_agg w 9999 32 _ _ hS hp]
  simp only [Program.fieldsOf, Try.underlying32]
  go_simp
  by_cases h1 : x.1 = y.1 <;> by_cases h2 : x.2.1 = y.2.1 <;> by_cases h3 : x.2.2.1 = y.2.2.1 <;> by_cases h4 : x.2.2.2.1 = y.2.2.2.1 <;> by_cases h5 : x.2.2.2.2.1 = y.2.2.2.2.1 <;> by_cases h6 : x.2.2.2.2.2 = y.2.2.2.2.2 <;> simp [h1, h2, h3, h4, h5, h6]
set_option maxRecDepth 100000 in
set_option maxHeartbeats 2000000 in
theorem ssays_any (s : List UInt8) (c : Ctl) (w : World) (hm : MaxD w) (hs : s.length ≤ 3000) :
    Calls Try.prog 21 #[.string (bs s), .agg #[.bool c.1, .bool c.2.1, .bool c.2.2.1, .bool c.2.2.2.1, .int .i64 c.2.2.2.2.1, .int .i64 c.2.2.2.2.2]] w fun e w' => e = .returned (.bool (ofC [s] [100] == c)) ∧ Below w.heap.size w w' := by
  have hal : Below w.heap.size w (w.alloc (.cells #[.bool c.1, .bool c.2.1, .bool c.2.2.1, .bool c.2.2.2.1, .int .i64 c.2.2.2.2.1, .int .i64 c.2.2.2.2.2] 32)) := (Below.refl _ _).alloc (Nat.le_refl _) _
  have hd : dbk (w.alloc (.cells #[.bool c.1, .bool c.2.1, .bool c.2.2.1, .bool c.2.2.2.1, .int .i64 c.2.2.2.2.1, .int .i64 c.2.2.2.2.2] 32)) w.heap.size (ctA c) := dbk.new w _ _
  have hof := fun (W : World) (v : Value) (h0 : MaxD W) (h : SL W v [s]) => sof_any v [s] [100] W h0 h (fun x hx => by rw [List.mem_singleton.1 hx]; exact hs) (by simp)
  have hof2 : ∀ (W : World) (v : Value) (h0 : MaxD W) (h : SL W v [s]), Calls Try.prog 16 #[v, .string ⟨#[100]⟩] W fun e w' => e = .returned (.agg (ctA (ofC [s] [100]))) ∧ Below W.heap.size W w' := hof
  have hcmp := run_eqlC (ofC [s] [100]) c
  generalize ofC [s] [100] = cc at *
  have hct : (Value.agg (ctA cc)) = .agg #[.bool cc.1, .bool cc.2.1, .bool cc.2.2.1, .bool cc.2.2.2.1, .int .i64 cc.2.2.2.2.1, .int .i64 cc.2.2.2.2.2] := rfl
  rw [hct] at hof2
  have HAL := Lib.hid hal; have HD := Lib.hid hd; have HOF := Lib.hid hof2; have HM := Lib.hid (hm.bel hal)
  clear hal hd hof hof2 hct hm
  go_enter Try.func21, Try.ntmps21
  go_wp2_with fail
  generalize w.alloc (.cells #[.bool c.1, .bool c.2.1, .bool c.2.2.1, .bool c.2.2.2.1, .int .i64 c.2.2.2.2.1, .int .i64 c.2.2.2.2.2] 32) = C at *
  refine wp_region_growS (.one 0 false (.one 3 false (.one 1 true (.one 2 true (.one 4 false (.one 5 false .done))))))
    (fun W => Below C.heap.size C W) (by kernel_rfl) (by kernel_rfl) rfl (by kernel_rfl) (by kernel_rfl) ((Below.refl _ _).drew) (fun ops hops => ?_)
  simp only [GT.ins, List.getD_cons_zero, List.getD_cons_succ]
  clear hops
  iterate 2
    refine growS_take (by rfl) ?_
    apply Exists.intro
    refine ⟨fun w' hE => ?_, ?_⟩
    · obtain ⟨y0, y1, y2, y3, y4, y5⟩ := (HD.out.below hE).six
      go_simp
      try with_reducible rfl
    simp only [Act.put, List.setIfInBounds_toArray, List.set_cons_zero, List.set_cons_succ]
  refine growS_call (by rfl) (fun K hK => ?_)
  go_simp
  have hz1 : Below C.heap.size C (C.alloc (.cells #[.string (bs s)] 9)).drew := ((Below.refl _ _).alloc (Nat.le_refl _) _).drew
  have hsl : SL (C.alloc (.cells #[.string (bs s)] 9)).drew (.slice (some ⟨C.heap.size, 0, none⟩) 1 1) [s] := SL_lit C s
  have HZ1 := Lib.hid hz1; have HSL := Lib.hid hsl
  refine hK.out _ _ hz1 ?_
  clear hK K hz1 hsl
  refine growS_call (by rfl) (fun K hK => ?_)
  go_simp
  refine (HOF.out _ _ (HM.out.bel HZ1.out) HSL.out).mono ?_
  rintro e x1 ⟨rfl, hb⟩
  have hz2 := HZ1.out.trans (hb.mono HZ1.out.size)
  have HZ2 := Lib.hid hz2
  refine hK.out _ _ hz2 ?_
  clear hK K hb hz2 HZ1 HSL
  iterate 2
    refine growS_take (by rfl) ?_
    apply Exists.intro
    refine ⟨fun w' hE => ?_, ?_⟩
    · obtain ⟨y0, y1, y2, y3, y4, y5⟩ := (HD.out.below hE).six
      go_simp
      try with_reducible rfl
    simp only [Act.put, List.setIfInBounds_toArray, List.set_cons_zero, List.set_cons_succ]
  refine growS_done (NoPanic.normal ?_)
  go_wp2_with fail
  go_ret
  exact ⟨rfl, HAL.out.trans (HZ2.out.mono HAL.out.size)⟩
theorem says_is (s : List UInt8) (c : Ctl) (hs : s.length ≤ 3000) (h : (ofC [s] [100] == c) = true) (w : World) (hm : MaxD w) :
    Calls Try.prog 21 #[.string (bs s), .agg #[.bool c.1, .bool c.2.1, .bool c.2.2.1, .bool c.2.2.2.1, .int .i64 c.2.2.2.2.1, .int .i64 c.2.2.2.2.2]] w fun e w' => e = .returned (.bool true) ∧ Below w.heap.size w w' := by
  have := ssays_any s c w hm hs
  rwa [h] at this
/-! Some of the chapter's answers. -/
theorem wk1 (w : World) (hm : MaxD w) : Calls Try.prog 21 #[.string ⟨#[99, 111, 110, 116, 101, 110, 116, 61, 34, 69, 83, 73, 47, 49, 46, 48, 34, 44, 32, 109, 97, 120, 45, 97, 103, 101, 61, 54, 48, 43, 51, 48]⟩, .agg #[.bool false, .bool false, .bool true, .bool true, .int .i64 60, .int .i64 30]] w fun e w' => e = .returned (.bool true) ∧ Below w.heap.size w w' :=
  says_is [99, 111, 110, 116, 101, 110, 116, 61, 34, 69, 83, 73, 47, 49, 46, 48, 34, 44, 32, 109, 97, 120, 45, 97, 103, 101, 61, 54, 48, 43, 51, 48] (false, false, true, true, 60, 30) (by decide) (by kernel_rfl) w hm
theorem wk2 (w : World) (hm : MaxD w) : Calls Try.prog 21 #[.string ⟨#[109, 97, 120, 45, 97, 103, 101, 61, 54, 48, 44, 32, 109, 97, 120, 45, 97, 103, 101, 61, 53, 59, 100, 44, 32, 110, 111, 45, 115, 116, 111, 114, 101, 59, 101]⟩, .agg #[.bool false, .bool false, .bool false, .bool true, .int .i64 5, .int .i64 0]] w fun e w' => e = .returned (.bool true) ∧ Below w.heap.size w w' :=
  says_is [109, 97, 120, 45, 97, 103, 101, 61, 54, 48, 44, 32, 109, 97, 120, 45, 97, 103, 101, 61, 53, 59, 100, 44, 32, 110, 111, 45, 115, 116, 111, 114, 101, 59, 101] (false, false, false, true, 5, 0) (by decide) (by kernel_rfl) w hm
set_option maxRecDepth 100000 in
set_option maxHeartbeats 1000000 in
theorem sworks_any (w : World) (hm : MaxD w) :
    Calls Try.prog 9 #[] w fun e w' => e = .returned (.bool true) ∧ Below w.heap.size w w' := by
  have HM := Lib.hid hm; clear hm
  go_enter Try.func9, Try.ntmps9
  go_wp2_with fail
  refine (wk1 _ HM.out).mono ?_
  rintro e w1 ⟨rfl, hb⟩
  have HB1 := Lib.hid hb; clear hb
  go_wp2_with fail
  refine (wk2 _ (HM.out.bel HB1.out)).mono ?_
  rintro e w2 ⟨rfl, hb⟩
  have HB2 := Lib.hid (HB1.out.trans (hb.mono HB1.out.size)); clear hb HB1
  go_wp2_with fail
  go_ret
  exact ⟨rfl, HB2.out⟩
end Go.Proofs.Ytonioemenjjajaa
