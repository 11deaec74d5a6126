/- The statement StorableOnly, the stage's theorem. -/
import Derived.Test.YtfobjaccpnondaaGreatDoorStoH
import Derived.Test.YtfobjaccpnondaaGreatDoorOpenX
import Derived.Test.YtfobjaccpnondaaGreatDoorKFieldsA
import Derived.Test.YtfobjaccpnondaaGreatDoorKFieldsG
namespace Go.Proofs.YtfobjaccpnondaaGreatDoor
open Go.RowKit Go.Shelf

theorem dbk.threeI {w : World} {b : Nat} {x0 x1 x2 : Value} (h : dbk w b #[x0, x1, x2]) : w.cell? ⟨b, 0, none⟩ = some x0 ∧ w.cell? ⟨b, 1, none⟩ = some x1 ∧ w.cell? ⟨b, 2, none⟩ = some x2 := ⟨h.cell 0 _ rfl, h.cell 1 _ rfl, h.cell 2 _ rfl⟩
theorem FL_apart {w w' : World} {v : Value} {l : List Fld} (h : FL w v l) (hk : ∀ g, v.ownBlock = some g → w'.heap[g]? = w.heap[g]?) (hz : w.heap.size ≤ w'.heap.size) : FL w' v l := by
  rcases h with h | ⟨b, off, c, rfl, hb, hc⟩
  · exact .inl h
  · refine .inr ⟨b, off, c, rfl, by omega, fun j hj => ?_⟩
    rw [World.cell?_of_block (a := ⟨b, off + j * 2, none⟩) (hk b rfl), World.cell?_of_block (a := ⟨b, off + j * 2 + 1, none⟩) (hk b rfl)]
    exact hc j hj
theorem FL_litS (w : World) (fs : List Fld) : FL (w.alloc (.cells (fcs fs).toArray 34)) (.slice (some ⟨w.heap.size, 0, none⟩) fs.length fs.length) fs := by
  refine .inr ⟨w.heap.size, 0, fs.length, rfl, by simp, fun j hj => ?_⟩
  have hh := heap_alloc_new w (.cells (fcs fs).toArray 34)
  rw [Nat.zero_add]
  obtain ⟨f1, f2⟩ := fcs_at fs j hj
  have e1 := cell_of_row _ w.heap.size (j * 2) _ _ _ hh
  have e2 := cell_of_row _ w.heap.size (j * 2 + 1) _ _ _ hh
  rw [List.getElem?_toArray] at e1 e2
  exact ⟨e1.trans f1, e2.trans f2⟩
theorem fe_more {l : List Fld} {f : Fld} (h : FwS l) (h1 : f.1.length ≤ 300) (h2 : f.2.length ≤ 300) : Fe (l ++ [f]) := by
  refine ⟨by have := h.len; simp; omega, fun g hg => ?_⟩
  rcases List.mem_append.1 hg with hg | hg
  · have := h.fe.2 g hg; omega
  · rw [List.mem_singleton.1 hg]; omega
theorem del_one (f : Fld) (N : List (List UInt8)) : delL [f] N = if hasN N f.1 then [] else [f] := by
  unfold delL
  cases h : hasN N f.1 <;> simp [h]

set_option maxRecDepth 100000 in
set_option maxHeartbeats 16000000 in
theorem storableOnly_law {m dev : List UInt8} {vq : Value} {q : List Fld} {st mi : Int} {re bo : ByteArray} {fs : Value} {asked got : Int} {vA : Option Addr} {vn vc : Nat} {l : List Fld} (f : Fld) (w : World)
    (gq : InA w m dev vq q) (ge : InN w fs l asked got) (gb : bo.size ≤ 140737488351232) (z1 : f.1.length ≤ 9223372036854775807) (z2 : f.2.length ≤ 9223372036854775807) (hm : MaxD w) (ht : Tabs w) :
    Calls Tryz.prog 4 #[.agg #[.string (bs m), .string (bs dev), vq], .agg #[.int .i64 st, .string re, .int .i64 mi, fs, .string bo, .int .i64 asked, .int .i64 got, .slice vA vn vc], .agg #[.string (bs f.1), .string (bs f.2)]] w
      fun e w' => e = .returned (.bool true) ∧ Below w.heap.size w w' := by
  obtain ⟨qA, qc, rfl⟩ := gq.fl.form
  obtain ⟨fA, fc, rfl⟩ := ge.fl.form
  obtain ⟨bl, rfl⟩ : ∃ bl, bo = bs bl := ⟨bo.data.toList, (bs_self bo).symm⟩
  rw [bs_size] at gb
  have x1 : Below w.heap.size w (w.alloc (.cells #[.string (bs m), .string (bs dev), .slice qA q.length qc] 24)) := (Below.refl _ _).alloc (Nat.le_refl _) _
  have x2 := x1.alloc x1.size (.cells #[.int .i64 st, .string re, .int .i64 mi, .slice fA l.length fc, .string (bs bl), .int .i64 asked, .int .i64 got, .slice vA vn vc] 28)
  have x3 := x2.alloc x2.size (.cells #[.string (bs f.1), .string (bs f.2)] 34)
  have hA := ((dbk.new w #[.string (bs m), .string (bs dev), .slice qA q.length qc] 24).alloc (.cells #[.int .i64 st, .string re, .int .i64 mi, .slice fA l.length fc, .string (bs bl), .int .i64 asked, .int .i64 got, .slice vA vn vc] 28)).alloc (.cells #[.string (bs f.1), .string (bs f.2)] 34)
  have hE := (dbk.new (w.alloc (.cells #[.string (bs m), .string (bs dev), .slice qA q.length qc] 24)) #[.int .i64 st, .string re, .int .i64 mi, .slice fA l.length fc, .string (bs bl), .int .i64 asked, .int .i64 got, .slice vA vn vc] 28).alloc (.cells #[.string (bs f.1), .string (bs f.2)] 34)
  have hF := dbk.new ((w.alloc (.cells #[.string (bs m), .string (bs dev), .slice qA q.length qc] 24)).alloc (.cells #[.int .i64 st, .string re, .int .i64 mi, .slice fA l.length fc, .string (bs bl), .int .i64 asked, .int .i64 got, .slice vA vn vc] 28)) #[.string (bs f.1), .string (bs f.2)] 34
  simp only [World.size_alloc] at hE hF
  obtain ⟨Y, m0, d0, h0, i0, s0, HY⟩ := clamp_ex got
  obtain ⟨b0, b1⟩ := i64_bd ge.wa
  obtain ⟨b2, b3⟩ := i64_bd ge.wg
  have hfq := fun W (hb : Below w.heap.size w W) => fewS_any _ q W (gq.fl.bel hb) gq.big gq.len
  have hfl := fun W (hb : Below w.heap.size w W) => fewS_any _ l W (ge.fl.bel hb) ge.big ge.len
  have hwk := fun W (hb : Below w.heap.size w W) => sworks_any W (hm.bel hb) (ht.below hb)
  have hml := gq.ml
  have hdl := gq.dl
  have hq1 : ∀ W, Below w.heap.size w W → FL W (.slice qA q.length qc) q := fun W hb => gq.fl.bel hb
  have hl0 : ∀ W, Below w.heap.size w W → FL W (.slice fA l.length fc) l := fun W hb => ge.fl.bel hb
  have hl1 : ∀ W v L, Below w.heap.size w W → FL W v L → Fe L → EnW W v L asked got Y := fun W v L hb hv hf => ⟨hv, hf, hm.bel hb, ht.below hb, ⟨m0, d0, h0, i0, s0, HY⟩, b0, b1, b2, b3⟩
  have HFQ := Lib.hid hfq; have HFL := Lib.hid hfl; have HWK := Lib.hid hwk; have HQ1 := Lib.hid hq1; have HL0 := Lib.hid hl0; have HL1 := Lib.hid hl1
  have HA := Lib.hid hA; have HE := Lib.hid hE; have HF := Lib.hid hF; have HX := Lib.hid x3; have HGB : Hid (bl.length ≤ 140737488351232) := gb
  clear x1 x2 x3 hA hE hF HY hfq hfl hwk hq1 hl0 hl1 gq ge hm ht b0 b1 b2 b3 gb
  have hsm : (bs m).size = m.length := bs_size m
  have hsd : (bs dev).size = dev.length := bs_size dev
  have hs1 : (bs f.1).size = f.1.length := bs_size f.1
  have hs2 : (bs f.2).size = f.2.length := bs_size f.2
  obtain ⟨a0, a1, a2⟩ := HA.out.threeI
  obtain ⟨y0, y1, y2, y3, y4, y5, y6, y7⟩ := HE.out.eight
  go_enter Tryz.func4, Tryz.ntmps4
  go_upto_region 1 with fail
  generalize hCC : (((w.alloc (.cells #[.string (bs m), .string (bs dev), .slice qA q.length qc] 24)).alloc (.cells #[.int .i64 st, .string re, .int .i64 mi, .slice fA l.length fc, .string (bs bl), .int .i64 asked, .int .i64 got, .slice vA vn vc] 28)).alloc (.cells #[.string (bs f.1), .string (bs f.2)] 34)) = C at *
  clear hCC
  go_cut [50] (fun v wx => v = .bool (!(fewS q && (fewS l && (decide (m.length ≤ 300) && (decide (dev.length ≤ 300) && (decide (f.1.length ≤ 300) && (decide (f.2.length ≤ 300)))))))) ∧ ∃ W, W = wx ∧ Below C.heap.size C W)
  case first =>
    go_wp2_with fail
    refine (HFQ.out _ HX.out).mono ?_
    rintro e w1 ⟨rfl, hb⟩
    obtain ⟨a0, a1, a2⟩ := (HA.out.below hb).threeI
    obtain ⟨y0, y1, y2, y3, y4, y5, y6, y7⟩ := (HE.out.below hb).eight
    cases hq2 : fewS q
    · go_wp2_with fail
      go_meet
      exact ⟨by rw [hq2]; rfl, _, rfl, hb⟩
    · go_wp2_with fail
      refine (HFL.out _ (HX.out.trans (hb.mono HX.out.size))).mono ?_
      rintro e w2 ⟨rfl, hb2⟩
      replace hb := hb.trans (hb2.mono hb.size)
      obtain ⟨a0, a1, a2⟩ := (HA.out.below hb).threeI
      have f0 := (HF.out.below hb).cell 0 (.string (bs f.1)) rfl
      have f1 := (HF.out.below hb).cell 1 (.string (bs f.2)) rfl
      cases hl2 : fewS l
      · go_wp2_with fail
        go_meet
        exact ⟨by rw [hq2, hl2]; rfl, _, rfl, hb⟩
      · by_cases h3 : m.length ≤ 300
        · have hd2 : ¬ (300 : Int) < (m.length : Int) := by omega
          by_cases h4 : dev.length ≤ 300
          · have hd3 : ¬ (300 : Int) < (dev.length : Int) := by omega
            by_cases h5 : f.1.length ≤ 300
            · have hd4 : ¬ (300 : Int) < (f.1.length : Int) := by omega
              by_cases h6 : f.2.length ≤ 300
              · have hd5 : ¬ (300 : Int) < (f.2.length : Int) := by omega
                go_wp2_with fail
                go_meet
                exact ⟨by first | (rw [hq2, hl2, decide_eq_true h3, decide_eq_true h4, decide_eq_true h5, decide_eq_true h6, decide_eq_false (p := (300 : Int) < (m.length : Int)) (by omega), decide_eq_false (p := (300 : Int) < (dev.length : Int)) (by omega), decide_eq_false (p := (300 : Int) < (f.1.length : Int)) (by omega), decide_eq_false (p := (300 : Int) < (f.2.length : Int)) (by omega)]; rfl) | (rw [hq2, hl2, decide_eq_true h3, decide_eq_true h4, decide_eq_true h5, decide_eq_true h6]; simp; omega), _, rfl, hb⟩
              · have hd5 : (300 : Int) < (f.2.length : Int) := by omega
                go_wp2_with fail
                go_meet
                exact ⟨by rw [hq2, hl2, decide_eq_true h3, decide_eq_true h4, decide_eq_true h5, decide_eq_false h6]; rfl, _, rfl, hb⟩
            · have hd4 : (300 : Int) < (f.1.length : Int) := by omega
              go_wp2_with fail
              go_meet
              exact ⟨by rw [hq2, hl2, decide_eq_true h3, decide_eq_true h4, decide_eq_false h5]; rfl, _, rfl, hb⟩
          · have hd3 : (300 : Int) < (dev.length : Int) := by omega
            go_wp2_with fail
            go_meet
            exact ⟨by rw [hq2, hl2, decide_eq_true h3, decide_eq_false h4]; rfl, _, rfl, hb⟩
        · have hd2 : (300 : Int) < (m.length : Int) := by omega
          go_wp2_with fail
          go_meet
          exact ⟨by rw [hq2, hl2, decide_eq_false h3]; rfl, _, rfl, hb⟩
  case rest =>
    obtain ⟨rfl, wr, rfl, hb⟩ := hcut
    replace HX := Lib.hid (HX.out.trans (hb.mono HX.out.size)); replace HA := Lib.hid (HA.out.below hb); replace HE := Lib.hid (HE.out.below hb); replace HF := Lib.hid (HF.out.below hb)
    clear hb HFQ HFL a0 a1 a2 y0 y1 y2 y3 y4 y5 y6 y7
    clear C
    cases hok : (fewS q && (fewS l && (decide (m.length ≤ 300) && (decide (dev.length ≤ 300) && (decide (f.1.length ≤ 300) && (decide (f.2.length ≤ 300)))))))
    · clear hok
      go_wp2_with fail
      refine (HWK.out _ HX.out).mono ?_
      rintro e w1 ⟨rfl, hb⟩
      replace HX := Lib.hid (HX.out.trans (hb.mono HX.out.size))
      clear hb
      go_wp2_with fail
      go_ret
      exact ⟨rfl, HX.out⟩
    simp only [Bool.and_eq_true, decide_eq_true_eq] at hok
    obtain ⟨hq2, hl2, _, _, h5, h6⟩ := hok
    have fwq := fewS_fw hq2
    have fwl := fewS_fw hl2
    have feq := fwq.fe
    have fel := fwl.fe
    obtain ⟨C0, hC⟩ : ∃ C, C = wr := ⟨_, rfl⟩
    subst hC
    -- what is asked of May
    obtain ⟨N, hN⟩ : ∃ N, N = stoB m st q l Y got dev := ⟨_, rfl⟩
    have hma := fun W (re : ByteArray) (bo : ByteArray) (hb : Below C0.heap.size C0 W) => smay_any (st := st) (mi := mi) (re := re) (bo := bo) (vA := vA) (vn := vn) (vc := vc) m dev W (HQ1.out W (HX.out.trans (hb.mono HX.out.size))) feq (HL1.out W _ l (HX.out.trans (hb.mono HX.out.size)) (HL0.out W (HX.out.trans (hb.mono HX.out.size))) fel)
    have hmb := fun W (hb : Below C0.heap.size C0 W) => smay_any (st := st) (mi := mi) (re := re) (bo := bs bl) (vA := vA) (vn := vn) (vc := vc) m dev (vq := .slice none 0 0) (q := []) W (FL_nil W) Fe.none (HL1.out W _ l (HX.out.trans (hb.mono HX.out.size)) (HL0.out W (HX.out.trans (hb.mono HX.out.size))) fel)
    have hmp := fun W (hb : Below C0.heap.size C0 W) => smay_any (st := st) (mi := mi) (re := re) (bo := bs bl) (vA := vA) (vn := vn) (vc := vc) [80, 79, 83, 84] dev W (HQ1.out W (HX.out.trans (hb.mono HX.out.size))) feq (HL1.out W _ l (HX.out.trans (hb.mono HX.out.size)) (HL0.out W (HX.out.trans (hb.mono HX.out.size))) fel)
    rw [may_post] at hmp
    have hmy := fun W (k : Nat) (hk : k < neverF.length) ua uc (hb : Below C0.heap.size C0 W) (hu : FL W (.slice ua (l ++ [neverF[k]]).length uc) (l ++ [neverF[k]])) => smay_any (st := st) (mi := mi) (re := re) (bo := bs bl) (vA := vA) (vn := vn) (vc := vc) m dev W (HQ1.out W (HX.out.trans (hb.mono HX.out.size))) feq (HL1.out W _ _ (HX.out.trans (hb.mono HX.out.size)) hu
      (fe_more fwl (by have : ∀ g ∈ neverF, g.1.length ≤ 300 := by decide
                       exact this _ (List.getElem_mem hk)) (by have : ∀ g ∈ neverF, g.2.length ≤ 300 := by decide
                                                               exact this _ (List.getElem_mem hk))))
    have hmq := fun W ua uc (hb : Below C0.heap.size C0 W) (hu : FL W (.slice ua (q ++ [(CcN, nosN)]).length uc) (q ++ [(CcN, nosN)])) => smay_any (st := st) (mi := mi) (re := re) (bo := bs bl) (vA := vA) (vn := vn) (vc := vc) m dev W hu (fe_more fwq (by decide) (by decide)) (HL1.out W _ l (HX.out.trans (hb.mono HX.out.size)) (HL0.out W (HX.out.trans (hb.mono HX.out.size))) fel)
    rw [may_ask] at hmq
    have hmo := fun W ua uc (hb : Below C0.heap.size C0 W) (hu : FL W (.slice ua (l ++ [f]).length uc) (l ++ [f])) => smay_any (st := st) (mi := mi) (re := re) (bo := bs bl) (vA := vA) (vn := vn) (vc := vc) m dev W (HQ1.out W (HX.out.trans (hb.mono HX.out.size))) feq (HL1.out W _ _ (HX.out.trans (hb.mono HX.out.size)) hu (fe_more fwl h5 h6))
    have hmo2 : hasN countN f.1 = false → stoB m st q (l ++ [f]) Y got dev = N := fun h => by rw [hN]; exact may_other h
    have hbare : N = true → stoB m st [] l Y got dev = true := fun h => may_bare (by rw [← hN]; exact h)
    have hget : N = true → ((bs m).toList == [71, 69, 84]) = true := fun h => by
      have hme := may_get (show stoB m st q l Y got dev = true by rw [← hN]; exact h)
      rw [hme, beqV]
      decide
    have hwi := fun W (g : Fld) (hb : Below C0.heap.size C0 W) => with_any (st := st) (mi := mi) (re := re) (bo := bs bl) (asked := asked) (got := got) (vA := vA) (vn := vn) (vc := vc) g W (HL0.out W (HX.out.trans (hb.mono HX.out.size))) (by have := fwl.len; omega)
    have hnev : ∀ (k : Nat) (hk : k < neverF.length), stoB m st q (l ++ [neverF[k]]) Y got dev = false := fun k hk => may_never k hk
    have hlq : q.length ≤ 60 := fwq.len
    have hll : l.length ≤ 60 := fwl.len
    have hva := fun W (hb : Below C0.heap.size C0 W) => values_any _ l scN W (HL0.out W (HX.out.trans (hb.mono HX.out.size))) fel.small (by omega) (by decide)
    unfold RetS at hva
    rw [← hN] at hma
    have HMA := Lib.hid hma; have HMB := Lib.hid hmb; have HMP := Lib.hid hmp; have HMQ := Lib.hid hmq; have HMO0 := Lib.hid hmo; have HMO2 := Lib.hid hmo2; have HBARE := Lib.hid hbare; have HGET := Lib.hid hget; have HWI0 := Lib.hid hwi; have HVA := Lib.hid hva
    have HMY0 := Lib.hid hmy; have HNEV := Lib.hid hnev
    have HWK0 := Lib.hid fun W (hb : Below C0.heap.size C0 W) => HWK.out W (HX.out.trans (hb.mono HX.out.size))
    have HQ0 := Lib.hid fun W (hb : Below C0.heap.size C0 W) => HQ1.out W (HX.out.trans (hb.mono HX.out.size))
    clear hma hmb hmp hmy hmq hmo hmo2 hbare hget hwi hva hnev hN hq2 hl2 fwq fwl feq fel HL0 HL1 HWK HQ1
    generalize stoB m st [] l Y got dev = N0 at *
    obtain ⟨a0, a1, a2⟩ := HA.out.threeI
    obtain ⟨y0, y1, y2, y3, y4, y5, y6, y7⟩ := HE.out.eight
    go_wp2_with fail
    refine (HMA.out _ _ _ (Below.refl _ _)).mono ?_
    rintro e w1 ⟨rfl, hb⟩
    have HC := Lib.hid hb
    clear hb a0 a1 a2 y0 y1 y2 y3 y4 y5 y6 y7
    obtain ⟨y0, y1, y2, y3, y4, y5, y6, y7⟩ := (HE.out.below HC.out).eight
    -- the entry with another body
    have hal : Below w1.heap.size w1 (w1.alloc (.cells #[.int .i64 st, .string re, .int .i64 mi, .slice fA l.length fc, .string (bs bl), .int .i64 asked, .int .i64 got, .slice vA vn vc] 28)) := (Below.refl _ _).alloc (Nat.le_refl _) _
    have H8 := Lib.hid (dbk.new w1 #[.int .i64 st, .string re, .int .i64 mi, .slice fA l.length fc, .string (bs bl), .int .i64 asked, .int .i64 got, .slice vA vn vc] 28)
    have HGL := Lib.hid HC.out.size
    replace HC := Lib.hid (HC.out.trans (hal.mono HC.out.size))
    clear hal
    go_upto_region 5 with fail
    generalize w1.alloc (.cells #[.int .i64 st, .string re, .int .i64 mi, .slice fA l.length fc, .string (bs bl), .int .i64 asked, .int .i64 got, .slice vA vn vc] 28) = X1 at *
    generalize w1.heap.size = g at *
    clear y0 y1 y2 y3 y4 y5 y6 y7
    obtain ⟨y0, y1, y2, y3, y4, y5, y6, y7⟩ := (HE.out.below HC.out).eight
    have nc4 := H8.out.cell 4 (.string (bs bl)) rfl
    have nf4 := H8.out.free 4
    have hadd := fun W => add_l bl [120] W (by have := HGB.out; simp; omega)
    rw [show bs [120] = ⟨#[120]⟩ from rfl] at hadd
    have hq := H8.out.set 4 (.string (bs (bl ++ [120])))
    simp only [List.setIfInBounds_toArray, List.set_cons_zero, List.set_cons_succ] at hq
    have hb9 := HC.out.setCell (p := ⟨g, 4, none⟩) HGL.out (.string (bs (bl ++ [120])))
    go_upto_region 6 with fail
    generalize X1.setCell ⟨g, 4, none⟩ (.string (bs (bl ++ [120]))) = X2 at *
    clear nc4 nf4 hadd y0 y1 y2 y3 y4 y5 y6 y7
    replace H8 := Lib.hid hq; replace HC := Lib.hid hb9
    clear hq hb9
    generalize bs (bl ++ [120]) = bx at *
    have nc1 := H8.out.cell 1 (.string re) rfl
    have nf1 := H8.out.free 1
    have hq := H8.out.set 1 (.string ⟨#[111, 116, 104, 101, 114]⟩)
    simp only [List.setIfInBounds_toArray, List.set_cons_zero, List.set_cons_succ] at hq
    have hb9 := HC.out.setCell (p := ⟨g, 1, none⟩) HGL.out (.string ⟨#[111, 116, 104, 101, 114]⟩)
    go_upto_region 7 with fail
    generalize X2.setCell ⟨g, 1, none⟩ (.string ⟨#[111, 116, 104, 101, 114]⟩) = X3 at *
    clear nc1 nf1
    replace H8 := Lib.hid hq; replace HC := Lib.hid hb9
    clear hq hb9
    go_cut [78] (fun v wx => v = .bool false ∧ ∃ W, W = wx ∧ Below C0.heap.size C0 W)
    case first =>
      obtain ⟨a0, a1, a2⟩ := (HA.out.below HC.out).threeI
      obtain ⟨y0, y1, y2, y3, y4, y5, y6, y7⟩ := H8.out.eight
      go_wp2_with fail
      refine (HMA.out _ _ _ HC.out).mono ?_
      rintro e w2 ⟨rfl, hb⟩
      replace HC := Lib.hid (HC.out.trans (hb.mono HC.out.size))
      cases N
      · go_wp2_with fail
        go_meet
        exact ⟨rfl, _, rfl, HC.out⟩
      · go_wp2_with fail
        go_meet
        exact ⟨rfl, _, rfl, HC.out⟩
    case rest =>
    obtain ⟨rfl, w2, rfl, hb⟩ := hcut
    have HC2 := Lib.hid hb
    clear hb HC H8 HGL
    clear X3
    go_upto_region 9 with fail
    go_cut [104] (fun v wx => v = .bool false ∧ ∃ W, W = wx ∧ Below C0.heap.size C0 W)
    case first =>
      cases N
      · go_wp2_with fail
        go_meet
        exact ⟨rfl, _, rfl, HC2.out⟩
      · obtain rfl := HBARE.out rfl
        have hg := HGET.out rfl
        obtain ⟨a0, a1, a2⟩ := (HA.out.below HC2.out).threeI
        obtain ⟨y0, y1, y2, y3, y4, y5, y6, y7⟩ := (HE.out.below HC2.out).eight
        go_wp2_with fail
        refine (HMB.out _ HC2.out).mono ?_
        rintro e w3 ⟨rfl, hb⟩
        replace HC2 := Lib.hid (HC2.out.trans (hb.mono HC2.out.size))
        clear hb a0 a1 a2 y0 y1 y2 y3 y4 y5 y6 y7
        obtain ⟨a0, a1, a2⟩ := (HA.out.below HC2.out).threeI
        obtain ⟨y0, y1, y2, y3, y4, y5, y6, y7⟩ := (HE.out.below HC2.out).eight
        go_wp2_with fail
        refine (HMP.out _ HC2.out).mono ?_
        rintro e w4 ⟨rfl, hb⟩
        replace HC2 := Lib.hid (HC2.out.trans (hb.mono HC2.out.size))
        clear hb a0 a1 a2 y0 y1 y2 y3 y4 y5 y6 y7
        go_wp2_with fail
        go_meet
        exact ⟨rfl, _, rfl, HC2.out⟩
    case rest =>
    obtain ⟨rfl, w3, rfl, hb⟩ := hcut
    have HC3 := Lib.hid hb
    clear hb HC2 HMB HMP HBARE HGET
    clear w2
    -- one more no-store, private, vary by all
    have hal : Below w3.heap.size w3 (w3.alloc (.cells #[.string ⟨#[67, 97, 99, 104, 101, 45, 67, 111, 110, 116, 114, 111, 108]⟩, .string ⟨#[110, 111, 45, 115, 116, 111, 114, 101]⟩, .string ⟨#[67, 97, 99, 104, 101, 45, 67, 111, 110, 116, 114, 111, 108]⟩, .string ⟨#[112, 114, 105, 118, 97, 116, 101, 61, 34, 120, 34]⟩, .string ⟨#[83, 117, 114, 114, 111, 103, 97, 116, 101, 45, 67, 111, 110, 116, 114, 111, 108]⟩, .string ⟨#[110, 111, 45, 115, 116, 111, 114, 101]⟩, .string ⟨#[86, 97, 114, 121]⟩, .string ⟨#[42]⟩] 34)) := (Below.refl _ _).alloc (Nat.le_refl _) _
    have hnv : FL (w3.alloc (.cells #[.string ⟨#[67, 97, 99, 104, 101, 45, 67, 111, 110, 116, 114, 111, 108]⟩, .string ⟨#[110, 111, 45, 115, 116, 111, 114, 101]⟩, .string ⟨#[67, 97, 99, 104, 101, 45, 67, 111, 110, 116, 114, 111, 108]⟩, .string ⟨#[112, 114, 105, 118, 97, 116, 101, 61, 34, 120, 34]⟩, .string ⟨#[83, 117, 114, 114, 111, 103, 97, 116, 101, 45, 67, 111, 110, 116, 114, 111, 108]⟩, .string ⟨#[110, 111, 45, 115, 116, 111, 114, 101]⟩, .string ⟨#[86, 97, 114, 121]⟩, .string ⟨#[42]⟩] 34)) (.slice (some ⟨w3.heap.size, 0, none⟩) 4 4) neverF := FL_litS w3 neverF
    have HNV := Lib.hid hnv; have HC4 := Lib.hid (HC3.out.trans (hal.mono HC3.out.size))
    clear hal hnv
    go_wp2_with fail
    generalize hg : w3.alloc (.cells #[.string ⟨#[67, 97, 99, 104, 101, 45, 67, 111, 110, 116, 114, 111, 108]⟩, .string ⟨#[110, 111, 45, 115, 116, 111, 114, 101]⟩, .string ⟨#[67, 97, 99, 104, 101, 45, 67, 111, 110, 116, 114, 111, 108]⟩, .string ⟨#[112, 114, 105, 118, 97, 116, 101, 61, 34, 120, 34]⟩, .string ⟨#[83, 117, 114, 114, 111, 103, 97, 116, 101, 45, 67, 111, 110, 116, 114, 111, 108]⟩, .string ⟨#[110, 111, 45, 115, 116, 111, 114, 101]⟩, .string ⟨#[86, 97, 114, 121]⟩, .string ⟨#[42]⟩] 34) = C1 at *
    generalize hh : w3.heap.size = gn at *
    clear hg hh HC3
    go_loopw [10] (fun i wr => ∃ k : Nat, k ≤ 4 ∧ i = .int .i64 k ∧ Below C1.heap.size C1 wr) (fun i _ => 4 - (intOf i).toNat)
    case atStart => exact ⟨0, Nat.zero_le _, rfl, Below.refl _ _⟩
    case round =>
    obtain ⟨k, hk4, rfl, hb⟩ := hrel
    obtain ⟨C, hCw⟩ : ∃ C, C = wr := ⟨_, rfl⟩
    subst hCw
    have HBL := Lib.hid hb; clear hb
    have HCL := Lib.hid (HC4.out.trans (HBL.out.mono HC4.out.size))
    by_cases hlt : k < 4
    · have hki : (k : Int) < 4 := by omega
      have hltn : k < neverF.length := hlt
      obtain ⟨b, off, hsl, hbb, hc1, hc2⟩ := (HNV.out.bel HBL.out).get k hltn
      obtain ⟨rfl, rfl⟩ : gn = b ∧ off = 0 := by
        have h1 := Option.some.inj hsl
        injection h1 with h3 h4
        exact ⟨h3, h4.symm⟩
      clear hsl
      have hmyk := fun W ua uc hb hu => HMY0.out W k hltn ua uc hb hu
      rw [HNEV.out k hltn] at hmyk
      have HML : Hid (0 < (l ++ [neverF[k]]).length) := by show 0 < _; simp
      have hwk := fun W hb => HWI0.out W neverF[k] hb
      generalize neverF[k] = nf at *
      obtain ⟨M, hM⟩ : ∃ M, M = l ++ [nf] := ⟨_, rfl⟩
      rw [← hM] at hmyk hwk HML
      clear hM
      rw [Nat.zero_add] at hc1 hc2
      have HV1 : Hid (∀ W, Below C.heap.size C W → W.cell? ⟨gn, k * 2, none⟩ = some (.string (bs nf.1))) := fun W h => (World.cell?_of_block (a := ⟨gn, k * 2, none⟩) (h.block gn hbb)).trans hc1
      have HV2 : Hid (∀ W, Below C.heap.size C W → W.cell? ⟨gn, k * 2 + 1, none⟩ = some (.string (bs nf.2))) := fun W h => (World.cell?_of_block (a := ⟨gn, k * 2 + 1, none⟩) (h.block gn hbb)).trans hc2
      have HWI := Lib.hid fun W (hb : Below C.heap.size C W) => hwk W (HCL.out.trans (hb.mono HCL.out.size))
      have HMY := Lib.hid fun W ua uc (hb : Below C.heap.size C W) hu => hmyk W ua uc (HCL.out.trans (hb.mono HCL.out.size)) hu
      have HE1 := HE
      clear hmyk hwk hc1 hc2 hbb
      go_wp2_with fail
      apply wp_meetW (fun g ua uc W => dbk W g #[.int .i64 st, .string re, .int .i64 mi, .slice ua M.length uc, .string (bs bl), .int .i64 asked, .int .i64 got, .slice vA vn vc] ∧ FL W (.slice ua M.length uc) M ∧ Below C.heap.size C W)
      case h1 =>
        refine wp_region_growS (.one 0 false (.one 1 false (.one 2 false (.one 3 false (.one 4 false (.two 5 6 (.one 6 true (.one 7 true .done)) (.one 5 true (.one 7 true .done))))))))
          (fun W => Below C.heap.size C W) (by kernel_rfl) (by kernel_rfl) rfl (by kernel_rfl) (by kernel_rfl) ((Below.refl _ _).drew) (fun ops hops => ?_)
        simp only [GT.ins, List.getD_cons_zero, List.getD_cons_succ]
        clear hops
        iterate 5
          refine growS_take (by rfl) ?_
          apply Exists.intro
          refine ⟨fun w' hE => ?_, ?_⟩
          · obtain ⟨y0, y1, y2, y3, y4, y5, y6, y7⟩ := (HE1.out.below (HCL.out.trans (hE.mono HCL.out.size))).eight; have q1 := HV1.out w' hE; have q2 := HV2.out w' hE
            go_simp
            try with_reducible rfl
          simp only [Act.put, List.setIfInBounds_toArray, List.set_cons_zero, List.set_cons_succ]
        refine growS_two (by rfl) (by rfl) (fun K hK => ?_) (fun K hK => ?_)
        · go_simp
          refine (HWI.out _ ((Below.refl _ _).drew : Below C.heap.size C C.drew)).mono ?_
          rintro e z1 ⟨ua, uc, rfl, ho, hd2, hb⟩
          have hE1 : Below C.heap.size C z1 := ((Below.refl _ _).drew : Below C.heap.size C C.drew).trans (hb.mono ((Below.refl _ _).drew : Below C.heap.size C C.drew).size)
          have HU1 := Lib.hid ho; have HEE1 := Lib.hid hE1
          have HUL : Hid (∀ b, (Value.slice ua M.length uc).ownBlock = some b → b < z1.heap.size) := fun b hb => (hd2 b hb).2
          refine hK.out _ _ hE1 ?_
          clear hK K ho hb hE1 hd2
          refine growS_call (by rfl) (fun K hK => ?_)
          go_simp
          have hal : Below z1.heap.size z1 (z1.alloc (.cells #[.int .i64 0, .string ⟨#[]⟩, .int .i64 0, .slice none 0 0, .string ⟨#[]⟩, .int .i64 0, .int .i64 0, .slice none 0 0] 28)) := (Below.refl _ _).alloc (Nat.le_refl _) _
          have hE2 : Below C.heap.size C (z1.alloc (.cells #[.int .i64 0, .string ⟨#[]⟩, .int .i64 0, .slice none 0 0, .string ⟨#[]⟩, .int .i64 0, .int .i64 0, .slice none 0 0] 28)) := HEE1.out.trans (hal.mono HEE1.out.size)
          have hz := dbk.new z1 #[.int .i64 0, .string ⟨#[]⟩, .int .i64 0, .slice none 0 0, .string ⟨#[]⟩, .int .i64 0, .int .i64 0, .slice none 0 0] 28
          have HU := Lib.hid (HU1.out.bel hal)
          have HGL := Lib.hid HEE1.out.size
          have HUB : Hid (∀ b, (Value.slice ua M.length uc).ownBlock = some b → b ≠ z1.heap.size) := fun b hb => Nat.ne_of_lt (HUL.out b hb)
          refine hK.out _ _ hE2 ?_
          have HEE := Lib.hid hE2; have HZ := Lib.hid hz
          clear hK K hal hE2 hz HU1 HUL
          generalize z1.alloc (.cells #[.int .i64 0, .string ⟨#[]⟩, .int .i64 0, .slice none 0 0, .string ⟨#[]⟩, .int .i64 0, .int .i64 0, .slice none 0 0] 28) = z2 at *
          clear HEE1
          generalize z1.heap.size = g at *
          have nc0 := HZ.out.cell 0 (.int .i64 0) rfl
          have nf0 := HZ.out.free 0
          have nc1 := HZ.out.cell 1 (.string ⟨#[]⟩) rfl
          have nf1 := HZ.out.free 1
          have nc2 := HZ.out.cell 2 (.int .i64 0) rfl
          have nf2 := HZ.out.free 2
          have nc3 := HZ.out.cell 3 (.slice none 0 0) rfl
          have nf3 := HZ.out.free 3
          have nc4 := HZ.out.cell 4 (.string ⟨#[]⟩) rfl
          have nf4 := HZ.out.free 4
          have nc5 := HZ.out.cell 5 (.int .i64 0) rfl
          have nf5 := HZ.out.free 5
          have nc6 := HZ.out.cell 6 (.int .i64 0) rfl
          have nf6 := HZ.out.free 6
          have nc7 := HZ.out.cell 7 (.slice none 0 0) rfl
          have nf7 := HZ.out.free 7
          have hq0 := ((((((((HZ.out.set 0 (.int .i64 st)).set 1 (.string re)).set 2 (.int .i64 mi)).set 3 (.slice ua M.length uc)).set 4 (.string (bs bl))).set 5 (.int .i64 asked)).set 6 (.int .i64 got)).set 7 (.slice vA vn vc))
          simp only [List.setIfInBounds_toArray, List.set_cons_zero, List.set_cons_succ] at hq0
          have HQ0 := Lib.hid hq0; clear hq0
          have hE9 := ((((((((HEE.out.setCell (p := ⟨g, 0, none⟩) HGL.out (.int .i64 st)).setCell (p := ⟨g, 1, none⟩) HGL.out (.string re)).setCell (p := ⟨g, 2, none⟩) HGL.out (.int .i64 mi)).setCell (p := ⟨g, 3, none⟩) HGL.out (.slice ua M.length uc)).setCell (p := ⟨g, 4, none⟩) HGL.out (.string (bs bl))).setCell (p := ⟨g, 5, none⟩) HGL.out (.int .i64 asked)).setCell (p := ⟨g, 6, none⟩) HGL.out (.int .i64 got)).setCell (p := ⟨g, 7, none⟩) HGL.out (.slice vA vn vc))
          have HE9 := Lib.hid hE9; clear hE9
          have HU9 : Hid (FL ((((((((z2.setCell ⟨g, 0, none⟩ (.int .i64 st)).setCell ⟨g, 1, none⟩ (.string re)).setCell ⟨g, 2, none⟩ (.int .i64 mi)).setCell ⟨g, 3, none⟩ (.slice ua M.length uc)).setCell ⟨g, 4, none⟩ (.string (bs bl))).setCell ⟨g, 5, none⟩ (.int .i64 asked)).setCell ⟨g, 6, none⟩ (.int .i64 got)).setCell ⟨g, 7, none⟩ (.slice vA vn vc)) (.slice ua M.length uc) M) := FL_apart HU.out (fun b hb => by have hne := HUB.out b hb; repeat rw [Below.heap_setCell _ _ _ _ (by simpa using hne)]) (by simp [World.setCell])
          refine growS_call (by rfl) (fun K hK => ?_)
          go_simp
          refine hK.out _ _ HE9.out ?_
          clear hK K
          refine growS_done (NoPanic.normal ?_)
          exact ⟨g, ua, uc, rfl, rfl, HQ0.out, HU9.out, HE9.out⟩
        · go_simp
          have hd1 : Below C.heap.size C (C.alloc (.cells #[.int .i64 0, .string ⟨#[]⟩, .int .i64 0, .slice none 0 0, .string ⟨#[]⟩, .int .i64 0, .int .i64 0, .slice none 0 0] 28)).drew := ((Below.refl _ _).alloc (Nat.le_refl _) _).drew
          have hz1 := (dbk.new C #[.int .i64 0, .string ⟨#[]⟩, .int .i64 0, .slice none 0 0, .string ⟨#[]⟩, .int .i64 0, .int .i64 0, .slice none 0 0] 28).below ((Below.refl _ _).drew : Below (C.alloc (.cells #[.int .i64 0, .string ⟨#[]⟩, .int .i64 0, .slice none 0 0, .string ⟨#[]⟩, .int .i64 0, .int .i64 0, .slice none 0 0] 28)).heap.size (C.alloc (.cells #[.int .i64 0, .string ⟨#[]⟩, .int .i64 0, .slice none 0 0, .string ⟨#[]⟩, .int .i64 0, .int .i64 0, .slice none 0 0] 28)) (C.alloc (.cells #[.int .i64 0, .string ⟨#[]⟩, .int .i64 0, .slice none 0 0, .string ⟨#[]⟩, .int .i64 0, .int .i64 0, .slice none 0 0] 28)).drew)
          refine hK.out _ _ hd1 ?_
          have HEE1 := Lib.hid hd1; have HZ1 := Lib.hid hz1
          clear hK K hd1 hz1
          generalize (C.alloc (.cells #[.int .i64 0, .string ⟨#[]⟩, .int .i64 0, .slice none 0 0, .string ⟨#[]⟩, .int .i64 0, .int .i64 0, .slice none 0 0] 28)).drew = z1 at *
          refine growS_call (by rfl) (fun K hK => ?_)
          go_simp
          refine (HWI.out _ HEE1.out).mono ?_
          rintro e z2 ⟨ua, uc, rfl, ho, hd2, hb⟩
          have hE2 : Below C.heap.size C z2 := HEE1.out.trans (hb.mono HEE1.out.size)
          have HU := Lib.hid ho; have HZ := Lib.hid (HZ1.out.below hb); have HEE := Lib.hid hE2; have HGL : Hid (C.heap.size ≤ C.heap.size) := Nat.le_refl _
          have HUB : Hid (∀ b, (Value.slice ua M.length uc).ownBlock = some b → b ≠ C.heap.size) := fun b hb => by have h1 := (hd2 b hb).1; have h2 := HZ1.out.lt; omega
          refine hK.out _ _ hE2 ?_
          clear hK K ho hb hE2 hd2 HZ1 HEE1
          have nc0 := HZ.out.cell 0 (.int .i64 0) rfl
          have nf0 := HZ.out.free 0
          have nc1 := HZ.out.cell 1 (.string ⟨#[]⟩) rfl
          have nf1 := HZ.out.free 1
          have nc2 := HZ.out.cell 2 (.int .i64 0) rfl
          have nf2 := HZ.out.free 2
          have nc3 := HZ.out.cell 3 (.slice none 0 0) rfl
          have nf3 := HZ.out.free 3
          have nc4 := HZ.out.cell 4 (.string ⟨#[]⟩) rfl
          have nf4 := HZ.out.free 4
          have nc5 := HZ.out.cell 5 (.int .i64 0) rfl
          have nf5 := HZ.out.free 5
          have nc6 := HZ.out.cell 6 (.int .i64 0) rfl
          have nf6 := HZ.out.free 6
          have nc7 := HZ.out.cell 7 (.slice none 0 0) rfl
          have nf7 := HZ.out.free 7
          have hq0 := ((((((((HZ.out.set 0 (.int .i64 st)).set 1 (.string re)).set 2 (.int .i64 mi)).set 3 (.slice ua M.length uc)).set 4 (.string (bs bl))).set 5 (.int .i64 asked)).set 6 (.int .i64 got)).set 7 (.slice vA vn vc))
          simp only [List.setIfInBounds_toArray, List.set_cons_zero, List.set_cons_succ] at hq0
          have HQ0 := Lib.hid hq0; clear hq0
          have hE9 := ((((((((HEE.out.setCell (p := ⟨C.heap.size, 0, none⟩) HGL.out (.int .i64 st)).setCell (p := ⟨C.heap.size, 1, none⟩) HGL.out (.string re)).setCell (p := ⟨C.heap.size, 2, none⟩) HGL.out (.int .i64 mi)).setCell (p := ⟨C.heap.size, 3, none⟩) HGL.out (.slice ua M.length uc)).setCell (p := ⟨C.heap.size, 4, none⟩) HGL.out (.string (bs bl))).setCell (p := ⟨C.heap.size, 5, none⟩) HGL.out (.int .i64 asked)).setCell (p := ⟨C.heap.size, 6, none⟩) HGL.out (.int .i64 got)).setCell (p := ⟨C.heap.size, 7, none⟩) HGL.out (.slice vA vn vc))
          have HE9 := Lib.hid hE9; clear hE9
          have HU9 : Hid (FL ((((((((z2.setCell ⟨C.heap.size, 0, none⟩ (.int .i64 st)).setCell ⟨C.heap.size, 1, none⟩ (.string re)).setCell ⟨C.heap.size, 2, none⟩ (.int .i64 mi)).setCell ⟨C.heap.size, 3, none⟩ (.slice ua M.length uc)).setCell ⟨C.heap.size, 4, none⟩ (.string (bs bl))).setCell ⟨C.heap.size, 5, none⟩ (.int .i64 asked)).setCell ⟨C.heap.size, 6, none⟩ (.int .i64 got)).setCell ⟨C.heap.size, 7, none⟩ (.slice vA vn vc)) (.slice ua M.length uc) M) := FL_apart HU.out (fun b hb => by have hne := HUB.out b hb; repeat rw [Below.heap_setCell _ _ _ _ (by simpa using hne)]) (by simp [World.setCell])
          refine growS_call (by rfl) (fun K hK => ?_)
          go_simp
          refine hK.out _ _ HE9.out ?_
          clear hK K
          refine growS_done (NoPanic.normal ?_)
          exact ⟨C.heap.size, ua, uc, rfl, rfl, HQ0.out, HU9.out, HE9.out⟩
      case h2 =>
      rintro g ua uc W1 ⟨hg, hu, hb⟩
      have HG := Lib.hid hg; have HU := Lib.hid hu; have HB1 := Lib.hid hb
      clear hg hu hb HV1 HV2 HWI HE1
      try simp only [Exit.then]
      go_upto_region 16 with fail
      go_cut [12] (fun v wx => ∃ o : Bool, v = .bool o ∧ ∃ W, W = wx ∧ Below W1.heap.size W1 W)
      case first =>
        by_cases hk2 : k = 2
        · subst hk2
          have hz := HCL.out.trans (HB1.out.mono HCL.out.size)
          obtain ⟨a0, a1, a2⟩ := (HA.out.below hz).threeI
          obtain ⟨y0, y1, y2, y3, y4, y5, y6, y7⟩ := (HE.out.below hz).eight
          have HZ := Lib.hid hz; clear hz
          cases hdv : ((bs dev).toList == [])
          · go_wp2_with fail
            refine (HVA.out _ HZ.out).mono ?_
            rintro e w5 ⟨u5, rfl, ho, hb⟩
            obtain ⟨uA, u5c, rfl⟩ := ho.sl.form
            clear ho
            by_cases hvn : (0 : Int) < ((valsL l scN).length : Int)
            · go_wp2_with fail
              go_meet
              exact ⟨_, rfl, _, rfl, hb⟩
            · go_wp2_with fail
              go_meet
              exact ⟨_, rfl, _, rfl, hb⟩
          · go_wp2_with fail
            go_meet
            exact ⟨_, rfl, _, rfl, Below.refl _ _⟩
        · have hkb : ((k : Int) == 2) = false := by
            rw [beq_eq_false_iff_ne]
            omega
          go_wp2_with fail
          go_meet
          exact ⟨_, rfl, _, rfl, Below.refl _ _⟩
      case rest =>
      obtain ⟨o, rfl, W2, rfl, hb⟩ := hcut
      have HB2 := Lib.hid (HB1.out.trans (hb.mono HB1.out.size))
      have HU2 := Lib.hid (HU.out.bel hb)
      obtain ⟨x0, x1, x2, x3, x4, x5, x6, x7⟩ := (HG.out.below hb).eight
      obtain ⟨a0, a1, a2⟩ := (HA.out.below (HCL.out.trans (HB2.out.mono HCL.out.size))).threeI
      clear hb HB1 HU HG
      go_wp2_with fail
      refine (HMY.out _ _ _ HB2.out HU2.out).mono ?_
      rintro e w6 ⟨rfl, hb⟩
      have HB3 := Lib.hid (HBL.out.trans ((HB2.out.trans (hb.mono HB2.out.size)).mono HBL.out.size))
      clear hb HMY HU2 x0 x1 x2 x3 x4 x5 x6 x7 a0 a1 a2
      go_wp2_with fail
      go_roundw
      case rel => exact ⟨k + 1, by omega, by go_num, HB3.out⟩
      case measure => simp [intOf]; omega
    · obtain rfl : k = 4 := by omega
      clear HMY0 HNEV HVA
      -- one more no-store asked for
      obtain ⟨a0, a1, a2⟩ := (HA.out.below HCL.out).threeI
      have HQQ := Lib.hid (HQ0.out C HCL.out)
      have hnv := HNV.out.bel HBL.out
      go_upto_region 21 with (at_builtin; refine wpList_appFF rfl (.tmp 149) (.tmp 151) rfl C.heap.size C.heap.size _ _ [] q rfl (ownF_nil C _) (Below.refl C.heap.size C) (Nat.le_refl _) (Nat.le_refl _) rfl HQQ.out (by simp; omega) ?_; intro v5 w5 HO5 HB5 HK5 HS5; (have HO5b : Hid (ownF w5 C.heap.size v5 q) := HO5.out); clear HO5; (obtain ⟨A5, c5, rfl⟩ := HO5b.out.form))
      clear a0 a1 a2 HQQ HK5 HS5
      obtain ⟨b, off, hsl, hbb, hc1, hc2⟩ := (hnv.bel HB5.out).get 0 (by decide)
      obtain ⟨rfl, rfl⟩ : gn = b ∧ off = 0 := by
        have h1 := Option.some.inj hsl
        injection h1 with h3 h4
        exact ⟨h3, h4.symm⟩
      clear hsl hbb
      simp only [Nat.zero_mul, Nat.add_zero, Nat.zero_add] at hc1 hc2
      replace hc1 : w5.cell? ⟨gn, 0, none⟩ = some (.string ⟨#[67, 97, 99, 104, 101, 45, 67, 111, 110, 116, 114, 111, 108]⟩) := hc1
      replace hc2 : w5.cell? ⟨gn, 1, none⟩ = some (.string ⟨#[110, 111, 45, 115, 116, 111, 114, 101]⟩) := hc2
      obtain ⟨Q7, hQ7⟩ : ∃ Q7, Q7 = q ++ [(CcN, nosN)] := ⟨_, rfl⟩
      rw [← hQ7] at HMQ
      have HQ7 := Lib.hid hQ7; clear hQ7
      have hal : Below w5.heap.size w5 (w5.alloc (.cells #[.string ⟨#[67, 97, 99, 104, 101, 45, 67, 111, 110, 116, 114, 111, 108]⟩, .string ⟨#[110, 111, 45, 115, 116, 111, 114, 101]⟩] 34)) := (Below.refl _ _).alloc (Nat.le_refl _) _
      have hl1 : FL (w5.alloc (.cells #[.string ⟨#[67, 97, 99, 104, 101, 45, 67, 111, 110, 116, 114, 111, 108]⟩, .string ⟨#[110, 111, 45, 115, 116, 111, 114, 101]⟩] 34)) (.slice (some ⟨w5.heap.size, 0, none⟩) 1 1) [(CcN, nosN)] := FL_lit w5 (CcN, nosN)
      have HL1 := Lib.hid hl1; have HO6 := Lib.hid (HO5b.out.bel hal); have HB6 := Lib.hid (HB5.out.trans (hal.mono HB5.out.size))
      clear hl1 hal HO5b HB5 hnv
      go_upto_region 22 with (at_builtin; refine wpList_appFF rfl (.tmp 153) (.tmp 157) rfl C.heap.size C.heap.size _ _ q [(CcN, nosN)] rfl HO6.out HB6.out (Nat.le_refl _) HB6.out.size rfl HL1.out (by simp; omega) ?_; intro v7 w7 HO7 HB7 HK7 HS7; rw [← HQ7.out] at HO7; (obtain ⟨A7, c7, rfl⟩ := HO7.out.form))
      clear hc1 hc2 HL1 HO6 HB6 HK7 HS7
      have HCQ := Lib.hid (HCL.out.trans (HB7.out.mono HCL.out.size))
      have HO8 := Lib.hid HO7.out.fl
      clear HO7
      obtain ⟨a0, a1, a2⟩ := (HA.out.below HCQ.out).threeI
      obtain ⟨y0, y1, y2, y3, y4, y5, y6, y7⟩ := (HE.out.below HCQ.out).eight
      go_wp2_with fail
      refine (HMQ.out _ _ _ HCQ.out HO8.out).mono ?_
      rintro e w8 ⟨rfl, hb⟩
      replace HCQ := Lib.hid (HCQ.out.trans (hb.mono HCQ.out.size))
      clear hb HO8 HB7 HMQ a0 a1 a2 y0 y1 y2 y3 y4 y5 y6 y7
      -- does the field's name count?
      have f0 := (HF.out.below HCQ.out).cell 0 (.string (bs f.1)) rfl
      have f1 := (HF.out.below HCQ.out).cell 1 (.string (bs f.2)) rfl
      have ha1 : Below w8.heap.size w8 (w8.alloc (.cells #[.string (bs f.1), .string (bs f.2)] 34)) := (Below.refl _ _).alloc (Nat.le_refl _) _
      have ha2 := ha1.alloc ha1.size (.cells #[.string ⟨#[99, 97, 99, 104, 101, 45, 99, 111, 110, 116, 114, 111, 108]⟩, .string ⟨#[115, 117, 114, 114, 111, 103, 97, 116, 101, 45, 99, 111, 110, 116, 114, 111, 108]⟩, .string ⟨#[118, 97, 114, 121]⟩, .string ⟨#[101, 116, 97, 103]⟩, .string ⟨#[108, 97, 115, 116, 45, 109, 111, 100, 105, 102, 105, 101, 100]⟩, .string ⟨#[101, 120, 112, 105, 114, 101, 115]⟩, .string ⟨#[100, 97, 116, 101]⟩] 9)
      have hone := (FL_lit w8 f).bel ((Below.refl _ _).alloc (Nat.le_refl _) (.cells #[.string ⟨#[99, 97, 99, 104, 101, 45, 99, 111, 110, 116, 114, 111, 108]⟩, .string ⟨#[115, 117, 114, 114, 111, 103, 97, 116, 101, 45, 99, 111, 110, 116, 114, 111, 108]⟩, .string ⟨#[118, 97, 114, 121]⟩, .string ⟨#[101, 116, 97, 103]⟩, .string ⟨#[108, 97, 115, 116, 45, 109, 111, 100, 105, 102, 105, 101, 100]⟩, .string ⟨#[101, 120, 112, 105, 114, 101, 115]⟩, .string ⟨#[100, 97, 116, 101]⟩] 9))
      have hcnt : SL ((w8.alloc (.cells #[.string (bs f.1), .string (bs f.2)] 34)).alloc (.cells #[.string ⟨#[99, 97, 99, 104, 101, 45, 99, 111, 110, 116, 114, 111, 108]⟩, .string ⟨#[115, 117, 114, 114, 111, 103, 97, 116, 101, 45, 99, 111, 110, 116, 114, 111, 108]⟩, .string ⟨#[118, 97, 114, 121]⟩, .string ⟨#[101, 116, 97, 103]⟩, .string ⟨#[108, 97, 115, 116, 45, 109, 111, 100, 105, 102, 105, 101, 100]⟩, .string ⟨#[101, 120, 112, 105, 114, 101, 115]⟩, .string ⟨#[100, 97, 116, 101]⟩] 9)) (.slice (some ⟨(w8.alloc (.cells #[.string (bs f.1), .string (bs f.2)] 34)).heap.size, 0, none⟩) 7 7) countN := SL_litsS (w8.alloc (.cells #[.string (bs f.1), .string (bs f.2)] 34)) countN
      have hdel := del_any _ _ [f] countN _ hone hcnt (fun j hj => by have : j = 0 := by simpa using hj
                                                                      subst this
                                                                      show f.1.length ≤ _ ∧ f.2.length ≤ _
                                                                      omega) (by simp) (by decide) (by decide)
      simp only [World.size_alloc] at hdel
      rw [del_one] at hdel
      unfold RetF at hdel
      have HDEL := Lib.hid hdel; have HCR := Lib.hid (HCQ.out.trans (ha2.mono HCQ.out.size)); have HA2 := Lib.hid ha2
      clear hdel hone hcnt ha1 ha2
      have HMO1 := HMO2; clear HMO2
      cases hcn : hasN countN f.1
      · rw [hcn, if_neg (by decide)] at HDEL
        have hsame := HMO1.out hcn
        rw [hsame] at HMO0
        clear hsame hcn HMO1
        go_wp2_with fail
        refine HDEL.out.mono ?_
        rintro e w9 ⟨u9, rfl, ho, hb⟩
        obtain ⟨A9, c9, rfl⟩ := ho.fl.form
        replace HCR := Lib.hid (HCR.out.trans (hb.mono HCR.out.size))
        clear ho hb HDEL f0 f1 HCQ HA2
        go_wp2_with fail
        obtain ⟨C, hCx⟩ : ∃ C, C = w9 := ⟨_, rfl⟩
        subst hCx
        have HC := HCR
        have HWF := Lib.hid fun W (hb : Below C.heap.size C W) => HWI0.out W f (HC.out.trans (hb.mono HC.out.size))
        have HMO := Lib.hid fun W ua uc (hb : Below C.heap.size C W) hu => HMO0.out W ua uc (HC.out.trans (hb.mono HC.out.size)) hu
        have HWK1 := Lib.hid fun W (hb : Below C.heap.size C W) => HWK0.out W (HC.out.trans (hb.mono HC.out.size))
        clear HWI0 HMO0 HWK0 HCR HMA HNV HBL HC4 HQ0
        obtain ⟨M, hM⟩ : ∃ M, M = l ++ [f] := ⟨_, rfl⟩
        rw [← hM] at HWF HMO
        clear hM
        cases N
        ·
          refine wp_region_growS (.one 0 false (.one 1 false (.one 2 false (.one 3 false (.one 4 false (.one 5 false (.one 7 false (.one 8 false (.one 10 false (.one 6 true (.one 9 true (.one 11 false (.one 12 false (.one 13 true (.one 14 false (.one 15 false .done))))))))))))))))
            (fun W => Below C.heap.size C W) (by kernel_rfl) (by kernel_rfl) rfl (by kernel_rfl) (by kernel_rfl) ((Below.refl _ _).drew) (fun ops hops => ?_)
          simp only [GT.ins, List.getD_cons_zero, List.getD_cons_succ]
          have g12 : (ops[12]?).bind (·.dst) = some 187 := by rw [hops.out]; rfl
          have G12 := Lib.hid g12
          clear hops g12
          iterate 9
            refine growS_take (by rfl) ?_
            apply Exists.intro
            refine ⟨fun w' hE => ?_, ?_⟩
            · obtain ⟨a0, a1, a2⟩ := (HA.out.below (HC.out.trans (hE.mono HC.out.size))).threeI; obtain ⟨y0, y1, y2, y3, y4, y5, y6, y7⟩ := (HE.out.below (HC.out.trans (hE.mono HC.out.size))).eight; have f0 := (HF.out.below (HC.out.trans (hE.mono HC.out.size))).cell 0 (.string (bs f.1)) rfl; have f1 := (HF.out.below (HC.out.trans (hE.mono HC.out.size))).cell 1 (.string (bs f.2)) rfl
              go_simp
              try with_reducible rfl
            simp only [Act.put, List.setIfInBounds_toArray, List.set_cons_zero, List.set_cons_succ]
          refine growS_call (by rfl) (fun K hK => ?_)
          go_simp
          refine (HWF.out _ ((Below.refl _ _).drew : Below C.heap.size C C.drew)).mono ?_
          rintro e x1 ⟨ua, uc, rfl, ho, _, hb⟩
          have hz : Below C.heap.size C x1 := ((Below.refl _ _).drew : Below C.heap.size C C.drew).trans (hb.mono ((Below.refl _ _).drew : Below C.heap.size C C.drew).size)
          have HZ1 := Lib.hid hz; have HO := Lib.hid ho
          refine hK.out _ _ hz ?_
          clear hK K hb hz ho
          refine growS_call (by rfl) (fun K hK => ?_)
          go_simp
          refine (HMO.out _ _ _ HZ1.out HO.out).mono ?_
          rintro e x2 ⟨rfl, hb⟩
          have hz : Below C.heap.size C x2 := HZ1.out.trans (hb.mono HZ1.out.size)
          have HZ2 := Lib.hid hz
          refine hK.out _ _ hz ?_
          clear hK K hb hz
          iterate 2
            refine growS_take (by rfl) ?_
            apply Exists.intro
            refine ⟨fun w' hE => ?_, ?_⟩
            · obtain ⟨a0, a1, a2⟩ := (HA.out.below (HC.out.trans (hE.mono HC.out.size))).threeI; obtain ⟨y0, y1, y2, y3, y4, y5, y6, y7⟩ := (HE.out.below (HC.out.trans (hE.mono HC.out.size))).eight; have f0 := (HF.out.below (HC.out.trans (hE.mono HC.out.size))).cell 0 (.string (bs f.1)) rfl; have f1 := (HF.out.below (HC.out.trans (hE.mono HC.out.size))).cell 1 (.string (bs f.2)) rfl
              go_simp
              try with_reducible rfl
            simp only [Act.put, List.setIfInBounds_toArray, List.set_cons_zero, List.set_cons_succ]
          refine growS_call (wantedS G12.out rfl rfl) (fun K hK => ?_)
          go_simp
          refine (HWK1.out _ HZ2.out).mono ?_
          rintro e x3 ⟨rfl, hb⟩
          have hz : Below C.heap.size C x3 := HZ2.out.trans (hb.mono HZ2.out.size)
          have HZ3 := Lib.hid hz
          refine hK.out _ _ hz ?_
          clear hK K hb hz
          iterate 2
            refine growS_take (by rfl) ?_
            apply Exists.intro
            refine ⟨fun w' hE => ?_, ?_⟩
            · obtain ⟨a0, a1, a2⟩ := (HA.out.below (HC.out.trans (hE.mono HC.out.size))).threeI; obtain ⟨y0, y1, y2, y3, y4, y5, y6, y7⟩ := (HE.out.below (HC.out.trans (hE.mono HC.out.size))).eight; have f0 := (HF.out.below (HC.out.trans (hE.mono HC.out.size))).cell 0 (.string (bs f.1)) rfl; have f1 := (HF.out.below (HC.out.trans (hE.mono HC.out.size))).cell 1 (.string (bs f.2)) rfl
              go_simp
              try with_reducible rfl
            simp only [Act.put, List.setIfInBounds_toArray, List.set_cons_zero, List.set_cons_succ]
          refine growS_done (NoPanic.normal ?_)
          try simp only [Exit.then]
          go_wp2_with fail
          go_ret
          exact ⟨rfl, HX.out.trans ((HC.out.trans (HZ3.out.mono HC.out.size)).mono HX.out.size)⟩
        ·
          refine wp_region_growS (.one 0 false (.one 1 false (.one 2 false (.one 3 false (.one 4 false (.one 5 false (.one 7 false (.one 8 false (.one 10 false (.one 6 true (.one 9 true (.one 11 false (.one 12 false (.one 13 true (.one 14 false (.one 15 false .done))))))))))))))))
            (fun W => Below C.heap.size C W) (by kernel_rfl) (by kernel_rfl) rfl (by kernel_rfl) (by kernel_rfl) ((Below.refl _ _).drew) (fun ops hops => ?_)
          simp only [GT.ins, List.getD_cons_zero, List.getD_cons_succ]
          have g12 : (ops[12]?).bind (·.dst) = some 187 := by rw [hops.out]; rfl
          have G12 := Lib.hid g12
          clear hops g12
          iterate 9
            refine growS_take (by rfl) ?_
            apply Exists.intro
            refine ⟨fun w' hE => ?_, ?_⟩
            · obtain ⟨a0, a1, a2⟩ := (HA.out.below (HC.out.trans (hE.mono HC.out.size))).threeI; obtain ⟨y0, y1, y2, y3, y4, y5, y6, y7⟩ := (HE.out.below (HC.out.trans (hE.mono HC.out.size))).eight; have f0 := (HF.out.below (HC.out.trans (hE.mono HC.out.size))).cell 0 (.string (bs f.1)) rfl; have f1 := (HF.out.below (HC.out.trans (hE.mono HC.out.size))).cell 1 (.string (bs f.2)) rfl
              go_simp
              try with_reducible rfl
            simp only [Act.put, List.setIfInBounds_toArray, List.set_cons_zero, List.set_cons_succ]
          refine growS_call (by rfl) (fun K hK => ?_)
          go_simp
          refine (HWF.out _ ((Below.refl _ _).drew : Below C.heap.size C C.drew)).mono ?_
          rintro e x1 ⟨ua, uc, rfl, ho, _, hb⟩
          have hz : Below C.heap.size C x1 := ((Below.refl _ _).drew : Below C.heap.size C C.drew).trans (hb.mono ((Below.refl _ _).drew : Below C.heap.size C C.drew).size)
          have HZ1 := Lib.hid hz; have HO := Lib.hid ho
          refine hK.out _ _ hz ?_
          clear hK K hb hz ho
          refine growS_call (by rfl) (fun K hK => ?_)
          go_simp
          refine (HMO.out _ _ _ HZ1.out HO.out).mono ?_
          rintro e x2 ⟨rfl, hb⟩
          have hz : Below C.heap.size C x2 := HZ1.out.trans (hb.mono HZ1.out.size)
          have HZ2 := Lib.hid hz
          refine hK.out _ _ hz ?_
          clear hK K hb hz
          iterate 2
            refine growS_take (by rfl) ?_
            apply Exists.intro
            refine ⟨fun w' hE => ?_, ?_⟩
            · obtain ⟨a0, a1, a2⟩ := (HA.out.below (HC.out.trans (hE.mono HC.out.size))).threeI; obtain ⟨y0, y1, y2, y3, y4, y5, y6, y7⟩ := (HE.out.below (HC.out.trans (hE.mono HC.out.size))).eight; have f0 := (HF.out.below (HC.out.trans (hE.mono HC.out.size))).cell 0 (.string (bs f.1)) rfl; have f1 := (HF.out.below (HC.out.trans (hE.mono HC.out.size))).cell 1 (.string (bs f.2)) rfl
              go_simp
              try with_reducible rfl
            simp only [Act.put, List.setIfInBounds_toArray, List.set_cons_zero, List.set_cons_succ]
          refine growS_call (wantedS G12.out rfl rfl) (fun K hK => ?_)
          go_simp
          refine (HWK1.out _ HZ2.out).mono ?_
          rintro e x3 ⟨rfl, hb⟩
          have hz : Below C.heap.size C x3 := HZ2.out.trans (hb.mono HZ2.out.size)
          have HZ3 := Lib.hid hz
          refine hK.out _ _ hz ?_
          clear hK K hb hz
          iterate 2
            refine growS_take (by rfl) ?_
            apply Exists.intro
            refine ⟨fun w' hE => ?_, ?_⟩
            · obtain ⟨a0, a1, a2⟩ := (HA.out.below (HC.out.trans (hE.mono HC.out.size))).threeI; obtain ⟨y0, y1, y2, y3, y4, y5, y6, y7⟩ := (HE.out.below (HC.out.trans (hE.mono HC.out.size))).eight; have f0 := (HF.out.below (HC.out.trans (hE.mono HC.out.size))).cell 0 (.string (bs f.1)) rfl; have f1 := (HF.out.below (HC.out.trans (hE.mono HC.out.size))).cell 1 (.string (bs f.2)) rfl
              go_simp
              try with_reducible rfl
            simp only [Act.put, List.setIfInBounds_toArray, List.set_cons_zero, List.set_cons_succ]
          refine growS_done (NoPanic.normal ?_)
          try simp only [Exit.then]
          go_wp2_with fail
          go_ret
          exact ⟨rfl, HX.out.trans ((HC.out.trans (HZ3.out.mono HC.out.size)).mono HX.out.size)⟩
      · rw [hcn, if_pos rfl] at HDEL
        clear hcn HMO1 HMO0
        go_wp2_with fail
        refine HDEL.out.mono ?_
        rintro e w9 ⟨u9, rfl, ho, hb⟩
        obtain ⟨A9, c9, rfl⟩ := ho.fl.form
        replace HCR := Lib.hid (HCR.out.trans (hb.mono HCR.out.size))
        clear ho hb HDEL f0 f1 HCQ HA2
        go_wp2_with fail
        refine (HWK0.out _ HCR.out).mono ?_
        rintro e w10 ⟨rfl, hb⟩
        replace HCR := Lib.hid (HCR.out.trans (hb.mono HCR.out.size))
        clear hb
        go_wp2_with fail
        go_ret
        exact ⟨rfl, HX.out.trans (HCR.out.mono HX.out.size)⟩
end Go.Proofs.YtfobjaccpnondaaGreatDoor
