/- The bytes of any request, and of any reply, are the document's: the statements' own walks. -/
import Derived.Test.YtgkjjmcjlobbpaaGreatDoorKMsgI
import Derived.Test.YtgkjjmcjlobbpaaGreatDoorKMsgM
import Derived.Test.YtgkjjmcjlobbpaaGreatDoorKOpen
namespace Go.Proofs.YtgkjjmcjlobbpaaGreatDoor
open Go.RowKit

set_option maxHeartbeats 4000000 in
set_option maxRecDepth 100000 in
theorem messageAsks_any (m t : List UInt8) (n : Int) (vs : Value) (l : List Fld) (b : List UInt8) (w : World) (he : EnvM w) (h : FL w vs l) (hbig : bigF l) :
    Calls Tryz.prog 4 #[.agg #[.string (bs m), .string (bs t), .int .i64 n, vs, .string (bs b)]] w fun e w' => e = .returned (.bool true) ∧ Below w.heap.size w w' := by
  obtain ⟨A, c, rfl⟩ := h.form
  have hal : Below w.heap.size w (w.alloc (.cells #[.string (bs m), .string (bs t), .int .i64 n, .slice A l.length c, .string (bs b)] 25)) := (Below.refl _ _).alloc (Nat.le_refl _) _
  have hp := blk.new w #[.string (bs m), .string (bs t), .int .i64 n, .slice A l.length c, .string (bs b)] 25
  have a0 := hp.cell 0 _ rfl
  have a1 := hp.cell 1 _ rfl
  have a2 := hp.cell 2 _ rfl
  have a3 := hp.cell 3 _ rfl
  have a4 := hp.cell 4 _ rfl
  have hfw := few_any _ l (bs b) (w.alloc (.cells #[.string (bs m), .string (bs t), .int .i64 n, .slice A l.length c, .string (bs b)] 25)) (h.bel hal) hbig.1 hbig.2
  rw [bs_size] at hfw
  have HAL := Lib.hid hal; have HP := Lib.hid hp; have HFL := Lib.hid (h.bel hal); have HE := Lib.hid he
  by_cases hf : fewM l b.length = true
  · rw [hf] at hfw
    have HFW := Lib.hid hfw
    have hfm : fewB l = true ∧ b.length ≤ 3000 := by
      unfold fewM at hf
      rw [Bool.and_eq_true, decide_eq_true_eq] at hf
      exact hf
    obtain ⟨g1, g2, g3⟩ := few_small hfm.1
    clear hfw hp hal h hbig
    by_cases hm : 3000 < m.length
    · clear hf hfm g1 g2 g3
      go_enter Tryz.func4, Tryz.ntmps4
      go_wp2_with fail
      refine HFW.out.mono ?_
      rintro e w1 ⟨rfl, hb1⟩
      have HB1 := Lib.hid (HAL.out.trans (hb1.mono HAL.out.size))
      have hp1 := HP.out.below hb1
      have d0 := hp1.cell 0 _ rfl
      have d1 := hp1.cell 1 _ rfl
      have d2 := hp1.cell 2 _ rfl
      have d3 := hp1.cell 3 _ rfl
      have d4 := hp1.cell 4 _ rfl
      have HP1 := Lib.hid hp1; have HFL1 := Lib.hid (HFL.out.bel hb1)
      clear hb1 hp1
      go_wp2_with fail
      refine (works_any _ (HE.out.bel HB1.out)).mono ?_
      rintro e w2 ⟨rfl, hb2⟩
      have HB2 := Lib.hid (HB1.out.trans (hb2.mono HB1.out.size))
      clear hb2
      go_wp2_with fail
      go_ret
      exact ⟨rfl, HB2.out⟩
    · skip
      by_cases ht : 3000 < t.length
      · clear hf hfm g1 g2 g3
        go_enter Tryz.func4, Tryz.ntmps4
        go_wp2_with fail
        refine HFW.out.mono ?_
        rintro e w1 ⟨rfl, hb1⟩
        have HB1 := Lib.hid (HAL.out.trans (hb1.mono HAL.out.size))
        have hp1 := HP.out.below hb1
        have d0 := hp1.cell 0 _ rfl
        have d1 := hp1.cell 1 _ rfl
        have d2 := hp1.cell 2 _ rfl
        have d3 := hp1.cell 3 _ rfl
        have d4 := hp1.cell 4 _ rfl
        have HP1 := Lib.hid hp1; have HFL1 := Lib.hid (HFL.out.bel hb1)
        clear hb1 hp1
        go_wp2_with fail
        refine (works_any _ (HE.out.bel HB1.out)).mono ?_
        rintro e w2 ⟨rfl, hb2⟩
        have HB2 := Lib.hid (HB1.out.trans (hb2.mono HB1.out.size))
        clear hb2
        go_wp2_with fail
        go_ret
        exact ⟨rfl, HB2.out⟩
      · skip
        have HP1c : Hid (∀ W, Below w.heap.size w W → FL W (.slice A l.length c) l → Calls Tryz.prog 18 #[.agg #[.string (bs m), .string (bs t), .int .i64 n, .slice A l.length c, .string (bs b)]] W fun e w' => e = .returned (.tuple #[.string (bs (putQ m t n l b).1), .int .i64 (putQ m t n l b).2]) ∧ Below W.heap.size W w') :=
          fun W hb hfl => msgPutQ_any m t b n _ l W (he.bel hb) hfl g3 (by omega) (by omega) (by omega) (by omega)
        have HP2c : Hid (∀ W, FL W (.slice A l.length c) l → Calls Tryz.prog 19 #[.agg #[.string (bs m), .string (bs t), .int .i64 n, .slice A l.length c, .string (bs b)]] W fun e w' => e = .returned (.tuple #[.string (bs (putQ m t n l b).1), .int .i64 (putQ m t n l b).2]) ∧ Below W.heap.size W w') :=
          fun W hfl => rmsgPutQ_any m t b n _ l W hfl g3 (by omega) (by omega) (by omega) (by omega)
        clear hf hfm g1 g2 g3 he
        generalize putQ m t n l b = p at *
        obtain ⟨p1, p2⟩ := p
        simp only at HP1c HP2c
        go_enter Tryz.func4, Tryz.ntmps4
        go_wp2_with fail
        refine HFW.out.mono ?_
        rintro e w1 ⟨rfl, hb1⟩
        have HB1 := Lib.hid (HAL.out.trans (hb1.mono HAL.out.size))
        have hp1 := HP.out.below hb1
        have d0 := hp1.cell 0 _ rfl
        have d1 := hp1.cell 1 _ rfl
        have d2 := hp1.cell 2 _ rfl
        have d3 := hp1.cell 3 _ rfl
        have d4 := hp1.cell 4 _ rfl
        have HP1 := Lib.hid hp1; have HFL1 := Lib.hid (HFL.out.bel hb1)
        clear hb1 hp1
        go_wp2_with fail
        refine (HP1c.out _ HB1.out HFL1.out).mono ?_
        rintro e w2 ⟨rfl, hb2⟩
        have HB2 := Lib.hid (HB1.out.trans (hb2.mono HB1.out.size))
        have hp2 := HP1.out.below hb2
        have f0 := hp2.cell 0 _ rfl
        have f1 := hp2.cell 1 _ rfl
        have f2 := hp2.cell 2 _ rfl
        have f3 := hp2.cell 3 _ rfl
        have f4 := hp2.cell 4 _ rfl
        have HFL2 := Lib.hid (HFL1.out.bel hb2)
        clear hb2 hp2 d0 d1 d2 d3 d4 HB1 HP1 HFL1
        go_wp2_with fail
        refine (HP2c.out _ HFL2.out).mono ?_
        rintro e w3 ⟨rfl, hb3⟩
        have HB3 := Lib.hid (HB2.out.trans (hb3.mono HB2.out.size))
        clear hb3 f0 f1 f2 f3 f4 HFL2 HB2
        have hss : ((bs p1).toList == (bs p1).toList) = true := by simp
        go_wp2_with fail
        refine (works_any _ (HE.out.bel HB3.out)).mono ?_
        rintro e w4 ⟨rfl, hb4⟩
        have HB4 := Lib.hid (HB3.out.trans (hb4.mono HB3.out.size))
        clear hb4
        go_wp2_with fail
        go_ret
        exact ⟨by simp, HB4.out⟩
  · have hf2 : fewM l b.length = false := by simpa using hf
    rw [hf2] at hfw
    have HFW := Lib.hid hfw
    clear hf hf2 hfw hp hal h hbig he
    go_enter Tryz.func4, Tryz.ntmps4
    go_wp2_with fail
    refine HFW.out.mono ?_
    rintro e w1 ⟨rfl, hb1⟩
    have HB1 := Lib.hid (HAL.out.trans (hb1.mono HAL.out.size))
    have hp1 := HP.out.below hb1
    have d0 := hp1.cell 0 _ rfl
    have d1 := hp1.cell 1 _ rfl
    have d2 := hp1.cell 2 _ rfl
    have d3 := hp1.cell 3 _ rfl
    have d4 := hp1.cell 4 _ rfl
    have HP1 := Lib.hid hp1; have HFL1 := Lib.hid (HFL.out.bel hb1)
    clear hb1 hp1
    go_wp2_with fail
    refine (works_any _ (HE.out.bel HB1.out)).mono ?_
    rintro e w2 ⟨rfl, hb2⟩
    have HB2 := Lib.hid (HB1.out.trans (hb2.mono HB1.out.size))
    clear hb2
    go_wp2_with fail
    go_ret
    exact ⟨rfl, HB2.out⟩

set_option maxHeartbeats 4000000 in
set_option maxRecDepth 100000 in
theorem messageTells_any (c0 : Int) (r : List UInt8) (n : Int) (vs : Value) (l : List Fld) (b : List UInt8) (d : Bool) (w : World) (he : EnvM w) (h : FL w vs l) (hbig : bigF l) :
    Calls Tryz.prog 5 #[.agg #[.int .i64 c0, .string (bs r), .int .i64 n, vs, .string (bs b)], .bool d] w fun e w' => e = .returned (.bool true) ∧ Below w.heap.size w w' := by
  obtain ⟨A, c, rfl⟩ := h.form
  have hal : Below w.heap.size w (w.alloc (.cells #[.int .i64 c0, .string (bs r), .int .i64 n, .slice A l.length c, .string (bs b)] 32)) := (Below.refl _ _).alloc (Nat.le_refl _) _
  have hp := blk.new w #[.int .i64 c0, .string (bs r), .int .i64 n, .slice A l.length c, .string (bs b)] 32
  have a0 := hp.cell 0 _ rfl
  have a1 := hp.cell 1 _ rfl
  have a2 := hp.cell 2 _ rfl
  have a3 := hp.cell 3 _ rfl
  have a4 := hp.cell 4 _ rfl
  have hfw := few_any _ l (bs b) (w.alloc (.cells #[.int .i64 c0, .string (bs r), .int .i64 n, .slice A l.length c, .string (bs b)] 32)) (h.bel hal) hbig.1 hbig.2
  rw [bs_size] at hfw
  have HAL := Lib.hid hal; have HP := Lib.hid hp; have HFL := Lib.hid (h.bel hal); have HE := Lib.hid he
  by_cases hf : fewM l b.length = true
  · rw [hf] at hfw
    have HFW := Lib.hid hfw
    have hfm : fewB l = true ∧ b.length ≤ 3000 := by
      unfold fewM at hf
      rw [Bool.and_eq_true, decide_eq_true_eq] at hf
      exact hf
    obtain ⟨g1, g2, g3⟩ := few_small hfm.1
    clear hfw hp hal h hbig
    by_cases hr : 3000 < r.length
    · clear hf hfm g1 g2 g3
      go_enter Tryz.func5, Tryz.ntmps5
      go_wp2_with fail
      refine HFW.out.mono ?_
      rintro e w1 ⟨rfl, hb1⟩
      have HB1 := Lib.hid (HAL.out.trans (hb1.mono HAL.out.size))
      have hp1 := HP.out.below hb1
      have d0 := hp1.cell 0 _ rfl
      have d1 := hp1.cell 1 _ rfl
      have d2 := hp1.cell 2 _ rfl
      have d3 := hp1.cell 3 _ rfl
      have d4 := hp1.cell 4 _ rfl
      have HP1 := Lib.hid hp1; have HFL1 := Lib.hid (HFL.out.bel hb1)
      clear hb1 hp1
      go_wp2_with fail
      refine (works_any _ (HE.out.bel HB1.out)).mono ?_
      rintro e w2 ⟨rfl, hb2⟩
      have HB2 := Lib.hid (HB1.out.trans (hb2.mono HB1.out.size))
      clear hb2
      go_wp2_with fail
      go_ret
      exact ⟨rfl, HB2.out⟩
    · skip
      have HP1c : Hid (∀ W, Below w.heap.size w W → FL W (.slice A l.length c) l → Calls Tryz.prog 20 #[.agg #[.int .i64 c0, .string (bs r), .int .i64 n, .slice A l.length c, .string (bs b)], .bool d] W fun e w' => e = .returned (.tuple #[.string (bs (putY c0 r n l b d).1), .int .i64 (putY c0 r n l b d).2]) ∧ Below W.heap.size W w') :=
        fun W hb hfl => msgPutY_any c0 n r b d _ l W (he.bel hb) hfl g3 (by omega) (by omega) (by omega)
      have HP2c : Hid (∀ W, FL W (.slice A l.length c) l → Calls Tryz.prog 21 #[.agg #[.int .i64 c0, .string (bs r), .int .i64 n, .slice A l.length c, .string (bs b)], .bool d] W fun e w' => e = .returned (.tuple #[.string (bs (putY c0 r n l b d).1), .int .i64 (putY c0 r n l b d).2]) ∧ Below W.heap.size W w') :=
        fun W hfl => rmsgPutY_any c0 n r b d _ l W hfl g3 (by omega) (by omega) (by omega)
      clear hf hfm g1 g2 g3 he
      generalize putY c0 r n l b d = p at *
      obtain ⟨p1, p2⟩ := p
      simp only at HP1c HP2c
      go_enter Tryz.func5, Tryz.ntmps5
      go_wp2_with fail
      refine HFW.out.mono ?_
      rintro e w1 ⟨rfl, hb1⟩
      have HB1 := Lib.hid (HAL.out.trans (hb1.mono HAL.out.size))
      have hp1 := HP.out.below hb1
      have d0 := hp1.cell 0 _ rfl
      have d1 := hp1.cell 1 _ rfl
      have d2 := hp1.cell 2 _ rfl
      have d3 := hp1.cell 3 _ rfl
      have d4 := hp1.cell 4 _ rfl
      have HP1 := Lib.hid hp1; have HFL1 := Lib.hid (HFL.out.bel hb1)
      clear hb1 hp1
      go_wp2_with fail
      refine (HP1c.out _ HB1.out HFL1.out).mono ?_
      rintro e w2 ⟨rfl, hb2⟩
      have HB2 := Lib.hid (HB1.out.trans (hb2.mono HB1.out.size))
      have hp2 := HP1.out.below hb2
      have f0 := hp2.cell 0 _ rfl
      have f1 := hp2.cell 1 _ rfl
      have f2 := hp2.cell 2 _ rfl
      have f3 := hp2.cell 3 _ rfl
      have f4 := hp2.cell 4 _ rfl
      have HFL2 := Lib.hid (HFL1.out.bel hb2)
      clear hb2 hp2 d0 d1 d2 d3 d4 HB1 HP1 HFL1
      go_wp2_with fail
      refine (HP2c.out _ HFL2.out).mono ?_
      rintro e w3 ⟨rfl, hb3⟩
      have HB3 := Lib.hid (HB2.out.trans (hb3.mono HB2.out.size))
      clear hb3 f0 f1 f2 f3 f4 HFL2 HB2
      have hss : ((bs p1).toList == (bs p1).toList) = true := by simp
      go_wp2_with fail
      refine (works_any _ (HE.out.bel HB3.out)).mono ?_
      rintro e w4 ⟨rfl, hb4⟩
      have HB4 := Lib.hid (HB3.out.trans (hb4.mono HB3.out.size))
      clear hb4
      go_wp2_with fail
      go_ret
      exact ⟨by simp, HB4.out⟩
  · have hf2 : fewM l b.length = false := by simpa using hf
    rw [hf2] at hfw
    have HFW := Lib.hid hfw
    clear hf hf2 hfw hp hal h hbig he
    go_enter Tryz.func5, Tryz.ntmps5
    go_wp2_with fail
    refine HFW.out.mono ?_
    rintro e w1 ⟨rfl, hb1⟩
    have HB1 := Lib.hid (HAL.out.trans (hb1.mono HAL.out.size))
    have hp1 := HP.out.below hb1
    have d0 := hp1.cell 0 _ rfl
    have d1 := hp1.cell 1 _ rfl
    have d2 := hp1.cell 2 _ rfl
    have d3 := hp1.cell 3 _ rfl
    have d4 := hp1.cell 4 _ rfl
    have HP1 := Lib.hid hp1; have HFL1 := Lib.hid (HFL.out.bel hb1)
    clear hb1 hp1
    go_wp2_with fail
    refine (works_any _ (HE.out.bel HB1.out)).mono ?_
    rintro e w2 ⟨rfl, hb2⟩
    have HB2 := Lib.hid (HB1.out.trans (hb2.mono HB1.out.size))
    clear hb2
    go_wp2_with fail
    go_ret
    exact ⟨rfl, HB2.out⟩
theorem messageAsks_law (v : Value) (m t : List UInt8) (n : Int) (vs : Value) (l : List Fld) (b : List UInt8) (w : World) (h : InQ w v m t n vs l b) (hm : MaxL w) (hl : LibM w) :
    Calls Tryz.prog 4 #[v] w fun e w' => e = .returned (.bool true) ∧ Below w.heap.size w w' := by
  have hv := h.eq
  subst hv
  exact messageAsks_any m t n vs l b w (envM hm hl) h.fl h.big
theorem messageTells_law (v : Value) (c0 : Int) (r : List UInt8) (n : Int) (vs : Value) (l : List Fld) (b : List UInt8) (d : Bool) (w : World) (h : InY w v c0 r n vs l b) (hm : MaxL w) (hl : LibM w) :
    Calls Tryz.prog 5 #[v, .bool d] w fun e w' => e = .returned (.bool true) ∧ Below w.heap.size w w' := by
  have hv := h.eq
  subst hv
  exact messageTells_any c0 r n vs l b d w (envM hm hl) h.fl h.big
end Go.Proofs.YtgkjjmcjlobbpaaGreatDoor
