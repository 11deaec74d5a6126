/- The statement EtagAsks. -/
import Derived.Test.YtjbkjmceabilaaaDoorEtagE
import Derived.Test.YtjbkjmceabilaaaDoorKSurF
namespace Go.Proofs.YtjbkjmceabilaaaDoor
open Go.RowKit Go.Shelf

set_option maxRecDepth 100000 in
set_option maxHeartbeats 4000000 in
theorem etagAsks_law (v1 : Value) (l1 : List Fld) (v2 : Value) (l2 : List Fld) (now : Int) (w : World)
    (h1 : FL w v1 l1) (s1 : ∀ j (hj : j < l1.length), l1[j].1.length ≤ 9223372036854775807 ∧ l1[j].2.length ≤ 9223372036854775807) (n1 : l1.length ≤ 9223372036854775807)
    (h2 : FL w v2 l2) (s2 : ∀ j (hj : j < l2.length), l2[j].1.length ≤ 9223372036854775807 ∧ l2[j].2.length ≤ 9223372036854775807) (n2 : l2.length ≤ 9223372036854775807) (_wn : (Lit.int .i64 now).wf = true) (ht : Tabs w) :
    Calls Tryd.prog 3 #[v1, v2, .int .i64 now] w fun e w' => e = .returned (.bool true) ∧ Below w.heap.size w w' := by
  obtain ⟨A1, c1, rfl⟩ := h1.form
  obtain ⟨A2, c2, rfl⟩ := h2.form
  have HW := Lib.hid worksE_any
  have HF1 := Lib.hid (fewT_any _ l1 w h1 s1 n1)
  have HF2 := Lib.hid (fun W (hb : Below w.heap.size w W) => fewT_any _ l2 W (h2.bel hb) s2 n2)
  cases q1 : fewT l1
  · rw [q1] at HF1
    clear h1 h2 s1 s2 n1 n2 ht q1 _wn
    go_enter Tryd.func3, Tryd.ntmps3
    go_wp2_with fail
    refine HF1.out.mono ?_
    rintro e w1 ⟨rfl, hb⟩
    have HB1 := Lib.hid hb; clear hb
    go_wp2_with fail
    refine (HW.out _).mono ?_
    rintro e w2 ⟨rfl, hb⟩
    have HB2 := Lib.hid (HB1.out.trans (hb.mono HB1.out.size)); clear hb
    go_wp2_with fail
    go_ret
    exact ⟨rfl, HB2.out⟩
  cases q2 : fewT l2
  · rw [q1] at HF1
    rw [q2] at HF2
    clear h1 h2 s1 s2 n1 n2 ht q1 q2 _wn
    go_enter Tryd.func3, Tryd.ntmps3
    go_wp2_with fail
    refine HF1.out.mono ?_
    rintro e w1 ⟨rfl, hb⟩
    have HB1 := Lib.hid hb; clear hb
    go_wp2_with fail
    refine (HF2.out _ HB1.out).mono ?_
    rintro e w2 ⟨rfl, hb⟩
    have HB2 := Lib.hid (HB1.out.trans (hb.mono HB1.out.size)); clear hb
    go_wp2_with fail
    refine (HW.out _).mono ?_
    rintro e w3 ⟨rfl, hb⟩
    have HB3 := Lib.hid (HB2.out.trans (hb.mono HB2.out.size)); clear hb
    go_wp2_with fail
    go_ret
    exact ⟨rfl, HB3.out⟩
  · obtain ⟨Y, mm, dd, hh, ii, ss, HY⟩ := clamp_ex now
    have e1 : ∀ W, Below w.heap.size w W → EtW W (.slice A1 l1.length c1) l1 := fun W hb => ⟨h1.bel hb, fewT_fw q1, ht.below hb⟩
    have e2 : ∀ W, Below w.heap.size w W → EtW W (.slice A2 l2.length c2) l2 := fun W hb => ⟨h2.bel hb, fewT_fw q2, ht.below hb⟩
    have HP := Lib.hid (fun W (hb : Below w.heap.size w W) => enm_any (st := 200) (mi := 0) (re := ⟨#[]⟩) (bo := ⟨#[]⟩) W (e1 W hb) (e2 W hb) ⟨mm, dd, hh, ii, ss, HY⟩)
    have HR := Lib.hid (fun W (hb : Below w.heap.size w W) => renm_any (st := 200) (mi := 0) (re := ⟨#[]⟩) (bo := ⟨#[]⟩) W (e1 W hb) (e2 W hb) ⟨mm, dd, hh, ii, ss, HY⟩)
    rw [q1] at HF1
    rw [q2] at HF2
    clear h1 h2 s1 s2 n1 n2 ht q1 q2 e1 e2 HY _wn
    generalize nmB Y l1 l2 = z at *
    have hzz : (z == z) = true := beq_self_eq_true z
    go_enter Tryd.func3, Tryd.ntmps3
    go_wp2_with fail
    refine HF1.out.mono ?_
    rintro e w1 ⟨rfl, hb⟩
    have HB1 := Lib.hid hb; clear hb
    go_wp2_with fail
    refine (HF2.out _ HB1.out).mono ?_
    rintro e w2 ⟨rfl, hb⟩
    have HB2 := Lib.hid (HB1.out.trans (hb.mono HB1.out.size)); clear hb HB1
    have hx : Below w.heap.size w (w2.alloc (.cells #[.int .i64 200, .string ⟨#[]⟩, .int .i64 0, .slice A2 l2.length c2, .string ⟨#[]⟩] 26)) := HB2.out.trans (((Below.refl w2.heap.size _).alloc (Nat.le_refl _) _).mono HB2.out.size)
    have HD := Lib.hid (ebk.new w2 #[.int .i64 200, .string ⟨#[]⟩, .int .i64 0, .slice A2 l2.length c2, .string ⟨#[]⟩] 26)
    have HB := Lib.hid hx; clear hx HB2 HF1 HF2
    go_wp2_with fail
    generalize w2.alloc (.cells #[.int .i64 200, .string ⟨#[]⟩, .int .i64 0, .slice A2 l2.length c2, .string ⟨#[]⟩] 26) = C at *
    refine wp_region_growS (.one 0 false (.one 1 false (.one 2 false (.one 4 false (.one 5 false (.one 6 false (.one 3 true (.one 7 true (.one 8 false (.one 9 false (.one 10 true (.one 11 false (.one 12 false .done)))))))))))))
      (fun W => Below C.heap.size C W) (by kernel_rfl) (by kernel_rfl) rfl (by kernel_rfl) (by kernel_rfl) ((Below.refl _ _).drew) (fun ops hops => ?_)
    simp only [GT.ins, List.getD_cons_zero, List.getD_cons_succ]
    have g9 : (ops[9]?).bind (·.dst) = some 28 := by rw [hops.out]; rfl
    have G9 := Lib.hid g9
    clear hops g9
    iterate 6
      refine growS_take (by rfl) ?_
      apply Exists.intro
      refine ⟨fun w' hE => ?_, ?_⟩
      · obtain ⟨y0, y1, y2, y3, y4⟩ := (HD.out.below hE).five
        go_simp
        try with_reducible rfl
      simp only [Act.put, List.setIfInBounds_toArray, List.set_cons_zero, List.set_cons_succ]
    refine growS_call (by rfl) (fun K hK => ?_)
    go_simp
    refine (HP.out _ (HB.out.trans (((Below.refl _ _).drew : Below C.heap.size C C.drew).mono HB.out.size))).mono ?_
    rintro e x1 ⟨rfl, hb⟩
    have hz : Below C.heap.size C x1 := ((Below.refl _ _).drew : Below C.heap.size C C.drew).trans (hb.mono ((Below.refl _ _).drew : Below C.heap.size C C.drew).size)
    have HZ1 := Lib.hid hz
    refine hK.out _ _ hz ?_
    clear hK K hb hz
    refine growS_call (by rfl) (fun K hK => ?_)
    go_simp
    refine (HR.out _ (HB.out.trans (HZ1.out.mono HB.out.size))).mono ?_
    rintro e x2 ⟨rfl, hb⟩
    have hz : Below C.heap.size C x2 := HZ1.out.trans (hb.mono HZ1.out.size)
    have HZ2 := Lib.hid hz
    refine hK.out _ _ hz ?_
    clear hK K hb hz HZ1
    iterate 2
      refine growS_take (by rfl) ?_
      apply Exists.intro
      refine ⟨fun w' hE => ?_, ?_⟩
      · obtain ⟨y0, y1, y2, y3, y4⟩ := (HD.out.below hE).five
        go_simp
        try with_reducible rfl
      simp only [Act.put, List.setIfInBounds_toArray, List.set_cons_zero, List.set_cons_succ]
    refine growS_call (wantedS G9.out rfl rfl) (fun K hK => ?_)
    go_simp
    refine (HW.out _).mono ?_
    rintro e x3 ⟨rfl, hb⟩
    have hz : Below C.heap.size C x3 := HZ2.out.trans (hb.mono HZ2.out.size)
    have HZ3 := Lib.hid hz
    refine hK.out _ _ hz ?_
    clear hK K hb hz HZ2
    iterate 2
      refine growS_take (by rfl) ?_
      apply Exists.intro
      refine ⟨fun w' hE => ?_, ?_⟩
      · obtain ⟨y0, y1, y2, y3, y4⟩ := (HD.out.below hE).five
        go_simp
        try with_reducible rfl
      simp only [Act.put, List.setIfInBounds_toArray, List.set_cons_zero, List.set_cons_succ]
    refine growS_done (NoPanic.normal ?_)
    go_wp2_with fail
    go_ret
    exact ⟨rfl, HB.out.trans (HZ3.out.mono HB.out.size)⟩
end Go.Proofs.YtjbkjmceabilaaaDoor
