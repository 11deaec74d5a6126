/- The statement DirectiveJoins' walk. -/
import Derived.Test.YtfjikkaejhihkaaDirN
import Derived.Test.YtfjikkaejhihkaaGrow2
import Derived.Test.YtfjikkaejhihkaaGrow3
namespace Go.Proofs.Ytfjikkaejhihkaa
open Go.RowKit

set_option maxHeartbeats 8000000 in
set_option maxRecDepth 100000 in
/-- the loop's round: one directive of the joined list held against the one of its part -/
theorem directiveJoins_any (v1 : Value) (L : List (List UInt8)) (v2 : Value) (M : List (List UInt8)) (w : World) (h1 : SL w v1 L) (hs1 : ∀ j (hj : j < L.length), L[j].length ≤ 9223372036854775807) (hl1 : L.length ≤ 9223372036854775807) (h2 : SL w v2 M) (hs2 : ∀ j (hj : j < M.length), M[j].length ≤ 9223372036854775807) (hl2 : M.length ≤ 9223372036854775807)
    (hcap : ∃ A n c, v1 = .slice A n c ∧ n ≤ c ∧ (A = none → c = 0)) (hm : MaxD w) :
    Calls Try.prog 6 #[v1, v2] w fun e w' => e = .returned (.bool true) ∧ Below w.heap.size w w' := by
  have HF1 := Lib.hid (fewD_any v1 L w h1 hs1 hl1)
  have HF2 := Lib.hid (fewD_any v2 M w h2 hs2 hl2)
  have HM := Lib.hid hm
  have H1 := Lib.hid h1; have H2 := Lib.hid h2
  clear hs1 hs2 hl1 hl2 hm h1 h2
  cases hq1 : fewD L
  · rw [hq1] at HF1
    clear hq1 HF2
    go_enter Try.func6, Try.ntmps6
    go_wp2_with fail
    refine HF1.out.mono ?_
    rintro e w1 ⟨rfl, rfl⟩
    go_wp2_with fail
    refine (awakeD_any _ HM.out).mono ?_
    rintro e w2 ⟨rfl, hb⟩
    have HB := Lib.hid hb; clear hb
    go_wp2_with fail
    go_ret
    exact ⟨rfl, HB.out⟩
  · rw [hq1] at HF1
    cases hq2 : fewD M
    · rw [hq2] at HF2
      clear hq1 hq2
      go_enter Try.func6, Try.ntmps6
      go_wp2_with fail
      refine HF1.out.mono ?_
      rintro e w1 ⟨rfl, rfl⟩
      go_wp2_with fail
      refine HF2.out.mono ?_
      rintro e w1 ⟨rfl, rfl⟩
      go_wp2_with fail
      refine (awakeD_any _ HM.out).mono ?_
      rintro e w2 ⟨rfl, hb⟩
      have HB := Lib.hid hb; clear hb
      go_wp2_with fail
      go_ret
      exact ⟨rfl, HB.out⟩
    · rw [hq2] at HF2
      obtain ⟨e1, e2⟩ := fewD_small hq1
      obtain ⟨e3, e4⟩ := fewD_small hq2
      have f1 : ∀ x ∈ L, x.length ≤ 4294967200 := fun x hx => Nat.le_trans (e2 x hx) (by decide)
      have f2 : ∀ x ∈ M, x.length ≤ 4294967200 := fun x hx => Nat.le_trans (e4 x hx) (by decide)
      have f3 : ∀ x ∈ L ++ M, x.length ≤ 4294967200 := fun x hx => (List.mem_append.1 hx).elim (f1 x) (f2 x)
      have f4 : ∀ x ∈ L ++ M, x.length ≤ 2000 := fun x hx => (List.mem_append.1 hx).elim (e2 x) (e4 x)
      have HLA := Lib.hid (fun W (hb : Below w.heap.size w W) => listD_any v1 L W (HM.out.bel hb) (H1.out.bel hb) f1 (by omega))
      have HLB := Lib.hid (fun W (hb : Below w.heap.size w W) => listD_any v2 M W (HM.out.bel hb) (H2.out.bel hb) f2 (by omega))
      have HLC := Lib.hid (fun W v (hb : Below w.heap.size w W) (h : SL W v (L ++ M)) => listD_any v (L ++ M) W (HM.out.bel hb) h f3 (by rw [List.length_append]; omega))
      have HNM := Lib.hid (fun d (h : d ∈ dirsAll (L ++ M)) => dirsAll_name h)
      have HNL := Lib.hid (fun d (h : d ∈ dirsAll (L ++ M)) => dirsAll_at_len f4 h)
      have hap := dirsAll_append L M
      have hz1 := dirsAll_len L
      have hz2 := dirsAll_len M
      have HJ : Hid (L.length + M.length ≤ 4294967296) := by show _ ≤ _; omega
      clear f1 f2 f3 f4 e2 e4 hq1 hq2
      obtain ⟨A, n0, c, rfl, hnc, hAc⟩ := hcap
      obtain ⟨A', c', he⟩ := H1.out.form
      simp only [Value.slice.injEq] at he
      obtain ⟨rfl, rfl, rfl⟩ := he
      obtain ⟨A2, c2, rfl⟩ := H2.out.form
      -- the slice cut to its own length
      have hcut : SL w (.slice A L.length L.length) L := by
        rcases H1.out with ⟨rfl, _⟩ | ⟨b, off, c3, hv, hb, hc⟩
        · exact .inl ⟨rfl, _, _, rfl⟩
        · simp only [Value.slice.injEq] at hv
          obtain ⟨rfl, -, -⟩ := hv
          exact .inr ⟨b, off, L.length, rfl, hb, hc⟩
      have HCUT := Lib.hid hcut; clear hcut
      have hnci : (L.length : Int) ≤ (c : Int) := by omega
      have hn20 : (L.length : Int) ≤ 20 := by omega
      go_enter Try.func6, Try.ntmps6
      go_wp2_with fail
      refine HF1.out.mono ?_
      rintro e w1 ⟨rfl, rfl⟩
      go_wp2_with fail
      refine HF2.out.mono ?_
      rintro e w1 ⟨rfl, rfl⟩
      go_wp2_with fail
      refine (HLA.out _ (Below.refl _ _)).mono ?_
      rintro e w1 ⟨u1, rfl, ho1, hb1⟩
      have HB1 := Lib.hid hb1; have HO1 := Lib.hid ho1.dl; clear hb1 ho1
      go_wp2_with fail
      refine (HLB.out _ HB1.out).mono ?_
      rintro e w2 ⟨u2, rfl, ho2, hb2⟩
      have HB2 := Lib.hid (HB1.out.trans (hb2.mono HB1.out.size)); have HO2 := Lib.hid ho2.dl; have HO12 := Lib.hid (HO1.out.bel hb2); clear hb2 ho2 HB1 HO1
      obtain ⟨U1, k1, rfl⟩ := HO12.out.form
      obtain ⟨U2, k2, rfl⟩ := HO2.out.form
      go_wp2_with (at_builtin; refine wpList_joinT rfl (.tmp 28) (.tmp 29) rfl A L M _ rfl rfl (HCUT.out.bel HB2.out) (H2.out.bel HB2.out) HJ.out ?_; intro v' w' HSJ HBJ)
      refine (HLC.out _ _ (HB2.out.trans (HBJ.out.mono HB2.out.size)) HSJ.out).mono ?_
      rintro e w3 ⟨u3, rfl, ho3, hb3⟩
      have hb23 := HBJ.out.trans (hb3.mono HBJ.out.size)
      have HB3 := Lib.hid (HB2.out.trans (hb23.mono HB2.out.size)); have HO3 := Lib.hid ho3.dl; have HO13 := Lib.hid (HO12.out.bel hb23); have HO23 := Lib.hid (HO2.out.bel hb23)
      clear hb3 ho3 hb23 HB2 HSJ HBJ HO12 HO2 HLA HLB HLC
      rw [hap] at HO3 HNM HNL
      clear hap
      generalize dirsAll L = P at *
      generalize dirsAll M = R at *
      obtain ⟨U3, k3, rfl⟩ := HO3.out.form
      have hsum : (P ++ R).length = P.length + R.length := List.length_append
      generalize hN : P ++ R = N at *
      have hne : ((N.length : Int) != ((P.length : Int) + (R.length : Int))) = false := by rw [bne_eq_false_iff_eq]; omega
      have hp4 : P.length ≤ 1280 := by omega
      have hr4 : R.length ≤ 1280 := by omega
      clear hz1 hz2
      go_wp2_with fail
      go_loopw [8] (fun i wr => ∃ k : Nat, k ≤ N.length ∧ i = .int .i64 k ∧ Below w3.heap.size w3 wr) (fun i _ => N.length - (intOf i).toNat)
      case atStart => exact ⟨0, Nat.zero_le _, rfl, Below.refl _ _⟩
      case round =>
        obtain ⟨k, hk, rfl, hb⟩ := hrel
        have HB := Lib.hid hb; clear hb
        by_cases hlt : k < N.length
        · have hlti : (k : Int) < (N.length : Int) := by omega
          obtain ⟨g, o, rfl, hgl, q0, q1, q2, q3⟩ := (HO3.out.bel HB.out).get k hlt
          have hmem : N[k] ∈ N := List.getElem_mem hlt
          obtain ⟨t1, t2, t3, t4⟩ := HNM.out _ hmem
          obtain ⟨t5, t6⟩ := HNL.out _ hmem
          by_cases hp : k < P.length
          · have hpi : (k : Int) < (P.length : Int) := by omega
            obtain ⟨G, O, rfl, hGl, p0, p1, p2, p3⟩ := (HO13.out.bel HB.out).get k hp
            have hsame : P[k] = N[k] := by subst hN; rw [List.getElem_append_left hp]
            rw [hsame] at p0 p1 p2 p3
            clear hsame hmem
            generalize N[k] = d at *
            obtain ⟨x, y, h, f⟩ := d
            simp only at q0 q1 q2 q3 p0 p1 p2 p3 t1 t2 t3 t4 t5 t6
            subst t4
            have HTK : Hid (∀ W, Calls Try.prog 17 #[.string (bs x)] W fun e w' => e = .returned (.bool true) ∧ W = w') := fun W => by have h := token_any (bs x) W (by rw [bs_size]; unfold maxLen; omega); rwa [bs_data, t1] at h
            have HLW : Hid (∀ W, Calls Try.prog 18 #[.string (bs x)] W fun e w' => e = .returned (.string (bs x)) ∧ Below W.heap.size W w') := fun W => by have h := lower_any (bs x) W (by rw [bs_size]; unfold maxLen; omega); rwa [bs_data, t2] at h
            clear t1 t2 t5 t6
            cases h
            · obtain rfl : y = [] := t3 rfl
              clear t3
              simp only [bs_nil] at q0 q1 q2 q3 p0 p1 p2 p3
              have HNG := Lib.hid (fun W (hb : Below wr.heap.size wr W) => And.intro ((hb.cell (p := ⟨g, o + k * 4, none⟩) hgl).trans q0) (And.intro ((hb.cell (p := ⟨g, o + k * 4 + 1, none⟩) hgl).trans q1) (And.intro ((hb.cell (p := ⟨g, o + k * 4 + 2, none⟩) hgl).trans q2) ((hb.cell (p := ⟨g, o + k * 4 + 3, none⟩) hgl).trans q3))))
              have HSG := Lib.hid (fun W (hb : Below wr.heap.size wr W) => And.intro ((hb.cell (p := ⟨G, O + k * 4, none⟩) hGl).trans p0) (And.intro ((hb.cell (p := ⟨G, O + k * 4 + 1, none⟩) hGl).trans p1) (And.intro ((hb.cell (p := ⟨G, O + k * 4 + 2, none⟩) hGl).trans p2) ((hb.cell (p := ⟨G, O + k * 4 + 3, none⟩) hGl).trans p3))))
              clear q0 q1 q2 q3 p0 p1 p2 p3
              have hx : dbk (wr.alloc (.cells #[.string (bs x), .string ⟨#[]⟩, .bool false, .string ⟨#[]⟩] 29)) wr.heap.size (dvA (x, [], false, [])) := dbk.new wr _ _
              have hxb : Below wr.heap.size wr (wr.alloc (.cells #[.string (bs x), .string ⟨#[]⟩, .bool false, .string ⟨#[]⟩] 29)) := (Below.refl _ _).alloc (Nat.le_refl _) _
              have hs1 := HSG.out _ ((Below.refl wr.heap.size wr).alloc (Nat.le_refl _) (.cells #[.string ⟨#[]⟩, .string ⟨#[]⟩, .bool false, .string ⟨#[]⟩] 29))
              obtain ⟨s0, s1, s2, s3⟩ := hs1
              have HX := Lib.hid hx; have HXB := Lib.hid hxb
              clear hx hxb
              go_wp2_with fail
              clear s0 s1 s2 s3
              generalize (wr.alloc (.cells #[.string (bs x), .string ⟨#[]⟩, .bool false, .string ⟨#[]⟩] 29)) = X at *
              have HC : Hid (∀ W', Below X.heap.size X W' → W'.cell? ⟨g, o + k * 4, none⟩ = some (.string (bs x)) ∧ W'.cell? ⟨g, o + k * 4 + 1, none⟩ = some (.string ⟨#[]⟩) ∧ W'.cell? ⟨g, o + k * 4 + 2, none⟩ = some (.bool false) ∧ W'.cell? ⟨g, o + k * 4 + 3, none⟩ = some (.string ⟨#[]⟩) ∧
                  W'.cell? ⟨wr.heap.size, 0, none⟩ = some (.string (bs x)) ∧ W'.cell? ⟨wr.heap.size, 1, none⟩ = some (.string ⟨#[]⟩) ∧ W'.cell? ⟨wr.heap.size, 2, none⟩ = some (.bool false) ∧ W'.cell? ⟨wr.heap.size, 3, none⟩ = some (.string ⟨#[]⟩)) := fun W' hb => by
                obtain ⟨n0, n1, n2, n3⟩ := HNG.out W' (HXB.out.trans (hb.mono HXB.out.size))
                obtain ⟨p0, p1, p2, p3⟩ := dbk.four (d := (x, [], false, [])) (HX.out.below hb)
                exact ⟨n0, n1, n2, n3, p0, p1, p2, p3⟩
              have HQ : Hid (∀ W, (binOp .neq 29 (.agg #[.string (bs x), .string ⟨#[]⟩, .bool false, .string ⟨#[]⟩]) (.agg #[.string (bs x), .string ⟨#[]⟩, .bool false, .string ⟨#[]⟩])).run Try.prog W = .ok (.bool false) W) := fun W => by
                have h := run_neqD (x, [], false, []) (x, [], false, []) W
                rwa [show (!(((x, [], false, []) : Dv) == (x, [], false, []))) = false from by rw [beq_self_eq_true]; rfl] at h
              generalize bs x = bx at *
              refine wp_region_growS (.one 0 false (.one 1 false (.one 2 false (.one 3 false (.one 4 false (.one 5 false (.one 6 false (.one 7 false (.one 8 false (.one 9 false (.one 10 false (.one 11 false (.one 12 true (.one 13 false (.one 14 false (.one 15 false (.one 16 false (.one 17 false (.one 18 false (.one 19 false (.one 20 false (.one 22 false (.one 23 false (.one 24 false (.one 25 false (.one 26 false (.one 21 true (.one 27 false (.one 28 false (.one 29 false (.one 30 false (.one 31 false (.one 32 false (.one 33 false (.one 34 false (.one 35 false (.one 36 false (.one 37 false (.one 38 false (.one 39 false (.one 40 false (.one 41 false (.one 42 false (.one 43 false (.one 44 false (.one 45 false (.one 46 false (.one 47 false (.one 48 false (.one 49 false (.one 50 false (.one 51 false (.one 52 false .done)))))))))))))))))))))))))))))))))))))))))))))))))))))
                (fun W => Below X.heap.size X W) (by kernel_rfl) (by kernel_rfl) rfl (by kernel_rfl) (by kernel_rfl) (Below.refl _ _).drew (fun ops hops => ?_)
              simp only [GT.ins, List.getD_cons_zero, List.getD_cons_succ]
              have g6 : (ops[6]?).bind (·.dst) = some 68 := by rw [hops.out]; rfl
              have g15 : (ops[15]?).bind (·.dst) = some 77 := by rw [hops.out]; rfl
              have g29 : (ops[29]?).bind (·.dst) = some 91 := by rw [hops.out]; rfl
              have g36 : (ops[36]?).bind (·.dst) = some 98 := by rw [hops.out]; rfl
              have g45 : (ops[45]?).bind (·.dst) = some 107 := by rw [hops.out]; rfl
              have G6 := Lib.hid g6
              have G15 := Lib.hid g15
              have G29 := Lib.hid g29
              have G36 := Lib.hid g36
              have G45 := Lib.hid g45
              clear hops g6 g15 g29 g36 g45
              iterate 7
                refine growS_take (by rfl) ?_
                apply Exists.intro
                refine ⟨fun w' hE => ?_, ?_⟩
                · obtain ⟨q0, q1, q2, q3, r0, r1, r2, r3⟩ := HC.out w' hE; have hcmp := HQ.out
                  go_simp
                  try with_reducible rfl
                simp only [Act.put, List.setIfInBounds_toArray, List.set_cons_zero, List.set_cons_succ]
              iterate 5
                refine growS_take (wantedS G6.out rfl rfl) ?_
                apply Exists.intro
                refine ⟨fun w' hE => ?_, ?_⟩
                · obtain ⟨q0, q1, q2, q3, r0, r1, r2, r3⟩ := HC.out w' hE; have hcmp := HQ.out
                  go_simp
                  try with_reducible rfl
                simp only [Act.put, List.setIfInBounds_toArray, List.set_cons_zero, List.set_cons_succ]
              refine growS_call (wantedS G6.out rfl rfl) (fun K hK => ?_)
              go_simp
              refine (HTK.out _).mono ?_
              rintro e z1 ⟨rfl, rfl⟩
              refine hK.out _ _ (Below.refl _ _).drew ?_
              clear hK K
              iterate 1
                refine growS_take (wantedS G6.out rfl rfl) ?_
                apply Exists.intro
                refine ⟨fun w' hE => ?_, ?_⟩
                · obtain ⟨q0, q1, q2, q3, r0, r1, r2, r3⟩ := HC.out w' hE; have hcmp := HQ.out
                  go_simp
                  try with_reducible rfl
                simp only [Act.put, List.setIfInBounds_toArray, List.set_cons_zero, List.set_cons_succ]
              iterate 2
                refine growS_take (by rfl) ?_
                apply Exists.intro
                refine ⟨fun w' hE => ?_, ?_⟩
                · obtain ⟨q0, q1, q2, q3, r0, r1, r2, r3⟩ := HC.out w' hE; have hcmp := HQ.out
                  go_simp
                  try with_reducible rfl
                simp only [Act.put, List.setIfInBounds_toArray, List.set_cons_zero, List.set_cons_succ]
              iterate 10
                refine growS_take (wantedS G15.out rfl rfl) ?_
                apply Exists.intro
                refine ⟨fun w' hE => ?_, ?_⟩
                · obtain ⟨q0, q1, q2, q3, r0, r1, r2, r3⟩ := HC.out w' hE; have hcmp := HQ.out
                  go_simp
                  try with_reducible rfl
                simp only [Act.put, List.setIfInBounds_toArray, List.set_cons_zero, List.set_cons_succ]
              refine growS_call (wantedS G15.out rfl rfl) (fun K hK => ?_)
              go_simp
              refine (HLW.out _).mono ?_
              rintro e z2 ⟨rfl, hb⟩
              have hz : Below X.heap.size X z2 := ((Below.refl _ _).drew : Below X.heap.size X X.drew).trans (hb.mono ((Below.refl _ _).drew : Below X.heap.size X X.drew).size)
              refine hK.out _ _ hz ?_
              have HZ2 := Lib.hid hz
              clear hK K hb hz
              iterate 1
                refine growS_take (wantedS G15.out rfl rfl) ?_
                apply Exists.intro
                refine ⟨fun w' hE => ?_, ?_⟩
                · obtain ⟨q0, q1, q2, q3, r0, r1, r2, r3⟩ := HC.out w' hE; have hcmp := HQ.out
                  go_simp
                  try with_reducible rfl
                simp only [Act.put, List.setIfInBounds_toArray, List.set_cons_zero, List.set_cons_succ]
              iterate 2
                refine growS_take (by rfl) ?_
                apply Exists.intro
                refine ⟨fun w' hE => ?_, ?_⟩
                · obtain ⟨q0, q1, q2, q3, r0, r1, r2, r3⟩ := HC.out w' hE; have hcmp := HQ.out
                  go_simp
                  try with_reducible rfl
                simp only [Act.put, List.setIfInBounds_toArray, List.set_cons_zero, List.set_cons_succ]
              iterate 7
                refine growS_take (wantedS G29.out rfl rfl) ?_
                apply Exists.intro
                refine ⟨fun w' hE => ?_, ?_⟩
                · obtain ⟨q0, q1, q2, q3, r0, r1, r2, r3⟩ := HC.out w' hE; have hcmp := HQ.out
                  go_simp
                  try with_reducible rfl
                simp only [Act.put, List.setIfInBounds_toArray, List.set_cons_zero, List.set_cons_succ]
              iterate 6
                refine growS_take (wantedS G36.out rfl rfl) ?_
                apply Exists.intro
                refine ⟨fun w' hE => ?_, ?_⟩
                · obtain ⟨q0, q1, q2, q3, r0, r1, r2, r3⟩ := HC.out w' hE; have hcmp := HQ.out
                  go_simp
                  try with_reducible rfl
                simp only [Act.put, List.setIfInBounds_toArray, List.set_cons_zero, List.set_cons_succ]
              iterate 1
                refine growS_take (wantedS G29.out rfl rfl) ?_
                apply Exists.intro
                refine ⟨fun w' hE => ?_, ?_⟩
                · obtain ⟨q0, q1, q2, q3, r0, r1, r2, r3⟩ := HC.out w' hE; have hcmp := HQ.out
                  go_simp
                  try with_reducible rfl
                simp only [Act.put, List.setIfInBounds_toArray, List.set_cons_zero, List.set_cons_succ]
              iterate 2
                refine growS_take (by rfl) ?_
                apply Exists.intro
                refine ⟨fun w' hE => ?_, ?_⟩
                · obtain ⟨q0, q1, q2, q3, r0, r1, r2, r3⟩ := HC.out w' hE; have hcmp := HQ.out
                  go_simp
                  try with_reducible rfl
                simp only [Act.put, List.setIfInBounds_toArray, List.set_cons_zero, List.set_cons_succ]
              iterate 6
                refine growS_take (wantedS G45.out rfl rfl) ?_
                apply Exists.intro
                refine ⟨fun w' hE => ?_, ?_⟩
                · obtain ⟨q0, q1, q2, q3, r0, r1, r2, r3⟩ := HC.out w' hE; have hcmp := HQ.out
                  go_simp
                  try with_reducible rfl
                simp only [Act.put, List.setIfInBounds_toArray, List.set_cons_zero, List.set_cons_succ]
              iterate 1
                refine growS_take (by rfl) ?_
                apply Exists.intro
                refine ⟨fun w' hE => ?_, ?_⟩
                · obtain ⟨q0, q1, q2, q3, r0, r1, r2, r3⟩ := HC.out w' hE; have hcmp := HQ.out
                  go_simp
                  try with_reducible rfl
                simp only [Act.put, List.setIfInBounds_toArray, List.set_cons_zero, List.set_cons_succ]
              refine growS_done (NoPanic.normal ?_)
              clear HC HQ HX
              go_wp2_with fail
              go_roundw
              case rel => exact ⟨k + 1, by omega, by go_num, HB.out.trans ((HXB.out.trans (HZ2.out.mono HXB.out.size)).mono HB.out.size)⟩
              case measure => simp [intOf]; omega
            · clear t3
              simp only [bs_nil] at q0 q1 q2 q3 p0 p1 p2 p3
              have HNG := Lib.hid (fun W (hb : Below wr.heap.size wr W) => And.intro ((hb.cell (p := ⟨g, o + k * 4, none⟩) hgl).trans q0) (And.intro ((hb.cell (p := ⟨g, o + k * 4 + 1, none⟩) hgl).trans q1) (And.intro ((hb.cell (p := ⟨g, o + k * 4 + 2, none⟩) hgl).trans q2) ((hb.cell (p := ⟨g, o + k * 4 + 3, none⟩) hgl).trans q3))))
              have HSG := Lib.hid (fun W (hb : Below wr.heap.size wr W) => And.intro ((hb.cell (p := ⟨G, O + k * 4, none⟩) hGl).trans p0) (And.intro ((hb.cell (p := ⟨G, O + k * 4 + 1, none⟩) hGl).trans p1) (And.intro ((hb.cell (p := ⟨G, O + k * 4 + 2, none⟩) hGl).trans p2) ((hb.cell (p := ⟨G, O + k * 4 + 3, none⟩) hGl).trans p3))))
              clear q0 q1 q2 q3 p0 p1 p2 p3
              have hx : dbk (wr.alloc (.cells #[.string (bs x), .string (bs y), .bool true, .string ⟨#[]⟩] 29)) wr.heap.size (dvA (x, y, true, [])) := dbk.new wr _ _
              have hxb : Below wr.heap.size wr (wr.alloc (.cells #[.string (bs x), .string (bs y), .bool true, .string ⟨#[]⟩] 29)) := (Below.refl _ _).alloc (Nat.le_refl _) _
              have hs1 := HSG.out _ ((Below.refl wr.heap.size wr).alloc (Nat.le_refl _) (.cells #[.string ⟨#[]⟩, .string ⟨#[]⟩, .bool false, .string ⟨#[]⟩] 29))
              obtain ⟨s0, s1, s2, s3⟩ := hs1
              have HX := Lib.hid hx; have HXB := Lib.hid hxb
              clear hx hxb
              go_wp2_with fail
              clear s0 s1 s2 s3
              generalize (wr.alloc (.cells #[.string (bs x), .string (bs y), .bool true, .string ⟨#[]⟩] 29)) = X at *
              have HC : Hid (∀ W', Below X.heap.size X W' → W'.cell? ⟨g, o + k * 4, none⟩ = some (.string (bs x)) ∧ W'.cell? ⟨g, o + k * 4 + 1, none⟩ = some (.string (bs y)) ∧ W'.cell? ⟨g, o + k * 4 + 2, none⟩ = some (.bool true) ∧ W'.cell? ⟨g, o + k * 4 + 3, none⟩ = some (.string ⟨#[]⟩) ∧
                  W'.cell? ⟨wr.heap.size, 0, none⟩ = some (.string (bs x)) ∧ W'.cell? ⟨wr.heap.size, 1, none⟩ = some (.string (bs y)) ∧ W'.cell? ⟨wr.heap.size, 2, none⟩ = some (.bool true) ∧ W'.cell? ⟨wr.heap.size, 3, none⟩ = some (.string ⟨#[]⟩)) := fun W' hb => by
                obtain ⟨n0, n1, n2, n3⟩ := HNG.out W' (HXB.out.trans (hb.mono HXB.out.size))
                obtain ⟨p0, p1, p2, p3⟩ := dbk.four (d := (x, y, true, [])) (HX.out.below hb)
                exact ⟨n0, n1, n2, n3, p0, p1, p2, p3⟩
              have HQ : Hid (∀ W, (binOp .neq 29 (.agg #[.string (bs x), .string (bs y), .bool true, .string ⟨#[]⟩]) (.agg #[.string (bs x), .string (bs y), .bool true, .string ⟨#[]⟩])).run Try.prog W = .ok (.bool false) W) := fun W => by
                have h := run_neqD (x, y, true, []) (x, y, true, []) W
                rwa [show (!(((x, y, true, []) : Dv) == (x, y, true, []))) = false from by rw [beq_self_eq_true]; rfl] at h
              generalize bs x = bx at *
              generalize bs y = bv at *
              refine wp_region_growS (.one 0 false (.one 1 false (.one 2 false (.one 3 false (.one 4 false (.one 5 false (.one 6 false (.one 7 false (.one 8 false (.one 9 false (.one 10 false (.one 11 false (.one 12 true (.one 13 false (.one 14 false (.one 15 false (.one 16 false (.one 17 false (.one 18 false (.one 19 false (.one 20 false (.one 22 false (.one 23 false (.one 24 false (.one 25 false (.one 26 false (.one 21 true (.one 27 false (.one 28 false (.one 29 false (.one 30 false (.one 31 false (.one 32 false (.one 33 false (.one 34 false (.one 35 false (.one 36 false (.one 37 false (.one 38 false (.one 39 false (.one 40 false (.one 41 false (.one 42 false (.one 43 false (.one 44 false (.one 45 false (.one 46 false (.one 47 false (.one 48 false (.one 49 false (.one 50 false (.one 51 false (.one 52 false .done)))))))))))))))))))))))))))))))))))))))))))))))))))))
                (fun W => Below X.heap.size X W) (by kernel_rfl) (by kernel_rfl) rfl (by kernel_rfl) (by kernel_rfl) (Below.refl _ _).drew (fun ops hops => ?_)
              simp only [GT.ins, List.getD_cons_zero, List.getD_cons_succ]
              have g6 : (ops[6]?).bind (·.dst) = some 68 := by rw [hops.out]; rfl
              have g15 : (ops[15]?).bind (·.dst) = some 77 := by rw [hops.out]; rfl
              have g29 : (ops[29]?).bind (·.dst) = some 91 := by rw [hops.out]; rfl
              have g36 : (ops[36]?).bind (·.dst) = some 98 := by rw [hops.out]; rfl
              have g45 : (ops[45]?).bind (·.dst) = some 107 := by rw [hops.out]; rfl
              have G6 := Lib.hid g6
              have G15 := Lib.hid g15
              have G29 := Lib.hid g29
              have G36 := Lib.hid g36
              have G45 := Lib.hid g45
              clear hops g6 g15 g29 g36 g45
              iterate 7
                refine growS_take (by rfl) ?_
                apply Exists.intro
                refine ⟨fun w' hE => ?_, ?_⟩
                · obtain ⟨q0, q1, q2, q3, r0, r1, r2, r3⟩ := HC.out w' hE; have hcmp := HQ.out
                  go_simp
                  try with_reducible rfl
                simp only [Act.put, List.setIfInBounds_toArray, List.set_cons_zero, List.set_cons_succ]
              iterate 5
                refine growS_take (wantedS G6.out rfl rfl) ?_
                apply Exists.intro
                refine ⟨fun w' hE => ?_, ?_⟩
                · obtain ⟨q0, q1, q2, q3, r0, r1, r2, r3⟩ := HC.out w' hE; have hcmp := HQ.out
                  go_simp
                  try with_reducible rfl
                simp only [Act.put, List.setIfInBounds_toArray, List.set_cons_zero, List.set_cons_succ]
              refine growS_call (wantedS G6.out rfl rfl) (fun K hK => ?_)
              go_simp
              refine (HTK.out _).mono ?_
              rintro e z1 ⟨rfl, rfl⟩
              refine hK.out _ _ (Below.refl _ _).drew ?_
              clear hK K
              iterate 1
                refine growS_take (wantedS G6.out rfl rfl) ?_
                apply Exists.intro
                refine ⟨fun w' hE => ?_, ?_⟩
                · obtain ⟨q0, q1, q2, q3, r0, r1, r2, r3⟩ := HC.out w' hE; have hcmp := HQ.out
                  go_simp
                  try with_reducible rfl
                simp only [Act.put, List.setIfInBounds_toArray, List.set_cons_zero, List.set_cons_succ]
              iterate 2
                refine growS_take (by rfl) ?_
                apply Exists.intro
                refine ⟨fun w' hE => ?_, ?_⟩
                · obtain ⟨q0, q1, q2, q3, r0, r1, r2, r3⟩ := HC.out w' hE; have hcmp := HQ.out
                  go_simp
                  try with_reducible rfl
                simp only [Act.put, List.setIfInBounds_toArray, List.set_cons_zero, List.set_cons_succ]
              iterate 10
                refine growS_take (wantedS G15.out rfl rfl) ?_
                apply Exists.intro
                refine ⟨fun w' hE => ?_, ?_⟩
                · obtain ⟨q0, q1, q2, q3, r0, r1, r2, r3⟩ := HC.out w' hE; have hcmp := HQ.out
                  go_simp
                  try with_reducible rfl
                simp only [Act.put, List.setIfInBounds_toArray, List.set_cons_zero, List.set_cons_succ]
              refine growS_call (wantedS G15.out rfl rfl) (fun K hK => ?_)
              go_simp
              refine (HLW.out _).mono ?_
              rintro e z2 ⟨rfl, hb⟩
              have hz : Below X.heap.size X z2 := ((Below.refl _ _).drew : Below X.heap.size X X.drew).trans (hb.mono ((Below.refl _ _).drew : Below X.heap.size X X.drew).size)
              refine hK.out _ _ hz ?_
              have HZ2 := Lib.hid hz
              clear hK K hb hz
              iterate 1
                refine growS_take (wantedS G15.out rfl rfl) ?_
                apply Exists.intro
                refine ⟨fun w' hE => ?_, ?_⟩
                · obtain ⟨q0, q1, q2, q3, r0, r1, r2, r3⟩ := HC.out w' hE; have hcmp := HQ.out
                  go_simp
                  try with_reducible rfl
                simp only [Act.put, List.setIfInBounds_toArray, List.set_cons_zero, List.set_cons_succ]
              iterate 2
                refine growS_take (by rfl) ?_
                apply Exists.intro
                refine ⟨fun w' hE => ?_, ?_⟩
                · obtain ⟨q0, q1, q2, q3, r0, r1, r2, r3⟩ := HC.out w' hE; have hcmp := HQ.out
                  go_simp
                  try with_reducible rfl
                simp only [Act.put, List.setIfInBounds_toArray, List.set_cons_zero, List.set_cons_succ]
              iterate 7
                refine growS_take (wantedS G29.out rfl rfl) ?_
                apply Exists.intro
                refine ⟨fun w' hE => ?_, ?_⟩
                · obtain ⟨q0, q1, q2, q3, r0, r1, r2, r3⟩ := HC.out w' hE; have hcmp := HQ.out
                  go_simp
                  try with_reducible rfl
                simp only [Act.put, List.setIfInBounds_toArray, List.set_cons_zero, List.set_cons_succ]
              refine growS_skip (unwantedS G36.out rfl rfl) ?_
              simp only [Act.put, List.setIfInBounds_toArray, List.set_cons_zero, List.set_cons_succ]
              refine growS_skip (unwantedS G36.out rfl rfl) ?_
              simp only [Act.put, List.setIfInBounds_toArray, List.set_cons_zero, List.set_cons_succ]
              refine growS_skip (unwantedS G36.out rfl rfl) ?_
              simp only [Act.put, List.setIfInBounds_toArray, List.set_cons_zero, List.set_cons_succ]
              refine growS_skip (unwantedS G36.out rfl rfl) ?_
              simp only [Act.put, List.setIfInBounds_toArray, List.set_cons_zero, List.set_cons_succ]
              refine growS_skip (unwantedS G36.out rfl rfl) ?_
              simp only [Act.put, List.setIfInBounds_toArray, List.set_cons_zero, List.set_cons_succ]
              refine growS_skip (unwantedS G36.out rfl rfl) ?_
              simp only [Act.put, List.setIfInBounds_toArray, List.set_cons_zero, List.set_cons_succ]
              iterate 1
                refine growS_take (wantedS G29.out rfl rfl) ?_
                apply Exists.intro
                refine ⟨fun w' hE => ?_, ?_⟩
                · obtain ⟨q0, q1, q2, q3, r0, r1, r2, r3⟩ := HC.out w' hE; have hcmp := HQ.out
                  go_simp
                  try with_reducible rfl
                simp only [Act.put, List.setIfInBounds_toArray, List.set_cons_zero, List.set_cons_succ]
              iterate 2
                refine growS_take (by rfl) ?_
                apply Exists.intro
                refine ⟨fun w' hE => ?_, ?_⟩
                · obtain ⟨q0, q1, q2, q3, r0, r1, r2, r3⟩ := HC.out w' hE; have hcmp := HQ.out
                  go_simp
                  try with_reducible rfl
                simp only [Act.put, List.setIfInBounds_toArray, List.set_cons_zero, List.set_cons_succ]
              iterate 6
                refine growS_take (wantedS G45.out rfl rfl) ?_
                apply Exists.intro
                refine ⟨fun w' hE => ?_, ?_⟩
                · obtain ⟨q0, q1, q2, q3, r0, r1, r2, r3⟩ := HC.out w' hE; have hcmp := HQ.out
                  go_simp
                  try with_reducible rfl
                simp only [Act.put, List.setIfInBounds_toArray, List.set_cons_zero, List.set_cons_succ]
              iterate 1
                refine growS_take (by rfl) ?_
                apply Exists.intro
                refine ⟨fun w' hE => ?_, ?_⟩
                · obtain ⟨q0, q1, q2, q3, r0, r1, r2, r3⟩ := HC.out w' hE; have hcmp := HQ.out
                  go_simp
                  try with_reducible rfl
                simp only [Act.put, List.setIfInBounds_toArray, List.set_cons_zero, List.set_cons_succ]
              refine growS_done (NoPanic.normal ?_)
              clear HC HQ HX
              go_wp2_with fail
              go_roundw
              case rel => exact ⟨k + 1, by omega, by go_num, HB.out.trans ((HXB.out.trans (HZ2.out.mono HXB.out.size)).mono HB.out.size)⟩
              case measure => simp [intOf]; omega
          · have hpi : ¬ (k : Int) < (P.length : Int) := by omega
            obtain ⟨j, hj⟩ : ∃ j, k = P.length + j := ⟨k - P.length, by omega⟩
            have hjr : j < R.length := by omega
            obtain ⟨G, O, rfl, hGl, p0, p1, p2, p3⟩ := (HO23.out.bel HB.out).get j hjr
            have hsame : R[j] = N[k] := by subst hN; subst hj; rw [List.getElem_append_right (by omega)]; simp
            rw [hsame] at p0 p1 p2 p3
            have hsub : (k : Int) - (P.length : Int) = (j : Int) := by omega
            have hji : (j : Int) < (R.length : Int) := by omega
            clear hj
            clear hsame hmem
            generalize N[k] = d at *
            obtain ⟨x, y, h, f⟩ := d
            simp only at q0 q1 q2 q3 p0 p1 p2 p3 t1 t2 t3 t4 t5 t6
            subst t4
            have HTK : Hid (∀ W, Calls Try.prog 17 #[.string (bs x)] W fun e w' => e = .returned (.bool true) ∧ W = w') := fun W => by have h := token_any (bs x) W (by rw [bs_size]; unfold maxLen; omega); rwa [bs_data, t1] at h
            have HLW : Hid (∀ W, Calls Try.prog 18 #[.string (bs x)] W fun e w' => e = .returned (.string (bs x)) ∧ Below W.heap.size W w') := fun W => by have h := lower_any (bs x) W (by rw [bs_size]; unfold maxLen; omega); rwa [bs_data, t2] at h
            clear t1 t2 t5 t6
            cases h
            · obtain rfl : y = [] := t3 rfl
              clear t3
              simp only [bs_nil] at q0 q1 q2 q3 p0 p1 p2 p3
              have HNG := Lib.hid (fun W (hb : Below wr.heap.size wr W) => And.intro ((hb.cell (p := ⟨g, o + k * 4, none⟩) hgl).trans q0) (And.intro ((hb.cell (p := ⟨g, o + k * 4 + 1, none⟩) hgl).trans q1) (And.intro ((hb.cell (p := ⟨g, o + k * 4 + 2, none⟩) hgl).trans q2) ((hb.cell (p := ⟨g, o + k * 4 + 3, none⟩) hgl).trans q3))))
              have HSG := Lib.hid (fun W (hb : Below wr.heap.size wr W) => And.intro ((hb.cell (p := ⟨G, O + j * 4, none⟩) hGl).trans p0) (And.intro ((hb.cell (p := ⟨G, O + j * 4 + 1, none⟩) hGl).trans p1) (And.intro ((hb.cell (p := ⟨G, O + j * 4 + 2, none⟩) hGl).trans p2) ((hb.cell (p := ⟨G, O + j * 4 + 3, none⟩) hGl).trans p3))))
              clear q0 q1 q2 q3 p0 p1 p2 p3
              have hx : dbk (wr.alloc (.cells #[.string (bs x), .string ⟨#[]⟩, .bool false, .string ⟨#[]⟩] 29)) wr.heap.size (dvA (x, [], false, [])) := dbk.new wr _ _
              have hxb : Below wr.heap.size wr (wr.alloc (.cells #[.string (bs x), .string ⟨#[]⟩, .bool false, .string ⟨#[]⟩] 29)) := (Below.refl _ _).alloc (Nat.le_refl _) _
              have hs1 := HSG.out _ ((Below.refl wr.heap.size wr).alloc (Nat.le_refl _) (.cells #[.string ⟨#[]⟩, .string ⟨#[]⟩, .bool false, .string ⟨#[]⟩] 29))
              obtain ⟨s0, s1, s2, s3⟩ := hs1
              have HX := Lib.hid hx; have HXB := Lib.hid hxb
              clear hx hxb
              go_wp2_with fail
              clear s0 s1 s2 s3
              generalize (wr.alloc (.cells #[.string (bs x), .string ⟨#[]⟩, .bool false, .string ⟨#[]⟩] 29)) = X at *
              have HC : Hid (∀ W', Below X.heap.size X W' → W'.cell? ⟨g, o + k * 4, none⟩ = some (.string (bs x)) ∧ W'.cell? ⟨g, o + k * 4 + 1, none⟩ = some (.string ⟨#[]⟩) ∧ W'.cell? ⟨g, o + k * 4 + 2, none⟩ = some (.bool false) ∧ W'.cell? ⟨g, o + k * 4 + 3, none⟩ = some (.string ⟨#[]⟩) ∧
                  W'.cell? ⟨wr.heap.size, 0, none⟩ = some (.string (bs x)) ∧ W'.cell? ⟨wr.heap.size, 1, none⟩ = some (.string ⟨#[]⟩) ∧ W'.cell? ⟨wr.heap.size, 2, none⟩ = some (.bool false) ∧ W'.cell? ⟨wr.heap.size, 3, none⟩ = some (.string ⟨#[]⟩)) := fun W' hb => by
                obtain ⟨n0, n1, n2, n3⟩ := HNG.out W' (HXB.out.trans (hb.mono HXB.out.size))
                obtain ⟨p0, p1, p2, p3⟩ := dbk.four (d := (x, [], false, [])) (HX.out.below hb)
                exact ⟨n0, n1, n2, n3, p0, p1, p2, p3⟩
              have HQ : Hid (∀ W, (binOp .neq 29 (.agg #[.string (bs x), .string ⟨#[]⟩, .bool false, .string ⟨#[]⟩]) (.agg #[.string (bs x), .string ⟨#[]⟩, .bool false, .string ⟨#[]⟩])).run Try.prog W = .ok (.bool false) W) := fun W => by
                have h := run_neqD (x, [], false, []) (x, [], false, []) W
                rwa [show (!(((x, [], false, []) : Dv) == (x, [], false, []))) = false from by rw [beq_self_eq_true]; rfl] at h
              generalize bs x = bx at *
              refine wp_region_growS (.one 0 false (.one 1 false (.one 2 false (.one 3 false (.one 4 false (.one 5 false (.one 6 false (.one 7 false (.one 8 false (.one 9 false (.one 10 false (.one 11 false (.one 12 true (.one 13 false (.one 14 false (.one 15 false (.one 16 false (.one 17 false (.one 18 false (.one 19 false (.one 20 false (.one 22 false (.one 23 false (.one 24 false (.one 25 false (.one 26 false (.one 21 true (.one 27 false (.one 28 false (.one 29 false (.one 30 false (.one 31 false (.one 32 false (.one 33 false (.one 34 false (.one 35 false (.one 36 false (.one 37 false (.one 38 false (.one 39 false (.one 40 false (.one 41 false (.one 42 false (.one 43 false (.one 44 false (.one 45 false (.one 46 false (.one 47 false (.one 48 false (.one 49 false (.one 50 false (.one 51 false (.one 52 false .done)))))))))))))))))))))))))))))))))))))))))))))))))))))
                (fun W => Below X.heap.size X W) (by kernel_rfl) (by kernel_rfl) rfl (by kernel_rfl) (by kernel_rfl) (Below.refl _ _).drew (fun ops hops => ?_)
              simp only [GT.ins, List.getD_cons_zero, List.getD_cons_succ]
              have g6 : (ops[6]?).bind (·.dst) = some 68 := by rw [hops.out]; rfl
              have g15 : (ops[15]?).bind (·.dst) = some 77 := by rw [hops.out]; rfl
              have g29 : (ops[29]?).bind (·.dst) = some 91 := by rw [hops.out]; rfl
              have g36 : (ops[36]?).bind (·.dst) = some 98 := by rw [hops.out]; rfl
              have g45 : (ops[45]?).bind (·.dst) = some 107 := by rw [hops.out]; rfl
              have G6 := Lib.hid g6
              have G15 := Lib.hid g15
              have G29 := Lib.hid g29
              have G36 := Lib.hid g36
              have G45 := Lib.hid g45
              clear hops g6 g15 g29 g36 g45
              iterate 7
                refine growS_take (by rfl) ?_
                apply Exists.intro
                refine ⟨fun w' hE => ?_, ?_⟩
                · obtain ⟨q0, q1, q2, q3, r0, r1, r2, r3⟩ := HC.out w' hE; have hcmp := HQ.out
                  go_simp
                  try with_reducible rfl
                simp only [Act.put, List.setIfInBounds_toArray, List.set_cons_zero, List.set_cons_succ]
              iterate 5
                refine growS_take (wantedS G6.out rfl rfl) ?_
                apply Exists.intro
                refine ⟨fun w' hE => ?_, ?_⟩
                · obtain ⟨q0, q1, q2, q3, r0, r1, r2, r3⟩ := HC.out w' hE; have hcmp := HQ.out
                  go_simp
                  try with_reducible rfl
                simp only [Act.put, List.setIfInBounds_toArray, List.set_cons_zero, List.set_cons_succ]
              refine growS_call (wantedS G6.out rfl rfl) (fun K hK => ?_)
              go_simp
              refine (HTK.out _).mono ?_
              rintro e z1 ⟨rfl, rfl⟩
              refine hK.out _ _ (Below.refl _ _).drew ?_
              clear hK K
              iterate 1
                refine growS_take (wantedS G6.out rfl rfl) ?_
                apply Exists.intro
                refine ⟨fun w' hE => ?_, ?_⟩
                · obtain ⟨q0, q1, q2, q3, r0, r1, r2, r3⟩ := HC.out w' hE; have hcmp := HQ.out
                  go_simp
                  try with_reducible rfl
                simp only [Act.put, List.setIfInBounds_toArray, List.set_cons_zero, List.set_cons_succ]
              iterate 2
                refine growS_take (by rfl) ?_
                apply Exists.intro
                refine ⟨fun w' hE => ?_, ?_⟩
                · obtain ⟨q0, q1, q2, q3, r0, r1, r2, r3⟩ := HC.out w' hE; have hcmp := HQ.out
                  go_simp
                  try with_reducible rfl
                simp only [Act.put, List.setIfInBounds_toArray, List.set_cons_zero, List.set_cons_succ]
              iterate 10
                refine growS_take (wantedS G15.out rfl rfl) ?_
                apply Exists.intro
                refine ⟨fun w' hE => ?_, ?_⟩
                · obtain ⟨q0, q1, q2, q3, r0, r1, r2, r3⟩ := HC.out w' hE; have hcmp := HQ.out
                  go_simp
                  try with_reducible rfl
                simp only [Act.put, List.setIfInBounds_toArray, List.set_cons_zero, List.set_cons_succ]
              refine growS_call (wantedS G15.out rfl rfl) (fun K hK => ?_)
              go_simp
              refine (HLW.out _).mono ?_
              rintro e z2 ⟨rfl, hb⟩
              have hz : Below X.heap.size X z2 := ((Below.refl _ _).drew : Below X.heap.size X X.drew).trans (hb.mono ((Below.refl _ _).drew : Below X.heap.size X X.drew).size)
              refine hK.out _ _ hz ?_
              have HZ2 := Lib.hid hz
              clear hK K hb hz
              iterate 1
                refine growS_take (wantedS G15.out rfl rfl) ?_
                apply Exists.intro
                refine ⟨fun w' hE => ?_, ?_⟩
                · obtain ⟨q0, q1, q2, q3, r0, r1, r2, r3⟩ := HC.out w' hE; have hcmp := HQ.out
                  go_simp
                  try with_reducible rfl
                simp only [Act.put, List.setIfInBounds_toArray, List.set_cons_zero, List.set_cons_succ]
              iterate 2
                refine growS_take (by rfl) ?_
                apply Exists.intro
                refine ⟨fun w' hE => ?_, ?_⟩
                · obtain ⟨q0, q1, q2, q3, r0, r1, r2, r3⟩ := HC.out w' hE; have hcmp := HQ.out
                  go_simp
                  try with_reducible rfl
                simp only [Act.put, List.setIfInBounds_toArray, List.set_cons_zero, List.set_cons_succ]
              iterate 7
                refine growS_take (wantedS G29.out rfl rfl) ?_
                apply Exists.intro
                refine ⟨fun w' hE => ?_, ?_⟩
                · obtain ⟨q0, q1, q2, q3, r0, r1, r2, r3⟩ := HC.out w' hE; have hcmp := HQ.out
                  go_simp
                  try with_reducible rfl
                simp only [Act.put, List.setIfInBounds_toArray, List.set_cons_zero, List.set_cons_succ]
              iterate 6
                refine growS_take (wantedS G36.out rfl rfl) ?_
                apply Exists.intro
                refine ⟨fun w' hE => ?_, ?_⟩
                · obtain ⟨q0, q1, q2, q3, r0, r1, r2, r3⟩ := HC.out w' hE; have hcmp := HQ.out
                  go_simp
                  try with_reducible rfl
                simp only [Act.put, List.setIfInBounds_toArray, List.set_cons_zero, List.set_cons_succ]
              iterate 1
                refine growS_take (wantedS G29.out rfl rfl) ?_
                apply Exists.intro
                refine ⟨fun w' hE => ?_, ?_⟩
                · obtain ⟨q0, q1, q2, q3, r0, r1, r2, r3⟩ := HC.out w' hE; have hcmp := HQ.out
                  go_simp
                  try with_reducible rfl
                simp only [Act.put, List.setIfInBounds_toArray, List.set_cons_zero, List.set_cons_succ]
              iterate 2
                refine growS_take (by rfl) ?_
                apply Exists.intro
                refine ⟨fun w' hE => ?_, ?_⟩
                · obtain ⟨q0, q1, q2, q3, r0, r1, r2, r3⟩ := HC.out w' hE; have hcmp := HQ.out
                  go_simp
                  try with_reducible rfl
                simp only [Act.put, List.setIfInBounds_toArray, List.set_cons_zero, List.set_cons_succ]
              iterate 6
                refine growS_take (wantedS G45.out rfl rfl) ?_
                apply Exists.intro
                refine ⟨fun w' hE => ?_, ?_⟩
                · obtain ⟨q0, q1, q2, q3, r0, r1, r2, r3⟩ := HC.out w' hE; have hcmp := HQ.out
                  go_simp
                  try with_reducible rfl
                simp only [Act.put, List.setIfInBounds_toArray, List.set_cons_zero, List.set_cons_succ]
              iterate 1
                refine growS_take (by rfl) ?_
                apply Exists.intro
                refine ⟨fun w' hE => ?_, ?_⟩
                · obtain ⟨q0, q1, q2, q3, r0, r1, r2, r3⟩ := HC.out w' hE; have hcmp := HQ.out
                  go_simp
                  try with_reducible rfl
                simp only [Act.put, List.setIfInBounds_toArray, List.set_cons_zero, List.set_cons_succ]
              refine growS_done (NoPanic.normal ?_)
              clear HC HQ HX
              go_wp2_with fail
              go_roundw
              case rel => exact ⟨k + 1, by omega, by go_num, HB.out.trans ((HXB.out.trans (HZ2.out.mono HXB.out.size)).mono HB.out.size)⟩
              case measure => simp [intOf]; omega
            · clear t3
              simp only [bs_nil] at q0 q1 q2 q3 p0 p1 p2 p3
              have HNG := Lib.hid (fun W (hb : Below wr.heap.size wr W) => And.intro ((hb.cell (p := ⟨g, o + k * 4, none⟩) hgl).trans q0) (And.intro ((hb.cell (p := ⟨g, o + k * 4 + 1, none⟩) hgl).trans q1) (And.intro ((hb.cell (p := ⟨g, o + k * 4 + 2, none⟩) hgl).trans q2) ((hb.cell (p := ⟨g, o + k * 4 + 3, none⟩) hgl).trans q3))))
              have HSG := Lib.hid (fun W (hb : Below wr.heap.size wr W) => And.intro ((hb.cell (p := ⟨G, O + j * 4, none⟩) hGl).trans p0) (And.intro ((hb.cell (p := ⟨G, O + j * 4 + 1, none⟩) hGl).trans p1) (And.intro ((hb.cell (p := ⟨G, O + j * 4 + 2, none⟩) hGl).trans p2) ((hb.cell (p := ⟨G, O + j * 4 + 3, none⟩) hGl).trans p3))))
              clear q0 q1 q2 q3 p0 p1 p2 p3
              have hx : dbk (wr.alloc (.cells #[.string (bs x), .string (bs y), .bool true, .string ⟨#[]⟩] 29)) wr.heap.size (dvA (x, y, true, [])) := dbk.new wr _ _
              have hxb : Below wr.heap.size wr (wr.alloc (.cells #[.string (bs x), .string (bs y), .bool true, .string ⟨#[]⟩] 29)) := (Below.refl _ _).alloc (Nat.le_refl _) _
              have hs1 := HSG.out _ ((Below.refl wr.heap.size wr).alloc (Nat.le_refl _) (.cells #[.string ⟨#[]⟩, .string ⟨#[]⟩, .bool false, .string ⟨#[]⟩] 29))
              obtain ⟨s0, s1, s2, s3⟩ := hs1
              have HX := Lib.hid hx; have HXB := Lib.hid hxb
              clear hx hxb
              go_wp2_with fail
              clear s0 s1 s2 s3
              generalize (wr.alloc (.cells #[.string (bs x), .string (bs y), .bool true, .string ⟨#[]⟩] 29)) = X at *
              have HC : Hid (∀ W', Below X.heap.size X W' → W'.cell? ⟨g, o + k * 4, none⟩ = some (.string (bs x)) ∧ W'.cell? ⟨g, o + k * 4 + 1, none⟩ = some (.string (bs y)) ∧ W'.cell? ⟨g, o + k * 4 + 2, none⟩ = some (.bool true) ∧ W'.cell? ⟨g, o + k * 4 + 3, none⟩ = some (.string ⟨#[]⟩) ∧
                  W'.cell? ⟨wr.heap.size, 0, none⟩ = some (.string (bs x)) ∧ W'.cell? ⟨wr.heap.size, 1, none⟩ = some (.string (bs y)) ∧ W'.cell? ⟨wr.heap.size, 2, none⟩ = some (.bool true) ∧ W'.cell? ⟨wr.heap.size, 3, none⟩ = some (.string ⟨#[]⟩)) := fun W' hb => by
                obtain ⟨n0, n1, n2, n3⟩ := HNG.out W' (HXB.out.trans (hb.mono HXB.out.size))
                obtain ⟨p0, p1, p2, p3⟩ := dbk.four (d := (x, y, true, [])) (HX.out.below hb)
                exact ⟨n0, n1, n2, n3, p0, p1, p2, p3⟩
              have HQ : Hid (∀ W, (binOp .neq 29 (.agg #[.string (bs x), .string (bs y), .bool true, .string ⟨#[]⟩]) (.agg #[.string (bs x), .string (bs y), .bool true, .string ⟨#[]⟩])).run Try.prog W = .ok (.bool false) W) := fun W => by
                have h := run_neqD (x, y, true, []) (x, y, true, []) W
                rwa [show (!(((x, y, true, []) : Dv) == (x, y, true, []))) = false from by rw [beq_self_eq_true]; rfl] at h
              generalize bs x = bx at *
              generalize bs y = bv at *
              refine wp_region_growS (.one 0 false (.one 1 false (.one 2 false (.one 3 false (.one 4 false (.one 5 false (.one 6 false (.one 7 false (.one 8 false (.one 9 false (.one 10 false (.one 11 false (.one 12 true (.one 13 false (.one 14 false (.one 15 false (.one 16 false (.one 17 false (.one 18 false (.one 19 false (.one 20 false (.one 22 false (.one 23 false (.one 24 false (.one 25 false (.one 26 false (.one 21 true (.one 27 false (.one 28 false (.one 29 false (.one 30 false (.one 31 false (.one 32 false (.one 33 false (.one 34 false (.one 35 false (.one 36 false (.one 37 false (.one 38 false (.one 39 false (.one 40 false (.one 41 false (.one 42 false (.one 43 false (.one 44 false (.one 45 false (.one 46 false (.one 47 false (.one 48 false (.one 49 false (.one 50 false (.one 51 false (.one 52 false .done)))))))))))))))))))))))))))))))))))))))))))))))))))))
                (fun W => Below X.heap.size X W) (by kernel_rfl) (by kernel_rfl) rfl (by kernel_rfl) (by kernel_rfl) (Below.refl _ _).drew (fun ops hops => ?_)
              simp only [GT.ins, List.getD_cons_zero, List.getD_cons_succ]
              have g6 : (ops[6]?).bind (·.dst) = some 68 := by rw [hops.out]; rfl
              have g15 : (ops[15]?).bind (·.dst) = some 77 := by rw [hops.out]; rfl
              have g29 : (ops[29]?).bind (·.dst) = some 91 := by rw [hops.out]; rfl
              have g36 : (ops[36]?).bind (·.dst) = some 98 := by rw [hops.out]; rfl
              have g45 : (ops[45]?).bind (·.dst) = some 107 := by rw [hops.out]; rfl
              have G6 := Lib.hid g6
              have G15 := Lib.hid g15
              have G29 := Lib.hid g29
              have G36 := Lib.hid g36
              have G45 := Lib.hid g45
              clear hops g6 g15 g29 g36 g45
              iterate 7
                refine growS_take (by rfl) ?_
                apply Exists.intro
                refine ⟨fun w' hE => ?_, ?_⟩
                · obtain ⟨q0, q1, q2, q3, r0, r1, r2, r3⟩ := HC.out w' hE; have hcmp := HQ.out
                  go_simp
                  try with_reducible rfl
                simp only [Act.put, List.setIfInBounds_toArray, List.set_cons_zero, List.set_cons_succ]
              iterate 5
                refine growS_take (wantedS G6.out rfl rfl) ?_
                apply Exists.intro
                refine ⟨fun w' hE => ?_, ?_⟩
                · obtain ⟨q0, q1, q2, q3, r0, r1, r2, r3⟩ := HC.out w' hE; have hcmp := HQ.out
                  go_simp
                  try with_reducible rfl
                simp only [Act.put, List.setIfInBounds_toArray, List.set_cons_zero, List.set_cons_succ]
              refine growS_call (wantedS G6.out rfl rfl) (fun K hK => ?_)
              go_simp
              refine (HTK.out _).mono ?_
              rintro e z1 ⟨rfl, rfl⟩
              refine hK.out _ _ (Below.refl _ _).drew ?_
              clear hK K
              iterate 1
                refine growS_take (wantedS G6.out rfl rfl) ?_
                apply Exists.intro
                refine ⟨fun w' hE => ?_, ?_⟩
                · obtain ⟨q0, q1, q2, q3, r0, r1, r2, r3⟩ := HC.out w' hE; have hcmp := HQ.out
                  go_simp
                  try with_reducible rfl
                simp only [Act.put, List.setIfInBounds_toArray, List.set_cons_zero, List.set_cons_succ]
              iterate 2
                refine growS_take (by rfl) ?_
                apply Exists.intro
                refine ⟨fun w' hE => ?_, ?_⟩
                · obtain ⟨q0, q1, q2, q3, r0, r1, r2, r3⟩ := HC.out w' hE; have hcmp := HQ.out
                  go_simp
                  try with_reducible rfl
                simp only [Act.put, List.setIfInBounds_toArray, List.set_cons_zero, List.set_cons_succ]
              iterate 10
                refine growS_take (wantedS G15.out rfl rfl) ?_
                apply Exists.intro
                refine ⟨fun w' hE => ?_, ?_⟩
                · obtain ⟨q0, q1, q2, q3, r0, r1, r2, r3⟩ := HC.out w' hE; have hcmp := HQ.out
                  go_simp
                  try with_reducible rfl
                simp only [Act.put, List.setIfInBounds_toArray, List.set_cons_zero, List.set_cons_succ]
              refine growS_call (wantedS G15.out rfl rfl) (fun K hK => ?_)
              go_simp
              refine (HLW.out _).mono ?_
              rintro e z2 ⟨rfl, hb⟩
              have hz : Below X.heap.size X z2 := ((Below.refl _ _).drew : Below X.heap.size X X.drew).trans (hb.mono ((Below.refl _ _).drew : Below X.heap.size X X.drew).size)
              refine hK.out _ _ hz ?_
              have HZ2 := Lib.hid hz
              clear hK K hb hz
              iterate 1
                refine growS_take (wantedS G15.out rfl rfl) ?_
                apply Exists.intro
                refine ⟨fun w' hE => ?_, ?_⟩
                · obtain ⟨q0, q1, q2, q3, r0, r1, r2, r3⟩ := HC.out w' hE; have hcmp := HQ.out
                  go_simp
                  try with_reducible rfl
                simp only [Act.put, List.setIfInBounds_toArray, List.set_cons_zero, List.set_cons_succ]
              iterate 2
                refine growS_take (by rfl) ?_
                apply Exists.intro
                refine ⟨fun w' hE => ?_, ?_⟩
                · obtain ⟨q0, q1, q2, q3, r0, r1, r2, r3⟩ := HC.out w' hE; have hcmp := HQ.out
                  go_simp
                  try with_reducible rfl
                simp only [Act.put, List.setIfInBounds_toArray, List.set_cons_zero, List.set_cons_succ]
              iterate 7
                refine growS_take (wantedS G29.out rfl rfl) ?_
                apply Exists.intro
                refine ⟨fun w' hE => ?_, ?_⟩
                · obtain ⟨q0, q1, q2, q3, r0, r1, r2, r3⟩ := HC.out w' hE; have hcmp := HQ.out
                  go_simp
                  try with_reducible rfl
                simp only [Act.put, List.setIfInBounds_toArray, List.set_cons_zero, List.set_cons_succ]
              refine growS_skip (unwantedS G36.out rfl rfl) ?_
              simp only [Act.put, List.setIfInBounds_toArray, List.set_cons_zero, List.set_cons_succ]
              refine growS_skip (unwantedS G36.out rfl rfl) ?_
              simp only [Act.put, List.setIfInBounds_toArray, List.set_cons_zero, List.set_cons_succ]
              refine growS_skip (unwantedS G36.out rfl rfl) ?_
              simp only [Act.put, List.setIfInBounds_toArray, List.set_cons_zero, List.set_cons_succ]
              refine growS_skip (unwantedS G36.out rfl rfl) ?_
              simp only [Act.put, List.setIfInBounds_toArray, List.set_cons_zero, List.set_cons_succ]
              refine growS_skip (unwantedS G36.out rfl rfl) ?_
              simp only [Act.put, List.setIfInBounds_toArray, List.set_cons_zero, List.set_cons_succ]
              refine growS_skip (unwantedS G36.out rfl rfl) ?_
              simp only [Act.put, List.setIfInBounds_toArray, List.set_cons_zero, List.set_cons_succ]
              iterate 1
                refine growS_take (wantedS G29.out rfl rfl) ?_
                apply Exists.intro
                refine ⟨fun w' hE => ?_, ?_⟩
                · obtain ⟨q0, q1, q2, q3, r0, r1, r2, r3⟩ := HC.out w' hE; have hcmp := HQ.out
                  go_simp
                  try with_reducible rfl
                simp only [Act.put, List.setIfInBounds_toArray, List.set_cons_zero, List.set_cons_succ]
              iterate 2
                refine growS_take (by rfl) ?_
                apply Exists.intro
                refine ⟨fun w' hE => ?_, ?_⟩
                · obtain ⟨q0, q1, q2, q3, r0, r1, r2, r3⟩ := HC.out w' hE; have hcmp := HQ.out
                  go_simp
                  try with_reducible rfl
                simp only [Act.put, List.setIfInBounds_toArray, List.set_cons_zero, List.set_cons_succ]
              iterate 6
                refine growS_take (wantedS G45.out rfl rfl) ?_
                apply Exists.intro
                refine ⟨fun w' hE => ?_, ?_⟩
                · obtain ⟨q0, q1, q2, q3, r0, r1, r2, r3⟩ := HC.out w' hE; have hcmp := HQ.out
                  go_simp
                  try with_reducible rfl
                simp only [Act.put, List.setIfInBounds_toArray, List.set_cons_zero, List.set_cons_succ]
              iterate 1
                refine growS_take (by rfl) ?_
                apply Exists.intro
                refine ⟨fun w' hE => ?_, ?_⟩
                · obtain ⟨q0, q1, q2, q3, r0, r1, r2, r3⟩ := HC.out w' hE; have hcmp := HQ.out
                  go_simp
                  try with_reducible rfl
                simp only [Act.put, List.setIfInBounds_toArray, List.set_cons_zero, List.set_cons_succ]
              refine growS_done (NoPanic.normal ?_)
              clear HC HQ HX
              go_wp2_with fail
              go_roundw
              case rel => exact ⟨k + 1, by omega, by go_num, HB.out.trans ((HXB.out.trans (HZ2.out.mono HXB.out.size)).mono HB.out.size)⟩
              case measure => simp [intOf]; omega
        · go_wp2_with fail
          have hb4 := HB3.out.trans (HB.out.mono HB3.out.size)
          refine (awakeD_any _ (HM.out.bel hb4)).mono ?_
          rintro e w4 ⟨rfl, hb⟩
          have HB4 := Lib.hid (hb4.trans (hb.mono hb4.size)); clear hb hb4
          go_wp2_with fail
          go_ret
          exact ⟨rfl, HB4.out⟩
end Go.Proofs.Ytfjikkaejhihkaa
