/- The document's own answer: a URI's normal form. -/
import Derived.Test.YtekaiafhnnpkgaaGreatDoorUriN
import Derived.Test.YtekaiafhnnpkgaaGreatDoorUriO
import Derived.Test.YtekaiafhnnpkgaaGreatDoorUriP
import Derived.Deep.DeepCutAuto
import Derived.Deep.CutBlock
namespace Go.Proofs.YtekaiafhnnpkgaaGreatDoor
open Go.RowKit

/-- the document's Normal: the cells of the URI that it changes and of what is handed back -/
structure NIn (w : World) (sc ho : ByteArray) (po : Int) (pa qu : ByteArray) (hq : Bool) (W : World) : Prop where
  res : ubk W (w.heap.size + 1) #[.string ⟨#[]⟩, .string ⟨#[]⟩, .int .i64 0, .string ⟨#[]⟩, .string ⟨#[]⟩, .bool false]
  u : ubk W w.heap.size #[.string sc, .string ho, .int .i64 po, .string pa, .string qu, .bool hq]
  bel : Below w.heap.size w W
theorem NIn.ho {w W : World} {sc ho pa qu : ByteArray} {po : Int} {hq : Bool} (h : NIn w sc ho po pa qu hq W) (v : ByteArray) : NIn w sc v po pa qu hq (W.setCell ⟨w.heap.size, 1, none⟩ (.string v)) :=
  ⟨h.res.other (a := ⟨w.heap.size, 1, none⟩) (Nat.succ_ne_self _) _, h.u.set 1 _, h.bel.setCell (p := ⟨w.heap.size, 1, none⟩) (Nat.le_refl _) _⟩
theorem NIn.po {w W : World} {sc ho pa qu : ByteArray} {po : Int} {hq : Bool} (h : NIn w sc ho po pa qu hq W) (v : Int) : NIn w sc ho v pa qu hq (W.setCell ⟨w.heap.size, 2, none⟩ (.int .i64 v)) :=
  ⟨h.res.other (a := ⟨w.heap.size, 2, none⟩) (Nat.succ_ne_self _) _, h.u.set 2 _, h.bel.setCell (p := ⟨w.heap.size, 2, none⟩) (Nat.le_refl _) _⟩
theorem NIn.pa {w W : World} {sc ho pa qu : ByteArray} {po : Int} {hq : Bool} (h : NIn w sc ho po pa qu hq W) (v : ByteArray) : NIn w sc ho po v qu hq (W.setCell ⟨w.heap.size, 3, none⟩ (.string v)) :=
  ⟨h.res.other (a := ⟨w.heap.size, 3, none⟩) (Nat.succ_ne_self _) _, h.u.set 3 _, h.bel.setCell (p := ⟨w.heap.size, 3, none⟩) (Nat.le_refl _) _⟩
theorem NIn.qu {w W : World} {sc ho pa qu : ByteArray} {po : Int} {hq : Bool} (h : NIn w sc ho po pa qu hq W) (v : ByteArray) : NIn w sc ho po pa v hq (W.setCell ⟨w.heap.size, 4, none⟩ (.string v)) :=
  ⟨h.res.other (a := ⟨w.heap.size, 4, none⟩) (Nat.succ_ne_self _) _, h.u.set 4 _, h.bel.setCell (p := ⟨w.heap.size, 4, none⟩) (Nat.le_refl _) _⟩
theorem NIn.below {w W W' : World} {sc ho pa qu : ByteArray} {po : Int} {hq : Bool} (h : NIn w sc ho po pa qu hq W) (hb : Below W.heap.size W W') : NIn w sc ho po pa qu hq W' :=
  ⟨h.res.below hb, h.u.below hb, h.bel.trans (hb.mono h.bel.size)⟩
theorem NIn.start (w : World) (sc ho : ByteArray) (po : Int) (pa qu : ByteArray) (hq : Bool) : NIn w sc ho po pa qu hq ((w.alloc (.cells #[.string sc, .string ho, .int .i64 po, .string pa, .string qu, .bool hq] 23)).alloc (.cells #[.string ⟨#[]⟩, .string ⟨#[]⟩, .int .i64 0, .string ⟨#[]⟩, .string ⟨#[]⟩, .bool false] 23)) := by
  have h1 := ubk.new (w.alloc (.cells #[.string sc, .string ho, .int .i64 po, .string pa, .string qu, .bool hq] 23)) #[.string ⟨#[]⟩, .string ⟨#[]⟩, .int .i64 0, .string ⟨#[]⟩, .string ⟨#[]⟩, .bool false] 23
  rw [World.size_alloc] at h1
  exact ⟨h1, (ubk.new w _ 23).alloc _, ((Below.refl _ _).alloc (Nat.le_refl _) _).alloc (by simp) _⟩
theorem rlowerU_any (s : List UInt8) (w : World) (hs : s.length ≤ 100000000) :
    Calls Tryz.prog 19 #[.string (bs s)] w fun e w' => e = .returned (.string (bs (lower s))) ∧ Below w.heap.size w w' := by
  have h := rlower_any (bs s) w (by rw [bs_size]; omega)
  rwa [bs_data] at h
theorem uundoL_any (s : List UInt8) (w : World) (hs : s.length ≤ 100000000) :
    Calls Tryz.prog 42 #[.string (bs s)] w fun e w' => e = .returned (.string (bs (undo s))) ∧ Below w.heap.size w w' := by
  have h := uundo_any (bs s) w (by rw [bs_size]; omega)
  rwa [bs_data] at h
theorem udotsL_any (s : List UInt8) (w : World) (hs : s.length ≤ 100000000) :
    Calls Tryz.prog 41 #[.string (bs s)] w fun e w' => e = .returned (.string (bs (dotsL s))) ∧ w = w' := by
  have h := udots_any (bs s) w (by rw [bs_size]; omega)
  rwa [bs_data] at h
set_option maxHeartbeats 4000000 in
set_option maxRecDepth 100000 in
theorem unormal_any (u : Ur) (w : World) (hu : u.okW) (hpl : u.pa.length ≤ 10000000) :
    Calls Tryz.prog 22 #[.agg #[.string (bs u.sc), .string (bs u.ho), .int .i64 u.po, .string (bs u.pa), .string (bs u.qu), .bool u.hq]] w fun r w' => r = .returned (.agg #[.string (bs u.normal.sc), .string (bs u.normal.ho), .int .i64 u.normal.po, .string (bs u.normal.pa), .string (bs u.normal.qu), .bool u.normal.hq]) ∧ Below w.heap.size w w' := by
  have hnm : u.normal = if u.check = 0 then u.norm else ur0 := rfl
  rw [hnm]
  clear hnm
  have hck := ucheck_any u ((w.alloc (.cells #[.string (bs u.sc), .string (bs u.ho), .int .i64 u.po, .string (bs u.pa), .string (bs u.qu), .bool u.hq] 23)).alloc (.cells #[.string ⟨#[]⟩, .string ⟨#[]⟩, .int .i64 0, .string ⟨#[]⟩, .string ⟨#[]⟩, .bool false] 23)) hu
  have hlen := hu.len
  have hst := NIn.start w (bs u.sc) (bs u.ho) u.po (bs u.pa) (bs u.qu) u.hq
  have hno : u.norm = ⟨u.sc, lower u.ho, if u.po = usual u.sc then 0 else u.po, dotsL (undo u.pa), undo u.qu, u.hq⟩ := rfl
  rw [hno]
  clear hno hu
  generalize u.check = k at *
  obtain ⟨sc, ho, po, pa, qu, hq⟩ := u
  simp only at hck hlen hpl hst ⊢
  have HLL : Hid (ho.length ≤ 100000000) := by show _ ≤ _; omega
  have HLP : Hid (pa.length ≤ 100000000) := by show _ ≤ _; omega
  have HLQ : Hid (qu.length ≤ 100000000) := by show _ ≤ _; omega
  have HLD : Hid ((undo pa).length ≤ 100000000) := by have := undo_len pa; show _ ≤ _; omega
  have HCK := Lib.hid hck; have HST := Lib.hid hst
  have sc0 := HST.out.u.cell 0 (.string (bs sc)) rfl
  have sc1 := HST.out.u.cell 1 (.string (bs ho)) rfl
  have sc2 := HST.out.u.cell 2 (.int .i64 po) rfl
  have sc3 := HST.out.u.cell 3 (.string (bs pa)) rfl
  have sc4 := HST.out.u.cell 4 (.string (bs qu)) rfl
  have sc5 := HST.out.u.cell 5 (.bool hq) rfl
  clear hck hlen hst hpl
  by_cases hk0 : k = 0
  · subst hk0
    rw [if_pos rfl]
    have hus : (sc = schH ∧ usual sc = 80) ∨ (sc ≠ schH ∧ sc = schS ∧ usual sc = 443) ∨ (sc ≠ schH ∧ sc ≠ schS ∧ usual sc = 0) := by
      unfold usual
      by_cases h1 : sc = schH
      · exact .inl ⟨h1, by rw [if_pos h1]⟩
      · by_cases h2 : sc = schS
        · exact .inr (.inl ⟨h1, h2, by rw [if_neg h1, if_pos h2]⟩)
        · exact .inr (.inr ⟨h1, h2, by rw [if_neg h1, if_neg h2]⟩)
    have HUS := Lib.hid hus; clear hus
    generalize usual sc = us at *
    generalize hp2 : (if po = us then 0 else po) = po2 at *
    have HP2E := Lib.hid hp2; clear hp2
    go_enter Tryz.func22, Tryz.ntmps22
    go_wp2_with fail
    refine HCK.out.mono ?_
    rintro r w1 ⟨rfl, hb1⟩
    have HP1 := Lib.hid (HST.out.below hb1); clear hb1
    have ac0 := HP1.out.u.cell 0 (.string (bs sc)) rfl
    have af0 := HP1.out.u.free 0
    have ac1 := HP1.out.u.cell 1 (.string (bs ho)) rfl
    have af1 := HP1.out.u.free 1
    have ac2 := HP1.out.u.cell 2 (.int .i64 po) rfl
    have af2 := HP1.out.u.free 2
    have ac3 := HP1.out.u.cell 3 (.string (bs pa)) rfl
    have af3 := HP1.out.u.free 3
    have ac4 := HP1.out.u.cell 4 (.string (bs qu)) rfl
    have af4 := HP1.out.u.free 4
    have ac5 := HP1.out.u.cell 5 (.bool hq) rfl
    have af5 := HP1.out.u.free 5
    go_wp2_with fail
    refine (rlowerU_any _ _ HLL.out).mono ?_
    rintro r w2 ⟨rfl, hb2⟩
    have HP2 := Lib.hid (HP1.out.below hb2); clear hb2
    clear ac0 af0 ac1 af1 ac2 af2 ac3 af3 ac4 af4 ac5 af5
    have bc0 := HP2.out.u.cell 0 (.string (bs sc)) rfl
    have bf0 := HP2.out.u.free 0
    have bc1 := HP2.out.u.cell 1 (.string (bs ho)) rfl
    have bf1 := HP2.out.u.free 1
    have bc2 := HP2.out.u.cell 2 (.int .i64 po) rfl
    have bf2 := HP2.out.u.free 2
    have bc3 := HP2.out.u.cell 3 (.string (bs pa)) rfl
    have bf3 := HP2.out.u.free 3
    have bc4 := HP2.out.u.cell 4 (.string (bs qu)) rfl
    have bf4 := HP2.out.u.free 4
    have bc5 := HP2.out.u.cell 5 (.bool hq) rfl
    have bf5 := HP2.out.u.free 5
    have HP3 := Lib.hid (HP2.out.ho (bs (lower ho)))
    have e0 := HP3.out.u.cell 0 (.string (bs sc)) rfl
    have e2 := HP3.out.u.cell 2 (.int .i64 po) rfl
    have e3 := HP3.out.u.free 2
    go_upto_region 4 with fail
    generalize w2.setCell ⟨w.heap.size, 1, none⟩ (.string (bs (lower ho))) = w3 at *
    go_cut [28] (fun v wx => ∃ b : Bool, v = .bool b ∧ w3 = wx ∧ Hid (b = true → po = us) ∧ Hid (b = false → (if po = us then 0 else po) = po))
    case first =>
      rcases HUS.out with ⟨h1, h3⟩ | ⟨h1, h2, h3⟩ | ⟨h1, h2, h3⟩
      · have q1 : ((bs sc).toList == [104, 116, 116, 112]) = true := by rw [beq_lit, h1]; rfl
        clear h1
        by_cases hpo : po = 80
        · have q2 : (po == 80) = true := beq_iff_eq.2 hpo
          have HT : Hid (po = us) := by show _ = _; rw [hpo, h3]
          clear hpo h3
          go_wp2_with fail
          go_meet
          exact ⟨true, rfl, rfl, fun _ => HT.out, (fun h => by cases h)⟩
        · have q2 : (po == 80) = false := beq_eq_false_iff_ne.2 hpo
          have q3 : ((bs sc).toList == [104, 116, 116, 112, 115]) = false := by
            rw [beq_eq_false_iff_ne]; intro h
            rw [beq_iff_eq] at q1
            rw [q1] at h; exact absurd h (by decide)
          have HT : Hid (¬ po = us) := by show ¬ _; rw [h3]; exact hpo
          clear hpo h3
          go_wp2_with fail
          go_meet
          exact ⟨false, rfl, rfl, (fun h => by cases h), fun _ => if_neg HT.out⟩
      · have q1 : ((bs sc).toList == [104, 116, 116, 112]) = false := by rw [beq_lit]; exact beq_eq_false_iff_ne.2 h1
        have q3 : ((bs sc).toList == [104, 116, 116, 112, 115]) = true := by rw [beq_lit, h2]; rfl
        clear h1 h2
        by_cases hpo : po = 443
        · have q2 : (po == 443) = true := beq_iff_eq.2 hpo
          have HT : Hid (po = us) := by show _ = _; rw [hpo, h3]
          clear hpo h3
          go_wp2_with fail
          go_meet
          exact ⟨true, rfl, rfl, fun _ => HT.out, (fun h => by cases h)⟩
        · have q2 : (po == 443) = false := beq_eq_false_iff_ne.2 hpo
          have HT : Hid (¬ po = us) := by show ¬ _; rw [h3]; exact hpo
          clear hpo h3
          go_wp2_with fail
          go_meet
          exact ⟨false, rfl, rfl, (fun h => by cases h), fun _ => if_neg HT.out⟩
      · have q1 : ((bs sc).toList == [104, 116, 116, 112]) = false := by rw [beq_lit]; exact beq_eq_false_iff_ne.2 h1
        have q3 : ((bs sc).toList == [104, 116, 116, 112, 115]) = false := by rw [beq_lit]; exact beq_eq_false_iff_ne.2 h2
        have HT : Hid ((if po = us then 0 else po) = po) := by
          show _ = _
          rw [h3]
          split
          · rename_i h; exact h.symm
          · rfl
        clear h1 h2 h3
        go_wp2_with fail
        go_meet
        exact ⟨false, rfl, rfl, (fun h => by cases h), fun _ => HT.out⟩
    case rest =>
      obtain ⟨b, rfl, rfl, HT1, HT2⟩ := hcut
      go_upto_if 28 with fail
      go_cut [] (fun wx => NIn w (bs sc) (bs (lower ho)) po2 (bs pa) (bs qu) hq wx)
      case first =>
        cases b
        · have HP4 : Hid (NIn w (bs sc) (bs (lower ho)) po2 (bs pa) (bs qu) hq w3) := by show NIn _ _ _ _ _ _ _ _; rw [← HP2E.out, HT2.out rfl]; exact HP3.out
          go_wp2_with fail
          go_meet
          exact HP4.out
        · have HP4 : Hid (NIn w (bs sc) (bs (lower ho)) po2 (bs pa) (bs qu) hq (w3.setCell ⟨w.heap.size, 2, none⟩ (.int .i64 0))) := by show NIn _ _ _ _ _ _ _ _; rw [← HP2E.out, if_pos (HT1.out rfl)]; exact HP3.out.po 0
          go_wp2_with fail
          go_meet
          exact HP4.out
      case rest =>
        have HP4 := Lib.hid hcut
        clear hcut HP3 e0 e2 e3 HT1 HT2 HUS
        have g3 := HP4.out.u.cell 3 (.string (bs pa)) rfl
        go_wp2_with fail
        refine (uundoL_any _ _ HLP.out).mono ?_
        rintro r w5 ⟨rfl, hb5⟩
        have HP5 := Lib.hid (HP4.out.below hb5); clear hb5 g3
        go_wp2_with fail
        refine (udotsL_any _ _ HLD.out).mono ?_
        rintro r w6 ⟨rfl, rfl⟩
        have pc0 := HP5.out.u.cell 0 (.string (bs sc)) rfl
        have pf0 := HP5.out.u.free 0
        have pc1 := HP5.out.u.cell 1 (.string (bs (lower ho))) rfl
        have pf1 := HP5.out.u.free 1
        have pc2 := HP5.out.u.cell 2 (.int .i64 po2) rfl
        have pf2 := HP5.out.u.free 2
        have pc3 := HP5.out.u.cell 3 (.string (bs pa)) rfl
        have pf3 := HP5.out.u.free 3
        have pc4 := HP5.out.u.cell 4 (.string (bs qu)) rfl
        have pf4 := HP5.out.u.free 4
        have pc5 := HP5.out.u.cell 5 (.bool hq) rfl
        have pf5 := HP5.out.u.free 5
        have HP6 := Lib.hid (HP5.out.pa (bs (dotsL (undo pa))))
        have g4 := HP6.out.u.cell 4 (.string (bs qu)) rfl
        go_wp2_with fail
        refine (uundoL_any _ _ HLQ.out).mono ?_
        rintro r w7 ⟨rfl, hb7⟩
        have HP7 := Lib.hid (HP6.out.below hb7); clear hb7 g4
        clear pc0 pf0 pc1 pf1 pc2 pf2 pc3 pf3 pc4 pf4 pc5 pf5
        have qc0 := HP7.out.u.cell 0 (.string (bs sc)) rfl
        have qf0 := HP7.out.u.free 0
        have qc1 := HP7.out.u.cell 1 (.string (bs (lower ho))) rfl
        have qf1 := HP7.out.u.free 1
        have qc2 := HP7.out.u.cell 2 (.int .i64 po2) rfl
        have qf2 := HP7.out.u.free 2
        have qc3 := HP7.out.u.cell 3 (.string (bs (dotsL (undo pa)))) rfl
        have qf3 := HP7.out.u.free 3
        have qc4 := HP7.out.u.cell 4 (.string (bs qu)) rfl
        have qf4 := HP7.out.u.free 4
        have qc5 := HP7.out.u.cell 5 (.bool hq) rfl
        have qf5 := HP7.out.u.free 5
        have HP8 := Lib.hid (HP7.out.qu (bs (undo qu)))
        have nc0 := HP8.out.res.cell 0 (.string ⟨#[]⟩) rfl
        have nf0 := HP8.out.res.free 0
        have nc1 := HP8.out.res.cell 1 (.string ⟨#[]⟩) rfl
        have nf1 := HP8.out.res.free 1
        have nc2 := HP8.out.res.cell 2 (.int .i64 0) rfl
        have nf2 := HP8.out.res.free 2
        have nc3 := HP8.out.res.cell 3 (.string ⟨#[]⟩) rfl
        have nf3 := HP8.out.res.free 3
        have nc4 := HP8.out.res.cell 4 (.string ⟨#[]⟩) rfl
        have nf4 := HP8.out.res.free 4
        have nc5 := HP8.out.res.cell 5 (.bool false) rfl
        have nf5 := HP8.out.res.free 5
        have hq0 := ((((((HP8.out.res.set 0 (.string (bs sc))).set 1 (.string (bs (lower ho)))).set 2 (.int .i64 po2)).set 3 (.string (bs (dotsL (undo pa))))).set 4 (.string (bs (undo qu)))).set 5 (.bool hq))
        simp only [List.setIfInBounds_toArray, List.set_cons_zero, List.set_cons_succ] at hq0
        have HQ0 := Lib.hid hq0; clear hq0
        have HBF : Hid (Below w.heap.size w (((((((w7.setCell ⟨w.heap.size, 4, none⟩ (.string (bs (undo qu)))).setCell ⟨w.heap.size + 1, 0, none⟩ (.string (bs sc))).setCell ⟨w.heap.size + 1, 1, none⟩ (.string (bs (lower ho)))).setCell ⟨w.heap.size + 1, 2, none⟩ (.int .i64 po2)).setCell ⟨w.heap.size + 1, 3, none⟩ (.string (bs (dotsL (undo pa))))).setCell ⟨w.heap.size + 1, 4, none⟩ (.string (bs (undo qu)))).setCell ⟨w.heap.size + 1, 5, none⟩ (.bool hq))) := ((((((HP8.out.bel.setCell (p := ⟨w.heap.size + 1, 0, none⟩) (Nat.le_succ _) (.string (bs sc))).setCell (p := ⟨w.heap.size + 1, 1, none⟩) (Nat.le_succ _) (.string (bs (lower ho)))).setCell (p := ⟨w.heap.size + 1, 2, none⟩) (Nat.le_succ _) (.int .i64 po2)).setCell (p := ⟨w.heap.size + 1, 3, none⟩) (Nat.le_succ _) (.string (bs (dotsL (undo pa))))).setCell (p := ⟨w.heap.size + 1, 4, none⟩) (Nat.le_succ _) (.string (bs (undo qu)))).setCell (p := ⟨w.heap.size + 1, 5, none⟩) (Nat.le_succ _) (.bool hq))
        go_wp2_with fail
        have m0 := HQ0.out.cell 0 (.string (bs sc)) rfl
        have m1 := HQ0.out.cell 1 (.string (bs (lower ho))) rfl
        have m2 := HQ0.out.cell 2 (.int .i64 po2) rfl
        have m3 := HQ0.out.cell 3 (.string (bs (dotsL (undo pa)))) rfl
        have m4 := HQ0.out.cell 4 (.string (bs (undo qu))) rfl
        have m5 := HQ0.out.cell 5 (.bool hq) rfl
        exact bodyPost_ret (v := .agg #[.string (bs sc), .string (bs (lower ho)), .int .i64 po2, .string (bs (dotsL (undo pa))), .string (bs (undo qu)), .bool hq]) (by simp [results, Tryz.results22, go_sem, m0, m1, m2, m3, m4, m5]) rfl ⟨rfl, HBF.out⟩
  · rw [if_neg hk0]
    have hkn : (k != 0) = true := bne_iff_ne.2 hk0
    clear hk0
    go_enter Tryz.func22, Tryz.ntmps22
    go_wp2_with fail
    refine HCK.out.mono ?_
    rintro r w1 ⟨rfl, hb1⟩
    have HP1 := Lib.hid (HST.out.below hb1); clear hb1
    have nc0 := HP1.out.res.cell 0 (.string ⟨#[]⟩) rfl
    have nf0 := HP1.out.res.free 0
    have nc1 := HP1.out.res.cell 1 (.string ⟨#[]⟩) rfl
    have nf1 := HP1.out.res.free 1
    have nc2 := HP1.out.res.cell 2 (.int .i64 0) rfl
    have nf2 := HP1.out.res.free 2
    have nc3 := HP1.out.res.cell 3 (.string ⟨#[]⟩) rfl
    have nf3 := HP1.out.res.free 3
    have nc4 := HP1.out.res.cell 4 (.string ⟨#[]⟩) rfl
    have nf4 := HP1.out.res.free 4
    have nc5 := HP1.out.res.cell 5 (.bool false) rfl
    have nf5 := HP1.out.res.free 5
    have hq0 := ((((((HP1.out.res.set 0 (.string ⟨#[]⟩)).set 1 (.string ⟨#[]⟩)).set 2 (.int .i64 0)).set 3 (.string ⟨#[]⟩)).set 4 (.string ⟨#[]⟩)).set 5 (.bool false))
    simp only [List.setIfInBounds_toArray, List.set_cons_zero, List.set_cons_succ] at hq0
    have HQ0 := Lib.hid hq0; clear hq0
    have HBF : Hid (Below w.heap.size w ((((((w1.setCell ⟨w.heap.size + 1, 0, none⟩ (.string ⟨#[]⟩)).setCell ⟨w.heap.size + 1, 1, none⟩ (.string ⟨#[]⟩)).setCell ⟨w.heap.size + 1, 2, none⟩ (.int .i64 0)).setCell ⟨w.heap.size + 1, 3, none⟩ (.string ⟨#[]⟩)).setCell ⟨w.heap.size + 1, 4, none⟩ (.string ⟨#[]⟩)).setCell ⟨w.heap.size + 1, 5, none⟩ (.bool false))) := ((((((HP1.out.bel.setCell (p := ⟨w.heap.size + 1, 0, none⟩) (Nat.le_succ _) (.string ⟨#[]⟩)).setCell (p := ⟨w.heap.size + 1, 1, none⟩) (Nat.le_succ _) (.string ⟨#[]⟩)).setCell (p := ⟨w.heap.size + 1, 2, none⟩) (Nat.le_succ _) (.int .i64 0)).setCell (p := ⟨w.heap.size + 1, 3, none⟩) (Nat.le_succ _) (.string ⟨#[]⟩)).setCell (p := ⟨w.heap.size + 1, 4, none⟩) (Nat.le_succ _) (.string ⟨#[]⟩)).setCell (p := ⟨w.heap.size + 1, 5, none⟩) (Nat.le_succ _) (.bool false))
    go_wp2_with fail
    have m0 := HQ0.out.cell 0 (.string ⟨#[]⟩) rfl
    have m1 := HQ0.out.cell 1 (.string ⟨#[]⟩) rfl
    have m2 := HQ0.out.cell 2 (.int .i64 0) rfl
    have m3 := HQ0.out.cell 3 (.string ⟨#[]⟩) rfl
    have m4 := HQ0.out.cell 4 (.string ⟨#[]⟩) rfl
    have m5 := HQ0.out.cell 5 (.bool false) rfl
    exact bodyPost_ret (v := .agg #[.string ⟨#[]⟩, .string ⟨#[]⟩, .int .i64 0, .string ⟨#[]⟩, .string ⟨#[]⟩, .bool false]) (by simp [results, Tryz.results22, go_sem, m0, m1, m2, m3, m4, m5]) rfl ⟨rfl, HBF.out⟩
end Go.Proofs.YtekaiafhnnpkgaaGreatDoor
