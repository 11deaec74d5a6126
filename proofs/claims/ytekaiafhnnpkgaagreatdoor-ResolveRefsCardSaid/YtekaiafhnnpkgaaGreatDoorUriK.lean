/- A URI's normal form: the uri layer's Normal. -/
import Derived.Test.YtekaiafhnnpkgaaGreatDoorUriI
import Derived.Test.YtekaiafhnnpkgaaGreatDoorUriJ
namespace Go.Proofs.YtekaiafhnnpkgaaGreatDoor
open Go.RowKit

set_option maxHeartbeats 4000000 in
set_option maxRecDepth 100000 in
theorem normal_any (u : Ur) (w : World) (he : EnvU w) (hu : u.okW) :
    Calls Tryz.prog 11 #[.agg #[.string (bs u.sc), .string (bs u.ho), .int .i64 u.po, .string (bs u.pa), .string (bs u.qu), .bool u.hq]] w fun r w' => r = .returned (.agg #[.string (bs u.normal.sc), .string (bs u.normal.ho), .int .i64 u.normal.po, .string (bs u.normal.pa), .string (bs u.normal.qu), .bool u.normal.hq]) ∧ Below w.heap.size w w' := by
  have hnm : u.normal = if u.check = 0 then u.norm else ur0 := rfl
  rw [hnm]
  clear hnm
  have hck := uriCheck_any u ((w.alloc (.cells #[.string (bs u.sc), .string (bs u.ho), .int .i64 u.po, .string (bs u.pa), .string (bs u.qu), .bool u.hq] 23)).alloc (.cells #[.string ⟨#[]⟩, .string ⟨#[]⟩, .int .i64 0, .string ⟨#[]⟩, .string ⟨#[]⟩, .bool false] 23)) ((he.alloc _).alloc _) hu
  have hlen := hu.len
  have hal : Below w.heap.size w ((w.alloc (.cells #[.string (bs u.sc), .string (bs u.ho), .int .i64 u.po, .string (bs u.pa), .string (bs u.qu), .bool u.hq] 23)).alloc (.cells #[.string ⟨#[]⟩, .string ⟨#[]⟩, .int .i64 0, .string ⟨#[]⟩, .string ⟨#[]⟩, .bool false] 23)) := ((Below.refl _ _).alloc (Nat.le_refl _) _).alloc (by simp) _
  have hbn := (ubk.new w #[.string (bs u.sc), .string (bs u.ho), .int .i64 u.po, .string (bs u.pa), .string (bs u.qu), .bool u.hq] 23).alloc (.cells #[.string ⟨#[]⟩, .string ⟨#[]⟩, .int .i64 0, .string ⟨#[]⟩, .string ⟨#[]⟩, .bool false] 23)
  have hbr := ubk.new (w.alloc (.cells #[.string (bs u.sc), .string (bs u.ho), .int .i64 u.po, .string (bs u.pa), .string (bs u.qu), .bool u.hq] 23)) #[.string ⟨#[]⟩, .string ⟨#[]⟩, .int .i64 0, .string ⟨#[]⟩, .string ⟨#[]⟩, .bool false] 23
  rw [World.size_alloc] at hbr
  have hno : u.norm = ⟨u.sc, lower u.ho, if u.po = usual u.sc then 0 else u.po, dotsL (undo u.pa), undo u.qu, u.hq⟩ := rfl
  rw [hno]
  clear hno hu
  generalize u.check = k at *
  obtain ⟨sc, ho, po, pa, qu, hq⟩ := u
  simp only at hck hlen hal hbn hbr ⊢
  have HLC : Hid (sc.length ≤ 281474976710656) := by show _ ≤ _; omega
  have HLL : Hid (ho.length ≤ maxLen) := by show _ ≤ _; unfold maxLen; omega
  have HLP : Hid (pa.length ≤ 100000000) := by show _ ≤ _; omega
  have HLQ : Hid (qu.length ≤ 100000000) := by show _ ≤ _; omega
  have HLD : Hid ((undo pa).length ≤ 1000000000) := by
    have h1 := rends_len (toks pa)
    have h2 := toks_len pa.length pa (Nat.le_refl _)
    show ((toks pa).flatMap rend).length ≤ _
    omega
  have HUP := Lib.hid (usualPort_any sc)
  have HCK := Lib.hid hck; have HAL := Lib.hid hal; have HBN := Lib.hid hbn; have HBR := Lib.hid hbr; have HE := Lib.hid he
  clear hck hlen hal hbn hbr he
  by_cases hk0 : k = 0
  · subst hk0
    rw [if_pos rfl]
    by_cases hpo : po = usual sc
    · rw [if_pos hpo]
      have hpb : (po == usual sc) = true := beq_iff_eq.2 hpo
      clear hpo
      generalize usual sc = us at *
      go_enter Tryz.func11, Tryz.ntmps11
      go_wp2_with fail
      refine HCK.out.mono ?_
      rintro r w1 ⟨rfl, hb1⟩
      have hn1 := HBN.out.below hb1
      have hr1 := HBR.out.below hb1
      have HB1 := Lib.hid (HAL.out.trans (hb1.mono HAL.out.size)); clear hb1
      have ac0 := hn1.cell 0 (.string (bs sc)) rfl
      have af0 := hn1.free 0
      have ac1 := hn1.cell 1 (.string (bs ho)) rfl
      have af1 := hn1.free 1
      have ac2 := hn1.cell 2 (.int .i64 po) rfl
      have af2 := hn1.free 2
      have ac3 := hn1.cell 3 (.string (bs pa)) rfl
      have af3 := hn1.free 3
      have ac4 := hn1.cell 4 (.string (bs qu)) rfl
      have af4 := hn1.free 4
      have ac5 := hn1.cell 5 (.bool hq) rfl
      have af5 := hn1.free 5
      go_wp2_with fail
      go_quiet ((go_at_call 25; exact Calls.quiet_of_same ((HUP.out _).mono fun _ _ h => ⟨h.1, h.2.symm⟩)))
      have hnq : ubk (w1.drewN nq) w.heap.size #[.string (bs sc), .string (bs ho), .int .i64 po, .string (bs pa), .string (bs qu), .bool hq] := hn1.keep rfl
      have hrq : ubk (w1.drewN nq) (w.heap.size + 1) #[.string ⟨#[]⟩, .string ⟨#[]⟩, .int .i64 0, .string ⟨#[]⟩, .string ⟨#[]⟩, .bool false] := hr1.keep rfl
      have HBq : Hid (Below w.heap.size w (w1.drewN nq)) := ⟨HB1.out.os, HB1.out.tape, HB1.out.output, HB1.out.size, HB1.out.block⟩
      clear hn1 hr1 HB1 ac0 af0 ac1 af1 ac2 af2 ac3 af3 ac4 af4 ac5 af5
      generalize w1.drewN nq = x1 at *
      have hn1 := hnq; have hr1 := hrq; have HB1 := HBq; clear hnq hrq HBq
      have ac0 := hn1.cell 0 (.string (bs sc)) rfl
      have af0 := hn1.free 0
      have ac1 := hn1.cell 1 (.string (bs ho)) rfl
      have af1 := hn1.free 1
      have ac2 := hn1.cell 2 (.int .i64 po) rfl
      have af2 := hn1.free 2
      have ac3 := hn1.cell 3 (.string (bs pa)) rfl
      have af3 := hn1.free 3
      have ac4 := hn1.cell 4 (.string (bs qu)) rfl
      have af4 := hn1.free 4
      have ac5 := hn1.cell 5 (.bool hq) rfl
      have af5 := hn1.free 5
      have hn := hn1.set 2 (.int .i64 0)
      simp only [List.setIfInBounds_toArray, List.set_cons_zero, List.set_cons_succ] at hn
      have hr : ubk (x1.setCell ⟨w.heap.size, 2, none⟩ (.int .i64 0)) (w.heap.size + 1) #[.string ⟨#[]⟩, .string ⟨#[]⟩, .int .i64 0, .string ⟨#[]⟩, .string ⟨#[]⟩, .bool false] := hr1.other (a := ⟨w.heap.size, 2, none⟩) (Nat.succ_ne_self _) _
      have HS1 : Hid (Below w.heap.size w (x1.setCell ⟨w.heap.size, 2, none⟩ (.int .i64 0))) := HB1.out.setCell (p := ⟨w.heap.size, 2, none⟩) (Nat.le_refl _) _
      have HN1 := Lib.hid hn; have HR1 := Lib.hid hr; clear hn hr hn1 hr1
      go_wp2_with fail
      refine (cloneU_any _ _ HLC.out).mono ?_
      rintro r w2 ⟨rfl, hb2⟩
      have hn2 := HN1.out.below hb2
      have hr2 := HR1.out.below hb2
      have HB2 := Lib.hid (HS1.out.trans (hb2.mono HS1.out.size)); clear hb2
      clear ac0 af0 ac1 af1 ac2 af2 ac3 af3 ac4 af4 ac5 af5
      have bc0 := hn2.cell 0 (.string (bs sc)) rfl
      have bf0 := hn2.free 0
      have bc1 := hn2.cell 1 (.string (bs ho)) rfl
      have bf1 := hn2.free 1
      have bc2 := hn2.cell 2 (.int .i64 0) rfl
      have bf2 := hn2.free 2
      have bc3 := hn2.cell 3 (.string (bs pa)) rfl
      have bf3 := hn2.free 3
      have bc4 := hn2.cell 4 (.string (bs qu)) rfl
      have bf4 := hn2.free 4
      have bc5 := hn2.cell 5 (.bool hq) rfl
      have bf5 := hn2.free 5
      have hn := hn2.set 0 (.string (bs sc))
      simp only [List.setIfInBounds_toArray, List.set_cons_zero] at hn
      have hr : ubk (w2.setCell ⟨w.heap.size, 0, none⟩ (.string (bs sc))) (w.heap.size + 1) #[.string ⟨#[]⟩, .string ⟨#[]⟩, .int .i64 0, .string ⟨#[]⟩, .string ⟨#[]⟩, .bool false] := hr2.other (a := ⟨w.heap.size, 0, none⟩) (Nat.succ_ne_self _) _
      have HS2 : Hid (Below w.heap.size w (w2.setCell ⟨w.heap.size, 0, none⟩ (.string (bs sc)))) := HB2.out.setCell (p := ⟨w.heap.size, 0, none⟩) (Nat.le_refl _) _
      have HN2 := Lib.hid hn; have HR2 := Lib.hid hr; clear hn hr hn2 hr2
      go_wp2_with fail
      refine (lowerU_any _ _ HLL.out).mono ?_
      rintro r w3 ⟨rfl, hb3⟩
      have hn3 := HN2.out.below hb3
      have hr3 := HR2.out.below hb3
      have HB3 := Lib.hid (HS2.out.trans (hb3.mono HS2.out.size)); clear hb3
      clear bc0 bf0 bc1 bf1 bc2 bf2 bc3 bf3 bc4 bf4 bc5 bf5
      have ac0 := hn3.cell 0 (.string (bs sc)) rfl
      have af0 := hn3.free 0
      have ac1 := hn3.cell 1 (.string (bs ho)) rfl
      have af1 := hn3.free 1
      have ac2 := hn3.cell 2 (.int .i64 0) rfl
      have af2 := hn3.free 2
      have ac3 := hn3.cell 3 (.string (bs pa)) rfl
      have af3 := hn3.free 3
      have ac4 := hn3.cell 4 (.string (bs qu)) rfl
      have af4 := hn3.free 4
      have ac5 := hn3.cell 5 (.bool hq) rfl
      have af5 := hn3.free 5
      have hn := hn3.set 1 (.string (bs (lower ho)))
      simp only [List.setIfInBounds_toArray, List.set_cons_zero, List.set_cons_succ] at hn
      have hr : ubk (w3.setCell ⟨w.heap.size, 1, none⟩ (.string (bs (lower ho)))) (w.heap.size + 1) #[.string ⟨#[]⟩, .string ⟨#[]⟩, .int .i64 0, .string ⟨#[]⟩, .string ⟨#[]⟩, .bool false] := hr3.other (a := ⟨w.heap.size, 1, none⟩) (Nat.succ_ne_self _) _
      have HS3 : Hid (Below w.heap.size w (w3.setCell ⟨w.heap.size, 1, none⟩ (.string (bs (lower ho))))) := HB3.out.setCell (p := ⟨w.heap.size, 1, none⟩) (Nat.le_refl _) _
      have HN3 := Lib.hid hn; have HR3 := Lib.hid hr; clear hn hr hn3 hr3
      go_wp2_with fail
      refine (unescaped_any _ _ (HE.out.below HS3.out (Nat.le_refl _)) HLP.out).mono ?_
      rintro r w4 ⟨rfl, hb4⟩
      have hn4 := HN3.out.below hb4
      have hr4 := HR3.out.below hb4
      have HB4 := Lib.hid (HS3.out.trans (hb4.mono HS3.out.size)); clear hb4
      clear ac0 af0 ac1 af1 ac2 af2 ac3 af3 ac4 af4 ac5 af5
      go_wp2_with fail
      refine (dots_any _ _ (HE.out.below HB4.out (Nat.le_refl _)) HLD.out).mono ?_
      rintro r w5 ⟨rfl, hb5⟩
      have hn5 := hn4.below hb5
      have hr5 := hr4.below hb5
      have HB5 := Lib.hid (HB4.out.trans (hb5.mono HB4.out.size)); clear hb5
      clear hn4 hr4
      have bc0 := hn5.cell 0 (.string (bs sc)) rfl
      have bf0 := hn5.free 0
      have bc1 := hn5.cell 1 (.string (bs (lower ho))) rfl
      have bf1 := hn5.free 1
      have bc2 := hn5.cell 2 (.int .i64 0) rfl
      have bf2 := hn5.free 2
      have bc3 := hn5.cell 3 (.string (bs pa)) rfl
      have bf3 := hn5.free 3
      have bc4 := hn5.cell 4 (.string (bs qu)) rfl
      have bf4 := hn5.free 4
      have bc5 := hn5.cell 5 (.bool hq) rfl
      have bf5 := hn5.free 5
      have hn := hn5.set 3 (.string (bs (dotsL (undo pa))))
      simp only [List.setIfInBounds_toArray, List.set_cons_zero, List.set_cons_succ] at hn
      have hr : ubk (w5.setCell ⟨w.heap.size, 3, none⟩ (.string (bs (dotsL (undo pa))))) (w.heap.size + 1) #[.string ⟨#[]⟩, .string ⟨#[]⟩, .int .i64 0, .string ⟨#[]⟩, .string ⟨#[]⟩, .bool false] := hr5.other (a := ⟨w.heap.size, 3, none⟩) (Nat.succ_ne_self _) _
      have HS5 : Hid (Below w.heap.size w (w5.setCell ⟨w.heap.size, 3, none⟩ (.string (bs (dotsL (undo pa)))))) := HB5.out.setCell (p := ⟨w.heap.size, 3, none⟩) (Nat.le_refl _) _
      have HN5 := Lib.hid hn; have HR5 := Lib.hid hr; clear hn hr hn5 hr5
      go_wp2_with fail
      refine (unescaped_any _ _ (HE.out.below HS5.out (Nat.le_refl _)) HLQ.out).mono ?_
      rintro r w6 ⟨rfl, hb6⟩
      have hn6 := HN5.out.below hb6
      have hr6 := HR5.out.below hb6
      have HB6 := Lib.hid (HS5.out.trans (hb6.mono HS5.out.size)); clear hb6
      clear bc0 bf0 bc1 bf1 bc2 bf2 bc3 bf3 bc4 bf4 bc5 bf5
      have ac0 := hn6.cell 0 (.string (bs sc)) rfl
      have af0 := hn6.free 0
      have ac1 := hn6.cell 1 (.string (bs (lower ho))) rfl
      have af1 := hn6.free 1
      have ac2 := hn6.cell 2 (.int .i64 0) rfl
      have af2 := hn6.free 2
      have ac3 := hn6.cell 3 (.string (bs (dotsL (undo pa)))) rfl
      have af3 := hn6.free 3
      have ac4 := hn6.cell 4 (.string (bs qu)) rfl
      have af4 := hn6.free 4
      have ac5 := hn6.cell 5 (.bool hq) rfl
      have af5 := hn6.free 5
      have rc0 := hr6.cell 0 (.string ⟨#[]⟩) rfl
      have rf0 := hr6.free 0
      have rc1 := hr6.cell 1 (.string ⟨#[]⟩) rfl
      have rf1 := hr6.free 1
      have rc2 := hr6.cell 2 (.int .i64 0) rfl
      have rf2 := hr6.free 2
      have rc3 := hr6.cell 3 (.string ⟨#[]⟩) rfl
      have rf3 := hr6.free 3
      have rc4 := hr6.cell 4 (.string ⟨#[]⟩) rfl
      have rf4 := hr6.free 4
      have rc5 := hr6.cell 5 (.bool false) rfl
      have rf5 := hr6.free 5
      have hn := hn6.set 4 (.string (bs (undo qu)))
      simp only [List.setIfInBounds_toArray, List.set_cons_zero, List.set_cons_succ] at hn
      have hr : ubk (w6.setCell ⟨w.heap.size, 4, none⟩ (.string (bs (undo qu)))) (w.heap.size + 1) #[.string ⟨#[]⟩, .string ⟨#[]⟩, .int .i64 0, .string ⟨#[]⟩, .string ⟨#[]⟩, .bool false] := hr6.other (a := ⟨w.heap.size, 4, none⟩) (Nat.succ_ne_self _) _
      have HS6 : Hid (Below w.heap.size w (w6.setCell ⟨w.heap.size, 4, none⟩ (.string (bs (undo qu))))) := HB6.out.setCell (p := ⟨w.heap.size, 4, none⟩) (Nat.le_refl _) _
      have HN6 := Lib.hid hn; have HR6 := Lib.hid hr; clear hn hr hn6 hr6
      have hq0 := ((((((HR6.out.set 0 (.string (bs sc))).set 1 (.string (bs (lower ho)))).set 2 (.int .i64 0)).set 3 (.string (bs (dotsL (undo pa))))).set 4 (.string (bs (undo qu)))).set 5 (.bool hq))
      simp only [List.setIfInBounds_toArray, List.set_cons_zero, List.set_cons_succ] at hq0
      have HQ0 := Lib.hid hq0; clear hq0
      have HBF : Hid (Below w.heap.size w (((((((w6.setCell ⟨w.heap.size, 4, none⟩ (.string (bs (undo qu)))).setCell ⟨(w.heap.size + 1), 0, none⟩ (.string (bs sc))).setCell ⟨(w.heap.size + 1), 1, none⟩ (.string (bs (lower ho)))).setCell ⟨(w.heap.size + 1), 2, none⟩ (.int .i64 0)).setCell ⟨(w.heap.size + 1), 3, none⟩ (.string (bs (dotsL (undo pa))))).setCell ⟨(w.heap.size + 1), 4, none⟩ (.string (bs (undo qu)))).setCell ⟨(w.heap.size + 1), 5, none⟩ (.bool hq))) := ((((((HS6.out.setCell (p := ⟨(w.heap.size + 1), 0, none⟩) (Nat.le_succ _) (.string (bs sc))).setCell (p := ⟨(w.heap.size + 1), 1, none⟩) (Nat.le_succ _) (.string (bs (lower ho)))).setCell (p := ⟨(w.heap.size + 1), 2, none⟩) (Nat.le_succ _) (.int .i64 0)).setCell (p := ⟨(w.heap.size + 1), 3, none⟩) (Nat.le_succ _) (.string (bs (dotsL (undo pa))))).setCell (p := ⟨(w.heap.size + 1), 4, none⟩) (Nat.le_succ _) (.string (bs (undo qu)))).setCell (p := ⟨(w.heap.size + 1), 5, none⟩) (Nat.le_succ _) (.bool hq))
      go_wp2_with fail
      have m0 := HQ0.out.cell 0 (.string (bs sc)) rfl
      have m1 := HQ0.out.cell 1 (.string (bs (lower ho))) rfl
      have m2 := HQ0.out.cell 2 (.int .i64 0) rfl
      have m3 := HQ0.out.cell 3 (.string (bs (dotsL (undo pa)))) rfl
      have m4 := HQ0.out.cell 4 (.string (bs (undo qu))) rfl
      have m5 := HQ0.out.cell 5 (.bool hq) rfl
      exact bodyPost_ret (v := .agg #[.string (bs sc), .string (bs (lower ho)), .int .i64 0, .string (bs (dotsL (undo pa))), .string (bs (undo qu)), .bool hq]) (by simp [results, Tryz.results11, go_sem, m0, m1, m2, m3, m4, m5]) rfl ⟨rfl, HBF.out⟩
    · rw [if_neg hpo]
      have hpb : (po == usual sc) = false := beq_eq_false_iff_ne.2 hpo
      clear hpo
      generalize usual sc = us at *
      go_enter Tryz.func11, Tryz.ntmps11
      go_wp2_with fail
      refine HCK.out.mono ?_
      rintro r w1 ⟨rfl, hb1⟩
      have hn1 := HBN.out.below hb1
      have hr1 := HBR.out.below hb1
      have HB1 := Lib.hid (HAL.out.trans (hb1.mono HAL.out.size)); clear hb1
      have ac0 := hn1.cell 0 (.string (bs sc)) rfl
      have af0 := hn1.free 0
      have ac1 := hn1.cell 1 (.string (bs ho)) rfl
      have af1 := hn1.free 1
      have ac2 := hn1.cell 2 (.int .i64 po) rfl
      have af2 := hn1.free 2
      have ac3 := hn1.cell 3 (.string (bs pa)) rfl
      have af3 := hn1.free 3
      have ac4 := hn1.cell 4 (.string (bs qu)) rfl
      have af4 := hn1.free 4
      have ac5 := hn1.cell 5 (.bool hq) rfl
      have af5 := hn1.free 5
      go_wp2_with fail
      go_quiet ((go_at_call 25; exact Calls.quiet_of_same ((HUP.out _).mono fun _ _ h => ⟨h.1, h.2.symm⟩)))
      have hnq : ubk (w1.drewN nq) w.heap.size #[.string (bs sc), .string (bs ho), .int .i64 po, .string (bs pa), .string (bs qu), .bool hq] := hn1.keep rfl
      have hrq : ubk (w1.drewN nq) (w.heap.size + 1) #[.string ⟨#[]⟩, .string ⟨#[]⟩, .int .i64 0, .string ⟨#[]⟩, .string ⟨#[]⟩, .bool false] := hr1.keep rfl
      have HBq : Hid (Below w.heap.size w (w1.drewN nq)) := ⟨HB1.out.os, HB1.out.tape, HB1.out.output, HB1.out.size, HB1.out.block⟩
      clear hn1 hr1 HB1 ac0 af0 ac1 af1 ac2 af2 ac3 af3 ac4 af4 ac5 af5
      generalize w1.drewN nq = x1 at *
      have hn1 := hnq; have hr1 := hrq; have HB1 := HBq; clear hnq hrq HBq
      have ac0 := hn1.cell 0 (.string (bs sc)) rfl
      have af0 := hn1.free 0
      have ac1 := hn1.cell 1 (.string (bs ho)) rfl
      have af1 := hn1.free 1
      have ac2 := hn1.cell 2 (.int .i64 po) rfl
      have af2 := hn1.free 2
      have ac3 := hn1.cell 3 (.string (bs pa)) rfl
      have af3 := hn1.free 3
      have ac4 := hn1.cell 4 (.string (bs qu)) rfl
      have af4 := hn1.free 4
      have ac5 := hn1.cell 5 (.bool hq) rfl
      have af5 := hn1.free 5
      have HS1 := HB1; have HN1 := Lib.hid hn1; have HR1 := Lib.hid hr1; clear hn1 hr1
      go_wp2_with fail
      refine (cloneU_any _ _ HLC.out).mono ?_
      rintro r w2 ⟨rfl, hb2⟩
      have hn2 := HN1.out.below hb2
      have hr2 := HR1.out.below hb2
      have HB2 := Lib.hid (HS1.out.trans (hb2.mono HS1.out.size)); clear hb2
      clear ac0 af0 ac1 af1 ac2 af2 ac3 af3 ac4 af4 ac5 af5
      have bc0 := hn2.cell 0 (.string (bs sc)) rfl
      have bf0 := hn2.free 0
      have bc1 := hn2.cell 1 (.string (bs ho)) rfl
      have bf1 := hn2.free 1
      have bc2 := hn2.cell 2 (.int .i64 po) rfl
      have bf2 := hn2.free 2
      have bc3 := hn2.cell 3 (.string (bs pa)) rfl
      have bf3 := hn2.free 3
      have bc4 := hn2.cell 4 (.string (bs qu)) rfl
      have bf4 := hn2.free 4
      have bc5 := hn2.cell 5 (.bool hq) rfl
      have bf5 := hn2.free 5
      have hn := hn2.set 0 (.string (bs sc))
      simp only [List.setIfInBounds_toArray, List.set_cons_zero] at hn
      have hr : ubk (w2.setCell ⟨w.heap.size, 0, none⟩ (.string (bs sc))) (w.heap.size + 1) #[.string ⟨#[]⟩, .string ⟨#[]⟩, .int .i64 0, .string ⟨#[]⟩, .string ⟨#[]⟩, .bool false] := hr2.other (a := ⟨w.heap.size, 0, none⟩) (Nat.succ_ne_self _) _
      have HS2 : Hid (Below w.heap.size w (w2.setCell ⟨w.heap.size, 0, none⟩ (.string (bs sc)))) := HB2.out.setCell (p := ⟨w.heap.size, 0, none⟩) (Nat.le_refl _) _
      have HN2 := Lib.hid hn; have HR2 := Lib.hid hr; clear hn hr hn2 hr2
      go_wp2_with fail
      refine (lowerU_any _ _ HLL.out).mono ?_
      rintro r w3 ⟨rfl, hb3⟩
      have hn3 := HN2.out.below hb3
      have hr3 := HR2.out.below hb3
      have HB3 := Lib.hid (HS2.out.trans (hb3.mono HS2.out.size)); clear hb3
      clear bc0 bf0 bc1 bf1 bc2 bf2 bc3 bf3 bc4 bf4 bc5 bf5
      have ac0 := hn3.cell 0 (.string (bs sc)) rfl
      have af0 := hn3.free 0
      have ac1 := hn3.cell 1 (.string (bs ho)) rfl
      have af1 := hn3.free 1
      have ac2 := hn3.cell 2 (.int .i64 po) rfl
      have af2 := hn3.free 2
      have ac3 := hn3.cell 3 (.string (bs pa)) rfl
      have af3 := hn3.free 3
      have ac4 := hn3.cell 4 (.string (bs qu)) rfl
      have af4 := hn3.free 4
      have ac5 := hn3.cell 5 (.bool hq) rfl
      have af5 := hn3.free 5
      have hn := hn3.set 1 (.string (bs (lower ho)))
      simp only [List.setIfInBounds_toArray, List.set_cons_zero, List.set_cons_succ] at hn
      have hr : ubk (w3.setCell ⟨w.heap.size, 1, none⟩ (.string (bs (lower ho)))) (w.heap.size + 1) #[.string ⟨#[]⟩, .string ⟨#[]⟩, .int .i64 0, .string ⟨#[]⟩, .string ⟨#[]⟩, .bool false] := hr3.other (a := ⟨w.heap.size, 1, none⟩) (Nat.succ_ne_self _) _
      have HS3 : Hid (Below w.heap.size w (w3.setCell ⟨w.heap.size, 1, none⟩ (.string (bs (lower ho))))) := HB3.out.setCell (p := ⟨w.heap.size, 1, none⟩) (Nat.le_refl _) _
      have HN3 := Lib.hid hn; have HR3 := Lib.hid hr; clear hn hr hn3 hr3
      go_wp2_with fail
      refine (unescaped_any _ _ (HE.out.below HS3.out (Nat.le_refl _)) HLP.out).mono ?_
      rintro r w4 ⟨rfl, hb4⟩
      have hn4 := HN3.out.below hb4
      have hr4 := HR3.out.below hb4
      have HB4 := Lib.hid (HS3.out.trans (hb4.mono HS3.out.size)); clear hb4
      clear ac0 af0 ac1 af1 ac2 af2 ac3 af3 ac4 af4 ac5 af5
      go_wp2_with fail
      refine (dots_any _ _ (HE.out.below HB4.out (Nat.le_refl _)) HLD.out).mono ?_
      rintro r w5 ⟨rfl, hb5⟩
      have hn5 := hn4.below hb5
      have hr5 := hr4.below hb5
      have HB5 := Lib.hid (HB4.out.trans (hb5.mono HB4.out.size)); clear hb5
      clear hn4 hr4
      have bc0 := hn5.cell 0 (.string (bs sc)) rfl
      have bf0 := hn5.free 0
      have bc1 := hn5.cell 1 (.string (bs (lower ho))) rfl
      have bf1 := hn5.free 1
      have bc2 := hn5.cell 2 (.int .i64 po) rfl
      have bf2 := hn5.free 2
      have bc3 := hn5.cell 3 (.string (bs pa)) rfl
      have bf3 := hn5.free 3
      have bc4 := hn5.cell 4 (.string (bs qu)) rfl
      have bf4 := hn5.free 4
      have bc5 := hn5.cell 5 (.bool hq) rfl
      have bf5 := hn5.free 5
      have hn := hn5.set 3 (.string (bs (dotsL (undo pa))))
      simp only [List.setIfInBounds_toArray, List.set_cons_zero, List.set_cons_succ] at hn
      have hr : ubk (w5.setCell ⟨w.heap.size, 3, none⟩ (.string (bs (dotsL (undo pa))))) (w.heap.size + 1) #[.string ⟨#[]⟩, .string ⟨#[]⟩, .int .i64 0, .string ⟨#[]⟩, .string ⟨#[]⟩, .bool false] := hr5.other (a := ⟨w.heap.size, 3, none⟩) (Nat.succ_ne_self _) _
      have HS5 : Hid (Below w.heap.size w (w5.setCell ⟨w.heap.size, 3, none⟩ (.string (bs (dotsL (undo pa)))))) := HB5.out.setCell (p := ⟨w.heap.size, 3, none⟩) (Nat.le_refl _) _
      have HN5 := Lib.hid hn; have HR5 := Lib.hid hr; clear hn hr hn5 hr5
      go_wp2_with fail
      refine (unescaped_any _ _ (HE.out.below HS5.out (Nat.le_refl _)) HLQ.out).mono ?_
      rintro r w6 ⟨rfl, hb6⟩
      have hn6 := HN5.out.below hb6
      have hr6 := HR5.out.below hb6
      have HB6 := Lib.hid (HS5.out.trans (hb6.mono HS5.out.size)); clear hb6
      clear bc0 bf0 bc1 bf1 bc2 bf2 bc3 bf3 bc4 bf4 bc5 bf5
      have ac0 := hn6.cell 0 (.string (bs sc)) rfl
      have af0 := hn6.free 0
      have ac1 := hn6.cell 1 (.string (bs (lower ho))) rfl
      have af1 := hn6.free 1
      have ac2 := hn6.cell 2 (.int .i64 po) rfl
      have af2 := hn6.free 2
      have ac3 := hn6.cell 3 (.string (bs (dotsL (undo pa)))) rfl
      have af3 := hn6.free 3
      have ac4 := hn6.cell 4 (.string (bs qu)) rfl
      have af4 := hn6.free 4
      have ac5 := hn6.cell 5 (.bool hq) rfl
      have af5 := hn6.free 5
      have rc0 := hr6.cell 0 (.string ⟨#[]⟩) rfl
      have rf0 := hr6.free 0
      have rc1 := hr6.cell 1 (.string ⟨#[]⟩) rfl
      have rf1 := hr6.free 1
      have rc2 := hr6.cell 2 (.int .i64 0) rfl
      have rf2 := hr6.free 2
      have rc3 := hr6.cell 3 (.string ⟨#[]⟩) rfl
      have rf3 := hr6.free 3
      have rc4 := hr6.cell 4 (.string ⟨#[]⟩) rfl
      have rf4 := hr6.free 4
      have rc5 := hr6.cell 5 (.bool false) rfl
      have rf5 := hr6.free 5
      have hn := hn6.set 4 (.string (bs (undo qu)))
      simp only [List.setIfInBounds_toArray, List.set_cons_zero, List.set_cons_succ] at hn
      have hr : ubk (w6.setCell ⟨w.heap.size, 4, none⟩ (.string (bs (undo qu)))) (w.heap.size + 1) #[.string ⟨#[]⟩, .string ⟨#[]⟩, .int .i64 0, .string ⟨#[]⟩, .string ⟨#[]⟩, .bool false] := hr6.other (a := ⟨w.heap.size, 4, none⟩) (Nat.succ_ne_self _) _
      have HS6 : Hid (Below w.heap.size w (w6.setCell ⟨w.heap.size, 4, none⟩ (.string (bs (undo qu))))) := HB6.out.setCell (p := ⟨w.heap.size, 4, none⟩) (Nat.le_refl _) _
      have HN6 := Lib.hid hn; have HR6 := Lib.hid hr; clear hn hr hn6 hr6
      have hq0 := ((((((HR6.out.set 0 (.string (bs sc))).set 1 (.string (bs (lower ho)))).set 2 (.int .i64 po)).set 3 (.string (bs (dotsL (undo pa))))).set 4 (.string (bs (undo qu)))).set 5 (.bool hq))
      simp only [List.setIfInBounds_toArray, List.set_cons_zero, List.set_cons_succ] at hq0
      have HQ0 := Lib.hid hq0; clear hq0
      have HBF : Hid (Below w.heap.size w (((((((w6.setCell ⟨w.heap.size, 4, none⟩ (.string (bs (undo qu)))).setCell ⟨(w.heap.size + 1), 0, none⟩ (.string (bs sc))).setCell ⟨(w.heap.size + 1), 1, none⟩ (.string (bs (lower ho)))).setCell ⟨(w.heap.size + 1), 2, none⟩ (.int .i64 po)).setCell ⟨(w.heap.size + 1), 3, none⟩ (.string (bs (dotsL (undo pa))))).setCell ⟨(w.heap.size + 1), 4, none⟩ (.string (bs (undo qu)))).setCell ⟨(w.heap.size + 1), 5, none⟩ (.bool hq))) := ((((((HS6.out.setCell (p := ⟨(w.heap.size + 1), 0, none⟩) (Nat.le_succ _) (.string (bs sc))).setCell (p := ⟨(w.heap.size + 1), 1, none⟩) (Nat.le_succ _) (.string (bs (lower ho)))).setCell (p := ⟨(w.heap.size + 1), 2, none⟩) (Nat.le_succ _) (.int .i64 po)).setCell (p := ⟨(w.heap.size + 1), 3, none⟩) (Nat.le_succ _) (.string (bs (dotsL (undo pa))))).setCell (p := ⟨(w.heap.size + 1), 4, none⟩) (Nat.le_succ _) (.string (bs (undo qu)))).setCell (p := ⟨(w.heap.size + 1), 5, none⟩) (Nat.le_succ _) (.bool hq))
      go_wp2_with fail
      have m0 := HQ0.out.cell 0 (.string (bs sc)) rfl
      have m1 := HQ0.out.cell 1 (.string (bs (lower ho))) rfl
      have m2 := HQ0.out.cell 2 (.int .i64 po) rfl
      have m3 := HQ0.out.cell 3 (.string (bs (dotsL (undo pa)))) rfl
      have m4 := HQ0.out.cell 4 (.string (bs (undo qu))) rfl
      have m5 := HQ0.out.cell 5 (.bool hq) rfl
      exact bodyPost_ret (v := .agg #[.string (bs sc), .string (bs (lower ho)), .int .i64 po, .string (bs (dotsL (undo pa))), .string (bs (undo qu)), .bool hq]) (by simp [results, Tryz.results11, go_sem, m0, m1, m2, m3, m4, m5]) rfl ⟨rfl, HBF.out⟩
  · rw [if_neg hk0]
    have hkn : (k != 0) = true := bne_iff_ne.2 hk0
    clear hk0
    go_enter Tryz.func11, Tryz.ntmps11
    go_wp2_with fail
    refine HCK.out.mono ?_
    rintro r w1 ⟨rfl, hb1⟩
    have hn1 := HBN.out.below hb1
    have hr1 := HBR.out.below hb1
    have HB1 := Lib.hid (HAL.out.trans (hb1.mono HAL.out.size)); clear hb1
    have rc0 := hr1.cell 0 (.string ⟨#[]⟩) rfl
    have rf0 := hr1.free 0
    have rc1 := hr1.cell 1 (.string ⟨#[]⟩) rfl
    have rf1 := hr1.free 1
    have rc2 := hr1.cell 2 (.int .i64 0) rfl
    have rf2 := hr1.free 2
    have rc3 := hr1.cell 3 (.string ⟨#[]⟩) rfl
    have rf3 := hr1.free 3
    have rc4 := hr1.cell 4 (.string ⟨#[]⟩) rfl
    have rf4 := hr1.free 4
    have rc5 := hr1.cell 5 (.bool false) rfl
    have rf5 := hr1.free 5
    have hq0 := ((((((hr1.set 0 (.string ⟨#[]⟩)).set 1 (.string ⟨#[]⟩)).set 2 (.int .i64 0)).set 3 (.string ⟨#[]⟩)).set 4 (.string ⟨#[]⟩)).set 5 (.bool false))
    simp only [List.setIfInBounds_toArray, List.set_cons_zero, List.set_cons_succ] at hq0
    have HQ0 := Lib.hid hq0; clear hq0 hr1 hn1
    have HBF : Hid (Below w.heap.size w ((((((w1.setCell ⟨(w.heap.size + 1), 0, none⟩ (.string ⟨#[]⟩)).setCell ⟨(w.heap.size + 1), 1, none⟩ (.string ⟨#[]⟩)).setCell ⟨(w.heap.size + 1), 2, none⟩ (.int .i64 0)).setCell ⟨(w.heap.size + 1), 3, none⟩ (.string ⟨#[]⟩)).setCell ⟨(w.heap.size + 1), 4, none⟩ (.string ⟨#[]⟩)).setCell ⟨(w.heap.size + 1), 5, none⟩ (.bool false))) := ((((((HB1.out.setCell (p := ⟨(w.heap.size + 1), 0, none⟩) (Nat.le_succ _) (.string ⟨#[]⟩)).setCell (p := ⟨(w.heap.size + 1), 1, none⟩) (Nat.le_succ _) (.string ⟨#[]⟩)).setCell (p := ⟨(w.heap.size + 1), 2, none⟩) (Nat.le_succ _) (.int .i64 0)).setCell (p := ⟨(w.heap.size + 1), 3, none⟩) (Nat.le_succ _) (.string ⟨#[]⟩)).setCell (p := ⟨(w.heap.size + 1), 4, none⟩) (Nat.le_succ _) (.string ⟨#[]⟩)).setCell (p := ⟨(w.heap.size + 1), 5, none⟩) (Nat.le_succ _) (.bool false))
    go_wp2_with fail
    have m0 := HQ0.out.cell 0 (.string ⟨#[]⟩) rfl
    have m1 := HQ0.out.cell 1 (.string ⟨#[]⟩) rfl
    have m2 := HQ0.out.cell 2 (.int .i64 0) rfl
    have m3 := HQ0.out.cell 3 (.string ⟨#[]⟩) rfl
    have m4 := HQ0.out.cell 4 (.string ⟨#[]⟩) rfl
    have m5 := HQ0.out.cell 5 (.bool false) rfl
    exact bodyPost_ret (v := .agg #[.string ⟨#[]⟩, .string ⟨#[]⟩, .int .i64 0, .string ⟨#[]⟩, .string ⟨#[]⟩, .bool false]) (by simp [results, Tryz.results11, go_sem, m0, m1, m2, m3, m4, m5]) rfl ⟨rfl, HBF.out⟩
end Go.Proofs.YtekaiafhnnpkgaaGreatDoor
