/- The statements' own helpers: the key of a text, the keys that go for a text and fields as one text; some of the chapter's answers. -/
import Derived.Test.YtnpiaifkeddjeaaGreatDoorKeyC
import Derived.Test.YtnpiaifkeddjeaaGreatDoorKApp
import Derived.Test.YtnpiaifkeddjeaaGreatDoorKUriS
namespace Go.Proofs.YtnpiaifkeddjeaaGreatDoor
open Go.RowKit Go.Shelf

theorem flat_le {n : Nat} : ∀ {L : List (List UInt8)}, (∀ x ∈ L, x.length ≤ n) → L.flatten.length ≤ n * L.length
  | [], _ => by simp
  | x :: t, h => by
    have h1 := h x (by simp)
    have h2 := flat_le (L := t) (fun y hy => h y (by simp [hy]))
    rw [List.flatten_cons, List.length_append, List.length_cons, Nat.mul_succ]
    omega
theorem goneK_short (u : Ur) (st : Int) (l : List Fld) : (∀ k ∈ goneK u st l, k.length ≤ 1024) ∧ (goneK u st l).length ≤ l.length + 1 := by
  unfold goneK
  split
  · rename_i h
    refine ⟨keys_short u _, ?_⟩
    have h1 := (keys_are h.1 (refsK l)).len
    have h2 := refs_len l
    omega
  · exact ⟨fun k hk => (by cases hk), by simp⟩
theorem gone_join (u : Ur) (st : Int) {l : List Fld} (h : l.length ≤ 1000) : (Lib.join (goneK u st l) [32]).length ≤ 2000000 := by
  obtain ⟨h1, h2⟩ := goneK_short u st l
  have h3 := inter_len 32 (goneK u st l)
  have h4 := flat_le h1
  omega
set_option maxHeartbeats 2000000 in
set_option maxRecDepth 100000 in
theorem of_any (m s : List UInt8) (w : World) (he : EnvU w) :
    Calls Tryz.prog 18 #[.string (bs m), .string (bs s)] w fun r w' => r = .returned (.string (bs (ofK m (parseU s).1))) ∧ Below w.heap.size w w' := by
  have HPA := Lib.hid (fun W (h : EnvU W) => parse_any s W h)
  have HOF := Lib.hid (fun W (h : EnvU W) => kof_any m (parseU s).1 W h (parse_okW s))
  have HE := Lib.hid he; clear he
  generalize ofK m (parseU s).1 = k at *
  generalize parseU s = X at *
  obtain ⟨⟨psc, pho, ppo, ppa, pqu, phq⟩, pe⟩ := X
  unfold RetU at HPA
  simp only at HPA HOF
  go_enter Tryz.func18, Tryz.ntmps18
  go_wp2_with fail
  refine (HPA.out _ HE.out).mono ?_
  rintro r w1 ⟨rfl, hb⟩
  have HB1 := Lib.hid hb
  clear hb
  have hal : Below w1.heap.size w1 (w1.alloc (.cells #[.string (bs psc), .string (bs pho), .int .i64 ppo, .string (bs ppa), .string (bs pqu), .bool phq] 23)) := (Below.refl _ _).alloc (Nat.le_refl _) _
  have HB2 := Lib.hid (HB1.out.trans (hal.mono HB1.out.size))
  have hn := ubk.new w1 #[.string (bs psc), .string (bs pho), .int .i64 ppo, .string (bs ppa), .string (bs pqu), .bool phq] 23
  have HU2 := Lib.hid hn; clear hn
  clear hal HB1
  have uc0 := HU2.out.cell 0 (.string (bs psc)) rfl
  have uc1 := HU2.out.cell 1 (.string (bs pho)) rfl
  have uc2 := HU2.out.cell 2 (.int .i64 ppo) rfl
  have uc3 := HU2.out.cell 3 (.string (bs ppa)) rfl
  have uc4 := HU2.out.cell 4 (.string (bs pqu)) rfl
  have uc5 := HU2.out.cell 5 (.bool phq) rfl
  go_wp2_with fail
  refine (HOF.out _ (HE.out.bel HB2.out)).mono ?_
  rintro r w3 ⟨rfl, hb⟩
  have HB3 := Lib.hid (HB2.out.trans (hb.mono HB2.out.size))
  have HU3 := Lib.hid (HU2.out.below hb)
  clear hb HB2 HU2
  clear uc0 uc1 uc2 uc3 uc4 uc5
  go_wp2_with fail
  go_ret
  exact ⟨rfl, HB3.out⟩
set_option maxRecDepth 100000 in
set_option maxHeartbeats 4000000 in
theorem kgone_any (s : List UInt8) (st : Int) (v : Value) (l : List Fld) (w : World) (he : EnvU w) (h : SL w v (flatN l)) (hl : l.length ≤ 64) (hs : KfB l) :
    Calls Tryz.prog 19 #[.string (bs s), .int .i64 st, v] w fun r w' => r = .returned (.string (bs (Lib.join (goneK (parseU s).1 st l) [32]))) ∧ Below w.heap.size w w' := by
  obtain ⟨A, c, rfl⟩ := h.form
  have hfl := flatN_len l
  have HPA := Lib.hid (fun W (h : EnvU W) => parse_any s W h)
  have HGO := Lib.hid (fun v W (h : EnvU W) (hf : FL W v l) => gone_any (parseU s).1 st 0 ⟨#[]⟩ ⟨#[]⟩ v l W h (parse_okW s) hf hs)
  have HJL : Hid ((Lib.join (goneK (parseU s).1 st l) [32]).length ≤ 2000000) := gone_join _ _ (by omega)
  have HGL : Hid ((goneK (parseU s).1 st l).length ≤ 65) := by show _ ≤ _; have := (goneK_short (parseU s).1 st l).2; omega
  have HE := Lib.hid he; have HW := Lib.hid h; have HFL := Lib.hid hfl
  clear he h hfl hs
  generalize goneK (parseU s).1 st l = G at *
  generalize parseU s = X at *
  obtain ⟨⟨psc, pho, ppo, ppa, pqu, phq⟩, pe⟩ := X
  unfold RetU at HPA
  simp only at HPA HGO
  go_enter Tryz.func19, Tryz.ntmps19
  go_wp2_with fail
  refine (HPA.out _ HE.out).mono ?_
  rintro r w1 ⟨rfl, hb⟩
  have hx1 : Below w.heap.size w (w1.alloc (.cells #[.string (bs psc), .string (bs pho), .int .i64 ppo, .string (bs ppa), .string (bs pqu), .bool phq] 23)) := hb.alloc hb.size _
  have hx2 : Below w.heap.size w ((w1.alloc (.cells #[.string (bs psc), .string (bs pho), .int .i64 ppo, .string (bs ppa), .string (bs pqu), .bool phq] 23)).alloc (.cells #[.int .i64 st, .string ⟨#[]⟩, .int .i64 0, .slice none 0 0, .string ⟨#[]⟩] 31)) := hx1.alloc hx1.size _
  have hp0 := (ubk.new w1 #[.string (bs psc), .string (bs pho), .int .i64 ppo, .string (bs ppa), .string (bs pqu), .bool phq] 23).alloc (.cells #[.int .i64 st, .string ⟨#[]⟩, .int .i64 0, .slice none 0 0, .string ⟨#[]⟩] 31)
  have hr0 := ubk.new (w1.alloc (.cells #[.string (bs psc), .string (bs pho), .int .i64 ppo, .string (bs ppa), .string (bs pqu), .bool phq] 23)) #[.int .i64 st, .string ⟨#[]⟩, .int .i64 0, .slice none 0 0, .string ⟨#[]⟩] 31
  rw [World.size_alloc] at hr0
  have HX := Lib.hid hx2; have HP0 := Lib.hid hp0; have HR0 := Lib.hid hr0; have HPZ := Lib.hid hb.size
  clear hx1 hx2 hp0 hr0 hb
  go_wp2_with fail
  generalize w1.heap.size = pb at *
  go_loopw [10] (fun i wr => ∃ k : Nat, k ≤ l.length ∧ i = .int .i64 (2 * (k : Int)) ∧ ∃ fv, ownF wr (pb + 2) fv (l.take k) ∧ ubk wr (pb + 1) #[.int .i64 st, .string ⟨#[]⟩, .int .i64 0, fv, .string ⟨#[]⟩] ∧ ubk wr pb #[.string (bs psc), .string (bs pho), .int .i64 ppo, .string (bs ppa), .string (bs pqu), .bool phq] ∧ Below w.heap.size w wr) (fun i _ => 2 * l.length - (intOf i).toNat)
  case atStart => exact ⟨0, Nat.zero_le _, rfl, _, ownF_nil _ _, HR0.out, HP0.out, HX.out⟩
  case round =>
    obtain ⟨k, hk, rfl, fv, ho, hke, hr, hb⟩ := hrel
    have HO := Lib.hid ho; have HB := Lib.hid hb; have HKE := Lib.hid hke; have HR := Lib.hid hr; clear ho hb hke hr HP0 HR0 HX
    by_cases hlt : k < l.length
    · have hi3 : (2 : Int) * (k : Int) + 1 < ((flatN l).length : Int) := by have := HFL.out; omega
      obtain ⟨f1, f2⟩ := flatN_at l k hlt
      obtain ⟨b, off, rfl, hbb, hd1⟩ := HW.out.at2 f1
      obtain ⟨b', o', he, _, hd2⟩ := HW.out.at2 f2
      obtain ⟨rfl, rfl⟩ : b = b' ∧ off = o' := by simpa using he
      clear he f1 f2
      have HT : Hid (l.take (k + 1) = l.take k ++ [l[k]]) := List.take_succ_eq_append_getElem hlt
      have HLN : Hid ((l.take k).length + 1 ≤ 4294967296) := by have : (l.take k).length ≤ l.length := List.length_take_le' _ _; show _ ≤ _; omega
      generalize l.take k = acc at *
      obtain ⟨Ao, co, rfl⟩ := HO.out.form
      generalize l[k] = f at *
      obtain ⟨x, y⟩ := f; simp only at hd1 hd2
      have HD1 := Lib.hid hd1; have HD2 := Lib.hid hd2; have HBB := Lib.hid hbb
      clear hd1 hd2 hbb
      have hi1 : (2 : Int) * (k : Int) < ((flatN l).length : Int) := by omega
      have hj2 : 2 * k < (flatN l).length := by omega
      have hj3 : 2 * k + 1 < (flatN l).length := by omega
      go_wp2_with fail
      have hw2 : IntKind.i64.wrap (2 * (k : Int) + 1) = 2 * (k : Int) + 1 := by rw [IntKind.wrap_i64]; omega
      have hb1 : (0 : Int) ≤ 2 * (k : Int) := by omega
      have hb2 : (0 : Int) ≤ 2 * (k : Int) + 1 := by omega
      have ht1 : (2 * (k : Int)).toNat = 2 * k := by omega
      have ht2 : (2 * (k : Int) + 1).toNat = 2 * k + 1 := by omega
      have hdr : Below wr.heap.size wr wr.drew := (Below.refl _ _).drew
      have HB0 := Lib.hid HB.out.drew; have HO0 := Lib.hid (HO.out.bel hdr); have HK0 := Lib.hid (HKE.out.below hdr); have HR0 := Lib.hid (HR.out.below hdr); have HSZ := Lib.hid (HB.out.size)
      clear hdr HB HO HKE HR
      refine wp_region_growS (.one 0 false (.one 2 false (.one 3 false (.one 4 false (.one 5 false (.one 6 false (.one 7 false (.one 8 false (.one 9 false (.one 10 false (.one 11 false (.two 1 12 (.one 12 true (.one 13 true (.one 14 false (.one 15 true .done)))) (.one 1 true (.one 13 true (.one 14 false (.one 15 true .done))))))))))))))))
        (fun W => Below w.heap.size w W) (by kernel_rfl) (by kernel_rfl) rfl (by kernel_rfl) (by kernel_rfl) HB0.out (fun ops hops => ?_)
      simp only [GT.ins, List.getD_cons_zero, List.getD_cons_succ]
      clear hops
      generalize hz0 : wr.drew = z0 at *
      clear hz0
      iterate 11
        refine growS_take (by rfl) ?_
        apply Exists.intro
        refine ⟨fun w' hE => ?_, ?_⟩
        · have q1 := (hE.cell (p := ⟨b, off + 2 * k, none⟩) HBB.out).trans HD1.out; have q2 := (hE.cell (p := ⟨b, off + (2 * k + 1), none⟩) HBB.out).trans HD2.out
          go_simp
          try with_reducible rfl
        simp only [Act.put, List.setIfInBounds_toArray, List.set_cons_zero, List.set_cons_succ]
      refine growS_two (by rfl) (by rfl) (fun K hK => ?_) (fun K hK => ?_)
      · have k3 := HK0.out.cell 3 _ rfl
        go_simp
        refine hK.out _ _ HB0.out ?_
        clear hK K k3
        refine growS_call (by rfl) (fun K hK => ?_)
        go_simp
        have hd : Below z0.heap.size z0 (z0.alloc (.cells #[.string (bs x), .string (bs y)] 47)) := (Below.refl _ _).alloc (Nat.le_refl _) _
        have hn := FL_lit z0 (x, y)
        have hb5 := HB0.out.trans (hd.mono HB0.out.size)
        refine hK.out _ _ hb5 ?_
        have HN1 := Lib.hid hn; have HO1 := Lib.hid (HO0.out.bel hd); have HB1 := Lib.hid hb5; have HK1 := Lib.hid (HK0.out.below hd); have HR1 := Lib.hid (HR0.out.below hd)
        clear hK K hn hb5 hd
        generalize hzz : (z0.alloc (.cells #[.string (bs x), .string (bs y)] 47)) = z1 at *
        clear hzz
        refine growS_call (by rfl) (fun K hK => ?_)
        refine wp_appFF (.tmp 26) (.tmp 37) rfl (pb + 2) w.heap.size _ _ acc [(x, y)] rfl HO1.out HB1.out (by have := HPZ.out; omega) (by have h := HB1.out.size; have := HSZ.out; have h2 := HK1.out.lt; omega) rfl HN1.out HLN.out ?_
        intro v6 z2 HO2 HB2 HKP HSZ2
        obtain ⟨M, hM⟩ : ∃ M, M = acc ++ [(x, y)] := ⟨_, rfl⟩
        rw [← hM] at HT HO2
        clear hM
        have HK2 := Lib.hid (HK1.out.keep (HKP.out _ (by omega)))
        have HR2 := Lib.hid (HR1.out.keep (HKP.out _ (by omega)))
        refine hK.out _ _ HB2.out ?_
        clear hK K HB1 HO1 HK1 HR1 HN1
        iterate 1
          refine growS_take (by rfl) ?_
          apply Exists.intro
          refine ⟨fun w' hE => ?_, ?_⟩
          · skip
            go_simp
            try with_reducible rfl
          simp only [Act.put, List.setIfInBounds_toArray, List.set_cons_zero, List.set_cons_succ]
        refine growS_call (by rfl) (fun K hK => ?_)
        obtain ⟨A6, c6, rfl⟩ := HO2.out.form
        have n3 := HK2.out.cell 3 _ rfl
        have f3 := HK2.out.free 3
        have hq := HK2.out.set 3 (.slice A6 M.length c6)
        simp only [List.setIfInBounds_toArray, List.set_cons_zero, List.set_cons_succ] at hq
        have hb9 := HB2.out.setCell (p := ⟨pb + 1, 3, none⟩) (by have := HPZ.out; show _ ≤ pb + 1; omega) (.slice A6 M.length c6)
        have ho9 : ownF (z2.setCell ⟨pb + 1, 3, none⟩ (.slice A6 M.length c6)) (pb + 2) (.slice A6 M.length c6) M := HO2.out.stay (fun b hb => Below.heap_setCell _ _ _ _ (by simp only; omega))
        have hr9 := HR2.out.keep (Below.heap_setCell z2 ⟨pb + 1, 3, none⟩ (.slice A6 M.length c6) pb (by simp))
        have HQ9 := Lib.hid hq; have HB9 := Lib.hid hb9; have HO9 := Lib.hid ho9; have HR9 := Lib.hid hr9; clear hq hb9 ho9 hr9
        go_simp
        refine hK.out _ _ HB9.out ?_
        clear hK K n3 f3
        refine growS_done (NoPanic.normal ?_)
        clear hw2 hb1 hb2 ht1 ht2
        go_wp2_with fail
        go_roundw
        case rel => exact ⟨k + 1, by omega, by go_num, _, by rw [HT.out]; exact HO9.out, HQ9.out, HR9.out, HB9.out⟩
        case measure => simp [intOf]; omega
      · go_simp
        have hd : Below z0.heap.size z0 (z0.alloc (.cells #[.string (bs x), .string (bs y)] 47)) := (Below.refl _ _).alloc (Nat.le_refl _) _
        have hn := FL_lit z0 (x, y)
        have hb5 := HB0.out.trans (hd.mono HB0.out.size)
        refine hK.out _ _ hb5 ?_
        have HN1 := Lib.hid hn; have HO1 := Lib.hid (HO0.out.bel hd); have HB1 := Lib.hid hb5; have HK1 := Lib.hid (HK0.out.below hd); have HR1 := Lib.hid (HR0.out.below hd)
        clear hK K hn hb5 hd
        generalize hzz : (z0.alloc (.cells #[.string (bs x), .string (bs y)] 47)) = z1 at *
        clear hzz
        refine growS_call (by rfl) (fun K hK => ?_)
        have k3 := HK1.out.cell 3 _ rfl
        go_simp
        refine hK.out _ _ HB1.out ?_
        clear hK K k3
        refine growS_call (by rfl) (fun K hK => ?_)
        refine wp_appFF (.tmp 26) (.tmp 37) rfl (pb + 2) w.heap.size _ _ acc [(x, y)] rfl HO1.out HB1.out (by have := HPZ.out; omega) (by have h := HB1.out.size; have := HSZ.out; have h2 := HK1.out.lt; omega) rfl HN1.out HLN.out ?_
        intro v6 z2 HO2 HB2 HKP HSZ2
        obtain ⟨M, hM⟩ : ∃ M, M = acc ++ [(x, y)] := ⟨_, rfl⟩
        rw [← hM] at HT HO2
        clear hM
        have HK2 := Lib.hid (HK1.out.keep (HKP.out _ (by omega)))
        have HR2 := Lib.hid (HR1.out.keep (HKP.out _ (by omega)))
        refine hK.out _ _ HB2.out ?_
        clear hK K HB1 HO1 HK1 HR1 HN1
        iterate 1
          refine growS_take (by rfl) ?_
          apply Exists.intro
          refine ⟨fun w' hE => ?_, ?_⟩
          · skip
            go_simp
            try with_reducible rfl
          simp only [Act.put, List.setIfInBounds_toArray, List.set_cons_zero, List.set_cons_succ]
        refine growS_call (by rfl) (fun K hK => ?_)
        obtain ⟨A6, c6, rfl⟩ := HO2.out.form
        have n3 := HK2.out.cell 3 _ rfl
        have f3 := HK2.out.free 3
        have hq := HK2.out.set 3 (.slice A6 M.length c6)
        simp only [List.setIfInBounds_toArray, List.set_cons_zero, List.set_cons_succ] at hq
        have hb9 := HB2.out.setCell (p := ⟨pb + 1, 3, none⟩) (by have := HPZ.out; show _ ≤ pb + 1; omega) (.slice A6 M.length c6)
        have ho9 : ownF (z2.setCell ⟨pb + 1, 3, none⟩ (.slice A6 M.length c6)) (pb + 2) (.slice A6 M.length c6) M := HO2.out.stay (fun b hb => Below.heap_setCell _ _ _ _ (by simp only; omega))
        have hr9 := HR2.out.keep (Below.heap_setCell z2 ⟨pb + 1, 3, none⟩ (.slice A6 M.length c6) pb (by simp))
        have HQ9 := Lib.hid hq; have HB9 := Lib.hid hb9; have HO9 := Lib.hid ho9; have HR9 := Lib.hid hr9; clear hq hb9 ho9 hr9
        go_simp
        refine hK.out _ _ HB9.out ?_
        clear hK K n3 f3
        refine growS_done (NoPanic.normal ?_)
        clear hw2 hb1 hb2 ht1 ht2
        go_wp2_with fail
        go_roundw
        case rel => exact ⟨k + 1, by omega, by go_num, _, by rw [HT.out]; exact HO9.out, HQ9.out, HR9.out, HB9.out⟩
        case measure => simp [intOf]; omega
    · have hi3 : ¬ (2 : Int) * (k : Int) + 1 < ((flatN l).length : Int) := by have := HFL.out; omega
      have HT : Hid (l.take k = l) := List.take_of_length_le (by omega)
      rw [HT.out] at HO
      obtain ⟨A6, c6, rfl⟩ := HO.out.form
      have n0 := HKE.out.cell 0 _ rfl
      have n1 := HKE.out.cell 1 _ rfl
      have n2 := HKE.out.cell 2 _ rfl
      have n3 := HKE.out.cell 3 _ rfl
      have n4 := HKE.out.cell 4 _ rfl
      have pc0 := HR.out.cell 0 (.string (bs psc)) rfl
      have pc1 := HR.out.cell 1 (.string (bs pho)) rfl
      have pc2 := HR.out.cell 2 (.int .i64 ppo) rfl
      have pc3 := HR.out.cell 3 (.string (bs ppa)) rfl
      have pc4 := HR.out.cell 4 (.string (bs pqu)) rfl
      have pc5 := HR.out.cell 5 (.bool phq) rfl
      go_wp2_with (first
        | (go_at_call 16; refine (HGO.out _ _ (HE.out.bel HB.out) HO.out.fl).mono ?_; rintro r w5 ⟨v5, rfl, ho5, hb5⟩; have HB5 := Lib.hid (HB.out.trans (hb5.mono HB.out.size)); have HV5 := Lib.hid ho5; clear hb5 ho5 n0 n1 n2 n3 n4 pc0 pc1 pc2 pc3 pc4 pc5)
        | (go_at_call 24; refine (join_any _ _ G ⟨#[32]⟩ _ HV5.out (by have := HGL.out; omega) (by have := HJL.out; show (Lib.join G [32]).length ≤ _; omega)).mono ?_; rintro r w6 ⟨rfl, hb6⟩; have HB6 := Lib.hid (HB5.out.trans (hb6.mono HB5.out.size)); clear hb6))
      go_ret
      exact ⟨rfl, HB6.out⟩
theorem SL_litsK (w : World) (X : List (List UInt8)) : SL (w.alloc (.cells (X.map fun x => Value.string (bs x)).toArray 9)) (.slice (some ⟨w.heap.size, 0, none⟩) X.length X.length) X := by
  refine .inr ⟨w.heap.size, 0, X.length, rfl, by simp, fun j hj => ?_⟩
  refine (cell_of_row _ _ _ _ _ _ (heap_alloc_new w _)).trans ?_
  simp [hj]
theorem gone_litK (s : List UInt8) (st : Int) (l : List Fld) (out : List UInt8) (W : World) (he : EnvU W) (hl : l.length ≤ 64) (hs : KfB l) (ho : Lib.join (goneK (parseU s).1 st l) [32] = out) :
    Calls Tryz.prog 19 #[.string (bs s), .int .i64 st, .slice (some ⟨W.heap.size, 0, none⟩) (flatN l).length (flatN l).length] (W.alloc (.cells ((flatN l).map fun x => Value.string (bs x)).toArray 9)) fun e w' => e = .returned (.string (bs out)) ∧ Below W.heap.size W w' := by
  have hal : Below W.heap.size W (W.alloc (.cells ((flatN l).map fun x => Value.string (bs x)).toArray 9)) := (Below.refl _ _).alloc (Nat.le_refl _) _
  have h := kgone_any s st _ l _ (he.bel hal) (SL_litsK W (flatN l)) hl hs
  rw [ho] at h
  refine h.mono ?_
  rintro e w' ⟨rfl, hb⟩
  exact ⟨rfl, hal.trans (hb.mono hal.size)⟩
theorem gone_nilK (s : List UInt8) (st : Int) (out : List UInt8) (W : World) (he : EnvU W) (ho : Lib.join (goneK (parseU s).1 st []) [32] = out) :
    Calls Tryz.prog 19 #[.string (bs s), .int .i64 st, .slice none 0 0] W fun e w' => e = .returned (.string (bs out)) ∧ Below W.heap.size W w' := by
  have h := kgone_any s st _ [] W he (SL_nil W) (by decide) (by unfold KfB; decide)
  rwa [ho] at h
theorem of_litK (m s out : List UInt8) (W : World) (he : EnvU W) (ho : ofK m (parseU s).1 = out) :
    Calls Tryz.prog 18 #[.string (bs m), .string (bs s)] W fun e w' => e = .returned (.string (bs out)) ∧ Below W.heap.size W w' := by
  have h := of_any m s W he
  rwa [ho] at h
set_option maxRecDepth 100000 in
set_option maxHeartbeats 4000000 in
theorem kawake_any (w : World) (he : EnvU w) : Calls Tryz.prog 9 #[] w fun e w' => e = .returned (.bool true) ∧ Below w.heap.size w w' := by
  have k0 : ∀ W, Below w.heap.size w W → Calls Tryz.prog 18 #[.string ⟨#[71, 69, 84]⟩, .string ⟨#[104, 116, 116, 112, 58, 47, 47, 65, 58, 56, 48, 47, 120, 47, 46, 46, 47, 121, 63]⟩] W fun e w' => e = .returned (.string ⟨#[104, 116, 116, 112, 58, 47, 47, 97, 47, 121, 63]⟩) ∧ Below W.heap.size W w' := fun W hW => by have he := he.bel hW; exact of_litK [71, 69, 84] [104, 116, 116, 112, 58, 47, 47, 65, 58, 56, 48, 47, 120, 47, 46, 46, 47, 121, 63] [104, 116, 116, 112, 58, 47, 47, 97, 47, 121, 63] W he (by kernel_rfl)
  have K0 := Lib.hid k0; clear k0
  have k1 : ∀ W, Below w.heap.size w W → Calls Tryz.prog 12 #[.string ⟨#[80, 65, 84, 67, 72]⟩] W fun e w' => e = .returned (.bool true) ∧ W = w' := fun W hW => by have he := he.bel hW; exact kuns_any [80, 65, 84, 67, 72] W
  have K1 := Lib.hid k1; clear k1
  have k2 : ∀ W, Below w.heap.size w W → Calls Tryz.prog 19 #[.string ⟨#[104, 116, 116, 112, 58, 47, 47, 97, 47, 98]⟩, .int .i64 201, .slice (some ⟨W.heap.size, 0, none⟩) 6 6] (W.alloc (.cells #[.string ⟨#[108, 111, 99, 97, 116, 105, 111, 110]⟩, .string ⟨#[47, 99]⟩, .string ⟨#[99, 111, 110, 116, 101, 110, 116, 45, 108, 111, 99, 97, 116, 105, 111, 110]⟩, .string ⟨#[100]⟩, .string ⟨#[76, 111, 99, 97, 116, 105, 111, 110]⟩, .string ⟨#[104, 116, 116, 112, 58, 47, 47, 120, 47]⟩] 9)) fun e w' => e = .returned (.string ⟨#[104, 116, 116, 112, 58, 47, 47, 97, 47, 98, 32, 104, 116, 116, 112, 58, 47, 47, 97, 47, 99, 32, 104, 116, 116, 112, 58, 47, 47, 97, 47, 100]⟩) ∧ Below W.heap.size W w' := fun W hW => by have he := he.bel hW; exact gone_litK [104, 116, 116, 112, 58, 47, 47, 97, 47, 98] 201 [([108, 111, 99, 97, 116, 105, 111, 110], [47, 99]), ([99, 111, 110, 116, 101, 110, 116, 45, 108, 111, 99, 97, 116, 105, 111, 110], [100]), ([76, 111, 99, 97, 116, 105, 111, 110], [104, 116, 116, 112, 58, 47, 47, 120, 47])] [104, 116, 116, 112, 58, 47, 47, 97, 47, 98, 32, 104, 116, 116, 112, 58, 47, 47, 97, 47, 99, 32, 104, 116, 116, 112, 58, 47, 47, 97, 47, 100] W he (by decide) (by unfold KfB; decide) (by kernel_rfl)
  have K2 := Lib.hid k2; clear k2
  clear he
  go_enter Tryz.func9, Tryz.ntmps9
  go_wp2_with fail
  refine (K0.out _ (Below.refl _ _)).mono ?_
  rintro e w1 ⟨rfl, hb⟩
  have HB1 : Hid (Below w.heap.size w w1) := hb; clear hb
  go_wp2_with fail
  refine (K1.out _ HB1.out).mono ?_
  rintro e wx ⟨rfl, rfl⟩
  go_wp2_with fail
  refine (K2.out _ HB1.out).mono ?_
  rintro e w2 ⟨rfl, hb⟩
  have HB2 : Hid (Below w.heap.size w w2) := HB1.out.trans (hb.mono HB1.out.size); clear hb
  go_wp2_with fail
  go_ret
  exact ⟨rfl, HB2.out⟩
end Go.Proofs.YtnpiaifkeddjeaaGreatDoor
