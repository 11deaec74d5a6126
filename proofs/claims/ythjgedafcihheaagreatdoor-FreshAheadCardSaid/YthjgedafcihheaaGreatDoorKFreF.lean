/- The statements' entries: entry, is, awake. -/
import Derived.Test.YthjgedafcihheaaGreatDoorKFreE
import Derived.Test.YthjgedafcihheaaGreatDoorKOpen
namespace Go.Proofs.YthjgedafcihheaaGreatDoor
open Go.RowKit

set_option maxRecDepth 100000 in
set_option maxHeartbeats 4000000 in
theorem entry_any (v : Value) (l : List Fld) (w : World) (h : SL w v (flatN l)) (hl : l.length ≤ 64) :
    Calls Tryz.prog 19 #[v] w fun e w' => ∃ A c, e = .returned (.agg #[.int .i64 0, .string ⟨#[]⟩, .int .i64 0, .slice A l.length c, .string ⟨#[]⟩, .int .i64 100, .int .i64 110, .slice none 0 0]) ∧ FL w' (.slice A l.length c) l ∧ Below w.heap.size w w' := by
  obtain ⟨A, c, rfl⟩ := h.form
  have hfl := flatN_len l
  have hx : Below w.heap.size w (w.alloc (.cells #[.int .i64 0, .string ⟨#[]⟩, .int .i64 0, .slice none 0 0, .string ⟨#[]⟩, .int .i64 0, .int .i64 0, .slice none 0 0] 26)) := (Below.refl _ _).alloc (Nat.le_refl _) _
  have hx2 : Below w.heap.size w ((w.alloc (.cells #[.int .i64 0, .string ⟨#[]⟩, .int .i64 0, .slice none 0 0, .string ⟨#[]⟩, .int .i64 0, .int .i64 0, .slice none 0 0] 26)).alloc (.cells #[.int .i64 0, .string ⟨#[]⟩, .int .i64 0, .slice none 0 0, .string ⟨#[]⟩, .int .i64 100, .int .i64 110, .slice none 0 0] 26)) := hx.alloc hx.size _
  have hr0 := (dbk.new w #[.int .i64 0, .string ⟨#[]⟩, .int .i64 0, .slice none 0 0, .string ⟨#[]⟩, .int .i64 0, .int .i64 0, .slice none 0 0] 26).alloc (.cells #[.int .i64 0, .string ⟨#[]⟩, .int .i64 0, .slice none 0 0, .string ⟨#[]⟩, .int .i64 100, .int .i64 110, .slice none 0 0] 26)
  have hk0 := dbk.new (w.alloc (.cells #[.int .i64 0, .string ⟨#[]⟩, .int .i64 0, .slice none 0 0, .string ⟨#[]⟩, .int .i64 0, .int .i64 0, .slice none 0 0] 26)) #[.int .i64 0, .string ⟨#[]⟩, .int .i64 0, .slice none 0 0, .string ⟨#[]⟩, .int .i64 100, .int .i64 110, .slice none 0 0] 26
  rw [World.size_alloc] at hk0
  have HW := Lib.hid h; have HFL := Lib.hid hfl; have HX := Lib.hid hx2; have HR0 := Lib.hid hr0; have HK0 := Lib.hid hk0
  clear h hfl hx hx2 hr0 hk0
  go_enter Tryz.func19, Tryz.ntmps19
  go_wp2_with fail
  go_loopw [4] (fun i wr => ∃ k : Nat, k ≤ l.length ∧ i = .int .i64 (2 * (k : Int)) ∧ ∃ fv, ownF wr (w.heap.size + 2) fv (l.take k) ∧ dbk wr (w.heap.size + 1) #[.int .i64 0, .string ⟨#[]⟩, .int .i64 0, fv, .string ⟨#[]⟩, .int .i64 100, .int .i64 110, .slice none 0 0] ∧ dbk wr w.heap.size #[.int .i64 0, .string ⟨#[]⟩, .int .i64 0, .slice none 0 0, .string ⟨#[]⟩, .int .i64 0, .int .i64 0, .slice none 0 0] ∧ Below w.heap.size w wr) (fun i _ => 2 * l.length - (intOf i).toNat)
  case atStart => exact ⟨0, Nat.zero_le _, rfl, _, ownF_nil _ _, HK0.out, HR0.out, HX.out⟩
  case round =>
    obtain ⟨k, hk, rfl, fv, ho, hke, hr, hb⟩ := hrel
    have HO := Lib.hid ho; have HB := Lib.hid hb; have HKE := Lib.hid hke; have HR := Lib.hid hr; clear ho hb hke hr HK0 HR0 HX
    by_cases hlt : k < l.length
    · have hi3 : (2 : Int) * (k : Int) + 1 < ((flatN l).length : Int) := by have := HFL.out; omega
      obtain ⟨f1, f2⟩ := flatN_at l k hlt
      obtain ⟨b, off, rfl, hbb, hd1⟩ := HW.out.at2 f1
      obtain ⟨b', o', he, _, hd2⟩ := HW.out.at2 f2
      obtain ⟨rfl, rfl⟩ : b = b' ∧ off = o' := by simpa using he
      clear he f1 f2
      have HT : Hid (l.take (k + 1) = l.take k ++ [l[k]]) := List.take_succ_eq_append_getElem hlt
      have HLN : Hid ((l.take k).length + 1 ≤ 4294967296) := by have : (l.take k).length ≤ l.length := List.length_take_le' _ _; show _ ≤ _; omega
      generalize l.take k = acc at *
      obtain ⟨Ao, co, rfl⟩ := HO.out.form
      generalize l[k] = f at *
      obtain ⟨x, y⟩ := f; simp only at hd1 hd2
      have HD1 := Lib.hid hd1; have HD2 := Lib.hid hd2; have HBB := Lib.hid hbb
      clear hd1 hd2 hbb
      have hi1 : (2 : Int) * (k : Int) < ((flatN l).length : Int) := by omega
      have hj2 : 2 * k < (flatN l).length := by omega
      have hj3 : 2 * k + 1 < (flatN l).length := by omega
      go_wp2_with fail
      have hw2 : IntKind.i64.wrap (2 * (k : Int) + 1) = 2 * (k : Int) + 1 := by rw [IntKind.wrap_i64]; omega
      have hb1 : (0 : Int) ≤ 2 * (k : Int) := by omega
      have hb2 : (0 : Int) ≤ 2 * (k : Int) + 1 := by omega
      have ht1 : (2 * (k : Int)).toNat = 2 * k := by omega
      have ht2 : (2 * (k : Int) + 1).toNat = 2 * k + 1 := by omega
      have hdr : Below wr.heap.size wr wr.drew := (Below.refl _ _).drew
      have HB0 := Lib.hid HB.out.drew; have HO0 := Lib.hid (HO.out.bel hdr); have HK0 := Lib.hid (HKE.out.below hdr); have HR0 := Lib.hid (HR.out.below hdr); have HSZ := Lib.hid (HB.out.size)
      clear hdr HB HO HKE HR
      refine wp_region_growS (.one 0 false (.one 1 false (.one 3 false (.one 4 false (.one 5 false (.one 6 false (.one 7 false (.one 8 false (.one 9 false (.one 10 false (.one 11 false (.one 12 false (.two 2 13 (.one 13 true (.one 14 true (.one 15 false (.one 16 false (.one 17 true .done))))) (.one 2 true (.one 14 true (.one 15 false (.one 16 false (.one 17 true .done))))))))))))))))))
        (fun W => Below w.heap.size w W) (by kernel_rfl) (by kernel_rfl) rfl (by kernel_rfl) (by kernel_rfl) HB0.out (fun ops hops => ?_)
      simp only [GT.ins, List.getD_cons_zero, List.getD_cons_succ]
      clear hops
      generalize hz0 : wr.drew = z0 at *
      clear hz0
      iterate 12
        refine growS_take (by rfl) ?_
        apply Exists.intro
        refine ⟨fun w' hE => ?_, ?_⟩
        · have q1 := (hE.cell (p := ⟨b, off + 2 * k, none⟩) HBB.out).trans HD1.out; have q2 := (hE.cell (p := ⟨b, off + (2 * k + 1), none⟩) HBB.out).trans HD2.out
          go_simp
          try with_reducible rfl
        simp only [Act.put, List.setIfInBounds_toArray, List.set_cons_zero, List.set_cons_succ]
      refine growS_two (by rfl) (by rfl) (fun K hK => ?_) (fun K hK => ?_)
      · have k3 := HK0.out.cell 3 _ rfl
        go_simp
        refine hK.out _ _ HB0.out ?_
        clear hK K k3
        refine growS_call (by rfl) (fun K hK => ?_)
        go_simp
        have hd : Below z0.heap.size z0 (z0.alloc (.cells #[.string (bs x), .string (bs y)] 50)) := (Below.refl _ _).alloc (Nat.le_refl _) _
        have hn := FL_lit z0 (x, y)
        have hb5 := HB0.out.trans (hd.mono HB0.out.size)
        refine hK.out _ _ hb5 ?_
        have HN1 := Lib.hid hn; have HO1 := Lib.hid (HO0.out.bel hd); have HB1 := Lib.hid hb5; have HK1 := Lib.hid (HK0.out.below hd); have HR1 := Lib.hid (HR0.out.below hd)
        clear hK K hn hb5 hd
        generalize hzz : (z0.alloc (.cells #[.string (bs x), .string (bs y)] 50)) = z1 at *
        clear hzz
        refine growS_call (by rfl) (fun K hK => ?_)
        refine wp_appFF (.tmp 15) (.tmp 26) rfl (w.heap.size + 2) w.heap.size _ _ acc [(x, y)] rfl HO1.out HB1.out (by omega) (by have h := HB1.out.size; have := HSZ.out; have h2 := HK1.out.lt; omega) rfl HN1.out HLN.out ?_
        intro v6 z2 HO2 HB2 HKP HSZ2
        obtain ⟨M, hM⟩ : ∃ M, M = acc ++ [(x, y)] := ⟨_, rfl⟩
        rw [← hM] at HT HO2
        clear hM
        have HK2 := Lib.hid (HK1.out.keep (HKP.out _ (by omega)))
        have HR2 := Lib.hid (HR1.out.keep (HKP.out _ (by omega)))
        refine hK.out _ _ HB2.out ?_
        clear hK K HB1 HO1 HK1 HR1 HN1
        iterate 2
          refine growS_take (by rfl) ?_
          apply Exists.intro
          refine ⟨fun w' hE => ?_, ?_⟩
          · have q1 := (hE.cell (p := ⟨b, off + 2 * k, none⟩) HBB.out).trans HD1.out; have q2 := (hE.cell (p := ⟨b, off + (2 * k + 1), none⟩) HBB.out).trans HD2.out
            go_simp
            try with_reducible rfl
          simp only [Act.put, List.setIfInBounds_toArray, List.set_cons_zero, List.set_cons_succ]
        refine growS_call (by rfl) (fun K hK => ?_)
        obtain ⟨A6, c6, rfl⟩ := HO2.out.form
        have n3 := HK2.out.cell 3 _ rfl
        have f3 := HK2.out.free 3
        have hq := HK2.out.set 3 (.slice A6 M.length c6)
        simp only [List.setIfInBounds_toArray, List.set_cons_zero, List.set_cons_succ] at hq
        have hb9 := HB2.out.setCell (p := ⟨w.heap.size + 1, 3, none⟩) (Nat.le_succ _) (.slice A6 M.length c6)
        have ho9 : ownF (z2.setCell ⟨w.heap.size + 1, 3, none⟩ (.slice A6 M.length c6)) (w.heap.size + 2) (.slice A6 M.length c6) M := HO2.out.stay (fun b hb => Below.heap_setCell _ _ _ _ (by simp only; omega))
        have hr9 := HR2.out.keep (Below.heap_setCell z2 ⟨w.heap.size + 1, 3, none⟩ (.slice A6 M.length c6) w.heap.size (by simp))
        have HQ9 := Lib.hid hq; have HB9 := Lib.hid hb9; have HO9 := Lib.hid ho9; have HR9 := Lib.hid hr9; clear hq hb9 ho9 hr9
        go_simp
        refine hK.out _ _ HB9.out ?_
        clear hK K n3 f3
        refine growS_done (NoPanic.normal ?_)
        clear hw2 hb1 hb2 ht1 ht2
        go_wp2_with fail
        go_roundw
        case rel => exact ⟨k + 1, by omega, by go_num, _, by rw [HT.out]; exact HO9.out, HQ9.out, HR9.out, HB9.out⟩
        case measure => simp [intOf]; omega
      · go_simp
        have hd : Below z0.heap.size z0 (z0.alloc (.cells #[.string (bs x), .string (bs y)] 50)) := (Below.refl _ _).alloc (Nat.le_refl _) _
        have hn := FL_lit z0 (x, y)
        have hb5 := HB0.out.trans (hd.mono HB0.out.size)
        refine hK.out _ _ hb5 ?_
        have HN1 := Lib.hid hn; have HO1 := Lib.hid (HO0.out.bel hd); have HB1 := Lib.hid hb5; have HK1 := Lib.hid (HK0.out.below hd); have HR1 := Lib.hid (HR0.out.below hd)
        clear hK K hn hb5 hd
        generalize hzz : (z0.alloc (.cells #[.string (bs x), .string (bs y)] 50)) = z1 at *
        clear hzz
        refine growS_call (by rfl) (fun K hK => ?_)
        have k3 := HK1.out.cell 3 _ rfl
        go_simp
        refine hK.out _ _ HB1.out ?_
        clear hK K k3
        refine growS_call (by rfl) (fun K hK => ?_)
        refine wp_appFF (.tmp 15) (.tmp 26) rfl (w.heap.size + 2) w.heap.size _ _ acc [(x, y)] rfl HO1.out HB1.out (by omega) (by have h := HB1.out.size; have := HSZ.out; have h2 := HK1.out.lt; omega) rfl HN1.out HLN.out ?_
        intro v6 z2 HO2 HB2 HKP HSZ2
        obtain ⟨M, hM⟩ : ∃ M, M = acc ++ [(x, y)] := ⟨_, rfl⟩
        rw [← hM] at HT HO2
        clear hM
        have HK2 := Lib.hid (HK1.out.keep (HKP.out _ (by omega)))
        have HR2 := Lib.hid (HR1.out.keep (HKP.out _ (by omega)))
        refine hK.out _ _ HB2.out ?_
        clear hK K HB1 HO1 HK1 HR1 HN1
        iterate 2
          refine growS_take (by rfl) ?_
          apply Exists.intro
          refine ⟨fun w' hE => ?_, ?_⟩
          · have q1 := (hE.cell (p := ⟨b, off + 2 * k, none⟩) HBB.out).trans HD1.out; have q2 := (hE.cell (p := ⟨b, off + (2 * k + 1), none⟩) HBB.out).trans HD2.out
            go_simp
            try with_reducible rfl
          simp only [Act.put, List.setIfInBounds_toArray, List.set_cons_zero, List.set_cons_succ]
        refine growS_call (by rfl) (fun K hK => ?_)
        obtain ⟨A6, c6, rfl⟩ := HO2.out.form
        have n3 := HK2.out.cell 3 _ rfl
        have f3 := HK2.out.free 3
        have hq := HK2.out.set 3 (.slice A6 M.length c6)
        simp only [List.setIfInBounds_toArray, List.set_cons_zero, List.set_cons_succ] at hq
        have hb9 := HB2.out.setCell (p := ⟨w.heap.size + 1, 3, none⟩) (Nat.le_succ _) (.slice A6 M.length c6)
        have ho9 : ownF (z2.setCell ⟨w.heap.size + 1, 3, none⟩ (.slice A6 M.length c6)) (w.heap.size + 2) (.slice A6 M.length c6) M := HO2.out.stay (fun b hb => Below.heap_setCell _ _ _ _ (by simp only; omega))
        have hr9 := HR2.out.keep (Below.heap_setCell z2 ⟨w.heap.size + 1, 3, none⟩ (.slice A6 M.length c6) w.heap.size (by simp))
        have HQ9 := Lib.hid hq; have HB9 := Lib.hid hb9; have HO9 := Lib.hid ho9; have HR9 := Lib.hid hr9; clear hq hb9 ho9 hr9
        go_simp
        refine hK.out _ _ HB9.out ?_
        clear hK K n3 f3
        refine growS_done (NoPanic.normal ?_)
        clear hw2 hb1 hb2 ht1 ht2
        go_wp2_with fail
        go_roundw
        case rel => exact ⟨k + 1, by omega, by go_num, _, by rw [HT.out]; exact HO9.out, HQ9.out, HR9.out, HB9.out⟩
        case measure => simp [intOf]; omega
    · have hi3 : ¬ (2 : Int) * (k : Int) + 1 < ((flatN l).length : Int) := by have := HFL.out; omega
      have HT : Hid (l.take k = l) := List.take_of_length_le (by omega)
      have ho := HO.out
      rw [HT.out] at ho
      obtain ⟨A6, c6, rfl⟩ := ho.form
      have HO2 := Lib.hid ho; clear ho HO
      obtain ⟨k0, k1, k2, k3, k4, k5, k6, k7⟩ := HKE.out.eight
      obtain ⟨n0, n1, n2, n3, n4, n5, n6, n7⟩ := HR.out.eight
      have f0 := HR.out.free 0; have f1 := HR.out.free 1; have f2 := HR.out.free 2; have f3 := HR.out.free 3; have f4 := HR.out.free 4; have f5 := HR.out.free 5; have f6 := HR.out.free 6; have f7 := HR.out.free 7
      have hq := ((((((((HR.out.set 0 (.int .i64 0)).set 1 (.string ⟨#[]⟩)).set 2 (.int .i64 0)).set 3 (.slice A6 l.length c6)).set 4 (.string ⟨#[]⟩)).set 5 (.int .i64 100)).set 6 (.int .i64 110)).set 7 (.slice none 0 0))
      simp only [List.setIfInBounds_toArray, List.set_cons_zero, List.set_cons_succ] at hq
      obtain ⟨g0, g1, g2, g3, g4, g5, g6, g7⟩ := hq.eight
      have hb9 := ((((((((HB.out.setCell (p := ⟨w.heap.size, 0, none⟩) (Nat.le_refl _) (.int .i64 0)).setCell (p := ⟨w.heap.size, 1, none⟩) (Nat.le_refl _) (.string ⟨#[]⟩)).setCell (p := ⟨w.heap.size, 2, none⟩) (Nat.le_refl _) (.int .i64 0)).setCell (p := ⟨w.heap.size, 3, none⟩) (Nat.le_refl _) (.slice A6 l.length c6)).setCell (p := ⟨w.heap.size, 4, none⟩) (Nat.le_refl _) (.string ⟨#[]⟩)).setCell (p := ⟨w.heap.size, 5, none⟩) (Nat.le_refl _) (.int .i64 100)).setCell (p := ⟨w.heap.size, 6, none⟩) (Nat.le_refl _) (.int .i64 110)).setCell (p := ⟨w.heap.size, 7, none⟩) (Nat.le_refl _) (.slice none 0 0))
      have ho9 : FL ((((((((wr.setCell ⟨w.heap.size, 0, none⟩ (.int .i64 0)).setCell ⟨w.heap.size, 1, none⟩ (.string ⟨#[]⟩)).setCell ⟨w.heap.size, 2, none⟩ (.int .i64 0)).setCell ⟨w.heap.size, 3, none⟩ (.slice A6 l.length c6)).setCell ⟨w.heap.size, 4, none⟩ (.string ⟨#[]⟩)).setCell ⟨w.heap.size, 5, none⟩ (.int .i64 100)).setCell ⟨w.heap.size, 6, none⟩ (.int .i64 110)).setCell ⟨w.heap.size, 7, none⟩ (.slice none 0 0)) (.slice A6 l.length c6) l := by
        refine ownF.fl (base := w.heap.size + 2) (HO2.out.stay fun b hb => ?_)
        repeat rw [Below.heap_setCell _ _ _ _ (by simp only; omega)]
      have HG := Lib.hid (And.intro g0 (And.intro g1 (And.intro g2 (And.intro g3 (And.intro g4 (And.intro g5 (And.intro g6 g7))))))); have HB9 := Lib.hid hb9; have HO9 := Lib.hid ho9
      clear hq g0 g1 g2 g3 g4 g5 g6 g7 hb9 ho9
      go_wp2_with fail
      obtain ⟨g0, g1, g2, g3, g4, g5, g6, g7⟩ := HG.out
      refine bodyPost_ret (v := .agg #[.int .i64 0, .string ⟨#[]⟩, .int .i64 0, .slice A6 l.length c6, .string ⟨#[]⟩, .int .i64 100, .int .i64 110, .slice none 0 0]) (by simp [results, Tryz.results19, go_sem, g0, g1, g2, g3, g4, g5, g6, g7]) rfl ?_
      exact ⟨_, _, rfl, HO9.out, HB9.out⟩
end Go.Proofs.YthjgedafcihheaaGreatDoor
