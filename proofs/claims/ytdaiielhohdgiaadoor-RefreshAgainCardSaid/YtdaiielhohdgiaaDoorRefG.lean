/- The statements' own: few, of. -/
import Derived.Test.YtdaiielhohdgiaaDoorRefB
import Derived.Test.YtdaiielhohdgiaaDoorKOpen
import Derived.Test.YtdaiielhohdgiaaDoorKFieldsG
namespace Go.Proofs.YtdaiielhohdgiaaDoor
open Go.RowKit Go.Shelf

def fewQ (l : List Fld) : Bool := decide (l.length ≤ 80) && decide (sizeL l ≤ 6000)
theorem fewQ_qh {l : List Fld} (h : fewQ l = true) : QH l := by
  unfold fewQ at h
  simp only [Bool.and_eq_true, decide_eq_true_eq] at h
  exact ⟨h.1, h.2⟩
theorem sizeQ_step {l : List Fld} {k : Nat} (h : k < l.length) : sizeL (l.take (k + 1)) = sizeL (l.take k) + (l[k].1.length + l[k].2.length) := by
  rw [List.take_succ_eq_append_getElem h, sizeL_append]; simp [sizeL]
theorem sizeQ_take (l : List Fld) (k : Nat) : sizeL (l.take k) ≤ sizeL l := by
  have h : sizeL l = sizeL (l.take k) + sizeL (l.drop k) := by rw [← sizeL_append, List.take_append_drop]
  omega

set_option maxHeartbeats 2000000 in
set_option maxRecDepth 100000 in
theorem fewQ_any (v : Value) (l : List Fld) (w : World) (h : FL w v l) (hs : ∀ j (hj : j < l.length), l[j].1.length ≤ 9223372036854775807 ∧ l[j].2.length ≤ 9223372036854775807) (hl : l.length ≤ 9223372036854775807) :
    Calls Tryd.prog 5 #[v] w fun e w' => e = .returned (.bool (fewQ l)) ∧ Below w.heap.size w w' := by
  obtain ⟨A, c, rfl⟩ := h.form
  have HF := Lib.hid h; clear h
  by_cases h80 : 80 < l.length
  · have HR : Hid (fewQ l = false) := by show _ = _; unfold fewQ; rw [decide_eq_false (by omega)]; rfl
    have h80' : (80 : Int) < (l.length : Int) := by omega
    go_enter Tryd.func5, Tryd.ntmps5
    go_wp2_with fail
    go_ret
    exact ⟨ret_bool HR.out.symm, Below.refl _ _⟩
  · have h80' : ¬ (80 : Int) < (l.length : Int) := by omega
    go_enter Tryd.func5, Tryd.ntmps5
    go_wp2_with fail
    go_loopw [3, 4] (fun a i wr => ∃ (k : Nat) (L : Int), k ≤ l.length ∧ i = .int .i64 k ∧ a = .int .i64 L ∧ 0 ≤ L ∧ L ≤ 6000 ∧ L + (sizeL (l.take k) : Int) = 6000 ∧ Below w.heap.size w wr) (fun _ i _ => l.length - (intOf i).toNat)
    case atStart => exact ⟨0, 6000, Nat.zero_le _, rfl, rfl, by omega, by omega, rfl, Below.refl _ _⟩
    case round =>
      obtain ⟨k, L, hk, rfl, rfl, hL0, hL1, hsum, hb⟩ := hrel
      have HB := Lib.hid hb; have HSum := Lib.hid hsum; clear hb hsum
      by_cases hlt : k < l.length
      · have hki : (k : Int) < (l.length : Int) := by omega
        obtain ⟨b, off, rfl, hbb, hc1, hc2⟩ := (HF.out.bel HB.out).get k hlt
        obtain ⟨s1, s2⟩ := hs k hlt
        have hst := sizeQ_step hlt
        have hle := sizeQ_take l (k + 1)
        rw [hst] at hle
        have HST := Lib.hid hst; have HLE := Lib.hid hle; clear hst hle
        generalize l[k] = f at *
        obtain ⟨n, x⟩ := f; simp only at s1 s2 hc1 hc2
        have HST2 : Hid (sizeL (l.take (k + 1)) = sizeL (l.take k) + (n.length + x.length)) := HST.out
        have HLE2 : Hid (sizeL (l.take k) + (n.length + x.length) ≤ sizeL l) := HLE.out
        clear HST HLE
        have hsz1 : (bs n).size = n.length := bs_size n
        have hsz2 : (bs x).size = x.length := bs_size x
        have HZ1 := Lib.hid hsz1; have HZ2 := Lib.hid hsz2; clear hsz1 hsz2
        by_cases h1 : L < (n.length : Int)
        · have HR : Hid (fewQ l = false) := by
            show _ = _; unfold fewQ
            rw [decide_eq_false (p := sizeL l ≤ 6000) (by have := HLE2.out; have := HSum.out; omega), Bool.and_false]
          have hd : decide (L < (n.length : Int)) = true := decide_eq_true h1
          clear h1
          go_wp2_with fail
          go_quiet (fail)
          go_wp2_with fail
          go_ret
          exact ⟨ret_bool HR.out.symm, below_dn HB.out _⟩
        · have hd : decide (L < (n.length : Int)) = false := decide_eq_false h1
          have hge : (n.length : Int) ≤ L := by omega
          by_cases h2 : L - (n.length : Int) < (x.length : Int)
          · have HR : Hid (fewQ l = false) := by
              show _ = _; unfold fewQ
              rw [decide_eq_false (p := sizeL l ≤ 6000) (by have := HLE2.out; have := HSum.out; omega), Bool.and_false]
            have hd2 : decide (L - (n.length : Int) < (x.length : Int)) = true := decide_eq_true h2
            clear h1
            go_wp2_with fail
            go_quiet (fail)
            go_wp2_with fail
            go_ret
            exact ⟨ret_bool HR.out.symm, below_dn HB.out _⟩
          · have hd2 : decide (L - (n.length : Int) < (x.length : Int)) = false := decide_eq_false h2
            have hge2 : (x.length : Int) ≤ L - (n.length : Int) := by omega
            have HS2 : Hid (L - (n.length : Int) - (x.length : Int) + (sizeL (l.take (k + 1)) : Int) = 6000) := by have h3 := HST2.out; have h4 := HSum.out; show _ = _; omega
            clear h1 h2
            go_wp2_with fail
            go_quiet (fail)
            go_wp2_with fail
            go_quiet (fail)
            go_wp2_with fail
            go_roundw
            case rel => exact ⟨k + 1, L - (n.length : Int) - (x.length : Int), by omega, by go_num, rfl, by omega, by omega, HS2.out, below_dn HB.out _⟩
            case measure => simp [intOf]; omega
      · have HR : Hid (fewQ l = true) := by
          have h3 := HSum.out
          rw [List.take_of_length_le (by omega)] at h3
          show _ = _; unfold fewQ
          rw [decide_eq_true (p := l.length ≤ 80) (by omega), decide_eq_true (p := sizeL l ≤ 6000) (by omega)]; rfl
        go_wp2_with fail
        go_ret
        exact ⟨ret_bool HR.out.symm, HB.out⟩

set_option maxRecDepth 100000 in
set_option maxHeartbeats 4000000 in
theorem ofQ_any (v : Value) (l : List Fld) (w : World) (h : SL w v (flatN l)) (hl : l.length ≤ 64) :
    Calls Tryd.prog 14 #[v] w fun e w' => ∃ A c, e = .returned (.agg #[.int .i64 200, .string ⟨#[79, 75]⟩, .int .i64 1, .slice A l.length c, .string ⟨#[98]⟩, .int .i64 0, .int .i64 0, .slice none 0 0]) ∧ FL w' (.slice A l.length c) l ∧ Below w.heap.size w w' := by
  obtain ⟨A, c, rfl⟩ := h.form
  have hfl := flatN_len l
  have hx : Below w.heap.size w (w.alloc (.cells #[.int .i64 0, .string ⟨#[]⟩, .int .i64 0, .slice none 0 0, .string ⟨#[]⟩, .int .i64 0, .int .i64 0, .slice none 0 0] 26)) := (Below.refl _ _).alloc (Nat.le_refl _) _
  have hx2 : Below w.heap.size w ((w.alloc (.cells #[.int .i64 0, .string ⟨#[]⟩, .int .i64 0, .slice none 0 0, .string ⟨#[]⟩, .int .i64 0, .int .i64 0, .slice none 0 0] 26)).alloc (.cells #[.int .i64 200, .string ⟨#[79, 75]⟩, .int .i64 1, .slice none 0 0, .string ⟨#[98]⟩, .int .i64 0, .int .i64 0, .slice none 0 0] 26)) := hx.alloc hx.size _
  have hr0 := (bk.new w #[.int .i64 0, .string ⟨#[]⟩, .int .i64 0, .slice none 0 0, .string ⟨#[]⟩, .int .i64 0, .int .i64 0, .slice none 0 0] 26).alloc (.cells #[.int .i64 200, .string ⟨#[79, 75]⟩, .int .i64 1, .slice none 0 0, .string ⟨#[98]⟩, .int .i64 0, .int .i64 0, .slice none 0 0] 26)
  have hk0 := bk.new (w.alloc (.cells #[.int .i64 0, .string ⟨#[]⟩, .int .i64 0, .slice none 0 0, .string ⟨#[]⟩, .int .i64 0, .int .i64 0, .slice none 0 0] 26)) #[.int .i64 200, .string ⟨#[79, 75]⟩, .int .i64 1, .slice none 0 0, .string ⟨#[98]⟩, .int .i64 0, .int .i64 0, .slice none 0 0] 26
  rw [World.size_alloc] at hk0
  have HW := Lib.hid h; have HFL := Lib.hid hfl; have HX := Lib.hid hx2; have HR0 := Lib.hid hr0; have HK0 := Lib.hid hk0
  clear h hfl hx hx2 hr0 hk0
  go_enter Tryd.func14, Tryd.ntmps14
  go_wp2_with fail
  go_loopw [4] (fun i wr => ∃ k : Nat, k ≤ l.length ∧ i = .int .i64 (2 * (k : Int)) ∧ ∃ fv, ownF wr (w.heap.size + 2) fv (l.take k) ∧ bk wr (w.heap.size + 1) #[.int .i64 200, .string ⟨#[79, 75]⟩, .int .i64 1, fv, .string ⟨#[98]⟩, .int .i64 0, .int .i64 0, .slice none 0 0] ∧ bk wr w.heap.size #[.int .i64 0, .string ⟨#[]⟩, .int .i64 0, .slice none 0 0, .string ⟨#[]⟩, .int .i64 0, .int .i64 0, .slice none 0 0] ∧ Below w.heap.size w wr) (fun i _ => 2 * l.length - (intOf i).toNat)
  case atStart => exact ⟨0, Nat.zero_le _, rfl, _, ownF_nil _ _, HK0.out, HR0.out, HX.out⟩
  case round =>
    obtain ⟨k, hk, rfl, fv, ho, hke, hr, hb⟩ := hrel
    have HO := Lib.hid ho; have HB := Lib.hid hb; have HKE := Lib.hid hke; have HR := Lib.hid hr; clear ho hb hke hr HK0 HR0 HX
    by_cases hlt : k < l.length
    · have hi3 : (2 : Int) * (k : Int) + 1 < ((flatN l).length : Int) := by have := HFL.out; omega
      obtain ⟨f1, f2⟩ := flatN_at l k hlt
      obtain ⟨b, off, rfl, hbb, hd1⟩ := HW.out.at2 f1
      obtain ⟨b', o', he, _, hd2⟩ := HW.out.at2 f2
      obtain ⟨rfl, rfl⟩ : b = b' ∧ off = o' := by simpa using he
      clear he f1 f2
      have HT : Hid (l.take (k + 1) = l.take k ++ [l[k]]) := List.take_succ_eq_append_getElem hlt
      have HLN : Hid ((l.take k).length + 1 ≤ 4294967296) := by have : (l.take k).length ≤ l.length := List.length_take_le' _ _; show _ ≤ _; omega
      generalize l.take k = acc at *
      obtain ⟨Ao, co, rfl⟩ := HO.out.form
      generalize l[k] = f at *
      obtain ⟨x, y⟩ := f; simp only at hd1 hd2
      have HD1 := Lib.hid hd1; have HD2 := Lib.hid hd2; have HBB := Lib.hid hbb
      clear hd1 hd2 hbb
      have hi1 : (2 : Int) * (k : Int) < ((flatN l).length : Int) := by omega
      have hj2 : 2 * k < (flatN l).length := by omega
      have hj3 : 2 * k + 1 < (flatN l).length := by omega
      go_wp2_with fail
      have hw2 : IntKind.i64.wrap (2 * (k : Int) + 1) = 2 * (k : Int) + 1 := by rw [IntKind.wrap_i64]; omega
      have hb1 : (0 : Int) ≤ 2 * (k : Int) := by omega
      have hb2 : (0 : Int) ≤ 2 * (k : Int) + 1 := by omega
      have ht1 : (2 * (k : Int)).toNat = 2 * k := by omega
      have ht2 : (2 * (k : Int) + 1).toNat = 2 * k + 1 := by omega
      have hdr : Below wr.heap.size wr wr.drew := (Below.refl _ _).drew
      have HB0 := Lib.hid HB.out.drew; have HO0 := Lib.hid (HO.out.bel hdr); have HK0 := Lib.hid (HKE.out.below hdr); have HR0 := Lib.hid (HR.out.below hdr); have HSZ := Lib.hid (HB.out.size)
      clear hdr HB HO HKE HR
      refine wp_region_growS (.one 0 false (.one 1 false (.one 3 false (.one 4 false (.one 5 false (.one 6 false (.one 7 false (.one 8 false (.one 9 false (.one 10 false (.one 11 false (.one 12 false (.two 2 13 (.one 13 true (.one 14 true (.one 15 false (.one 16 false (.one 17 true .done))))) (.one 2 true (.one 14 true (.one 15 false (.one 16 false (.one 17 true .done))))))))))))))))))
        (fun W => Below w.heap.size w W) (by kernel_rfl) (by kernel_rfl) rfl (by kernel_rfl) (by kernel_rfl) HB0.out (fun ops hops => ?_)
      simp only [GT.ins, List.getD_cons_zero, List.getD_cons_succ]
      clear hops
      generalize hz0 : wr.drew = z0 at *
      clear hz0
      iterate 12
        refine growS_take (by rfl) ?_
        apply Exists.intro
        refine ⟨fun w' hE => ?_, ?_⟩
        · have q1 := (hE.cell (p := ⟨b, off + 2 * k, none⟩) HBB.out).trans HD1.out; have q2 := (hE.cell (p := ⟨b, off + (2 * k + 1), none⟩) HBB.out).trans HD2.out
          go_simp
          try with_reducible rfl
        simp only [Act.put, List.setIfInBounds_toArray, List.set_cons_zero, List.set_cons_succ]
      refine growS_two (by rfl) (by rfl) (fun K hK => ?_) (fun K hK => ?_)
      · have k3 := HK0.out.cell 3 _ rfl
        go_simp
        refine hK.out _ _ HB0.out ?_
        clear hK K k3
        refine growS_call (by rfl) (fun K hK => ?_)
        go_simp
        have hd : Below z0.heap.size z0 (z0.alloc (.cells #[.string (bs x), .string (bs y)] 42)) := (Below.refl _ _).alloc (Nat.le_refl _) _
        have hn := FL_lit z0 (x, y)
        have hb5 := HB0.out.trans (hd.mono HB0.out.size)
        refine hK.out _ _ hb5 ?_
        have HN1 := Lib.hid hn; have HO1 := Lib.hid (HO0.out.bel hd); have HB1 := Lib.hid hb5; have HK1 := Lib.hid (HK0.out.below hd); have HR1 := Lib.hid (HR0.out.below hd)
        clear hK K hn hb5 hd
        generalize hzz : (z0.alloc (.cells #[.string (bs x), .string (bs y)] 42)) = z1 at *
        clear hzz
        refine growS_call (by rfl) (fun K hK => ?_)
        refine wp_appFF (.tmp 16) (.tmp 27) rfl (w.heap.size + 2) w.heap.size _ _ acc [(x, y)] rfl HO1.out HB1.out (by omega) (by have h := HB1.out.size; have := HSZ.out; have h2 := HK1.out.lt; omega) rfl HN1.out HLN.out ?_
        intro v6 z2 HO2 HB2 HKP HSZ2
        obtain ⟨M, hM⟩ : ∃ M, M = acc ++ [(x, y)] := ⟨_, rfl⟩
        rw [← hM] at HT HO2
        clear hM
        have HK2 := Lib.hid (HK1.out.keep (HKP.out _ (by omega)))
        have HR2 := Lib.hid (HR1.out.keep (HKP.out _ (by omega)))
        refine hK.out _ _ HB2.out ?_
        clear hK K HB1 HO1 HK1 HR1 HN1
        iterate 2
          refine growS_take (by rfl) ?_
          apply Exists.intro
          refine ⟨fun w' hE => ?_, ?_⟩
          · have q1 := (hE.cell (p := ⟨b, off + 2 * k, none⟩) HBB.out).trans HD1.out; have q2 := (hE.cell (p := ⟨b, off + (2 * k + 1), none⟩) HBB.out).trans HD2.out
            go_simp
            try with_reducible rfl
          simp only [Act.put, List.setIfInBounds_toArray, List.set_cons_zero, List.set_cons_succ]
        refine growS_call (by rfl) (fun K hK => ?_)
        obtain ⟨A6, c6, rfl⟩ := HO2.out.form
        have n3 := HK2.out.cell 3 _ rfl
        have f3 := HK2.out.free 3
        have hq := HK2.out.set 3 (.slice A6 M.length c6)
        simp only [List.setIfInBounds_toArray, List.set_cons_zero, List.set_cons_succ] at hq
        have hb9 := HB2.out.setCell (p := ⟨w.heap.size + 1, 3, none⟩) (Nat.le_succ _) (.slice A6 M.length c6)
        have ho9 : ownF (z2.setCell ⟨w.heap.size + 1, 3, none⟩ (.slice A6 M.length c6)) (w.heap.size + 2) (.slice A6 M.length c6) M := HO2.out.stay (fun b hb => Below.heap_setCell _ _ _ _ (by simp only; omega))
        have hr9 := HR2.out.keep (Below.heap_setCell z2 ⟨w.heap.size + 1, 3, none⟩ (.slice A6 M.length c6) w.heap.size (by simp))
        have HQ9 := Lib.hid hq; have HB9 := Lib.hid hb9; have HO9 := Lib.hid ho9; have HR9 := Lib.hid hr9; clear hq hb9 ho9 hr9
        go_simp
        refine hK.out _ _ HB9.out ?_
        clear hK K n3 f3
        refine growS_done (NoPanic.normal ?_)
        clear hw2 hb1 hb2 ht1 ht2
        go_wp2_with fail
        go_roundw
        case rel => exact ⟨k + 1, by omega, by go_num, _, by rw [HT.out]; exact HO9.out, HQ9.out, HR9.out, HB9.out⟩
        case measure => simp [intOf]; omega
      · go_simp
        have hd : Below z0.heap.size z0 (z0.alloc (.cells #[.string (bs x), .string (bs y)] 42)) := (Below.refl _ _).alloc (Nat.le_refl _) _
        have hn := FL_lit z0 (x, y)
        have hb5 := HB0.out.trans (hd.mono HB0.out.size)
        refine hK.out _ _ hb5 ?_
        have HN1 := Lib.hid hn; have HO1 := Lib.hid (HO0.out.bel hd); have HB1 := Lib.hid hb5; have HK1 := Lib.hid (HK0.out.below hd); have HR1 := Lib.hid (HR0.out.below hd)
        clear hK K hn hb5 hd
        generalize hzz : (z0.alloc (.cells #[.string (bs x), .string (bs y)] 42)) = z1 at *
        clear hzz
        refine growS_call (by rfl) (fun K hK => ?_)
        have k3 := HK1.out.cell 3 _ rfl
        go_simp
        refine hK.out _ _ HB1.out ?_
        clear hK K k3
        refine growS_call (by rfl) (fun K hK => ?_)
        refine wp_appFF (.tmp 16) (.tmp 27) rfl (w.heap.size + 2) w.heap.size _ _ acc [(x, y)] rfl HO1.out HB1.out (by omega) (by have h := HB1.out.size; have := HSZ.out; have h2 := HK1.out.lt; omega) rfl HN1.out HLN.out ?_
        intro v6 z2 HO2 HB2 HKP HSZ2
        obtain ⟨M, hM⟩ : ∃ M, M = acc ++ [(x, y)] := ⟨_, rfl⟩
        rw [← hM] at HT HO2
        clear hM
        have HK2 := Lib.hid (HK1.out.keep (HKP.out _ (by omega)))
        have HR2 := Lib.hid (HR1.out.keep (HKP.out _ (by omega)))
        refine hK.out _ _ HB2.out ?_
        clear hK K HB1 HO1 HK1 HR1 HN1
        iterate 2
          refine growS_take (by rfl) ?_
          apply Exists.intro
          refine ⟨fun w' hE => ?_, ?_⟩
          · have q1 := (hE.cell (p := ⟨b, off + 2 * k, none⟩) HBB.out).trans HD1.out; have q2 := (hE.cell (p := ⟨b, off + (2 * k + 1), none⟩) HBB.out).trans HD2.out
            go_simp
            try with_reducible rfl
          simp only [Act.put, List.setIfInBounds_toArray, List.set_cons_zero, List.set_cons_succ]
        refine growS_call (by rfl) (fun K hK => ?_)
        obtain ⟨A6, c6, rfl⟩ := HO2.out.form
        have n3 := HK2.out.cell 3 _ rfl
        have f3 := HK2.out.free 3
        have hq := HK2.out.set 3 (.slice A6 M.length c6)
        simp only [List.setIfInBounds_toArray, List.set_cons_zero, List.set_cons_succ] at hq
        have hb9 := HB2.out.setCell (p := ⟨w.heap.size + 1, 3, none⟩) (Nat.le_succ _) (.slice A6 M.length c6)
        have ho9 : ownF (z2.setCell ⟨w.heap.size + 1, 3, none⟩ (.slice A6 M.length c6)) (w.heap.size + 2) (.slice A6 M.length c6) M := HO2.out.stay (fun b hb => Below.heap_setCell _ _ _ _ (by simp only; omega))
        have hr9 := HR2.out.keep (Below.heap_setCell z2 ⟨w.heap.size + 1, 3, none⟩ (.slice A6 M.length c6) w.heap.size (by simp))
        have HQ9 := Lib.hid hq; have HB9 := Lib.hid hb9; have HO9 := Lib.hid ho9; have HR9 := Lib.hid hr9; clear hq hb9 ho9 hr9
        go_simp
        refine hK.out _ _ HB9.out ?_
        clear hK K n3 f3
        refine growS_done (NoPanic.normal ?_)
        clear hw2 hb1 hb2 ht1 ht2
        go_wp2_with fail
        go_roundw
        case rel => exact ⟨k + 1, by omega, by go_num, _, by rw [HT.out]; exact HO9.out, HQ9.out, HR9.out, HB9.out⟩
        case measure => simp [intOf]; omega
    · have hi3 : ¬ (2 : Int) * (k : Int) + 1 < ((flatN l).length : Int) := by have := HFL.out; omega
      have HT : Hid (l.take k = l) := List.take_of_length_le (by omega)
      have ho := HO.out
      rw [HT.out] at ho
      obtain ⟨A6, c6, rfl⟩ := ho.form
      have HO2 := Lib.hid ho; clear ho HO
      have HLD := Lib.hid (HKE.out.range0 (l := [.int .i64 200, .string ⟨#[79, 75]⟩, .int .i64 1, .slice A6 l.length c6, .string ⟨#[98]⟩, .int .i64 0, .int .i64 0, .slice none 0 0]))
      have HST : Hid (World.there wr w.heap.size 0 8) := HR.out.there 0 8 (by decide)
      have HQ := Lib.hid (HR.out.setAll [.int .i64 200, .string ⟨#[79, 75]⟩, .int .i64 1, .slice A6 l.length c6, .string ⟨#[98]⟩, .int .i64 0, .int .i64 0, .slice none 0 0] rfl)
      have HB9 := Lib.hid (Below.cells HB.out w.heap.size (Nat.le_refl _) [.int .i64 200, .string ⟨#[79, 75]⟩, .int .i64 1, .slice A6 l.length c6, .string ⟨#[98]⟩, .int .i64 0, .int .i64 0, .slice none 0 0] 0)
      have HO9 := Lib.hid (ownF.stay HO2.out (fun k hk => heap_setCells w.heap.size [.int .i64 200, .string ⟨#[79, 75]⟩, .int .i64 1, .slice A6 l.length c6, .string ⟨#[98]⟩, .int .i64 0, .int .i64 0, .slice none 0 0] 0 _ k (by omega)))
      have HON : Hid ((#[.int .i64 200, .string ⟨#[79, 75]⟩, .int .i64 1, .slice A6 l.length c6, .string ⟨#[98]⟩, .int .i64 0, .int .i64 0, .slice none 0 0] : Array Value).all (·.oneCell') = true) := ent_one ⟨200, [79, 75], 1, l, [98], 0, 0, []⟩ (.slice A6 l.length c6) (.slice none 0 0) HO2.out.fl (FL_nil wr)
      go_wp2_with (first | (refine wpList_load_mid rfl 26 (.tmp 3) rfl _ 0 rfl [.int .i64 200, .string ⟨#[79, 75]⟩, .int .i64 1, .slice A6 l.length c6, .string ⟨#[98]⟩, .int .i64 0, .int .i64 0, .slice none 0 0] _ HLD.out Tryd.underlying26 rfl infoEn.out ?_; clear HLD) | (refine wpList_store_mid rfl 26 (.tmp 2) (.tmp 31) rfl _ 0 #[.int .i64 200, .string ⟨#[79, 75]⟩, .int .i64 1, .slice A6 l.length c6, .string ⟨#[98]⟩, .int .i64 0, .int .i64 0, .slice none 0 0] rfl rfl HST.out infoEn.out HON.out ?_; clear HST))
      have r0 := HQ.out.cell 0 (.int .i64 200) rfl
      have r1 := HQ.out.cell 1 (.string ⟨#[79, 75]⟩) rfl
      have r2 := HQ.out.cell 2 (.int .i64 1) rfl
      have r3 := HQ.out.cell 3 (.slice A6 l.length c6) rfl
      have r4 := HQ.out.cell 4 (.string ⟨#[98]⟩) rfl
      have r5 := HQ.out.cell 5 (.int .i64 0) rfl
      have r6 := HQ.out.cell 6 (.int .i64 0) rfl
      have r7 := HQ.out.cell 7 (.slice none 0 0) rfl
      refine bodyPost_ret (v := .agg #[.int .i64 200, .string ⟨#[79, 75]⟩, .int .i64 1, .slice A6 l.length c6, .string ⟨#[98]⟩, .int .i64 0, .int .i64 0, .slice none 0 0]) (by simp [results, Tryd.results14, go_sem, r0, r1, r2, r3, r4, r5, r6, r7]) rfl ?_
      exact ⟨_, _, rfl, HO9.out.fl, HB9.out⟩
end Go.Proofs.YtdaiielhohdgiaaDoor
