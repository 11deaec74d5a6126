/- DateForms, walked. -/
import Derived.Test.YtjcllpfncohncaaDoorDateV
import Derived.Test.YtjcllpfncohncaaDoorGrow
namespace Go.Proofs.YtjcllpfncohncaaDoor
open Go.RowKit

theorem long_hi (k : Nat) (h : k < 7) : (lDays.getD k []).length ≤ 9 := by
  match k, h with
  | 0, _ | 1, _ | 2, _ | 3, _ | 4, _ | 5, _ | 6, _ => decide
theorem u8_of (a : Int) (h0 : 0 ≤ a) (h1 : a < 256) : ∃ u : UInt8, a = (u.toNat : Int) := ⟨UInt8.ofNat a.toNat, by rw [UInt8.toNat_ofNat']; omega⟩
theorem old_len {y : Int} {m : Nat} {d h i s : Int} (V : VD y m d h i s) : 0 < (oldT (wdN y m d) m d y h i s).length ∧ (oldT (wdN y m d) m d y h i s).length ≤ 100 := by
  have := long_hi _ (wdN_lt y m d)
  obtain ⟨p, q, r, hm⟩ := month_three m V.2.2.1
  unfold oldT clkT pad2
  rw [hm]
  simp only [List.length_append, List.length_cons, List.length_nil]
  omega
theorem asc_len {y : Int} {m : Nat} {d h i s : Int} (V : VD y m d h i s) (x z : UInt8) : 0 < (ascT (wdN y m d) m [x, z] y h i s).length ∧ (ascT (wdN y m d) m [x, z] y h i s).length ≤ 100 := by
  obtain ⟨a, b, c, hd⟩ := day_three _ (wdN_lt y m d)
  obtain ⟨p, q, r, hm⟩ := month_three m V.2.2.1
  unfold ascT clkT
  rw [hd, hm]
  simp [pad4]

/-- the change's pair in block c, the four texts in block b, and what lay below the base is as it was -/
def FmsAt (w0 : World) (c b : Nat) (a0 a1 : Int) (L : List (List UInt8)) (w : World) : Prop :=
  w.heap[c]? = some (.cells #[.int .u8 a0, .int .u8 a1] 32 (0, 0)) ∧ w.heap[b]? = some (.cells (strs L) 9 (0, 0)) ∧ Below w0.heap.size w0 w

theorem FmsAt.grow {w0 : World} {c b : Nat} {a0 a1 : Int} {L : List (List UInt8)} {w w' : World} (h : FmsAt w0 c b a0 a1 L w) (hb : Below w.heap.size w w') : FmsAt w0 c b a0 a1 L w' :=
  ⟨grown_block h.1 hb, grown_block h.2.1 hb, h.2.2.trans (hb.mono h.2.2.size)⟩
theorem FmsAt.set {w0 : World} {c b : Nat} {a0 a1 : Int} {L : List (List UInt8)} {w : World} (h : FmsAt w0 c b a0 a1 L w) (p : Addr) (v : Value) (h1 : c < p.block) (h2 : b < p.block) (h3 : w0.heap.size ≤ p.block) : FmsAt w0 c b a0 a1 L (w.setCell p v).drew :=
  ⟨(Below.heap_setCell _ _ _ _ (by omega)).trans h.1, (Below.heap_setCell _ _ _ _ (by omega)).trans h.2.1, (h.2.2.setCell h3 v).drew⟩

set_option maxRecDepth 100000 in
set_option maxHeartbeats 4000000 in
theorem dateForms_any (t now a0 a1 : Int) (w : World) (wt : (Lit.int .u64 t).wf = true) (wn : (Lit.int .u64 now).wf = true) (wa : (Lit.int .u8 a0).wf = true) (wb : (Lit.int .u8 a1).wf = true) (ht : Tabs w) :
    Calls Tryd.prog 5 #[.int .u64 t, .int .u64 now, .agg #[.int .u8 a0, .int .u8 a1]] w fun e w' => e = .returned (.bool true) ∧ Below w.heap.size w w' := by
  obtain ⟨t0, t1⟩ := u64_bd wt
  obtain ⟨n0, n1⟩ := u64_bd wn
  obtain ⟨p0, p1⟩ := u8_bd wa
  obtain ⟨q0, q1⟩ := u8_bd wb
  obtain ⟨A0, rfl⟩ : ∃ A0 : Nat, a0 = (A0 : Int) := ⟨a0.toNat, by omega⟩
  obtain ⟨u, rfl⟩ := u8_of a1 q0 q1
  have HT := Lib.hid ht
  clear wt wn wa wb ht
  obtain ⟨y, m, d, h, i, s, H⟩ := isT_exN (t % 253402300800) (by omega) (by omega)
  obtain ⟨V, _, _⟩ := isT_vd H
  obtain ⟨v1, v2, v3, v4, v5, v6, v7⟩ := V.bd
  have HH := Lib.hid H
  have HV := Lib.hid V
  clear H V
  go_enter Tryd.func5, Tryd.ntmps5
  go_wp2_with fail
  refine (rof_any _ _ _ _ _ _ _ _ HH.out).mono ?_
  rintro e w1 ⟨rfl, hb1⟩
  have HC1 : Hid (w1.heap[w.heap.size]? = some (.cells #[.int .u8 (A0 : Nat), .int .u8 (u.toNat : Nat)] 32 (0, 0))) := grown_block (alloc_self _ _ _) hb1
  have HD1 : Hid (Below w.heap.size w w1) := ((Below.refl _ _).alloc (Nat.le_refl _) _).trans (hb1.mono (by simp))
  have HT1 : Hid (Tabs w1) := (HT.out.alloc _).below hb1
  clear hb1
  go_upto_region 2 with fail
  have HP : Hid ((w1.alloc (.cells (dtRow y (m + 1) d h i s) 34)).drew.heap[w1.heap.size]? = some (.cells (dtRow y (m + 1) d h i s) 34 (0, 0))) := alloc_self _ _ _
  have HC : Hid ((w1.alloc (.cells (dtRow y (m + 1) d h i s) 34)).drew.heap[w.heap.size]? = some (.cells #[.int .u8 (A0 : Nat), .int .u8 (u.toNat : Nat)] 32 (0, 0))) := grown_block HC1.out ((Below.refl _ _).alloc (Nat.le_refl _) _).drew
  have HD : Hid (Below w.heap.size w (w1.alloc (.cells (dtRow y (m + 1) d h i s) 34)).drew) := (HD1.out.alloc HD1.out.size _).drew
  have HT2 : Hid (Tabs (w1.alloc (.cells (dtRow y (m + 1) d h i s) 34)).drew) := (HT1.out.alloc _)
  refine wp_region_growL [(0, false), (2, false), (4, false), (6, false), (1, true), (3, true), (5, true), (7, true), (8, true), (9, false)] (by kernel_rfl) (by kernel_rfl) rfl (by kernel_rfl) (by kernel_rfl) (fun ops hops => ?_)
  simp only [inOrder, List.getD_cons_zero, List.getD_cons_succ]
  clear hops
  iterate 4
    refine growL_take (by rfl) ?_
    apply Exists.intro
    refine ⟨fun w' hE => ?_, ?_⟩
    · obtain ⟨k0, k1, k2, k3, k4, k5⟩ := dt_cells (grown_block HP.out hE)
      go_simp
      try with_reducible rfl
    simp only [Act.put, List.setIfInBounds_toArray, List.set_cons_zero, List.set_cons_succ]
  refine growL_call (by rfl) (fun K hK => ?_)
  go_simp
  refine (rfixed_any y (wdN y m d) m d h i s _ HV.out.1 HV.out.2.1 HV.out.2.2.1 HV.out.2.2.2.1 v4 HV.out.2.2.2.2.2.1 v5 HV.out.2.2.2.2.2.2.2.1 v6 HV.out.2.2.2.2.2.2.2.2.2.1 v7 (wdN_eq _ _ _)).mono ?_
  rintro e w3 ⟨rfl, hb⟩
  refine hK.out _ _ hb ?_
  clear hK K
  have HC3 := Lib.hid (grown_block HC.out hb)
  have HD3 := Lib.hid (HD.out.trans (hb.mono HD.out.size))
  have HT3 := Lib.hid (HT2.out.below hb)
  clear hb
  refine growL_call (by rfl) (fun K hK => ?_)
  go_simp
  refine (rold_any y (wdN y m d) m d h i s _ HV.out.1 HV.out.2.1 HV.out.2.2.1 HV.out.2.2.2.1 v4 HV.out.2.2.2.2.2.1 v5 HV.out.2.2.2.2.2.2.2.1 v6 HV.out.2.2.2.2.2.2.2.2.2.1 v7 (wdN_eq _ _ _)).mono ?_
  rintro e w4 ⟨rfl, hb⟩
  refine hK.out _ _ hb ?_
  clear hK K
  have HC4 := Lib.hid (grown_block HC3.out hb)
  have HD4 := Lib.hid (HD3.out.trans (hb.mono HD3.out.size))
  have HT4 := Lib.hid (HT3.out.below hb)
  clear hb
  refine growL_call (by rfl) (fun K hK => ?_)
  go_simp
  refine (rplain_no y (wdN y m d) m d h i s _ HV.out.1 HV.out.2.1 HV.out.2.2.1 HV.out.2.2.2.1 v4 HV.out.2.2.2.2.2.1 v5 HV.out.2.2.2.2.2.2.2.1 v6 HV.out.2.2.2.2.2.2.2.2.2.1 v7 (wdN_eq _ _ _)).mono ?_
  rintro e w5 ⟨rfl, hb⟩
  refine hK.out _ _ hb ?_
  clear hK K
  have HC5 := Lib.hid (grown_block HC4.out hb)
  have HD5 := Lib.hid (HD4.out.trans (hb.mono HD4.out.size))
  have HT5 := Lib.hid (HT4.out.below hb)
  clear hb
  refine growL_call (by rfl) (fun K hK => ?_)
  go_simp
  refine (rplain_yes y (wdN y m d) m d h i s _ HV.out.1 HV.out.2.1 HV.out.2.2.1 HV.out.2.2.2.1 v4 HV.out.2.2.2.2.2.1 v5 HV.out.2.2.2.2.2.2.2.1 v6 HV.out.2.2.2.2.2.2.2.2.2.1 v7 (wdN_eq _ _ _)).mono ?_
  rintro e w6 ⟨rfl, hb⟩
  refine hK.out _ _ hb ?_
  clear hK K
  have HC6 := Lib.hid (grown_block HC5.out hb)
  have HD6 := Lib.hid (HD5.out.trans (hb.mono HD5.out.size))
  have HT6 := Lib.hid (HT5.out.below hb)
  clear hb
  refine growL_call (by rfl) (fun K hK => ?_)
  go_simp
  refine hK.out _ _ ((Below.refl _ _).alloc (Nat.le_refl _) _) ?_
  clear hK K
  have f1 := fixT_len HV.out
  have f2 := old_len HV.out
  have f3 := asc_len HV.out (digO (d.toNat / 10)) (digO (d.toNat % 10))
  have f4 := asc_len HV.out 32 (digO (d.toNat % 10))
  generalize fixT (wdN y m d) m d y h i s = l0 at *
  generalize oldT (wdN y m d) m d y h i s = l1 at *
  generalize ascT (wdN y m d) m [digO (d.toNat / 10), digO (d.toNat % 10)] y h i s = l2 at *
  generalize ascT (wdN y m d) m [32, digO (d.toNat % 10)] y h i s = l3 at *
  have HF : Hid (FmsAt w w.heap.size w6.heap.size (A0 : Nat) (u.toNat : Nat) [l0, l1, l2, l3] (w6.alloc (.cells (strs [l0, l1, l2, l3]) 9))) := ⟨grown_block HC6.out ((Below.refl _ _).alloc (Nat.le_refl _) _), alloc_self _ _ _, HD6.out.alloc HD6.out.size _⟩
  have HS : Hid (w.heap.size ≤ w6.heap.size) := HD6.out.size
  have HL : Hid (∀ k, k < 4 → 0 < ([l0, l1, l2, l3].getD k []).length ∧ ([l0, l1, l2, l3].getD k []).length ≤ 100) := by
    intro k hk
    match k, hk with
    | 0, _ => show 0 < l0.length ∧ l0.length ≤ 100; omega
    | 1, _ => exact f2
    | 2, _ => exact f3
    | 3, _ => exact f4
  clear f1 f2 f3 f4
  iterate 1
    refine growL_take (by rfl) ?_
    apply Exists.intro
    refine ⟨fun w' hE => ?_, ?_⟩
    · skip
      go_simp
      try with_reducible rfl
    simp only [Act.put, List.setIfInBounds_toArray, List.set_cons_zero, List.set_cons_succ]
  refine growL_done (NoPanic.normal ?_)
  simp only [Exit.then]
  go_wp2_with fail
  go_loopg [9] 4 (fun c v wr => ∃ k : Nat, k + c = 4 ∧ v = .int .i64 k ∧ Hid (FmsAt w w.heap.size w6.heap.size (A0 : Nat) (u.toNat : Nat) [l0, l1, l2, l3] wr))
  case atStart => exact ⟨0, rfl, rfl, HF⟩
  case round =>
    obtain ⟨k, hk, rfl, HO⟩ := hrel
    obtain ⟨wo, rfl⟩ : ∃ wo : World, wo = wr := ⟨_, rfl⟩
    obtain ⟨ko, rfl⟩ : ∃ ko : Nat, ko = gk := ⟨_, rfl⟩
    rcases Nat.eq_zero_or_pos ko with hz | hz
    · subst hz
      obtain rfl : k = 4 := by omega
      go_wp2_with fail
      refine (awake_any _ (HT.out.below HO.out.2.2)).mono ?_
      rintro e w7 ⟨rfl, hb⟩
      go_wp2_with fail
      go_ret
      exact ⟨rfl, HO.out.2.2.trans (hb.mono HO.out.2.2.size)⟩
    · have hk4 : k < 4 := by omega
      have hk5 : (k : Int) < 4 := by omega
      obtain ⟨z0, z1⟩ := HL.out k hk4
      obtain ⟨l, hl⟩ : ∃ l, [l0, l1, l2, l3].getD k [] = l := ⟨_, rfl⟩
      rw [hl] at z0 z1
      have c0 := strs_getD (k := k) HO.out.2.1 hk4 hl
      obtain ⟨cap, C, hconv, hcap, hrow⟩ := bytes_of (bs l) wo
      rw [bs_size] at hconv hcap hrow
      rw [bs_data] at hrow
      have HR := Lib.hid hrow
      have HCp := Lib.hid hcap
      clear hrow hcap hl
      go_upto_region 7 with fail
      have HO2 : Hid (FmsAt w w.heap.size w6.heap.size (A0 : Nat) (u.toNat : Nat) [l0, l1, l2, l3] (wo.alloc (.cells C 5 (C.size, C.size + 1))).drew) := HO.out.grow ((Below.refl _ _).alloc (Nat.le_refl _) _).drew
      have HRB : Hid (rowB (wo.alloc (.cells C 5 (C.size, C.size + 1))).drew wo.heap.size l.length l) := HR.out.drew
      have HLT : Hid (w6.heap.size < wo.heap.size) := lt_of_block HO.out.2.1
      clear HR HO c0 hconv
      generalize (wo.alloc (.cells C 5 (C.size, C.size + 1))).drew = wB at *
      generalize wo.heap.size = bl at *
      have c0 : wB.cell? ⟨w.heap.size, 0, none⟩ = some (.int .u8 (A0 : Nat)) := by simp [World.cell?, HO2.out.1]
      have c1 : wB.cell? ⟨w.heap.size, 1, none⟩ = some (.int .u8 (u.toNat : Nat)) := by simp [World.cell?, HO2.out.1]
      by_cases hu : (u.toNat : Int) = 0
      · have hu2 : ((u.toNat : Int) != 0) = false := by rw [hu]; rfl
        have hback := HRB.out.back cap
        clear hu
        go_wp2_with fail
        refine (dateReads_any _ _ _ (by rw [bs_size]; unfold maxLen; omega) (wrap64_wf _) (HT.out.below HO2.out.2.2)).mono ?_
        rintro e w9 ⟨rfl, hb9⟩
        have HO9 := Lib.hid (HO2.out.grow hb9)
        clear hb9
        go_wp2_with fail
        go_roundg (ko - 1)
        case rel => exact ⟨k + 1, by omega, by go_num, HO9⟩
        case measure => omega
      · have hu2 : ((u.toNat : Int) != 0) = true := by rw [bne_iff_ne]; exact hu
        clear hu
        go_upto_region 8 with fail
        have hj : A0 % l.length < l.length := Nat.mod_lt _ z0
        have hr : (A0 : Int).tmod (l.length : Nat) = ((A0 % l.length : Nat) : Int) := by rw [Int.ofNat_tmod]
        have fr := HRB.out.free _ hj
        have cr := HRB.out.cell _ hj
        go_region
        have HO3 : Hid (FmsAt w w.heap.size w6.heap.size (A0 : Nat) (u.toNat : Nat) [l0, l1, l2, l3] (wB.setCell ⟨bl, A0 % l.length, none⟩ (.int .u8 (u.toNat : Nat))).drew) := HO2.out.set _ _ (Nat.lt_of_le_of_lt HS.out HLT.out) HLT.out (Nat.le_of_lt (Nat.lt_of_le_of_lt HS.out HLT.out))
        have HR3 : Hid (rowB (wB.setCell ⟨bl, A0 % l.length, none⟩ (.int .u8 (u.toNat : Nat))).drew bl l.length (l.set (A0 % l.length) u)) := (HRB.out.set _ u).drew
        have z2 : (l.set (A0 % l.length) u).length ≤ 100 := by rw [List.length_set]; exact z1
        simp only [Exit.then]
        clear c0 c1 fr cr hr hj hu2
        generalize (wB.setCell ⟨bl, A0 % l.length, none⟩ (.int .u8 (u.toNat : Nat))).drew = wC at *
        have hback := HR3.out.back cap
        generalize l.set (A0 % l.length) u = l' at *
        go_wp2_with fail
        refine (dateReads_any _ _ _ (by rw [bs_size]; unfold maxLen; omega) (wrap64_wf _) (HT.out.below HO3.out.2.2)).mono ?_
        rintro e w9 ⟨rfl, hb9⟩
        have HO9 := Lib.hid (HO3.out.grow hb9)
        clear hb9
        go_wp2_with fail
        go_roundg (ko - 1)
        case rel => exact ⟨k + 1, by omega, by go_num, HO9⟩
        case measure => omega
end Go.Proofs.YtjcllpfncohncaaDoor
