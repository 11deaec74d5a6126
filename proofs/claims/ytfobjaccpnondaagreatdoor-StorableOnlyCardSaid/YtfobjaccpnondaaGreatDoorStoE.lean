/- What the statements of stage 16 ask of lists, and what they make: few, of, may, works. -/
import Derived.Test.YtfobjaccpnondaaGreatDoorStoB
import Derived.Test.YtfobjaccpnondaaGreatDoorKOpen
namespace Go.Proofs.YtfobjaccpnondaaGreatDoor
open Go.RowKit

/-! ### few -/
def fewS (l : List Fld) : Bool := decide (l.length ≤ 60) && decide (sizeL l ≤ 6000)
structure FwS (l : List Fld) : Prop where
  len : l.length ≤ 60
  size : sizeL l ≤ 6000
theorem fewS_fw {l : List Fld} (h : fewS l = true) : FwS l := by
  unfold fewS at h
  simp only [Bool.and_eq_true, decide_eq_true_eq] at h
  exact ⟨h.1, h.2⟩
theorem sizeS_mem {l : List Fld} {f : Fld} (h : f ∈ l) : f.1.length + f.2.length ≤ sizeL l := by
  unfold sizeL
  induction l with
  | nil => cases h
  | cons g r ih =>
    rw [List.map_cons, List.sum_cons]
    rcases List.mem_cons.1 h with rfl | h
    · omega
    · have := ih h; omega
theorem FwS.small {l : List Fld} (h : FwS l) : smallF l := fun j hj => by
  have := sizeS_mem (List.getElem_mem hj)
  have := h.size
  omega
theorem FwS.getLen {l : List Fld} (h : FwS l) (n : List UInt8) : (getL l n).length ≤ 6120 := by
  have := get_len l n; have := h.len; have := h.size; omega
theorem sizeS_step {l : List Fld} {k : Nat} (h : k < l.length) : sizeL (l.take (k + 1)) = sizeL (l.take k) + (l[k].1.length + l[k].2.length) := by
  rw [List.take_succ_eq_append_getElem h, sizeL_append]; simp [sizeL]
theorem sizeS_take (l : List Fld) (k : Nat) : sizeL (l.take k) ≤ sizeL l := by
  have h : sizeL l = sizeL (l.take k) + sizeL (l.drop k) := by rw [← sizeL_append, List.take_append_drop]
  omega

set_option maxHeartbeats 2000000 in
set_option maxRecDepth 100000 in
theorem fewS_any (v : Value) (l : List Fld) (w : World) (h : FL w v l) (hs : ∀ j (hj : j < l.length), l[j].1.length ≤ 9223372036854775807 ∧ l[j].2.length ≤ 9223372036854775807) (hl : l.length ≤ 9223372036854775807) :
    Calls Tryz.prog 6 #[v] w fun e w' => e = .returned (.bool (fewS l)) ∧ Below w.heap.size w w' := by
  obtain ⟨A, c, rfl⟩ := h.form
  have HF := Lib.hid h; clear h
  by_cases h80 : 60 < l.length
  · have HR : Hid (fewS l = false) := by show _ = _; unfold fewS; rw [decide_eq_false (by omega)]; rfl
    have h80' : (60 : Int) < (l.length : Int) := by omega
    go_enter Tryz.func6, Tryz.ntmps6
    go_wp2_with fail
    go_ret
    exact ⟨ret_bool HR.out.symm, Below.refl _ _⟩
  · have h80' : ¬ (60 : Int) < (l.length : Int) := by omega
    go_enter Tryz.func6, Tryz.ntmps6
    go_wp2_with fail
    go_loopw [3, 4] (fun a i wr => ∃ (k : Nat) (L : Int), k ≤ l.length ∧ i = .int .i64 k ∧ a = .int .i64 L ∧ 0 ≤ L ∧ L ≤ 6000 ∧ L + (sizeL (l.take k) : Int) = 6000 ∧ Below w.heap.size w wr) (fun _ i _ => l.length - (intOf i).toNat)
    case atStart => exact ⟨0, 6000, Nat.zero_le _, rfl, rfl, by omega, by omega, rfl, Below.refl _ _⟩
    case round =>
      obtain ⟨k, L, hk, rfl, rfl, hL0, hL1, hsum, hb⟩ := hrel
      have HB := Lib.hid hb; have HSum := Lib.hid hsum; clear hb hsum
      by_cases hlt : k < l.length
      · have hki : (k : Int) < (l.length : Int) := by omega
        obtain ⟨b, off, rfl, hbb, hc1, hc2⟩ := (HF.out.bel HB.out).get k hlt
        obtain ⟨s1, s2⟩ := hs k hlt
        have hst := sizeS_step hlt
        have hle := sizeS_take l (k + 1)
        rw [hst] at hle
        have HST := Lib.hid hst; have HLE := Lib.hid hle; clear hst hle
        generalize l[k] = f at *
        obtain ⟨n, x⟩ := f; simp only at s1 s2 hc1 hc2
        have HST2 : Hid (sizeL (l.take (k + 1)) = sizeL (l.take k) + (n.length + x.length)) := HST.out
        have HLE2 : Hid (sizeL (l.take k) + (n.length + x.length) ≤ sizeL l) := HLE.out
        clear HST HLE
        have hsz1 : (bs n).size = n.length := bs_size n
        have hsz2 : (bs x).size = x.length := bs_size x
        have HZ1 := Lib.hid hsz1; have HZ2 := Lib.hid hsz2; clear hsz1 hsz2
        by_cases h1 : L < (n.length : Int)
        · have HR : Hid (fewS l = false) := by
            show _ = _; unfold fewS
            rw [decide_eq_false (p := sizeL l ≤ 6000) (by have := HLE2.out; have := HSum.out; omega), Bool.and_false]
          have hd : decide (L < (n.length : Int)) = true := decide_eq_true h1
          clear h1
          go_wp2_with fail
          go_quiet (fail)
          go_wp2_with fail
          go_ret
          exact ⟨ret_bool HR.out.symm, below_dn HB.out _⟩
        · have hd : decide (L < (n.length : Int)) = false := decide_eq_false h1
          have hge : (n.length : Int) ≤ L := by omega
          by_cases h2 : L - (n.length : Int) < (x.length : Int)
          · have HR : Hid (fewS l = false) := by
              show _ = _; unfold fewS
              rw [decide_eq_false (p := sizeL l ≤ 6000) (by have := HLE2.out; have := HSum.out; omega), Bool.and_false]
            have hd2 : decide (L - (n.length : Int) < (x.length : Int)) = true := decide_eq_true h2
            clear h1
            go_wp2_with fail
            go_quiet (fail)
            go_wp2_with fail
            go_ret
            exact ⟨ret_bool HR.out.symm, below_dn HB.out _⟩
          · have hd2 : decide (L - (n.length : Int) < (x.length : Int)) = false := decide_eq_false h2
            have hge2 : (x.length : Int) ≤ L - (n.length : Int) := by omega
            have HS2 : Hid (L - (n.length : Int) - (x.length : Int) + (sizeL (l.take (k + 1)) : Int) = 6000) := by have h3 := HST2.out; have h4 := HSum.out; show _ = _; omega
            clear h1 h2
            go_wp2_with fail
            go_quiet (fail)
            go_wp2_with fail
            go_quiet (fail)
            go_wp2_with fail
            go_roundw
            case rel => exact ⟨k + 1, L - (n.length : Int) - (x.length : Int), by omega, by go_num, rfl, by omega, by omega, HS2.out, below_dn HB.out _⟩
            case measure => simp [intOf]; omega
      · have HR : Hid (fewS l = true) := by
          have h3 := HSum.out
          rw [List.take_of_length_le (by omega)] at h3
          show _ = _; unfold fewS
          rw [decide_eq_true (p := l.length ≤ 60) (by omega), decide_eq_true (p := sizeL l ≤ 6000) (by omega)]; rfl
        go_wp2_with fail
        go_ret
        exact ⟨ret_bool HR.out.symm, HB.out⟩

theorem FwS.fe {l : List Fld} (h : FwS l) : Fe l := ⟨by have := h.len; omega, fun f hf => by
  have := sizeS_mem hf
  have := h.size
  omega⟩
/-! ### of: fields of names and values -/
set_option maxHeartbeats 2000000 in
set_option maxRecDepth 100000 in
theorem sof16_any (v : Value) (l : List Fld) (w : World) (h : SL w v (flatN l)) (hl : l.length ≤ 64) :
    Calls Tryz.prog 15 #[v] w (RetF w l) := by
  obtain ⟨A, c, rfl⟩ := h.form
  have HW := Lib.hid h; clear h
  have hfl := flatN_len l
  have HFL := Lib.hid hfl; clear hfl
  go_enter Tryz.func15, Tryz.ntmps15
  go_wp2_with fail
  go_loopw [3, 4] (fun o i wr => ∃ k : Nat, k ≤ l.length ∧ i = .int .i64 (2 * (k : Int)) ∧ ownF wr w.heap.size o (l.take k) ∧ Below w.heap.size w wr) (fun _ i _ => 2 * l.length - (intOf i).toNat)
  case atStart => exact ⟨0, Nat.zero_le _, rfl, ownF_nil _ _, Below.refl _ _⟩
  case round =>
    obtain ⟨k, hk, rfl, ho, hb⟩ := hrel
    have HO := Lib.hid ho; have HB := Lib.hid hb; clear ho hb
    by_cases hlt : k < l.length
    · have hi3 : (2 : Int) * (k : Int) + 1 < ((flatN l).length : Int) := by have := HFL.out; omega
      obtain ⟨f1, f2⟩ := flatN_at l k hlt
      obtain ⟨b, off, rfl, hbb, hd1⟩ := HW.out.at2 f1
      obtain ⟨b', o', he, _, hd2⟩ := HW.out.at2 f2
      obtain ⟨rfl, rfl⟩ : b = b' ∧ off = o' := by simpa using he
      clear he f1 f2
      have HT : Hid (l.take (k + 1) = l.take k ++ [l[k]]) := List.take_succ_eq_append_getElem hlt
      have HLN : Hid ((l.take k).length + 1 ≤ 4294967296) := by have : (l.take k).length ≤ l.length := List.length_take_le' _ _; show _ ≤ _; omega
      have hc1 := (HB.out.cell (p := ⟨b, off + 2 * k, none⟩) hbb).trans hd1
      have hc2 := (HB.out.cell (p := ⟨b, off + (2 * k + 1), none⟩) hbb).trans hd2
      generalize l.take k = acc at *
      obtain ⟨Ao, co, rfl⟩ := HO.out.form
      generalize l[k] = f at *
      obtain ⟨x, y⟩ := f; simp only at hc1 hc2 hd1 hd2
      have HD1 := Lib.hid hd1; have HD2 := Lib.hid hd2; have HBB := Lib.hid hbb
      clear hd1 hd2 hbb
      have hi1 : (2 : Int) * (k : Int) < ((flatN l).length : Int) := by omega
      have hj2 : 2 * k < (flatN l).length := by omega
      have hj3 : 2 * k + 1 < (flatN l).length := by omega
      go_wp2_with fail
      clear hc1 hc2
      have hw2 : IntKind.i64.wrap (2 * (k : Int) + 1) = 2 * (k : Int) + 1 := by rw [IntKind.wrap_i64]; omega
      have hb1 : (0 : Int) ≤ 2 * (k : Int) := by omega
      have hb2 : (0 : Int) ≤ 2 * (k : Int) + 1 := by omega
      have ht1 : (2 * (k : Int)).toNat = 2 * k := by omega
      have ht2 : (2 * (k : Int) + 1).toNat = 2 * k + 1 := by omega
      have hS : Below w.heap.size w wr.drew := HB.out.drew
      refine wp_region_growS (.one 0 false (.one 1 false (.one 2 false (.one 3 false (.one 4 false (.one 5 false (.one 6 false (.one 7 false (.one 8 false (.one 9 false (.one 10 false (.one 11 true (.one 12 true (.one 13 false .done))))))))))))))
        (fun W => Below w.heap.size w W) (by kernel_rfl) (by kernel_rfl) rfl (by kernel_rfl) (by kernel_rfl) hS (fun ops hops => ?_)
      simp only [GT.ins, List.getD_cons_zero, List.getD_cons_succ]
      clear hops
      iterate 11
        refine growS_take (by rfl) ?_
        apply Exists.intro
        refine ⟨fun w' hE => ?_, ?_⟩
        · have q1 := (hE.cell (p := ⟨b, off + 2 * k, none⟩) HBB.out).trans HD1.out; have q2 := (hE.cell (p := ⟨b, off + (2 * k + 1), none⟩) HBB.out).trans HD2.out
          go_simp
          try with_reducible rfl
        simp only [Act.put, List.setIfInBounds_toArray, List.set_cons_zero, List.set_cons_succ]
      refine growS_call (by rfl) (fun K hK => ?_)
      go_simp
      have hd : Below wr.heap.size wr (wr.alloc (.cells #[.string (bs x), .string (bs y)] 34)).drew := ((Below.refl _ _).alloc (Nat.le_refl _) _).drew
      have hn : FL (wr.alloc (.cells #[.string (bs x), .string (bs y)] 34)).drew (.slice (some ⟨wr.heap.size, 0, none⟩) 1 1) [(x, y)] := (FL_lit wr (x, y)).bel ((Below.refl _ _).drew)
      have ho5 := HO.out.bel hd
      have hb5 := HB.out.trans (hd.mono HB.out.size)
      refine hK.out _ _ hb5 ?_
      clear hK K
      generalize (wr.alloc (.cells #[.string (bs x), .string (bs y)] 34)).drew = w5 at *
      have HN := Lib.hid hn; have HO5 := Lib.hid ho5; have HB5 := Lib.hid hb5; clear hn ho5 hb5 hd
      refine growS_call (by rfl) (fun K hK => ?_)
      refine wp_appFF (.tmp 12) (.tmp 23) rfl w.heap.size w.heap.size _ _ acc [(x, y)] rfl HO5.out HB5.out (Nat.le_refl _) HB5.out.size rfl HN.out HLN.out ?_
      intro v6 w6 HO6 HB6 _ _
      refine hK.out _ _ HB6.out ?_
      clear hK K
      iterate 1
        refine growS_take (by rfl) ?_
        apply Exists.intro
        refine ⟨fun w' hE => ?_, ?_⟩
        · have q1 := (hE.cell (p := ⟨b, off + 2 * k, none⟩) HBB.out).trans HD1.out; have q2 := (hE.cell (p := ⟨b, off + (2 * k + 1), none⟩) HBB.out).trans HD2.out
          go_simp
          try with_reducible rfl
        simp only [Act.put, List.setIfInBounds_toArray, List.set_cons_zero, List.set_cons_succ]
      refine growS_done (NoPanic.normal ?_)
      clear hw2 hb1 hb2 ht1 ht2
      go_wp2_with fail
      go_roundw
      case rel => exact ⟨k + 1, by omega, by go_num, by rw [HT.out]; exact HO6.out, HB6.out⟩
      case measure => simp [intOf]; omega
    · have hi3 : ¬ (2 : Int) * (k : Int) + 1 < ((flatN l).length : Int) := by have := HFL.out; omega
      have HT : Hid (l.take k = l) := List.take_of_length_le (by omega)
      go_wp2_with fail
      go_ret
      exact ⟨_, rfl, by rw [← HT.out]; exact HO.out, HB.out⟩

theorem SL_litsS (w : World) (X : List (List UInt8)) : SL (w.alloc (.cells (X.map fun x => Value.string (bs x)).toArray 9)) (.slice (some ⟨w.heap.size, 0, none⟩) X.length X.length) X := by
  refine .inr ⟨w.heap.size, 0, X.length, rfl, by simp, fun j hj => ?_⟩
  refine (cell_of_row _ _ _ _ _ _ (heap_alloc_new w _)).trans ?_
  simp [hj]


/-! ### may -/
theorem ny100 : ∃ m d h i s, IsT (clampI 100) 1970 m d h i s := ⟨0, 1, 0, 1, 40, by unfold IsT IsD clampI; decide⟩
/-- of status 200, asked for by GET without fields -/
def mayL (l : List Fld) : Bool := stoB getM 200 [] l 1970 100 [100]
theorem Fe.none : Fe [] := ⟨by decide, fun f hf => by cases hf⟩
set_option maxRecDepth 100000 in
set_option maxHeartbeats 2000000 in
theorem may16_any {v : Value} {fs : List Fld} (w : World) (h : SL w v (flatN fs)) (hl : fs.length ≤ 64) (hs : Fe fs) (hm : MaxD w) (ht : Tabs w) :
    Calls Tryz.prog 13 #[v] w fun e w' => e = .returned (.bool (mayL fs)) ∧ Below w.heap.size w w' := by
  have hof := sof16_any v fs w h hl
  unfold RetF at hof
  have hma := fun W u (hb : Below w.heap.size w W) (hu : FL W u fs) => smay_any (st := 200) (mi := 0) (asked := 100) (got := 100) (Y := 1970) (re := ⟨#[]⟩) (bo := ⟨#[]⟩) (vA := none) (vn := 0) (vc := 0) getM [100] (vq := .slice none 0 0) (q := []) W (FL_nil W) Fe.none
    ⟨hu, hs, hm.bel hb, ht.below hb, ny100, by decide, by decide, by decide, by decide⟩
  have hml : stoB getM 200 [] fs 1970 100 [100] = mayL fs := rfl
  rw [hml] at hma
  obtain ⟨vA, vk, rfl⟩ := h.form
  generalize mayL fs = x at *
  have HO := Lib.hid hof; have HM := Lib.hid hma
  clear hof hma hm ht hs h hml
  go_enter Tryz.func13, Tryz.ntmps13
  go_wp2_with fail
  refine HO.out.mono ?_
  rintro e w1 ⟨u, rfl, ho, hb⟩
  have HL := Lib.hid ho.fl; have HB := Lib.hid hb
  obtain ⟨uA, uk, rfl⟩ := ho.fl.form
  clear ho hb HO
  go_wp2_with fail
  refine (HM.out _ _ HB.out HL.out).mono ?_
  rintro e w2 ⟨rfl, hb⟩
  have HB2 := Lib.hid (HB.out.trans (hb.mono HB.out.size))
  clear hb HM HB HL
  go_wp2_with fail
  go_ret
  exact ⟨rfl, HB2.out⟩
theorem may_lit (fs : List Fld) (r : Bool) (W : World) (hl : fs.length ≤ 64) (hr : mayL fs = r) (hs : Fe fs) (hm : MaxD W) (ht : Tabs W) :
    Calls Tryz.prog 13 #[.slice (some ⟨W.heap.size, 0, none⟩) (flatN fs).length (flatN fs).length] (W.alloc (.cells ((flatN fs).map fun x => Value.string (bs x)).toArray 9)) fun e w' => e = .returned (.bool r) ∧ Below W.heap.size W w' := by
  have hal : Below W.heap.size W (W.alloc (.cells ((flatN fs).map fun x => Value.string (bs x)).toArray 9)) := (Below.refl _ _).alloc (Nat.le_refl _) _
  have h := may16_any _ (SL_litsS W (flatN fs)) hl hs (hm.bel hal) (ht.below hal)
  rw [hr] at h
  refine h.mono ?_
  rintro e w' ⟨rfl, hb⟩
  exact ⟨rfl, hal.trans (hb.mono hal.size)⟩
theorem may_nil (r : Bool) (W : World) (hr : mayL [] = r) (hm : MaxD W) (ht : Tabs W) :
    Calls Tryz.prog 13 #[.slice none 0 0] W fun e w' => e = .returned (.bool r) ∧ Below W.heap.size W w' := by
  have h := may16_any (fs := []) W (SL_nil W) (by decide) Fe.none hm ht
  rwa [hr] at h
instance (l : List Fld) : Decidable (Fe l) := inferInstanceAs (Decidable (_ ∧ _))
set_option maxRecDepth 100000 in
theorem wo1 (W : World) (hm : MaxD W) (ht : Tabs W) : Calls Tryz.prog 13 #[.slice (some ⟨W.heap.size, 0, none⟩) 2 2] (W.alloc (.cells #[.string ⟨#[99, 97, 99, 104, 101, 45, 99, 111, 110, 116, 114, 111, 108]⟩, .string ⟨#[109, 97, 120, 45, 97, 103, 101, 61, 53]⟩] 9)) fun e w' => e = .returned (.bool true) ∧ Below W.heap.size W w' :=
  may_lit [([99, 97, 99, 104, 101, 45, 99, 111, 110, 116, 114, 111, 108], [109, 97, 120, 45, 97, 103, 101, 61, 53])] true W (by decide) (by kernel_rfl) (by decide) hm ht
set_option maxRecDepth 100000 in
theorem wo2 (W : World) (hm : MaxD W) (ht : Tabs W) : Calls Tryz.prog 13 #[.slice (some ⟨W.heap.size, 0, none⟩) 2 2] (W.alloc (.cells #[.string ⟨#[99, 97, 99, 104, 101, 45, 99, 111, 110, 116, 114, 111, 108]⟩, .string ⟨#[109, 97, 120, 45, 97, 103, 101, 61, 53, 44, 32, 110, 111, 45, 115, 116, 111, 114, 101]⟩] 9)) fun e w' => e = .returned (.bool false) ∧ Below W.heap.size W w' :=
  may_lit [([99, 97, 99, 104, 101, 45, 99, 111, 110, 116, 114, 111, 108], [109, 97, 120, 45, 97, 103, 101, 61, 53, 44, 32, 110, 111, 45, 115, 116, 111, 114, 101])] false W (by decide) (by kernel_rfl) (by decide) hm ht
set_option maxRecDepth 100000 in
set_option maxHeartbeats 2000000 in
theorem sworks_any (w : World) (hm : MaxD w) (ht : Tabs w) : Calls Tryz.prog 7 #[] w fun e w' => e = .returned (.bool true) ∧ Below w.heap.size w w' := by
  have g0 := fun W (hb : Below w.heap.size w W) => wo1 W (hm.bel hb) (ht.below hb)
  have g1 := fun W (hb : Below w.heap.size w W) => wo2 W (hm.bel hb) (ht.below hb)
  have g2 := fun W (hb : Below w.heap.size w W) => may_nil false W (by kernel_rfl) (hm.bel hb) (ht.below hb)
  have G0 := Lib.hid g0; have G1 := Lib.hid g1; have G2 := Lib.hid g2
  clear g0 g1 g2 hm ht
  go_enter Tryz.func7, Tryz.ntmps7
  go_wp2_with fail
  refine (G0.out _ (Below.refl _ _)).mono ?_
  rintro e w1 ⟨rfl, hb⟩
  have HB1 := Lib.hid hb; clear hb
  go_wp2_with fail
  refine (G1.out _ HB1.out).mono ?_
  rintro e w2 ⟨rfl, hb⟩
  have HB2 := Lib.hid (HB1.out.trans (hb.mono HB1.out.size)); clear hb
  go_wp2_with fail
  refine (G2.out _ HB2.out).mono ?_
  rintro e w3 ⟨rfl, hb⟩
  have HB3 := Lib.hid (HB2.out.trans (hb.mono HB2.out.size)); clear hb
  go_wp2_with fail
  go_ret
  exact ⟨rfl, HB3.out⟩
end Go.Proofs.YtfobjaccpnondaaGreatDoor
