/- What the statements of stage 15 ask of lists, and what they make: few, of, names, matches, awake. -/
import Derived.Test.YtmlgmpjbjbjaoaaVaryE
namespace Go.Proofs.Ytmlgmpjbjbjaoaa
open Go.RowKit

def fewV (l : List Fld) : Bool := (l.take 50).all (fun f => decide (f.1.length + f.2.length ≤ 1000)) && decide (l.length ≤ 40)
theorem fewV_small {l : List Fld} (h : fewV l = true) : l.length ≤ 40 ∧ ∀ f ∈ l, f.1.length ≤ 1000 ∧ f.2.length ≤ 1000 := by
  unfold fewV at h
  simp only [Bool.and_eq_true, decide_eq_true_eq, List.all_eq_true] at h
  refine ⟨h.2, fun x hx => ?_⟩
  rw [List.take_of_length_le (by omega)] at h
  have := h.1 x hx
  omega
theorem fewV_vf {l : List Fld} (h : fewV l = true) : VfB l := by
  obtain ⟨a, b⟩ := fewV_small h
  exact ⟨by omega, fun f hf => by have := b f hf; omega⟩
set_option maxRecDepth 100000 in
set_option maxHeartbeats 2000000 in
theorem fewV_any (v : Value) (l : List Fld) (w : World) (hv : FL w v l) (hs : ∀ j (hj : j < l.length), l[j].1.length ≤ 140737488351232 ∧ l[j].2.length ≤ 140737488351232) (hl : l.length ≤ 9223372036854775807) :
    Calls Try.prog 8 #[v] w fun e w' => e = .returned (.bool (fewV l)) ∧ Below w.heap.size w w' := by
  obtain ⟨A, cf, rfl⟩ := hv.form
  have HV := Lib.hid hv
  clear hv
  go_enter Try.func8, Try.ntmps8
  go_wp2_with fail
  go_loopw [3] (fun i wr => ∃ k : Nat, k ≤ l.length ∧ k ≤ 50 ∧ i = .int .i64 k ∧ Hid (Below w.heap.size w wr) ∧ (l.take k).all (fun f => decide (f.1.length + f.2.length ≤ 1000)) = true) (fun i _ => l.length - (intOf i).toNat)
  case atStart => exact ⟨0, Nat.zero_le _, Nat.zero_le _, rfl, Below.refl _ _, rfl⟩
  case round =>
    obtain ⟨k, hk, hk3, rfl, HB, ha⟩ := hrel
    have HA := Lib.hid ha; clear ha
    by_cases hlt : k < l.length
    · by_cases h30 : k < 50
      · have hki : (k : Int) < (l.length : Int) := by omega
        obtain ⟨b, off, rfl, hbl, c0, c1⟩ := (HV.out.bel HB.out).get k hlt
        obtain ⟨z0, z1⟩ := hs k hlt
        have hst : l.take (k + 1) = l.take k ++ [l[k]] := List.take_succ_eq_append_getElem hlt
        have hin : l[k] ∈ l.take 50 := by
          rw [List.mem_take_iff_getElem]
          exact ⟨k, by omega, rfl⟩
        have hno : ¬ (l[k].1.length + l[k].2.length ≤ 1000) → fewV l = false := by
          intro h
          unfold fewV
          rw [Bool.and_eq_false_iff]
          left
          rw [List.all_eq_false]
          exact ⟨l[k], hin, by simpa using h⟩
        have hyes : l[k].1.length + l[k].2.length ≤ 1000 → (l.take (k + 1)).all (fun f => decide (f.1.length + f.2.length ≤ 1000)) = true := by
          intro h1
          rw [hst, List.all_append, HA.out]
          simp [h1]
        generalize l[k] = f at *
        obtain ⟨n, x⟩ := f
        simp only at hno hyes c0 c1 z0 z1
        clear hst hin
        have hw : IntKind.i64.wrap ((n.length : Int) + (x.length : Int)) = (n.length : Int) + (x.length : Int) := IntWalk.i64_in _ (by omega)
        by_cases hb1 : 1000 < n.length + x.length
        · have HNO := Lib.hid (hno (by omega))
          have hd : (1000 : Int) < (n.length : Int) + (x.length : Int) := by omega
          clear hno hyes hb1
          go_wp2_with fail
          go_quiet (fail)
          go_wp2_with fail
          go_ret
          exact ⟨ret_bool HNO.out.symm, below_dn HB.out _⟩
        · have hd : ¬ (1000 : Int) < (n.length : Int) + (x.length : Int) := by omega
          have HS2 := Lib.hid (hyes (by omega))
          clear hno hyes hb1
          go_wp2_with fail
          go_quiet (fail)
          go_wp2_with fail
          go_roundw
          case rel => exact ⟨k + 1, by omega, by omega, by go_num, below_dn HB.out _, HS2.out⟩
          case measure => simp [intOf]; omega
      · have hE : fewV l = false := by
          unfold fewV
          rw [Bool.and_eq_false_iff]
          right
          exact decide_eq_false (by omega)
        have HE := Lib.hid hE; clear hE
        have hd : ¬ (k : Int) < 50 := by omega
        have hbig : ¬ (l.length : Int) ≤ 40 := by omega
        go_wp2_with fail
        go_ret
        exact ⟨ret_bool HE.out.symm, HB.out⟩
    · have hE : fewV l = decide ((l.length : Int) ≤ 40) := by
        unfold fewV
        have h := HA.out
        rw [List.take_of_length_le (by omega)] at h
        rw [List.take_of_length_le (by omega), h, Bool.true_and]
        congr 1
        simp; omega
      have HE := Lib.hid hE; clear hE
      by_cases h12 : (l.length : Int) ≤ 40
      · go_wp2_with fail
        go_ret
        exact ⟨ret_bool (by rw [HE.out]; simp [h12]), HB.out⟩
      · go_wp2_with fail
        go_ret
        exact ⟨ret_bool (by rw [HE.out]; simp [h12]), HB.out⟩

/-! ### of: fields of names and values -/
set_option maxHeartbeats 2000000 in
set_option maxRecDepth 100000 in
theorem vof_any (v : Value) (l : List Fld) (w : World) (h : SL w v (flatN l)) (hl : l.length ≤ 64) :
    Calls Try.prog 19 #[v] w (RetF w l) := by
  obtain ⟨A, c, rfl⟩ := h.form
  have HW := Lib.hid h; clear h
  have hfl := flatN_len l
  have HFL := Lib.hid hfl; clear hfl
  go_enter Try.func19, Try.ntmps19
  go_wp2_with fail
  go_loopw [3, 4] (fun o i wr => ∃ k : Nat, k ≤ l.length ∧ i = .int .i64 (2 * (k : Int)) ∧ ownF wr w.heap.size o (l.take k) ∧ Below w.heap.size w wr) (fun _ i _ => 2 * l.length - (intOf i).toNat)
  case atStart => exact ⟨0, Nat.zero_le _, rfl, ownF_nil _ _, Below.refl _ _⟩
  case round =>
    obtain ⟨k, hk, rfl, ho, hb⟩ := hrel
    have HO := Lib.hid ho; have HB := Lib.hid hb; clear ho hb
    by_cases hlt : k < l.length
    · have hi3 : (2 : Int) * (k : Int) + 1 < ((flatN l).length : Int) := by have := HFL.out; omega
      obtain ⟨f1, f2⟩ := flatN_at l k hlt
      obtain ⟨b, off, rfl, hbb, hd1⟩ := HW.out.at2 f1
      obtain ⟨b', o', he, _, hd2⟩ := HW.out.at2 f2
      obtain ⟨rfl, rfl⟩ : b = b' ∧ off = o' := by simpa using he
      clear he f1 f2
      have HT : Hid (l.take (k + 1) = l.take k ++ [l[k]]) := List.take_succ_eq_append_getElem hlt
      have HLN : Hid ((l.take k).length + 1 ≤ 4294967296) := by have : (l.take k).length ≤ l.length := List.length_take_le' _ _; show _ ≤ _; omega
      have hc1 := (HB.out.cell (p := ⟨b, off + 2 * k, none⟩) hbb).trans hd1
      have hc2 := (HB.out.cell (p := ⟨b, off + (2 * k + 1), none⟩) hbb).trans hd2
      generalize l.take k = acc at *
      obtain ⟨Ao, co, rfl⟩ := HO.out.form
      generalize l[k] = f at *
      obtain ⟨x, y⟩ := f; simp only at hc1 hc2 hd1 hd2
      have HD1 := Lib.hid hd1; have HD2 := Lib.hid hd2; have HBB := Lib.hid hbb
      clear hd1 hd2 hbb
      have hi1 : (2 : Int) * (k : Int) < ((flatN l).length : Int) := by omega
      have hj2 : 2 * k < (flatN l).length := by omega
      have hj3 : 2 * k + 1 < (flatN l).length := by omega
      go_wp2_with fail
      clear hc1 hc2
      have hw2 : IntKind.i64.wrap (2 * (k : Int) + 1) = 2 * (k : Int) + 1 := by rw [IntKind.wrap_i64]; omega
      have hb1 : (0 : Int) ≤ 2 * (k : Int) := by omega
      have hb2 : (0 : Int) ≤ 2 * (k : Int) + 1 := by omega
      have ht1 : (2 * (k : Int)).toNat = 2 * k := by omega
      have ht2 : (2 * (k : Int) + 1).toNat = 2 * k + 1 := by omega
      have hS : Below w.heap.size w wr.drew := HB.out.drew
      refine wp_region_growS (.one 0 false (.one 1 false (.one 2 false (.one 3 false (.one 4 false (.one 5 false (.one 6 false (.one 7 false (.one 8 false (.one 9 false (.one 10 false (.one 11 true (.one 12 true (.one 13 false .done))))))))))))))
        (fun W => Below w.heap.size w W) (by kernel_rfl) (by kernel_rfl) rfl (by kernel_rfl) (by kernel_rfl) hS (fun ops hops => ?_)
      simp only [GT.ins, List.getD_cons_zero, List.getD_cons_succ]
      clear hops
      iterate 11
        refine growS_take (by rfl) ?_
        apply Exists.intro
        refine ⟨fun w' hE => ?_, ?_⟩
        · have q1 := (hE.cell (p := ⟨b, off + 2 * k, none⟩) HBB.out).trans HD1.out; have q2 := (hE.cell (p := ⟨b, off + (2 * k + 1), none⟩) HBB.out).trans HD2.out
          go_simp
          try with_reducible rfl
        simp only [Act.put, List.setIfInBounds_toArray, List.set_cons_zero, List.set_cons_succ]
      refine growS_call (by rfl) (fun K hK => ?_)
      go_simp
      have hd : Below wr.heap.size wr (wr.alloc (.cells #[.string (bs x), .string (bs y)] 41)).drew := ((Below.refl _ _).alloc (Nat.le_refl _) _).drew
      have hn : FL (wr.alloc (.cells #[.string (bs x), .string (bs y)] 41)).drew (.slice (some ⟨wr.heap.size, 0, none⟩) 1 1) [(x, y)] := (FL_lit wr (x, y)).bel ((Below.refl _ _).drew)
      have ho5 := HO.out.bel hd
      have hb5 := HB.out.trans (hd.mono HB.out.size)
      refine hK.out _ _ hb5 ?_
      clear hK K
      generalize (wr.alloc (.cells #[.string (bs x), .string (bs y)] 41)).drew = w5 at *
      have HN := Lib.hid hn; have HO5 := Lib.hid ho5; have HB5 := Lib.hid hb5; clear hn ho5 hb5 hd
      refine growS_call (by rfl) (fun K hK => ?_)
      refine wp_appFF (.tmp 12) (.tmp 23) rfl w.heap.size w.heap.size _ _ acc [(x, y)] rfl HO5.out HB5.out (Nat.le_refl _) HB5.out.size rfl HN.out HLN.out ?_
      intro v6 w6 HO6 HB6 _ _
      refine hK.out _ _ HB6.out ?_
      clear hK K
      iterate 1
        refine growS_take (by rfl) ?_
        apply Exists.intro
        refine ⟨fun w' hE => ?_, ?_⟩
        · have q1 := (hE.cell (p := ⟨b, off + 2 * k, none⟩) HBB.out).trans HD1.out; have q2 := (hE.cell (p := ⟨b, off + (2 * k + 1), none⟩) HBB.out).trans HD2.out
          go_simp
          try with_reducible rfl
        simp only [Act.put, List.setIfInBounds_toArray, List.set_cons_zero, List.set_cons_succ]
      refine growS_done (NoPanic.normal ?_)
      clear hw2 hb1 hb2 ht1 ht2
      go_wp2_with fail
      go_roundw
      case rel => exact ⟨k + 1, by omega, by go_num, by rw [HT.out]; exact HO6.out, HB6.out⟩
      case measure => simp [intOf]; omega
    · have hi3 : ¬ (2 : Int) * (k : Int) + 1 < ((flatN l).length : Int) := by have := HFL.out; omega
      have HT : Hid (l.take k = l) := List.take_of_length_le (by omega)
      go_wp2_with fail
      go_ret
      exact ⟨_, rfl, by rw [← HT.out]; exact HO.out, HB.out⟩

theorem SL_litsV (w : World) (X : List (List UInt8)) : SL (w.alloc (.cells (X.map fun x => Value.string (bs x)).toArray 9)) (.slice (some ⟨w.heap.size, 0, none⟩) X.length X.length) X := by
  refine .inr ⟨w.heap.size, 0, X.length, rfl, by simp, fun j hj => ?_⟩
  refine (cell_of_row _ _ _ _ _ _ (heap_alloc_new w _)).trans ?_
  simp [hj]

/-! ### names, matches -/
/-- the names of a reply as one text -/
def namesT (fs : List Fld) : List UInt8 := if allB (valsL fs varyN) then [97, 108, 108] else Lib.join (namesA (valsL fs varyN)) [32]
theorem namesA_len {vs : List (List UInt8)} (h : vs.length ≤ 1000) : (namesA vs).length ≤ 64000 := by
  unfold namesA namesOf
  split
  · simp
  · have := foldV_len vs []
    simp only [List.length_nil] at this
    omega
theorem foldV_size : ∀ (vs : List (List UInt8)) {a : List (List UInt8)}, (∀ y ∈ a, y.length ≤ 65536) → (∀ v ∈ vs, v.length ≤ 65536) → ∀ y ∈ vs.foldl putV a, y.length ≤ 65536
  | [], _, ha, _ => ha
  | v :: r, _, ha, h => foldV_size r (foldN_size _ ha fun x hx => Nat.le_trans (splitL_mem hx) (h v (by simp))) fun z hz => h z (by simp [hz])
theorem namesA_size {vs : List (List UInt8)} (h : ∀ v ∈ vs, v.length ≤ 65536) : ∀ y ∈ namesA vs, y.length ≤ 65536 := by
  unfold namesA namesOf
  split
  · simp
  · exact foldV_size vs (by simp) h
theorem flat_le {L : List (List UInt8)} {B : Nat} (h : ∀ y ∈ L, y.length ≤ B) : L.flatten.length ≤ B * L.length := by
  induction L with
  | nil => simp
  | cons x r ih =>
    have h1 := h x (by simp)
    have h2 := ih fun y hy => h y (by simp [hy])
    simp only [List.flatten_cons, List.length_append, List.length_cons, Nat.mul_add, Nat.mul_one]
    omega

set_option maxRecDepth 100000 in
set_option maxHeartbeats 2000000 in
theorem names_any {v : Value} {fs : List Fld} (w : World) (h : SL w v (flatN fs)) (hl : fs.length ≤ 64) (hs : VfB fs) :
    Calls Try.prog 18 #[v] w fun e w' => e = .returned (.string (bs (namesT fs))) ∧ Below w.heap.size w w' := by
  have HO := Lib.hid (vof_any v fs w h hl)
  have HN := Lib.hid fun u W (hu : FL W u fs) => vnames_any (st := 0) (mi := 0) (re := ⟨#[]⟩) (bo := ⟨#[]⟩) W hu hs
  obtain ⟨A, c, rfl⟩ := h.form
  obtain ⟨hv1, hv2⟩ := hs.vals varyN
  have hdf : namesT fs = if allB (valsL fs varyN) then [97, 108, 108] else Lib.join (namesA (valsL fs varyN)) [32] := rfl
  have hnl := namesA_len hv1
  have hjl : (Lib.join (namesA (valsL fs varyN)) [32]).length ≤ 140737488355328 := by
    have h1 := flat_le (namesA_size hv2)
    have h2 := inter_len 32 (namesA (valsL fs varyN))
    omega
  have HDF := Lib.hid hdf; have HNL := Lib.hid hnl; have HJL := Lib.hid hjl
  clear h hs hv1 hv2 hdf hnl hjl
  generalize namesT fs = Z at *
  generalize valsL fs varyN = N at *
  unfold RetN at HN
  cases ha : allB N
  · rw [ha] at HN HDF
    simp only [Bool.false_eq_true, if_false, Bool.not_false] at HN HDF
    clear ha
    generalize namesA N = L at *
    go_enter Try.func18, Try.ntmps18
    go_wp2_with fail
    refine HO.out.mono ?_
    rintro e w1 ⟨u, rfl, ho, hb⟩
    have HU := Lib.hid ho.fl; have HB1 := Lib.hid hb; obtain ⟨A1, c1, rfl⟩ := ho.form; clear ho hb
    go_wp2_with fail
    refine (HN.out _ _ HU.out).mono ?_
    rintro e w2 ⟨u2, rfl, ho, hb⟩
    have HB2 := Lib.hid (HB1.out.trans (hb.mono HB1.out.size))
    have HJ := Lib.hid (join_any _ _ _ ⟨#[32]⟩ w2 ho (by have := HNL.out; omega) HJL.out)
    obtain ⟨A2, c2, rfl⟩ := ho.form
    clear ho hb
    go_wp2_with (go_at_call 25; refine HJ.out.mono ?_; rintro e w3 ⟨rfl, hb3⟩; have HB3 := Lib.hid (HB2.out.trans (hb3.mono HB2.out.size)); clear hb3)
    go_ret
    exact ⟨ret_str (by rw [HDF.out]), HB3.out⟩
  · rw [ha] at HN HDF
    simp only [if_true, Bool.not_true] at HN HDF
    clear ha HJL
    generalize namesA N = L at *
    go_enter Try.func18, Try.ntmps18
    go_wp2_with fail
    refine HO.out.mono ?_
    rintro e w1 ⟨u, rfl, ho, hb⟩
    have HU := Lib.hid ho.fl; have HB1 := Lib.hid hb; obtain ⟨A1, c1, rfl⟩ := ho.form; clear ho hb
    go_wp2_with fail
    refine (HN.out _ _ HU.out).mono ?_
    rintro e w2 ⟨u2, rfl, ho, hb⟩
    have HB2 := Lib.hid (HB1.out.trans (hb.mono HB1.out.size))
    obtain ⟨A2, c2, rfl⟩ := ho.form
    clear ho hb
    go_wp2_with fail
    go_ret
    exact ⟨ret_str (by rw [HDF.out]; rfl), HB2.out⟩

def acceptN : List UInt8 := [97, 99, 99, 101, 112, 116]
set_option maxRecDepth 100000 in
set_option maxHeartbeats 2000000 in
theorem matches_any {v : Value} {fs : List Fld} (x : List UInt8) (w : World) (h : SL w v (flatN fs)) (hl : fs.length ≤ 64) (hs : VfB fs) (hx : x.length ≤ 65536) :
    Calls Try.prog 20 #[.string (bs x), v] w fun e w' => e = .returned (.bool (matchB [(acceptN, x)] fs)) ∧ Below w.heap.size w w' := by
  have HX : Hid (Below w.heap.size w (w.alloc (.cells #[.string ⟨#[97, 99, 99, 101, 112, 116]⟩, .string (bs x)] 9))) := (Below.refl _ _).alloc (Nat.le_refl _) _
  have HO1 : Hid (Calls Try.prog 19 #[.slice (some ⟨w.heap.size, 0, none⟩) 2 2] (w.alloc (.cells #[.string ⟨#[97, 99, 99, 101, 112, 116]⟩, .string (bs x)] 9)) (RetF (w.alloc (.cells #[.string ⟨#[97, 99, 99, 101, 112, 116]⟩, .string (bs x)] 9)) [(acceptN, x)])) :=
    vof_any _ [(acceptN, x)] _ (SL_litsV w [acceptN, x]) (by simp)
  have HO2 := Lib.hid fun W (hb : Below w.heap.size w W) => vof_any v fs W (h.bel hb) hl
  have HM := Lib.hid fun u1 u2 W (h1 : FL W u1 [(acceptN, x)]) (h2 : FL W u2 fs) => vmatches_any (a0 := .int .i64 0) (a1 := .string ⟨#[]⟩) (a2 := .int .i64 0) (a3 := .slice none 0 0) (a4 := .string ⟨#[]⟩) (a5 := .int .i64 0) (a6 := .int .i64 0) W h1 h2 hs (fun j hj => by
    obtain rfl : j = 0 := by simpa using hj
    exact ⟨by show 6 ≤ _; omega, by show x.length ≤ _; omega⟩) (by simp)
  obtain ⟨A, c, rfl⟩ := h.form
  clear h hs hx
  generalize matchB [(acceptN, x)] fs = Z at *
  go_enter Try.func20, Try.ntmps20
  go_wp2_with fail
  refine HO1.out.mono ?_
  rintro e w1 ⟨u1, rfl, ho, hb⟩
  have HB1 := Lib.hid (HX.out.trans (hb.mono HX.out.size)); have HU1 := Lib.hid ho.fl
  obtain ⟨A1, c1, rfl⟩ := ho.form
  clear ho hb
  go_wp2_with fail
  refine (HO2.out _ HB1.out).mono ?_
  rintro e w2 ⟨u2, rfl, ho, hb⟩
  have HB2 := Lib.hid (HB1.out.trans (hb.mono HB1.out.size)); have HU2 := Lib.hid ho.fl; have HU3 := Lib.hid (HU1.out.bel hb)
  obtain ⟨A2, c2, rfl⟩ := ho.form
  clear ho hb HU1
  go_wp2_with fail
  refine (HM.out _ _ _ HU3.out HU2.out).mono ?_
  rintro e w3 ⟨rfl, hb⟩
  have HB3 := Lib.hid (HB2.out.trans (hb.mono HB2.out.size)); clear hb
  go_wp2_with fail
  go_ret
  exact ⟨rfl, HB3.out⟩

instance (l : List Fld) : Decidable (VfB l) := inferInstanceAs (Decidable (_ ∧ _))
theorem names_lit (fs : List Fld) (r : List UInt8) (W : World) (hl : fs.length ≤ 64) (hr : namesT fs = r) (hs : VfB fs) :
    Calls Try.prog 18 #[.slice (some ⟨W.heap.size, 0, none⟩) (flatN fs).length (flatN fs).length] (W.alloc (.cells ((flatN fs).map fun x => Value.string (bs x)).toArray 9)) fun e w' => e = .returned (.string (bs r)) ∧ Below W.heap.size W w' := by
  have hal : Below W.heap.size W (W.alloc (.cells ((flatN fs).map fun x => Value.string (bs x)).toArray 9)) := (Below.refl _ _).alloc (Nat.le_refl _) _
  have h := names_any _ (SL_litsV W (flatN fs)) hl hs
  rw [hr] at h
  refine h.mono ?_
  rintro e w' ⟨rfl, hb⟩
  exact ⟨rfl, hal.trans (hb.mono hal.size)⟩
theorem names_nil (W : World) : Calls Try.prog 18 #[.slice none 0 0] W fun e w' => e = .returned (.string ⟨#[]⟩) ∧ Below W.heap.size W w' := names_any (fs := []) W (SL_nil W) (by decide) (by decide)
theorem matches_lit (x : List UInt8) (fs : List Fld) (r : Bool) (W : World) (hx : x.length ≤ 65536) (hl : fs.length ≤ 64) (hr : matchB [(acceptN, x)] fs = r) (hs : VfB fs) :
    Calls Try.prog 20 #[.string (bs x), .slice (some ⟨W.heap.size, 0, none⟩) (flatN fs).length (flatN fs).length] (W.alloc (.cells ((flatN fs).map fun x => Value.string (bs x)).toArray 9)) fun e w' => e = .returned (.bool r) ∧ Below W.heap.size W w' := by
  have hal : Below W.heap.size W (W.alloc (.cells ((flatN fs).map fun x => Value.string (bs x)).toArray 9)) := (Below.refl _ _).alloc (Nat.le_refl _) _
  have h := matches_any x _ (SL_litsV W (flatN fs)) hl hs hx
  rw [hr] at h
  refine h.mono ?_
  rintro e w' ⟨rfl, hb⟩
  exact ⟨rfl, hal.trans (hb.mono hal.size)⟩
theorem matches_nil (x : List UInt8) (r : Bool) (W : World) (hx : x.length ≤ 65536) (hr : matchB [(acceptN, x)] [] = r) :
    Calls Try.prog 20 #[.string (bs x), .slice none 0 0] W fun e w' => e = .returned (.bool r) ∧ Below W.heap.size W w' := by
  have h := matches_any (fs := []) x W (SL_nil W) (by decide) (by decide) hx
  rwa [hr] at h

set_option maxRecDepth 100000 in
set_option maxHeartbeats 2000000 in
theorem vawake_any (w : World) : Calls Try.prog 9 #[] w fun e w' => e = .returned (.bool true) ∧ Below w.heap.size w w' := by
  have g0 : ∀ W, Calls Try.prog 18 #[.slice (some ⟨W.heap.size, 0, none⟩) 4 4] (W.alloc (.cells #[.string ⟨#[118, 97, 114, 121]⟩, .string ⟨#[65, 99, 99, 101, 112, 116, 45, 76, 97, 110, 103, 117, 97, 103, 101, 44, 32, 67, 111, 111, 107, 105, 101]⟩, .string ⟨#[118, 97, 114, 121]⟩, .string ⟨#[99, 111, 111, 107, 105, 101]⟩] 9)) fun e w' => e = .returned (.string ⟨#[97, 99, 99, 101, 112, 116, 45, 108, 97, 110, 103, 117, 97, 103, 101, 32, 99, 111, 111, 107, 105, 101]⟩) ∧ Below W.heap.size W w' := fun W => names_lit [([118, 97, 114, 121], [65, 99, 99, 101, 112, 116, 45, 76, 97, 110, 103, 117, 97, 103, 101, 44, 32, 67, 111, 111, 107, 105, 101]), ([118, 97, 114, 121], [99, 111, 111, 107, 105, 101])] [97, 99, 99, 101, 112, 116, 45, 108, 97, 110, 103, 117, 97, 103, 101, 32, 99, 111, 111, 107, 105, 101] W (by decide) (by kernel_rfl) (by decide)
  have g1 : ∀ W, Calls Try.prog 18 #[.slice (some ⟨W.heap.size, 0, none⟩) 2 2] (W.alloc (.cells #[.string ⟨#[118, 97, 114, 121]⟩, .string ⟨#[42]⟩] 9)) fun e w' => e = .returned (.string ⟨#[97, 108, 108]⟩) ∧ Below W.heap.size W w' := fun W => names_lit [([118, 97, 114, 121], [42])] [97, 108, 108] W (by decide) (by kernel_rfl) (by decide)
  have g2 : ∀ W, Calls Try.prog 20 #[.string ⟨#[97, 44, 32, 98]⟩, .slice (some ⟨W.heap.size, 0, none⟩) 2 2] (W.alloc (.cells #[.string ⟨#[97, 99, 99, 101, 112, 116]⟩, .string ⟨#[97, 44, 98]⟩] 9)) fun e w' => e = .returned (.bool true) ∧ Below W.heap.size W w' := fun W => matches_lit [97, 44, 32, 98] [([97, 99, 99, 101, 112, 116], [97, 44, 98])] true W (by decide) (by decide) (by kernel_rfl) (by decide)
  have g3 : ∀ W, Calls Try.prog 20 #[.string ⟨#[97, 44, 32, 98]⟩, .slice (some ⟨W.heap.size, 0, none⟩) 2 2] (W.alloc (.cells #[.string ⟨#[97, 99, 99, 101, 112, 116]⟩, .string ⟨#[98, 44, 32, 97]⟩] 9)) fun e w' => e = .returned (.bool false) ∧ Below W.heap.size W w' := fun W => matches_lit [97, 44, 32, 98] [([97, 99, 99, 101, 112, 116], [98, 44, 32, 97])] false W (by decide) (by decide) (by kernel_rfl) (by decide)
  have G0 := Lib.hid g0
  have G1 := Lib.hid g1
  have G2 := Lib.hid g2
  have G3 := Lib.hid g3
  clear g0 g1 g2 g3
  go_enter Try.func9, Try.ntmps9
  go_wp2_with fail
  refine (G0.out _).mono ?_
  rintro e w1 ⟨rfl, hb⟩
  have HB1 : Hid (Below w.heap.size w w1) := hb; clear hb
  go_wp2_with fail
  refine (G1.out _).mono ?_
  rintro e w2 ⟨rfl, hb⟩
  have HB2 : Hid (Below w.heap.size w w2) := HB1.out.trans (hb.mono HB1.out.size); clear hb
  go_wp2_with fail
  refine (G2.out _).mono ?_
  rintro e w3 ⟨rfl, hb⟩
  have HB3 : Hid (Below w.heap.size w w3) := HB2.out.trans (hb.mono HB2.out.size); clear hb
  go_wp2_with fail
  refine (G3.out _).mono ?_
  rintro e w4 ⟨rfl, hb⟩
  have HB4 : Hid (Below w.heap.size w w4) := HB3.out.trans (hb.mono HB3.out.size); clear hb
  go_wp2_with fail
  go_ret
  exact ⟨rfl, HB4.out⟩
end Go.Proofs.Ytmlgmpjbjbjaoaa
