/- The fields layer's Set. -/
import Derived.Test.YtilaalfehnngcaaDoorFieldsJ
import Derived.Test.YtilaalfehnngcaaDoorFieldsG
namespace Go.Proofs.YtilaalfehnngcaaDoor
open Go.RowKit Go.Shelf

theorem place_none {l : List Fld} {n y : List UInt8} (h : placeOf l (fun f => hasN [n] f.1) < 0) : setL l n y = delL l [n] ++ [(n, y)] := by
  refine set_none y ?_
  unfold placeOf at h
  split at h
  · omega
  · rename_i hn
    rw [List.findIdx?_eq_none_iff] at hn
    rw [List.any_eq_false]
    intro f hf
    have := hn f hf
    rw [hasN_one, sameN_symm] at this
    simpa using this
theorem place_some {l : List Fld} {n : List UInt8} (y : List UInt8) (h : ¬ placeOf l (fun f => hasN [n] f.1) < 0) :
    ∃ (k : Nat) (hk : k < l.length), placeOf l (fun f => hasN [n] f.1) = (k : Int) ∧ setL l n y = (delL l [n]).take k ++ (l[k].1, y) :: (delL l [n]).drop k ∧ k ≤ (delL l [n]).length := by
  unfold placeOf at h ⊢
  split at h
  · rename_i k hk
    obtain ⟨h1, h2, h3⟩ := List.findIdx?_eq_some_iff_getElem.1 hk
    rw [hasN_one, sameN_symm] at h2
    have h4 := set_at (n := n) y h1 h2 (fun j hj => by
      have := h3 j hj
      rw [hasN_one, sameN_symm] at this
      simpa using this)
    exact ⟨k, h1, rfl, h4.1, h4.2⟩
  · omega

set_option maxHeartbeats 2000000 in
set_option maxRecDepth 100000 in
theorem set_any (v : Value) (l : List Fld) (n y : List UInt8) (w : World) (h : FL w v l) (hs : smallF l) (hl : l.length ≤ 1048575) (hn : n.length ≤ 4294967296) (hy : y.length ≤ 4294967296) :
    Calls Tryd.prog 23 #[v, .string (bs n), .string (bs y)] w (RetF w (setL l n y)) := by
  obtain ⟨A, c, rfl⟩ := h.form
  have HF := Lib.hid h; have HSm : Hid (smallF l) := hs; clear h
  have hal : Below w.heap.size w (w.alloc (.cells #[.string (bs n)] 9)) := (Below.refl _ _).alloc (Nat.le_refl _) _
  have hn1 : ∀ x ∈ [n], x.length ≤ 4294967296 := by intro x hx; rw [List.mem_singleton.1 hx]; exact hn
  have hdel := del_any (.slice A l.length c) _ l [n] _ (HF.out.bel hal) (SL_lit w n) hs (by omega) hn1 (by simp)
  have HN1 := Lib.hid hn1; clear hn1
  have HD := Lib.hid hdel; have HBa := Lib.hid hal; clear hdel hal
  go_enter Tryd.func23, Tryd.ntmps23
  go_wp2_with fail
  refine HD.out.mono ?_
  rintro e w1 ⟨v1, rfl, ho1, hb1⟩
  have HO1 : Hid (ownF w1 w.heap.size v1 (delL l [n])) := ho1.mono (by simp)
  have HB1 : Hid (Below w.heap.size w w1) := HBa.out.trans (hb1.mono (by simp))
  clear ho1 hb1 HD HBa
  have hal : Below w1.heap.size w1 (w1.alloc (.cells #[.string (bs n)] 9)) := (Below.refl _ _).alloc (Nat.le_refl _) _
  have hnm := named_any _ [n] _ (SL_lit w1 n) HN1.out (by simp)
  simp only [World.size_alloc] at hnm
  have HNM := Lib.hid hnm; have HBa := Lib.hid hal; clear hnm hal
  go_wp2_with fail
  refine HNM.out.mono ?_
  rintro e w2 ⟨rfl, hk2, hb2⟩
  replace hb2 : Below w1.heap.size w1 w2 := HBa.out.trans (hb2.mono (by simp))
  have hp2 := named_pred hk2
  have HO2 := Lib.hid (HO1.out.bel hb2)
  have HB2 := Lib.hid (HB1.out.trans (hb2.mono HB1.out.size))
  have hix := indexFunc_any _ _ eg1 _ (.slice A l.length c) l _ hp2 (HF.out.bel HB2.out) HSm.out (by omega)
  have HIX := Lib.hid hix
  clear hix hp2 hk2 hb2 HNM HBa
  have HDl : Hid ((delL l [n]).length ≤ l.length) := del_le l [n]
  by_cases hz : placeOf l (fun f => hasN [n] f.1) < 0
  · have HR := Lib.hid (place_none (y := y) hz)
    generalize placeOf l (fun f => hasN [n] f.1) = E at *
    generalize delL l [n] = d at *
    have hcp := fun w => copied_any (n, y) w (by simp only; omega) (by simp only; omega)
    unfold fv at hcp; simp only at hcp
    have HCP := Lib.hid hcp; clear hcp
    go_wp2_with (first
      | (go_at_call 49; refine HIX.out.mono ?_; rintro e w3 ⟨rfl, hb3⟩; have HO3 := Lib.hid (HO2.out.bel hb3); have HB3 := Lib.hid (HB2.out.trans (hb3.mono HB2.out.size)); clear hb3)
      | (go_at_call 50; refine (HCP.out _).mono ?_; rintro e w4 ⟨rfl, hb4⟩; have HO4 := Lib.hid (HO3.out.bel hb4); have HB4 := Lib.hid (HB3.out.trans (hb4.mono HB3.out.size)); clear hb4)
      | (at_builtin; refine wpList_appF rfl (.tmp 20) (.tmp 25) rfl w.heap.size w.heap.size _ _ n y rfl HO4.out HB4.out (Nat.le_refl _) HB4.out.size rfl (by have := HDl.out; omega) ?_; intro v' w' HO5 HB5 _))
    go_ret
    exact ⟨_, rfl, by rw [HR.out]; exact HO5.out, HB5.out⟩
  · obtain ⟨k, hk, hpk, hset, hkd⟩ := place_some y hz
    have HR := Lib.hid hset
    rw [hpk] at HIX
    clear hz hpk hset
    obtain ⟨b, off, rfl, hbb, hcw1, hcw2⟩ := HF.out.get k hk
    obtain ⟨s1, s2⟩ := hs k hk
    generalize l[k] = f at *
    obtain ⟨x, z⟩ := f; simp only at s1 s2 hcw1 hcw2
    have HRR : Hid (setL l n y = (delL l [n]).take k ++ (x, y) :: (delL l [n]).drop k) := HR.out
    clear HR hcw2 s2
    generalize delL l [n] = d at *
    have hcp := fun w => copied_any (x, y) w (by simp only; omega) (by simp only; omega)
    unfold fv at hcp; simp only at hcp
    have HCP := Lib.hid hcp; have HCW := Lib.hid hcw1; clear hcp hcw1
    have hkl : (k : Int) < (l.length : Int) := by omega
    go_wp2_with fail
    refine HIX.out.mono ?_; rintro e w3 ⟨rfl, hb3⟩
    have HO3 := Lib.hid (HO2.out.bel hb3); have HB3 := Lib.hid (HB2.out.trans (hb3.mono HB2.out.size)); clear hb3
    have hd1 := (HB3.out.cell (p := ⟨b, off + k * 2, none⟩) hbb).trans HCW.out
    go_wp2_with fail
    refine (HCP.out _).mono ?_; rintro e w4 ⟨rfl, hb4⟩
    have ho4 := HO3.out.bel hb4; have hb5 := HB3.out.trans (hb4.mono HB3.out.size); clear hb4
    have hal4 : Below w4.heap.size w4 (w4.alloc (.cells #[.string (bs x), .string (bs y)] 44)) := (Below.refl _ _).alloc (Nat.le_refl _) _
    have hins := insert_any w.heap.size v1 d k (x, y) w4.heap.size (w4.alloc (.cells #[.string (bs x), .string (bs y)] 44)) (ho4.bel hal4) hkd (oneF2.new _ _ _)
      (fun e => by have := (World.ownsRow.lt ho4 _ e).2; omega) (by have := hb5.size; simp; omega) (by have := HDl.out; omega)
    have HIN := Lib.hid hins; have HB4 := Lib.hid (hb5.trans (hal4.mono hb5.size)); clear hins ho4 hb5 hal4
    go_wp2_with fail
    refine HIN.out.mono ?_; rintro e w5 ⟨v5, rfl, ho5, hb5⟩
    have HO5 := Lib.hid ho5; have HB5 := Lib.hid (HB4.out.trans hb5); clear ho5 hb5
    go_wp2_with fail
    go_ret
    exact ⟨_, rfl, by rw [HRR.out]; exact HO5.out, HB5.out⟩
end Go.Proofs.YtilaalfehnngcaaDoor
