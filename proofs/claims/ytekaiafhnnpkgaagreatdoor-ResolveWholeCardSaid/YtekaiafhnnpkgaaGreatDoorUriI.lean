/- What a text is as a URI: the uri layer's Parse. -/
import Derived.Test.YtekaiafhnnpkgaaGreatDoorUriH
namespace Go.Proofs.YtekaiafhnnpkgaaGreatDoor
open Go.RowKit

theorem atoiV_range (l : List UInt8) : -9223372036854775808 ≤ atoiV l ∧ atoiV l ≤ 9223372036854775807 := by
  unfold atoiV
  split
  · rename_i v hv
    unfold Lib.atoiAll at hv
    cases l with
    | nil => cases hv
    | cons c r =>
      simp only at hv
      split at hv
      · cases hv
      · cases hv
      · split at hv
        · cases hv
        · split at hv
          · cases hv
          · injection hv with hv
            subst hv
            split <;> omega
  · unfold Lib.atoiSat
    split <;> omega
  · omega
theorem apart_ok (s : List UInt8) (hl : s.length ≤ 1000000) : (apartL s).okW := by
  have l0 := cut_leU s [58, 47, 47]
  have l1 := cut_leU (Lib.cut s [58, 47, 47]).2.1 [63]
  have l2 := cut_leU (Lib.cut (Lib.cut s [58, 47, 47]).2.1 [63]).1 [47]
  have l3 := cut_leU (Lib.cut (Lib.cut (Lib.cut s [58, 47, 47]).2.1 [63]).1 [47]).1 [58]
  rw [apart_eq]
  refine ⟨?_, (atoiV_range _).1, (atoiV_range _).2⟩
  simp only
  split
  · simp only [List.length_cons]; omega
  · simp only [List.length_nil]; omega
theorem root_ok {u : Ur} (h : u.okW) (hl : u.sc.length + u.ho.length + u.pa.length + u.qu.length ≤ 99999999) : u.root.okW := by
  refine ⟨?_, h.lo, h.hi⟩
  unfold Ur.root
  simp only
  split
  · simp only [List.length_cons, List.length_nil]; omega
  · omega
theorem apart_len (s : List UInt8) (hl : s.length ≤ 1000000) : (apartL s).sc.length + (apartL s).ho.length + (apartL s).pa.length + (apartL s).qu.length ≤ 99999999 := by
  have l0 := cut_leU s [58, 47, 47]
  have l1 := cut_leU (Lib.cut s [58, 47, 47]).2.1 [63]
  have l2 := cut_leU (Lib.cut (Lib.cut s [58, 47, 47]).2.1 [63]).1 [47]
  have l3 := cut_leU (Lib.cut (Lib.cut (Lib.cut s [58, 47, 47]).2.1 [63]).1 [47]).1 [58]
  rw [apart_eq]
  simp only
  split
  · simp only [List.length_cons]; omega
  · simp only [List.length_nil]; omega
theorem beq_bs2 (a b : List UInt8) : ((bs a).toList == (bs b).toList) = (a == b) := by rw [Lib.toList_data, Lib.toList_data, bs_data, bs_data]
/-- what a text that is read is, as a value -/
def RetU (w : World) (p : Ur × Int) (e : Ending) (w' : World) : Prop :=
  e = .returned (.tuple #[.agg #[.string (bs p.1.sc), .string (bs p.1.ho), .int .i64 p.1.po, .string (bs p.1.pa), .string (bs p.1.qu), .bool p.1.hq], .int .i64 p.2]) ∧ Below w.heap.size w w'

set_option maxHeartbeats 1000000 in
set_option maxRecDepth 100000 in
theorem parse_long (s : List UInt8) (w : World) (hl : 1024 < s.length) :
    Calls Tryz.prog 34 #[.string (bs s)] w (RetU w (ur0, 3)) := by
  have hal : Below w.heap.size w (w.alloc (.cells #[.string ⟨#[]⟩, .string ⟨#[]⟩, .int .i64 0, .string ⟨#[]⟩, .string ⟨#[]⟩, .bool false] 23)) := (Below.refl _ _).alloc (Nat.le_refl _) _
  have hbn := ubk.new w #[.string ⟨#[]⟩, .string ⟨#[]⟩, .int .i64 0, .string ⟨#[]⟩, .string ⟨#[]⟩, .bool false] 23
  have hsz : (1024 : Int) < ((bs s).size : Int) := by rw [bs_size]; omega
  show Calls Tryz.prog 34 #[.string (bs s)] w fun e w' => e = .returned (.tuple #[.agg #[.string ⟨#[]⟩, .string ⟨#[]⟩, .int .i64 0, .string ⟨#[]⟩, .string ⟨#[]⟩, .bool false], .int .i64 3]) ∧ Below w.heap.size w w'
  go_enter Tryz.func34, Tryz.ntmps34
  have HAL := Lib.hid hal; have HBN := Lib.hid hbn; clear hal hbn
  go_wp2_with fail
  have m0 := HBN.out.cell 0 (.string ⟨#[]⟩) rfl
  have m1 := HBN.out.cell 1 (.string ⟨#[]⟩) rfl
  have m2 := HBN.out.cell 2 (.int .i64 0) rfl
  have m3 := HBN.out.cell 3 (.string ⟨#[]⟩) rfl
  have m4 := HBN.out.cell 4 (.string ⟨#[]⟩) rfl
  have m5 := HBN.out.cell 5 (.bool false) rfl
  refine bodyPost_ret (v := .tuple #[.agg #[.string ⟨#[]⟩, .string ⟨#[]⟩, .int .i64 0, .string ⟨#[]⟩, .string ⟨#[]⟩, .bool false], .int .i64 3]) (by simp [results, Tryz.results34, go_sem, m0, m1, m2, m3, m4, m5]) rfl ⟨?_, HAL.out⟩
  rfl

set_option maxHeartbeats 4000000 in
set_option maxRecDepth 100000 in
theorem parse_any (s : List UInt8) (w : World) (he : EnvU w) :
    Calls Tryz.prog 34 #[.string (bs s)] w (RetU w (parseU s)) := by
  by_cases h : 1024 < s.length
  · have hp : parseU s = (ur0, 3) := if_pos h
    rw [hp]
    exact parse_long s w h
  · have hp : parseU s = if (apartL s).text = s then (if (apartL s).root.check = 0 then ((apartL s).root, 0) else (ur0, (apartL s).root.check)) else (ur0, 4) := if_neg h
    rw [hp]
    clear hp
    have hu := apart_ok s (by omega)
    have hr := root_ok hu (apart_len s (by omega))
    have hal : Below w.heap.size w (w.alloc (.cells #[.string ⟨#[]⟩, .string ⟨#[]⟩, .int .i64 0, .string ⟨#[]⟩, .string ⟨#[]⟩, .bool false] 23)) := (Below.refl _ _).alloc (Nat.le_refl _) _
    have he0 : EnvU (w.alloc (.cells #[.string ⟨#[]⟩, .string ⟨#[]⟩, .int .i64 0, .string ⟨#[]⟩, .string ⟨#[]⟩, .bool false] 23)) := he.alloc _
    have hbn := ubk.new w #[.string ⟨#[]⟩, .string ⟨#[]⟩, .int .i64 0, .string ⟨#[]⟩, .string ⟨#[]⟩, .bool false] 23
    have HA := Lib.hid (fun W (hb : Below (w.alloc (.cells #[.string ⟨#[]⟩, .string ⟨#[]⟩, .int .i64 0, .string ⟨#[]⟩, .string ⟨#[]⟩, .bool false] 23)).heap.size (w.alloc (.cells #[.string ⟨#[]⟩, .string ⟨#[]⟩, .int .i64 0, .string ⟨#[]⟩, .string ⟨#[]⟩, .bool false] 23)) W) => apart_any s W (he0.bel hb) (by omega))
    have HWR := Lib.hid (fun W (hb : Below (w.alloc (.cells #[.string ⟨#[]⟩, .string ⟨#[]⟩, .int .i64 0, .string ⟨#[]⟩, .string ⟨#[]⟩, .bool false] 23)).heap.size (w.alloc (.cells #[.string ⟨#[]⟩, .string ⟨#[]⟩, .int .i64 0, .string ⟨#[]⟩, .string ⟨#[]⟩, .bool false] 23)) W) => written_any (apartL s) W (he0.bel hb) hu)
    have HCK := Lib.hid (fun W (hb : Below w.heap.size w W) => uriCheck_any (apartL s).root W (he.bel hb) hr)
    have HS : Hid (s.length ≤ 281474976710656) := by show _ ≤ _; omega
    have hsz : ¬ (1024 : Int) < ((bs s).size : Int) := by rw [bs_size]; omega
    have htx : ((bs (apartL s).text).toList == (bs s).toList) = ((apartL s).text == s) := beq_bs2 _ _
    have hrt : (apartL s).root = ⟨(apartL s).sc, (apartL s).ho, (apartL s).po, if (apartL s).pa = [] then [47] else (apartL s).pa, (apartL s).qu, (apartL s).hq⟩ := rfl
    rw [hrt] at HCK
    rw [hrt]
    clear hu hr he he0 hrt h
    generalize hA : apartL s = A at *
    clear hA
    obtain ⟨sc, ho, po, pa, qu, hq⟩ := A
    generalize ht : Ur.text ⟨sc, ho, po, pa, qu, hq⟩ = t at *
    clear ht
    have HAL := Lib.hid hal; have HBN := Lib.hid hbn; clear hal hbn
    by_cases htt : t = s
    · rw [if_pos htt]
      have htx2 : ((bs t).toList == (bs s).toList) = true := by rw [htx]; exact beq_iff_eq.2 htt
      clear htx htt
      by_cases hpa : pa = []
      · rw [if_pos hpa] at HCK ⊢
        subst hpa
        have q1 : ((bs []).toList == []) = true := by rw [beq_lit]; rfl
        have q2 : (bs []).toList.isEmpty = true := by rw [Lib.toList_data, bs_data]; rfl
        generalize hk : Ur.check ⟨sc, ho, po, [47], qu, hq⟩ = k at *
        clear hk
        by_cases hk0 : k = 0
        · subst hk0
          rw [if_pos rfl]
          show Calls Tryz.prog 34 #[.string (bs s)] w fun e w' => e = .returned (.tuple #[.agg #[.string (bs sc), .string (bs ho), .int .i64 po, .string (bs [47]), .string (bs qu), .bool hq], .int .i64 0]) ∧ Below w.heap.size w w'
          go_enter Tryz.func34, Tryz.ntmps34
          go_wp2_with fail
          refine (cloneU_any _ _ HS.out).mono ?_
          rintro r w1 ⟨rfl, hb1⟩
          have HB1 := Lib.hid hb1; clear hb1
          go_wp2_with fail
          refine (HA.out _ HB1.out).mono ?_
          rintro r w2 ⟨rfl, hb2⟩
          have hB2 := HB1.out.trans (hb2.mono HB1.out.size)
          have HN2 := Lib.hid ((HBN.out.below hB2).alloc (.cells #[.string (bs sc), .string (bs ho), .int .i64 po, .string (bs []), .string (bs qu), .bool hq] 23))
          have HM2 := Lib.hid (ubk.new w2 #[.string (bs sc), .string (bs ho), .int .i64 po, .string (bs []), .string (bs qu), .bool hq] 23)
          have hal2 : Below w2.heap.size w2 (w2.alloc (.cells #[.string (bs sc), .string (bs ho), .int .i64 po, .string (bs []), .string (bs qu), .bool hq] 23)) := (Below.refl _ _).alloc (Nat.le_refl _) _
          have HB3 := Lib.hid (hB2.trans (hal2.mono hB2.size))
          have HSZ2 := Lib.hid hB2.size
          clear hb2 hal2 hB2
          go_wp2_with fail
          refine (HWR.out _ HB3.out).mono ?_
          rintro r w4 ⟨rfl, hb4⟩
          have HB4 := Lib.hid (HB3.out.trans (hb4.mono HB3.out.size))
          have hn4 := HN2.out.below hb4
          have hm4 := HM2.out.below hb4
          clear hb4
          have gc0 := hm4.cell 0 (.string (bs sc)) rfl
          have gf0 := hm4.free 0
          have gc1 := hm4.cell 1 (.string (bs ho)) rfl
          have gf1 := hm4.free 1
          have gc2 := hm4.cell 2 (.int .i64 po) rfl
          have gf2 := hm4.free 2
          have gc3 := hm4.cell 3 (.string (bs [])) rfl
          have gf3 := hm4.free 3
          have gc4 := hm4.cell 4 (.string (bs qu)) rfl
          have gf4 := hm4.free 4
          have gc5 := hm4.cell 5 (.bool hq) rfl
          have gf5 := hm4.free 5
          have hlt : w.heap.size < w2.heap.size := by have h1 := HSZ2.out; have h2 := HBN.out.lt; omega
          have hn5 : ubk (w4.setCell ⟨w2.heap.size, 3, none⟩ (.string (bs [47]))) w.heap.size #[.string ⟨#[]⟩, .string ⟨#[]⟩, .int .i64 0, .string ⟨#[]⟩, .string ⟨#[]⟩, .bool false] := hn4.other (a := ⟨w2.heap.size, 3, none⟩) (Nat.ne_of_lt hlt) _
          have hm5 := hm4.set 3 (.string (bs [47]))
          simp only [List.setIfInBounds_toArray, List.set_cons_zero, List.set_cons_succ] at hm5
          have HB5 : Hid (Below w.heap.size w (w4.setCell ⟨w2.heap.size, 3, none⟩ (.string (bs [47])))) := (HAL.out.trans (HB4.out.mono HAL.out.size)).setCell (p := ⟨w2.heap.size, 3, none⟩) (Nat.le_of_lt hlt) _
          have h47 : (⟨#[47]⟩ : ByteArray) = bs [47] := rfl
          have HN5 := Lib.hid hn5; have HM5 := Lib.hid hm5; clear hn5 hm5 hn4 hm4 hlt
          go_wp2_with fail
          refine (HCK.out _ HB5.out).mono ?_
          rintro r w6 ⟨rfl, hb6⟩
          have hn6 := HN5.out.below hb6
          have hm6 := HM5.out.below hb6
          have HB6 := Lib.hid (HB5.out.trans (hb6.mono HB5.out.size)); clear hb6 gc0 gf0 gc1 gf1 gc2 gf2 gc3 gf3 gc4 gf4 gc5 gf5
          have kc0 := hm6.cell 0 (.string (bs sc)) rfl
          have kf0 := hm6.free 0
          have kc1 := hm6.cell 1 (.string (bs ho)) rfl
          have kf1 := hm6.free 1
          have kc2 := hm6.cell 2 (.int .i64 po) rfl
          have kf2 := hm6.free 2
          have kc3 := hm6.cell 3 (.string (bs [47])) rfl
          have kf3 := hm6.free 3
          have kc4 := hm6.cell 4 (.string (bs qu)) rfl
          have kf4 := hm6.free 4
          have kc5 := hm6.cell 5 (.bool hq) rfl
          have kf5 := hm6.free 5
          clear hm6
          have nc0 := hn6.cell 0 (.string ⟨#[]⟩) rfl
          have nf0 := hn6.free 0
          have nc1 := hn6.cell 1 (.string ⟨#[]⟩) rfl
          have nf1 := hn6.free 1
          have nc2 := hn6.cell 2 (.int .i64 0) rfl
          have nf2 := hn6.free 2
          have nc3 := hn6.cell 3 (.string ⟨#[]⟩) rfl
          have nf3 := hn6.free 3
          have nc4 := hn6.cell 4 (.string ⟨#[]⟩) rfl
          have nf4 := hn6.free 4
          have nc5 := hn6.cell 5 (.bool false) rfl
          have nf5 := hn6.free 5
          have hq0 := ((((((hn6.set 0 (.string (bs sc))).set 1 (.string (bs ho))).set 2 (.int .i64 po)).set 3 (.string (bs [47]))).set 4 (.string (bs qu))).set 5 (.bool hq))
          simp only [List.setIfInBounds_toArray, List.set_cons_zero, List.set_cons_succ] at hq0
          have HQ0 := Lib.hid hq0; clear hq0
          have HBF : Hid (Below w.heap.size w ((((((w6.setCell ⟨w.heap.size, 0, none⟩ (.string (bs sc))).setCell ⟨w.heap.size, 1, none⟩ (.string (bs ho))).setCell ⟨w.heap.size, 2, none⟩ (.int .i64 po)).setCell ⟨w.heap.size, 3, none⟩ (.string (bs [47]))).setCell ⟨w.heap.size, 4, none⟩ (.string (bs qu))).setCell ⟨w.heap.size, 5, none⟩ (.bool hq))) := ((((((HB6.out.setCell (p := ⟨w.heap.size, 0, none⟩) (Nat.le_refl _) (.string (bs sc))).setCell (p := ⟨w.heap.size, 1, none⟩) (Nat.le_refl _) (.string (bs ho))).setCell (p := ⟨w.heap.size, 2, none⟩) (Nat.le_refl _) (.int .i64 po)).setCell (p := ⟨w.heap.size, 3, none⟩) (Nat.le_refl _) (.string (bs [47]))).setCell (p := ⟨w.heap.size, 4, none⟩) (Nat.le_refl _) (.string (bs qu))).setCell (p := ⟨w.heap.size, 5, none⟩) (Nat.le_refl _) (.bool hq))
          clear hn6
          go_wp2_with fail
          have m0 := HQ0.out.cell 0 (.string (bs sc)) rfl
          have m1 := HQ0.out.cell 1 (.string (bs ho)) rfl
          have m2 := HQ0.out.cell 2 (.int .i64 po) rfl
          have m3 := HQ0.out.cell 3 (.string (bs [47])) rfl
          have m4 := HQ0.out.cell 4 (.string (bs qu)) rfl
          have m5 := HQ0.out.cell 5 (.bool hq) rfl
          refine bodyPost_ret (v := .tuple #[.agg #[.string (bs sc), .string (bs ho), .int .i64 po, .string (bs [47]), .string (bs qu), .bool hq], .int .i64 0]) (by simp [results, Tryz.results34, go_sem, m0, m1, m2, m3, m4, m5]) rfl ⟨?_, HBF.out⟩
          rfl
        · rw [if_neg hk0]
          have hkn : (k != 0) = true := bne_iff_ne.2 hk0
          clear hk0
          show Calls Tryz.prog 34 #[.string (bs s)] w fun e w' => e = .returned (.tuple #[.agg #[.string ⟨#[]⟩, .string ⟨#[]⟩, .int .i64 0, .string ⟨#[]⟩, .string ⟨#[]⟩, .bool false], .int .i64 k]) ∧ Below w.heap.size w w'
          go_enter Tryz.func34, Tryz.ntmps34
          go_wp2_with fail
          refine (cloneU_any _ _ HS.out).mono ?_
          rintro r w1 ⟨rfl, hb1⟩
          have HB1 := Lib.hid hb1; clear hb1
          go_wp2_with fail
          refine (HA.out _ HB1.out).mono ?_
          rintro r w2 ⟨rfl, hb2⟩
          have hB2 := HB1.out.trans (hb2.mono HB1.out.size)
          have HN2 := Lib.hid ((HBN.out.below hB2).alloc (.cells #[.string (bs sc), .string (bs ho), .int .i64 po, .string (bs []), .string (bs qu), .bool hq] 23))
          have HM2 := Lib.hid (ubk.new w2 #[.string (bs sc), .string (bs ho), .int .i64 po, .string (bs []), .string (bs qu), .bool hq] 23)
          have hal2 : Below w2.heap.size w2 (w2.alloc (.cells #[.string (bs sc), .string (bs ho), .int .i64 po, .string (bs []), .string (bs qu), .bool hq] 23)) := (Below.refl _ _).alloc (Nat.le_refl _) _
          have HB3 := Lib.hid (hB2.trans (hal2.mono hB2.size))
          have HSZ2 := Lib.hid hB2.size
          clear hb2 hal2 hB2
          go_wp2_with fail
          refine (HWR.out _ HB3.out).mono ?_
          rintro r w4 ⟨rfl, hb4⟩
          have HB4 := Lib.hid (HB3.out.trans (hb4.mono HB3.out.size))
          have hn4 := HN2.out.below hb4
          have hm4 := HM2.out.below hb4
          clear hb4
          have gc0 := hm4.cell 0 (.string (bs sc)) rfl
          have gf0 := hm4.free 0
          have gc1 := hm4.cell 1 (.string (bs ho)) rfl
          have gf1 := hm4.free 1
          have gc2 := hm4.cell 2 (.int .i64 po) rfl
          have gf2 := hm4.free 2
          have gc3 := hm4.cell 3 (.string (bs [])) rfl
          have gf3 := hm4.free 3
          have gc4 := hm4.cell 4 (.string (bs qu)) rfl
          have gf4 := hm4.free 4
          have gc5 := hm4.cell 5 (.bool hq) rfl
          have gf5 := hm4.free 5
          have hlt : w.heap.size < w2.heap.size := by have h1 := HSZ2.out; have h2 := HBN.out.lt; omega
          have hn5 : ubk (w4.setCell ⟨w2.heap.size, 3, none⟩ (.string (bs [47]))) w.heap.size #[.string ⟨#[]⟩, .string ⟨#[]⟩, .int .i64 0, .string ⟨#[]⟩, .string ⟨#[]⟩, .bool false] := hn4.other (a := ⟨w2.heap.size, 3, none⟩) (Nat.ne_of_lt hlt) _
          have hm5 := hm4.set 3 (.string (bs [47]))
          simp only [List.setIfInBounds_toArray, List.set_cons_zero, List.set_cons_succ] at hm5
          have HB5 : Hid (Below w.heap.size w (w4.setCell ⟨w2.heap.size, 3, none⟩ (.string (bs [47])))) := (HAL.out.trans (HB4.out.mono HAL.out.size)).setCell (p := ⟨w2.heap.size, 3, none⟩) (Nat.le_of_lt hlt) _
          have h47 : (⟨#[47]⟩ : ByteArray) = bs [47] := rfl
          have HN5 := Lib.hid hn5; have HM5 := Lib.hid hm5; clear hn5 hm5 hn4 hm4 hlt
          go_wp2_with fail
          refine (HCK.out _ HB5.out).mono ?_
          rintro r w6 ⟨rfl, hb6⟩
          have hn6 := HN5.out.below hb6
          have hm6 := HM5.out.below hb6
          have HB6 := Lib.hid (HB5.out.trans (hb6.mono HB5.out.size)); clear hb6 gc0 gf0 gc1 gf1 gc2 gf2 gc3 gf3 gc4 gf4 gc5 gf5
          clear hm6
          have nc0 := hn6.cell 0 (.string ⟨#[]⟩) rfl
          have nf0 := hn6.free 0
          have nc1 := hn6.cell 1 (.string ⟨#[]⟩) rfl
          have nf1 := hn6.free 1
          have nc2 := hn6.cell 2 (.int .i64 0) rfl
          have nf2 := hn6.free 2
          have nc3 := hn6.cell 3 (.string ⟨#[]⟩) rfl
          have nf3 := hn6.free 3
          have nc4 := hn6.cell 4 (.string ⟨#[]⟩) rfl
          have nf4 := hn6.free 4
          have nc5 := hn6.cell 5 (.bool false) rfl
          have nf5 := hn6.free 5
          have hq0 := ((((((hn6.set 0 (.string ⟨#[]⟩)).set 1 (.string ⟨#[]⟩)).set 2 (.int .i64 0)).set 3 (.string ⟨#[]⟩)).set 4 (.string ⟨#[]⟩)).set 5 (.bool false))
          simp only [List.setIfInBounds_toArray, List.set_cons_zero, List.set_cons_succ] at hq0
          have HQ0 := Lib.hid hq0; clear hq0
          have HBF : Hid (Below w.heap.size w ((((((w6.setCell ⟨w.heap.size, 0, none⟩ (.string ⟨#[]⟩)).setCell ⟨w.heap.size, 1, none⟩ (.string ⟨#[]⟩)).setCell ⟨w.heap.size, 2, none⟩ (.int .i64 0)).setCell ⟨w.heap.size, 3, none⟩ (.string ⟨#[]⟩)).setCell ⟨w.heap.size, 4, none⟩ (.string ⟨#[]⟩)).setCell ⟨w.heap.size, 5, none⟩ (.bool false))) := ((((((HB6.out.setCell (p := ⟨w.heap.size, 0, none⟩) (Nat.le_refl _) (.string ⟨#[]⟩)).setCell (p := ⟨w.heap.size, 1, none⟩) (Nat.le_refl _) (.string ⟨#[]⟩)).setCell (p := ⟨w.heap.size, 2, none⟩) (Nat.le_refl _) (.int .i64 0)).setCell (p := ⟨w.heap.size, 3, none⟩) (Nat.le_refl _) (.string ⟨#[]⟩)).setCell (p := ⟨w.heap.size, 4, none⟩) (Nat.le_refl _) (.string ⟨#[]⟩)).setCell (p := ⟨w.heap.size, 5, none⟩) (Nat.le_refl _) (.bool false))
          clear hn6
          go_wp2_with fail
          have m0 := HQ0.out.cell 0 (.string ⟨#[]⟩) rfl
          have m1 := HQ0.out.cell 1 (.string ⟨#[]⟩) rfl
          have m2 := HQ0.out.cell 2 (.int .i64 0) rfl
          have m3 := HQ0.out.cell 3 (.string ⟨#[]⟩) rfl
          have m4 := HQ0.out.cell 4 (.string ⟨#[]⟩) rfl
          have m5 := HQ0.out.cell 5 (.bool false) rfl
          refine bodyPost_ret (v := .tuple #[.agg #[.string ⟨#[]⟩, .string ⟨#[]⟩, .int .i64 0, .string ⟨#[]⟩, .string ⟨#[]⟩, .bool false], .int .i64 k]) (by simp [results, Tryz.results34, go_sem, m0, m1, m2, m3, m4, m5]) rfl ⟨?_, HBF.out⟩
          rfl
      · rw [if_neg hpa] at HCK ⊢
        have q1 : ((bs pa).toList == []) = false := by rw [beq_lit]; exact beq_eq_false_iff_ne.2 hpa
        have q2 : (bs pa).toList.isEmpty = false := by rw [Lib.toList_data, bs_data]; cases pa with | nil => exact absurd rfl hpa | cons => rfl
        clear hpa
        generalize hk : Ur.check ⟨sc, ho, po, pa, qu, hq⟩ = k at *
        clear hk
        by_cases hk0 : k = 0
        · subst hk0
          rw [if_pos rfl]
          show Calls Tryz.prog 34 #[.string (bs s)] w fun e w' => e = .returned (.tuple #[.agg #[.string (bs sc), .string (bs ho), .int .i64 po, .string (bs pa), .string (bs qu), .bool hq], .int .i64 0]) ∧ Below w.heap.size w w'
          go_enter Tryz.func34, Tryz.ntmps34
          go_wp2_with fail
          refine (cloneU_any _ _ HS.out).mono ?_
          rintro r w1 ⟨rfl, hb1⟩
          have HB1 := Lib.hid hb1; clear hb1
          go_wp2_with fail
          refine (HA.out _ HB1.out).mono ?_
          rintro r w2 ⟨rfl, hb2⟩
          have hB2 := HB1.out.trans (hb2.mono HB1.out.size)
          have HN2 := Lib.hid ((HBN.out.below hB2).alloc (.cells #[.string (bs sc), .string (bs ho), .int .i64 po, .string (bs pa), .string (bs qu), .bool hq] 23))
          have HM2 := Lib.hid (ubk.new w2 #[.string (bs sc), .string (bs ho), .int .i64 po, .string (bs pa), .string (bs qu), .bool hq] 23)
          have hal2 : Below w2.heap.size w2 (w2.alloc (.cells #[.string (bs sc), .string (bs ho), .int .i64 po, .string (bs pa), .string (bs qu), .bool hq] 23)) := (Below.refl _ _).alloc (Nat.le_refl _) _
          have HB3 := Lib.hid (hB2.trans (hal2.mono hB2.size))
          have HSZ2 := Lib.hid hB2.size
          clear hb2 hal2 hB2
          go_wp2_with fail
          refine (HWR.out _ HB3.out).mono ?_
          rintro r w4 ⟨rfl, hb4⟩
          have HB4 := Lib.hid (HB3.out.trans (hb4.mono HB3.out.size))
          have hn4 := HN2.out.below hb4
          have hm4 := HM2.out.below hb4
          clear hb4
          have gc0 := hm4.cell 0 (.string (bs sc)) rfl
          have gf0 := hm4.free 0
          have gc1 := hm4.cell 1 (.string (bs ho)) rfl
          have gf1 := hm4.free 1
          have gc2 := hm4.cell 2 (.int .i64 po) rfl
          have gf2 := hm4.free 2
          have gc3 := hm4.cell 3 (.string (bs pa)) rfl
          have gf3 := hm4.free 3
          have gc4 := hm4.cell 4 (.string (bs qu)) rfl
          have gf4 := hm4.free 4
          have gc5 := hm4.cell 5 (.bool hq) rfl
          have gf5 := hm4.free 5
          have HB5 := Lib.hid (HAL.out.trans (HB4.out.mono HAL.out.size))
          have HN5 := Lib.hid hn4; have HM5 := Lib.hid hm4; clear hn4 hm4
          go_wp2_with fail
          refine (HCK.out _ HB5.out).mono ?_
          rintro r w6 ⟨rfl, hb6⟩
          have hn6 := HN5.out.below hb6
          have hm6 := HM5.out.below hb6
          have HB6 := Lib.hid (HB5.out.trans (hb6.mono HB5.out.size)); clear hb6 gc0 gf0 gc1 gf1 gc2 gf2 gc3 gf3 gc4 gf4 gc5 gf5
          have kc0 := hm6.cell 0 (.string (bs sc)) rfl
          have kf0 := hm6.free 0
          have kc1 := hm6.cell 1 (.string (bs ho)) rfl
          have kf1 := hm6.free 1
          have kc2 := hm6.cell 2 (.int .i64 po) rfl
          have kf2 := hm6.free 2
          have kc3 := hm6.cell 3 (.string (bs pa)) rfl
          have kf3 := hm6.free 3
          have kc4 := hm6.cell 4 (.string (bs qu)) rfl
          have kf4 := hm6.free 4
          have kc5 := hm6.cell 5 (.bool hq) rfl
          have kf5 := hm6.free 5
          clear hm6
          have nc0 := hn6.cell 0 (.string ⟨#[]⟩) rfl
          have nf0 := hn6.free 0
          have nc1 := hn6.cell 1 (.string ⟨#[]⟩) rfl
          have nf1 := hn6.free 1
          have nc2 := hn6.cell 2 (.int .i64 0) rfl
          have nf2 := hn6.free 2
          have nc3 := hn6.cell 3 (.string ⟨#[]⟩) rfl
          have nf3 := hn6.free 3
          have nc4 := hn6.cell 4 (.string ⟨#[]⟩) rfl
          have nf4 := hn6.free 4
          have nc5 := hn6.cell 5 (.bool false) rfl
          have nf5 := hn6.free 5
          have hq0 := ((((((hn6.set 0 (.string (bs sc))).set 1 (.string (bs ho))).set 2 (.int .i64 po)).set 3 (.string (bs pa))).set 4 (.string (bs qu))).set 5 (.bool hq))
          simp only [List.setIfInBounds_toArray, List.set_cons_zero, List.set_cons_succ] at hq0
          have HQ0 := Lib.hid hq0; clear hq0
          have HBF : Hid (Below w.heap.size w ((((((w6.setCell ⟨w.heap.size, 0, none⟩ (.string (bs sc))).setCell ⟨w.heap.size, 1, none⟩ (.string (bs ho))).setCell ⟨w.heap.size, 2, none⟩ (.int .i64 po)).setCell ⟨w.heap.size, 3, none⟩ (.string (bs pa))).setCell ⟨w.heap.size, 4, none⟩ (.string (bs qu))).setCell ⟨w.heap.size, 5, none⟩ (.bool hq))) := ((((((HB6.out.setCell (p := ⟨w.heap.size, 0, none⟩) (Nat.le_refl _) (.string (bs sc))).setCell (p := ⟨w.heap.size, 1, none⟩) (Nat.le_refl _) (.string (bs ho))).setCell (p := ⟨w.heap.size, 2, none⟩) (Nat.le_refl _) (.int .i64 po)).setCell (p := ⟨w.heap.size, 3, none⟩) (Nat.le_refl _) (.string (bs pa))).setCell (p := ⟨w.heap.size, 4, none⟩) (Nat.le_refl _) (.string (bs qu))).setCell (p := ⟨w.heap.size, 5, none⟩) (Nat.le_refl _) (.bool hq))
          clear hn6
          go_wp2_with fail
          have m0 := HQ0.out.cell 0 (.string (bs sc)) rfl
          have m1 := HQ0.out.cell 1 (.string (bs ho)) rfl
          have m2 := HQ0.out.cell 2 (.int .i64 po) rfl
          have m3 := HQ0.out.cell 3 (.string (bs pa)) rfl
          have m4 := HQ0.out.cell 4 (.string (bs qu)) rfl
          have m5 := HQ0.out.cell 5 (.bool hq) rfl
          refine bodyPost_ret (v := .tuple #[.agg #[.string (bs sc), .string (bs ho), .int .i64 po, .string (bs pa), .string (bs qu), .bool hq], .int .i64 0]) (by simp [results, Tryz.results34, go_sem, m0, m1, m2, m3, m4, m5]) rfl ⟨?_, HBF.out⟩
          rfl
        · rw [if_neg hk0]
          have hkn : (k != 0) = true := bne_iff_ne.2 hk0
          clear hk0
          show Calls Tryz.prog 34 #[.string (bs s)] w fun e w' => e = .returned (.tuple #[.agg #[.string ⟨#[]⟩, .string ⟨#[]⟩, .int .i64 0, .string ⟨#[]⟩, .string ⟨#[]⟩, .bool false], .int .i64 k]) ∧ Below w.heap.size w w'
          go_enter Tryz.func34, Tryz.ntmps34
          go_wp2_with fail
          refine (cloneU_any _ _ HS.out).mono ?_
          rintro r w1 ⟨rfl, hb1⟩
          have HB1 := Lib.hid hb1; clear hb1
          go_wp2_with fail
          refine (HA.out _ HB1.out).mono ?_
          rintro r w2 ⟨rfl, hb2⟩
          have hB2 := HB1.out.trans (hb2.mono HB1.out.size)
          have HN2 := Lib.hid ((HBN.out.below hB2).alloc (.cells #[.string (bs sc), .string (bs ho), .int .i64 po, .string (bs pa), .string (bs qu), .bool hq] 23))
          have HM2 := Lib.hid (ubk.new w2 #[.string (bs sc), .string (bs ho), .int .i64 po, .string (bs pa), .string (bs qu), .bool hq] 23)
          have hal2 : Below w2.heap.size w2 (w2.alloc (.cells #[.string (bs sc), .string (bs ho), .int .i64 po, .string (bs pa), .string (bs qu), .bool hq] 23)) := (Below.refl _ _).alloc (Nat.le_refl _) _
          have HB3 := Lib.hid (hB2.trans (hal2.mono hB2.size))
          have HSZ2 := Lib.hid hB2.size
          clear hb2 hal2 hB2
          go_wp2_with fail
          refine (HWR.out _ HB3.out).mono ?_
          rintro r w4 ⟨rfl, hb4⟩
          have HB4 := Lib.hid (HB3.out.trans (hb4.mono HB3.out.size))
          have hn4 := HN2.out.below hb4
          have hm4 := HM2.out.below hb4
          clear hb4
          have gc0 := hm4.cell 0 (.string (bs sc)) rfl
          have gf0 := hm4.free 0
          have gc1 := hm4.cell 1 (.string (bs ho)) rfl
          have gf1 := hm4.free 1
          have gc2 := hm4.cell 2 (.int .i64 po) rfl
          have gf2 := hm4.free 2
          have gc3 := hm4.cell 3 (.string (bs pa)) rfl
          have gf3 := hm4.free 3
          have gc4 := hm4.cell 4 (.string (bs qu)) rfl
          have gf4 := hm4.free 4
          have gc5 := hm4.cell 5 (.bool hq) rfl
          have gf5 := hm4.free 5
          have HB5 := Lib.hid (HAL.out.trans (HB4.out.mono HAL.out.size))
          have HN5 := Lib.hid hn4; have HM5 := Lib.hid hm4; clear hn4 hm4
          go_wp2_with fail
          refine (HCK.out _ HB5.out).mono ?_
          rintro r w6 ⟨rfl, hb6⟩
          have hn6 := HN5.out.below hb6
          have hm6 := HM5.out.below hb6
          have HB6 := Lib.hid (HB5.out.trans (hb6.mono HB5.out.size)); clear hb6 gc0 gf0 gc1 gf1 gc2 gf2 gc3 gf3 gc4 gf4 gc5 gf5
          clear hm6
          have nc0 := hn6.cell 0 (.string ⟨#[]⟩) rfl
          have nf0 := hn6.free 0
          have nc1 := hn6.cell 1 (.string ⟨#[]⟩) rfl
          have nf1 := hn6.free 1
          have nc2 := hn6.cell 2 (.int .i64 0) rfl
          have nf2 := hn6.free 2
          have nc3 := hn6.cell 3 (.string ⟨#[]⟩) rfl
          have nf3 := hn6.free 3
          have nc4 := hn6.cell 4 (.string ⟨#[]⟩) rfl
          have nf4 := hn6.free 4
          have nc5 := hn6.cell 5 (.bool false) rfl
          have nf5 := hn6.free 5
          have hq0 := ((((((hn6.set 0 (.string ⟨#[]⟩)).set 1 (.string ⟨#[]⟩)).set 2 (.int .i64 0)).set 3 (.string ⟨#[]⟩)).set 4 (.string ⟨#[]⟩)).set 5 (.bool false))
          simp only [List.setIfInBounds_toArray, List.set_cons_zero, List.set_cons_succ] at hq0
          have HQ0 := Lib.hid hq0; clear hq0
          have HBF : Hid (Below w.heap.size w ((((((w6.setCell ⟨w.heap.size, 0, none⟩ (.string ⟨#[]⟩)).setCell ⟨w.heap.size, 1, none⟩ (.string ⟨#[]⟩)).setCell ⟨w.heap.size, 2, none⟩ (.int .i64 0)).setCell ⟨w.heap.size, 3, none⟩ (.string ⟨#[]⟩)).setCell ⟨w.heap.size, 4, none⟩ (.string ⟨#[]⟩)).setCell ⟨w.heap.size, 5, none⟩ (.bool false))) := ((((((HB6.out.setCell (p := ⟨w.heap.size, 0, none⟩) (Nat.le_refl _) (.string ⟨#[]⟩)).setCell (p := ⟨w.heap.size, 1, none⟩) (Nat.le_refl _) (.string ⟨#[]⟩)).setCell (p := ⟨w.heap.size, 2, none⟩) (Nat.le_refl _) (.int .i64 0)).setCell (p := ⟨w.heap.size, 3, none⟩) (Nat.le_refl _) (.string ⟨#[]⟩)).setCell (p := ⟨w.heap.size, 4, none⟩) (Nat.le_refl _) (.string ⟨#[]⟩)).setCell (p := ⟨w.heap.size, 5, none⟩) (Nat.le_refl _) (.bool false))
          clear hn6
          go_wp2_with fail
          have m0 := HQ0.out.cell 0 (.string ⟨#[]⟩) rfl
          have m1 := HQ0.out.cell 1 (.string ⟨#[]⟩) rfl
          have m2 := HQ0.out.cell 2 (.int .i64 0) rfl
          have m3 := HQ0.out.cell 3 (.string ⟨#[]⟩) rfl
          have m4 := HQ0.out.cell 4 (.string ⟨#[]⟩) rfl
          have m5 := HQ0.out.cell 5 (.bool false) rfl
          refine bodyPost_ret (v := .tuple #[.agg #[.string ⟨#[]⟩, .string ⟨#[]⟩, .int .i64 0, .string ⟨#[]⟩, .string ⟨#[]⟩, .bool false], .int .i64 k]) (by simp [results, Tryz.results34, go_sem, m0, m1, m2, m3, m4, m5]) rfl ⟨?_, HBF.out⟩
          rfl
    · rw [if_neg htt]
      have htx2 : ((bs t).toList == (bs s).toList) = false := by rw [htx]; exact beq_eq_false_iff_ne.2 htt
      clear htx htt
      show Calls Tryz.prog 34 #[.string (bs s)] w fun e w' => e = .returned (.tuple #[.agg #[.string ⟨#[]⟩, .string ⟨#[]⟩, .int .i64 0, .string ⟨#[]⟩, .string ⟨#[]⟩, .bool false], .int .i64 4]) ∧ Below w.heap.size w w'
      go_enter Tryz.func34, Tryz.ntmps34
      go_wp2_with fail
      refine (cloneU_any _ _ HS.out).mono ?_
      rintro r w1 ⟨rfl, hb1⟩
      have HB1 := Lib.hid hb1; clear hb1
      go_wp2_with fail
      refine (HA.out _ HB1.out).mono ?_
      rintro r w2 ⟨rfl, hb2⟩
      have hB2 := HB1.out.trans (hb2.mono HB1.out.size)
      have HN2 := Lib.hid ((HBN.out.below hB2).alloc (.cells #[.string (bs sc), .string (bs ho), .int .i64 po, .string (bs pa), .string (bs qu), .bool hq] 23))
      have HM2 := Lib.hid (ubk.new w2 #[.string (bs sc), .string (bs ho), .int .i64 po, .string (bs pa), .string (bs qu), .bool hq] 23)
      have hal2 : Below w2.heap.size w2 (w2.alloc (.cells #[.string (bs sc), .string (bs ho), .int .i64 po, .string (bs pa), .string (bs qu), .bool hq] 23)) := (Below.refl _ _).alloc (Nat.le_refl _) _
      have HB3 := Lib.hid (hB2.trans (hal2.mono hB2.size))
      have HSZ2 := Lib.hid hB2.size
      clear hb2 hal2 hB2
      go_wp2_with fail
      refine (HWR.out _ HB3.out).mono ?_
      rintro r w4 ⟨rfl, hb4⟩
      have HB4 := Lib.hid (HB3.out.trans (hb4.mono HB3.out.size))
      have hn4 := HN2.out.below hb4
      have hm4 := HM2.out.below hb4
      clear hb4
      have nc0 := hn4.cell 0 (.string ⟨#[]⟩) rfl
      have nf0 := hn4.free 0
      have nc1 := hn4.cell 1 (.string ⟨#[]⟩) rfl
      have nf1 := hn4.free 1
      have nc2 := hn4.cell 2 (.int .i64 0) rfl
      have nf2 := hn4.free 2
      have nc3 := hn4.cell 3 (.string ⟨#[]⟩) rfl
      have nf3 := hn4.free 3
      have nc4 := hn4.cell 4 (.string ⟨#[]⟩) rfl
      have nf4 := hn4.free 4
      have nc5 := hn4.cell 5 (.bool false) rfl
      have nf5 := hn4.free 5
      have hq0 := ((((((hn4.set 0 (.string ⟨#[]⟩)).set 1 (.string ⟨#[]⟩)).set 2 (.int .i64 0)).set 3 (.string ⟨#[]⟩)).set 4 (.string ⟨#[]⟩)).set 5 (.bool false))
      simp only [List.setIfInBounds_toArray, List.set_cons_zero, List.set_cons_succ] at hq0
      have HQ0 := Lib.hid hq0; clear hq0
      have HBF : Hid (Below w.heap.size w ((((((w4.setCell ⟨w.heap.size, 0, none⟩ (.string ⟨#[]⟩)).setCell ⟨w.heap.size, 1, none⟩ (.string ⟨#[]⟩)).setCell ⟨w.heap.size, 2, none⟩ (.int .i64 0)).setCell ⟨w.heap.size, 3, none⟩ (.string ⟨#[]⟩)).setCell ⟨w.heap.size, 4, none⟩ (.string ⟨#[]⟩)).setCell ⟨w.heap.size, 5, none⟩ (.bool false))) := (((((((HAL.out.trans (HB4.out.mono HAL.out.size)).setCell (p := ⟨w.heap.size, 0, none⟩) (Nat.le_refl _) (.string ⟨#[]⟩)).setCell (p := ⟨w.heap.size, 1, none⟩) (Nat.le_refl _) (.string ⟨#[]⟩)).setCell (p := ⟨w.heap.size, 2, none⟩) (Nat.le_refl _) (.int .i64 0)).setCell (p := ⟨w.heap.size, 3, none⟩) (Nat.le_refl _) (.string ⟨#[]⟩)).setCell (p := ⟨w.heap.size, 4, none⟩) (Nat.le_refl _) (.string ⟨#[]⟩)).setCell (p := ⟨w.heap.size, 5, none⟩) (Nat.le_refl _) (.bool false))
      clear hn4
      go_wp2_with fail
      have m0 := HQ0.out.cell 0 (.string ⟨#[]⟩) rfl
      have m1 := HQ0.out.cell 1 (.string ⟨#[]⟩) rfl
      have m2 := HQ0.out.cell 2 (.int .i64 0) rfl
      have m3 := HQ0.out.cell 3 (.string ⟨#[]⟩) rfl
      have m4 := HQ0.out.cell 4 (.string ⟨#[]⟩) rfl
      have m5 := HQ0.out.cell 5 (.bool false) rfl
      refine bodyPost_ret (v := .tuple #[.agg #[.string ⟨#[]⟩, .string ⟨#[]⟩, .int .i64 0, .string ⟨#[]⟩, .string ⟨#[]⟩, .bool false], .int .i64 4]) (by simp [results, Tryz.results34, go_sem, m0, m1, m2, m3, m4, m5]) rfl ⟨?_, HBF.out⟩
      rfl
end Go.Proofs.YtekaiafhnnpkgaaGreatDoor
