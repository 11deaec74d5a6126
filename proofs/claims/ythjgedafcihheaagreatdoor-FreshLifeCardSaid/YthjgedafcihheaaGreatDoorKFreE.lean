/- Fresh, of both; whether an entry is gone through. -/
import Derived.Test.YthjgedafcihheaaGreatDoorKFreB
import Derived.Test.YthjgedafcihheaaGreatDoorKFreD
namespace Go.Proofs.YthjgedafcihheaaGreatDoor
open Go.RowKit

variable {st mi asked got Y : Int} {re bo : ByteArray} {fs : Value} {vA : Option Addr} {vn vc : Nat} {l : List Fld}

set_option maxRecDepth 100000 in
set_option maxHeartbeats 2000000 in
theorem fresh_any (now : Int) (dev : List UInt8) (w : World) (h : EnW w fs l asked got Y) (hn : now ≤ 9223372036854775807) :
    Calls Tryz.prog 16 #[.agg #[.int .i64 st, .string re, .int .i64 mi, fs, .string bo, .int .i64 asked, .int .i64 got, .slice vA vn vc], .int .i64 now, .string (bs dev)] w fun e w' => e = .returned (.bool (decide (ageI Y l asked got now < lifeI Y l got dev))) ∧ Below w.heap.size w w' := by
  have hx : Below w.heap.size w (w.alloc (.cells #[.int .i64 st, .string re, .int .i64 mi, fs, .string bo, .int .i64 asked, .int .i64 got, .slice vA vn vc] 26)) := (Below.refl _ _).alloc (Nat.le_refl _) _
  have hd := dbk.new w #[.int .i64 st, .string re, .int .i64 mi, fs, .string bo, .int .i64 asked, .int .i64 got, .slice vA vn vc] 26
  have hag := fun W (h : EnW W fs l asked got Y) => age_any (st := st) (mi := mi) (re := re) (bo := bo) (vA := vA) (vn := vn) (vc := vc) now W h hn
  have hli := fun W (h : EnW W fs l asked got Y) => life_any (st := st) (mi := mi) (re := re) (bo := bo) (vA := vA) (vn := vn) (vc := vc) dev W h
  have HAG := Lib.hid hag; have HLI := Lib.hid hli; have HX := Lib.hid hx; have HD := Lib.hid hd; have HEC := Lib.hid (h.bel hx)
  clear hx hd h hag hli hn
  generalize ageI Y l asked got now = A at *
  generalize lifeI Y l got dev = N at *
  go_enter Tryz.func16, Tryz.ntmps16
  go_wp2_with fail
  generalize w.alloc (.cells #[.int .i64 st, .string re, .int .i64 mi, fs, .string bo, .int .i64 asked, .int .i64 got, .slice vA vn vc] 26) = C at *
  refine wp_region_growS (.one 0 false (.one 1 false (.one 3 false (.one 4 false (.one 2 true (.one 5 true (.one 6 false (.one 7 false .done))))))))
    (fun W => Below C.heap.size C W) (by kernel_rfl) (by kernel_rfl) rfl (by kernel_rfl) (by kernel_rfl) ((Below.refl _ _).drew) (fun ops hops => ?_)
  simp only [GT.ins, List.getD_cons_zero, List.getD_cons_succ]
  clear hops
  iterate 4
    refine growS_take (by rfl) ?_
    apply Exists.intro
    refine ⟨fun w' hE => ?_, ?_⟩
    · obtain ⟨y0, y1, y2, y3, y4, y5, y6, y7⟩ := (HD.out.below hE).eight
      go_simp
      try with_reducible rfl
    simp only [Act.put, List.setIfInBounds_toArray, List.set_cons_zero, List.set_cons_succ]
  refine growS_call (by rfl) (fun K hK => ?_)
  go_simp
  refine (HAG.out _ (HEC.out.bel ((Below.refl _ _).drew : Below C.heap.size C C.drew))).mono ?_
  rintro e x1 ⟨rfl, hb⟩
  have hz : Below C.heap.size C x1 := (Below.refl _ _).drew.trans hb
  have HZ1 := Lib.hid hz
  refine hK.out _ _ hz ?_
  clear hK K hb hz
  refine growS_call (by rfl) (fun K hK => ?_)
  go_simp
  refine (HLI.out _ (HEC.out.bel HZ1.out)).mono ?_
  rintro e x2 ⟨rfl, hb⟩
  have hz := HZ1.out.trans (hb.mono HZ1.out.size)
  have HZ2 := Lib.hid hz
  refine hK.out _ _ hz ?_
  clear hK K hb hz HZ1
  iterate 2
    refine growS_take (by rfl) ?_
    apply Exists.intro
    refine ⟨fun w' hE => ?_, ?_⟩
    · obtain ⟨y0, y1, y2, y3, y4, y5, y6, y7⟩ := (HD.out.below hE).eight
      go_simp
      try with_reducible rfl
    simp only [Act.put, List.setIfInBounds_toArray, List.set_cons_zero, List.set_cons_succ]
  refine growS_done (NoPanic.normal ?_)
  go_wp2_with fail
  go_ret
  exact ⟨rfl, HX.out.trans (HZ2.out.mono HX.out.size)⟩

set_option maxRecDepth 100000 in
set_option maxHeartbeats 2000000 in
theorem rfresh_any (now : Int) (dev : List UInt8) (w : World) (h : EnW w fs l asked got Y) (hn0 : -9223372036854775808 ≤ now) (hn : now ≤ 9223372036854775807) :
    Calls Tryz.prog 17 #[.agg #[.int .i64 st, .string re, .int .i64 mi, fs, .string bo, .int .i64 asked, .int .i64 got, .slice vA vn vc], .int .i64 now, .string (bs dev)] w fun e w' => e = .returned (.bool (decide (ageI Y l asked got now < lifeI Y l got dev))) ∧ Below w.heap.size w w' := by
  have hx : Below w.heap.size w (w.alloc (.cells #[.int .i64 st, .string re, .int .i64 mi, fs, .string bo, .int .i64 asked, .int .i64 got, .slice vA vn vc] 26)) := (Below.refl _ _).alloc (Nat.le_refl _) _
  have hd := dbk.new w #[.int .i64 st, .string re, .int .i64 mi, fs, .string bo, .int .i64 asked, .int .i64 got, .slice vA vn vc] 26
  have hag := fun W (h : EnW W fs l asked got Y) => rage_any (st := st) (mi := mi) (re := re) (bo := bo) (vA := vA) (vn := vn) (vc := vc) now W h hn0 hn
  have hli := fun W (h : EnW W fs l asked got Y) => rlife_any (st := st) (mi := mi) (re := re) (bo := bo) (vA := vA) (vn := vn) (vc := vc) dev W h
  have HAG := Lib.hid hag; have HLI := Lib.hid hli; have HX := Lib.hid hx; have HD := Lib.hid hd; have HEC := Lib.hid (h.bel hx)
  clear hx hd h hag hli hn0 hn
  generalize ageI Y l asked got now = A at *
  generalize lifeI Y l got dev = N at *
  go_enter Tryz.func17, Tryz.ntmps17
  go_wp2_with fail
  generalize w.alloc (.cells #[.int .i64 st, .string re, .int .i64 mi, fs, .string bo, .int .i64 asked, .int .i64 got, .slice vA vn vc] 26) = C at *
  refine wp_region_growS (.one 0 false (.one 1 false (.one 3 false (.one 4 false (.one 2 true (.one 5 true (.one 6 false (.one 7 false .done))))))))
    (fun W => Below C.heap.size C W) (by kernel_rfl) (by kernel_rfl) rfl (by kernel_rfl) (by kernel_rfl) ((Below.refl _ _).drew) (fun ops hops => ?_)
  simp only [GT.ins, List.getD_cons_zero, List.getD_cons_succ]
  clear hops
  iterate 4
    refine growS_take (by rfl) ?_
    apply Exists.intro
    refine ⟨fun w' hE => ?_, ?_⟩
    · obtain ⟨y0, y1, y2, y3, y4, y5, y6, y7⟩ := (HD.out.below hE).eight
      go_simp
      try with_reducible rfl
    simp only [Act.put, List.setIfInBounds_toArray, List.set_cons_zero, List.set_cons_succ]
  refine growS_call (by rfl) (fun K hK => ?_)
  go_simp
  refine (HAG.out _ (HEC.out.bel ((Below.refl _ _).drew : Below C.heap.size C C.drew))).mono ?_
  rintro e x1 ⟨rfl, hb⟩
  have hz : Below C.heap.size C x1 := (Below.refl _ _).drew.trans hb
  have HZ1 := Lib.hid hz
  refine hK.out _ _ hz ?_
  clear hK K hb hz
  refine growS_call (by rfl) (fun K hK => ?_)
  go_simp
  refine (HLI.out _ (HEC.out.bel HZ1.out)).mono ?_
  rintro e x2 ⟨rfl, hb⟩
  have hz := HZ1.out.trans (hb.mono HZ1.out.size)
  have HZ2 := Lib.hid hz
  refine hK.out _ _ hz ?_
  clear hK K hb hz HZ1
  iterate 2
    refine growS_take (by rfl) ?_
    apply Exists.intro
    refine ⟨fun w' hE => ?_, ?_⟩
    · obtain ⟨y0, y1, y2, y3, y4, y5, y6, y7⟩ := (HD.out.below hE).eight
      go_simp
      try with_reducible rfl
    simp only [Act.put, List.setIfInBounds_toArray, List.set_cons_zero, List.set_cons_succ]
  refine growS_done (NoPanic.normal ?_)
  go_wp2_with fail
  go_ret
  exact ⟨rfl, HX.out.trans (HZ2.out.mono HX.out.size)⟩

/-! Few. -/
def fewE (l : List Fld) : Bool := (l.take 90).all (fun f => decide (f.1.length + f.2.length ≤ 2000)) && decide (l.length ≤ 80)
theorem fewE_small {l : List Fld} (h : fewE l = true) : l.length ≤ 80 ∧ ∀ f ∈ l, f.1.length ≤ 2000 ∧ f.2.length ≤ 2000 := by
  unfold fewE at h
  simp only [Bool.and_eq_true, decide_eq_true_eq, List.all_eq_true] at h
  refine ⟨h.2, fun x hx => ?_⟩
  rw [List.take_of_length_le (by omega)] at h
  have := h.1 x hx
  omega
theorem fewE_fe {l : List Fld} (h : fewE l = true) : Fe l := by
  obtain ⟨a, b⟩ := fewE_small h
  exact ⟨by omega, fun f hf => by have := b f hf; omega⟩
set_option maxRecDepth 100000 in
set_option maxHeartbeats 2000000 in
theorem fewE_any (w : World) (hv : FL w fs l) (hs : ∀ j (hj : j < l.length), l[j].1.length ≤ 140737488351232 ∧ l[j].2.length ≤ 140737488351232) (hl : l.length ≤ 9223372036854775807) :
    Calls Tryz.prog 8 #[.agg #[.int .i64 st, .string re, .int .i64 mi, fs, .string bo, .int .i64 asked, .int .i64 got, .slice vA vn vc]] w fun e w' => e = .returned (.bool (fewE l)) ∧ Below w.heap.size w w' := by
  have hx : Below w.heap.size w (w.alloc (.cells #[.int .i64 st, .string re, .int .i64 mi, fs, .string bo, .int .i64 asked, .int .i64 got, .slice vA vn vc] 26)) := (Below.refl _ _).alloc (Nat.le_refl _) _
  have hd := dbk.new w #[.int .i64 st, .string re, .int .i64 mi, fs, .string bo, .int .i64 asked, .int .i64 got, .slice vA vn vc] 26
  obtain ⟨A, cf, rfl⟩ := hv.form
  have HV := Lib.hid (hv.bel hx); have HX := Lib.hid hx
  clear hv hx hd
  go_enter Tryz.func8, Tryz.ntmps8
  go_wp2_with fail
  generalize w.alloc (.cells #[.int .i64 st, .string re, .int .i64 mi, .slice A l.length cf, .string bo, .int .i64 asked, .int .i64 got, .slice vA vn vc] 26) = C at *
  go_loopw [4] (fun i wr => ∃ k : Nat, k ≤ l.length ∧ k ≤ 90 ∧ i = .int .i64 k ∧ Hid (Below C.heap.size C wr) ∧ (l.take k).all (fun f => decide (f.1.length + f.2.length ≤ 2000)) = true) (fun i _ => l.length - (intOf i).toNat)
  case atStart => exact ⟨0, Nat.zero_le _, Nat.zero_le _, rfl, Below.refl _ _, rfl⟩
  case round =>
    obtain ⟨k, hk, hk3, rfl, HB, ha⟩ := hrel
    have HA := Lib.hid ha; clear ha
    by_cases hlt : k < l.length
    · by_cases h30 : k < 90
      · obtain ⟨b, off, rfl, hbl, c0, c1⟩ := (HV.out.bel HB.out).get k hlt
        obtain ⟨z0, z1⟩ := hs k hlt
        have hst : l.take (k + 1) = l.take k ++ [l[k]] := List.take_succ_eq_append_getElem hlt
        have hin : l[k] ∈ l.take 90 := by
          rw [List.mem_take_iff_getElem]
          exact ⟨k, by omega, rfl⟩
        have hno : ¬ (l[k].1.length + l[k].2.length ≤ 2000) → fewE l = false := by
          intro h
          unfold fewE
          rw [Bool.and_eq_false_iff]
          left
          rw [List.all_eq_false]
          exact ⟨l[k], hin, by simpa using h⟩
        have hyes : l[k].1.length + l[k].2.length ≤ 2000 → (l.take (k + 1)).all (fun f => decide (f.1.length + f.2.length ≤ 2000)) = true := by
          intro h1
          rw [hst, List.all_append, HA.out]
          simp [h1]
        generalize l[k] = f at *
        obtain ⟨n, x⟩ := f
        simp only at hno hyes c0 c1 z0 z1
        clear hst hin
        have hw : IntKind.i64.wrap ((n.length : Int) + (x.length : Int)) = (n.length : Int) + (x.length : Int) := IntWalk.i64_in _ (by omega)
        by_cases hb1 : 2000 < n.length + x.length
        · have HNO := Lib.hid (hno (by omega))
          have hd : (2000 : Int) < (n.length : Int) + (x.length : Int) := by omega
          clear hno hyes hb1
          go_wp2_with fail
          go_quiet (fail)
          go_wp2_with fail
          go_ret
          exact ⟨ret_bool HNO.out.symm, HX.out.trans ((below_drewN HB.out _).mono HX.out.size)⟩
        · have hd : ¬ (2000 : Int) < (n.length : Int) + (x.length : Int) := by omega
          have HS2 := Lib.hid (hyes (by omega))
          clear hno hyes hb1
          go_wp2_with fail
          go_quiet (fail)
          go_wp2_with fail
          go_roundw
          case rel => exact ⟨k + 1, by omega, by omega, by go_num, below_drewN HB.out _, HS2.out⟩
          case measure => simp [intOf]; omega
      · have hE : fewE l = false := by
          unfold fewE
          rw [Bool.and_eq_false_iff]
          right
          exact decide_eq_false (by omega)
        have HE := Lib.hid hE; clear hE
        have hd : ¬ (k : Int) < 90 := by omega
        have hbig : ¬ (l.length : Int) ≤ 80 := by omega
        go_wp2_with fail
        go_ret
        exact ⟨ret_bool HE.out.symm, HX.out.trans (HB.out.mono HX.out.size)⟩
    · have hE : fewE l = decide ((l.length : Int) ≤ 80) := by
        unfold fewE
        have h := HA.out
        rw [List.take_of_length_le (by omega)] at h
        rw [List.take_of_length_le (by omega), h, Bool.true_and]
        congr 1
        simp; omega
      have HE := Lib.hid hE; clear hE
      by_cases h12 : (l.length : Int) ≤ 80
      · go_wp2_with fail
        go_ret
        exact ⟨ret_bool (by rw [HE.out]; simp [h12]), HX.out.trans (HB.out.mono HX.out.size)⟩
      · go_wp2_with fail
        go_ret
        exact ⟨ret_bool (by rw [HE.out]; simp [h12]), HX.out.trans (HB.out.mono HX.out.size)⟩
end Go.Proofs.YthjgedafcihheaaGreatDoor
