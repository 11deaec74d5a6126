/- The statement FreshAhead. -/
import Derived.Test.YthjgedafcihheaaGreatDoorKFreJ
import Derived.Test.YthjgedafcihheaaGreatDoorKPut
namespace Go.Proofs.YthjgedafcihheaaGreatDoor
open Go.RowKit

theorem without_len (l : List Fld) (n : List UInt8) (vs : List (List UInt8)) : (withoutL l n vs).length ≤ l.length + vs.length := by
  unfold withoutL
  rw [List.length_append, List.length_map]
  have := List.length_filter_le (fun f : Fld => !sameN f.1 n) l
  omega
theorem tabs2_of {W : World} {l : List (String × DataW Unit)} (h : laidMetH Tryz.prog l W)
    (hf : (l.filter (fun x => x.1 == "internal/strconv.uint64pow10"), l.filter (fun x => x.1 == "strings.asciiSpace")) =
      ([("internal/strconv.uint64pow10", Lib.tabData .u64 Lib.pow10Tab)], [("strings.asciiSpace", Lib.tabData .u8 Lib.asciiSpaceTab)])) : Tab W ∧ Tabs W :=
  ⟨tab_of h (Prod.mk.inj hf).1, tabs_of h (Prod.mk.inj hf).2⟩
theorem u32_bdN {n : Int} (h : (Lit.int .u32 n).wf = true) : 0 ≤ n ∧ n ≤ 4294967295 := by
  simp [Lit.wf, IntKind.min, IntKind.max, IntKind.bits, IntKind.signed] at h
  omega
variable {st mi asked got Y : Int} {re bo : ByteArray} {fs : Value} {vA : Option Addr} {vn vc : Nat} {l : List Fld}

set_option maxRecDepth 100000 in
set_option maxHeartbeats 8000000 in
theorem freshAhead_law (age : Int) (v : Value) (vs : List (List UInt8)) (w : World) (hin : InN w fs l asked got) (hsz : ∀ j (hj : j < l.length), l[j].1.length ≤ 140737488351232 ∧ l[j].2.length ≤ 140737488351232) (hage : (Lit.int .u32 age).wf = true) (hv : SL w v vs) (hvs : ∀ j (hj : j < vs.length), vs[j].length ≤ 9223372036854775807) (hvl : vs.length ≤ 9223372036854775807) (hm : MaxD w) (ht : Tab w ∧ Tabs w) :
    Calls Tryz.prog 7 #[.agg #[.int .i64 st, .string re, .int .i64 mi, fs, .string bo, .int .i64 asked, .int .i64 got, .slice vA vn vc], .int .u32 age, v] w fun e w' => e = .returned (.bool true) ∧ Below w.heap.size w w' := by
  obtain ⟨va, vcap, rfl⟩ := hv.form
  obtain ⟨fA, fc, rfl⟩ := hin.fl.form
  have hx : Below w.heap.size w (w.alloc (.cells #[.int .i64 st, .string re, .int .i64 mi, .slice fA l.length fc, .string bo, .int .i64 asked, .int .i64 got, .slice vA vn vc] 26)) := (Below.refl _ _).alloc (Nat.le_refl _) _
  have hd := dbk.new w #[.int .i64 st, .string re, .int .i64 mi, .slice fA l.length fc, .string bo, .int .i64 asked, .int .i64 got, .slice vA vn vc] 26
  have HF := Lib.hid (fewE_any (st := st) (mi := mi) (re := re) (bo := bo) (vA := vA) (vn := vn) (vc := vc) (asked := asked) (got := got) (w.alloc (.cells #[.int .i64 st, .string re, .int .i64 mi, .slice fA l.length fc, .string bo, .int .i64 asked, .int .i64 got, .slice vA vn vc] 26)) (hin.fl.bel hx) hsz hin.len)
  have HX := Lib.hid hx; have HM := Lib.hid hm; have HT := Lib.hid ht; have HD := Lib.hid hd; have HV := Lib.hid hv
  obtain ⟨a0, a1⟩ := i64_bd hin.wa
  obtain ⟨g0, g1⟩ := i64_bd hin.wg
  have hg0 := u32_bdN hage
  have hfl := hin.fl
  clear hx hd hage
  have hawk : ∀ W, Below w.heap.size w W → Calls Tryz.prog 9 #[] W fun e w' => e = .returned (.bool true) ∧ Below W.heap.size W w' := fun W hb => awake_any W (hm.bel hb) (ht.2.below hb)
  have HAW := Lib.hid hawk
  cases hq : fewE l
  · rw [hq] at HF
    clear hq hin hsz hm ht hfl hawk hv
    go_enter Tryz.func7, Tryz.ntmps7
    go_wp2_with fail
    refine HF.out.mono ?_
    rintro e w1 ⟨rfl, hb⟩
    have HB1 := Lib.hid (HX.out.trans (hb.mono HX.out.size)); clear hb
    go_wp2_with fail
    refine (HAW.out _ HB1.out).mono ?_
    rintro e w2 ⟨rfl, hb⟩
    have HB2 := Lib.hid (HB1.out.trans (hb.mono HB1.out.size)); clear hb
    go_wp2_with fail
    go_ret
    exact ⟨rfl, HB2.out⟩
  · rw [hq] at HF
    obtain ⟨hl80, hsm⟩ := fewE_small hq
    have hfe := fewE_fe hq
    by_cases h3 : 3 < vs.length
    · have hi : (3 : Int) < (vs.length : Int) := by omega
      clear hq hin hsz hm ht hfl hawk hv
      go_enter Tryz.func7, Tryz.ntmps7
      go_wp2_with fail
      refine HF.out.mono ?_
      rintro e w1 ⟨rfl, hb⟩
      have HB1 := Lib.hid (HX.out.trans (hb.mono HX.out.size)); clear hb
      go_wp2_with fail
      refine (HAW.out _ HB1.out).mono ?_
      rintro e w2 ⟨rfl, hb⟩
      have HB2 := Lib.hid (HB1.out.trans (hb.mono HB1.out.size)); clear hb
      go_wp2_with fail
      go_ret
      exact ⟨rfl, HB2.out⟩
    · have hi : ¬ (3 : Int) < (vs.length : Int) := by omega
      go_enter Tryz.func7, Tryz.ntmps7
      go_wp2_with fail
      refine HF.out.mono ?_
      rintro e w1 ⟨rfl, hb⟩
      have HB1 := Lib.hid (HX.out.trans (hb.mono HX.out.size)); have HD1 := Lib.hid (HD.out.below hb)
      clear hb HF HX HD
      go_wp2_with fail
      go_loop [7] (fun i => ∃ k : Nat, k ≤ vs.length ∧ i = .int .i64 k ∧ Hid (∀ x ∈ vs.take k, x.length ≤ 300)) (fun i => vs.length - (intOf i).toNat)
      case atStart => exact ⟨0, Nat.zero_le _, rfl, fun x hx => by simp at hx⟩
      case round =>
        obtain ⟨k, hk, rfl, HK⟩ := hrel
        by_cases hlt : k < vs.length
        · obtain ⟨b, off, rfl, hbb, hc⟩ := (HV.out.bel HB1.out).get k hlt
          have hz := hvs k hlt
          have hst : vs.take (k + 1) = vs.take k ++ [vs[k]] := List.take_succ_eq_append_getElem hlt
          have hki : (k : Int) < (vs.length : Int) := by omega
          generalize vs[k] = x at *
          by_cases hbig : 300 < x.length
          · have hd : (300 : Int) < (x.length : Int) := by omega
            clear hst hbig hin hsz hm ht hfl hawk hvs
            go_wp2_with fail
            refine (HAW.out _ HB1.out).mono ?_
            rintro e w2 ⟨rfl, hb⟩
            have HB2 := Lib.hid (HB1.out.trans (hb.mono HB1.out.size)); clear hb
            go_wp2_with fail
            go_ret
            exact ⟨rfl, HB2.out⟩
          · have hd : ¬ (300 : Int) < (x.length : Int) := by omega
            have HK2 : Hid (∀ y ∈ vs.take (k + 1), y.length ≤ 300) := fun y hy => by
              rw [hst] at hy
              rcases List.mem_append.1 hy with h1 | h1
              · exact HK.out y h1
              · rw [List.mem_singleton.1 h1]; omega
            clear hst hbig
            go_wp2_with fail
            go_round
            case rel => exact ⟨k + 1, by omega, by go_num, HK2⟩
            case measure => simp [intOf]; omega
        · have hki : ¬ (k : Int) < (vs.length : Int) := by omega
          have hall : ∀ x ∈ vs, x.length ≤ 300 := by
            have h := HK.out
            rw [List.take_of_length_le (by omega)] at h
            exact h
          clear HK
          obtain ⟨Y, mm, dd, hh, ii, ss, HY⟩ := clamp_ex got
          obtain ⟨la, hla⟩ : ∃ la, la = withoutL l scN [mageT (putTk age)] := ⟨_, rfl⟩
          obtain ⟨lb, hlb⟩ : ∃ lb, lb = withoutL la ccN vs := ⟨_, rfl⟩
          obtain ⟨lc, hlc⟩ : ∃ lc, lc = withoutL lb exN vs := ⟨_, rfl⟩
          obtain ⟨ld, hld⟩ : ∃ ld, ld = withoutL l scN vs := ⟨_, rfl⟩
          have hma : (mageT (putTk age)).length ≤ 18 := by
            have := put_short age
            unfold mageT maxN
            simp only [List.length_append, List.length_cons, List.length_nil]
            omega
          have ka : la.length ≤ 81 := by rw [hla]; have := without_len l scN [mageT (putTk age)]; simp only [List.length_cons, List.length_nil] at this; omega
          have kb : lb.length ≤ 84 := by rw [hlb]; have := without_len la ccN vs; omega
          have fa : Fe la := by rw [hla]; exact fe_without (by omega) hfe.2 (by decide) (fun x hx => by rw [List.mem_singleton.1 hx]; omega) (by simp)
          have fb : Fe lb := by rw [hlb]; exact fe_without (by omega) fa.2 (by decide) (fun x hx => by have := hall x hx; omega) (by omega)
          have fcc : Fe lc := by rw [hlc]; exact fe_without (by omega) fb.2 (by decide) (fun x hx => by have := hall x hx; omega) (by omega)
          have fd : Fe ld := by rw [hld]; exact fe_without (by omega) hfe.2 (by decide) (fun x hx => by have := hall x hx; omega) (by omega)
          have q1 : ctlE la [100] = ofC [mageT (putTk age)] [100] := by rw [hla]; exact ctl_with [100]
          have q2 : ctlE lb [100] = ctlE la [100] := by rw [hlb]; exact ctl_without [100] (by decide)
          have q3 : ctlE lc [100] = ctlE lb [100] := by rw [hlc]; exact ctl_without [100] (by decide)
          obtain ⟨m1, m2⟩ := mage_ctl age
          have La : lifeI Y la got [100] = ofI age := by rw [life_ctl (by rw [q1]; exact m1), q1, m2]
          have Lb : lifeI Y lb got [100] = ofI age := by rw [life_ctl (by rw [q2, q1]; exact m1), q2, q1, m2]
          have Lc : lifeI Y lc got [100] = ofI age := by rw [life_ctl (by rw [q3, q2, q1]; exact m1), q3, q2, q1, m2]
          have Ga : ageI Y la asked got got = ageI Y l asked got got := by rw [hla]; exact age_without _ _ _ (by decide) (by decide)
          have Gd : ageI Y ld asked got got = ageI Y l asked got got := by rw [hld]; exact age_without _ _ _ (by decide) (by decide)
          have hen : ∀ (L : List Fld) (hf : Fe L) (W : World) (A : Option Addr) (c : Nat), FL W (.slice A L.length c) L → Below w.heap.size w W → EnW W (.slice A L.length c) L asked got Y := fun L hf W A c hv hb => ⟨hv, hf, hm.bel hb, ht.2.below hb, ⟨_, _, _, _, _, HY⟩, a0, a1, g0, g1⟩
          have hli := fun (L : List Fld) (hf : Fe L) (W : World) (A : Option Addr) (c : Nat) (hv : FL W (.slice A L.length c) L) (hb : Below w.heap.size w W) => life_any (st := st) (mi := mi) (re := re) (bo := bo) (vA := vA) (vn := vn) (vc := vc) [100] W (hen L hf W A c hv hb)
          have hag := fun (L : List Fld) (hf : Fe L) (W : World) (A : Option Addr) (c : Nat) (hv : FL W (.slice A L.length c) L) (hb : Below w.heap.size w W) => age_any (st := st) (mi := mi) (re := re) (bo := bo) (vA := vA) (vn := vn) (vc := vc) got W (hen L hf W A c hv hb) g1
          have hLA := hli la fa
          have hLB := hli lb fb
          have hLC := hli lc fcc
          have hGA := hag la fa
          have hGD := hag ld fd
          have hGE := fun W (hb : Below w.heap.size w W) => hag l hfe W fA fc (hfl.bel hb) hb
          rw [La] at hLA
          rw [Lb] at hLB
          rw [Lc] at hLC
          rw [Ga] at hGA
          rw [Gd] at hGD
          have HLA := Lib.hid hLA; have HLB := Lib.hid hLB; have HLC := Lib.hid hLC; have HGA := Lib.hid hGA; have HGD := Lib.hid hGD; have HGE := Lib.hid hGE
          have hwa := fun (W : World) (hv : FL W (.slice fA l.length fc) l) {v1 : Value} (hs : SL W v1 [mageT (putTk age)]) => without_any (st := st) (mi := mi) (re := re) (bo := bo) (vA := vA) (vn := vn) (vc := vc) (asked := asked) (got := got) scN v1 [mageT (putTk age)] W hv hfe hs (by simp) (by decide)
          have hwb := fun (W : World) (A : Option Addr) (c : Nat) (hv : FL W (.slice A la.length c) la) {v1 : Value} (hs : SL W v1 vs) => without_any (st := st) (mi := mi) (re := re) (bo := bo) (vA := vA) (vn := vn) (vc := vc) (asked := asked) (got := got) ccN v1 vs W hv fa hs (by omega) (by decide)
          have hwc := fun (W : World) (A : Option Addr) (c : Nat) (hv : FL W (.slice A lb.length c) lb) {v1 : Value} (hs : SL W v1 vs) => without_any (st := st) (mi := mi) (re := re) (bo := bo) (vA := vA) (vn := vn) (vc := vc) (asked := asked) (got := got) exN v1 vs W hv fb hs (by omega) (by decide)
          have hwd := fun (W : World) (hv : FL W (.slice fA l.length fc) l) {v1 : Value} (hs : SL W v1 vs) => without_any (st := st) (mi := mi) (re := re) (bo := bo) (vA := vA) (vn := vn) (vc := vc) (asked := asked) (got := got) scN v1 vs W hv hfe hs (by omega) (by decide)
          rw [← hla] at hwa
          rw [← hlb] at hwb
          rw [← hlc] at hwc
          rw [← hld] at hwd
          have HWA := Lib.hid (fun W hv v1 hs => hwa W hv (v1 := v1) hs); have HWB := Lib.hid (fun W A c hv v1 hs => hwb W A c hv (v1 := v1) hs); have HWC := Lib.hid (fun W A c hv v1 hs => hwc W A c hv (v1 := v1) hs); have HWD := Lib.hid (fun W hv v1 hs => hwd W hv (v1 := v1) hs)
          have HPUT := Lib.hid (fun W (h : Tab W) => put_any age W h); have HFE := Lib.hid hfl; have HV1 := Lib.hid (HV.out.bel HB1.out)
          have b1 : (ofI age != ofI age) = false := by simp
          have hwr : IntKind.i64.wrap age = age := IntWalk.i64_in _ (by omega)
          have b2 : (ageI Y l asked got got == ageI Y l asked got got) = true := beq_self_eq_true _
          clear hq hin hsz hm ht hfl hawk hv hvs hla hlb hlc hld hma ka kb fa fb fcc fd q1 q2 q3 m1 m2 La Lb Lc Ga Gd hen hli hag hLA hLB hLC hGA hGD hGE hwa hwb hwc hwd hfe hall hl80 hsm HY HV a0 a1 g0 g1 h3
          generalize ageI Y l asked got got = XA at *
          go_wp2_with fail
          refine (HPUT.out _ (HT.out.1.below HB1.out (Nat.le_refl _))).mono ?_
          rintro e w2 ⟨rfl, hb⟩
          have HB2 := Lib.hid (HB1.out.trans (hb.mono HB1.out.size))
          have HD2 := Lib.hid (HD1.out.below hb)
          have HV2 := Lib.hid (HV1.out.bel hb)
          clear hb HB1 HD1 HV1
          have hcat := mage_cat (putTk age)
          have hlen : ¬ 9223372036854775807 < 8 + (putTk age).length := by have := put_short age; omega
          obtain ⟨k0, k1, k2, k3, k4, k5, k6, k7⟩ := HD2.out.eight
          have hsl := SL_lit w2 (mageT (putTk age))
          have hal : Below w2.heap.size w2 (w2.alloc (.cells #[.string (bs (mageT (putTk age)))] 9)) := (Below.refl _ _).alloc (Nat.le_refl _) _
          have HB3 := Lib.hid (HB2.out.trans (hal.mono HB2.out.size))
          have HD3 := Lib.hid (HD2.out.below hal)
          have HV3 := Lib.hid (HV2.out.bel hal)
          clear hal HB2 HD2 HV2
          have HS3 := Lib.hid hsl; clear hsl
          go_wp2_with fail
          clear k0 k1 k2 k3 k4 k5 k6 k7
          generalize hx9 : w2.alloc (.cells #[.string (bs (mageT (putTk age)))] 9) = y9 at *
          clear hx9
          refine (HWA.out _ (HFE.out.bel HB3.out) _ HS3.out).mono ?_
          rintro e w4 ⟨Aa, ca, rfl, hfl, hb⟩
          have HB4 := Lib.hid (HB3.out.trans (hb.mono HB3.out.size))
          have HD4 := Lib.hid (HD3.out.below hb)
          have HV4 := Lib.hid (HV3.out.bel hb)
          have HS4 := Lib.hid (HS3.out.bel hb)
          clear hb HB3 HD3 HV3 HS3
          have HFa4 := Lib.hid (hfl)
          clear hfl
          have hn := dbk.new w4 #[.int .i64 st, .string re, .int .i64 mi, .slice Aa la.length ca, .string bo, .int .i64 asked, .int .i64 got, .slice vA vn vc] 26
          have hal : Below w4.heap.size w4 (w4.alloc (.cells #[.int .i64 st, .string re, .int .i64 mi, .slice Aa la.length ca, .string bo, .int .i64 asked, .int .i64 got, .slice vA vn vc] 26)) := (Below.refl _ _).alloc (Nat.le_refl _) _
          have HB5 := Lib.hid (HB4.out.trans (hal.mono HB4.out.size))
          have HD5 := Lib.hid (HD4.out.below hal)
          have HV5 := Lib.hid (HV4.out.bel hal)
          have HS5 := Lib.hid (HS4.out.bel hal)
          have HFa5 := Lib.hid (HFa4.out.bel hal)
          clear hal HB4 HD4 HV4 HS4 HFa4
          have HAa5 := Lib.hid hn; clear hn
          go_wp2_with fail
          generalize hba : w4.heap.size = ba at *
          generalize hxa : w4.alloc (.cells #[.int .i64 st, .string re, .int .i64 mi, .slice Aa la.length ca, .string bo, .int .i64 asked, .int .i64 got, .slice vA vn vc] 26) = ya at *
          clear hxa hba
          clear HS5
          refine (HWB.out _ _ _ HFa5.out _ HV5.out).mono ?_
          rintro e w6 ⟨Ab, cb, rfl, hfl, hb⟩
          have HB6 := Lib.hid (HB5.out.trans (hb.mono HB5.out.size))
          have HD6 := Lib.hid (HD5.out.below hb)
          have HV6 := Lib.hid (HV5.out.bel hb)
          have HFa6 := Lib.hid (HFa5.out.bel hb)
          have HAa6 := Lib.hid (HAa5.out.below hb)
          clear hb HB5 HD5 HV5 HFa5 HAa5
          have HFb6 := Lib.hid (hfl)
          clear hfl
          have hn := dbk.new w6 #[.int .i64 st, .string re, .int .i64 mi, .slice Ab lb.length cb, .string bo, .int .i64 asked, .int .i64 got, .slice vA vn vc] 26
          have hal : Below w6.heap.size w6 (w6.alloc (.cells #[.int .i64 st, .string re, .int .i64 mi, .slice Ab lb.length cb, .string bo, .int .i64 asked, .int .i64 got, .slice vA vn vc] 26)) := (Below.refl _ _).alloc (Nat.le_refl _) _
          have HB7 := Lib.hid (HB6.out.trans (hal.mono HB6.out.size))
          have HD7 := Lib.hid (HD6.out.below hal)
          have HV7 := Lib.hid (HV6.out.bel hal)
          have HFa7 := Lib.hid (HFa6.out.bel hal)
          have HAa7 := Lib.hid (HAa6.out.below hal)
          have HFb7 := Lib.hid (HFb6.out.bel hal)
          clear hal HB6 HD6 HV6 HFa6 HAa6 HFb6
          have HAb7 := Lib.hid hn; clear hn
          go_wp2_with fail
          generalize hbb : w6.heap.size = bb at *
          generalize hxb : w6.alloc (.cells #[.int .i64 st, .string re, .int .i64 mi, .slice Ab lb.length cb, .string bo, .int .i64 asked, .int .i64 got, .slice vA vn vc] 26) = yb at *
          clear hxb hbb
          refine (HWC.out _ _ _ HFb7.out _ HV7.out).mono ?_
          rintro e w8 ⟨Ac, cc, rfl, hfl, hb⟩
          have HB8 := Lib.hid (HB7.out.trans (hb.mono HB7.out.size))
          have HD8 := Lib.hid (HD7.out.below hb)
          have HV8 := Lib.hid (HV7.out.bel hb)
          have HFa8 := Lib.hid (HFa7.out.bel hb)
          have HAa8 := Lib.hid (HAa7.out.below hb)
          have HFb8 := Lib.hid (HFb7.out.bel hb)
          have HAb8 := Lib.hid (HAb7.out.below hb)
          clear hb HB7 HD7 HV7 HFa7 HAa7 HFb7 HAb7
          have HFc8 := Lib.hid (hfl)
          clear hfl
          have hn := dbk.new w8 #[.int .i64 st, .string re, .int .i64 mi, .slice Ac lc.length cc, .string bo, .int .i64 asked, .int .i64 got, .slice vA vn vc] 26
          have hal : Below w8.heap.size w8 (w8.alloc (.cells #[.int .i64 st, .string re, .int .i64 mi, .slice Ac lc.length cc, .string bo, .int .i64 asked, .int .i64 got, .slice vA vn vc] 26)) := (Below.refl _ _).alloc (Nat.le_refl _) _
          have HB9 := Lib.hid (HB8.out.trans (hal.mono HB8.out.size))
          have HD9 := Lib.hid (HD8.out.below hal)
          have HV9 := Lib.hid (HV8.out.bel hal)
          have HFa9 := Lib.hid (HFa8.out.bel hal)
          have HAa9 := Lib.hid (HAa8.out.below hal)
          have HFb9 := Lib.hid (HFb8.out.bel hal)
          have HAb9 := Lib.hid (HAb8.out.below hal)
          have HFc9 := Lib.hid (HFc8.out.bel hal)
          clear hal HB8 HD8 HV8 HFa8 HAa8 HFb8 HAb8 HFc8
          have HAc9 := Lib.hid hn; clear hn
          obtain ⟨k0, k1, k2, k3, k4, k5, k6, k7⟩ := HD9.out.eight
          go_wp2_with fail
          clear k0 k1 k2 k3 k4 k5 k6 k7
          generalize hbc : w8.heap.size = bc at *
          generalize hxc : w8.alloc (.cells #[.int .i64 st, .string re, .int .i64 mi, .slice Ac lc.length cc, .string bo, .int .i64 asked, .int .i64 got, .slice vA vn vc] 26) = yc at *
          clear hxc hbc
          refine (HWD.out _ (HFE.out.bel HB9.out) _ HV9.out).mono ?_
          rintro e w10 ⟨Ad, cd, rfl, hfl, hb⟩
          have HB10 := Lib.hid (HB9.out.trans (hb.mono HB9.out.size))
          have HD10 := Lib.hid (HD9.out.below hb)
          have HV10 := Lib.hid (HV9.out.bel hb)
          have HFa10 := Lib.hid (HFa9.out.bel hb)
          have HAa10 := Lib.hid (HAa9.out.below hb)
          have HFb10 := Lib.hid (HFb9.out.bel hb)
          have HAb10 := Lib.hid (HAb9.out.below hb)
          have HFc10 := Lib.hid (HFc9.out.bel hb)
          have HAc10 := Lib.hid (HAc9.out.below hb)
          clear hb HB9 HD9 HV9 HFa9 HAa9 HFb9 HAb9 HFc9 HAc9
          have HFd10 := Lib.hid (hfl)
          clear hfl
          have hn := dbk.new w10 #[.int .i64 st, .string re, .int .i64 mi, .slice Ad ld.length cd, .string bo, .int .i64 asked, .int .i64 got, .slice vA vn vc] 26
          have hal : Below w10.heap.size w10 (w10.alloc (.cells #[.int .i64 st, .string re, .int .i64 mi, .slice Ad ld.length cd, .string bo, .int .i64 asked, .int .i64 got, .slice vA vn vc] 26)) := (Below.refl _ _).alloc (Nat.le_refl _) _
          have HB11 := Lib.hid (HB10.out.trans (hal.mono HB10.out.size))
          have HD11 := Lib.hid (HD10.out.below hal)
          have HV11 := Lib.hid (HV10.out.bel hal)
          have HFa11 := Lib.hid (HFa10.out.bel hal)
          have HAa11 := Lib.hid (HAa10.out.below hal)
          have HFb11 := Lib.hid (HFb10.out.bel hal)
          have HAb11 := Lib.hid (HAb10.out.below hal)
          have HFc11 := Lib.hid (HFc10.out.bel hal)
          have HAc11 := Lib.hid (HAc10.out.below hal)
          have HFd11 := Lib.hid (HFd10.out.bel hal)
          clear hal HB10 HD10 HV10 HFa10 HAa10 HFb10 HAb10 HFc10 HAc10 HFd10
          have HAd11 := Lib.hid hn; clear hn
          go_wp2_with fail
          generalize hbd : w10.heap.size = bd at *
          generalize hxd : w10.alloc (.cells #[.int .i64 st, .string re, .int .i64 mi, .slice Ad ld.length cd, .string bo, .int .i64 asked, .int .i64 got, .slice vA vn vc] 26) = yd at *
          clear hxd hbd
          clear HV11
          obtain ⟨C, hC⟩ : ∃ C, C = yd := ⟨_, rfl⟩
          subst hC
          have HB1 := HB11; have HDe := HD11; have HDa := HAa11; have HDb := HAb11; have HDc := HAc11; have HDd := HAd11; have HFa := HFa11; have HFb := HFb11; have HFc := HFc11; have HFd := HFd11
          clear HB11 HD11 HAa11 HAb11 HAc11 HAd11 HFa11 HFb11 HFc11 HFd11
          refine wp_region_growS (.one 0 false (.one 2 false (.one 3 false (.one 1 true (.one 4 true (.one 5 false (.one 6 false (.one 7 false (.one 9 false (.one 8 true (.one 10 true (.one 11 false (.one 12 false (.one 13 false (.one 14 false (.one 16 false (.one 15 true (.one 17 true (.one 18 false (.one 19 false .done))))))))))))))))))))
            (fun W => Below C.heap.size C W) (by kernel_rfl) (by kernel_rfl) rfl (by kernel_rfl) (by kernel_rfl) ((Below.refl _ _).drew) (fun ops hops => ?_)
          simp only [GT.ins, List.getD_cons_zero, List.getD_cons_succ]
          have g6 : (ops[6]?).bind (·.dst) = some 58 := by rw [hops.out]; rfl
          have g13 : (ops[13]?).bind (·.dst) = some 65 := by rw [hops.out]; rfl
          have G6 := Lib.hid g6
          have G13 := Lib.hid g13
          clear hops g6 g13
          iterate 3
            refine growS_take (by rfl) ?_
            apply Exists.intro
            refine ⟨fun w' hE => ?_, ?_⟩
            · obtain ⟨s0, s1, s2, s3, s4, s5, s6, s7⟩ := (HDe.out.below hE).eight; obtain ⟨t0, t1, t2, t3, t4, t5, t6, t7⟩ := (HDa.out.below hE).eight; obtain ⟨u0, u1, u2, u3, u4, u5, u6, u7⟩ := (HDb.out.below hE).eight; obtain ⟨v0, v1, v2, v3, v4, v5, v6, v7⟩ := (HDc.out.below hE).eight; obtain ⟨w0, w1, w2, w3, w4, w5, w6, w7⟩ := (HDd.out.below hE).eight
              go_simp
              try with_reducible rfl
            simp only [Act.put, List.setIfInBounds_toArray, List.set_cons_zero, List.set_cons_succ]
          refine growS_call (by rfl) (fun K hK => ?_)
          go_simp
          refine (HLA.out _ _ _ (HFa.out.bel ((Below.refl _ _).drew : Below C.heap.size C C.drew)) (HB1.out.trans (((Below.refl _ _).drew : Below C.heap.size C C.drew).mono HB1.out.size))).mono ?_
          rintro e x1 ⟨rfl, hb⟩
          have hz : Below C.heap.size C x1 := ((Below.refl _ _).drew : Below C.heap.size C C.drew).trans (hb.mono ((Below.refl _ _).drew : Below C.heap.size C C.drew).size)
          have HZ1 := Lib.hid hz
          refine hK.out _ _ hz ?_
          clear hK K hb hz
          refine growS_call (by rfl) (fun K hK => ?_)
          go_simp
          refine (of_any _ _).mono ?_
          rintro e xx ⟨rfl, rfl⟩
          refine hK.out _ _ HZ1.out ?_
          clear hK K
          iterate 2
            refine growS_take (by rfl) ?_
            apply Exists.intro
            refine ⟨fun w' hE => ?_, ?_⟩
            · obtain ⟨s0, s1, s2, s3, s4, s5, s6, s7⟩ := (HDe.out.below hE).eight; obtain ⟨t0, t1, t2, t3, t4, t5, t6, t7⟩ := (HDa.out.below hE).eight; obtain ⟨u0, u1, u2, u3, u4, u5, u6, u7⟩ := (HDb.out.below hE).eight; obtain ⟨v0, v1, v2, v3, v4, v5, v6, v7⟩ := (HDc.out.below hE).eight; obtain ⟨w0, w1, w2, w3, w4, w5, w6, w7⟩ := (HDd.out.below hE).eight
              go_simp
              try with_reducible rfl
            simp only [Act.put, List.setIfInBounds_toArray, List.set_cons_zero, List.set_cons_succ]
          iterate 2
            refine growS_take (wantedS G6.out rfl rfl) ?_
            apply Exists.intro
            refine ⟨fun w' hE => ?_, ?_⟩
            · obtain ⟨s0, s1, s2, s3, s4, s5, s6, s7⟩ := (HDe.out.below hE).eight; obtain ⟨t0, t1, t2, t3, t4, t5, t6, t7⟩ := (HDa.out.below hE).eight; obtain ⟨u0, u1, u2, u3, u4, u5, u6, u7⟩ := (HDb.out.below hE).eight; obtain ⟨v0, v1, v2, v3, v4, v5, v6, v7⟩ := (HDc.out.below hE).eight; obtain ⟨w0, w1, w2, w3, w4, w5, w6, w7⟩ := (HDd.out.below hE).eight
              go_simp
              try with_reducible rfl
            simp only [Act.put, List.setIfInBounds_toArray, List.set_cons_zero, List.set_cons_succ]
          refine growS_call (wantedS G6.out rfl rfl) (fun K hK => ?_)
          go_simp
          refine (HLB.out _ _ _ (HFb.out.bel HZ1.out) (HB1.out.trans (HZ1.out.mono HB1.out.size))).mono ?_
          rintro e x2 ⟨rfl, hb⟩
          have hz : Below C.heap.size C x2 := HZ1.out.trans (hb.mono HZ1.out.size)
          have HZ2 := Lib.hid hz
          refine hK.out _ _ hz ?_
          clear hK K hb hz HZ1
          refine growS_call (wantedS G6.out rfl rfl) (fun K hK => ?_)
          go_simp
          refine (HLA.out _ _ _ (HFa.out.bel HZ2.out) (HB1.out.trans (HZ2.out.mono HB1.out.size))).mono ?_
          rintro e x3 ⟨rfl, hb⟩
          have hz : Below C.heap.size C x3 := HZ2.out.trans (hb.mono HZ2.out.size)
          have HZ3 := Lib.hid hz
          refine hK.out _ _ hz ?_
          clear hK K hb hz HZ2
          iterate 1
            refine growS_take (wantedS G6.out rfl rfl) ?_
            apply Exists.intro
            refine ⟨fun w' hE => ?_, ?_⟩
            · obtain ⟨s0, s1, s2, s3, s4, s5, s6, s7⟩ := (HDe.out.below hE).eight; obtain ⟨t0, t1, t2, t3, t4, t5, t6, t7⟩ := (HDa.out.below hE).eight; obtain ⟨u0, u1, u2, u3, u4, u5, u6, u7⟩ := (HDb.out.below hE).eight; obtain ⟨v0, v1, v2, v3, v4, v5, v6, v7⟩ := (HDc.out.below hE).eight; obtain ⟨w0, w1, w2, w3, w4, w5, w6, w7⟩ := (HDd.out.below hE).eight
              go_simp
              try with_reducible rfl
            simp only [Act.put, List.setIfInBounds_toArray, List.set_cons_zero, List.set_cons_succ]
          iterate 2
            refine growS_take (by rfl) ?_
            apply Exists.intro
            refine ⟨fun w' hE => ?_, ?_⟩
            · obtain ⟨s0, s1, s2, s3, s4, s5, s6, s7⟩ := (HDe.out.below hE).eight; obtain ⟨t0, t1, t2, t3, t4, t5, t6, t7⟩ := (HDa.out.below hE).eight; obtain ⟨u0, u1, u2, u3, u4, u5, u6, u7⟩ := (HDb.out.below hE).eight; obtain ⟨v0, v1, v2, v3, v4, v5, v6, v7⟩ := (HDc.out.below hE).eight; obtain ⟨w0, w1, w2, w3, w4, w5, w6, w7⟩ := (HDd.out.below hE).eight
              go_simp
              try with_reducible rfl
            simp only [Act.put, List.setIfInBounds_toArray, List.set_cons_zero, List.set_cons_succ]
          iterate 2
            refine growS_take (wantedS G13.out rfl rfl) ?_
            apply Exists.intro
            refine ⟨fun w' hE => ?_, ?_⟩
            · obtain ⟨s0, s1, s2, s3, s4, s5, s6, s7⟩ := (HDe.out.below hE).eight; obtain ⟨t0, t1, t2, t3, t4, t5, t6, t7⟩ := (HDa.out.below hE).eight; obtain ⟨u0, u1, u2, u3, u4, u5, u6, u7⟩ := (HDb.out.below hE).eight; obtain ⟨v0, v1, v2, v3, v4, v5, v6, v7⟩ := (HDc.out.below hE).eight; obtain ⟨w0, w1, w2, w3, w4, w5, w6, w7⟩ := (HDd.out.below hE).eight
              go_simp
              try with_reducible rfl
            simp only [Act.put, List.setIfInBounds_toArray, List.set_cons_zero, List.set_cons_succ]
          refine growS_call (wantedS G13.out rfl rfl) (fun K hK => ?_)
          go_simp
          refine (HLC.out _ _ _ (HFc.out.bel HZ3.out) (HB1.out.trans (HZ3.out.mono HB1.out.size))).mono ?_
          rintro e x4 ⟨rfl, hb⟩
          have hz : Below C.heap.size C x4 := HZ3.out.trans (hb.mono HZ3.out.size)
          have HZ4 := Lib.hid hz
          refine hK.out _ _ hz ?_
          clear hK K hb hz HZ3
          refine growS_call (wantedS G13.out rfl rfl) (fun K hK => ?_)
          go_simp
          refine (HLA.out _ _ _ (HFa.out.bel HZ4.out) (HB1.out.trans (HZ4.out.mono HB1.out.size))).mono ?_
          rintro e x5 ⟨rfl, hb⟩
          have hz : Below C.heap.size C x5 := HZ4.out.trans (hb.mono HZ4.out.size)
          have HZ5 := Lib.hid hz
          refine hK.out _ _ hz ?_
          clear hK K hb hz HZ4
          iterate 1
            refine growS_take (wantedS G13.out rfl rfl) ?_
            apply Exists.intro
            refine ⟨fun w' hE => ?_, ?_⟩
            · obtain ⟨s0, s1, s2, s3, s4, s5, s6, s7⟩ := (HDe.out.below hE).eight; obtain ⟨t0, t1, t2, t3, t4, t5, t6, t7⟩ := (HDa.out.below hE).eight; obtain ⟨u0, u1, u2, u3, u4, u5, u6, u7⟩ := (HDb.out.below hE).eight; obtain ⟨v0, v1, v2, v3, v4, v5, v6, v7⟩ := (HDc.out.below hE).eight; obtain ⟨w0, w1, w2, w3, w4, w5, w6, w7⟩ := (HDd.out.below hE).eight
              go_simp
              try with_reducible rfl
            simp only [Act.put, List.setIfInBounds_toArray, List.set_cons_zero, List.set_cons_succ]
          iterate 1
            refine growS_take (by rfl) ?_
            apply Exists.intro
            refine ⟨fun w' hE => ?_, ?_⟩
            · obtain ⟨s0, s1, s2, s3, s4, s5, s6, s7⟩ := (HDe.out.below hE).eight; obtain ⟨t0, t1, t2, t3, t4, t5, t6, t7⟩ := (HDa.out.below hE).eight; obtain ⟨u0, u1, u2, u3, u4, u5, u6, u7⟩ := (HDb.out.below hE).eight; obtain ⟨v0, v1, v2, v3, v4, v5, v6, v7⟩ := (HDc.out.below hE).eight; obtain ⟨w0, w1, w2, w3, w4, w5, w6, w7⟩ := (HDd.out.below hE).eight
              go_simp
              try with_reducible rfl
            simp only [Act.put, List.setIfInBounds_toArray, List.set_cons_zero, List.set_cons_succ]
          refine growS_done (NoPanic.normal ?_)
          have HB0 := HB1
          have HB1 := Lib.hid (HB0.out.trans (HZ5.out.mono HB0.out.size))
          have HDe := Lib.hid (HDe.out.below HZ5.out)
          have HDa := Lib.hid (HDa.out.below HZ5.out)
          have HDb := Lib.hid (HDb.out.below HZ5.out)
          have HDc := Lib.hid (HDc.out.below HZ5.out)
          have HDd := Lib.hid (HDd.out.below HZ5.out)
          have HFa := Lib.hid (HFa.out.bel HZ5.out); have HFd := Lib.hid (HFd.out.bel HZ5.out)
          clear HB0 HZ5
          obtain ⟨C, hC⟩ : ∃ C, C = x5 := ⟨_, rfl⟩
          subst hC
          go_wp2_with fail
          refine wp_region_growS (.one 0 false (.one 1 false (.one 2 false (.one 4 false (.one 5 false (.one 6 false (.one 3 true (.one 7 true (.one 8 false (.one 9 false (.one 10 false (.one 11 false (.one 12 false (.one 14 false (.one 15 false (.one 16 false (.one 13 true (.one 17 true (.one 18 false (.one 19 false (.one 20 false (.one 21 true (.one 22 false (.one 23 false .done))))))))))))))))))))))))
            (fun W => Below C.heap.size C W) (by kernel_rfl) (by kernel_rfl) rfl (by kernel_rfl) (by kernel_rfl) ((Below.refl _ _).drew) (fun ops hops => ?_)
          simp only [GT.ins, List.getD_cons_zero, List.getD_cons_succ]
          have g9 : (ops[9]?).bind (·.dst) = some 81 := by rw [hops.out]; rfl
          have g20 : (ops[20]?).bind (·.dst) = some 92 := by rw [hops.out]; rfl
          have G9 := Lib.hid g9
          have G20 := Lib.hid g20
          clear hops g9 g20
          iterate 6
            refine growS_take (by rfl) ?_
            apply Exists.intro
            refine ⟨fun w' hE => ?_, ?_⟩
            · obtain ⟨s0, s1, s2, s3, s4, s5, s6, s7⟩ := (HDe.out.below hE).eight; obtain ⟨t0, t1, t2, t3, t4, t5, t6, t7⟩ := (HDa.out.below hE).eight; obtain ⟨u0, u1, u2, u3, u4, u5, u6, u7⟩ := (HDb.out.below hE).eight; obtain ⟨v0, v1, v2, v3, v4, v5, v6, v7⟩ := (HDc.out.below hE).eight; obtain ⟨w0, w1, w2, w3, w4, w5, w6, w7⟩ := (HDd.out.below hE).eight
              go_simp
              try with_reducible rfl
            simp only [Act.put, List.setIfInBounds_toArray, List.set_cons_zero, List.set_cons_succ]
          refine growS_call (by rfl) (fun K hK => ?_)
          go_simp
          refine (HGA.out _ _ _ (HFa.out.bel ((Below.refl _ _).drew : Below C.heap.size C C.drew)) (HB1.out.trans (((Below.refl _ _).drew : Below C.heap.size C C.drew).mono HB1.out.size))).mono ?_
          rintro e x1 ⟨rfl, hb⟩
          have hz : Below C.heap.size C x1 := ((Below.refl _ _).drew : Below C.heap.size C C.drew).trans (hb.mono ((Below.refl _ _).drew : Below C.heap.size C C.drew).size)
          have HZ1 := Lib.hid hz
          refine hK.out _ _ hz ?_
          clear hK K hb hz
          refine growS_call (by rfl) (fun K hK => ?_)
          go_simp
          refine (HGE.out _ (HB1.out.trans (HZ1.out.mono HB1.out.size))).mono ?_
          rintro e x2 ⟨rfl, hb⟩
          have hz : Below C.heap.size C x2 := HZ1.out.trans (hb.mono HZ1.out.size)
          have HZ2 := Lib.hid hz
          refine hK.out _ _ hz ?_
          clear hK K hb hz HZ1
          iterate 2
            refine growS_take (by rfl) ?_
            apply Exists.intro
            refine ⟨fun w' hE => ?_, ?_⟩
            · obtain ⟨s0, s1, s2, s3, s4, s5, s6, s7⟩ := (HDe.out.below hE).eight; obtain ⟨t0, t1, t2, t3, t4, t5, t6, t7⟩ := (HDa.out.below hE).eight; obtain ⟨u0, u1, u2, u3, u4, u5, u6, u7⟩ := (HDb.out.below hE).eight; obtain ⟨v0, v1, v2, v3, v4, v5, v6, v7⟩ := (HDc.out.below hE).eight; obtain ⟨w0, w1, w2, w3, w4, w5, w6, w7⟩ := (HDd.out.below hE).eight
              go_simp
              try with_reducible rfl
            simp only [Act.put, List.setIfInBounds_toArray, List.set_cons_zero, List.set_cons_succ]
          iterate 6
            refine growS_take (wantedS G9.out rfl rfl) ?_
            apply Exists.intro
            refine ⟨fun w' hE => ?_, ?_⟩
            · obtain ⟨s0, s1, s2, s3, s4, s5, s6, s7⟩ := (HDe.out.below hE).eight; obtain ⟨t0, t1, t2, t3, t4, t5, t6, t7⟩ := (HDa.out.below hE).eight; obtain ⟨u0, u1, u2, u3, u4, u5, u6, u7⟩ := (HDb.out.below hE).eight; obtain ⟨v0, v1, v2, v3, v4, v5, v6, v7⟩ := (HDc.out.below hE).eight; obtain ⟨w0, w1, w2, w3, w4, w5, w6, w7⟩ := (HDd.out.below hE).eight
              go_simp
              try with_reducible rfl
            simp only [Act.put, List.setIfInBounds_toArray, List.set_cons_zero, List.set_cons_succ]
          refine growS_call (wantedS G9.out rfl rfl) (fun K hK => ?_)
          go_simp
          refine (HGD.out _ _ _ (HFd.out.bel HZ2.out) (HB1.out.trans (HZ2.out.mono HB1.out.size))).mono ?_
          rintro e x3 ⟨rfl, hb⟩
          have hz : Below C.heap.size C x3 := HZ2.out.trans (hb.mono HZ2.out.size)
          have HZ3 := Lib.hid hz
          refine hK.out _ _ hz ?_
          clear hK K hb hz HZ2
          refine growS_call (wantedS G9.out rfl rfl) (fun K hK => ?_)
          go_simp
          refine (HGE.out _ (HB1.out.trans (HZ3.out.mono HB1.out.size))).mono ?_
          rintro e x4 ⟨rfl, hb⟩
          have hz : Below C.heap.size C x4 := HZ3.out.trans (hb.mono HZ3.out.size)
          have HZ4 := Lib.hid hz
          refine hK.out _ _ hz ?_
          clear hK K hb hz HZ3
          iterate 1
            refine growS_take (wantedS G9.out rfl rfl) ?_
            apply Exists.intro
            refine ⟨fun w' hE => ?_, ?_⟩
            · obtain ⟨s0, s1, s2, s3, s4, s5, s6, s7⟩ := (HDe.out.below hE).eight; obtain ⟨t0, t1, t2, t3, t4, t5, t6, t7⟩ := (HDa.out.below hE).eight; obtain ⟨u0, u1, u2, u3, u4, u5, u6, u7⟩ := (HDb.out.below hE).eight; obtain ⟨v0, v1, v2, v3, v4, v5, v6, v7⟩ := (HDc.out.below hE).eight; obtain ⟨w0, w1, w2, w3, w4, w5, w6, w7⟩ := (HDd.out.below hE).eight
              go_simp
              try with_reducible rfl
            simp only [Act.put, List.setIfInBounds_toArray, List.set_cons_zero, List.set_cons_succ]
          iterate 2
            refine growS_take (by rfl) ?_
            apply Exists.intro
            refine ⟨fun w' hE => ?_, ?_⟩
            · obtain ⟨s0, s1, s2, s3, s4, s5, s6, s7⟩ := (HDe.out.below hE).eight; obtain ⟨t0, t1, t2, t3, t4, t5, t6, t7⟩ := (HDa.out.below hE).eight; obtain ⟨u0, u1, u2, u3, u4, u5, u6, u7⟩ := (HDb.out.below hE).eight; obtain ⟨v0, v1, v2, v3, v4, v5, v6, v7⟩ := (HDc.out.below hE).eight; obtain ⟨w0, w1, w2, w3, w4, w5, w6, w7⟩ := (HDd.out.below hE).eight
              go_simp
              try with_reducible rfl
            simp only [Act.put, List.setIfInBounds_toArray, List.set_cons_zero, List.set_cons_succ]
          refine growS_call (wantedS G20.out rfl rfl) (fun K hK => ?_)
          go_simp
          refine (awake_any _ (HM.out.bel (HB1.out.trans (HZ4.out.mono HB1.out.size))) (HT.out.2.below (HB1.out.trans (HZ4.out.mono HB1.out.size)))).mono ?_
          rintro e x5 ⟨rfl, hb⟩
          have hz : Below C.heap.size C x5 := HZ4.out.trans (hb.mono HZ4.out.size)
          have HZ5 := Lib.hid hz
          refine hK.out _ _ hz ?_
          clear hK K hb hz HZ4
          iterate 2
            refine growS_take (by rfl) ?_
            apply Exists.intro
            refine ⟨fun w' hE => ?_, ?_⟩
            · obtain ⟨s0, s1, s2, s3, s4, s5, s6, s7⟩ := (HDe.out.below hE).eight; obtain ⟨t0, t1, t2, t3, t4, t5, t6, t7⟩ := (HDa.out.below hE).eight; obtain ⟨u0, u1, u2, u3, u4, u5, u6, u7⟩ := (HDb.out.below hE).eight; obtain ⟨v0, v1, v2, v3, v4, v5, v6, v7⟩ := (HDc.out.below hE).eight; obtain ⟨w0, w1, w2, w3, w4, w5, w6, w7⟩ := (HDd.out.below hE).eight
              go_simp
              try with_reducible rfl
            simp only [Act.put, List.setIfInBounds_toArray, List.set_cons_zero, List.set_cons_succ]
          refine growS_done (NoPanic.normal ?_)
          go_wp2_with fail
          go_ret
          exact ⟨rfl, HB1.out.trans (HZ5.out.mono HB1.out.size)⟩
end Go.Proofs.YthjgedafcihheaaGreatDoor
