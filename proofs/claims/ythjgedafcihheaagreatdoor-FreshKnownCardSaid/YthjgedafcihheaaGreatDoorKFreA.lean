/- What the program answers of an entry: its control, a field's date, when it was sent, its age. -/
import Derived.Test.YthjgedafcihheaaGreatDoorKDateH
import Derived.Test.YthjgedafcihheaaGreatDoorKFre0
import Derived.Test.YthjgedafcihheaaGreatDoorKSurF
import Derived.Test.YthjgedafcihheaaGreatDoorKTick
namespace Go.Proofs.YthjgedafcihheaaGreatDoor
open Go.RowKit

/-- what is asked of an entry's fields, times and of the world -/
structure EnW (w : World) (fs : Value) (l : List Fld) (asked got Y : Int) : Prop where
  fl : FL w fs l
  fe : Fe l
  mx : MaxD w
  tb : Tabs w
  ny : ∃ m d h i s, IsT (clampI got) Y m d h i s
  a0 : -9223372036854775808 ≤ asked
  a1 : asked ≤ 9223372036854775807
  g0 : -9223372036854775808 ≤ got
  g1 : got ≤ 9223372036854775807
theorem EnW.bel {w w' : World} {fs : Value} {l : List Fld} {asked got Y : Int} (h : EnW w fs l asked got Y) (hb : Below w.heap.size w w') : EnW w' fs l asked got Y :=
  ⟨h.fl.bel hb, h.fe, h.mx.bel hb, h.tb.below hb, h.ny, h.a0, h.a1, h.g0, h.g1⟩
theorem dbk.eight {w : World} {b : Nat} {x0 x1 x2 x3 x4 x5 x6 x7 : Value} (h : dbk w b #[x0, x1, x2, x3, x4, x5, x6, x7]) :
    w.cell? ⟨b, 0, none⟩ = some x0 ∧ w.cell? ⟨b, 1, none⟩ = some x1 ∧ w.cell? ⟨b, 2, none⟩ = some x2 ∧ w.cell? ⟨b, 3, none⟩ = some x3 ∧ w.cell? ⟨b, 4, none⟩ = some x4 ∧ w.cell? ⟨b, 5, none⟩ = some x5 ∧ w.cell? ⟨b, 6, none⟩ = some x6 ∧ w.cell? ⟨b, 7, none⟩ = some x7 :=
  ⟨h.cell 0 _ rfl, h.cell 1 _ rfl, h.cell 2 _ rfl, h.cell 3 _ rfl, h.cell 4 _ rfl, h.cell 5 _ rfl, h.cell 6 _ rfl, h.cell 7 _ rfl⟩
theorem parse_ge {nw : Int} {l : List UInt8} {t : Int} (h : parseDL nw l = some t) : 0 ≤ t ∧ t ≤ 253402300799 := by
  obtain ⟨y, m, d, h, i, s, H⟩ := parse_isT h
  exact H.bd
theorem sent_bd {Y : Int} {l : List Fld} {got : Int} (h0 : -9223372036854775808 ≤ got) (h1 : got ≤ 9223372036854775807) : -9223372036854775808 ≤ sentI Y l got ∧ sentI Y l got ≤ 9223372036854775807 := by
  unfold sentI
  cases h : dateO Y l dtN with
  | none => exact ⟨h0, h1⟩
  | some t =>
    have := parse_ge h
    show _ ≤ t ∧ t ≤ _
    omega
theorem deltaB (g : List UInt8) (w : World) (hs : g.length ≤ 140737488355328) : Calls Tryz.prog 37 #[.string (bs g)] w fun e w' => e = .returned (.tuple #[.int .i64 (delI g), .bool (isDel g)]) ∧ w = w' := by
  have := delta_any (bs g) w (by unfold maxLen; rw [bs_size]; omega)
  rwa [bs_data] at this
variable {st mi asked got Y : Int} {re bo : ByteArray} {fs : Value} {vA : Option Addr} {vn vc : Nat} {l : List Fld}

set_option maxRecDepth 100000 in
set_option maxHeartbeats 2000000 in
theorem dateOf_any (n : List UInt8) (w : World) (h : EnW w fs l asked got Y) (hn : n.length ≤ 1000) :
    Calls Tryz.prog 66 #[.agg #[.int .i64 st, .string re, .int .i64 mi, fs, .string bo, .int .i64 asked, .int .i64 got, .slice vA vn vc], .string (bs n)] w fun e w' => e = .returned (.tuple #[.int .i64 ((dateO Y l n).getD 0), .bool (dateO Y l n).isSome]) ∧ Below w.heap.size w w' := by
  have hx : Below w.heap.size w (w.alloc (.cells #[.int .i64 st, .string re, .int .i64 mi, fs, .string bo, .int .i64 asked, .int .i64 got, .slice vA vn vc] 26)) := (Below.refl _ _).alloc (Nat.le_refl _) _
  have hd := dbk.new w #[.int .i64 st, .string re, .int .i64 mi, fs, .string bo, .int .i64 asked, .int .i64 got, .slice vA vn vc] 26
  have hg := get_any fs l n _ (h.fl.bel hx) h.fe.small (by have := h.fe.1; omega) (by have := h.fe.size; omega) (by omega)
  obtain ⟨m, d, hh, i, s, HY⟩ := h.ny
  have hp := fun W (ht : Tabs W) => parse_any (bs (getL l n)) got Y m d hh i s W (by unfold maxLen; rw [bs_size]; have := h.fe.getLen n; omega) HY ht
  rw [bs_data] at hp
  have hd0 : dateO Y l n = parseDL (Y + 50) (getL l n) := rfl
  rw [← hd0] at hp
  have HG := Lib.hid hg; have HP := Lib.hid hp; have HX := Lib.hid hx; have HD := Lib.hid hd; have HE := Lib.hid h
  clear hd0 hx hd h HY hg hp hn
  generalize dateO Y l n = o at *
  generalize getL l n = g at *
  generalize hasF l n = q at *
  go_enter Tryz.func66, Tryz.ntmps66
  go_wp2_with fail
  refine HG.out.mono ?_
  rintro e w1 ⟨rfl, hb1⟩
  have HB := Lib.hid (HX.out.trans (hb1.mono HX.out.size))
  have k6 := (HD.out.below hb1).cell 6 _ rfl
  clear hb1 HG
  go_wp2_with fail
  refine (HP.out _ (HE.out.tb.below HB.out)).mono ?_
  cases o with
  | none =>
    unfold ansV
    rintro e w2 ⟨rfl, hb2⟩
    have HB2 := Lib.hid (HB.out.trans (hb2.mono HB.out.size)); clear hb2 HB k6
    go_wp2_with fail
    go_ret2
    exact ⟨rfl, HB2.out⟩
  | some t =>
    unfold ansV
    rintro e w2 ⟨rfl, hb2⟩
    have HB2 := Lib.hid (HB.out.trans (hb2.mono HB.out.size)); clear hb2 HB k6
    go_wp2_with fail
    go_ret2
    exact ⟨rfl, HB2.out⟩

set_option maxRecDepth 100000 in
theorem sent_any (w : World) (h : EnW w fs l asked got Y) :
    Calls Tryz.prog 38 #[.agg #[.int .i64 st, .string re, .int .i64 mi, fs, .string bo, .int .i64 asked, .int .i64 got, .slice vA vn vc]] w fun e w' => e = .returned (.int .i64 (sentI Y l got)) ∧ Below w.heap.size w w' := by
  have hx : Below w.heap.size w (w.alloc (.cells #[.int .i64 st, .string re, .int .i64 mi, fs, .string bo, .int .i64 asked, .int .i64 got, .slice vA vn vc] 26)) := (Below.refl _ _).alloc (Nat.le_refl _) _
  have hd := dbk.new w #[.int .i64 st, .string re, .int .i64 mi, fs, .string bo, .int .i64 asked, .int .i64 got, .slice vA vn vc] 26
  have hc := dateOf_any (st := st) (mi := mi) (re := re) (bo := bo) (vA := vA) (vn := vn) (vc := vc) dtN _ (h.bel hx) (by decide)
  have hs : sentI Y l got = (dateO Y l dtN).getD got := rfl
  rw [hs]
  have HC := Lib.hid hc; have HX := Lib.hid hx; have HD := Lib.hid hd
  clear hx hd h hc hs
  generalize dateO Y l dtN = o at *
  go_enter Tryz.func38, Tryz.ntmps38
  go_wp2_with fail
  refine HC.out.mono ?_
  cases o with
  | none =>
    rintro e w2 ⟨rfl, hb2⟩
    have HB2 := Lib.hid (HX.out.trans (hb2.mono HX.out.size))
    have k6 := (HD.out.below hb2).cell 6 _ rfl
    clear hb2 HC HD HX
    simp only [Option.getD_none, Option.isSome_none]
    go_wp2_with fail
    go_ret
    exact ⟨rfl, HB2.out⟩
  | some t =>
    rintro e w2 ⟨rfl, hb2⟩
    have HB2 := Lib.hid (HX.out.trans (hb2.mono HX.out.size))
    clear hb2 HC HD HX
    simp only [Option.getD_some, Option.isSome_some]
    go_wp2_with fail
    go_ret
    exact ⟨rfl, HB2.out⟩

set_option maxRecDepth 100000 in
set_option maxHeartbeats 2000000 in
theorem age_any (now : Int) (w : World) (h : EnW w fs l asked got Y) (hn : now ≤ 9223372036854775807) :
    Calls Tryz.prog 14 #[.agg #[.int .i64 st, .string re, .int .i64 mi, fs, .string bo, .int .i64 asked, .int .i64 got, .slice vA vn vc], .int .i64 now] w fun e w' => e = .returned (.int .i64 (ageI Y l asked got now)) ∧ Below w.heap.size w w' := by
  have hx : Below w.heap.size w (w.alloc (.cells #[.int .i64 st, .string re, .int .i64 mi, fs, .string bo, .int .i64 asked, .int .i64 got, .slice vA vn vc] 26)) := (Below.refl _ _).alloc (Nat.le_refl _) _
  have hd := dbk.new w #[.int .i64 st, .string re, .int .i64 mi, fs, .string bo, .int .i64 asked, .int .i64 got, .slice vA vn vc] 26
  have hg := get_any fs l agN _ (h.fl.bel hx) h.fe.small (by have := h.fe.1; omega) (by have := h.fe.size; omega) (by decide)
  have hdl := fun W => deltaB (getL l agN) W (by have := h.fe.getLen agN; omega)
  have hst : ageI Y l asked got now = addI (max (sinceI (sentI Y l got) got) (addI (toldI l) (sinceI asked got))) (sinceI got now) := rfl
  have hsn := fun W (h : EnW W fs l asked got Y) => sent_any (st := st) (mi := mi) (re := re) (bo := bo) (vA := vA) (vn := vn) (vc := vc) W h
  have hsb := sent_bd (Y := Y) (l := l) h.g0 h.g1
  have htd : delI (getL l agN) = toldI l := rfl
  rw [htd] at hdl
  have HG := Lib.hid hg; have HDL := Lib.hid hdl; have HX := Lib.hid hx; have HD := Lib.hid hd; have HE := Lib.hid h; have HST := Lib.hid hst; have HSN := Lib.hid hsn; have HSB := Lib.hid hsb
  clear hx hd h hg hdl hst hsn hsb htd
  generalize ageI Y l asked got now = A at *
  generalize toldI l = tl at *
  generalize isDel (getL l agN) = il at *
  generalize getL l agN = g at *
  generalize hasF l agN = q at *
  generalize sentI Y l got = sn at *
  go_enter Tryz.func14, Tryz.ntmps14
  go_wp2_with fail
  refine HG.out.mono ?_
  rintro e w1 ⟨rfl, hb1⟩
  have HB := Lib.hid (HX.out.trans (hb1.mono HX.out.size))
  have HD1 := Lib.hid (HD.out.below hb1)
  clear hb1 HG HX HD
  go_wp2_with fail
  refine (HDL.out _).mono ?_
  rintro e w2 ⟨rfl, rfl⟩
  clear HDL
  go_wp2_with fail
  obtain ⟨C, hC⟩ : ∃ C, C = w1 := ⟨_, rfl⟩
  subst hC
  refine wp_region_growS (.one 0 false (.one 2 false (.one 3 false (.one 1 true (.one 4 true (.one 5 false .done))))))
    (fun W => Below C.heap.size C W) (by kernel_rfl) (by kernel_rfl) rfl (by kernel_rfl) (by kernel_rfl) ((Below.refl _ _).drew) (fun ops hops => ?_)
  simp only [GT.ins, List.getD_cons_zero, List.getD_cons_succ]
  clear hops
  iterate 3
    refine growS_take (by rfl) ?_
    apply Exists.intro
    refine ⟨fun w' hE => ?_, ?_⟩
    · obtain ⟨y0, y1, y2, y3, y4, y5, y6, y7⟩ := (HD1.out.below hE).eight
      go_simp
      try with_reducible rfl
    simp only [Act.put, List.setIfInBounds_toArray, List.set_cons_zero, List.set_cons_succ]
  refine growS_call (by rfl) (fun K hK => ?_)
  go_simp
  refine (HSN.out _ (HE.out.bel (HB.out.trans (((Below.refl _ _).drew : Below C.heap.size C C.drew).mono HB.out.size)))).mono ?_
  rintro e x1 ⟨rfl, hb⟩
  have hz : Below C.heap.size C x1 := (Below.refl _ _).drew.trans hb
  have HZ1 := Lib.hid hz
  refine hK.out _ _ hz ?_
  clear hK K hb hz
  refine growS_call (by rfl) (fun K hK => ?_)
  go_simp
  refine (since_any _ _ _ HSB.out.1 HE.out.g1).mono ?_
  rintro e x2 ⟨rfl, rfl⟩
  refine hK.out _ _ HZ1.out ?_
  clear hK K
  iterate 1
    refine growS_take (by rfl) ?_
    apply Exists.intro
    refine ⟨fun w' hE => ?_, ?_⟩
    · obtain ⟨y0, y1, y2, y3, y4, y5, y6, y7⟩ := (HD1.out.below hE).eight
      go_simp
      try with_reducible rfl
    simp only [Act.put, List.setIfInBounds_toArray, List.set_cons_zero, List.set_cons_succ]
  refine growS_done (NoPanic.normal ?_)
  have HB2 := Lib.hid (HB.out.trans (HZ1.out.mono HB.out.size))
  have HD2 := Lib.hid (HD1.out.below HZ1.out)
  clear HB HZ1 HD1
  obtain ⟨k0, k1, k2, k3, k4, k5, k6, k7⟩ := HD2.out.eight
  go_wp2_with fail
  refine (since_any _ _ _ HE.out.a0 HE.out.g1).mono ?_
  rintro e w3 ⟨rfl, rfl⟩
  go_wp2_with fail
  refine (tadd_any _ _ _).mono ?_
  rintro e w3 ⟨rfl, rfl⟩
  go_wp2_with fail
  refine (since_any _ _ _ HE.out.g0 hn).mono ?_
  rintro e w3 ⟨rfl, rfl⟩
  go_wp2_with fail
  refine (tadd_any _ _ _).mono ?_
  rintro e w3 ⟨rfl, rfl⟩
  go_wp2_with fail
  go_ret
  exact ⟨by rw [HST.out]; rfl, HB2.out⟩

set_option maxRecDepth 100000 in
set_option maxHeartbeats 2000000 in
theorem fctl_any (dev : List UInt8) (w : World) (h : EnW w fs l asked got Y) :
    Calls Tryz.prog 25 #[.agg #[.int .i64 st, .string re, .int .i64 mi, fs, .string bo, .int .i64 asked, .int .i64 got, .slice vA vn vc], .string (bs dev)] w fun e w' => e = .returned (.agg #[.bool (ctlE l dev).1, .bool (ctlE l dev).2.1, .bool (ctlE l dev).2.2.1, .bool (ctlE l dev).2.2.2.1, .int .i64 (ctlE l dev).2.2.2.2.1, .int .i64 (ctlE l dev).2.2.2.2.2]) ∧ Below w.heap.size w w' := by
  have hx : Below w.heap.size w (w.alloc (.cells #[.int .i64 st, .string re, .int .i64 mi, fs, .string bo, .int .i64 asked, .int .i64 got, .slice vA vn vc] 26)) := (Below.refl _ _).alloc (Nat.le_refl _) _
  have hx2 : Below w.heap.size w ((w.alloc (.cells #[.int .i64 st, .string re, .int .i64 mi, fs, .string bo, .int .i64 asked, .int .i64 got, .slice vA vn vc] 26)).alloc (.cells #[.bool false, .bool false, .bool false, .bool false, .int .i64 0, .int .i64 0] 51)) := hx.alloc hx.size _
  have hr := res6_new (w.alloc (.cells #[.int .i64 st, .string re, .int .i64 mi, fs, .string bo, .int .i64 asked, .int .i64 got, .slice vA vn vc] 26))
  rw [World.size_alloc] at hr
  have hv := values_any fs l scN _ (h.fl.bel hx2) h.fe.small (by have := h.fe.1; omega) (by decide)
  obtain ⟨hf1, hf2⟩ := h.fe.vals scN
  have hs := fun (W : World) (v : Value) (hv : SL W v (valsL l scN)) (hm : MaxD W) => sof_any v (valsL l scN) dev W hm hv hf2 (by omega)
  have hct : ofC (valsL l scN) dev = ctlE l dev := rfl
  rw [hct] at hs
  have HV := Lib.hid hv; have HS := Lib.hid hs; have HX2 := Lib.hid hx2; have HR := Lib.hid hr; have HE := Lib.hid h
  clear hx hx2 hr hv hs hct h hf1 hf2
  generalize ctlE l dev = c at *
  go_enter Tryz.func25, Tryz.ntmps25
  go_wp2_with fail
  refine HV.out.mono ?_
  rintro e w1 ⟨u, rfl, ho, hb1⟩
  have HB1 := Lib.hid (HX2.out.trans (hb1.mono HX2.out.size)); have HR1 := Lib.hid (HR.out.below hb1); have HO := Lib.hid ho.sl
  clear hb1 ho HV HX2 HR
  go_wp2_with fail
  refine (HS.out _ _ HO.out (HE.out.mx.bel HB1.out)).mono ?_
  rintro e w2 ⟨rfl, hb2⟩
  have HB := Lib.hid (HB1.out.trans (hb2.mono HB1.out.size)); have HA := Lib.hid (HR1.out.below hb2)
  clear hb2 HB1 HR1 HS HO
  have hct : (Value.agg (ctA c)) = .agg #[.bool c.1, .bool c.2.1, .bool c.2.2.1, .bool c.2.2.2.1, .int .i64 c.2.2.2.2.1, .int .i64 c.2.2.2.2.2] := rfl
  rw [hct]
  clear hct
  obtain ⟨a0, b0, a1, b1, a2, b2, a3, b3, a4, b4, a5, b5⟩ := HA.out.asks6 (.bool c.1) (.bool c.2.1) (.bool c.2.2.1) (.bool c.2.2.2.1) (.int .i64 c.2.2.2.2.1)
  obtain ⟨g0, g1, g2, g3, g4, g5⟩ := (HA.out.putc c).six
  have hq := putC_below (b := w.heap.size + 1) HB.out (Nat.le_succ _) c
  simp only [putC, ctl0] at a0 a1 a2 a3 a4 a5 b0 b1 b2 b3 b4 b5 g0 g1 g2 g3 g4 g5 hq
  have HQ := Lib.hid hq; have HG := Lib.hid (And.intro g0 (And.intro g1 (And.intro g2 (And.intro g3 (And.intro g4 g5))))); clear hq g0 g1 g2 g3 g4 g5
  go_wp2_with fail
  obtain ⟨g0, g1, g2, g3, g4, g5⟩ := HG.out
  refine bodyPost_ret (v := .agg #[.bool c.1, .bool c.2.1, .bool c.2.2.1, .bool c.2.2.2.1, .int .i64 c.2.2.2.2.1, .int .i64 c.2.2.2.2.2]) (by simp [results, Tryz.results25, go_sem, g0, g1, g2, g3, g4, g5]) rfl ?_
  exact ⟨rfl, HQ.out⟩
set_option maxRecDepth 100000 in
set_option maxHeartbeats 2000000 in
theorem extra_any (dev : List UInt8) (w : World) (h : EnW w fs l asked got Y) :
    Calls Tryz.prog 12 #[.agg #[.int .i64 st, .string re, .int .i64 mi, fs, .string bo, .int .i64 asked, .int .i64 got, .slice vA vn vc], .string (bs dev)] w fun e w' => e = .returned (.int .i64 (ctlE l dev).2.2.2.2.2) ∧ Below w.heap.size w w' := by
  have hx : Below w.heap.size w (w.alloc (.cells #[.int .i64 st, .string re, .int .i64 mi, fs, .string bo, .int .i64 asked, .int .i64 got, .slice vA vn vc] 26)) := (Below.refl _ _).alloc (Nat.le_refl _) _
  have hd := dbk.new w #[.int .i64 st, .string re, .int .i64 mi, fs, .string bo, .int .i64 asked, .int .i64 got, .slice vA vn vc] 26
  have hc := fctl_any (st := st) (mi := mi) (re := re) (bo := bo) (vA := vA) (vn := vn) (vc := vc) dev _ (h.bel hx)
  have HC := Lib.hid hc; have HX := Lib.hid hx
  clear hx hd h hc
  generalize ctlE l dev = c at *
  have hfd : ∀ W, (Instr.field 51 (.agg #[.bool c.1, .bool c.2.1, .bool c.2.2.1, .bool c.2.2.2.1, .int .i64 c.2.2.2.2.1, .int .i64 c.2.2.2.2.2]) 5).run Tryz.prog W = .ok (.int .i64 c.2.2.2.2.2) W := fun W => by kernel_rfl
  go_enter Tryz.func12, Tryz.ntmps12
  go_wp2_with fail
  refine HC.out.mono ?_
  rintro e w2 ⟨rfl, hb2⟩
  have HB2 := Lib.hid (HX.out.trans (hb2.mono HX.out.size))
  clear hb2 HC HX
  go_wp2_with fail
  go_ret
  exact ⟨rfl, HB2.out⟩
end Go.Proofs.YthjgedafcihheaaGreatDoor
