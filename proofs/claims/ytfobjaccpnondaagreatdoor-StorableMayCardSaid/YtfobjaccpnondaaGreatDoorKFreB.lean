/- What the document answers of an entry: its control, a field's date, its age, its life. -/
import Derived.Test.YtfobjaccpnondaaGreatDoorKDateW
import Derived.Test.YtfobjaccpnondaaGreatDoorKDirE
import Derived.Test.YtfobjaccpnondaaGreatDoorKFre
import Derived.Test.YtfobjaccpnondaaGreatDoorKSurF
import Derived.Test.YtfobjaccpnondaaGreatDoorKTick
namespace Go.Proofs.YtfobjaccpnondaaGreatDoor
open Go.RowKit

variable {st mi asked got Y : Int} {re bo : ByteArray} {fs : Value} {vA : Option Addr} {vn vc : Nat} {l : List Fld}

set_option maxRecDepth 100000 in
set_option maxHeartbeats 2000000 in
theorem rctl_any (dev : List UInt8) (w : World) (h : EnW w fs l asked got Y) :
    Calls Tryz.prog 17 #[.agg #[.int .i64 st, .string re, .int .i64 mi, fs, .string bo, .int .i64 asked, .int .i64 got, .slice vA vn vc], .string (bs dev)] w fun e w' => e = .returned (.agg #[.bool (ctlE l dev).1, .bool (ctlE l dev).2.1, .bool (ctlE l dev).2.2.1, .bool (ctlE l dev).2.2.2.1, .int .i64 (ctlE l dev).2.2.2.2.1, .int .i64 (ctlE l dev).2.2.2.2.2]) ∧ Below w.heap.size w w' := by
  have hx : Below w.heap.size w (w.alloc (.cells #[.int .i64 st, .string re, .int .i64 mi, fs, .string bo, .int .i64 asked, .int .i64 got, .slice vA vn vc] 28)) := (Below.refl _ _).alloc (Nat.le_refl _) _
  have hx2 : Below w.heap.size w ((w.alloc (.cells #[.int .i64 st, .string re, .int .i64 mi, fs, .string bo, .int .i64 asked, .int .i64 got, .slice vA vn vc] 28)).alloc (.cells #[.bool false, .bool false, .bool false, .bool false, .int .i64 0, .int .i64 0] 48)) := hx.alloc hx.size _
  have hr := res6_new2 (w.alloc (.cells #[.int .i64 st, .string re, .int .i64 mi, fs, .string bo, .int .i64 asked, .int .i64 got, .slice vA vn vc] 28))
  rw [World.size_alloc] at hr
  have hv := rvalues_any fs l scN _ (h.fl.bel hx2) h.fe.small (by have := h.fe.1; omega) (by decide)
  obtain ⟨hf1, hf2⟩ := h.fe.vals scN
  have hs := fun (W : World) (v : Value) (hv : SL W v (valsL l scN)) (hm : MaxD W) => rsof_wide v (valsL l scN) dev W hv hf2 (by omega)
  have hct : ofC (valsL l scN) dev = ctlE l dev := rfl
  rw [hct] at hs
  have HV := Lib.hid hv; have HS := Lib.hid hs; have HX2 := Lib.hid hx2; have HR := Lib.hid hr; have HE := Lib.hid h
  clear hx hx2 hr hv hs hct h hf1 hf2
  generalize ctlE l dev = c at *
  go_enter Tryz.func17, Tryz.ntmps17
  go_wp2_with fail
  refine HV.out.mono ?_
  rintro e w1 ⟨u, rfl, ho, hb1⟩
  have HB1 := Lib.hid (HX2.out.trans (hb1.mono HX2.out.size)); have HR1 := Lib.hid (HR.out.below hb1); have HO := Lib.hid ho.sl
  clear hb1 ho HV HX2 HR
  go_wp2_with fail
  refine (HS.out _ _ HO.out (HE.out.mx.bel HB1.out)).mono ?_
  rintro e w2 ⟨rfl, hb2⟩
  have HB := Lib.hid (HB1.out.trans (hb2.mono HB1.out.size)); have HA := Lib.hid (HR1.out.below hb2)
  clear hb2 HB1 HR1 HS HO
  have hct : (Value.agg (ctA c)) = .agg #[.bool c.1, .bool c.2.1, .bool c.2.2.1, .bool c.2.2.2.1, .int .i64 c.2.2.2.2.1, .int .i64 c.2.2.2.2.2] := rfl
  rw [hct]
  clear hct
  obtain ⟨a0, b0, a1, b1, a2, b2, a3, b3, a4, b4, a5, b5⟩ := HA.out.asks6 (.bool c.1) (.bool c.2.1) (.bool c.2.2.1) (.bool c.2.2.2.1) (.int .i64 c.2.2.2.2.1)
  obtain ⟨g0, g1, g2, g3, g4, g5⟩ := (HA.out.putc c).six
  have hq := putC_below (b := w.heap.size + 1) HB.out (Nat.le_succ _) c
  simp only [putC, ctl0] at a0 a1 a2 a3 a4 a5 b0 b1 b2 b3 b4 b5 g0 g1 g2 g3 g4 g5 hq
  have HQ := Lib.hid hq; have HG := Lib.hid (And.intro g0 (And.intro g1 (And.intro g2 (And.intro g3 (And.intro g4 g5))))); clear hq g0 g1 g2 g3 g4 g5
  go_wp2_with fail
  obtain ⟨g0, g1, g2, g3, g4, g5⟩ := HG.out
  refine bodyPost_ret (v := .agg #[.bool c.1, .bool c.2.1, .bool c.2.2.1, .bool c.2.2.2.1, .int .i64 c.2.2.2.2.1, .int .i64 c.2.2.2.2.2]) (by simp [results, Tryz.results17, go_sem, g0, g1, g2, g3, g4, g5]) rfl ?_
  exact ⟨rfl, HQ.out⟩
theorem rdeltaB (g : List UInt8) (w : World) (hs : g.length ≤ 140737488355328) : Calls Tryz.prog 105 #[.string (bs g)] w fun e w' => e = .returned (.tuple #[.int .i64 (delI g), .bool (isDel g)]) ∧ w = w' := by
  have := rdelta_any (bs g) w (by unfold maxLen; rw [bs_size]; omega)
  rwa [bs_data] at this
theorem del_off {g : List UInt8} (h : isDel g = false) : delI g = 0 := by unfold delI; rw [h]; rfl

set_option maxRecDepth 100000 in
set_option maxHeartbeats 2000000 in
theorem when_any (n : List UInt8) (w : World) (h : EnW w fs l asked got Y) (hn : n.length ≤ 1000) :
    Calls Tryz.prog 58 #[.agg #[.int .i64 st, .string re, .int .i64 mi, fs, .string bo, .int .i64 asked, .int .i64 got, .slice vA vn vc], .string (bs n)] w fun e w' => e = .returned (.int .i64 ((dateO Y l n).getD (-1))) ∧ Below w.heap.size w w' := by
  have hx : Below w.heap.size w (w.alloc (.cells #[.int .i64 st, .string re, .int .i64 mi, fs, .string bo, .int .i64 asked, .int .i64 got, .slice vA vn vc] 28)) := (Below.refl _ _).alloc (Nat.le_refl _) _
  have hd := dbk.new w #[.int .i64 st, .string re, .int .i64 mi, fs, .string bo, .int .i64 asked, .int .i64 got, .slice vA vn vc] 28
  have hg := rget_any fs l n _ (h.fl.bel hx) h.fe.small (by have := h.fe.1; omega) (by have := h.fe.size; omega) (by omega)
  obtain ⟨m, d, hh, i, s, HY⟩ := h.ny
  have hp := fun W => rparse_any (bs (getL l n)) got Y m d hh i s W (by rw [bs_size]; have := h.fe.getLen n; omega) HY
  rw [bs_data, rparse_eq] at hp
  have hd0 : dateO Y l n = parseDL (Y + 50) (getL l n) := rfl
  rw [← hd0] at hp
  have hno := date_no (Y := Y) (l := l) (n := n)
  have HG := Lib.hid hg; have HP := Lib.hid hp; have HX := Lib.hid hx; have HD := Lib.hid hd
  clear hd0 hx hd h HY hg hp hn
  generalize dateO Y l n = o at *
  generalize getL l n = g at *
  cases hq : hasF l n
  · obtain rfl := hno hq
    rw [hq] at HG
    clear hq hno
    go_enter Tryz.func58, Tryz.ntmps58
    go_wp2_with fail
    refine HG.out.mono ?_
    rintro e w1 ⟨rfl, hb1⟩
    have HB := Lib.hid (HX.out.trans (hb1.mono HX.out.size))
    clear hb1 HG
    go_wp2_with fail
    go_ret
    exact ⟨rfl, HB.out⟩
  · rw [hq] at HG
    clear hq hno
    go_enter Tryz.func58, Tryz.ntmps58
    go_wp2_with fail
    refine HG.out.mono ?_
    rintro e w1 ⟨rfl, hb1⟩
    have HB := Lib.hid (HX.out.trans (hb1.mono HX.out.size))
    have k6 := (HD.out.below hb1).cell 6 _ rfl
    clear hb1 HG
    go_wp2_with fail
    refine (HP.out _).mono ?_
    cases o with
    | none =>
      unfold ansV
      rintro e w2 ⟨rfl, hb2⟩
      have HB2 := Lib.hid (HB.out.trans (hb2.mono HB.out.size)); clear hb2 HB k6
      go_wp2_with fail
      go_ret
      exact ⟨rfl, HB2.out⟩
    | some t =>
      unfold ansV
      rintro e w2 ⟨rfl, hb2⟩
      have HB2 := Lib.hid (HB.out.trans (hb2.mono HB.out.size)); clear hb2 HB k6
      go_wp2_with fail
      go_ret
      exact ⟨rfl, HB2.out⟩

set_option maxRecDepth 100000 in
theorem rnumber_any (d : Dv) (w : World) (hz : d.2.1.length ≤ 4294967200) :
    Calls Tryz.prog 57 #[.agg #[.string (bs d.1), .string (bs d.2.1), .bool d.2.2.1, .string (bs d.2.2.2)]] w fun e w' => e = .returned (.int .i64 (delI d.2.1)) ∧ Below w.heap.size w w' := by
  have hx : Below w.heap.size w (w.alloc (.cells #[.string (bs d.1), .string (bs d.2.1), .bool d.2.2.1, .string (bs d.2.2.2)] 79)) := (Below.refl _ _).alloc (Nat.le_refl _) _
  have hdl := fun W => rdeltaB d.2.1 W (by omega)
  have HX := Lib.hid hx; have HDL := Lib.hid hdl
  have hof := del_off (g := d.2.1)
  clear hx hdl hz
  generalize d.2.1 = g at *
  cases hq : isDel g
  · have HOF := Lib.hid (hof hq)
    rw [hq] at HDL
    clear hq hof
    go_enter Tryz.func57, Tryz.ntmps57
    go_wp2_with fail
    refine (HDL.out _).mono ?_
    rintro e w2 ⟨rfl, rfl⟩
    go_wp2_with fail
    go_ret
    exact ⟨by rw [HOF.out]; rfl, HX.out⟩
  · rw [hq] at HDL
    clear hq hof
    go_enter Tryz.func57, Tryz.ntmps57
    go_wp2_with fail
    refine (HDL.out _).mono ?_
    rintro e w2 ⟨rfl, rfl⟩
    go_wp2_with fail
    go_ret
    exact ⟨rfl, HX.out⟩


set_option maxRecDepth 100000 in
set_option maxHeartbeats 4000000 in
theorem rlife_any (dev : List UInt8) (w : World) (h : EnW w fs l asked got Y) :
    Calls Tryz.prog 21 #[.agg #[.int .i64 st, .string re, .int .i64 mi, fs, .string bo, .int .i64 asked, .int .i64 got, .slice vA vn vc], .string (bs dev)] w fun e w' => e = .returned (.int .i64 (lifeI Y l got dev)) ∧ Below w.heap.size w w' := by
  have hx : Below w.heap.size w (w.alloc (.cells #[.int .i64 st, .string re, .int .i64 mi, fs, .string bo, .int .i64 asked, .int .i64 got, .slice vA vn vc] 28)) := (Below.refl _ _).alloc (Nat.le_refl _) _
  have hd := dbk.new w #[.int .i64 st, .string re, .int .i64 mi, fs, .string bo, .int .i64 asked, .int .i64 got, .slice vA vn vc] 28
  have hc := rctl_any (st := st) (mi := mi) (re := re) (bo := bo) (vA := vA) (vn := vn) (vc := vc) dev _ (h.bel hx)
  have hv := fun W (h : EnW W fs l asked got Y) => rvalues_any fs l ccN W h.fl h.fe.small (by have := h.fe.1; omega) (by decide)
  obtain ⟨hf1, hf2⟩ := h.fe.vals ccN
  have hli := fun W v (hv : SL W v (valsL l ccN)) => rlistD_any v (valsL l ccN) W hv (fun x hx => by have := hf2 x hx; omega) (by omega)
  have hde : dirsAll (valsL l ccN) = dirsE l := rfl
  rw [hde] at hli
  have hat : ∀ d ∈ dirsE l, DvW d := fun d hd => by
    obtain ⟨a, b, c⟩ := dirsE_at h.fe hd
    exact ⟨by omega, by omega, by rw [c]; exact Nat.zero_le _⟩
  have hz : ∀ d ∈ dirsE l, d.2.1.length ≤ 4294967200 := fun d hd => by
    have := dirsE_at h.fe hd
    omega
  have hlen : (dirsE l).length ≤ 4294967296 := by
    have := dirsAll_len (valsL l ccN)
    rw [hde] at this
    omega
  have hfi := fun n (hn : n.length ≤ 100) W v (hv : DL W v (dirsE l)) => rfindD_any v (dirsE l) n W hv (fun j hj => hat _ (List.getElem_mem hj)) (by omega) hlen
  have hwx := fun W (h : EnW W fs l asked got Y) => when_any (st := st) (mi := mi) (re := re) (bo := bo) (vA := vA) (vn := vn) (vc := vc) exN W h (by decide)
  have hwd := fun W (h : EnW W fs l asked got Y) => when_any (st := st) (mi := mi) (re := re) (bo := bo) (vA := vA) (vn := vn) (vc := vc) dtN W h (by decide)
  have hap : sentI Y l got = (dateO Y l dtN).getD got := rfl
  have hsb := sent_bd (Y := Y) (l := l) h.g0 h.g1
  have hge : ∀ n t, dateO Y l n = some t → 0 ≤ t ∧ t ≤ 253402300799 := fun n t ht => parse_ge ht
  have HC := Lib.hid hc; have HV := Lib.hid hv; have HLI := Lib.hid hli; have HFI := Lib.hid hfi; have HWX := Lib.hid hwx; have HWD := Lib.hid hwd; have HX := Lib.hid hx; have HD := Lib.hid hd; have HE := Lib.hid h; have HZ := Lib.hid hz
  clear hx hd h hc hv hf1 hf2 hli hde hat hz hlen hfi hwx hwd
  obtain ⟨c, hcc⟩ : ∃ c, c = ctlE l dev := ⟨_, rfl⟩
  rw [← hcc] at HC
  obtain ⟨c0, c1, c2, c3, c4, c5⟩ := c
  dsimp only at HC
  have hc3 : (ctlE l dev).2.2.2.1 = c3 := by rw [← hcc]
  have hc4 : (ctlE l dev).2.2.2.2.1 = c4 := by rw [← hcc]
  clear hcc
  cases c3
  · have HB0 := HX
    have HD0 := HD
    go_enter Tryz.func21, Tryz.ntmps21
    go_wp2_with fail
    refine (HC.out).mono ?_
    rintro e w1 ⟨rfl, hb⟩
    have HB1 := Lib.hid (HB0.out.trans (hb.mono HB0.out.size))
    have HD1 := Lib.hid (HD0.out.below hb)
    clear hb HB0 HD0
    have hal : Below w1.heap.size w1 (w1.alloc (.cells #[.bool c0, .bool c1, .bool c2, .bool false, .int .i64 c4, .int .i64 c5] 48)) := (Below.refl _ _).alloc (Nat.le_refl _) _
    have HB2 := Lib.hid (HB1.out.trans (hal.mono HB1.out.size))
    have HD2 := Lib.hid (HD1.out.below hal)
    clear hal HB1 HD1
    have k3 := HD2.out.cell 3 _ rfl
    go_wp2_with fail
    clear k3
    refine (HV.out _ (HE.out.bel HB2.out)).mono ?_
    rintro e w3 ⟨u, rfl, ho, hb⟩
    have ho2 := ho.sl
    have HB3 := Lib.hid (HB2.out.trans (hb.mono HB2.out.size))
    have HD3 := Lib.hid (HD2.out.below hb)
    clear hb HB2 HD2
    go_wp2_with fail
    refine (HLI.out _ _ ho2).mono ?_
    rintro e w4 ⟨u2, rfl, ho3, hb⟩
    have HB4 := Lib.hid (HB3.out.trans (hb.mono HB3.out.size))
    have HD4 := Lib.hid (HD3.out.below hb)
    clear hb HB3 HD3
    have HO4 := Lib.hid ho3.dl
    clear ho ho2 ho3
    go_wp2_with fail
    have hfi := HFI.out ncN (by decide) _ _ HO4.out
    refine hfi.mono ?_
    clear hfi
    cases h0 : findD (dirsE l) ncN with
    | some d =>
      intro e w5 hr
      obtain ⟨he, hb⟩ : e = .returned (.tuple #[.agg #[.string (bs d.1), .string (bs d.2.1), .bool d.2.2.1, .string (bs d.2.2.2)], .bool true]) ∧ Below _ _ w5 := hr
      subst he
      have hm := HZ.out d (find_memE h0)
      have HB5 := Lib.hid (HB4.out.trans (hb.mono HB4.out.size))
      have HD5 := Lib.hid (HD4.out.below hb)
      have HO5 := Lib.hid (HO4.out.bel hb)
      clear hb HB4 HD4 HO4
      have hal : Below w5.heap.size w5 (w5.alloc (.cells #[.string (bs d.1), .string (bs d.2.1), .bool d.2.2.1, .string (bs d.2.2.2)] 79)) := (Below.refl _ _).alloc (Nat.le_refl _) _
      have HB6 := Lib.hid (HB5.out.trans (hal.mono HB5.out.size))
      have HD6 := Lib.hid (HD5.out.below hal)
      have HO6 := Lib.hid (HO5.out.bel hal)
      clear hal HB5 HD5 HO5
      go_wp2_with fail
      go_ret
      exact ⟨by rw [life_0 hc3 h0]; rfl, HB6.out⟩
    | none =>
      intro e w5 hr
      obtain ⟨he, hb⟩ : e = .returned (.tuple #[.agg #[.string ⟨#[]⟩, .string ⟨#[]⟩, .bool false, .string ⟨#[]⟩], .bool false]) ∧ Below _ _ w5 := hr
      subst he
      have HB5 := Lib.hid (HB4.out.trans (hb.mono HB4.out.size))
      have HD5 := Lib.hid (HD4.out.below hb)
      have HO5 := Lib.hid (HO4.out.bel hb)
      clear hb HB4 HD4 HO4
      have hal : Below w5.heap.size w5 (w5.alloc (.cells #[.string ⟨#[]⟩, .string ⟨#[]⟩, .bool false, .string ⟨#[]⟩] 79)) := (Below.refl _ _).alloc (Nat.le_refl _) _
      have HB6 := Lib.hid (HB5.out.trans (hal.mono HB5.out.size))
      have HD6 := Lib.hid (HD5.out.below hal)
      have HO6 := Lib.hid (HO5.out.bel hal)
      clear hal HB5 HD5 HO5
      go_wp2_with fail
      have hfi := HFI.out smN (by decide) _ _ HO6.out
      refine hfi.mono ?_
      clear hfi
      cases h1 : findD (dirsE l) smN with
      | some d =>
        intro e w7 hr
        obtain ⟨he, hb⟩ : e = .returned (.tuple #[.agg #[.string (bs d.1), .string (bs d.2.1), .bool d.2.2.1, .string (bs d.2.2.2)], .bool true]) ∧ Below _ _ w7 := hr
        subst he
        have hm := HZ.out d (find_memE h1)
        have HB7 := Lib.hid (HB6.out.trans (hb.mono HB6.out.size))
        have HD7 := Lib.hid (HD6.out.below hb)
        have HO7 := Lib.hid (HO6.out.bel hb)
        clear hb HB6 HD6 HO6
        have hal : Below w7.heap.size w7 (w7.alloc (.cells #[.string (bs d.1), .string (bs d.2.1), .bool d.2.2.1, .string (bs d.2.2.2)] 79)) := (Below.refl _ _).alloc (Nat.le_refl _) _
        have HB8 := Lib.hid (HB7.out.trans (hal.mono HB7.out.size))
        have HD8 := Lib.hid (HD7.out.below hal)
        have HO8 := Lib.hid (HO7.out.bel hal)
        clear hal HB7 HD7 HO7
        go_wp2_with fail
        refine (rnumber_any d _ hm).mono ?_
        rintro e w9 ⟨rfl, hb⟩
        have HB9 := Lib.hid (HB8.out.trans (hb.mono HB8.out.size))
        have HD9 := Lib.hid (HD8.out.below hb)
        have HO9 := Lib.hid (HO8.out.bel hb)
        clear hb HB8 HD8 HO8
        go_wp2_with fail
        go_ret
        exact ⟨by rw [life_1 hc3 h0 h1]; rfl, HB9.out⟩
      | none =>
        intro e w7 hr
        obtain ⟨he, hb⟩ : e = .returned (.tuple #[.agg #[.string ⟨#[]⟩, .string ⟨#[]⟩, .bool false, .string ⟨#[]⟩], .bool false]) ∧ Below _ _ w7 := hr
        subst he
        have HB7 := Lib.hid (HB6.out.trans (hb.mono HB6.out.size))
        have HD7 := Lib.hid (HD6.out.below hb)
        have HO7 := Lib.hid (HO6.out.bel hb)
        clear hb HB6 HD6 HO6
        have hal : Below w7.heap.size w7 (w7.alloc (.cells #[.string ⟨#[]⟩, .string ⟨#[]⟩, .bool false, .string ⟨#[]⟩] 79)) := (Below.refl _ _).alloc (Nat.le_refl _) _
        have HB8 := Lib.hid (HB7.out.trans (hal.mono HB7.out.size))
        have HD8 := Lib.hid (HD7.out.below hal)
        have HO8 := Lib.hid (HO7.out.bel hal)
        clear hal HB7 HD7 HO7
        go_wp2_with fail
        have hfi := HFI.out maxN (by decide) _ _ HO8.out
        refine hfi.mono ?_
        clear hfi
        cases h2 : findD (dirsE l) maxN with
        | some d =>
          intro e w9 hr
          obtain ⟨he, hb⟩ : e = .returned (.tuple #[.agg #[.string (bs d.1), .string (bs d.2.1), .bool d.2.2.1, .string (bs d.2.2.2)], .bool true]) ∧ Below _ _ w9 := hr
          subst he
          have hm := HZ.out d (find_memE h2)
          have HB9 := Lib.hid (HB8.out.trans (hb.mono HB8.out.size))
          have HD9 := Lib.hid (HD8.out.below hb)
          have HO9 := Lib.hid (HO8.out.bel hb)
          clear hb HB8 HD8 HO8
          have hal : Below w9.heap.size w9 (w9.alloc (.cells #[.string (bs d.1), .string (bs d.2.1), .bool d.2.2.1, .string (bs d.2.2.2)] 79)) := (Below.refl _ _).alloc (Nat.le_refl _) _
          have HB10 := Lib.hid (HB9.out.trans (hal.mono HB9.out.size))
          have HD10 := Lib.hid (HD9.out.below hal)
          have HO10 := Lib.hid (HO9.out.bel hal)
          clear hal HB9 HD9 HO9
          go_wp2_with fail
          refine (rnumber_any d _ hm).mono ?_
          rintro e w11 ⟨rfl, hb⟩
          have HB11 := Lib.hid (HB10.out.trans (hb.mono HB10.out.size))
          have HD11 := Lib.hid (HD10.out.below hb)
          have HO11 := Lib.hid (HO10.out.bel hb)
          clear hb HB10 HD10 HO10
          go_wp2_with fail
          go_ret
          exact ⟨by rw [life_2 hc3 h0 h1 h2]; rfl, HB11.out⟩
        | none =>
          intro e w9 hr
          obtain ⟨he, hb⟩ : e = .returned (.tuple #[.agg #[.string ⟨#[]⟩, .string ⟨#[]⟩, .bool false, .string ⟨#[]⟩], .bool false]) ∧ Below _ _ w9 := hr
          subst he
          have HB9 := Lib.hid (HB8.out.trans (hb.mono HB8.out.size))
          have HD9 := Lib.hid (HD8.out.below hb)
          have HO9 := Lib.hid (HO8.out.bel hb)
          clear hb HB8 HD8 HO8
          have hal : Below w9.heap.size w9 (w9.alloc (.cells #[.string ⟨#[]⟩, .string ⟨#[]⟩, .bool false, .string ⟨#[]⟩] 79)) := (Below.refl _ _).alloc (Nat.le_refl _) _
          have HB10 := Lib.hid (HB9.out.trans (hal.mono HB9.out.size))
          have HD10 := Lib.hid (HD9.out.below hal)
          have HO10 := Lib.hid (HO9.out.bel hal)
          clear hal HB9 HD9 HO9
          obtain ⟨k0, k1, k2, k3, k4, k5, k6, k7⟩ := HD10.out.eight
          go_wp2_with fail
          clear k0 k1 k2 k3 k4 k5 k6 k7
          refine (HWX.out _ (HE.out.bel HB10.out)).mono ?_
          cases ho : dateO Y l exN with
          | none =>
            rintro e w11 ⟨rfl, hb⟩
            have HB11 := Lib.hid (HB10.out.trans (hb.mono HB10.out.size))
            have HD11 := Lib.hid (HD10.out.below hb)
            have HO11 := Lib.hid (HO10.out.bel hb)
            clear hb HB10 HD10 HO10
            rw [Option.getD_none]
            go_wp2_with fail
            go_ret
            exact ⟨by rw [life_3 hc3 h0 h1 h2 ho]; rfl, HB11.out⟩
          | some t =>
            rintro e w11 ⟨rfl, hb⟩
            obtain ⟨ht0, ht1⟩ := hge _ t ho
            have HB11 := Lib.hid (HB10.out.trans (hb.mono HB10.out.size))
            have HD11 := Lib.hid (HD10.out.below hb)
            have HO11 := Lib.hid (HO10.out.bel hb)
            clear hb HB10 HD10 HO10
            rw [Option.getD_some]
            obtain ⟨k0, k1, k2, k3, k4, k5, k6, k7⟩ := HD11.out.eight
            go_wp2_with fail
            clear k0 k1 k2 k3 k4 k5 k6 k7
            refine (HWD.out _ (HE.out.bel HB11.out)).mono ?_
            cases ho2 : dateO Y l dtN with
            | none =>
              rintro e w12 ⟨rfl, hb⟩
              rw [ho2, Option.getD_none] at hap
              have HB12 := Lib.hid (HB11.out.trans (hb.mono HB11.out.size))
              have HD12 := Lib.hid (HD11.out.below hb)
              have HO12 := Lib.hid (HO11.out.bel hb)
              clear hb HB11 HD11 HO11
              rw [Option.getD_none]
              have k6 := HD12.out.cell 6 _ rfl
              go_wp2_with fail
              refine (rsince_any _ _ _ HE.out.g0 HE.out.g1 (by omega) (by omega)).mono ?_
              rintro e wx ⟨rfl, rfl⟩
              go_wp2_with fail
              go_ret
              exact ⟨by rw [life_4 hc3 h0 h1 h2 ho, hap]; rfl, HB12.out⟩
            | some u =>
              rintro e w12 ⟨rfl, hb⟩
              obtain ⟨hu0, hu1⟩ := hge _ u ho2
              rw [ho2, Option.getD_some] at hap
              have HB12 := Lib.hid (HB11.out.trans (hb.mono HB11.out.size))
              have HD12 := Lib.hid (HD11.out.below hb)
              have HO12 := Lib.hid (HO11.out.bel hb)
              clear hb HB11 HD11 HO11
              rw [Option.getD_some]
              go_wp2_with fail
              refine (rsince_any _ _ _ (by omega) (by omega) (by omega) (by omega)).mono ?_
              rintro e wx ⟨rfl, rfl⟩
              go_wp2_with fail
              go_ret
              exact ⟨by rw [life_4 hc3 h0 h1 h2 ho, hap]; rfl, HB12.out⟩
  · have HB0 := HX
    go_enter Tryz.func21, Tryz.ntmps21
    go_wp2_with fail
    refine (HC.out).mono ?_
    rintro e w1 ⟨rfl, hb⟩
    have HB1 := Lib.hid (HB0.out.trans (hb.mono HB0.out.size))
    clear hb HB0
    have hal : Below w1.heap.size w1 (w1.alloc (.cells #[.bool c0, .bool c1, .bool c2, .bool true, .int .i64 c4, .int .i64 c5] 48)) := (Below.refl _ _).alloc (Nat.le_refl _) _
    have HB2 := Lib.hid (HB1.out.trans (hal.mono HB1.out.size))
    clear hal HB1
    go_wp2_with fail
    go_ret
    exact ⟨by rw [life_ctl hc3, hc4]; rfl, HB2.out⟩
end Go.Proofs.YtfobjaccpnondaaGreatDoor
