/- What the program answers of an entry: its control, a field's date, when it was sent, its age. -/
import Derived.Test.YtfobjaccpnondaaGreatDoorKDateH
import Derived.Test.YtfobjaccpnondaaGreatDoorKDirE
import Derived.Test.YtfobjaccpnondaaGreatDoorKFre0
import Derived.Test.YtfobjaccpnondaaGreatDoorKOpen
import Derived.Test.YtfobjaccpnondaaGreatDoorKSurF
import Derived.Test.YtfobjaccpnondaaGreatDoorKTick
import Derived.Laws.EntriesVeiled
namespace Go.Proofs.YtfobjaccpnondaaGreatDoor
open Go.RowKit

/-- what is asked of an entry's fields, times and of the world -/
structure EnW (w : World) (fs : Value) (l : List Fld) (asked got Y : Int) : Prop where
  fl : FL w fs l
  fe : Fe l
  mx : MaxD w
  tb : Tabs w
  ny : ∃ m d h i s, IsT (clampI got) Y m d h i s
  a0 : -9223372036854775808 ≤ asked
  a1 : asked ≤ 9223372036854775807
  g0 : -9223372036854775808 ≤ got
  g1 : got ≤ 9223372036854775807
theorem EnW.bel {w w' : World} {fs : Value} {l : List Fld} {asked got Y : Int} (h : EnW w fs l asked got Y) (hb : Below w.heap.size w w') : EnW w' fs l asked got Y :=
  ⟨h.fl.bel hb, h.fe, h.mx.bel hb, h.tb.below hb, h.ny, h.a0, h.a1, h.g0, h.g1⟩
theorem dbk.eight {w : World} {b : Nat} {x0 x1 x2 x3 x4 x5 x6 x7 : Value} (h : dbk w b #[x0, x1, x2, x3, x4, x5, x6, x7]) :
    w.cell? ⟨b, 0, none⟩ = some x0 ∧ w.cell? ⟨b, 1, none⟩ = some x1 ∧ w.cell? ⟨b, 2, none⟩ = some x2 ∧ w.cell? ⟨b, 3, none⟩ = some x3 ∧ w.cell? ⟨b, 4, none⟩ = some x4 ∧ w.cell? ⟨b, 5, none⟩ = some x5 ∧ w.cell? ⟨b, 6, none⟩ = some x6 ∧ w.cell? ⟨b, 7, none⟩ = some x7 :=
  ⟨h.cell 0 _ rfl, h.cell 1 _ rfl, h.cell 2 _ rfl, h.cell 3 _ rfl, h.cell 4 _ rfl, h.cell 5 _ rfl, h.cell 6 _ rfl, h.cell 7 _ rfl⟩
theorem parse_ge {nw : Int} {l : List UInt8} {t : Int} (h : parseDL nw l = some t) : 0 ≤ t ∧ t ≤ 253402300799 := by
  obtain ⟨y, m, d, h, i, s, H⟩ := parse_isT h
  exact H.bd
theorem sent_bd {Y : Int} {l : List Fld} {got : Int} (h0 : -9223372036854775808 ≤ got) (h1 : got ≤ 9223372036854775807) : -9223372036854775808 ≤ sentI Y l got ∧ sentI Y l got ≤ 9223372036854775807 := by
  unfold sentI
  cases h : dateO Y l dtN with
  | none => exact ⟨h0, h1⟩
  | some t =>
    have := parse_ge h
    show _ ≤ t ∧ t ≤ _
    omega
theorem deltaB (g : List UInt8) (w : World) (hs : g.length ≤ 140737488355328) : Calls Tryz.prog 165 #[.string (bs g)] w fun e w' => e = .returned (.tuple #[.int .i64 (delI g), .bool (isDel g)]) ∧ w = w' := by
  have := delta_any (bs g) w (by unfold maxLen; rw [bs_size]; omega)
  rwa [bs_data] at this
variable {st mi asked got Y : Int} {re bo : ByteArray} {fs : Value} {vA : Option Addr} {vn vc : Nat} {l : List Fld}

set_option maxRecDepth 100000 in
set_option maxHeartbeats 2000000 in
theorem dateOf_any (n : List UInt8) (w : World) (h : EnW w fs l asked got Y) (hn : n.length ≤ 1000) :
    Calls Tryz.prog 171 #[.agg #[.int .i64 st, .string re, .int .i64 mi, fs, .string bo, .int .i64 asked, .int .i64 got, .slice vA vn vc], .string (bs n)] w fun e w' => e = .returned (.tuple #[.int .i64 ((dateO Y l n).getD 0), .bool (dateO Y l n).isSome]) ∧ Below w.heap.size w w' := by
  have hx : Below w.heap.size w (w.alloc (.cells #[.int .i64 st, .string re, .int .i64 mi, fs, .string bo, .int .i64 asked, .int .i64 got, .slice vA vn vc] 28)) := (Below.refl _ _).alloc (Nat.le_refl _) _
  have hd := dbk.new w #[.int .i64 st, .string re, .int .i64 mi, fs, .string bo, .int .i64 asked, .int .i64 got, .slice vA vn vc] 28
  have hg := get_any fs l n _ (h.fl.bel hx) h.fe.small (by have := h.fe.1; omega) (by have := h.fe.size; omega) (by omega)
  obtain ⟨m, d, hh, i, s, HY⟩ := h.ny
  have hp := fun W (ht : Tabs W) => parse_any (bs (getL l n)) got Y m d hh i s W (by unfold maxLen; rw [bs_size]; have := h.fe.getLen n; omega) HY ht
  rw [bs_data] at hp
  have hd0 : dateO Y l n = parseDL (Y + 50) (getL l n) := rfl
  rw [← hd0] at hp
  have HG := Lib.hid hg; have HP := Lib.hid hp; have HX := Lib.hid hx; have HD := Lib.hid hd; have HE := Lib.hid h
  clear hd0 hx hd h HY hg hp hn
  generalize dateO Y l n = o at *
  generalize getL l n = g at *
  generalize hasF l n = q at *
  go_enter Tryz.func171, Tryz.ntmps171
  go_wp2_with fail
  refine HG.out.mono ?_
  rintro e w1 ⟨rfl, hb1⟩
  have HB := Lib.hid (HX.out.trans (hb1.mono HX.out.size))
  have k6 := (HD.out.below hb1).cell 6 _ rfl
  clear hb1 HG
  go_wp2_with fail
  refine (HP.out _ (HE.out.tb.below HB.out)).mono ?_
  cases o with
  | none =>
    unfold ansV
    rintro e w2 ⟨rfl, hb2⟩
    have HB2 := Lib.hid (HB.out.trans (hb2.mono HB.out.size)); clear hb2 HB k6
    go_wp2_with fail
    go_ret2
    exact ⟨rfl, HB2.out⟩
  | some t =>
    unfold ansV
    rintro e w2 ⟨rfl, hb2⟩
    have HB2 := Lib.hid (HB.out.trans (hb2.mono HB.out.size)); clear hb2 HB k6
    go_wp2_with fail
    go_ret2
    exact ⟨rfl, HB2.out⟩

set_option maxRecDepth 100000 in
theorem sent_any (w : World) (h : EnW w fs l asked got Y) :
    Calls Tryz.prog 173 #[.agg #[.int .i64 st, .string re, .int .i64 mi, fs, .string bo, .int .i64 asked, .int .i64 got, .slice vA vn vc]] w fun e w' => e = .returned (.int .i64 (sentI Y l got)) ∧ Below w.heap.size w w' := by
  have hx : Below w.heap.size w (w.alloc (.cells #[.int .i64 st, .string re, .int .i64 mi, fs, .string bo, .int .i64 asked, .int .i64 got, .slice vA vn vc] 28)) := (Below.refl _ _).alloc (Nat.le_refl _) _
  have hd := dbk.new w #[.int .i64 st, .string re, .int .i64 mi, fs, .string bo, .int .i64 asked, .int .i64 got, .slice vA vn vc] 28
  have hc := dateOf_any (st := st) (mi := mi) (re := re) (bo := bo) (vA := vA) (vn := vn) (vc := vc) dtN _ (h.bel hx) (by decide)
  have hs : sentI Y l got = (dateO Y l dtN).getD got := rfl
  rw [hs]
  have HC := Lib.hid hc; have HX := Lib.hid hx; have HD := Lib.hid hd
  clear hx hd h hc hs
  generalize dateO Y l dtN = o at *
  go_enter Tryz.func173, Tryz.ntmps173
  go_wp2_with fail
  refine HC.out.mono ?_
  cases o with
  | none =>
    rintro e w2 ⟨rfl, hb2⟩
    have HB2 := Lib.hid (HX.out.trans (hb2.mono HX.out.size))
    have k6 := (HD.out.below hb2).cell 6 _ rfl
    clear hb2 HC HD HX
    simp only [Option.getD_none, Option.isSome_none]
    go_wp2_with fail
    go_ret
    exact ⟨rfl, HB2.out⟩
  | some t =>
    rintro e w2 ⟨rfl, hb2⟩
    have HB2 := Lib.hid (HX.out.trans (hb2.mono HX.out.size))
    clear hb2 HC HD HX
    simp only [Option.getD_some, Option.isSome_some]
    go_wp2_with fail
    go_ret
    exact ⟨rfl, HB2.out⟩


set_option maxRecDepth 100000 in
set_option maxHeartbeats 2000000 in
theorem fctl_any (dev : List UInt8) (w : World) (h : EnW w fs l asked got Y) :
    Calls Tryz.prog 89 #[.agg #[.int .i64 st, .string re, .int .i64 mi, fs, .string bo, .int .i64 asked, .int .i64 got, .slice vA vn vc], .string (bs dev)] w fun e w' => e = .returned (.agg #[.bool (ctlE l dev).1, .bool (ctlE l dev).2.1, .bool (ctlE l dev).2.2.1, .bool (ctlE l dev).2.2.2.1, .int .i64 (ctlE l dev).2.2.2.2.1, .int .i64 (ctlE l dev).2.2.2.2.2]) ∧ Below w.heap.size w w' := by
  have hx : Below w.heap.size w (w.alloc (.cells #[.int .i64 st, .string re, .int .i64 mi, fs, .string bo, .int .i64 asked, .int .i64 got, .slice vA vn vc] 28)) := (Below.refl _ _).alloc (Nat.le_refl _) _
  have hx2 : Below w.heap.size w ((w.alloc (.cells #[.int .i64 st, .string re, .int .i64 mi, fs, .string bo, .int .i64 asked, .int .i64 got, .slice vA vn vc] 28)).alloc (.cells #[.bool false, .bool false, .bool false, .bool false, .int .i64 0, .int .i64 0] 70)) := hx.alloc hx.size _
  have hr := res6_new (w.alloc (.cells #[.int .i64 st, .string re, .int .i64 mi, fs, .string bo, .int .i64 asked, .int .i64 got, .slice vA vn vc] 28))
  rw [World.size_alloc] at hr
  have hv := values_any fs l scN _ (h.fl.bel hx2) h.fe.small (by have := h.fe.1; omega) (by decide)
  obtain ⟨hf1, hf2⟩ := h.fe.vals scN
  have hs := fun (W : World) (v : Value) (hv : SL W v (valsL l scN)) (hm : MaxD W) => sof_wide v (valsL l scN) dev W hm hv hf2 (by omega)
  have hct : ofC (valsL l scN) dev = ctlE l dev := rfl
  rw [hct] at hs
  have HV := Lib.hid hv; have HS := Lib.hid hs; have HX2 := Lib.hid hx2; have HR := Lib.hid hr; have HE := Lib.hid h
  clear hx hx2 hr hv hs hct h hf1 hf2
  generalize ctlE l dev = c at *
  go_enter Tryz.func89, Tryz.ntmps89
  go_wp2_with fail
  refine HV.out.mono ?_
  rintro e w1 ⟨u, rfl, ho, hb1⟩
  have HB1 := Lib.hid (HX2.out.trans (hb1.mono HX2.out.size)); have HR1 := Lib.hid (HR.out.below hb1); have HO := Lib.hid ho.sl
  clear hb1 ho HV HX2 HR
  go_wp2_with fail
  refine (HS.out _ _ HO.out (HE.out.mx.bel HB1.out)).mono ?_
  rintro e w2 ⟨rfl, hb2⟩
  have HB := Lib.hid (HB1.out.trans (hb2.mono HB1.out.size)); have HA := Lib.hid (HR1.out.below hb2)
  clear hb2 HB1 HR1 HS HO
  have hct : (Value.agg (ctA c)) = .agg #[.bool c.1, .bool c.2.1, .bool c.2.2.1, .bool c.2.2.2.1, .int .i64 c.2.2.2.2.1, .int .i64 c.2.2.2.2.2] := rfl
  rw [hct]
  clear hct
  obtain ⟨a0, b0, a1, b1, a2, b2, a3, b3, a4, b4, a5, b5⟩ := HA.out.asks6 (.bool c.1) (.bool c.2.1) (.bool c.2.2.1) (.bool c.2.2.2.1) (.int .i64 c.2.2.2.2.1)
  obtain ⟨g0, g1, g2, g3, g4, g5⟩ := (HA.out.putc c).six
  have hq := putC_below (b := w.heap.size + 1) HB.out (Nat.le_succ _) c
  simp only [putC, ctl0] at a0 a1 a2 a3 a4 a5 b0 b1 b2 b3 b4 b5 g0 g1 g2 g3 g4 g5 hq
  have HQ := Lib.hid hq; have HG := Lib.hid (And.intro g0 (And.intro g1 (And.intro g2 (And.intro g3 (And.intro g4 g5))))); clear hq g0 g1 g2 g3 g4 g5
  go_wp2_with fail
  obtain ⟨g0, g1, g2, g3, g4, g5⟩ := HG.out
  refine bodyPost_ret (v := .agg #[.bool c.1, .bool c.2.1, .bool c.2.2.1, .bool c.2.2.2.1, .int .i64 c.2.2.2.2.1, .int .i64 c.2.2.2.2.2]) (by simp [results, Tryz.results89, go_sem, g0, g1, g2, g3, g4, g5]) rfl ?_
  exact ⟨rfl, HQ.out⟩
end Go.Proofs.YtfobjaccpnondaaGreatDoor

/- The rules that determine a life, one by one; the list of them. -/
namespace Go.Proofs.YtfobjaccpnondaaGreatDoor
open Go.RowKit Go.Shelf

theorem dbk.fifteen {w : World} {b : Nat} {x0 x1 x2 x3 x4 x5 x6 x7 x8 x9 x10 x11 x12 x13 x14 : Value} (h : dbk w b #[x0, x1, x2, x3, x4, x5, x6, x7, x8, x9, x10, x11, x12, x13, x14]) :
    w.cell? ⟨b, 0, none⟩ = some x0 ∧ w.cell? ⟨b, 1, none⟩ = some x1 ∧ w.cell? ⟨b, 2, none⟩ = some x2 ∧ w.cell? ⟨b, 3, none⟩ = some x3 ∧ w.cell? ⟨b, 4, none⟩ = some x4 ∧ w.cell? ⟨b, 5, none⟩ = some x5 ∧ w.cell? ⟨b, 6, none⟩ = some x6 ∧ w.cell? ⟨b, 7, none⟩ = some x7 ∧ w.cell? ⟨b, 8, none⟩ = some x8 ∧ w.cell? ⟨b, 9, none⟩ = some x9 ∧ w.cell? ⟨b, 10, none⟩ = some x10 ∧ w.cell? ⟨b, 11, none⟩ = some x11 ∧ w.cell? ⟨b, 12, none⟩ = some x12 ∧ w.cell? ⟨b, 13, none⟩ = some x13 ∧ w.cell? ⟨b, 14, none⟩ = some x14 :=
  ⟨h.cell 0 _ rfl, h.cell 1 _ rfl, h.cell 2 _ rfl, h.cell 3 _ rfl, h.cell 4 _ rfl, h.cell 5 _ rfl, h.cell 6 _ rfl, h.cell 7 _ rfl, h.cell 8 _ rfl, h.cell 9 _ rfl, h.cell 10 _ rfl, h.cell 11 _ rfl, h.cell 12 _ rfl, h.cell 13 _ rfl, h.cell 14 _ rfl⟩
/-- what a rule's function answers -/
def Rules (sv : Value) (G : World → Prop) (f : FuncId) (up : List UInt8 → Int × Bool) : Prop := ∀ (n : List UInt8) (w : World), n.length ≤ 100 → G w →
    Calls Tryz.prog f #[sv, .string (bs n)] w fun e w' => e = .returned (.tuple #[.int .i64 (up n).1, .bool (up n).2]) ∧ Below w.heap.size w w'
def StW (u fs : Value) (l : List Fld) (asked got Y : Int) (w : World) : Prop := EnW w fs l asked got Y ∧ DL w u (dirsE l)
theorem StW.bel {w w' : World} {u fs : Value} {l : List Fld} {asked got Y : Int} (h : StW u fs l asked got Y w) (hb : Below w.heap.size w w') : StW u fs l asked got Y w' := ⟨h.1.bel hb, h.2.bel hb⟩
theorem dirsE_len {l : List Fld} (h : Fe l) : (dirsE l).length ≤ 6400 := by
  have := dirsAll_len (valsL l ccN)
  have h2 := (h.vals ccN).1
  show (dirsAll (valsL l ccN)).length ≤ _
  omega
theorem dirsE_w {l : List Fld} (hf : Fe l) : ∀ j (hj : j < (dirsE l).length), DvW (dirsE l)[j] := fun j hj => by
  obtain ⟨a, b, c⟩ := dirsE_at hf (List.getElem_mem hj)
  exact ⟨by omega, by omega, by rw [c]; exact Nat.zero_le _⟩
variable {st mi asked got Y : Int} {re bo : ByteArray} {fs : Value} {vA : Option Addr} {vn vc : Nat} {l : List Fld}
variable {c : Ctl} {u : Value}
set_option maxRecDepth 100000 in
theorem byControl_any : Rules (.agg #[.int .i64 st, .string re, .int .i64 mi, fs, .string bo, .int .i64 asked, .int .i64 got, .slice vA vn vc, .bool c.1, .bool c.2.1, .bool c.2.2.1, .bool c.2.2.2.1, .int .i64 c.2.2.2.2.1, .int .i64 c.2.2.2.2.2, u]) (StW u fs l asked got Y) 138 (fun _ => ctlR c) := by
  intro n w hn h
  have hx : Below w.heap.size w (w.alloc (.cells #[.int .i64 st, .string re, .int .i64 mi, fs, .string bo, .int .i64 asked, .int .i64 got, .slice vA vn vc, .bool c.1, .bool c.2.1, .bool c.2.2.1, .bool c.2.2.2.1, .int .i64 c.2.2.2.2.1, .int .i64 c.2.2.2.2.2, u] 119)) := (Below.refl _ _).alloc (Nat.le_refl _) _
  have hd := dbk.new w #[.int .i64 st, .string re, .int .i64 mi, fs, .string bo, .int .i64 asked, .int .i64 got, .slice vA vn vc, .bool c.1, .bool c.2.1, .bool c.2.2.1, .bool c.2.2.2.1, .int .i64 c.2.2.2.2.1, .int .i64 c.2.2.2.2.2, u] 119
  have HX := Lib.hid hx
  clear hx hd h hn
  show Calls _ _ _ _ fun e w' => e = .returned (.tuple #[.int .i64 c.2.2.2.2.1, .bool c.2.2.2.1]) ∧ _
  go_enter Tryz.func138, Tryz.ntmps138
  go_wp2_with fail
  go_region
  all_goals go_wp2_with fail
  all_goals go_ret2
  all_goals exact ⟨rfl, HX.out.drew⟩
set_option maxRecDepth 100000 in
set_option maxHeartbeats 1000000 in
theorem never_any : Rules (.agg #[.int .i64 st, .string re, .int .i64 mi, fs, .string bo, .int .i64 asked, .int .i64 got, .slice vA vn vc, .bool c.1, .bool c.2.1, .bool c.2.2.1, .bool c.2.2.2.1, .int .i64 c.2.2.2.2.1, .int .i64 c.2.2.2.2.2, u]) (StW u fs l asked got Y) 139 (neverR (dirsE l)) := by
  intro n w hn h
  have hx : Below w.heap.size w (w.alloc (.cells #[.int .i64 st, .string re, .int .i64 mi, fs, .string bo, .int .i64 asked, .int .i64 got, .slice vA vn vc, .bool c.1, .bool c.2.1, .bool c.2.2.1, .bool c.2.2.2.1, .int .i64 c.2.2.2.2.1, .int .i64 c.2.2.2.2.2, u] 119)) := (Below.refl _ _).alloc (Nat.le_refl _) _
  have hd := dbk.new w #[.int .i64 st, .string re, .int .i64 mi, fs, .string bo, .int .i64 asked, .int .i64 got, .slice vA vn vc, .bool c.1, .bool c.2.1, .bool c.2.2.1, .bool c.2.2.2.1, .int .i64 c.2.2.2.2.1, .int .i64 c.2.2.2.2.2, u] 119
  have hf := findD_any u (dirsE l) n _ (h.2.bel hx) (dirsE_w h.1.fe) (by omega) (by have := dirsE_len h.1.fe; omega)
  have HX := Lib.hid hx; have HF := Lib.hid hf
  clear hx hd h hn hf
  have hgo : neverR (dirsE l) n = (0, (findD (dirsE l) n).isSome) := rfl
  rw [hgo]
  clear hgo
  have HB0 := HX
  go_enter Tryz.func139, Tryz.ntmps139
  go_wp2_with fail
  refine HF.out.mono ?_
  cases hf : findD (dirsE l) n with
  | some d =>
    intro e w1 hr
    obtain ⟨he, hb⟩ : e = .returned (.tuple #[.agg #[.string (bs d.1), .string (bs d.2.1), .bool d.2.2.1, .string (bs d.2.2.2)], .bool true]) ∧ Below _ _ w1 := hr
    subst he
    have HB1 := Lib.hid (HB0.out.trans (hb.mono HB0.out.size))
    clear hb HB0
    have hal : Below w1.heap.size w1 (w1.alloc (.cells #[.string (bs d.1), .string (bs d.2.1), .bool d.2.2.1, .string (bs d.2.2.2)] 79)) := (Below.refl _ _).alloc (Nat.le_refl _) _
    have HB2 := Lib.hid (HB1.out.trans (hal.mono HB1.out.size))
    clear hal HB1
    go_wp2_with fail
    go_ret2
    exact ⟨by rw [hf]; rfl, HB2.out⟩
  | none =>
    intro e w1 hr
    obtain ⟨he, hb⟩ : e = .returned (.tuple #[.agg #[.string ⟨#[]⟩, .string ⟨#[]⟩, .bool false, .string ⟨#[]⟩], .bool false]) ∧ Below _ _ w1 := hr
    subst he
    have HB1 := Lib.hid (HB0.out.trans (hb.mono HB0.out.size))
    clear hb HB0
    have hal : Below w1.heap.size w1 (w1.alloc (.cells #[.string ⟨#[]⟩, .string ⟨#[]⟩, .bool false, .string ⟨#[]⟩] 79)) := (Below.refl _ _).alloc (Nat.le_refl _) _
    have HB2 := Lib.hid (HB1.out.trans (hal.mono HB1.out.size))
    clear hal HB1
    go_wp2_with fail
    go_ret2
    exact ⟨by rw [hf]; rfl, HB2.out⟩
set_option maxRecDepth 100000 in
set_option maxHeartbeats 1000000 in
theorem byNumber_any : Rules (.agg #[.int .i64 st, .string re, .int .i64 mi, fs, .string bo, .int .i64 asked, .int .i64 got, .slice vA vn vc, .bool c.1, .bool c.2.1, .bool c.2.2.1, .bool c.2.2.2.1, .int .i64 c.2.2.2.2.1, .int .i64 c.2.2.2.2.2, u]) (StW u fs l asked got Y) 140 (numR (dirsE l)) := by
  intro n w hn h
  have hx : Below w.heap.size w (w.alloc (.cells #[.int .i64 st, .string re, .int .i64 mi, fs, .string bo, .int .i64 asked, .int .i64 got, .slice vA vn vc, .bool c.1, .bool c.2.1, .bool c.2.2.1, .bool c.2.2.2.1, .int .i64 c.2.2.2.2.1, .int .i64 c.2.2.2.2.2, u] 119)) := (Below.refl _ _).alloc (Nat.le_refl _) _
  have hd := dbk.new w #[.int .i64 st, .string re, .int .i64 mi, fs, .string bo, .int .i64 asked, .int .i64 got, .slice vA vn vc, .bool c.1, .bool c.2.1, .bool c.2.2.1, .bool c.2.2.2.1, .int .i64 c.2.2.2.2.1, .int .i64 c.2.2.2.2.2, u] 119
  have hf := findD_any u (dirsE l) n _ (h.2.bel hx) (dirsE_w h.1.fe) (by omega) (by have := dirsE_len h.1.fe; omega)
  have hz : ∀ d ∈ dirsE l, d.2.1.length ≤ 7000 := fun d hd => (dirsE_at h.1.fe hd).2.1
  have HX := Lib.hid hx; have HF := Lib.hid hf; have HZ := Lib.hid hz
  clear hx hd h hn hf hz
  have HB0 := HX
  go_enter Tryz.func140, Tryz.ntmps140
  go_wp2_with fail
  refine HF.out.mono ?_
  cases hf : findD (dirsE l) n with
  | some d =>
    intro e w1 hr
    obtain ⟨he, hb⟩ : e = .returned (.tuple #[.agg #[.string (bs d.1), .string (bs d.2.1), .bool d.2.2.1, .string (bs d.2.2.2)], .bool true]) ∧ Below _ _ w1 := hr
    subst he
    have hm := HZ.out d (find_memE hf)
    have hdl := fun W => deltaB d.2.1 W (by omega)
    have HB1 := Lib.hid (HB0.out.trans (hb.mono HB0.out.size))
    clear hb HB0
    have hal : Below w1.heap.size w1 (w1.alloc (.cells #[.string (bs d.1), .string (bs d.2.1), .bool d.2.2.1, .string (bs d.2.2.2)] 79)) := (Below.refl _ _).alloc (Nat.le_refl _) _
    have HB2 := Lib.hid (HB1.out.trans (hal.mono HB1.out.size))
    clear hal HB1
    go_wp2_with fail
    refine (hdl _).mono ?_
    rintro e wx ⟨rfl, rfl⟩
    go_wp2_with fail
    go_ret2
    exact ⟨by unfold numR; rw [hf]; rfl, HB2.out⟩
  | none =>
    intro e w1 hr
    obtain ⟨he, hb⟩ : e = .returned (.tuple #[.agg #[.string ⟨#[]⟩, .string ⟨#[]⟩, .bool false, .string ⟨#[]⟩], .bool false]) ∧ Below _ _ w1 := hr
    subst he
    have hdl := fun W => deltaB [] W (by decide)
    have HB1 := Lib.hid (HB0.out.trans (hb.mono HB0.out.size))
    clear hb HB0
    have hal : Below w1.heap.size w1 (w1.alloc (.cells #[.string ⟨#[]⟩, .string ⟨#[]⟩, .bool false, .string ⟨#[]⟩] 79)) := (Below.refl _ _).alloc (Nat.le_refl _) _
    have HB2 := Lib.hid (HB1.out.trans (hal.mono HB1.out.size))
    clear hal HB1
    go_wp2_with fail
    refine (hdl _).mono ?_
    rintro e wx ⟨rfl, rfl⟩
    go_wp2_with fail
    go_ret2
    exact ⟨by unfold numR; rw [hf]; rfl, HB2.out⟩
set_option maxRecDepth 100000 in
set_option maxHeartbeats 2000000 in
theorem byDates_any : Rules (.agg #[.int .i64 st, .string re, .int .i64 mi, fs, .string bo, .int .i64 asked, .int .i64 got, .slice vA vn vc, .bool c.1, .bool c.2.1, .bool c.2.2.1, .bool c.2.2.2.1, .int .i64 c.2.2.2.2.1, .int .i64 c.2.2.2.2.2, u]) (StW u fs l asked got Y) 141 (dateR Y l got) := by
  intro n w hn h
  have hx : Below w.heap.size w (w.alloc (.cells #[.int .i64 st, .string re, .int .i64 mi, fs, .string bo, .int .i64 asked, .int .i64 got, .slice vA vn vc, .bool c.1, .bool c.2.1, .bool c.2.2.1, .bool c.2.2.2.1, .int .i64 c.2.2.2.2.1, .int .i64 c.2.2.2.2.2, u] 119)) := (Below.refl _ _).alloc (Nat.le_refl _) _
  have hd := dbk.new w #[.int .i64 st, .string re, .int .i64 mi, fs, .string bo, .int .i64 asked, .int .i64 got, .slice vA vn vc, .bool c.1, .bool c.2.1, .bool c.2.2.1, .bool c.2.2.2.1, .int .i64 c.2.2.2.2.1, .int .i64 c.2.2.2.2.2, u] 119
  have hg := get_any fs l n _ ((h.1.fl).bel hx) h.1.fe.small (by have := h.1.fe.1; omega) (by have := h.1.fe.size; omega) (by omega)
  have hdt := fun W (h : EnW W fs l asked got Y) => dateOf_any (st := st) (mi := mi) (re := re) (bo := bo) (vA := vA) (vn := vn) (vc := vc) n W h (by omega)
  have hsn := fun W (h : EnW W fs l asked got Y) => sent_any (st := st) (mi := mi) (re := re) (bo := bo) (vA := vA) (vn := vn) (vc := vc) W h
  have hsb := sent_bd (Y := Y) (l := l) h.1.g0 h.1.g1
  have HX := Lib.hid hx; have HD := Lib.hid hd; have HE := Lib.hid h.1; have HG := Lib.hid hg; have HDT := Lib.hid hdt; have HSN := Lib.hid hsn; have HSB := Lib.hid hsb
  clear hx hd h hn hg hdt hsn hsb
  generalize getL l n = g at *
  have HB0 := HX
  have HD0 := HD
  go_enter Tryz.func141, Tryz.ntmps141
  go_wp2_with fail
  refine (HG.out).mono ?_
  rintro e w1 ⟨rfl, hb⟩
  have HB1 := Lib.hid (HB0.out.trans (hb.mono HB0.out.size))
  have HD1 := Lib.hid (HD0.out.below hb)
  clear hb HB0 HD0
  obtain ⟨k0, k1, k2, k3, k4, k5, k6, k7, k8, k9, k10, k11, k12, k13, k14⟩ := HD1.out.fifteen
  go_wp2_with fail
  clear k0 k1 k2 k3 k4 k5 k6 k7 k8 k9 k10 k11 k12 k13 k14
  refine (HDT.out _ (HE.out.bel HB1.out)).mono ?_
  cases ho : dateO Y l n with
  | none =>
    rintro e w2 ⟨rfl, hb⟩
    simp only [Option.getD_none, Option.isSome_none]
    have HB2 := Lib.hid (HB1.out.trans (hb.mono HB1.out.size))
    have HD2 := Lib.hid (HD1.out.below hb)
    clear hb HB1 HD1
    go_wp2_with fail
    go_ret2
    exact ⟨by unfold dateR; rw [ho]; rfl, HB2.out⟩
  | some t =>
    obtain ⟨ht0, ht1⟩ := parse_ge ho
    rintro e w2 ⟨rfl, hb⟩
    simp only [Option.getD_some, Option.isSome_some]
    have HB2 := Lib.hid (HB1.out.trans (hb.mono HB1.out.size))
    have HD2 := Lib.hid (HD1.out.below hb)
    clear hb HB1 HD1
    obtain ⟨k0, k1, k2, k3, k4, k5, k6, k7, k8, k9, k10, k11, k12, k13, k14⟩ := HD2.out.fifteen
    go_wp2_with fail
    clear k0 k1 k2 k3 k4 k5 k6 k7 k8 k9 k10 k11 k12 k13 k14
    refine (HSN.out _ (HE.out.bel HB2.out)).mono ?_
    rintro e w3 ⟨rfl, hb⟩
    have HB3 := Lib.hid (HB2.out.trans (hb.mono HB2.out.size))
    have HD3 := Lib.hid (HD2.out.below hb)
    clear hb HB2 HD2
    go_wp2_with fail
    refine (since_any _ _ _ HSB.out.1 (by omega)).mono ?_
    rintro e wx ⟨rfl, rfl⟩
    go_wp2_with fail
    go_ret2
    exact ⟨by unfold dateR; rw [ho]; rfl, HB3.out⟩

/-! The list of the rules. -/
def rulesF (c : Ctl) (ds : List Dv) (Y : Int) (l : List Fld) (got : Int) : List (List (List UInt8) × (List UInt8 → Int × Bool)) := [([scN], fun _ => ctlR c), ([ncN], neverR ds), ([smN, maxN], numR ds), ([exN], dateR Y l got)]
def pairs (r : List (List UInt8) × (List UInt8 → Int × Bool)) : List (Int × Bool) := r.1.map r.2
theorem rules_all (c : Ctl) (ds : List Dv) (Y : Int) (l : List Fld) (got : Int) : (rulesF c ds Y l got).flatMap pairs = lifeR c ds Y l got := rfl
def ruleCs (v0 v1 v2 v3 : Value) : Array Value := #[v0, .func (.func 138) #[] #[], v1, .func (.func 139) #[] #[], v2, .func (.func 140) #[] #[], v3, .func (.func 141) #[] #[]]
structure RulesAt (w : World) (g : Nat) : Prop where
  ex : ∃ v0 v1 v2 v3, dbk w g (ruleCs v0 v1 v2 v3) ∧ SL w v0 [scN] ∧ SL w v1 [ncN] ∧ SL w v2 [smN, maxN] ∧ SL w v3 [exN]
theorem RulesAt.bel {w w' : World} {g : Nat} (h : RulesAt w g) (hb : Below w.heap.size w w') : RulesAt w' g := by
  obtain ⟨v0, v1, v2, v3, h0, h1, h2, h3, h4⟩ := h.ex
  exact ⟨v0, v1, v2, v3, h0.below hb, h1.bel hb, h2.bel hb, h3.bel hb, h4.bel hb⟩
theorem rule_atF {w : World} {g k : Nat} (h : RulesAt w g) (hk : k < 4) : ∃ (ns : List (List UInt8)) (up : List UInt8 → Int × Bool) (f : FuncId) (A : Option Addr) (cp : Nat),
    (rulesF c (dirsE l) Y l got)[k]? = some (ns, up) ∧ Rules (.agg #[.int .i64 st, .string re, .int .i64 mi, fs, .string bo, .int .i64 asked, .int .i64 got, .slice vA vn vc, .bool c.1, .bool c.2.1, .bool c.2.2.1, .bool c.2.2.2.1, .int .i64 c.2.2.2.2.1, .int .i64 c.2.2.2.2.2, u]) (StW u fs l asked got Y) f up ∧ w.cell? ⟨g, k * 2, none⟩ = some (.slice A ns.length cp) ∧ w.cell? ⟨g, k * 2 + 1, none⟩ = some (.func (.func f) #[] #[]) ∧
    SL w (.slice A ns.length cp) ns ∧ (∀ n ∈ ns, n.length ≤ 100) ∧ ns.length ≤ 2 ∧ (∀ args w, (callFunc f args).run Tryz.prog w = .ok (.enter f args) w) := by
  obtain ⟨v0, v1, v2, v3, h0, h1, h2, h3, h4⟩ := h.ex
  obtain ⟨A0, c0, rfl⟩ := h1.form
  obtain ⟨A1, c1, rfl⟩ := h2.form
  obtain ⟨A2, c2, rfl⟩ := h3.form
  obtain ⟨A3, c3, rfl⟩ := h4.form
  rcases (by omega : k = 0 ∨ k = 1 ∨ k = 2 ∨ k = 3) with rfl | rfl | rfl | rfl
  · exact ⟨[scN], _, _, A0, c0, rfl, byControl_any, h0.cell 0 _ rfl, h0.cell 1 _ rfl, h1, by decide, by decide, enters_of Tryz.func138 (by kernel_rfl) rfl⟩
  · exact ⟨[ncN], _, _, A1, c1, rfl, never_any, h0.cell 2 _ rfl, h0.cell 3 _ rfl, h2, by decide, by decide, enters_of Tryz.func139 (by kernel_rfl) rfl⟩
  · exact ⟨[smN, maxN], _, _, A2, c2, rfl, byNumber_any, h0.cell 4 _ rfl, h0.cell 5 _ rfl, h3, by decide, by decide, enters_of Tryz.func140 (by kernel_rfl) rfl⟩
  · exact ⟨[exN], _, _, A3, c3, rfl, byDates_any, h0.cell 6 _ rfl, h0.cell 7 _ rfl, h4, by decide, by decide, enters_of Tryz.func141 (by kernel_rfl) rfl⟩
theorem SL_lit2 (w : World) (x y : List UInt8) : SL (w.alloc (.cells #[.string (bs x), .string (bs y)] 9)) (.slice (some ⟨w.heap.size, 0, none⟩) 2 2) [x, y] := by
  refine .inr ⟨w.heap.size, 0, 2, rfl, by simp, fun j hj => ?_⟩
  have hn := dbk.new w #[.string (bs x), .string (bs y)] 9
  rw [Nat.zero_add]
  rcases (by have : j < 2 := hj; omega : j = 0 ∨ j = 1) with rfl | rfl
  · exact hn.cell 0 _ rfl
  · exact hn.cell 1 _ rfl
set_option maxRecDepth 100000 in
theorem frules_any (w : World) :
    Calls Tryz.prog 90 #[] w fun e w' => ∃ g, e = .returned (.slice (some ⟨g, 0, none⟩) 4 4) ∧ RulesAt w' g ∧ Below w.heap.size w w' := by
  obtain ⟨x1, h1⟩ : ∃ x, x = w.alloc (.cells #[.string (bs scN)] 9) := ⟨_, rfl⟩
  obtain ⟨x2, h2⟩ : ∃ x, x = x1.alloc (.cells #[.string (bs ncN)] 9) := ⟨_, rfl⟩
  obtain ⟨x3, h3⟩ : ∃ x, x = x2.alloc (.cells #[.string (bs smN), .string (bs maxN)] 9) := ⟨_, rfl⟩
  obtain ⟨x4, h4⟩ : ∃ x, x = x3.alloc (.cells #[.string (bs exN)] 9) := ⟨_, rfl⟩
  have s1 : SL x1 (.slice (some ⟨w.heap.size, 0, none⟩) 1 1) [scN] := by rw [h1]; exact SL_lit w _
  have s2 : SL x2 (.slice (some ⟨x1.heap.size, 0, none⟩) 1 1) [ncN] := by rw [h2]; exact SL_lit x1 _
  have s3 : SL x3 (.slice (some ⟨x2.heap.size, 0, none⟩) 2 2) [smN, maxN] := by rw [h3]; exact SL_lit2 x2 _ _
  have s4 : SL x4 (.slice (some ⟨x3.heap.size, 0, none⟩) 1 1) [exN] := by rw [h4]; exact SL_lit x3 _
  have b1 : Below w.heap.size w x1 := by rw [h1]; exact (Below.refl _ _).alloc (Nat.le_refl _) _
  have b2 : Below x1.heap.size x1 x2 := by rw [h2]; exact (Below.refl _ _).alloc (Nat.le_refl _) _
  have b3 : Below x2.heap.size x2 x3 := by rw [h3]; exact (Below.refl _ _).alloc (Nat.le_refl _) _
  have b4 : Below x3.heap.size x3 x4 := by rw [h4]; exact (Below.refl _ _).alloc (Nat.le_refl _) _
  have e1 : x1.heap.size = w.heap.size + 1 := by rw [h1]; exact World.size_alloc _ _
  have e2 : x2.heap.size = w.heap.size + 1 + 1 := by rw [h2, World.size_alloc, e1]
  have e3 : x3.heap.size = w.heap.size + 1 + 1 + 1 := by rw [h3, World.size_alloc, e2]
  have e4 : x4.heap.size = w.heap.size + 1 + 1 + 1 + 1 := by rw [h4, World.size_alloc, e3]
  have hall : ∀ (W : World), W = x4.alloc (.cells (ruleCs (.slice (some ⟨w.heap.size, 0, none⟩) 1 1) (.slice (some ⟨x1.heap.size, 0, none⟩) 1 1) (.slice (some ⟨x2.heap.size, 0, none⟩) 2 2) (.slice (some ⟨x3.heap.size, 0, none⟩) 1 1)) 124) → RulesAt W x4.heap.size ∧ Below w.heap.size w W := by
    rintro W rfl
    have b5 : Below x4.heap.size x4 (x4.alloc (.cells (ruleCs (.slice (some ⟨w.heap.size, 0, none⟩) 1 1) (.slice (some ⟨x1.heap.size, 0, none⟩) 1 1) (.slice (some ⟨x2.heap.size, 0, none⟩) 2 2) (.slice (some ⟨x3.heap.size, 0, none⟩) 1 1)) 124)) := (Below.refl _ _).alloc (Nat.le_refl _) _
    have c4 := b4.trans (b5.mono b4.size)
    have c3 := b3.trans (c4.mono b3.size)
    have c2 := b2.trans (c3.mono b2.size)
    exact ⟨⟨_, _, _, _, dbk.new x4 _ _, s1.bel c2, s2.bel c3, s3.bel c4, s4.bel b5⟩, b1.trans (c2.mono b1.size)⟩
  rw [e4, e3, e2, e1] at hall
  subst h1 h2 h3 h4
  have HALL := Lib.hid hall
  clear hall s1 s2 s3 s4 b1 b2 b3 b4 e1 e2 e3 e4
  go_enter Tryz.func90, Tryz.ntmps90
  go_wp2_with fail
  go_ret
  have h := HALL.out _ rfl
  exact ⟨_, rfl, h.1, h.2⟩
end Go.Proofs.YtfobjaccpnondaaGreatDoor
