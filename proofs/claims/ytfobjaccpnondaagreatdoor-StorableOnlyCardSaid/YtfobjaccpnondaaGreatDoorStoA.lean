/- What the program asks of a reply, one closure by the other: what each answers whenever it is called. -/
import Derived.Test.YtfobjaccpnondaaGreatDoorSto0
import Derived.Test.YtfobjaccpnondaaGreatDoorKFreD
namespace Go.Proofs.YtfobjaccpnondaaGreatDoor
open Go.RowKit Go.Shelf

/-- a function value that answers b, whenever it is called -/
def Cond (W : World) (f : FuncId) (cap : Array Value) (b : Bool) : Prop := (∀ args w, (callFunc f args).run Tryz.prog w = .ok (.enter f args) w) ∧
  ∀ w', Below W.heap.size W w' → Calls Tryz.prog f cap w' fun e w'' => e = .returned (.bool b) ∧ Below w'.heap.size w' w''
theorem Cond.bel {W W' : World} {f : FuncId} {cap : Array Value} {b : Bool} (h : Cond W f cap b) (hb : Below W.heap.size W W') : Cond W' f cap b :=
  ⟨h.1, fun w' h2 => h.2 w' (hb.trans (h2.mono hb.size))⟩
theorem Fe.vf {l : List Fld} (h : Fe l) : VfB l := ⟨by have := h.1; omega, fun f hf => by have := h.2 f hf; omega⟩

variable {st mi asked got Y : Int} {re bo : ByteArray} {fs : Value} {vA : Option Addr} {vn vc : Nat} {l : List Fld}

set_option maxRecDepth 100000 in
theorem lasting_any (n : Int) (w : World) : Calls Tryz.prog 36 #[.int .i64 n] w fun e w' => e = .returned (.bool (lastS n)) ∧ w = w' := by
  unfold lastS
  by_cases h0 : n = 200
  · subst h0
    go_enter Tryz.func36, Tryz.ntmps36
    go_wp2_with fail
    go_ret
    exact ⟨rfl, rfl⟩
  by_cases h1 : n = 301
  · subst h1
    go_enter Tryz.func36, Tryz.ntmps36
    go_wp2_with fail
    go_ret
    exact ⟨rfl, rfl⟩
  by_cases h2 : n = 404
  · subst h2
    go_enter Tryz.func36, Tryz.ntmps36
    go_wp2_with fail
    go_ret
    exact ⟨rfl, rfl⟩
  by_cases h3 : n = 410
  · subst h3
    go_enter Tryz.func36, Tryz.ntmps36
    go_wp2_with fail
    go_ret
    exact ⟨rfl, rfl⟩
  have e0 : decide (n = 200) = false := decide_eq_false h0
  have e1 : decide (n = 301) = false := decide_eq_false h1
  have e2 : decide (n = 404) = false := decide_eq_false h2
  have e3 : decide (n = 410) = false := decide_eq_false h3
  rw [e0, e1, e2, e3]
  have b0 : (n == 200) = false := by simpa using h0
  have b1 : (n == 301) = false := by simpa using h1
  have b2 : (n == 404) = false := by simpa using h2
  have b3 : (n == 410) = false := by simpa using h3
  clear e0 e1 e2 e3 h0 h1 h2 h3
  go_enter Tryz.func36, Tryz.ntmps36
  go_wp2_with fail
  go_ret
  exact ⟨rfl, rfl⟩

set_option maxRecDepth 100000 in
theorem sdirs_any {v : Value} (w : World) (hv : FL w v l) (hs : Fe l) (hm : MaxD w) :
    Calls Tryz.prog 32 #[v] w fun e w' => ∃ u, e = .returned u ∧ DL w' u (dirsE l) ∧ Below w.heap.size w w' := by
  have hva := values_any v l ccN w hv hs.small (by have := hs.1; omega) (by decide)
  obtain ⟨hf1, hf2⟩ := hs.vals ccN
  have hli := fun W u (hm : MaxD W) (hv : SL W u (valsL l ccN)) => listD_any u (valsL l ccN) W hm hv (fun x hx => by have := hf2 x hx; omega) (by omega)
  have hde : dirsAll (valsL l ccN) = dirsE l := rfl
  rw [hde] at hli
  have HV := Lib.hid hva; have HL := Lib.hid hli; have HM := Lib.hid hm
  clear hva hli hde hf1 hf2 hv hs hm
  generalize valsL l ccN = N at *
  go_enter Tryz.func32, Tryz.ntmps32
  go_wp2_with fail
  refine HV.out.mono ?_
  rintro e w1 ⟨u, rfl, ho, hb⟩
  have HO := Lib.hid ho.sl; have HB := Lib.hid hb
  clear ho hb HV
  go_wp2_with fail
  refine (HL.out _ _ (HM.out.bel HB.out) HO.out).mono ?_
  rintro e w2 ⟨u2, rfl, ho, hb⟩
  have HO2 := Lib.hid ho.dl; have HB2 := Lib.hid (HB.out.trans (hb.mono HB.out.size))
  clear ho hb HB HO HL
  go_wp2_with fail
  go_ret
  exact ⟨_, rfl, HO2.out, HB2.out⟩

set_option maxRecDepth 100000 in
theorem tagged_any {v : Value} (w : World) (hv : FL w v l) (hs : Fe l) :
    Calls Tryz.prog 47 #[v] w fun e w' => e = .returned (.bool (isE (getL l etgN))) ∧ Below w.heap.size w w' := by
  have hg := get_any v l etgN w hv hs.small (by have := hs.1; omega) (by have := hs.size; omega) (by decide)
  have hp := fun W => eparse_any (getL l etgN) W (by have := hs.getLen etgN; omega)
  have HG := Lib.hid hg; have HP := Lib.hid hp
  clear hg hp hv hs
  generalize getL l etgN = g at *
  generalize hasF l etgN = q at *
  go_enter Tryz.func47, Tryz.ntmps47
  go_wp2_with fail
  refine HG.out.mono ?_
  rintro e w1 ⟨rfl, hb⟩
  have HB := Lib.hid hb
  clear hb HG
  go_wp2_with fail
  refine (HP.out _).mono ?_
  rintro e w2 ⟨rfl, hb⟩
  have HB2 := Lib.hid (HB.out.trans (hb.mono HB.out.size))
  clear hb HB HP
  unfold erE
  cases hi : isE g
  · rw [if_neg (by decide)]
    go_wp2_with fail
    go_ret
    exact ⟨ret_bool hi.symm, HB2.out⟩
  · rw [if_pos rfl]
    go_wp2_with fail
    go_ret
    exact ⟨ret_bool hi.symm, HB2.out⟩

set_option maxRecDepth 100000 in
theorem dated_any {v : Value} (w : World) (h : EnW w v l asked got Y) :
    Calls Tryz.prog 49 #[v, .int .i64 got] w fun e w' => e = .returned (.bool (dateO Y l lmdN).isSome) ∧ Below w.heap.size w w' := by
  have hg := get_any v l lmdN w h.fl h.fe.small (by have := h.fe.1; omega) (by have := h.fe.size; omega) (by decide)
  obtain ⟨m, d, hh, i, s, HY⟩ := h.ny
  have hp := fun W (ht : Tabs W) => parse_any (bs (getL l lmdN)) got Y m d hh i s W (by unfold maxLen; rw [bs_size]; have := h.fe.getLen lmdN; omega) HY ht
  rw [bs_data] at hp
  have hd0 : dateO Y l lmdN = parseDL (Y + 50) (getL l lmdN) := rfl
  rw [← hd0] at hp
  have HG := Lib.hid hg; have HP := Lib.hid hp; have HT := Lib.hid h.tb
  clear hd0 h HY hg hp
  generalize dateO Y l lmdN = o at *
  generalize getL l lmdN = g at *
  generalize hasF l lmdN = q at *
  go_enter Tryz.func49, Tryz.ntmps49
  go_wp2_with fail
  refine HG.out.mono ?_
  rintro e w1 ⟨rfl, hb⟩
  have HB := Lib.hid hb
  clear hb HG
  go_wp2_with fail
  refine (HP.out _ (HT.out.below HB.out)).mono ?_
  cases o with
  | none =>
    unfold ansV
    rintro e w2 ⟨rfl, hb2⟩
    have HB2 := Lib.hid (HB.out.trans (hb2.mono HB.out.size)); clear hb2 HB
    go_wp2_with fail
    go_ret
    exact ⟨rfl, HB2.out⟩
  | some t =>
    unfold ansV
    rintro e w2 ⟨rfl, hb2⟩
    have HB2 := Lib.hid (HB.out.trans (hb2.mono HB.out.size)); clear hb2 HB
    go_wp2_with fail
    go_ret
    exact ⟨rfl, HB2.out⟩

/-! The closures. -/
def entV (st : Int) (re : ByteArray) (mi : Int) (fs : Value) (bo : ByteArray) (asked got : Int) (vA : Option Addr) (vn vc : Nat) : Array Value := #[.int .i64 st, .string re, .int .i64 mi, fs, .string bo, .int .i64 asked, .int .i64 got, .slice vA vn vc]

set_option maxRecDepth 100000 in
theorem c1_cond {W : World} {b : Nat} {m : List UInt8} (h : dbk W b #[.string (bs m)]) : Cond W 34 #[.pointer (some ⟨b, 0, none⟩)] (m == getM) := by
  refine ⟨enters_of Tryz.func34 (by kernel_rfl) rfl, fun w' hb => ?_⟩
  have hc := (h.below hb).cell 0 _ rfl
  clear h hb
  show Calls _ _ #[.pointer (some ⟨b, 0, none⟩)] _ _
  have hbe : (m == getM) = ((bs m).toList == [71, 69, 84]) := (beqV m [71, 69, 84]).symm
  rw [hbe]
  clear hbe
  generalize bs m = s at *
  go_enter Tryz.func34, Tryz.ntmps34
  go_wp2_with fail
  go_ret
  exact ⟨rfl, Below.refl _ _⟩
set_option maxRecDepth 100000 in
theorem c2_cond {W : World} {b : Nat} (h : dbk W b (entV st re mi fs bo asked got vA vn vc)) : Cond W 35 #[.pointer (some ⟨b, 0, none⟩)] (lastS st) := by
  refine ⟨enters_of Tryz.func35 (by kernel_rfl) rfl, fun w' hb => ?_⟩
  have hc := (h.below hb).cell 0 (.int .i64 st) rfl
  clear h hb
  show Calls _ _ #[.pointer (some ⟨b, 0, none⟩)] _ _
  have HL := Lib.hid fun W => lasting_any st W
  go_enter Tryz.func35, Tryz.ntmps35
  go_wp2_with fail
  refine (HL.out _).mono ?_
  rintro e w1 ⟨rfl, rfl⟩
  go_wp2_with fail
  go_ret
  exact ⟨rfl, Below.refl _ _⟩
set_option maxRecDepth 100000 in
theorem c3_cond {W : World} {b : Nat} {c : Ctl} (h : dbk W b (ctA c)) : Cond W 39 #[.pointer (some ⟨b, 0, none⟩)] (!c.1) := by
  refine ⟨enters_of Tryz.func39 (by kernel_rfl) rfl, fun w' hb => ?_⟩
  have hc := (h.below hb).cell 0 (.bool c.1) rfl
  clear h hb
  generalize c.1 = x at *
  show Calls _ _ #[.pointer (some ⟨b, 0, none⟩)] _ _
  go_enter Tryz.func39, Tryz.ntmps39
  go_wp2_with fail
  go_ret
  exact ⟨rfl, Below.refl _ _⟩
set_option maxRecDepth 100000 in
theorem c6_cond {W : World} {b : Nat} {c : Ctl} (h : dbk W b (ctA c)) : Cond W 43 #[.pointer (some ⟨b, 0, none⟩)] c.2.2.2.1 := by
  refine ⟨enters_of Tryz.func43 (by kernel_rfl) rfl, fun w' hb => ?_⟩
  have hc := (h.below hb).cell 3 (.bool c.2.2.2.1) rfl
  clear h hb
  generalize c.2.2.2.1 = x at *
  show Calls _ _ #[.pointer (some ⟨b, 0, none⟩)] _ _
  go_enter Tryz.func43, Tryz.ntmps43
  go_wp2_with fail
  go_ret
  exact ⟨rfl, Below.refl _ _⟩
set_option maxRecDepth 100000 in
theorem c4_cond {W : World} {b : Nat} (h : dbk W b (entV st re mi fs bo asked got vA vn vc)) (hv : FL W fs l) (hf : Fe l) : Cond W 40 #[.pointer (some ⟨b, 0, none⟩)] (!allB (valsL l varyN)) := by
  refine ⟨enters_of Tryz.func40 (by kernel_rfl) rfl, fun w' hb => ?_⟩
  have HN := Lib.hid (vnames_any (st := st) (mi := mi) (re := re) (bo := bo) w' (hv.bel hb) hf.vf)
  obtain ⟨c0, c1, c2, c3, c4, c5, c6, c7⟩ := dbk.eight (h.below hb)
  clear h hb hv hf
  unfold RetN at HN
  generalize (!allB (valsL l varyN)) = x at *
  show Calls _ _ #[.pointer (some ⟨b, 0, none⟩)] _ _
  go_enter Tryz.func40, Tryz.ntmps40
  go_wp2_with fail
  refine HN.out.mono ?_
  rintro e w1 ⟨u, rfl, ho, hb⟩
  have HB := Lib.hid hb
  clear ho hb HN
  go_wp2_with fail
  go_ret
  exact ⟨rfl, HB.out⟩
set_option maxRecDepth 100000 in
theorem c5_cond {W : World} {b : Nat} {q : List Fld} {vq : Value} (h : dbk W b #[vq]) (hv : FL W vq q) (hf : Fe q) : Cond W 42 #[.pointer (some ⟨b, 0, none⟩)] (secB q) := by
  refine ⟨enters_of Tryz.func42 (by kernel_rfl) rfl, fun w' hb => ?_⟩
  have hva := values_any vq q autN w' (hv.bel hb) hf.small (by have := hf.1; omega) (by decide)
  have hc := (h.below hb).cell 0 vq rfl
  have HV := Lib.hid hva
  clear h hb hv hf hva
  unfold secB
  generalize valsL q autN = N at *
  have hn : N.isEmpty = ((N.length : Int) == 0) := by cases N <;> simp <;> omega
  rw [hn]
  clear hn
  show Calls _ _ #[.pointer (some ⟨b, 0, none⟩)] _ _
  go_enter Tryz.func42, Tryz.ntmps42
  go_wp2_with fail
  refine HV.out.mono ?_
  rintro e w1 ⟨u, rfl, ho, hb⟩
  have HB := Lib.hid hb
  obtain ⟨A, c, rfl⟩ := ho.sl.form
  clear ho hb HV
  go_wp2_with fail
  go_ret
  exact ⟨rfl, HB.out⟩
set_option maxRecDepth 100000 in
theorem c7_cond {W : World} {b d : Nat} (dev : List UInt8) (h : dbk W b (entV st re mi fs bo asked got vA vn vc)) (hd : dbk W d #[.string (bs dev)]) (hE : EnW W fs l asked got Y) :
    Cond W 44 #[.pointer (some ⟨b, 0, none⟩), .pointer (some ⟨d, 0, none⟩)] (decide (0 < lifeI Y l got dev)) := by
  refine ⟨enters_of Tryz.func44 (by kernel_rfl) rfl, fun w' hb => ?_⟩
  have HL := Lib.hid (life_any (st := st) (mi := mi) (re := re) (bo := bo) (vA := vA) (vn := vn) (vc := vc) dev w' (hE.bel hb))
  obtain ⟨c0, c1, c2, c3, c4, c5, c6, c7⟩ := dbk.eight (h.below hb)
  have d0 := (hd.below hb).cell 0 _ rfl
  clear h hb hd hE
  generalize lifeI Y l got dev = n at *
  show Calls _ _ #[.pointer (some ⟨b, 0, none⟩), .pointer (some ⟨d, 0, none⟩)] _ _
  go_enter Tryz.func44, Tryz.ntmps44
  go_wp2_with fail
  refine HL.out.mono ?_
  rintro e w1 ⟨rfl, hb⟩
  have HB := Lib.hid hb
  clear hb HL
  go_wp2_with fail
  go_ret
  exact ⟨rfl, HB.out⟩
set_option maxRecDepth 100000 in
theorem c8_cond {W : World} {b : Nat} (h : dbk W b #[fs]) (hv : FL W fs l) (hf : Fe l) : Cond W 46 #[.pointer (some ⟨b, 0, none⟩)] (isE (getL l etgN)) := by
  refine ⟨enters_of Tryz.func46 (by kernel_rfl) rfl, fun w' hb => ?_⟩
  have HT := Lib.hid (tagged_any w' (hv.bel hb) hf)
  have hc := (h.below hb).cell 0 _ rfl
  clear h hb hv hf
  generalize isE (getL l etgN) = x at *
  show Calls _ _ #[.pointer (some ⟨b, 0, none⟩)] _ _
  go_enter Tryz.func46, Tryz.ntmps46
  go_wp2_with fail
  refine HT.out.mono ?_
  rintro e w1 ⟨rfl, hb⟩
  have HB := Lib.hid hb
  clear hb HT
  go_wp2_with fail
  go_ret
  exact ⟨rfl, HB.out⟩
set_option maxRecDepth 100000 in
theorem c9_cond {W : World} {a b : Nat} (ha : dbk W a #[fs]) (h : dbk W b (entV st re mi fs bo asked got vA vn vc)) (hE : EnW W fs l asked got Y) :
    Cond W 48 #[.pointer (some ⟨a, 0, none⟩), .pointer (some ⟨b, 0, none⟩)] (dateO Y l lmdN).isSome := by
  refine ⟨enters_of Tryz.func48 (by kernel_rfl) rfl, fun w' hb => ?_⟩
  have HT := Lib.hid (dated_any w' (hE.bel hb))
  have hc := (ha.below hb).cell 0 _ rfl
  have h6 := (h.below hb).cell 6 (.int .i64 got) rfl
  clear h hb ha hE
  generalize (dateO Y l lmdN).isSome = x at *
  show Calls _ _ #[.pointer (some ⟨a, 0, none⟩), .pointer (some ⟨b, 0, none⟩)] _ _
  go_enter Tryz.func48, Tryz.ntmps48
  go_wp2_with fail
  refine HT.out.mono ?_
  rintro e w1 ⟨rfl, hb⟩
  have HB := Lib.hid hb
  clear hb HT
  go_wp2_with fail
  go_ret
  exact ⟨rfl, HB.out⟩

/-! Functions that make closures. -/
/-- a function value that answers x is handed back -/
def RetC (w : World) (x : Bool) (e : Ending) (w' : World) : Prop := ∃ f cap, e = .returned (.func (.func f) #[] cap) ∧ Cond w' f cap x ∧ Below w.heap.size w w'
set_option maxRecDepth 100000 in
theorem contain1_cond {W : World} {a b : Nat} {vd : Value} {ds : List Dv} (n : List UInt8) (ha : dbk W a #[vd]) (hb : dbk W b #[.string (bs n)]) (hd : DL W vd ds) (hw : ∀ j (hj : j < ds.length), DvW ds[j]) (hn : n.length ≤ 1000) (hl : ds.length ≤ 4294967296) :
    Cond W 84 #[.pointer (some ⟨a, 0, none⟩), .pointer (some ⟨b, 0, none⟩)] (findD ds n).isSome := by
  refine ⟨enters_of Tryz.func84 (by kernel_rfl) rfl, fun w' hb2 => ?_⟩
  have HF := Lib.hid (findD_any vd ds n w' (hd.bel hb2) hw (by omega) hl)
  have ca := (ha.below hb2).cell 0 _ rfl
  have cb := (hb.below hb2).cell 0 _ rfl
  clear ha hb hd hw hn hl hb2
  generalize findD ds n = o at *
  unfold RetR at HF
  generalize o.getD dv0 = d at *
  generalize o.isSome = x at *
  show Calls _ _ #[.pointer (some ⟨a, 0, none⟩), .pointer (some ⟨b, 0, none⟩)] _ _
  go_enter Tryz.func84, Tryz.ntmps84
  go_wp2_with fail
  refine HF.out.mono ?_
  rintro e w1 ⟨rfl, hb⟩
  have hal : Below w1.heap.size w1 (w1.alloc (.cells #[.string (bs d.1), .string (bs d.2.1), .bool d.2.2.1, .string (bs d.2.2.2)] 79)) := (Below.refl _ _).alloc (Nat.le_refl _) _
  have HB := Lib.hid (hb.trans (hal.mono hb.size))
  clear hb HF hal
  go_wp2_with fail
  go_ret
  exact ⟨rfl, HB.out⟩
set_option maxRecDepth 100000 in
set_option maxHeartbeats 2000000 in
theorem contain_any {vd : Value} {ds : List Dv} (n : List UInt8) (w : World) (hd : DL w vd ds) (hw : ∀ j (hj : j < ds.length), DvW ds[j]) (hn : n.length ≤ 1000) (hl : ds.length ≤ 4294967296) :
    Calls Tryz.prog 38 #[vd, .string (bs n)] w (RetC w (findD ds n).isSome) := by
  obtain ⟨A, k, rfl⟩ := hd.form
  have h1 : Below w.heap.size w (w.alloc (.cells #[.slice A ds.length k] 68)) := (Below.refl _ _).alloc (Nat.le_refl _) _
  have h2 : Below w.heap.size w ((w.alloc (.cells #[.slice A ds.length k] 68)).alloc (.cells #[.string (bs n)] 9)) := h1.alloc h1.size _
  have ha := (dbk.new w #[.slice A ds.length k] 68).alloc (.cells #[.string (bs n)] 9)
  have hb := dbk.new (w.alloc (.cells #[.slice A ds.length k] 68)) #[.string (bs n)] 9
  rw [World.size_alloc] at hb
  have HC := Lib.hid (contain1_cond n ha hb (hd.bel h2) hw hn hl)
  have HX := Lib.hid h2
  clear ha hb hd hw hn hl h1 h2
  generalize (findD ds n).isSome = x at *
  go_enter Tryz.func38, Tryz.ntmps38
  have hmf : ∀ (fn : Fn) (first cap : Array Value) (w : World), (Instr.makeFunc fn first cap).run Tryz.prog w = .ok (.func fn first cap) w := fun _ _ _ _ => rfl
  go_wp2_with fail
  go_ret
  exact ⟨_, _, rfl, HC.out, HX.out⟩
set_option maxRecDepth 100000 in
theorem not1_cond {W : World} {b f : Nat} {cap : Array Value} {x : Bool} (h : dbk W b #[.func (.func f) #[] cap]) (hc : Cond W f cap x) : Cond W 83 #[.pointer (some ⟨b, 0, none⟩)] (!x) := by
  refine ⟨enters_of Tryz.func83 (by kernel_rfl) rfl, fun w' hb => ?_⟩
  have h0 := (h.below hb).cell 0 _ rfl
  have eg := hc.1
  have HC := Lib.hid (hc.2 w' hb)
  clear h hb hc
  show Calls _ _ #[.pointer (some ⟨b, 0, none⟩)] _ _
  go_enter Tryz.func83, Tryz.ntmps83
  go_wp2_with (go_at_fn f; refine HC.out.mono ?_; rintro e w1 ⟨rfl, hb1⟩; have HB := Lib.hid hb1; clear hb1)
  go_ret
  exact ⟨rfl, HB.out⟩
set_option maxRecDepth 100000 in
theorem not_any {f : Nat} {cap : Array Value} {x : Bool} (w : World) (hc : Cond w f cap x) : Calls Tryz.prog 37 #[.func (.func f) #[] cap] w (RetC w (!x)) := by
  have h1 : Below w.heap.size w (w.alloc (.cells #[.func (.func f) #[] cap] 30)) := (Below.refl _ _).alloc (Nat.le_refl _) _
  have HC := Lib.hid (not1_cond (dbk.new w #[.func (.func f) #[] cap] 30) (hc.bel h1))
  have HX := Lib.hid h1
  clear h1 hc
  go_enter Tryz.func37, Tryz.ntmps37
  have hmf : ∀ (fn : Fn) (first cap : Array Value) (w : World), (Instr.makeFunc fn first cap).run Tryz.prog w = .ok (.func fn first cap) w := fun _ _ _ _ => rfl
  go_wp2_with fail
  go_ret
  exact ⟨_, _, rfl, HC.out, HX.out⟩
end Go.Proofs.YtfobjaccpnondaaGreatDoor
