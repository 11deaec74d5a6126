/- NotModified of the program, and its parts; whether fields are gone through. -/
import Derived.Test.YtjbkjmceabilaaaDoorEtagC
import Derived.Test.YtjbkjmceabilaaaDoorKFieldsG
import Derived.Test.YtjbkjmceabilaaaDoorKDateP
import Derived.Test.YtjbkjmceabilaaaDoorKDateH
namespace Go.Proofs.YtjbkjmceabilaaaDoor
open Go.RowKit Go.Shelf

def inmN : List UInt8 := [105, 102, 45, 110, 111, 110, 101, 45, 109, 97, 116, 99, 104]
def imsN : List UInt8 := [105, 102, 45, 109, 111, 100, 105, 102, 105, 101, 100, 45, 115, 105, 110, 99, 101]
def etN : List UInt8 := [101, 116, 97, 103]
def lmN : List UInt8 := [108, 97, 115, 116, 45, 109, 111, 100, 105, 102, 105, 101, 100]
/-- a field's date -/
def dtE (Y : Int) (l : List Fld) (n : List UInt8) : Option Int := parseDL (Y + 50) (getL l n)
/-- is a tag one of a list's -/
def nameB (had cur : List UInt8) : Bool := anyE (lsL had) (fun x => weakE cur x)
def sinceB : Option Int → Option Int → Bool
  | some s, some t => decide (t ≤ s)
  | _, _ => false
/-- what NotModified answers -/
def nmB (Y : Int) (req rep : List Fld) : Bool :=
  if hasF req inmN then (getL req inmN == [42] || nameB (getL req inmN) (getL rep etN)) else sinceB (dtE Y req imsN) (dtE Y rep lmN)
/-- few fields -/
def fewT (l : List Fld) : Bool := decide (l.length ≤ 40) && decide (sizeL l ≤ 6000)
structure FwE (l : List Fld) : Prop where
  len : l.length ≤ 40
  size : sizeL l ≤ 6000
theorem fewT_fw {l : List Fld} (h : fewT l = true) : FwE l := by
  unfold fewT at h
  simp only [Bool.and_eq_true, decide_eq_true_eq] at h
  exact ⟨h.1, h.2⟩
theorem sizeE_mem {l : List Fld} {f : Fld} (h : f ∈ l) : f.1.length + f.2.length ≤ sizeL l := by
  unfold sizeL
  induction l with
  | nil => cases h
  | cons g r ih =>
    rw [List.map_cons, List.sum_cons]
    rcases List.mem_cons.1 h with rfl | h
    · omega
    · have := ih h; omega
theorem FwE.small {l : List Fld} (h : FwE l) : smallF l := fun j hj => by
  have := sizeE_mem (List.getElem_mem hj)
  have := h.size
  omega
theorem FwE.getLen {l : List Fld} (h : FwE l) (n : List UInt8) : (getL l n).length ≤ 6080 := by
  have := get_len l n; have := h.len; have := h.size; omega
theorem sizeE_step {l : List Fld} {k : Nat} (h : k < l.length) : sizeL (l.take (k + 1)) = sizeL (l.take k) + (l[k].1.length + l[k].2.length) := by
  rw [List.take_succ_eq_append_getElem h, sizeL_append]; simp [sizeL]
theorem sizeE_take (l : List Fld) (k : Nat) : sizeL (l.take k) ≤ sizeL l := by
  have h : sizeL l = sizeL (l.take k) + sizeL (l.drop k) := by rw [← sizeL_append, List.take_append_drop]
  omega

set_option maxHeartbeats 2000000 in
set_option maxRecDepth 100000 in
theorem fewT_any (v : Value) (l : List Fld) (w : World) (h : FL w v l) (hs : ∀ j (hj : j < l.length), l[j].1.length ≤ 9223372036854775807 ∧ l[j].2.length ≤ 9223372036854775807) (hl : l.length ≤ 9223372036854775807) :
    Calls Tryd.prog 5 #[v] w fun e w' => e = .returned (.bool (fewT l)) ∧ Below w.heap.size w w' := by
  obtain ⟨A, c, rfl⟩ := h.form
  have HF := Lib.hid h; clear h
  by_cases h80 : 40 < l.length
  · have HR : Hid (fewT l = false) := by show _ = _; unfold fewT; rw [decide_eq_false (by omega)]; rfl
    have h80' : (40 : Int) < (l.length : Int) := by omega
    go_enter Tryd.func5, Tryd.ntmps5
    go_wp2_with fail
    go_ret
    exact ⟨ret_bool HR.out.symm, Below.refl _ _⟩
  · have h80' : ¬ (40 : Int) < (l.length : Int) := by omega
    go_enter Tryd.func5, Tryd.ntmps5
    go_wp2_with fail
    go_loopw [3, 4] (fun a i wr => ∃ (k : Nat) (L : Int), k ≤ l.length ∧ i = .int .i64 k ∧ a = .int .i64 L ∧ 0 ≤ L ∧ L ≤ 6000 ∧ L + (sizeL (l.take k) : Int) = 6000 ∧ Below w.heap.size w wr) (fun _ i _ => l.length - (intOf i).toNat)
    case atStart => exact ⟨0, 6000, Nat.zero_le _, rfl, rfl, by omega, by omega, rfl, Below.refl _ _⟩
    case round =>
      obtain ⟨k, L, hk, rfl, rfl, hL0, hL1, hsum, hb⟩ := hrel
      have HB := Lib.hid hb; have HSum := Lib.hid hsum; clear hb hsum
      by_cases hlt : k < l.length
      · have hki : (k : Int) < (l.length : Int) := by omega
        obtain ⟨b, off, rfl, hbb, hc1, hc2⟩ := (HF.out.bel HB.out).get k hlt
        obtain ⟨s1, s2⟩ := hs k hlt
        have hst := sizeE_step hlt
        have hle := sizeE_take l (k + 1)
        rw [hst] at hle
        have HST := Lib.hid hst; have HLE := Lib.hid hle; clear hst hle
        generalize l[k] = f at *
        obtain ⟨n, x⟩ := f; simp only at s1 s2 hc1 hc2
        have HST2 : Hid (sizeL (l.take (k + 1)) = sizeL (l.take k) + (n.length + x.length)) := HST.out
        have HLE2 : Hid (sizeL (l.take k) + (n.length + x.length) ≤ sizeL l) := HLE.out
        clear HST HLE
        have hsz1 : (bs n).size = n.length := bs_size n
        have hsz2 : (bs x).size = x.length := bs_size x
        have HZ1 := Lib.hid hsz1; have HZ2 := Lib.hid hsz2; clear hsz1 hsz2
        by_cases h1 : L < (n.length : Int)
        · have HR : Hid (fewT l = false) := by
            show _ = _; unfold fewT
            rw [decide_eq_false (p := sizeL l ≤ 6000) (by have := HLE2.out; have := HSum.out; omega), Bool.and_false]
          have hd : decide (L < (n.length : Int)) = true := decide_eq_true h1
          clear h1
          go_wp2_with fail
          go_quiet (fail)
          go_wp2_with fail
          go_ret
          exact ⟨ret_bool HR.out.symm, below_dn HB.out _⟩
        · have hd : decide (L < (n.length : Int)) = false := decide_eq_false h1
          have hge : (n.length : Int) ≤ L := by omega
          by_cases h2 : L - (n.length : Int) < (x.length : Int)
          · have HR : Hid (fewT l = false) := by
              show _ = _; unfold fewT
              rw [decide_eq_false (p := sizeL l ≤ 6000) (by have := HLE2.out; have := HSum.out; omega), Bool.and_false]
            have hd2 : decide (L - (n.length : Int) < (x.length : Int)) = true := decide_eq_true h2
            clear h1
            go_wp2_with fail
            go_quiet (fail)
            go_wp2_with fail
            go_ret
            exact ⟨ret_bool HR.out.symm, below_dn HB.out _⟩
          · have hd2 : decide (L - (n.length : Int) < (x.length : Int)) = false := decide_eq_false h2
            have hge2 : (x.length : Int) ≤ L - (n.length : Int) := by omega
            have HS2 : Hid (L - (n.length : Int) - (x.length : Int) + (sizeL (l.take (k + 1)) : Int) = 6000) := by have h3 := HST2.out; have h4 := HSum.out; show _ = _; omega
            clear h1 h2
            go_wp2_with fail
            go_quiet (fail)
            go_wp2_with fail
            go_quiet (fail)
            go_wp2_with fail
            go_roundw
            case rel => exact ⟨k + 1, L - (n.length : Int) - (x.length : Int), by omega, by go_num, rfl, by omega, by omega, HS2.out, below_dn HB.out _⟩
            case measure => simp [intOf]; omega
      · have HR : Hid (fewT l = true) := by
          have h3 := HSum.out
          rw [List.take_of_length_le (by omega)] at h3
          show _ = _; unfold fewT
          rw [decide_eq_true (p := l.length ≤ 40) (by omega), decide_eq_true (p := sizeL l ≤ 6000) (by omega)]; rfl
        go_wp2_with fail
        go_ret
        exact ⟨ret_bool HR.out.symm, HB.out⟩
theorem few_small {l : List Fld} (h : fewT l = true) : l.length ≤ 40 ∧ sizeL l ≤ 6000 ∧ smallF l := by
  unfold fewT at h
  rw [Bool.and_eq_true, decide_eq_true_eq, decide_eq_true_eq] at h
  refine ⟨h.1, h.2, fun j hj => ?_⟩
  have := sizeL_mem (List.getElem_mem hj)
  omega
set_option maxRecDepth 100000 in
set_option maxHeartbeats 1000000 in
theorem someA_any (t : ByteArray) (f : FuncId) (p : List UInt8 → Bool) (he : ∀ args w, (callFunc f args).run Tryd.prog w = .ok (.enter f args) w)
    (hp : ∀ (x : List UInt8) (w : World), x.length ≤ 281474976710656 → Calls Tryd.prog f #[.string t, .string (bs x)] w fun e w' => e = .returned (.bool (p x)) ∧ Below w.heap.size w w') (v : Value) (E : List (List UInt8)) (w : World)
    (h : SL w v E) (hE : ∀ s ∈ E, s.length ≤ 281474976710656) (hl : E.length ≤ 4294967296) :
    Calls Tryd.prog 26 #[v, .func (.func f) #[.string t] #[]] w fun e w' => e = .returned (.bool (anyE E p)) ∧ Below w.heap.size w w' := by
  obtain ⟨A, c, rfl⟩ := h.form
  have HS := Lib.hid h; have HE := Lib.hid hE; have HP := Lib.hid hp
  clear h hE hp
  go_enter Tryd.func26, Tryd.ntmps26
  go_wp2_with fail
  go_loopw [9] (fun i wr => ∃ k : Nat, k ≤ E.length ∧ i = .int .i64 k ∧ (E.take k).any p = false ∧ Below w.heap.size w wr) (fun i _ => E.length - (intOf i).toNat)
  case atStart => exact ⟨0, Nat.zero_le _, rfl, rfl, Below.refl _ _⟩
  case round =>
    obtain ⟨k, hk, rfl, ht, hb⟩ := hrel
    have HT := Lib.hid ht; have HB := Lib.hid hb; clear ht hb
    by_cases hlt : k < E.length
    · obtain ⟨b, off, rfl, _, hc⟩ := (HS.out.bel HB.out).get k hlt
      have hf := HP.out E[k] wr (HE.out _ (List.getElem_mem hlt))
      cases hq : p E[k]
      · rw [hq] at hf
        have HR := Lib.hid (any_snocL hlt HT.out hq)
        have HF := Lib.hid hf; clear hf hq
        go_wp2_with (go_at_fn f; refine HF.out.mono ?_; rintro e w2 ⟨rfl, hb2⟩; have HB2 := Lib.hid (HB.out.trans (hb2.mono HB.out.size)); clear hb2)
        go_roundw
        case rel => exact ⟨k + 1, by omega, by go_num, HR.out, HB2.out⟩
        case measure => simp [intOf]; omega
      · rw [hq] at hf
        have HR : Hid (anyE E p = true) := any_isL hlt hq
        have HF := Lib.hid hf; clear hf hq
        go_wp2_with (go_at_fn f; refine HF.out.mono ?_; rintro e w2 ⟨rfl, hb2⟩; have HB2 := Lib.hid (HB.out.trans (hb2.mono HB.out.size)); clear hb2)
        go_ret
        exact ⟨ret_bool HR.out.symm, HB2.out⟩
    · have HR : Hid (anyE E p = false) := by
        have h := HT.out
        rw [List.take_of_length_le (by omega)] at h
        exact h
      go_wp2_with fail
      go_ret
      exact ⟨ret_bool HR.out.symm, HB.out⟩


/-- block b holds just these cells -/
def ebk (w : World) (b : Nat) (cs : Array Value) : Prop := ∃ T, w.heap[b]? = some (.cells cs T (0, 0))
theorem ebk.cell {w : World} {b : Nat} {cs : Array Value} (h : ebk w b cs) (j : Nat) (u : Value) (hj : cs[j]? = some u) : w.cell? ⟨b, j, none⟩ = some u := by
  obtain ⟨T, h⟩ := h
  exact (cell_of_row w b j cs T _ h).trans hj
theorem ebk.lt {w : World} {b : Nat} {cs : Array Value} (h : ebk w b cs) : b < w.heap.size := by
  obtain ⟨T, h⟩ := h
  exact (Array.getElem?_eq_some_iff.1 h).1
theorem ebk.below {w w' : World} {b : Nat} {cs : Array Value} (h : ebk w b cs) (hb : Below w.heap.size w w') : ebk w' b cs := by
  have hk := hb.block b h.lt
  obtain ⟨T, h⟩ := h
  exact ⟨T, hk.trans h⟩
theorem ebk.new (w : World) (cs : Array Value) (T : TypeId) : ebk (w.alloc (.cells cs T)) w.heap.size cs := ⟨T, heap_alloc_new w _⟩
theorem ebk.five {w : World} {b : Nat} {x0 x1 x2 x3 x4 : Value} (h : ebk w b #[x0, x1, x2, x3, x4]) :
    w.cell? ⟨b, 0, none⟩ = some x0 ∧ w.cell? ⟨b, 1, none⟩ = some x1 ∧ w.cell? ⟨b, 2, none⟩ = some x2 ∧ w.cell? ⟨b, 3, none⟩ = some x3 ∧ w.cell? ⟨b, 4, none⟩ = some x4 :=
  ⟨h.cell 0 _ rfl, h.cell 1 _ rfl, h.cell 2 _ rfl, h.cell 3 _ rfl, h.cell 4 _ rfl⟩

/-- what is asked of a list of fields, of the moment and of the world -/
structure EtW (w : World) (v : Value) (l : List Fld) : Prop where
  fl : FL w v l
  fw : FwE l
  tb : Tabs w
theorem EtW.bel {w w' : World} {v : Value} {l : List Fld} (h : EtW w v l) (hb : Below w.heap.size w w') : EtW w' v l := ⟨h.fl.bel hb, h.fw, h.tb.below hb⟩
theorem getE_any {v : Value} {l : List Fld} (n : List UInt8) (w : World) (h : EtW w v l) (hn : n.length ≤ 4294967296) :
    Calls Tryd.prog 16 #[v, .string (bs n)] w fun e w' => e = .returned (.tuple #[.string (bs (getL l n)), .bool (hasF l n)]) ∧ Below w.heap.size w w' :=
  get_any v l n w h.fl h.fw.small (by have := h.fw.len; omega) (by have := h.fw.size; omega) hn
theorem rgetE_any {v : Value} {l : List Fld} (n : List UInt8) (w : World) (h : EtW w v l) (hn : n.length ≤ 4294967296) :
    Calls Tryd.prog 19 #[v, .string (bs n)] w fun e w' => e = .returned (.tuple #[.string (bs (getL l n)), .bool (hasF l n)]) ∧ Below w.heap.size w w' :=
  rget_any v l n w h.fl h.fw.small (by have := h.fw.len; omega) (by have := h.fw.size; omega) hn
variable {now Y : Int}
set_option maxRecDepth 100000 in
set_option maxHeartbeats 2000000 in
theorem edateOf_any {v : Value} {l : List Fld} (n : List UInt8) (w : World) (h : EtW w v l) (hn : n.length ≤ 4294967296) (HY : ∃ m d h i s, IsT (clampI now) Y m d h i s) :
    Calls Tryd.prog 18 #[v, .string (bs n), .int .i64 now] w fun e w' => e = .returned (.tuple #[.int .i64 ((dtE Y l n).getD 0), .bool (dtE Y l n).isSome]) ∧ Below w.heap.size w w' := by
  have hg := getE_any n w h hn
  obtain ⟨m, d, hh, i, s, HY⟩ := HY
  have hp := fun W (ht : Tabs W) => parse_any (bs (getL l n)) now Y m d hh i s W (by unfold maxLen; rw [bs_size]; have := h.fw.getLen n; omega) HY ht
  rw [bs_data] at hp
  have hd0 : dtE Y l n = parseDL (Y + 50) (getL l n) := rfl
  rw [← hd0] at hp
  have HG := Lib.hid hg; have HP := Lib.hid hp; have HT := Lib.hid h.tb
  clear hd0 h HY hg hp hn
  generalize dtE Y l n = o at *
  generalize getL l n = g at *
  generalize hasF l n = q at *
  go_enter Tryd.func18, Tryd.ntmps18
  go_wp2_with fail
  refine HG.out.mono ?_
  rintro e w1 ⟨rfl, hb1⟩
  have HB := Lib.hid hb1
  clear hb1 HG
  go_wp2_with fail
  refine (HP.out _ (HT.out.below HB.out)).mono ?_
  cases o with
  | none =>
    unfold ansV
    rintro e w2 ⟨rfl, hb2⟩
    have HB2 := Lib.hid (HB.out.trans (hb2.mono HB.out.size)); clear hb2 HB
    go_wp2_with fail
    go_ret2
    exact ⟨rfl, HB2.out⟩
  | some t =>
    unfold ansV
    rintro e w2 ⟨rfl, hb2⟩
    have HB2 := Lib.hid (HB.out.trans (hb2.mono HB.out.size)); clear hb2 HB
    go_wp2_with fail
    go_ret2
    exact ⟨rfl, HB2.out⟩
theorem eAlike : ∀ args w, (callFunc 24 args).run Tryd.prog w = .ok (.enter 24 args) w := enters_of Tryd.func24 (by kernel_rfl) rfl
theorem lsL_mem {l s : List UInt8} (h : s ∈ lsL l) : s.length ≤ l.length := by
  unfold lsL at h
  split at h
  · exact split_flat l 44 s h
  · cases h
theorem lsL_few (l : List UInt8) : (lsL l).length ≤ 64 := by
  unfold lsL
  split
  · exact splitL_len l 44
  · simp
set_option maxRecDepth 100000 in
set_option maxHeartbeats 1000000 in
theorem enames_any (had cur : List UInt8) (w : World) (h1 : had.length ≤ 4294967290) (h2 : cur.length ≤ 4294967290) :
    Calls Tryd.prog 17 #[.string (bs had), .string (bs cur)] w fun e w' => e = .returned (.bool (nameB had cur)) ∧ Below w.heap.size w w' := by
  have hl := elist_any had w (by omega)
  unfold ListPostE at hl
  have hm := fun w v h => someA_any (bs cur) 24 (fun x => weakE cur x) eAlike (fun x w hx => ealike_any cur x w (by omega) hx) v (lsL had) w h (fun s hs => by have := lsL_mem hs; omega) (by have := lsL_few had; omega)
  have hq : nameB had cur = anyE (lsL had) (fun x => weakE cur x) := rfl
  rw [hq]
  have HL := Lib.hid hl; have HM := Lib.hid hm
  clear hl hm hq h1 h2
  generalize anyE (lsL had) (fun x => weakE cur x) = m at *
  generalize lsL had = L at *
  generalize lsE had = n at *
  generalize bs cur = t at *
  go_enter Tryd.func17, Tryd.ntmps17
  have hmf : ∀ (fn : Fn) (first cap : Array Value) (w : World), (Instr.makeFunc fn first cap).run Tryd.prog w = .ok (.func fn first cap) w := fun _ _ _ _ => rfl
  go_wp2_with fail
  refine HL.out.mono ?_
  rintro e w1 ⟨v, rfl, ho, hb⟩
  obtain ⟨A, c, rfl⟩ := ho.form
  have HB1 := Lib.hid hb; have HO1 := Lib.hid ho; clear hb ho
  go_wp2_with fail
  refine (HM.out _ _ HO1.out.sl).mono ?_
  rintro e w2 ⟨rfl, hb⟩
  have HB2 := Lib.hid (HB1.out.trans (hb.mono HB1.out.size)); clear hb
  go_wp2_with fail
  go_ret
  exact ⟨rfl, HB2.out⟩
variable {st mi : Int} {re bo : ByteArray}
set_option maxRecDepth 100000 in
set_option maxHeartbeats 2000000 in
theorem enm_any {v u : Value} {l r : List Fld} (w : World) (hv : EtW w v l) (hu : EtW w u r) (HY : ∃ m d h i s, IsT (clampI now) Y m d h i s) :
    Calls Tryd.prog 7 #[v, .agg #[.int .i64 st, .string re, .int .i64 mi, u, .string bo], .int .i64 now] w fun e w' => e = .returned (.bool (nmB Y l r)) ∧ Below w.heap.size w w' := by
  obtain ⟨Au, cu, hfu⟩ := hu.fl.form
  subst hfu
  have hx : Below w.heap.size w (w.alloc (.cells #[.int .i64 st, .string re, .int .i64 mi, .slice Au r.length cu, .string bo] 26)) := (Below.refl _ _).alloc (Nat.le_refl _) _
  have hd := ebk.new w #[.int .i64 st, .string re, .int .i64 mi, .slice Au r.length cu, .string bo] 26
  have g1 : ∀ W, Below w.heap.size w W → Calls Tryd.prog 16 #[v, .string ⟨#[105, 102, 45, 110, 111, 110, 101, 45, 109, 97, 116, 99, 104]⟩] W fun e w' => e = .returned (.tuple #[.string (bs (getL l inmN)), .bool (hasF l inmN)]) ∧ Below W.heap.size W w' := fun W hb => getE_any inmN W (hv.bel hb) (by decide)
  have g2 : ∀ W, Below w.heap.size w W → Calls Tryd.prog 16 #[.slice Au r.length cu, .string ⟨#[101, 116, 97, 103]⟩] W fun e w' => e = .returned (.tuple #[.string (bs (getL r etN)), .bool (hasF r etN)]) ∧ Below W.heap.size W w' := fun W hb => getE_any etN W (hu.bel hb) (by decide)
  have g3 : ∀ W, Below w.heap.size w W → Calls Tryd.prog 18 #[v, .string ⟨#[105, 102, 45, 109, 111, 100, 105, 102, 105, 101, 100, 45, 115, 105, 110, 99, 101]⟩, .int .i64 now] W fun e w' => e = .returned (.tuple #[.int .i64 ((dtE Y l imsN).getD 0), .bool (dtE Y l imsN).isSome]) ∧ Below W.heap.size W w' := fun W hb => edateOf_any imsN W (hv.bel hb) (by decide) HY
  have g4 : ∀ W, Below w.heap.size w W → Calls Tryd.prog 18 #[.slice Au r.length cu, .string ⟨#[108, 97, 115, 116, 45, 109, 111, 100, 105, 102, 105, 101, 100]⟩, .int .i64 now] W fun e w' => e = .returned (.tuple #[.int .i64 ((dtE Y r lmN).getD 0), .bool (dtE Y r lmN).isSome]) ∧ Below W.heap.size W w' := fun W hb => edateOf_any lmN W (hu.bel hb) (by decide) HY
  have g5 := fun W => enames_any (getL l inmN) (getL r etN) W (by have := hv.fw.getLen inmN; omega) (by have := hu.fw.getLen etN; omega)
  have hq : nmB Y l r = if hasF l inmN then (getL l inmN == [42] || nameB (getL l inmN) (getL r etN)) else sinceB (dtE Y l imsN) (dtE Y r lmN) := rfl
  have heq : ((bs (getL l inmN)).toList == [42]) = (getL l inmN == [42]) := by rw [Lib.toList_data, bs_data]
  have G1 := Lib.hid g1; have G2 := Lib.hid g2; have G3 := Lib.hid g3; have G4 := Lib.hid g4; have G5 := Lib.hid g5
  have HX := Lib.hid hx; have HD := Lib.hid hd; have HQ := Lib.hid hq
  clear g1 g2 g3 g4 g5 hx hd hv hu HY hq
  generalize nmB Y l r = Z at *
  generalize nameB (getL l inmN) (getL r etN) = N at *
  generalize dtE Y l imsN = o1 at *
  generalize dtE Y r lmN = o2 at *
  generalize hasF r etN = q2 at *
  generalize getL r etN = c at *
  generalize (getL l inmN == [42]) = star at *
  generalize bs (getL l inmN) = hh at *
  generalize bs c = cc at *
  cases hq1 : hasF l inmN
  · rw [hq1] at G1
    have HZ : Hid (Z = sinceB o1 o2) := by show _ = _; rw [HQ.out, hq1]; rfl
    clear HQ hq1 heq
    go_enter Tryd.func7, Tryd.ntmps7
    go_wp2_with fail
    refine (G1.out _ HX.out).mono ?_
    rintro e w1 ⟨rfl, hb⟩
    have HD1 := Lib.hid (HD.out.below hb); have HB1 := Lib.hid (HX.out.trans (hb.mono HX.out.size)); clear hb HX HD
    go_wp2_with fail
    refine (G3.out _ HB1.out).mono ?_
    rintro e w2 ⟨rfl, hb⟩
    have HD2 := Lib.hid (HD1.out.below hb); have HB2 := Lib.hid (HB1.out.trans (hb.mono HB1.out.size)); clear hb HB1 HD1
    obtain ⟨y0, y1, y2, y3, y4⟩ := HD2.out.five
    go_wp2_with fail
    refine (G4.out _ HB2.out).mono ?_
    rintro e w3 ⟨rfl, hb⟩
    have HB3 := Lib.hid (HB2.out.trans (hb.mono HB2.out.size)); clear hb HB2 HD2 y0 y1 y2 y3 y4
    cases o1 with
    | none =>
      simp only [Option.getD_none, Option.isSome_none]
      go_wp2_with fail
      go_ret
      exact ⟨ret_bool (by rw [HZ.out]; rfl), HB3.out⟩
    | some s =>
      cases o2 with
      | none =>
        simp only [Option.getD_none, Option.isSome_none, Option.getD_some, Option.isSome_some]
        go_wp2_with fail
        go_ret
        exact ⟨ret_bool (by rw [HZ.out]; rfl), HB3.out⟩
      | some t =>
        simp only [Option.getD_some, Option.isSome_some]
        go_wp2_with fail
        go_ret
        exact ⟨ret_bool (by rw [HZ.out]; rfl), HB3.out⟩
  · rw [hq1] at G1
    have HZ : Hid (Z = (star || N)) := by show _ = _; rw [HQ.out, hq1]; rfl
    clear HQ hq1
    cases star
    · go_enter Tryd.func7, Tryd.ntmps7
      go_wp2_with fail
      refine (G1.out _ HX.out).mono ?_
      rintro e w1 ⟨rfl, hb⟩
      have HD1 := Lib.hid (HD.out.below hb); have HB1 := Lib.hid (HX.out.trans (hb.mono HX.out.size)); clear hb HX HD
      obtain ⟨y0, y1, y2, y3, y4⟩ := HD1.out.five
      go_wp2_with fail
      refine (G2.out _ HB1.out).mono ?_
      rintro e w2 ⟨rfl, hb⟩
      have HB2 := Lib.hid (HB1.out.trans (hb.mono HB1.out.size)); clear hb HB1 HD1 y0 y1 y2 y3 y4
      go_wp2_with fail
      refine (G5.out _).mono ?_
      rintro e w3 ⟨rfl, hb⟩
      have HB3 := Lib.hid (HB2.out.trans (hb.mono HB2.out.size)); clear hb HB2
      go_wp2_with fail
      go_ret
      exact ⟨ret_bool (by rw [HZ.out]; rfl), HB3.out⟩
    · go_enter Tryd.func7, Tryd.ntmps7
      go_wp2_with fail
      refine (G1.out _ HX.out).mono ?_
      rintro e w1 ⟨rfl, hb⟩
      have HD1 := Lib.hid (HD.out.below hb); have HB1 := Lib.hid (HX.out.trans (hb.mono HX.out.size)); clear hb HX HD
      obtain ⟨y0, y1, y2, y3, y4⟩ := HD1.out.five
      go_wp2_with fail
      refine (G2.out _ HB1.out).mono ?_
      rintro e w2 ⟨rfl, hb⟩
      have HB2 := Lib.hid (HB1.out.trans (hb.mono HB1.out.size)); clear hb HB1 HD1 y0 y1 y2 y3 y4
      go_wp2_with fail
      go_ret
      exact ⟨ret_bool (by rw [HZ.out]; rfl), HB2.out⟩
end Go.Proofs.YtjbkjmceabilaaaDoor
