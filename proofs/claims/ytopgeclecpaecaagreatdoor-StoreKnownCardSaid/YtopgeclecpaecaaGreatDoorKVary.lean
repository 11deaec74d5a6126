/- Which elements name no field: the vary layer's nameless; the first element of which a function holds. -/
import Derived.Test.YtopgeclecpaecaaGreatDoorKApp
import Derived.Test.YtopgeclecpaecaaGreatDoorKFieldsG
import Derived.Test.YtopgeclecpaecaaGreatDoorKPlain
import Derived.Test.YtopgeclecpaecaaGreatDoorKTextT
import Derived.Shelf.Abstract
namespace Go.Proofs.YtopgeclecpaecaaGreatDoor
open Go.RowKit Go.Shelf

theorem beqV (a b : List UInt8) : ((bs a).toList == b) = (a == b) := by rw [Lib.toList_data, bs_data]
theorem beqVV (a b : List UInt8) : ((bs a).toList == (bs b).toList) = (a == b) := by rw [Lib.toList_data, Lib.toList_data, bs_data, bs_data]


/-- the place of the first text of which p holds -/
def placeT (L : List (List UInt8)) (p : List UInt8 → Bool) : Int := match L.findIdx? p with | some k => (k : Int) | none => -1
theorem placeT_any (L : List (List UInt8)) (p : List UInt8 → Bool) : decide (0 ≤ placeT L p) = L.any p := by
  unfold placeT
  cases h : L.findIdx? p with
  | some k =>
    obtain ⟨hk, hp, _⟩ := List.findIdx?_eq_some_iff_getElem.1 h
    rw [show L.any p = true from List.any_eq_true.2 ⟨L[k], List.getElem_mem hk, hp⟩]
    exact decide_eq_true (Int.natCast_nonneg k)
  | none =>
    rw [List.findIdx?_eq_none_iff] at h
    rw [show L.any p = false from List.any_eq_false.2 fun x hx => by rw [h x hx]; simp]
    rfl


end Go.Proofs.YtopgeclecpaecaaGreatDoor

/- The names of a reply: the vary layer's Names (a map of what is known). -/
namespace Go.Proofs.YtopgeclecpaecaaGreatDoor
open Go.RowKit

def varyN : List UInt8 := [118, 97, 114, 121]
/-- fields as long as may be -/
def VfB (l : List Fld) : Prop := l.length ≤ 1000 ∧ ∀ f ∈ l, f.1.length ≤ 2097152 ∧ f.2.length ≤ 2097152
theorem VfB.small {l : List Fld} (h : VfB l) : smallF l := fun j hj => by
  have := h.2 l[j] (List.getElem_mem hj); omega
theorem VfB.vals {l : List Fld} (h : VfB l) (n : List UInt8) : (valsL l n).length ≤ 1000 ∧ ∀ v ∈ valsL l n, v.length ≤ 2097152 := by
  refine ⟨Nat.le_trans (vals_len l n) h.1, fun v hv => ?_⟩
  unfold valsL at hv
  obtain ⟨f, hf, rfl⟩ := List.mem_map.1 hv
  exact (h.2 f (List.mem_filter.1 hf).1).2
theorem flat_memV {x : List UInt8} : ∀ {L : List (List UInt8)}, x ∈ L → x.length ≤ L.flatten.length
  | [], h => by cases h
  | y :: r, h => by
    rw [List.flatten_cons, List.length_append]
    rcases List.mem_cons.1 h with rfl | h
    · omega
    · have := flat_memV h; omega
theorem splitL_mem {v x : List UInt8} (h : x ∈ splitL v 44) : x.length ≤ v.length := Nat.le_trans (flat_memV h) (splitL_flat v 44)
theorem foldV_len : ∀ (vs a : List (List UInt8)), (vs.foldl putV a).length ≤ a.length + 64 * vs.length
  | [], _ => by simp
  | v :: r, a => by
    have h1 := foldV_len r (putV a v)
    have h2 : (putV a v).length ≤ a.length + (splitL v 44).length := foldN_len _ _
    have h3 := splitL_len v 44
    simp only [List.foldl_cons, List.length_cons]
    omega
theorem putV_step {N : List (List UInt8)} {k : Nat} (h : k < N.length) : (N.take (k + 1)).foldl putV [] = (splitL N[k] 44).foldl putN ((N.take k).foldl putV []) := by
  rw [List.take_succ_eq_append_getElem h, List.foldl_append]; rfl
theorem putN_step {M : List (List UInt8)} {a : List (List UInt8)} {j : Nat} (h : j < M.length) : (M.take (j + 1)).foldl putN a = putN ((M.take j).foldl putN a) M[j] := by
  rw [List.take_succ_eq_append_getElem h, List.foldl_append]; rfl
theorem allB_is {N : List (List UInt8)} {k : Nat} (h : k < N.length) (hb : badV N[k] = true) : allB N = true := List.any_eq_true.2 ⟨N[k], List.getElem_mem h, hb⟩
theorem allB_next {N : List (List UInt8)} {k : Nat} (h : k < N.length) (ht : allB (N.take k) = false) (hb : badV N[k] = false) : allB (N.take (k + 1)) = false := by
  unfold allB at ht ⊢
  rw [List.take_succ_eq_append_getElem h, List.any_append, ht]
  simp [hb]
/-- names, and whether they are all -/
def RetN (w : World) (vs : List (List UInt8)) (e : Ending) (w' : World) : Prop := ∃ v', e = .returned (.tuple #[v', .bool (!allB vs)]) ∧ ownS w' w.heap.size v' (namesA vs) ∧ Below w.heap.size w w'
theorem RetN.bad {w w' : World} {N : List (List UInt8)} (h : allB N = true) (hb : Below w.heap.size w w') : RetN w N (.returned (.tuple #[.slice none 0 0, .bool false])) w' := by
  refine ⟨_, by rw [h]; rfl, ?_, hb⟩
  unfold namesA; rw [h]; exact ownS_nil _ _
theorem RetN.good {w w' : World} {N : List (List UInt8)} {v : Value} (h : allB N = false) (ho : ownS w' w.heap.size v (N.foldl putV [])) (hb : Below w.heap.size w w') : RetN w N (.returned (.tuple #[v, .bool true])) w' := by
  refine ⟨_, by rw [h]; rfl, ?_, hb⟩
  unfold namesA namesOf; rw [h]; exact ho
theorem split44 (x : List UInt8) (w : World) (h : x.length ≤ 4294967290) : Calls Tryz.prog 84 #[.string (bs x), .int .u8 44] w (SplitPost x 44 w) := by
  have := split_any (bs x) 44 w (by rw [bs_size]; omega)
  rwa [bs_data] at this

end Go.Proofs.YtopgeclecpaecaaGreatDoor

/- The document's names of a reply. -/
namespace Go.Proofs.YtopgeclecpaecaaGreatDoor
open Go.RowKit

theorem anyT_snoc {E : List (List UInt8)} {p : List UInt8 → Bool} {k : Nat} (h : k < E.length) (hp : (E.take k).any p = false) (hq : p E[k] = false) : (E.take (k + 1)).any p = false := by
  rw [List.take_succ_eq_append_getElem h, List.any_append, hp]; simp [hq]
theorem anyT_is {E : List (List UInt8)} {p : List UInt8 → Bool} {k : Nat} (h : k < E.length) (hq : p E[k] = true) : E.any p = true := List.any_eq_true.2 ⟨E[k], List.getElem_mem h, hq⟩


end Go.Proofs.YtopgeclecpaecaaGreatDoor

/- The value of a name in a request: the program's and the document's. -/
namespace Go.Proofs.YtopgeclecpaecaaGreatDoor
open Go.RowKit

theorem flatV_step (f : List UInt8 → List (List UInt8)) {N : List (List UInt8)} {k : Nat} (h : k < N.length) : (N.take (k + 1)).flatMap f = (N.take k).flatMap f ++ f N[k] := by
  rw [List.take_succ_eq_append_getElem h, List.flatMap_append]; simp
theorem partsV_len (v : List UInt8) : (partsV v).length ≤ 64 ∧ (partsV v).flatten.length ≤ v.length := by
  unfold partsV
  split
  · exact ⟨splitL_len v 44, splitL_flat v 44⟩
  · refine ⟨by simp, ?_⟩
    have := trim_le v
    simpa using this
theorem flatP_len : ∀ N : List (List UInt8), (∀ v ∈ N, v.length ≤ 2097152) → (N.flatMap partsV).length ≤ 64 * N.length ∧ (N.flatMap partsV).flatten.length ≤ 2097152 * N.length
  | [], _ => by simp
  | v :: r, h => by
    obtain ⟨h1, h2⟩ := flatP_len r fun x hx => h x (by simp [hx])
    obtain ⟨h3, h4⟩ := partsV_len v
    have h5 := h v (by simp)
    simp only [List.flatMap_cons, List.length_append, List.flatten_append, List.length_cons]
    omega
theorem joinP_len {L : List (List UInt8)} : (Lib.join L [44, 32]).length ≤ L.flatten.length + 2 * L.length := by
  have := join_len [44, 32] L
  simp only [List.length_cons, List.length_nil] at this
  omega
theorem valueL_len {l : List Fld} (h : VfB l) (n : List UInt8) : (valueL l n).length ≤ 3000000000 := by
  obtain ⟨h1, h2⟩ := h.vals n
  obtain ⟨h3, h4⟩ := flatP_len _ h2
  have h5 := joinP_len (L := partsN l n)
  unfold valueL
  unfold partsN at h5 ⊢
  omega
theorem partsV_ok {x : List UInt8} (h : splitE x 44 = 0) : partsV x = splitL x 44 := if_pos h
theorem partsV_no {x : List UInt8} (h : splitE x 44 ≠ 0) : partsV x = [trim x] := if_neg h

set_option maxRecDepth 100000 in
set_option maxHeartbeats 4000000 in
theorem vvalue_any {v : Value} {l : List Fld} (n : List UInt8) (w : World) (hv : FL w v l) (hs : VfB l) (hn : n.length ≤ 4294967296) :
    Calls Tryz.prog 75 #[v, .string (bs n)] w fun e w' => e = .returned (.string (bs (valueL l n))) ∧ Below w.heap.size w w' := by
  obtain ⟨A, c, rfl⟩ := hv.form
  have hva := values_any (.slice A l.length c) l n w hv hs.small (by have := hs.1; omega) hn
  obtain ⟨hNl, hNs⟩ := hs.vals n
  have hlen := valueL_len hs n
  have hdef : valueL l n = Lib.join ((valsL l n).flatMap partsV) [44, 32] := rfl
  have HVA := Lib.hid hva; have HNS := Lib.hid hNs; have HNL := Lib.hid hNl; have HLE := Lib.hid hlen; have HDF := Lib.hid hdef
  clear hva hv hs hNs hNl hlen hdef hn
  generalize valueL l n = Z at *
  generalize valsL l n = N at *
  generalize bs n = nn at *
  go_enter Tryz.func75, Tryz.ntmps75
  go_wp2_with fail
  refine HVA.out.mono ?_
  rintro e w1 ⟨vN, rfl, hoN, hb1⟩
  have HSN := Lib.hid hoN.sl; have HB1 := Lib.hid hb1
  obtain ⟨A1, c1, rfl⟩ := hoN.form
  clear hoN hb1 HVA
  go_wp2_with fail
  go_loopw [5, 14] (fun o i wr => ∃ k : Nat, k ≤ N.length ∧ i = .int .i64 k ∧ ownS wr w1.heap.size o ((N.take k).flatMap partsV) ∧ Below w1.heap.size w1 wr) (fun _ i _ => N.length - (intOf i).toNat)
  case atStart => exact ⟨0, Nat.zero_le _, rfl, ownS_nil _ _, Below.refl _ _⟩
  case round =>
    obtain ⟨k, hk, rfl, ho, hb⟩ := hrel
    have HO := Lib.hid ho; have HB := Lib.hid hb
    clear ho hb
    have hNl := HNL.out
    by_cases hlt : k < N.length
    · obtain ⟨b, off, rfl, hbb, hc⟩ := (HSN.out.bel HB.out).get k hlt
      have hxl := HNS.out N[k] (List.getElem_mem hlt)
      have HST := Lib.hid (flatV_step partsV hlt)
      have hfl := (flatP_len (N.take k) fun v hv => HNS.out v (List.mem_of_mem_take hv)).1
      have htl : (N.take k).length ≤ N.length := List.length_take_le' _ _
      have hpl := (partsV_len N[k]).1
      generalize N[k] = x at *
      have HQL : Hid (((N.take k).flatMap partsV).length + (partsV x).length ≤ 4294967296) := by show _ ≤ _; omega
      generalize (N.take k).flatMap partsV = acc at *
      have HSP := Lib.hid fun W => split44 x W (by omega)
      have HTR := Lib.hid fun W => trim_l x W (by omega)
      clear hxl hfl htl hpl
      rcases (show splitE x 44 = 0 ∨ splitE x 44 ≠ 0 from Decidable.em _) with hE | hE
      · have HS2 : Hid (∀ W, Calls Tryz.prog 84 #[.string (bs x), .int .u8 44] W fun e w' => ∃ v, e = .returned (.tuple #[v, .int .i64 0]) ∧ ownS w' W.heap.size v (splitL x 44) ∧ Below W.heap.size W w') := fun W => by have h := HSP.out W; unfold SplitPost at h; rw [hE] at h; exact h
        rw [partsV_ok hE] at HST HQL
        clear HSP HTR hE
        generalize splitL x 44 = M at *
        generalize bs x = xx at *
        obtain ⟨A0, c0, rfl⟩ := HO.out.form
        go_wp2_with (first
          | (go_at_call 84; refine (HS2.out _).mono ?_; rintro e w3 ⟨vM, rfl, hoM, hb3⟩; have HO3 := Lib.hid (HO.out.bel hb3); have HB3 := Lib.hid (HB.out.trans (hb3.mono HB.out.size)); have HM3 := Lib.hid hoM.sl; obtain ⟨A3, c3, rfl⟩ := hoM.form; clear hb3 hoM)
          | (at_builtin; refine wpList_appSS rfl (.tmp 28) (.tmp 29) rfl w1.heap.size w1.heap.size _ _ _ M rfl HO3.out HB3.out (Nat.le_refl _) HB3.out.size rfl HM3.out HQL.out ?_; intro v' w4 HO4 HB4 _ _))
        go_roundw
        case rel => exact ⟨k + 1, by omega, by go_num, by rw [HST.out]; exact HO4.out, HB4.out⟩
        case measure => simp [intOf]; omega
      · have hne : (splitE x 44 != 0) = true := bne_iff_ne.2 hE
        rw [partsV_no hE] at HST HQL
        clear hE
        generalize trim x = tx at *
        have HS2 := HSP
        unfold SplitPost at HS2
        clear HSP
        generalize splitE x 44 = E at *
        generalize splitL x 44 = M at *
        generalize bs x = xx at *
        obtain ⟨A0, c0, rfl⟩ := HO.out.form
        go_wp2_with (first
          | (go_at_call 84; refine (HS2.out _).mono ?_; rintro e w3 ⟨vM, rfl, hoM, hb3⟩; have HO3 := Lib.hid (HO.out.bel hb3); have HB3 := Lib.hid (HB.out.trans (hb3.mono HB.out.size)); obtain ⟨A3, c3, rfl⟩ := hoM.form; clear hb3 hoM)
          | (go_at_call 85; refine (HTR.out _).mono ?_; rintro e w4 ⟨rfl, hb4⟩; have hal : Below w4.heap.size w4 (w4.alloc (.cells #[.string (bs tx)] 9)) := (Below.refl _ _).alloc (Nat.le_refl _) _; have HO4 := Lib.hid ((HO3.out.bel hb4).bel hal); have HB4 := Lib.hid ((HB3.out.trans (hb4.mono HB3.out.size)).trans (hal.mono (Nat.le_trans HB3.out.size hb4.size))); have HM4 := Lib.hid (SL_lit w4 tx); clear hb4 hal)
          | (at_builtin; refine wpList_appSS rfl (.tmp 28) (.tmp 29) rfl w1.heap.size w1.heap.size _ _ _ [tx] rfl HO4.out HB4.out (Nat.le_refl _) HB4.out.size rfl HM4.out HQL.out ?_; intro v' w5 HO5 HB5 _ _))
        go_roundw
        case rel => exact ⟨k + 1, by omega, by go_num, by rw [HST.out]; exact HO5.out, HB5.out⟩
        case measure => simp [intOf]; omega
    · have HE : Hid (N.take k = N) := List.take_of_length_le (by omega)
      have hO := HO.out
      rw [HE.out] at hO
      obtain ⟨A0, c0, hu0⟩ := hO.form
      subst hu0
      have hfl := (flatP_len N HNS.out).1
      have hj := join_any _ _ _ ⟨#[44, 32]⟩ wr hO (by omega) (by have h1 := HLE.out; have h2 := HDF.out; show (Lib.join (N.flatMap partsV) [44, 32]).length ≤ _; rw [← h2]; omega)
      have hj2 : Calls Tryz.prog 15 #[.slice A0 (N.flatMap partsV).length c0, .string ⟨#[44, 32]⟩] wr fun e w' => e = .returned (.string (bs Z)) ∧ Below wr.heap.size wr w' := by rw [HDF.out]; exact hj
      have HJ := Lib.hid hj2
      clear HLE HDF
      generalize N.flatMap partsV = L at *
      have HB2 : Hid (Below w.heap.size w wr) := HB1.out.trans (HB.out.mono HB1.out.size)
      clear hO hfl hj hj2
      go_wp2_with (go_at_call 15; refine HJ.out.mono ?_; rintro e w3 ⟨rfl, hb3⟩; have HB3 := Lib.hid (HB2.out.trans (hb3.mono HB2.out.size)); clear hb3)
      go_ret
      exact ⟨rfl, HB3.out⟩

theorem partsV_flat (x : List UInt8) : ∀ y ∈ partsV x, y ≠ [] := partsV_ne x
/-- the text so far: of what was put together, and of a value's first parts -/
theorem glue_at {P M : List (List UInt8)} {j : Nat} (hP : ∀ y ∈ P, y ≠ []) (hM : ∀ y ∈ M, y ≠ []) (hj : j < M.length) : Lib.join (P ++ M.take (j + 1)) [44, 32] = glueP (Lib.join (P ++ M.take j) [44, 32]) M[j] := by
  rw [List.take_succ_eq_append_getElem hj, ← List.append_assoc]
  refine glue_step (fun y hy => ?_) (hM _ (List.getElem_mem hj))
  rcases List.mem_append.1 hy with hy | hy
  · exact hP y hy
  · exact hM y (List.mem_of_mem_take hy)

end Go.Proofs.YtopgeclecpaecaaGreatDoor

/- Lists of fields held against each other; Select and Matches of the vary layer, and the document's. -/
namespace Go.Proofs.YtopgeclecpaecaaGreatDoor
open Go.RowKit

/-- block b holds just these cells -/
def vbk (w : World) (b : Nat) (cs : Array Value) : Prop := ∃ T, w.heap[b]? = some (.cells cs T (0, 0))
theorem vbk.cell {w : World} {b : Nat} {cs : Array Value} (h : vbk w b cs) (j : Nat) (u : Value) (hj : cs[j]? = some u) : w.cell? ⟨b, j, none⟩ = some u := by
  obtain ⟨T, h⟩ := h
  exact (cell_of_row w b j cs T _ h).trans hj
theorem vbk.lt {w : World} {b : Nat} {cs : Array Value} (h : vbk w b cs) : b < w.heap.size := by
  obtain ⟨T, h⟩ := h
  exact (Array.getElem?_eq_some_iff.1 h).1
theorem vbk.below {w w' : World} {b : Nat} {cs : Array Value} (h : vbk w b cs) (hb : Below w.heap.size w w') : vbk w' b cs := by
  have hk := hb.block b h.lt
  obtain ⟨T, h⟩ := h
  exact ⟨T, hk.trans h⟩
theorem vbk.new (w : World) (cs : Array Value) (T : TypeId) : vbk (w.alloc (.cells cs T)) w.heap.size cs := ⟨T, heap_alloc_new w _⟩



theorem sel_step {names : List (List UInt8)} {k : Nat} (h : k < names.length) (l : List Fld) : selectL (names.take (k + 1)) l = selectL (names.take k) l ++ [(names[k], valueL l names[k])] := by
  rw [List.take_succ_eq_append_getElem h]; unfold selectL; rw [List.map_append]; rfl


theorem all_snocF {E : List Fld} {p : Fld → Bool} {k : Nat} (h : k < E.length) (hp : (E.take k).all p = true) (hq : p E[k] = true) : (E.take (k + 1)).all p = true := by
  rw [List.take_succ_eq_append_getElem h, List.all_append, hp]; simp [hq]
theorem all_noF {E : List Fld} {p : Fld → Bool} {k : Nat} (h : k < E.length) (hq : p E[k] = false) : E.all p = false := List.all_eq_false.2 ⟨E[k], List.getElem_mem h, by simp [hq]⟩
variable {a0 a1 a2 a3 a4 a5 a6 : Value}
set_option maxHeartbeats 4000000 in
set_option maxRecDepth 100000 in
theorem vmatches_any {vv v : Value} {vary l : List Fld} (w : World) (hN : FL w vv vary) (hv : FL w v l) (hs : VfB l) (hns : smallF vary) (hl : vary.length ≤ 4294967296) :
    Calls Tryz.prog 52 #[.agg #[a0, a1, a2, a3, a4, a5, a6, vv], v] w fun e w' => e = .returned (.bool (matchB vary l)) ∧ Below w.heap.size w w' := by
  obtain ⟨A, c, rfl⟩ := hN.form
  obtain ⟨Av, cv, hfv⟩ := hv.form
  have hmf : ∀ (fn : Fn) (first cap : Array Value) (w : World), (Instr.makeFunc fn first cap).run Tryz.prog w = .ok (.func fn first cap) w := fun _ _ _ _ => rfl
  have HX : Hid (Below w.heap.size w (w.alloc (.cells #[a0, a1, a2, a3, a4, a5, a6, .slice A vary.length c] 28))) := (Below.refl _ _).alloc (Nat.le_refl _) _
  have HVL := Lib.hid fun (n : List UInt8) (hn : n.length ≤ 4294967296) W (hb : Below w.heap.size w W) => vvalue_any n W (hv.bel hb) hs hn
  have HN := Lib.hid (hN.bel HX.out); have HNS := Lib.hid hns
  clear hN hv hns hs
  subst hfv
  go_enter Tryz.func52, Tryz.ntmps52
  go_wp2_with fail
  clear hmf
  generalize w.alloc (.cells #[a0, a1, a2, a3, a4, a5, a6, .slice A vary.length c] 28) = W0 at *
  go_loopw [13] (fun i wr => ∃ k : Nat, k ≤ vary.length ∧ i = .int .i64 k ∧ (vary.take k).all (fun f => f.2 == valueL l f.1) = true ∧ Below W0.heap.size W0 wr) (fun i _ => vary.length - (intOf i).toNat)
  case atStart => exact ⟨0, Nat.zero_le _, rfl, rfl, Below.refl _ _⟩
  case round =>
    obtain ⟨k, hk, rfl, ha, hb⟩ := hrel
    have HA := Lib.hid ha; have HB := Lib.hid hb; clear ha hb
    by_cases hlt : k < vary.length
    · obtain ⟨b, off, rfl, hbb, c0, c1⟩ := (HN.out.bel HB.out).get k hlt
      obtain ⟨s1, s2⟩ := HNS.out k hlt
      have HYE : Hid ((vary[k].2 == valueL l vary[k].1) = true → (vary.take (k + 1)).all (fun f => f.2 == valueL l f.1) = true) := fun h => all_snocF hlt HA.out h
      have HNO : Hid ((vary[k].2 == valueL l vary[k].1) = false → matchB vary l = false) := fun h => all_noF hlt h
      generalize vary[k] = f at *
      obtain ⟨n, x⟩ := f
      simp only at HYE HNO c0 c1 s1 s2
      have HV := Lib.hid (HVL.out n s1)
      have hq := beqVV x (valueL l n)
      generalize valueL l n = z at *
      have hal : Below wr.heap.size wr (wr.alloc (.cells #[.string (bs n), .string (bs x)] 66)) := (Below.refl _ _).alloc (Nat.le_refl _) _
      have HBa := Lib.hid (HB.out.trans (hal.mono HB.out.size))
      have HPa := Lib.hid (oneF2.new wr (.string (bs n)) (.string (bs x)))
      have HXa : Hid (Below w.heap.size w (wr.alloc (.cells #[.string (bs n), .string (bs x)] 66))) := HX.out.trans (HBa.out.mono HX.out.size)
      clear hal s1 s2
      cases hx : x == z
      · rw [hx] at hq
        have HNO2 := Lib.hid (HNO.out hx)
        clear hx HNO HYE
        go_wp2_with fail
        clear c0 c1
        generalize wr.alloc (.cells #[.string (bs n), .string (bs x)] 66) = C at *
        refine wp_region_growS (.one 0 false (.one 1 false (.one 2 false (.one 3 false (.one 4 false (.one 5 true (.one 6 false .done)))))))
          (fun W => Below C.heap.size C W) (by kernel_rfl) (by kernel_rfl) rfl (by kernel_rfl) (by kernel_rfl) (Below.refl _ _).drew (fun ops hops => ?_)
        simp only [GT.ins, List.getD_cons_zero, List.getD_cons_succ]
        clear hops
        iterate 5
          refine growS_take (by rfl) ?_
          apply Exists.intro
          refine ⟨fun w' hE => ?_, ?_⟩
          · obtain ⟨q0, q1, _, _⟩ := (HPa.out.bel hE).cells
            go_simp
            try with_reducible rfl
          simp only [Act.put, List.setIfInBounds_toArray, List.set_cons_zero, List.set_cons_succ]
        refine growS_call (by rfl) (fun K hK => ?_)
        go_simp
        refine (HV.out _ HXa.out.drew).mono ?_
        rintro e w5 ⟨rfl, hb5⟩
        have HC5 : Hid (Below C.heap.size C w5) := (Below.refl _ _).drew.trans hb5
        clear hb5
        refine hK.out _ _ HC5.out ?_
        clear hK K
        iterate 1
          refine growS_take (by rfl) ?_
          apply Exists.intro
          refine ⟨fun w' hE => ?_, ?_⟩
          · obtain ⟨q0, q1, _, _⟩ := (HPa.out.bel hE).cells
            go_simp
            try with_reducible rfl
          simp only [Act.put, List.setIfInBounds_toArray, List.set_cons_zero, List.set_cons_succ]
        refine growS_done (NoPanic.normal ?_)
        try simp only [Exit.then]
        go_wp2_with fail
        go_ret
        exact ⟨ret_bool HNO2.out.symm, HX.out.trans ((HBa.out.trans (HC5.out.mono HBa.out.size)).mono HX.out.size)⟩
      · rw [hx] at hq
        have HYE2 := Lib.hid (HYE.out hx)
        clear hx HNO HYE
        go_wp2_with fail
        clear c0 c1
        generalize wr.alloc (.cells #[.string (bs n), .string (bs x)] 66) = C at *
        refine wp_region_growS (.one 0 false (.one 1 false (.one 2 false (.one 3 false (.one 4 false (.one 5 true (.one 6 false .done)))))))
          (fun W => Below C.heap.size C W) (by kernel_rfl) (by kernel_rfl) rfl (by kernel_rfl) (by kernel_rfl) (Below.refl _ _).drew (fun ops hops => ?_)
        simp only [GT.ins, List.getD_cons_zero, List.getD_cons_succ]
        clear hops
        iterate 5
          refine growS_take (by rfl) ?_
          apply Exists.intro
          refine ⟨fun w' hE => ?_, ?_⟩
          · obtain ⟨q0, q1, _, _⟩ := (HPa.out.bel hE).cells
            go_simp
            try with_reducible rfl
          simp only [Act.put, List.setIfInBounds_toArray, List.set_cons_zero, List.set_cons_succ]
        refine growS_call (by rfl) (fun K hK => ?_)
        go_simp
        refine (HV.out _ HXa.out.drew).mono ?_
        rintro e w5 ⟨rfl, hb5⟩
        have HC5 : Hid (Below C.heap.size C w5) := (Below.refl _ _).drew.trans hb5
        clear hb5
        refine hK.out _ _ HC5.out ?_
        clear hK K
        iterate 1
          refine growS_take (by rfl) ?_
          apply Exists.intro
          refine ⟨fun w' hE => ?_, ?_⟩
          · obtain ⟨q0, q1, _, _⟩ := (HPa.out.bel hE).cells
            go_simp
            try with_reducible rfl
          simp only [Act.put, List.setIfInBounds_toArray, List.set_cons_zero, List.set_cons_succ]
        refine growS_done (NoPanic.normal ?_)
        try simp only [Exit.then]
        go_wp2_with fail
        go_roundw
        case rel => exact ⟨k + 1, by omega, by go_num, HYE2.out, HBa.out.trans (HC5.out.mono HBa.out.size)⟩
        case measure => simp [intOf]; omega
    · have HE : Hid (matchB vary l = true) := by have h := HA.out; rw [List.take_of_length_le (by omega)] at h; exact h
      go_wp2_with fail
      go_ret
      exact ⟨ret_bool HE.out.symm, HX.out.trans (HB.out.mono HX.out.size)⟩

end Go.Proofs.YtopgeclecpaecaaGreatDoor
