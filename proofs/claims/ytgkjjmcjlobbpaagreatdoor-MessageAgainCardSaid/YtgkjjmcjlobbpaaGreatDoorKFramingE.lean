/- The framing layer's first fault of three checks; what a body's end is once there is no fault. -/
import Derived.Test.YtgkjjmcjlobbpaaGreatDoorKFramingA
namespace Go.Proofs.YtgkjjmcjlobbpaaGreatDoor
open Go.RowKit Go.Shelf

/-- a check of the header H that answers n, in every world behind w -/
def Chk (w : World) (f : FuncId) (H : Value) (n : Int) : Prop := ∀ W, Below w.heap.size w W → Calls Tryz.prog f #[H] W fun e w' => e = .returned (.int .i64 n) ∧ Below W.heap.size W w'
def faultE (s f g : Int) : Int := if s ≠ 0 then s else if f ≠ 0 then f else g
set_option maxRecDepth 100000 in
set_option maxHeartbeats 1000000 in
theorem first_any (H : Value) (s f g : Int) (b : Nat) (w : World) (hb : blk w b #[.func (.func 149) #[H] #[], .func (.func 150) #[H] #[], .func (.func 151) #[H] #[]])
    (h1 : Chk w 149 H s) (h2 : Chk w 150 H f) (h3 : Chk w 151 H g) :
    Calls Tryz.prog 148 #[.slice (some ⟨b, 0, none⟩) 3 3] w fun e w' => e = .returned (.int .i64 (faultE s f g)) ∧ Below w.heap.size w w' := by
  have HBK := Lib.hid hb; have H1 := Lib.hid h1; have H2 := Lib.hid h2; have H3 := Lib.hid h3; clear hb h1 h2 h3
  go_enter Tryz.func148, Tryz.ntmps148
  go_wp2_with fail
  go_loopw [8] (fun i wr => ∃ k : Nat, k ≤ 3 ∧ i = .int .i64 k ∧ Hid ((0 < k → s = 0) ∧ (1 < k → f = 0) ∧ (2 < k → g = 0)) ∧ Below w.heap.size w wr) (fun i _ => 3 - (intOf i).toNat)
  case atStart => exact ⟨0, by omega, rfl, ⟨by omega, by omega, by omega⟩, Below.refl _ _⟩
  case round =>
    obtain ⟨k, hk, rfl, HT, hb⟩ := hrel
    have HB := Lib.hid hb
    have c0 := (HBK.out.below hb).cell 0 (.func (.func 149) #[H] #[]) rfl
    have c1 := (HBK.out.below hb).cell 1 (.func (.func 150) #[H] #[]) rfl
    have c2 := (HBK.out.below hb).cell 2 (.func (.func 151) #[H] #[]) rfl
    clear hb
    obtain rfl | rfl | rfl | rfl : k = 0 ∨ k = 1 ∨ k = 2 ∨ k = 3 := by omega
    · by_cases hq : s = 0
      · have HQ := Lib.hid hq
        go_wp2_with fail
        refine (H1.out _ HB.out).mono ?_
        rw [HQ.out]
        rintro e w2 ⟨rfl, hb2⟩
        have HB2 := Lib.hid (HB.out.trans (hb2.mono HB.out.size)); clear hb2
        go_wp2_with fail
        go_roundw
        case rel => exact ⟨1, by omega, by go_num, ⟨fun _ => HQ.out, by omega, by omega⟩, HB2.out⟩
        case measure => simp [intOf]
      · have HR : Hid (faultE s f g = s) := if_pos hq
        have hd : (s != 0) = true := bne_iff_ne.2 hq
        go_wp2_with fail
        refine (H1.out _ HB.out).mono ?_
        rintro e w2 ⟨rfl, hb2⟩
        have HB2 := Lib.hid (HB.out.trans (hb2.mono HB.out.size)); clear hb2
        go_wp2_with fail
        go_ret
        exact ⟨by rw [HR.out]; rfl, HB2.out⟩
    · by_cases hq : f = 0
      · have HQ := Lib.hid hq
        go_wp2_with fail
        refine (H2.out _ HB.out).mono ?_
        rw [HQ.out]
        rintro e w2 ⟨rfl, hb2⟩
        have HB2 := Lib.hid (HB.out.trans (hb2.mono HB.out.size)); clear hb2
        go_wp2_with fail
        go_roundw
        case rel => exact ⟨2, by omega, by go_num, ⟨fun _ => HT.out.1 (by omega), fun _ => HQ.out, by omega⟩, HB2.out⟩
        case measure => simp [intOf]
      · have HR : Hid (faultE s f g = f) := by show _ = _; unfold faultE; rw [if_neg (by have := HT.out.1 (by omega); omega), if_pos hq]
        have hd : (f != 0) = true := bne_iff_ne.2 hq
        go_wp2_with fail
        refine (H2.out _ HB.out).mono ?_
        rintro e w2 ⟨rfl, hb2⟩
        have HB2 := Lib.hid (HB.out.trans (hb2.mono HB.out.size)); clear hb2
        go_wp2_with fail
        go_ret
        exact ⟨by rw [HR.out]; rfl, HB2.out⟩
    · have HR : Hid (faultE s f g = g) := by show _ = _; unfold faultE; rw [if_neg (by have := HT.out.1 (by omega); omega), if_neg (by have := HT.out.2.1 (by omega); omega)]
      by_cases hq : g = 0
      · have HQ := Lib.hid hq
        go_wp2_with fail
        refine (H3.out _ HB.out).mono ?_
        rw [HQ.out]
        rintro e w2 ⟨rfl, hb2⟩
        have HB2 := Lib.hid (HB.out.trans (hb2.mono HB.out.size)); clear hb2
        go_wp2_with fail
        go_roundw
        case rel => exact ⟨3, by omega, by go_num, ⟨fun _ => HT.out.1 (by omega), fun _ => HT.out.2.1 (by omega), fun _ => HQ.out⟩, HB2.out⟩
        case measure => simp [intOf]
      · have hd : (g != 0) = true := bne_iff_ne.2 hq
        go_wp2_with fail
        refine (H3.out _ HB.out).mono ?_
        rintro e w2 ⟨rfl, hb2⟩
        have HB2 := Lib.hid (HB.out.trans (hb2.mono HB.out.size)); clear hb2
        go_wp2_with fail
        go_ret
        exact ⟨by rw [HR.out]; rfl, HB2.out⟩
    · have HR : Hid (faultE s f g = 0) := by
        obtain ⟨t1, t2, t3⟩ := HT.out
        show _ = _
        unfold faultE
        rw [t1 (by omega), t2 (by omega), t3 (by omega)]; rfl
      go_wp2_with fail
      go_ret
      exact ⟨by rw [HR.out]; rfl, HB.out⟩

/-- an answer's value -/
def ansV (r : Int × Int × Int) : Value := .tuple #[.agg #[.int .i64 r.1, .int .i64 r.2.1], .int .i64 r.2.2]
/-- a block of two numbers, handed back beside a third -/
theorem blk.two {w : World} {b : Nat} {x y : Value} (h : blk w b #[x, y]) (x' y' : Value) : blk ((w.setCell ⟨b, 0, none⟩ x').setCell ⟨b, 1, none⟩ y') b #[x', y'] := by
  simpa using (h.set 0 x').set 1 y'
def frameR (x1 x2 : Bool) (E : List (List UInt8)) (most other : Int) : Int × Int × Int :=
  if x2 then (2, 0, 0) else if !x1 then (other, 0, 0) else if most < numV (E.headD []) then (0, 0, 3) else (1, numV (E.headD []), 0)
set_option maxRecDepth 100000 in
set_option maxHeartbeats 2000000 in
theorem framing_any (x1 y1 x2 y2 : Bool) (v1 : Value) (A2 : Option Addr) (n2 c2 : Nat) (E : List (List UInt8)) (most other : Int) (w : World) (he : Env w) (h1 : SL w v1 E) (hE : ∀ s ∈ E, s.length ≤ 4294967296) (hx : x1 = true → x2 = false → 0 < E.length) :
    Calls Tryz.prog 110 #[hdrV x1 y1 v1 x2 y2 (.slice A2 n2 c2), .int .i64 most, .int .i64 other] w fun e w' => e = .returned (ansV (frameR x1 x2 E most other)) ∧ Below w.heap.size w w' := by
  obtain ⟨A, c, rfl⟩ := h1.form
  have hbk := (blk.new w #[.bool x1, .bool y1, .slice A E.length c, .bool x2, .bool y2, .slice A2 n2 c2] 169).alloc (.cells #[.int .i64 0, .int .i64 0] 116)
  have hal : Below w.heap.size w ((w.alloc (.cells #[.bool x1, .bool y1, .slice A E.length c, .bool x2, .bool y2, .slice A2 n2 c2] 169)).alloc (.cells #[.int .i64 0, .int .i64 0] 116)) := ((Below.refl _ _).alloc (Nat.le_refl _) _).alloc (by simp) _
  have hr := blk.new (w.alloc (.cells #[.bool x1, .bool y1, .slice A E.length c, .bool x2, .bool y2, .slice A2 n2 c2] 169)) #[.int .i64 0, .int .i64 0] 116
  rw [World.size_alloc] at hr
  have he1 := he.below hal (Nat.le_refl _)
  have h11 := h1.bel hal
  have c0 := hbk.cell 0 (.bool x1) rfl
  have c2' := hbk.cell 2 (.slice A E.length c) rfl
  have c3 := hbk.cell 3 (.bool x2) rfl
  have HAL := Lib.hid hal; have HR := Lib.hid hr; have HE1 := Lib.hid he1; have H1 := Lib.hid h11; have HE := Lib.hid hE
  clear hbk hal hr he1 h11 he h1 hE
  unfold hdrV
  have stored : ∀ (W : World) (n k : Int), blk W (w.heap.size + 1) #[.int .i64 0, .int .i64 0] → W.cell? ⟨w.heap.size + 1, 0, none⟩ = some (.int .i64 0) ∧ W.frozen? ⟨w.heap.size + 1, 0, none⟩ = false ∧
      (W.setCell ⟨w.heap.size + 1, 0, none⟩ (.int .i64 n)).cell? ⟨w.heap.size + 1, 1, none⟩ = some (.int .i64 0) ∧ (W.setCell ⟨w.heap.size + 1, 0, none⟩ (.int .i64 n)).frozen? ⟨w.heap.size + 1, 1, none⟩ = false ∧
      ((W.setCell ⟨w.heap.size + 1, 0, none⟩ (.int .i64 n)).setCell ⟨w.heap.size + 1, 1, none⟩ (.int .i64 k)).cell? ⟨w.heap.size + 1, 0, none⟩ = some (.int .i64 n) ∧
      ((W.setCell ⟨w.heap.size + 1, 0, none⟩ (.int .i64 n)).setCell ⟨w.heap.size + 1, 1, none⟩ (.int .i64 k)).cell? ⟨w.heap.size + 1, 1, none⟩ = some (.int .i64 k) := fun W n k h =>
    ⟨h.cell 0 _ rfl, h.free 0, (h.set 0 _).cell 1 _ rfl, (h.set 0 _).free 1, (h.two _ _).cell 0 _ rfl, (h.two _ _).cell 1 _ rfl⟩
  have HST := Lib.hid stored; clear stored
  cases x2
  · cases x1
    · go_enter Tryz.func110, Tryz.ntmps110
      go_wp2_with fail
      exact bodyPost_ret (v := ansV (other, 0, 0)) (by simp [results, Tryz.results110, go_sem, ansV]) rfl ⟨rfl, ((Below.refl _ _).alloc (Nat.le_refl _) _).alloc (by simp) _⟩
    · have hl0 := hx rfl rfl
      obtain ⟨b, off, rfl, hbb, hc0⟩ := H1.out.get 0 hl0
      have hd : E.headD [] = E[0] := by cases E with | nil => simp at hl0 | cons x r => rfl
      have hX := HE.out _ (List.getElem_mem hl0)
      have HF : Hid (∀ q : Prop, (most < numV E[0]) = q → frameR true false E most other = @ite _ q (Classical.propDecidable q) ((0, 0, 3) : Int × Int × Int) (1, numV E[0], 0)) := by
        rintro q rfl
        unfold frameR
        simp only [Bool.false_eq_true, if_false, Bool.not_true, hd]
        split <;> rfl
      rw [Nat.add_zero] at hc0
      generalize E[0] = x at *
      have HX := Lib.hid hX
      clear hX hd hx
      have HC := Lib.hid HAL.out
      go_enter Tryz.func110, Tryz.ntmps110
      go_wp2_with fail
      refine (numberF_any x _ HE1.out HX.out).mono ?_
      rintro e w2 ⟨rfl, hb2⟩
      have HR2 := Lib.hid (HR.out.below hb2)
      have HB2 := Lib.hid (HAL.out.trans (hb2.mono HAL.out.size))
      clear hb2 c0 c2' c3 hc0
      by_cases hq : most < numV x
      · have HQ : Hid (frameR true false E most other = (0, 0, 3)) := (HF.out _ rfl).trans (if_pos hq)
        obtain ⟨s1, s2, s3, s4, m1, m2⟩ := HST.out _ 0 0 HR2.out
        go_wp2_with fail
        exact bodyPost_ret (v := ansV (0, 0, 3)) (by simp [results, Tryz.results110, go_sem, m1, m2, ansV]) rfl ⟨by rw [HQ.out], (HB2.out.setCell (by simp) _).setCell (by simp) _⟩
      · have HQ : Hid (frameR true false E most other = (1, numV x, 0)) := (HF.out _ rfl).trans (if_neg hq)
        obtain ⟨s1, s2, s3, s4, m1, m2⟩ := HST.out _ 1 (numV x) HR2.out
        go_wp2_with fail
        exact bodyPost_ret (v := ansV (1, numV x, 0)) (by simp [results, Tryz.results110, go_sem, m1, m2, ansV]) rfl ⟨by rw [HQ.out], (HB2.out.setCell (by simp) _).setCell (by simp) _⟩
  · go_enter Tryz.func110, Tryz.ntmps110
    go_wp2_with fail
    exact bodyPost_ret (v := ansV (2, 0, 0)) (by simp [results, Tryz.results110, go_sem, ansV]) rfl ⟨by cases x1 <;> rfl, ((Below.refl _ _).alloc (Nat.le_refl _) _).alloc (by simp) _⟩
end Go.Proofs.YtgkjjmcjlobbpaaGreatDoor

/- The framing layer's read: what is wrong with the fields of a message. -/
namespace Go.Proofs.YtgkjjmcjlobbpaaGreatDoor
open Go.RowKit Go.Shelf

theorem vals_small {l : List Fld} (hs : smallF l) (n : List UInt8) : ∀ x ∈ valsL l n, x.length ≤ 4294967296 := fun x hx => by
  unfold valsL at hx
  rw [List.mem_map] at hx
  obtain ⟨f, hf, rfl⟩ := hx
  obtain ⟨i, hi, he⟩ := List.getElem_of_mem (List.mem_filter.1 hf).1
  have := (hs i hi).2
  rw [he] at this
  exact this
theorem elems_small {l : List Fld} (hs : smallF l) (n : List UInt8) : ∀ s ∈ elemsL (valsL l n), s.length ≤ 4294967296 := elems_mem (vals_small hs n)
theorem elems_few {l : List Fld} (hl : l.length ≤ 1048576) (n : List UInt8) : (elemsL (valsL l n)).length ≤ 4294967296 := by
  have h1 := elems_len (valsL l n); have h2 := vals_len l n; omega
theorem bs_cl : (⟨#[99, 111, 110, 116, 101, 110, 116, 45, 108, 101, 110, 103, 116, 104]⟩ : ByteArray) = bs clN := rfl
theorem bs_te : (⟨#[116, 114, 97, 110, 115, 102, 101, 114, 45, 101, 110, 99, 111, 100, 105, 110, 103]⟩ : ByteArray) = bs teN := rfl

/-- six cells stored into a block of six -/
def put6 (W : World) (R : Nat) (u0 u1 u2 u3 u4 u5 : Value) : World :=
  (((((W.setCell ⟨R, 0, none⟩ u0).setCell ⟨R, 1, none⟩ u1).setCell ⟨R, 2, none⟩ u2).setCell ⟨R, 3, none⟩ u3).setCell ⟨R, 4, none⟩ u4).setCell ⟨R, 5, none⟩ u5
theorem blk.put6 {W : World} {R : Nat} {z0 z1 z2 z3 z4 z5 : Value} (h : blk W R #[z0, z1, z2, z3, z4, z5]) (u0 u1 u2 u3 u4 u5 : Value) : blk (put6 W R u0 u1 u2 u3 u4 u5) R #[u0, u1, u2, u3, u4, u5] := by
  simpa [Go.Proofs.YtgkjjmcjlobbpaaGreatDoor.put6] using (((((h.set 0 u0).set 1 u1).set 2 u2).set 3 u3).set 4 u4).set 5 u5
theorem put6_other (W : World) (R : Nat) (u0 u1 u2 u3 u4 u5 : Value) {k : Nat} (hk : k ≠ R) : (put6 W R u0 u1 u2 u3 u4 u5).heap[k]? = W.heap[k]? := by
  unfold put6
  rw [Below.heap_setCell _ _ _ _ hk, Below.heap_setCell _ _ _ _ hk, Below.heap_setCell _ _ _ _ hk, Below.heap_setCell _ _ _ _ hk, Below.heap_setCell _ _ _ _ hk, Below.heap_setCell _ _ _ _ hk]
theorem put6_size (W : World) (R : Nat) (u0 u1 u2 u3 u4 u5 : Value) : (put6 W R u0 u1 u2 u3 u4 u5).heap.size = W.heap.size := by simp [put6]
theorem put6_below {B : Nat} {w0 W : World} (h : Below B w0 W) {R : Nat} (hR : B ≤ R) (u0 u1 u2 u3 u4 u5 : Value) : Below B w0 (put6 W R u0 u1 u2 u3 u4 u5) :=
  (((((h.setCell hR _).setCell hR _).setCell hR _).setCell hR _).setCell hR _).setCell hR _
/-- what a store into a block of six asks, cell by cell -/
theorem blk.asks6 {W : World} {R : Nat} {z0 z1 z2 z3 z4 z5 : Value} (h : blk W R #[z0, z1, z2, z3, z4, z5]) (u0 u1 u2 u3 u4 : Value) :
    (W.cell? ⟨R, 0, none⟩ = some z0 ∧ W.frozen? ⟨R, 0, none⟩ = false) ∧
    ((W.setCell ⟨R, 0, none⟩ u0).cell? ⟨R, 1, none⟩ = some z1 ∧ (W.setCell ⟨R, 0, none⟩ u0).frozen? ⟨R, 1, none⟩ = false) ∧
    (((W.setCell ⟨R, 0, none⟩ u0).setCell ⟨R, 1, none⟩ u1).cell? ⟨R, 2, none⟩ = some z2 ∧ ((W.setCell ⟨R, 0, none⟩ u0).setCell ⟨R, 1, none⟩ u1).frozen? ⟨R, 2, none⟩ = false) ∧
    ((((W.setCell ⟨R, 0, none⟩ u0).setCell ⟨R, 1, none⟩ u1).setCell ⟨R, 2, none⟩ u2).cell? ⟨R, 3, none⟩ = some z3 ∧ (((W.setCell ⟨R, 0, none⟩ u0).setCell ⟨R, 1, none⟩ u1).setCell ⟨R, 2, none⟩ u2).frozen? ⟨R, 3, none⟩ = false) ∧
    (((((W.setCell ⟨R, 0, none⟩ u0).setCell ⟨R, 1, none⟩ u1).setCell ⟨R, 2, none⟩ u2).setCell ⟨R, 3, none⟩ u3).cell? ⟨R, 4, none⟩ = some z4 ∧ ((((W.setCell ⟨R, 0, none⟩ u0).setCell ⟨R, 1, none⟩ u1).setCell ⟨R, 2, none⟩ u2).setCell ⟨R, 3, none⟩ u3).frozen? ⟨R, 4, none⟩ = false) ∧
    ((((((W.setCell ⟨R, 0, none⟩ u0).setCell ⟨R, 1, none⟩ u1).setCell ⟨R, 2, none⟩ u2).setCell ⟨R, 3, none⟩ u3).setCell ⟨R, 4, none⟩ u4).cell? ⟨R, 5, none⟩ = some z5 ∧ (((((W.setCell ⟨R, 0, none⟩ u0).setCell ⟨R, 1, none⟩ u1).setCell ⟨R, 2, none⟩ u2).setCell ⟨R, 3, none⟩ u3).setCell ⟨R, 4, none⟩ u4).frozen? ⟨R, 5, none⟩ = false) :=
  ⟨⟨h.cell 0 _ rfl, h.free 0⟩, ⟨(h.set 0 _).cell 1 _ rfl, (h.set 0 _).free 1⟩, ⟨((h.set 0 _).set 1 _).cell 2 _ rfl, ((h.set 0 _).set 1 _).free 2⟩, ⟨(((h.set 0 _).set 1 _).set 2 _).cell 3 _ rfl, (((h.set 0 _).set 1 _).set 2 _).free 3⟩,
    ⟨((((h.set 0 _).set 1 _).set 2 _).set 3 _).cell 4 _ rfl, ((((h.set 0 _).set 1 _).set 2 _).set 3 _).free 4⟩, ⟨(((((h.set 0 _).set 1 _).set 2 _).set 3 _).set 4 _).cell 5 _ rfl, (((((h.set 0 _).set 1 _).set 2 _).set 3 _).set 4 _).free 5⟩⟩
/-- a slice of texts stays where a block changes that holds no text -/
theorem SL.stay {W W' : World} {v : Value} {E : List (List UInt8)} (h : SL W v E) {R : Nat} {cs : Array Value} (hR : blk W R cs) (hc : ∀ (i : Nat) x, cs[i]? ≠ some (Value.string x)) (hk : ∀ k, k ≠ R → W'.heap[k]? = W.heap[k]?) (hz : W.heap.size ≤ W'.heap.size) : SL W' v E := by
  rcases h with h | ⟨b, off, c, hv, hlt, hcell⟩
  · exact .inl h
  · refine .inr ⟨b, off, c, hv, by omega, fun j hj => ?_⟩
    by_cases hb : b = R
    · subst hb
      obtain ⟨T, hT⟩ := hR
      have h1 := hcell j hj
      rw [cell_of_row W b (off + j) cs T _ hT] at h1
      exact absurd h1 (hc _ _)
    · rw [cell_same (hk b hb)]; exact hcell j hj

/-- what is handed back by read -/
def ReadPost (a b : List (List UInt8)) (w : World) (e : Ending) (w' : World) : Prop :=
  ∃ A1 c1 A2 c2, e = .returned (.tuple #[hdrV (!a.isEmpty) (amissB a) (.slice A1 (elemsL a).length c1) (!b.isEmpty) (amissB b) (.slice A2 (elemsL b).length c2), .int .i64 (endE a b)]) ∧
    SL w' (.slice A1 (elemsL a).length c1) (elemsL a) ∧ SL w' (.slice A2 (elemsL b).length c2) (elemsL b) ∧ Below w.heap.size w w'

set_option maxRecDepth 100000 in
set_option maxHeartbeats 2000000 in
theorem read_any (v : Value) (l : List Fld) (w : World) (he : Env w) (h : FL w v l) (hs : smallF l) (hl : l.length ≤ 1048576) :
    Calls Tryz.prog 109 #[v] w (ReadPost (valsL l clN) (valsL l teN) w) := by
  have hal : Below w.heap.size w (w.alloc (.cells #[.bool false, .bool false, .slice none 0 0, .bool false, .bool false, .slice none 0 0] 169)) := (Below.refl _ _).alloc (Nat.le_refl _) _
  have hrb := blk.new w #[.bool false, .bool false, .slice none 0 0, .bool false, .bool false, .slice none 0 0] 169
  have HL1 := fun W hb => listOf_any v l clN W ((h.bel hal).bel (w' := W) hb) hs hl (by decide) (vals_small hs clN)
  have HL2 := fun W hb => listOf_any v l teN W ((h.bel hal).bel (w' := W) hb) hs hl (by decide) (vals_small hs teN)
  have HS1 := Lib.hid (elems_small hs clN); have HS2 := Lib.hid (elems_small hs teN)
  have HF1 := Lib.hid (elems_few hl clN); have HF2 := Lib.hid (elems_few hl teN)
  have HEW : Hid (∀ W, Below (w.alloc (.cells #[.bool false, .bool false, .slice none 0 0, .bool false, .bool false, .slice none 0 0] 169)).heap.size (w.alloc (.cells #[.bool false, .bool false, .slice none 0 0, .bool false, .bool false, .slice none 0 0] 169)) W → Env W) :=
    fun W hb => (he.below hal (Nat.le_refl _)).below hb (Nat.le_refl _)
  have HRE := Lib.hid (read_eq (valsL l clN) (valsL l teN))
  have HL1 := Lib.hid HL1; have HL2 := Lib.hid HL2; have HAL := Lib.hid hal; have HRB := Lib.hid hrb
  rw [bs_cl.symm] at HL1; rw [bs_te.symm] at HL2
  clear hal hrb he h hs
  generalize valsL l clN = a at *
  generalize valsL l teN = b at *
  go_enter Tryz.func109, Tryz.ntmps109
  go_wp2_with fail
  generalize w.alloc (.cells #[.bool false, .bool false, .slice none 0 0, .bool false, .bool false, .slice none 0 0] 169) = w1 at *
  refine (HL1.out _ (Below.refl _ _)).mono ?_
  rintro e w2 ⟨v1, rfl, hv1, hb2⟩
  have HV1 := Lib.hid hv1; have HB2 := Lib.hid hb2; clear hv1 hb2
  unfold listV
  go_wp2_with fail
  refine (HL2.out _ HB2.out).mono ?_
  rintro e w3 ⟨v2, rfl, hv2, hb3⟩
  have HV1 := Lib.hid (HV1.out.bel hb3)
  have HB3 := Lib.hid (HB2.out.trans (hb3.mono HB2.out.size)); have HV2 := Lib.hid hv2; clear hv2 hb3 HB2
  obtain ⟨A1, c1, rfl⟩ := HV1.out.form
  obtain ⟨A2, c2, rfl⟩ := HV2.out.form
  unfold listV
  go_wp2_with fail
  have hal4 : Below w3.heap.size w3 (w3.alloc (.cells #[.bool (!a.isEmpty), .bool (amissB a), .slice A1 (elemsL a).length c1, .bool (!b.isEmpty), .bool (amissB b), .slice A2 (elemsL b).length c2] 169)) := (Below.refl _ _).alloc (Nat.le_refl _) _
  have HBK := Lib.hid (blk.new w3 #[.bool (!a.isEmpty), .bool (amissB a), .slice A1 (elemsL a).length c1, .bool (!b.isEmpty), .bool (amissB b), .slice A2 (elemsL b).length c2] 169)
  have HB4 := Lib.hid (HB3.out.trans (hal4.mono HB3.out.size)); have HV1 := Lib.hid (HV1.out.bel hal4); have HV2 := Lib.hid (HV2.out.bel hal4); have HBZ3 := Lib.hid HB3.out.size; clear hal4 HB3
  generalize hw4 : w3.alloc (.cells #[.bool (!a.isEmpty), .bool (amissB a), .slice A1 (elemsL a).length c1, .bool (!b.isEmpty), .bool (amissB b), .slice A2 (elemsL b).length c2] 169) = w4 at *
  have hsz : w3.heap.size < w4.heap.size := by rw [← hw4]; simp
  have HBZ : Hid (w1.heap.size ≤ w3.heap.size) := HBZ3.out
  clear hw4
  generalize w3.heap.size = B at *
  have hS : blk w4.drew B #[.bool (!a.isEmpty), .bool (amissB a), .slice A1 (elemsL a).length c1, .bool (!b.isEmpty), .bool (amissB b), .slice A2 (elemsL b).length c2] := HBK.out.keep rfl
  -- REGION 2
  refine wp_region_growS (.one 0 false (.one 1 false (.one 2 false (.one 3 false (.one 4 false (.one 5 false (.one 6 false (.one 7 true (.one 8 true (.one 9 true (.one 10 false .done)))))))))))
    (fun W => blk W B #[.bool (!a.isEmpty), .bool (amissB a), .slice A1 (elemsL a).length c1, .bool (!b.isEmpty), .bool (amissB b), .slice A2 (elemsL b).length c2]) (by kernel_rfl) (by kernel_rfl) rfl (by kernel_rfl) (by kernel_rfl) hS (fun ops hops => ?_)
  simp only [GT.ins, List.getD_cons_zero, List.getD_cons_succ]
  clear hops
  iterate 7
    refine growS_take (by rfl) ?_
    apply Exists.intro
    refine ⟨fun w' hE => ?_, ?_⟩
    · have q0 := hE.cell 0 (.bool (!a.isEmpty)) rfl; have q1 := hE.cell 1 (.bool (amissB a)) rfl; have q2 := hE.cell 2 (.slice A1 (elemsL a).length c1) rfl; have q3 := hE.cell 3 (.bool (!b.isEmpty)) rfl; have q4 := hE.cell 4 (.bool (amissB b)) rfl; have q5 := hE.cell 5 (.slice A2 (elemsL b).length c2) rfl; have hmf : ∀ (fn : Fn) (first cap : Array Value) (w : World), (Instr.makeFunc fn first cap).run Tryz.prog w = .ok (.func fn first cap) w := fun _ _ _ _ => rfl
      go_simp
      try with_reducible rfl
    simp only [Act.put, List.setIfInBounds_toArray, List.set_cons_zero, List.set_cons_succ]
  refine growS_call (by rfl) (fun K hK => ?_)
  go_simp
  have hd : Below w4.heap.size w4 (w4.alloc (.cells #[.func (.func 149) #[.agg #[.bool (!a.isEmpty), .bool (amissB a), .slice A1 (elemsL a).length c1, .bool (!b.isEmpty), .bool (amissB b), .slice A2 (elemsL b).length c2]] #[], .func (.func 150) #[.agg #[.bool (!a.isEmpty), .bool (amissB a), .slice A1 (elemsL a).length c1, .bool (!b.isEmpty), .bool (amissB b), .slice A2 (elemsL b).length c2]] #[], .func (.func 151) #[.agg #[.bool (!a.isEmpty), .bool (amissB a), .slice A1 (elemsL a).length c1, .bool (!b.isEmpty), .bool (amissB b), .slice A2 (elemsL b).length c2]] #[]] 162)).drew := drewB ((Below.refl _ _).alloc (Nat.le_refl _) _)
  have hn : blk (w4.alloc (.cells #[.func (.func 149) #[.agg #[.bool (!a.isEmpty), .bool (amissB a), .slice A1 (elemsL a).length c1, .bool (!b.isEmpty), .bool (amissB b), .slice A2 (elemsL b).length c2]] #[], .func (.func 150) #[.agg #[.bool (!a.isEmpty), .bool (amissB a), .slice A1 (elemsL a).length c1, .bool (!b.isEmpty), .bool (amissB b), .slice A2 (elemsL b).length c2]] #[], .func (.func 151) #[.agg #[.bool (!a.isEmpty), .bool (amissB a), .slice A1 (elemsL a).length c1, .bool (!b.isEmpty), .bool (amissB b), .slice A2 (elemsL b).length c2]] #[]] 162)).drew w4.heap.size #[.func (.func 149) #[.agg #[.bool (!a.isEmpty), .bool (amissB a), .slice A1 (elemsL a).length c1, .bool (!b.isEmpty), .bool (amissB b), .slice A2 (elemsL b).length c2]] #[], .func (.func 150) #[.agg #[.bool (!a.isEmpty), .bool (amissB a), .slice A1 (elemsL a).length c1, .bool (!b.isEmpty), .bool (amissB b), .slice A2 (elemsL b).length c2]] #[], .func (.func 151) #[.agg #[.bool (!a.isEmpty), .bool (amissB a), .slice A1 (elemsL a).length c1, .bool (!b.isEmpty), .bool (amissB b), .slice A2 (elemsL b).length c2]] #[]] := (blk.new w4 _ _).keep rfl
  refine hK.out _ _ (HBK.out.below hd) ?_
  clear hK K
  generalize (w4.alloc (.cells #[.func (.func 149) #[.agg #[.bool (!a.isEmpty), .bool (amissB a), .slice A1 (elemsL a).length c1, .bool (!b.isEmpty), .bool (amissB b), .slice A2 (elemsL b).length c2]] #[], .func (.func 150) #[.agg #[.bool (!a.isEmpty), .bool (amissB a), .slice A1 (elemsL a).length c1, .bool (!b.isEmpty), .bool (amissB b), .slice A2 (elemsL b).length c2]] #[], .func (.func 151) #[.agg #[.bool (!a.isEmpty), .bool (amissB a), .slice A1 (elemsL a).length c1, .bool (!b.isEmpty), .bool (amissB b), .slice A2 (elemsL b).length c2]] #[]] 162)).drew = w5 at *
  have HN := Lib.hid hn; have HD := Lib.hid hd; clear hn hd
  refine growS_call (by rfl) (fun K hK => ?_)
  go_simp
  have h8 := first_any (.agg #[.bool (!a.isEmpty), .bool (amissB a), .slice A1 (elemsL a).length c1, .bool (!b.isEmpty), .bool (amissB b), .slice A2 (elemsL b).length c2]) (singleE a b) (formedE a b) (agreedE a) w4.heap.size w5 HN.out
    (fun W hb => single_any _ _ _ _ _ _ _ _ _ _ W)
    (fun W hb => formed_any _ _ _ _ _ _ _ _ W ((HV1.out.bel HD.out).bel hb) ((HV2.out.bel HD.out).bel hb) HS1.out HS2.out HF1.out HF2.out)
    (fun W hb => agreed_any _ _ _ _ _ _ _ _ _ W (HEW.out _ ((HB4.out.trans (HD.out.mono HB4.out.size)).trans (hb.mono (HB4.out.trans (HD.out.mono HB4.out.size)).size))) ((HV1.out.bel HD.out).bel hb) HS1.out HF1.out)
  rw [show faultE (singleE a b) (formedE a b) (agreedE a) = endE a b from HRE.out] at h8
  refine h8.mono ?_
  rintro e w6 ⟨rfl, hb6⟩
  have HB46 := Lib.hid (HD.out.trans (hb6.mono HD.out.size))
  have HS6 := Lib.hid (HBK.out.below HB46.out)
  refine hK.out _ _ HS6.out ?_
  clear hK K h8 hb6
  have HR6 := Lib.hid (HRB.out.below (HB4.out.trans (HB46.out.mono HB4.out.size)))
  obtain ⟨⟨s0, z0⟩, ⟨s1, z1⟩, ⟨s2, z2⟩, ⟨s3, z3⟩, ⟨s4, z4⟩, ⟨s5, z5⟩⟩ := HR6.out.asks6 (.bool (!a.isEmpty)) (.bool (amissB a)) (.slice A1 (elemsL a).length c1) (.bool (!b.isEmpty)) (.bool (amissB b))
  refine growS_call (by rfl) (fun K hK => ?_)
  go_simp
  have hne : B ≠ w.heap.size := by
    have h1 := HRB.out.lt; have h2 := HBZ.out; omega
  refine hK.out _ _ ((((((HS6.out.other hne _).other hne _).other hne _).other hne _).other hne _).other hne _) ?_
  clear hK K
  iterate 1
    refine growS_take (by rfl) ?_
    apply Exists.intro
    refine ⟨fun w' hE => ?_, ?_⟩
    · have q0 := hE.cell 0 (.bool (!a.isEmpty)) rfl; have q1 := hE.cell 1 (.bool (amissB a)) rfl; have q2 := hE.cell 2 (.slice A1 (elemsL a).length c1) rfl; have q3 := hE.cell 3 (.bool (!b.isEmpty)) rfl; have q4 := hE.cell 4 (.bool (amissB b)) rfl; have q5 := hE.cell 5 (.slice A2 (elemsL b).length c2) rfl; have hmf : ∀ (fn : Fn) (first cap : Array Value) (w : World), (Instr.makeFunc fn first cap).run Tryz.prog w = .ok (.func fn first cap) w := fun _ _ _ _ => rfl
      go_simp
      try with_reducible rfl
    simp only [Act.put, List.setIfInBounds_toArray, List.set_cons_zero, List.set_cons_succ]
  refine growS_done (NoPanic.normal ?_)
  -- END
  have HP := Lib.hid (HR6.out.put6 (.bool (!a.isEmpty)) (.bool (amissB a)) (.slice A1 (elemsL a).length c1) (.bool (!b.isEmpty)) (.bool (amissB b)) (.slice A2 (elemsL b).length c2))
  have m0 := HP.out.cell 0 (.bool (!a.isEmpty)) rfl
  have m1 := HP.out.cell 1 (.bool (amissB a)) rfl
  have m2 := HP.out.cell 2 (.slice A1 (elemsL a).length c1) rfl
  have m3 := HP.out.cell 3 (.bool (!b.isEmpty)) rfl
  have m4 := HP.out.cell 4 (.bool (amissB b)) rfl
  have m5 := HP.out.cell 5 (.slice A2 (elemsL b).length c2) rfl
  have hno : ∀ (i : Nat) x, (#[.bool false, .bool false, .slice none 0 0, .bool false, .bool false, .slice none 0 0] : Array Value)[i]? ≠ some (Value.string x) := by
    intro i x
    rcases i with _ | _ | _ | _ | _ | _ | i <;> simp
  have hk6 := fun k (hk : k ≠ w.heap.size) => put6_other w6 w.heap.size (.bool (!a.isEmpty)) (.bool (amissB a)) (.slice A1 (elemsL a).length c1) (.bool (!b.isEmpty)) (.bool (amissB b)) (.slice A2 (elemsL b).length c2) hk
  have hz6 := Nat.le_of_eq (put6_size w6 w.heap.size (.bool (!a.isEmpty)) (.bool (amissB a)) (.slice A1 (elemsL a).length c1) (.bool (!b.isEmpty)) (.bool (amissB b)) (.slice A2 (elemsL b).length c2)).symm
  have HX1 := Lib.hid ((HV1.out.bel HB46.out).stay HR6.out hno hk6 hz6)
  have HX2 := Lib.hid ((HV2.out.bel HB46.out).stay HR6.out hno hk6 hz6)
  have HX3 := Lib.hid (put6_below (HAL.out.trans ((HB4.out.trans (HB46.out.mono HB4.out.size)).mono HAL.out.size)) (Nat.le_refl w.heap.size) (.bool (!a.isEmpty)) (.bool (amissB a)) (.slice A1 (elemsL a).length c1) (.bool (!b.isEmpty)) (.bool (amissB b)) (.slice A2 (elemsL b).length c2))
  unfold put6 at m0 m1 m2 m3 m4 m5
  clear hno hk6 hz6
  go_wp2_with fail
  exact bodyPost_ret (v := .tuple #[hdrV (!a.isEmpty) (amissB a) (.slice A1 (elemsL a).length c1) (!b.isEmpty) (amissB b) (.slice A2 (elemsL b).length c2), .int .i64 (endE a b)]) (by simp [results, Tryz.results109, go_sem, m0, m1, m2, m3, m4, m5, hdrV]) rfl ⟨A1, c1, A2, c2, rfl, HX1.out, HX2.out, HX3.out⟩
end Go.Proofs.YtgkjjmcjlobbpaaGreatDoor

/- Where a request's body ends, and a reply's: the framing layer's two functions. -/
namespace Go.Proofs.YtgkjjmcjlobbpaaGreatDoor
open Go.RowKit Go.Shelf

theorem frame_most {a b : List (List UInt8)} (h : endE a b = 0) (most other : Int) (hm : 0 ≤ most) : frameR (!a.isEmpty) (!b.isEmpty) (elemsL a) most other =
    if most < endN a b then (0, 0, 3) else if a.isEmpty && b.isEmpty then (other, 0, 0) else (endK a b, endN a b, 0) := by
  cases hb : b.isEmpty
  · obtain ⟨h1, h2, h3⟩ := end_one h hb
    rw [h1, h2, h3, if_neg (by omega)]; rfl
  · cases ha : a.isEmpty
    · obtain ⟨_, _, _, h4⟩ := end_len h ha
      have hk : endK a b = 1 := by unfold endK; rw [if_pos h, hb, ha]; rfl
      rw [hk, ← h4]
      unfold frameR headE
      simp
    · have hn : endN a b = 0 := by unfold endN; rw [if_neg (by rw [ha]; simp)]
      rw [hn, if_neg (by omega)]; rfl
theorem frame_ask {a b : List (List UInt8)} (h : endE a b = 0) : frameR (!a.isEmpty) (!b.isEmpty) (elemsL a) 65536 0 = askV a b := by
  rw [frame_most h _ _ (by decide)]
  unfold askV
  have hE : ¬ (endE a b ≠ 0) := by rw [h]; simp
  rw [if_neg hE]
  cases hb : b.isEmpty
  · simp
  · cases ha : a.isEmpty
    · simp
    · have hn : endN a b = 0 := by unfold endN; rw [if_neg (by rw [ha]; simp)]
      have hk : endK a b = 0 := by unfold endK; rw [if_pos h, hb, ha]; rfl
      rw [hn, hk]; rfl
theorem frame_tell {a b : List (List UInt8)} (h : endE a b = 0) (s : Int) (d : Bool) (hd : (d || bareB s) = false) : frameR (!a.isEmpty) (!b.isEmpty) (elemsL a) 262144 3 = tellV a b s d := by
  rw [frame_most h _ _ (by decide)]
  unfold tellV
  have hE : ¬ (endE a b ≠ 0) := by rw [h]; simp
  rw [if_neg hE, hd]
  rfl
theorem ask_err {a b : List (List UInt8)} (h : ¬ endE a b = 0) : askV a b = (0, 0, endE a b) := if_pos h
theorem tell_err {a b : List (List UInt8)} (h : ¬ endE a b = 0) (s : Int) (d : Bool) : tellV a b s d = (0, 0, endE a b) := if_pos h
theorem tell_bare {a b : List (List UInt8)} (h : endE a b = 0) (s : Int) (d : Bool) (hd : (d || bareB s) = true) : tellV a b s d = (0, 0, 0) := by
  unfold tellV
  have hE : ¬ (endE a b ≠ 0) := by rw [h]; simp
  rw [if_neg hE, hd]; rfl
/-- what a store into a block of two asks, and what it holds then -/
theorem blk.asks2 {W : World} {R : Nat} {z0 z1 : Value} (h : blk W R #[z0, z1]) (u0 u1 : Value) :
    (W.cell? ⟨R, 0, none⟩ = some z0 ∧ W.frozen? ⟨R, 0, none⟩ = false) ∧ ((W.setCell ⟨R, 0, none⟩ u0).cell? ⟨R, 1, none⟩ = some z1 ∧ (W.setCell ⟨R, 0, none⟩ u0).frozen? ⟨R, 1, none⟩ = false) ∧
    ((W.setCell ⟨R, 0, none⟩ u0).setCell ⟨R, 1, none⟩ u1).cell? ⟨R, 0, none⟩ = some u0 ∧ ((W.setCell ⟨R, 0, none⟩ u0).setCell ⟨R, 1, none⟩ u1).cell? ⟨R, 1, none⟩ = some u1 :=
  ⟨⟨h.cell 0 _ rfl, h.free 0⟩, ⟨(h.set 0 _).cell 1 _ rfl, (h.set 0 _).free 1⟩, (h.two _ _).cell 0 _ rfl, (h.two _ _).cell 1 _ rfl⟩
/-- a result's block ahead, something read, a header's block behind -/
theorem hdr_mem {w w2 : World} {o h : Obj} {cs : Array Value} {T : TypeId} (ho : o = .cells cs T) (hb : Below (w.alloc o).heap.size (w.alloc o) w2) : blk (w2.alloc h) w.heap.size cs ∧ Below w.heap.size w (w2.alloc h) ∧ Below w2.heap.size w2 (w2.alloc h) := by
  subst ho
  have hal : Below w.heap.size w (w.alloc (.cells cs T)) := (Below.refl _ _).alloc (Nat.le_refl _) _
  have h2 : Below w2.heap.size w2 (w2.alloc h) := (Below.refl _ _).alloc (Nat.le_refl _) _
  exact ⟨((blk.new w cs T).below hb).below h2, (hal.trans (hb.mono hal.size)).trans (h2.mono (hal.trans (hb.mono hal.size)).size), h2⟩

set_option maxRecDepth 100000 in
set_option maxHeartbeats 2000000 in
theorem frameAsk_any (v : Value) (l : List Fld) (w : World) (he : Env w) (h : FL w v l) (hs : smallF l) (hl : l.length ≤ 1048576) :
    Calls Tryz.prog 61 #[v] w fun e w' => e = .returned (ansV (askR l)) ∧ Below w.heap.size w w' := by
  have hal : Below w.heap.size w (w.alloc (.cells #[.int .i64 0, .int .i64 0] 116)) := (Below.refl _ _).alloc (Nat.le_refl _) _
  have hrd := read_any v l _ (he.below hal (Nat.le_refl _)) (h.bel hal) hs hl
  have HEW : Hid (∀ W, Below w.heap.size w W → Env W) := fun W hb => he.below hb (Nat.le_refl _)
  have HS1 := Lib.hid (elems_small hs clN)
  have HRD := Lib.hid hrd
  have hA : askR l = askV (valsL l clN) (valsL l teN) := rfl
  rw [hA]
  clear hal hrd he h hs hA
  generalize valsL l clN = a at *
  generalize valsL l teN = b at *
  go_enter Tryz.func61, Tryz.ntmps61
  go_wp2_with fail
  refine HRD.out.mono ?_
  rintro e w2 ⟨A1, c1, A2, c2, rfl, hv1, hv2, hb2⟩
  have HV1 := Lib.hid hv1; have HB2 := Lib.hid hb2; clear hv1 hv2 hb2 HRD
  unfold hdrV
  by_cases hz : endE a b = 0
  · have HZ := Lib.hid hz
    have hd : (endE a b != 0) = false := by rw [bne_eq_false_iff_eq]; exact hz
    clear hz
    go_wp2_with fail
    obtain ⟨h1, h2, h3⟩ := hdr_mem (h := .cells #[.bool (!a.isEmpty), .bool (amissB a), .slice A1 (elemsL a).length c1, .bool (!b.isEmpty), .bool (amissB b), .slice A2 (elemsL b).length c2] 169) rfl HB2.out
    have hfr := framing_any (!a.isEmpty) (amissB a) (!b.isEmpty) (amissB b) _ A2 (elemsL b).length c2 (elemsL a) 65536 0 _ (HEW.out _ h2) (HV1.out.bel h3) HS1.out (fun h _ => List.length_pos_iff.2 (end_len HZ.out (by simpa using h)).2.1)
    rw [frame_ask HZ.out] at hfr
    have H1 := Lib.hid h1; have H2 := Lib.hid h2; clear h1 h2 h3
    generalize w2.alloc (.cells #[.bool (!a.isEmpty), .bool (amissB a), .slice A1 (elemsL a).length c1, .bool (!b.isEmpty), .bool (amissB b), .slice A2 (elemsL b).length c2] 169) = w3 at *
    refine hfr.mono ?_
    rintro e w4 ⟨rfl, hb4⟩
    generalize hr : askV a b = r at *
    have HRR := Lib.hid hr; clear hr
    obtain ⟨r0, r1, r2⟩ := r
    unfold ansV
    obtain ⟨⟨s1, s2⟩, ⟨s3, s4⟩, m1, m2⟩ := (H1.out.below hb4).asks2 (.int .i64 r0) (.int .i64 r1)
    have HB4 := Lib.hid (((H2.out.trans (hb4.mono H2.out.size)).setCell (p := ⟨w.heap.size, 0, none⟩) (Nat.le_refl w.heap.size) (.int .i64 r0)).setCell (p := ⟨w.heap.size, 1, none⟩) (Nat.le_refl w.heap.size) (.int .i64 r1))
    clear hb4 hfr
    go_wp2_with fail
    exact bodyPost_ret (v := ansV (r0, r1, r2)) (by simp [results, Tryz.results61, go_sem, m1, m2, ansV]) rfl ⟨by rw [HRR.out], HB4.out⟩
  · have HZ := Lib.hid hz
    have hd : (endE a b != 0) = true := bne_iff_ne.2 hz
    obtain ⟨h1, h2, h3⟩ := hdr_mem (h := .cells #[.bool (!a.isEmpty), .bool (amissB a), .slice A1 (elemsL a).length c1, .bool (!b.isEmpty), .bool (amissB b), .slice A2 (elemsL b).length c2] 169) rfl HB2.out
    obtain ⟨⟨s1, s2⟩, ⟨s3, s4⟩, m1, m2⟩ := h1.asks2 (.int .i64 0) (.int .i64 0)
    have HB4 := Lib.hid ((h2.setCell (p := ⟨w.heap.size, 0, none⟩) (Nat.le_refl w.heap.size) (.int .i64 0)).setCell (p := ⟨w.heap.size, 1, none⟩) (Nat.le_refl w.heap.size) (.int .i64 0))
    clear hz h1 h2 h3
    go_wp2_with fail
    exact bodyPost_ret (v := ansV (0, 0, endE a b)) (by simp [results, Tryz.results61, go_sem, m1, m2, ansV]) rfl ⟨by rw [ask_err HZ.out], HB4.out⟩

set_option maxRecDepth 100000 in
set_option maxHeartbeats 2000000 in
theorem frameTell_any (v : Value) (l : List Fld) (n : Int) (d : Bool) (w : World) (he : Env w) (h : FL w v l) (hs : smallF l) (hl : l.length ≤ 1048576) :
    Calls Tryz.prog 70 #[v, .int .i64 n, .bool d] w fun e w' => e = .returned (ansV (tellR l n d)) ∧ Below w.heap.size w w' := by
  have hal : Below w.heap.size w (w.alloc (.cells #[.int .i64 0, .int .i64 0] 116)) := (Below.refl _ _).alloc (Nat.le_refl _) _
  have hrd := read_any v l _ (he.below hal (Nat.le_refl _)) (h.bel hal) hs hl
  have HEW : Hid (∀ W, Below w.heap.size w W → Env W) := fun W hb => he.below hb (Nat.le_refl _)
  have HS1 := Lib.hid (elems_small hs clN)
  have HRD := Lib.hid hrd
  have hA : tellR l n d = tellV (valsL l clN) (valsL l teN) n d := rfl
  rw [hA]
  clear hal hrd he h hs hA
  generalize valsL l clN = a at *
  generalize valsL l teN = b at *
  go_enter Tryz.func70, Tryz.ntmps70
  go_wp2_with fail
  refine HRD.out.mono ?_
  rintro e w2 ⟨A1, c1, A2, c2, rfl, hv1, hv2, hb2⟩
  have HV1 := Lib.hid hv1; have HB2 := Lib.hid hb2; clear hv1 hv2 hb2 HRD
  unfold hdrV
  by_cases hz : endE a b = 0
  · have HZ := Lib.hid hz
    have hd : (endE a b != 0) = false := by rw [bne_eq_false_iff_eq]; exact hz
    clear hz
    cases d
    · cases hq : bareB n
      · skip
        have HQ : Hid (bareB n = false) := hq
        clear hq
        go_wp2_with fail
        refine (bodiless_any n _).mono ?_
        rw [show bareB n = false from HQ.out]
        rintro e w' ⟨rfl, rfl⟩
        go_wp2_with fail
        obtain ⟨h1, h2, h3⟩ := hdr_mem (h := .cells #[.bool (!a.isEmpty), .bool (amissB a), .slice A1 (elemsL a).length c1, .bool (!b.isEmpty), .bool (amissB b), .slice A2 (elemsL b).length c2] 169) rfl HB2.out
        have hfr := framing_any (!a.isEmpty) (amissB a) (!b.isEmpty) (amissB b) _ A2 (elemsL b).length c2 (elemsL a) 262144 3 _ (HEW.out _ h2) (HV1.out.bel h3) HS1.out (fun h _ => List.length_pos_iff.2 (end_len HZ.out (by simpa using h)).2.1)
        rw [frame_tell HZ.out n false HQ.out] at hfr
        have H1 := Lib.hid h1; have H2 := Lib.hid h2; clear h1 h2 h3
        generalize w2.alloc (.cells #[.bool (!a.isEmpty), .bool (amissB a), .slice A1 (elemsL a).length c1, .bool (!b.isEmpty), .bool (amissB b), .slice A2 (elemsL b).length c2] 169) = w3 at *
        refine hfr.mono ?_
        rintro e w4 ⟨rfl, hb4⟩
        generalize hr : tellV a b n false = r at *
        have HRR := Lib.hid hr; clear hr
        obtain ⟨r0, r1, r2⟩ := r
        unfold ansV
        obtain ⟨⟨s1, s2⟩, ⟨s3, s4⟩, m1, m2⟩ := (H1.out.below hb4).asks2 (.int .i64 r0) (.int .i64 r1)
        have HB4 := Lib.hid (((H2.out.trans (hb4.mono H2.out.size)).setCell (p := ⟨w.heap.size, 0, none⟩) (Nat.le_refl w.heap.size) (.int .i64 r0)).setCell (p := ⟨w.heap.size, 1, none⟩) (Nat.le_refl w.heap.size) (.int .i64 r1))
        clear hb4 hfr
        go_wp2_with fail
        exact bodyPost_ret (v := ansV (r0, r1, r2)) (by simp [results, Tryz.results70, go_sem, m1, m2, ansV]) rfl ⟨by rw [HRR.out], HB4.out⟩
      · skip
        obtain ⟨h1, h2, h3⟩ := hdr_mem (h := .cells #[.bool (!a.isEmpty), .bool (amissB a), .slice A1 (elemsL a).length c1, .bool (!b.isEmpty), .bool (amissB b), .slice A2 (elemsL b).length c2] 169) rfl HB2.out
        have hb2 := (tell_bare HZ.out n false hq)
        have HTB := Lib.hid hb2
        obtain ⟨⟨s1, s2⟩, ⟨s3, s4⟩, m1, m2⟩ := h1.asks2 (.int .i64 0) (.int .i64 0)
        have HB4 := Lib.hid ((h2.setCell (p := ⟨w.heap.size, 0, none⟩) (Nat.le_refl w.heap.size) (.int .i64 0)).setCell (p := ⟨w.heap.size, 1, none⟩) (Nat.le_refl w.heap.size) (.int .i64 0))
        clear h1 h2 h3 hb2
        have HQ := Lib.hid hq
        clear hq
        go_wp2_with fail
        refine (bodiless_any n _).mono ?_
        rw [show bareB n = true from HQ.out]
        rintro e w' ⟨rfl, rfl⟩
        go_wp2_with fail
        exact bodyPost_ret (v := ansV (0, 0, 0)) (by simp [results, Tryz.results70, go_sem, m1, m2, ansV]) rfl ⟨by rw [HTB.out], HB4.out⟩
    · skip
      obtain ⟨h1, h2, h3⟩ := hdr_mem (h := .cells #[.bool (!a.isEmpty), .bool (amissB a), .slice A1 (elemsL a).length c1, .bool (!b.isEmpty), .bool (amissB b), .slice A2 (elemsL b).length c2] 169) rfl HB2.out
      have hb2 := (tell_bare HZ.out n true rfl)
      have HTB := Lib.hid hb2
      obtain ⟨⟨s1, s2⟩, ⟨s3, s4⟩, m1, m2⟩ := h1.asks2 (.int .i64 0) (.int .i64 0)
      have HB4 := Lib.hid ((h2.setCell (p := ⟨w.heap.size, 0, none⟩) (Nat.le_refl w.heap.size) (.int .i64 0)).setCell (p := ⟨w.heap.size, 1, none⟩) (Nat.le_refl w.heap.size) (.int .i64 0))
      clear h1 h2 h3 hb2
      go_wp2_with fail
      exact bodyPost_ret (v := ansV (0, 0, 0)) (by simp [results, Tryz.results70, go_sem, m1, m2, ansV]) rfl ⟨by rw [HTB.out], HB4.out⟩
  · have HZ := Lib.hid hz
    have hd : (endE a b != 0) = true := bne_iff_ne.2 hz
    obtain ⟨h1, h2, h3⟩ := hdr_mem (h := .cells #[.bool (!a.isEmpty), .bool (amissB a), .slice A1 (elemsL a).length c1, .bool (!b.isEmpty), .bool (amissB b), .slice A2 (elemsL b).length c2] 169) rfl HB2.out
    obtain ⟨⟨s1, s2⟩, ⟨s3, s4⟩, m1, m2⟩ := h1.asks2 (.int .i64 0) (.int .i64 0)
    have HB4 := Lib.hid ((h2.setCell (p := ⟨w.heap.size, 0, none⟩) (Nat.le_refl w.heap.size) (.int .i64 0)).setCell (p := ⟨w.heap.size, 1, none⟩) (Nat.le_refl w.heap.size) (.int .i64 0))
    clear hz h1 h2 h3
    go_wp2_with fail
    exact bodyPost_ret (v := ansV (0, 0, endE a b)) (by simp [results, Tryz.results70, go_sem, m1, m2, ansV]) rfl ⟨by rw [tell_err HZ.out], HB4.out⟩
end Go.Proofs.YtgkjjmcjlobbpaaGreatDoor
