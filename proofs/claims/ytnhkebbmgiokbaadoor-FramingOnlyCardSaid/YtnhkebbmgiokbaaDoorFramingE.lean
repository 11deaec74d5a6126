/- The framing layer's first fault of three checks; what a body's end is once there is no fault. -/
import Derived.Test.YtnhkebbmgiokbaaDoorFramingD
namespace Go.Proofs.YtnhkebbmgiokbaaDoor
open Go.RowKit Go.Shelf

/-- a check of the header H that answers n, in every world behind w -/
def Chk (w : World) (f : FuncId) (H : Value) (n : Int) : Prop := ∀ W, Below w.heap.size w W → Calls Tryd.prog f #[H] W fun e w' => e = .returned (.int .i64 n) ∧ Below W.heap.size W w'
def faultE (s f g : Int) : Int := if s ≠ 0 then s else if f ≠ 0 then f else g
set_option maxRecDepth 100000 in
set_option maxHeartbeats 1000000 in
theorem first_any (H : Value) (s f g : Int) (b : Nat) (w : World) (hb : blk w b #[.func (.func 32) #[H] #[], .func (.func 33) #[H] #[], .func (.func 34) #[H] #[]])
    (h1 : Chk w 32 H s) (h2 : Chk w 33 H f) (h3 : Chk w 34 H g) :
    Calls Tryd.prog 31 #[.slice (some ⟨b, 0, none⟩) 3 3] w fun e w' => e = .returned (.int .i64 (faultE s f g)) ∧ Below w.heap.size w w' := by
  have HBK := Lib.hid hb; have H1 := Lib.hid h1; have H2 := Lib.hid h2; have H3 := Lib.hid h3; clear hb h1 h2 h3
  go_enter Tryd.func31, Tryd.ntmps31
  go_wp2_with fail
  go_loopw [8] (fun i wr => ∃ k : Nat, k ≤ 3 ∧ i = .int .i64 k ∧ Hid ((0 < k → s = 0) ∧ (1 < k → f = 0) ∧ (2 < k → g = 0)) ∧ Below w.heap.size w wr) (fun i _ => 3 - (intOf i).toNat)
  case atStart => exact ⟨0, by omega, rfl, ⟨by omega, by omega, by omega⟩, Below.refl _ _⟩
  case round =>
    obtain ⟨k, hk, rfl, HT, hb⟩ := hrel
    have HB := Lib.hid hb
    have c0 := (HBK.out.below hb).cell 0 (.func (.func 32) #[H] #[]) rfl
    have c1 := (HBK.out.below hb).cell 1 (.func (.func 33) #[H] #[]) rfl
    have c2 := (HBK.out.below hb).cell 2 (.func (.func 34) #[H] #[]) rfl
    clear hb
    obtain rfl | rfl | rfl | rfl : k = 0 ∨ k = 1 ∨ k = 2 ∨ k = 3 := by omega
    · by_cases hq : s = 0
      · have HQ := Lib.hid hq
        go_wp2_with fail
        refine (H1.out _ HB.out).mono ?_
        rw [HQ.out]
        rintro e w2 ⟨rfl, hb2⟩
        have HB2 := Lib.hid (HB.out.trans (hb2.mono HB.out.size)); clear hb2
        go_wp2_with fail
        go_roundw
        case rel => exact ⟨1, by omega, by go_num, ⟨fun _ => HQ.out, by omega, by omega⟩, HB2.out⟩
        case measure => simp [intOf]
      · have HR : Hid (faultE s f g = s) := if_pos hq
        have hd : (s != 0) = true := bne_iff_ne.2 hq
        go_wp2_with fail
        refine (H1.out _ HB.out).mono ?_
        rintro e w2 ⟨rfl, hb2⟩
        have HB2 := Lib.hid (HB.out.trans (hb2.mono HB.out.size)); clear hb2
        go_wp2_with fail
        go_ret
        exact ⟨by rw [HR.out]; rfl, HB2.out⟩
    · by_cases hq : f = 0
      · have HQ := Lib.hid hq
        go_wp2_with fail
        refine (H2.out _ HB.out).mono ?_
        rw [HQ.out]
        rintro e w2 ⟨rfl, hb2⟩
        have HB2 := Lib.hid (HB.out.trans (hb2.mono HB.out.size)); clear hb2
        go_wp2_with fail
        go_roundw
        case rel => exact ⟨2, by omega, by go_num, ⟨fun _ => HT.out.1 (by omega), fun _ => HQ.out, by omega⟩, HB2.out⟩
        case measure => simp [intOf]
      · have HR : Hid (faultE s f g = f) := by show _ = _; unfold faultE; rw [if_neg (by have := HT.out.1 (by omega); omega), if_pos hq]
        have hd : (f != 0) = true := bne_iff_ne.2 hq
        go_wp2_with fail
        refine (H2.out _ HB.out).mono ?_
        rintro e w2 ⟨rfl, hb2⟩
        have HB2 := Lib.hid (HB.out.trans (hb2.mono HB.out.size)); clear hb2
        go_wp2_with fail
        go_ret
        exact ⟨by rw [HR.out]; rfl, HB2.out⟩
    · have HR : Hid (faultE s f g = g) := by show _ = _; unfold faultE; rw [if_neg (by have := HT.out.1 (by omega); omega), if_neg (by have := HT.out.2.1 (by omega); omega)]
      by_cases hq : g = 0
      · have HQ := Lib.hid hq
        go_wp2_with fail
        refine (H3.out _ HB.out).mono ?_
        rw [HQ.out]
        rintro e w2 ⟨rfl, hb2⟩
        have HB2 := Lib.hid (HB.out.trans (hb2.mono HB.out.size)); clear hb2
        go_wp2_with fail
        go_roundw
        case rel => exact ⟨3, by omega, by go_num, ⟨fun _ => HT.out.1 (by omega), fun _ => HT.out.2.1 (by omega), fun _ => HQ.out⟩, HB2.out⟩
        case measure => simp [intOf]
      · have hd : (g != 0) = true := bne_iff_ne.2 hq
        go_wp2_with fail
        refine (H3.out _ HB.out).mono ?_
        rintro e w2 ⟨rfl, hb2⟩
        have HB2 := Lib.hid (HB.out.trans (hb2.mono HB.out.size)); clear hb2
        go_wp2_with fail
        go_ret
        exact ⟨by rw [HR.out]; rfl, HB2.out⟩
    · have HR : Hid (faultE s f g = 0) := by
        obtain ⟨t1, t2, t3⟩ := HT.out
        show _ = _
        unfold faultE
        rw [t1 (by omega), t2 (by omega), t3 (by omega)]; rfl
      go_wp2_with fail
      go_ret
      exact ⟨by rw [HR.out]; rfl, HB.out⟩

/-- an answer's value -/
def ansV (r : Int × Int × Int) : Value := .tuple #[.agg #[.int .i64 r.1, .int .i64 r.2.1], .int .i64 r.2.2]
/-- a block of two numbers, handed back beside a third -/
theorem blk.two {w : World} {b : Nat} {x y : Value} (h : blk w b #[x, y]) (x' y' : Value) : blk ((w.setCell ⟨b, 0, none⟩ x').setCell ⟨b, 1, none⟩ y') b #[x', y'] := by
  simpa using (h.set 0 x').set 1 y'
def frameR (x1 x2 : Bool) (E : List (List UInt8)) (most other : Int) : Int × Int × Int :=
  if x2 then (2, 0, 0) else if !x1 then (other, 0, 0) else if most < numV (E.headD []) then (0, 0, 3) else (1, numV (E.headD []), 0)
set_option maxRecDepth 100000 in
set_option maxHeartbeats 2000000 in
theorem framing_any (x1 y1 x2 y2 : Bool) (v1 : Value) (A2 : Option Addr) (n2 c2 : Nat) (E : List (List UInt8)) (most other : Int) (w : World) (he : Env w) (h1 : SL w v1 E) (hE : ∀ s ∈ E, s.length ≤ 4294967296) (hx : x1 = true → x2 = false → 0 < E.length) :
    Calls Tryd.prog 19 #[hdrV x1 y1 v1 x2 y2 (.slice A2 n2 c2), .int .i64 most, .int .i64 other] w fun e w' => e = .returned (ansV (frameR x1 x2 E most other)) ∧ Below w.heap.size w w' := by
  obtain ⟨A, c, rfl⟩ := h1.form
  have hbk := (blk.new w #[.bool x1, .bool y1, .slice A E.length c, .bool x2, .bool y2, .slice A2 n2 c2] 48).alloc (.cells #[.int .i64 0, .int .i64 0] 26)
  have hal : Below w.heap.size w ((w.alloc (.cells #[.bool x1, .bool y1, .slice A E.length c, .bool x2, .bool y2, .slice A2 n2 c2] 48)).alloc (.cells #[.int .i64 0, .int .i64 0] 26)) := ((Below.refl _ _).alloc (Nat.le_refl _) _).alloc (by simp) _
  have hr := blk.new (w.alloc (.cells #[.bool x1, .bool y1, .slice A E.length c, .bool x2, .bool y2, .slice A2 n2 c2] 48)) #[.int .i64 0, .int .i64 0] 26
  rw [World.size_alloc] at hr
  have he1 := he.below hal (Nat.le_refl _)
  have h11 := h1.bel hal
  have c0 := hbk.cell 0 (.bool x1) rfl
  have c2' := hbk.cell 2 (.slice A E.length c) rfl
  have c3 := hbk.cell 3 (.bool x2) rfl
  have HAL := Lib.hid hal; have HR := Lib.hid hr; have HE1 := Lib.hid he1; have H1 := Lib.hid h11; have HE := Lib.hid hE
  clear hbk hal hr he1 h11 he h1 hE
  unfold hdrV
  have stored : ∀ (W : World) (n k : Int), blk W (w.heap.size + 1) #[.int .i64 0, .int .i64 0] → W.cell? ⟨w.heap.size + 1, 0, none⟩ = some (.int .i64 0) ∧ W.frozen? ⟨w.heap.size + 1, 0, none⟩ = false ∧
      (W.setCell ⟨w.heap.size + 1, 0, none⟩ (.int .i64 n)).cell? ⟨w.heap.size + 1, 1, none⟩ = some (.int .i64 0) ∧ (W.setCell ⟨w.heap.size + 1, 0, none⟩ (.int .i64 n)).frozen? ⟨w.heap.size + 1, 1, none⟩ = false ∧
      ((W.setCell ⟨w.heap.size + 1, 0, none⟩ (.int .i64 n)).setCell ⟨w.heap.size + 1, 1, none⟩ (.int .i64 k)).cell? ⟨w.heap.size + 1, 0, none⟩ = some (.int .i64 n) ∧
      ((W.setCell ⟨w.heap.size + 1, 0, none⟩ (.int .i64 n)).setCell ⟨w.heap.size + 1, 1, none⟩ (.int .i64 k)).cell? ⟨w.heap.size + 1, 1, none⟩ = some (.int .i64 k) := fun W n k h =>
    ⟨h.cell 0 _ rfl, h.free 0, (h.set 0 _).cell 1 _ rfl, (h.set 0 _).free 1, (h.two _ _).cell 0 _ rfl, (h.two _ _).cell 1 _ rfl⟩
  have HST := Lib.hid stored; clear stored
  cases x2
  · cases x1
    · go_enter Tryd.func19, Tryd.ntmps19
      go_wp2_with fail
      exact bodyPost_ret (v := ansV (other, 0, 0)) (by simp [results, Tryd.results19, go_sem, ansV]) rfl ⟨rfl, ((Below.refl _ _).alloc (Nat.le_refl _) _).alloc (by simp) _⟩
    · have hl0 := hx rfl rfl
      obtain ⟨b, off, rfl, hbb, hc0⟩ := H1.out.get 0 hl0
      have hd : E.headD [] = E[0] := by cases E with | nil => simp at hl0 | cons x r => rfl
      have hX := HE.out _ (List.getElem_mem hl0)
      have HF : Hid (∀ q : Prop, (most < numV E[0]) = q → frameR true false E most other = @ite _ q (Classical.propDecidable q) ((0, 0, 3) : Int × Int × Int) (1, numV E[0], 0)) := by
        rintro q rfl
        unfold frameR
        simp only [Bool.false_eq_true, if_false, Bool.not_true, hd]
        split <;> rfl
      rw [Nat.add_zero] at hc0
      generalize E[0] = x at *
      have HX := Lib.hid hX
      clear hX hd hx
      have HC := Lib.hid HAL.out
      go_enter Tryd.func19, Tryd.ntmps19
      go_wp2_with fail
      refine (number_any x _ HE1.out HX.out).mono ?_
      rintro e w2 ⟨rfl, hb2⟩
      have HR2 := Lib.hid (HR.out.below hb2)
      have HB2 := Lib.hid (HAL.out.trans (hb2.mono HAL.out.size))
      clear hb2 c0 c2' c3 hc0
      by_cases hq : most < numV x
      · have HQ : Hid (frameR true false E most other = (0, 0, 3)) := (HF.out _ rfl).trans (if_pos hq)
        obtain ⟨s1, s2, s3, s4, m1, m2⟩ := HST.out _ 0 0 HR2.out
        go_wp2_with fail
        exact bodyPost_ret (v := ansV (0, 0, 3)) (by simp [results, Tryd.results19, go_sem, m1, m2, ansV]) rfl ⟨by rw [HQ.out], (HB2.out.setCell (by simp) _).setCell (by simp) _⟩
      · have HQ : Hid (frameR true false E most other = (1, numV x, 0)) := (HF.out _ rfl).trans (if_neg hq)
        obtain ⟨s1, s2, s3, s4, m1, m2⟩ := HST.out _ 1 (numV x) HR2.out
        go_wp2_with fail
        exact bodyPost_ret (v := ansV (1, numV x, 0)) (by simp [results, Tryd.results19, go_sem, m1, m2, ansV]) rfl ⟨by rw [HQ.out], (HB2.out.setCell (by simp) _).setCell (by simp) _⟩
  · go_enter Tryd.func19, Tryd.ntmps19
    go_wp2_with fail
    exact bodyPost_ret (v := ansV (2, 0, 0)) (by simp [results, Tryd.results19, go_sem, ansV]) rfl ⟨by cases x1 <;> rfl, ((Below.refl _ _).alloc (Nat.le_refl _) _).alloc (by simp) _⟩
end Go.Proofs.YtnhkebbmgiokbaaDoor
