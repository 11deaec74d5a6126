/- The framing layer's checks: whether each element is as it must be; single, formed. -/
import Derived.Test.YtnhkebbmgiokbaaDoorFramingB
import Derived.Shelf.Abstract
namespace Go.Proofs.YtnhkebbmgiokbaaDoor
open Go.RowKit Go.Shelf

theorem all_snocL {E : List (List UInt8)} {p : List UInt8 → Bool} {k : Nat} (h : k < E.length) (hp : (E.take k).all p = true) (hq : p E[k] = true) : (E.take (k + 1)).all p = true := by
  rw [List.take_succ_eq_append_getElem h, List.all_append, hp]; simp [hq]
theorem all_notL {E : List (List UInt8)} {p : List UInt8 → Bool} {k : Nat} (h : k < E.length) (hq : p E[k] = false) : E.all p = false := by
  rw [← Bool.not_eq_true, List.all_eq_true]
  intro H
  have := H E[k] (List.getElem_mem h)
  rw [hq] at this; cases this
/-- a function that tells of a text whether it is so -/
def Tells (f : FuncId) (p : List UInt8 → Bool) : Prop := ∀ (x : List UInt8) (w : World), x.length ≤ 4294967296 → Calls Tryd.prog f #[.string (bs x)] w fun e w' => e = .returned (.bool (p x)) ∧ Below w.heap.size w w'
def allE (E : List (List UInt8)) (y : Bool) (p : List UInt8 → Bool) : Bool := E.all p && (!y && decide (0 < E.length))
set_option maxRecDepth 100000 in
set_option maxHeartbeats 1000000 in
theorem all_any (f : FuncId) (p : List UInt8 → Bool) (he : ∀ args w, (callFunc f args).run Tryd.prog w = .ok (.enter f args) w) (hp : Tells f p) (x y : Bool) (v : Value) (E : List (List UInt8)) (w : World)
    (h : SL w v E) (hE : ∀ s ∈ E, s.length ≤ 4294967296) (hl : E.length ≤ 4294967296) :
    Calls Tryd.prog 49 #[.agg #[.bool x, .bool y, v], .func (.func f) #[] #[]] w fun e w' => e = .returned (.bool (allE E y p)) ∧ Below w.heap.size w w' := by
  obtain ⟨A, c, rfl⟩ := h.form
  have hal : Below w.heap.size w (w.alloc (.cells #[.bool x, .bool y, .slice A E.length c] 46)) := (Below.refl _ _).alloc (Nat.le_refl _) _
  have hbk := blk.new w #[.bool x, .bool y, .slice A E.length c] 46
  have hc0 := hbk.cell 2 (.slice A E.length c) rfl
  have HS := Lib.hid (h.bel hal); have HAL := Lib.hid hal; have HBK := Lib.hid hbk; have HE := Lib.hid hE; have HP := Lib.hid hp
  clear h hal hbk hE hp
  go_enter Tryd.func49, Tryd.ntmps49
  go_wp2_with fail
  clear hc0
  generalize w.alloc (.cells #[.bool x, .bool y, .slice A E.length c] 46) = w1 at *
  go_loopw [10] (fun i wr => ∃ k : Nat, k ≤ E.length ∧ i = .int .i64 k ∧ (E.take k).all p = true ∧ Below w1.heap.size w1 wr) (fun i _ => E.length - (intOf i).toNat)
  case atStart => exact ⟨0, Nat.zero_le _, rfl, rfl, Below.refl _ _⟩
  case round =>
    obtain ⟨k, hk, rfl, ht, hb⟩ := hrel
    have HT := Lib.hid ht; have HB := Lib.hid hb; clear ht hb
    by_cases hlt : k < E.length
    · obtain ⟨b, off, rfl, _, hc⟩ := (HS.out.bel HB.out).get k hlt
      have hf := HP.out E[k] wr (HE.out _ (List.getElem_mem hlt))
      cases hq : p E[k]
      · rw [hq] at hf
        have HR : Hid (allE E y p = false) := by show _ = _; unfold allE; rw [all_notL hlt hq]; rfl
        have HF := Lib.hid hf; clear hf hq
        go_wp2_with (go_at_fn f; refine HF.out.mono ?_; rintro e w2 ⟨rfl, hb2⟩; have HB2 := Lib.hid (HB.out.trans (hb2.mono HB.out.size)); clear hb2)
        go_ret
        exact ⟨ret_bool HR.out.symm, HAL.out.trans (HB2.out.mono HAL.out.size)⟩
      · rw [hq] at hf
        have HR := Lib.hid (all_snocL hlt HT.out hq)
        have HF := Lib.hid hf; clear hf hq
        go_wp2_with (go_at_fn f; refine HF.out.mono ?_; rintro e w2 ⟨rfl, hb2⟩; have HB2 := Lib.hid (HB.out.trans (hb2.mono HB.out.size)); clear hb2)
        go_roundw
        case rel => exact ⟨k + 1, by omega, by go_num, HR.out, HB2.out⟩
        case measure => simp [intOf]; omega
    · have HR : Hid (allE E y p = (!y && decide (0 < E.length))) := by
        have h := HT.out
        rw [List.take_of_length_le (by omega)] at h
        show _ = _; unfold allE; rw [h, Bool.true_and]
      have hb2 := HBK.out.below HB.out
      have hc1 := hb2.cell 1 (.bool y) rfl
      have hc2 := hb2.cell 2 (.slice A E.length c) rfl
      clear hb2
      cases y
      · go_wp2_with fail
        go_ret
        exact ⟨ret_bool (by rw [HR.out]; simp), HAL.out.trans (HB.out.mono HAL.out.size)⟩
      · go_wp2_with fail
        go_ret
        exact ⟨ret_bool (by rw [HR.out]; rfl), HAL.out.trans (HB.out.mono HAL.out.size)⟩

theorem e50 (args : Array Value) (w : World) : (callFunc 50 args).run Tryd.prog w = .ok (.enter 50 args) w := enters_of Tryd.func50 (by kernel_rfl) rfl args w
theorem e51 (args : Array Value) (w : World) : (callFunc 51 args).run Tryd.prog w = .ok (.enter 51 args) w := enters_of Tryd.func51 (by kernel_rfl) rfl args w
theorem tellsLength : Tells 50 lenB := fun x w h => (isLength_l x w h).mono fun _ _ h => ⟨h.1, by rw [← h.2]; exact Below.refl _ _⟩
theorem tellsChunked : Tells 51 chB := fun x w h => isChunked_l x w h

/-- what the fields say, as a value -/
def hdrV (x1 y1 : Bool) (v1 : Value) (x2 y2 : Bool) (v2 : Value) : Value := .agg #[.bool x1, .bool y1, v1, .bool x2, .bool y2, v2]
set_option maxRecDepth 100000 in
set_option maxHeartbeats 1000000 in
theorem single_any (x1 y1 x2 y2 : Bool) (A1 A2 : Option Addr) (n1 c1 n2 c2 : Nat) (w : World) :
    Calls Tryd.prog 32 #[hdrV x1 y1 (.slice A1 n1 c1) x2 y2 (.slice A2 n2 c2)] w fun e w' => e = .returned (.int .i64 (if x1 && x2 then 8 else 0)) ∧ Below w.heap.size w w' := by
  have hbk := blk.new w #[.bool x1, .bool y1, .slice A1 n1 c1, .bool x2, .bool y2, .slice A2 n2 c2] 48
  have hal : Below w.heap.size w (w.alloc (.cells #[.bool x1, .bool y1, .slice A1 n1 c1, .bool x2, .bool y2, .slice A2 n2 c2] 48)) := (Below.refl _ _).alloc (Nat.le_refl _) _
  have hc0 := hbk.cell 0 (.bool x1) rfl
  have hc3 := hbk.cell 3 (.bool x2) rfl
  have HAL := Lib.hid hal; clear hal hbk
  unfold hdrV
  cases x1 <;> cases x2
  all_goals
    go_enter Tryd.func32, Tryd.ntmps32
    go_wp2_with fail
    go_ret
    exact ⟨by simp, HAL.out⟩

set_option maxRecDepth 100000 in
set_option maxHeartbeats 2000000 in
theorem formed_any (x1 y1 x2 y2 : Bool) (v1 v2 : Value) (E1 E2 : List (List UInt8)) (w : World) (h1 : SL w v1 E1) (h2 : SL w v2 E2) (hE1 : ∀ s ∈ E1, s.length ≤ 4294967296) (hE2 : ∀ s ∈ E2, s.length ≤ 4294967296) (hl1 : E1.length ≤ 4294967296) (hl2 : E2.length ≤ 4294967296) :
    Calls Tryd.prog 33 #[hdrV x1 y1 v1 x2 y2 v2] w fun e w' =>
      e = .returned (.int .i64 (if (x1 && !allE E1 y1 lenB) || (x2 && !allE E2 y2 chB) then 4 else if 1 < E2.length then 4 else 0)) ∧ Below w.heap.size w w' := by
  obtain ⟨A1, c1, rfl⟩ := h1.form
  obtain ⟨A2, c2, rfl⟩ := h2.form
  have hbk := blk.new w #[.bool x1, .bool y1, .slice A1 E1.length c1, .bool x2, .bool y2, .slice A2 E2.length c2] 48
  have hal : Below w.heap.size w (w.alloc (.cells #[.bool x1, .bool y1, .slice A1 E1.length c1, .bool x2, .bool y2, .slice A2 E2.length c2] 48)) := (Below.refl _ _).alloc (Nat.le_refl _) _
  have HAL := Lib.hid hal; have H1 := Lib.hid (h1.bel hal); have H2 := Lib.hid (h2.bel hal); clear hal h1 h2
  have HBK := Lib.hid hbk; clear hbk
  have HW : Hid (w.alloc (.cells #[.bool x1, .bool y1, .slice A1 E1.length c1, .bool x2, .bool y2, .slice A2 E2.length c2] 48) = w.alloc (.cells #[.bool x1, .bool y1, .slice A1 E1.length c1, .bool x2, .bool y2, .slice A2 E2.length c2] 48)) := rfl
  have HA1 := fun W hb => all_any _ lenB e50 tellsLength x1 y1 _ E1 W (H1.out.bel hb) hE1 hl1
  have HA2 := fun W hb => all_any _ chB e51 tellsChunked x2 y2 _ E2 W (H2.out.bel hb) hE2 hl2
  have g0 := fun W hb => (HBK.out.below (w' := W) hb).cell 0 (.bool x1) rfl
  have g1 := fun W hb => (HBK.out.below (w' := W) hb).cell 1 (.bool y1) rfl
  have g2 := fun W hb => (HBK.out.below (w' := W) hb).cell 2 (.slice A1 E1.length c1) rfl
  have g3 := fun W hb => (HBK.out.below (w' := W) hb).cell 3 (.bool x2) rfl
  have g4 := fun W hb => (HBK.out.below (w' := W) hb).cell 4 (.bool y2) rfl
  have g5 := fun W hb => (HBK.out.below (w' := W) hb).cell 5 (.slice A2 E2.length c2) rfl
  generalize allE E1 y1 lenB = B1 at *
  generalize allE E2 y2 chB = B2 at *
  have HA1 := Lib.hid HA1; have HA2 := Lib.hid HA2
  have HG : Hid (∀ W, Below (w.alloc (.cells #[.bool x1, .bool y1, .slice A1 E1.length c1, .bool x2, .bool y2, .slice A2 E2.length c2] 48)).heap.size (w.alloc (.cells #[.bool x1, .bool y1, .slice A1 E1.length c1, .bool x2, .bool y2, .slice A2 E2.length c2] 48)) W →
      W.cell? ⟨w.heap.size, 0, none⟩ = some (.bool x1) ∧ W.cell? ⟨w.heap.size, 1, none⟩ = some (.bool y1) ∧ W.cell? ⟨w.heap.size, 2, none⟩ = some (.slice A1 E1.length c1) ∧
      W.cell? ⟨w.heap.size, 3, none⟩ = some (.bool x2) ∧ W.cell? ⟨w.heap.size, 4, none⟩ = some (.bool y2) ∧ W.cell? ⟨w.heap.size, 5, none⟩ = some (.slice A2 E2.length c2)) :=
    fun W hb => ⟨g0 W hb, g1 W hb, g2 W hb, g3 W hb, g4 W hb, g5 W hb⟩
  clear g0 g1 g2 g3 g4 g5 hE1 hE2 HW H1 H2 HBK
  obtain ⟨c0, c1', c2', c3, c4, c5⟩ := HG.out _ (Below.refl _ _)
  unfold hdrV
  cases x1
  · cases x2
    · clear HA1 HA2
      by_cases hn : 1 < (E2.length : Int)
      all_goals
        go_enter Tryd.func33, Tryd.ntmps33
        go_wp2_with fail
        go_ret
        exact ⟨by simp, HAL.out⟩
    · cases B2
      · clear HA1
        go_enter Tryd.func33, Tryd.ntmps33
        go_wp2_with fail
        refine (HA2.out _ (Below.refl _ _)).mono ?_
        rintro e w2 ⟨rfl, hb2⟩
        obtain ⟨d0, d1, d2, d3, d4, d5⟩ := HG.out _ hb2
        have HB2 := Lib.hid (HAL.out.trans (hb2.mono HAL.out.size))
        have HC2 := Lib.hid hb2
        clear hb2
        go_wp2_with fail
        go_ret
        exact ⟨rfl, HB2.out⟩
      · clear HA1
        by_cases hn : 1 < (E2.length : Int)
        all_goals
          go_enter Tryd.func33, Tryd.ntmps33
          go_wp2_with fail
          refine (HA2.out _ (Below.refl _ _)).mono ?_
          rintro e w2 ⟨rfl, hb2⟩
          obtain ⟨d0, d1, d2, d3, d4, d5⟩ := HG.out _ hb2
          have HB2 := Lib.hid (HAL.out.trans (hb2.mono HAL.out.size))
          have HC2 := Lib.hid hb2
          clear hb2
          go_wp2_with fail
          go_ret
          exact ⟨by simp, HB2.out⟩
  · cases B1
    · clear HA2
      go_enter Tryd.func33, Tryd.ntmps33
      go_wp2_with fail
      refine (HA1.out _ (Below.refl _ _)).mono ?_
      rintro e w2 ⟨rfl, hb2⟩
      obtain ⟨d0, d1, d2, d3, d4, d5⟩ := HG.out _ hb2
      have HB2 := Lib.hid (HAL.out.trans (hb2.mono HAL.out.size))
      have HC2 := Lib.hid hb2
      clear hb2
      go_wp2_with fail
      go_ret
      exact ⟨rfl, HB2.out⟩
    · cases x2
      · clear HA2
        by_cases hn : 1 < (E2.length : Int)
        all_goals
          go_enter Tryd.func33, Tryd.ntmps33
          go_wp2_with fail
          refine (HA1.out _ (Below.refl _ _)).mono ?_
          rintro e w2 ⟨rfl, hb2⟩
          obtain ⟨d0, d1, d2, d3, d4, d5⟩ := HG.out _ hb2
          have HB2 := Lib.hid (HAL.out.trans (hb2.mono HAL.out.size))
          have HC2 := Lib.hid hb2
          clear hb2
          go_wp2_with fail
          go_ret
          exact ⟨by simp, HB2.out⟩
      · cases B2
        · skip
          go_enter Tryd.func33, Tryd.ntmps33
          go_wp2_with fail
          refine (HA1.out _ (Below.refl _ _)).mono ?_
          rintro e w2 ⟨rfl, hb2⟩
          obtain ⟨d0, d1, d2, d3, d4, d5⟩ := HG.out _ hb2
          have HB2 := Lib.hid (HAL.out.trans (hb2.mono HAL.out.size))
          have HC2 := Lib.hid hb2
          clear hb2
          go_wp2_with fail
          refine (HA2.out _ HC2.out).mono ?_
          rintro e w3 ⟨rfl, hb3⟩
          obtain ⟨f0, f1, f2, f3, f4, f5⟩ := HG.out _ (HC2.out.trans (hb3.mono HC2.out.size))
          have HB3 := Lib.hid (HB2.out.trans (hb3.mono HB2.out.size))
          clear hb3
          go_wp2_with fail
          go_ret
          exact ⟨rfl, HB3.out⟩
        · skip
          by_cases hn : 1 < (E2.length : Int)
          all_goals
            go_enter Tryd.func33, Tryd.ntmps33
            go_wp2_with fail
            refine (HA1.out _ (Below.refl _ _)).mono ?_
            rintro e w2 ⟨rfl, hb2⟩
            obtain ⟨d0, d1, d2, d3, d4, d5⟩ := HG.out _ hb2
            have HB2 := Lib.hid (HAL.out.trans (hb2.mono HAL.out.size))
            have HC2 := Lib.hid hb2
            clear hb2
            go_wp2_with fail
            refine (HA2.out _ HC2.out).mono ?_
            rintro e w3 ⟨rfl, hb3⟩
            obtain ⟨f0, f1, f2, f3, f4, f5⟩ := HG.out _ (HC2.out.trans (hb3.mono HC2.out.size))
            have HB3 := Lib.hid (HB2.out.trans (hb3.mono HB2.out.size))
            clear hb3
            go_wp2_with fail
            go_ret
            exact ⟨by simp, HB3.out⟩
end Go.Proofs.YtnhkebbmgiokbaaDoor
