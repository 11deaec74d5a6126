/- Controls in memory; words and ages; the four rules, and the closure that goes through them: the surctl layer's Of. -/
import Derived.Test.YtfobjaccpnondaaGreatDoorKDirE
import Derived.Test.YtfobjaccpnondaaGreatDoorKOpen
import Derived.Test.YtfobjaccpnondaaGreatDoorKSurA
import Derived.Test.YtfobjaccpnondaaGreatDoorKSurD
import Derived.Test.YtfobjaccpnondaaGreatDoorKTick
import Derived.Laws.EntriesVeiled
namespace Go.Proofs.YtfobjaccpnondaaGreatDoor
open Go.RowKit Go.Shelf

theorem grown_set1 (w : World) (b j : Nat) (v : Value) : w.grownBy (w.setCell ⟨b, j, none⟩ v) (some b) :=
  ⟨rfl, rfl, rfl, by simp [World.setCell], fun k _ hk => Below.heap_setCell _ _ _ _ (by simpa using hk)⟩
theorem grown_trans1 {a b c : World} {r : Option Nat} (h : a.grownBy b r) (k : b.grownBy c r) : a.grownBy c r :=
  ⟨k.os.trans h.os, k.tape.trans h.tape, k.output.trans h.output, Nat.le_trans h.size k.size, fun i hi hr => (k.block i (Nat.lt_of_lt_of_le hi h.size) hr).trans (h.block i hi hr)⟩
theorem grown_bel1 {a b : World} (h : Below a.heap.size a b) (r : Option Nat) : a.grownBy b r := ⟨h.os, h.tape, h.output, h.size, fun k hk _ => h.block k hk⟩
/-- a control's cells -/
def ctA (c : Ctl) : Array Value := #[.bool c.1, .bool c.2.1, .bool c.2.2.1, .bool c.2.2.2.1, .int .i64 c.2.2.2.2.1, .int .i64 c.2.2.2.2.2]
theorem dbk.asks6 {w : World} {b : Nat} {c : Ctl} (h : dbk w b (ctA c)) (u0 u1 u2 u3 u4 : Value) : w.cell? ⟨b, 0, none⟩ = some (.bool c.1) ∧ w.frozen? ⟨b, 0, none⟩ = false ∧ (w.setCell ⟨b, 0, none⟩ u0).cell? ⟨b, 1, none⟩ = some (.bool c.2.1) ∧ (w.setCell ⟨b, 0, none⟩ u0).frozen? ⟨b, 1, none⟩ = false ∧ ((w.setCell ⟨b, 0, none⟩ u0).setCell ⟨b, 1, none⟩ u1).cell? ⟨b, 2, none⟩ = some (.bool c.2.2.1) ∧ ((w.setCell ⟨b, 0, none⟩ u0).setCell ⟨b, 1, none⟩ u1).frozen? ⟨b, 2, none⟩ = false ∧ (((w.setCell ⟨b, 0, none⟩ u0).setCell ⟨b, 1, none⟩ u1).setCell ⟨b, 2, none⟩ u2).cell? ⟨b, 3, none⟩ = some (.bool c.2.2.2.1) ∧ (((w.setCell ⟨b, 0, none⟩ u0).setCell ⟨b, 1, none⟩ u1).setCell ⟨b, 2, none⟩ u2).frozen? ⟨b, 3, none⟩ = false ∧ ((((w.setCell ⟨b, 0, none⟩ u0).setCell ⟨b, 1, none⟩ u1).setCell ⟨b, 2, none⟩ u2).setCell ⟨b, 3, none⟩ u3).cell? ⟨b, 4, none⟩ = some (.int .i64 c.2.2.2.2.1) ∧ ((((w.setCell ⟨b, 0, none⟩ u0).setCell ⟨b, 1, none⟩ u1).setCell ⟨b, 2, none⟩ u2).setCell ⟨b, 3, none⟩ u3).frozen? ⟨b, 4, none⟩ = false ∧ (((((w.setCell ⟨b, 0, none⟩ u0).setCell ⟨b, 1, none⟩ u1).setCell ⟨b, 2, none⟩ u2).setCell ⟨b, 3, none⟩ u3).setCell ⟨b, 4, none⟩ u4).cell? ⟨b, 5, none⟩ = some (.int .i64 c.2.2.2.2.2) ∧ (((((w.setCell ⟨b, 0, none⟩ u0).setCell ⟨b, 1, none⟩ u1).setCell ⟨b, 2, none⟩ u2).setCell ⟨b, 3, none⟩ u3).setCell ⟨b, 4, none⟩ u4).frozen? ⟨b, 5, none⟩ = false :=
  ⟨h.cell 0 _ rfl, h.free 0, (h.set 0 u0).cell 1 _ rfl, (h.set 0 u0).free 1, ((h.set 0 u0).set 1 u1).cell 2 _ rfl, ((h.set 0 u0).set 1 u1).free 2, (((h.set 0 u0).set 1 u1).set 2 u2).cell 3 _ rfl, (((h.set 0 u0).set 1 u1).set 2 u2).free 3, ((((h.set 0 u0).set 1 u1).set 2 u2).set 3 u3).cell 4 _ rfl, ((((h.set 0 u0).set 1 u1).set 2 u2).set 3 u3).free 4, (((((h.set 0 u0).set 1 u1).set 2 u2).set 3 u3).set 4 u4).cell 5 _ rfl, (((((h.set 0 u0).set 1 u1).set 2 u2).set 3 u3).set 4 u4).free 5⟩
theorem dbk.six {w : World} {b : Nat} {c : Ctl} (h : dbk w b (ctA c)) : w.cell? ⟨b, 0, none⟩ = some (.bool c.1) ∧ w.cell? ⟨b, 1, none⟩ = some (.bool c.2.1) ∧ w.cell? ⟨b, 2, none⟩ = some (.bool c.2.2.1) ∧ w.cell? ⟨b, 3, none⟩ = some (.bool c.2.2.2.1) ∧ w.cell? ⟨b, 4, none⟩ = some (.int .i64 c.2.2.2.2.1) ∧ w.cell? ⟨b, 5, none⟩ = some (.int .i64 c.2.2.2.2.2) :=
  ⟨h.cell 0 _ rfl, h.cell 1 _ rfl, h.cell 2 _ rfl, h.cell 3 _ rfl, h.cell 4 _ rfl, h.cell 5 _ rfl⟩
/-- all six cells of a block are stored into -/
def putC (w : World) (b : Nat) (c : Ctl) : World := ((((((w.setCell ⟨b, 0, none⟩ (.bool c.1)).setCell ⟨b, 1, none⟩ (.bool c.2.1)).setCell ⟨b, 2, none⟩ (.bool c.2.2.1)).setCell ⟨b, 3, none⟩ (.bool c.2.2.2.1)).setCell ⟨b, 4, none⟩ (.int .i64 c.2.2.2.2.1)).setCell ⟨b, 5, none⟩ (.int .i64 c.2.2.2.2.2))
theorem dbk.putc {w : World} {b : Nat} {c0 : Ctl} (h : dbk w b (ctA c0)) (c : Ctl) : dbk (putC w b c) b (ctA c) := by
  have := (((((h.set 0 (.bool c.1)).set 1 (.bool c.2.1)).set 2 (.bool c.2.2.1)).set 3 (.bool c.2.2.2.1)).set 4 (.int .i64 c.2.2.2.2.1)).set 5 (.int .i64 c.2.2.2.2.2)
  simpa [ctA, putC] using this
theorem putC_below {B : Nat} {a w : World} {b : Nat} (h : Below B a w) (hb : B ≤ b) (c : Ctl) : Below B a (putC w b c) :=
  (((((h.setCell (p := ⟨b, 0, none⟩) hb _).setCell (p := ⟨b, 1, none⟩) hb _).setCell (p := ⟨b, 2, none⟩) hb _).setCell (p := ⟨b, 3, none⟩) hb _).setCell (p := ⟨b, 4, none⟩) hb _).setCell (p := ⟨b, 5, none⟩) hb _
theorem putC_other {w : World} {b b2 : Nat} (hne : b2 ≠ b) (c : Ctl) : (putC w b c).heap[b2]? = w.heap[b2]? := by
  unfold putC
  rw [Below.heap_setCell _ _ _ _ (by simpa using hne), Below.heap_setCell _ _ _ _ (by simpa using hne), Below.heap_setCell _ _ _ _ (by simpa using hne), Below.heap_setCell _ _ _ _ (by simpa using hne), Below.heap_setCell _ _ _ _ (by simpa using hne), Below.heap_setCell _ _ _ _ (by simpa using hne)]

/-! Words. -/
theorem wblank_any (x : Nat) (w : World) :
    Calls Tryz.prog 163 #[.int .i32 (x : Int)] w fun e w' => e = .returned (.bool (isBlk x)) ∧ w' = w := by
  have hd : isBlk x = ((x : Int) == 32 || (x : Int) == 9) := by
    unfold isBlk
    rw [Bool.eq_iff_iff, Bool.or_eq_true, Bool.or_eq_true, beq_iff_eq, beq_iff_eq, beq_iff_eq, beq_iff_eq]
    omega
  rw [hd]
  generalize (x : Int) = n
  clear hd
  cases h1 : n == 32
  · cases h2 : n == 9
    · go_enter Tryz.func163, Tryz.ntmps163
      go_wp2_with fail
      go_ret
      exact ⟨rfl, rfl⟩
    · go_enter Tryz.func163, Tryz.ntmps163
      go_wp2_with fail
      go_ret
      exact ⟨rfl, rfl⟩
  · go_enter Tryz.func163, Tryz.ntmps163
    go_wp2_with fail
    go_ret
    exact ⟨rfl, rfl⟩
theorem words_any (s : ByteArray) (w : World) (hs : s.size ≤ 4294967200) :
    Calls Tryz.prog 126 #[.string s] w fun e w' => ∃ A, e = .returned (.slice (some ⟨A, 0, none⟩) (Lib.goFieldsP isBlk s).length (Lib.goFieldsP isBlk s).length) ∧
      (∀ j, j < (Lib.goFieldsP isBlk s).length → w'.cell? ⟨A, 0 + j, none⟩ = some (.string ((Lib.goFieldsP isBlk s).getD j ByteArray.empty))) ∧ Below w.heap.size w w' ∧ (Lib.goFieldsP isBlk s).length ≤ 9223372036854775807 := by
  have hf : ∀ W, Calls Tryz.prog 75 #[.string s, .func (.func 163) #[] #[]] W fun e w' => ∃ A, e = .returned (.slice (some ⟨A, 0, none⟩) (Lib.goFieldsP isBlk s).length (Lib.goFieldsP isBlk s).length) ∧
      (∀ j, j < (Lib.goFieldsP isBlk s).length → w'.cell? ⟨A, 0 + j, none⟩ = some (.string ((Lib.goFieldsP isBlk s).getD j ByteArray.empty))) ∧ Below W.heap.size W w' ∧ (Lib.goFieldsP isBlk s).length ≤ 9223372036854775807 := fun W => by
    refine (Tryz.strings_FieldsFunc_runes 163 #[] (enters_of Tryz.func163 (by kernel_rfl) rfl) isBlk s W (by omega) ?_).mono ?_
    · intro W' x _ _
      show Calls _ _ _ _ _
      refine (wblank_any x W').mono ?_
      rintro e w' ⟨rfl, rfl⟩
      exact ⟨rfl, 0, rfl⟩
    · rintro e w' ⟨A, rfl, _, ho, hb⟩
      have hbig : (Lib.goFieldsP isBlk s).length ≤ 9223372036854775807 := by
        rcases ho.2 with ⟨e, _⟩ | ⟨g, cap, cur, _, _, _, h1, h2, _⟩
        · simp at e
        · have h3 : maxLen = 9223372036854775807 := rfl
          omega
      refine ⟨A, rfl, fun j hj => ?_, hb, hbig⟩
      rw [Nat.zero_add, World.ownsRow.cellAt ho j (by omega)]
      simp [hj]
  have HF := Lib.hid hf; clear hf
  generalize Lib.goFieldsP isBlk s = Z at *
  go_enter Tryz.func126, Tryz.ntmps126
  go_wp2_with fail
  refine (HF.out _).mono ?_
  rintro e w1 ⟨A, rfl, hc, hb, hbig⟩
  have HC := Lib.hid hc; have HB := Lib.hid hb; have HBIG := Lib.hid hbig; clear hc hb hbig
  go_wp2_with fail
  go_ret
  exact ⟨_, rfl, HC.out, HB.out, HBIG.out⟩

/-! Ages. -/
set_option maxRecDepth 100000 in
set_option maxHeartbeats 2000000 in
theorem ages_any (s : List UInt8) (w : World) (hm : MaxD w) (hs : s.length ≤ 4294967200) :
    Calls Tryz.prog 128 #[.string (bs s)] w fun e w' => e = .returned (.tuple #[.int .i64 (agesP s).1, .int .i64 (agesP s).2]) ∧ Below w.heap.size w w' := by
  have hle := cut_le s [43]
  have HC := Lib.hid (cutD_any s [43] w hm (by omega))
  unfold agesP
  generalize Lib.cut s [43] = C at *
  obtain ⟨a, b, t⟩ := C
  simp only at hle HC ⊢
  have d1 := fun W => delta_any (bs a) W (by rw [bs_size]; unfold maxLen; omega)
  have d2 := fun W => delta_any (bs b) W (by rw [bs_size]; unfold maxLen; omega)
  rw [bs_data] at d1 d2
  generalize delI a = x at *
  generalize delI b = y at *
  have D1 := Lib.hid d1; have D2 := Lib.hid d2
  clear d1 d2 hle hm
  cases hA : isDel a
  · rw [hA] at D1
    clear hA D2
    simp only [Bool.false_eq_true, if_false]
    go_enter Tryz.func128, Tryz.ntmps128
    go_wp2_with fail
    refine HC.out.mono ?_
    rintro e w1 ⟨rfl, hb⟩
    have HB := Lib.hid hb; clear hb
    go_wp2_with fail
    refine (D1.out _).mono ?_
    rintro e w2 ⟨rfl, rfl⟩
    go_wp2_with fail
    go_ret2
    exact ⟨rfl, HB.out⟩
  · rw [hA] at D1
    simp only [if_true]
    cases t
    · clear hA D2
      simp only [Bool.false_eq_true, if_false]
      go_enter Tryz.func128, Tryz.ntmps128
      go_wp2_with fail
      refine HC.out.mono ?_
      rintro e w1 ⟨rfl, hb⟩
      have HB := Lib.hid hb; clear hb
      go_wp2_with fail
      refine (D1.out _).mono ?_
      rintro e w2 ⟨rfl, rfl⟩
      go_wp2_with fail
      go_ret2
      exact ⟨rfl, HB.out⟩
    · simp only [if_true]
      cases hB : isDel b
      · rw [hB] at D2
        clear hA hB
        simp only [Bool.false_eq_true, if_false]
        go_enter Tryz.func128, Tryz.ntmps128
        go_wp2_with fail
        refine HC.out.mono ?_
        rintro e w1 ⟨rfl, hb⟩
        have HB := Lib.hid hb; clear hb
        go_wp2_with fail
        refine (D1.out _).mono ?_
        rintro e w2 ⟨rfl, rfl⟩
        go_wp2_with fail
        refine (D2.out _).mono ?_
        rintro e w2 ⟨rfl, rfl⟩
        go_wp2_with fail
        go_ret2
        exact ⟨rfl, HB.out⟩
      · rw [hB] at D2
        clear hA hB
        simp only [if_true]
        go_enter Tryz.func128, Tryz.ntmps128
        go_wp2_with fail
        refine HC.out.mono ?_
        rintro e w1 ⟨rfl, hb⟩
        have HB := Lib.hid hb; clear hb
        go_wp2_with fail
        refine (D1.out _).mono ?_
        rintro e w2 ⟨rfl, rfl⟩
        go_wp2_with fail
        refine (D2.out _).mono ?_
        rintro e w2 ⟨rfl, rfl⟩
        go_wp2_with fail
        go_ret2
        exact ⟨rfl, HB.out⟩

/-! The rules. -/
/-- what a rule's function does to a control -/
def Ruling (f : FuncId) (up : Ctl → List UInt8 → Ctl) : Prop := ∀ (b : Nat) (c : Ctl) (v : List UInt8) (w : World), dbk w b (ctA c) → MaxD w → v.length ≤ 4294967200 →
  Calls Tryz.prog f #[.pointer (some ⟨b, 0, none⟩), .string (bs v)] w fun e w' => e = .returned (.tuple #[]) ∧ dbk w' b (ctA (up c v)) ∧ w.grownBy w' (some b)
set_option maxRecDepth 100000 in
theorem rule1 : Ruling 122 fun c _ => (true, c.2) := by
  intro b c v w h _ _
  have c0 := h.cell 0 _ rfl
  have f0 := h.free 0
  have hq : dbk (w.setCell ⟨b, 0, none⟩ (.bool true)) b (ctA (true, c.2)) := by simpa [ctA] using h.set 0 (.bool true)
  have HQ := Lib.hid hq; clear hq h
  go_enter Tryz.func122, Tryz.ntmps122
  go_wp2_with fail
  go_end0
  exact ⟨rfl, HQ.out, grown_set1 _ _ _ _⟩
set_option maxRecDepth 100000 in
theorem rule2 : Ruling 123 fun c _ => (c.1, true, c.2.2) := by
  intro b c v w h _ _
  have c0 := h.cell 1 _ rfl
  have f0 := h.free 1
  have hq : dbk (w.setCell ⟨b, 1, none⟩ (.bool true)) b (ctA (c.1, true, c.2.2)) := by simpa [ctA] using h.set 1 (.bool true)
  have HQ := Lib.hid hq; clear hq h
  go_enter Tryz.func123, Tryz.ntmps123
  go_wp2_with fail
  go_end0
  exact ⟨rfl, HQ.out, grown_set1 _ _ _ _⟩
set_option maxRecDepth 100000 in
set_option maxHeartbeats 1000000 in
theorem rule3 : Ruling 124 fun c v => (c.1, c.2.1, esiB v, c.2.2.2) := by
  intro b c v w h _ hv
  show Calls _ _ _ _ (fun e w' => e = .returned (.tuple #[]) ∧ dbk w' b (ctA (c.1, c.2.1, esiB v, c.2.2.2)) ∧ w.grownBy w' (some b))
  have HW := Lib.hid (words_any (bs v) w (by rw [bs_size]; exact hv))
  have hcw := contains_words (bs v) (w := esiN) (by decide)
  rw [bs_data] at hcw
  have hce : Lib.containsS (Lib.goFieldsP isBlk (bs v)) (bs esiN) = esiB v := hcw
  generalize esiB v = x at *
  generalize Lib.goFieldsP isBlk (bs v) = Z at *
  have HCE := Lib.hid hce
  have HD := Lib.hid h
  clear hcw hce h hv
  go_enter Tryz.func124, Tryz.ntmps124
  go_wp2_with fail
  refine HW.out.mono ?_
  rintro e w1 ⟨A, rfl, hc, hb, hbig⟩
  have hcon := Tryz.slices_Contains_string A 0 Z.length Z.length Z (bs esiN) w1 (Nat.le_refl _) hbig hc
  rw [List.take_of_length_le (Nat.le_refl _), HCE.out] at hcon
  have HCON := Lib.hid hcon
  have HD1 := Lib.hid (HD.out.below hb)
  have HG := Lib.hid (grown_bel1 hb (some b))
  clear hc hb hbig hcon HD
  have hlit : (⟨#[69, 83, 73, 47, 49, 46, 48]⟩ : ByteArray) = bs esiN := rfl
  go_wp2_with fail
  refine HCON.out.mono ?_
  rintro e w2 ⟨rfl, rfl⟩
  have c0 := HD1.out.cell 2 _ rfl
  have f0 := HD1.out.free 2
  have hq : dbk (w2.setCell ⟨b, 2, none⟩ (.bool x)) b (ctA (c.1, c.2.1, x, c.2.2.2)) := by simpa [ctA] using HD1.out.set 2 (.bool x)
  have HQ := Lib.hid hq; clear hq
  go_wp2_with fail
  go_end0
  exact ⟨rfl, HQ.out, grown_trans1 HG.out (grown_set1 _ _ _ _)⟩
set_option maxRecDepth 100000 in
set_option maxHeartbeats 1000000 in
theorem rule4 : Ruling 127 fun c v => (c.1, c.2.1, c.2.2.1, true, (agesP v).1, (agesP v).2) := by
  intro b c v w h hm hv
  show Calls _ _ _ _ (fun e w' => e = .returned (.tuple #[]) ∧ dbk w' b (ctA (c.1, c.2.1, c.2.2.1, true, (agesP v).1, (agesP v).2)) ∧ w.grownBy w' (some b))
  have HA := Lib.hid (fun W (h : MaxD W) => ages_any v W h hv)
  generalize agesP v = R at *
  obtain ⟨x, y⟩ := R
  simp only at HA ⊢
  have hlt := h.lt
  have c0 := h.cell 3 _ rfl
  have f0 := h.free 3
  have hq : dbk (w.setCell ⟨b, 3, none⟩ (.bool true)) b (ctA (c.1, c.2.1, c.2.2.1, true, c.2.2.2.2)) := by simpa [ctA] using h.set 3 (.bool true)
  have hm1 : MaxD (w.setCell ⟨b, 3, none⟩ (.bool true)) := by
    obtain ⟨m, hm⟩ := hm
    by_cases hb : b = 5
    · subst hb
      refine ⟨m, ?_⟩
      rw [← hm]
      exact World.cell?_setCell_other _ _ _ _ (by simp)
    · exact ⟨m, (World.cell?_of_block (Below.heap_setCell _ _ _ _ (fun e => hb e.symm))).trans hm⟩
  have HQ := Lib.hid hq; have HM1 := Lib.hid hm1
  clear hq hm1 h hm hv hlt
  go_enter Tryz.func127, Tryz.ntmps127
  go_wp2_with fail
  refine (HA.out _ HM1.out).mono ?_
  rintro e w1 ⟨rfl, hb⟩
  have hd1 := HQ.out.below hb
  have hg := grown_trans1 (grown_set1 w b 3 (.bool true)) (grown_bel1 hb (some b))
  have c1 := hd1.cell 4 _ rfl
  have f1 := hd1.free 4
  have c2 := (hd1.set 4 (.int .i64 x)).cell 5 _ rfl
  have f2 := (hd1.set 4 (.int .i64 x)).free 5
  have hq2 : dbk ((w1.setCell ⟨b, 4, none⟩ (.int .i64 x)).setCell ⟨b, 5, none⟩ (.int .i64 y)) b (ctA (c.1, c.2.1, c.2.2.1, true, x, y)) := by simpa [ctA] using (hd1.set 4 (.int .i64 x)).set 5 (.int .i64 y)
  have HQ2 := Lib.hid hq2
  have HG2 := Lib.hid (grown_trans1 (grown_trans1 hg (grown_set1 w1 b 4 (.int .i64 x))) (grown_set1 _ b 5 (.int .i64 y)))
  clear hb hd1 hg hq2 c0 f0 HQ
  go_wp2_with fail
  go_end0
  exact ⟨rfl, HQ2.out, HG2.out⟩
end Go.Proofs.YtfobjaccpnondaaGreatDoor

/- The closure that goes through the rules; the surctl layer's Of. -/
namespace Go.Proofs.YtfobjaccpnondaaGreatDoor
open Go.RowKit Go.Shelf

/-- the rules' cells -/
def rulesA : Array Value := #[.string (bs nosN), .func (.func 122) #[] #[], .string (bs remN), .func (.func 123) #[] #[], .string (bs conN), .func (.func 124) #[] #[], .string (bs maxN), .func (.func 127) #[] #[]]
theorem rule_at (k : Nat) (hk : k < rulesL.length) : ∃ (n : List UInt8) (f : FuncId), rulesA[k * 2]? = some (.string (bs n)) ∧ rulesA[k * 2 + 1]? = some (.func (.func f) #[] #[]) ∧ n.length ≤ 20 ∧ rulesL[k].1 = n ∧ Ruling f rulesL[k].2 ∧
    (∀ args w, (callFunc f args).run Tryz.prog w = .ok (.enter f args) w) := by
  have h4 : k < 4 := hk
  rcases (by omega : k = 0 ∨ k = 1 ∨ k = 2 ∨ k = 3) with rfl | rfl | rfl | rfl
  · exact ⟨nosN, 122, rfl, rfl, by decide, rfl, rule1, enters_of Tryz.func122 (by kernel_rfl) rfl⟩
  · exact ⟨remN, 123, rfl, rfl, by decide, rfl, rule2, enters_of Tryz.func123 (by kernel_rfl) rfl⟩
  · exact ⟨conN, 124, rfl, rfl, by decide, rfl, rule3, enters_of Tryz.func124 (by kernel_rfl) rfl⟩
  · exact ⟨maxN, 127, rfl, rfl, by decide, rfl, rule4, enters_of Tryz.func127 (by kernel_rfl) rfl⟩
theorem srules_any (w : World) :
    Calls Tryz.prog 80 #[] w fun e w' => e = .returned (.slice (some ⟨w.heap.size, 0, none⟩) 4 4) ∧ w' = w.alloc (.cells rulesA 159) := by
  go_enter Tryz.func80, Tryz.ntmps80
  go_wp2_with fail
  go_ret
  exact ⟨rfl, rfl⟩
theorem sreader_any (rs : Nat) (w : World) :
    Calls Tryz.prog 79 #[.slice (some ⟨rs, 0, none⟩) 4 4] w fun e w' => e = .returned (.func (.func 121) #[] #[.pointer (some ⟨w.heap.size, 0, none⟩)]) ∧ w' = w.alloc (.cells #[.slice (some ⟨rs, 0, none⟩) 4 4] 110) := by
  go_enter Tryz.func79, Tryz.ntmps79
  go_wp2_with fail
  go_ret
  exact ⟨rfl, rfl⟩
theorem res6_new (w : World) : dbk (w.alloc (.cells #[.bool false, .bool false, .bool false, .bool false, .int .i64 0, .int .i64 0] 70)) w.heap.size (ctA ctl0) := dbk.new w _ _
theorem findD_mem {l : List Dv} {n : List UInt8} {d : Dv} (h : findD l n = some d) : d ∈ l := List.mem_of_find?_eq_some h

set_option maxRecDepth 100000 in
set_option maxHeartbeats 4000000 in
theorem reader1_any (v : Value) (l : List Dv) (rb rs : Nat) (w : World) (hm : MaxD w) (hv : DL w v l) (hl : ∀ j (hj : j < l.length), DvW l[j]) (hz : ∀ d ∈ l, d.2.1.length ≤ 4294967200) (hlow : ∀ d ∈ l, lower d.1 = d.1) (hlen : l.length ≤ 4294967295)
    (h1 : dbk w rb #[.slice (some ⟨rs, 0, none⟩) 4 4]) (h2 : dbk w rs rulesA) :
    Calls Tryz.prog 121 #[v, .pointer (some ⟨rb, 0, none⟩)] w fun e w' => e = .returned (.agg (ctA (ctlOf l))) ∧ Below w.heap.size w w' := by
  obtain ⟨A, c, rfl⟩ := hv.form
  have HALL := Lib.hid (run_all hlow)
  have hal1 : Below w.heap.size w (w.alloc (.cells #[.bool false, .bool false, .bool false, .bool false, .int .i64 0, .int .i64 0] 70)) := (Below.refl _ _).alloc (Nat.le_refl _) _
  have hal : Below w.heap.size w ((w.alloc (.cells #[.bool false, .bool false, .bool false, .bool false, .int .i64 0, .int .i64 0] 70)).alloc (.cells #[.bool false, .bool false, .bool false, .bool false, .int .i64 0, .int .i64 0] 70)) := hal1.alloc hal1.size _
  have hr1 := (res6_new w).alloc (.cells #[.bool false, .bool false, .bool false, .bool false, .int .i64 0, .int .i64 0] 70)
  have hr2 := res6_new (w.alloc (.cells #[.bool false, .bool false, .bool false, .bool false, .int .i64 0, .int .i64 0] 70))
  rw [World.size_alloc] at hr2
  have k0 := (h1.below hal).cell 0 _ rfl
  have HM := Lib.hid hm; have HV := Lib.hid hv; have HL := Lib.hid hl; have HZ := Lib.hid hz; have H2 := Lib.hid h2; have HAL := Lib.hid hal; have HR1 := Lib.hid hr1; have HR2 := Lib.hid hr2
  clear hm hv hl hz hlow h1 h2 hal1 hal hr1 hr2
  go_enter Tryz.func121, Tryz.ntmps121
  go_wp2_with fail
  clear k0
  go_loopw [11] (fun i wr => ∃ k : Nat, k ≤ 4 ∧ i = .int .i64 k ∧ dbk wr w.heap.size (ctA ctl0) ∧ dbk wr (w.heap.size + 1) (ctA (runR l k)) ∧ Below w.heap.size w wr) (fun i _ => 4 - (intOf i).toNat)
  case atStart => exact ⟨0, Nat.zero_le _, rfl, HR1.out, HR2.out, HAL.out⟩
  case round =>
    obtain ⟨k, hk, rfl, ha, hc, hb⟩ := hrel
    have HA := Lib.hid ha; have HC := Lib.hid hc; have HB := Lib.hid hb
    clear ha hc hb HR1 HR2 HAL
    by_cases hlt : k < 4
    · obtain ⟨n, f, e0, e1, en, en2, er, he⟩ := rule_at k hlt
      have q0 := (H2.out.below HB.out).cell _ _ e0
      have q1 := (H2.out.below HB.out).cell _ _ e1
      have hst := runR_step l k hlt
      have hru : ruled l (runR l k) rulesL[k] = match findD l n with | some d => rulesL[k].2 (runR l k) d.2.1 | none => runR l k := by unfold ruled; rw [en2]; cases findD l n <;> rfl
      rw [hru] at hst
      generalize rulesL[k].2 = up at *
      generalize runR l k = cc at *
      have hx : Below wr.heap.size wr (wr.alloc (.cells #[.string (bs n), .func (.func f) #[] #[]] 159)) := (Below.refl _ _).alloc (Nat.le_refl _) _
      have hd := dbk.new wr #[.string (bs n), .func (.func f) #[] #[]] 159
      have p0 := hd.cell 0 _ rfl
      have p1 := hd.cell 1 _ rfl
      have hfd := findD_any _ l n (wr.alloc (.cells #[.string (bs n), .func (.func f) #[] #[]] 159)) ((HV.out.bel HB.out).bel hx) HL.out (by omega) (by omega)
      have HST := Lib.hid hst; have HER := Lib.hid er; have HD := Lib.hid hd; have HX := Lib.hid hx; have HFD := Lib.hid hfd
      clear e0 e1 en en2 er hst hru hx hd hfd
      cases hf : findD l n with
      | none =>
        have hr2 : RetR (wr.alloc (.cells #[.string (bs n), .func (.func f) #[] #[]] 159)) none = fun e w' => e = .returned (.tuple #[.agg #[.string ⟨#[]⟩, .string ⟨#[]⟩, .bool false, .string ⟨#[]⟩], .bool false]) ∧ Below (wr.alloc (.cells #[.string (bs n), .func (.func f) #[] #[]] 159)).heap.size (wr.alloc (.cells #[.string (bs n), .func (.func f) #[] #[]] 159)) w' := rfl
        rw [hf, hr2] at HFD
        rw [hf] at HST
        have HST2 : Hid (runR l (k + 1) = cc) := HST.out
        clear hr2 hf HST
        go_wp2_with fail
        refine HFD.out.mono ?_
        rintro e w2 ⟨rfl, hb2⟩
        have hq : Below w2.heap.size w2 (w2.alloc (.cells #[.string ⟨#[]⟩, .string ⟨#[]⟩, .bool false, .string ⟨#[]⟩] 79)) := (Below.refl _ _).alloc (Nat.le_refl _) _
        have hb3 := HX.out.trans ((hb2.trans (hq.mono hb2.size)).mono HX.out.size)
        have HB3 := Lib.hid (HB.out.trans (hb3.mono HB.out.size))
        have HA3 := Lib.hid (HA.out.below hb3); have HC3 := Lib.hid (HC.out.below hb3)
        clear hb2 hq hb3 HFD p0 p1 q0 q1 HD
        go_wp2_with fail
        go_roundw
        case rel => exact ⟨k + 1, by omega, by go_num, HA3.out, by rw [HST2.out]; exact HC3.out, HB3.out⟩
        case measure => simp [intOf]; omega
      | some d =>
        have hr2 : RetR (wr.alloc (.cells #[.string (bs n), .func (.func f) #[] #[]] 159)) (some d) = fun e w' => e = .returned (.tuple #[.agg #[.string (bs d.1), .string (bs d.2.1), .bool d.2.2.1, .string (bs d.2.2.2)], .bool true]) ∧ Below (wr.alloc (.cells #[.string (bs n), .func (.func f) #[] #[]] 159)).heap.size (wr.alloc (.cells #[.string (bs n), .func (.func f) #[] #[]] 159)) w' := rfl
        rw [hf, hr2] at HFD
        rw [hf] at HST
        have HST2 : Hid (runR l (k + 1) = up cc d.2.1) := HST.out
        have HDZ := Lib.hid (HZ.out d (findD_mem hf))
        clear hr2 hf HST
        go_wp2_with fail
        refine HFD.out.mono ?_
        rintro e w2 ⟨rfl, hb2⟩
        have hdx : dbk (w2.alloc (.cells #[.string (bs d.1), .string (bs d.2.1), .bool d.2.2.1, .string (bs d.2.2.2)] 79)) w2.heap.size (dvA d) := dbk.new w2 _ _
        obtain ⟨r0, r1, r2, r3⟩ := hdx.four
        have hq : Below w2.heap.size w2 (w2.alloc (.cells #[.string (bs d.1), .string (bs d.2.1), .bool d.2.2.1, .string (bs d.2.2.2)] 79)) := (Below.refl _ _).alloc (Nat.le_refl _) _
        have hb4 := hb2.trans (hq.mono hb2.size)
        have hb3 := HX.out.trans (hb4.mono HX.out.size)
        have s0 := (HD.out.below hb4).cell 0 _ rfl
        have s1 := (HD.out.below hb4).cell 1 _ rfl
        have HB3 := Lib.hid (HB.out.trans (hb3.mono HB.out.size))
        have HA3 := Lib.hid (HA.out.below hb3); have HC3 := Lib.hid (HC.out.below hb3)
        have HCALL := Lib.hid (HER.out (w.heap.size + 1) cc d.2.1 _ HC3.out (HM.out.bel HB3.out) HDZ.out)
        clear hb2 hq hb3 hb4 HFD p0 p1 q0 q1 HD hdx
        go_wp2_with (go_at_fn f; refine HCALL.out.mono ?_; rintro e w3 ⟨rfl, hc3, hg3⟩; have HC4 := Lib.hid hc3; have HB4 := Lib.hid (HB3.out.grown hg3 HB3.out.size (fun k hk => by cases hk; exact Nat.le_succ _)); have HA4 := Lib.hid (HA3.out.keep (hg3.block _ HA3.out.lt (by simp))); clear hc3 hg3)
        go_roundw
        case rel => exact ⟨k + 1, by omega, by go_num, HA4.out, by rw [HST2.out]; exact HC4.out, HB4.out⟩
        case measure => simp [intOf]; omega
    · obtain rfl : k = 4 := by omega
      obtain ⟨cc, hcc⟩ : ∃ cc, cc = ctlOf l := ⟨_, rfl⟩
      rw [HALL.out, ← hcc] at HC
      have HCC := Lib.hid hcc
      clear hcc
      obtain ⟨c0, c1, c2, c3, c4, c5⟩ := HC.out.six
      obtain ⟨a0, b0, a1, b1, a2, b2, a3, b3, a4, b4, a5, b5⟩ := HA.out.asks6 (.bool cc.1) (.bool cc.2.1) (.bool cc.2.2.1) (.bool cc.2.2.2.1) (.int .i64 cc.2.2.2.2.1)
      obtain ⟨g0, g1, g2, g3, g4, g5⟩ := (HA.out.putc cc).six
      have hq := putC_below (b := w.heap.size) HB.out (Nat.le_refl _) cc
      simp only [putC, ctl0] at a0 a1 a2 a3 a4 a5 b0 b1 b2 b3 b4 b5 g0 g1 g2 g3 g4 g5 hq
      have HQ := Lib.hid hq; have HG := Lib.hid (And.intro g0 (And.intro g1 (And.intro g2 (And.intro g3 (And.intro g4 g5))))); clear hq g0 g1 g2 g3 g4 g5
      go_wp2_with fail
      obtain ⟨g0, g1, g2, g3, g4, g5⟩ := HG.out
      refine bodyPost_ret (v := .agg (ctA cc)) (by simp [results, Tryz.results121, go_sem, ctA, g0, g1, g2, g3, g4, g5]) rfl ?_
      exact ⟨by rw [← HCC.out], HQ.out⟩

set_option maxRecDepth 100000 in
set_option maxHeartbeats 4000000 in
theorem sof_wide (v : Value) (L : List (List UInt8)) (dev : List UInt8) (w : World) (hm : MaxD w) (hv : SL w v L) (hs : ∀ x ∈ L, x.length ≤ 7000) (hl : L.length ≤ 100000) :
    Calls Tryz.prog 33 #[v, .string (bs dev)] w fun e w' => e = .returned (.agg (ctA (ofC L dev))) ∧ Below w.heap.size w w' := by
  have hat : ∀ d ∈ listS L, DvN 7000 d := fun d hd => listS_at hs hd
  have hnm : ∀ d ∈ listS L, lower d.1 = d.1 := fun d hd => listS_name hd
  have hln := listS_len L
  have hmd : mineS (listS L) dev = mineS (listS L) dev := rfl
  have hoc : ofC L dev = ctlOf (mineS (listS L) dev) := rfl
  rw [hoc]
  have hLS := fun W (h : SL W v L) (hm : MaxD W) => slist_any v L W hm h (fun x hx => by have := hs x hx; omega) (by omega)
  generalize listS L = l at *
  have hml := mineS_len l dev
  have hmm : ∀ d ∈ mineS l dev, d ∈ l := fun d hd => mineS_mem hd
  have HMN := Lib.hid (fun (W : World) (v : Value) (h : DL W v l) => smine_any v l dev W h (fun j hj => by have h := hat _ (List.getElem_mem hj); obtain ⟨a, b, c⟩ := h; exact ⟨by omega, by omega, by omega⟩) (by omega))
  generalize mineS l dev = m at *
  have HRD := Lib.hid (fun (W : World) (v : Value) (rb rs : Nat) (h0 : MaxD W) (h : DL W v m) (h1 : dbk W rb #[.slice (some ⟨rs, 0, none⟩) 4 4]) (h2 : dbk W rs rulesA) => reader1_any v m rb rs W h0 h
    (fun j hj => by have h := hat _ (hmm _ (List.getElem_mem hj)); obtain ⟨a, b, c⟩ := h; exact ⟨by omega, by omega, by omega⟩) (fun d hd => by have h := (hat _ (hmm _ hd)).2.1; omega) (fun d hd => hnm _ (hmm _ hd)) (by omega) h1 h2)
  have HLS := Lib.hid hLS
  generalize ctlOf m = cc at *
  have HV := Lib.hid hv; have HM := Lib.hid hm
  clear hat hnm hln hmd hoc hLS hml hmm hv hm hs hl
  have hal : Below w.heap.size w (w.alloc (.cells #[.bool false, .bool false, .bool false, .bool false, .int .i64 0, .int .i64 0] 70)) := (Below.refl _ _).alloc (Nat.le_refl _) _
  have HR := Lib.hid (res6_new w)
  have HAL := Lib.hid hal
  clear hal
  have HRU := Lib.hid srules_any
  have HRE := Lib.hid sreader_any
  go_enter Tryz.func33, Tryz.ntmps33
  go_wp2_with fail
  refine (HRU.out _).mono ?_
  rintro e w1 ⟨rfl, hw1⟩
  have hb1 : Below (w.alloc (.cells #[.bool false, .bool false, .bool false, .bool false, .int .i64 0, .int .i64 0] 70)).heap.size (w.alloc (.cells #[.bool false, .bool false, .bool false, .bool false, .int .i64 0, .int .i64 0] 70)) w1 := by rw [hw1]; exact (Below.refl _ _).alloc (Nat.le_refl _) _
  have hrs : dbk w1 (w.heap.size + 1) rulesA := by rw [hw1, ← World.size_alloc w (.cells #[.bool false, .bool false, .bool false, .bool false, .int .i64 0, .int .i64 0] 70)]; exact dbk.new _ _ _
  have hre := HRE.out (w.heap.size + 1) w1
  have HRE2 := Lib.hid hre
  have HRS := Lib.hid hrs
  have HB1 := Lib.hid (HAL.out.trans (hb1.mono HAL.out.size)); have HR1 := Lib.hid (HR.out.below hb1)
  clear hw1 hb1 hrs hre HRE HRU HR HAL
  simp only [World.size_alloc]
  go_wp2_with fail
  refine HRE2.out.mono ?_
  rintro e w2 ⟨rfl, hw2⟩
  have hb2 : Below w1.heap.size w1 w2 := by rw [hw2]; exact (Below.refl _ _).alloc (Nat.le_refl _) _
  have hrb : dbk w2 w1.heap.size #[.slice (some ⟨w.heap.size + 1, 0, none⟩) 4 4] := by rw [hw2]; exact dbk.new _ _ _
  have HRB := Lib.hid hrb
  have HRS2 := Lib.hid (HRS.out.below hb2)
  have HB2 := Lib.hid (HB1.out.trans (hb2.mono HB1.out.size)); have HR2 := Lib.hid (HR1.out.below hb2)
  clear hw2 hb2 hrb HRE2 HRS HB1 HR1
  go_wp2_with fail
  refine (HLS.out _ (HV.out.bel HB2.out) (HM.out.bel HB2.out)).mono ?_
  rintro e w3 ⟨u, rfl, ho, hb3⟩
  have HO3 := Lib.hid ho.dl
  have HB3 := Lib.hid (HB2.out.trans (hb3.mono HB2.out.size)); have HR3 := Lib.hid (HR2.out.below hb3); have HRB3 := Lib.hid (HRB.out.below hb3); have HRS3 := Lib.hid (HRS2.out.below hb3)
  clear ho hb3 HB2 HR2 HRB HRS2 HLS
  go_wp2_with fail
  refine (HMN.out _ _ HO3.out).mono ?_
  rintro e w4 ⟨u2, rfl, ho, hb4⟩
  have HO4 := Lib.hid ho.dl
  have HB4 := Lib.hid (HB3.out.trans (hb4.mono HB3.out.size)); have HR4 := Lib.hid (HR3.out.below hb4); have HRB4 := Lib.hid (HRB3.out.below hb4); have HRS4 := Lib.hid (HRS3.out.below hb4)
  clear ho hb4 HB3 HR3 HRB3 HRS3 HMN HO3
  have he := enters_of Tryz.func121 (by kernel_rfl) rfl
  go_wp2_with fail
  refine (HRD.out _ _ _ _ (HM.out.bel HB4.out) HO4.out HRB4.out HRS4.out).mono ?_
  rintro e w5 ⟨rfl, hb5⟩
  have HB := Lib.hid (HB4.out.trans (hb5.mono HB4.out.size)); have HA := Lib.hid (HR4.out.below hb5)
  clear hb5 HB4 HR4 HRB4 HRS4 HRD he
  have hct : (Value.agg (ctA cc)) = .agg #[.bool cc.1, .bool cc.2.1, .bool cc.2.2.1, .bool cc.2.2.2.1, .int .i64 cc.2.2.2.2.1, .int .i64 cc.2.2.2.2.2] := rfl
  rw [hct]
  clear hct
  obtain ⟨a0, b0, a1, b1, a2, b2, a3, b3, a4, b4, a5, b5⟩ := HA.out.asks6 (.bool cc.1) (.bool cc.2.1) (.bool cc.2.2.1) (.bool cc.2.2.2.1) (.int .i64 cc.2.2.2.2.1)
  obtain ⟨g0, g1, g2, g3, g4, g5⟩ := (HA.out.putc cc).six
  have hq := putC_below (b := w.heap.size) HB.out (Nat.le_refl _) cc
  simp only [putC, ctl0] at a0 a1 a2 a3 a4 a5 b0 b1 b2 b3 b4 b5 g0 g1 g2 g3 g4 g5 hq
  have HQ := Lib.hid hq; have HG := Lib.hid (And.intro g0 (And.intro g1 (And.intro g2 (And.intro g3 (And.intro g4 g5))))); clear hq g0 g1 g2 g3 g4 g5
  go_wp2_with fail
  obtain ⟨g0, g1, g2, g3, g4, g5⟩ := HG.out
  refine bodyPost_ret (v := .agg (ctA cc)) (by simp [results, Tryz.results33, go_sem, ctA, g0, g1, g2, g3, g4, g5]) rfl ?_
  exact ⟨rfl, HQ.out⟩
theorem sof_any (v : Value) (L : List (List UInt8)) (dev : List UInt8) (w : World) (hm : MaxD w) (hv : SL w v L) (hs : ∀ x ∈ L, x.length ≤ 3000) (hl : L.length ≤ 100000) :
    Calls Tryz.prog 33 #[v, .string (bs dev)] w fun e w' => e = .returned (.agg (ctA (ofC L dev))) ∧ Below w.heap.size w w' :=
  sof_wide v L dev w hm hv (fun x hx => Nat.le_trans (hs x hx) (by decide)) hl
end Go.Proofs.YtfobjaccpnondaaGreatDoor

/- The document's Of; capabilities; the statements' own helpers: are values few, are directives short, what a value tells, some of the chapter's answers. -/
namespace Go.Proofs.YtfobjaccpnondaaGreatDoor
open Go.RowKit

/-! The document's Of. -/
theorem res6_new2 (w : World) : dbk (w.alloc (.cells #[.bool false, .bool false, .bool false, .bool false, .int .i64 0, .int .i64 0] 48)) w.heap.size (ctA ctl0) := dbk.new w _ _
set_option maxRecDepth 100000 in
set_option maxHeartbeats 4000000 in
theorem rsof_wide (v : Value) (L : List (List UInt8)) (dev : List UInt8) (w : World) (hv : SL w v L) (hs : ∀ x ∈ L, x.length ≤ 7000) (hl : L.length ≤ 100000) :
    Calls Tryz.prog 50 #[v, .string (bs dev)] w fun e w' => e = .returned (.agg (ctA (ofC L dev))) ∧ Below w.heap.size w w' := by
  have hat : ∀ d ∈ listS L, DvN 7000 d := fun d hd => listS_at hs hd
  have hln := listS_len L
  have hoc : ofC L dev = ctlOf (mineS (listS L) dev) := rfl
  rw [hoc]
  have hLS := fun W (h : SL W v L) => rslist_any v L W h (fun x hx => by have := hs x hx; omega) (by omega)
  generalize listS L = l at *
  have hml := mineS_len l dev
  have hmm : ∀ d ∈ mineS l dev, d.2.1.length ≤ 7000 := fun d hd => (hat d (mineS_mem hd)).2.1
  have HMN := Lib.hid (fun (W : World) (v : Value) (h : DL W v l) => rmine_any v l dev W h (by omega))
  generalize mineS l dev = m at *
  have hf := fun n (W : World) (v : Value) (h : DL W v m) => rfirst_any v m n W h (by omega)
  have hfl := fun n => first_len (l := m) (n := n) hmm
  have hdef : ctlOf m = ((firstS m nosN).2, (firstS m remN).2, esiB (firstS m conN).1, (firstS m maxN).2, (agesP (firstS m maxN).1).1, (agesP (firstS m maxN).1).2) := rfl
  rw [hdef]
  have f1 : ∀ (W : World) (v : Value) (h : DL W v m), Calls Tryz.prog 96 #[v, .string ⟨#[110, 111, 45, 115, 116, 111, 114, 101]⟩] W fun e w' => e = .returned (.tuple #[.string (bs (firstS m nosN).1), .bool (firstS m nosN).2]) ∧ W = w' := hf nosN
  have f2 : ∀ (W : World) (v : Value) (h : DL W v m), Calls Tryz.prog 96 #[v, .string ⟨#[110, 111, 45, 115, 116, 111, 114, 101, 45, 114, 101, 109, 111, 116, 101]⟩] W fun e w' => e = .returned (.tuple #[.string (bs (firstS m remN).1), .bool (firstS m remN).2]) ∧ W = w' := hf remN
  have f3 : ∀ (W : World) (v : Value) (h : DL W v m), Calls Tryz.prog 96 #[v, .string ⟨#[99, 111, 110, 116, 101, 110, 116]⟩] W fun e w' => e = .returned (.tuple #[.string (bs (firstS m conN).1), .bool (firstS m conN).2]) ∧ W = w' := hf conN
  have f4 : ∀ (W : World) (v : Value) (h : DL W v m), Calls Tryz.prog 96 #[v, .string ⟨#[109, 97, 120, 45, 97, 103, 101]⟩] W fun e w' => e = .returned (.tuple #[.string (bs (firstS m maxN).1), .bool (firstS m maxN).2]) ∧ W = w' := hf maxN
  have l3 := hfl conN; have l4 := hfl maxN
  generalize firstS m nosN = r1 at *; generalize firstS m remN = r2 at *; generalize firstS m conN = r3 at *; generalize firstS m maxN = r4 at *
  obtain ⟨v1, b1⟩ := r1; obtain ⟨v2, b2⟩ := r2; obtain ⟨v3, b3⟩ := r3; obtain ⟨v4, b4⟩ := r4
  simp only at f1 f2 f3 f4 l3 l4 ⊢
  have hwd : ∀ W : World, Calls Tryz.prog 97 #[.string (bs v3), .string ⟨#[69, 83, 73, 47, 49, 46, 48]⟩] W fun e w' => e = .returned (.bool (esiB v3)) ∧ W = w' := fun W => by
    have h := rword_any (bs v3) (bs esiN) W (by rw [bs_size]; omega)
    rw [bs_data, bs_data] at h
    exact h
  have hag : ∀ W : World, Calls Tryz.prog 98 #[.string (bs v4)] W fun e w' => e = .returned (.tuple #[.int .i64 (agesP v4).1, .int .i64 (agesP v4).2]) ∧ W = w' := fun W => by
    have h := rages_any (bs v4) W (by rw [bs_size]; omega)
    rw [bs_data] at h
    exact h
  generalize esiB v3 = b3' at *
  generalize agesP v4 = ag at *
  obtain ⟨x, y⟩ := ag
  simp only at hag ⊢
  have F1 := Lib.hid f1; have F2 := Lib.hid f2; have F3 := Lib.hid f3; have F4 := Lib.hid f4; have HWD := Lib.hid hwd; have HAG := Lib.hid hag; have HLS := Lib.hid hLS
  have HV := Lib.hid hv
  clear hat hln hoc hLS hml hmm hv hs hl hf hfl hdef f1 f2 f3 f4 l3 l4 hwd hag
  have hal : Below w.heap.size w (w.alloc (.cells #[.bool false, .bool false, .bool false, .bool false, .int .i64 0, .int .i64 0] 48)) := (Below.refl _ _).alloc (Nat.le_refl _) _
  have HR := Lib.hid (res6_new2 w)
  have HAL := Lib.hid hal
  clear hal
  go_enter Tryz.func50, Tryz.ntmps50
  go_wp2_with fail
  refine (HLS.out _ (HV.out.bel HAL.out)).mono ?_
  rintro e w3 ⟨u, rfl, ho, hb3⟩
  have HO3 := Lib.hid ho.dl
  have HB3 := Lib.hid (HAL.out.trans (hb3.mono HAL.out.size)); have HR3 := Lib.hid (HR.out.below hb3)
  clear ho hb3 HAL HR HLS
  go_wp2_with fail
  refine (HMN.out _ _ HO3.out).mono ?_
  rintro e w4 ⟨u2, rfl, ho, hb4⟩
  have HO4 := Lib.hid ho.dl
  have HB4 := Lib.hid (HB3.out.trans (hb4.mono HB3.out.size)); have HR4 := Lib.hid (HR3.out.below hb4)
  clear ho hb4 HB3 HR3 HMN HO3
  have hx : Below w4.heap.size w4 (w4.alloc (.cells #[.bool false, .bool false, .bool false, .bool false, .int .i64 0, .int .i64 0] 48)) := (Below.refl _ _).alloc (Nat.le_refl _) _
  have HX := Lib.hid hx
  have HG := Lib.hid (res6_new2 w4)
  have HS := Lib.hid HB4.out.size
  clear hx
  go_wp2_with fail
  generalize w4.alloc (.cells #[.bool false, .bool false, .bool false, .bool false, .int .i64 0, .int .i64 0] 48) = X0 at *
  refine (F1.out _ _ (HO4.out.bel HX.out)).mono ?_
  rintro e X ⟨rfl, rfl⟩
  have c0 := HG.out.cell 0 _ rfl
  have f0 := HG.out.free 0
  have hg : dbk (X0.setCell ⟨w4.heap.size, 0, none⟩ (.bool b1)) w4.heap.size (ctA (b1, false, false, false, 0, 0)) := by simpa [ctA, ctl0] using HG.out.set 0 (.bool b1)
  have hx := HX.out.setCell (p := ⟨w4.heap.size, 0, none⟩) (Nat.le_refl _) (.bool b1)
  have HG1 := Lib.hid hg; have HX1 := Lib.hid hx; clear hg hx HG HX
  go_wp2_with fail
  clear c0 f0
  generalize X0.setCell ⟨w4.heap.size, 0, none⟩ (.bool b1) = X1 at *
  refine (F2.out _ _ (HO4.out.bel HX1.out)).mono ?_
  rintro e X ⟨rfl, rfl⟩
  have c0 := HG1.out.cell 1 _ rfl
  have f0 := HG1.out.free 1
  have hg : dbk (X1.setCell ⟨w4.heap.size, 1, none⟩ (.bool b2)) w4.heap.size (ctA (b1, b2, false, false, 0, 0)) := by simpa [ctA, ctl0] using HG1.out.set 1 (.bool b2)
  have hx := HX1.out.setCell (p := ⟨w4.heap.size, 1, none⟩) (Nat.le_refl _) (.bool b2)
  have HG2 := Lib.hid hg; have HX2 := Lib.hid hx; clear hg hx HG1 HX1
  go_wp2_with fail
  clear c0 f0
  generalize X1.setCell ⟨w4.heap.size, 1, none⟩ (.bool b2) = X2 at *
  refine (F3.out _ _ (HO4.out.bel HX2.out)).mono ?_
  rintro e X ⟨rfl, rfl⟩
  go_wp2_with fail
  refine (HWD.out _).mono ?_
  rintro e X ⟨rfl, rfl⟩
  have c0 := HG2.out.cell 2 _ rfl
  have f0 := HG2.out.free 2
  have hg : dbk (X2.setCell ⟨w4.heap.size, 2, none⟩ (.bool b3')) w4.heap.size (ctA (b1, b2, b3', false, 0, 0)) := by simpa [ctA, ctl0] using HG2.out.set 2 (.bool b3')
  have hx := HX2.out.setCell (p := ⟨w4.heap.size, 2, none⟩) (Nat.le_refl _) (.bool b3')
  have HG3 := Lib.hid hg; have HX3 := Lib.hid hx; clear hg hx HG2 HX2
  go_wp2_with fail
  clear c0 f0
  generalize X2.setCell ⟨w4.heap.size, 2, none⟩ (.bool b3') = X3 at *
  refine (F4.out _ _ (HO4.out.bel HX3.out)).mono ?_
  rintro e X ⟨rfl, rfl⟩
  have c0 := HG3.out.cell 3 _ rfl
  have f0 := HG3.out.free 3
  have hg : dbk (X3.setCell ⟨w4.heap.size, 3, none⟩ (.bool b4)) w4.heap.size (ctA (b1, b2, b3', b4, 0, 0)) := by simpa [ctA, ctl0] using HG3.out.set 3 (.bool b4)
  have hx := HX3.out.setCell (p := ⟨w4.heap.size, 3, none⟩) (Nat.le_refl _) (.bool b4)
  have HG4 := Lib.hid hg; have HX4 := Lib.hid hx; clear hg hx HG3 HX3
  go_wp2_with fail
  clear c0 f0
  generalize X3.setCell ⟨w4.heap.size, 3, none⟩ (.bool b4) = X4 at *
  refine (HAG.out _).mono ?_
  rintro e X ⟨rfl, rfl⟩
  have c0 := HG4.out.cell 4 _ rfl
  have f0 := HG4.out.free 4
  have c1 := (HG4.out.set 4 (.int .i64 x)).cell 5 _ rfl
  have f1 := (HG4.out.set 4 (.int .i64 x)).free 5
  have hg := (HG4.out.set 4 (.int .i64 x)).set 5 (.int .i64 y)
  have hgf : dbk ((X4.setCell ⟨w4.heap.size, 4, none⟩ (.int .i64 x)).setCell ⟨w4.heap.size, 5, none⟩ (.int .i64 y)) w4.heap.size (ctA (b1, b2, b3', b4, x, y)) := by simpa [ctA] using hg
  have hxf := (HX4.out.setCell (p := ⟨w4.heap.size, 4, none⟩) (Nat.le_refl _) (.int .i64 x)).setCell (p := ⟨w4.heap.size, 5, none⟩) (Nat.le_refl _) (.int .i64 y)
  obtain ⟨cc, hcc⟩ : ∃ cc : Ctl, cc = (b1, b2, b3', b4, x, y) := ⟨_, rfl⟩
  rw [← hcc] at hgf
  have HCC := Lib.hid hcc
  obtain ⟨k0, k1, k2, k3, k4, k5⟩ := hgf.six
  have HB := Lib.hid (HB4.out.trans (hxf.mono HB4.out.size))
  have HA := Lib.hid (HR4.out.below hxf)
  clear hg hgf hxf hcc HG4 HX4 HR4 HB4 HO4 F1 F2 F3 F4 HWD HAG HV
  obtain ⟨a0, d0, a1, d1, a2, d2, a3, d3, a4, d4, a5, d5⟩ := HA.out.asks6 (.bool cc.1) (.bool cc.2.1) (.bool cc.2.2.1) (.bool cc.2.2.2.1) (.int .i64 cc.2.2.2.2.1)
  obtain ⟨g0, g1, g2, g3, g4, g5⟩ := (HA.out.putc cc).six
  have hq := putC_below (b := w.heap.size) HB.out (Nat.le_refl _) cc
  simp only [putC, ctl0] at a0 a1 a2 a3 a4 a5 d0 d1 d2 d3 d4 d5 g0 g1 g2 g3 g4 g5 hq
  have HQ := Lib.hid hq; have HGG := Lib.hid (And.intro g0 (And.intro g1 (And.intro g2 (And.intro g3 (And.intro g4 g5))))); clear hq g0 g1 g2 g3 g4 g5
  go_wp2_with fail
  obtain ⟨g0, g1, g2, g3, g4, g5⟩ := HGG.out
  refine bodyPost_ret (v := .agg (ctA cc)) (by simp [results, Tryz.results50, go_sem, ctA, g0, g1, g2, g3, g4, g5]) rfl ?_
  exact ⟨by rw [HCC.out], HQ.out⟩

theorem rsof_any (v : Value) (L : List (List UInt8)) (dev : List UInt8) (w : World) (hv : SL w v L) (hs : ∀ x ∈ L, x.length ≤ 3000) (hl : L.length ≤ 100000) :
    Calls Tryz.prog 50 #[v, .string (bs dev)] w fun e w' => e = .returned (.agg (ctA (ofC L dev))) ∧ Below w.heap.size w w' :=
  rsof_wide v L dev w hv (fun x hx => Nat.le_trans (hs x hx) (by decide)) hl
/-! Capabilities. -/
def capT : List UInt8 := [61, 34, 83, 117, 114, 114, 111, 103, 97, 116, 101, 47, 49, 46, 48, 32, 69, 83, 73, 47, 49, 46, 48, 34]
def capL (dev : List UInt8) : List UInt8 := if token dev then dev ++ capT else []

/-! few. -/
def fewV (L : List (List UInt8)) : Bool := (L.take 20).all (fun x => decide (x.length ≤ 3000)) && decide (L.length ≤ 12)
theorem fewV_small {L : List (List UInt8)} (h : fewV L = true) : L.length ≤ 12 ∧ ∀ x ∈ L, x.length ≤ 3000 := by
  unfold fewV at h
  simp only [Bool.and_eq_true, decide_eq_true_eq, List.all_eq_true] at h
  refine ⟨h.2, fun x hx => h.1 x ?_⟩
  rw [List.take_of_length_le (by omega)]
  exact hx


/-! What a value tells. -/
theorem run_eqlC (x y : Ctl) (w : World) : (binOp .eql 70 (.agg #[.bool x.1, .bool x.2.1, .bool x.2.2.1, .bool x.2.2.2.1, .int .i64 x.2.2.2.2.1, .int .i64 x.2.2.2.2.2]) (.agg #[.bool y.1, .bool y.2.1, .bool y.2.2.1, .bool y.2.2.2.1, .int .i64 y.2.2.2.2.1, .int .i64 y.2.2.2.2.2])).run Tryz.prog w = .ok (.bool (x == y)) w := by
  have e : (x == y) = ((x.1 == y.1) && ((x.2.1 == y.2.1) && ((x.2.2.1 == y.2.2.1) && ((x.2.2.2.1 == y.2.2.2.1) && ((x.2.2.2.2.1 == y.2.2.2.2.1) && (x.2.2.2.2.2 == y.2.2.2.2.2)))))) := rfl
  have u3 := Tryz.underlying3
  have a3 := Tryz.isAgg3
  have z3 := Tryz.sizeOf3
  have u4 := Tryz.underlying4
  have a4 := Tryz.isAgg4
  have z4 := Tryz.sizeOf4
  have hS : Tryz.prog.underlying 70 = some (.struct (Tryz.prog.fieldsOf 70)) := by kernel_rfl
  have hp : Tryz.prog.stoodInHeld 70 = false := by kernel_rfl
  rw [e, run_eql_struct, show (10000 : Nat) = 9999 + 1 from rfl, run_equalIn_agg w 9999 70 _ _ hS hp]
  simp only [Program.fieldsOf, Tryz.underlying70]
  go_simp
  by_cases h1 : x.1 = y.1 <;> by_cases h2 : x.2.1 = y.2.1 <;> by_cases h3 : x.2.2.1 = y.2.2.1 <;> by_cases h4 : x.2.2.2.1 = y.2.2.2.1 <;> by_cases h5 : x.2.2.2.2.1 = y.2.2.2.2.1 <;> by_cases h6 : x.2.2.2.2.2 = y.2.2.2.2.2 <;> simp [h1, h2, h3, h4, h5, h6]
/-! Some of the chapter's answers. -/
end Go.Proofs.YtfobjaccpnondaaGreatDoor
