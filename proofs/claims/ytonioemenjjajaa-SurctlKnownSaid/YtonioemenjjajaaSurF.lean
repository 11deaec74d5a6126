/- Controls in memory; words and ages; the four rules, and the closure that goes through them: the surctl layer's Of. -/
import Derived.Test.YtonioemenjjajaaSurD
import Derived.Test.YtonioemenjjajaaDirF
import Derived.Test.YtonioemenjjajaaTickB
import Derived.Laws.EntriesVeiled
namespace Go.Proofs.Ytonioemenjjajaa
open Go.RowKit Go.Shelf

theorem grown_set1 (w : World) (b j : Nat) (v : Value) : w.grownBy (w.setCell ⟨b, j, none⟩ v) (some b) :=
  ⟨rfl, rfl, rfl, by simp [World.setCell], fun k _ hk => Below.heap_setCell _ _ _ _ (by simpa using hk)⟩
theorem grown_trans1 {a b c : World} {r : Option Nat} (h : a.grownBy b r) (k : b.grownBy c r) : a.grownBy c r :=
  ⟨k.os.trans h.os, k.tape.trans h.tape, k.output.trans h.output, Nat.le_trans h.size k.size, fun i hi hr => (k.block i (Nat.lt_of_lt_of_le hi h.size) hr).trans (h.block i hi hr)⟩
theorem grown_bel1 {a b : World} (h : Below a.heap.size a b) (r : Option Nat) : a.grownBy b r := ⟨h.os, h.tape, h.output, h.size, fun k hk _ => h.block k hk⟩
/-- a control's cells -/
def ctA (c : Ctl) : Array Value := #[.bool c.1, .bool c.2.1, .bool c.2.2.1, .bool c.2.2.2.1, .int .i64 c.2.2.2.2.1, .int .i64 c.2.2.2.2.2]
theorem dbk.asks6 {w : World} {b : Nat} {c : Ctl} (h : dbk w b (ctA c)) (u0 u1 u2 u3 u4 : Value) : w.cell? ⟨b, 0, none⟩ = some (.bool c.1) ∧ w.frozen? ⟨b, 0, none⟩ = false ∧ (w.setCell ⟨b, 0, none⟩ u0).cell? ⟨b, 1, none⟩ = some (.bool c.2.1) ∧ (w.setCell ⟨b, 0, none⟩ u0).frozen? ⟨b, 1, none⟩ = false ∧ ((w.setCell ⟨b, 0, none⟩ u0).setCell ⟨b, 1, none⟩ u1).cell? ⟨b, 2, none⟩ = some (.bool c.2.2.1) ∧ ((w.setCell ⟨b, 0, none⟩ u0).setCell ⟨b, 1, none⟩ u1).frozen? ⟨b, 2, none⟩ = false ∧ (((w.setCell ⟨b, 0, none⟩ u0).setCell ⟨b, 1, none⟩ u1).setCell ⟨b, 2, none⟩ u2).cell? ⟨b, 3, none⟩ = some (.bool c.2.2.2.1) ∧ (((w.setCell ⟨b, 0, none⟩ u0).setCell ⟨b, 1, none⟩ u1).setCell ⟨b, 2, none⟩ u2).frozen? ⟨b, 3, none⟩ = false ∧ ((((w.setCell ⟨b, 0, none⟩ u0).setCell ⟨b, 1, none⟩ u1).setCell ⟨b, 2, none⟩ u2).setCell ⟨b, 3, none⟩ u3).cell? ⟨b, 4, none⟩ = some (.int .i64 c.2.2.2.2.1) ∧ ((((w.setCell ⟨b, 0, none⟩ u0).setCell ⟨b, 1, none⟩ u1).setCell ⟨b, 2, none⟩ u2).setCell ⟨b, 3, none⟩ u3).frozen? ⟨b, 4, none⟩ = false ∧ (((((w.setCell ⟨b, 0, none⟩ u0).setCell ⟨b, 1, none⟩ u1).setCell ⟨b, 2, none⟩ u2).setCell ⟨b, 3, none⟩ u3).setCell ⟨b, 4, none⟩ u4).cell? ⟨b, 5, none⟩ = some (.int .i64 c.2.2.2.2.2) ∧ (((((w.setCell ⟨b, 0, none⟩ u0).setCell ⟨b, 1, none⟩ u1).setCell ⟨b, 2, none⟩ u2).setCell ⟨b, 3, none⟩ u3).setCell ⟨b, 4, none⟩ u4).frozen? ⟨b, 5, none⟩ = false :=
  ⟨h.cell 0 _ rfl, h.free 0, (h.set 0 u0).cell 1 _ rfl, (h.set 0 u0).free 1, ((h.set 0 u0).set 1 u1).cell 2 _ rfl, ((h.set 0 u0).set 1 u1).free 2, (((h.set 0 u0).set 1 u1).set 2 u2).cell 3 _ rfl, (((h.set 0 u0).set 1 u1).set 2 u2).free 3, ((((h.set 0 u0).set 1 u1).set 2 u2).set 3 u3).cell 4 _ rfl, ((((h.set 0 u0).set 1 u1).set 2 u2).set 3 u3).free 4, (((((h.set 0 u0).set 1 u1).set 2 u2).set 3 u3).set 4 u4).cell 5 _ rfl, (((((h.set 0 u0).set 1 u1).set 2 u2).set 3 u3).set 4 u4).free 5⟩
theorem dbk.six {w : World} {b : Nat} {c : Ctl} (h : dbk w b (ctA c)) : w.cell? ⟨b, 0, none⟩ = some (.bool c.1) ∧ w.cell? ⟨b, 1, none⟩ = some (.bool c.2.1) ∧ w.cell? ⟨b, 2, none⟩ = some (.bool c.2.2.1) ∧ w.cell? ⟨b, 3, none⟩ = some (.bool c.2.2.2.1) ∧ w.cell? ⟨b, 4, none⟩ = some (.int .i64 c.2.2.2.2.1) ∧ w.cell? ⟨b, 5, none⟩ = some (.int .i64 c.2.2.2.2.2) :=
  ⟨h.cell 0 _ rfl, h.cell 1 _ rfl, h.cell 2 _ rfl, h.cell 3 _ rfl, h.cell 4 _ rfl, h.cell 5 _ rfl⟩
/-- all six cells of a block are stored into -/
def putC (w : World) (b : Nat) (c : Ctl) : World := ((((((w.setCell ⟨b, 0, none⟩ (.bool c.1)).setCell ⟨b, 1, none⟩ (.bool c.2.1)).setCell ⟨b, 2, none⟩ (.bool c.2.2.1)).setCell ⟨b, 3, none⟩ (.bool c.2.2.2.1)).setCell ⟨b, 4, none⟩ (.int .i64 c.2.2.2.2.1)).setCell ⟨b, 5, none⟩ (.int .i64 c.2.2.2.2.2))
theorem dbk.putc {w : World} {b : Nat} {c0 : Ctl} (h : dbk w b (ctA c0)) (c : Ctl) : dbk (putC w b c) b (ctA c) := by
  have := (((((h.set 0 (.bool c.1)).set 1 (.bool c.2.1)).set 2 (.bool c.2.2.1)).set 3 (.bool c.2.2.2.1)).set 4 (.int .i64 c.2.2.2.2.1)).set 5 (.int .i64 c.2.2.2.2.2)
  simpa [ctA, putC] using this
theorem putC_below {B : Nat} {a w : World} {b : Nat} (h : Below B a w) (hb : B ≤ b) (c : Ctl) : Below B a (putC w b c) :=
  (((((h.setCell (p := ⟨b, 0, none⟩) hb _).setCell (p := ⟨b, 1, none⟩) hb _).setCell (p := ⟨b, 2, none⟩) hb _).setCell (p := ⟨b, 3, none⟩) hb _).setCell (p := ⟨b, 4, none⟩) hb _).setCell (p := ⟨b, 5, none⟩) hb _
theorem putC_other {w : World} {b b2 : Nat} (hne : b2 ≠ b) (c : Ctl) : (putC w b c).heap[b2]? = w.heap[b2]? := by
  unfold putC
  rw [Below.heap_setCell _ _ _ _ (by simpa using hne), Below.heap_setCell _ _ _ _ (by simpa using hne), Below.heap_setCell _ _ _ _ (by simpa using hne), Below.heap_setCell _ _ _ _ (by simpa using hne), Below.heap_setCell _ _ _ _ (by simpa using hne), Below.heap_setCell _ _ _ _ (by simpa using hne)]

/-! Words. -/
theorem wblank_any (x : Nat) (w : World) :
    Calls Try.prog 63 #[.int .i32 (x : Int)] w fun e w' => e = .returned (.bool (isBlk x)) ∧ w' = w := by
  have hd : isBlk x = ((x : Int) == 32 || (x : Int) == 9) := by
    unfold isBlk
    rw [Bool.eq_iff_iff, Bool.or_eq_true, Bool.or_eq_true, beq_iff_eq, beq_iff_eq, beq_iff_eq, beq_iff_eq]
    omega
  rw [hd]
  generalize (x : Int) = n
  clear hd
  cases h1 : n == 32
  · cases h2 : n == 9
    · go_enter Try.func63, Try.ntmps63
      go_wp2_with fail
      go_ret
      exact ⟨rfl, rfl⟩
    · go_enter Try.func63, Try.ntmps63
      go_wp2_with fail
      go_ret
      exact ⟨rfl, rfl⟩
  · go_enter Try.func63, Try.ntmps63
    go_wp2_with fail
    go_ret
    exact ⟨rfl, rfl⟩
theorem words_any (s : ByteArray) (w : World) (hs : s.size ≤ 4294967200) :
    Calls Try.prog 46 #[.string s] w fun e w' => ∃ A, e = .returned (.slice (some ⟨A, 0, none⟩) (Lib.goFieldsP isBlk s).length (Lib.goFieldsP isBlk s).length) ∧
      (∀ j, j < (Lib.goFieldsP isBlk s).length → w'.cell? ⟨A, 0 + j, none⟩ = some (.string ((Lib.goFieldsP isBlk s).getD j ByteArray.empty))) ∧ Below w.heap.size w w' ∧ (Lib.goFieldsP isBlk s).length ≤ 9223372036854775807 := by
  have hf : ∀ W, Calls Try.prog 62 #[.string s, .func (.func 63) #[] #[]] W fun e w' => ∃ A, e = .returned (.slice (some ⟨A, 0, none⟩) (Lib.goFieldsP isBlk s).length (Lib.goFieldsP isBlk s).length) ∧
      (∀ j, j < (Lib.goFieldsP isBlk s).length → w'.cell? ⟨A, 0 + j, none⟩ = some (.string ((Lib.goFieldsP isBlk s).getD j ByteArray.empty))) ∧ Below W.heap.size W w' ∧ (Lib.goFieldsP isBlk s).length ≤ 9223372036854775807 := fun W => by
    refine (Try.strings_FieldsFunc_runes 63 #[] (enters_of Try.func63 (by kernel_rfl) rfl) isBlk s W (by omega) ?_).mono ?_
    · intro W' x _ _
      show Calls _ _ _ _ _
      refine (wblank_any x W').mono ?_
      rintro e w' ⟨rfl, rfl⟩
      exact ⟨rfl, 0, rfl⟩
    · rintro e w' ⟨A, rfl, _, ho, hb⟩
      have hbig : (Lib.goFieldsP isBlk s).length ≤ 9223372036854775807 := by
        rcases ho.2 with ⟨e, _⟩ | ⟨g, cap, cur, _, _, _, h1, h2, _⟩
        · simp at e
        · have h3 : maxLen = 9223372036854775807 := rfl
          omega
      refine ⟨A, rfl, fun j hj => ?_, hb, hbig⟩
      rw [Nat.zero_add, World.ownsRow.cellAt ho j (by omega)]
      simp [hj]
  have HF := Lib.hid hf; clear hf
  generalize Lib.goFieldsP isBlk s = Z at *
  go_enter Try.func46, Try.ntmps46
  go_wp2_with fail
  refine (HF.out _).mono ?_
  rintro e w1 ⟨A, rfl, hc, hb, hbig⟩
  have HC := Lib.hid hc; have HB := Lib.hid hb; have HBIG := Lib.hid hbig; clear hc hb hbig
  go_wp2_with fail
  go_ret
  exact ⟨_, rfl, HC.out, HB.out, HBIG.out⟩

/-! Ages. -/
set_option maxRecDepth 100000 in
set_option maxHeartbeats 2000000 in
theorem ages_any (s : List UInt8) (w : World) (hm : MaxD w) (hs : s.length ≤ 4294967200) :
    Calls Try.prog 48 #[.string (bs s)] w fun e w' => e = .returned (.tuple #[.int .i64 (agesP s).1, .int .i64 (agesP s).2]) ∧ Below w.heap.size w w' := by
  have hle := cut_le s [43]
  have HC := Lib.hid (cutD_any s [43] w hm (by omega))
  unfold agesP
  generalize Lib.cut s [43] = C at *
  obtain ⟨a, b, t⟩ := C
  simp only at hle HC ⊢
  have d1 := fun W => delta_any (bs a) W (by rw [bs_size]; unfold maxLen; omega)
  have d2 := fun W => delta_any (bs b) W (by rw [bs_size]; unfold maxLen; omega)
  rw [bs_data] at d1 d2
  generalize delI a = x at *
  generalize delI b = y at *
  have D1 := Lib.hid d1; have D2 := Lib.hid d2
  clear d1 d2 hle hm
  cases hA : isDel a
  · rw [hA] at D1
    clear hA D2
    simp only [Bool.false_eq_true, if_false]
    go_enter Try.func48, Try.ntmps48
    go_wp2_with fail
    refine HC.out.mono ?_
    rintro e w1 ⟨rfl, hb⟩
    have HB := Lib.hid hb; clear hb
    go_wp2_with fail
    refine (D1.out _).mono ?_
    rintro e w2 ⟨rfl, rfl⟩
    go_wp2_with fail
    go_ret2
    exact ⟨rfl, HB.out⟩
  · rw [hA] at D1
    simp only [if_true]
    cases t
    · clear hA D2
      simp only [Bool.false_eq_true, if_false]
      go_enter Try.func48, Try.ntmps48
      go_wp2_with fail
      refine HC.out.mono ?_
      rintro e w1 ⟨rfl, hb⟩
      have HB := Lib.hid hb; clear hb
      go_wp2_with fail
      refine (D1.out _).mono ?_
      rintro e w2 ⟨rfl, rfl⟩
      go_wp2_with fail
      go_ret2
      exact ⟨rfl, HB.out⟩
    · simp only [if_true]
      cases hB : isDel b
      · rw [hB] at D2
        clear hA hB
        simp only [Bool.false_eq_true, if_false]
        go_enter Try.func48, Try.ntmps48
        go_wp2_with fail
        refine HC.out.mono ?_
        rintro e w1 ⟨rfl, hb⟩
        have HB := Lib.hid hb; clear hb
        go_wp2_with fail
        refine (D1.out _).mono ?_
        rintro e w2 ⟨rfl, rfl⟩
        go_wp2_with fail
        refine (D2.out _).mono ?_
        rintro e w2 ⟨rfl, rfl⟩
        go_wp2_with fail
        go_ret2
        exact ⟨rfl, HB.out⟩
      · rw [hB] at D2
        clear hA hB
        simp only [if_true]
        go_enter Try.func48, Try.ntmps48
        go_wp2_with fail
        refine HC.out.mono ?_
        rintro e w1 ⟨rfl, hb⟩
        have HB := Lib.hid hb; clear hb
        go_wp2_with fail
        refine (D1.out _).mono ?_
        rintro e w2 ⟨rfl, rfl⟩
        go_wp2_with fail
        refine (D2.out _).mono ?_
        rintro e w2 ⟨rfl, rfl⟩
        go_wp2_with fail
        go_ret2
        exact ⟨rfl, HB.out⟩

/-! The rules. -/
/-- what a rule's function does to a control -/
def Ruling (f : FuncId) (up : Ctl → List UInt8 → Ctl) : Prop := ∀ (b : Nat) (c : Ctl) (v : List UInt8) (w : World), dbk w b (ctA c) → MaxD w → v.length ≤ 4294967200 →
  Calls Try.prog f #[.pointer (some ⟨b, 0, none⟩), .string (bs v)] w fun e w' => e = .returned (.tuple #[]) ∧ dbk w' b (ctA (up c v)) ∧ w.grownBy w' (some b)
set_option maxRecDepth 100000 in
theorem rule1 : Ruling 42 fun c _ => (true, c.2) := by
  intro b c v w h _ _
  have c0 := h.cell 0 _ rfl
  have f0 := h.free 0
  have hq : dbk (w.setCell ⟨b, 0, none⟩ (.bool true)) b (ctA (true, c.2)) := by simpa [ctA] using h.set 0 (.bool true)
  have HQ := Lib.hid hq; clear hq h
  go_enter Try.func42, Try.ntmps42
  go_wp2_with fail
  go_end0
  exact ⟨rfl, HQ.out, grown_set1 _ _ _ _⟩
set_option maxRecDepth 100000 in
theorem rule2 : Ruling 43 fun c _ => (c.1, true, c.2.2) := by
  intro b c v w h _ _
  have c0 := h.cell 1 _ rfl
  have f0 := h.free 1
  have hq : dbk (w.setCell ⟨b, 1, none⟩ (.bool true)) b (ctA (c.1, true, c.2.2)) := by simpa [ctA] using h.set 1 (.bool true)
  have HQ := Lib.hid hq; clear hq h
  go_enter Try.func43, Try.ntmps43
  go_wp2_with fail
  go_end0
  exact ⟨rfl, HQ.out, grown_set1 _ _ _ _⟩
set_option maxRecDepth 100000 in
set_option maxHeartbeats 1000000 in
theorem rule3 : Ruling 44 fun c v => (c.1, c.2.1, esiB v, c.2.2.2) := by
  intro b c v w h _ hv
  show Calls _ _ _ _ (fun e w' => e = .returned (.tuple #[]) ∧ dbk w' b (ctA (c.1, c.2.1, esiB v, c.2.2.2)) ∧ w.grownBy w' (some b))
  have HW := Lib.hid (words_any (bs v) w (by rw [bs_size]; exact hv))
  have hcw := contains_words (bs v) (w := esiN) (by decide)
  rw [bs_data] at hcw
  have hce : Lib.containsS (Lib.goFieldsP isBlk (bs v)) (bs esiN) = esiB v := hcw
  generalize esiB v = x at *
  generalize Lib.goFieldsP isBlk (bs v) = Z at *
  have HCE := Lib.hid hce
  have HD := Lib.hid h
  clear hcw hce h hv
  go_enter Try.func44, Try.ntmps44
  go_wp2_with fail
  refine HW.out.mono ?_
  rintro e w1 ⟨A, rfl, hc, hb, hbig⟩
  have hcon := Try.slices_Contains_string A 0 Z.length Z.length Z (bs esiN) w1 (Nat.le_refl _) hbig hc
  rw [List.take_of_length_le (Nat.le_refl _), HCE.out] at hcon
  have HCON := Lib.hid hcon
  have HD1 := Lib.hid (HD.out.below hb)
  have HG := Lib.hid (grown_bel1 hb (some b))
  clear hc hb hbig hcon HD
  have hlit : (⟨#[69, 83, 73, 47, 49, 46, 48]⟩ : ByteArray) = bs esiN := rfl
  go_wp2_with fail
  refine HCON.out.mono ?_
  rintro e w2 ⟨rfl, rfl⟩
  have c0 := HD1.out.cell 2 _ rfl
  have f0 := HD1.out.free 2
  have hq : dbk (w2.setCell ⟨b, 2, none⟩ (.bool x)) b (ctA (c.1, c.2.1, x, c.2.2.2)) := by simpa [ctA] using HD1.out.set 2 (.bool x)
  have HQ := Lib.hid hq; clear hq
  go_wp2_with fail
  go_end0
  exact ⟨rfl, HQ.out, grown_trans1 HG.out (grown_set1 _ _ _ _)⟩
set_option maxRecDepth 100000 in
set_option maxHeartbeats 1000000 in
theorem rule4 : Ruling 47 fun c v => (c.1, c.2.1, c.2.2.1, true, (agesP v).1, (agesP v).2) := by
  intro b c v w h hm hv
  show Calls _ _ _ _ (fun e w' => e = .returned (.tuple #[]) ∧ dbk w' b (ctA (c.1, c.2.1, c.2.2.1, true, (agesP v).1, (agesP v).2)) ∧ w.grownBy w' (some b))
  have HA := Lib.hid (fun W (h : MaxD W) => ages_any v W h hv)
  generalize agesP v = R at *
  obtain ⟨x, y⟩ := R
  simp only at HA ⊢
  have hlt := h.lt
  have c0 := h.cell 3 _ rfl
  have f0 := h.free 3
  have hq : dbk (w.setCell ⟨b, 3, none⟩ (.bool true)) b (ctA (c.1, c.2.1, c.2.2.1, true, c.2.2.2.2)) := by simpa [ctA] using h.set 3 (.bool true)
  have hm1 : MaxD (w.setCell ⟨b, 3, none⟩ (.bool true)) := by
    obtain ⟨m, hm⟩ := hm
    by_cases hb : b = 0
    · subst hb
      refine ⟨m, ?_⟩
      rw [← hm]
      exact World.cell?_setCell_other _ _ _ _ (by simp)
    · exact ⟨m, (World.cell?_of_block (Below.heap_setCell _ _ _ _ (fun e => hb e.symm))).trans hm⟩
  have HQ := Lib.hid hq; have HM1 := Lib.hid hm1
  clear hq hm1 h hm hv hlt
  go_enter Try.func47, Try.ntmps47
  go_wp2_with fail
  refine (HA.out _ HM1.out).mono ?_
  rintro e w1 ⟨rfl, hb⟩
  have hd1 := HQ.out.below hb
  have hg := grown_trans1 (grown_set1 w b 3 (.bool true)) (grown_bel1 hb (some b))
  have c1 := hd1.cell 4 _ rfl
  have f1 := hd1.free 4
  have c2 := (hd1.set 4 (.int .i64 x)).cell 5 _ rfl
  have f2 := (hd1.set 4 (.int .i64 x)).free 5
  have hq2 : dbk ((w1.setCell ⟨b, 4, none⟩ (.int .i64 x)).setCell ⟨b, 5, none⟩ (.int .i64 y)) b (ctA (c.1, c.2.1, c.2.2.1, true, x, y)) := by simpa [ctA] using (hd1.set 4 (.int .i64 x)).set 5 (.int .i64 y)
  have HQ2 := Lib.hid hq2
  have HG2 := Lib.hid (grown_trans1 (grown_trans1 hg (grown_set1 w1 b 4 (.int .i64 x))) (grown_set1 _ b 5 (.int .i64 y)))
  clear hb hd1 hg hq2 c0 f0 HQ
  go_wp2_with fail
  go_end0
  exact ⟨rfl, HQ2.out, HG2.out⟩
end Go.Proofs.Ytonioemenjjajaa
