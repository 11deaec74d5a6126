/- What an element of a list is as a directive: the directive layer's read. -/
import Derived.Test.YtonioemenjjajaaDirA
import Derived.Test.YtonioemenjjajaaTextF
import Derived.Test.YtonioemenjjajaaTextB
namespace Go.Proofs.Ytonioemenjjajaa
open Go.RowKit

theorem unq_some {l p : List UInt8} (h : unquote l = some p) : unqS l = p ∧ unqE l = 0 := by simp [unqS, unqE, h]
theorem unq_no {l : List UInt8} (h : unquote l = none) : unqE l = 4 := by simp [unqE, h]
theorem bs_nil : bs [] = ⟨#[]⟩ := rfl
/-- what read hands back -/
def RetR (w : World) (o : Option Dv) (e : Ending) (w' : World) : Prop :=
  e = .returned (.tuple #[.agg #[.string (bs (o.getD dv0).1), .string (bs (o.getD dv0).2.1), .bool (o.getD dv0).2.2.1, .string (bs (o.getD dv0).2.2.2)], .bool o.isSome]) ∧ Below w.heap.size w w'
/-- the block of the result, as it is laid; what a store of a directive into it asks and leaves -/
theorem res_new (w : World) : dbk (w.alloc (.cells #[.string ⟨#[]⟩, .string ⟨#[]⟩, .bool false, .string ⟨#[]⟩] 39)) w.heap.size (dvA dv0) := dbk.new w _ _

set_option maxRecDepth 100000 in
set_option maxHeartbeats 2000000 in
theorem readD_any (s : List UInt8) (w : World) (hm : MaxD w) (hs : s.length ≤ 4294967200) :
    Calls Try.prog 75 #[.string (bs s)] w (RetR w (sayD s)) := by
  have hc := cutE_le s
  have hal : Below w.heap.size w (w.alloc (.cells #[.string ⟨#[]⟩, .string ⟨#[]⟩, .bool false, .string ⟨#[]⟩] 39)) := (Below.refl _ _).alloc (Nat.le_refl _) _
  have hm0 := hm.bel hal
  have hr := res_new w
  have HC := Lib.hid (fun W (h : MaxD W) => cutD_any s [61] W h (by omega))
  have hsay : sayD s = if token (Lib.cut s [61]).1 then
    if (Lib.cut s [61]).2.2 then
      if token (Lib.cut s [61]).2.1 then some (lower (Lib.cut s [61]).1, (Lib.cut s [61]).2.1, true, [])
      else match unquote (Lib.cut s [61]).2.1 with
        | some p => some (lower (Lib.cut s [61]).1, p, true, [])
        | none => none
    else some (lower (Lib.cut s [61]).1, [], false, [])
  else none := rfl
  have hno : (Lib.cut s [61]).2.2 = false → (Lib.cut s [61]).2.1 = [] := by
    rcases cutE_cases s with ⟨_, h⟩ | ⟨a, r, _, _, h⟩
    · rw [h]; intro _; rfl
    · rw [h]; intro h; cases h
  rw [hsay]
  generalize Lib.cut s [61] = C at *
  obtain ⟨n, v, b⟩ := C
  simp only at hc hno HC ⊢
  clear hsay
  have HM := Lib.hid hm0; have HB0 := Lib.hid hal; have HR0 := Lib.hid hr
  have hvn : v.length ≤ 4294967200 := by omega
  have hnn : n.length ≤ 4294967200 := by omega
  have HT := Lib.hid (fun W => token_any (bs n) W (by rw [bs_size]; unfold maxLen; omega))
  have HV := Lib.hid (fun W => token_any (bs v) W (by rw [bs_size]; unfold maxLen; omega))
  have HU := Lib.hid (fun W => unquote_any (bs v) W (by rw [bs_size]; omega))
  have HL := Lib.hid (fun W => lower_any (bs n) W (by rw [bs_size]; unfold maxLen; omega))
  clear hm0 hal hr hm hc hvn hnn hs
  -- a directive stored into the result's block
  have HN : Hid (∀ w1 : World, dbk w1 w.heap.size (dvA dv0) → Below w.heap.size w w1 → ∀ d : Dv, dbk (putD w1 w.heap.size d) w.heap.size (dvA d) ∧ Below w.heap.size w (putD w1 w.heap.size d)) := fun w1 h1 h2 d => ⟨h1.putd d, putD_below h2 (Nat.le_refl _) d⟩
  cases ht : token n
  · simp only [Bool.false_eq_true, if_false]
    go_enter Try.func75, Try.ntmps75
    go_wp2_with fail
    refine (HC.out _ HM.out).mono ?_
    rintro e w1 ⟨rfl, hb⟩
    have HB1 := Lib.hid (HB0.out.trans (hb.mono HB0.out.size)); have HR1 := Lib.hid (HR0.out.below hb); clear hb HB0 HR0
    go_wp2_with fail
    refine (HT.out _).mono ?_
    rw [bs_data, ht]
    rintro e w2 ⟨rfl, rfl⟩
    obtain ⟨a0, b0, a1, b1, a2, b2, a3, b3⟩ := HR1.out.asks (.string (bs (dv0).1)) (.string (bs (dv0).2.1)) (.bool (dv0).2.2.1)
    have hq := HN.out _ HR1.out HB1.out (dv0)
    obtain ⟨c0, c1, c2, c3⟩ := hq.1.four
    have HQ := Lib.hid hq.2; clear hq
    simp only [putD, dv0, bs_nil] at c0 c1 c2 c3 HQ a0 a1 a2 a3 b0 b1 b2 b3
    go_wp2_with fail
    refine bodyPost_ret (v := .tuple #[.agg #[.string ⟨#[]⟩, .string ⟨#[]⟩, .bool false, .string ⟨#[]⟩], .bool false]) (by simp [results, Try.results75, go_sem, c0, c1, c2, c3]) rfl ?_
    exact ⟨rfl, HQ.out⟩
  · cases hb0 : b
    · have hv := hno hb0
      have hs0 : (some (lower n, [], false, []) : Option Dv) = some (lower n, v, false, []) := by rw [hv]
      subst hb0
      clear hno HV HU
      simp only [Bool.false_eq_true, if_false, if_true, hs0]
      clear hs0 hv
      go_enter Try.func75, Try.ntmps75
      go_wp2_with fail
      refine (HC.out _ HM.out).mono ?_
      rintro e w1 ⟨rfl, hb⟩
      have HB1 := Lib.hid (HB0.out.trans (hb.mono HB0.out.size)); have HR1 := Lib.hid (HR0.out.below hb); clear hb HB0 HR0
      go_wp2_with fail
      refine (HT.out _).mono ?_
      rw [bs_data, ht]
      rintro e w2 ⟨rfl, rfl⟩
      go_wp2_with fail
      refine (HL.out _).mono ?_
      rw [bs_data]
      rintro e w2 ⟨rfl, hb⟩
      have HB2 := Lib.hid (HB1.out.trans (hb.mono HB1.out.size)); have HR2 := Lib.hid (HR1.out.below hb); clear hb HB1 HR1
      obtain ⟨a0, b0, a1, b1, a2, b2, a3, b3⟩ := HR2.out.asks (.string (bs (lower n))) (.string (bs v)) (.bool false)
      have hq := HN.out _ HR2.out HB2.out (lower n, v, false, [])
      obtain ⟨c0, c1, c2, c3⟩ := hq.1.four
      have HQ := Lib.hid hq.2; clear hq
      simp only [putD, dv0, bs_nil] at c0 c1 c2 c3 HQ a0 a1 a2 a3 b0 b1 b2 b3
      go_wp2_with fail
      refine bodyPost_ret (v := .tuple #[.agg #[.string (bs (lower n)), .string (bs v), .bool false, .string ⟨#[]⟩], .bool true]) (by simp [results, Try.results75, go_sem, c0, c1, c2, c3]) rfl ?_
      exact ⟨rfl, HQ.out⟩
    · subst hb0
      clear hno
      cases hv : token v
      · cases hu : unquote v with
        | none =>
          have hue := unq_no hu
          simp only [Bool.false_eq_true, if_false, if_true]
          go_enter Try.func75, Try.ntmps75
          go_wp2_with fail
          refine (HC.out _ HM.out).mono ?_
          rintro e w1 ⟨rfl, hb⟩
          have HB1 := Lib.hid (HB0.out.trans (hb.mono HB0.out.size)); have HR1 := Lib.hid (HR0.out.below hb); clear hb HB0 HR0
          go_wp2_with fail
          refine (HT.out _).mono ?_
          rw [bs_data, ht]
          rintro e w2 ⟨rfl, rfl⟩
          go_wp2_with fail
          refine (HV.out _).mono ?_
          rw [bs_data, hv]
          rintro e w3 ⟨rfl, rfl⟩
          go_wp2_with fail
          refine (HU.out _).mono ?_
          rw [bs_data, hue]
          rintro e w2 ⟨rfl, hb⟩
          have HB2 := Lib.hid (HB1.out.trans (hb.mono HB1.out.size)); have HR2 := Lib.hid (HR1.out.below hb); clear hb HB1 HR1
          obtain ⟨a0, b0, a1, b1, a2, b2, a3, b3⟩ := HR2.out.asks (.string (bs (dv0).1)) (.string (bs (dv0).2.1)) (.bool (dv0).2.2.1)
          have hq := HN.out _ HR2.out HB2.out (dv0)
          obtain ⟨c0, c1, c2, c3⟩ := hq.1.four
          have HQ := Lib.hid hq.2; clear hq
          simp only [putD, dv0, bs_nil] at c0 c1 c2 c3 HQ a0 a1 a2 a3 b0 b1 b2 b3
          go_wp2_with fail
          refine bodyPost_ret (v := .tuple #[.agg #[.string ⟨#[]⟩, .string ⟨#[]⟩, .bool false, .string ⟨#[]⟩], .bool false]) (by simp [results, Try.results75, go_sem, c0, c1, c2, c3]) rfl ?_
          exact ⟨rfl, HQ.out⟩
        | some p =>
          obtain ⟨hus, hue⟩ := unq_some hu
          simp only [Bool.false_eq_true, if_false, if_true]
          go_enter Try.func75, Try.ntmps75
          go_wp2_with fail
          refine (HC.out _ HM.out).mono ?_
          rintro e w1 ⟨rfl, hb⟩
          have HB1 := Lib.hid (HB0.out.trans (hb.mono HB0.out.size)); have HR1 := Lib.hid (HR0.out.below hb); clear hb HB0 HR0
          go_wp2_with fail
          refine (HT.out _).mono ?_
          rw [bs_data, ht]
          rintro e w2 ⟨rfl, rfl⟩
          go_wp2_with fail
          refine (HV.out _).mono ?_
          rw [bs_data, hv]
          rintro e w3 ⟨rfl, rfl⟩
          go_wp2_with fail
          refine (HU.out _).mono ?_
          rw [bs_data, hue, hus]
          rintro e w2 ⟨rfl, hb⟩
          have HB2 := Lib.hid (HB1.out.trans (hb.mono HB1.out.size)); have HR2 := Lib.hid (HR1.out.below hb); clear hb HB1 HR1
          go_wp2_with fail
          refine (HL.out _).mono ?_
          rw [bs_data]
          rintro e w3 ⟨rfl, hb⟩
          have HB3 := Lib.hid (HB2.out.trans (hb.mono HB2.out.size)); have HR3 := Lib.hid (HR2.out.below hb); clear hb HB2 HR2
          obtain ⟨a0, b0, a1, b1, a2, b2, a3, b3⟩ := HR3.out.asks (.string (bs (lower n))) (.string (bs p)) (.bool true)
          have hq := HN.out _ HR3.out HB3.out ((lower n, p, true, []))
          obtain ⟨c0, c1, c2, c3⟩ := hq.1.four
          have HQ := Lib.hid hq.2; clear hq
          simp only [putD, dv0, bs_nil] at c0 c1 c2 c3 HQ a0 a1 a2 a3 b0 b1 b2 b3
          go_wp2_with fail
          refine bodyPost_ret (v := .tuple #[.agg #[.string (bs (lower n)), .string (bs p), .bool true, .string ⟨#[]⟩], .bool true]) (by simp [results, Try.results75, go_sem, c0, c1, c2, c3]) rfl ?_
          exact ⟨rfl, HQ.out⟩
      · simp only [if_true]
        go_enter Try.func75, Try.ntmps75
        go_wp2_with fail
        refine (HC.out _ HM.out).mono ?_
        rintro e w1 ⟨rfl, hb⟩
        have HB1 := Lib.hid (HB0.out.trans (hb.mono HB0.out.size)); have HR1 := Lib.hid (HR0.out.below hb); clear hb HB0 HR0
        go_wp2_with fail
        refine (HT.out _).mono ?_
        rw [bs_data, ht]
        rintro e w2 ⟨rfl, rfl⟩
        go_wp2_with fail
        refine (HV.out _).mono ?_
        rw [bs_data, hv]
        rintro e w3 ⟨rfl, rfl⟩
        go_wp2_with fail
        refine (HL.out _).mono ?_
        rw [bs_data]
        rintro e w2 ⟨rfl, hb⟩
        have HB2 := Lib.hid (HB1.out.trans (hb.mono HB1.out.size)); have HR2 := Lib.hid (HR1.out.below hb); clear hb HB1 HR1
        obtain ⟨a0, b0, a1, b1, a2, b2, a3, b3⟩ := HR2.out.asks (.string (bs (lower n))) (.string (bs v)) (.bool true)
        have hq := HN.out _ HR2.out HB2.out ((lower n, v, true, []))
        obtain ⟨c0, c1, c2, c3⟩ := hq.1.four
        have HQ := Lib.hid hq.2; clear hq
        simp only [putD, dv0, bs_nil] at c0 c1 c2 c3 HQ a0 a1 a2 a3 b0 b1 b2 b3
        go_wp2_with fail
        refine bodyPost_ret (v := .tuple #[.agg #[.string (bs (lower n)), .string (bs v), .bool true, .string ⟨#[]⟩], .bool true]) (by simp [results, Try.results75, go_sem, c0, c1, c2, c3]) rfl ?_
        exact ⟨rfl, HQ.out⟩
end Go.Proofs.Ytonioemenjjajaa
