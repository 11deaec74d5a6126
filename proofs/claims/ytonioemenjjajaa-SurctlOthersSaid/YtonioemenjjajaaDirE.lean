/- The first directive of a name: the directive layer's Find, and the document's. -/
import Derived.Test.YtonioemenjjajaaDirB
import Derived.Test.YtonioemenjjajaaTextB
namespace Go.Proofs.Ytonioemenjjajaa
open Go.RowKit

theorem dbk.other {w : World} {b : Nat} {cs : Array Value} (h : dbk w b cs) {a : Addr} (ha : b ≠ a.block) (u : Value) : dbk (w.setCell a u) b cs := by
  obtain ⟨T, h⟩ := h
  exact ⟨T, by rw [Below.heap_setCell _ _ _ _ ha]; exact h⟩
theorem dbk.same0 {w : World} {b : Nat} {d : Dv} (h : dbk w b (dvA d)) : dbk (w.setCell ⟨b, 0, none⟩ (.string (bs d.1))) b (dvA d) := by simpa [dvA] using h.set 0 (.string (bs d.1))
theorem dbk.same1 {w : World} {b : Nat} {d : Dv} (h : dbk w b (dvA d)) : dbk (w.setCell ⟨b, 1, none⟩ (.string (bs d.2.1))) b (dvA d) := by simpa [dvA] using h.set 1 (.string (bs d.2.1))
theorem dbk.same3 {w : World} {b : Nat} {d : Dv} (h : dbk w b (dvA d)) : dbk (w.setCell ⟨b, 3, none⟩ (.string (bs d.2.2.2))) b (dvA d) := by simpa [dvA] using h.set 3 (.string (bs d.2.2.2))
theorem dbk.zero {w : World} {b : Nat} (h : dbk w b (dvA dv0)) (d : Dv) :
    w.cell? ⟨b, 0, none⟩ = some (.string ⟨#[]⟩) ∧ w.frozen? ⟨b, 0, none⟩ = false ∧ (w.setCell ⟨b, 0, none⟩ (.string (bs d.1))).cell? ⟨b, 1, none⟩ = some (.string ⟨#[]⟩) ∧ (w.setCell ⟨b, 0, none⟩ (.string (bs d.1))).frozen? ⟨b, 1, none⟩ = false ∧
    ((w.setCell ⟨b, 0, none⟩ (.string (bs d.1))).setCell ⟨b, 1, none⟩ (.string (bs d.2.1))).cell? ⟨b, 2, none⟩ = some (.bool false) ∧ ((w.setCell ⟨b, 0, none⟩ (.string (bs d.1))).setCell ⟨b, 1, none⟩ (.string (bs d.2.1))).frozen? ⟨b, 2, none⟩ = false ∧
    (((w.setCell ⟨b, 0, none⟩ (.string (bs d.1))).setCell ⟨b, 1, none⟩ (.string (bs d.2.1))).setCell ⟨b, 2, none⟩ (.bool d.2.2.1)).cell? ⟨b, 3, none⟩ = some (.string ⟨#[]⟩) ∧ (((w.setCell ⟨b, 0, none⟩ (.string (bs d.1))).setCell ⟨b, 1, none⟩ (.string (bs d.2.1))).setCell ⟨b, 2, none⟩ (.bool d.2.2.1)).frozen? ⟨b, 3, none⟩ = false := h.asks _ _ _
theorem dbk.got {w : World} {b : Nat} {d0 : Dv} (h : dbk w b (dvA d0)) (d : Dv) : (putD w b d).cell? ⟨b, 0, none⟩ = some (.string (bs d.1)) ∧ (putD w b d).cell? ⟨b, 1, none⟩ = some (.string (bs d.2.1)) ∧ (putD w b d).cell? ⟨b, 2, none⟩ = some (.bool d.2.2.1) ∧ (putD w b d).cell? ⟨b, 3, none⟩ = some (.string (bs d.2.2.2)) := (h.putd d).four

set_option maxRecDepth 100000 in
set_option maxHeartbeats 2000000 in
theorem copied_anyD (d : Dv) (w : World) (h1 : d.1.length ≤ 140737488351232) (h2 : d.2.1.length ≤ 140737488351232) (h3 : d.2.2.2.length ≤ 140737488351232) :
    Calls Try.prog 60 #[.agg #[.string (bs d.1), .string (bs d.2.1), .bool d.2.2.1, .string (bs d.2.2.2)]] w fun e w' => e = .returned (.agg #[.string (bs d.1), .string (bs d.2.1), .bool d.2.2.1, .string (bs d.2.2.2)]) ∧ Below w.heap.size w w' := by
  have hD : dbk ((w.alloc (.cells #[.string (bs d.1), .string (bs d.2.1), .bool d.2.2.1, .string (bs d.2.2.2)] 39)).alloc (.cells #[.string ⟨#[]⟩, .string ⟨#[]⟩, .bool false, .string ⟨#[]⟩] 39)) w.heap.size (dvA d) := (dbk.new w _ _).alloc _
  have hR := res_new (w.alloc (.cells #[.string (bs d.1), .string (bs d.2.1), .bool d.2.2.1, .string (bs d.2.2.2)] 39))
  rw [World.size_alloc] at hR
  have hB : Below w.heap.size w ((w.alloc (.cells #[.string (bs d.1), .string (bs d.2.1), .bool d.2.2.1, .string (bs d.2.2.2)] 39)).alloc (.cells #[.string ⟨#[]⟩, .string ⟨#[]⟩, .bool false, .string ⟨#[]⟩] 39)) := ((Below.refl _ _).alloc (Nat.le_refl _) _).alloc (by simp) _
  have C1 := Lib.hid (fun W => clone_any (bs d.1) W (by rw [bs_size]; omega))
  have C2 := Lib.hid (fun W => clone_any (bs d.2.1) W (by rw [bs_size]; omega))
  have C3 := Lib.hid (fun W => clone_any (bs d.2.2.2) W (by rw [bs_size]; omega))
  have HD := Lib.hid hD; have HR := Lib.hid hR; have HB := Lib.hid hB
  clear hD hR hB h1 h2 h3
  go_enter Try.func60, Try.ntmps60
  obtain ⟨c0, c1, c2, c3⟩ := HD.out.four
  go_wp2_with fail
  refine (C1.out _).mono ?_
  rintro e w1 ⟨rfl, hb⟩
  have HD1 := Lib.hid (HD.out.below hb); have HR1 := Lib.hid (HR.out.below hb); have HB1 := Lib.hid (HB.out.trans (hb.mono HB.out.size))
  clear HD HR HB hb c0 c1 c2 c3
  obtain ⟨c0, c1, c2, c3⟩ := HD1.out.four
  have f0 := HD1.out.free 0
  have q1 := HD1.out.same0.cell 1 _ rfl
  have HD2 := Lib.hid HD1.out.same0; have HR2 := Lib.hid (HR1.out.other (a := ⟨w.heap.size, 0, none⟩) (Nat.ne_of_gt (Nat.lt_succ_self _)) (.string (bs d.1))); have HB2 := Lib.hid (HB1.out.setCell (p := ⟨w.heap.size, 0, none⟩) (Nat.le_refl _) (.string (bs d.1)))
  clear HD1 HR1 HB1
  go_wp2_with fail
  refine (C2.out _).mono ?_
  rintro e w2 ⟨rfl, hb⟩
  have HDa2 := Lib.hid (HD2.out.below hb); have HRa2 := Lib.hid (HR2.out.below hb); have HBa2 := Lib.hid (HB2.out.trans (hb.mono HB2.out.size))
  clear HD2 HR2 HB2 hb c0 c1 c2 c3 f0 q1
  obtain ⟨c0, c1, c2, c3⟩ := HDa2.out.four
  have f0 := HDa2.out.free 1
  have q1 := HDa2.out.same1.four
  obtain ⟨q0, q1, q2, q3⟩ := q1
  have HD3 := Lib.hid HDa2.out.same1; have HR3 := Lib.hid (HRa2.out.other (a := ⟨w.heap.size, 1, none⟩) (Nat.ne_of_gt (Nat.lt_succ_self _)) (.string (bs d.2.1))); have HB3 := Lib.hid (HBa2.out.setCell (p := ⟨w.heap.size, 1, none⟩) (Nat.le_refl _) (.string (bs d.2.1)))
  clear HDa2 HRa2 HBa2
  go_wp2_with fail
  refine (C3.out _).mono ?_
  rintro e w3 ⟨rfl, hb⟩
  have HDa3 := Lib.hid (HD3.out.below hb); have HRa3 := Lib.hid (HR3.out.below hb); have HBa3 := Lib.hid (HB3.out.trans (hb.mono HB3.out.size))
  clear HD3 HR3 HB3 hb c0 c1 c2 c3 f0 q0 q1 q2 q3
  obtain ⟨c0, c1, c2, c3⟩ := HDa3.out.four
  have f0 := HDa3.out.free 3
  obtain ⟨z0, z1, z2, z3⟩ := HRa3.out.four
  have n0 := HRa3.out.free 0
  have n1 := HRa3.out.free 1
  have n2 := HRa3.out.free 2
  have n3 := HRa3.out.free 3
  have hr := HRa3.out.other (a := ⟨w.heap.size, 3, none⟩) (Nat.ne_of_gt (Nat.lt_succ_self _)) (.string (bs d.2.2.2))
  obtain ⟨g0, g1, g2, g3⟩ := hr.got d
  have hq := putD_below (b := w.heap.size + 1) (HBa3.out.setCell (p := ⟨w.heap.size, 3, none⟩) (Nat.le_refl _) (.string (bs d.2.2.2))) (Nat.le_succ _) d
  simp only [putD, dv0, bs_nil] at hq z0 z1 z2 z3 g0 g1 g2 g3
  have HQ := Lib.hid hq; have HG := Lib.hid (And.intro g0 (And.intro g1 (And.intro g2 g3))); clear hq hr HDa3 HRa3 HBa3 g0 g1 g2 g3
  go_wp2_with fail
  obtain ⟨g0, g1, g2, g3⟩ := HG.out
  refine bodyPost_ret (v := .agg #[.string (bs d.1), .string (bs d.2.1), .bool d.2.2.1, .string (bs d.2.2.2)]) (by simp [results, Try.results60, go_sem, g0, g1, g2, g3]) rfl ?_
  exact ⟨rfl, HQ.out⟩
end Go.Proofs.Ytonioemenjjajaa
