/- An entry that comes in: all of it, and what its texts weigh. -/
import Derived.Test.YtdaiielhohdgiaaDoorKOpen
import Derived.Test.YtdaiielhohdgiaaDoorKEnt
namespace Go.Proofs.YtdaiielhohdgiaaDoor
open Go.Joins Go.ChangeShapes Go.WideShapes Go.ChangeAt Go.RowKit Go.Deep
set_option maxRecDepth 100000

section
variable {H : Type} {enc : TypeId × Value → H} {W : World} {base : Nat} {v : Value} {d : DataW H} {ps : List MemPlace}
/-- what is known of an entry that came in -/
structure InRe (W : World) (e : En) (vf vv : Value) : Prop where
  fl : FL W vf e.fs
  vl : FL W vv e.vy
  fz : SzF e.fs
  vz : SzF e.vy
  re : e.re.length ≤ 140737488351232
  bo : e.bo.length ≤ 140737488351232
theorem open_cellZr {c : Value} {n : Nat} {y : DataW H × List MemPlace} (hf : DataW.trod enc Tryd.prog W 0 (fun _ => true) true n 9 [c] = some y) (hw : ∀ n ∈ y.1.weights Tryd.prog 9, n ≤ 140737488351232) : ∃ l : List UInt8, c = .string (bs l) ∧ l.length ≤ 140737488351232 := by
  obtain ⟨s0, e0, d0, _⟩ := DataW.trod_string Tryd.underlying9 hf
  obtain rfl : c = .string s0 := by simpa using e0
  refine ⟨s0.data.toList, by rw [bs_self], hw _ ?_⟩
  rw [d0]
  unfold DataW.weights
  exact List.mem_singleton.2 rfl
theorem open_cellFr {c : Value} {n : Nat} {y : DataW H × List MemPlace} (hf : DataW.trod enc Tryd.prog W 0 (fun _ => true) true n 22 [c] = some y) (hw : ∀ n ∈ y.1.weights Tryd.prog 22, n ≤ 140737488351232) : ∃ L : List Fld, FL W c L ∧ SzF L := by
  obtain ⟨L, _, _, _, _, hfl, _, hl, hd⟩ := open_cellFd hf
  refine ⟨L, hfl, ?_, hl⟩
  rcases hd with rfl | ⟨sp, hd⟩
  · exact fun j hj => absurd hj (by simp)
  · rw [hd] at hw
    exact fields_sized hw
theorem open_argR (hv : Value.okWide Tryd.prog W .any base 26 v) (h : DataW.Trod enc Tryd.prog W 0 (fun _ => true) true 26 v d ps) (hw : ∀ n ∈ d.weights Tryd.prog 26, n ≤ 140737488351232) :
    ∃ (e : En) (vf vv : Value), v = entV e vf vv ∧ InRe W e vf vv := by
  have hE := Tryd.underlying26
  have hR := Tryd.underlying24
  have hC : Tryd.prog.cellsOf 26 = 8 := by kernel_rfl
  have kR : Tryd.prog.cellsOf 24 = 5 := by kernel_rfl
  have kS : Tryd.prog.cellsOf 9 = 1 := by kernel_rfl
  have kI : Tryd.prog.cellsOf 3 = 1 := by kernel_rfl
  have kL : Tryd.prog.cellsOf 2 = 1 := by kernel_rfl
  have kF : Tryd.prog.cellsOf 22 = 1 := by kernel_rfl
  obtain ⟨cs, rfl, hsz⟩ := okWide_struct hE hv
  obtain ⟨c0, c1, c2, c3, c4, c5, c6, c7, rfl⟩ := array8 (hsz.trans hC)
  obtain ⟨fuel, hf⟩ := h
  obtain ⟨xs, n, _, hx, _, hxl, hg⟩ := DataW.trod_struct hE hf
  match xs, hxl with
  | [y0, y1, y2, y3], _ =>
    have g0 : DataW.trod enc Tryd.prog W 0 (fun _ => true) true n 24 (([c0, c1, c2, c3, c4, c5, c6, c7].drop 0).take (Tryd.prog.cellsOf 24)) = some y0 := hg 0 _ rfl
    have g1 : DataW.trod enc Tryd.prog W 0 (fun _ => true) true n 2 (([c0, c1, c2, c3, c4, c5, c6, c7].drop 5).take (Tryd.prog.cellsOf 2)) = some y1 := hg 1 _ rfl
    have g2 : DataW.trod enc Tryd.prog W 0 (fun _ => true) true n 2 (([c0, c1, c2, c3, c4, c5, c6, c7].drop 6).take (Tryd.prog.cellsOf 2)) = some y2 := hg 2 _ rfl
    have g3 : DataW.trod enc Tryd.prog W 0 (fun _ => true) true n 22 (([c0, c1, c2, c3, c4, c5, c6, c7].drop 7).take (Tryd.prog.cellsOf 22)) = some y3 := hg 3 _ rfl
    rw [kR] at g0
    rw [kL] at g1 g2
    rw [kF] at g3
    replace g0 : DataW.trod enc Tryd.prog W 0 (fun _ => true) true n 24 [c0, c1, c2, c3, c4] = some y0 := g0
    replace g1 : DataW.trod enc Tryd.prog W 0 (fun _ => true) true n 2 [c5] = some y1 := g1
    replace g2 : DataW.trod enc Tryd.prog W 0 (fun _ => true) true n 2 [c6] = some y2 := g2
    replace g3 : DataW.trod enc Tryd.prog W 0 (fun _ => true) true n 22 [c7] = some y3 := g3
    obtain ⟨zs, m, _, hz, _, hzl, hk⟩ := DataW.trod_struct hR g0
    match zs, hzl with
    | [z0, z1, z2, z3, z4], _ =>
      have k0 : DataW.trod enc Tryd.prog W 0 (fun _ => true) true m 3 (([c0, c1, c2, c3, c4].drop 0).take (Tryd.prog.cellsOf 3)) = some z0 := hk 0 _ rfl
      have k1 : DataW.trod enc Tryd.prog W 0 (fun _ => true) true m 9 (([c0, c1, c2, c3, c4].drop 1).take (Tryd.prog.cellsOf 9)) = some z1 := hk 1 _ rfl
      have k2 : DataW.trod enc Tryd.prog W 0 (fun _ => true) true m 3 (([c0, c1, c2, c3, c4].drop 2).take (Tryd.prog.cellsOf 3)) = some z2 := hk 2 _ rfl
      have k3 : DataW.trod enc Tryd.prog W 0 (fun _ => true) true m 22 (([c0, c1, c2, c3, c4].drop 3).take (Tryd.prog.cellsOf 22)) = some z3 := hk 3 _ rfl
      have k4 : DataW.trod enc Tryd.prog W 0 (fun _ => true) true m 9 (([c0, c1, c2, c3, c4].drop 4).take (Tryd.prog.cellsOf 9)) = some z4 := hk 4 _ rfl
      rw [kI] at k0 k2
      rw [kS] at k1 k4
      rw [kF] at k3
      replace k0 : DataW.trod enc Tryd.prog W 0 (fun _ => true) true m 3 [c0] = some z0 := k0
      replace k1 : DataW.trod enc Tryd.prog W 0 (fun _ => true) true m 9 [c1] = some z1 := k1
      replace k2 : DataW.trod enc Tryd.prog W 0 (fun _ => true) true m 3 [c2] = some z2 := k2
      replace k3 : DataW.trod enc Tryd.prog W 0 (fun _ => true) true m 22 [c3] = some z3 := k3
      replace k4 : DataW.trod enc Tryd.prog W 0 (fun _ => true) true m 9 [c4] = some z4 := k4
      have hw1 : ∀ q, q ∈ DataW.weightsEach Tryd.prog [24, 2, 2, 22] [y0.1, y1.1, y2.1, y3.1] → q ≤ 140737488351232 := fun q hq => hw q (by
        rw [(Prod.mk.inj hx).1]
        unfold DataW.weights
        rw [hE]
        exact hq)
      have hw2 : ∀ q, q ∈ DataW.weightsEach Tryd.prog [3, 9, 3, 22, 9] [z0.1, z1.1, z2.1, z3.1, z4.1] → q ≤ 140737488351232 := fun q hq => hw1 q (by
        rw [DataW.weightsEach, List.mem_append]
        left
        rw [hz]
        unfold DataW.weights
        rw [hR]
        exact hq)
      simp only [DataW.weightsEach, List.mem_append, List.append_nil] at hw1 hw2
      obtain ⟨st, rfl⟩ := open_cellId k0
      obtain ⟨re, rfl, hre⟩ := open_cellZr k1 (fun q hq => hw2 q (.inr (.inl hq)))
      obtain ⟨mi, rfl⟩ := open_cellId k2
      obtain ⟨l, hfl, hfz⟩ := open_cellFr k3 (fun q hq => hw2 q (.inr (.inr (.inr (.inl hq)))))
      obtain ⟨bo, rfl, hbo⟩ := open_cellZr k4 (fun q hq => hw2 q (.inr (.inr (.inr (.inr hq)))))
      obtain ⟨asked, rfl, _⟩ := open_cellLd g1
      obtain ⟨got, rfl, _⟩ := open_cellLd g2
      obtain ⟨vl, hvl, hvz⟩ := open_cellFr g3 (fun q hq => hw1 q (.inr (.inr (.inr hq))))
      exact ⟨⟨st, re, mi, l, bo, asked, got, vl⟩, c3, c7, rfl, hfl, hvl, hfz, hvz, hre, hbo⟩
end
end Go.Proofs.YtdaiielhohdgiaaDoor
