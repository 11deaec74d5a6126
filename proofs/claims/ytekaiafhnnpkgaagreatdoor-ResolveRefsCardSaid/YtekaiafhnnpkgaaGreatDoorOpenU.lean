/- What comes in: URIs: what is read of them. -/
import Derived.Test.YtekaiafhnnpkgaaGreatDoorUriF
import Derived.Test.YtekaiafhnnpkgaaGreatDoorRows
import Derived.Deep.Slices
import Derived.Deep.Fields
import Derived.Lib.SmallJoins
import Derived.OpenShut
import Derived.Carry
namespace Go.Proofs.YtekaiafhnnpkgaaGreatDoor
open Go.Joins Go.ChangeShapes Go.WideShapes Go.ChangeAt Go.RowKit Go.Deep
set_option maxRecDepth 100000

theorem arrayU6 {α : Type} {a : Array α} (h : a.size = 6) : ∃ c0 c1 c2 c3 c4 c5, a = #[c0, c1, c2, c3, c4, c5] := by
  obtain ⟨l⟩ := a
  match l, h with
  | [c0, c1, c2, c3, c4, c5], _ => exact ⟨c0, c1, c2, c3, c4, c5, rfl⟩
section
variable {H : Type} {enc : TypeId × Value → H} {W : World} {base : Nat} {v : Value} {d : DataW H} {ps : List MemPlace}
theorem open_aggU {t : TypeId} {f0 f1 f2 f3 f4 f5 : Field} (hs : Tryz.prog.underlying t = some (.struct #[f0, f1, f2, f3, f4, f5])) (hone : oneCellFields Tryz.prog #[f0, f1, f2, f3, f4, f5] = true) (hC : Tryz.prog.cellsOf t = 6)
    (hv : Value.okWide Tryz.prog W .any base t v) (h : DataW.Trod enc Tryz.prog W 0 (fun _ => true) true t v d ps) :
    ∃ (v0 v1 v2 v3 v4 v5 : Value) (y0 y1 y2 y3 y4 y5 : DataW H × List MemPlace) (n : Nat), v = .agg #[v0, v1, v2, v3, v4, v5] ∧ d = .agg [y0.1, y1.1, y2.1, y3.1, y4.1, y5.1] ∧
      DataW.trod enc Tryz.prog W 0 (fun _ => true) true n f0.type [v0] = some y0 ∧ DataW.trod enc Tryz.prog W 0 (fun _ => true) true n f1.type [v1] = some y1 ∧ DataW.trod enc Tryz.prog W 0 (fun _ => true) true n f2.type [v2] = some y2 ∧
      DataW.trod enc Tryz.prog W 0 (fun _ => true) true n f3.type [v3] = some y3 ∧ DataW.trod enc Tryz.prog W 0 (fun _ => true) true n f4.type [v4] = some y4 ∧ DataW.trod enc Tryz.prog W 0 (fun _ => true) true n f5.type [v5] = some y5 := by
  obtain ⟨cs, rfl, hsz⟩ := okWide_struct hs hv
  obtain ⟨c0, c1, c2, c3, c4, c5, rfl⟩ := arrayU6 (hsz.trans hC)
  obtain ⟨fuel, hf⟩ := h
  obtain ⟨xs, n, _, hx, _, hxl, hg⟩ := DataW.trod_struct hs hf
  match xs, hxl with
  | [y0, y1, y2, y3, y4, y5], _ =>
    have g0 := hg 0 f0 rfl
    have g1 := hg 1 f1 rfl
    have g2 := hg 2 f2 rfl
    have g3 := hg 3 f3 rfl
    have g4 := hg 4 f4 rfl
    have g5 := hg 5 f5 rfl
    obtain ⟨o0, k0⟩ := hone_of hone 0 f0 rfl
    obtain ⟨o1, k1⟩ := hone_of hone 1 f1 rfl
    obtain ⟨o2, k2⟩ := hone_of hone 2 f2 rfl
    obtain ⟨o3, k3⟩ := hone_of hone 3 f3 rfl
    obtain ⟨o4, k4⟩ := hone_of hone 4 f4 rfl
    obtain ⟨o5, k5⟩ := hone_of hone 5 f5 rfl
    simp only [Prod.mk.injEq] at hx
    exact ⟨c0, c1, c2, c3, c4, c5, y0, y1, y2, y3, y4, y5, n, rfl, by rw [hx.1]; rfl, by simpa [Value.cells, o0, k0] using g0, by simpa [Value.cells, o1, k1] using g1, by simpa [Value.cells, o2, k2] using g2, by simpa [Value.cells, o3, k3] using g3, by simpa [Value.cells, o4, k4] using g4, by simpa [Value.cells, o5, k5] using g5⟩
theorem open_strU {c : Value} {n : Nat} {y : DataW H × List MemPlace} (hf : DataW.trod enc Tryz.prog W 0 (fun _ => true) true n 9 [c] = some y) : ∃ l : List UInt8, c = .string (bs l) ∧ y.1 = .lit (.string l) := by
  obtain ⟨s0, e0, d0, _⟩ := DataW.trod_string Tryz.underlying9 hf
  obtain rfl : c = .string s0 := by simpa using e0
  exact ⟨s0.data.toList, by rw [bs_self], by rw [d0]⟩
/-- a URI that came in, and what it is -/
theorem open_argUri (hv : Value.okWide Tryz.prog W .any base 23 v) (h : DataW.Trod enc Tryz.prog W 0 (fun _ => true) true 23 v d ps) :
    ∃ u : Ur, v = .agg #[.string (bs u.sc), .string (bs u.ho), .int .i64 u.po, .string (bs u.pa), .string (bs u.qu), .bool u.hq] ∧ (Lit.int .i64 u.po).wf = true ∧
      d = .agg [.lit (.string u.sc), .lit (.string u.ho), .lit (.int .i64 u.po), .lit (.string u.pa), .lit (.string u.qu), .lit (.bool u.hq)] := by
  obtain ⟨v0, v1, v2, v3, v4, v5, y0, y1, y2, y3, y4, y5, n, rfl, rfl, t0, t1, t2, t3, t4, t5⟩ := open_aggU Tryz.underlying23 (by kernel_rfl) (by kernel_rfl) hv h
  obtain ⟨sc, rfl, z0⟩ := open_strU t0
  obtain ⟨ho, rfl, z1⟩ := open_strU t1
  obtain ⟨po, e2, z2, w2⟩ := DataW.trod_int Tryz.underlying3 t2
  obtain ⟨pa, rfl, z3⟩ := open_strU t3
  obtain ⟨qu, rfl, z4⟩ := open_strU t4
  obtain ⟨hq, e5, z5⟩ := DataW.trod_bool Tryz.underlying4 t5
  obtain rfl : v2 = .int .i64 po := by simpa using e2
  obtain rfl : v5 = .bool hq := by simpa using e5
  exact ⟨⟨sc, ho, po, pa, qu, hq⟩, rfl, w2, by rw [z0, z1, z2, z3, z4, z5]⟩
end
theorem weights_tail {H : Type} {t : TypeId} {d : DataW H} {ts : List TypeId} {ds : List (DataW H)} {p : Nat → Bool} (h : (DataW.weightsEach Tryz.prog (t :: ts) (d :: ds)).all p = true) : (DataW.weightsEach Tryz.prog ts ds).all p = true := by
  simp only [DataW.weightsEach, List.all_append, Bool.and_eq_true] at h
  exact h.2
/-- a URI's texts are no longer than what one row may reach -/
theorem uri_sized {H : Type} {ts : List TypeId} {ds : List (DataW H)} {u : Ur}
    (h : (DataW.weightsEach Tryz.prog (23 :: ts) (.agg [.lit (.string u.sc), .lit (.string u.ho), .lit (.int .i64 u.po), .lit (.string u.pa), .lit (.string u.qu), .lit (.bool u.hq)] :: ds)).all (· ≤ reachBytes) = true) :
    u.sc.length ≤ 140737488351232 ∧ u.ho.length ≤ 140737488351232 ∧ u.pa.length ≤ 140737488351232 ∧ u.qu.length ≤ 140737488351232 := by
  rw [List.all_eq_true] at h
  have hu := Tryz.underlying23
  have h1 := h u.sc.length (by simp [DataW.weightsEach, DataW.weights, hu])
  have h2 := h u.ho.length (by simp [DataW.weightsEach, DataW.weights, hu])
  have h3 := h u.pa.length (by simp [DataW.weightsEach, DataW.weights, hu])
  have h4 := h u.qu.length (by simp [DataW.weightsEach, DataW.weights, hu])
  exact ⟨of_decide_eq_true h1, of_decide_eq_true h2, of_decide_eq_true h3, of_decide_eq_true h4⟩
end Go.Proofs.YtekaiafhnnpkgaaGreatDoor
