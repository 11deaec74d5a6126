/- What stage 16's statements are given: how a reply was asked for, an entry with what its body weighs. -/
import Derived.Test.YtfobjaccpnondaaGreatDoorKOpen
namespace Go.Proofs.YtfobjaccpnondaaGreatDoor
open Go.Joins Go.ChangeShapes Go.WideShapes Go.ChangeAt Go.RowKit Go.Deep
set_option maxRecDepth 100000

theorem weights_nextX {H : Type} {t : TypeId} {d : DataW H} {ts : List TypeId} {ds : List (DataW H)} {p : Nat → Bool} (h : (DataW.weightsEach Tryz.prog (t :: ts) (d :: ds)).all p = true) : (DataW.weightsEach Tryz.prog ts ds).all p = true := by
  simp only [DataW.weightsEach, List.all_append, Bool.and_eq_true] at h
  exact h.2
theorem weights_headX {H : Type} {t : TypeId} {d : DataW H} {ts : List TypeId} {ds : List (DataW H)} (h : (DataW.weightsEach Tryz.prog (t :: ts) (d :: ds)).all (· ≤ reachBytes) = true) : ∀ n ∈ d.weights Tryz.prog t, n ≤ 140737488351232 := by
  simp only [DataW.weightsEach, List.all_append, Bool.and_eq_true, List.all_eq_true] at h
  intro n hn
  exact of_decide_eq_true (h.1 n hn)
theorem array3X {α : Type} {a : Array α} (h : a.size = 3) : ∃ c0 c1 c2, a = #[c0, c1, c2] := by
  obtain ⟨l⟩ := a
  match l, h with
  | [c0, c1, c2], _ => exact ⟨c0, c1, c2, rfl⟩
/-- how a reply was asked for -/
structure InA (W : World) (m dev : List UInt8) (fs : Value) (l : List Fld) : Prop where
  fl : FL W fs l
  big : (∀ j (hj : j < l.length), l[j].1.length ≤ 9223372036854775807 ∧ l[j].2.length ≤ 9223372036854775807)
  len : l.length ≤ 9223372036854775807
  ml : m.length ≤ 9223372036854775807
  dl : dev.length ≤ 9223372036854775807
section
variable {H : Type} {enc : TypeId × Value → H} {W : World} {base : Nat} {v : Value} {d : DataW H} {ps : List MemPlace}
theorem open_cellSX {c : Value} {n : Nat} {y : DataW H × List MemPlace} (hf : DataW.trod enc Tryz.prog W 0 (fun _ => true) true n 9 [c] = some y) : ∃ l : List UInt8, c = .string (bs l) ∧ l.length ≤ 9223372036854775807 := by
  obtain ⟨s0, e0, _, z0⟩ := DataW.trod_string Tryz.underlying9 hf
  obtain rfl : c = .string s0 := by simpa using e0
  unfold maxLen at z0
  exact ⟨s0.data.toList, by rw [bs_self], by rw [← size_len]; omega⟩
theorem open_argA (hv : Value.okWide Tryz.prog W .any base 24 v) (h : DataW.Trod enc Tryz.prog W 0 (fun _ => true) true 24 v d ps) :
    ∃ (m dev : List UInt8) (fs : Value) (l : List Fld), v = .agg #[.string (bs m), .string (bs dev), fs] ∧ InA W m dev fs l := by
  have hE := Tryz.underlying24
  have hC : Tryz.prog.cellsOf 24 = 3 := by kernel_rfl
  have kS : Tryz.prog.cellsOf 9 = 1 := by kernel_rfl
  have kF : Tryz.prog.cellsOf 22 = 1 := by kernel_rfl
  obtain ⟨cs, rfl, hsz⟩ := okWide_struct hE hv
  obtain ⟨c0, c1, c2, rfl⟩ := array3X (hsz.trans hC)
  obtain ⟨fuel, hf⟩ := h
  obtain ⟨xs, n, _, hx, _, hxl, hg⟩ := DataW.trod_struct hE hf
  match xs, hxl with
  | [y0, y1, y2], _ =>
    have g0 : DataW.trod enc Tryz.prog W 0 (fun _ => true) true n 9 (([c0, c1, c2].drop 0).take (Tryz.prog.cellsOf 9)) = some y0 := hg 0 _ rfl
    have g1 : DataW.trod enc Tryz.prog W 0 (fun _ => true) true n 9 (([c0, c1, c2].drop 1).take (Tryz.prog.cellsOf 9)) = some y1 := hg 1 _ rfl
    have g2 : DataW.trod enc Tryz.prog W 0 (fun _ => true) true n 22 (([c0, c1, c2].drop 2).take (Tryz.prog.cellsOf 22)) = some y2 := hg 2 _ rfl
    rw [kS] at g0 g1
    rw [kF] at g2
    replace g0 : DataW.trod enc Tryz.prog W 0 (fun _ => true) true n 9 [c0] = some y0 := g0
    replace g1 : DataW.trod enc Tryz.prog W 0 (fun _ => true) true n 9 [c1] = some y1 := g1
    replace g2 : DataW.trod enc Tryz.prog W 0 (fun _ => true) true n 22 [c2] = some y2 := g2
    obtain ⟨m, rfl, hm⟩ := open_cellSX g0
    obtain ⟨dev, rfl, hd⟩ := open_cellSX g1
    obtain ⟨l, _, _, _, _, hfl, hb, hl, _⟩ := open_cellFd g2
    exact ⟨m, dev, c2, l, rfl, hfl, hb, hl, hm, hd⟩
/-- an entry, and what its body weighs -/
theorem open_argE (hv : Value.okWide Tryz.prog W .any base 28 v) (h : DataW.Trod enc Tryz.prog W 0 (fun _ => true) true 28 v d ps) (hw : ∀ n ∈ d.weights Tryz.prog 28, n ≤ 140737488351232) :
    ∃ (st : Int) (re : ByteArray) (mi : Int) (fs : Value) (bo : ByteArray) (asked got : Int) (vA : Option Addr) (vn vc : Nat) (l : List Fld),
      v = .agg #[.int .i64 st, .string re, .int .i64 mi, fs, .string bo, .int .i64 asked, .int .i64 got, .slice vA vn vc] ∧ InN W fs l asked got ∧ bo.size ≤ 140737488351232 := by
  have hE := Tryz.underlying28
  have hR := Tryz.underlying26
  have hC : Tryz.prog.cellsOf 28 = 8 := by kernel_rfl
  have kR : Tryz.prog.cellsOf 26 = 5 := by kernel_rfl
  have kS : Tryz.prog.cellsOf 9 = 1 := by kernel_rfl
  have kI : Tryz.prog.cellsOf 3 = 1 := by kernel_rfl
  have kL : Tryz.prog.cellsOf 2 = 1 := by kernel_rfl
  have kF : Tryz.prog.cellsOf 22 = 1 := by kernel_rfl
  obtain ⟨cs, rfl, hsz⟩ := okWide_struct hE hv
  obtain ⟨c0, c1, c2, c3, c4, c5, c6, c7, rfl⟩ := array8 (hsz.trans hC)
  obtain ⟨fuel, hf⟩ := h
  obtain ⟨xs, n, _, hx, _, hxl, hg⟩ := DataW.trod_struct hE hf
  match xs, hxl with
  | [y0, y1, y2, y3], _ =>
    have g0 : DataW.trod enc Tryz.prog W 0 (fun _ => true) true n 26 (([c0, c1, c2, c3, c4, c5, c6, c7].drop 0).take (Tryz.prog.cellsOf 26)) = some y0 := hg 0 _ rfl
    have g1 : DataW.trod enc Tryz.prog W 0 (fun _ => true) true n 2 (([c0, c1, c2, c3, c4, c5, c6, c7].drop 5).take (Tryz.prog.cellsOf 2)) = some y1 := hg 1 _ rfl
    have g2 : DataW.trod enc Tryz.prog W 0 (fun _ => true) true n 2 (([c0, c1, c2, c3, c4, c5, c6, c7].drop 6).take (Tryz.prog.cellsOf 2)) = some y2 := hg 2 _ rfl
    have g3 : DataW.trod enc Tryz.prog W 0 (fun _ => true) true n 22 (([c0, c1, c2, c3, c4, c5, c6, c7].drop 7).take (Tryz.prog.cellsOf 22)) = some y3 := hg 3 _ rfl
    rw [kR] at g0
    rw [kL] at g1 g2
    rw [kF] at g3
    replace g0 : DataW.trod enc Tryz.prog W 0 (fun _ => true) true n 26 [c0, c1, c2, c3, c4] = some y0 := g0
    replace g1 : DataW.trod enc Tryz.prog W 0 (fun _ => true) true n 2 [c5] = some y1 := g1
    replace g2 : DataW.trod enc Tryz.prog W 0 (fun _ => true) true n 2 [c6] = some y2 := g2
    replace g3 : DataW.trod enc Tryz.prog W 0 (fun _ => true) true n 22 [c7] = some y3 := g3
    obtain ⟨zs, m, _, hz, _, hzl, hk⟩ := DataW.trod_struct hR g0
    match zs, hzl with
    | [z0, z1, z2, z3, z4], _ =>
      have k0 : DataW.trod enc Tryz.prog W 0 (fun _ => true) true m 3 (([c0, c1, c2, c3, c4].drop 0).take (Tryz.prog.cellsOf 3)) = some z0 := hk 0 _ rfl
      have k1 : DataW.trod enc Tryz.prog W 0 (fun _ => true) true m 9 (([c0, c1, c2, c3, c4].drop 1).take (Tryz.prog.cellsOf 9)) = some z1 := hk 1 _ rfl
      have k2 : DataW.trod enc Tryz.prog W 0 (fun _ => true) true m 3 (([c0, c1, c2, c3, c4].drop 2).take (Tryz.prog.cellsOf 3)) = some z2 := hk 2 _ rfl
      have k3 : DataW.trod enc Tryz.prog W 0 (fun _ => true) true m 22 (([c0, c1, c2, c3, c4].drop 3).take (Tryz.prog.cellsOf 22)) = some z3 := hk 3 _ rfl
      have k4 : DataW.trod enc Tryz.prog W 0 (fun _ => true) true m 9 (([c0, c1, c2, c3, c4].drop 4).take (Tryz.prog.cellsOf 9)) = some z4 := hk 4 _ rfl
      rw [kI] at k0 k2
      rw [kS] at k1 k4
      rw [kF] at k3
      replace k0 : DataW.trod enc Tryz.prog W 0 (fun _ => true) true m 3 [c0] = some z0 := k0
      replace k1 : DataW.trod enc Tryz.prog W 0 (fun _ => true) true m 9 [c1] = some z1 := k1
      replace k2 : DataW.trod enc Tryz.prog W 0 (fun _ => true) true m 3 [c2] = some z2 := k2
      replace k3 : DataW.trod enc Tryz.prog W 0 (fun _ => true) true m 22 [c3] = some z3 := k3
      replace k4 : DataW.trod enc Tryz.prog W 0 (fun _ => true) true m 9 [c4] = some z4 := k4
      obtain ⟨st, rfl⟩ := open_cellId k0
      obtain ⟨re, rfl⟩ := open_cellSd k1
      obtain ⟨mi, rfl⟩ := open_cellId k2
      obtain ⟨l, _, _, _, _, hfl, hb, hl, hd⟩ := open_cellFd k3
      obtain ⟨bo, eb, db, _⟩ := DataW.trod_string Tryz.underlying9 k4
      obtain rfl : c4 = .string bo := by simpa using eb
      obtain ⟨asked, rfl, wa⟩ := open_cellLd g1
      obtain ⟨got, rfl, wg⟩ := open_cellLd g2
      obtain ⟨_, vA, vn, vc, rfl, _⟩ := open_cellFd g3
      refine ⟨st, re, mi, c3, bo, asked, got, vA, vn, vc, l, rfl, ⟨hfl, hb, hl, wa, wg⟩, ?_⟩
      refine hw _ ?_
      rw [(Prod.mk.inj hx).1]
      unfold DataW.weights
      rw [hE]
      show _ ∈ DataW.weightsEach Tryz.prog [26, 2, 2, 22] [y0.1, y1.1, y2.1, y3.1]
      rw [DataW.weightsEach, List.mem_append]
      left
      rw [hz]
      unfold DataW.weights
      rw [hR]
      show _ ∈ DataW.weightsEach Tryz.prog [3, 9, 3, 22, 9] [z0.1, z1.1, z2.1, z3.1, z4.1]
      rw [DataW.weightsEach, List.mem_append]
      right
      rw [DataW.weightsEach, List.mem_append]
      right
      rw [DataW.weightsEach, List.mem_append]
      right
      rw [DataW.weightsEach, List.mem_append]
      right
      rw [DataW.weightsEach, List.mem_append]
      left
      rw [db]
      unfold DataW.weights
      exact List.mem_singleton.2 (size_len _)
end
end Go.Proofs.YtfobjaccpnondaaGreatDoor
