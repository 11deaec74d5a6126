/- Fields, replies and entries that come in: their fields, and what the texts of these weigh at most. -/
import Derived.Test.YtmlgmpjbjbjaoaaKOpen
namespace Go.Proofs.Ytmlgmpjbjbjaoaa
open Go.Joins Go.ChangeShapes Go.WideShapes Go.ChangeAt Go.RowKit Go.Deep
set_option maxRecDepth 100000

theorem weights_next {H : Type} {t : TypeId} {d : DataW H} {ts : List TypeId} {ds : List (DataW H)} {p : Nat → Bool} (h : (DataW.weightsEach Try.prog (t :: ts) (d :: ds)).all p = true) : (DataW.weightsEach Try.prog ts ds).all p = true := by
  simp only [DataW.weightsEach, List.all_append, Bool.and_eq_true] at h
  exact h.2
theorem weights_head {H : Type} {t : TypeId} {d : DataW H} {ts : List TypeId} {ds : List (DataW H)} (h : (DataW.weightsEach Try.prog (t :: ts) (d :: ds)).all (· ≤ reachBytes) = true) : ∀ n ∈ d.weights Try.prog t, n ≤ 140737488351232 := by
  simp only [DataW.weightsEach, List.all_append, Bool.and_eq_true, List.all_eq_true] at h
  intro n hn
  exact of_decide_eq_true (h.1 n hn)
/-- texts that are no longer than what one row may reach -/
def SzF (L : List Fld) : Prop := (∀ j (hj : j < L.length), L[j].1.length ≤ 140737488351232 ∧ L[j].2.length ≤ 140737488351232) ∧ L.length ≤ 9223372036854775807
theorem fields_sized {H : Type} {L : List Fld} {sp : List (DataW H)} (h : ∀ n ∈ (DataW.slice (L.map fdD) sp : DataW H).weights Try.prog 22, n ≤ 140737488351232) :
    ∀ j (hj : j < L.length), L[j].1.length ≤ 140737488351232 ∧ L[j].2.length ≤ 140737488351232 := by
  have hs := Try.underlying22
  have hu := Try.underlying41
  intro j hj
  have hm : fdD L[j] ∈ L.map (fdD (H := H)) := List.mem_map.2 ⟨_, List.getElem_mem hj, rfl⟩
  have hin : ∀ n, n ∈ (fdD (H := H) L[j]).weights Try.prog 41 → n ≤ 140737488351232 := fun n hn => by
    refine h n ?_
    unfold DataW.weights
    rw [hs]
    exact List.mem_cons_of_mem _ (List.mem_append_left _ (weightsAllN_mem hm hn))
  generalize L[j] = f at *
  exact ⟨hin _ (by simp [fdD, DataW.weightsEach, DataW.weights, hu]), hin _ (by simp [fdD, DataW.weightsEach, DataW.weights, hu])⟩
section
variable {H : Type} {enc : TypeId × Value → H} {W : World} {base : Nat} {v : Value} {d : DataW H} {ps : List MemPlace}
theorem open_argFw (hv : Value.okWide Try.prog W .any base 22 v) (h : DataW.Trod enc Try.prog W 0 (fun _ => true) true 22 v d ps) (hw : ∀ n ∈ d.weights Try.prog 22, n ≤ 140737488351232) :
    ∃ L : List Fld, FL W v L ∧ SzF L := by
  obtain ⟨a0, len, cap, rfl⟩ := okWide_slice Try.underlying22 hv
  obtain ⟨fuel, hf⟩ := h
  obtain ⟨L, _, _, _, _, hfl, _, hl, hd⟩ := open_cellFd (y := (d, ps)) hf
  refine ⟨L, hfl, ?_, hl⟩
  rcases hd with rfl | ⟨sp, hd⟩
  · exact fun j hj => absurd hj (by simp)
  · have hd' : d = .slice (L.map fdD) sp := hd
    rw [hd'] at hw
    exact fields_sized hw
theorem open_argYw (hv : Value.okWide Try.prog W .any base 24 v) (h : DataW.Trod enc Try.prog W 0 (fun _ => true) true 24 v d ps) (hw : ∀ n ∈ d.weights Try.prog 24, n ≤ 140737488351232) :
    ∃ (st : Int) (re : ByteArray) (mi : Int) (fs : Value) (bo : ByteArray) (L : List Fld), v = .agg #[.int .i64 st, .string re, .int .i64 mi, fs, .string bo] ∧ FL W fs L ∧ SzF L := by
  have hR := Try.underlying24
  obtain ⟨v0, v1, v2, v3, v4, y0, y1, y2, y3, y4, n, rfl, hd, t0, t1, t2, t3, t4⟩ := open_agg5 hR (by kernel_rfl) (by kernel_rfl) hv h
  obtain ⟨st, rfl⟩ := open_cellId t0
  obtain ⟨re, rfl⟩ := open_cellSd t1
  obtain ⟨mi, rfl⟩ := open_cellId t2
  obtain ⟨L, _, _, _, _, hfl, _, hl, hdl⟩ := open_cellFd t3
  obtain ⟨bo, rfl⟩ := open_cellSd t4
  refine ⟨st, re, mi, v3, bo, L, rfl, hfl, ?_, hl⟩
  rcases hdl with rfl | ⟨sp, hdl⟩
  · exact fun j hj => absurd hj (by simp)
  · refine fields_sized (sp := sp) fun n hn => hw n ?_
    rw [hd, hdl]
    unfold DataW.weights
    rw [hR]
    show n ∈ DataW.weightsEach Try.prog [3, 9, 3, 22, 9] _
    rw [DataW.weightsEach, List.mem_append]
    right
    rw [DataW.weightsEach, List.mem_append]
    right
    rw [DataW.weightsEach, List.mem_append]
    right
    rw [DataW.weightsEach, List.mem_append]
    left
    exact hn
/-- an entry: its Vary -/
theorem open_argNw (hv : Value.okWide Try.prog W .any base 33 v) (h : DataW.Trod enc Try.prog W 0 (fun _ => true) true 33 v d ps) (hw : ∀ n ∈ d.weights Try.prog 33, n ≤ 140737488351232) :
    ∃ (a0 a1 a2 a3 a4 a5 a6 vv : Value) (L : List Fld), v = .agg #[a0, a1, a2, a3, a4, a5, a6, vv] ∧ FL W vv L ∧ SzF L := by
  have hE := Try.underlying33
  have hC : Try.prog.cellsOf 33 = 8 := by kernel_rfl
  have kF : Try.prog.cellsOf 22 = 1 := by kernel_rfl
  obtain ⟨cs, rfl, hsz⟩ := okWide_struct hE hv
  obtain ⟨c0, c1, c2, c3, c4, c5, c6, c7, rfl⟩ := array8 (hsz.trans hC)
  obtain ⟨fuel, hf⟩ := h
  obtain ⟨xs, n, _, hx, _, hxl, hg⟩ := DataW.trod_struct hE hf
  match xs, hxl with
  | [y0, y1, y2, y3], _ =>
    have g3 : DataW.trod enc Try.prog W 0 (fun _ => true) true n 22 (([c0, c1, c2, c3, c4, c5, c6, c7].drop 7).take (Try.prog.cellsOf 22)) = some y3 := hg 3 _ rfl
    rw [kF] at g3
    replace g3 : DataW.trod enc Try.prog W 0 (fun _ => true) true n 22 [c7] = some y3 := g3
    obtain ⟨L, _, _, _, _, hfl, _, hl, hdl⟩ := open_cellFd g3
    refine ⟨c0, c1, c2, c3, c4, c5, c6, c7, L, rfl, hfl, ?_, hl⟩
    rcases hdl with rfl | ⟨sp, hdl⟩
    · exact fun j hj => absurd hj (by simp)
    · refine fields_sized (sp := sp) fun m hm => hw m ?_
      rw [(Prod.mk.inj hx).1]
      unfold DataW.weights
      rw [hE]
      show m ∈ DataW.weightsEach Try.prog [24, 2, 2, 22] [y0.1, y1.1, y2.1, y3.1]
      rw [DataW.weightsEach, List.mem_append]
      right
      rw [DataW.weightsEach, List.mem_append]
      right
      rw [DataW.weightsEach, List.mem_append]
      right
      rw [DataW.weightsEach, List.mem_append]
      left
      rw [hdl]
      exact hm
end
end Go.Proofs.Ytmlgmpjbjbjaoaa
