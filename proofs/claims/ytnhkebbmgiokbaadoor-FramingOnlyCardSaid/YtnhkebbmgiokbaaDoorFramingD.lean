/- The framing layer's number, and whether lengths agree. -/
import Derived.Test.YtnhkebbmgiokbaaDoorFramingC
import Derived.Test.YtnhkebbmgiokbaaDoorEnv
import Derived.Test.YtnhkebbmgiokbaaDoorGrow3
namespace Go.Proofs.YtnhkebbmgiokbaaDoor
open Go.RowKit Go.Shelf

set_option maxRecDepth 100000 in
theorem number_any (x : List UInt8) (w : World) (he : Env w) (h : x.length ≤ 4294967296) :
    Calls Tryd.prog 35 #[.string (bs x)] w fun e w' => e = .returned (.int .i64 (numV x)) ∧ Below w.heap.size w w' := by
  have HE := Lib.hid he; clear he
  go_enter Tryd.func35, Tryd.ntmps35
  go_wp2_with fail
  refine (atoi_any _ _ (by rw [bs_size]; omega) HE.out).mono ?_
  rw [bs_data]
  rintro e w1 ⟨v, rfl, hb⟩
  have HB := Lib.hid hb; clear hb
  go_wp2_with fail
  go_ret
  exact ⟨rfl, HB.out⟩

def agreeE (E : List (List UInt8)) : Int := if E.any (fun s => numV s != numV (E.headD [])) then 8 else 0
theorem any_snocL {E : List (List UInt8)} {p : List UInt8 → Bool} {k : Nat} (h : k < E.length) (hp : (E.take k).any p = false) (hq : p E[k] = false) : (E.take (k + 1)).any p = false := by
  rw [List.take_succ_eq_append_getElem h, List.any_append, hp]; simp [hq]
theorem any_isL {E : List (List UInt8)} {p : List UInt8 → Bool} {k : Nat} (h : k < E.length) (hq : p E[k] = true) : E.any p = true := List.any_eq_true.2 ⟨E[k], List.getElem_mem h, hq⟩
theorem drewB {w0 w : World} (h : Below w0.heap.size w0 w) : Below w0.heap.size w0 w.drew := ⟨h.os, h.tape, h.output, h.size, h.block⟩

set_option maxRecDepth 100000 in
set_option maxHeartbeats 2000000 in
theorem agreed_any (x1 y1 x2 y2 : Bool) (v1 : Value) (A2 : Option Addr) (n2 c2 : Nat) (E : List (List UInt8)) (w : World) (he : Env w) (h1 : SL w v1 E) (hE : ∀ s ∈ E, s.length ≤ 4294967296) (hl : E.length ≤ 4294967296) :
    Calls Tryd.prog 34 #[hdrV x1 y1 v1 x2 y2 (.slice A2 n2 c2)] w fun e w' => e = .returned (.int .i64 (agreeE E)) ∧ Below w.heap.size w w' := by
  obtain ⟨A, c, rfl⟩ := h1.form
  have hbk := blk.new w #[.bool x1, .bool y1, .slice A E.length c, .bool x2, .bool y2, .slice A2 n2 c2] 48
  have hal : Below w.heap.size w (w.alloc (.cells #[.bool x1, .bool y1, .slice A E.length c, .bool x2, .bool y2, .slice A2 n2 c2] 48)) := (Below.refl _ _).alloc (Nat.le_refl _) _
  have HEW : Hid (∀ W, Below (w.alloc (.cells #[.bool x1, .bool y1, .slice A E.length c, .bool x2, .bool y2, .slice A2 n2 c2] 48)).heap.size (w.alloc (.cells #[.bool x1, .bool y1, .slice A E.length c, .bool x2, .bool y2, .slice A2 n2 c2] 48)) W → Env W) :=
    fun W hb => (he.below hal (Nat.le_refl _)).below hb (Nat.le_refl _)
  have hc2 := hbk.cell 2 (.slice A E.length c) rfl
  have HAL := Lib.hid hal; have H1 := Lib.hid (h1.bel hal); have HBK := Lib.hid hbk; have HE := Lib.hid hE; clear hal h1 he hbk hE
  unfold hdrV
  go_enter Tryd.func34, Tryd.ntmps34
  go_wp2_with fail
  clear hc2
  generalize w.alloc (.cells #[.bool x1, .bool y1, .slice A E.length c, .bool x2, .bool y2, .slice A2 n2 c2] 48) = w1 at *
  go_loopw [9] (fun i wr => ∃ k : Nat, k ≤ E.length ∧ i = .int .i64 k ∧ (E.take k).any (fun s => numV s != numV (E.headD [])) = false ∧ Below w1.heap.size w1 wr) (fun i _ => E.length - (intOf i).toNat)
  case atStart => exact ⟨0, Nat.zero_le _, rfl, rfl, Below.refl _ _⟩
  case round =>
    obtain ⟨k, hk, rfl, ht, hb⟩ := hrel
    have HT := Lib.hid ht; have HB := Lib.hid hb; clear ht hb
    by_cases hlt : k < E.length
    · have hlt0 : 0 < E.length := by omega
      obtain ⟨b, off, rfl, hbb, hc0⟩ := H1.out.get 0 hlt0
      obtain ⟨b', off', he2, _, hck⟩ := H1.out.get k hlt
      obtain ⟨rfl, rfl⟩ : b = b' ∧ off = off' := by simpa using he2
      clear he2
      have hd : E.headD [] = E[0] := by cases E with | nil => simp at hlt0 | cons x r => rfl
      have HN : Hid (∀ s ∈ E, s.length ≤ 4294967296) := HE.out
      have HX0 := Lib.hid (HE.out _ (List.getElem_mem hlt0)); have HXk := Lib.hid (HE.out _ (List.getElem_mem hlt))
      have HQ : Hid (∀ q, (numV E[k] != numV E[0]) = q → if q = true then agreeE E = 8 else (E.take (k + 1)).any (fun s => numV s != numV (E.headD [])) = false) := by
        intro q hq
        have hq' : (fun s => numV s != numV (E.headD [])) E[k] = q := by simp only [hd]; exact hq
        cases q
        · exact any_snocL hlt HT.out hq'
        · show agreeE E = 8
          unfold agreeE
          rw [any_isL hlt hq']; rfl
      have hcr := (HB.out.cell (p := ⟨b, off + k, none⟩) hbb).trans hck
      have HBB := Lib.hid hbb
      rw [Nat.add_zero] at hc0
      have HC0 := Lib.hid hc0
      clear hc0 hck hd hbb
      generalize E[k] = x at *
      generalize E[0] = x0 at *
      go_wp2_with fail
      have hS : Below w1.heap.size w1 wr.drew := drewB HB.out
      have HS := Lib.hid hS; clear hS hcr
      -- REGION 4
      refine wp_region_growS (.one 0 false (.one 2 false (.one 3 false (.one 4 false (.one 5 false (.one 6 false (.one 1 true (.one 7 true (.one 8 false .done)))))))))
        (fun W => Below w1.heap.size w1 W) (by kernel_rfl) (by kernel_rfl) rfl (by kernel_rfl) (by kernel_rfl) HS.out (fun ops hops => ?_)
      simp only [GT.ins, List.getD_cons_zero, List.getD_cons_succ]
      clear hops
      iterate 6
        refine growS_take (by rfl) ?_
        apply Exists.intro
        refine ⟨fun w' hE => ?_, ?_⟩
        · have q1 := (hE.cell (p := ⟨w.heap.size, 2, none⟩) HBK.out.lt).trans (HBK.out.cell 2 (.slice (some ⟨b, off, none⟩) E.length c) rfl); have q2 := (hE.cell (p := ⟨b, off, none⟩) HBB.out).trans HC0.out
          go_simp
          try with_reducible rfl
        simp only [Act.put, List.setIfInBounds_toArray, List.set_cons_zero, List.set_cons_succ]
      refine growS_call (by rfl) (fun K hK => ?_)
      go_simp
      refine (number_any x _ (HEW.out _ HS.out) HXk.out).mono ?_
      rintro e w2 ⟨rfl, hb2⟩
      have HS2 := Lib.hid (HS.out.trans (hb2.mono HS.out.size))
      refine hK.out _ _ HS2.out ?_
      clear hK K hb2
      refine growS_call (by rfl) (fun K hK => ?_)
      go_simp
      refine (number_any x0 _ (HEW.out _ HS2.out) HX0.out).mono ?_
      rintro e w3 ⟨rfl, hb3⟩
      have HS3 := Lib.hid (HS2.out.trans (hb3.mono HS2.out.size))
      refine hK.out _ _ HS3.out ?_
      clear hK K hb3
      iterate 1
        refine growS_take (by rfl) ?_
        apply Exists.intro
        refine ⟨fun w' hE => ?_, ?_⟩
        · have q1 := (hE.cell (p := ⟨w.heap.size, 2, none⟩) HBK.out.lt).trans (HBK.out.cell 2 (.slice (some ⟨b, off, none⟩) E.length c) rfl); have q2 := (hE.cell (p := ⟨b, off, none⟩) HBB.out).trans HC0.out
          go_simp
          try with_reducible rfl
        simp only [Act.put, List.setIfInBounds_toArray, List.set_cons_zero, List.set_cons_succ]
      refine growS_done (NoPanic.normal ?_)
      -- END
      have hQ := HQ.out _ rfl
      generalize (numV x != numV x0) = q at *
      clear HQ
      cases q
      · have HR : Hid ((E.take (k + 1)).any (fun s => numV s != numV (E.headD [])) = false) := hQ
        clear hQ
        go_wp2_with fail
        go_roundw
        case rel => exact ⟨k + 1, by omega, by go_num, HR.out, HS3.out⟩
        case measure => simp [intOf]; omega
      · have HR : Hid (agreeE E = 8) := hQ
        clear hQ
        go_wp2_with fail
        go_ret
        exact ⟨by rw [HR.out]; rfl, HAL.out.trans (HS3.out.mono HAL.out.size)⟩
    · have HR : Hid (agreeE E = 0) := by
        have h := HT.out
        rw [List.take_of_length_le (by omega)] at h
        show _ = _; unfold agreeE; rw [h]; rfl
      go_wp2_with fail
      go_ret
      exact ⟨by rw [HR.out]; rfl, HAL.out.trans (HB.out.mono HAL.out.size)⟩
end Go.Proofs.YtnhkebbmgiokbaaDoor
