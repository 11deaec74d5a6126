/- Sizes of entries; copies of fields and of entries. -/
import Derived.Test.YtopgeclecpaecaaGreatDoorKApp
import Derived.Test.YtopgeclecpaecaaGreatDoorKBdN
import Derived.Test.YtopgeclecpaecaaGreatDoorKBkMid
import Derived.Test.YtopgeclecpaecaaGreatDoorKKpA
import Derived.Test.YtopgeclecpaecaaGreatDoorKOpen
namespace Go.Proofs.YtopgeclecpaecaaGreatDoor
open Go.RowKit
/-- an entry as a value -/
def entV (e : En) (vf vv : Value) : Value := .agg #[.int .i64 e.st, .string (bs e.re), .int .i64 e.mi, vf, .string (bs e.bo), .int .i64 e.ak, .int .i64 e.gt, vv]
theorem sizeF_snoc (l : List Fld) (f : Fld) : sizeF (l ++ [f]) = sizeF l + (f.1.length + f.2.length) := by simp [sizeF]
theorem SmF.take {l : List Fld} (h : SmF l) (j : Nat) : SmF (l.take j) := ⟨by rw [List.length_take]; have := h.len; omega, fun f hf => h.at_ f (List.take_subset _ _ hf)⟩
set_option maxRecDepth 100000 in
set_option maxHeartbeats 2000000 in
theorem bytesOf_any (v : Value) (l : List Fld) (w : World) (hv : FL w v l) (hl : SmF l) :
    Calls Tryz.prog 27 #[v] w fun e w' => e = .returned (.int .i64 (sizeF l : Int)) ∧ Below w.heap.size w w' := by
  obtain ⟨A, c, rfl⟩ := hv.form
  have HV0 := Lib.hid hv; have HL := Lib.hid hl
  have HLN : Hid (l.length ≤ 10) := hl.len
  clear hv hl
  go_enter Tryz.func27, Tryz.ntmps27
  go_wp2_with fail
  go_loopg [3, 8] l.length (fun g s i wr => ∃ j : Nat, s = .int .i64 (sizeF (l.take j) : Int) ∧ i = .int .i64 j ∧ j + g = l.length ∧ Hid (Below w.heap.size w wr))
  case atStart => exact ⟨0, rfl, rfl, by omega, Below.refl _ _⟩
  case round =>
    obtain ⟨j, rfl, rfl, hj, hr⟩ := hrel
    have HB := Lib.hid hr.out
    clear hr
    have HBZ : Hid (w.heap.size ≤ wr.heap.size) := HB.out.size
    by_cases hend : j < l.length
    · obtain ⟨b, off, rfl, hbb, c0, c1⟩ := (FL_low HV0.out HB.out).get j hend
      have hf := HL.out.at_ _ (List.getElem_mem hend)
      have hln := HLN.out
      have hs1 := (HL.out.take j).size
      have HIT : Hid (sizeF (l.take (j + 1)) = sizeF (l.take j) + (l[j].1.length + l[j].2.length)) := by
        show _ = _
        rw [List.take_succ_eq_append_getElem hend, sizeF_snoc]
      have HKK : Hid (gk - 1 < gk ∧ j + 1 + (gk - 1) = l.length) := ⟨by omega, by omega⟩
      have HJJ : Hid (j < 1000000) := by show _ < _; omega
      generalize l[j] = f at *
      obtain ⟨n, x⟩ := f
      simp only at hf c0 c1 HIT
      have hw1 : IntKind.i64.wrap ((n.length : Int) + (x.length : Int)) = ((n.length + x.length : Nat) : Int) := by rw [IntKind.wrap_i64]; omega
      have hw2 : IntKind.i64.wrap ((sizeF (l.take j) : Int) + ((n.length + x.length : Nat) : Int)) = ((sizeF (l.take j) + (n.length + x.length) : Nat) : Int) := by rw [IntKind.wrap_i64]; omega
      have hw3 : IntKind.i64.wrap ((j : Int) + 1) = ((j + 1 : Nat) : Int) := by rw [IntKind.wrap_i64]; omega
      have e1 := bs_size n
      have e2 := bs_size x
      have hal : Below wr.heap.size wr (wr.alloc (.cells #[.string (bs n), .string (bs x)] 66)) := (Below.refl _ _).alloc (Nat.le_refl _) _
      have HBa := Lib.hid (HB.out.trans (hal.mono HBZ.out))
      clear hal hf hj hln hs1
      have HIT2 : Hid (((sizeF (l.take j) + (n.length + x.length) : Nat) : Int) = (sizeF (l.take (j + 1)) : Int)) := by show _ = _; rw [HIT.out]
      generalize ((sizeF (l.take j) + (n.length + x.length) : Nat) : Int) = s3 at *
      generalize ((n.length + x.length : Nat) : Int) = s2 at *
      generalize (sizeF (l.take j) : Int) = s1 at *
      rw [← e1, ← e2] at hw1
      clear e1 e2
      generalize bs n = nb at *
      generalize bs x = xb at *
      go_wp2_with fail
      go_roundg (gk - 1)
      case measure => exact HKK.out.1
      case rel => exact ⟨j + 1, congrArg (Value.int .i64) HIT2.out, by first | rfl | exact wrapJ j HJJ.out, HKK.out.2, HBa.out⟩
    · have HEN : Hid (sizeF (l.take j) = sizeF l) := by show _ = _; rw [List.take_of_length_le (by omega)]
      clear hj
      go_wp2_with fail
      go_ret
      exact ⟨by rw [HEN.out]; rfl, HB.out⟩
set_option maxRecDepth 100000 in
set_option maxHeartbeats 2000000 in
theorem size_any (k : List UInt8) (e : En) (vf vv : Value) (w : World) (hf : FL w vf e.fs) (hv : FL w vv e.vy) (hs : SmE k e) :
    Calls Tryz.prog 10 #[.string (bs k), entV e vf vv] w fun r w' => r = .returned (.int .i64 (sizeE k e : Int)) ∧ Below w.heap.size w w' := by
  have hal : Below w.heap.size w (w.alloc (.cells #[.int .i64 e.st, .string (bs e.re), .int .i64 e.mi, vf, .string (bs e.bo), .int .i64 e.ak, .int .i64 e.gt, vv] 28)) := (Below.refl _ _).alloc (Nat.le_refl _) _
  have HFV := Lib.hid (hf.bel hal); have HVV := Lib.hid (hv.bel hal); have HS := Lib.hid hs; have HAL := Lib.hid hal
  have HP := Lib.hid (bk.new w #[.int .i64 e.st, .string (bs e.re), .int .i64 e.mi, vf, .string (bs e.bo), .int .i64 e.ak, .int .i64 e.gt, vv] 28)
  have HLT : Hid (w.heap.size < (w.alloc (.cells #[.int .i64 e.st, .string (bs e.re), .int .i64 e.mi, vf, .string (bs e.bo), .int .i64 e.ak, .int .i64 e.gt, vv] 28)).heap.size) := by show _ < _; simp
  have g1 := hs.fs.size
  have g2 := hs.vy.size
  have g3 := hs.k
  have g4 := hs.bo
  have g5 := hs.re
  have HSUM : Hid (IntKind.i64.wrap (IntKind.i64.wrap (IntKind.i64.wrap (IntKind.i64.wrap (IntKind.i64.wrap (64 + (k.length : Int)) + (e.re.length : Int)) + (sizeF e.fs : Int)) + (e.bo.length : Int)) + (sizeF e.vy : Int)) = (sizeE k e : Int)) := by
    show _ = _
    simp only [IntKind.wrap_i64]
    unfold sizeE
    omega
  unfold entV
  clear hf hv hs hal g1 g2 g3 g4 g5
  go_enter Tryz.func10, Tryz.ntmps10
  go_wp2_with fail
  generalize w.alloc (.cells #[.int .i64 e.st, .string (bs e.re), .int .i64 e.mi, vf, .string (bs e.bo), .int .i64 e.ak, .int .i64 e.gt, vv] 28) = W0 at *
  have HZ0 : Hid (Below W0.heap.size W0 W0.drew) := (Below.refl _ _).drew
  refine wp_region_growS (.one 0 false (.one 1 false (.one 2 false (.one 3 false (.one 4 false (.one 5 false (.one 6 false (.one 7 false (.one 8 false (.one 9 false (.one 10 false (.one 13 false (.one 14 false (.one 15 false (.one 16 false (.one 18 false (.one 19 false (.one 11 true (.one 12 false (.one 17 false (.one 20 true (.one 21 false (.one 22 false .done)))))))))))))))))))))))
    (fun x => Below W0.heap.size W0 x) (by kernel_rfl) (by kernel_rfl) rfl (by kernel_rfl) (by kernel_rfl) HZ0.out (fun ops hops => ?_)
  simp only [GT.ins, List.getD_cons_zero, List.getD_cons_succ]
  clear hops
  iterate 17
    refine growS_take (by rfl) ?_
    apply Exists.intro
    refine ⟨fun w' hE => ?_, ?_⟩
    · have q0 := (hE.cell (p := ⟨w.heap.size, 0, none⟩) HLT.out).trans (HP.out.cell 0 (.int .i64 e.st) rfl)
      have q1 := (hE.cell (p := ⟨w.heap.size, 1, none⟩) HLT.out).trans (HP.out.cell 1 (.string (bs e.re)) rfl)
      have q2 := (hE.cell (p := ⟨w.heap.size, 2, none⟩) HLT.out).trans (HP.out.cell 2 (.int .i64 e.mi) rfl)
      have q3 := (hE.cell (p := ⟨w.heap.size, 3, none⟩) HLT.out).trans (HP.out.cell 3 (vf) rfl)
      have q4 := (hE.cell (p := ⟨w.heap.size, 4, none⟩) HLT.out).trans (HP.out.cell 4 (.string (bs e.bo)) rfl)
      have q5 := (hE.cell (p := ⟨w.heap.size, 5, none⟩) HLT.out).trans (HP.out.cell 5 (.int .i64 e.ak) rfl)
      have q6 := (hE.cell (p := ⟨w.heap.size, 6, none⟩) HLT.out).trans (HP.out.cell 6 (.int .i64 e.gt) rfl)
      have q7 := (hE.cell (p := ⟨w.heap.size, 7, none⟩) HLT.out).trans (HP.out.cell 7 (vv) rfl)
      go_simp
      try with_reducible rfl
    simp only [Act.put, List.setIfInBounds_toArray, List.set_cons_zero, List.set_cons_succ]
  refine growS_call (by rfl) (fun K hK => ?_)
  go_simp
  refine (bytesOf_any vf _ W0.drew (HFV.out.bel (Below.refl _ _).drew) HS.out.fs).mono ?_
  rintro r z1 ⟨rfl, hb⟩
  have HZ1 : Hid (Below W0.heap.size W0 z1) := HZ0.out.trans (hb.mono HZ0.out.size)
  clear hb
  refine hK.out _ _ HZ1.out ?_
  clear hK K
  iterate 2
    refine growS_take (by rfl) ?_
    apply Exists.intro
    refine ⟨fun w' hE => ?_, ?_⟩
    · have q0 := (hE.cell (p := ⟨w.heap.size, 0, none⟩) HLT.out).trans (HP.out.cell 0 (.int .i64 e.st) rfl)
      have q1 := (hE.cell (p := ⟨w.heap.size, 1, none⟩) HLT.out).trans (HP.out.cell 1 (.string (bs e.re)) rfl)
      have q2 := (hE.cell (p := ⟨w.heap.size, 2, none⟩) HLT.out).trans (HP.out.cell 2 (.int .i64 e.mi) rfl)
      have q3 := (hE.cell (p := ⟨w.heap.size, 3, none⟩) HLT.out).trans (HP.out.cell 3 (vf) rfl)
      have q4 := (hE.cell (p := ⟨w.heap.size, 4, none⟩) HLT.out).trans (HP.out.cell 4 (.string (bs e.bo)) rfl)
      have q5 := (hE.cell (p := ⟨w.heap.size, 5, none⟩) HLT.out).trans (HP.out.cell 5 (.int .i64 e.ak) rfl)
      have q6 := (hE.cell (p := ⟨w.heap.size, 6, none⟩) HLT.out).trans (HP.out.cell 6 (.int .i64 e.gt) rfl)
      have q7 := (hE.cell (p := ⟨w.heap.size, 7, none⟩) HLT.out).trans (HP.out.cell 7 (vv) rfl)
      go_simp
      try with_reducible rfl
    simp only [Act.put, List.setIfInBounds_toArray, List.set_cons_zero, List.set_cons_succ]
  refine growS_call (by rfl) (fun K hK => ?_)
  go_simp
  refine (bytesOf_any vv _ z1 (HVV.out.bel HZ1.out) HS.out.vy).mono ?_
  rintro r z2 ⟨rfl, hb⟩
  have HZ2 : Hid (Below W0.heap.size W0 z2) := HZ1.out.trans (hb.mono HZ1.out.size)
  clear hb
  refine hK.out _ _ HZ2.out ?_
  clear hK K
  iterate 2
    refine growS_take (by rfl) ?_
    apply Exists.intro
    refine ⟨fun w' hE => ?_, ?_⟩
    · have q0 := (hE.cell (p := ⟨w.heap.size, 0, none⟩) HLT.out).trans (HP.out.cell 0 (.int .i64 e.st) rfl)
      have q1 := (hE.cell (p := ⟨w.heap.size, 1, none⟩) HLT.out).trans (HP.out.cell 1 (.string (bs e.re)) rfl)
      have q2 := (hE.cell (p := ⟨w.heap.size, 2, none⟩) HLT.out).trans (HP.out.cell 2 (.int .i64 e.mi) rfl)
      have q3 := (hE.cell (p := ⟨w.heap.size, 3, none⟩) HLT.out).trans (HP.out.cell 3 (vf) rfl)
      have q4 := (hE.cell (p := ⟨w.heap.size, 4, none⟩) HLT.out).trans (HP.out.cell 4 (.string (bs e.bo)) rfl)
      have q5 := (hE.cell (p := ⟨w.heap.size, 5, none⟩) HLT.out).trans (HP.out.cell 5 (.int .i64 e.ak) rfl)
      have q6 := (hE.cell (p := ⟨w.heap.size, 6, none⟩) HLT.out).trans (HP.out.cell 6 (.int .i64 e.gt) rfl)
      have q7 := (hE.cell (p := ⟨w.heap.size, 7, none⟩) HLT.out).trans (HP.out.cell 7 (vv) rfl)
      go_simp
      try with_reducible rfl
    simp only [Act.put, List.setIfInBounds_toArray, List.set_cons_zero, List.set_cons_succ]
  refine growS_done (NoPanic.normal ?_)
  go_wp2_with fail
  go_ret
  exact ⟨congrArg (fun n => Ending.returned (.int .i64 n)) HSUM.out, HAL.out.trans (HZ2.out.mono HAL.out.size)⟩
set_option maxRecDepth 100000 in
set_option maxHeartbeats 2000000 in
theorem sclF_any (v : Value) (l : List Fld) (w : World) (hv : FL w v l) (hl : l.length ≤ 100000) :
    Calls Tryz.prog 77 #[v] w fun e w' => ∃ v', e = .returned v' ∧ ownF w' w.heap.size v' l ∧ Below w.heap.size w w' := by
  obtain ⟨A, c, rfl⟩ := hv.form
  cases A with
  | none =>
    have hl0 : l = [] := by
      rcases hv with ⟨h, -⟩ | ⟨b, off, c', h, -⟩
      · exact h
      · cases h
    subst hl0
    clear hv hl
    have hq := fun W => Lib.run_eql_slice_nil_nil (P := Tryz.prog) W 0 c Tryz.underlying24
    go_enter Tryz.func77, Tryz.ntmps77
    go_wp2_with fail
    go_ret
    exact ⟨_, rfl, ownF_nil _ _, Below.refl _ _⟩
  | some a =>
    have HO : Hid (ownF (w.alloc (.cells #[] 66)) w.heap.size (.slice (some ⟨w.heap.size, 0, none⟩) 0 0) []) :=
      ⟨rfl, .inr ⟨w.heap.size, 0, #[], rfl, Nat.le_refl _, heap_alloc_new w _, Nat.le_refl _, by unfold maxLen; omega, rfl, rfl⟩⟩
    have hal : Below w.heap.size w (w.alloc (.cells #[] 66)) := (Below.refl _ _).alloc (Nat.le_refl _) _
    have HM := Lib.hid (hv.bel hal); have HB := Lib.hid hal
    have HLZ : Hid (([] : List Fld).length + l.length ≤ 4294967296) := by show _ ≤ _; simp; omega
    clear hv hl hal
    have hq := fun W => Lib.run_eql_slice_some_nil (P := Tryz.prog) W a l.length c Tryz.underlying24
    go_enter Tryz.func77, Tryz.ntmps77
    go_wp2_with (at_builtin; refine wpList_appFF (w0 := w) rfl (.tmp 5) (.tmp 6) rfl w.heap.size w.heap.size _ _ [] l rfl HO.out HB.out (Nat.le_refl _) HB.out.size rfl HM.out HLZ.out ?_; intro v' w3 HO3 HB3 HK3 HS3)
    go_ret
    exact ⟨_, rfl, HO3.out, HB3.out⟩
theorem setCell_id {w : World} {b j : Nat} {u : Value} (h : w.cell? ⟨b, j, none⟩ = some u) : (w.setCell ⟨b, j, none⟩ u).heap = w.heap := by
  apply Array.ext_getElem?
  intro i
  simp only [World.setCell, Array.getElem?_modify, Option.isSome_none, Bool.false_eq_true, if_false]
  by_cases hb : b = i
  · subst hb
    rw [if_pos rfl]
    unfold World.cell? at h
    cases ho : w.heap[b]? with
    | none => rfl
    | some o =>
      rw [ho] at h
      cases o with
      | cells c e f =>
        simp only [Option.isSome_none, Bool.false_eq_true, if_false] at h
        simp only [Option.map_some]
        congr 2
        apply Array.ext_getElem?
        intro k
        rw [Array.getElem?_setIfInBounds]
        by_cases hk : j = k
        · subst hk
          rw [if_pos rfl, h]
          have := (Array.getElem?_eq_some_iff.1 h).1
          rw [if_pos this]
        · rw [if_neg hk]
      | _ => rfl
  · rw [if_neg hb]
/-- the same memory -/
theorem below_same {B : Nat} {w0 w w' : World} (h : Below B w0 w) (hh : w'.heap = w.heap) (ho : w'.os = w.os) (ht : w'.tape = w.tape) (hp : w'.output = w.output) : Below B w0 w' :=
  ⟨ho.trans h.os, ht.trans h.tape, hp.trans h.output, by rw [hh]; exact h.size, fun k hk => by rw [hh]; exact h.block k hk⟩
theorem ownF.same {w w' : World} {base : Nat} {v : Value} {l : List Fld} (h : ownF w base v l) (hh : w'.heap = w.heap) : ownF w' base v l := h.stay fun k _ => by rw [hh]
theorem ownF.at_ {w : World} {base : Nat} {A : Option Addr} {n c : Nat} {l : List Fld} (h : ownF w base (.slice A n c) l) (j : Nat) (hj : j < l.length) :
    ∃ g, A = some ⟨g, 0, none⟩ ∧ g < w.heap.size ∧ w.cell? ⟨g, j * 2, none⟩ = some (.string (bs l[j].1)) ∧ w.cell? ⟨g, j * 2 + 1, none⟩ = some (.string (bs l[j].2)) ∧ (∀ o, w.frozen? ⟨g, o, none⟩ = false) := by
  rcases h.2 with ⟨hv, hn⟩ | ⟨g, cap, cur, hv, hb, hg, hnc, hcm, hcs, ht⟩
  · cases hv; omega
  · cases hv
    obtain ⟨h1, h2⟩ := fcs_at l j hj
    have hh : w.ownsRow base 66 2 (.slice (some ⟨g, 0, none⟩) l.length c) l.length (fcs l) := h
    refine ⟨g, rfl, (Array.getElem?_eq_some_iff.1 hg).1, by rw [hh.cellAt (j * 2) (by omega)]; exact h1, by rw [hh.cellAt (j * 2 + 1) (by omega)]; exact h2, fun o => by simp [World.frozen?, hg]⟩
set_option maxRecDepth 100000 in
set_option maxHeartbeats 2000000 in
theorem copiedFields_any (v : Value) (l : List Fld) (w : World) (hv : FL w v l) (hl : SmF l) :
    Calls Tryz.prog 60 #[v] w fun e w' => ∃ v', e = .returned v' ∧ ownF w' w.heap.size v' l ∧ Below w.heap.size w w' := by
  have HC := Lib.hid (sclF_any v l w hv (by have := hl.len; omega))
  have HL := Lib.hid hl
  have HLN : Hid (l.length ≤ 10) := hl.len
  clear hv hl
  go_enter Tryz.func60, Tryz.ntmps60
  go_wp2_with fail
  refine HC.out.mono ?_
  rintro e w1 ⟨v', rfl, ho, hb⟩
  obtain ⟨A, c, rfl⟩ := ho.form
  have HO1 := Lib.hid ho; have HB1 := Lib.hid hb
  clear ho hb HC
  go_wp2_with fail
  go_loopg [10] l.length (fun g i wr => ∃ j : Nat, i = .int .i64 j ∧ j + g = l.length ∧ Hid (ownF wr w.heap.size (.slice A l.length c) l ∧ Below w.heap.size w wr))
  case atStart => exact ⟨0, rfl, by omega, HO1.out, HB1.out⟩
  case round =>
    obtain ⟨j, rfl, hj, hr⟩ := hrel
    have HO := Lib.hid hr.out.1; have HB := Lib.hid hr.out.2
    clear hr
    have HBZ : Hid (w.heap.size ≤ wr.heap.size) := HB.out.size
    by_cases hend : j < l.length
    · obtain ⟨g, rfl, hgl, c0, c1, fz⟩ := HO.out.at_ j hend
      have hf := HL.out.at_ _ (List.getElem_mem hend)
      have hln := HLN.out
      have HKK : Hid (gk - 1 < gk ∧ j + 1 + (gk - 1) = l.length) := ⟨by omega, by omega⟩
      have HJJ : Hid (j < 1000000) := by show _ < _; omega
      have hfp := HO.out
      generalize l[j] = f at *
      obtain ⟨n, x⟩ := f
      simp only at hf c0 c1
      have hal : Below wr.heap.size wr (wr.alloc (.cells #[.string (bs n), .string (bs x)] 66)) := (Below.refl _ _).alloc (Nat.le_refl _) _
      have HBa := Lib.hid (HB.out.trans (hal.mono HBZ.out))
      have HOa := Lib.hid (HO.out.bel hal)
      have HC0 := Lib.hid ((hal.cell (p := ⟨g, j * 2, none⟩) hgl).trans c0)
      have HC1 := Lib.hid ((hal.cell (p := ⟨g, j * 2 + 1, none⟩) hgl).trans c1)
      have HF0 := Lib.hid (oneF2.new wr (.string (bs n)) (.string (bs x))).cells.1
      have HF1 := Lib.hid (oneF2.new wr (.string (bs n)) (.string (bs x))).cells.2.1
      have HN1 : Hid (n.length ≤ 281474976710656) := by show _ ≤ _; omega
      have HN2 : Hid (x.length ≤ 281474976710656) := by show _ ≤ _; omega
      have HGC : Hid (g < (wr.alloc (.cells #[.string (bs n), .string (bs x)] 66)).heap.size) := by show _ < _; simp; omega
      have HFC : Hid (wr.heap.size < (wr.alloc (.cells #[.string (bs n), .string (bs x)] 66)).heap.size) := by show _ < _; simp
      have HFZ : ∀ W, Below (wr.alloc (.cells #[.string (bs n), .string (bs x)] 66)).heap.size (wr.alloc (.cells #[.string (bs n), .string (bs x)] 66)) W → ∀ o, W.frozen? ⟨g, o, none⟩ = false := fun W hW o => by
        have h1 := fz o
        unfold World.frozen? at h1 ⊢
        rw [hW.block g HGC.out, Below.heap_alloc _ _ _ hgl]
        exact h1
      clear hal hf hj hln hfp fz hgl HO
      go_wp2_with fail
      clear c0 c1
      generalize wr.alloc (.cells #[.string (bs n), .string (bs x)] 66) = C at *
      have HZ0 : Hid (Below C.heap.size C C.drew) := (Below.refl _ _).drew
      refine wp_region_growS (.one 0 false (.one 1 false (.one 2 false (.one 3 false (.one 5 false (.one 6 false (.one 4 true (.one 7 true (.one 8 false (.one 9 false (.one 10 true .done)))))))))))
        (fun x => Below C.heap.size C x) (by kernel_rfl) (by kernel_rfl) rfl (by kernel_rfl) (by kernel_rfl) HZ0.out (fun ops hops => ?_)
      simp only [GT.ins, List.getD_cons_zero, List.getD_cons_succ]
      clear hops
      iterate 6
        refine growS_take (by rfl) ?_
        apply Exists.intro
        refine ⟨fun w' hE => ?_, ?_⟩
        · have q0 := (hE.cell (p := ⟨wr.heap.size, 0, none⟩) HFC.out).trans HF0.out
          have q1 := (hE.cell (p := ⟨wr.heap.size, 1, none⟩) HFC.out).trans HF1.out
          go_simp
          try with_reducible rfl
        simp only [Act.put, List.setIfInBounds_toArray, List.set_cons_zero, List.set_cons_succ]
      refine growS_call (by rfl) (fun K hK => ?_)
      go_simp
      refine (clone_l n C.drew HN1.out).mono ?_
      rintro r z1 ⟨rfl, hb⟩
      have HZ1 : Hid (Below C.heap.size C z1) := HZ0.out.trans (hb.mono HZ0.out.size)
      clear hb
      refine hK.out _ _ HZ1.out ?_
      clear hK K
      refine growS_call (by rfl) (fun K hK => ?_)
      go_simp
      refine (clone_l x z1 HN2.out).mono ?_
      rintro r z2 ⟨rfl, hb⟩
      have HZ2 : Hid (Below C.heap.size C z2) := HZ1.out.trans (hb.mono HZ1.out.size)
      clear hb
      refine hK.out _ _ HZ2.out ?_
      clear hK K
      iterate 2
        refine growS_take (by rfl) ?_
        apply Exists.intro
        refine ⟨fun w' hE => ?_, ?_⟩
        · have q0 := (hE.cell (p := ⟨wr.heap.size, 0, none⟩) HFC.out).trans HF0.out
          have q1 := (hE.cell (p := ⟨wr.heap.size, 1, none⟩) HFC.out).trans HF1.out
          go_simp
          try with_reducible rfl
        simp only [Act.put, List.setIfInBounds_toArray, List.set_cons_zero, List.set_cons_succ]
      refine growS_call (by rfl) (fun K hK => ?_)
      have r0 := (HZ2.out.cell (p := ⟨g, j * 2, none⟩) HGC.out).trans HC0.out
      have r1 := (HZ2.out.cell (p := ⟨g, j * 2 + 1, none⟩) HGC.out).trans HC1.out
      have r2 : z2.frozen? ⟨g, j * 2, none⟩ = false := HFZ z2 HZ2.out _
      have r3 : z2.frozen? ⟨g, j * 2 + 1, none⟩ = false := HFZ z2 HZ2.out _
      have r4 : (z2.setCell ⟨g, j * 2, none⟩ (.string (bs n))).cell? ⟨g, j * 2 + 1, none⟩ = some (.string (bs x)) := (World.cell?_setCell_other _ _ _ _ (by simp)).trans r1
      go_simp
      have hh : ((z2.setCell ⟨g, j * 2, none⟩ (.string (bs n))).setCell ⟨g, j * 2 + 1, none⟩ (.string (bs x))).heap = z2.heap := (setCell_id r4).trans (setCell_id r0)
      have HZ3 : Hid (Below C.heap.size C ((z2.setCell ⟨g, j * 2, none⟩ (.string (bs n))).setCell ⟨g, j * 2 + 1, none⟩ (.string (bs x)))) := below_same HZ2.out hh rfl rfl rfl
      refine hK.out _ _ HZ3.out ?_
      generalize (z2.setCell ⟨g, j * 2, none⟩ (.string (bs n))).setCell ⟨g, j * 2 + 1, none⟩ (.string (bs x)) = z3 at *
      clear hK K r0 r1 r2 r3 r4 hh
      refine growS_done (NoPanic.normal ?_)
      have HO3 := Lib.hid (HOa.out.bel HZ3.out)
      have HB3 := Lib.hid (HBa.out.trans (HZ3.out.mono HBa.out.size))
      clear HZ0 HZ1 HZ2 HZ3 HFZ
      go_wp2_with fail
      go_roundg (gk - 1)
      case measure => exact HKK.out.1
      case rel => exact ⟨j + 1, by first | rfl | exact wrapJ j HJJ.out, HKK.out.2, HO3.out, HB3.out⟩
    · clear hj
      go_wp2_with fail
      go_ret
      exact ⟨_, rfl, HO.out, HB.out⟩
theorem ownF_setLow {w : World} {base : Nat} {v : Value} {l : List Fld} (h : ownF w base v l) {a : Addr} (ha : a.block < base) (u : Value) : ownF (w.setCell a u) base v l := ownsRow_setCell_below h ha u
theorem ent_one (e : En) (vf vv : Value) {w w' : World} {l m : List Fld} (h1 : FL w vf l) (h2 : FL w' vv m) : (#[.int .i64 e.st, .string (bs e.re), .int .i64 e.mi, vf, .string (bs e.bo), .int .i64 e.ak, .int .i64 e.gt, vv] : Array Value).all (·.oneCell') = true := by
  obtain ⟨A, c, rfl⟩ := h1.form
  obtain ⟨A', c', rfl⟩ := h2.form
  kernel_rfl
theorem infoEn : Hid ((Tryz.prog.info? 28).map (·.size) = some 8) := by
  have : (Tryz.prog.info? 28).map (fun i => i.size) = some 8 := by kernel_rfl
  exact this
set_option maxRecDepth 100000 in
set_option maxHeartbeats 2000000 in
theorem copied_any9 (e : En) (vf vv : Value) (w : World) (hf : FL w vf e.fs) (hv : FL w vv e.vy) (h1 : SmF e.fs) (h2 : SmF e.vy) (h3 : e.re.length ≤ 100000) (h4 : e.bo.length ≤ 100000) :
    Calls Tryz.prog 32 #[entV e vf vv] w fun r w' => ∃ vf' vv', r = .returned (entV e vf' vv') ∧ ownF w' w.heap.size vf' e.fs ∧ ownF w' w.heap.size vv' e.vy ∧ Below w.heap.size w w' := by
  have HB0 : Hid (Below w.heap.size w ((w.alloc (.cells #[.int .i64 e.st, .string (bs e.re), .int .i64 e.mi, vf, .string (bs e.bo), .int .i64 e.ak, .int .i64 e.gt, vv] 28)).alloc (.cells #[.int .i64 0, .string ⟨#[]⟩, .int .i64 0, .slice none 0 0, .string ⟨#[]⟩, .int .i64 0, .int .i64 0, .slice none 0 0] 28))) := ((Below.refl _ _).alloc (Nat.le_refl _) _).alloc (by simp) _
  have hp : bk ((w.alloc (.cells #[.int .i64 e.st, .string (bs e.re), .int .i64 e.mi, vf, .string (bs e.bo), .int .i64 e.ak, .int .i64 e.gt, vv] 28)).alloc (.cells #[.int .i64 0, .string ⟨#[]⟩, .int .i64 0, .slice none 0 0, .string ⟨#[]⟩, .int .i64 0, .int .i64 0, .slice none 0 0] 28)) w.heap.size #[.int .i64 e.st, .string (bs e.re), .int .i64 e.mi, vf, .string (bs e.bo), .int .i64 e.ak, .int .i64 e.gt, vv] := (bk.new w #[.int .i64 e.st, .string (bs e.re), .int .i64 e.mi, vf, .string (bs e.bo), .int .i64 e.ak, .int .i64 e.gt, vv] 28).alloc _
  have hr := bk.new (w.alloc (.cells #[.int .i64 e.st, .string (bs e.re), .int .i64 e.mi, vf, .string (bs e.bo), .int .i64 e.ak, .int .i64 e.gt, vv] 28)) #[.int .i64 0, .string ⟨#[]⟩, .int .i64 0, .slice none 0 0, .string ⟨#[]⟩, .int .i64 0, .int .i64 0, .slice none 0 0] 28
  rw [World.size_alloc] at hr
  have HP0 := Lib.hid hp; have HR0 := Lib.hid hr
  have HL1 : Hid (e.re.length ≤ 281474976710656) := by show _ ≤ _; omega
  have HL4 : Hid (e.bo.length ≤ 281474976710656) := by show _ ≤ _; omega
  have HSF := Lib.hid h1; have HSV := Lib.hid h2; have HF := Lib.hid hf; have HV := Lib.hid hv
  have hz0 : w.heap.size + 2 = ((w.alloc (.cells #[.int .i64 e.st, .string (bs e.re), .int .i64 e.mi, vf, .string (bs e.bo), .int .i64 e.ak, .int .i64 e.gt, vv] 28)).alloc (.cells #[.int .i64 0, .string ⟨#[]⟩, .int .i64 0, .slice none 0 0, .string ⟨#[]⟩, .int .i64 0, .int .i64 0, .slice none 0 0] 28)).heap.size := by simp
  have HZ0 := Lib.hid hz0
  have HNE : Hid (w.heap.size + 1 ≠ w.heap.size) := by show _ ≠ _; omega
  clear hf hv h1 h2 h3 h4 hp hr hz0
  unfold entV
  go_enter Tryz.func32, Tryz.ntmps32
  have c1 := HP0.out.cell 1 (.string (bs e.re)) rfl
  go_wp2_with fail
  generalize ((w.alloc (.cells #[.int .i64 e.st, .string (bs e.re), .int .i64 e.mi, vf, .string (bs e.bo), .int .i64 e.ak, .int .i64 e.gt, vv] 28)).alloc (.cells #[.int .i64 0, .string ⟨#[]⟩, .int .i64 0, .slice none 0 0, .string ⟨#[]⟩, .int .i64 0, .int .i64 0, .slice none 0 0] 28)) = W0 at *
  refine (clone_l e.re W0 HL1.out).mono ?_
  rintro r y1 ⟨rfl, hb⟩
  have HBy := Lib.hid (HB0.out.trans (hb.mono HB0.out.size))
  have HPy := Lib.hid (HP0.out.below hb)
  have HRy := Lib.hid (HR0.out.below hb)
  have HZy : Hid (w.heap.size + 2 ≤ y1.heap.size) := Nat.le_trans (Nat.le_of_eq HZ0.out) hb.size
  clear hb c1
  have c1 := HPy.out.cell 1 (.string (bs e.re)) rfl
  have f1 := HPy.out.free 1
  have hp := HPy.out.set 1 (.string (bs e.re))
  simp only [List.setIfInBounds_toArray, List.set_cons_zero, List.set_cons_succ] at hp
  have HP1 := Lib.hid hp; clear hp
  have HR1 := Lib.hid (HRy.out.other (a := ⟨w.heap.size, 1, none⟩) HNE.out (.string (bs e.re)))
  have HB1 := Lib.hid (HBy.out.setCell (p := ⟨w.heap.size, 1, none⟩) (Nat.le_refl _) (.string (bs e.re)))
  have HZ1 : Hid (w.heap.size + 2 ≤ (y1.setCell ⟨w.heap.size, 1, none⟩ (.string (bs e.re))).heap.size) := by show _ ≤ _; rw [size_setCell]; exact HZy.out
  clear HBy HPy HRy HZy HB0 HP0 HR0
  have c3 := HP1.out.cell 3 (vf) rfl
  go_wp2_with fail
  clear c1 f1
  generalize y1.setCell ⟨w.heap.size, 1, none⟩ (.string (bs e.re)) = x1 at *
  refine (copiedFields_any vf e.fs x1 (FL_low HF.out HB1.out) HSF.out).mono ?_
  rintro r y2 ⟨vf', rfl, ho, hb⟩
  obtain ⟨Af, cf, rfl⟩ := ho.form
  have HBy := Lib.hid (HB1.out.trans (hb.mono HB1.out.size))
  have HPy := Lib.hid (HP1.out.below hb)
  have HRy := Lib.hid (HR1.out.below hb)
  have HZy : Hid (w.heap.size + 2 ≤ y2.heap.size) := Nat.le_trans HZ1.out hb.size
  have HOFy : Hid (ownF y2 (w.heap.size + 2) (.slice Af e.fs.length cf) e.fs) := ho.mono HZ1.out
  clear ho
  clear hb c3
  have c3 := HPy.out.cell 3 (vf) rfl
  have f3 := HPy.out.free 3
  have hp := HPy.out.set 3 (.slice Af e.fs.length cf)
  simp only [List.setIfInBounds_toArray, List.set_cons_zero, List.set_cons_succ] at hp
  have HP2 := Lib.hid hp; clear hp
  have HR2 := Lib.hid (HRy.out.other (a := ⟨w.heap.size, 3, none⟩) HNE.out (.slice Af e.fs.length cf))
  have HB2 := Lib.hid (HBy.out.setCell (p := ⟨w.heap.size, 3, none⟩) (Nat.le_refl _) (.slice Af e.fs.length cf))
  have HZ2 : Hid (w.heap.size + 2 ≤ (y2.setCell ⟨w.heap.size, 3, none⟩ (.slice Af e.fs.length cf)).heap.size) := by show _ ≤ _; rw [size_setCell]; exact HZy.out
  have HOF2 := Lib.hid (ownF_setLow HOFy.out (a := ⟨w.heap.size, 3, none⟩) (by show w.heap.size < w.heap.size + 2; omega) (.slice Af e.fs.length cf))
  clear HBy HPy HRy HZy HOFy HB1 HP1 HR1 HZ1
  have c4 := HP2.out.cell 4 (.string (bs e.bo)) rfl
  go_wp2_with fail
  clear c3 f3
  generalize y2.setCell ⟨w.heap.size, 3, none⟩ (.slice Af e.fs.length cf) = x2 at *
  refine (clone_l e.bo x2 HL4.out).mono ?_
  rintro r y3 ⟨rfl, hb⟩
  have HBy := Lib.hid (HB2.out.trans (hb.mono HB2.out.size))
  have HPy := Lib.hid (HP2.out.below hb)
  have HRy := Lib.hid (HR2.out.below hb)
  have HZy : Hid (w.heap.size + 2 ≤ y3.heap.size) := Nat.le_trans HZ2.out hb.size
  have HOFy := Lib.hid (HOF2.out.bel hb)
  clear hb c4
  have c4 := HPy.out.cell 4 (.string (bs e.bo)) rfl
  have f4 := HPy.out.free 4
  have hp := HPy.out.set 4 (.string (bs e.bo))
  simp only [List.setIfInBounds_toArray, List.set_cons_zero, List.set_cons_succ] at hp
  have HP3 := Lib.hid hp; clear hp
  have HR3 := Lib.hid (HRy.out.other (a := ⟨w.heap.size, 4, none⟩) HNE.out (.string (bs e.bo)))
  have HB3 := Lib.hid (HBy.out.setCell (p := ⟨w.heap.size, 4, none⟩) (Nat.le_refl _) (.string (bs e.bo)))
  have HZ3 : Hid (w.heap.size + 2 ≤ (y3.setCell ⟨w.heap.size, 4, none⟩ (.string (bs e.bo))).heap.size) := by show _ ≤ _; rw [size_setCell]; exact HZy.out
  have HOF3 := Lib.hid (ownF_setLow HOFy.out (a := ⟨w.heap.size, 4, none⟩) (by show w.heap.size < w.heap.size + 2; omega) (.string (bs e.bo)))
  clear HBy HPy HRy HZy HOFy HB2 HP2 HR2 HZ2 HOF2
  have c7 := HP3.out.cell 7 (vv) rfl
  go_wp2_with fail
  clear c4 f4
  generalize y3.setCell ⟨w.heap.size, 4, none⟩ (.string (bs e.bo)) = x3 at *
  refine (copiedFields_any vv e.vy x3 (FL_low HV.out HB3.out) HSV.out).mono ?_
  rintro r y4 ⟨vv', rfl, ho, hb⟩
  obtain ⟨Av, cv, rfl⟩ := ho.form
  have HBy := Lib.hid (HB3.out.trans (hb.mono HB3.out.size))
  have HPy := Lib.hid (HP3.out.below hb)
  have HRy := Lib.hid (HR3.out.below hb)
  have HZy : Hid (w.heap.size + 2 ≤ y4.heap.size) := Nat.le_trans HZ3.out hb.size
  have HOFy := Lib.hid (HOF3.out.bel hb)
  have HOVy : Hid (ownF y4 (w.heap.size + 2) (.slice Av e.vy.length cv) e.vy) := ho.mono HZ3.out
  clear ho
  clear hb c7
  have c7 := HPy.out.cell 7 (vv) rfl
  have f7 := HPy.out.free 7
  have hp := HPy.out.set 7 (.slice Av e.vy.length cv)
  simp only [List.setIfInBounds_toArray, List.set_cons_zero, List.set_cons_succ] at hp
  have HP4 := Lib.hid hp; clear hp
  have HR4 := Lib.hid (HRy.out.other (a := ⟨w.heap.size, 7, none⟩) HNE.out (.slice Av e.vy.length cv))
  have HB4 := Lib.hid (HBy.out.setCell (p := ⟨w.heap.size, 7, none⟩) (Nat.le_refl _) (.slice Av e.vy.length cv))
  have HZ4 : Hid (w.heap.size + 2 ≤ (y4.setCell ⟨w.heap.size, 7, none⟩ (.slice Av e.vy.length cv)).heap.size) := by show _ ≤ _; rw [size_setCell]; exact HZy.out
  have HOF4 := Lib.hid (ownF_setLow HOFy.out (a := ⟨w.heap.size, 7, none⟩) (by show w.heap.size < w.heap.size + 2; omega) (.slice Av e.vy.length cv))
  have HOV4 := Lib.hid (ownF_setLow HOVy.out (a := ⟨w.heap.size, 7, none⟩) (by show w.heap.size < w.heap.size + 2; omega) (.slice Av e.vy.length cv))
  clear HBy HPy HRy HZy HOFy HOVy HB3 HP3 HR3 HZ3 HOF3
  have HLD := Lib.hid (HP4.out.range0 (l := [.int .i64 e.st, .string (bs e.re), .int .i64 e.mi, .slice Af e.fs.length cf, .string (bs e.bo), .int .i64 e.ak, .int .i64 e.gt, .slice Av e.vy.length cv]))
  have HST : Hid (World.there (y4.setCell ⟨w.heap.size, 7, none⟩ (.slice Av e.vy.length cv)) (w.heap.size + 1) 0 8) := HR4.out.there 0 8 (by decide)
  have HQ := Lib.hid (HR4.out.setAll [.int .i64 e.st, .string (bs e.re), .int .i64 e.mi, .slice Af e.fs.length cf, .string (bs e.bo), .int .i64 e.ak, .int .i64 e.gt, .slice Av e.vy.length cv] rfl)
  have HB5 := Lib.hid (Below.cells HB4.out (w.heap.size + 1) (Nat.le_succ _) [.int .i64 e.st, .string (bs e.re), .int .i64 e.mi, .slice Af e.fs.length cf, .string (bs e.bo), .int .i64 e.ak, .int .i64 e.gt, .slice Av e.vy.length cv] 0)
  have HOF5 := Lib.hid (ownF.stay HOF4.out (fun k hk => heap_setCells (w.heap.size + 1) [.int .i64 e.st, .string (bs e.re), .int .i64 e.mi, .slice Af e.fs.length cf, .string (bs e.bo), .int .i64 e.ak, .int .i64 e.gt, .slice Av e.vy.length cv] 0 _ k (by omega)))
  have HOV5 := Lib.hid (ownF.stay HOV4.out (fun k hk => heap_setCells (w.heap.size + 1) [.int .i64 e.st, .string (bs e.re), .int .i64 e.mi, .slice Af e.fs.length cf, .string (bs e.bo), .int .i64 e.ak, .int .i64 e.gt, .slice Av e.vy.length cv] 0 _ k (by omega)))
  have HON : Hid ((#[.int .i64 e.st, .string (bs e.re), .int .i64 e.mi, .slice Af e.fs.length cf, .string (bs e.bo), .int .i64 e.ak, .int .i64 e.gt, .slice Av e.vy.length cv] : Array Value).all (·.oneCell') = true) := ent_one e (.slice Af e.fs.length cf) (.slice Av e.vy.length cv) HOF4.out.fl HOV4.out.fl
  go_wp2_with (first | (refine wpList_load_mid rfl 28 (.tmp 1) rfl _ 0 rfl [.int .i64 e.st, .string (bs e.re), .int .i64 e.mi, .slice Af e.fs.length cf, .string (bs e.bo), .int .i64 e.ak, .int .i64 e.gt, .slice Av e.vy.length cv] _ HLD.out Tryz.underlying28 rfl infoEn.out ?_; clear HLD) | (refine wpList_store_mid rfl 28 (.tmp 2) (.tmp 25) rfl _ 0 #[.int .i64 e.st, .string (bs e.re), .int .i64 e.mi, .slice Af e.fs.length cf, .string (bs e.bo), .int .i64 e.ak, .int .i64 e.gt, .slice Av e.vy.length cv] rfl rfl HST.out infoEn.out HON.out ?_; clear HST))
  have m0 := HQ.out.cell 0 (.int .i64 e.st) rfl
  have m1 := HQ.out.cell 1 (.string (bs e.re)) rfl
  have m2 := HQ.out.cell 2 (.int .i64 e.mi) rfl
  have m3 := HQ.out.cell 3 (.slice Af e.fs.length cf) rfl
  have m4 := HQ.out.cell 4 (.string (bs e.bo)) rfl
  have m5 := HQ.out.cell 5 (.int .i64 e.ak) rfl
  have m6 := HQ.out.cell 6 (.int .i64 e.gt) rfl
  have m7 := HQ.out.cell 7 (.slice Av e.vy.length cv) rfl
  refine bodyPost_ret (v := .agg #[.int .i64 e.st, .string (bs e.re), .int .i64 e.mi, .slice Af e.fs.length cf, .string (bs e.bo), .int .i64 e.ak, .int .i64 e.gt, .slice Av e.vy.length cv]) (by simp [results, Tryz.results32, go_sem, m0, m1, m2, m3, m4, m5, m6, m7]) rfl ⟨_, _, rfl, HOF5.out.mono (by omega), HOV5.out.mono (by omega), HB5.out⟩
end Go.Proofs.YtopgeclecpaecaaGreatDoor
