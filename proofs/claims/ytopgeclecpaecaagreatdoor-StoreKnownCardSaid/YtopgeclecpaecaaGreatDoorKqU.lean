/- Stores that are none: Drop, Find, Names, Put. -/
import Derived.Test.YtopgeclecpaecaaGreatDoorKqN
import Derived.ChangeMaps5
namespace Go.Proofs.YtopgeclecpaecaaGreatDoor
open Go.RowKit
theorem look_nil (w : World) (k : List UInt8) : (Instr.lookup 62 (.map none) (.string (bs k)) false).run Tryz.prog w = .ok (.slice none 0 0) w := by
  have hkey : Go.MapKept.IsKey .string (.string (bs k)) := trivial
  simp [Instr.lookup, run_underlying Tryz.underlying62, Go.MapKept.run_checkKey Tryz.underlying9 hkey, Instr.findKey, Instr.findNow, run_underlying Tryz.underlying9, Result.andThen]
section
variable {w : World}
theorem setUnder_un (t : Nat) (k : List UInt8) (A : Option Addr) (c : Nat) (h : bk w t #[.pointer none, .map none, .int .i64 0]) :
    Calls Tryz.prog 35 #[.pointer (some ⟨t, 0, none⟩), .string (bs k), .slice A 0 c] w fun r w' => r = .returned (.tuple #[]) ∧ w = w' := by
  have hrun : (Builtin.delete_ #[62, 9] 0 #[.map none, .string (bs k)]).run Tryz.prog w = .ok (.tuple #[]) w := Go.ChangeMaps.run_delete_nil Tryz.underlying62 Tryz.underlying9 (bs k)
  have c1 := h.cell 1 (.map none) rfl
  clear h
  go_enter Tryz.func35, Tryz.ntmps35
  go_wp2_with fail
  refine bodyPost_ret (v := .tuple #[]) (by simp [results, Tryz.results35, go_sem]) rfl ?_
  exact ⟨rfl, rfl⟩
theorem latest_un (t : Nat) (vr : Value) :
    Calls Tryz.prog 49 #[.pointer (some ⟨t, 0, none⟩), .slice none 0 0, vr] w fun r w' => r = .returned (.int .i64 (-1)) ∧ w = w' := by
  go_enter Tryz.func49, Tryz.ntmps49
  go_wp2_with fail
  go_loopw [7, 8, 15] (fun a b i wr => a = .int .i64 (-1) ∧ b = .int .i64 0 ∧ i = .int .i64 0 ∧ wr = w) (fun _ _ _ _ => 0)
  case atStart => exact ⟨rfl, rfl, rfl, rfl⟩
  case round =>
    obtain ⟨rfl, rfl, rfl, rfl⟩ := hrel
    go_wp2_with fail
    go_ret
    exact ⟨rfl, rfl⟩
theorem sdrop_un {v : Value} (h : UnS w v) (k : List UInt8) : Calls Tryz.prog 20 #[v, .string (bs k)] w fun r w' => r = .returned (.int .i64 0) ∧ Below w.heap.size w w' := by
  have HK := Lib.hid (kept_un h)
  have hrun := look_nil (stN w) k
  have c1 := (stN_bk w).cell 1 (.map none) rfl
  have HSU := Lib.hid (setUnder_un w.heap.size k none 0 (stN_bk w))
  have HB := Lib.hid (stN_bel w)
  clear h
  generalize stN w = W at *
  generalize w.heap.size = t at *
  go_enter Tryz.func20, Tryz.ntmps20
  go_wp2_with fail
  refine HK.out.mono ?_
  rintro r wx ⟨rfl, rfl⟩
  go_wp2_with fail
  go_loopw [19] (fun i wr => i = .int .i64 0 ∧ wr = W) (fun _ _ => 0)
  case atStart => exact ⟨rfl, rfl⟩
  case round =>
    obtain ⟨rfl, rfl⟩ := hrel
    go_wp2_with fail
    refine HSU.out.mono ?_
    rintro r wx ⟨rfl, rfl⟩
    go_wp2_with fail
    go_ret
    exact ⟨rfl, HB.out⟩
theorem snames_un {v : Value} (h : UnS w v) (k : List UInt8) : Calls Tryz.prog 16 #[v, .string (bs k)] w fun r w' => r = .returned (.slice none 0 0) ∧ Below w.heap.size w w' := by
  have hmk := @run_makeMap Tryz.prog
  have HK := Lib.hid (kept_un h)
  have hrun := look_nil ((stN w).alloc (.map #[] 0)) k
  have hal : Below (stN w).heap.size (stN w) ((stN w).alloc (.map #[] 0)) := (Below.refl _ _).alloc (Nat.le_refl _) _
  have c1 := ((stN_bk w).below hal).cell 1 (.map none) rfl
  have HB := Lib.hid ((stN_bel w).trans (hal.mono (stN_bel w).size))
  clear h hal
  generalize stN w = W at *
  generalize w.heap.size = t at *
  go_enter Tryz.func16, Tryz.ntmps16
  go_wp2_with fail
  refine HK.out.mono ?_
  rintro r wx ⟨rfl, rfl⟩
  go_wp2_with fail
  go_loopw [6, 27] (fun o i wr => o = .slice none 0 0 ∧ i = .int .i64 0 ∧ wr = W.alloc (.map #[] 0)) (fun _ _ _ => 0)
  case atStart => exact ⟨rfl, rfl, rfl⟩
  case round =>
    obtain ⟨rfl, rfl, rfl⟩ := hrel
    go_wp2_with fail
    go_ret
    exact ⟨rfl, HB.out⟩
set_option maxRecDepth 100000 in
set_option maxHeartbeats 2000000 in
theorem sfind_un {v : Value} (h : UnS w v) (k : List UInt8) (vr : Value) : Calls Tryz.prog 22 #[v, .string (bs k), vr] w fun r w' => r = .returned (.tuple #[.agg #[.int .i64 0, .string ⟨#[]⟩, .int .i64 0, .slice none 0 0, .string ⟨#[]⟩, .int .i64 0, .int .i64 0, .slice none 0 0], .bool false]) ∧ Below w.heap.size w w' := by
  have hal : Below w.heap.size w (w.alloc (.cells #[.int .i64 0, .string ⟨#[]⟩, .int .i64 0, .slice none 0 0, .string ⟨#[]⟩, .int .i64 0, .int .i64 0, .slice none 0 0] 28)) := (Below.refl _ _).alloc (Nat.le_refl _) _
  have hrb := bk.new w #[.int .i64 0, .string ⟨#[]⟩, .int .i64 0, .slice none 0 0, .string ⟨#[]⟩, .int .i64 0, .int .i64 0, .slice none 0 0] 28
  have HK := Lib.hid (kept_un (h.bel hal))
  have HAL := Lib.hid hal
  have HSB := Lib.hid (stN_bel (w.alloc (.cells #[.int .i64 0, .string ⟨#[]⟩, .int .i64 0, .slice none 0 0, .string ⟨#[]⟩, .int .i64 0, .int .i64 0, .slice none 0 0] 28)))
  have HRB := Lib.hid (hrb.below HSB.out)
  have hst := stN_bk (w.alloc (.cells #[.int .i64 0, .string ⟨#[]⟩, .int .i64 0, .slice none 0 0, .string ⟨#[]⟩, .int .i64 0, .int .i64 0, .slice none 0 0] 28))
  have HLA := Lib.hid (latest_un (w := stN (w.alloc (.cells #[.int .i64 0, .string ⟨#[]⟩, .int .i64 0, .slice none 0 0, .string ⟨#[]⟩, .int .i64 0, .int .i64 0, .slice none 0 0] 28))) (w.alloc (.cells #[.int .i64 0, .string ⟨#[]⟩, .int .i64 0, .slice none 0 0, .string ⟨#[]⟩, .int .i64 0, .int .i64 0, .slice none 0 0] 28)).heap.size vr)
  have hrun := look_nil (stN (w.alloc (.cells #[.int .i64 0, .string ⟨#[]⟩, .int .i64 0, .slice none 0 0, .string ⟨#[]⟩, .int .i64 0, .int .i64 0, .slice none 0 0] 28))) k
  have c1 := hst.cell 1 (.map none) rfl
  have HB1 := Lib.hid (HAL.out.trans (HSB.out.mono HAL.out.size))
  clear h hal hrb hst HSB
  generalize stN (w.alloc (.cells #[.int .i64 0, .string ⟨#[]⟩, .int .i64 0, .slice none 0 0, .string ⟨#[]⟩, .int .i64 0, .int .i64 0, .slice none 0 0] 28)) = W at *
  generalize (w.alloc (.cells #[.int .i64 0, .string ⟨#[]⟩, .int .i64 0, .slice none 0 0, .string ⟨#[]⟩, .int .i64 0, .int .i64 0, .slice none 0 0] 28)).heap.size = t at *
  have HTH : Hid (World.there W w.heap.size 0 8) := HRB.out.there 0 8 (by decide)
  have HQ := Lib.hid (HRB.out.setAll [.int .i64 0, .string ⟨#[]⟩, .int .i64 0, .slice none 0 0, .string ⟨#[]⟩, .int .i64 0, .int .i64 0, .slice none 0 0] rfl)
  have HB2 : Hid (Below w.heap.size w (World.setCells W w.heap.size 0 [.int .i64 0, .string ⟨#[]⟩, .int .i64 0, .slice none 0 0, .string ⟨#[]⟩, .int .i64 0, .int .i64 0, .slice none 0 0])) := Below.cells HB1.out _ (Nat.le_refl _) [.int .i64 0, .string ⟨#[]⟩, .int .i64 0, .slice none 0 0, .string ⟨#[]⟩, .int .i64 0, .int .i64 0, .slice none 0 0] 0
  go_enter Tryz.func22, Tryz.ntmps22
  go_wp2_with fail
  refine HK.out.mono ?_
  rintro r wx ⟨rfl, rfl⟩
  go_wp2_with fail
  refine HLA.out.mono ?_
  rintro r wx ⟨rfl, rfl⟩
  clear hrun c1
  go_wp2_with (refine wpList_store_mid rfl 28 (.tmp 6) (.tmp 27) rfl _ 0 #[.int .i64 0, .string ⟨#[]⟩, .int .i64 0, .slice none 0 0, .string ⟨#[]⟩, .int .i64 0, .int .i64 0, .slice none 0 0] rfl rfl HTH.out infoEn.out (by kernel_rfl) ?_; clear HTH)
  have m0 := HQ.out.cell 0 (.int .i64 0) rfl
  have m1 := HQ.out.cell 1 (.string ⟨#[]⟩) rfl
  have m2 := HQ.out.cell 2 (.int .i64 0) rfl
  have m3 := HQ.out.cell 3 (.slice none 0 0) rfl
  have m4 := HQ.out.cell 4 (.string ⟨#[]⟩) rfl
  have m5 := HQ.out.cell 5 (.int .i64 0) rfl
  have m6 := HQ.out.cell 6 (.int .i64 0) rfl
  have m7 := HQ.out.cell 7 (.slice none 0 0) rfl
  refine bodyPost_ret (v := .tuple #[.agg #[.int .i64 0, .string ⟨#[]⟩, .int .i64 0, .slice none 0 0, .string ⟨#[]⟩, .int .i64 0, .int .i64 0, .slice none 0 0], .bool false]) (by simp [results, Tryz.results22, go_sem, m0, m1, m2, m3, m4, m5, m6, m7]) rfl ⟨rfl, HB2.out⟩
end
set_option maxRecDepth 100000 in
set_option maxHeartbeats 4000000 in
theorem sput_un {w : World} {v : Value} (h : UnS w v) (k : List UInt8) (e : En) (Af0 Av0 : Option Addr) (cf0 cv0 : Nat) (hf : FL w (.slice Af0 e.fs.length cf0) e.fs) (hv : FL w (.slice Av0 e.vy.length cv0) e.vy) (hs : SmE k e) (hk : KE w) :
    Calls Tryz.prog 11 #[v, .string (bs k), entV e (.slice Af0 e.fs.length cf0) (.slice Av0 e.vy.length cv0)] w fun r w' => r = .returned (.bool false) ∧ Below w.heap.size w w' := by
  have hal : Below w.heap.size w (w.alloc (.cells #[.int .i64 e.st, .string (bs e.re), .int .i64 e.mi, .slice Af0 e.fs.length cf0, .string (bs e.bo), .int .i64 e.ak, .int .i64 e.gt, .slice Av0 e.vy.length cv0] 28)) := (Below.refl _ _).alloc (Nat.le_refl _) _
  have HAL := Lib.hid hal
  have HK0 := Lib.hid (kept_un (h.bel hal))
  have hsb := stN_bel (w.alloc (.cells #[.int .i64 e.st, .string (bs e.re), .int .i64 e.mi, .slice Af0 e.fs.length cf0, .string (bs e.bo), .int .i64 e.ak, .int .i64 e.gt, .slice Av0 e.vy.length cv0] 28))
  have HB1 := Lib.hid (hal.trans (hsb.mono hal.size))
  have hpe := (bk.new w #[.int .i64 e.st, .string (bs e.re), .int .i64 e.mi, .slice Af0 e.fs.length cf0, .string (bs e.bo), .int .i64 e.ak, .int .i64 e.gt, .slice Av0 e.vy.length cv0] 28).below hsb
  have hst := stN_bk (w.alloc (.cells #[.int .i64 e.st, .string (bs e.re), .int .i64 e.mi, .slice Af0 e.fs.length cf0, .string (bs e.bo), .int .i64 e.ak, .int .i64 e.gt, .slice Av0 e.vy.length cv0] 28))
  have HPE := Lib.hid hpe; have HST := Lib.hid hst
  have p7 := hpe.cell 7 (.slice Av0 e.vy.length cv0) rfl
  have HFW : Hid (∀ W', Below w.heap.size w W' → FL W' (.slice Af0 e.fs.length cf0) e.fs) := fun W' hb => hf.bel hb
  have HVW : Hid (∀ W', Below w.heap.size w W' → FL W' (.slice Av0 e.vy.length cv0) e.vy) := fun W' hb => hv.bel hb
  have HSZ : Hid (w.heap.size ≤ (stN (w.alloc (.cells #[.int .i64 e.st, .string (bs e.re), .int .i64 e.mi, .slice Af0 e.fs.length cf0, .string (bs e.bo), .int .i64 e.ak, .int .i64 e.gt, .slice Av0 e.vy.length cv0] 28))).heap.size) := HB1.out.size
  have HKE := Lib.hid (hk.bel HB1.out); have HSM := Lib.hid hs
  have HWT : Hid (w.heap.size < (w.alloc (.cells #[.int .i64 e.st, .string (bs e.re), .int .i64 e.mi, .slice Af0 e.fs.length cf0, .string (bs e.bo), .int .i64 e.ak, .int .i64 e.gt, .slice Av0 e.vy.length cv0] 28)).heap.size) := by show _ < _; simp
  clear hal hsb hpe hst h hf hv hk hs
  unfold entV
  go_enter Tryz.func11, Tryz.ntmps11
  go_wp2_with fail
  generalize stN (w.alloc (.cells #[.int .i64 e.st, .string (bs e.re), .int .i64 e.mi, .slice Af0 e.fs.length cf0, .string (bs e.bo), .int .i64 e.ak, .int .i64 e.gt, .slice Av0 e.vy.length cv0] 28)) = W at *
  generalize htt : (w.alloc (.cells #[.int .i64 e.st, .string (bs e.re), .int .i64 e.mi, .slice Af0 e.fs.length cf0, .string (bs e.bo), .int .i64 e.ak, .int .i64 e.gt, .slice Av0 e.vy.length cv0] 28)).heap.size = t at *
  have HTT := Lib.hid htt
  clear htt
  refine HK0.out.mono ?_
  rintro r wx ⟨rfl, rfl⟩
  clear HK0
  generalize hpp : w.heap.size = p at *
  have HPP := Lib.hid hpp
  clear hpp
  go_wp2_with fail
  refine (identity_any k (.slice Av0 e.vy.length cv0) e.vy W (HVW.out _ HB1.out) HSM.out.k HSM.out.vy HKE.out).mono ?_
  rintro r w2 ⟨rfl, hb⟩
  have HB2 := Lib.hid (HB1.out.trans (hb.mono HSZ.out))
  have HSZ2 : Hid (p ≤ w2.heap.size) := Nat.le_trans HSZ.out hb.size
  have HT2 := Lib.hid (HST.out.below hb); have HP2 := Lib.hid (HPE.out.below hb)
  clear hb p7 HPE HST
  go_wp2_with fail
  refine (stremove_un t (idT k e.vy) w2 HT2.out).mono ?_
  rintro r wx ⟨rfl, rfl⟩
  have c2 := HT2.out.cell 2 (.int .i64 0) rfl
  have f2 := HT2.out.free 2
  go_wp2_with fail
  have hd4 : Did (fun b => b = t) (fun b => b = t) w2 (w2.setCell ⟨t, 2, none⟩ (.int .i64 1)) := ⟨rfl, rfl, rfl, by rw [size_setCell]; exact Nat.le_refl _, fun b _ hx => Below.heap_setCell _ _ _ _ hx, fun b hb => .inl hb⟩
  have hpt : ¬ p = t := fun e' => by have := HWT.out; omega
  have HP4 := Lib.hid (HP2.out.keep (hd4.keep p HP2.out.lt hpt))
  have HT4 : Hid (bk (w2.setCell ⟨t, 2, none⟩ (.int .i64 1)) t #[.pointer none, .map none, .int .i64 1]) := HT2.out.set 2 (.int .i64 1)
  have HB4 := Lib.hid (HB2.out.trans (hd4.below HSZ2.out (fun b hb => by have := HWT.out; have hb : b = t := hb; omega)))
  have HSZ4 : Hid (p ≤ (w2.setCell ⟨t, 2, none⟩ (.int .i64 1)).heap.size) := by show _ ≤ _; rw [size_setCell]; exact HSZ2.out
  have HF4 := Lib.hid (HFW.out _ HB4.out); have HV4 := Lib.hid (HVW.out _ HB4.out)
  clear c2 f2 hd4 hpt HP2 HT2
  generalize w2.setCell ⟨t, 2, none⟩ (.int .i64 1) = w4 at *
  have HFF : Hid (FL w4.drew (.slice Af0 e.fs.length cf0) e.fs) := HF4.out
  have HFV : Hid (FL w4.drew (.slice Av0 e.vy.length cv0) e.vy) := HV4.out
  refine wp_region_growS (.one 0 false (.one 1 false (.one 2 false (.one 3 false (.one 4 false (.one 5 false (.one 6 false (.one 8 false (.one 10 false (.one 11 false (.one 12 false (.one 13 false (.one 17 false (.one 7 true (.one 9 true (.one 14 false (.one 15 true (.one 16 false .done))))))))))))))))))
    (fun x => x.heap[p]? = w4.heap[p]? ∧ x.heap[t]? = w4.heap[t]?) (by kernel_rfl) (by kernel_rfl) rfl (by kernel_rfl) (by kernel_rfl) ⟨rfl, rfl⟩ (fun ops hops => ?_)
  simp only [GT.ins, List.getD_cons_zero, List.getD_cons_succ]
  clear hops
  iterate 13
    refine growS_take (by rfl) ?_
    apply Exists.intro
    refine ⟨fun w' hE => ?_, ?_⟩
    · have t0 : w'.cell? ⟨t, 0, none⟩ = some (.pointer none) := (World.cell?_of_block (a := ⟨t, 0, none⟩) hE.2).trans (HT4.out.cell 0 _ rfl); have t2 : w'.cell? ⟨t, 2, none⟩ = some (.int .i64 1) := (World.cell?_of_block (a := ⟨t, 2, none⟩) hE.2).trans (HT4.out.cell 2 _ rfl); have p0 : w'.cell? ⟨p, 0, none⟩ = some (.int .i64 e.st) := (World.cell?_of_block (a := ⟨p, 0, none⟩) hE.1).trans (HP4.out.cell 0 _ rfl); have p1 : w'.cell? ⟨p, 1, none⟩ = some (.string (bs e.re)) := (World.cell?_of_block (a := ⟨p, 1, none⟩) hE.1).trans (HP4.out.cell 1 _ rfl); have p2 : w'.cell? ⟨p, 2, none⟩ = some (.int .i64 e.mi) := (World.cell?_of_block (a := ⟨p, 2, none⟩) hE.1).trans (HP4.out.cell 2 _ rfl); have p3 : w'.cell? ⟨p, 3, none⟩ = some (.slice Af0 e.fs.length cf0) := (World.cell?_of_block (a := ⟨p, 3, none⟩) hE.1).trans (HP4.out.cell 3 _ rfl); have p4 : w'.cell? ⟨p, 4, none⟩ = some (.string (bs e.bo)) := (World.cell?_of_block (a := ⟨p, 4, none⟩) hE.1).trans (HP4.out.cell 4 _ rfl); have p5 : w'.cell? ⟨p, 5, none⟩ = some (.int .i64 e.ak) := (World.cell?_of_block (a := ⟨p, 5, none⟩) hE.1).trans (HP4.out.cell 5 _ rfl); have p6 : w'.cell? ⟨p, 6, none⟩ = some (.int .i64 e.gt) := (World.cell?_of_block (a := ⟨p, 6, none⟩) hE.1).trans (HP4.out.cell 6 _ rfl); have p7 : w'.cell? ⟨p, 7, none⟩ = some (.slice Av0 e.vy.length cv0) := (World.cell?_of_block (a := ⟨p, 7, none⟩) hE.1).trans (HP4.out.cell 7 _ rfl)
      go_simp
      try with_reducible rfl
    simp only [Act.put, List.setIfInBounds_toArray, List.set_cons_zero, List.set_cons_succ]
  refine growS_call (by rfl) (fun K hK => ?_)
  go_simp
  refine (size_any k e (.slice Af0 e.fs.length cf0) (.slice Av0 e.vy.length cv0) w4.drew HFF.out HFV.out HSM.out).mono ?_
  rintro r z1 ⟨rfl, hb⟩
  have hb : Below w4.heap.size w4 z1 := ⟨hb.os, hb.tape, hb.output, hb.size, hb.block⟩
  have HB5 := Lib.hid hb
  refine hK.out _ _ ⟨hb.block p HP4.out.lt, hb.block t HT4.out.lt⟩ ?_
  clear hK K hb
  refine growS_call (by rfl) (fun K hK => ?_)
  go_simp
  refine (copied_any9 e (.slice Af0 e.fs.length cf0) (.slice Av0 e.vy.length cv0) z1 (HF4.out.bel HB5.out) (HV4.out.bel HB5.out) HSM.out.fs HSM.out.vy (by have := HSM.out.re; omega) (by have := HSM.out.bo; omega)).mono ?_
  rintro r z2 ⟨vf', vv', rfl, of', ov', hb⟩
  obtain ⟨Af, cf, rfl⟩ := of'.form
  obtain ⟨Av, cv, rfl⟩ := ov'.form
  have HB6 := Lib.hid (HB5.out.trans (hb.mono HB5.out.size))
  simp only [entV]
  refine hK.out _ _ ⟨HB6.out.block p HP4.out.lt, HB6.out.block t HT4.out.lt⟩ ?_
  clear hK K hb of' ov'
  iterate 1
    refine growS_take (by rfl) ?_
    apply Exists.intro
    refine ⟨fun w' hE => ?_, ?_⟩
    · have t0 : w'.cell? ⟨t, 0, none⟩ = some (.pointer none) := (World.cell?_of_block (a := ⟨t, 0, none⟩) hE.2).trans (HT4.out.cell 0 _ rfl); have t2 : w'.cell? ⟨t, 2, none⟩ = some (.int .i64 1) := (World.cell?_of_block (a := ⟨t, 2, none⟩) hE.2).trans (HT4.out.cell 2 _ rfl); have p0 : w'.cell? ⟨p, 0, none⟩ = some (.int .i64 e.st) := (World.cell?_of_block (a := ⟨p, 0, none⟩) hE.1).trans (HP4.out.cell 0 _ rfl); have p1 : w'.cell? ⟨p, 1, none⟩ = some (.string (bs e.re)) := (World.cell?_of_block (a := ⟨p, 1, none⟩) hE.1).trans (HP4.out.cell 1 _ rfl); have p2 : w'.cell? ⟨p, 2, none⟩ = some (.int .i64 e.mi) := (World.cell?_of_block (a := ⟨p, 2, none⟩) hE.1).trans (HP4.out.cell 2 _ rfl); have p3 : w'.cell? ⟨p, 3, none⟩ = some (.slice Af0 e.fs.length cf0) := (World.cell?_of_block (a := ⟨p, 3, none⟩) hE.1).trans (HP4.out.cell 3 _ rfl); have p4 : w'.cell? ⟨p, 4, none⟩ = some (.string (bs e.bo)) := (World.cell?_of_block (a := ⟨p, 4, none⟩) hE.1).trans (HP4.out.cell 4 _ rfl); have p5 : w'.cell? ⟨p, 5, none⟩ = some (.int .i64 e.ak) := (World.cell?_of_block (a := ⟨p, 5, none⟩) hE.1).trans (HP4.out.cell 5 _ rfl); have p6 : w'.cell? ⟨p, 6, none⟩ = some (.int .i64 e.gt) := (World.cell?_of_block (a := ⟨p, 6, none⟩) hE.1).trans (HP4.out.cell 6 _ rfl); have p7 : w'.cell? ⟨p, 7, none⟩ = some (.slice Av0 e.vy.length cv0) := (World.cell?_of_block (a := ⟨p, 7, none⟩) hE.1).trans (HP4.out.cell 7 _ rfl)
      go_simp
      try with_reducible rfl
    simp only [Act.put, List.setIfInBounds_toArray, List.set_cons_zero, List.set_cons_succ]
  refine growS_call (by rfl) (fun K hK => ?_)
  go_simp
  refine (BT.put_un (w := z2) (v := .pointer none) (.inl rfl) (bs (idT k e.vy)) (sizeE k e : Int) ⟨.int .i64 e.st, .string (bs e.re), .int .i64 e.mi, .slice Af e.fs.length cf, .string (bs e.bo), .int .i64 e.ak, .int .i64 e.gt, .slice Av e.vy.length cv, .int .i64 ((1 : Nat) : Int), item_one e 1 Af Av cf cv⟩).mono ?_
  rintro r w5 ⟨rfl, hb⟩
  have HB7 := Lib.hid (HB6.out.trans (hb.mono HB6.out.size))
  refine hK.out _ _ ⟨HB7.out.block p HP4.out.lt, HB7.out.block t HT4.out.lt⟩ ?_
  clear hK K hb
  iterate 1
    refine growS_take (by rfl) ?_
    apply Exists.intro
    refine ⟨fun w' hE => ?_, ?_⟩
    · have t0 : w'.cell? ⟨t, 0, none⟩ = some (.pointer none) := (World.cell?_of_block (a := ⟨t, 0, none⟩) hE.2).trans (HT4.out.cell 0 _ rfl); have t2 : w'.cell? ⟨t, 2, none⟩ = some (.int .i64 1) := (World.cell?_of_block (a := ⟨t, 2, none⟩) hE.2).trans (HT4.out.cell 2 _ rfl); have p0 : w'.cell? ⟨p, 0, none⟩ = some (.int .i64 e.st) := (World.cell?_of_block (a := ⟨p, 0, none⟩) hE.1).trans (HP4.out.cell 0 _ rfl); have p1 : w'.cell? ⟨p, 1, none⟩ = some (.string (bs e.re)) := (World.cell?_of_block (a := ⟨p, 1, none⟩) hE.1).trans (HP4.out.cell 1 _ rfl); have p2 : w'.cell? ⟨p, 2, none⟩ = some (.int .i64 e.mi) := (World.cell?_of_block (a := ⟨p, 2, none⟩) hE.1).trans (HP4.out.cell 2 _ rfl); have p3 : w'.cell? ⟨p, 3, none⟩ = some (.slice Af0 e.fs.length cf0) := (World.cell?_of_block (a := ⟨p, 3, none⟩) hE.1).trans (HP4.out.cell 3 _ rfl); have p4 : w'.cell? ⟨p, 4, none⟩ = some (.string (bs e.bo)) := (World.cell?_of_block (a := ⟨p, 4, none⟩) hE.1).trans (HP4.out.cell 4 _ rfl); have p5 : w'.cell? ⟨p, 5, none⟩ = some (.int .i64 e.ak) := (World.cell?_of_block (a := ⟨p, 5, none⟩) hE.1).trans (HP4.out.cell 5 _ rfl); have p6 : w'.cell? ⟨p, 6, none⟩ = some (.int .i64 e.gt) := (World.cell?_of_block (a := ⟨p, 6, none⟩) hE.1).trans (HP4.out.cell 6 _ rfl); have p7 : w'.cell? ⟨p, 7, none⟩ = some (.slice Av0 e.vy.length cv0) := (World.cell?_of_block (a := ⟨p, 7, none⟩) hE.1).trans (HP4.out.cell 7 _ rfl)
      go_simp
      try with_reducible rfl
    simp only [Act.put, List.setIfInBounds_toArray, List.set_cons_zero, List.set_cons_succ]
  refine growS_done (NoPanic.normal ?_)
  go_wp2_with fail
  go_loopw [46] (fun i wr => i = .int .i64 0 ∧ w5 = wr) (fun _ _ => 0)
  case atStart => exact ⟨rfl, rfl⟩
  case round =>
    obtain ⟨rfl, rfl⟩ := hrel
    have HT5 := Lib.hid (HT4.out.below HB7.out)
    have HPK := Lib.hid (BT.peek_un (w := w5) (v := .pointer none) (.inl rfl) (bs (idT k e.vy)))
    have t0 := HT5.out.cell 0 (.pointer none) rfl
    go_wp2_with fail
    refine HPK.out.mono ?_
    rintro r w6 ⟨rfl, hb⟩
    have HB8 := Lib.hid (HB7.out.trans (hb.mono HB7.out.size))
    have HST6 : Hid (World.there (w6.alloc (.cells #[.int .i64 0, .string ⟨#[]⟩, .int .i64 0, .slice none 0 0, .string ⟨#[]⟩, .int .i64 0, .int .i64 0, .slice none 0 0, .int .i64 0] 61)) w6.heap.size 0 9) := (bk.new w6 #[.int .i64 0, .string ⟨#[]⟩, .int .i64 0, .slice none 0 0, .string ⟨#[]⟩, .int .i64 0, .int .i64 0, .slice none 0 0, .int .i64 0] 61).there 0 9 (by decide)
    have hb9 : Below w6.heap.size w6 (World.setCells (w6.alloc (.cells #[.int .i64 0, .string ⟨#[]⟩, .int .i64 0, .slice none 0 0, .string ⟨#[]⟩, .int .i64 0, .int .i64 0, .slice none 0 0, .int .i64 0] 61)) w6.heap.size 0 [.int .i64 0, .string ⟨#[]⟩, .int .i64 0, .slice none 0 0, .string ⟨#[]⟩, .int .i64 0, .int .i64 0, .slice none 0 0, .int .i64 0]) := Below.cells ((Below.refl w6.heap.size w6).alloc (Nat.le_refl _) _) _ (Nat.le_refl _) [.int .i64 0, .string ⟨#[]⟩, .int .i64 0, .slice none 0 0, .string ⟨#[]⟩, .int .i64 0, .int .i64 0, .slice none 0 0, .int .i64 0] 0
    have HB9 := Lib.hid (HB8.out.trans (hb9.mono HB8.out.size))
    clear hb hb9 t0 HPK
    go_wp2_with (refine wpList_store_mid rfl 61 (.tmp 11) (.tmp 61) rfl _ 0 #[.int .i64 0, .string ⟨#[]⟩, .int .i64 0, .slice none 0 0, .string ⟨#[]⟩, .int .i64 0, .int .i64 0, .slice none 0 0, .int .i64 0] rfl rfl HST6.out BT.infoT.out (by kernel_rfl) ?_; clear HST6)
    go_ret
    refine ⟨rfl, ?_⟩
    rw [HPP.out]
    exact HB4.out.trans (HB9.out.mono HSZ4.out)
end Go.Proofs.YtopgeclecpaecaaGreatDoor
