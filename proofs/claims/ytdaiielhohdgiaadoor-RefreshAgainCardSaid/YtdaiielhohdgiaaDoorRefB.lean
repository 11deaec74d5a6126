/- What a 304 makes of an entry: the program's With. -/
import Derived.Test.YtdaiielhohdgiaaDoorRefA
namespace Go.Proofs.YtdaiielhohdgiaaDoor
open Go.RowKit Go.Shelf

theorem infoRy : Hid ((Tryd.prog.info? 24).map (·.size) = some 5) := by
  have : (Tryd.prog.info? 24).map (fun i => i.size) = some 5 := by kernel_rfl
  exact this
theorem FL_same {w w' : World} {v : Value} {l : List Fld} (h : FL w v l) (hh : w'.heap = w.heap) : FL w' v l := by
  have e : ∀ a, w'.cell? a = w.cell? a := fun a => by unfold World.cell?; rw [hh]
  rcases h with h | ⟨b, off, c, hv, hb, hc⟩
  · exact .inl h
  · exact .inr ⟨b, off, c, hv, by rw [hh]; exact hb, fun j hj => by rw [e, e]; exact hc j hj⟩
/-- an entry with other fields and ticks -/
def ent2 (e : En) (l : List Fld) (a g : Int) : En := ⟨e.st, e.re, e.mi, l, e.bo, a, g, e.vy⟩
theorem del_nil (l : List Fld) : delL l [] = l := by unfold delL hasN; simp
theorem clone_r (l : List UInt8) (w : World) (h : l.length ≤ 281474976710656) : Calls Tryd.prog 19 #[.string (bs l)] w fun e w' => e = .returned (.string (bs l)) ∧ Below w.heap.size w w' :=
  clone_any (bs l) w (by rw [bs_size]; exact h)

set_option maxRecDepth 100000 in
set_option maxHeartbeats 4000000 in
theorem xwith_any {st mi : Int} {re bo : ByteArray} (e : En) (vf vv vr : Value) (rep : List Fld) (asked got : Int) (w : World) (hf : FL w vf e.fs) (hv : FL w vv e.vy) (hr : FL w vr rep)
    (q1 : QF e.fs) (q2 : QF e.vy) (q3 : QH rep) (h1 : e.re.length ≤ 281474976710656) (h4 : e.bo.length ≤ 281474976710656) (ht : Spc w) :
    Calls Tryd.prog 7 #[entV e vf vv, .agg #[.int .i64 st, .string re, .int .i64 mi, vr, .string bo], .int .i64 asked, .int .i64 got] w fun r w' => ∃ vf' vv', r = .returned (entV (ent2 e (madeL e.fs rep) asked got) vf' vv') ∧ ownF w' w.heap.size vf' (madeL e.fs rep) ∧ ownF w' w.heap.size vv' e.vy ∧ Below w.heap.size w w' := by
  obtain ⟨Af, cf, rfl⟩ := hf.form
  obtain ⟨Av, cv, rfl⟩ := hv.form
  obtain ⟨Ar, cr, rfl⟩ := hr.form
  have hb : Below w.heap.size w (((w.alloc (.cells #[.int .i64 e.st, .string (bs e.re), .int .i64 e.mi, .slice Af e.fs.length cf, .string (bs e.bo), .int .i64 e.ak, .int .i64 e.gt, .slice Av e.vy.length cv] 26)).alloc (.cells #[.int .i64 st, .string re, .int .i64 mi, .slice Ar rep.length cr, .string bo] 24)).alloc (.cells #[.int .i64 0, .string ⟨#[]⟩, .int .i64 0, .slice none 0 0, .string ⟨#[]⟩, .int .i64 0, .int .i64 0, .slice none 0 0] 26)) := (((Below.refl _ _).alloc (Nat.le_refl _) _).alloc (by simp) _).alloc (by simp; omega) _
  have hp : bk (((w.alloc (.cells #[.int .i64 e.st, .string (bs e.re), .int .i64 e.mi, .slice Af e.fs.length cf, .string (bs e.bo), .int .i64 e.ak, .int .i64 e.gt, .slice Av e.vy.length cv] 26)).alloc (.cells #[.int .i64 st, .string re, .int .i64 mi, .slice Ar rep.length cr, .string bo] 24)).alloc (.cells #[.int .i64 0, .string ⟨#[]⟩, .int .i64 0, .slice none 0 0, .string ⟨#[]⟩, .int .i64 0, .int .i64 0, .slice none 0 0] 26)) w.heap.size #[.int .i64 e.st, .string (bs e.re), .int .i64 e.mi, .slice Af e.fs.length cf, .string (bs e.bo), .int .i64 e.ak, .int .i64 e.gt, .slice Av e.vy.length cv] := ((bk.new w _ _).alloc _).alloc _
  have hy := (bk.new (w.alloc (.cells #[.int .i64 e.st, .string (bs e.re), .int .i64 e.mi, .slice Af e.fs.length cf, .string (bs e.bo), .int .i64 e.ak, .int .i64 e.gt, .slice Av e.vy.length cv] 26)) #[.int .i64 st, .string re, .int .i64 mi, .slice Ar rep.length cr, .string bo] 24).alloc (.cells #[.int .i64 0, .string ⟨#[]⟩, .int .i64 0, .slice none 0 0, .string ⟨#[]⟩, .int .i64 0, .int .i64 0, .slice none 0 0] 26)
  have hr0 := bk.new ((w.alloc (.cells #[.int .i64 e.st, .string (bs e.re), .int .i64 e.mi, .slice Af e.fs.length cf, .string (bs e.bo), .int .i64 e.ak, .int .i64 e.gt, .slice Av e.vy.length cv] 26)).alloc (.cells #[.int .i64 st, .string re, .int .i64 mi, .slice Ar rep.length cr, .string bo] 24)) #[.int .i64 0, .string ⟨#[]⟩, .int .i64 0, .slice none 0 0, .string ⟨#[]⟩, .int .i64 0, .int .i64 0, .slice none 0 0] 26
  simp only [World.size_alloc] at hy hr0
  have hz0 : w.heap.size + 3 ≤ (((w.alloc (.cells #[.int .i64 e.st, .string (bs e.re), .int .i64 e.mi, .slice Af e.fs.length cf, .string (bs e.bo), .int .i64 e.ak, .int .i64 e.gt, .slice Av e.vy.length cv] 26)).alloc (.cells #[.int .i64 st, .string re, .int .i64 mi, .slice Ar rep.length cr, .string bo] 24)).alloc (.cells #[.int .i64 0, .string ⟨#[]⟩, .int .i64 0, .slice none 0 0, .string ⟨#[]⟩, .int .i64 0, .int .i64 0, .slice none 0 0] 26)).heap.size := by simp only [World.size_alloc]; omega
  have HB := Lib.hid hb; have HP := Lib.hid hp; have HY := Lib.hid hy; have HR := Lib.hid hr0; have HZ := Lib.hid hz0
  have HF := Lib.hid hf; have HV := Lib.hid hv; have HRP := Lib.hid hr; have HQ1 := Lib.hid q1; have HQ2 := Lib.hid q2; have HQ3 := Lib.hid q3
  have HL1 : Hid (e.re.length ≤ 281474976710656) := h1
  have HL4 : Hid (e.bo.length ≤ 281474976710656) := h4
  have HT := Lib.hid ht
  have HN1 : Hid (w.heap.size + 1 + 1 ≠ w.heap.size) := by show _ ≠ _; omega
  have HMADE : Hid (madeL e.fs rep = remL e.fs (updL rep) ++ updL rep) := rfl
  have HQU := Lib.hid q3.upd
  clear hb hp hy hr0 hz0 hf hv hr q1 q2 q3 h1 h4 ht
  unfold entV
  go_enter Tryd.func7, Tryd.ntmps7
  have HLD := Lib.hid (HY.out.range0 (l := [.int .i64 st, .string re, .int .i64 mi, .slice Ar rep.length cr, .string bo]))
  go_wp2_with (refine wpList_load_mid rfl 24 (.tmp 5) rfl _ 0 rfl [.int .i64 st, .string re, .int .i64 mi, .slice Ar rep.length cr, .string bo] _ HLD.out Tryd.underlying24 rfl infoRy.out ?_; clear HLD)
  generalize ((w.alloc (.cells #[.int .i64 e.st, .string (bs e.re), .int .i64 e.mi, .slice Af e.fs.length cf, .string (bs e.bo), .int .i64 e.ak, .int .i64 e.gt, .slice Av e.vy.length cv] 26)).alloc (.cells #[.int .i64 st, .string re, .int .i64 mi, .slice Ar rep.length cr, .string bo] 24)).alloc (.cells #[.int .i64 0, .string ⟨#[]⟩, .int .i64 0, .slice none 0 0, .string ⟨#[]⟩, .int .i64 0, .int .i64 0, .slice none 0 0] 26) = W0 at *
  refine (xupd_any _ rep W0 (HRP.out.bel HB.out) HQ3.out (HT.out.low HB.out)).mono ?_
  rintro r y1 ⟨v1, rfl, ho, hb⟩
  generalize updL rep = U at *
  obtain ⟨AU, cU, rfl⟩ := ho.form
  have HOU : Hid (FL y1 (.slice AU U.length cU) U) := ho.fl
  have HB1 := Lib.hid (HB.out.trans (hb.mono HB.out.size)); have HP1 := Lib.hid (HP.out.below hb); have HR1 := Lib.hid (HR.out.below hb)
  have HZ1 : Hid (w.heap.size + 3 ≤ y1.heap.size) := Nat.le_trans HZ.out hb.size
  clear ho hb HB HP HR HZ HY HRP
  have c1 := HP1.out.cell 1 (.string (bs e.re)) rfl
  go_wp2_with fail
  refine (clone_r e.re y1 HL1.out).mono ?_
  rintro r y2 ⟨rfl, hb⟩
  have HB2 := Lib.hid (HB1.out.trans (hb.mono HB1.out.size)); have HP2 := Lib.hid (HP1.out.below hb); have HR2 := Lib.hid (HR1.out.below hb)
  have HZ2 : Hid (w.heap.size + 3 ≤ y2.heap.size) := Nat.le_trans HZ1.out hb.size
  have HOU2 := Lib.hid (HOU.out.bel hb)
  clear hb c1 HB1 HP1 HR1 HZ1 HOU
  have c1 := HP2.out.cell 1 (.string (bs e.re)) rfl
  have f1 := HP2.out.free 1
  have hp := HP2.out.set 1 (.string (bs e.re))
  simp only [List.setIfInBounds_toArray, List.set_cons_zero, List.set_cons_succ] at hp
  have HP3 := Lib.hid hp; clear hp
  have HR3 := Lib.hid (HR2.out.other (a := ⟨w.heap.size, 1, none⟩) HN1.out (.string (bs e.re)))
  have HB3 := Lib.hid (HB2.out.setCell (p := ⟨w.heap.size, 1, none⟩) (Nat.le_refl _) (.string (bs e.re)))
  have HZ3 : Hid (w.heap.size + 3 ≤ (y2.setCell ⟨w.heap.size, 1, none⟩ (.string (bs e.re))).heap.size) := (by show _ ≤ _; rw [World.size_setCell]; exact HZ2.out)
  have HOU3 : Hid (FL (y2.setCell ⟨w.heap.size, 1, none⟩ (.string (bs e.re))) (.slice AU U.length cU) U) := FL_same HOU2.out (setCell_id c1)
  clear HB2 HP2 HR2 HZ2 HOU2
  have HLD := Lib.hid (HP3.out.range 0 [.int .i64 e.st, .string (bs e.re), .int .i64 e.mi, .slice Af e.fs.length cf, .string (bs e.bo)] (by intro j v h; rcases j with _ | _ | _ | _ | _ | j <;> first | exact h | (simp at h)))
  go_wp2_with (refine wpList_load_mid rfl 24 (.tmp 18) rfl _ 0 rfl [.int .i64 e.st, .string (bs e.re), .int .i64 e.mi, .slice Af e.fs.length cf, .string (bs e.bo)] _ HLD.out Tryd.underlying24 rfl infoRy.out ?_; clear HLD)
  clear c1 f1
  generalize y2.setCell ⟨w.heap.size, 1, none⟩ (.string (bs e.re)) = x3 at *
  refine (xrem_any _ _ e.fs U x3 (HF.out.bel HB3.out) HOU3.out HQ1.out HQU.out.qf).mono ?_
  rintro r y4 ⟨v4, rfl, ho, hb⟩
  have HB4 := Lib.hid (HB3.out.trans (hb.mono HB3.out.size)); have HP4 := Lib.hid (HP3.out.below hb); have HR4 := Lib.hid (HR3.out.below hb)
  have HZ4 : Hid (w.heap.size + 3 ≤ y4.heap.size) := Nat.le_trans HZ3.out hb.size
  have HOU4 := Lib.hid (HOU3.out.bel hb)
  have HZB : Hid (w.heap.size + 3 ≤ x3.heap.size) := HZ3.out
  have HQM : Hid ((remL e.fs U).length + U.length ≤ 4294967296) := by have h1 := (HQ1.out.rem U).len; have h2 := HQU.out.len; show _ ≤ _; omega
  generalize remL e.fs U = L1 at *
  have HOL := Lib.hid ho
  have HSZ4 : Hid (x3.heap.size ≤ y4.heap.size) := hb.size
  have HBB : Hid (w.heap.size ≤ x3.heap.size) := by have := HZB.out; show _ ≤ _; omega
  obtain ⟨M, hM⟩ : ∃ M, M = madeL e.fs rep := ⟨_, rfl⟩
  have HEM := Lib.hid hM
  have hmm : L1 ++ U = M := by rw [hM]; exact HMADE.out.symm
  have HMM := Lib.hid hmm
  clear ho hb HB3 HP3 HR3 HZ3 HOU3 hmm HMADE hM
  go_wp2_with (at_builtin; refine wpList_appFF (w0 := w) rfl (.tmp 21) (.tmp 22) rfl x3.heap.size w.heap.size _ _ L1 U rfl HOL.out HB4.out HBB.out HSZ4.out rfl HOU4.out HQM.out ?_; intro v5 y5 HOM HB5 HK5 HS5; rw [HMM.out] at HOM; obtain ⟨AM, cM, rfl⟩ := HOM.out.form; have HP5 := Lib.hid (HP4.out.keep (HK5.out w.heap.size (by have := HZB.out; omega))); have HR5 := Lib.hid (HR4.out.keep (HK5.out (w.heap.size + 1 + 1) (by have := HZB.out; omega))); have HZ5 : Hid (w.heap.size + 3 ≤ y5.heap.size) := Nat.le_trans HZ4.out HS5.out; have HOM5 : Hid (ownF y5 (w.heap.size + 3) (.slice AM M.length cM) M) := HOM.out.mono HZB.out; clear HOM HK5 HS5 HOL HB4 HP4 HR4 HZ4 HOU4 HQM HMM HBB HSZ4 HZB; have c3 := HP5.out.cell 3 _ rfl; have f3 := HP5.out.free 3; have hp := HP5.out.set 3 (.slice AM M.length cM); simp only [List.setIfInBounds_toArray, List.set_cons_zero, List.set_cons_succ] at hp; have HP6 := Lib.hid hp; clear hp; have HR6 := Lib.hid (HR5.out.other (a := ⟨w.heap.size, 3, none⟩) HN1.out (.slice AM M.length cM)); have HB6 := Lib.hid (HB5.out.setCell (p := ⟨w.heap.size, 3, none⟩) (Nat.le_refl _) (.slice AM M.length cM)); have HZ6 : Hid (w.heap.size + 3 ≤ (y5.setCell ⟨w.heap.size, 3, none⟩ (.slice AM M.length cM)).heap.size) := (by show _ ≤ _; rw [World.size_setCell]; exact HZ5.out); have HOM6 := Lib.hid (ownF_setLow HOM5.out (a := ⟨w.heap.size, 3, none⟩) (by show w.heap.size < w.heap.size + 3; omega) (.slice AM M.length cM)); have c4 := HP6.out.cell 4 (.string (bs e.bo)) rfl)
  clear c3 f3 HB5 HP5 HR5 HZ5 HOM5
  generalize y5.setCell ⟨w.heap.size, 3, none⟩ (.slice AM M.length cM) = x6 at *
  refine (clone_r e.bo x6 HL4.out).mono ?_
  rintro r y7 ⟨rfl, hb⟩
  have HB7 := Lib.hid (HB6.out.trans (hb.mono HB6.out.size)); have HP7 := Lib.hid (HP6.out.below hb); have HR7 := Lib.hid (HR6.out.below hb)
  have HZ7 : Hid (w.heap.size + 3 ≤ y7.heap.size) := Nat.le_trans HZ6.out hb.size
  have HOM7 := Lib.hid (HOM6.out.bel hb)
  clear hb c4 HB6 HP6 HR6 HZ6 HOM6
  have c4 := HP7.out.cell 4 (.string (bs e.bo)) rfl
  have f4 := HP7.out.free 4
  have hp := HP7.out.set 4 (.string (bs e.bo))
  simp only [List.setIfInBounds_toArray, List.set_cons_zero, List.set_cons_succ] at hp
  have HP8 := Lib.hid hp; clear hp
  have HR8 := Lib.hid (HR7.out.other (a := ⟨w.heap.size, 4, none⟩) HN1.out (.string (bs e.bo)))
  have HB8 := Lib.hid (HB7.out.setCell (p := ⟨w.heap.size, 4, none⟩) (Nat.le_refl _) (.string (bs e.bo)))
  have HZ8 : Hid (w.heap.size + 3 ≤ (y7.setCell ⟨w.heap.size, 4, none⟩ (.string (bs e.bo))).heap.size) := (by show _ ≤ _; rw [World.size_setCell]; exact HZ7.out)
  have HOM8 := Lib.hid (ownF_setLow HOM7.out (a := ⟨w.heap.size, 4, none⟩) (by show w.heap.size < w.heap.size + 3; omega) (.string (bs e.bo)))
  have c5 := HP8.out.cell 5 (.int .i64 e.ak) rfl
  have f5 := HP8.out.free 5
  have hp := HP8.out.set 5 (.int .i64 asked)
  simp only [List.setIfInBounds_toArray, List.set_cons_zero, List.set_cons_succ] at hp
  have HP9 := Lib.hid hp; clear hp
  have HR9 := Lib.hid (HR8.out.other (a := ⟨w.heap.size, 5, none⟩) HN1.out (.int .i64 asked))
  have HB9 := Lib.hid (HB8.out.setCell (p := ⟨w.heap.size, 5, none⟩) (Nat.le_refl _) (.int .i64 asked))
  have HZ9 : Hid (w.heap.size + 3 ≤ ((y7.setCell ⟨w.heap.size, 4, none⟩ (.string (bs e.bo))).setCell ⟨w.heap.size, 5, none⟩ (.int .i64 asked)).heap.size) := (by show _ ≤ _; rw [World.size_setCell]; exact HZ8.out)
  have HOM9 := Lib.hid (ownF_setLow HOM8.out (a := ⟨w.heap.size, 5, none⟩) (by show w.heap.size < w.heap.size + 3; omega) (.int .i64 asked))
  have c6 := HP9.out.cell 6 (.int .i64 e.gt) rfl
  have f6 := HP9.out.free 6
  have hp := HP9.out.set 6 (.int .i64 got)
  simp only [List.setIfInBounds_toArray, List.set_cons_zero, List.set_cons_succ] at hp
  have HP10 := Lib.hid hp; clear hp
  have HR10 := Lib.hid (HR9.out.other (a := ⟨w.heap.size, 6, none⟩) HN1.out (.int .i64 got))
  have HB10 := Lib.hid (HB9.out.setCell (p := ⟨w.heap.size, 6, none⟩) (Nat.le_refl _) (.int .i64 got))
  have HZ10 : Hid (w.heap.size + 3 ≤ (((y7.setCell ⟨w.heap.size, 4, none⟩ (.string (bs e.bo))).setCell ⟨w.heap.size, 5, none⟩ (.int .i64 asked)).setCell ⟨w.heap.size, 6, none⟩ (.int .i64 got)).heap.size) := (by show _ ≤ _; rw [World.size_setCell]; exact HZ9.out)
  have HOM10 := Lib.hid (ownF_setLow HOM9.out (a := ⟨w.heap.size, 6, none⟩) (by show w.heap.size < w.heap.size + 3; omega) (.int .i64 got))
  have c7 := HP10.out.cell 7 (.slice Av e.vy.length cv) rfl
  clear HB7 HP7 HR7 HZ7 HOM7 HB8 HP8 HR8 HZ8 HOM8 HB9 HP9 HR9 HZ9 HOM9
  go_wp2_with fail
  clear c4 c5 c6 f4 f5 f6
  generalize ((y7.setCell ⟨w.heap.size, 4, none⟩ (.string (bs e.bo))).setCell ⟨w.heap.size, 5, none⟩ (.int .i64 asked)).setCell ⟨w.heap.size, 6, none⟩ (.int .i64 got) = x10 at *
  refine (del_any (.slice Av e.vy.length cv) (.slice none 0 0) e.vy [] x10 (HV.out.bel HB10.out) (.inl ⟨rfl, _, _, rfl⟩) HQ2.out.small (by have := HQ2.out.len; omega) (fun x hx => by cases hx) (by simp)).mono ?_
  rintro r y11 ⟨v11, rfl, ho, hb⟩
  rw [del_nil] at ho
  obtain ⟨AV, cV, rfl⟩ := ho.form
  have HB11 := Lib.hid (HB10.out.trans (hb.mono HB10.out.size)); have HP11 := Lib.hid (HP10.out.below hb); have HR11 := Lib.hid (HR10.out.below hb)
  have HZ11 : Hid (w.heap.size + 3 ≤ y11.heap.size) := Nat.le_trans HZ10.out hb.size
  have HOM11 := Lib.hid (HOM10.out.bel hb)
  have HOV11 : Hid (ownF y11 (w.heap.size + 3) (.slice AV e.vy.length cV) e.vy) := ho.mono HZ10.out
  clear ho hb c7 HB10 HP10 HR10 HZ10 HOM10
  have c7 := HP11.out.cell 7 (.slice Av e.vy.length cv) rfl
  have f7 := HP11.out.free 7
  have hp := HP11.out.set 7 (.slice AV e.vy.length cV)
  simp only [List.setIfInBounds_toArray, List.set_cons_zero, List.set_cons_succ] at hp
  have HP12 := Lib.hid hp; clear hp
  have HR12 := Lib.hid (HR11.out.other (a := ⟨w.heap.size, 7, none⟩) HN1.out (.slice AV e.vy.length cV))
  have HB12 := Lib.hid (HB11.out.setCell (p := ⟨w.heap.size, 7, none⟩) (Nat.le_refl _) (.slice AV e.vy.length cV))
  have HZ12 : Hid (w.heap.size + 3 ≤ (y11.setCell ⟨w.heap.size, 7, none⟩ (.slice AV e.vy.length cV)).heap.size) := (by show _ ≤ _; rw [World.size_setCell]; exact HZ11.out)
  have HOM12 := Lib.hid (ownF_setLow HOM11.out (a := ⟨w.heap.size, 7, none⟩) (by show w.heap.size < w.heap.size + 3; omega) (.slice AV e.vy.length cV))
  have HOV12 := Lib.hid (ownF_setLow HOV11.out (a := ⟨w.heap.size, 7, none⟩) (by show w.heap.size < w.heap.size + 3; omega) (.slice AV e.vy.length cV))
  clear HB11 HP11 HR11 HZ11 HOM11 HOV11
  have HLD := Lib.hid (HP12.out.range0 (l := [.int .i64 e.st, .string (bs e.re), .int .i64 e.mi, .slice AM M.length cM, .string (bs e.bo), .int .i64 asked, .int .i64 got, .slice AV e.vy.length cV]))
  have HST : Hid (World.there (y11.setCell ⟨w.heap.size, 7, none⟩ (.slice AV e.vy.length cV)) (w.heap.size + 1 + 1) 0 8) := HR12.out.there 0 8 (by decide)
  have HQ := Lib.hid (HR12.out.setAll [.int .i64 e.st, .string (bs e.re), .int .i64 e.mi, .slice AM M.length cM, .string (bs e.bo), .int .i64 asked, .int .i64 got, .slice AV e.vy.length cV] rfl)
  have HB13 := Lib.hid (Below.cells HB12.out (w.heap.size + 1 + 1) (by omega) [.int .i64 e.st, .string (bs e.re), .int .i64 e.mi, .slice AM M.length cM, .string (bs e.bo), .int .i64 asked, .int .i64 got, .slice AV e.vy.length cV] 0)
  have HOM13 := Lib.hid (ownF.stay HOM12.out (fun k hk => heap_setCells (w.heap.size + 1 + 1) [.int .i64 e.st, .string (bs e.re), .int .i64 e.mi, .slice AM M.length cM, .string (bs e.bo), .int .i64 asked, .int .i64 got, .slice AV e.vy.length cV] 0 _ k (by omega)))
  have HOV13 := Lib.hid (ownF.stay HOV12.out (fun k hk => heap_setCells (w.heap.size + 1 + 1) [.int .i64 e.st, .string (bs e.re), .int .i64 e.mi, .slice AM M.length cM, .string (bs e.bo), .int .i64 asked, .int .i64 got, .slice AV e.vy.length cV] 0 _ k (by omega)))
  have HON : Hid ((#[.int .i64 e.st, .string (bs e.re), .int .i64 e.mi, .slice AM M.length cM, .string (bs e.bo), .int .i64 asked, .int .i64 got, .slice AV e.vy.length cV] : Array Value).all (·.oneCell') = true) := ent_one (ent2 e M asked got) (.slice AM M.length cM) (.slice AV e.vy.length cV) HOM12.out.fl HOV12.out.fl
  go_wp2_with (first | (refine wpList_load_mid rfl 26 (.tmp 4) rfl _ 0 rfl [.int .i64 e.st, .string (bs e.re), .int .i64 e.mi, .slice AM M.length cM, .string (bs e.bo), .int .i64 asked, .int .i64 got, .slice AV e.vy.length cV] _ HLD.out Tryd.underlying26 rfl infoEn.out ?_; clear HLD) | (refine wpList_store_mid rfl 26 (.tmp 8) (.tmp 40) rfl _ 0 #[.int .i64 e.st, .string (bs e.re), .int .i64 e.mi, .slice AM M.length cM, .string (bs e.bo), .int .i64 asked, .int .i64 got, .slice AV e.vy.length cV] rfl rfl HST.out infoEn.out HON.out ?_; clear HST))
  have m0 := HQ.out.cell 0 (.int .i64 e.st) rfl
  have m1 := HQ.out.cell 1 (.string (bs e.re)) rfl
  have m2 := HQ.out.cell 2 (.int .i64 e.mi) rfl
  have m3 := HQ.out.cell 3 (.slice AM M.length cM) rfl
  have m4 := HQ.out.cell 4 (.string (bs e.bo)) rfl
  have m5 := HQ.out.cell 5 (.int .i64 asked) rfl
  have m6 := HQ.out.cell 6 (.int .i64 got) rfl
  have m7 := HQ.out.cell 7 (.slice AV e.vy.length cV) rfl
  have hM := HEM.out; clear HEM; subst hM
  refine bodyPost_ret (v := .agg #[.int .i64 e.st, .string (bs e.re), .int .i64 e.mi, .slice AM (madeL e.fs rep).length cM, .string (bs e.bo), .int .i64 asked, .int .i64 got, .slice AV e.vy.length cV]) (by simp [results, Tryd.results7, go_sem, m0, m1, m2, m3, m4, m5, m6, m7]) rfl ⟨_, _, rfl, HOM13.out.mono (by omega), HOV13.out.mono (by omega), HB13.out⟩
end Go.Proofs.YtdaiielhohdgiaaDoor
