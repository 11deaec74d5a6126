/- How a reply that is kept is asked about: the program's Ask. -/
import Derived.Test.YtdaiielhohdgiaaDoorRef0
import Derived.Test.YtdaiielhohdgiaaDoorKEtagA
import Derived.Test.YtdaiielhohdgiaaDoorKDateP
import Derived.Test.YtdaiielhohdgiaaDoorKFieldsG
import Derived.Test.YtdaiielhohdgiaaDoorKEnt
import Derived.Test.YtdaiielhohdgiaaDoorRefA
namespace Go.Proofs.YtdaiielhohdgiaaDoor
open Go.RowKit Go.Shelf

/-- the fields by which a reply is asked about -/
def askL (Y : Int) (fs : List Fld) : List Fld := (if isE (getL fs etQ) then [(inmQ, getL fs etQ)] else []) ++ (if (parseDL (Y + 50) (getL fs lmQ)).isSome then [(imsQ, getL fs lmQ)] else [])
set_option maxRecDepth 100000 in
set_option maxHeartbeats 4000000 in
theorem xask_any (e : En) (vf vv : Value) (Y : Int) (w : World) (hf : FL w vf e.fs) (hv : FL w vv e.vy) (q1 : QF e.fs) (HY : ∃ m d h i s, IsT (clampI e.gt) Y m d h i s) (ht : Tabs w) :
    Calls Tryd.prog 15 #[entV e vf vv] w (RetF w (askL Y e.fs)) := by
  obtain ⟨Af, cf, rfl⟩ := hf.form
  obtain ⟨Av, cv, rfl⟩ := hv.form
  obtain ⟨mm, dd, hh, ii, ss, HY⟩ := HY
  have hal : Below w.heap.size w (w.alloc (.cells #[.int .i64 e.st, .string (bs e.re), .int .i64 e.mi, .slice Af e.fs.length cf, .string (bs e.bo), .int .i64 e.ak, .int .i64 e.gt, .slice Av e.vy.length cv] 26)) := (Below.refl _ _).alloc (Nat.le_refl _) _
  have HP := Lib.hid (bk.new w #[.int .i64 e.st, .string (bs e.re), .int .i64 e.mi, .slice Af e.fs.length cf, .string (bs e.bo), .int .i64 e.ak, .int .i64 e.gt, .slice Av e.vy.length cv] 26); have HA := Lib.hid hal; have HF := Lib.hid hf
  have hg1 : ∀ W, FL W (.slice Af e.fs.length cf) e.fs → Calls Tryd.prog 24 #[.slice Af e.fs.length cf, .string ⟨#[101, 116, 97, 103]⟩] W fun x w' => x = .returned (.tuple #[.string (bs (getL e.fs etQ)), .bool (hasF e.fs etQ)]) ∧ Below W.heap.size W w' := fun W h => get_any _ e.fs etQ W h q1.small (by have := q1.len; omega) (by have := q1.size; omega) (by decide)
  have hg2 : ∀ W, FL W (.slice Af e.fs.length cf) e.fs → Calls Tryd.prog 24 #[.slice Af e.fs.length cf, .string ⟨#[108, 97, 115, 116, 45, 109, 111, 100, 105, 102, 105, 101, 100]⟩] W fun x w' => x = .returned (.tuple #[.string (bs (getL e.fs lmQ)), .bool (hasF e.fs lmQ)]) ∧ Below W.heap.size W w' := fun W h => get_any _ e.fs lmQ W h q1.small (by have := q1.len; omega) (by have := q1.size; omega) (by decide)
  have hl1 := q1.getLen etQ; have hl2 := q1.getLen lmQ
  have hp1 := fun W => eparse_any (getL e.fs etQ) W (by omega)
  have hp2 := fun W (ht : Tabs W) => parse_any (bs (getL e.fs lmQ)) e.gt Y mm dd hh ii ss W (by unfold maxLen; rw [bs_size]; omega) HY ht
  have HT := Lib.hid ht
  rw [bs_data] at hp2
  have HK : Hid (askL Y e.fs = (if isE (getL e.fs etQ) then [(inmQ, getL e.fs etQ)] else []) ++ (if (parseDL (Y + 50) (getL e.fs lmQ)).isSome then [(imsQ, getL e.fs lmQ)] else [])) := rfl
  generalize hasF e.fs etQ = q4 at *
  generalize hasF e.fs lmQ = q5 at *
  generalize getL e.fs etQ = g1 at *
  generalize getL e.fs lmQ = g2 at *
  generalize parseDL (Y + 50) g2 = o2 at *
  obtain ⟨M, hM⟩ : ∃ M, M = askL Y e.fs := ⟨_, rfl⟩
  have HM : Hid (M = (if isE g1 then [(inmQ, g1)] else []) ++ (if o2.isSome then [(imsQ, g2)] else [])) := hM.trans HK.out
  rw [← hM]
  have HG1 := Lib.hid hg1; have HG2 := Lib.hid hg2; have HP1 := Lib.hid hp1; have HP2 := Lib.hid hp2
  clear hal hf hv q1 HY hg1 hg2 hp1 hp2 hM HK hl1 hl2 ht
  unfold entV
  cases hE : isE g1
  · have he : erE g1 = 4 := by unfold erE; rw [hE]; rfl
    rw [he] at HP1
    rw [hE] at HM
    clear hE he
    cases o2 with
    | none =>
      go_enter Tryd.func15, Tryd.ntmps15
      have c3 := HP.out.cell 3 (.slice Af e.fs.length cf) rfl
      go_wp2_with fail
      clear c3
      generalize w.alloc (.cells #[.int .i64 e.st, .string (bs e.re), .int .i64 e.mi, .slice Af e.fs.length cf, .string (bs e.bo), .int .i64 e.ak, .int .i64 e.gt, .slice Av e.vy.length cv] 26) = W at *
      refine (HG1.out W (HF.out.bel HA.out)).mono ?_
      rintro x w1 ⟨rfl, hb⟩
      have HB1 := Lib.hid (HA.out.trans (hb.mono HA.out.size)); have HX1 := Lib.hid (HP.out.below hb)
      clear hb HA HP
      go_wp2_with fail
      refine (HP1.out w1).mono ?_
      rintro x w2 ⟨rfl, hb⟩
      have HB2 := Lib.hid (HB1.out.trans (hb.mono HB1.out.size)); have HX2 := Lib.hid (HX1.out.below hb)
      clear hb HB1 HX1
      have c3 := HX2.out.cell 3 (.slice Af e.fs.length cf) rfl
      go_wp2_with fail
      have HB3 := HB2; have HX3 := HX2; clear HB2 HX2
      refine (HG2.out _ (HF.out.bel HB3.out)).mono ?_
      rintro x w4 ⟨rfl, hb⟩
      have HB4 := Lib.hid (HB3.out.trans (hb.mono HB3.out.size)); have HX4 := Lib.hid (HX3.out.below hb)
      clear hb HB3 HX3 c3
      have c6 := HX4.out.cell 6 (.int .i64 e.gt) rfl
      go_wp2_with fail
      refine (HP2.out w4 (HT.out.below HB4.out)).mono ?_
      unfold ansV
      rintro x w5 ⟨rfl, hb⟩
      have HB5 := Lib.hid (HB4.out.trans (hb.mono HB4.out.size)); have HX5 := Lib.hid (HX4.out.below hb)
      have HSZ5 : Hid (w.heap.size + 1 ≤ w5.heap.size) := HX5.out.lt
      clear hb HB4 HX4 c6
      go_wp2_with fail
      go_ret
      exact ⟨_, rfl, by rw [HM.out]; exact ownF_nil _ _, HB5.out⟩
    | some d2 =>
      go_enter Tryd.func15, Tryd.ntmps15
      have c3 := HP.out.cell 3 (.slice Af e.fs.length cf) rfl
      go_wp2_with fail
      clear c3
      generalize w.alloc (.cells #[.int .i64 e.st, .string (bs e.re), .int .i64 e.mi, .slice Af e.fs.length cf, .string (bs e.bo), .int .i64 e.ak, .int .i64 e.gt, .slice Av e.vy.length cv] 26) = W at *
      refine (HG1.out W (HF.out.bel HA.out)).mono ?_
      rintro x w1 ⟨rfl, hb⟩
      have HB1 := Lib.hid (HA.out.trans (hb.mono HA.out.size)); have HX1 := Lib.hid (HP.out.below hb)
      clear hb HA HP
      go_wp2_with fail
      refine (HP1.out w1).mono ?_
      rintro x w2 ⟨rfl, hb⟩
      have HB2 := Lib.hid (HB1.out.trans (hb.mono HB1.out.size)); have HX2 := Lib.hid (HX1.out.below hb)
      clear hb HB1 HX1
      have c3 := HX2.out.cell 3 (.slice Af e.fs.length cf) rfl
      go_wp2_with fail
      have HB3 := HB2; have HX3 := HX2; clear HB2 HX2
      refine (HG2.out _ (HF.out.bel HB3.out)).mono ?_
      rintro x w4 ⟨rfl, hb⟩
      have HB4 := Lib.hid (HB3.out.trans (hb.mono HB3.out.size)); have HX4 := Lib.hid (HX3.out.below hb)
      clear hb HB3 HX3 c3
      have c6 := HX4.out.cell 6 (.int .i64 e.gt) rfl
      go_wp2_with fail
      refine (HP2.out w4 (HT.out.below HB4.out)).mono ?_
      unfold ansV
      rintro x w5 ⟨rfl, hb⟩
      have HB5 := Lib.hid (HB4.out.trans (hb.mono HB4.out.size)); have HX5 := Lib.hid (HX4.out.below hb)
      have HSZ5 : Hid (w.heap.size + 1 ≤ w5.heap.size) := HX5.out.lt
      clear hb HB4 HX4 c6
      go_wp2_with (at_builtin; refine wpList_appF (w0 := w) rfl (.tmp 49) (.tmp 52) rfl (w.heap.size + 1) w.heap.size _ [] imsQ g2 rfl (ownF_nil _ _) HB5.out (Nat.le_succ _) HSZ5.out rfl (by decide) ?_; intro v6 w6 HO6 HB6 HK6)
      go_ret
      exact ⟨_, rfl, by rw [HM.out]; exact HO6.out.mono (Nat.le_succ _), HB6.out⟩
  · have he : erE g1 = 0 := by unfold erE; rw [hE]; rfl
    rw [he] at HP1
    rw [hE] at HM
    clear hE he
    cases o2 with
    | none =>
      go_enter Tryd.func15, Tryd.ntmps15
      have c3 := HP.out.cell 3 (.slice Af e.fs.length cf) rfl
      go_wp2_with fail
      clear c3
      generalize w.alloc (.cells #[.int .i64 e.st, .string (bs e.re), .int .i64 e.mi, .slice Af e.fs.length cf, .string (bs e.bo), .int .i64 e.ak, .int .i64 e.gt, .slice Av e.vy.length cv] 26) = W at *
      refine (HG1.out W (HF.out.bel HA.out)).mono ?_
      rintro x w1 ⟨rfl, hb⟩
      have HB1 := Lib.hid (HA.out.trans (hb.mono HA.out.size)); have HX1 := Lib.hid (HP.out.below hb)
      clear hb HA HP
      go_wp2_with fail
      refine (HP1.out w1).mono ?_
      rintro x w2 ⟨rfl, hb⟩
      have HB2 := Lib.hid (HB1.out.trans (hb.mono HB1.out.size)); have HX2 := Lib.hid (HX1.out.below hb)
      clear hb HB1 HX1
      have c3 := HX2.out.cell 3 (.slice Af e.fs.length cf) rfl
      obtain ⟨L1, hL1⟩ : ∃ L1, L1 = [(inmQ, g1)] := ⟨_, rfl⟩
      have HL1 := Lib.hid hL1; clear hL1
      have HO2 : Hid (ownF w2 w.heap.size (.slice none 0 0) []) := ownF_nil _ _
      have HSZ2 : Hid (w.heap.size + 1 ≤ w2.heap.size) := HX2.out.lt
      go_wp2_with (at_builtin; refine wpList_appF (w0 := w) rfl (.tmp 28) (.tmp 31) rfl (w.heap.size + 1) w.heap.size _ [] inmQ g1 rfl (ownF_nil _ _) HB2.out (Nat.le_succ _) HSZ2.out rfl (by decide) ?_; intro v3 w3 HO3 HB3 HK3; rw [List.nil_append, ← HL1.out] at HO3; obtain ⟨A3, k3, rfl⟩ := HO3.out.form; have HX3 := Lib.hid (HX2.out.keep (HK3.out w.heap.size (Nat.lt_succ_self _))); clear HB2 HX2 HO2 HSZ2 c3 HK3; have c3 := HX3.out.cell 3 (.slice Af e.fs.length cf) rfl)
      refine (HG2.out _ (HF.out.bel HB3.out)).mono ?_
      rintro x w4 ⟨rfl, hb⟩
      have HB4 := Lib.hid (HB3.out.trans (hb.mono HB3.out.size)); have HX4 := Lib.hid (HX3.out.below hb)
      have HO4 := Lib.hid (HO3.out.bel hb); clear HO3
      clear hb HB3 HX3 c3
      have c6 := HX4.out.cell 6 (.int .i64 e.gt) rfl
      go_wp2_with fail
      refine (HP2.out w4 (HT.out.below HB4.out)).mono ?_
      unfold ansV
      rintro x w5 ⟨rfl, hb⟩
      have HB5 := Lib.hid (HB4.out.trans (hb.mono HB4.out.size)); have HX5 := Lib.hid (HX4.out.below hb)
      have HO5 := Lib.hid (HO4.out.bel hb); clear HO4
      have HSZ5 : Hid (w.heap.size + 1 ≤ w5.heap.size) := HX5.out.lt
      clear hb HB4 HX4 c6
      go_wp2_with fail
      go_ret
      exact ⟨_, rfl, by rw [HM.out]; show ownF _ _ _ ([(inmQ, g1)] ++ []); rw [List.append_nil, ← HL1.out]; exact HO5.out.mono (Nat.le_succ _), HB5.out⟩
    | some d2 =>
      go_enter Tryd.func15, Tryd.ntmps15
      have c3 := HP.out.cell 3 (.slice Af e.fs.length cf) rfl
      go_wp2_with fail
      clear c3
      generalize w.alloc (.cells #[.int .i64 e.st, .string (bs e.re), .int .i64 e.mi, .slice Af e.fs.length cf, .string (bs e.bo), .int .i64 e.ak, .int .i64 e.gt, .slice Av e.vy.length cv] 26) = W at *
      refine (HG1.out W (HF.out.bel HA.out)).mono ?_
      rintro x w1 ⟨rfl, hb⟩
      have HB1 := Lib.hid (HA.out.trans (hb.mono HA.out.size)); have HX1 := Lib.hid (HP.out.below hb)
      clear hb HA HP
      go_wp2_with fail
      refine (HP1.out w1).mono ?_
      rintro x w2 ⟨rfl, hb⟩
      have HB2 := Lib.hid (HB1.out.trans (hb.mono HB1.out.size)); have HX2 := Lib.hid (HX1.out.below hb)
      clear hb HB1 HX1
      have c3 := HX2.out.cell 3 (.slice Af e.fs.length cf) rfl
      obtain ⟨L1, hL1⟩ : ∃ L1, L1 = [(inmQ, g1)] := ⟨_, rfl⟩
      have HL1 := Lib.hid hL1; clear hL1
      have HO2 : Hid (ownF w2 w.heap.size (.slice none 0 0) []) := ownF_nil _ _
      have HSZ2 : Hid (w.heap.size + 1 ≤ w2.heap.size) := HX2.out.lt
      go_wp2_with (at_builtin; refine wpList_appF (w0 := w) rfl (.tmp 28) (.tmp 31) rfl (w.heap.size + 1) w.heap.size _ [] inmQ g1 rfl (ownF_nil _ _) HB2.out (Nat.le_succ _) HSZ2.out rfl (by decide) ?_; intro v3 w3 HO3 HB3 HK3; rw [List.nil_append, ← HL1.out] at HO3; obtain ⟨A3, k3, rfl⟩ := HO3.out.form; have HX3 := Lib.hid (HX2.out.keep (HK3.out w.heap.size (Nat.lt_succ_self _))); clear HB2 HX2 HO2 HSZ2 c3 HK3; have c3 := HX3.out.cell 3 (.slice Af e.fs.length cf) rfl)
      refine (HG2.out _ (HF.out.bel HB3.out)).mono ?_
      rintro x w4 ⟨rfl, hb⟩
      have HB4 := Lib.hid (HB3.out.trans (hb.mono HB3.out.size)); have HX4 := Lib.hid (HX3.out.below hb)
      have HO4 := Lib.hid (HO3.out.bel hb); clear HO3
      clear hb HB3 HX3 c3
      have c6 := HX4.out.cell 6 (.int .i64 e.gt) rfl
      go_wp2_with fail
      refine (HP2.out w4 (HT.out.below HB4.out)).mono ?_
      unfold ansV
      rintro x w5 ⟨rfl, hb⟩
      have HB5 := Lib.hid (HB4.out.trans (hb.mono HB4.out.size)); have HX5 := Lib.hid (HX4.out.below hb)
      have HO5 := Lib.hid (HO4.out.bel hb); clear HO4
      have HSZ5 : Hid (w.heap.size + 1 ≤ w5.heap.size) := HX5.out.lt
      clear hb HB4 HX4 c6
      go_wp2_with (at_builtin; refine wpList_appF (w0 := w) rfl (.tmp 49) (.tmp 52) rfl (w.heap.size + 1) w.heap.size _ L1 imsQ g2 rfl HO5.out HB5.out (Nat.le_succ _) HSZ5.out rfl (by rw [HL1.out]; simp) ?_; intro v6 w6 HO6 HB6 HK6)
      go_ret
      exact ⟨_, rfl, by rw [HM.out]; show ownF _ _ _ ([(inmQ, g1)] ++ [(imsQ, g2)]); rw [← HL1.out]; exact HO6.out.mono (Nat.le_succ _), HB6.out⟩
end Go.Proofs.YtdaiielhohdgiaaDoor
