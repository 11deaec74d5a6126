/- The small thing that one knows of framings: works; FramingAsks, FramingTells: walked. -/
import Derived.Test.YtnhkebbmgiokbaaDoorFramingL
namespace Go.Proofs.YtnhkebbmgiokbaaDoor
open Go.RowKit

theorem small_of {L : List Fld} (h : sizeL L ≤ 4294967296) : smallF L := fun j hj => by
  have := sizeL_mem (List.getElem_mem hj)
  omega
theorem SL_new (w : World) (T : TypeId) (M : List (List UInt8)) : SL (w.alloc (.cells (strCs M).toArray T)) (.slice (some ⟨w.heap.size, 0, none⟩) M.length M.length) M := by
  refine .inr ⟨w.heap.size, 0, M.length, rfl, by simp, fun j hj => ?_⟩
  refine (blk.new w (strCs M).toArray T).cell (0 + j) _ ?_
  rw [Nat.zero_add]
  simp [strCs, hj]
/-- says of a list that the call has made -/
theorem says_of (v : Value) (L : List Fld) (ask tell bare n : Int) (w : World) (he : Env w) (h : FL w v L) (hz : sizeL L ≤ 1048576) (hl : L.length ≤ 1048576)
    (ra : -1000 ≤ ask ∧ ask ≤ 1000) (rt : -1000 ≤ tell ∧ tell ≤ 1000) (rn : -1000 ≤ bare ∧ bare ≤ 1000) (k0 : okR (askR L) ask n) (k1 : okR (tellR L 200 false) tell n) (k2 : okR (tellR L 304 false) bare n) :
    Calls Tryd.prog 15 #[v, .int .i64 ask, .int .i64 tell, .int .i64 bare, .int .i64 n] w fun e w' => e = .returned (.bool true) ∧ Below w.heap.size w w' :=
  says_any v L ask tell bare n w (fun W hb => request_any v L W (he.below hb (Nat.le_refl _)) (h.bel hb) (small_of (by omega)) hl)
    (fun W hb => reply_any v L 200 false W (he.below hb (Nat.le_refl _)) (h.bel hb) (small_of (by omega)) hl)
    (fun W hb => reply_any v L 304 false W (he.below hb (Nat.le_refl _)) (h.bel hb) (small_of (by omega)) hl) ra rt rn k0 k1 k2

set_option maxRecDepth 100000 in
set_option maxHeartbeats 2000000 in
theorem works_any (w : World) (he : Env w) :
    Calls Tryd.prog 8 #[] w fun e w' => e = .returned (.bool true) ∧ Below w.heap.size w w' := by
  have HE := Lib.hid he; clear he
  go_enter Tryd.func8, Tryd.ntmps8
  go_wp2_with fail
  have hal1 : Below w.heap.size w (w.alloc (.cells (strCs (flatN [([67, 111, 110, 116, 101, 110, 116, 45, 76, 101, 110, 103, 116, 104], [53])])).toArray 9)) := (Below.refl _ _).alloc (Nat.le_refl _) _
  refine (of_any _ [([67, 111, 110, 116, 101, 110, 116, 45, 76, 101, 110, 103, 116, 104], [53])] _ (SL_new w 9 (flatN [([67, 111, 110, 116, 101, 110, 116, 45, 76, 101, 110, 103, 116, 104], [53])])) (by decide)).mono ?_
  rintro e a1 ⟨v1, rfl, ho1, hb1⟩
  obtain ⟨A1, c1, rfl⟩ := ho1.form
  have HO1 := Lib.hid ho1.fl
  have HX1 := Lib.hid (hal1.trans (hb1.mono hal1.size))
  clear hal1 hb1 ho1
  go_wp2_with fail
  refine (says_of _ [([67, 111, 110, 116, 101, 110, 116, 45, 76, 101, 110, 103, 116, 104], [53])] (1) (1) (0) (5) _ (HE.out.below HX1.out (Nat.le_refl _)) HO1.out (by decide) (by decide) (by decide) (by decide) (by decide) (by decide +kernel) (by decide +kernel) (by decide +kernel)).mono ?_
  rintro e w1 ⟨rfl, hc1⟩
  have HB1 := Lib.hid (HX1.out.trans (hc1.mono HX1.out.size)); clear hc1 HX1
  go_wp2_with fail
  have hal2 : Below w1.heap.size w1 (w1.alloc (.cells (strCs (flatN [([67, 111, 110, 116, 101, 110, 116, 45, 76, 101, 110, 103, 116, 104], [53]), ([67, 111, 110, 116, 101, 110, 116, 45, 76, 101, 110, 103, 116, 104], [54])])).toArray 9)) := (Below.refl _ _).alloc (Nat.le_refl _) _
  refine (of_any _ [([67, 111, 110, 116, 101, 110, 116, 45, 76, 101, 110, 103, 116, 104], [53]), ([67, 111, 110, 116, 101, 110, 116, 45, 76, 101, 110, 103, 116, 104], [54])] _ (SL_new w1 9 (flatN [([67, 111, 110, 116, 101, 110, 116, 45, 76, 101, 110, 103, 116, 104], [53]), ([67, 111, 110, 116, 101, 110, 116, 45, 76, 101, 110, 103, 116, 104], [54])])) (by decide)).mono ?_
  rintro e a2 ⟨v2, rfl, ho2, hb2⟩
  obtain ⟨A2, c2, rfl⟩ := ho2.form
  have HO2 := Lib.hid ho2.fl
  have HX2 := Lib.hid (HB1.out.trans ((hal2.trans (hb2.mono hal2.size)).mono HB1.out.size))
  clear hal2 hb2 ho2
  go_wp2_with fail
  refine (says_of _ [([67, 111, 110, 116, 101, 110, 116, 45, 76, 101, 110, 103, 116, 104], [53]), ([67, 111, 110, 116, 101, 110, 116, 45, 76, 101, 110, 103, 116, 104], [54])] (-8) (-8) (-8) (0) _ (HE.out.below HX2.out (Nat.le_refl _)) HO2.out (by decide) (by decide) (by decide) (by decide) (by decide) (by decide +kernel) (by decide +kernel) (by decide +kernel)).mono ?_
  rintro e w2 ⟨rfl, hc2⟩
  have HB2 := Lib.hid (HX2.out.trans (hc2.mono HX2.out.size)); clear hc2 HX2
  go_wp2_with fail
  refine (says_of _ [] 0 3 0 0 _ (HE.out.below HB2.out (Nat.le_refl _)) (FL_nil _) (by decide) (by decide) (by decide) (by decide) (by decide) (by decide +kernel) (by decide +kernel) (by decide +kernel)).mono ?_
  rintro e w3 ⟨rfl, hc3⟩
  have HB3 := Lib.hid (HB2.out.trans (hc3.mono HB2.out.size)); clear hc3
  go_wp2_with fail
  go_ret
  exact ⟨rfl, HB3.out⟩

/-- two framings of the document held against each other, and of the program -/
theorem run_eqlD_same (a b : Int) (w : World) : (binOp .eql 30 (.agg #[.int .i64 a, .int .i64 b]) (.agg #[.int .i64 a, .int .i64 b])).run Tryd.prog w = .ok (.bool true) w := by
  have u9 := Tryd.underlying3
  have a9 := Tryd.isAgg3
  have z9 := Tryd.sizeOf3
  have hS : Tryd.prog.underlying 30 = some (.struct (Tryd.prog.fieldsOf 30)) := by kernel_rfl
  have hp : Tryd.prog.stoodInHeld 30 = false := by kernel_rfl
  rw [run_eql_struct, show (10000 : Nat) = 9999 + 1 from rfl, run_equalIn_agg w 9999 30 _ _ hS hp]
  simp only [Program.fieldsOf, Tryd.underlying30]
  go_simp

set_option maxRecDepth 100000 in
set_option maxHeartbeats 2000000 in
theorem framingAsks_any (v : Value) (l : List Fld) (w : World) (h : FL w v l) (hs : ∀ j (hj : j < l.length), l[j].1.length ≤ 9223372036854775807 ∧ l[j].2.length ≤ 9223372036854775807) (hl : l.length ≤ 9223372036854775807) (he : Env w) :
    Calls Tryd.prog 3 #[v] w fun e w' => e = .returned (.bool true) ∧ Below w.heap.size w w' := by
  have hfw := few_any v l w h hs hl
  have HE := Lib.hid he; have HF := Lib.hid h; clear he h hs hl
  have hcmp := run_eqlD_same
  cases hf : fewB l
  · rw [hf] at hfw
    have HFW := Lib.hid hfw; clear hfw hf
    go_enter Tryd.func3, Tryd.ntmps3
    go_wp2_with fail
    refine HFW.out.mono ?_
    rintro e w1 ⟨rfl, hb1⟩
    have HB1 := Lib.hid hb1; clear hb1
    go_wp2_with fail
    refine (works_any _ (HE.out.below HB1.out (Nat.le_refl _))).mono ?_
    rintro e w2 ⟨rfl, hb2⟩
    have HB2 := Lib.hid (HB1.out.trans (hb2.mono HB1.out.size)); clear hb2
    go_wp2_with fail
    go_ret
    exact ⟨rfl, HB2.out⟩
  · rw [hf] at hfw
    obtain ⟨hl80, hz, hsm⟩ := few_small hf
    have HFW := Lib.hid hfw; have HSM := Lib.hid hsm; clear hfw hf hsm
    go_enter Tryd.func3, Tryd.ntmps3
    go_wp2_with fail
    refine HFW.out.mono ?_
    rintro e w1 ⟨rfl, hb1⟩
    have HB1 := Lib.hid hb1; have HF1 := Lib.hid (HF.out.bel hb1); clear hb1
    obtain ⟨A, c, rfl⟩ := HF.out.form
    go_wp2_with (at_builtin; refine wpList_appFF rfl (.tmp 12) (.tmp 13) rfl w1.heap.size w.heap.size _ _ [] l rfl (ownF_nil _ _) HB1.out HB1.out.size (Nat.le_refl _) rfl HF1.out (by simp; omega) ?_; intro v2 w2 HO2 HB2 HK2 HZ2; obtain ⟨A2, c2, rfl⟩ := HO2.out.form)
    rw [List.nil_append] at HO2
    have HF2 := Lib.hid (HF.out.bel HB2.out)
    refine (request_any _ l _ (HE.out.below HB2.out (Nat.le_refl _)) HO2.out.fl HSM.out (by omega)).mono ?_
    rintro e w3 ⟨rfl, hb3⟩
    have HB3 := Lib.hid (HB2.out.trans (hb3.mono HB2.out.size)); have HO3 := Lib.hid (HO2.out.fl.bel hb3); clear hb3
    generalize hr : askR l = r at *
    have HR := Lib.hid hr; clear hr
    obtain ⟨r0, r1, r2⟩ := r
    unfold ansV
    have h4 : Below w.heap.size w (w3.alloc (.cells #[.int .i64 r0, .int .i64 r1] 26)) := HB3.out.alloc HB3.out.size _
    have HB4 := Lib.hid h4
    have h34 : Below w3.heap.size w3 (w3.alloc (.cells #[.int .i64 r0, .int .i64 r1] 26)) := (Below.refl _ _).alloc (Nat.le_refl _) _
    have HO4 := Lib.hid (HO3.out.bel h34)
    have HC4 := Lib.hid (blk.new w3 #[.int .i64 r0, .int .i64 r1] 26)
    clear h4 h34
    go_wp2_with fail
    generalize w3.alloc (.cells #[.int .i64 r0, .int .i64 r1] 26) = w4 at *
    generalize w3.heap.size = B4 at *
    refine (rrequest6_any _ l _ (HF.out.bel HB4.out) HSM.out (by omega) (by omega)).mono ?_
    rw [HR.out]
    rintro e w5 ⟨rfl, hb5⟩
    unfold ansV
    have HB5 := Lib.hid (HB4.out.trans (hb5.mono HB4.out.size)); have HO5 := Lib.hid (HO4.out.bel hb5); have HC5 := Lib.hid (HC4.out.below hb5); clear hb5
    have h56 : Below w5.heap.size w5 (w5.alloc (.cells #[.int .i64 r0, .int .i64 r1] 30)) := (Below.refl _ _).alloc (Nat.le_refl _) _
    have HB6 := Lib.hid (HB5.out.trans (h56.mono HB5.out.size)); have HO6 := Lib.hid (HO5.out.bel h56)
    have HD6 := Lib.hid (blk.new w5 #[.int .i64 r0, .int .i64 r1] 30)
    have p0 := (HC5.out.below h56).cell 0 (.int .i64 r0) rfl
    have p1 := (HC5.out.below h56).cell 1 (.int .i64 r1) rfl
    have p2 := HD6.out.cell 0 (.int .i64 r0) rfl
    have p3 := HD6.out.cell 1 (.int .i64 r1) rfl
    clear h56
    go_wp2_with fail
    refine (sameF_any _ _ l l _ HO6.out (HF.out.bel HB6.out) (by omega)).mono ?_
    rw [show (l == l) = true from by simp]
    rintro e w7 ⟨rfl, hb7⟩
    have HB7 := Lib.hid (HB6.out.trans (hb7.mono HB6.out.size)); clear hb7
    go_wp2_with fail
    refine (works_any _ (HE.out.below HB7.out (Nat.le_refl _))).mono ?_
    rintro e w8 ⟨rfl, hb8⟩
    have HB8 := Lib.hid (HB7.out.trans (hb8.mono HB7.out.size)); clear hb8
    go_wp2_with fail
    go_ret
    exact ⟨rfl, HB8.out⟩
end Go.Proofs.YtnhkebbmgiokbaaDoor
