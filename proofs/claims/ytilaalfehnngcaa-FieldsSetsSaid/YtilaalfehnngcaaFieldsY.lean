/- The walks of the statements FieldsPuts, FieldsParses and FieldsBack. -/
import Derived.Test.YtilaalfehnngcaaFieldsM
import Derived.Test.YtilaalfehnngcaaFieldsQ
import Derived.Test.YtilaalfehnngcaaFieldsP
namespace Go.Proofs.Ytilaalfehnngcaa
open Go.RowKit

theorem carryW {P : Program} {f : FuncId} {args : Array Value} {w0 w : World} {v : Value} (hb : Below w0.heap.size w0 w) (h : Calls P f args w fun e w' => e = .returned v ∧ Below w.heap.size w w') :
    Calls P f args w fun e w' => e = .returned v ∧ Below w0.heap.size w0 w' :=
  h.mono fun _ _ ⟨he, h2⟩ => ⟨he, hb.trans (h2.mono hb.size)⟩
/-- a call that may be made in every later world -/
def Later (w0 : World) (f : FuncId) (args : Array Value) (v : Value) : Prop := ∀ w, Below w0.heap.size w0 w → Calls Try.prog f args w fun e w' => e = .returned v ∧ Below w0.heap.size w0 w'
/-- .., that leaves the later world's blocks as they are -/
def LaterB (w0 : World) (f : FuncId) (args : Array Value) (v : Value) : Prop := ∀ w, Below w0.heap.size w0 w → Calls Try.prog f args w fun e w' => e = .returned v ∧ Below w.heap.size w w'
theorem worksL {w0 : World} (hm : MaxL w0) : Later w0 9 #[] (.bool true) := fun w hb => carryW hb (works_any w (hm.bel hb (Nat.le_refl _)))

/-- what comes in is no longer than can be -/
def sizedF (l : List Fld) : Prop := ∀ j (hj : j < l.length), l[j].1.length ≤ 9223372036854775807 ∧ l[j].2.length ≤ 9223372036854775807

set_option maxHeartbeats 2000000 in
theorem fieldsPuts_any (v : Value) (l : List Fld) (w : World) (h : FL w v l) (hz : sizedF l) (hl : l.length ≤ 9223372036854775807) (hm : MaxL w) :
    Calls Try.prog 3 #[v] w fun e w' => e = .returned (.bool true) ∧ Below w.heap.size w w' := by
  have HW : Hid (Later w 9 #[] (.bool true)) := worksL hm
  have hb0 : Below w.heap.size w w := Below.refl _ _
  have hfw := few_any v l w h hz hl
  cases hf : fewB l
  · rw [hf] at hfw
    have HFW := Lib.hid hfw; clear hfw hf hz hl h hm
    go_enter Try.func3, Try.ntmps3
    go_wp2_with (first
      | (go_at_call 8; refine HFW.out.mono ?_; rintro e w' ⟨rfl, hb1⟩)
      | (go_at_call 9; refine (HW.out _ (by assumption)).mono ?_; rintro e w' ⟨rfl, hb2⟩))
    go_ret
    exact ⟨rfl, by assumption⟩
  · rw [hf] at hfw
    obtain ⟨l80, _, hs⟩ := few_small hf
    have HFW := Lib.hid hfw
    have H1 : Hid (Later w 10 #[v] (.int .i64 (checkL l))) := fun w' hb => carryW hb (check_any v l w' (h.bel hb) hs (by omega))
    have H2 : Hid (Later w 11 #[v] (.int .i64 (checkL l))) := fun w' hb => carryW hb (rcheck_any v l w' (h.bel hb) hs (by omega))
    have H3 : Hid (Later w 12 #[v] (.string (bs (putL l)))) := fun w' hb => carryW hb (put_any v l w' (h.bel hb) hs (by omega))
    have H4 : Hid (Later w 13 #[v] (.string (bs (putL l)))) := fun w' hb => carryW hb (rput_any v l w' (h.bel hb) hs (by omega))
    clear hfw hf hz hl h hm hs
    generalize checkL l = E at *
    generalize bs (putL l) = P at *
    go_enter Try.func3, Try.ntmps3
    go_wp2_with (first
      | (go_at_call 8; refine HFW.out.mono ?_; rintro e w' ⟨rfl, hb1⟩)
      | (go_at_call 10; refine (H1.out _ (by assumption)).mono ?_; rintro e w' ⟨rfl, hb2⟩)
      | (go_at_call 11; refine (H2.out _ (by assumption)).mono ?_; rintro e w' ⟨rfl, hb3⟩)
      | (go_at_call 12; refine (H3.out _ (by assumption)).mono ?_; rintro e w' ⟨rfl, hb4⟩)
      | (go_at_call 13; refine (H4.out _ (by assumption)).mono ?_; rintro e w' ⟨rfl, hb5⟩)
      | (go_at_call 9; refine (HW.out _ (by assumption)).mono ?_; rintro e w' ⟨rfl, hb6⟩))
    go_ret
    exact ⟨rfl, by assumption⟩

set_option maxHeartbeats 2000000 in
theorem fieldsParses_any (s : ByteArray) (w : World) (_hs : s.size ≤ maxLen) (hm : MaxL w) :
    Calls Try.prog 4 #[.string s] w fun e w' => e = .returned (.bool true) ∧ Below w.heap.size w w' := by
  have HW : Hid (Later w 9 #[] (.bool true)) := worksL hm
  have hb0 : Below w.heap.size w w := Below.refl _ _
  by_cases h12 : 12000 < (s.size : Int)
  · clear hm
    go_enter Try.func4, Try.ntmps4
    go_wp2_with (go_at_call 9; refine (HW.out _ (by assumption)).mono ?_; rintro e w' ⟨rfl, hb2⟩)
    go_ret
    exact ⟨rfl, by assumption⟩
  · have hz : s.data.toList.length ≤ 1048576 := by rw [← size_len]; omega
    have hp := parse_any s.data.toList w hm hz
    have hr := fun w' => rparse_any s.data.toList w' hz
    have hck := parse_check s.data.toList
    obtain ⟨hl64, _⟩ := check_zero hck.1
    rw [bs_self] at hp hr
    generalize parseL s.data.toList = R at *
    obtain ⟨l, E⟩ := R
    simp only at hl64
    have HP := Lib.hid hp; have HR := Lib.hid hr; clear hp hr hck hm hz
    go_enter Try.func4, Try.ntmps4
    go_wp2_with fail
    refine HP.out.mono ?_; rintro e w1 ⟨v1, rfl, ho1, hb1⟩
    have HO1 := Lib.hid ho1.fl; have HB1 := Lib.hid hb1; clear ho1 hb1 hb0
    go_wp2_with fail
    refine (HR.out _).mono ?_; rintro e w2 ⟨v2, rfl, ho2, hb2⟩
    have HO2 := Lib.hid ho2.fl; have HO3 := Lib.hid (HO1.out.bel hb2); have hb3 := HB1.out.trans (hb2.mono HB1.out.size); clear ho2 hb2
    have hsm := sameF_any v1 v2 l l w2 HO3.out HO2.out (by omega)
    rw [beq_self_eq_true] at hsm
    have HSM := Lib.hid (carryW hb3 hsm); clear hsm
    go_wp2_with (first
      | (go_at_call 16; refine HSM.out.mono ?_; rintro e w' ⟨rfl, hb4⟩)
      | (go_at_call 9; refine (HW.out _ (by assumption)).mono ?_; rintro e w' ⟨rfl, hb6⟩))
    go_ret
    exact ⟨rfl, by assumption⟩

set_option maxHeartbeats 4000000 in
theorem fieldsBack_any (v : Value) (l : List Fld) (s : ByteArray) (w : World) (h : FL w v l) (hz : sizedF l) (hl : l.length ≤ 9223372036854775807) (_hs : s.size ≤ maxLen) (hm : MaxL w) :
    Calls Try.prog 6 #[v, .string s] w fun e w' => e = .returned (.bool true) ∧ Below w.heap.size w w' := by
  have HW : Hid (Later w 9 #[] (.bool true)) := worksL hm
  have hb0 : Below w.heap.size w w := Below.refl _ _
  have hfw := few_any v l w h hz hl
  cases hf : fewB l
  · rw [hf] at hfw
    have HFW := Lib.hid hfw; clear hfw hf hz hl h hm
    go_enter Try.func6, Try.ntmps6
    go_wp2_with (first
      | (go_at_call 8; refine HFW.out.mono ?_; rintro e w' ⟨rfl, hb1⟩)
      | (go_at_call 9; refine (HW.out _ (by assumption)).mono ?_; rintro e w' ⟨rfl, hb2⟩))
    go_ret
    exact ⟨rfl, by assumption⟩
  · rw [hf] at hfw
    obtain ⟨l80, _, hsm⟩ := few_small hf
    have HFW := Lib.hid hfw
    by_cases h12 : 12000 < (s.size : Int)
    · clear hfw hf hz hl h hm hsm
      go_enter Try.func6, Try.ntmps6
      go_wp2_with (first
        | (go_at_call 8; refine HFW.out.mono ?_; rintro e w' ⟨rfl, hb1⟩)
        | (go_at_call 9; refine (HW.out _ (by assumption)).mono ?_; rintro e w' ⟨rfl, hb2⟩))
      go_ret
      exact ⟨rfl, by assumption⟩
    · have hsz : s.data.toList.length ≤ 1048576 := by rw [← size_len]; omega
      have H1 : Hid (LaterB w 10 #[v] (.int .i64 (checkL l))) := fun w' hb => check_any v l w' (h.bel hb) hsm (by omega)
      have H3 : Hid (LaterB w 12 #[v] (.string (bs (putL l)))) := fun w' hb => put_any v l w' (h.bel hb) hsm (by omega)
      have hpl := put_len l
      have HPa : Hid (∀ w', Below w.heap.size w w' → Calls Try.prog 14 #[.string (bs (putL l))] w' (RetP w' (parseL (putL l)))) := fun w' hb => parse_any _ w' (hm.bel hb (Nat.le_refl _)) (by omega)
      have HPs : Hid (∀ w', Below w.heap.size w w' → Calls Try.prog 14 #[.string s] w' (RetP w' (parseL s.data.toList))) := fun w' hb => by
        have := parse_any s.data.toList w' (hm.bel hb (Nat.le_refl _)) hsz
        rwa [bs_self] at this
      obtain ⟨hck, hor⟩ := parse_check s.data.toList
      obtain ⟨hn64, hna⟩ := check_zero hck
      obtain ⟨R, hR⟩ : ∃ R, parseL s.data.toList = R := ⟨_, rfl⟩
      obtain ⟨n, E⟩ := R
      rw [hR] at hck hor hn64 hna HPs
      simp only at hck hor hn64 hna
      have hsmn : smallF n := fun j hj => by
        have := (chkF_zero (hna n[j] (List.getElem_mem hj))).2
        unfold lenF at this
        omega
      have hpb := parse_put hck
      have hpln := put_len n
      have HPn : Hid (∀ w', Below w.heap.size w w' → Calls Try.prog 14 #[.string (bs (putL n))] w' (RetP w' (n, 0))) := fun w' hb => by
        have := parse_any (putL n) w' (hm.bel hb (Nat.le_refl _)) (by omega)
        rwa [hpb] at this
      have HCk : Hid (∀ w' vn, FL w' vn n → Calls Try.prog 10 #[vn] w' fun e w2 => e = .returned (.int .i64 0) ∧ Below w'.heap.size w' w2) := fun w' vn hv => by
        have := check_any vn n w' hv hsmn (by omega)
        rwa [hck] at this
      have HPt : Hid (∀ w' vn, FL w' vn n → Calls Try.prog 12 #[vn] w' fun e w2 => e = .returned (.string (bs (putL n))) ∧ Below w'.heap.size w' w2) := fun w' vn hv => put_any vn n w' hv hsmn (by omega)
      have HOr : Hid (E = 0 ∨ n = []) := hor
      have HV : Hid (∀ w', Below w.heap.size w w' → FL w' v l) := fun w' hb => h.bel hb
      clear hR hck hor hna hpb hpln hsmn hfw hf hz hl hm hsz hpl h hsm
      generalize bs (putL n) = Pn at *
      by_cases hE0 : checkL l = 0
      · have hpp := parse_put hE0
        rw [hpp] at HPa
        rw [hE0] at H1
        generalize bs (putL l) = Pl at *
        clear hE0 hpp
        go_enter Try.func6, Try.ntmps6
        go_wp2_with fail
        refine HFW.out.mono ?_; rintro e w1 ⟨rfl, hb1⟩
        go_wp2_with fail
        refine (H3.out _ hb1).mono ?_; rintro e w2 ⟨rfl, hb2⟩
        replace hb2 := hb1.trans (hb2.mono hb1.size)
        go_wp2_with fail
        refine (HPa.out _ hb2).mono ?_; rintro e w3 ⟨v1, rfl, ho1, hb3⟩
        have HF1 := Lib.hid ho1.fl
        replace hb3 := hb2.trans (hb3.mono hb2.size)
        clear ho1 hb2 hb1
        go_wp2_with fail
        refine (H1.out _ hb3).mono ?_; rintro e w4 ⟨rfl, hb4⟩
        have HF14 := Lib.hid (HF1.out.bel hb4)
        replace hb4 := hb3.trans (hb4.mono hb3.size)
        clear hb3
        go_wp2_with fail
        refine (sameF_any _ _ _ _ _ (HV.out _ hb4) HF14.out (by omega)).mono ?_
        rw [beq_self_eq_true]
        rintro e w5 ⟨rfl, hb5⟩
        replace hb5 := hb4.trans (hb5.mono hb4.size)
        clear hb4
        go_wp2_with fail
        refine (H1.out _ hb5).mono ?_; rintro e w5b ⟨rfl, hb5b⟩
        have hb3 := hb5.trans (hb5b.mono hb5.size)
        clear hb5 hb5b
        have HB3 := Lib.hid hb3; clear hb3
        go_wp2_with fail
        refine (HPs.out _ HB3.out).mono ?_; rintro e w6 ⟨v2, rfl, ho2, hb6⟩
        have HB6 := Lib.hid (HB3.out.trans (hb6.mono HB3.out.size)); have HF2 := Lib.hid ho2.fl
        obtain ⟨A2, c2, rfl⟩ := ho2.form
        clear hb6 ho2
        go_wp2_with fail
        refine (HPt.out _ _ HF2.out).mono ?_; rintro e w7 ⟨rfl, hb7⟩
        have HB7 := Lib.hid (HB6.out.trans (hb7.mono HB6.out.size)); have HF27 := Lib.hid (HF2.out.bel hb7); clear hb7
        go_wp2_with fail
        refine (HPn.out _ HB7.out).mono ?_; rintro e w8 ⟨v3, rfl, ho3, hb8⟩
        have HB8 := Lib.hid (HB7.out.trans (hb8.mono HB7.out.size)); have HF28 := Lib.hid (HF27.out.bel hb8); have HF3 := Lib.hid ho3.fl; clear hb8 ho3
        have hE2 : E = 0 ∨ (n = [] ∧ (E == 0) = false) := by
          rcases Decidable.em (E = 0) with h | h
          · exact .inl h
          · exact .inr ⟨HOr.out.resolve_left h, by simp [h]⟩
        clear HOr
        rcases hE2 with rfl | ⟨rfl, hqE⟩
        all_goals
          go_wp2_with fail
          refine (HCk.out _ _ HF28.out).mono ?_; rintro e w9 ⟨rfl, hb9⟩
          have HB9 := Lib.hid (HB8.out.trans (hb9.mono HB8.out.size)); have HF29 := Lib.hid (HF28.out.bel hb9); have HF39 := Lib.hid (HF3.out.bel hb9); clear hb9
          go_wp2_with fail
          refine (sameF_any _ _ _ _ _ HF29.out HF39.out (Nat.le_trans hn64 (by decide))).mono ?_
          rw [beq_self_eq_true]
          rintro e w10 ⟨rfl, hb10⟩
          have HB10 := Lib.hid (HB9.out.trans (hb10.mono HB9.out.size)); clear hb10
          go_wp2_with fail
          refine (HW.out _ HB10.out).mono ?_; rintro e w11 ⟨rfl, hb11⟩
          go_wp2_with fail
          go_ret
          exact ⟨rfl, hb11⟩
      · have hpp : parseL (putL l) = ([], 0) := by rw [put_bad hE0]; exact parse_nil []
        rw [hpp] at HPa
        have hPl : bs (putL l) = ⟨#[]⟩ := by rw [put_bad hE0]; rfl
        rw [hPl] at H3 HPa
        have hq1 : (checkL l == 0) = false := by simp [hE0]
        have hq2 : (checkL l != 0) = true := by simp [hE0]
        generalize checkL l = EL at *
        clear hE0 hpp hPl
        go_enter Try.func6, Try.ntmps6
        go_wp2_with fail
        refine HFW.out.mono ?_; rintro e w1 ⟨rfl, hb1⟩
        go_wp2_with fail
        refine (H3.out _ hb1).mono ?_; rintro e w2 ⟨rfl, hb2⟩
        replace hb2 := hb1.trans (hb2.mono hb1.size)
        go_wp2_with fail
        refine (HPa.out _ hb2).mono ?_; rintro e w3 ⟨v1, rfl, ho1, hb3⟩
        replace hb3 := hb2.trans (hb3.mono hb2.size)
        clear ho1 hb2 hb1
        go_wp2_with fail
        refine (H1.out _ hb3).mono ?_; rintro e w4 ⟨rfl, hb4⟩
        replace hb4 := hb3.trans (hb4.mono hb3.size)
        clear hb3
        go_wp2_with fail
        refine (H1.out _ hb4).mono ?_; rintro e w5 ⟨rfl, hb5⟩
        replace hb5 := hb4.trans (hb5.mono hb4.size)
        clear hb4
        go_wp2_with fail
        refine (H3.out _ hb5).mono ?_; rintro e w5b ⟨rfl, hb5b⟩
        have hb3 := hb5.trans (hb5b.mono hb5.size)
        clear hb5 hb5b
        have HB3 := Lib.hid hb3; clear hb3
        go_wp2_with fail
        refine (HPs.out _ HB3.out).mono ?_; rintro e w6 ⟨v2, rfl, ho2, hb6⟩
        have HB6 := Lib.hid (HB3.out.trans (hb6.mono HB3.out.size)); have HF2 := Lib.hid ho2.fl
        obtain ⟨A2, c2, rfl⟩ := ho2.form
        clear hb6 ho2
        go_wp2_with fail
        refine (HPt.out _ _ HF2.out).mono ?_; rintro e w7 ⟨rfl, hb7⟩
        have HB7 := Lib.hid (HB6.out.trans (hb7.mono HB6.out.size)); have HF27 := Lib.hid (HF2.out.bel hb7); clear hb7
        go_wp2_with fail
        refine (HPn.out _ HB7.out).mono ?_; rintro e w8 ⟨v3, rfl, ho3, hb8⟩
        have HB8 := Lib.hid (HB7.out.trans (hb8.mono HB7.out.size)); have HF28 := Lib.hid (HF27.out.bel hb8); have HF3 := Lib.hid ho3.fl; clear hb8 ho3
        have hE2 : E = 0 ∨ (n = [] ∧ (E == 0) = false) := by
          rcases Decidable.em (E = 0) with h | h
          · exact .inl h
          · exact .inr ⟨HOr.out.resolve_left h, by simp [h]⟩
        clear HOr
        rcases hE2 with rfl | ⟨rfl, hqE⟩
        all_goals
          go_wp2_with fail
          refine (HCk.out _ _ HF28.out).mono ?_; rintro e w9 ⟨rfl, hb9⟩
          have HB9 := Lib.hid (HB8.out.trans (hb9.mono HB8.out.size)); have HF29 := Lib.hid (HF28.out.bel hb9); have HF39 := Lib.hid (HF3.out.bel hb9); clear hb9
          go_wp2_with fail
          refine (sameF_any _ _ _ _ _ HF29.out HF39.out (Nat.le_trans hn64 (by decide))).mono ?_
          rw [beq_self_eq_true]
          rintro e w10 ⟨rfl, hb10⟩
          have HB10 := Lib.hid (HB9.out.trans (hb10.mono HB9.out.size)); clear hb10
          go_wp2_with fail
          refine (HW.out _ HB10.out).mono ?_; rintro e w11 ⟨rfl, hb11⟩
          go_wp2_with fail
          go_ret
          exact ⟨rfl, hb11⟩
end Go.Proofs.Ytilaalfehnngcaa
