/- The statements SurctlLists and SurctlMine. -/
import Derived.Test.YtonioemenjjajaaSurH
namespace Go.Proofs.Ytonioemenjjajaa
open Go.RowKit

def shortV (l : List Dv) : Bool := (l.take 100).all (fun d => decide (d.1.length ≤ 300) && decide (d.2.2.2.length ≤ 300)) && decide (l.length ≤ 80)
theorem shortV_small {l : List Dv} (h : shortV l = true) : l.length ≤ 80 ∧ ∀ d ∈ l, d.1.length ≤ 300 ∧ d.2.2.2.length ≤ 300 := by
  unfold shortV at h
  simp only [Bool.and_eq_true, decide_eq_true_eq, List.all_eq_true] at h
  refine ⟨h.2, fun x hx => h.1 x ?_⟩
  rw [List.take_of_length_le (by omega)]
  exact hx
set_option maxRecDepth 100000 in
set_option maxHeartbeats 2000000 in
theorem shortV_any (v : Value) (l : List Dv) (w : World) (hv : DL w v l) (hs : ∀ j (hj : j < l.length), DvW l[j]) (hl : l.length ≤ 9223372036854775807) :
    Calls Try.prog 13 #[v] w fun e w' => e = .returned (.bool (shortV l)) ∧ w = w' := by
  obtain ⟨A, c, rfl⟩ := hv.form
  have HV := Lib.hid hv; clear hv
  go_enter Try.func13, Try.ntmps13
  go_wp2_with fail
  go_loop [3] (fun i => ∃ k : Nat, k ≤ l.length ∧ k ≤ 100 ∧ i = .int .i64 k ∧ (l.take k).all (fun d => decide (d.1.length ≤ 300) && decide (d.2.2.2.length ≤ 300)) = true) (fun i => l.length - (intOf i).toNat)
  case atStart => exact ⟨0, Nat.zero_le _, Nat.zero_le _, rfl, rfl⟩
  case round =>
    obtain ⟨k, hk, hk3, rfl, ha⟩ := hrel
    have HA := Lib.hid ha; clear ha
    by_cases hlt : k < l.length
    · by_cases h30 : k < 100
      · obtain ⟨b, off, rfl, hbl, c0, c1, c2, c3⟩ := HV.out.get k hlt
        obtain ⟨z0, z1, z2⟩ := hs k hlt
        have hst : l.take (k + 1) = l.take k ++ [l[k]] := List.take_succ_eq_append_getElem hlt
        have hin : l[k] ∈ l.take 100 := by
          rw [List.mem_take_iff_getElem]
          exact ⟨k, by omega, rfl⟩
        have hno : ¬ (l[k].1.length ≤ 300 ∧ l[k].2.2.2.length ≤ 300) → shortV l = false := by
          intro h
          unfold shortV
          rw [Bool.and_eq_false_iff]
          left
          rw [List.all_eq_false]
          exact ⟨l[k], hin, by simpa using h⟩
        have hyes : l[k].1.length ≤ 300 → l[k].2.2.2.length ≤ 300 → (l.take (k + 1)).all (fun d => decide (d.1.length ≤ 300) && decide (d.2.2.2.length ≤ 300)) = true := by
          intro h1 h2
          rw [hst, List.all_append, HA.out]
          simp [h1, h2]
        generalize l[k] = d at *
        obtain ⟨n, x, y, f⟩ := d
        simp only at hno hyes c0 c1 c2 c3 z0 z1 z2
        clear hst hin
        by_cases hb1 : 300 < n.length
        · have HNO := Lib.hid (hno (by omega))
          have hd : (300 : Int) < (n.length : Int) := by omega
          clear hno hyes hb1
          go_wp2_with fail
          go_ret
          exact ⟨ret_bool HNO.out.symm, rfl⟩
        · have hd : ¬ (300 : Int) < (n.length : Int) := by omega
          by_cases hb2 : 300 < f.length
          · have HNO := Lib.hid (hno (by omega))
            have hd2 : (300 : Int) < (f.length : Int) := by omega
            clear hno hyes hb1 hb2
            go_wp2_with fail
            go_ret
            exact ⟨ret_bool HNO.out.symm, rfl⟩
          · have HS2 := Lib.hid (hyes (by omega) (by omega))
            have hd2 : ¬ (300 : Int) < (f.length : Int) := by omega
            clear hno hyes hb1 hb2
            go_wp2_with fail
            go_round
            case rel => exact ⟨k + 1, by omega, by omega, by go_num, HS2.out⟩
            case measure => simp [intOf]; omega
      · have hE : shortV l = false := by
          unfold shortV
          rw [Bool.and_eq_false_iff]
          right
          exact decide_eq_false (by omega)
        have HE := Lib.hid hE; clear hE
        have hd : ¬ (k : Int) < 100 := by omega
        have hbig : ¬ (l.length : Int) ≤ 80 := by omega
        go_wp2_with fail
        go_ret
        exact ⟨ret_bool HE.out.symm, rfl⟩
    · have hE : shortV l = decide ((l.length : Int) ≤ 80) := by
        unfold shortV
        have h := HA.out
        rw [List.take_of_length_le (by omega)] at h
        rw [List.take_of_length_le (by omega), h, Bool.true_and]
        congr 1
        simp; omega
      have HE := Lib.hid hE; clear hE
      by_cases h12 : (l.length : Int) ≤ 80
      · go_wp2_with fail
        go_ret
        exact ⟨ret_bool (by rw [HE.out]; simp [h12]), rfl⟩
      · go_wp2_with fail
        go_ret
        exact ⟨ret_bool (by rw [HE.out]; simp [h12]), rfl⟩

set_option maxRecDepth 100000 in
set_option maxHeartbeats 2000000 in
theorem surctlLists_any (v : Value) (L : List (List UInt8)) (w : World) (hv : SL w v L) (hs : ∀ j (hj : j < L.length), L[j].length ≤ 9223372036854775807) (hl : L.length ≤ 9223372036854775807) (hm : MaxD w) :
    Calls Try.prog 3 #[v] w fun e w' => e = .returned (.bool true) ∧ Below w.heap.size w w' := by
  have HF := Lib.hid (fewV_any v L w hv hs hl)
  have HM := Lib.hid hm; have HV := Lib.hid hv
  clear hs hl hm hv
  cases hq : fewV L
  · rw [hq] at HF
    clear hq
    go_enter Try.func3, Try.ntmps3
    go_wp2_with fail
    refine HF.out.mono ?_
    rintro e w1 ⟨rfl, rfl⟩
    go_wp2_with fail
    refine (sworks_any _ HM.out).mono ?_
    rintro e w2 ⟨rfl, hb⟩
    have HB := Lib.hid hb; clear hb
    go_wp2_with fail
    go_ret
    exact ⟨rfl, HB.out⟩
  · obtain ⟨h1, h2⟩ := fewV_small hq
    rw [hq] at HF
    have h3 : ∀ x ∈ L, x.length ≤ 4294967200 := fun x hx => by have := h2 x hx; omega
    have HLD := Lib.hid (slist_any v L w HM.out HV.out h3 (by omega))
    have HRL := Lib.hid (fun W (h : Below w.heap.size w W) => rslist_any v L W (HV.out.bel h) h3 (by omega))
    have hll : (listS L).length ≤ 4294967296 := by have := listS_len L; omega
    clear hq h1 h2 h3 HV
    generalize listS L = l at *
    go_enter Try.func3, Try.ntmps3
    go_wp2_with fail
    refine HF.out.mono ?_
    rintro e w1 ⟨rfl, rfl⟩
    go_wp2_with fail
    refine HLD.out.mono ?_
    rintro e w1 ⟨u1, rfl, ho1, hb1⟩
    have HB1 := Lib.hid hb1; have HO1 := Lib.hid ho1.dl; clear hb1 ho1
    go_wp2_with fail
    refine (HRL.out _ HB1.out).mono ?_
    rintro e w2 ⟨u2, rfl, ho2, hb2⟩
    have HB2 := Lib.hid (HB1.out.trans (hb2.mono HB1.out.size)); have HO2 := Lib.hid ho2.dl; have HO3 := Lib.hid (HO1.out.bel hb2); clear hb2 ho2 HB1 HO1
    go_wp2_with fail
    refine (rsameD_any _ _ _ _ _ HO3.out HO2.out hll).mono ?_
    rw [show (l == l) = true from beq_self_eq_true l]
    rintro e w3 ⟨rfl, hb3⟩
    have HB3 := Lib.hid (HB2.out.trans (hb3.mono HB2.out.size)); clear hb3 HB2 HO2 HO3
    go_wp2_with fail
    refine (sworks_any _ (HM.out.bel HB3.out)).mono ?_
    rintro e w4 ⟨rfl, hb4⟩
    have HB4 := Lib.hid (HB3.out.trans (hb4.mono HB3.out.size)); clear hb4 HB3
    go_wp2_with fail
    go_ret
    exact ⟨rfl, HB4.out⟩

set_option maxRecDepth 100000 in
set_option maxHeartbeats 4000000 in
theorem surctlMine_any (v : Value) (l : List Dv) (S : ByteArray) (w : World) (hv : DL w v l) (hl : ∀ j (hj : j < l.length), DvW l[j]) (hz : l.length ≤ 9223372036854775807) (hs : S.size ≤ maxLen) (hm : MaxD w) :
    Calls Try.prog 4 #[v, .string S] w fun e w' => e = .returned (.bool true) ∧ Below w.heap.size w w' := by
  have HF := Lib.hid (shortV_any v l w hv hl hz)
  have HM := Lib.hid hm; have HV := Lib.hid hv
  obtain ⟨A, c, rfl⟩ := hv.form
  clear hm hv
  unfold maxLen at hs
  cases hq : shortV l
  · rw [hq] at HF
    clear hq
    go_enter Try.func4, Try.ntmps4
    go_wp2_with fail
    refine HF.out.mono ?_
    rintro e w1 ⟨rfl, rfl⟩
    go_wp2_with fail
    refine (sworks_any _ HM.out).mono ?_
    rintro e w2 ⟨rfl, hb⟩
    have HB := Lib.hid hb; clear hb
    go_wp2_with fail
    go_ret
    exact ⟨rfl, HB.out⟩
  · obtain ⟨h1, _⟩ := shortV_small hq
    rw [hq] at HF
    clear hq
    by_cases h3 : 300 < S.size
    · have hi : (300 : Int) < (S.size : Int) := by omega
      go_enter Try.func4, Try.ntmps4
      go_wp2_with fail
      refine HF.out.mono ?_
      rintro e w1 ⟨rfl, rfl⟩
      go_wp2_with fail
      refine (sworks_any _ HM.out).mono ?_
      rintro e w2 ⟨rfl, hb⟩
      have HB := Lib.hid hb; clear hb
      go_wp2_with fail
      go_ret
      exact ⟨rfl, HB.out⟩
    · have hi : ¬ (300 : Int) < (S.size : Int) := by omega
      have hmm := fun (W : World) (v : Value) (h : DL W v l) => smine_any v l S.data.toList W h hl (by omega)
      have hrm := fun (W : World) (v : Value) (h : DL W v l) => rmine_any v l S.data.toList W h (by omega)
      have hml := mineS_len l S.data.toList
      generalize mineS l S.data.toList = m at *
      rw [bs_self] at hmm hrm
      have HMM := Lib.hid hmm; have HRM := Lib.hid hrm; have HLL : Hid (l.length ≤ 4294967296 ∧ m.length ≤ 4294967296) := by show _ ∧ _; omega
      clear hmm hrm hml h3 hl
      go_enter Try.func4, Try.ntmps4
      go_wp2_with fail
      refine HF.out.mono ?_
      rintro e w1 ⟨rfl, rfl⟩
      go_wp2_with (at_builtin; refine wpList_appDD rfl (.tmp 15) (.tmp 16) rfl w.heap.size w.heap.size _ _ [] l rfl (ownD_nil _ _) (Below.refl _ _) (Nat.le_refl _) (Nat.le_refl _) rfl HV.out (by have := HLL.out.1; simpa using this) ?_; rw [List.nil_append]; intro v1 w1 HO1 HB1 HK1)
      refine (HMM.out _ _ HO1.out.dl).mono ?_
      rintro e w2 ⟨u2, rfl, ho2, hb2⟩
      have HB2 := Lib.hid (HB1.out.trans (hb2.mono HB1.out.size)); have HO2 := Lib.hid ho2.dl; have HOW := Lib.hid (HO1.out.dl.bel hb2); have HV2 := Lib.hid (HV.out.bel HB2.out)
      clear hb2 ho2 HB1 HO1 HK1
      go_wp2_with fail
      refine (HRM.out _ _ HV2.out).mono ?_
      rintro e w3 ⟨u3, rfl, ho3, hb3⟩
      have HB3 := Lib.hid (HB2.out.trans (hb3.mono HB2.out.size)); have HO3 := Lib.hid ho3.dl; have HO2b := Lib.hid (HO2.out.bel hb3); have HOW3 := Lib.hid (HOW.out.bel hb3); have HV3 := Lib.hid (HV2.out.bel hb3)
      clear hb3 ho3 HB2 HO2 HOW HV2
      go_wp2_with fail
      refine (rsameD_any _ _ _ _ _ HO2b.out HO3.out HLL.out.2).mono ?_
      rw [show (m == m) = true from beq_self_eq_true m]
      rintro e w4 ⟨rfl, hb4⟩
      have HB4 := Lib.hid (HB3.out.trans (hb4.mono HB3.out.size)); have HOW4 := Lib.hid (HOW3.out.bel hb4); have HV4 := Lib.hid (HV3.out.bel hb4)
      clear hb4 HB3 HO3 HO2b HOW3 HV3
      go_wp2_with fail
      refine (rsameD_any _ _ _ _ _ HOW4.out HV4.out HLL.out.1).mono ?_
      rw [show (l == l) = true from beq_self_eq_true l]
      rintro e w5 ⟨rfl, hb5⟩
      have HB5 := Lib.hid (HB4.out.trans (hb5.mono HB4.out.size))
      clear hb5 HB4 HOW4 HV4
      go_wp2_with fail
      refine (sworks_any _ (HM.out.bel HB5.out)).mono ?_
      rintro e w6 ⟨rfl, hb6⟩
      have HB6 := Lib.hid (HB5.out.trans (hb6.mono HB5.out.size)); clear hb6 HB5
      go_wp2_with fail
      go_ret
      exact ⟨rfl, HB6.out⟩
end Go.Proofs.Ytonioemenjjajaa
