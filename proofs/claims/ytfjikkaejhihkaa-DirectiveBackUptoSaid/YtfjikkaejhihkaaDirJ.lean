/- The statements' own helpers: are values few; what directives are told as; some of the chapter's answers. -/
import Derived.Test.YtfjikkaejhihkaaDirI
namespace Go.Proofs.Ytfjikkaejhihkaa
open Go.RowKit

def fewD (L : List (List UInt8)) : Bool := (L.take 30).all (fun x => decide (x.length ≤ 2000)) && decide (L.length ≤ 20)
theorem fewD_small {L : List (List UInt8)} (h : fewD L = true) : L.length ≤ 20 ∧ ∀ x ∈ L, x.length ≤ 2000 := by
  unfold fewD at h
  simp only [Bool.and_eq_true, decide_eq_true_eq, List.all_eq_true] at h
  refine ⟨h.2, fun x hx => h.1 x ?_⟩
  rw [List.take_of_length_le (by omega)]
  exact hx
set_option maxHeartbeats 1000000 in
theorem fewD_any (v : Value) (L : List (List UInt8)) (w : World) (hv : SL w v L) (hs : ∀ j (hj : j < L.length), L[j].length ≤ 9223372036854775807) (hl : L.length ≤ 9223372036854775807) :
    Calls Try.prog 8 #[v] w fun e w' => e = .returned (.bool (fewD L)) ∧ w = w' := by
  obtain ⟨A, c, rfl⟩ := hv.form
  have HV := Lib.hid hv; clear hv
  go_enter Try.func8, Try.ntmps8
  go_wp2_with fail
  go_loop [3] (fun i => ∃ k : Nat, k ≤ L.length ∧ k ≤ 30 ∧ i = .int .i64 k ∧ (L.take k).all (fun x => decide (x.length ≤ 2000)) = true) (fun i => L.length - (intOf i).toNat)
  case atStart => exact ⟨0, Nat.zero_le _, Nat.zero_le _, rfl, rfl⟩
  case round =>
    obtain ⟨k, hk, hk3, rfl, ha⟩ := hrel
    have HA := Lib.hid ha; clear ha
    by_cases hlt : k < L.length
    · by_cases h30 : k < 30
      · obtain ⟨b, off, rfl, hbl, hcell⟩ := HV.out.get k hlt
        have hsz := hs k hlt
        have hst : L.take (k + 1) = L.take k ++ [L[k]] := List.take_succ_eq_append_getElem hlt
        have hin : L[k] ∈ L.take 30 := by
          rw [List.mem_take_iff_getElem]
          exact ⟨k, by omega, rfl⟩
        by_cases hbig : 2000 < L[k].length
        · have hno : fewD L = false := by
            unfold fewD
            rw [Bool.and_eq_false_iff]
            left
            rw [List.all_eq_false]
            exact ⟨L[k], hin, by simp; omega⟩
          have HNO := Lib.hid hno
          have hd : (2000 : Int) < (L[k].length : Int) := by omega
          clear hno hst hin hbig
          generalize L[k] = x at *
          go_wp2_with fail
          go_ret
          exact ⟨ret_bool HNO.out.symm, rfl⟩
        · have HS2 : Hid ((L.take (k + 1)).all (fun x => decide (x.length ≤ 2000)) = true) := by
            show _ = _
            rw [hst, List.all_append, HA.out]
            simp; omega
          have hd : ¬ (2000 : Int) < (L[k].length : Int) := by omega
          clear hst hin hbig
          generalize L[k] = x at *
          go_wp2_with fail
          go_round
          case rel => exact ⟨k + 1, by omega, by omega, by go_num, HS2.out⟩
          case measure => simp [intOf]; omega
      · have hE : fewD L = false := by
          unfold fewD
          rw [Bool.and_eq_false_iff]
          right
          exact decide_eq_false (by omega)
        have HE := Lib.hid hE; clear hE
        have hd : ¬ (k : Int) < 30 := by omega
        have hbig : ¬ (L.length : Int) ≤ 20 := by omega
        go_wp2_with fail
        go_ret
        exact ⟨ret_bool HE.out.symm, rfl⟩
    · have hE : fewD L = decide ((L.length : Int) ≤ 20) := by
        unfold fewD
        have h := HA.out
        rw [List.take_of_length_le (by omega)] at h
        rw [List.take_of_length_le (by omega), h, Bool.true_and]
        congr 1
        simp; omega
      have HE := Lib.hid hE; clear hE
      by_cases h20 : (L.length : Int) ≤ 20
      · go_wp2_with fail
        go_ret
        exact ⟨ret_bool (by rw [HE.out]; simp [h20]), rfl⟩
      · go_wp2_with fail
        go_ret
        exact ⟨ret_bool (by rw [HE.out]; simp [h20]), rfl⟩

/-- what directives are told as -/
def oneTold (d : Dv) : List UInt8 := d.1 ++ (if d.2.2.1 then 61 :: d.2.1 else [])
def tolds (l : List Dv) : Nat → List UInt8
  | 0 => []
  | k + 1 => tolds l k ++ (if 0 < k then [32] else []) ++ oneTold (l.getD k dv0)
def sizeD : List Dv → Nat
  | [] => 0
  | d :: r => d.1.length + d.2.1.length + 2 + sizeD r
theorem sizeD_at : ∀ (l : List Dv) (k : Nat) (h : k < l.length), sizeD (l.take k) + (l[k].1.length + l[k].2.1.length + 2) = sizeD (l.take (k + 1)) ∧ sizeD (l.take (k + 1)) ≤ sizeD l
  | [], k, h => absurd h (by simp)
  | d :: r, 0, h => by simp [sizeD]
  | d :: r, k + 1, h => by
    have := sizeD_at r k (by simpa using h)
    simp only [List.take_succ_cons, sizeD, List.getElem_cons_succ]
    omega
theorem tolds_len (l : List Dv) : ∀ k, k ≤ l.length → (tolds l k).length ≤ sizeD (l.take k)
  | 0, _ => by simp [tolds]
  | k + 1, h => by
    have h1 := tolds_len l k (by omega)
    have h2 := (sizeD_at l k (by omega)).1
    rw [tolds, show l.getD k dv0 = l[k]'(by omega) from by simp [List.getD, show k < l.length from by omega]]
    unfold oneTold
    simp only [List.length_append]
    split <;> split <;> simp <;> omega

set_option maxHeartbeats 2000000 in
set_option maxRecDepth 100000 in
theorem told_any (v : Value) (L : List (List UInt8)) (w : World) (hm : MaxD w) (hv : SL w v L) (hs : ∀ x ∈ L, x.length ≤ 4294967200) (hl : L.length ≤ 1000000) (hz : sizeD (dirsAll L) ≤ 1000000) :
    Calls Try.prog 15 #[v] w fun e w' => e = .returned (.string (bs (tolds (dirsAll L) (dirsAll L).length))) ∧ Below w.heap.size w w' := by
  have HLD := Lib.hid (fun W (hb : Below w.heap.size w W) => listD_any v L W (hm.bel hb) (hv.bel hb) hs hl)
  have hdl := dirsAll_len L
  have hd2 : (dirsAll L).length ≤ 64000000 := by omega
  clear hm hv hs hdl
  generalize dirsAll L = l at *
  go_enter Try.func15, Try.ntmps15
  go_wp2_with fail
  refine (HLD.out _ (Below.refl _ _)).mono ?_
  rintro e w1 ⟨u, rfl, ho, hb⟩
  obtain ⟨A, c, rfl⟩ := ho.form
  have HD := Lib.hid ho.dl; have HB := Lib.hid hb; have HZ := Lib.hid hz; clear ho hb HLD hz
  go_wp2_with fail
  go_loop [3, 5] (fun s i => ∃ k : Nat, k ≤ l.length ∧ i = .int .i64 k ∧ s = .string (bs (tolds l k))) (fun _ i => l.length - (intOf i).toNat)
  case atStart => exact ⟨0, Nat.zero_le _, rfl, rfl⟩
  case round =>
    obtain ⟨k, hk, rfl, rfl⟩ := hrel
    by_cases hlt : k < l.length
    · obtain ⟨b, off, rfl, hbl, e0, e1, e2, e3⟩ := HD.out.get k hlt
      have h1 := sizeD_at l k hlt
      have h2 := tolds_len l k hk
      have h3 := HZ.out
      have hT : (tolds l k).length ≤ 1000000 := by omega
      have hN : l[k].1.length ≤ 1000000 := by omega
      have hV : l[k].2.1.length ≤ 1000000 := by omega
      have hstep : tolds l (k + 1) = tolds l k ++ (if 0 < k then [32] else []) ++ oneTold l[k] := by
        rw [tolds, show l.getD k dv0 = l[k] from by simp [List.getD, hlt]]
      clear h1 h2 h3
      generalize tolds l k = T at *
      generalize l[k] = d at *
      obtain ⟨n, x, q, y⟩ := d
      simp only at e0 e1 e2 e3 hN hV
      have HST := Lib.hid hstep; clear hstep
      by_cases h0 : 0 < k
      · have hi0 : (0 : Int) < (k : Int) := by omega
        cases q
        · go_wp2_with fail
          go_round
          case rel => exact ⟨k + 1, by omega, by go_num, by rw [HST.out, if_pos h0]; unfold oneTold; exact congrArg Value.string (bs_of (by simp)).symm⟩
          case measure => simp [intOf]; omega
        · go_wp2_with fail
          go_round
          case rel => exact ⟨k + 1, by omega, by go_num, by rw [HST.out, if_pos h0]; unfold oneTold; exact congrArg Value.string (bs_of (by simp)).symm⟩
          case measure => simp [intOf]; omega
      · have hi0 : ¬ (0 : Int) < (k : Int) := by omega
        cases q
        · go_wp2_with fail
          go_round
          case rel => exact ⟨k + 1, by omega, by go_num, by rw [HST.out, if_neg h0]; unfold oneTold; exact congrArg Value.string (bs_of (by simp)).symm⟩
          case measure => simp [intOf]; omega
        · go_wp2_with fail
          go_round
          case rel => exact ⟨k + 1, by omega, by go_num, by rw [HST.out, if_neg h0]; unfold oneTold; exact congrArg Value.string (bs_of (by simp)).symm⟩
          case measure => simp [intOf]; omega
    · obtain rfl : k = l.length := by omega
      go_wp2_with fail
      go_ret
      exact ⟨rfl, HB.out⟩
end Go.Proofs.Ytfjikkaejhihkaa
