/- Never more is kept than both bounds let be, each key once: the statement's own walk. -/
import Derived.Test.YtfjdfdobeiblhaaBudX
import Derived.Test.YtfjdfdobeiblhaaBudW
namespace Go.Proofs.Ytfjdfdobeiblhaa
open Go.RowKit
section
variable {w0 w : World} {b n m : Nat} {l : List (It Int)}
theorem do_q (h : BI.Bq w0 w b n m l) (a : Ac) (ha : a.Ok) (hk : a.key.length ≤ KL) :
    Calls Try.prog 16 #[.pointer (some ⟨b, 0, none⟩), .agg #[.int .u8 a.wh, .string (bs a.key), .int .i64 a.sz, .int .i64 a.x], .int .i64 m] w fun e w' => e = .returned (.bool true) ∧ BI.Bq w0 w' b n m (actK n m a l) := by
  obtain ⟨X, h1, h2, h3⟩ := h
  refine (do_any h1 a ha hk).mono ?_
  rintro e w' ⟨rfl, X', h1', hd⟩
  exact ⟨rfl, BI.Bq.step h2 h3 h1' hd⟩
end
theorem keys_apart {l : List (It Int)} (h : (keysK l).Nodup) {j k : Nat} (hj : j < k) (hk : k < (keysK l).length) : ((bs ((keysK l).getD j [])).toList == (bs ((keysK l).getD k [])).toList) = false := by
  rw [beq_eq_false_iff_ne, Lib.toList_data, Lib.toList_data, bs_data, bs_data]
  have h1 := List.pairwise_iff_getElem.1 h j k (by omega) hk hj
  simpa [List.getD, show j < (keysK l).length by omega, hk] using h1
set_option maxRecDepth 100000 in
set_option maxHeartbeats 8000000 in
theorem budgetBounds_law (e0 m0 : Int) (v : Value) (L : List Ac) (w : World) (he : (Lit.int .u8 e0).wf = true) (hm : (Lit.int .u16 m0).wf = true) (hv : AL w v L) (hL : ∀ j (hj : j < L.length), L[j].Ok ∧ L[j].key.length ≤ KL) :
    Calls Try.prog 4 #[.int .u8 e0, .int .u16 m0, v] w fun e w' => e = .returned (.bool true) ∧ Below w.heap.size w w' := by
  have he : 0 ≤ e0 ∧ e0 ≤ 255 := by
    rw [Lit.wf, Bool.and_eq_true, decide_eq_true_eq, decide_eq_true_eq] at he; exact he
  have hm : 0 ≤ m0 ∧ m0 ≤ 65535 := by
    rw [Lit.wf, Bool.and_eq_true, decide_eq_true_eq, decide_eq_true_eq] at hm; exact hm
  obtain ⟨n, hn⟩ : ∃ n : Nat, (n : Int) = 1 + e0 % 64 := ⟨(1 + e0 % 64).toNat, by omega⟩
  obtain ⟨m, hmm⟩ : ∃ m : Nat, (m : Int) = 1 + m0 := ⟨(1 + m0).toNat, by omega⟩
  have t1 : Int.tmod e0 64 = e0 % 64 := Int.tmod_eq_emod_of_nonneg he.1
  have t2 : IntKind.u8.wrap (e0 % 64) = e0 % 64 := by rw [IntKind.wrap_u8]; omega
  have t3 : IntKind.i64.wrap (e0 % 64) = e0 % 64 := by rw [IntKind.wrap_i64]; omega
  have t4 : IntKind.i64.wrap (1 + e0 % 64) = (n : Int) := by rw [IntKind.wrap_i64]; omega
  have t5 : IntKind.i64.wrap m0 = m0 := by rw [IntKind.wrap_i64]; omega
  have t6 : IntKind.i64.wrap (1 + m0) = (m : Int) := by rw [IntKind.wrap_i64]; omega
  have b1 : 1 ≤ n := by omega
  have b2 : n ≤ 4096 := by omega
  have b3 : 1 ≤ m := by omega
  have b4 : m ≤ 1073741824 := by omega
  have HNEW := Lib.hid (BI.new_q (w0 := w) (w := w) n m b1 b2 b3 b4 (Below.refl _ _))
  have HV := Lib.hid hv; have HL := Lib.hid hL; have HN1 := Lib.hid b1
  obtain ⟨Av, cv, rfl⟩ := hv.form
  clear hv hL hn hmm he hm b1 b2 b3 b4
  generalize e0 % 64 = e64 at *
  go_enter Try.func4, Try.ntmps4
  go_wp2_with fail
  refine HNEW.out.mono ?_
  rintro e w1 ⟨b, rfl, -, hq⟩
  have HQ1 := Lib.hid hq
  clear hq HNEW t1 t2 t3 t4 t5 t6
  go_wp2_with fail
  go_loopw [10] (fun i wr => ∃ k : Nat, k ≤ L.length ∧ i = .int .i64 k ∧ ∃ l, Hid (BI.Bq w wr b n m l)) (fun i _ => L.length - (intOf i).toNat)
  case atStart => exact ⟨0, Nat.zero_le _, rfl, [], HQ1.out⟩
  case round =>
    obtain ⟨k, hk, rfl, l, HQ⟩ := hrel
    clear HQ1
    by_cases hlt : k < L.length ∧ k < 150
    · obtain ⟨hk1, hk2⟩ := hlt
      obtain ⟨ba, off, rfl, hba, d0, d1, d2, d3⟩ := (HV.out.bel HQ.out.below).get k hk1
      have hki : (k : Int) < (L.length : Int) := by omega
      have hkj : (k : Int) < 150 := by omega
      have HDO := Lib.hid (do_q HQ.out L[k] (HL.out k hk1).1 (HL.out k hk1).2)
      have HOK := Lib.hid (actK_ok L[k] HQ.out.ok HN1.out)
      generalize L[k] = a at *
      obtain ⟨wh, key, sz, x⟩ := a
      simp only at d0 d1 d2 d3 HDO
      generalize actK n m ⟨wh, key, sz, x⟩ l = l' at *
      clear hba
      go_wp2_with fail
      refine HDO.out.mono ?_
      rintro e w2 ⟨rfl, hq2⟩
      have HQ2 := Lib.hid hq2
      have HLE := Lib.hid (BI.len_q hq2); have HBY := Lib.hid (BI.bytes_q hq2); have HKE := Lib.hid (BI.keys_q hq2)
      have q1 : ¬ (n : Int) < (l'.length : Int) := by have := HOK.out.len; omega
      have q2 : ¬ (m : Int) < (totK l' : Int) := by have := HOK.out.tot; omega
      have q3 : ¬ (totK l' : Int) < 0 := by omega
      clear hq2 HDO HQ d0 d1 d2 d3
      go_wp2_with fail
      refine HLE.out.mono ?_
      rintro e wx ⟨rfl, rfl⟩
      go_wp2_with fail
      refine HBY.out.mono ?_
      rintro e wx ⟨rfl, rfl⟩
      go_wp2_with fail
      refine HBY.out.mono ?_
      rintro e wx ⟨rfl, rfl⟩
      clear q1 q2 q3
      go_wp2_with fail
      refine HKE.out.mono ?_
      rintro e w3 ⟨u, rfl, hu, hb3⟩
      have HQ3 := Lib.hid (HQ2.out.bel hb3)
      have HLE3 := Lib.hid (BI.len_q HQ3.out)
      have HU := Lib.hid hu
      obtain ⟨Au, cu, rfl⟩ := hu.form
      have hkk : (keysK l').length = l'.length := by simp [keysK]
      have HKK := Lib.hid hkk
      have hll : l'.length ≤ 4096 := by have h1 := HOK.out.len; have h2 := HQ2.out.bounds; omega
      rw [hkk]
      clear hu hb3 hkk HQ2 HLE HBY HKE
      go_wp2_with fail
      refine HLE3.out.mono ?_
      rintro e wx ⟨rfl, rfl⟩
      go_wp2_with fail
      go_loopw [12] (fun i wr => ∃ p : Nat, p ≤ l'.length ∧ i = .int .i64 p ∧ Hid (BI.Bq w wr b n m l' ∧ ownS wr w2.heap.size (.slice Au (keysK l').length cu) (keysK l'))) (fun i _ => l'.length - (intOf i).toNat)
      case atStart => exact ⟨0, Nat.zero_le _, rfl, HQ3.out, HU.out⟩
      case round =>
        obtain ⟨p, hp, rfl, hq⟩ := hrel
        have HQ4 := Lib.hid hq.out
        clear hq HQ3 HU HLE3
        by_cases hpl : p < l'.length
        · have hpi : (p : Int) < (l'.length : Int) := by omega
          go_wp2_with fail
          go_loopw [13] (fun i wr => ∃ j : Nat, j ≤ p ∧ i = .int .i64 j ∧ Hid (BI.Bq w wr b n m l' ∧ ownS wr w2.heap.size (.slice Au (keysK l').length cu) (keysK l'))) (fun i _ => p - (intOf i).toNat)
          case atStart => exact ⟨0, Nat.zero_le _, rfl, HQ4.out⟩
          case round =>
            obtain ⟨j, hj, rfl, hq⟩ := hrel
            have HQ5 := Lib.hid hq.out
            clear hq HQ4
            by_cases hjp : j < p
            · have hji : (j : Int) < (p : Int) := by omega
              have hjl : (j : Int) < (l'.length : Int) := by omega
              have hkk2 := HKK.out
              obtain ⟨g, hg1, hcj⟩ := HQ5.out.2.cell j (by omega)
              obtain ⟨g', hg2, hcp⟩ := HQ5.out.2.cell p (by omega)
              rw [hg1] at hg2
              cases hg2
              subst hg1
              have hx := keys_apart HOK.out.nd hjp (by omega)
              clear hkk2
              generalize bs ((keysK l').getD j []) = xa at *
              generalize bs ((keysK l').getD p []) = xb at *
              go_wp2_with fail
              go_quiet (fail)
              go_wp2_with fail
              go_roundw
              case rel => exact ⟨j + 1, by omega, by go_num, HQ5.out.1.bel (below_dnX (Below.refl _ _) _), HQ5.out.2.heap rfl⟩
              case measure => simp [intOf]; omega
            · have hji : ¬ (j : Int) < (p : Int) := by omega
              go_wp2_with fail
              go_roundw
              case rel => exact ⟨p + 1, by omega, by go_num, HQ5.out⟩
              case measure => simp [intOf]; omega
        · have hpi : ¬ (p : Int) < (l'.length : Int) := by omega
          go_wp2_with fail
          go_roundw
          case rel => exact ⟨k + 1, by omega, by go_num, l', HQ4.out.1⟩
          case measure => simp [intOf]; omega
    · by_cases hk1 : k < L.length
      · have hki : (k : Int) < (L.length : Int) := by omega
        have hkj : ¬ (k : Int) < 150 := by omega
        clear hlt
        go_wp2_with fail
        refine (works_any _).mono ?_
        rintro e wz ⟨rfl, hb⟩
        have HBZ := Lib.hid (HQ.out.below.trans (hb.mono HQ.out.below.size))
        clear hb
        go_wp2_with fail
        go_ret
        exact ⟨rfl, HBZ.out⟩
      · have hki : ¬ (k : Int) < (L.length : Int) := by omega
        clear hlt
        go_wp2_with fail
        refine (works_any _).mono ?_
        rintro e wz ⟨rfl, hb⟩
        have HBZ := Lib.hid (HQ.out.below.trans (hb.mono HQ.out.below.size))
        clear hb
        go_wp2_with fail
        go_ret
        exact ⟨rfl, HBZ.out⟩
end Go.Proofs.Ytfjdfdobeiblhaa
