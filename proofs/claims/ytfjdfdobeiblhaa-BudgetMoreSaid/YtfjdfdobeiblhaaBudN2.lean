/- More entries keep all that fewer keep: the statement's own walk. -/
import Derived.Test.YtfjdfdobeiblhaaBudX
import Derived.Test.YtfjdfdobeiblhaaBudW
namespace Go.Proofs.Ytfjdfdobeiblhaa
open Go.RowKit
/-- two budgets that were made since w0, none of whose blocks the other one has -/
structure Two (w0 w : World) (f g n N m : Nat) (few many : List (It Int)) (Xf Xg : Nat → Prop) : Prop where
  few : BI.Bd w f Xf n m few
  many : BI.Bd w g Xg N m many
  bel : Below w0.heap.size w0 w
  lf : ∀ k, Xf k → w0.heap.size ≤ k
  lg : ∀ k, Xg k → w0.heap.size ≤ k
  ap : ∀ k, Xf k → ¬ Xg k
section
variable {w0 w w' : World} {f g n N m : Nat} {few many few' many' : List (It Int)} {Xf Xg Xf' Xg' : Nat → Prop}
theorem Two.call (h : Two w0 w f g n N m few many Xf Xg) (hb : Below w.heap.size w w') : Two w0 w' f g n N m few many Xf Xg :=
  ⟨h.few.bel hb, h.many.bel hb, h.bel.trans (hb.mono h.bel.size), h.lf, h.lg, h.ap⟩
theorem Two.stepF (h : Two w0 w f g n N m few many Xf Xg) (h1 : BI.Bd w' f Xf' n m few') (hd : Did Xf Xf' w w') : Two w0 w' f g n N m few' many Xf' Xg :=
  ⟨h1, h.many.did hd (fun k hk e => h.ap k e hk), h.bel.trans (hd.below h.bel.size h.lf), fun k hk => (hd.new k hk).elim (h.lf k) (fun e => Nat.le_trans h.bel.size e), h.lg,
    fun k hk hg => (hd.new k hk).elim (fun e => h.ap k e hg) (fun e => by have := h.many.lt k hg; omega)⟩
theorem Two.stepG (h : Two w0 w f g n N m few many Xf Xg) (h1 : BI.Bd w' g Xg' N m many') (hd : Did Xg Xg' w w') : Two w0 w' f g n N m few many' Xf Xg' :=
  ⟨h.few.did hd (fun k hk e => h.ap k hk e), h1, h.bel.trans (hd.below h.bel.size h.lg), h.lf, fun k hk => (hd.new k hk).elim (h.lg k) (fun e => Nat.le_trans h.bel.size e),
    fun k hk hg => (hd.new k hg).elim (fun e => h.ap k hk e) (fun e => by have := h.few.lt k hk; omega)⟩
end
theorem MoreK.act {n e : Nat} {few many : List (It Int)} (h : MoreK n e few many) (hn : 1 ≤ n) (wh : Int) (key : List UInt8) (x : Int) : MoreK n e (actK n 10 ⟨wh, key, 0, x⟩ few) (actK (n + e) 10 ⟨wh, key, 0, x⟩ many) := by
  unfold actK
  split
  · exact h.put hn key x
  · split
    · exact h.get key
    · split
      · exact h
      · exact h.dropped key
theorem MoreK.at {n e : Nat} {few many : List (It Int)} (h : MoreK n e few many) {p : Nat} (hp : p < few.length) : findK ((keysK few).getD p []) few = some few[p] ∧ findK ((keysK few).getD p []) many = some few[p] := by
  have e : (keysK few).getD p [] = few[p].1 := by simp [keysK, List.getD, hp]
  rw [e]
  exact h.found (List.getElem_mem hp)
set_option maxRecDepth 100000 in
set_option maxHeartbeats 8000000 in
theorem budgetMore_law (e0 m0 : Int) (v : Value) (L : List Ac) (w : World) (he : (Lit.int .u8 e0).wf = true) (hm : (Lit.int .u8 m0).wf = true) (hv : AL w v L) (hL : ∀ j (hj : j < L.length), L[j].Ok ∧ L[j].key.length ≤ KL) :
    Calls Try.prog 5 #[.int .u8 e0, .int .u8 m0, v] w fun e w' => e = .returned (.bool true) ∧ Below w.heap.size w w' := by
  have he : 0 ≤ e0 ∧ e0 ≤ 255 := by
    rw [Lit.wf, Bool.and_eq_true, decide_eq_true_eq, decide_eq_true_eq] at he; exact he
  have hm : 0 ≤ m0 ∧ m0 ≤ 255 := by
    rw [Lit.wf, Bool.and_eq_true, decide_eq_true_eq, decide_eq_true_eq] at hm; exact hm
  obtain ⟨n, hn⟩ : ∃ n : Nat, (n : Int) = 1 + e0 % 32 := ⟨(1 + e0 % 32).toNat, by omega⟩
  obtain ⟨x, hx⟩ : ∃ x : Nat, (x : Int) = m0 % 33 := ⟨(m0 % 33).toNat, by omega⟩
  obtain ⟨N, hN⟩ : ∃ N : Nat, N = n + x := ⟨_, rfl⟩
  have t1 : Int.tmod e0 32 = e0 % 32 := Int.tmod_eq_emod_of_nonneg he.1
  have t2 : IntKind.u8.wrap (e0 % 32) = e0 % 32 := by rw [IntKind.wrap_u8]; omega
  have t3 : IntKind.i64.wrap (e0 % 32) = e0 % 32 := by rw [IntKind.wrap_i64]; omega
  have t4 : IntKind.i64.wrap (1 + e0 % 32) = (n : Int) := by rw [IntKind.wrap_i64]; omega
  have t5 : Int.tmod m0 33 = m0 % 33 := Int.tmod_eq_emod_of_nonneg hm.1
  have t6 : IntKind.u8.wrap (m0 % 33) = m0 % 33 := by rw [IntKind.wrap_u8]; omega
  have t7 : IntKind.i64.wrap (m0 % 33) = m0 % 33 := by rw [IntKind.wrap_i64]; omega
  have t8 : IntKind.i64.wrap ((n : Int) + m0 % 33) = (N : Int) := by rw [IntKind.wrap_i64]; omega
  have b1 : 1 ≤ n := by omega
  have b2 : n ≤ 4096 := by omega
  have b3 : N ≤ 4096 := by omega
  have HNEW := Lib.hid (BI.new_any n 10 w b1 b2 (by omega) (by omega))
  have HNEW2 := Lib.hid (fun W => BI.new_any N 10 W (by omega) b3 (by omega) (by omega))
  have HNN := Lib.hid hN
  have HV := Lib.hid hv; have HL := Lib.hid hL; have HN1 := Lib.hid b1; have HB2 := Lib.hid b2
  obtain ⟨Av, cv, rfl⟩ := hv.form
  clear hv hL hn hx he hm b1 b2 b3 hN
  generalize e0 % 32 = e64 at *
  generalize m0 % 33 = m64 at *
  go_enter Try.func5, Try.ntmps5
  go_wp2_with fail
  refine HNEW.out.mono ?_
  rintro e w1 ⟨bf, Xf, rfl, hf, hb1, hlf⟩
  have HF := Lib.hid hf; have HB1 := Lib.hid hb1; have HLF := Lib.hid hlf
  have HNEW3 := Lib.hid (HNEW2.out w1)
  clear hf hb1 hlf HNEW HNEW2
  go_wp2_with fail
  refine HNEW3.out.mono ?_
  rintro e w2 ⟨bg, Xg, rfl, hg, hb2, hlg⟩
  have HT : Hid (Two w w2 bf bg n N 10 [] [] Xf Xg) := ⟨HF.out.bel hb2, hg, HB1.out.trans (hb2.mono HB1.out.size), HLF.out, fun k hk => Nat.le_trans HB1.out.size (hlg k hk), fun k hk hq => by have h1 := HF.out.lt k hk; have h2 := hlg k hq; omega⟩
  have HK0 : Hid (MoreK n x ([] : List (It Int)) []) := ⟨List.Sublist.refl _, by simp, by simp [keysK], by simp [keysK], by simp, by simp, fun y hy => by cases hy⟩
  clear hg hb2 hlg HF HB1 HLF HNEW3 t1 t2 t3 t4 t5 t6 t7 t8
  go_wp2_with fail
  go_loopw [10] (fun i wr => ∃ k : Nat, k ≤ L.length ∧ i = .int .i64 k ∧ ∃ few many Xf Xg, Hid (Two w wr bf bg n N 10 few many Xf Xg ∧ MoreK n x few many)) (fun i _ => L.length - (intOf i).toNat)
  case atStart => exact ⟨0, Nat.zero_le _, rfl, [], [], _, _, HT.out, HK0.out⟩
  case round =>
    obtain ⟨k, hk, rfl, few, many, Yf, Yg, hq⟩ := hrel
    have HT2 := Lib.hid hq.out.1; have HMK := Lib.hid hq.out.2
    clear HT HK0 hq
    by_cases hlt : k < L.length ∧ k < 150
    · obtain ⟨hk1, hk2⟩ := hlt
      obtain ⟨ba, off, rfl, hba, d0, d1, d2, d3⟩ := (HV.out.bel HT2.out.bel).get k hk1
      have hki : (k : Int) < (L.length : Int) := by omega
      have hkj : (k : Int) < 150 := by omega
      have HAO := Lib.hid (HL.out k hk1)
      generalize L[k] = a at *
      obtain ⟨wh, key, sz, xv⟩ := a
      simp only at d0 d1 d2 d3 HAO
      have HOK2 : Hid ((⟨wh, key, 0, xv⟩ : Ac).Ok) := ⟨HAO.out.1.w1, HAO.out.1.w2, by show -9223372036854775808 ≤ (0 : Int); omega, by show (0 : Int) ≤ 9223372036854775807; omega, HAO.out.1.x1, HAO.out.1.x2⟩
      have HKL := Lib.hid HAO.out.2
      have hal : Below wr.heap.size wr (wr.alloc (.cells #[.int .u8 wh, .string (bs key), .int .i64 0, .int .i64 xv] 32)) := (Below.refl _ _).alloc (Nat.le_refl _) _
      have hbk := bk.new wr #[.int .u8 wh, .string (bs key), .int .i64 0, .int .i64 xv] 32
      have HAL := Lib.hid hal
      have HBK : Hid (bk (wr.alloc (.cells #[.int .u8 wh, .string (bs key), .int .i64 0, .int .i64 xv] 32)) wr.heap.size #[.int .u8 wh, .string (bs key), .int .i64 0, .int .i64 xv]) := hbk
      have g0 := HBK.out.cell 0 (.int .u8 wh) rfl
      have g1 := HBK.out.cell 1 (.string (bs key)) rfl
      have g2 := HBK.out.cell 2 (.int .i64 0) rfl
      have g3 := HBK.out.cell 3 (.int .i64 xv) rfl
      have HT3 := Lib.hid (HT2.out.call HAL.out)
      have HXF : Hid (¬ Yf wr.heap.size ∧ ¬ Yg wr.heap.size) := ⟨fun e => by have := HT2.out.few.lt _ e; omega, fun e => by have := HT2.out.many.lt _ e; omega⟩
      have HLT : Hid (wr.heap.size < (wr.alloc (.cells #[.int .u8 wh, .string (bs key), .int .i64 0, .int .i64 xv] 32)).heap.size) := HBK.out.lt
      have HDF := Lib.hid (do_any HT3.out.few ⟨wh, key, 0, xv⟩ HOK2.out HKL.out)
      have HMK2 : Hid (MoreK n x (actK n 10 ⟨wh, key, 0, xv⟩ few) (actK N 10 ⟨wh, key, 0, xv⟩ many)) := by rw [HNN.out]; exact HMK.out.act HN1.out wh key xv
      have HDG0 : Hid (∀ W Z, BI.Bd W bg Z N 10 many → Calls Try.prog 16 #[.pointer (some ⟨bg, 0, none⟩), .agg #[.int .u8 wh, .string (bs key), .int .i64 0, .int .i64 xv], .int .i64 (10 : Nat)] W fun e w' => e = .returned (.bool true) ∧ ∃ X', BI.Bd w' bg X' N 10 (actK N 10 ⟨wh, key, 0, xv⟩ many) ∧ Did Z X' W w') := fun W Z hZ => do_any hZ ⟨wh, key, 0, xv⟩ HOK2.out HKL.out
      clear hal hbk hba HT2 HAO HAL HMK
      unfold Ac.val at HDF
      simp only at HDF
      generalize actK n 10 ⟨wh, key, 0, xv⟩ few = few' at *
      generalize actK N 10 ⟨wh, key, 0, xv⟩ many = many' at *
      go_wp2_with fail
      refine HDF.out.mono ?_
      rintro e w3 ⟨rfl, Yf', hf3, hd3⟩
      have HT4 := Lib.hid (HT3.out.stepF hf3 hd3)
      have HBK3 := Lib.hid (HBK.out.keep (hd3.keep _ HLT.out HXF.out.1))
      have HLT3 := Lib.hid HBK3.out.lt
      have HDG := Lib.hid (HDG0.out w3 _ HT4.out.many)
      have k0 := HBK3.out.cell 0 (.int .u8 wh) rfl
      have k1 := HBK3.out.cell 1 (.string (bs key)) rfl
      have k2 := HBK3.out.cell 2 (.int .i64 0) rfl
      have k3 := HBK3.out.cell 3 (.int .i64 xv) rfl
      clear hf3 hd3 HT3 HBK HLT HDF HDG0 g0 g1 g2 g3 d0 d1 d2 d3
      generalize wr.heap.size = ab at *
      go_wp2_with fail
      refine HDG.out.mono ?_
      rintro e w4 ⟨rfl, Yg', hg4, hd4⟩
      have HT5 := Lib.hid (HT4.out.stepG hg4 hd4)
      have HKE := Lib.hid (BI.keys_any HT5.out.few)
      clear hg4 hd4 HT4 HBK3 HLT3 HXF HDG k0 k1 k2 k3
      go_wp2_with fail
      refine HKE.out.mono ?_
      rintro e w5 ⟨u, rfl, hu, hb5⟩
      have HT6 := Lib.hid (HT5.out.call hb5)
      have HU := Lib.hid hu
      obtain ⟨Au, cu, rfl⟩ := hu.form
      have hkk : (keysK few').length = few'.length := by simp [keysK]
      have HKK := Lib.hid hkk
      have hll : few'.length ≤ 4096 := by have h1 := HMK2.out.lF; have h2 := HB2.out; omega
      rw [hkk]
      clear hu hb5 hkk HT5 HKE
      go_wp2_with fail
      go_loopw [13] (fun i wr => ∃ p : Nat, p ≤ few'.length ∧ i = .int .i64 p ∧ Hid (Two w wr bf bg n N 10 few' many' Yf' Yg' ∧ ownS wr w4.heap.size (.slice Au (keysK few').length cu) (keysK few'))) (fun i _ => few'.length - (intOf i).toNat)
      case atStart => exact ⟨0, Nat.zero_le _, rfl, HT6.out, HU.out⟩
      case round =>
        obtain ⟨p, hp, rfl, hq⟩ := hrel
        have HT7 := Lib.hid hq.out.1; have HU7 := Lib.hid hq.out.2
        clear hq HT6 HU
        by_cases hpl : p < few'.length
        · have hpi : (p : Int) < (few'.length : Int) := by omega
          obtain ⟨g, rfl, hcp⟩ := HU7.out.cell p (by rw [HKK.out]; exact hpl)
          have hkl : ((keysK few').getD p []).length ≤ KL := by
            have h1 : (keysK few').getD p [] = few'[p].1 := by simp [keysK, List.getD, hpl]
            rw [h1]
            exact HT7.out.few.kl _ (List.getElem_mem hpl)
          obtain ⟨f1, f2⟩ := HMK2.out.at hpl
          have HP1 := BI.peek_any HT7.out.few _ hkl
          have HP2 := BI.peek_any HT7.out.many _ hkl
          rw [f1] at HP1
          rw [f2] at HP2
          have HP1 : Hid (Calls Try.prog 17 #[.pointer (some ⟨bf, 0, none⟩), .string (bs ((keysK few').getD p []))] wr fun e w' => e = .returned (.tuple #[.int .i64 few'[p].2.2, .bool true]) ∧ wr = w') := HP1
          have HP2 : Hid (Calls Try.prog 17 #[.pointer (some ⟨bg, 0, none⟩), .string (bs ((keysK few').getD p []))] wr fun e w' => e = .returned (.tuple #[.int .i64 few'[p].2.2, .bool true]) ∧ wr = w') := HP2
          clear f1 f2 hkl
          generalize few'[p].2.2 = val at *
          generalize bs ((keysK few').getD p []) = kb at *
          go_wp2_with fail
          refine HP1.out.mono ?_
          rintro e wx ⟨rfl, rfl⟩
          go_wp2_with fail
          refine HP2.out.mono ?_
          rintro e wx ⟨rfl, rfl⟩
          go_wp2_with fail
          go_roundw
          case rel => exact ⟨p + 1, by omega, by go_num, HT7.out, HU7.out⟩
          case measure => simp [intOf]; omega
        · have hpi : ¬ (p : Int) < (few'.length : Int) := by omega
          go_wp2_with fail
          go_roundw
          case rel => exact ⟨k + 1, by omega, by go_num, few', many', _, _, HT7.out, HMK2.out⟩
          case measure => simp [intOf]; omega
    · by_cases hk1 : k < L.length
      · have hki : (k : Int) < (L.length : Int) := by omega
        have hkj : ¬ (k : Int) < 150 := by omega
        clear hlt
        go_wp2_with fail
        refine (works_any _).mono ?_
        rintro e wz ⟨rfl, hb⟩
        have HBZ := Lib.hid (HT2.out.bel.trans (hb.mono HT2.out.bel.size))
        clear hb
        go_wp2_with fail
        go_ret
        exact ⟨rfl, HBZ.out⟩
      · have hki : ¬ (k : Int) < (L.length : Int) := by omega
        clear hlt
        go_wp2_with fail
        refine (works_any _).mono ?_
        rintro e wz ⟨rfl, hb⟩
        have HBZ := Lib.hid (HT2.out.bel.trans (hb.mono HT2.out.bel.size))
        clear hb
        go_wp2_with fail
        go_ret
        exact ⟨rfl, HBZ.out⟩
end Go.Proofs.Ytfjdfdobeiblhaa
