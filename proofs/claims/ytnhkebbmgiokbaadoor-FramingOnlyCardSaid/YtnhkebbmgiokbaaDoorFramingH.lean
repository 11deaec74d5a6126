/- The document's number; the elements of a name's values, by the document. -/
import Derived.Test.YtnhkebbmgiokbaaDoorFieldsV
import Derived.Test.YtnhkebbmgiokbaaDoorFramingG
namespace Go.Proofs.YtnhkebbmgiokbaaDoor
open Go.RowKit Go.Shelf

theorem decV_snoc (l : List UInt8) (c : UInt8) : decV (l ++ [c]) = 10 * decV l + (c.toNat - 48) := by unfold decV; rw [List.foldl_append]; rfl
theorem decF_pow : ∀ (l : List UInt8) (n : Nat), l.all digB = true → l.foldl (fun n c => 10 * n + (c.toNat - 48)) n + 1 ≤ (n + 1) * 10 ^ l.length
  | [], n, _ => by simp
  | c :: r, n, h => by
    rw [List.all_cons, Bool.and_eq_true] at h
    have g := digB_iff.1 h.1
    have h1 := decF_pow r (10 * n + (c.toNat - 48)) h.2
    have h2 : (10 * n + (c.toNat - 48) + 1) * 10 ^ r.length ≤ ((n + 1) * 10) * 10 ^ r.length := Nat.mul_le_mul_right _ (by omega)
    rw [List.foldl_cons, List.length_cons, Nat.pow_succ, Nat.mul_comm (10 ^ r.length) 10, ← Nat.mul_assoc]
    exact Nat.le_trans h1 h2
theorem decV_pow (l : List UInt8) (h : l.all digB = true) : decV l < 10 ^ l.length := by
  have := decF_pow l 0 h
  unfold decV; omega
theorem decV_small {s : ByteArray} {k : Nat} (h : (s.data.toList.take k).all digB = true) (hk : k ≤ 17) : decV (s.data.toList.take k) < 100000000000000000 := by
  have h1 := decV_pow _ h
  have h2 : (s.data.toList.take k).length ≤ 17 := Nat.le_trans (List.length_take_le _ _) hk
  exact Nat.lt_of_lt_of_le h1 (Nat.pow_le_pow_right (by decide) h2)
/-- a number by the document: 0 where it is none -/
def numD (l : List UInt8) : Int := if lenB l then decV l else 0
set_option maxRecDepth 100000 in
set_option maxHeartbeats 1000000 in
theorem rnumber_any (s : ByteArray) (w : World) (hs : s.size ≤ 4294967296) :
    Calls Tryd.prog 39 #[.string s] w fun e w' => e = .returned (.tuple #[.int .i64 (numD s.data.toList), .bool (lenB s.data.toList)]) ∧ w = w' := by
  have HZ := Lib.hid (size_len s)
  by_cases h0 : s.size = 0
  · have HR : Hid (lenB s.data.toList = false) := by show _ = _; unfold lenB; rw [decide_eq_false (by have := HZ.out; omega)]; rfl
    go_enter Tryd.func39, Tryd.ntmps39
    go_wp2_with fail
    go_ret2
    exact ⟨by unfold numD; rw [HR.out]; rfl, rfl⟩
  · have h0' : ((s.size : Int) == 0) = false := by rw [beq_eq_false_iff_ne]; omega
    by_cases h18 : 18 < (s.size : Int)
    · have HR : Hid (lenB s.data.toList = false) := by show _ = _; unfold lenB; rw [decide_eq_false (by have := HZ.out; omega)]; rfl
      go_enter Tryd.func39, Tryd.ntmps39
      go_wp2_with fail
      go_ret2
      exact ⟨by unfold numD; rw [HR.out]; rfl, rfl⟩
    · have hsz : s.size ≤ 18 := by omega
      go_enter Tryd.func39, Tryd.ntmps39
      go_wp2_with fail
      go_loop [4, 5] (fun n i => ∃ k : Nat, k ≤ s.size ∧ i = .int .i64 k ∧ n = .int .i64 (decV (s.data.toList.take k)) ∧ (s.data.toList.take k).all digB = true) (fun _ i => s.size - (intOf i).toNat)
      case atStart => exact ⟨0, Nat.zero_le _, rfl, rfl, rfl⟩
      case round =>
        obtain ⟨k, hk, rfl, rfl, ht⟩ := hrel
        have HT := Lib.hid ht; clear ht
        by_cases hlt : k < s.size
        · cases hm : digI (s[k].toNat : Int)
          · have HA := Lib.hid (lenB_not (all_not s digB k hlt hm))
            rcases dig_no hm with h1 | ⟨h1, h2⟩
            all_goals
              clear hm
              go_wp2_with fail
              go_ret2
              exact ⟨by unfold numD; rw [HA.out]; rfl, rfl⟩
          · have HA := Lib.hid (all_snoc s digB k hlt HT.out hm)
            have HD : Hid (decV (s.data.toList.take (k + 1)) = 10 * decV (s.data.toList.take k) + (s[k].toNat - 48)) := by show _ = _; rw [take_snoc s k hlt, decV_snoc]
            have hb := decV_small HT.out (by omega)
            obtain ⟨h1, h2⟩ := dig_yes hm
            have hc1 : 48 ≤ (s[k].toNat : Int) := by omega
            have hc2 : (s[k].toNat : Int) ≤ 57 := by omega
            clear hm
            generalize decV (s.data.toList.take k) = N at *
            go_wp2_with fail
            go_round
            case rel => exact ⟨k + 1, by omega, by go_num, by rw [HD.out]; simp only [Value.int.injEq, true_and]; omega, HA.out⟩
            case measure => simp [intOf]; omega
        · have HA : Hid (lenB s.data.toList = true) := by
            have h := HT.out
            rw [take_all hlt] at h
            show _ = _
            rw [lenB_all h, decide_eq_true (by omega), decide_eq_true (by omega)]; rfl
          have HE : Hid (s.data.toList.take k = s.data.toList) := take_all hlt
          go_wp2_with fail
          go_ret2
          exact ⟨by unfold numD; rw [HA.out, HE.out]; rfl, rfl⟩
theorem rnumber_l (x : List UInt8) (w : World) (h : x.length ≤ 4294967296) : Calls Tryd.prog 39 #[.string (bs x)] w fun e w' => e = .returned (.tuple #[.int .i64 (numD x), .bool (lenB x)]) ∧ w = w' := by
  have := rnumber_any (bs x) w (by rw [bs_size]; exact h)
  rwa [bs_data] at this

theorem rsplit44 (x : List UInt8) (w : World) (h : x.length ≤ 4294967290) : Calls Tryd.prog 53 #[.string (bs x), .int .u8 44] w (SplitPost x 44 w) := by
  have := rsplit_any (bs x) 44 w (by rw [bs_size]; exact h)
  rwa [bs_data] at this
theorem amiss_at {vs : List (List UInt8)} {k : Nat} (h : k < vs.length) (he : splitE vs[k] 44 ≠ 0) : amissB vs = true := List.any_eq_true.2 ⟨vs[k], List.getElem_mem h, bne_iff_ne.2 he⟩
/-- what is handed back by pieces: nothing where a value has an error -/
def piecesL (vs : List (List UInt8)) : List (List UInt8) := if amissB vs then [] else elemsL vs
set_option maxRecDepth 100000 in
set_option maxHeartbeats 1000000 in
theorem pieces_any (v : Value) (l : List Fld) (n : List UInt8) (w : World) (h : FL w v l) (hs : smallF l) (hl : l.length ≤ 1048576) (hn : n.length ≤ 4294967296) (hv : ∀ x ∈ valsL l n, x.length ≤ 4294967290) :
    Calls Tryd.prog 37 #[v, .string (bs n)] w fun e w' => ∃ v', e = .returned (.tuple #[v', .bool (!amissB (valsL l n) && decide (0 < (elemsL (valsL l n)).length))]) ∧ SL w' v' (piecesL (valsL l n)) ∧ Below w.heap.size w w' := by
  have hvl : (valsL l n).length ≤ 1048576 := Nat.le_trans (vals_len l n) hl
  have HVA := Lib.hid (rvalues_any v l n w h hs hl hn)
  have HV := Lib.hid hv; clear hv h
  generalize valsL l n = vs at *
  go_enter Tryd.func37, Tryd.ntmps37
  go_wp2_with fail
  refine HVA.out.mono ?_
  rintro e w1 ⟨v1, rfl, ho1, hb1⟩
  have HO1 := Lib.hid ho1.sl; have HB1 := Lib.hid hb1; clear ho1 hb1 HVA
  obtain ⟨A1, c1, rfl⟩ := HO1.out.form
  go_wp2_with fail
  go_loopw [6, 8] (fun o i wr => ∃ k : Nat, k ≤ vs.length ∧ i = .int .i64 k ∧ amissB (vs.take k) = false ∧ ownS wr w1.heap.size o (elemsL (vs.take k)) ∧ Below w1.heap.size w1 wr) (fun _ i _ => vs.length - (intOf i).toNat)
  case atStart => exact ⟨0, Nat.zero_le _, rfl, rfl, ownS_nil _ _, Below.refl _ _⟩
  case round =>
    obtain ⟨k, hk, rfl, ha, ho, hb⟩ := hrel
    have HA := Lib.hid ha; have HO := Lib.hid ho; have HB := Lib.hid hb; clear ha ho hb
    by_cases hlt : k < vs.length
    · obtain ⟨b, off, rfl, _, hc⟩ := (HO1.out.bel HB.out).get k hlt
      have HES := Lib.hid (elems_snoc hlt); have HAS := Lib.hid (amiss_snoc hlt)
      have HAT := Lib.hid (amiss_at hlt)
      have HX := Lib.hid (HV.out _ (List.getElem_mem hlt))
      have HLN : Hid ((elemsL (vs.take k)).length + (splitL vs[k] 44).length ≤ 4294967296) := by
        have h1 := elems_len (vs.take k); have h2 := splitF_len vs[k] 44
        have h3 : (vs.take k).length ≤ vs.length := List.length_take_le' _ _
        show _ ≤ _; omega
      generalize vs[k] = x at *
      have hsp := rsplit44 x wr HX.out
      unfold SplitPost at hsp
      by_cases he : splitE x 44 = 0
      · rw [he] at hsp
        have HSP := Lib.hid hsp; clear hsp
        have HAN : Hid (amissB (vs.take (k + 1)) = false) := by show _ = _; rw [HAS.out, HA.out, he]; rfl
        clear he HAT HAS
        generalize splitL x 44 = M at *
        go_wp2_with fail
        refine HSP.out.mono ?_
        rintro e w2 ⟨v2, rfl, ho2, hb2⟩
        have HO2 := Lib.hid ho2.sl; have HOw := Lib.hid (HO.out.bel hb2); have HB2 := Lib.hid (HB.out.trans (hb2.mono HB.out.size)); clear ho2 hb2
        go_wp2_with (at_builtin; refine wpList_appSS rfl (.tmp 30) (.tmp 31) rfl w1.heap.size w1.heap.size _ _ _ _ rfl HOw.out HB2.out (Nat.le_refl _) HB2.out.size rfl HO2.out HLN.out ?_; intro v5 w5 HO5 HB5 _ _)
        go_roundw
        case rel => exact ⟨k + 1, by omega, by go_num, HAN.out, by rw [HES.out]; exact HO5.out, HB5.out⟩
        case measure => simp [intOf]; omega
      · have hd : (splitE x 44 != 0) = true := bne_iff_ne.2 he
        have HR : Hid (amissB vs = true) := HAT.out he
        have HSP := Lib.hid hsp; clear hsp
        go_wp2_with fail
        refine HSP.out.mono ?_
        rintro e w2 ⟨v2, rfl, ho2, hb2⟩
        have HB2 := Lib.hid (HB.out.trans (hb2.mono HB.out.size)); clear ho2 hb2
        go_wp2_with fail
        go_ret2
        exact ⟨.slice none 0 0, by rw [HR.out]; rfl, by unfold piecesL; rw [HR.out]; exact SL_nil _, HB1.out.trans (HB2.out.mono HB1.out.size)⟩
    · have HT : Hid (vs.take k = vs) := List.take_of_length_le (by omega)
      have ha := HA.out
      have ho := HO.out
      rw [HT.out] at ha ho
      have HA := Lib.hid ha; have HO := Lib.hid ho; clear ha ho
      obtain ⟨A5, c5, rfl⟩ := HO.out.form
      go_wp2_with fail
      go_ret2
      refine ⟨.slice A5 (elemsL vs).length c5, ?_, ?_, HB1.out.trans (HB.out.mono HB1.out.size)⟩
      · rw [HA.out]; simp
      · unfold piecesL; rw [HA.out]; exact HO.out.sl
end Go.Proofs.YtnhkebbmgiokbaaDoor
