/- The document's number; the elements of a name's values, by the document. -/
import Derived.Test.YtgkjjmcjlobbpaaGreatDoorKFieldsG
import Derived.Test.YtgkjjmcjlobbpaaGreatDoorKFramingE
namespace Go.Proofs.YtgkjjmcjlobbpaaGreatDoor
open Go.RowKit Go.Shelf

theorem decV_snoc (l : List UInt8) (c : UInt8) : decV (l ++ [c]) = 10 * decV l + (c.toNat - 48) := by unfold decV; rw [List.foldl_append]; rfl
theorem decF_pow : ∀ (l : List UInt8) (n : Nat), l.all digB = true → l.foldl (fun n c => 10 * n + (c.toNat - 48)) n + 1 ≤ (n + 1) * 10 ^ l.length
  | [], n, _ => by simp
  | c :: r, n, h => by
    rw [List.all_cons, Bool.and_eq_true] at h
    have g := digB_iff.1 h.1
    have h1 := decF_pow r (10 * n + (c.toNat - 48)) h.2
    have h2 : (10 * n + (c.toNat - 48) + 1) * 10 ^ r.length ≤ ((n + 1) * 10) * 10 ^ r.length := Nat.mul_le_mul_right _ (by omega)
    rw [List.foldl_cons, List.length_cons, Nat.pow_succ, Nat.mul_comm (10 ^ r.length) 10, ← Nat.mul_assoc]
    exact Nat.le_trans h1 h2
theorem decV_pow (l : List UInt8) (h : l.all digB = true) : decV l < 10 ^ l.length := by
  have := decF_pow l 0 h
  unfold decV; omega
theorem decV_small {s : ByteArray} {k : Nat} (h : (s.data.toList.take k).all digB = true) (hk : k ≤ 17) : decV (s.data.toList.take k) < 100000000000000000 := by
  have h1 := decV_pow _ h
  have h2 : (s.data.toList.take k).length ≤ 17 := Nat.le_trans (List.length_take_le _ _) hk
  exact Nat.lt_of_lt_of_le h1 (Nat.pow_le_pow_right (by decide) h2)
/-- a number by the document: 0 where it is none -/
def numD (l : List UInt8) : Int := if lenB l then decV l else 0
set_option maxRecDepth 100000 in
set_option maxHeartbeats 1000000 in
theorem rnumber_any (s : ByteArray) (w : World) (hs : s.size ≤ 4294967296) :
    Calls Tryz.prog 119 #[.string s] w fun e w' => e = .returned (.tuple #[.int .i64 (numD s.data.toList), .bool (lenB s.data.toList)]) ∧ w = w' := by
  have HZ := Lib.hid (size_len s)
  by_cases h0 : s.size = 0
  · have HR : Hid (lenB s.data.toList = false) := by show _ = _; unfold lenB; rw [decide_eq_false (by have := HZ.out; omega)]; rfl
    go_enter Tryz.func119, Tryz.ntmps119
    go_wp2_with fail
    go_ret2
    exact ⟨by unfold numD; rw [HR.out]; rfl, rfl⟩
  · have h0' : ((s.size : Int) == 0) = false := by rw [beq_eq_false_iff_ne]; omega
    by_cases h18 : 18 < (s.size : Int)
    · have HR : Hid (lenB s.data.toList = false) := by show _ = _; unfold lenB; rw [decide_eq_false (by have := HZ.out; omega)]; rfl
      go_enter Tryz.func119, Tryz.ntmps119
      go_wp2_with fail
      go_ret2
      exact ⟨by unfold numD; rw [HR.out]; rfl, rfl⟩
    · have hsz : s.size ≤ 18 := by omega
      go_enter Tryz.func119, Tryz.ntmps119
      go_wp2_with fail
      go_loop [4, 5] (fun n i => ∃ k : Nat, k ≤ s.size ∧ i = .int .i64 k ∧ n = .int .i64 (decV (s.data.toList.take k)) ∧ (s.data.toList.take k).all digB = true) (fun _ i => s.size - (intOf i).toNat)
      case atStart => exact ⟨0, Nat.zero_le _, rfl, rfl, rfl⟩
      case round =>
        obtain ⟨k, hk, rfl, rfl, ht⟩ := hrel
        have HT := Lib.hid ht; clear ht
        by_cases hlt : k < s.size
        · cases hm : digI (s[k].toNat : Int)
          · have HA := Lib.hid (lenB_not (all_not s digB k hlt hm))
            rcases dig_no hm with h1 | ⟨h1, h2⟩
            all_goals
              clear hm
              go_wp2_with fail
              go_ret2
              exact ⟨by unfold numD; rw [HA.out]; rfl, rfl⟩
          · have HA := Lib.hid (all_snoc s digB k hlt HT.out hm)
            have HD : Hid (decV (s.data.toList.take (k + 1)) = 10 * decV (s.data.toList.take k) + (s[k].toNat - 48)) := by show _ = _; rw [take_snoc s k hlt, decV_snoc]
            have hb := decV_small HT.out (by omega)
            obtain ⟨h1, h2⟩ := dig_yes hm
            have hc1 : 48 ≤ (s[k].toNat : Int) := by omega
            have hc2 : (s[k].toNat : Int) ≤ 57 := by omega
            clear hm
            generalize decV (s.data.toList.take k) = N at *
            go_wp2_with fail
            go_round
            case rel => exact ⟨k + 1, by omega, by go_num, by rw [HD.out]; simp only [Value.int.injEq, true_and]; omega, HA.out⟩
            case measure => simp [intOf]; omega
        · have HA : Hid (lenB s.data.toList = true) := by
            have h := HT.out
            rw [take_all hlt] at h
            show _ = _
            rw [lenB_all h, decide_eq_true (by omega), decide_eq_true (by omega)]; rfl
          have HE : Hid (s.data.toList.take k = s.data.toList) := take_all hlt
          go_wp2_with fail
          go_ret2
          exact ⟨by unfold numD; rw [HA.out, HE.out]; rfl, rfl⟩
theorem rnumber_l (x : List UInt8) (w : World) (h : x.length ≤ 4294967296) : Calls Tryz.prog 119 #[.string (bs x)] w fun e w' => e = .returned (.tuple #[.int .i64 (numD x), .bool (lenB x)]) ∧ w = w' := by
  have := rnumber_any (bs x) w (by rw [bs_size]; exact h)
  rwa [bs_data] at this

theorem rsplit44 (x : List UInt8) (w : World) (h : x.length ≤ 4294967290) : Calls Tryz.prog 153 #[.string (bs x), .int .u8 44] w (SplitPost x 44 w) := by
  have := rsplit_any (bs x) 44 w (by rw [bs_size]; exact h)
  rwa [bs_data] at this
theorem amiss_at {vs : List (List UInt8)} {k : Nat} (h : k < vs.length) (he : splitE vs[k] 44 ≠ 0) : amissB vs = true := List.any_eq_true.2 ⟨vs[k], List.getElem_mem h, bne_iff_ne.2 he⟩
/-- what is handed back by pieces: nothing where a value has an error -/
def piecesL (vs : List (List UInt8)) : List (List UInt8) := if amissB vs then [] else elemsL vs
set_option maxRecDepth 100000 in
set_option maxHeartbeats 1000000 in
theorem pieces_any (v : Value) (l : List Fld) (n : List UInt8) (w : World) (h : FL w v l) (hs : smallF l) (hl : l.length ≤ 1048576) (hn : n.length ≤ 4294967296) (hv : ∀ x ∈ valsL l n, x.length ≤ 4294967290) :
    Calls Tryz.prog 117 #[v, .string (bs n)] w fun e w' => ∃ v', e = .returned (.tuple #[v', .bool (!amissB (valsL l n) && decide (0 < (elemsL (valsL l n)).length))]) ∧ SL w' v' (piecesL (valsL l n)) ∧ Below w.heap.size w w' := by
  have hvl : (valsL l n).length ≤ 1048576 := Nat.le_trans (vals_len l n) hl
  have HVA := Lib.hid (rvalues_any v l n w h hs hl hn)
  have HV := Lib.hid hv; clear hv h
  generalize valsL l n = vs at *
  go_enter Tryz.func117, Tryz.ntmps117
  go_wp2_with fail
  refine HVA.out.mono ?_
  rintro e w1 ⟨v1, rfl, ho1, hb1⟩
  have HO1 := Lib.hid ho1.sl; have HB1 := Lib.hid hb1; clear ho1 hb1 HVA
  obtain ⟨A1, c1, rfl⟩ := HO1.out.form
  go_wp2_with fail
  go_loopw [6, 8] (fun o i wr => ∃ k : Nat, k ≤ vs.length ∧ i = .int .i64 k ∧ amissB (vs.take k) = false ∧ ownS wr w1.heap.size o (elemsL (vs.take k)) ∧ Below w1.heap.size w1 wr) (fun _ i _ => vs.length - (intOf i).toNat)
  case atStart => exact ⟨0, Nat.zero_le _, rfl, rfl, ownS_nil _ _, Below.refl _ _⟩
  case round =>
    obtain ⟨k, hk, rfl, ha, ho, hb⟩ := hrel
    have HA := Lib.hid ha; have HO := Lib.hid ho; have HB := Lib.hid hb; clear ha ho hb
    by_cases hlt : k < vs.length
    · obtain ⟨b, off, rfl, _, hc⟩ := (HO1.out.bel HB.out).get k hlt
      have HES := Lib.hid (elems_snoc hlt); have HAS := Lib.hid (amiss_snoc hlt)
      have HAT := Lib.hid (amiss_at hlt)
      have HX := Lib.hid (HV.out _ (List.getElem_mem hlt))
      have HLN : Hid ((elemsL (vs.take k)).length + (splitL vs[k] 44).length ≤ 4294967296) := by
        have h1 := elems_len (vs.take k); have h2 := splitF_len vs[k] 44
        have h3 : (vs.take k).length ≤ vs.length := List.length_take_le' _ _
        show _ ≤ _; omega
      generalize vs[k] = x at *
      have hsp := rsplit44 x wr HX.out
      unfold SplitPost at hsp
      by_cases he : splitE x 44 = 0
      · rw [he] at hsp
        have HSP := Lib.hid hsp; clear hsp
        have HAN : Hid (amissB (vs.take (k + 1)) = false) := by show _ = _; rw [HAS.out, HA.out, he]; rfl
        clear he HAT HAS
        generalize splitL x 44 = M at *
        go_wp2_with fail
        refine HSP.out.mono ?_
        rintro e w2 ⟨v2, rfl, ho2, hb2⟩
        have HO2 := Lib.hid ho2.sl; have HOw := Lib.hid (HO.out.bel hb2); have HB2 := Lib.hid (HB.out.trans (hb2.mono HB.out.size)); clear ho2 hb2
        go_wp2_with (at_builtin; refine wpList_appSS rfl (.tmp 30) (.tmp 31) rfl w1.heap.size w1.heap.size _ _ _ _ rfl HOw.out HB2.out (Nat.le_refl _) HB2.out.size rfl HO2.out HLN.out ?_; intro v5 w5 HO5 HB5 _ _)
        go_roundw
        case rel => exact ⟨k + 1, by omega, by go_num, HAN.out, by rw [HES.out]; exact HO5.out, HB5.out⟩
        case measure => simp [intOf]; omega
      · have hd : (splitE x 44 != 0) = true := bne_iff_ne.2 he
        have HR : Hid (amissB vs = true) := HAT.out he
        have HSP := Lib.hid hsp; clear hsp
        go_wp2_with fail
        refine HSP.out.mono ?_
        rintro e w2 ⟨v2, rfl, ho2, hb2⟩
        have HB2 := Lib.hid (HB.out.trans (hb2.mono HB.out.size)); clear ho2 hb2
        go_wp2_with fail
        go_ret2
        exact ⟨.slice none 0 0, by rw [HR.out]; rfl, by unfold piecesL; rw [HR.out]; exact SL_nil _, HB1.out.trans (HB2.out.mono HB1.out.size)⟩
    · have HT : Hid (vs.take k = vs) := List.take_of_length_le (by omega)
      have ha := HA.out
      have ho := HO.out
      rw [HT.out] at ha ho
      have HA := Lib.hid ha; have HO := Lib.hid ho; clear ha ho
      obtain ⟨A5, c5, rfl⟩ := HO.out.form
      go_wp2_with fail
      go_ret2
      refine ⟨.slice A5 (elemsL vs).length c5, ?_, ?_, HB1.out.trans (HB.out.mono HB1.out.size)⟩
      · rw [HA.out]; simp
      · unfold piecesL; rw [HA.out]; exact HO.out.sl
end Go.Proofs.YtgkjjmcjlobbpaaGreatDoor

/- What the fields say by the document: of. -/
namespace Go.Proofs.YtgkjjmcjlobbpaaGreatDoor
open Go.RowKit Go.Shelf

/-- what is handed back by of -/
def ofV (a b : List (List UInt8)) : Value := .tuple #[.agg #[.int .i64 (endK a b), .int .i64 (endN a b)], .bool (!(a.isEmpty && b.isEmpty)), .int .i64 (endE a b)]
def ofT (k n : Int) (s : Bool) (e : Int) : Value := .tuple #[.agg #[.int .i64 k, .int .i64 n], .bool s, .int .i64 e]
theorem emp_yes {l : List (List UInt8)} (h : l.length = 0) : l.isEmpty = true := by rw [List.isEmpty_iff]; exact List.eq_nil_of_length_eq_zero h
theorem emp_no {l : List (List UInt8)} (h : l.length ≠ 0) : l.isEmpty = false := by cases l with | nil => exact absurd rfl h | cons x r => rfl
theorem ofV_err {a b : List (List UInt8)} {e : Int} (h : endE a b = e) (he : e ≠ 0) (hs : (a.isEmpty && b.isEmpty) = false) : ofV a b = ofT 0 0 true e := by
  have hn : ¬ endE a b = 0 := by rw [h]; exact he
  unfold ofV ofT endK endN
  rw [if_neg hn, if_neg (fun c => hn c.1), hs, h]; rfl
theorem ofV_none {a b : List (List UInt8)} (ha : a.length = 0) (hb : b.length = 0) : ofV a b = ofT 0 0 false 0 := by
  have h1 := List.eq_nil_of_length_eq_zero ha; have h2 := List.eq_nil_of_length_eq_zero hb
  subst h1; subst h2; rfl
theorem ofV_both {a b : List (List UInt8)} (ha : a.length ≠ 0) (hb : b.length ≠ 0) : ofV a b = ofT 0 0 true 8 := by
  refine ofV_err ?_ (by decide) (by rw [emp_no ha]; rfl)
  unfold endE; rw [emp_no ha, emp_no hb]; rfl
theorem endE_code {a b : List (List UInt8)} (ha : a.length = 0) (hb : b.length ≠ 0) : endE a b = if amissB b || !((elemsL b).length == 1 && chB (headE b)) then 4 else 0 := by
  unfold endE; rw [emp_yes ha, emp_no hb]; rfl
theorem ofV_code4 {a b : List (List UInt8)} (ha : a.length = 0) (hb : b.length ≠ 0) (h : (amissB b || !((elemsL b).length == 1 && chB (headE b))) = true) : ofV a b = ofT 0 0 true 4 :=
  ofV_err (by rw [endE_code ha hb, h]; rfl) (by decide) (by rw [emp_no hb, Bool.and_false])
theorem ofV_code {a b : List (List UInt8)} (ha : a.length = 0) (hb : b.length ≠ 0) (h : (amissB b || !((elemsL b).length == 1 && chB (headE b))) = false) : ofV a b = ofT 2 0 true 0 := by
  have h0 : endE a b = 0 := by rw [endE_code ha hb, h]; rfl
  obtain ⟨h1, h2, h3⟩ := end_one h0 (emp_no hb)
  unfold ofV ofT
  rw [h0, h2, h3, emp_no hb, Bool.and_false]; rfl
theorem endE_len {a b : List (List UInt8)} (ha : a.length ≠ 0) (hb : b.length = 0) : endE a b = if amissB a || (elemsL a).isEmpty || !(elemsL a).all lenB then 4 else if unlikeB a then 8 else 0 := by
  unfold endE; rw [emp_no ha, emp_yes hb]; rfl
theorem ofV_len4 {a b : List (List UInt8)} (ha : a.length ≠ 0) (hb : b.length = 0) (h : (amissB a || (elemsL a).isEmpty || !(elemsL a).all lenB) = true) : ofV a b = ofT 0 0 true 4 :=
  ofV_err (by rw [endE_len ha hb, h]; rfl) (by decide) (by rw [emp_no ha]; rfl)
theorem ofV_len8 {a b : List (List UInt8)} (ha : a.length ≠ 0) (hb : b.length = 0) (h : (amissB a || (elemsL a).isEmpty || !(elemsL a).all lenB) = false) (hu : unlikeB a = true) : ofV a b = ofT 0 0 true 8 :=
  ofV_err (by rw [endE_len ha hb, h, hu]; rfl) (by decide) (by rw [emp_no ha]; rfl)
theorem ofV_len {a b : List (List UInt8)} (ha : a.length ≠ 0) (hb : b.length = 0) (h : (amissB a || (elemsL a).isEmpty || !(elemsL a).all lenB) = false) (hu : unlikeB a = false) : ofV a b = ofT 1 (decV (headE a)) true 0 := by
  have h0 : endE a b = 0 := by rw [endE_len ha hb, h, hu]; rfl
  have hK : endK a b = 1 := by unfold endK; rw [if_pos h0, emp_yes hb, emp_no ha]; rfl
  have hN : endN a b = decV (headE a) := by unfold endN; rw [if_pos ⟨h0, emp_no ha⟩]
  unfold ofV ofT
  rw [hK, hN, h0, emp_no ha]; rfl
theorem headD_at {E : List (List UInt8)} (h : 0 < E.length) : E.headD [] = E[0] := by cases E with | nil => simp at h | cons x r => rfl
theorem chB_eq (x : List UInt8) : chB x = (lower x == [99, 104, 117, 110, 107, 101, 100]) := by unfold chB sameN; rw [show lower chN = [99, 104, 117, 110, 107, 101, 100] from by decide]
theorem numD_len {s : List UInt8} (h : lenB s = true) : numD s = decV s := by unfold numD; rw [if_pos h]
theorem unlike_eq {a : List (List UInt8)} (h : (elemsL a).all lenB = true) : unlikeB a = (elemsL a).any fun s => numD s != numD (headE a) := by
  unfold unlikeB
  by_cases hn : elemsL a = []
  · rw [hn]; rfl
  · rw [List.all_eq_true] at h
    have hh := numD_len (h _ (head_mem hn))
    refine Bool.eq_iff_iff.2 ?_
    rw [List.any_eq_true, List.any_eq_true]
    constructor
    · rintro ⟨s, hs, he⟩
      refine ⟨s, hs, ?_⟩
      rw [bne_iff_ne] at he ⊢
      rw [hh, numD_len (h s hs)]
      omega
    · rintro ⟨s, hs, he⟩
      refine ⟨s, hs, ?_⟩
      rw [bne_iff_ne] at he ⊢
      rw [hh, numD_len (h s hs)] at he
      omega

/-- the values of a name, and their elements, in every world behind w -/
def ValsOf (w : World) (v n : Value) (a : List (List UInt8)) : Prop := ∀ W, Below w.heap.size w W → Calls Tryz.prog 116 #[v, n] W (RetS W a)
def PiecesOf (w : World) (v n : Value) (a : List (List UInt8)) : Prop := ∀ W, Below w.heap.size w W → Calls Tryz.prog 117 #[v, n] W fun e w' =>
  ∃ v', e = .returned (.tuple #[v', .bool (!amissB a && decide (0 < (elemsL a).length))]) ∧ SL w' v' (piecesL a) ∧ Below W.heap.size W w'
def clS : Value := .string ⟨#[99, 111, 110, 116, 101, 110, 116, 45, 108, 101, 110, 103, 116, 104]⟩
def teS : Value := .string ⟨#[116, 114, 97, 110, 115, 102, 101, 114, 45, 101, 110, 99, 111, 100, 105, 110, 103]⟩
theorem ok_yes {a : List (List UInt8)} (h : (!amissB a && decide (0 < (elemsL a).length)) = true) : amissB a = false ∧ 0 < (elemsL a).length ∧ piecesL a = elemsL a := by
  rw [Bool.and_eq_true, Bool.not_eq_true', decide_eq_true_eq] at h
  exact ⟨h.1, h.2, by unfold piecesL; rw [h.1]; rfl⟩
theorem ok_no {a : List (List UInt8)} (h : (!amissB a && decide (0 < (elemsL a).length)) = false) : amissB a = true ∨ (elemsL a).length = 0 := by
  rw [Bool.and_eq_false_iff, Bool.not_eq_false', decide_eq_false_iff_not] at h
  rcases h with h | h
  · exact .inl h
  · exact .inr (by omega)

section
variable (v : Value) (a b : List (List UInt8)) (w : World)
set_option maxRecDepth 100000 in
set_option maxHeartbeats 4000000 in
theorem rof_core (ha : ValsOf w v clS a) (hb : ValsOf w v teS b) (pa : PiecesOf w v clS a) (pb : PiecesOf w v teS b) (hEa : ∀ s ∈ elemsL a, s.length ≤ 4294967296) (hEb : ∀ s ∈ elemsL b, s.length ≤ 4294967296) (hla : (elemsL a).length ≤ 4294967296) :
    Calls Tryz.prog 67 #[v] w fun e w' => e = .returned (ofV a b) ∧ Below w.heap.size w w' := by
  have hal : Below w.heap.size w (w.alloc (.cells #[.int .i64 0, .int .i64 0] 77)) := (Below.refl _ _).alloc (Nat.le_refl _) _
  have hbk := blk.new w #[.int .i64 0, .int .i64 0] 77
  unfold ValsOf clS at ha; unfold ValsOf teS at hb; unfold PiecesOf clS at pa; unfold PiecesOf teS at pb
  have HA := Lib.hid ha; have HB := Lib.hid hb; have PA := Lib.hid pa; have PB := Lib.hid pb; have HAL := Lib.hid hal; have HBK := Lib.hid hbk; have HEa := Lib.hid hEa; have HEb := Lib.hid hEb
  clear ha hb pa pb hal hbk hEa hEb
  go_enter Tryz.func67, Tryz.ntmps67
  go_wp2_with fail
  generalize w.alloc (.cells #[.int .i64 0, .int .i64 0] 77) = w1 at *
  refine (HA.out _ HAL.out).mono ?_
  rintro e w2 ⟨v1, rfl, ho1, hb2⟩
  obtain ⟨A1, c1, rfl⟩ := ho1.form
  have HB2 := Lib.hid (HAL.out.trans (hb2.mono HAL.out.size)); have HK2 := Lib.hid (HBK.out.below hb2); clear ho1 hb2
  go_wp2_with fail
  refine (HB.out _ HB2.out).mono ?_
  rintro e w3 ⟨v2, rfl, ho2, hb3⟩
  obtain ⟨A2, c2, rfl⟩ := ho2.form
  have HB3 := Lib.hid (HB2.out.trans (hb3.mono HB2.out.size)); have HK3 := Lib.hid (HK2.out.below hb3); clear ho2 hb3 HA HB HB2 HK2 HAL HBK
  have hput : ∀ (W : World) (k n : Int), Below w.heap.size w W → Below w.heap.size w ((W.setCell ⟨w.heap.size, 0, none⟩ (.int .i64 k)).setCell ⟨w.heap.size, 1, none⟩ (.int .i64 n)) :=
    fun W k n h => (h.setCell (p := ⟨w.heap.size, 0, none⟩) (Nat.le_refl w.heap.size) _).setCell (p := ⟨w.heap.size, 1, none⟩) (Nat.le_refl w.heap.size) _
  have HPUT := Lib.hid hput; clear hput
  by_cases ha0 : a.length = 0
  · have la : ((a.length : Int) == 0) = true := by rw [beq_iff_eq]; omega
    have la2 : ¬ 0 < (a.length : Int) := by omega
    have HA0 := Lib.hid ha0; clear ha0
    by_cases hb0 : b.length = 0
    · have lb : ((b.length : Int) == 0) = true := by rw [beq_iff_eq]; omega
      have HR := Lib.hid (ofV_none HA0.out hb0); clear hb0
      obtain ⟨⟨s1, s2⟩, ⟨s3, s4⟩, m1, m2⟩ := HK3.out.asks2 (.int .i64 0) (.int .i64 0)
      go_wp2_with fail
      exact bodyPost_ret (v := ofT 0 0 false 0) (by simp [results, Tryz.results67, go_sem, m1, m2, ofT]) rfl ⟨by rw [HR.out], HPUT.out _ _ _ HB3.out⟩
    · have lb : ((b.length : Int) == 0) = false := by rw [beq_eq_false_iff_ne]; omega
      have lb2 : 0 < (b.length : Int) := by omega
      have HB0 := Lib.hid hb0; clear hb0
      have hpb := PB.out _ HB3.out
      cases hok : (!amissB b && decide (0 < (elemsL b).length))
      · rw [hok] at hpb
        have HPB := Lib.hid hpb
        have HR : Hid (ofV a b = ofT 0 0 true 4) := ofV_code4 HA0.out HB0.out (by
          rcases ok_no hok with h | h
          · rw [h]; rfl
          · rw [h]; simp)
        clear hpb hok
        go_wp2_with fail
        refine HPB.out.mono ?_
        rintro e w4 ⟨v4, rfl, hs4, hb4⟩
        obtain ⟨A4, c4, rfl⟩ := hs4.form
        have HB4 := Lib.hid (HB3.out.trans (hb4.mono HB3.out.size)); have HK4 := Lib.hid (HK3.out.below hb4); clear hs4 hb4
        obtain ⟨⟨s1, s2⟩, ⟨s3, s4⟩, m1, m2⟩ := HK4.out.asks2 (.int .i64 0) (.int .i64 0)
        go_wp2_with fail
        exact bodyPost_ret (v := ofT 0 0 true 4) (by simp [results, Tryz.results67, go_sem, m1, m2, ofT]) rfl ⟨by rw [HR.out], HPUT.out _ _ _ HB4.out⟩
      · rw [hok] at hpb
        obtain ⟨k1, k2, k3⟩ := ok_yes hok
        rw [k3] at hpb
        have HPB := Lib.hid hpb; clear hpb hok k3
        by_cases h1 : (elemsL b).length = 1
        · have l1 : (((elemsL b).length : Int) != 1) = false := by rw [bne_eq_false_iff_eq]; omega
          have hd : headE b = (elemsL b)[0] := headD_at k2
          have HX := Lib.hid (HEb.out _ (List.getElem_mem k2))
          have HCH : Hid (∀ q, chB (elemsL b)[0] = q → ofV a b = if q then ofT 2 0 true 0 else ofT 0 0 true 4) := by
            intro q hq
            have h2 : (amissB b || !((elemsL b).length == 1 && chB (headE b))) = !q := by rw [k1, h1, hd, hq]; simp
            cases q
            · exact ofV_code4 HA0.out HB0.out h2
            · exact ofV_code HA0.out HB0.out h2
          clear hd h1
          go_wp2_with fail
          refine HPB.out.mono ?_
          rintro e w4 ⟨v4, rfl, hs4, hb4⟩
          obtain ⟨A4, c4, rfl⟩ := hs4.form
          have HB4 := Lib.hid (HB3.out.trans (hb4.mono HB3.out.size)); have HK4 := Lib.hid (HK3.out.below hb4)
          obtain ⟨g, off, rfl, hg, hc⟩ := hs4.get 0 k2
          rw [Nat.add_zero] at hc
          clear hs4 hb4
          generalize (elemsL b)[0] = x at *
          have k2' : 0 < ((elemsL b).length : Int) := by omega
          go_wp2_with fail
          refine (rlower_l x _ (by have := HX.out; omega)).mono ?_
          rintro e w5 ⟨rfl, hb5⟩
          have HB5 := Lib.hid (HB4.out.trans (hb5.mono HB4.out.size)); have HK5 := Lib.hid (HK4.out.below hb5); clear hb5 hc
          cases hq : chB x
          · have hq2 : ((bs (lower x)).toList == [99, 104, 117, 110, 107, 101, 100]) = false := by rw [Lib.toList_data, bs_data, ← chB_eq]; exact hq
            have HR := Lib.hid (HCH.out _ hq); clear hq
            obtain ⟨⟨s1, s2⟩, ⟨s3, s4⟩, m1, m2⟩ := HK5.out.asks2 (.int .i64 0) (.int .i64 0)
            go_wp2_with fail
            exact bodyPost_ret (v := ofT 0 0 true 4) (by simp [results, Tryz.results67, go_sem, m1, m2, ofT]) rfl ⟨by rw [HR.out]; rfl, HPUT.out _ _ _ HB5.out⟩
          · have hq2 : ((bs (lower x)).toList == [99, 104, 117, 110, 107, 101, 100]) = true := by rw [Lib.toList_data, bs_data, ← chB_eq]; exact hq
            have HR := Lib.hid (HCH.out _ hq); clear hq
            obtain ⟨⟨s1, s2⟩, ⟨s3, s4⟩, m1, m2⟩ := HK5.out.asks2 (.int .i64 2) (.int .i64 0)
            go_wp2_with fail
            exact bodyPost_ret (v := ofT 2 0 true 0) (by simp [results, Tryz.results67, go_sem, m1, m2, ofT]) rfl ⟨by rw [HR.out]; rfl, HPUT.out _ _ _ HB5.out⟩
        · have l1 : (((elemsL b).length : Int) != 1) = true := bne_iff_ne.2 (by omega)
          have HR : Hid (ofV a b = ofT 0 0 true 4) := ofV_code4 HA0.out HB0.out (by
            have : ((elemsL b).length == 1) = false := by rw [beq_eq_false_iff_ne]; exact h1
            rw [this]; simp)
          clear h1
          go_wp2_with fail
          refine HPB.out.mono ?_
          rintro e w4 ⟨v4, rfl, hs4, hb4⟩
          obtain ⟨A4, c4, rfl⟩ := hs4.form
          have HB4 := Lib.hid (HB3.out.trans (hb4.mono HB3.out.size)); have HK4 := Lib.hid (HK3.out.below hb4); clear hs4 hb4
          obtain ⟨⟨s1, s2⟩, ⟨s3, s4⟩, m1, m2⟩ := HK4.out.asks2 (.int .i64 0) (.int .i64 0)
          go_wp2_with fail
          exact bodyPost_ret (v := ofT 0 0 true 4) (by simp [results, Tryz.results67, go_sem, m1, m2, ofT]) rfl ⟨by rw [HR.out], HPUT.out _ _ _ HB4.out⟩
  · have la : ((a.length : Int) == 0) = false := by rw [beq_eq_false_iff_ne]; omega
    have la2 : 0 < (a.length : Int) := by omega
    have HA0 := Lib.hid ha0; clear ha0
    by_cases hb0 : b.length = 0
    · have lb2 : ¬ 0 < (b.length : Int) := by omega
      have HB0 := Lib.hid hb0; clear hb0
      have hpa := PA.out _ HB3.out
      cases hok : (!amissB a && decide (0 < (elemsL a).length))
      · rw [hok] at hpa
        have HPA := Lib.hid hpa
        have HR : Hid (ofV a b = ofT 0 0 true 4) := ofV_len4 HA0.out HB0.out (by
          rcases ok_no hok with h | h
          · rw [h]; rfl
          · rw [emp_yes h]; simp)
        clear hpa hok
        go_wp2_with fail
        refine HPA.out.mono ?_
        rintro e w4 ⟨v4, rfl, hs4, hb4⟩
        obtain ⟨A4, c4, rfl⟩ := hs4.form
        have HB4 := Lib.hid (HB3.out.trans (hb4.mono HB3.out.size)); have HK4 := Lib.hid (HK3.out.below hb4); clear hs4 hb4
        obtain ⟨⟨s1, s2⟩, ⟨s3, s4⟩, m1, m2⟩ := HK4.out.asks2 (.int .i64 0) (.int .i64 0)
        go_wp2_with fail
        exact bodyPost_ret (v := ofT 0 0 true 4) (by simp [results, Tryz.results67, go_sem, m1, m2, ofT]) rfl ⟨by rw [HR.out], HPUT.out _ _ _ HB4.out⟩
      · rw [hok] at hpa
        obtain ⟨k1, k2, k3⟩ := ok_yes hok
        rw [k3] at hpa
        have HPA := Lib.hid hpa; clear hpa hok k3
        have hemp : (elemsL a).isEmpty = false := emp_no (by omega)
        have H4 : Hid ((elemsL a).all lenB = false → ofV a b = ofT 0 0 true 4) := fun h => ofV_len4 HA0.out HB0.out (by rw [h]; simp)
        have HU : Hid ((elemsL a).all lenB = true → ∀ q, ((elemsL a).any fun s => numD s != numD (elemsL a)[0]) = q → ofV a b = if q then ofT 0 0 true 8 else ofT 1 (numD (elemsL a)[0]) true 0) := by
          intro h q hq
          have hc : (amissB a || (elemsL a).isEmpty || !(elemsL a).all lenB) = false := by rw [k1, hemp, h]; rfl
          have hh : headE a = (elemsL a)[0] := headD_at k2
          have hu := unlike_eq h
          rw [hh, hq] at hu
          cases q
          · rw [ofV_len HA0.out HB0.out hc hu, hh, numD_len (List.all_eq_true.1 h _ (List.getElem_mem k2))]; rfl
          · rw [ofV_len8 HA0.out HB0.out hc hu]; rfl
        have k2' : 0 < ((elemsL a).length : Int) := by omega
        have HX0 := Lib.hid (HEa.out _ (List.getElem_mem k2))
        clear hemp k1
        go_wp2_with fail
        refine HPA.out.mono ?_
        rintro e w4 ⟨v4, rfl, hs4, hb4⟩
        obtain ⟨A4, c4, rfl⟩ := hs4.form
        have HB4 := Lib.hid (HB3.out.trans (hb4.mono HB3.out.size)); have HK4 := Lib.hid (HK3.out.below hb4)
        obtain ⟨g, off, rfl, hg, hc⟩ := hs4.get 0 k2
        rw [Nat.add_zero] at hc
        have HS4 := Lib.hid hs4
        clear hs4 hb4
        generalize (elemsL a)[0] = x0 at *
        generalize elemsL a = E at *
        go_wp2_with fail
        refine (rnumber_l x0 _ HX0.out).mono ?_
        rintro e w' ⟨rfl, rfl⟩
        clear hc
        go_wp2_with fail
        go_loopw [11, 14] (fun u i wr => ∃ (k : Nat) (q : Bool), k ≤ E.length ∧ i = .int .i64 k ∧ u = .bool q ∧ Hid ((E.take k).all lenB = true ∧ ((E.take k).any fun s => numD s != numD x0) = q) ∧ w4 = wr) (fun _ i _ => E.length - (intOf i).toNat)
        case atStart => exact ⟨0, false, Nat.zero_le _, rfl, rfl, ⟨rfl, rfl⟩, rfl⟩
        case round =>
          obtain ⟨k, q, hk, rfl, rfl, HT, rfl⟩ := hrel
          by_cases hlt : k < E.length
          · obtain ⟨g', off', he2, _, hck⟩ := HS4.out.get k hlt
            obtain ⟨rfl, rfl⟩ : g = g' ∧ off = off' := by simpa using he2
            clear he2
            have HX := Lib.hid (HEa.out _ (List.getElem_mem hlt))
            have HY : Hid (∀ y, lenB E[k] = y → if y then (E.take (k + 1)).all lenB = true ∧ ((E.take (k + 1)).any fun s => numD s != numD x0) = (q || numD E[k] != numD x0) else E.all lenB = false) := by
              intro y hy
              cases y
              · exact all_notL hlt hy
              · refine ⟨all_snocL hlt HT.out.1 hy, ?_⟩
                rw [List.take_succ_eq_append_getElem hlt, List.any_append, HT.out.2]
                simp only [List.any_cons, List.any_nil, Bool.or_false]
            generalize E[k] = x at *
            cases hy : lenB x
            · have HR : Hid (ofV a b = ofT 0 0 true 4) := H4.out (HY.out _ hy)
              have HYY := Lib.hid hy; clear hy
              go_wp2_with fail
              refine (rnumber_l x _ HX.out).mono ?_
              rw [HYY.out]
              rintro e w' ⟨rfl, rfl⟩
              obtain ⟨⟨s1, s2⟩, ⟨s3, s4⟩, m1, m2⟩ := HK4.out.asks2 (.int .i64 0) (.int .i64 0)
              go_wp2_with fail
              exact bodyPost_ret (v := ofT 0 0 true 4) (by simp [results, Tryz.results67, go_sem, m1, m2, ofT]) rfl ⟨by rw [HR.out], HPUT.out _ _ _ HB4.out⟩
            · have HR := Lib.hid (HY.out _ hy)
              have HYY := Lib.hid hy; clear hy
              generalize numD x0 = N0 at *
              go_wp2_with fail
              refine (rnumber_l x _ HX.out).mono ?_
              rw [HYY.out]
              rintro e w' ⟨rfl, rfl⟩
              generalize numD x = N at *
              cases q
              · go_wp2_with fail
                go_roundw
                case rel => exact ⟨k + 1, N != N0, by omega, by go_num, rfl, HR.out, trivial⟩
                case measure => simp [intOf]; omega
              · go_wp2_with fail
                go_roundw
                case rel => exact ⟨k + 1, true, by omega, by go_num, rfl, HR.out, trivial⟩
                case measure => simp [intOf]; omega
          · have hte : E.take k = E := List.take_of_length_le (by omega)
            have ht := HT.out
            rw [hte] at ht
            have HR := Lib.hid (HU.out ht.1 q ht.2)
            clear ht hte
            cases q
            · generalize numD x0 = N0 at *
              obtain ⟨⟨s1, s2⟩, ⟨s3, s4⟩, m1, m2⟩ := HK4.out.asks2 (.int .i64 1) (.int .i64 N0)
              go_wp2_with fail
              exact bodyPost_ret (v := ofT 1 N0 true 0) (by simp [results, Tryz.results67, go_sem, m1, m2, ofT]) rfl ⟨by rw [HR.out]; rfl, HPUT.out _ _ _ HB4.out⟩
            · obtain ⟨⟨s1, s2⟩, ⟨s3, s4⟩, m1, m2⟩ := HK4.out.asks2 (.int .i64 0) (.int .i64 0)
              go_wp2_with fail
              exact bodyPost_ret (v := ofT 0 0 true 8) (by simp [results, Tryz.results67, go_sem, m1, m2, ofT]) rfl ⟨by rw [HR.out]; rfl, HPUT.out _ _ _ HB4.out⟩
    · have lb2 : 0 < (b.length : Int) := by omega
      have HR := Lib.hid (ofV_both HA0.out hb0); clear hb0
      obtain ⟨⟨s1, s2⟩, ⟨s3, s4⟩, m1, m2⟩ := HK3.out.asks2 (.int .i64 0) (.int .i64 0)
      go_wp2_with fail
      exact bodyPost_ret (v := ofT 0 0 true 8) (by simp [results, Tryz.results67, go_sem, m1, m2, ofT]) rfl ⟨by rw [HR.out], HPUT.out _ _ _ HB3.out⟩
end
end Go.Proofs.YtgkjjmcjlobbpaaGreatDoor

/- Where a request's body ends, and a reply's, by the document. -/
namespace Go.Proofs.YtgkjjmcjlobbpaaGreatDoor
open Go.RowKit Go.Shelf

theorem vals_size {l : List Fld} (hz : sizeL l ≤ 1048576) (n : List UInt8) : ∀ x ∈ valsL l n, x.length ≤ 1048576 := fun _ hx => Nat.le_trans (memF_flat hx) (Nat.le_trans (vals_flat l n) hz)
theorem rof_any (v : Value) (l : List Fld) (w : World) (h : FL w v l) (hs : smallF l) (hl : l.length ≤ 1048576) (hz : sizeL l ≤ 1048576) :
    Calls Tryz.prog 67 #[v] w fun e w' => e = .returned (ofV (valsL l clN) (valsL l teN)) ∧ Below w.heap.size w w' := by
  have hlt : ∀ n, ∀ x ∈ valsL l n, x.length ≤ 4294967290 := fun n x hx => Nat.le_trans (vals_size hz n x hx) (by decide)
  refine rof_core v _ _ w ?_ ?_ ?_ ?_ (elems_small hs clN) (elems_small hs teN) (elems_few hl clN)
  · exact fun W hb => rvalues_any v l clN W (h.bel hb) hs hl (by decide)
  · exact fun W hb => rvalues_any v l teN W (h.bel hb) hs hl (by decide)
  · exact fun W hb => pieces_any v l clN W (h.bel hb) hs hl (by decide) (hlt clN)
  · exact fun W hb => pieces_any v l teN W (h.bel hb) hs hl (by decide) (hlt teN)
theorem ask_long {a b : List (List UInt8)} (h : endE a b = 0) (hn : 65536 < endN a b) : askV a b = (0, 0, 3) := by
  unfold askV
  have hE : ¬ (endE a b ≠ 0) := by rw [h]; simp
  rw [if_neg hE, if_pos hn]
theorem ask_ok {a b : List (List UInt8)} (h : endE a b = 0) (hn : ¬ 65536 < endN a b) : askV a b = (endK a b, endN a b, 0) := by
  unfold askV
  have hE : ¬ (endE a b ≠ 0) := by rw [h]; simp
  rw [if_neg hE, if_neg hn]
theorem tell_long {a b : List (List UInt8)} {s : Int} {d : Bool} (h : endE a b = 0) (hd : (d || bareB s) = false) (hn : 262144 < endN a b) : tellV a b s d = (0, 0, 3) := by
  unfold tellV
  have hE : ¬ (endE a b ≠ 0) := by rw [h]; simp
  rw [if_neg hE, hd, if_neg (by decide), if_pos hn]
theorem tell_close {a b : List (List UInt8)} {s : Int} {d : Bool} (h : endE a b = 0) (hd : (d || bareB s) = false) (hn : ¬ 262144 < endN a b) (he : (a.isEmpty && b.isEmpty) = true) : tellV a b s d = (3, 0, 0) := by
  unfold tellV
  have hE : ¬ (endE a b ≠ 0) := by rw [h]; simp
  rw [if_neg hE, hd, if_neg (by decide), if_neg hn, he]; rfl
theorem tell_ok {a b : List (List UInt8)} {s : Int} {d : Bool} (h : endE a b = 0) (hd : (d || bareB s) = false) (hn : ¬ 262144 < endN a b) (he : (a.isEmpty && b.isEmpty) = false) : tellV a b s d = (endK a b, endN a b, 0) := by
  unfold tellV
  have hE : ¬ (endE a b ≠ 0) := by rw [h]; simp
  rw [if_neg hE, hd, if_neg (by decide), if_neg hn, he]; rfl

set_option maxRecDepth 100000 in
set_option maxHeartbeats 2000000 in
theorem rrequest6_any (v : Value) (l : List Fld) (w : World) (h : FL w v l) (hs : smallF l) (hl : l.length ≤ 1048576) (hz : sizeL l ≤ 1048576) :
    Calls Tryz.prog 33 #[v] w fun e w' => e = .returned (ansV (askR l)) ∧ Below w.heap.size w w' := by
  have hal : Below w.heap.size w (w.alloc (.cells #[.int .i64 0, .int .i64 0] 77)) := (Below.refl _ _).alloc (Nat.le_refl _) _
  have hof := rof_any v l _ (h.bel hal) hs hl hz
  have HOF := Lib.hid hof
  have hA : askR l = askV (valsL l clN) (valsL l teN) := rfl
  rw [hA]
  clear hal hof h hs hz hA
  generalize valsL l clN = a at *
  generalize valsL l teN = b at *
  unfold ofV at HOF
  go_enter Tryz.func33, Tryz.ntmps33
  go_wp2_with fail
  refine HOF.out.mono ?_
  rintro e w2 ⟨rfl, hb2⟩
  obtain ⟨h1, h2, h3⟩ := hdr_mem (h := .cells #[.int .i64 (endK a b), .int .i64 (endN a b)] 77) rfl hb2
  have H1 := Lib.hid h1; have H2 := Lib.hid h2; have HN := Lib.hid (blk.new w2 #[.int .i64 (endK a b), .int .i64 (endN a b)] 77); clear h1 h2 h3 hb2 HOF
  have c0 := HN.out.cell 0 (.int .i64 (endK a b)) rfl
  have c1 := HN.out.cell 1 (.int .i64 (endN a b)) rfl
  by_cases hz : endE a b = 0
  · have hd : (endE a b != 0) = false := by rw [bne_eq_false_iff_eq]; exact hz
    by_cases hn : 65536 < endN a b
    · have HEQ := Lib.hid (ask_long hz hn)
      clear hz
      obtain ⟨⟨s1, s2⟩, ⟨s3, s4⟩, m1, m2⟩ := H1.out.asks2 (.int .i64 0) (.int .i64 0)
      have HB4 := Lib.hid ((H2.out.setCell (p := ⟨w.heap.size, 0, none⟩) (Nat.le_refl w.heap.size) (.int .i64 0)).setCell (p := ⟨w.heap.size, 1, none⟩) (Nat.le_refl w.heap.size) (.int .i64 0))
      go_wp2_with fail
      exact bodyPost_ret (v := ansV (0, 0, 3)) (by simp [results, Tryz.results33, go_sem, m1, m2, ansV]) rfl ⟨by rw [HEQ.out], HB4.out⟩
    · have HEQ := Lib.hid (ask_ok hz hn)
      clear hz
      obtain ⟨⟨s1, s2⟩, ⟨s3, s4⟩, m1, m2⟩ := H1.out.asks2 (.int .i64 (endK a b)) (.int .i64 (endN a b))
      have HB4 := Lib.hid ((H2.out.setCell (p := ⟨w.heap.size, 0, none⟩) (Nat.le_refl w.heap.size) (.int .i64 (endK a b))).setCell (p := ⟨w.heap.size, 1, none⟩) (Nat.le_refl w.heap.size) (.int .i64 (endN a b)))
      go_wp2_with fail
      exact bodyPost_ret (v := ansV ((endK a b), (endN a b), 0)) (by simp [results, Tryz.results33, go_sem, m1, m2, ansV]) rfl ⟨by rw [HEQ.out], HB4.out⟩
  · have hd : (endE a b != 0) = true := bne_iff_ne.2 hz
    have HEQ := Lib.hid (ask_err hz)
    clear hz
    obtain ⟨⟨s1, s2⟩, ⟨s3, s4⟩, m1, m2⟩ := H1.out.asks2 (.int .i64 0) (.int .i64 0)
    have HB4 := Lib.hid ((H2.out.setCell (p := ⟨w.heap.size, 0, none⟩) (Nat.le_refl w.heap.size) (.int .i64 0)).setCell (p := ⟨w.heap.size, 1, none⟩) (Nat.le_refl w.heap.size) (.int .i64 0))
    go_wp2_with fail
    exact bodyPost_ret (v := ansV (0, 0, (endE a b))) (by simp [results, Tryz.results33, go_sem, m1, m2, ansV]) rfl ⟨by rw [HEQ.out], HB4.out⟩

set_option maxRecDepth 100000 in
set_option maxHeartbeats 2000000 in
theorem rreply6_any (v : Value) (l : List Fld) (n : Int) (d : Bool) (w : World) (h : FL w v l) (hs : smallF l) (hl : l.length ≤ 1048576) (hz : sizeL l ≤ 1048576) :
    Calls Tryz.prog 38 #[v, .int .i64 n, .bool d] w fun e w' => e = .returned (ansV (tellR l n d)) ∧ Below w.heap.size w w' := by
  have hal : Below w.heap.size w (w.alloc (.cells #[.int .i64 0, .int .i64 0] 77)) := (Below.refl _ _).alloc (Nat.le_refl _) _
  have hof := rof_any v l _ (h.bel hal) hs hl hz
  have HOF := Lib.hid hof
  have hA : tellR l n d = tellV (valsL l clN) (valsL l teN) n d := rfl
  rw [hA]
  clear hal hof h hs hz hA
  generalize valsL l clN = a at *
  generalize valsL l teN = b at *
  unfold ofV at HOF
  go_enter Tryz.func38, Tryz.ntmps38
  go_wp2_with fail
  refine HOF.out.mono ?_
  rintro e w2 ⟨rfl, hb2⟩
  obtain ⟨h1, h2, h3⟩ := hdr_mem (h := .cells #[.int .i64 (endK a b), .int .i64 (endN a b)] 77) rfl hb2
  have H1 := Lib.hid h1; have H2 := Lib.hid h2; have HN := Lib.hid (blk.new w2 #[.int .i64 (endK a b), .int .i64 (endN a b)] 77); clear h1 h2 h3 hb2 HOF
  have c0 := HN.out.cell 0 (.int .i64 (endK a b)) rfl
  have c1 := HN.out.cell 1 (.int .i64 (endN a b)) rfl
  by_cases hz : endE a b = 0
  · have hd : (endE a b != 0) = false := by rw [bne_eq_false_iff_eq]; exact hz
    cases d
    · have hbare : bareB n = ((decide (100 ≤ n) && decide (n ≤ 199)) || (n == 204 || n == 304)) := rfl
      by_cases g1 : 100 ≤ n
      · by_cases g2 : n ≤ 199
        · have HEQ := Lib.hid (tell_bare hz n false (by rw [hbare]; simp [g1, g2]))
          clear hz hbare
          obtain ⟨⟨s1, s2⟩, ⟨s3, s4⟩, m1, m2⟩ := H1.out.asks2 (.int .i64 0) (.int .i64 0)
          have HB4 := Lib.hid ((H2.out.setCell (p := ⟨w.heap.size, 0, none⟩) (Nat.le_refl w.heap.size) (.int .i64 0)).setCell (p := ⟨w.heap.size, 1, none⟩) (Nat.le_refl w.heap.size) (.int .i64 0))
          go_wp2_with fail
          exact bodyPost_ret (v := ansV (0, 0, 0)) (by simp [results, Tryz.results38, go_sem, m1, m2, ansV]) rfl ⟨by rw [HEQ.out], HB4.out⟩
        · cases g3 : (n == 204)
          · cases g4 : (n == 304)
            · have HD : Hid ((false || bareB n) = false) := by show _ = _; rw [hbare, g3, g4]; simp [g2]
              clear hbare
              by_cases hn : 262144 < endN a b
              · have HEQ := Lib.hid (tell_long hz HD.out hn)
                clear hz
                obtain ⟨⟨s1, s2⟩, ⟨s3, s4⟩, m1, m2⟩ := H1.out.asks2 (.int .i64 0) (.int .i64 0)
                have HB4 := Lib.hid ((H2.out.setCell (p := ⟨w.heap.size, 0, none⟩) (Nat.le_refl w.heap.size) (.int .i64 0)).setCell (p := ⟨w.heap.size, 1, none⟩) (Nat.le_refl w.heap.size) (.int .i64 0))
                go_wp2_with fail
                exact bodyPost_ret (v := ansV (0, 0, 3)) (by simp [results, Tryz.results38, go_sem, m1, m2, ansV]) rfl ⟨by rw [HEQ.out], HB4.out⟩
              · cases he : (a.isEmpty && b.isEmpty)
                · have HEQ := Lib.hid (tell_ok hz HD.out hn he)
                  clear hz he
                  obtain ⟨⟨s1, s2⟩, ⟨s3, s4⟩, m1, m2⟩ := H1.out.asks2 (.int .i64 (endK a b)) (.int .i64 (endN a b))
                  have HB4 := Lib.hid ((H2.out.setCell (p := ⟨w.heap.size, 0, none⟩) (Nat.le_refl w.heap.size) (.int .i64 (endK a b))).setCell (p := ⟨w.heap.size, 1, none⟩) (Nat.le_refl w.heap.size) (.int .i64 (endN a b)))
                  go_wp2_with fail
                  exact bodyPost_ret (v := ansV ((endK a b), (endN a b), 0)) (by simp [results, Tryz.results38, go_sem, m1, m2, ansV]) rfl ⟨by rw [HEQ.out], HB4.out⟩
                · have HEQ := Lib.hid (tell_close hz HD.out hn he)
                  clear hz he
                  obtain ⟨⟨s1, s2⟩, ⟨s3, s4⟩, m1, m2⟩ := H1.out.asks2 (.int .i64 3) (.int .i64 0)
                  have HB4 := Lib.hid ((H2.out.setCell (p := ⟨w.heap.size, 0, none⟩) (Nat.le_refl w.heap.size) (.int .i64 3)).setCell (p := ⟨w.heap.size, 1, none⟩) (Nat.le_refl w.heap.size) (.int .i64 0))
                  go_wp2_with fail
                  exact bodyPost_ret (v := ansV (3, 0, 0)) (by simp [results, Tryz.results38, go_sem, m1, m2, ansV]) rfl ⟨by rw [HEQ.out], HB4.out⟩
            · have HEQ := Lib.hid (tell_bare hz n false (by rw [hbare, g4]; simp))
              clear hz hbare
              obtain ⟨⟨s1, s2⟩, ⟨s3, s4⟩, m1, m2⟩ := H1.out.asks2 (.int .i64 0) (.int .i64 0)
              have HB4 := Lib.hid ((H2.out.setCell (p := ⟨w.heap.size, 0, none⟩) (Nat.le_refl w.heap.size) (.int .i64 0)).setCell (p := ⟨w.heap.size, 1, none⟩) (Nat.le_refl w.heap.size) (.int .i64 0))
              go_wp2_with fail
              exact bodyPost_ret (v := ansV (0, 0, 0)) (by simp [results, Tryz.results38, go_sem, m1, m2, ansV]) rfl ⟨by rw [HEQ.out], HB4.out⟩
          · have HEQ := Lib.hid (tell_bare hz n false (by rw [hbare, g3]; simp))
            clear hz hbare
            obtain ⟨⟨s1, s2⟩, ⟨s3, s4⟩, m1, m2⟩ := H1.out.asks2 (.int .i64 0) (.int .i64 0)
            have HB4 := Lib.hid ((H2.out.setCell (p := ⟨w.heap.size, 0, none⟩) (Nat.le_refl w.heap.size) (.int .i64 0)).setCell (p := ⟨w.heap.size, 1, none⟩) (Nat.le_refl w.heap.size) (.int .i64 0))
            go_wp2_with fail
            exact bodyPost_ret (v := ansV (0, 0, 0)) (by simp [results, Tryz.results38, go_sem, m1, m2, ansV]) rfl ⟨by rw [HEQ.out], HB4.out⟩
      · have g3 : (n == 204) = false := by rw [beq_eq_false_iff_ne]; omega
        have g4 : (n == 304) = false := by rw [beq_eq_false_iff_ne]; omega
        have HD : Hid ((false || bareB n) = false) := by show _ = _; rw [hbare, g3, g4]; simp [g1]
        clear hbare
        by_cases hn : 262144 < endN a b
        · have HEQ := Lib.hid (tell_long hz HD.out hn)
          clear hz
          obtain ⟨⟨s1, s2⟩, ⟨s3, s4⟩, m1, m2⟩ := H1.out.asks2 (.int .i64 0) (.int .i64 0)
          have HB4 := Lib.hid ((H2.out.setCell (p := ⟨w.heap.size, 0, none⟩) (Nat.le_refl w.heap.size) (.int .i64 0)).setCell (p := ⟨w.heap.size, 1, none⟩) (Nat.le_refl w.heap.size) (.int .i64 0))
          go_wp2_with fail
          exact bodyPost_ret (v := ansV (0, 0, 3)) (by simp [results, Tryz.results38, go_sem, m1, m2, ansV]) rfl ⟨by rw [HEQ.out], HB4.out⟩
        · cases he : (a.isEmpty && b.isEmpty)
          · have HEQ := Lib.hid (tell_ok hz HD.out hn he)
            clear hz he
            obtain ⟨⟨s1, s2⟩, ⟨s3, s4⟩, m1, m2⟩ := H1.out.asks2 (.int .i64 (endK a b)) (.int .i64 (endN a b))
            have HB4 := Lib.hid ((H2.out.setCell (p := ⟨w.heap.size, 0, none⟩) (Nat.le_refl w.heap.size) (.int .i64 (endK a b))).setCell (p := ⟨w.heap.size, 1, none⟩) (Nat.le_refl w.heap.size) (.int .i64 (endN a b)))
            go_wp2_with fail
            exact bodyPost_ret (v := ansV ((endK a b), (endN a b), 0)) (by simp [results, Tryz.results38, go_sem, m1, m2, ansV]) rfl ⟨by rw [HEQ.out], HB4.out⟩
          · have HEQ := Lib.hid (tell_close hz HD.out hn he)
            clear hz he
            obtain ⟨⟨s1, s2⟩, ⟨s3, s4⟩, m1, m2⟩ := H1.out.asks2 (.int .i64 3) (.int .i64 0)
            have HB4 := Lib.hid ((H2.out.setCell (p := ⟨w.heap.size, 0, none⟩) (Nat.le_refl w.heap.size) (.int .i64 3)).setCell (p := ⟨w.heap.size, 1, none⟩) (Nat.le_refl w.heap.size) (.int .i64 0))
            go_wp2_with fail
            exact bodyPost_ret (v := ansV (3, 0, 0)) (by simp [results, Tryz.results38, go_sem, m1, m2, ansV]) rfl ⟨by rw [HEQ.out], HB4.out⟩
    · have HEQ := Lib.hid (tell_bare hz n true rfl)
      clear hz
      obtain ⟨⟨s1, s2⟩, ⟨s3, s4⟩, m1, m2⟩ := H1.out.asks2 (.int .i64 0) (.int .i64 0)
      have HB4 := Lib.hid ((H2.out.setCell (p := ⟨w.heap.size, 0, none⟩) (Nat.le_refl w.heap.size) (.int .i64 0)).setCell (p := ⟨w.heap.size, 1, none⟩) (Nat.le_refl w.heap.size) (.int .i64 0))
      go_wp2_with fail
      exact bodyPost_ret (v := ansV (0, 0, 0)) (by simp [results, Tryz.results38, go_sem, m1, m2, ansV]) rfl ⟨by rw [HEQ.out], HB4.out⟩
  · have hd : (endE a b != 0) = true := bne_iff_ne.2 hz
    have HEQ := Lib.hid (tell_err hz n d)
    clear hz
    obtain ⟨⟨s1, s2⟩, ⟨s3, s4⟩, m1, m2⟩ := H1.out.asks2 (.int .i64 0) (.int .i64 0)
    have HB4 := Lib.hid ((H2.out.setCell (p := ⟨w.heap.size, 0, none⟩) (Nat.le_refl w.heap.size) (.int .i64 0)).setCell (p := ⟨w.heap.size, 1, none⟩) (Nat.le_refl w.heap.size) (.int .i64 0))
    go_wp2_with fail
    exact bodyPost_ret (v := ansV (0, 0, (endE a b))) (by simp [results, Tryz.results38, go_sem, m1, m2, ansV]) rfl ⟨by rw [HEQ.out], HB4.out⟩
end Go.Proofs.YtgkjjmcjlobbpaaGreatDoor
