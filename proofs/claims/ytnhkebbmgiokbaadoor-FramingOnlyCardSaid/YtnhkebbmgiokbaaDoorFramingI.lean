/- What the fields say by the document: of. -/
import Derived.Test.YtnhkebbmgiokbaaDoorFramingH
namespace Go.Proofs.YtnhkebbmgiokbaaDoor
open Go.RowKit Go.Shelf

/-- what is handed back by of -/
def ofV (a b : List (List UInt8)) : Value := .tuple #[.agg #[.int .i64 (endK a b), .int .i64 (endN a b)], .bool (!(a.isEmpty && b.isEmpty)), .int .i64 (endE a b)]
def ofT (k n : Int) (s : Bool) (e : Int) : Value := .tuple #[.agg #[.int .i64 k, .int .i64 n], .bool s, .int .i64 e]
theorem emp_yes {l : List (List UInt8)} (h : l.length = 0) : l.isEmpty = true := by rw [List.isEmpty_iff]; exact List.eq_nil_of_length_eq_zero h
theorem emp_no {l : List (List UInt8)} (h : l.length ≠ 0) : l.isEmpty = false := by cases l with | nil => exact absurd rfl h | cons x r => rfl
theorem ofV_err {a b : List (List UInt8)} {e : Int} (h : endE a b = e) (he : e ≠ 0) (hs : (a.isEmpty && b.isEmpty) = false) : ofV a b = ofT 0 0 true e := by
  have hn : ¬ endE a b = 0 := by rw [h]; exact he
  unfold ofV ofT endK endN
  rw [if_neg hn, if_neg (fun c => hn c.1), hs, h]; rfl
theorem ofV_none {a b : List (List UInt8)} (ha : a.length = 0) (hb : b.length = 0) : ofV a b = ofT 0 0 false 0 := by
  have h1 := List.eq_nil_of_length_eq_zero ha; have h2 := List.eq_nil_of_length_eq_zero hb
  subst h1; subst h2; rfl
theorem ofV_both {a b : List (List UInt8)} (ha : a.length ≠ 0) (hb : b.length ≠ 0) : ofV a b = ofT 0 0 true 8 := by
  refine ofV_err ?_ (by decide) (by rw [emp_no ha]; rfl)
  unfold endE; rw [emp_no ha, emp_no hb]; rfl
theorem endE_code {a b : List (List UInt8)} (ha : a.length = 0) (hb : b.length ≠ 0) : endE a b = if amissB b || !((elemsL b).length == 1 && chB (headE b)) then 4 else 0 := by
  unfold endE; rw [emp_yes ha, emp_no hb]; rfl
theorem ofV_code4 {a b : List (List UInt8)} (ha : a.length = 0) (hb : b.length ≠ 0) (h : (amissB b || !((elemsL b).length == 1 && chB (headE b))) = true) : ofV a b = ofT 0 0 true 4 :=
  ofV_err (by rw [endE_code ha hb, h]; rfl) (by decide) (by rw [emp_no hb, Bool.and_false])
theorem ofV_code {a b : List (List UInt8)} (ha : a.length = 0) (hb : b.length ≠ 0) (h : (amissB b || !((elemsL b).length == 1 && chB (headE b))) = false) : ofV a b = ofT 2 0 true 0 := by
  have h0 : endE a b = 0 := by rw [endE_code ha hb, h]; rfl
  obtain ⟨h1, h2, h3⟩ := end_one h0 (emp_no hb)
  unfold ofV ofT
  rw [h0, h2, h3, emp_no hb, Bool.and_false]; rfl
theorem endE_len {a b : List (List UInt8)} (ha : a.length ≠ 0) (hb : b.length = 0) : endE a b = if amissB a || (elemsL a).isEmpty || !(elemsL a).all lenB then 4 else if unlikeB a then 8 else 0 := by
  unfold endE; rw [emp_no ha, emp_yes hb]; rfl
theorem ofV_len4 {a b : List (List UInt8)} (ha : a.length ≠ 0) (hb : b.length = 0) (h : (amissB a || (elemsL a).isEmpty || !(elemsL a).all lenB) = true) : ofV a b = ofT 0 0 true 4 :=
  ofV_err (by rw [endE_len ha hb, h]; rfl) (by decide) (by rw [emp_no ha]; rfl)
theorem ofV_len8 {a b : List (List UInt8)} (ha : a.length ≠ 0) (hb : b.length = 0) (h : (amissB a || (elemsL a).isEmpty || !(elemsL a).all lenB) = false) (hu : unlikeB a = true) : ofV a b = ofT 0 0 true 8 :=
  ofV_err (by rw [endE_len ha hb, h, hu]; rfl) (by decide) (by rw [emp_no ha]; rfl)
theorem ofV_len {a b : List (List UInt8)} (ha : a.length ≠ 0) (hb : b.length = 0) (h : (amissB a || (elemsL a).isEmpty || !(elemsL a).all lenB) = false) (hu : unlikeB a = false) : ofV a b = ofT 1 (decV (headE a)) true 0 := by
  have h0 : endE a b = 0 := by rw [endE_len ha hb, h, hu]; rfl
  have hK : endK a b = 1 := by unfold endK; rw [if_pos h0, emp_yes hb, emp_no ha]; rfl
  have hN : endN a b = decV (headE a) := by unfold endN; rw [if_pos ⟨h0, emp_no ha⟩]
  unfold ofV ofT
  rw [hK, hN, h0, emp_no ha]; rfl
theorem headD_at {E : List (List UInt8)} (h : 0 < E.length) : E.headD [] = E[0] := by cases E with | nil => simp at h | cons x r => rfl
theorem chB_eq (x : List UInt8) : chB x = (lower x == [99, 104, 117, 110, 107, 101, 100]) := by unfold chB sameN; rw [show lower chN = [99, 104, 117, 110, 107, 101, 100] from by decide]
theorem numD_len {s : List UInt8} (h : lenB s = true) : numD s = decV s := by unfold numD; rw [if_pos h]
theorem unlike_eq {a : List (List UInt8)} (h : (elemsL a).all lenB = true) : unlikeB a = (elemsL a).any fun s => numD s != numD (headE a) := by
  unfold unlikeB
  by_cases hn : elemsL a = []
  · rw [hn]; rfl
  · rw [List.all_eq_true] at h
    have hh := numD_len (h _ (head_mem hn))
    refine Bool.eq_iff_iff.2 ?_
    rw [List.any_eq_true, List.any_eq_true]
    constructor
    · rintro ⟨s, hs, he⟩
      refine ⟨s, hs, ?_⟩
      rw [bne_iff_ne] at he ⊢
      rw [hh, numD_len (h s hs)]
      omega
    · rintro ⟨s, hs, he⟩
      refine ⟨s, hs, ?_⟩
      rw [bne_iff_ne] at he ⊢
      rw [hh, numD_len (h s hs)] at he
      omega

/-- the values of a name, and their elements, in every world behind w -/
def ValsOf (w : World) (v n : Value) (a : List (List UInt8)) : Prop := ∀ W, Below w.heap.size w W → Calls Tryd.prog 36 #[v, n] W (RetS W a)
def PiecesOf (w : World) (v n : Value) (a : List (List UInt8)) : Prop := ∀ W, Below w.heap.size w W → Calls Tryd.prog 37 #[v, n] W fun e w' =>
  ∃ v', e = .returned (.tuple #[v', .bool (!amissB a && decide (0 < (elemsL a).length))]) ∧ SL w' v' (piecesL a) ∧ Below W.heap.size W w'
def clS : Value := .string ⟨#[99, 111, 110, 116, 101, 110, 116, 45, 108, 101, 110, 103, 116, 104]⟩
def teS : Value := .string ⟨#[116, 114, 97, 110, 115, 102, 101, 114, 45, 101, 110, 99, 111, 100, 105, 110, 103]⟩
theorem ok_yes {a : List (List UInt8)} (h : (!amissB a && decide (0 < (elemsL a).length)) = true) : amissB a = false ∧ 0 < (elemsL a).length ∧ piecesL a = elemsL a := by
  rw [Bool.and_eq_true, Bool.not_eq_true', decide_eq_true_eq] at h
  exact ⟨h.1, h.2, by unfold piecesL; rw [h.1]; rfl⟩
theorem ok_no {a : List (List UInt8)} (h : (!amissB a && decide (0 < (elemsL a).length)) = false) : amissB a = true ∨ (elemsL a).length = 0 := by
  rw [Bool.and_eq_false_iff, Bool.not_eq_false', decide_eq_false_iff_not] at h
  rcases h with h | h
  · exact .inl h
  · exact .inr (by omega)

section
variable (v : Value) (a b : List (List UInt8)) (w : World)
set_option maxRecDepth 100000 in
set_option maxHeartbeats 4000000 in
theorem rof_core (ha : ValsOf w v clS a) (hb : ValsOf w v teS b) (pa : PiecesOf w v clS a) (pb : PiecesOf w v teS b) (hEa : ∀ s ∈ elemsL a, s.length ≤ 4294967296) (hEb : ∀ s ∈ elemsL b, s.length ≤ 4294967296) (hla : (elemsL a).length ≤ 4294967296) :
    Calls Tryd.prog 20 #[v] w fun e w' => e = .returned (ofV a b) ∧ Below w.heap.size w w' := by
  have hal : Below w.heap.size w (w.alloc (.cells #[.int .i64 0, .int .i64 0] 30)) := (Below.refl _ _).alloc (Nat.le_refl _) _
  have hbk := blk.new w #[.int .i64 0, .int .i64 0] 30
  unfold ValsOf clS at ha; unfold ValsOf teS at hb; unfold PiecesOf clS at pa; unfold PiecesOf teS at pb
  have HA := Lib.hid ha; have HB := Lib.hid hb; have PA := Lib.hid pa; have PB := Lib.hid pb; have HAL := Lib.hid hal; have HBK := Lib.hid hbk; have HEa := Lib.hid hEa; have HEb := Lib.hid hEb
  clear ha hb pa pb hal hbk hEa hEb
  go_enter Tryd.func20, Tryd.ntmps20
  go_wp2_with fail
  generalize w.alloc (.cells #[.int .i64 0, .int .i64 0] 30) = w1 at *
  refine (HA.out _ HAL.out).mono ?_
  rintro e w2 ⟨v1, rfl, ho1, hb2⟩
  obtain ⟨A1, c1, rfl⟩ := ho1.form
  have HB2 := Lib.hid (HAL.out.trans (hb2.mono HAL.out.size)); have HK2 := Lib.hid (HBK.out.below hb2); clear ho1 hb2
  go_wp2_with fail
  refine (HB.out _ HB2.out).mono ?_
  rintro e w3 ⟨v2, rfl, ho2, hb3⟩
  obtain ⟨A2, c2, rfl⟩ := ho2.form
  have HB3 := Lib.hid (HB2.out.trans (hb3.mono HB2.out.size)); have HK3 := Lib.hid (HK2.out.below hb3); clear ho2 hb3 HA HB HB2 HK2 HAL HBK
  have hput : ∀ (W : World) (k n : Int), Below w.heap.size w W → Below w.heap.size w ((W.setCell ⟨w.heap.size, 0, none⟩ (.int .i64 k)).setCell ⟨w.heap.size, 1, none⟩ (.int .i64 n)) :=
    fun W k n h => (h.setCell (p := ⟨w.heap.size, 0, none⟩) (Nat.le_refl w.heap.size) _).setCell (p := ⟨w.heap.size, 1, none⟩) (Nat.le_refl w.heap.size) _
  have HPUT := Lib.hid hput; clear hput
  by_cases ha0 : a.length = 0
  · have la : ((a.length : Int) == 0) = true := by rw [beq_iff_eq]; omega
    have la2 : ¬ 0 < (a.length : Int) := by omega
    have HA0 := Lib.hid ha0; clear ha0
    by_cases hb0 : b.length = 0
    · have lb : ((b.length : Int) == 0) = true := by rw [beq_iff_eq]; omega
      have HR := Lib.hid (ofV_none HA0.out hb0); clear hb0
      obtain ⟨⟨s1, s2⟩, ⟨s3, s4⟩, m1, m2⟩ := HK3.out.asks2 (.int .i64 0) (.int .i64 0)
      go_wp2_with fail
      exact bodyPost_ret (v := ofT 0 0 false 0) (by simp [results, Tryd.results20, go_sem, m1, m2, ofT]) rfl ⟨by rw [HR.out], HPUT.out _ _ _ HB3.out⟩
    · have lb : ((b.length : Int) == 0) = false := by rw [beq_eq_false_iff_ne]; omega
      have lb2 : 0 < (b.length : Int) := by omega
      have HB0 := Lib.hid hb0; clear hb0
      have hpb := PB.out _ HB3.out
      cases hok : (!amissB b && decide (0 < (elemsL b).length))
      · rw [hok] at hpb
        have HPB := Lib.hid hpb
        have HR : Hid (ofV a b = ofT 0 0 true 4) := ofV_code4 HA0.out HB0.out (by
          rcases ok_no hok with h | h
          · rw [h]; rfl
          · rw [h]; simp)
        clear hpb hok
        go_wp2_with fail
        refine HPB.out.mono ?_
        rintro e w4 ⟨v4, rfl, hs4, hb4⟩
        obtain ⟨A4, c4, rfl⟩ := hs4.form
        have HB4 := Lib.hid (HB3.out.trans (hb4.mono HB3.out.size)); have HK4 := Lib.hid (HK3.out.below hb4); clear hs4 hb4
        obtain ⟨⟨s1, s2⟩, ⟨s3, s4⟩, m1, m2⟩ := HK4.out.asks2 (.int .i64 0) (.int .i64 0)
        go_wp2_with fail
        exact bodyPost_ret (v := ofT 0 0 true 4) (by simp [results, Tryd.results20, go_sem, m1, m2, ofT]) rfl ⟨by rw [HR.out], HPUT.out _ _ _ HB4.out⟩
      · rw [hok] at hpb
        obtain ⟨k1, k2, k3⟩ := ok_yes hok
        rw [k3] at hpb
        have HPB := Lib.hid hpb; clear hpb hok k3
        by_cases h1 : (elemsL b).length = 1
        · have l1 : (((elemsL b).length : Int) != 1) = false := by rw [bne_eq_false_iff_eq]; omega
          have hd : headE b = (elemsL b)[0] := headD_at k2
          have HX := Lib.hid (HEb.out _ (List.getElem_mem k2))
          have HCH : Hid (∀ q, chB (elemsL b)[0] = q → ofV a b = if q then ofT 2 0 true 0 else ofT 0 0 true 4) := by
            intro q hq
            have h2 : (amissB b || !((elemsL b).length == 1 && chB (headE b))) = !q := by rw [k1, h1, hd, hq]; simp
            cases q
            · exact ofV_code4 HA0.out HB0.out h2
            · exact ofV_code HA0.out HB0.out h2
          clear hd h1
          go_wp2_with fail
          refine HPB.out.mono ?_
          rintro e w4 ⟨v4, rfl, hs4, hb4⟩
          obtain ⟨A4, c4, rfl⟩ := hs4.form
          have HB4 := Lib.hid (HB3.out.trans (hb4.mono HB3.out.size)); have HK4 := Lib.hid (HK3.out.below hb4)
          obtain ⟨g, off, rfl, hg, hc⟩ := hs4.get 0 k2
          rw [Nat.add_zero] at hc
          clear hs4 hb4
          generalize (elemsL b)[0] = x at *
          have k2' : 0 < ((elemsL b).length : Int) := by omega
          go_wp2_with fail
          refine (rlower_l x _ (by have := HX.out; omega)).mono ?_
          rintro e w5 ⟨rfl, hb5⟩
          have HB5 := Lib.hid (HB4.out.trans (hb5.mono HB4.out.size)); have HK5 := Lib.hid (HK4.out.below hb5); clear hb5 hc
          cases hq : chB x
          · have hq2 : ((bs (lower x)).toList == [99, 104, 117, 110, 107, 101, 100]) = false := by rw [Lib.toList_data, bs_data, ← chB_eq]; exact hq
            have HR := Lib.hid (HCH.out _ hq); clear hq
            obtain ⟨⟨s1, s2⟩, ⟨s3, s4⟩, m1, m2⟩ := HK5.out.asks2 (.int .i64 0) (.int .i64 0)
            go_wp2_with fail
            exact bodyPost_ret (v := ofT 0 0 true 4) (by simp [results, Tryd.results20, go_sem, m1, m2, ofT]) rfl ⟨by rw [HR.out]; rfl, HPUT.out _ _ _ HB5.out⟩
          · have hq2 : ((bs (lower x)).toList == [99, 104, 117, 110, 107, 101, 100]) = true := by rw [Lib.toList_data, bs_data, ← chB_eq]; exact hq
            have HR := Lib.hid (HCH.out _ hq); clear hq
            obtain ⟨⟨s1, s2⟩, ⟨s3, s4⟩, m1, m2⟩ := HK5.out.asks2 (.int .i64 2) (.int .i64 0)
            go_wp2_with fail
            exact bodyPost_ret (v := ofT 2 0 true 0) (by simp [results, Tryd.results20, go_sem, m1, m2, ofT]) rfl ⟨by rw [HR.out]; rfl, HPUT.out _ _ _ HB5.out⟩
        · have l1 : (((elemsL b).length : Int) != 1) = true := bne_iff_ne.2 (by omega)
          have HR : Hid (ofV a b = ofT 0 0 true 4) := ofV_code4 HA0.out HB0.out (by
            have : ((elemsL b).length == 1) = false := by rw [beq_eq_false_iff_ne]; exact h1
            rw [this]; simp)
          clear h1
          go_wp2_with fail
          refine HPB.out.mono ?_
          rintro e w4 ⟨v4, rfl, hs4, hb4⟩
          obtain ⟨A4, c4, rfl⟩ := hs4.form
          have HB4 := Lib.hid (HB3.out.trans (hb4.mono HB3.out.size)); have HK4 := Lib.hid (HK3.out.below hb4); clear hs4 hb4
          obtain ⟨⟨s1, s2⟩, ⟨s3, s4⟩, m1, m2⟩ := HK4.out.asks2 (.int .i64 0) (.int .i64 0)
          go_wp2_with fail
          exact bodyPost_ret (v := ofT 0 0 true 4) (by simp [results, Tryd.results20, go_sem, m1, m2, ofT]) rfl ⟨by rw [HR.out], HPUT.out _ _ _ HB4.out⟩
  · have la : ((a.length : Int) == 0) = false := by rw [beq_eq_false_iff_ne]; omega
    have la2 : 0 < (a.length : Int) := by omega
    have HA0 := Lib.hid ha0; clear ha0
    by_cases hb0 : b.length = 0
    · have lb2 : ¬ 0 < (b.length : Int) := by omega
      have HB0 := Lib.hid hb0; clear hb0
      have hpa := PA.out _ HB3.out
      cases hok : (!amissB a && decide (0 < (elemsL a).length))
      · rw [hok] at hpa
        have HPA := Lib.hid hpa
        have HR : Hid (ofV a b = ofT 0 0 true 4) := ofV_len4 HA0.out HB0.out (by
          rcases ok_no hok with h | h
          · rw [h]; rfl
          · rw [emp_yes h]; simp)
        clear hpa hok
        go_wp2_with fail
        refine HPA.out.mono ?_
        rintro e w4 ⟨v4, rfl, hs4, hb4⟩
        obtain ⟨A4, c4, rfl⟩ := hs4.form
        have HB4 := Lib.hid (HB3.out.trans (hb4.mono HB3.out.size)); have HK4 := Lib.hid (HK3.out.below hb4); clear hs4 hb4
        obtain ⟨⟨s1, s2⟩, ⟨s3, s4⟩, m1, m2⟩ := HK4.out.asks2 (.int .i64 0) (.int .i64 0)
        go_wp2_with fail
        exact bodyPost_ret (v := ofT 0 0 true 4) (by simp [results, Tryd.results20, go_sem, m1, m2, ofT]) rfl ⟨by rw [HR.out], HPUT.out _ _ _ HB4.out⟩
      · rw [hok] at hpa
        obtain ⟨k1, k2, k3⟩ := ok_yes hok
        rw [k3] at hpa
        have HPA := Lib.hid hpa; clear hpa hok k3
        have hemp : (elemsL a).isEmpty = false := emp_no (by omega)
        have H4 : Hid ((elemsL a).all lenB = false → ofV a b = ofT 0 0 true 4) := fun h => ofV_len4 HA0.out HB0.out (by rw [h]; simp)
        have HU : Hid ((elemsL a).all lenB = true → ∀ q, ((elemsL a).any fun s => numD s != numD (elemsL a)[0]) = q → ofV a b = if q then ofT 0 0 true 8 else ofT 1 (numD (elemsL a)[0]) true 0) := by
          intro h q hq
          have hc : (amissB a || (elemsL a).isEmpty || !(elemsL a).all lenB) = false := by rw [k1, hemp, h]; rfl
          have hh : headE a = (elemsL a)[0] := headD_at k2
          have hu := unlike_eq h
          rw [hh, hq] at hu
          cases q
          · rw [ofV_len HA0.out HB0.out hc hu, hh, numD_len (List.all_eq_true.1 h _ (List.getElem_mem k2))]; rfl
          · rw [ofV_len8 HA0.out HB0.out hc hu]; rfl
        have k2' : 0 < ((elemsL a).length : Int) := by omega
        have HX0 := Lib.hid (HEa.out _ (List.getElem_mem k2))
        clear hemp k1
        go_wp2_with fail
        refine HPA.out.mono ?_
        rintro e w4 ⟨v4, rfl, hs4, hb4⟩
        obtain ⟨A4, c4, rfl⟩ := hs4.form
        have HB4 := Lib.hid (HB3.out.trans (hb4.mono HB3.out.size)); have HK4 := Lib.hid (HK3.out.below hb4)
        obtain ⟨g, off, rfl, hg, hc⟩ := hs4.get 0 k2
        rw [Nat.add_zero] at hc
        have HS4 := Lib.hid hs4
        clear hs4 hb4
        generalize (elemsL a)[0] = x0 at *
        generalize elemsL a = E at *
        go_wp2_with fail
        refine (rnumber_l x0 _ HX0.out).mono ?_
        rintro e w' ⟨rfl, rfl⟩
        clear hc
        go_wp2_with fail
        go_loopw [11, 14] (fun u i wr => ∃ (k : Nat) (q : Bool), k ≤ E.length ∧ i = .int .i64 k ∧ u = .bool q ∧ Hid ((E.take k).all lenB = true ∧ ((E.take k).any fun s => numD s != numD x0) = q) ∧ w4 = wr) (fun _ i _ => E.length - (intOf i).toNat)
        case atStart => exact ⟨0, false, Nat.zero_le _, rfl, rfl, ⟨rfl, rfl⟩, rfl⟩
        case round =>
          obtain ⟨k, q, hk, rfl, rfl, HT, rfl⟩ := hrel
          by_cases hlt : k < E.length
          · obtain ⟨g', off', he2, _, hck⟩ := HS4.out.get k hlt
            obtain ⟨rfl, rfl⟩ : g = g' ∧ off = off' := by simpa using he2
            clear he2
            have HX := Lib.hid (HEa.out _ (List.getElem_mem hlt))
            have HY : Hid (∀ y, lenB E[k] = y → if y then (E.take (k + 1)).all lenB = true ∧ ((E.take (k + 1)).any fun s => numD s != numD x0) = (q || numD E[k] != numD x0) else E.all lenB = false) := by
              intro y hy
              cases y
              · exact all_notL hlt hy
              · refine ⟨all_snocL hlt HT.out.1 hy, ?_⟩
                rw [List.take_succ_eq_append_getElem hlt, List.any_append, HT.out.2]
                simp only [List.any_cons, List.any_nil, Bool.or_false]
            generalize E[k] = x at *
            cases hy : lenB x
            · have HR : Hid (ofV a b = ofT 0 0 true 4) := H4.out (HY.out _ hy)
              have HYY := Lib.hid hy; clear hy
              go_wp2_with fail
              refine (rnumber_l x _ HX.out).mono ?_
              rw [HYY.out]
              rintro e w' ⟨rfl, rfl⟩
              obtain ⟨⟨s1, s2⟩, ⟨s3, s4⟩, m1, m2⟩ := HK4.out.asks2 (.int .i64 0) (.int .i64 0)
              go_wp2_with fail
              exact bodyPost_ret (v := ofT 0 0 true 4) (by simp [results, Tryd.results20, go_sem, m1, m2, ofT]) rfl ⟨by rw [HR.out], HPUT.out _ _ _ HB4.out⟩
            · have HR := Lib.hid (HY.out _ hy)
              have HYY := Lib.hid hy; clear hy
              generalize numD x0 = N0 at *
              go_wp2_with fail
              refine (rnumber_l x _ HX.out).mono ?_
              rw [HYY.out]
              rintro e w' ⟨rfl, rfl⟩
              generalize numD x = N at *
              cases q
              · go_wp2_with fail
                go_roundw
                case rel => exact ⟨k + 1, N != N0, by omega, by go_num, rfl, HR.out, trivial⟩
                case measure => simp [intOf]; omega
              · go_wp2_with fail
                go_roundw
                case rel => exact ⟨k + 1, true, by omega, by go_num, rfl, HR.out, trivial⟩
                case measure => simp [intOf]; omega
          · have hte : E.take k = E := List.take_of_length_le (by omega)
            have ht := HT.out
            rw [hte] at ht
            have HR := Lib.hid (HU.out ht.1 q ht.2)
            clear ht hte
            cases q
            · generalize numD x0 = N0 at *
              obtain ⟨⟨s1, s2⟩, ⟨s3, s4⟩, m1, m2⟩ := HK4.out.asks2 (.int .i64 1) (.int .i64 N0)
              go_wp2_with fail
              exact bodyPost_ret (v := ofT 1 N0 true 0) (by simp [results, Tryd.results20, go_sem, m1, m2, ofT]) rfl ⟨by rw [HR.out]; rfl, HPUT.out _ _ _ HB4.out⟩
            · obtain ⟨⟨s1, s2⟩, ⟨s3, s4⟩, m1, m2⟩ := HK4.out.asks2 (.int .i64 0) (.int .i64 0)
              go_wp2_with fail
              exact bodyPost_ret (v := ofT 0 0 true 8) (by simp [results, Tryd.results20, go_sem, m1, m2, ofT]) rfl ⟨by rw [HR.out]; rfl, HPUT.out _ _ _ HB4.out⟩
    · have lb2 : 0 < (b.length : Int) := by omega
      have HR := Lib.hid (ofV_both HA0.out hb0); clear hb0
      obtain ⟨⟨s1, s2⟩, ⟨s3, s4⟩, m1, m2⟩ := HK3.out.asks2 (.int .i64 0) (.int .i64 0)
      go_wp2_with fail
      exact bodyPost_ret (v := ofT 0 0 true 8) (by simp [results, Tryd.results20, go_sem, m1, m2, ofT]) rfl ⟨by rw [HR.out], HPUT.out _ _ _ HB3.out⟩
end
end Go.Proofs.YtnhkebbmgiokbaaDoor
