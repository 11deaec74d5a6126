/- NotModified by the document. -/
import Derived.Test.YtjbkjmceabilaaaDoorEtagD
import Derived.Test.YtjbkjmceabilaaaDoorKDateW
namespace Go.Proofs.YtjbkjmceabilaaaDoor
open Go.RowKit Go.Shelf

theorem parseE_nil (nw : Int) : parseDL nw [] = none := by
  unfold parseDL formL
  rfl
theorem get_none {l : List Fld} {n : List UInt8} (h : hasF l n = false) : getL l n = [] := by
  unfold hasF at h
  have h := of_decide_eq_false h
  unfold getL
  rw [List.eq_nil_of_length_eq_zero (by omega : (valsL l n).length = 0)]
  rfl
theorem dt_none {Y : Int} {l : List Fld} {n : List UInt8} (h : hasF l n = false) : dtE Y l n = none := by
  unfold dtE
  rw [get_none h, parseE_nil]
theorem since_none1 (o : Option Int) : sinceB none o = false := rfl
theorem since_none2 (o : Option Int) : sinceB o none = false := by cases o <;> rfl
variable {now Y : Int} {st mi : Int} {re bo : ByteArray}
set_option maxRecDepth 100000 in
set_option maxHeartbeats 4000000 in
theorem renm_any {v u : Value} {l r : List Fld} (w : World) (hv : EtW w v l) (hu : EtW w u r) (HY : ∃ m d h i s, IsT (clampI now) Y m d h i s) :
    Calls Tryd.prog 8 #[v, .agg #[.int .i64 st, .string re, .int .i64 mi, u, .string bo], .int .i64 now] w fun e w' => e = .returned (.bool (nmB Y l r)) ∧ Below w.heap.size w w' := by
  obtain ⟨Au, cu, hfu⟩ := hu.fl.form
  subst hfu
  have hx : Below w.heap.size w (w.alloc (.cells #[.int .i64 st, .string re, .int .i64 mi, .slice Au r.length cu, .string bo] 26)) := (Below.refl _ _).alloc (Nat.le_refl _) _
  have hd := ebk.new w #[.int .i64 st, .string re, .int .i64 mi, .slice Au r.length cu, .string bo] 26
  have g1 : ∀ W, Below w.heap.size w W → Calls Tryd.prog 19 #[v, .string ⟨#[105, 102, 45, 110, 111, 110, 101, 45, 109, 97, 116, 99, 104]⟩] W fun e w' => e = .returned (.tuple #[.string (bs (getL l inmN)), .bool (hasF l inmN)]) ∧ Below W.heap.size W w' := fun W hb => rgetE_any inmN W (hv.bel hb) (by decide)
  have g2 : ∀ W, Below w.heap.size w W → Calls Tryd.prog 19 #[.slice Au r.length cu, .string ⟨#[101, 116, 97, 103]⟩] W fun e w' => e = .returned (.tuple #[.string (bs (getL r etN)), .bool (hasF r etN)]) ∧ Below W.heap.size W w' := fun W hb => rgetE_any etN W (hu.bel hb) (by decide)
  have g3 : ∀ W, Below w.heap.size w W → Calls Tryd.prog 19 #[v, .string ⟨#[105, 102, 45, 109, 111, 100, 105, 102, 105, 101, 100, 45, 115, 105, 110, 99, 101]⟩] W fun e w' => e = .returned (.tuple #[.string (bs (getL l imsN)), .bool (hasF l imsN)]) ∧ Below W.heap.size W w' := fun W hb => rgetE_any imsN W (hv.bel hb) (by decide)
  have g4 : ∀ W, Below w.heap.size w W → Calls Tryd.prog 19 #[.slice Au r.length cu, .string ⟨#[108, 97, 115, 116, 45, 109, 111, 100, 105, 102, 105, 101, 100]⟩] W fun e w' => e = .returned (.tuple #[.string (bs (getL r lmN)), .bool (hasF r lmN)]) ∧ Below W.heap.size W w' := fun W hb => rgetE_any lmN W (hu.bel hb) (by decide)
  obtain ⟨m, d, hh, i, s, HY⟩ := HY
  have p1 := fun W => rparse_any (bs (getL l imsN)) now Y m d hh i s W (by rw [bs_size]; have := hv.fw.getLen imsN; omega) HY
  have p2 := fun W => rparse_any (bs (getL r lmN)) now Y m d hh i s W (by rw [bs_size]; have := hu.fw.getLen lmN; omega) HY
  rw [bs_data, rparse_eq] at p1 p2
  have d1 : parseDL (Y + 50) (getL l imsN) = dtE Y l imsN := rfl
  have d2 : parseDL (Y + 50) (getL r lmN) = dtE Y r lmN := rfl
  rw [d1] at p1
  rw [d2] at p2
  have n1 : hasF l imsN = false → dtE Y l imsN = none := dt_none
  have n2 : hasF r lmN = false → dtE Y r lmN = none := dt_none
  have hls := fun W => relist_any (getL l inmN) W (by have := hv.fw.getLen inmN; omega)
  unfold ListPostE at hls
  have hlm : ∀ x ∈ lsL (getL l inmN), x.length ≤ 4294967290 := fun x hx => by have := lsL_mem hx; have := hv.fw.getLen inmN; omega
  have hln := lsL_few (getL l inmN)
  have hwk := fun (x : List UInt8) W (hx : x.length ≤ 4294967290) => reweak_any (getL r etN) x W (by have := hu.fw.getLen etN; omega) hx
  have hq : nmB Y l r = if hasF l inmN then (getL l inmN == [42] || anyE (lsL (getL l inmN)) (fun x => weakE (getL r etN) x)) else sinceB (dtE Y l imsN) (dtE Y r lmN) := rfl
  have heq : ((bs (getL l inmN)).toList == [42]) = (getL l inmN == [42]) := by rw [Lib.toList_data, bs_data]
  have G1 := Lib.hid g1; have G2 := Lib.hid g2; have G3 := Lib.hid g3; have G4 := Lib.hid g4; have P1 := Lib.hid p1; have P2 := Lib.hid p2; have N1 := Lib.hid n1; have N2 := Lib.hid n2
  have HLS := Lib.hid hls; have HLM := Lib.hid hlm; have HWK := Lib.hid hwk
  have HX := Lib.hid hx; have HD := Lib.hid hd; have HQ := Lib.hid hq
  clear g1 g2 g3 g4 p1 p2 n1 n2 hx hd hv hu HY hq hls hlm hwk d1 d2
  generalize nmB Y l r = Z at *
  generalize dtE Y l imsN = o1 at *
  generalize dtE Y r lmN = o2 at *
  generalize hasF r etN = q2 at *
  generalize getL r etN = c at *
  generalize lsL (getL l inmN) = E at *
  generalize lsE (getL l inmN) = en at *
  generalize (getL l inmN == [42]) = star at *
  generalize bs (getL l inmN) = hi at *
  generalize bs (getL l imsN) = b1 at *
  generalize bs (getL r lmN) = b2 at *
  cases hq1 : hasF l inmN
  · rw [hq1] at G1
    have HZ : Hid (Z = sinceB o1 o2) := by show _ = _; rw [HQ.out, hq1]; rfl
    clear HQ hq1 heq HLS HLM HWK hln
    cases hq3 : hasF l imsN
    · rw [hq3] at G3
      obtain rfl : o1 = none := N1.out hq3
      clear hq3 N1 P1
      generalize hasF r lmN = q4 at *
      go_enter Tryd.func8, Tryd.ntmps8
      go_wp2_with fail
      refine (G1.out _ HX.out).mono ?_
      rintro e w1 ⟨rfl, hb⟩
      have HD1 := Lib.hid (HD.out.below hb); have HB1 := Lib.hid (HX.out.trans (hb.mono HX.out.size)); clear hb HX HD
      obtain ⟨y0, y1, y2, y3, y4⟩ := HD1.out.five
      go_wp2_with fail
      clear y0 y1 y2 y3 y4
      refine (G3.out _ HB1.out).mono ?_
      rintro e w2 ⟨rfl, hb⟩
      have HD2 := Lib.hid (HD1.out.below hb); have HB2 := Lib.hid (HB1.out.trans (hb.mono HB1.out.size)); clear hb HB1 HD1
      obtain ⟨y0, y1, y2, y3, y4⟩ := HD2.out.five
      go_wp2_with fail
      refine (G4.out _ HB2.out).mono ?_
      rintro e w3 ⟨rfl, hb⟩
      have HB3 := Lib.hid (HB2.out.trans (hb.mono HB2.out.size)); clear hb HB2 HD2
      clear y0 y1 y2 y3 y4
      go_wp2_with fail
      all_goals go_ret
      all_goals exact ⟨ret_bool (by rw [HZ.out]; rfl), HB3.out⟩
    · rw [hq3] at G3
      cases hq4 : hasF r lmN
      · rw [hq4] at G4
        obtain rfl : o2 = none := N2.out hq4
        clear hq3 hq4 N1 N2 P1 P2
        go_enter Tryd.func8, Tryd.ntmps8
        go_wp2_with fail
        refine (G1.out _ HX.out).mono ?_
        rintro e w1 ⟨rfl, hb⟩
        have HD1 := Lib.hid (HD.out.below hb); have HB1 := Lib.hid (HX.out.trans (hb.mono HX.out.size)); clear hb HX HD
        obtain ⟨y0, y1, y2, y3, y4⟩ := HD1.out.five
        go_wp2_with fail
        clear y0 y1 y2 y3 y4
        refine (G3.out _ HB1.out).mono ?_
        rintro e w2 ⟨rfl, hb⟩
        have HD2 := Lib.hid (HD1.out.below hb); have HB2 := Lib.hid (HB1.out.trans (hb.mono HB1.out.size)); clear hb HB1 HD1
        obtain ⟨y0, y1, y2, y3, y4⟩ := HD2.out.five
        go_wp2_with fail
        refine (G4.out _ HB2.out).mono ?_
        rintro e w3 ⟨rfl, hb⟩
        have HB3 := Lib.hid (HB2.out.trans (hb.mono HB2.out.size)); clear hb HB2 HD2
        clear y0 y1 y2 y3 y4
        go_wp2_with fail
        go_ret
        exact ⟨ret_bool (by rw [HZ.out, since_none2]), HB3.out⟩
      · rw [hq4] at G4
        clear hq3 hq4 N1 N2
        go_enter Tryd.func8, Tryd.ntmps8
        go_wp2_with fail
        refine (G1.out _ HX.out).mono ?_
        rintro e w1 ⟨rfl, hb⟩
        have HD1 := Lib.hid (HD.out.below hb); have HB1 := Lib.hid (HX.out.trans (hb.mono HX.out.size)); clear hb HX HD
        obtain ⟨y0, y1, y2, y3, y4⟩ := HD1.out.five
        go_wp2_with fail
        clear y0 y1 y2 y3 y4
        refine (G3.out _ HB1.out).mono ?_
        rintro e w2 ⟨rfl, hb⟩
        have HD2 := Lib.hid (HD1.out.below hb); have HB2 := Lib.hid (HB1.out.trans (hb.mono HB1.out.size)); clear hb HB1 HD1
        obtain ⟨y0, y1, y2, y3, y4⟩ := HD2.out.five
        go_wp2_with fail
        refine (G4.out _ HB2.out).mono ?_
        rintro e w3 ⟨rfl, hb⟩
        have HB3 := Lib.hid (HB2.out.trans (hb.mono HB2.out.size)); clear hb HB2 HD2
        clear y0 y1 y2 y3 y4
        go_wp2_with fail
        refine (P1.out _).mono ?_
        cases o1 with
        | none =>
          unfold ansV
          rintro e w4 ⟨rfl, hb⟩
          have HB4 := Lib.hid (HB3.out.trans (hb.mono HB3.out.size)); clear hb HB3
          go_wp2_with fail
          refine (P2.out _).mono ?_
          cases o2 with
          | none =>
            unfold ansV
            rintro e w5 ⟨rfl, hb⟩
            have HB5 := Lib.hid (HB4.out.trans (hb.mono HB4.out.size)); clear hb HB4
            go_wp2_with fail
            go_ret
            exact ⟨ret_bool (by rw [HZ.out]; rfl), HB5.out⟩
          | some t =>
            unfold ansV
            rintro e w5 ⟨rfl, hb⟩
            have HB5 := Lib.hid (HB4.out.trans (hb.mono HB4.out.size)); clear hb HB4
            go_wp2_with fail
            go_ret
            exact ⟨ret_bool (by rw [HZ.out]; rfl), HB5.out⟩
        | some s =>
          unfold ansV
          rintro e w4 ⟨rfl, hb⟩
          have HB4 := Lib.hid (HB3.out.trans (hb.mono HB3.out.size)); clear hb HB3
          go_wp2_with fail
          refine (P2.out _).mono ?_
          cases o2 with
          | none =>
            unfold ansV
            rintro e w5 ⟨rfl, hb⟩
            have HB5 := Lib.hid (HB4.out.trans (hb.mono HB4.out.size)); clear hb HB4
            go_wp2_with fail
            go_ret
            exact ⟨ret_bool (by rw [HZ.out]; rfl), HB5.out⟩
          | some t =>
            unfold ansV
            rintro e w5 ⟨rfl, hb⟩
            have HB5 := Lib.hid (HB4.out.trans (hb.mono HB4.out.size)); clear hb HB4
            go_wp2_with fail
            go_ret
            exact ⟨ret_bool (by rw [HZ.out]; rfl), HB5.out⟩
  · rw [hq1] at G1
    have HZ : Hid (Z = (star || anyE E (fun x => weakE c x))) := by show _ = _; rw [HQ.out, hq1]; rfl
    clear HQ hq1 N1 N2 P1 P2 G3 G4
    cases star
    · skip
      go_enter Tryd.func8, Tryd.ntmps8
      go_wp2_with fail
      refine (G1.out _ HX.out).mono ?_
      rintro e w1 ⟨rfl, hb⟩
      have HD1 := Lib.hid (HD.out.below hb); have HB1 := Lib.hid (HX.out.trans (hb.mono HX.out.size)); clear hb HX HD
      obtain ⟨y0, y1, y2, y3, y4⟩ := HD1.out.five
      go_wp2_with fail
      refine (G2.out _ HB1.out).mono ?_
      rintro e w2 ⟨rfl, hb⟩
      have HB2 := Lib.hid (HB1.out.trans (hb.mono HB1.out.size)); clear hb HB1 HD1
      clear y0 y1 y2 y3 y4
      go_wp2_with fail
      refine (HLS.out _).mono ?_
      rintro e w3 ⟨v3, rfl, ho, hb⟩
      obtain ⟨A3, c3, rfl⟩ := ho.form
      have HO := Lib.hid ho; have HB3 := Lib.hid (HB2.out.trans (hb.mono HB2.out.size)); clear hb HB2 ho
      go_wp2_with fail
      go_loopw [13] (fun i wr => ∃ k : Nat, k ≤ E.length ∧ i = .int .i64 k ∧ (E.take k).any (fun x => weakE c x) = false ∧ Below w3.heap.size w3 wr) (fun i _ => E.length - (intOf i).toNat)
      case atStart => exact ⟨0, Nat.zero_le _, rfl, rfl, Below.refl _ _⟩
      case round =>
        obtain ⟨k, hk, rfl, ht, hb⟩ := hrel
        have HT := Lib.hid ht; have HB := Lib.hid hb; clear ht hb
        by_cases hlt : k < E.length
        · obtain ⟨b, off, rfl, _, hc⟩ := (HO.out.sl.bel HB.out).get k hlt
          have hf := HWK.out E[k] wr (HLM.out _ (List.getElem_mem hlt))
          cases hw : weakE c E[k]
          · have HR := Lib.hid (any_snocL (p := fun x => weakE c x) hlt HT.out hw)
            rw [hw] at hf
            have HF := Lib.hid hf; clear hf hw
            go_wp2_with fail
            refine HF.out.mono ?_
            rintro e w4 ⟨rfl, hb⟩
            have HB4 := Lib.hid (HB.out.trans (hb.mono HB.out.size)); clear hb
            go_wp2_with fail
            go_roundw
            case rel => exact ⟨k + 1, by omega, by go_num, HR.out, HB4.out⟩
            case measure => simp [intOf]; omega
          · have HR : Hid (anyE E (fun x => weakE c x) = true) := any_isL (p := fun x => weakE c x) hlt hw
            rw [hw] at hf
            have HF := Lib.hid hf; clear hf hw
            go_wp2_with fail
            refine HF.out.mono ?_
            rintro e w4 ⟨rfl, hb⟩
            have HB4 := Lib.hid (HB.out.trans (hb.mono HB.out.size)); clear hb
            go_wp2_with fail
            go_ret
            exact ⟨ret_bool (by rw [HZ.out, HR.out]; rfl), HB3.out.trans (HB4.out.mono HB3.out.size)⟩
        · have HR : Hid (anyE E (fun x => weakE c x) = false) := by
            have h := HT.out
            rw [List.take_of_length_le (by omega)] at h
            exact h
          go_wp2_with fail
          go_ret
          exact ⟨ret_bool (by rw [HZ.out, HR.out]; rfl), HB3.out.trans (HB.out.mono HB3.out.size)⟩
    · skip
      go_enter Tryd.func8, Tryd.ntmps8
      go_wp2_with fail
      refine (G1.out _ HX.out).mono ?_
      rintro e w1 ⟨rfl, hb⟩
      have HD1 := Lib.hid (HD.out.below hb); have HB1 := Lib.hid (HX.out.trans (hb.mono HX.out.size)); clear hb HX HD
      obtain ⟨y0, y1, y2, y3, y4⟩ := HD1.out.five
      go_wp2_with fail
      go_ret
      exact ⟨ret_bool (by rw [HZ.out]; rfl), HB1.out⟩
end Go.Proofs.YtjbkjmceabilaaaDoor
