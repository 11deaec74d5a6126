/- A request and a reply, written by the document. -/
import Derived.Test.YtgkjjmcjlobbpaaGreatDoorKFieldsG
import Derived.Test.YtgkjjmcjlobbpaaGreatDoorKLineG
import Derived.Test.YtgkjjmcjlobbpaaGreatDoorKMsgD
import Derived.Lib.ItoaNum
namespace Go.Proofs.YtgkjjmcjlobbpaaGreatDoor
open Go.RowKit

theorem rof8_any (n : Int) (w : World) (h0 : 0 ≤ n) (h1 : n ≤ 2147483648) :
    Calls Tryz.prog 132 #[.int .i64 n] w fun e w' => e = .returned (.int .i64 n) ∧ w = w' := by
  go_enter Tryz.func132, Tryz.ntmps132
  go_wp2
  all_goals go_ret
  all_goals exact ⟨rfl, rfl⟩
/-- what is left to write, with what is written behind it, is the number's digits -/
def restN (N m : Int) (l : List UInt8) : Prop := 0 ≤ m ∧ m ≤ 2147483648 ∧ (l.length : Int) + m ≤ 2147483648 ∧ Lib.itoa N = Lib.decDigits m.toNat ++ l
theorem restN_more {N m : Int} {l : List UInt8} (h : restN N m l) (h10 : 10 ≤ m) : restN N (m / 10) (UInt8.ofNat (48 + m.toNat % 10) :: l) := by
  obtain ⟨a, b, d, c⟩ := h
  refine ⟨by omega, by omega, by rw [List.length_cons]; omega, ?_⟩
  rw [c, Lib.decDigits, dif_neg (by omega), List.append_assoc, show (m / 10).toNat = m.toNat / 10 from by omega]; rfl
theorem restN_last {N m : Int} {l : List UInt8} (h : restN N m l) (h10 : m < 10) : Lib.itoa N = UInt8.ofNat (48 + m.toNat % 10) :: l := by
  obtain ⟨a, b, d, c⟩ := h
  rw [c, Lib.decDigits, dif_pos (by omega), Nat.mod_eq_of_lt (by omega)]; rfl
/-- a text of one byte, out of a slice literal -/
theorem one8_back (w : World) (c : Int) (h0 : 0 ≤ c) (h1 : c < 256) :
    (convert 50 9 (.slice (some ⟨w.heap.size, 0, none⟩) 1 1)).run Tryz.prog (w.alloc (.cells #[.int .u8 c] 5)) = .ok (.string (bs [UInt8.ofNat c.toNat])) (w.alloc (.cells #[.int .u8 c] 5)) :=
  (ownB_lit w 0 c (UInt8.ofNat c.toNat) (by rw [UInt8.toNat_ofNat']; omega) (Nat.zero_le _)).back
theorem dig8_int (k : Int) (h : 0 ≤ k) : UInt8.ofNat (48 + k % 10).toNat = UInt8.ofNat (48 + k.toNat % 10) := by
  congr 1; omega
theorem ret8_txt {a b : List UInt8} (h : a = b) : Ending.returned (.string (bs a)) = .returned (.string (bs b)) := by rw [h]
set_option maxHeartbeats 1000000 in
set_option maxRecDepth 100000 in
theorem rnum_any (n : Int) (w : World) (h0 : 0 ≤ n) (h1 : n ≤ 2147483648) :
    Calls Tryz.prog 83 #[.int .i64 n] w fun e w' => e = .returned (.string (bs (Lib.itoa n))) ∧ Below w.heap.size w w' := by
  have HP : Hid (restN n n []) := ⟨h0, h1, by simpa using h1, by rw [List.append_nil]; unfold Lib.itoa; rw [if_neg (by omega)]⟩
  go_enter Tryz.func83, Tryz.ntmps83
  go_wp2_with fail
  refine (rof8_any n _ h0 h1).mono ?_
  rintro e w' ⟨rfl, rfl⟩
  go_wp2_with fail
  go_loopw [0, 3] (fun m s wr => ∃ (k : Int) (l : List UInt8), m = .int .i64 k ∧ s = .string (bs l) ∧ Hid (restN n k l) ∧ Below w.heap.size w wr) (fun m _ _ => (intOf m).toNat)
  case atStart => exact ⟨n, [], rfl, rfl, HP.out, Below.refl _ _⟩
  case round =>
    obtain ⟨k, l, rfl, rfl, HR, hb⟩ := hrel
    have k0 := HR.out.1
    have k1 := HR.out.2.1
    have k2 := HR.out.2.2.1
    have k3 : ¬ 9223372036854775807 < 1 + l.length := by omega
    have hcv := one8_back wr (48 + k % 10) (by omega) (by omega)
    have hap := bs_append [UInt8.ofNat (48 + k % 10).toNat] l
    by_cases h10 : k < 10
    · have hz : ((k / 10 : Int) == 0) = true := by rw [beq_iff_eq]; omega
      go_wp2_with fail
      go_ret
      exact ⟨by rw [restN_last HR.out h10, ← dig8_int k k0]; rfl, hb.alloc hb.size _⟩
    · have hz : ((k / 10 : Int) == 0) = false := by rw [beq_eq_false_iff_ne]; omega
      go_wp2_with fail
      go_roundw
      case rel => exact ⟨_, _, rfl, rfl, by rw [dig8_int k k0]; exact restN_more HR.out (by omega), hb.alloc hb.size _⟩
      case measure => simp [intOf]; omega

set_option maxHeartbeats 2000000 in
set_option maxRecDepth 100000 in
theorem rputM_any (st : List UInt8) (v : Value) (l : List Fld) (n : Nat) (most : Int) (tells : Bool) (w : World) (h : FL w v l) (hs : smallF l) (hl : l.length ≤ 100000) (hn : n ≤ 1048576) (hst : st.length ≤ 1048576) (hm : ¬ most < (n : Int)) :
    Calls Tryz.prog 44 #[.string (bs st), v, .int .i64 n, .bool tells] w fun e w' =>
      e = .returned (.tuple #[.string (bs (headP st l n most tells).1), .int .i64 (headP st l n most tells).2]) ∧ Below w.heap.size w w' := by
  have HR : Hid (headP st l n most tells = if checkL (writL l n tells) ≠ 0 then ([], checkL (writL l n tells))
      else if 8192 < (headB st (writL l n tells)).length then ([], 3) else (headB st (writL l n tells), 0)) := if_neg hm
  clear hm
  obtain ⟨A, c, rfl⟩ := h.form
  have HFL := Lib.hid h; have HSM := Lib.hid hs
  clear h hs
  go_enter Tryz.func44, Tryz.ntmps44
  go_wp2_with fail
  have hd1 : Below w.heap.size w (w.alloc (.cells #[.string (bs clN), .string (bs teN)] 9)) := (Below.refl _ _).alloc (by simp) _
  have hsl : SL (w.alloc (.cells #[.string (bs clN), .string (bs teN)] 9)) (.slice (some ⟨w.heap.size, 0, none⟩) 2 2) [clN, teN] := SL_two w clN teN
  have HB1 := Lib.hid hd1; have HSL := Lib.hid hsl
  clear hd1 hsl
  have hlen : bs clN = ⟨#[99, 111, 110, 116, 101, 110, 116, 45, 108, 101, 110, 103, 116, 104]⟩ := rfl
  have hcod : bs teN = ⟨#[116, 114, 97, 110, 115, 102, 101, 114, 45, 101, 110, 99, 111, 100, 105, 110, 103]⟩ := rfl
  rw [hlen, hcod] at HB1 HSL
  clear hlen hcod
  generalize w.alloc (.cells #[.string ⟨#[99, 111, 110, 116, 101, 110, 116, 45, 108, 101, 110, 103, 116, 104]⟩, .string ⟨#[116, 114, 97, 110, 115, 102, 101, 114, 45, 101, 110, 99, 111, 100, 105, 110, 103]⟩] 9) = w1 at *
  refine (rdel_any _ _ l [clN, teN] w1 (HFL.out.bel HB1.out) HSL.out HSM.out (Nat.le_trans hl (by decide)) (by simp [clN, teN]) (by simp)).mono ?_
  rintro e w2 ⟨v2, rfl, ho2, hb2⟩
  obtain ⟨A2, c2, rfl⟩ := ho2.form
  have HO2 := Lib.hid ho2
  have HB2 := Lib.hid (HB1.out.trans (hb2.mono HB1.out.size))
  have HSM2 : Hid (smallF (delL l [clN, teN])) := smallF_filter HSM.out _
  have HDL := Lib.hid (Nat.le_trans (del_len l [clN, teN]) hl)
  have HZ12 := Lib.hid hb2.size; have HZ1 := Lib.hid HB1.out.size
  clear ho2 hb2 HSL HB1 HFL
  cases tells
  · have HML : Hid (writL l n false = delL l [clN, teN]) := by show _ = _; unfold writL; simp
    have HO3 := Lib.hid HO2.out; have HB3 := Lib.hid HB2.out; have HSM3 := Lib.hid HSM2.out; have HLN : Hid ((delL l [clN, teN]).length ≤ 100001) := Nat.le_trans HDL.out (by decide)
    clear HO2 HB2 HSM2 HDL HZ1 HZ12
    generalize delL l [clN, teN] = M at *
    obtain ⟨w3, hw3⟩ : ∃ w3, w3 = w2 := ⟨_, rfl⟩
    subst hw3
    have HCK := Lib.hid (rcheck_any _ M w3 HO3.out.fl HSM3.out (Nat.le_trans HLN.out (by decide)))
    have HQ : Hid (headP st l n most false = if checkL M ≠ 0 then ([], checkL M) else if 8192 < (headB st M).length then ([], 3) else (headB st M, 0)) := by have h := HR.out; rw [HML.out] at h; exact h
    clear HR
    generalize checkL M = q at *
    by_cases hq : q = 0
    · have HQ2 : Hid (headP st l n most false = if 8192 < (headB st M).length then ([], 3) else (headB st M, 0)) := by have h := HQ.out; rw [if_neg (by rw [hq]; decide)] at h; exact h
      subst hq
      have hpl := put_len M
      have HLB := Lib.hid (headB_len st M)
      have hXX : headB st M = st ++ [13, 10] ++ putL M ++ [13, 10] := rfl
      have HPT := Lib.hid (fun W (hw : Below w3.heap.size w3 W) => rput_any _ M W (HO3.out.fl.bel hw) HSM3.out (Nat.le_trans HLN.out (by decide)))
      clear HQ
      generalize putL M = P at *
      have s1 := fun w => add_l st [13, 10] w (by simp only [List.length_cons, List.length_nil]; omega)
      have s2 := fun w => add_l (st ++ [13, 10]) P w (by simp only [List.length_append, List.length_cons, List.length_nil]; omega)
      have s3 := fun w => add_l (st ++ [13, 10] ++ P) [13, 10] w (by simp only [List.length_append, List.length_cons, List.length_nil]; omega)
      rw [show bs [13, 10] = ⟨#[13, 10]⟩ from rfl] at s1 s3
      rw [← hXX] at s3
      have HS3 := Lib.hid s3
      generalize headB st M = X at *
      have hxs : (bs X).size = X.length := bs_size X
      have HXL := Lib.hid hxs
      clear hXX hxs s3
      generalize st ++ [13, 10] ++ P = Y at *
      have s3 := HS3.out
      by_cases hx : 8192 < X.length
      · have HF : Hid (headP st l n most false = ([], 3)) := HQ2.out.trans (if_pos hx)
        clear HQ2
        go_wp2_with fail
        refine HCK.out.mono ?_
        rintro e w4 ⟨rfl, hb4⟩
        have HB4 := Lib.hid (HB3.out.trans (hb4.mono HB3.out.size)); have HC4 := Lib.hid hb4
        clear hb4
        go_wp2_with fail
        refine (HPT.out _ HC4.out).mono ?_
        rintro e w5 ⟨rfl, hb5⟩
        have HB5 := Lib.hid (HB4.out.trans (hb5.mono HB4.out.size))
        clear hb5
        go_wp2_with fail
        go_ret2
        exact ⟨by rw [HF.out]; rfl, HB5.out⟩
      · have HF : Hid (headP st l n most false = (X, 0)) := HQ2.out.trans (if_neg hx)
        clear HQ2
        go_wp2_with fail
        refine HCK.out.mono ?_
        rintro e w4 ⟨rfl, hb4⟩
        have HB4 := Lib.hid (HB3.out.trans (hb4.mono HB3.out.size)); have HC4 := Lib.hid hb4
        clear hb4
        go_wp2_with fail
        refine (HPT.out _ HC4.out).mono ?_
        rintro e w5 ⟨rfl, hb5⟩
        have HB5 := Lib.hid (HB4.out.trans (hb5.mono HB4.out.size))
        clear hb5
        go_wp2_with fail
        go_ret2
        exact ⟨by rw [HF.out]; rfl, HB5.out⟩
    · have HF : Hid (headP st l n most false = ([], q)) := HQ.out.trans (if_pos hq)
      have hd2 : (q != 0) = true := bne_iff_ne.2 hq
      clear HQ hq
      go_wp2_with fail
      refine HCK.out.mono ?_
      rintro e w4 ⟨rfl, hb4⟩
      have HB4 := Lib.hid (HB3.out.trans (hb4.mono HB3.out.size))
      clear hb4
      go_wp2_with fail
      go_ret2
      exact ⟨by rw [HF.out]; rfl, HB4.out⟩
  · have HML : Hid (writL l n true = delL l [clN, teN] ++ [(lenN, Lib.itoa n)]) := rfl
    generalize delL l [clN, teN] = D at *
    have hsm1 : smallF [(lenN, Lib.itoa (n : Int))] := fun j hj => by
      have : j = 0 := by simpa using hj
      subst this
      exact ⟨by simp [lenN], Nat.le_trans (Lib.itoa_length_le (n : Int) (by omega) (by omega)) (by decide)⟩
    have HSM3 : Hid (smallF (D ++ [(lenN, Lib.itoa (n : Int))])) := smallF_app HSM2.out hsm1
    have HLN : Hid ((D ++ [(lenN, Lib.itoa (n : Int))]).length ≤ 100001) := by show _ ≤ _; have := HDL.out; simp; omega
    clear hsm1 HSM2
    go_wp2_with fail
    refine (rnum_any (n : Int) w2 (by omega) (by omega)).mono ?_
    rintro e w2' ⟨rfl, hbi⟩
    have HO2' := Lib.hid (HO2.out.bel hbi)
    have HB2' := Lib.hid (HB2.out.trans (hbi.mono HB2.out.size))
    have HZ2' := Lib.hid (Nat.le_trans HZ12.out hbi.size)
    clear hbi HO2 HB2
    generalize Lib.itoa (n : Int) = N at *
    have HDN : Hid (D.length + 1 ≤ 4294967296) := by show _ ≤ _; have := HDL.out; omega
    go_wp2_with (at_builtin; refine wpList_appF rfl (.tmp 17) (.tmp 21) rfl w1.heap.size w.heap.size _ _ lenN N rfl HO2'.out HB2'.out HZ1.out HZ2'.out rfl HDN.out ?_; intro v3 w3 HO3 HB3 _; clear HO2' HB2' HZ2' HZ1 HZ12 HDN HDL)
    obtain ⟨M, hM⟩ : ∃ M, M = D ++ [(lenN, N)] := ⟨_, rfl⟩
    rw [← hM] at HML HSM3 HLN HO3
    clear hM
    have HCK := Lib.hid (rcheck_any _ M w3 HO3.out.fl HSM3.out (Nat.le_trans HLN.out (by decide)))
    have HQ : Hid (headP st l n most true = if checkL M ≠ 0 then ([], checkL M) else if 8192 < (headB st M).length then ([], 3) else (headB st M, 0)) := by have h := HR.out; rw [HML.out] at h; exact h
    clear HR
    generalize checkL M = q at *
    by_cases hq : q = 0
    · have HQ2 : Hid (headP st l n most true = if 8192 < (headB st M).length then ([], 3) else (headB st M, 0)) := by have h := HQ.out; rw [if_neg (by rw [hq]; decide)] at h; exact h
      subst hq
      have hpl := put_len M
      have HLB := Lib.hid (headB_len st M)
      have hXX : headB st M = st ++ [13, 10] ++ putL M ++ [13, 10] := rfl
      have HPT := Lib.hid (fun W (hw : Below w3.heap.size w3 W) => rput_any _ M W (HO3.out.fl.bel hw) HSM3.out (Nat.le_trans HLN.out (by decide)))
      clear HQ
      generalize putL M = P at *
      have s1 := fun w => add_l st [13, 10] w (by simp only [List.length_cons, List.length_nil]; omega)
      have s2 := fun w => add_l (st ++ [13, 10]) P w (by simp only [List.length_append, List.length_cons, List.length_nil]; omega)
      have s3 := fun w => add_l (st ++ [13, 10] ++ P) [13, 10] w (by simp only [List.length_append, List.length_cons, List.length_nil]; omega)
      rw [show bs [13, 10] = ⟨#[13, 10]⟩ from rfl] at s1 s3
      rw [← hXX] at s3
      have HS3 := Lib.hid s3
      generalize headB st M = X at *
      have hxs : (bs X).size = X.length := bs_size X
      have HXL := Lib.hid hxs
      clear hXX hxs s3
      generalize st ++ [13, 10] ++ P = Y at *
      have s3 := HS3.out
      by_cases hx : 8192 < X.length
      · have HF : Hid (headP st l n most true = ([], 3)) := HQ2.out.trans (if_pos hx)
        clear HQ2
        refine HCK.out.mono ?_
        rintro e w4 ⟨rfl, hb4⟩
        have HB4 := Lib.hid (HB3.out.trans (hb4.mono HB3.out.size)); have HC4 := Lib.hid hb4
        clear hb4
        go_wp2_with fail
        refine (HPT.out _ HC4.out).mono ?_
        rintro e w5 ⟨rfl, hb5⟩
        have HB5 := Lib.hid (HB4.out.trans (hb5.mono HB4.out.size))
        clear hb5
        go_wp2_with fail
        go_ret2
        exact ⟨by rw [HF.out]; rfl, HB5.out⟩
      · have HF : Hid (headP st l n most true = (X, 0)) := HQ2.out.trans (if_neg hx)
        clear HQ2
        refine HCK.out.mono ?_
        rintro e w4 ⟨rfl, hb4⟩
        have HB4 := Lib.hid (HB3.out.trans (hb4.mono HB3.out.size)); have HC4 := Lib.hid hb4
        clear hb4
        go_wp2_with fail
        refine (HPT.out _ HC4.out).mono ?_
        rintro e w5 ⟨rfl, hb5⟩
        have HB5 := Lib.hid (HB4.out.trans (hb5.mono HB4.out.size))
        clear hb5
        go_wp2_with fail
        go_ret2
        exact ⟨by rw [HF.out]; rfl, HB5.out⟩
    · have HF : Hid (headP st l n most true = ([], q)) := HQ.out.trans (if_pos hq)
      have hd2 : (q != 0) = true := bne_iff_ne.2 hq
      clear HQ hq
      refine HCK.out.mono ?_
      rintro e w4 ⟨rfl, hb4⟩
      have HB4 := Lib.hid (HB3.out.trans (hb4.mono HB3.out.size))
      clear hb4
      go_wp2_with fail
      go_ret2
      exact ⟨by rw [HF.out]; rfl, HB4.out⟩

set_option maxHeartbeats 2000000 in
set_option maxRecDepth 100000 in
theorem rmsgPutQ_any (m t b : List UInt8) (n : Int) (v : Value) (l : List Fld) (w : World) (h : FL w v l) (hs : smallF l) (hl : l.length ≤ 100000) (hm : m.length ≤ 1048576) (ht : t.length ≤ 1048576) (hb : b.length ≤ 1048576) :
    Calls Tryz.prog 19 #[.agg #[.string (bs m), .string (bs t), .int .i64 n, v, .string (bs b)]] w fun e w' =>
      e = .returned (.tuple #[.string (bs (putQ m t n l b).1), .int .i64 (putQ m t n l b).2]) ∧ Below w.heap.size w w' := by
  obtain ⟨A, c, rfl⟩ := h.form
  have hal : Below w.heap.size w (w.alloc (.cells #[.string (bs m), .string (bs t), .int .i64 n, .slice A l.length c, .string (bs b)] 25)) := (Below.refl _ _).alloc (Nat.le_refl _) _
  have hp := blk.new w #[.string (bs m), .string (bs t), .int .i64 n, .slice A l.length c, .string (bs b)] 25
  have hq : Calls Tryz.prog 43 #[.string (bs m), .string (bs t), .int .i64 n] (w.alloc (.cells #[.string (bs m), .string (bs t), .int .i64 n, .slice A l.length c, .string (bs b)] 25)) fun e w' =>
      e = .returned (.tuple #[.string (bs (putRL m t n)), .int .i64 (putRQ m t n)]) ∧ Below (w.alloc (.cells #[.string (bs m), .string (bs t), .int .i64 n, .slice A l.length c, .string (bs b)] 25)).heap.size (w.alloc (.cells #[.string (bs m), .string (bs t), .int .i64 n, .slice A l.length c, .string (bs b)] 25)) w' :=
    (rputRequest_any (bs m) (bs t) n (w.alloc (.cells #[.string (bs m), .string (bs t), .int .i64 n, .slice A l.length c, .string (bs b)] 25)) (by rw [bs_size]; exact hm) (by rw [bs_size]; exact ht)).mono (by
      rw [bs_data, bs_data]
      rintro e w' ⟨he, rfl⟩
      exact ⟨he, Below.refl _ _⟩)
  have c0 := hp.cell 0 _ rfl
  have c1 := hp.cell 1 _ rfl
  have c2 := hp.cell 2 _ rfl
  have c3 := hp.cell 3 _ rfl
  have c4 := hp.cell 4 _ rfl
  have HP := Lib.hid hp; have HAL := Lib.hid hal; have HQ := Lib.hid hq; have HFL := Lib.hid (h.bel hal)
  have HSM := Lib.hid hs
  clear hp hal hq h hs
  by_cases hz : putRQ m t n = 0
  · have HR : Hid (putQ m t n l b = if (headP (putRL m t n) l b.length 65536 (tellQ m b)).2 ≠ 0 then ([], (headP (putRL m t n) l b.length 65536 (tellQ m b)).2) else ((headP (putRL m t n) l b.length 65536 (tellQ m b)).1 ++ b, 0)) := if_neg (by rw [hz]; decide)
    rw [hz] at HQ
    have hst : (putRL m t n).length ≤ 1048576 := by
      unfold putRL; rw [if_pos hz]
      exact Nat.le_trans (putRQ_0 hz).2.2.2.2 (by decide)
    clear hz
    by_cases hbig : 65536 < (b.length : Int)
    · have HF : Hid (putQ m t n l b = ([], 3)) := by
        have h := HR.out
        rw [show headP (putRL m t n) l b.length 65536 (tellQ m b) = ([], 3) from if_pos hbig, if_pos (by decide)] at h
        exact h
      clear HR
      generalize putRL m t n = ST at *
      go_enter Tryz.func19, Tryz.ntmps19
      go_wp2_with fail
      refine HQ.out.mono ?_
      rintro e w2 ⟨rfl, hb2⟩
      have hp2 := HP.out.below hb2
      have d4 := hp2.cell 4 _ rfl
      have HB2 := Lib.hid (HAL.out.trans (hb2.mono HAL.out.size))
      clear hp2 hb2
      go_wp2_with fail
      go_ret2
      exact ⟨by rw [HF.out]; rfl, HB2.out⟩
    · have hhl := headP_len (putRL m t n) l b.length 65536 (tellQ m b)
      have HHD := Lib.hid (fun W hf => rputM_any (putRL m t n) (.slice A l.length c) l b.length 65536 (tellQ m b) W hf HSM.out hl hb hst hbig)
      have HTQ : Hid (tellQ m b = ((m == [80, 79, 83, 84] || (m == [80, 85, 84] || m == [80, 65, 84, 67, 72])) || !b.isEmpty)) := rfl
      generalize headP (putRL m t n) l b.length 65536 (tellQ m b) = H at *
      generalize putRL m t n = ST at *
      generalize tellQ m b = TQ at *
      obtain ⟨h1, h2⟩ := H
      simp only at hhl
      have hlen : h1.length + b.length ≤ 9223372036854775807 := by omega
      have hadd := fun w => add_l h1 b w hlen
      have em : (bs m).toList = m := by rw [Lib.toList_data, bs_data]
      have eb : (bs b).toList = b := by rw [Lib.toList_data, bs_data]
      generalize hM1 : (m == [80, 79, 83, 84]) = M1 at *
      generalize hM2 : (m == [80, 85, 84]) = M2 at *
      generalize hM3 : (m == [80, 65, 84, 67, 72]) = M3 at *
      generalize hM0 : b.isEmpty = M0 at *
      have f1 : ((bs m).toList == [80, 79, 83, 84]) = M1 := by rw [em]; exact hM1
      have f2 : ((bs m).toList == [80, 85, 84]) = M2 := by rw [em]; exact hM2
      have f3 : ((bs m).toList == [80, 65, 84, 67, 72]) = M3 := by rw [em]; exact hM3
      have f0 : (bs b).toList.isEmpty = M0 := by rw [eb]; exact hM0
      clear em eb hM1 hM2 hM3 hM0 hlen hhl hst
      have key : ∀ (Q : Prop), ((M0 = false ∨ (M0 = true ∧ (M1 = true ∨ (M1 = false ∧ (M2 = true ∨ (M2 = false ∧ (M3 = true ∨ M3 = false))))))) → Q) → Q := by
        intro Q h
        apply h
        cases M0 <;> cases M1 <;> cases M2 <;> cases M3 <;> simp
      apply key
      clear key
      intro hcase
      by_cases hz2 : h2 = 0
      · subst hz2
        have HF : Hid (putQ m t n l b = (h1 ++ b, 0)) := HR.out.trans (if_neg (by simp))
        clear HR
        rcases hcase with rfl | ⟨rfl, rfl | ⟨rfl, rfl | ⟨rfl, rfl | rfl⟩⟩⟩
        all_goals
          try simp only [Bool.or_false, Bool.or_true, Bool.true_or, Bool.not_true, Bool.not_false] at HTQ
          have htq := HTQ.out
          subst htq
          go_enter Tryz.func19, Tryz.ntmps19
          go_wp2_with fail
          refine HQ.out.mono ?_
          rintro e w2 ⟨rfl, hb2⟩
          have hp2 := HP.out.below hb2
          have d0 := hp2.cell 0 _ rfl
          have d3 := hp2.cell 3 _ rfl
          have d4 := hp2.cell 4 _ rfl
          have HB2 := Lib.hid (HAL.out.trans (hb2.mono HAL.out.size)); have HP2 := Lib.hid hp2
          have HH2 := Lib.hid (HHD.out w2 (HFL.out.bel hb2))
          clear hb2 hp2
          go_wp2_with fail
          refine HH2.out.mono ?_
          rintro e w4 ⟨rfl, hb4⟩
          have HB4 := Lib.hid (HB2.out.trans (hb4.mono HB2.out.size))
          have d4' := (HP2.out.below hb4).cell 4 _ rfl
          clear hb4 d0 d3 d4
          go_wp2_with fail
          go_ret2
          exact ⟨by rw [HF.out]; rfl, HB4.out⟩
      · have HF : Hid (putQ m t n l b = ([], h2)) := HR.out.trans (if_pos hz2)
        have hd : (h2 != 0) = true := bne_iff_ne.2 hz2
        clear HR hz2
        rcases hcase with rfl | ⟨rfl, rfl | ⟨rfl, rfl | ⟨rfl, rfl | rfl⟩⟩⟩
        all_goals
          try simp only [Bool.or_false, Bool.or_true, Bool.true_or, Bool.not_true, Bool.not_false] at HTQ
          have htq := HTQ.out
          subst htq
          go_enter Tryz.func19, Tryz.ntmps19
          go_wp2_with fail
          refine HQ.out.mono ?_
          rintro e w2 ⟨rfl, hb2⟩
          have hp2 := HP.out.below hb2
          have d0 := hp2.cell 0 _ rfl
          have d3 := hp2.cell 3 _ rfl
          have d4 := hp2.cell 4 _ rfl
          have HB2 := Lib.hid (HAL.out.trans (hb2.mono HAL.out.size))
          have HH2 := Lib.hid (HHD.out w2 (HFL.out.bel hb2))
          clear hb2 hp2
          go_wp2_with fail
          refine HH2.out.mono ?_
          rintro e w4 ⟨rfl, hb4⟩
          have HB4 := Lib.hid (HB2.out.trans (hb4.mono HB2.out.size))
          clear hb4 d0 d3 d4
          go_wp2_with fail
          go_ret2
          exact ⟨by rw [HF.out]; rfl, HB4.out⟩
  · have HR : Hid (putQ m t n l b = ([], putRQ m t n)) := if_pos hz
    have hd : (putRQ m t n != 0) = true := bne_iff_ne.2 hz
    clear hz
    generalize putRQ m t n = q at *
    go_enter Tryz.func19, Tryz.ntmps19
    go_wp2_with fail
    refine HQ.out.mono ?_
    rintro e w2 ⟨rfl, hb2⟩
    have HB2 := Lib.hid (HAL.out.trans (hb2.mono HAL.out.size))
    clear hb2
    go_wp2_with fail
    go_ret2
    exact ⟨by rw [HR.out]; rfl, HB2.out⟩
end Go.Proofs.YtgkjjmcjlobbpaaGreatDoor

/- A reply, written by the document. -/
namespace Go.Proofs.YtgkjjmcjlobbpaaGreatDoor
open Go.RowKit
set_option maxHeartbeats 4000000 in
set_option maxRecDepth 100000 in
theorem rmsgPutY_any (c0 n : Int) (r b : List UInt8) (d : Bool) (v : Value) (l : List Fld) (w : World) (h : FL w v l) (hs : smallF l) (hl : l.length ≤ 100000) (hr : r.length ≤ 1048576) (hb : b.length ≤ 1048576) :
    Calls Tryz.prog 21 #[.agg #[.int .i64 c0, .string (bs r), .int .i64 n, v, .string (bs b)], .bool d] w fun e w' =>
      e = .returned (.tuple #[.string (bs (putY c0 r n l b d).1), .int .i64 (putY c0 r n l b d).2]) ∧ Below w.heap.size w w' := by
  obtain ⟨A, c, rfl⟩ := h.form
  have hal : Below w.heap.size w (w.alloc (.cells #[.int .i64 c0, .string (bs r), .int .i64 n, .slice A l.length c, .string (bs b)] 32)) := (Below.refl _ _).alloc (Nat.le_refl _) _
  have hp := blk.new w #[.int .i64 c0, .string (bs r), .int .i64 n, .slice A l.length c, .string (bs b)] 32
  have hq := rputStatus_any c0 (bs r) n (w.alloc (.cells #[.int .i64 c0, .string (bs r), .int .i64 n, .slice A l.length c, .string (bs b)] 32)) (by rw [bs_size]; exact hr)
  rw [bs_data] at hq
  have c00 := hp.cell 0 _ rfl
  have c1 := hp.cell 1 _ rfl
  have c2 := hp.cell 2 _ rfl
  have c3 := hp.cell 3 _ rfl
  have c4 := hp.cell 4 _ rfl
  have HP := Lib.hid hp; have HAL := Lib.hid hal; have HQ := Lib.hid hq; have HFL := Lib.hid (h.bel hal)
  have HSM := Lib.hid hs
  clear hp hal hq h hs
  by_cases hz : putSQ c0 r n = 0
  · have HR : Hid (putY c0 r n l b d = if (!b.isEmpty && bareB c0) = true then ([], 2)
        else if (headP (putSL c0 r n) l b.length 262144 (!bareB c0)).2 ≠ 0 then ([], (headP (putSL c0 r n) l b.length 262144 (!bareB c0)).2)
        else if d then ((headP (putSL c0 r n) l b.length 262144 (!bareB c0)).1, 0) else ((headP (putSL c0 r n) l b.length 262144 (!bareB c0)).1 ++ b, 0)) := if_neg (by rw [hz]; decide)
    rw [hz] at HQ
    have hst : (putSL c0 r n).length ≤ 1048576 := by
      unfold putSL; rw [if_pos hz]
      exact Nat.le_trans (putSQ_0 hz).2.2.2 (by decide)
    clear hz
    have eb : (bs b).toList = b := by rw [Lib.toList_data, bs_data]
    generalize hM0 : b.isEmpty = M0 at *
    have f0 : (bs b).toList.isEmpty = M0 := by rw [eb]; exact hM0
    clear eb hM0
    have HBB : Hid (bareB c0 = ((decide (100 ≤ c0) && decide (c0 ≤ 199)) || (c0 == 204 || c0 == 304))) := rfl
    have hcase : (bareB c0 = true ∧ ((decide (100 ≤ c0) = true ∧ decide (c0 ≤ 199) = true) ∨ (decide (100 ≤ c0) = false ∧ (c0 == 204) = true) ∨ (decide (100 ≤ c0) = false ∧ (c0 == 204) = false ∧ (c0 == 304) = true) ∨
          (decide (100 ≤ c0) = true ∧ decide (c0 ≤ 199) = false ∧ (c0 == 204) = true) ∨ (decide (100 ≤ c0) = true ∧ decide (c0 ≤ 199) = false ∧ (c0 == 204) = false ∧ (c0 == 304) = true))) ∨
        (bareB c0 = false ∧ ((decide (100 ≤ c0) = false ∧ (c0 == 204) = false ∧ (c0 == 304) = false) ∨ (decide (100 ≤ c0) = true ∧ decide (c0 ≤ 199) = false ∧ (c0 == 204) = false ∧ (c0 == 304) = false))) := by
      rw [HBB.out]
      cases decide (100 ≤ c0) <;> cases decide (c0 ≤ 199) <;> cases (c0 == 204) <;> cases (c0 == 304) <;> simp
    clear HBB
    by_cases hbig : 262144 < (b.length : Int)
    · have hH : ∀ t, headP (putSL c0 r n) l b.length 262144 t = ([], 3) := fun t => if_pos hbig
      have HR3 : Hid (putY c0 r n l b d = if (!M0 && bareB c0) = true then ([], 2) else ([], 3)) := by
        have h := HR.out
        rw [hH, if_pos (show ¬ (([], 3) : List UInt8 × Int).2 = 0 by decide)] at h
        exact h
      clear HR hH
      generalize putSL c0 r n = ST at *
      rcases hcase with ⟨hB, hcase⟩ | ⟨hB, hcase⟩
      · cases M0
        · have HF : Hid (putY c0 r n l b d = ([], 2)) := by have h := HR3.out; rw [hB, if_pos (by rfl)] at h; exact h
          clear HR3 hB
          rcases hcase with ⟨p1, p2⟩ | ⟨p1, p2⟩ | ⟨p1, p2, p3⟩ | ⟨p1, p2, p3⟩ | ⟨p1, p2, p3, p4⟩
          all_goals
            go_enter Tryz.func21, Tryz.ntmps21
            go_wp2_with fail
            refine HQ.out.mono ?_
            rintro e w2 ⟨rfl, hb2⟩
            have hp2 := HP.out.below hb2
            have d0 := hp2.cell 0 _ rfl
            have d3 := hp2.cell 3 _ rfl
            have d4 := hp2.cell 4 _ rfl
            have HB2 := Lib.hid (HAL.out.trans (hb2.mono HAL.out.size)); have HP2 := Lib.hid hp2
            clear hp2 hb2
            go_wp2_with fail
            go_ret2
            exact ⟨by rw [HF.out]; rfl, HB2.out⟩
        · have HF : Hid (putY c0 r n l b d = ([], 3)) := by have h := HR3.out; rw [if_neg (by simp)] at h; exact h
          clear HR3 hB
          rcases hcase with ⟨p1, p2⟩ | ⟨p1, p2⟩ | ⟨p1, p2, p3⟩ | ⟨p1, p2, p3⟩ | ⟨p1, p2, p3, p4⟩
          all_goals
            go_enter Tryz.func21, Tryz.ntmps21
            go_wp2_with fail
            refine HQ.out.mono ?_
            rintro e w2 ⟨rfl, hb2⟩
            have hp2 := HP.out.below hb2
            have d0 := hp2.cell 0 _ rfl
            have d3 := hp2.cell 3 _ rfl
            have d4 := hp2.cell 4 _ rfl
            have HB2 := Lib.hid (HAL.out.trans (hb2.mono HAL.out.size)); have HP2 := Lib.hid hp2
            clear hp2 hb2
            go_wp2_with fail
            go_ret2
            exact ⟨by rw [HF.out]; rfl, HB2.out⟩
      · have HF : Hid (putY c0 r n l b d = ([], 3)) := by have h := HR3.out; rw [hB, if_neg (by simp)] at h; exact h
        clear HR3 hB
        rcases hcase with ⟨p1, p2, p3⟩ | ⟨p1, p2, p3, p4⟩
        all_goals
          go_enter Tryz.func21, Tryz.ntmps21
          go_wp2_with fail
          refine HQ.out.mono ?_
          rintro e w2 ⟨rfl, hb2⟩
          have hp2 := HP.out.below hb2
          have d0 := hp2.cell 0 _ rfl
          have d3 := hp2.cell 3 _ rfl
          have d4 := hp2.cell 4 _ rfl
          have HB2 := Lib.hid (HAL.out.trans (hb2.mono HAL.out.size)); have HP2 := Lib.hid hp2
          clear hp2 hb2
          go_wp2_with fail
          go_ret2
          exact ⟨by rw [HF.out]; rfl, HB2.out⟩
    · have hhl := headP_len (putSL c0 r n) l b.length 262144 (!bareB c0)
      have HHD := Lib.hid (fun W hf => rputM_any (putSL c0 r n) (.slice A l.length c) l b.length 262144 (!bareB c0) W hf HSM.out hl hb hst hbig)
      generalize headP (putSL c0 r n) l b.length 262144 (!bareB c0) = H at *
      generalize putSL c0 r n = ST at *
      obtain ⟨h1, h2⟩ := H
      simp only at hhl
      have hlen : h1.length + b.length ≤ 9223372036854775807 := by omega
      have hadd := fun w => add_l h1 b w hlen
      clear hlen hhl hst
      rcases hcase with ⟨hB, hcase⟩ | ⟨hB, hcase⟩
      · rw [hB, Bool.not_true] at HHD
        cases M0
        · have HF : Hid (putY c0 r n l b d = ([], 2)) := by have h := HR.out; rw [hB, if_pos (by rfl)] at h; exact h
          clear HR hB HHD
          rcases hcase with ⟨p1, p2⟩ | ⟨p1, p2⟩ | ⟨p1, p2, p3⟩ | ⟨p1, p2, p3⟩ | ⟨p1, p2, p3, p4⟩
          all_goals
            go_enter Tryz.func21, Tryz.ntmps21
            go_wp2_with fail
            refine HQ.out.mono ?_
            rintro e w2 ⟨rfl, hb2⟩
            have hp2 := HP.out.below hb2
            have d0 := hp2.cell 0 _ rfl
            have d3 := hp2.cell 3 _ rfl
            have d4 := hp2.cell 4 _ rfl
            have HB2 := Lib.hid (HAL.out.trans (hb2.mono HAL.out.size)); have HP2 := Lib.hid hp2
            clear hp2 hb2
            go_wp2_with fail
            go_ret2
            exact ⟨by rw [HF.out]; rfl, HB2.out⟩
        · have HR2 : Hid (putY c0 r n l b d = if h2 ≠ 0 then ([], h2) else if d then (h1, 0) else (h1 ++ b, 0)) := by have h := HR.out; rw [if_neg (by simp)] at h; exact h
          clear hB
          rcases hcase with ⟨p1, p2⟩ | ⟨p1, p2⟩ | ⟨p1, p2, p3⟩ | ⟨p1, p2, p3⟩ | ⟨p1, p2, p3, p4⟩
          all_goals
            by_cases hz2 : h2 = 0
            · subst hz2
              cases d
              · have HF : Hid (putY c0 r n l b false = (h1 ++ b, 0)) := by have h := HR2.out; rw [if_neg (by simp)] at h; exact h
                clear HR2 HR
                go_enter Tryz.func21, Tryz.ntmps21
                go_wp2_with fail
                refine HQ.out.mono ?_
                rintro e w2 ⟨rfl, hb2⟩
                have hp2 := HP.out.below hb2
                have d0 := hp2.cell 0 _ rfl
                have d3 := hp2.cell 3 _ rfl
                have d4 := hp2.cell 4 _ rfl
                have HB2 := Lib.hid (HAL.out.trans (hb2.mono HAL.out.size)); have HP2 := Lib.hid hp2
                have HH2 := Lib.hid (HHD.out w2 (HFL.out.bel hb2))
                clear hb2 hp2
                go_wp2_with fail
                refine HH2.out.mono ?_
                rintro e w4 ⟨rfl, hb4⟩
                have HB4 := Lib.hid (HB2.out.trans (hb4.mono HB2.out.size))
                have d4' := (HP2.out.below hb4).cell 4 _ rfl
                clear hb4 d0 d3 d4
                go_wp2_with fail
                go_ret2
                exact ⟨by rw [HF.out]; rfl, HB4.out⟩
              · have HF : Hid (putY c0 r n l b true = (h1, 0)) := by have h := HR2.out; rw [if_neg (by simp)] at h; exact h
                clear HR2 HR
                go_enter Tryz.func21, Tryz.ntmps21
                go_wp2_with fail
                refine HQ.out.mono ?_
                rintro e w2 ⟨rfl, hb2⟩
                have hp2 := HP.out.below hb2
                have d0 := hp2.cell 0 _ rfl
                have d3 := hp2.cell 3 _ rfl
                have d4 := hp2.cell 4 _ rfl
                have HB2 := Lib.hid (HAL.out.trans (hb2.mono HAL.out.size)); have HP2 := Lib.hid hp2
                have HH2 := Lib.hid (HHD.out w2 (HFL.out.bel hb2))
                clear hb2 hp2
                go_wp2_with fail
                refine HH2.out.mono ?_
                rintro e w4 ⟨rfl, hb4⟩
                have HB4 := Lib.hid (HB2.out.trans (hb4.mono HB2.out.size))
                have d4' := (HP2.out.below hb4).cell 4 _ rfl
                clear hb4 d0 d3 d4
                go_wp2_with fail
                go_ret2
                exact ⟨by rw [HF.out]; rfl, HB4.out⟩
            · have HF : Hid (putY c0 r n l b d = ([], h2)) := HR2.out.trans (if_pos hz2)
              have hd : (h2 != 0) = true := bne_iff_ne.2 hz2
              clear HR2 HR hz2
              go_enter Tryz.func21, Tryz.ntmps21
              go_wp2_with fail
              refine HQ.out.mono ?_
              rintro e w2 ⟨rfl, hb2⟩
              have hp2 := HP.out.below hb2
              have d0 := hp2.cell 0 _ rfl
              have d3 := hp2.cell 3 _ rfl
              have d4 := hp2.cell 4 _ rfl
              have HB2 := Lib.hid (HAL.out.trans (hb2.mono HAL.out.size)); have HP2 := Lib.hid hp2
              have HH2 := Lib.hid (HHD.out w2 (HFL.out.bel hb2))
              clear hb2 hp2
              go_wp2_with fail
              refine HH2.out.mono ?_
              rintro e w4 ⟨rfl, hb4⟩
              have HB4 := Lib.hid (HB2.out.trans (hb4.mono HB2.out.size))
              have d4' := (HP2.out.below hb4).cell 4 _ rfl
              clear hb4 d0 d3 d4
              go_wp2_with fail
              go_ret2
              exact ⟨by rw [HF.out]; rfl, HB4.out⟩
      · rw [hB, Bool.not_false] at HHD
        have HR2 : Hid (putY c0 r n l b d = if h2 ≠ 0 then ([], h2) else if d then (h1, 0) else (h1 ++ b, 0)) := by have h := HR.out; rw [hB, if_neg (by simp)] at h; exact h
        clear hB
        rcases hcase with ⟨p1, p2, p3⟩ | ⟨p1, p2, p3, p4⟩
        all_goals
          by_cases hz2 : h2 = 0
          · subst hz2
            cases d
            · have HF : Hid (putY c0 r n l b false = (h1 ++ b, 0)) := by have h := HR2.out; rw [if_neg (by simp)] at h; exact h
              clear HR2 HR
              go_enter Tryz.func21, Tryz.ntmps21
              go_wp2_with fail
              refine HQ.out.mono ?_
              rintro e w2 ⟨rfl, hb2⟩
              have hp2 := HP.out.below hb2
              have d0 := hp2.cell 0 _ rfl
              have d3 := hp2.cell 3 _ rfl
              have d4 := hp2.cell 4 _ rfl
              have HB2 := Lib.hid (HAL.out.trans (hb2.mono HAL.out.size)); have HP2 := Lib.hid hp2
              have HH2 := Lib.hid (HHD.out w2 (HFL.out.bel hb2))
              clear hb2 hp2
              go_wp2_with fail
              refine HH2.out.mono ?_
              rintro e w4 ⟨rfl, hb4⟩
              have HB4 := Lib.hid (HB2.out.trans (hb4.mono HB2.out.size))
              have d4' := (HP2.out.below hb4).cell 4 _ rfl
              clear hb4 d0 d3 d4
              go_wp2_with fail
              go_ret2
              exact ⟨by rw [HF.out]; rfl, HB4.out⟩
            · have HF : Hid (putY c0 r n l b true = (h1, 0)) := by have h := HR2.out; rw [if_neg (by simp)] at h; exact h
              clear HR2 HR
              go_enter Tryz.func21, Tryz.ntmps21
              go_wp2_with fail
              refine HQ.out.mono ?_
              rintro e w2 ⟨rfl, hb2⟩
              have hp2 := HP.out.below hb2
              have d0 := hp2.cell 0 _ rfl
              have d3 := hp2.cell 3 _ rfl
              have d4 := hp2.cell 4 _ rfl
              have HB2 := Lib.hid (HAL.out.trans (hb2.mono HAL.out.size)); have HP2 := Lib.hid hp2
              have HH2 := Lib.hid (HHD.out w2 (HFL.out.bel hb2))
              clear hb2 hp2
              go_wp2_with fail
              refine HH2.out.mono ?_
              rintro e w4 ⟨rfl, hb4⟩
              have HB4 := Lib.hid (HB2.out.trans (hb4.mono HB2.out.size))
              have d4' := (HP2.out.below hb4).cell 4 _ rfl
              clear hb4 d0 d3 d4
              go_wp2_with fail
              go_ret2
              exact ⟨by rw [HF.out]; rfl, HB4.out⟩
          · have HF : Hid (putY c0 r n l b d = ([], h2)) := HR2.out.trans (if_pos hz2)
            have hd : (h2 != 0) = true := bne_iff_ne.2 hz2
            clear HR2 HR hz2
            go_enter Tryz.func21, Tryz.ntmps21
            go_wp2_with fail
            refine HQ.out.mono ?_
            rintro e w2 ⟨rfl, hb2⟩
            have hp2 := HP.out.below hb2
            have d0 := hp2.cell 0 _ rfl
            have d3 := hp2.cell 3 _ rfl
            have d4 := hp2.cell 4 _ rfl
            have HB2 := Lib.hid (HAL.out.trans (hb2.mono HAL.out.size)); have HP2 := Lib.hid hp2
            have HH2 := Lib.hid (HHD.out w2 (HFL.out.bel hb2))
            clear hb2 hp2
            go_wp2_with fail
            refine HH2.out.mono ?_
            rintro e w4 ⟨rfl, hb4⟩
            have HB4 := Lib.hid (HB2.out.trans (hb4.mono HB2.out.size))
            have d4' := (HP2.out.below hb4).cell 4 _ rfl
            clear hb4 d0 d3 d4
            go_wp2_with fail
            go_ret2
            exact ⟨by rw [HF.out]; rfl, HB4.out⟩
  · have HR : Hid (putY c0 r n l b d = ([], putSQ c0 r n)) := if_pos hz
    have hd : (putSQ c0 r n != 0) = true := bne_iff_ne.2 hz
    clear hz
    generalize putSQ c0 r n = q at *
    go_enter Tryz.func21, Tryz.ntmps21
    go_wp2_with fail
    refine HQ.out.mono ?_
    rintro e w2 ⟨rfl, hb2⟩
    have HB2 := Lib.hid (HAL.out.trans (hb2.mono HAL.out.size))
    clear hb2
    go_wp2_with fail
    go_ret2
    exact ⟨by rw [HR.out]; rfl, HB2.out⟩
end Go.Proofs.YtgkjjmcjlobbpaaGreatDoor
