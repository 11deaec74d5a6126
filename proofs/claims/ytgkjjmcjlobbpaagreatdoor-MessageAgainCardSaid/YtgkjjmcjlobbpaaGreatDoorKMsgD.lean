/- A message's head, written; whether its length is told: the message layer's steps. -/
import Derived.Test.YtgkjjmcjlobbpaaGreatDoorKMsgA
import Derived.Test.YtgkjjmcjlobbpaaGreatDoorKPlain
import Derived.Lib.ItoaLen
namespace Go.Proofs.YtgkjjmcjlobbpaaGreatDoor
open Go.RowKit

theorem SL_two (w : World) (x y : List UInt8) : SL (w.alloc (.cells #[.string (bs x), .string (bs y)] 9)) (.slice (some ⟨w.heap.size, 0, none⟩) 2 2) [x, y] := by
  refine .inr ⟨w.heap.size, 0, 2, rfl, by simp, fun j hj => ?_⟩
  have hb := blk.new w #[.string (bs x), .string (bs y)] 9
  rcases j with _ | _ | j
  · exact hb.cell 0 _ rfl
  · exact hb.cell 1 _ rfl
  · simp at hj; omega
theorem smallF_app {a b : List Fld} (ha : smallF a) (hb : smallF b) : smallF (a ++ b) := by
  intro j hj
  rw [List.getElem_append]
  split
  · exact ha _ _
  · exact hb _ _

set_option maxHeartbeats 1000000 in
set_option maxRecDepth 100000 in
theorem sizedQ_any (R : Nat) (n most : Int) (v : Value) (b m t : List UInt8) (w : World) (hb : blk w R (qCells n v (.string (bs b)) most m t)) :
    Calls Tryz.prog 42 #[.pointer (some ⟨R, 0, none⟩)] w fun e w' => e = .returned (.bool (tellQ m b)) ∧ w = w' := by
  unfold qCells at hb
  have c4 := hb.cell 4 _ rfl
  have c2 := hb.cell 2 _ rfl
  clear hb
  go_enter Tryz.func42, Tryz.ntmps42
  have em : (bs m).toList = m := by rw [Lib.toList_data, bs_data]
  have eb : (bs b).toList = b := by rw [Lib.toList_data, bs_data]
  have EM := Lib.hid em; have EB := Lib.hid eb
  clear em eb
  go_wp2
  all_goals go_ret
  all_goals refine ⟨ret_bool ?_, rfl⟩
  all_goals rw [EM.out] at *
  all_goals try rw [EB.out]
  all_goals unfold tellQ postL putN patchL
  all_goals simp_all

set_option maxHeartbeats 1000000 in
set_option maxRecDepth 100000 in
theorem sizedP_any (R : Nat) (n most c : Int) (v b : Value) (rs : List UInt8) (d : Bool) (w : World) (he : EnvM w) (hb : blk w R (pCells n v b most c rs d)) :
    Calls Tryz.prog 46 #[.pointer (some ⟨R, 0, none⟩)] w fun e w' => e = .returned (.bool (!bareB c)) ∧ Below w.heap.size w w' := by
  have hq := frameTell_any (.slice none 0 0) [] c false w he.2 (FL_nil w) (fun j hj => absurd hj (by simp)) (by simp)
  have hT : (tellR [] c false) = if bareB c then (0, 0, 0) else (3, 0, 0) := by
    unfold tellR tellV
    cases h : bareB c <;> simp [valsL, endE, endN]
  rw [hT] at hq
  unfold pCells at hb
  have c4 := hb.cell 4 _ rfl
  have HQ := Lib.hid hq
  clear hq hb hT he
  cases h : bareB c
  · have H := Lib.hid h
    rw [h] at HQ
    clear h
    go_enter Tryz.func46, Tryz.ntmps46
    go_wp2_with fail
    refine HQ.out.mono ?_
    rintro e w2 ⟨rfl, hb2⟩
    unfold ansV
    have HB := Lib.hid (hb2.alloc hb2.size (.cells #[.int .i64 3, .int .i64 0] 116))
    have hn := blk.new w2 #[.int .i64 3, .int .i64 0] 116
    have d0 := hn.cell 0 _ rfl
    clear hb2 hn
    go_wp2_with fail
    go_ret
    exact ⟨rfl, HB.out⟩
  · have H := Lib.hid h
    rw [h] at HQ
    clear h
    go_enter Tryz.func46, Tryz.ntmps46
    go_wp2_with fail
    refine HQ.out.mono ?_
    rintro e w2 ⟨rfl, hb2⟩
    unfold ansV
    have HB := Lib.hid (hb2.alloc hb2.size (.cells #[.int .i64 0, .int .i64 0] 116))
    have hn := blk.new w2 #[.int .i64 0, .int .i64 0] 116
    have d0 := hn.cell 0 _ rfl
    clear hb2 hn
    go_wp2_with fail
    go_ret
    exact ⟨rfl, HB.out⟩

theorem below_drewN' {B : Nat} {w w' : World} (h : Below B w w') (n : Nat) : Below B w (w'.drewN n) := below_drewN h n
set_option maxHeartbeats 2000000 in
set_option maxRecDepth 100000 in
theorem head_any (R : Nat) (cs : Array Value) (v : Value) (l : List Fld) (b st : List UInt8) (most : Int) (tells : Bool) (w : World) (he : EnvM w) (hb : blk w R cs)
    (h1 : cs[1]? = some v) (h2 : cs[2]? = some (.string (bs b))) (h3 : cs[3]? = some (.int .i64 most)) (h : FL w v l) (hs : smallF l) (hl : l.length ≤ 100000) (hbl : b.length ≤ 1048576) (hst : st.length ≤ 1048576) :
    Calls Tryz.prog 41 #[.pointer (some ⟨R, 0, none⟩), .string (bs st), .bool tells] w fun e w' =>
      e = .returned (.tuple #[.string (bs (headP st l b.length most tells).1), .int .i64 (headP st l b.length most tells).2]) ∧ Below w.heap.size w w' := by
  have c1 := hb.cell 1 _ h1
  have c2 := hb.cell 2 _ h2
  have c3 := hb.cell 3 _ h3
  by_cases hm : most < (b.length : Int)
  · have HR : Hid (headP st l b.length most tells = ([], 3)) := if_pos hm
    have hd : decide (most < (b.length : Int)) = true := decide_eq_true hm
    clear hm h1 h2 h3 h hs hl hbl he hb
    go_enter Tryz.func41, Tryz.ntmps41
    go_wp2_with fail
    go_quiet (fail)
    go_wp2_with fail
    go_ret2
    exact ⟨by rw [HR.out]; rfl, below_drewN (Below.refl _ _) _⟩
  · have hd : decide (most < (b.length : Int)) = false := decide_eq_false hm
    have HR : Hid (headP st l b.length most tells = if checkL (writL l b.length tells) ≠ 0 then ([], checkL (writL l b.length tells))
        else if 8192 < (headB st (writL l b.length tells)).length then ([], 3) else (headB st (writL l b.length tells), 0)) := if_neg hm
    clear hm
    obtain ⟨A, c, rfl⟩ := h.form
    have HFL := Lib.hid h; have HE := Lib.hid he; have HSM := Lib.hid hs; have HLT := Lib.hid hb.lt
    clear h1 h2 h3 h hs he hb
    go_enter Tryz.func41, Tryz.ntmps41
    go_wp2_with fail
    go_quiet (fail)
    go_wp2_with fail
    -- TAIL
    have hd1 : Below w.heap.size w ((w.drewN nq).alloc (.cells #[.string (bs lenN), .string (bs codN)] 9)) := (below_drewN (Below.refl _ _) nq).alloc (by simp) _
    have hsl : SL ((w.drewN nq).alloc (.cells #[.string (bs lenN), .string (bs codN)] 9)) (.slice (some ⟨w.heap.size, 0, none⟩) 2 2) [lenN, codN] := SL_two (w.drewN nq) lenN codN
    have HB1 := Lib.hid hd1; have HSL := Lib.hid hsl; have HC2 := Lib.hid c2
    clear hd1 hsl c1 c2 c3
    have hlen : bs lenN = ⟨#[67, 111, 110, 116, 101, 110, 116, 45, 76, 101, 110, 103, 116, 104]⟩ := rfl
    have hcod : bs codN = ⟨#[84, 114, 97, 110, 115, 102, 101, 114, 45, 69, 110, 99, 111, 100, 105, 110, 103]⟩ := rfl
    rw [hlen, hcod] at HB1 HSL
    have HLEN := Lib.hid hlen
    clear hlen hcod
    generalize (w.drewN nq).alloc (.cells #[.string ⟨#[67, 111, 110, 116, 101, 110, 116, 45, 76, 101, 110, 103, 116, 104]⟩, .string ⟨#[84, 114, 97, 110, 115, 102, 101, 114, 45, 69, 110, 99, 111, 100, 105, 110, 103]⟩] 9) = w1 at *
    refine (del_any _ _ l [lenN, codN] w1 (HFL.out.bel HB1.out) HSL.out HSM.out (Nat.le_trans hl (by decide)) (by simp [lenN, codN]) (by simp)).mono ?_
    rw [del_names]
    rintro e w2 ⟨v2, rfl, ho2, hb2⟩
    obtain ⟨A2, c2, rfl⟩ := ho2.form
    have HO2 := Lib.hid ho2
    have HB2 := Lib.hid (HB1.out.trans (hb2.mono HB1.out.size))
    have HSM2 : Hid (smallF (delL l [clN, teN])) := smallF_filter HSM.out _
    have HDL := Lib.hid (Nat.le_trans (del_len l [clN, teN]) hl)
    have HZ12 := Lib.hid hb2.size; have HZ1 := Lib.hid HB1.out.size
    clear ho2 hb2 HSL HB1 HFL
    cases tells
    · have HML : Hid (writL l b.length false = delL l [clN, teN]) := by show _ = _; unfold writL; simp
      have HO3 := Lib.hid HO2.out; have HB3 := Lib.hid HB2.out; have HSM3 := Lib.hid HSM2.out; have HLN : Hid ((delL l [clN, teN]).length ≤ 100001) := Nat.le_trans HDL.out (by decide)
      clear HO2 HB2 HSM2 HDL HZ1 HZ12 HLEN HE HC2 HLT
      generalize delL l [clN, teN] = M at *
      obtain ⟨w3, hw3⟩ : ∃ w3, w3 = w2 := ⟨_, rfl⟩
      subst hw3
      have HCK := Lib.hid (check_any _ M w3 HO3.out.fl HSM3.out (Nat.le_trans HLN.out (by decide)))
      have HQ : Hid (headP st l b.length most false = if checkL M ≠ 0 then ([], checkL M) else if 8192 < (headB st M).length then ([], 3) else (headB st M, 0)) := by have h := HR.out; rw [HML.out] at h; exact h
      clear HR
      generalize checkL M = q at *
      by_cases hq : q = 0
      · have HQ2 : Hid (headP st l b.length most false = if 8192 < (headB st M).length then ([], 3) else (headB st M, 0)) := by have h := HQ.out; rw [if_neg (by rw [hq]; decide)] at h; exact h
        subst hq
        have hpl := put_len M
        have HLB := Lib.hid (headB_len st M)
        have hXX : headB st M = st ++ [13, 10] ++ putL M ++ [13, 10] := rfl
        have HPT := Lib.hid (fun W (hw : Below w3.heap.size w3 W) => put_any _ M W (HO3.out.fl.bel hw) HSM3.out (Nat.le_trans HLN.out (by decide)))
        clear HQ
        generalize putL M = P at *
        have s1 := fun w => add_l st [13, 10] w (by simp only [List.length_cons, List.length_nil]; omega)
        have s2 := fun w => add_l (st ++ [13, 10]) P w (by simp only [List.length_append, List.length_cons, List.length_nil]; omega)
        have s3 := fun w => add_l (st ++ [13, 10] ++ P) [13, 10] w (by simp only [List.length_append, List.length_cons, List.length_nil]; omega)
        rw [show bs [13, 10] = ⟨#[13, 10]⟩ from rfl] at s1 s3
        rw [← hXX] at s3
        have HS3 := Lib.hid s3
        generalize headB st M = X at *
        have hxs : (bs X).size = X.length := bs_size X
        have HXL := Lib.hid hxs
        clear hXX hxs s3
        generalize st ++ [13, 10] ++ P = Y at *
        have s3 := HS3.out
        by_cases hx : 8192 < X.length
        · have HF : Hid (headP st l b.length most false = ([], 3)) := HQ2.out.trans (if_pos hx)
          clear HQ2
          go_wp2_with fail
          refine HCK.out.mono ?_
          rintro e w4 ⟨rfl, hb4⟩
          have HB4 := Lib.hid (HB3.out.trans (hb4.mono HB3.out.size)); have HC4 := Lib.hid hb4
          clear hb4
          go_wp2_with fail
          refine (HPT.out _ HC4.out).mono ?_
          rintro e w5 ⟨rfl, hb5⟩
          have HB5 := Lib.hid (HB4.out.trans (hb5.mono HB4.out.size))
          clear hb5
          go_wp2_with fail
          go_ret2
          exact ⟨by rw [HF.out]; rfl, HB5.out⟩
        · have HF : Hid (headP st l b.length most false = (X, 0)) := HQ2.out.trans (if_neg hx)
          clear HQ2
          go_wp2_with fail
          refine HCK.out.mono ?_
          rintro e w4 ⟨rfl, hb4⟩
          have HB4 := Lib.hid (HB3.out.trans (hb4.mono HB3.out.size)); have HC4 := Lib.hid hb4
          clear hb4
          go_wp2_with fail
          refine (HPT.out _ HC4.out).mono ?_
          rintro e w5 ⟨rfl, hb5⟩
          have HB5 := Lib.hid (HB4.out.trans (hb5.mono HB4.out.size))
          clear hb5
          go_wp2_with fail
          go_ret2
          exact ⟨by rw [HF.out]; rfl, HB5.out⟩
      · have HF : Hid (headP st l b.length most false = ([], q)) := HQ.out.trans (if_pos hq)
        have hd2 : (q != 0) = true := bne_iff_ne.2 hq
        clear HQ hq
        go_wp2_with fail
        refine HCK.out.mono ?_
        rintro e w4 ⟨rfl, hb4⟩
        have HB4 := Lib.hid (HB3.out.trans (hb4.mono HB3.out.size))
        clear hb4
        go_wp2_with fail
        go_ret2
        exact ⟨by rw [HF.out]; rfl, HB4.out⟩
    · have HML : Hid (writL l b.length true = delL l [clN, teN] ++ [(lenN, Lib.itoa b.length)]) := rfl
      generalize delL l [clN, teN] = D at *
      have hsm1 : smallF [(lenN, Lib.itoa (b.length : Int))] := fun j hj => by
        have : j = 0 := by simpa using hj
        subst this
        exact ⟨by simp [lenN], Nat.le_trans (Lib.itoa_length_le (b.length : Int) (by omega) (by omega)) (by decide)⟩
      have HSM3 : Hid (smallF (D ++ [(lenN, Lib.itoa (b.length : Int))])) := smallF_app HSM2.out hsm1
      have HLN : Hid ((D ++ [(lenN, Lib.itoa (b.length : Int))]).length ≤ 100001) := by show _ ≤ _; have := HDL.out; simp; omega
      clear hsm1 HSM2
      have hsz : (bs b).size = b.length := bs_size b
      have cc2 : w2.cell? ⟨R, 2, none⟩ = some (.string (bs b)) := (HB2.out.cell (p := ⟨R, 2, none⟩) HLT.out).trans HC2.out
      clear HC2 HLT
      go_wp2_with fail
      refine (itoa_any (b.length : Int) w2 (by omega) (by omega) (HE.out.below HB2.out (Nat.le_refl _)).2).mono ?_
      rintro e w2' ⟨rfl, hbi⟩
      have HO2' := Lib.hid (HO2.out.bel hbi)
      have HB2' := Lib.hid (HB2.out.trans (hbi.mono HB2.out.size))
      have HZ2' := Lib.hid (Nat.le_trans HZ12.out hbi.size)
      clear hbi HE HO2 HB2 cc2 HLEN
      generalize Lib.itoa (b.length : Int) = N at *
      have HDN : Hid (D.length + 1 ≤ 4294967296) := by show _ ≤ _; have := HDL.out; omega
      go_wp2_with (at_builtin; refine wpList_appF rfl (.tmp 28) (.tmp 36) rfl w1.heap.size w.heap.size _ _ lenN N rfl HO2'.out HB2'.out HZ1.out HZ2'.out rfl HDN.out ?_; intro v3 w3 HO3 HB3 _; clear HO2' HB2' HZ2' HZ1 HZ12 HDN HDL)
      obtain ⟨M, hM⟩ : ∃ M, M = D ++ [(lenN, N)] := ⟨_, rfl⟩
      rw [← hM] at HML HSM3 HLN HO3
      clear hM
      have HCK := Lib.hid (check_any _ M w3 HO3.out.fl HSM3.out (Nat.le_trans HLN.out (by decide)))
      have HQ : Hid (headP st l b.length most true = if checkL M ≠ 0 then ([], checkL M) else if 8192 < (headB st M).length then ([], 3) else (headB st M, 0)) := by have h := HR.out; rw [HML.out] at h; exact h
      clear HR
      generalize checkL M = q at *
      by_cases hq : q = 0
      · have HQ2 : Hid (headP st l b.length most true = if 8192 < (headB st M).length then ([], 3) else (headB st M, 0)) := by have h := HQ.out; rw [if_neg (by rw [hq]; decide)] at h; exact h
        subst hq
        have hpl := put_len M
        have HLB := Lib.hid (headB_len st M)
        have hXX : headB st M = st ++ [13, 10] ++ putL M ++ [13, 10] := rfl
        have HPT := Lib.hid (fun W (hw : Below w3.heap.size w3 W) => put_any _ M W (HO3.out.fl.bel hw) HSM3.out (Nat.le_trans HLN.out (by decide)))
        clear HQ
        generalize putL M = P at *
        have s1 := fun w => add_l st [13, 10] w (by simp only [List.length_cons, List.length_nil]; omega)
        have s2 := fun w => add_l (st ++ [13, 10]) P w (by simp only [List.length_append, List.length_cons, List.length_nil]; omega)
        have s3 := fun w => add_l (st ++ [13, 10] ++ P) [13, 10] w (by simp only [List.length_append, List.length_cons, List.length_nil]; omega)
        rw [show bs [13, 10] = ⟨#[13, 10]⟩ from rfl] at s1 s3
        rw [← hXX] at s3
        have HS3 := Lib.hid s3
        generalize headB st M = X at *
        have hxs : (bs X).size = X.length := bs_size X
        have HXL := Lib.hid hxs
        clear hXX hxs s3
        generalize st ++ [13, 10] ++ P = Y at *
        have s3 := HS3.out
        by_cases hx : 8192 < X.length
        · have HF : Hid (headP st l b.length most true = ([], 3)) := HQ2.out.trans (if_pos hx)
          clear HQ2
          refine HCK.out.mono ?_
          rintro e w4 ⟨rfl, hb4⟩
          have HB4 := Lib.hid (HB3.out.trans (hb4.mono HB3.out.size)); have HC4 := Lib.hid hb4
          clear hb4
          go_wp2_with fail
          refine (HPT.out _ HC4.out).mono ?_
          rintro e w5 ⟨rfl, hb5⟩
          have HB5 := Lib.hid (HB4.out.trans (hb5.mono HB4.out.size))
          clear hb5
          go_wp2_with fail
          go_ret2
          exact ⟨by rw [HF.out]; rfl, HB5.out⟩
        · have HF : Hid (headP st l b.length most true = (X, 0)) := HQ2.out.trans (if_neg hx)
          clear HQ2
          refine HCK.out.mono ?_
          rintro e w4 ⟨rfl, hb4⟩
          have HB4 := Lib.hid (HB3.out.trans (hb4.mono HB3.out.size)); have HC4 := Lib.hid hb4
          clear hb4
          go_wp2_with fail
          refine (HPT.out _ HC4.out).mono ?_
          rintro e w5 ⟨rfl, hb5⟩
          have HB5 := Lib.hid (HB4.out.trans (hb5.mono HB4.out.size))
          clear hb5
          go_wp2_with fail
          go_ret2
          exact ⟨by rw [HF.out]; rfl, HB5.out⟩
      · have HF : Hid (headP st l b.length most true = ([], q)) := HQ.out.trans (if_pos hq)
        have hd2 : (q != 0) = true := bne_iff_ne.2 hq
        clear HQ hq
        refine HCK.out.mono ?_
        rintro e w4 ⟨rfl, hb4⟩
        have HB4 := Lib.hid (HB3.out.trans (hb4.mono HB3.out.size))
        clear hb4
        go_wp2_with fail
        go_ret2
        exact ⟨by rw [HF.out]; rfl, HB4.out⟩
end Go.Proofs.YtgkjjmcjlobbpaaGreatDoor

/- A request and a reply, written: the message layer's PutRequest and PutReply. -/
namespace Go.Proofs.YtgkjjmcjlobbpaaGreatDoor
open Go.RowKit

set_option maxHeartbeats 2000000 in
set_option maxRecDepth 100000 in
theorem msgPutQ_any (m t b : List UInt8) (n : Int) (v : Value) (l : List Fld) (w : World) (he : EnvM w) (h : FL w v l) (hs : smallF l) (hl : l.length ≤ 100000) (hm : m.length ≤ 1048576) (ht : t.length ≤ 1048576) (hb : b.length ≤ 1048576) :
    Calls Tryz.prog 18 #[.agg #[.string (bs m), .string (bs t), .int .i64 n, v, .string (bs b)]] w fun e w' =>
      e = .returned (.tuple #[.string (bs (putQ m t n l b).1), .int .i64 (putQ m t n l b).2]) ∧ Below w.heap.size w w' := by
  obtain ⟨A, c, rfl⟩ := h.form
  have hal : Below w.heap.size w (w.alloc (.cells #[.string (bs m), .string (bs t), .int .i64 n, .slice A l.length c, .string (bs b)] 25)) := (Below.refl _ _).alloc (Nat.le_refl _) _
  have hp := blk.new w #[.string (bs m), .string (bs t), .int .i64 n, .slice A l.length c, .string (bs b)] 25
  have hq := putRequest_any (bs m) (bs t) n (w.alloc (.cells #[.string (bs m), .string (bs t), .int .i64 n, .slice A l.length c, .string (bs b)] 25)) (by rw [bs_size]; exact hm) (by rw [bs_size]; exact ht)
  rw [bs_data, bs_data] at hq
  have c0 := hp.cell 0 _ rfl
  have c1 := hp.cell 1 _ rfl
  have c2 := hp.cell 2 _ rfl
  have c3 := hp.cell 3 _ rfl
  have c4 := hp.cell 4 _ rfl
  have HP := Lib.hid hp; have HAL := Lib.hid hal; have HQ := Lib.hid hq; have HFL := Lib.hid (h.bel hal); have HE := Lib.hid (he.bel hal)
  have HSM := Lib.hid hs
  clear hp hal hq h he hs
  by_cases hz : putRQ m t n = 0
  · have HR : Hid (putQ m t n l b = if (headP (putRL m t n) l b.length 65536 (tellQ m b)).2 ≠ 0 then ([], (headP (putRL m t n) l b.length 65536 (tellQ m b)).2) else ((headP (putRL m t n) l b.length 65536 (tellQ m b)).1 ++ b, 0)) := if_neg (by rw [hz]; decide)
    rw [hz] at HQ
    have hst : (putRL m t n).length ≤ 1048576 := by
      unfold putRL; rw [if_pos hz]
      exact Nat.le_trans (putRQ_0 hz).2.2.2.2 (by decide)
    have hhl := headP_len (putRL m t n) l b.length 65536 (tellQ m b)
    have HHD := Lib.hid (fun R cs W he' hb' h1 h2 h3 hf => head_any R cs (.slice A l.length c) l b (putRL m t n) 65536 (tellQ m b) W he' hb' h1 h2 h3 hf HSM.out hl hb hst)
    clear hz hst
    generalize headP (putRL m t n) l b.length 65536 (tellQ m b) = H at *
    generalize putRL m t n = ST at *
    go_enter Tryz.func18, Tryz.ntmps18
    go_wp2_with fail
    refine HQ.out.mono ?_
    rintro e w2 ⟨rfl, hb2⟩
    have hp2 := HP.out.below hb2
    have d0 := hp2.cell 0 _ rfl
    have d3 := hp2.cell 3 _ rfl
    have d4 := hp2.cell 4 _ rfl
    have hal2 : Below w2.heap.size w2 (w2.alloc (.cells (qCells 0 (.slice A l.length c) (.string (bs b)) 65536 m []) 67)) := (Below.refl _ _).alloc (Nat.le_refl _) _
    have hn := blk.new w2 (qCells 0 (.slice A l.length c) (.string (bs b)) 65536 m []) 67
    have hsz := sizedQ_any w2.heap.size 0 65536 (.slice A l.length c) b m [] _ hn
    have hhd := HHD.out w2.heap.size _ _ ((HE.out.bel hb2).bel hal2) hn rfl rfl rfl ((HFL.out.bel hb2).bel hal2)
    have HSZ := Lib.hid hsz; have HHD2 := Lib.hid hhd; have HPL := Lib.hid (hp2.below hal2)
    have HB2 := Lib.hid ((HAL.out.trans (hb2.mono HAL.out.size)).trans (hal2.mono (HAL.out.trans (hb2.mono HAL.out.size)).size))
    unfold qCells at HSZ HHD2 HPL HB2
    clear hal2 hn hsz hhd hp2 hb2 HHD HFL HE HP HAL HQ HSM c0 c1 c2 c3 c4
    obtain ⟨h1, h2⟩ := H
    simp only at hhl
    have hlen : h1.length + b.length ≤ 9223372036854775807 := by omega
    have hadd := fun w => add_l h1 b w hlen
    by_cases hz2 : h2 = 0
    · subst hz2
      have HF : Hid (putQ m t n l b = (h1 ++ b, 0)) := HR.out.trans (if_neg (by simp))
      clear HR
      go_wp2_with fail
      refine HSZ.out.mono ?_
      rintro e w3 ⟨rfl, rfl⟩
      go_wp2_with fail
      refine HHD2.out.mono ?_
      rintro e w4 ⟨rfl, hb4⟩
      have HB4 := Lib.hid (HB2.out.trans (hb4.mono HB2.out.size))
      have hp4 := HPL.out.below hb4
      have d4' := hp4.cell 4 _ rfl
      clear hb4 hp4 d0 d3 d4
      go_wp2_with fail
      go_ret2
      exact ⟨by rw [HF.out]; rfl, HB4.out⟩
    · have HF : Hid (putQ m t n l b = ([], h2)) := HR.out.trans (if_pos hz2)
      have hd : (h2 != 0) = true := bne_iff_ne.2 hz2
      clear HR hz2
      go_wp2_with fail
      refine HSZ.out.mono ?_
      rintro e w3 ⟨rfl, rfl⟩
      go_wp2_with fail
      refine HHD2.out.mono ?_
      rintro e w4 ⟨rfl, hb4⟩
      have HB4 := Lib.hid (HB2.out.trans (hb4.mono HB2.out.size))
      clear hb4 d0 d3 d4
      go_wp2_with fail
      go_ret2
      exact ⟨by rw [HF.out]; rfl, HB4.out⟩
  · have HR : Hid (putQ m t n l b = ([], putRQ m t n)) := if_pos hz
    have hd : (putRQ m t n != 0) = true := bne_iff_ne.2 hz
    clear hz
    generalize putRQ m t n = q at *
    go_enter Tryz.func18, Tryz.ntmps18
    go_wp2_with fail
    refine HQ.out.mono ?_
    rintro e w2 ⟨rfl, hb2⟩
    have HB2 := Lib.hid (HAL.out.trans (hb2.mono HAL.out.size))
    clear hb2
    go_wp2_with fail
    go_ret2
    exact ⟨by rw [HR.out]; rfl, HB2.out⟩

set_option maxHeartbeats 2000000 in
set_option maxRecDepth 100000 in
theorem msgPutY_any (c0 n : Int) (r b : List UInt8) (d : Bool) (v : Value) (l : List Fld) (w : World) (he : EnvM w) (h : FL w v l) (hs : smallF l) (hl : l.length ≤ 100000) (hr : r.length ≤ 1048576) (hb : b.length ≤ 1048576) :
    Calls Tryz.prog 20 #[.agg #[.int .i64 c0, .string (bs r), .int .i64 n, v, .string (bs b)], .bool d] w fun e w' =>
      e = .returned (.tuple #[.string (bs (putY c0 r n l b d).1), .int .i64 (putY c0 r n l b d).2]) ∧ Below w.heap.size w w' := by
  obtain ⟨A, c, rfl⟩ := h.form
  have hal : Below w.heap.size w (w.alloc (.cells #[.int .i64 c0, .string (bs r), .int .i64 n, .slice A l.length c, .string (bs b)] 32)) := (Below.refl _ _).alloc (Nat.le_refl _) _
  have hp := blk.new w #[.int .i64 c0, .string (bs r), .int .i64 n, .slice A l.length c, .string (bs b)] 32
  have hq := putStatus_any c0 (bs r) n (w.alloc (.cells #[.int .i64 c0, .string (bs r), .int .i64 n, .slice A l.length c, .string (bs b)] 32)) (by rw [bs_size]; exact hr) (he.bel hal).2
  rw [bs_data] at hq
  have c00 := hp.cell 0 _ rfl
  have c1 := hp.cell 1 _ rfl
  have c2 := hp.cell 2 _ rfl
  have c3 := hp.cell 3 _ rfl
  have c4 := hp.cell 4 _ rfl
  have HP := Lib.hid hp; have HAL := Lib.hid hal; have HQ := Lib.hid hq; have HFL := Lib.hid (h.bel hal); have HE := Lib.hid (he.bel hal)
  have HSM := Lib.hid hs
  clear hp hal hq h he hs
  by_cases hz : putSQ c0 r n = 0
  · have HR : Hid (putY c0 r n l b d = if (!b.isEmpty && bareB c0) = true then ([], 2)
        else if (headP (putSL c0 r n) l b.length 262144 (!bareB c0)).2 ≠ 0 then ([], (headP (putSL c0 r n) l b.length 262144 (!bareB c0)).2)
        else if d then ((headP (putSL c0 r n) l b.length 262144 (!bareB c0)).1, 0) else ((headP (putSL c0 r n) l b.length 262144 (!bareB c0)).1 ++ b, 0)) := if_neg (by rw [hz]; decide)
    rw [hz] at HQ
    have hst : (putSL c0 r n).length ≤ 1048576 := by
      unfold putSL; rw [if_pos hz]
      exact Nat.le_trans (putSQ_0 hz).2.2.2 (by decide)
    have hhl := headP_len (putSL c0 r n) l b.length 262144 (!bareB c0)
    have hpn := headP_plain (putSL c0 r n) l b.length 262144 (!bareB c0)
    have HHD := Lib.hid (fun R cs W he' hb' h1 h2 h3 hf => head_any R cs (.slice A l.length c) l b (putSL c0 r n) 262144 (!bareB c0) W he' hb' h1 h2 h3 hf HSM.out hl hb hst)
    clear hz hst
    generalize headP (putSL c0 r n) l b.length 262144 (!bareB c0) = H at *
    generalize putSL c0 r n = ST at *
    have eb : (bs b).toList = b := by rw [Lib.toList_data, bs_data]
    have HSZ : Hid (∀ R W, EnvM W → blk W R (pCells 0 (.slice A l.length c) (.string (bs b)) 262144 c0 [] false) → Calls Tryz.prog 46 #[.pointer (some ⟨R, 0, none⟩)] W fun e w' => e = .returned (.bool (!bareB c0)) ∧ Below W.heap.size W w') :=
      fun R W he' hb' => sizedP_any R 0 262144 c0 (.slice A l.length c) (.string (bs b)) [] false W he' hb'
    generalize hBB : bareB c0 = B at *
    have HBB := Lib.hid hBB; clear hBB
    generalize hEM : b.isEmpty = E at *
    have heb : (bs b).toList.isEmpty = E := by rw [eb]; exact hEM
    clear eb hEM
    obtain ⟨h1, h2⟩ := H
    simp only at hhl hpn
    have hlen : h1.length + b.length ≤ 9223372036854775807 := by omega
    have hadd := fun w => add_l h1 b w hlen
    have HPN := Lib.hid hpn
    clear hlen hhl hpn
    cases E
    · cases B
      · have HR2 : Hid (putY c0 r n l b d = if h2 ≠ 0 then ([], h2) else if d then (h1, 0) else (h1 ++ b, 0)) := by have h := HR.out; rw [if_neg (by simp)] at h; exact h
        clear HR
        by_cases hz2 : h2 = 0
        · subst hz2
          cases d
          · have HF : Hid (putY c0 r n l b false = (h1 ++ b, 0)) := by have h := HR2.out; rw [if_neg (by simp)] at h; exact h
            clear HR2
            go_enter Tryz.func20, Tryz.ntmps20
            go_wp2_with fail
            refine HQ.out.mono ?_
            rintro e w2 ⟨rfl, hb2⟩
            have hp2 := HP.out.below hb2
            have d0 := hp2.cell 0 _ rfl
            have d3 := hp2.cell 3 _ rfl
            have d4 := hp2.cell 4 _ rfl
            have hal2 : Below w2.heap.size w2 (w2.alloc (.cells (pCells 0 (.slice A l.length c) (.string (bs b)) 262144 c0 [] false) 83)) := (Below.refl _ _).alloc (Nat.le_refl _) _
            have hn := blk.new w2 (pCells 0 (.slice A l.length c) (.string (bs b)) 262144 c0 [] false) 83
            have HEn := Lib.hid ((HE.out.bel hb2).bel hal2); have HFn := Lib.hid ((HFL.out.bel hb2).bel hal2)
            have hpl := hp2.below hal2
            have HPL := Lib.hid hpl; have HN := Lib.hid hn
            have HB2 := Lib.hid ((HAL.out.trans (hb2.mono HAL.out.size)).trans (hal2.mono (HAL.out.trans (hb2.mono HAL.out.size)).size))
            have d4' : (w2.alloc (.cells #[.int .i64 0, .slice A l.length c, .string (bs b), .int .i64 262144, .int .i64 c0, .string ⟨#[]⟩, .bool false] 83)).cell? ⟨w.heap.size, 4, none⟩ = some (.string (bs b)) := hpl.cell 4 _ rfl
            have HS2 := Lib.hid (HSZ.out w2.heap.size _ HEn.out hn)
            unfold pCells at HPL HB2 HEn HFn HN HS2
            clear hal2 hn hp2 hpl hb2 HFL HE HP HAL HQ HSM c00 c1 c2 c3 c4
            go_wp2_with fail
            refine HS2.out.mono ?_
            rintro e wa ⟨rfl, hba⟩
            have HBa := Lib.hid (HB2.out.trans (hba.mono HB2.out.size)); have HNa := Lib.hid (HN.out.below hba); have HPa := Lib.hid (HPL.out.below hba); have HEa := Lib.hid (HEn.out.bel hba); have HFa := Lib.hid (HFn.out.bel hba)
            have a4 := HPa.out.cell 4 _ rfl
            have HSa := Lib.hid (HSZ.out w2.heap.size _ HEa.out HNa.out)
            clear hba HB2 HN HPL HEn HFn HS2 d0 d3 d4 d4'
            go_wp2_with fail
            refine HSa.out.mono ?_
            rintro e wb ⟨rfl, hbb⟩
            have HBb := Lib.hid (HBa.out.trans (hbb.mono HBa.out.size)); have HNb := Lib.hid (HNa.out.below hbb); have HPb := Lib.hid (HPa.out.below hbb)
            have HHb := Lib.hid (HHD.out w2.heap.size _ wb (HEa.out.bel hbb) HNb.out rfl rfl rfl (HFa.out.bel hbb))
            clear hbb HBa HNa HPa HEa HFa HSa a4 HHD HSZ
            go_wp2_with fail
            refine HHb.out.mono ?_
            rintro e wc ⟨rfl, hbc⟩
            have HBc := Lib.hid (HBb.out.trans (hbc.mono HBb.out.size)); have HPc := Lib.hid (HPb.out.below hbc)
            have e4 := HPc.out.cell 4 _ rfl
            clear hbc HBb HNb HPb HHb
            go_wp2_with fail
            go_ret2
            exact ⟨by rw [HF.out]; rfl, HBc.out⟩
          · have HF : Hid (putY c0 r n l b true = (h1, 0)) := by have h := HR2.out; rw [if_neg (by simp)] at h; exact h
            clear HR2
            go_enter Tryz.func20, Tryz.ntmps20
            go_wp2_with fail
            refine HQ.out.mono ?_
            rintro e w2 ⟨rfl, hb2⟩
            have hp2 := HP.out.below hb2
            have d0 := hp2.cell 0 _ rfl
            have d3 := hp2.cell 3 _ rfl
            have d4 := hp2.cell 4 _ rfl
            have hal2 : Below w2.heap.size w2 (w2.alloc (.cells (pCells 0 (.slice A l.length c) (.string (bs b)) 262144 c0 [] false) 83)) := (Below.refl _ _).alloc (Nat.le_refl _) _
            have hn := blk.new w2 (pCells 0 (.slice A l.length c) (.string (bs b)) 262144 c0 [] false) 83
            have HEn := Lib.hid ((HE.out.bel hb2).bel hal2); have HFn := Lib.hid ((HFL.out.bel hb2).bel hal2)
            have hpl := hp2.below hal2
            have HPL := Lib.hid hpl; have HN := Lib.hid hn
            have HB2 := Lib.hid ((HAL.out.trans (hb2.mono HAL.out.size)).trans (hal2.mono (HAL.out.trans (hb2.mono HAL.out.size)).size))
            have d4' : (w2.alloc (.cells #[.int .i64 0, .slice A l.length c, .string (bs b), .int .i64 262144, .int .i64 c0, .string ⟨#[]⟩, .bool false] 83)).cell? ⟨w.heap.size, 4, none⟩ = some (.string (bs b)) := hpl.cell 4 _ rfl
            have HS2 := Lib.hid (HSZ.out w2.heap.size _ HEn.out hn)
            unfold pCells at HPL HB2 HEn HFn HN HS2
            clear hal2 hn hp2 hpl hb2 HFL HE HP HAL HQ HSM c00 c1 c2 c3 c4
            go_wp2_with fail
            refine HS2.out.mono ?_
            rintro e wa ⟨rfl, hba⟩
            have HBa := Lib.hid (HB2.out.trans (hba.mono HB2.out.size)); have HNa := Lib.hid (HN.out.below hba); have HPa := Lib.hid (HPL.out.below hba); have HEa := Lib.hid (HEn.out.bel hba); have HFa := Lib.hid (HFn.out.bel hba)
            have a4 := HPa.out.cell 4 _ rfl
            have HSa := Lib.hid (HSZ.out w2.heap.size _ HEa.out HNa.out)
            clear hba HB2 HN HPL HEn HFn HS2 d0 d3 d4 d4'
            go_wp2_with fail
            refine HSa.out.mono ?_
            rintro e wb ⟨rfl, hbb⟩
            have HBb := Lib.hid (HBa.out.trans (hbb.mono HBa.out.size)); have HNb := Lib.hid (HNa.out.below hbb); have HPb := Lib.hid (HPa.out.below hbb)
            have HHb := Lib.hid (HHD.out w2.heap.size _ wb (HEa.out.bel hbb) HNb.out rfl rfl rfl (HFa.out.bel hbb))
            clear hbb HBa HNa HPa HEa HFa HSa a4 HHD HSZ
            go_wp2_with fail
            refine HHb.out.mono ?_
            rintro e wc ⟨rfl, hbc⟩
            have HBc := Lib.hid (HBb.out.trans (hbc.mono HBb.out.size)); have HPc := Lib.hid (HPb.out.below hbc)
            have e4 := HPc.out.cell 4 _ rfl
            clear hbc HBb HNb HPb HHb
            go_wp2_with fail
            go_ret2
            exact ⟨by rw [HF.out]; rfl, HBc.out⟩
        · have HF : Hid (putY c0 r n l b d = ([], h2)) := HR2.out.trans (if_pos hz2)
          have hd : (h2 != 0) = true := bne_iff_ne.2 hz2
          obtain rfl : h1 = [] := HPN.out hz2
          clear HR2 hz2
          go_enter Tryz.func20, Tryz.ntmps20
          go_wp2_with fail
          refine HQ.out.mono ?_
          rintro e w2 ⟨rfl, hb2⟩
          have hp2 := HP.out.below hb2
          have d0 := hp2.cell 0 _ rfl
          have d3 := hp2.cell 3 _ rfl
          have d4 := hp2.cell 4 _ rfl
          have hal2 : Below w2.heap.size w2 (w2.alloc (.cells (pCells 0 (.slice A l.length c) (.string (bs b)) 262144 c0 [] false) 83)) := (Below.refl _ _).alloc (Nat.le_refl _) _
          have hn := blk.new w2 (pCells 0 (.slice A l.length c) (.string (bs b)) 262144 c0 [] false) 83
          have HEn := Lib.hid ((HE.out.bel hb2).bel hal2); have HFn := Lib.hid ((HFL.out.bel hb2).bel hal2)
          have hpl := hp2.below hal2
          have HPL := Lib.hid hpl; have HN := Lib.hid hn
          have HB2 := Lib.hid ((HAL.out.trans (hb2.mono HAL.out.size)).trans (hal2.mono (HAL.out.trans (hb2.mono HAL.out.size)).size))
          have d4' : (w2.alloc (.cells #[.int .i64 0, .slice A l.length c, .string (bs b), .int .i64 262144, .int .i64 c0, .string ⟨#[]⟩, .bool false] 83)).cell? ⟨w.heap.size, 4, none⟩ = some (.string (bs b)) := hpl.cell 4 _ rfl
          have HS2 := Lib.hid (HSZ.out w2.heap.size _ HEn.out hn)
          unfold pCells at HPL HB2 HEn HFn HN HS2
          clear hal2 hn hp2 hpl hb2 HFL HE HP HAL HQ HSM c00 c1 c2 c3 c4
          go_wp2_with fail
          refine HS2.out.mono ?_
          rintro e wa ⟨rfl, hba⟩
          have HBa := Lib.hid (HB2.out.trans (hba.mono HB2.out.size)); have HNa := Lib.hid (HN.out.below hba); have HPa := Lib.hid (HPL.out.below hba); have HEa := Lib.hid (HEn.out.bel hba); have HFa := Lib.hid (HFn.out.bel hba)
          have a4 := HPa.out.cell 4 _ rfl
          have HSa := Lib.hid (HSZ.out w2.heap.size _ HEa.out HNa.out)
          clear hba HB2 HN HPL HEn HFn HS2 d0 d3 d4 d4'
          go_wp2_with fail
          refine HSa.out.mono ?_
          rintro e wb ⟨rfl, hbb⟩
          have HBb := Lib.hid (HBa.out.trans (hbb.mono HBa.out.size)); have HNb := Lib.hid (HNa.out.below hbb); have HPb := Lib.hid (HPa.out.below hbb)
          have HHb := Lib.hid (HHD.out w2.heap.size _ wb (HEa.out.bel hbb) HNb.out rfl rfl rfl (HFa.out.bel hbb))
          clear hbb HBa HNa HPa HEa HFa HSa a4 HHD HSZ
          go_wp2_with fail
          refine HHb.out.mono ?_
          rintro e wc ⟨rfl, hbc⟩
          have HBc := Lib.hid (HBb.out.trans (hbc.mono HBb.out.size)); have HPc := Lib.hid (HPb.out.below hbc)
          have e4 := HPc.out.cell 4 _ rfl
          clear hbc HBb HNb HPb HHb
          go_wp2_with fail
          go_ret2
          exact ⟨by rw [HF.out]; rfl, HBc.out⟩
      · have HF : Hid (putY c0 r n l b d = ([], 2)) := by have h := HR.out; rw [if_pos (by rfl)] at h; exact h
        clear HR
        go_enter Tryz.func20, Tryz.ntmps20
        go_wp2_with fail
        refine HQ.out.mono ?_
        rintro e w2 ⟨rfl, hb2⟩
        have hp2 := HP.out.below hb2
        have d0 := hp2.cell 0 _ rfl
        have d3 := hp2.cell 3 _ rfl
        have d4 := hp2.cell 4 _ rfl
        have hal2 : Below w2.heap.size w2 (w2.alloc (.cells (pCells 0 (.slice A l.length c) (.string (bs b)) 262144 c0 [] false) 83)) := (Below.refl _ _).alloc (Nat.le_refl _) _
        have hn := blk.new w2 (pCells 0 (.slice A l.length c) (.string (bs b)) 262144 c0 [] false) 83
        have HEn := Lib.hid ((HE.out.bel hb2).bel hal2); have HFn := Lib.hid ((HFL.out.bel hb2).bel hal2)
        have hpl := hp2.below hal2
        have HPL := Lib.hid hpl; have HN := Lib.hid hn
        have HB2 := Lib.hid ((HAL.out.trans (hb2.mono HAL.out.size)).trans (hal2.mono (HAL.out.trans (hb2.mono HAL.out.size)).size))
        have d4' : (w2.alloc (.cells #[.int .i64 0, .slice A l.length c, .string (bs b), .int .i64 262144, .int .i64 c0, .string ⟨#[]⟩, .bool false] 83)).cell? ⟨w.heap.size, 4, none⟩ = some (.string (bs b)) := hpl.cell 4 _ rfl
        have HS2 := Lib.hid (HSZ.out w2.heap.size _ HEn.out hn)
        unfold pCells at HPL HB2 HEn HFn HN HS2
        clear hal2 hn hp2 hpl hb2 HFL HE HP HAL HQ HSM c00 c1 c2 c3 c4
        go_wp2_with fail
        refine HS2.out.mono ?_
        rintro e wa ⟨rfl, hba⟩
        have HBa := Lib.hid (HB2.out.trans (hba.mono HB2.out.size))
        clear hba HB2 HN HPL HEn HFn HS2 d0 d3 d4 d4'
        go_wp2_with fail
        go_ret2
        exact ⟨by rw [HF.out]; rfl, HBa.out⟩
    · have HR2 : Hid (putY c0 r n l b d = if h2 ≠ 0 then ([], h2) else if d then (h1, 0) else (h1 ++ b, 0)) := by have h := HR.out; rw [if_neg (by simp)] at h; exact h
      clear HR
      by_cases hz2 : h2 = 0
      · subst hz2
        cases d
        · have HF : Hid (putY c0 r n l b false = (h1 ++ b, 0)) := by have h := HR2.out; rw [if_neg (by simp)] at h; exact h
          clear HR2
          go_enter Tryz.func20, Tryz.ntmps20
          go_wp2_with fail
          refine HQ.out.mono ?_
          rintro e w2 ⟨rfl, hb2⟩
          have hp2 := HP.out.below hb2
          have d0 := hp2.cell 0 _ rfl
          have d3 := hp2.cell 3 _ rfl
          have d4 := hp2.cell 4 _ rfl
          have hal2 : Below w2.heap.size w2 (w2.alloc (.cells (pCells 0 (.slice A l.length c) (.string (bs b)) 262144 c0 [] false) 83)) := (Below.refl _ _).alloc (Nat.le_refl _) _
          have hn := blk.new w2 (pCells 0 (.slice A l.length c) (.string (bs b)) 262144 c0 [] false) 83
          have HEn := Lib.hid ((HE.out.bel hb2).bel hal2); have HFn := Lib.hid ((HFL.out.bel hb2).bel hal2)
          have hpl := hp2.below hal2
          have HPL := Lib.hid hpl; have HN := Lib.hid hn
          have HB2 := Lib.hid ((HAL.out.trans (hb2.mono HAL.out.size)).trans (hal2.mono (HAL.out.trans (hb2.mono HAL.out.size)).size))
          have d4' : (w2.alloc (.cells #[.int .i64 0, .slice A l.length c, .string (bs b), .int .i64 262144, .int .i64 c0, .string ⟨#[]⟩, .bool false] 83)).cell? ⟨w.heap.size, 4, none⟩ = some (.string (bs b)) := hpl.cell 4 _ rfl
          have HS2 := Lib.hid (HSZ.out w2.heap.size _ HEn.out hn)
          unfold pCells at HPL HB2 HEn HFn HN HS2
          clear hal2 hn hp2 hpl hb2 HFL HE HP HAL HQ HSM c00 c1 c2 c3 c4
          go_wp2_with fail
          refine HS2.out.mono ?_
          rintro e wb ⟨rfl, hbb⟩
          have HBb := Lib.hid (HB2.out.trans (hbb.mono HB2.out.size)); have HNb := Lib.hid (HN.out.below hbb); have HPb := Lib.hid (HPL.out.below hbb)
          have HHb := Lib.hid (HHD.out w2.heap.size _ wb (HEn.out.bel hbb) HNb.out rfl rfl rfl (HFn.out.bel hbb))
          clear hbb HB2 HN HPL HEn HFn HS2 d0 d3 d4 d4' HHD HSZ
          go_wp2_with fail
          refine HHb.out.mono ?_
          rintro e wc ⟨rfl, hbc⟩
          have HBc := Lib.hid (HBb.out.trans (hbc.mono HBb.out.size)); have HPc := Lib.hid (HPb.out.below hbc)
          have e4 := HPc.out.cell 4 _ rfl
          clear hbc HBb HNb HPb HHb
          go_wp2_with fail
          go_ret2
          exact ⟨by rw [HF.out]; rfl, HBc.out⟩
        · have HF : Hid (putY c0 r n l b true = (h1, 0)) := by have h := HR2.out; rw [if_neg (by simp)] at h; exact h
          clear HR2
          go_enter Tryz.func20, Tryz.ntmps20
          go_wp2_with fail
          refine HQ.out.mono ?_
          rintro e w2 ⟨rfl, hb2⟩
          have hp2 := HP.out.below hb2
          have d0 := hp2.cell 0 _ rfl
          have d3 := hp2.cell 3 _ rfl
          have d4 := hp2.cell 4 _ rfl
          have hal2 : Below w2.heap.size w2 (w2.alloc (.cells (pCells 0 (.slice A l.length c) (.string (bs b)) 262144 c0 [] false) 83)) := (Below.refl _ _).alloc (Nat.le_refl _) _
          have hn := blk.new w2 (pCells 0 (.slice A l.length c) (.string (bs b)) 262144 c0 [] false) 83
          have HEn := Lib.hid ((HE.out.bel hb2).bel hal2); have HFn := Lib.hid ((HFL.out.bel hb2).bel hal2)
          have hpl := hp2.below hal2
          have HPL := Lib.hid hpl; have HN := Lib.hid hn
          have HB2 := Lib.hid ((HAL.out.trans (hb2.mono HAL.out.size)).trans (hal2.mono (HAL.out.trans (hb2.mono HAL.out.size)).size))
          have d4' : (w2.alloc (.cells #[.int .i64 0, .slice A l.length c, .string (bs b), .int .i64 262144, .int .i64 c0, .string ⟨#[]⟩, .bool false] 83)).cell? ⟨w.heap.size, 4, none⟩ = some (.string (bs b)) := hpl.cell 4 _ rfl
          have HS2 := Lib.hid (HSZ.out w2.heap.size _ HEn.out hn)
          unfold pCells at HPL HB2 HEn HFn HN HS2
          clear hal2 hn hp2 hpl hb2 HFL HE HP HAL HQ HSM c00 c1 c2 c3 c4
          go_wp2_with fail
          refine HS2.out.mono ?_
          rintro e wb ⟨rfl, hbb⟩
          have HBb := Lib.hid (HB2.out.trans (hbb.mono HB2.out.size)); have HNb := Lib.hid (HN.out.below hbb); have HPb := Lib.hid (HPL.out.below hbb)
          have HHb := Lib.hid (HHD.out w2.heap.size _ wb (HEn.out.bel hbb) HNb.out rfl rfl rfl (HFn.out.bel hbb))
          clear hbb HB2 HN HPL HEn HFn HS2 d0 d3 d4 d4' HHD HSZ
          go_wp2_with fail
          refine HHb.out.mono ?_
          rintro e wc ⟨rfl, hbc⟩
          have HBc := Lib.hid (HBb.out.trans (hbc.mono HBb.out.size)); have HPc := Lib.hid (HPb.out.below hbc)
          have e4 := HPc.out.cell 4 _ rfl
          clear hbc HBb HNb HPb HHb
          go_wp2_with fail
          go_ret2
          exact ⟨by rw [HF.out]; rfl, HBc.out⟩
      · have HF : Hid (putY c0 r n l b d = ([], h2)) := HR2.out.trans (if_pos hz2)
        have hd : (h2 != 0) = true := bne_iff_ne.2 hz2
        obtain rfl : h1 = [] := HPN.out hz2
        clear HR2 hz2
        go_enter Tryz.func20, Tryz.ntmps20
        go_wp2_with fail
        refine HQ.out.mono ?_
        rintro e w2 ⟨rfl, hb2⟩
        have hp2 := HP.out.below hb2
        have d0 := hp2.cell 0 _ rfl
        have d3 := hp2.cell 3 _ rfl
        have d4 := hp2.cell 4 _ rfl
        have hal2 : Below w2.heap.size w2 (w2.alloc (.cells (pCells 0 (.slice A l.length c) (.string (bs b)) 262144 c0 [] false) 83)) := (Below.refl _ _).alloc (Nat.le_refl _) _
        have hn := blk.new w2 (pCells 0 (.slice A l.length c) (.string (bs b)) 262144 c0 [] false) 83
        have HEn := Lib.hid ((HE.out.bel hb2).bel hal2); have HFn := Lib.hid ((HFL.out.bel hb2).bel hal2)
        have hpl := hp2.below hal2
        have HPL := Lib.hid hpl; have HN := Lib.hid hn
        have HB2 := Lib.hid ((HAL.out.trans (hb2.mono HAL.out.size)).trans (hal2.mono (HAL.out.trans (hb2.mono HAL.out.size)).size))
        have d4' : (w2.alloc (.cells #[.int .i64 0, .slice A l.length c, .string (bs b), .int .i64 262144, .int .i64 c0, .string ⟨#[]⟩, .bool false] 83)).cell? ⟨w.heap.size, 4, none⟩ = some (.string (bs b)) := hpl.cell 4 _ rfl
        have HS2 := Lib.hid (HSZ.out w2.heap.size _ HEn.out hn)
        unfold pCells at HPL HB2 HEn HFn HN HS2
        clear hal2 hn hp2 hpl hb2 HFL HE HP HAL HQ HSM c00 c1 c2 c3 c4
        go_wp2_with fail
        refine HS2.out.mono ?_
        rintro e wb ⟨rfl, hbb⟩
        have HBb := Lib.hid (HB2.out.trans (hbb.mono HB2.out.size)); have HNb := Lib.hid (HN.out.below hbb); have HPb := Lib.hid (HPL.out.below hbb)
        have HHb := Lib.hid (HHD.out w2.heap.size _ wb (HEn.out.bel hbb) HNb.out rfl rfl rfl (HFn.out.bel hbb))
        clear hbb HB2 HN HPL HEn HFn HS2 d0 d3 d4 d4' HHD HSZ
        go_wp2_with fail
        refine HHb.out.mono ?_
        rintro e wc ⟨rfl, hbc⟩
        have HBc := Lib.hid (HBb.out.trans (hbc.mono HBb.out.size)); have HPc := Lib.hid (HPb.out.below hbc)
        have e4 := HPc.out.cell 4 _ rfl
        clear hbc HBb HNb HPb HHb
        go_wp2_with fail
        go_ret2
        exact ⟨by rw [HF.out]; rfl, HBc.out⟩
  · have HR : Hid (putY c0 r n l b d = ([], putSQ c0 r n)) := if_pos hz
    have hd : (putSQ c0 r n != 0) = true := bne_iff_ne.2 hz
    clear hz
    generalize putSQ c0 r n = q at *
    go_enter Tryz.func20, Tryz.ntmps20
    go_wp2_with fail
    refine HQ.out.mono ?_
    rintro e w2 ⟨rfl, hb2⟩
    have HB2 := Lib.hid (HAL.out.trans (hb2.mono HAL.out.size))
    clear hb2
    go_wp2_with fail
    go_ret2
    exact ⟨by rw [HR.out]; rfl, HB2.out⟩
end Go.Proofs.YtgkjjmcjlobbpaaGreatDoor
