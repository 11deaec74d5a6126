/- What any bytes are as a request and as a reply is the document's: the statement's own walk. -/
import Derived.Test.YtgkjjmcjlobbpaaGreatDoorKMsgF
import Derived.Test.YtgkjjmcjlobbpaaGreatDoorKMsgK
import Derived.HandedShaped
import Derived.ChangeAlike
namespace Go.Proofs.YtgkjjmcjlobbpaaGreatDoor
open Go.RowKit

def LibM (w : World) : Prop := Env w ∧ Lib.TabIs Tryz.prog w "math/bits.deBruijn64tab" .u8 deBr
theorem libM_of {W : World} {l : List (String × DataW Unit)} (h : laidMetH Tryz.prog l W)
    (hf : ((l.filter (fun x => x.1 == "internal/strconv.uint64pow10"), l.filter (fun x => x.1 == "strconv.ErrSyntax"), l.filter (fun x => x.1 == "strconv.ErrRange")), l.filter (fun x => x.1 == "math/bits.deBruijn64tab")) =
      (([("internal/strconv.uint64pow10", Lib.tabData .u64 Lib.pow10Tab)], [("strconv.ErrSyntax", senData [105, 110, 118, 97, 108, 105, 100, 32, 115, 121, 110, 116, 97, 120])], [("strconv.ErrRange", senData [118, 97, 108, 117, 101, 32, 111, 117, 116, 32, 111, 102, 32, 114, 97, 110, 103, 101])]), [("math/bits.deBruijn64tab", Lib.tabData .u8 deBr)])) : LibM W := by
  obtain ⟨f1, f2⟩ := Prod.mk.inj hf
  refine ⟨env_of h f1, ?_⟩
  have h1 := laidMetH.filter (fun x => x.1 == "math/bits.deBruijn64tab") h
  rw [f2, MakeChecks.laidMetH_plain _ _ _ (by rfl)] at h1
  exact Lib.tabIs_of_head (rest := []) gBr gBrType Tryz.underlying255 Tryz.underlying5 cellsB8 cellsBr h1
theorem envM {w : World} (hm : MaxL w) (hl : LibM w) : EnvM w := ⟨⟨hm, hl.1.2, hl.2⟩, hl.1⟩
theorem maxC_of (W : World) (h : W.ShapedOpen Tryz.prog) : MaxL W :=
  Go.Proofs.cell_of_shapedOpen_int (zero := #[.int .i64 0]) (t := 3) h (of_decide_eq_true (by kernel_rfl)) (by kernel_rfl) rfl (by kernel_rfl) (by kernel_rfl) Tryz.underlying3
theorem few_parse_q (s : List UInt8) : (askM s).1.length ≤ 64 ∧ smallF (askM s).1 := by
  unfold askM msgL behindM badM
  have h0 : smallF ([] : List Fld) := fun j hj => absurd hj (by simp)
  repeat' split
  all_goals first | exact ⟨by simp, h0⟩ | exact ⟨smallF_parse.2, smallF_parse.1⟩
theorem few_parse_y (s : List UInt8) (d : Bool) : (tellM s d).1.length ≤ 64 ∧ smallF (tellM s d).1 := by
  unfold tellM msgL behindM badM
  have h0 : smallF ([] : List Fld) := fun j hj => absurd hj (by simp)
  repeat' split
  all_goals first | exact ⟨by simp, h0⟩ | exact ⟨smallF_parse.2, smallF_parse.1⟩

set_option maxHeartbeats 4000000 in
set_option maxRecDepth 100000 in
theorem reads_any (s : List UInt8) (w : World) (he : EnvM w) (hs : s.length ≤ 1048576) :
    Calls Tryz.prog 22 #[.string (bs s)] w fun e w' => e = .returned (.bool true) ∧ Below w.heap.size w w' := by
  have HQ1 : Hid (∀ W, Below w.heap.size w W → Calls Tryz.prog 11 #[.string (bs s)] W (RetQ W s)) := fun W hb => msgRequest_any s W (he.bel hb) hs
  have HQ2 : Hid (∀ W, Below w.heap.size w W → Calls Tryz.prog 12 #[.string (bs s)] W (RetQ W s)) := fun W _ => rmsgRequest_any s W hs
  have HY1 : Hid (∀ W, Below w.heap.size w W → Calls Tryz.prog 13 #[.string (bs s), .bool false] W (RetY W s false)) := fun W hb => msgReply_any s false W (he.bel hb) hs
  have HY2 : Hid (∀ W, Below w.heap.size w W → Calls Tryz.prog 14 #[.string (bs s), .bool false] W (RetY W s false)) := fun W _ => rmsgReply_any s false W hs
  have HE := Lib.hid he
  have hl1 := (few_parse_q s).1
  have hl2 := (few_parse_y s false).1
  have hRQ : ∀ W, RetQ W s = fun e w' => ∃ v, e = .returned (.tuple #[.agg #[.string (bs (mM s)), .string (bs (tM s)), .int .i64 (nM s), v, .string (bs (askM s).2.1)], .int .i64 (askM s).2.2.1, .int .i64 (askM s).2.2.2]) ∧ ownF w' W.heap.size v (askM s).1 ∧ Below W.heap.size W w' := fun W => rfl
  have hRY : ∀ W, RetY W s false = fun e w' => ∃ v, e = .returned (.tuple #[.agg #[.int .i64 (cM s false), .string (bs (rM s false)), .int .i64 (oM s false), v, .string (bs (tellM s false).2.1)], .int .i64 (tellM s false).2.2.1, .int .i64 (tellM s false).2.2.2]) ∧ ownF w' W.heap.size v (tellM s false).1 ∧ Below W.heap.size W w' := fun W => rfl
  simp only [hRQ] at HQ1 HQ2
  simp only [hRY] at HY1 HY2
  clear he hRQ hRY
  generalize mM s = m1 at *
  generalize tM s = t1 at *
  generalize nM s = n1 at *
  generalize askM s = M1 at *
  generalize cM s false = m2 at *
  generalize rM s false = t2 at *
  generalize oM s false = n2 at *
  generalize tellM s false = M2 at *
  obtain ⟨l1, b1, u1, er1⟩ := M1
  obtain ⟨l2, b2, u2, er2⟩ := M2
  simp only at HQ1 HQ2 HY1 HY2 hl1 hl2
  clear hs
  generalize bs s = S at *
  go_enter Tryz.func22, Tryz.ntmps22
  go_wp2_with fail
  refine (HQ1.out _ (Below.refl _ _)).mono ?_
  rintro e w1 ⟨v1, rfl, ho1, hb1⟩
  obtain ⟨A1, c1, rfl⟩ := ho1.form
  have K1 := Lib.hid (blk.new w1 #[.string (bs m1), .string (bs t1), .int .i64 n1, .slice A1 l1.length c1, .string (bs b1)] 25)
  have F1 := Lib.hid (ho1.fl.bel (((Below.refl _ _).alloc (Nat.le_refl _) _) : Below w1.heap.size w1 (w1.alloc (.cells #[.string (bs m1), .string (bs t1), .int .i64 n1, .slice A1 l1.length c1, .string (bs b1)] 25))))
  have B1 := Lib.hid (hb1.alloc hb1.size (.cells #[.string (bs m1), .string (bs t1), .int .i64 n1, .slice A1 l1.length c1, .string (bs b1)] 25))
  have X1 : Hid (w1.heap.size < (w1.alloc (.cells #[.string (bs m1), .string (bs t1), .int .i64 n1, .slice A1 l1.length c1, .string (bs b1)] 25)).heap.size) := K1.out.lt
  clear ho1 hb1
  go_wp2_with fail
  generalize w1.alloc (.cells #[.string (bs m1), .string (bs t1), .int .i64 n1, .slice A1 l1.length c1, .string (bs b1)] 25) = x1 at *
  refine (HQ2.out _ B1.out).mono ?_
  rintro e w2 ⟨v2, rfl, ho2, hb2⟩
  obtain ⟨A2, c2, rfl⟩ := ho2.form
  have D2 := (((Below.refl _ _).alloc (Nat.le_refl _) _) : Below w2.heap.size w2 (w2.alloc (.cells #[.string (bs m1), .string (bs t1), .int .i64 n1, .slice A2 l1.length c2, .string (bs b1)] 25)))
  have K2 := Lib.hid (blk.new w2 #[.string (bs m1), .string (bs t1), .int .i64 n1, .slice A2 l1.length c2, .string (bs b1)] 25)
  have F2 := Lib.hid (ho2.fl.bel D2)
  have E2 := Lib.hid (hb2.trans (D2.mono hb2.size))
  have K12 := Lib.hid (K1.out.below E2.out); have F12 := Lib.hid (F1.out.bel E2.out)
  have B2 := Lib.hid (B1.out.trans (E2.out.mono B1.out.size))
  clear ho2 hb2 D2 K1 F1 B1 E2
  go_wp2_with fail
  generalize w2.alloc (.cells #[.string (bs m1), .string (bs t1), .int .i64 n1, .slice A2 l1.length c2, .string (bs b1)] 25) = x2 at *
  refine (HY1.out _ B2.out).mono ?_
  rintro e w3 ⟨v3, rfl, ho3, hb3⟩
  obtain ⟨A3, c3, rfl⟩ := ho3.form
  have D3 := (((Below.refl _ _).alloc (Nat.le_refl _) _) : Below w3.heap.size w3 (w3.alloc (.cells #[.int .i64 m2, .string (bs t2), .int .i64 n2, .slice A3 l2.length c3, .string (bs b2)] 32)))
  have K3 := Lib.hid (blk.new w3 #[.int .i64 m2, .string (bs t2), .int .i64 n2, .slice A3 l2.length c3, .string (bs b2)] 32)
  have F3 := Lib.hid (ho3.fl.bel D3)
  have E3 := Lib.hid (hb3.trans (D3.mono hb3.size))
  have K13 := Lib.hid (K12.out.below E3.out); have F13 := Lib.hid (F12.out.bel E3.out); have K23 := Lib.hid (K2.out.below E3.out); have F23 := Lib.hid (F2.out.bel E3.out)
  have B3 := Lib.hid (B2.out.trans (E3.out.mono B2.out.size))
  clear ho3 hb3 D3 K12 F12 K2 F2 B2 E3
  go_wp2_with fail
  generalize w3.alloc (.cells #[.int .i64 m2, .string (bs t2), .int .i64 n2, .slice A3 l2.length c3, .string (bs b2)] 32) = x3 at *
  refine (HY2.out _ B3.out).mono ?_
  rintro e w4 ⟨v4, rfl, ho4, hb4⟩
  obtain ⟨A4, c4, rfl⟩ := ho4.form
  have D4 := (((Below.refl _ _).alloc (Nat.le_refl _) _) : Below w4.heap.size w4 (w4.alloc (.cells #[.int .i64 m2, .string (bs t2), .int .i64 n2, .slice A4 l2.length c4, .string (bs b2)] 32)))
  have k4 := blk.new w4 #[.int .i64 m2, .string (bs t2), .int .i64 n2, .slice A4 l2.length c4, .string (bs b2)] 32
  have F4 := Lib.hid (ho4.fl.bel D4)
  have E4 := Lib.hid (hb4.trans (D4.mono hb4.size))
  have k1 := K13.out.below E4.out; have F14 := Lib.hid (F13.out.bel E4.out); have k2 := K23.out.below E4.out; have F24 := Lib.hid (F23.out.bel E4.out)
  have k3 := K3.out.below E4.out; have F34 := Lib.hid (F3.out.bel E4.out)
  have B4 := Lib.hid (B3.out.trans (E4.out.mono B3.out.size))
  clear ho4 hb4 D4 K13 F13 K23 F23 K3 F3 B3 E4
  have a0 := k1.cell 0 _ rfl; have a1 := k1.cell 1 _ rfl; have a2 := k1.cell 2 _ rfl; have a3 := k1.cell 3 _ rfl; have a4 := k1.cell 4 _ rfl
  have b0' := k2.cell 0 _ rfl; have b1' := k2.cell 1 _ rfl; have b2' := k2.cell 2 _ rfl; have b3' := k2.cell 3 _ rfl; have b4' := k2.cell 4 _ rfl
  have HSQ := Lib.hid (sameQ_any m1 t1 b1 n1 _ _ l1 _ F14.out F24.out (by omega))
  have K34 := Lib.hid k3; have K44 := Lib.hid k4
  clear k1 k2 k3 k4 F14 F24
  go_wp2_with fail
  generalize w4.alloc (.cells #[.int .i64 m2, .string (bs t2), .int .i64 n2, .slice A4 l2.length c4, .string (bs b2)] 32) = x4 at *
  refine HSQ.out.mono ?_
  rintro e w5 ⟨rfl, hb5⟩
  have k3 := K34.out.below hb5; have k4 := K44.out.below hb5
  have d0 := k3.cell 0 _ rfl; have d1 := k3.cell 1 _ rfl; have d2 := k3.cell 2 _ rfl; have d3 := k3.cell 3 _ rfl; have d4 := k3.cell 4 _ rfl
  have e0 := k4.cell 0 _ rfl; have e1 := k4.cell 1 _ rfl; have e2 := k4.cell 2 _ rfl; have e3 := k4.cell 3 _ rfl; have e4 := k4.cell 4 _ rfl
  have HSY := Lib.hid (sameP_any t2 b2 m2 n2 _ _ l2 _ (F34.out.bel hb5) (F4.out.bel hb5) (by omega))
  have B5 := Lib.hid (B4.out.trans (hb5.mono B4.out.size))
  clear k3 k4 hb5 B4 K34 K44 F34 F4 a0 a1 a2 a3 a4 b0' b1' b2' b3' b4' HSQ
  go_wp2_with fail
  refine HSY.out.mono ?_
  rintro e w6 ⟨rfl, hb6⟩
  have B6 := Lib.hid (B5.out.trans (hb6.mono B5.out.size))
  clear hb6 B5 d0 d1 d2 d3 d4 e0 e1 e2 e3 e4 HSY
  go_wp2_with fail
  go_ret
  exact ⟨by simp, B6.out⟩

set_option maxHeartbeats 4000000 in
set_option maxRecDepth 100000 in
theorem messageReads_any (S : ByteArray) (d : Bool) (w : World) (he : EnvM w) :
    Calls Tryz.prog 3 #[.string S, .bool d] w fun e w' => e = .returned (.bool true) ∧ Below w.heap.size w w' := by
  by_cases hl : 12000 < S.size
  · have hl2 : (12000 : Int) < S.size := by omega
    have HW := Lib.hid (works_any w he)
    clear hl he
    go_enter Tryz.func3, Tryz.ntmps3
    go_wp2_with fail
    refine HW.out.mono ?_; rintro e w1 ⟨rfl, hb1⟩
    go_wp2_with fail
    go_ret
    exact ⟨rfl, hb1⟩
  · have hl2 : ¬ (12000 : Int) < S.size := by omega
    obtain ⟨s, hse⟩ : ∃ s, S = bs s := ⟨S.data.toList, (bs_self S).symm⟩
    have hs : s.length ≤ 1048576 := by rw [← bs_size, ← hse]; omega
    have HQ1 : Hid (∀ W, Below w.heap.size w W → Calls Tryz.prog 11 #[.string (bs s)] W (RetQ W s)) := fun W hb => msgRequest_any s W (he.bel hb) hs
    have HQ2 : Hid (∀ W, Below w.heap.size w W → Calls Tryz.prog 12 #[.string (bs s)] W (RetQ W s)) := fun W _ => rmsgRequest_any s W hs
    have HY1 : Hid (∀ W, Below w.heap.size w W → Calls Tryz.prog 13 #[.string (bs s), .bool d] W (RetY W s d)) := fun W hb => msgReply_any s d W (he.bel hb) hs
    have HY2 : Hid (∀ W, Below w.heap.size w W → Calls Tryz.prog 14 #[.string (bs s), .bool d] W (RetY W s d)) := fun W _ => rmsgReply_any s d W hs
    have HE := Lib.hid he
    have hl1 := (few_parse_q s).1
    have hl2 := (few_parse_y s d).1
    have hRQ : ∀ W, RetQ W s = fun e w' => ∃ v, e = .returned (.tuple #[.agg #[.string (bs (mM s)), .string (bs (tM s)), .int .i64 (nM s), v, .string (bs (askM s).2.1)], .int .i64 (askM s).2.2.1, .int .i64 (askM s).2.2.2]) ∧ ownF w' W.heap.size v (askM s).1 ∧ Below W.heap.size W w' := fun W => rfl
    have hRY : ∀ W, RetY W s d = fun e w' => ∃ v, e = .returned (.tuple #[.agg #[.int .i64 (cM s d), .string (bs (rM s d)), .int .i64 (oM s d), v, .string (bs (tellM s d).2.1)], .int .i64 (tellM s d).2.2.1, .int .i64 (tellM s d).2.2.2]) ∧ ownF w' W.heap.size v (tellM s d).1 ∧ Below W.heap.size W w' := fun W => rfl
    simp only [hRQ] at HQ1 HQ2
    simp only [hRY] at HY1 HY2
    clear he hRQ hRY
    generalize mM s = m1 at *
    generalize tM s = t1 at *
    generalize nM s = n1 at *
    generalize askM s = M1 at *
    generalize cM s d = m2 at *
    generalize rM s d = t2 at *
    generalize oM s d = n2 at *
    generalize tellM s d = M2 at *
    obtain ⟨l1, b1, u1, er1⟩ := M1
    obtain ⟨l2, b2, u2, er2⟩ := M2
    simp only at HQ1 HQ2 HY1 HY2 hl1 hl2
    rw [← hse] at HQ1 HQ2 HY1 HY2
    clear hs hse hl
    go_enter Tryz.func3, Tryz.ntmps3
    go_wp2_with fail
    refine (HQ1.out _ (Below.refl _ _)).mono ?_
    rintro e w1 ⟨v1, rfl, ho1, hb1⟩
    obtain ⟨A1, c1, rfl⟩ := ho1.form
    have K1 := Lib.hid (blk.new w1 #[.string (bs m1), .string (bs t1), .int .i64 n1, .slice A1 l1.length c1, .string (bs b1)] 25)
    have F1 := Lib.hid (ho1.fl.bel (((Below.refl _ _).alloc (Nat.le_refl _) _) : Below w1.heap.size w1 (w1.alloc (.cells #[.string (bs m1), .string (bs t1), .int .i64 n1, .slice A1 l1.length c1, .string (bs b1)] 25))))
    have B1 := Lib.hid (hb1.alloc hb1.size (.cells #[.string (bs m1), .string (bs t1), .int .i64 n1, .slice A1 l1.length c1, .string (bs b1)] 25))
    have X1 : Hid (w1.heap.size < (w1.alloc (.cells #[.string (bs m1), .string (bs t1), .int .i64 n1, .slice A1 l1.length c1, .string (bs b1)] 25)).heap.size) := K1.out.lt
    clear ho1 hb1
    go_wp2_with fail
    generalize w1.alloc (.cells #[.string (bs m1), .string (bs t1), .int .i64 n1, .slice A1 l1.length c1, .string (bs b1)] 25) = x1 at *
    refine (HQ2.out _ B1.out).mono ?_
    rintro e w2 ⟨v2, rfl, ho2, hb2⟩
    obtain ⟨A2, c2, rfl⟩ := ho2.form
    have D2 := (((Below.refl _ _).alloc (Nat.le_refl _) _) : Below w2.heap.size w2 (w2.alloc (.cells #[.string (bs m1), .string (bs t1), .int .i64 n1, .slice A2 l1.length c2, .string (bs b1)] 25)))
    have K2 := Lib.hid (blk.new w2 #[.string (bs m1), .string (bs t1), .int .i64 n1, .slice A2 l1.length c2, .string (bs b1)] 25)
    have F2 := Lib.hid (ho2.fl.bel D2)
    have E2 := Lib.hid (hb2.trans (D2.mono hb2.size))
    have K12 := Lib.hid (K1.out.below E2.out); have F12 := Lib.hid (F1.out.bel E2.out)
    have B2 := Lib.hid (B1.out.trans (E2.out.mono B1.out.size))
    clear ho2 hb2 D2 K1 F1 B1 E2
    go_wp2_with fail
    generalize w2.alloc (.cells #[.string (bs m1), .string (bs t1), .int .i64 n1, .slice A2 l1.length c2, .string (bs b1)] 25) = x2 at *
    refine (HY1.out _ B2.out).mono ?_
    rintro e w3 ⟨v3, rfl, ho3, hb3⟩
    obtain ⟨A3, c3, rfl⟩ := ho3.form
    have D3 := (((Below.refl _ _).alloc (Nat.le_refl _) _) : Below w3.heap.size w3 (w3.alloc (.cells #[.int .i64 m2, .string (bs t2), .int .i64 n2, .slice A3 l2.length c3, .string (bs b2)] 32)))
    have K3 := Lib.hid (blk.new w3 #[.int .i64 m2, .string (bs t2), .int .i64 n2, .slice A3 l2.length c3, .string (bs b2)] 32)
    have F3 := Lib.hid (ho3.fl.bel D3)
    have E3 := Lib.hid (hb3.trans (D3.mono hb3.size))
    have K13 := Lib.hid (K12.out.below E3.out); have F13 := Lib.hid (F12.out.bel E3.out); have K23 := Lib.hid (K2.out.below E3.out); have F23 := Lib.hid (F2.out.bel E3.out)
    have B3 := Lib.hid (B2.out.trans (E3.out.mono B2.out.size))
    clear ho3 hb3 D3 K12 F12 K2 F2 B2 E3
    go_wp2_with fail
    generalize w3.alloc (.cells #[.int .i64 m2, .string (bs t2), .int .i64 n2, .slice A3 l2.length c3, .string (bs b2)] 32) = x3 at *
    refine (HY2.out _ B3.out).mono ?_
    rintro e w4 ⟨v4, rfl, ho4, hb4⟩
    obtain ⟨A4, c4, rfl⟩ := ho4.form
    have D4 := (((Below.refl _ _).alloc (Nat.le_refl _) _) : Below w4.heap.size w4 (w4.alloc (.cells #[.int .i64 m2, .string (bs t2), .int .i64 n2, .slice A4 l2.length c4, .string (bs b2)] 32)))
    have k4 := blk.new w4 #[.int .i64 m2, .string (bs t2), .int .i64 n2, .slice A4 l2.length c4, .string (bs b2)] 32
    have F4 := Lib.hid (ho4.fl.bel D4)
    have E4 := Lib.hid (hb4.trans (D4.mono hb4.size))
    have k1 := K13.out.below E4.out; have F14 := Lib.hid (F13.out.bel E4.out); have k2 := K23.out.below E4.out; have F24 := Lib.hid (F23.out.bel E4.out)
    have k3 := K3.out.below E4.out; have F34 := Lib.hid (F3.out.bel E4.out)
    have B4 := Lib.hid (B3.out.trans (E4.out.mono B3.out.size))
    clear ho4 hb4 D4 K13 F13 K23 F23 K3 F3 B3 E4
    have a0 := k1.cell 0 _ rfl; have a1 := k1.cell 1 _ rfl; have a2 := k1.cell 2 _ rfl; have a3 := k1.cell 3 _ rfl; have a4 := k1.cell 4 _ rfl
    have b0' := k2.cell 0 _ rfl; have b1' := k2.cell 1 _ rfl; have b2' := k2.cell 2 _ rfl; have b3' := k2.cell 3 _ rfl; have b4' := k2.cell 4 _ rfl
    have HSQ := Lib.hid (sameQ_any m1 t1 b1 n1 _ _ l1 _ F14.out F24.out (by omega))
    have K34 := Lib.hid k3; have K44 := Lib.hid k4
    clear k1 k2 k3 k4 F14 F24
    go_wp2_with fail
    generalize w4.alloc (.cells #[.int .i64 m2, .string (bs t2), .int .i64 n2, .slice A4 l2.length c4, .string (bs b2)] 32) = x4 at *
    refine HSQ.out.mono ?_
    rintro e w5 ⟨rfl, hb5⟩
    have k3 := K34.out.below hb5; have k4 := K44.out.below hb5
    have d0 := k3.cell 0 _ rfl; have d1 := k3.cell 1 _ rfl; have d2 := k3.cell 2 _ rfl; have d3 := k3.cell 3 _ rfl; have d4 := k3.cell 4 _ rfl
    have e0 := k4.cell 0 _ rfl; have e1 := k4.cell 1 _ rfl; have e2 := k4.cell 2 _ rfl; have e3 := k4.cell 3 _ rfl; have e4 := k4.cell 4 _ rfl
    have HSY := Lib.hid (sameP_any t2 b2 m2 n2 _ _ l2 _ (F34.out.bel hb5) (F4.out.bel hb5) (by omega))
    have B5 := Lib.hid (B4.out.trans (hb5.mono B4.out.size))
    clear k3 k4 hb5 B4 K34 K44 F34 F4 a0 a1 a2 a3 a4 b0' b1' b2' b3' b4' HSQ
    go_wp2_with fail
    refine HSY.out.mono ?_
    rintro e w6 ⟨rfl, hb6⟩
    have B6 := Lib.hid (B5.out.trans (hb6.mono B5.out.size))
    clear hb6 B5 d0 d1 d2 d3 d4 e0 e1 e2 e3 e4 HSY
    go_wp2_with fail
    refine (works_any _ (HE.out.bel B6.out)).mono ?_
    rintro e w7 ⟨rfl, hb7⟩
    have B7 := Lib.hid (B6.out.trans (hb7.mono B6.out.size))
    clear hb7
    go_wp2_with fail
    go_ret
    exact ⟨by simp, B7.out⟩
theorem messageReads_law (S : ByteArray) (d : Bool) (w : World) (_ : S.size ≤ maxLen) (hm : MaxL w) (hl : LibM w) :
    Calls Tryz.prog 3 #[.string S, .bool d] w fun e w' => e = .returned (.bool true) ∧ Below w.heap.size w w' := messageReads_any S d w (envM hm hl)
end Go.Proofs.YtgkjjmcjlobbpaaGreatDoor
