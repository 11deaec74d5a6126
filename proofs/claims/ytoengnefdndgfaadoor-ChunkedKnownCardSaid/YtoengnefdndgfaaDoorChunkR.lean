/- The chapter's answers that each statement asks for: same, gives, fails; what any bytes are; what the walks ask of Go's library. -/
import Derived.Test.YtoengnefdndgfaaDoorChunkE
import Derived.Test.YtoengnefdndgfaaDoorFieldsV
import Derived.Test.YtoengnefdndgfaaDoorChunk2
import Derived.Test.YtoengnefdndgfaaDoorChunkK
import Derived.Test.YtoengnefdndgfaaDoorChunkA
import Derived.HandedShaped
namespace Go.Proofs.YtoengnefdndgfaaDoor
open Go.RowKit

set_option maxHeartbeats 1000000 in
set_option maxRecDepth 100000 in
theorem same7_any (v1 v2 : Value) (L1 L2 : List Fld) (w : World) (h1 : FL w v1 L1) (h2 : FL w v2 L2) (hl : L1.length ≤ 4294967296) :
    Calls Tryd.prog 12 #[v1, v2] w fun e w' => e = .returned (.bool (L1 == L2)) ∧ Below w.heap.size w w' := by
  obtain ⟨a1, c1, rfl⟩ := h1.form
  obtain ⟨a2, c2, rfl⟩ := h2.form
  have H1 := Lib.hid h1; have H2 := Lib.hid h2
  clear h1 h2
  by_cases hlen : L1.length = L2.length
  · have hne : ((L1.length : Int) != (L2.length : Int)) = false := by rw [bne_eq_false_iff_eq]; omega
    have HLen := Lib.hid hlen; clear hlen
    go_enter Tryd.func12, Tryd.ntmps12
    go_wp2_with fail
    go_loopw [5] (fun i wr => ∃ k : Nat, k ≤ L1.length ∧ i = .int .i64 k ∧ L1.take k = L2.take k ∧ Below w.heap.size w wr) (fun i _ => L1.length - (intOf i).toNat)
    case atStart => exact ⟨0, Nat.zero_le _, rfl, rfl, Below.refl _ _⟩
    case round =>
      obtain ⟨k, hk, rfl, ht, hb⟩ := hrel
      have HT := Lib.hid ht; clear ht
      have HB := Lib.hid hb; clear hb
      by_cases hlt : k < L1.length
      · have hlt2 : k < L2.length := by have := HLen.out; omega
        have hi1 : (k : Int) < (L1.length : Int) := by omega
        have hi2 : (k : Int) < (L2.length : Int) := by omega
        obtain ⟨g1, o1, rfl, _, hc1, hc3⟩ := (H1.out.bel HB.out).get k hlt
        obtain ⟨g2, o2, rfl, _, hc2, hc4⟩ := (H2.out.bel HB.out).get k hlt2
        have hcmp := fun w => run_neqF L1[k] L2[k] w
        by_cases he : L1[k] = L2[k]
        · have HS := Lib.hid (take_grow hlt hlt2 HT.out he)
          rw [show (!(L1[k] == L2[k])) = false from by rw [he]; simp] at hcmp
          clear he
          generalize L1[k] = x at *
          generalize L2[k] = y at *
          generalize bs x.1 = x1 at *
          generalize bs x.2 = x2 at *
          generalize bs y.1 = y1 at *
          generalize bs y.2 = y2 at *
          go_wp2_with fail
          go_quiet (fail)
          go_wp2_with fail
          go_roundw
          case rel => exact ⟨k + 1, by omega, by go_num, HS.out, below_dn HB.out _⟩
          case measure => simp [intOf]; omega
        · have HN : Hid (¬ L1 = L2) := fun e => he (by subst e; rfl)
          rw [show (!(L1[k] == L2[k])) = true from by rw [beq_eq_false_iff_ne.2 he]; rfl] at hcmp
          clear he
          generalize L1[k] = x at *
          generalize L2[k] = y at *
          generalize bs x.1 = x1 at *
          generalize bs x.2 = x2 at *
          generalize bs y.1 = y1 at *
          generalize bs y.2 = y2 at *
          go_wp2_with fail
          go_quiet (fail)
          go_wp2_with fail
          go_ret
          exact ⟨ret_bool (beq_eq_false_iff_ne.2 HN.out).symm, below_dn HB.out _⟩
      · have HE : Hid (L1 = L2) := by
          have h := HT.out
          have h3 := HLen.out
          rwa [List.take_of_length_le (by omega), List.take_of_length_le (by omega)] at h
        go_wp2_with fail
        go_ret
        exact ⟨ret_bool (beq_iff_eq.2 HE.out).symm, HB.out⟩
  · have hne : ((L1.length : Int) != (L2.length : Int)) = true := bne_iff_ne.2 (by omega)
    have HN : Hid (¬ L1 = L2) := fun e => hlen (by rw [e])
    clear hlen
    go_enter Tryd.func12, Tryd.ntmps12
    go_wp2_with fail
    go_ret
    exact ⟨ret_bool (beq_eq_false_iff_ne.2 HN.out).symm, Below.refl _ _⟩

theorem fl_of {w : World} {base : Nat} {v : Value} {l : List Fld} (h : ownF w base v l) : ∃ a c, v = .slice a l.length c := h.form
def givesB (D : Dec) (body : List UInt8) (used tr : Int) : Bool := (((D.1 == body) && ((D.2.1 : Int) == used)) && ((D.2.2.1.length : Int) == tr)) && (D.2.2.2 == 0)
def failsB (D : Dec) (want : Int) : Bool := ((D.1.isEmpty && ((D.2.1 : Int) == 0)) && ((D.2.2.1.length : Int) == 0)) && (D.2.2.2 == want)
theorem fails_bad (e : Int) (want : Int) : failsB (bad e) want = (e == want) := rfl
set_option maxHeartbeats 1000000 in
set_option maxRecDepth 100000 in
theorem gives_any (s body : List UInt8) (most used tr : Int) (w : World) (he : EnvC w) (hs : s.length ≤ 1048576) :
    Calls Tryd.prog 16 #[.string (bs s), .int .i64 most, .string (bs body), .int .i64 used, .int .i64 tr] w fun e w' => e = .returned (.bool (givesB (decodeL s most) body used tr)) ∧ Below w.heap.size w w' := by
  have hd := decode_any s most w he hs
  unfold RetD at hd
  generalize decodeL s most = D at hd ⊢
  obtain ⟨a, n, l, e⟩ := D
  unfold givesB
  simp only at hd ⊢
  have hbq := beq_bs a body
  obtain ⟨A, hA⟩ : ∃ A, A = bs a := ⟨_, rfl⟩
  obtain ⟨B, hB⟩ : ∃ B, B = bs body := ⟨_, rfl⟩
  obtain ⟨S, hS⟩ : ∃ S, S = bs s := ⟨_, rfl⟩
  rw [← hA] at hd hbq
  rw [← hB] at hbq ⊢
  rw [← hS] at hd ⊢
  rw [← hbq]
  have HD := Lib.hid hd
  clear hd hA hB hS hbq he
  go_enter Tryd.func16, Tryd.ntmps16
  go_wp2_with fail
  refine HD.out.mono ?_; rintro e1 w1 ⟨v, rfl, ho, hb⟩
  obtain ⟨x, c, rfl⟩ := ho.form
  have HB := Lib.hid hb; clear hb ho
  cases h1 : (A.toList == B.toList)
  · go_wp2_with fail
    go_ret
    exact ⟨ret_bool (a := false) (by simp [h1]), HB.out⟩
  · cases h2 : ((n : Int) == used)
    · go_wp2_with fail
      go_ret
      exact ⟨ret_bool (a := false) (by simp [h1, h2]), HB.out⟩
    · cases h3 : ((l.length : Int) == tr)
      · go_wp2_with fail
        go_ret
        exact ⟨ret_bool (a := false) (by simp [h1, h2, h3]), HB.out⟩
      · go_wp2_with fail
        go_ret
        exact ⟨ret_bool (a := (e == 0)) (by simp [h1, h2, h3]), HB.out⟩
set_option maxHeartbeats 1000000 in
set_option maxRecDepth 100000 in
theorem fails_any (s : List UInt8) (most want : Int) (w : World) (he : EnvC w) (hs : s.length ≤ 1048576) :
    Calls Tryd.prog 17 #[.string (bs s), .int .i64 most, .int .i64 want] w fun e w' => e = .returned (.bool (failsB (decodeL s most) want)) ∧ Below w.heap.size w w' := by
  have hd := decode_any s most w he hs
  unfold RetD at hd
  generalize decodeL s most = D at hd ⊢
  obtain ⟨a, n, l, e⟩ := D
  unfold failsB
  simp only at hd ⊢
  have hbq : (bs a).toList.isEmpty = a.isEmpty := by rw [Lib.toList_data, bs_data]
  obtain ⟨A, hA⟩ : ∃ A, A = bs a := ⟨_, rfl⟩
  obtain ⟨S, hS⟩ : ∃ S, S = bs s := ⟨_, rfl⟩
  rw [← hA] at hd hbq
  rw [← hS] at hd ⊢
  rw [← hbq]
  have HD := Lib.hid hd
  clear hd hA hS hbq he
  go_enter Tryd.func17, Tryd.ntmps17
  go_wp2_with fail
  refine HD.out.mono ?_; rintro e1 w1 ⟨v, rfl, ho, hb⟩
  obtain ⟨x, c, rfl⟩ := ho.form
  have HB := Lib.hid hb; clear hb ho
  cases h1 : A.toList.isEmpty
  · go_wp2_with fail
    go_ret
    exact ⟨ret_bool (a := false) (by simp [h1]), HB.out⟩
  · cases h2 : ((n : Int) == 0)
    · go_wp2_with fail
      go_ret
      exact ⟨ret_bool (a := false) (by simp [h1, h2]), HB.out⟩
    · cases h3 : ((l.length : Int) == 0)
      · go_wp2_with fail
        go_ret
        exact ⟨ret_bool (a := false) (by simp [h1, h2, h3]), HB.out⟩
      · go_wp2_with fail
        go_ret
        exact ⟨ret_bool (a := (e == want)) (by simp [h1, h2, h3]), HB.out⟩
end Go.Proofs.YtoengnefdndgfaaDoor
namespace Go.Proofs.YtoengnefdndgfaaDoor
open Go.RowKit

theorem abcx_gives : givesB (decodeL [51, 13, 10, 97, 98, 99, 13, 10, 48, 13, 10, 13, 10, 120] 100) [97, 98, 99] 13 0 = true := by rw [dec_abcx]; rfl
theorem ab_fails : failsB (decodeL [51, 13, 10, 97, 98] 100) 6 = true := by rw [dec_ab]; rfl
set_option maxHeartbeats 1000000 in
set_option maxRecDepth 100000 in
theorem awake_any (w : World) (he : EnvC w) : Calls Tryd.prog 9 #[] w fun e w' => e = .returned (.bool true) ∧ Below w.heap.size w w' := by
  have h1 := gives_any [51, 13, 10, 97, 98, 99, 13, 10, 48, 13, 10, 13, 10, 120] [97, 98, 99] 100 13 0 w he (by decide)
  rw [abcx_gives] at h1
  have h2 := fun (w' : World) (hb : EnvC w') => fails_any [51, 13, 10, 97, 98] 100 6 w' hb (by decide)
  rw [ab_fails] at h2
  have h3 := fun (w' : World) (hb : EnvC w') => encode_any [97, 98, 99] (.slice none 0 0) [] w' hb (.inl ⟨rfl, _, _, rfl⟩) (by decide) (by decide)
  rw [enc_abc] at h3
  have H1 := Lib.hid h1; have H2 := Lib.hid h2; have H3 := Lib.hid h3; have HE := Lib.hid he
  clear h1 h2 h3 he
  go_enter Tryd.func9, Tryd.ntmps9
  go_wp2_with fail
  refine H1.out.mono ?_; rintro e w1 ⟨rfl, hb1⟩
  have HE1 := Lib.hid (HE.out.bel hb1); have HB1 := Lib.hid hb1; clear hb1
  go_wp2_with fail
  refine (H2.out _ HE1.out).mono ?_; rintro e w2 ⟨rfl, hb2⟩
  have HE2 := Lib.hid (HE1.out.bel hb2); have HB2 := Lib.hid (HB1.out.trans (hb2.mono HB1.out.size)); clear hb2
  go_wp2_with fail
  refine (H3.out _ HE2.out).mono ?_; rintro e w3 ⟨rfl, hb3⟩
  have HB3 := Lib.hid (HB2.out.trans (hb3.mono HB2.out.size)); clear hb3
  go_wp2_with fail
  go_ret
  exact ⟨ret_bool (by rw [Lib.toList_data]; rfl), HB3.out⟩
end Go.Proofs.YtoengnefdndgfaaDoor
namespace Go.Proofs.YtoengnefdndgfaaDoor
open Go.RowKit
def LibC (w : World) : Prop := (Sen w "strconv.ErrSyntax" ∧ Sen w "strconv.ErrRange") ∧ Lib.TabIs Tryd.prog w "math/bits.deBruijn64tab" .u8 deBr
theorem libC_of {W : World} {l : List (String × DataW Unit)} (h : laidMetH Tryd.prog l W)
    (hf : ((l.filter (fun x => x.1 == "strconv.ErrSyntax"), l.filter (fun x => x.1 == "strconv.ErrRange")), l.filter (fun x => x.1 == "math/bits.deBruijn64tab")) =
      (([("strconv.ErrSyntax", senData [105, 110, 118, 97, 108, 105, 100, 32, 115, 121, 110, 116, 97, 120])], [("strconv.ErrRange", senData [118, 97, 108, 117, 101, 32, 111, 117, 116, 32, 111, 102, 32, 114, 97, 110, 103, 101])]), [("math/bits.deBruijn64tab", Lib.tabData .u8 deBr)])) : LibC W := by
  obtain ⟨f1, f2⟩ := Prod.mk.inj hf
  refine ⟨sen_of h f1, ?_⟩
  have h1 := laidMetH.filter (fun x => x.1 == "math/bits.deBruijn64tab") h
  rw [f2, MakeChecks.laidMetH_plain _ _ _ (by rfl)] at h1
  exact Lib.tabIs_of_head (rest := []) gBr gBrType Tryd.underlying132 Tryd.underlying5 cellsB8 cellsBr h1
theorem envC {w : World} (hm : MaxL w) (hl : LibC w) : EnvC w := ⟨hm, hl.1, hl.2⟩
theorem maxC_of (W : World) (h : W.ShapedOpen Tryd.prog) : MaxL W :=
  Go.Proofs.cell_of_shapedOpen_int (zero := #[.int .i64 0]) (t := 3) h (of_decide_eq_true (by kernel_rfl)) (by kernel_rfl) rfl (by kernel_rfl) (by kernel_rfl) Tryd.underlying3
end Go.Proofs.YtoengnefdndgfaaDoor
