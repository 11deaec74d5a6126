/- The small thing that one knows: reads, fails, works. -/
import Derived.Test.YtilaalfehnngcaaDoorFieldsL
namespace Go.Proofs.YtilaalfehnngcaaDoor
open Go.RowKit

/-- names and values, one behind the other -/
def flatN (l : List Fld) : List (List UInt8) := l.flatMap fun f => [f.1, f.2]
theorem flatN_len (l : List Fld) : (flatN l).length = 2 * l.length := by
  induction l with
  | nil => rfl
  | cons f r ih => simp [flatN] at ih ⊢; omega
theorem flatN_at (l : List Fld) (j : Nat) (hj : j < l.length) : (flatN l)[2 * j]? = some l[j].1 ∧ (flatN l)[2 * j + 1]? = some l[j].2 := by
  induction l generalizing j with
  | nil => exact absurd hj (by simp)
  | cons f r ih =>
    have e : flatN (f :: r) = f.1 :: f.2 :: flatN r := by simp [flatN]
    rw [e]
    cases j with
    | zero => exact ⟨rfl, rfl⟩
    | succ k =>
      obtain ⟨h1, h2⟩ := ih k (by simpa using hj)
      rw [show 2 * (k + 1) = 2 * k + 2 from by omega]
      exact ⟨h1, h2⟩
theorem SL.at2 {w : World} {A : Option Addr} {n c : Nat} {L : List (List UInt8)} {j : Nat} {x : List UInt8} (h : SL w (.slice A n c) L) (hx : L[j]? = some x) : ∃ b off, A = some ⟨b, off, none⟩ ∧ w.cell? ⟨b, off + j, none⟩ = some (.string (bs x)) := by
  obtain ⟨hj, he⟩ := List.getElem?_eq_some_iff.1 hx
  obtain ⟨b, off, h1, _, h2⟩ := h.get j hj
  exact ⟨b, off, h1, by rw [h2, he]⟩

set_option maxHeartbeats 2000000 in
set_option maxRecDepth 100000 in
theorem reads_any (s : List UInt8) (v : Value) (l : List Fld) (w : World) (hm : MaxL w) (hs : s.length ≤ 1048576) (hp : parseL s = (l, 0)) (h : SL w v (flatN l)) (hl : l.length ≤ 64) :
    Calls Tryd.prog 16 #[.string (bs s), v] w fun e w' => e = .returned (.bool true) ∧ Below w.heap.size w w' := by
  obtain ⟨A, c, rfl⟩ := h.form
  have hpa := parse_any s w hm hs
  rw [hp] at hpa
  have HPA := Lib.hid hpa; have HW := Lib.hid h; clear hpa h hp hm
  have hfl := flatN_len l
  have HFL := Lib.hid hfl
  have hfl2 : ((2 * (l.length : Int)) != ((flatN l).length : Int)) = false := by rw [bne_eq_false_iff_eq]; omega
  clear hfl
  go_enter Tryd.func16, Tryd.ntmps16
  go_wp2_with fail
  refine HPA.out.mono ?_
  rintro e w1 ⟨v1, rfl, ho1, hb1⟩
  obtain ⟨A1, c1, rfl⟩ := ho1.form
  have HO := Lib.hid ho1.fl; have HB1 := Lib.hid hb1; have HW1 := Lib.hid (HW.out.bel hb1); clear ho1 hb1
  go_wp2_with fail
  go_loopw [7] (fun i wr => ∃ k : Nat, k ≤ l.length ∧ i = .int .i64 k ∧ Below w1.heap.size w1 wr) (fun i _ => l.length - (intOf i).toNat)
  case atStart => exact ⟨0, Nat.zero_le _, rfl, Below.refl _ _⟩
  case round =>
    obtain ⟨k, hk, rfl, hb⟩ := hrel
    have HB := Lib.hid hb; clear hb
    by_cases hlt : k < l.length
    · obtain ⟨f1, f2⟩ := flatN_at l k hlt
      obtain ⟨b, off, rfl, _, hc1, hc2⟩ := (HO.out.bel HB.out).get k hlt
      obtain ⟨b2, o2, rfl, hd1⟩ := (HW1.out.bel HB.out).at2 f1
      obtain ⟨b3, o3, he, hd2⟩ := (HW1.out.bel HB.out).at2 f2
      obtain ⟨rfl, rfl⟩ : b2 = b3 ∧ o2 = o3 := by simpa using he
      clear he f1 f2
      have hi1 : (k : Int) < (l.length : Int) := by omega
      have hi2 : (2 : Int) * (k : Int) < ((flatN l).length : Int) := by have := HFL.out; omega
      have hi3 : (2 : Int) * (k : Int) + 1 < ((flatN l).length : Int) := by have := HFL.out; omega
      have hj2 : 2 * k < (flatN l).length := by have := HFL.out; omega
      have hj3 : 2 * k + 1 < (flatN l).length := by have := HFL.out; omega
      generalize l[k] = f at *
      generalize bs f.1 = x at *
      generalize bs f.2 = y at *
      generalize (flatN l).length = FN at *
      have hw1 : IntKind.i64.wrap (2 * (k : Int)) = 2 * (k : Int) := by rw [IntKind.wrap_i64]; omega
      have hw2 : IntKind.i64.wrap (2 * (k : Int) + 1) = 2 * (k : Int) + 1 := by rw [IntKind.wrap_i64]; omega
      have hb1 : (0 : Int) ≤ 2 * (k : Int) := by omega
      have hb2 : (0 : Int) ≤ 2 * (k : Int) + 1 := by omega
      have ht1 : (2 * (k : Int)).toNat = 2 * k := by omega
      have ht2 : (2 * (k : Int) + 1).toNat = 2 * k + 1 := by omega
      go_wp2_with fail
      go_quiet (fail)
      clear hw1 hw2 hb1 hb2 ht1 ht2
      go_wp2_with fail
      go_roundw
      case rel => exact ⟨k + 1, by omega, by go_num, below_dn HB.out _⟩
      case measure => simp [intOf]; omega
    · go_wp2_with fail
      go_ret
      exact ⟨rfl, HB1.out.trans (HB.out.mono HB1.out.size)⟩

set_option maxHeartbeats 1000000 in
set_option maxRecDepth 100000 in
theorem fails_any (s : List UInt8) (E : Int) (w : World) (hm : MaxL w) (hs : s.length ≤ 1048576) (hp : parseL s = ([], E)) :
    Calls Tryd.prog 17 #[.string (bs s), .int .i64 E] w fun e w' => e = .returned (.bool true) ∧ Below w.heap.size w w' := by
  have hpa := parse_any s w hm hs
  rw [hp] at hpa
  have HPA := Lib.hid hpa; clear hpa hp hm
  go_enter Tryd.func17, Tryd.ntmps17
  go_wp2_with fail
  refine HPA.out.mono ?_
  rintro e w1 ⟨v1, rfl, ho1, hb1⟩
  obtain ⟨A1, c1, rfl⟩ := ho1.form
  have HB1 := Lib.hid hb1; clear ho1 hb1
  go_wp2_with fail
  go_ret
  exact ⟨ret_bool (by simp), HB1.out⟩

theorem parse_go {r c1 c2 : List UInt8} {out : List Fld} {f : Fld} (hc : cutN r = (c1, c2, true)) (hl : out.length < 64) (h2 : c1.length ≤ 2048) (hE : oneE c1 = 0) (hF : oneF c1 = f) : parseW r out = parseW c2 (out ++ [f]) := by
  rw [parseW_step out (by rw [hc]), hc]
  simp only
  rw [if_neg (by omega), if_pos hE, hF]
theorem parse_bad {r c1 c2 : List UInt8} {out : List Fld} {E : Int} (hc : cutN r = (c1, c2, true)) (hl : out.length < 64) (h2 : c1.length ≤ 2048) (hE : oneE c1 = E) (hn : ¬ E = 0) : parseW r out = ([], E) := by
  rw [parseW_step out (by rw [hc]), hc]
  simp only
  rw [if_neg (by omega), if_neg (by rw [hE]; exact hn), hE]
theorem k_reads : parseL [65, 58, 98, 13, 10, 97, 58, 32, 32, 99, 32, 100, 32, 32, 13, 10] = ([([65], [98]), ([97], [99, 32, 100])], 0) := by
  unfold parseL
  rw [parse_go (c1 := [65, 58, 98]) (c2 := [97, 58, 32, 32, 99, 32, 100, 32, 32, 13, 10]) (f := ([65], [98])) (by decide) (by decide) (by decide) (by decide) (by decide),
    parse_go (c1 := [97, 58, 32, 32, 99, 32, 100, 32, 32]) (c2 := []) (f := ([97], [99, 32, 100])) (by decide) (by decide) (by decide) (by decide) (by decide), parse_nil]
  rfl
theorem k_fails : parseL [65, 32, 58, 32, 98, 13, 10] = ([], 4) := by
  unfold parseL
  exact parse_bad (c1 := [65, 32, 58, 32, 98]) (c2 := []) (by decide) (by decide) (by decide) (by decide) (by decide)

set_option maxHeartbeats 2000000 in
set_option maxRecDepth 100000 in
theorem works_any (w : World) (hm : MaxL w) :
    Calls Tryd.prog 7 #[] w fun e w' => e = .returned (.bool true) ∧ Below w.heap.size w w' := by
  have hg := fun w' v (h : FL w' v someL) => get_any v someL [97] w' h (few_small (l := someL) (by decide)).2.2 (by decide) (by decide) (by decide)
  rw [show getL someL [97] = [98, 44, 32, 99] from by decide, show hasF someL [97] = true from by decide, show bs [98, 44, 32, 99] = ⟨#[98, 44, 32, 99]⟩ from rfl, show bs [97] = ⟨#[97]⟩ from rfl] at hg
  have hr := fun w' (hm' : MaxL w') v (h : SL w' v (flatN [([65], [98]), ([97], [99, 32, 100])])) => reads_any _ v _ w' hm' (by decide) k_reads h (by decide)
  rw [show bs [65, 58, 98, 13, 10, 97, 58, 32, 32, 99, 32, 100, 32, 32, 13, 10] = ⟨#[65, 58, 98, 13, 10, 97, 58, 32, 32, 99, 32, 100, 32, 32, 13, 10]⟩ from rfl] at hr
  have hf := fun w' (hm' : MaxL w') => fails_any _ 4 w' hm' (by decide) k_fails
  rw [show bs [65, 32, 58, 32, 98, 13, 10] = ⟨#[65, 32, 58, 32, 98, 13, 10]⟩ from rfl] at hf
  have HG := Lib.hid hg; have HR := Lib.hid hr; have HF := Lib.hid hf; have HM := Lib.hid hm
  clear hg hr hf hm
  go_enter Tryd.func7, Tryd.ntmps7
  go_wp2_with fail
  refine (some_any _).mono ?_
  rintro e w1 ⟨v1, rfl, h1, hb1⟩
  have H1 := Lib.hid h1; have HB1 := Lib.hid hb1; clear h1 hb1
  go_wp2_with fail
  refine (HG.out _ _ H1.out).mono ?_
  rintro e w2 ⟨rfl, hb2⟩
  have HB2 := Lib.hid (HB1.out.trans (hb2.mono HB1.out.size)); clear hb2
  have hal : Below w2.heap.size w2 (w2.alloc (.cells (strCs (flatN [([65], [98]), ([97], [99, 32, 100])])).toArray 9)) := (Below.refl _ _).alloc (Nat.le_refl _) _
  have hsl : SL (w2.alloc (.cells (strCs (flatN [([65], [98]), ([97], [99, 32, 100])])).toArray 9)) (.slice (some ⟨w2.heap.size, 0, none⟩) 4 4) (flatN [([65], [98]), ([97], [99, 32, 100])]) := by
    refine .inr ⟨w2.heap.size, 0, 4, rfl, by simp, fun j hj => ?_⟩
    have hh := heap_alloc_new w2 (.cells (strCs (flatN [([65], [98]), ([97], [99, 32, 100])])).toArray 9)
    rw [cell_of_row _ w2.heap.size (0 + j) _ _ _ hh, Nat.zero_add, List.getElem?_toArray]
    unfold strCs
    rw [List.getElem?_map, List.getElem?_eq_getElem hj]; rfl
  have hb3 := HB2.out.trans (hal.mono HB2.out.size)
  have hrd := HR.out _ (HM.out.bel hb3 (Nat.le_refl _)) _ hsl
  have HRD := Lib.hid hrd; have HB3 := Lib.hid hb3; clear hrd hb3 hal hsl
  go_wp2_with fail
  refine HRD.out.mono ?_
  rintro e w4 ⟨rfl, hb4⟩
  have HB4 := Lib.hid (HB3.out.trans (hb4.mono HB3.out.size)); clear hb4
  go_wp2_with fail
  refine (HF.out _ (HM.out.bel HB4.out (Nat.le_refl _))).mono ?_
  rintro e w5 ⟨rfl, hb5⟩
  have HB5 := Lib.hid (HB4.out.trans (hb5.mono HB4.out.size)); clear hb5
  go_wp2_with fail
  go_ret
  exact ⟨rfl, HB5.out⟩
end Go.Proofs.YtilaalfehnngcaaDoor
