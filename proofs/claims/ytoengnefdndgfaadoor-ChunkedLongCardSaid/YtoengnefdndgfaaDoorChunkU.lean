/- So many letters; lines and last lines of so many bytes. -/
import Derived.Test.YtoengnefdndgfaaDoorChunkS
import Derived.Laws.OwnMore
import Derived.Laws.MakeOwn
namespace Go.Proofs.YtoengnefdndgfaaDoor
open Go.RowKit

theorem row_zero (w : World) (n : Nat) : rowB (w.alloc (.cells (madeCells #[.int .u8 0] n) 5)) w.heap.size n (List.replicate n 0) := by
  refine ⟨_, _, _, _, heap_alloc_new w _, .inr rfl, by simp, ?_⟩
  rw [toList_madeCells_one, List.take_of_length_le (by simp)]
  simp [Lib.byteCells]
theorem rep_set {n k : Nat} (h : k < n) (c d : UInt8) : (List.replicate k c ++ List.replicate (n - k) d).set k c = List.replicate (k + 1) c ++ List.replicate (n - (k + 1)) d := by
  rw [List.set_append_right _ _ (by simp), List.length_replicate, Nat.sub_self, show n - k = (n - (k + 1)) + 1 from by omega, List.replicate_succ, List.set_cons_zero, List.replicate_succ' (n := k)]
  simp
set_option maxHeartbeats 1000000 in
set_option maxRecDepth 100000 in
theorem spread_any (n : Nat) (w : World) (hn : n ≤ 1048576) :
    Calls Tryd.prog 15 #[.int .i64 n] w fun e w' => ∃ b, e = .returned (.slice (some ⟨b, 0, none⟩) n n) ∧ rowB w' b n (List.replicate n 97) ∧ Below w.heap.size w w' := by
  obtain ⟨i0, hi, hz0, hz1, hz2⟩ := info_parts infoB
  have hmk : ∀ W : World, (Instr.makeSlice 36 (.int .i64 (n : Int)) (.int .i64 (n : Int))).run Tryd.prog W = .ok (.slice (some ⟨W.heap.size, 0, none⟩) n n) (W.alloc (.cells (madeCells #[.int .u8 0] n) 5)) := fun W => by
    have h := run_make (P := Tryd.prog) W 36 5 i0 (.int .u8 0) Tryd.underlying36 hi hz0 .i64 .i64 (n : Int) (n : Int) (by omega) (by omega) (by rw [hz2]; omega) (by omega)
    rw [hz1] at h
    simpa [Value.cells] using h
  have hal : Below w.heap.size w (w.alloc (.cells (madeCells #[.int .u8 0] n) 5)) := (Below.refl _ _).alloc (Nat.le_refl _) _
  have hro := row_zero w n
  have hmk1 := hmk w
  generalize w.alloc (.cells (madeCells #[.int .u8 0] n) 5) = W1 at hal hro hmk1
  have HAL := Lib.hid hal; have HRO := Lib.hid hro
  clear hmk hal hro
  go_enter Tryd.func15, Tryd.ntmps15
  go_wp2_with fail
  go_loopw [4] (fun i wr => ∃ k : Nat, k ≤ n ∧ i = .int .i64 k ∧ rowB wr w.heap.size n (List.replicate k 97 ++ List.replicate (n - k) 0) ∧ Below w.heap.size w wr) (fun i _ => n - (intOf i).toNat)
  case atStart => exact ⟨0, Nat.zero_le _, rfl, by simpa using HRO.out, HAL.out⟩
  case round =>
    obtain ⟨k, hk, rfl, hr, hb⟩ := hrel
    by_cases hlt : k < n
    · have hc := hr.cell k hlt
      have hf := hr.free k hlt
      have hs := hr.set k 97
      rw [rep_set hlt] at hs
      have HS := Lib.hid hs; have HB := Lib.hid (hb.setCell (p := ⟨w.heap.size, k, none⟩) (Nat.le_refl _) (.int .u8 97)); clear hr hb hs
      go_wp2_with fail
      go_roundw
      case rel => exact ⟨k + 1, by omega, by go_num, HS.out, HB.out⟩
      case measure => simp [intOf]; omega
    · obtain rfl : k = n := by omega
      rw [Nat.sub_self] at hr
      have HR := Lib.hid hr; have HB := Lib.hid hb; clear hr hb
      go_wp2_with fail
      go_ret
      exact ⟨_, rfl, by simpa using HR.out, HB.out⟩
/-- the letters' text -/
theorem rep_back {w : World} {b n : Nat} (h : rowB w b n (List.replicate n 97)) : (convert 36 9 (.slice (some ⟨b, 0, none⟩) n n)).run Tryd.prog w = .ok (.string (bs (List.replicate n 97))) w := h.back n
theorem cat_size (a b : ByteArray) : (a ++ b).size = a.size + b.size := ByteArray.size_append
set_option maxHeartbeats 4000000 in
set_option maxRecDepth 100000 in
theorem long_any (n m : Int) (e : Bool) (w : World) (hn : 0 ≤ n ∧ n < 65536) (hm : 0 ≤ m ∧ m < 65536) (he : EnvC w) :
    Calls Tryd.prog 5 #[.int .u16 n, .int .u16 m, .bool e] w fun e w' => e = .returned (.bool true) ∧ Below w.heap.size w w' := by
  have hdec := fun (S : ByteArray) (most : Int) (w' : World) (hb : EnvC w') => decodes_any S most w' hb
  have haw := fun (w' : World) (hb : EnvC w') => awake_any w' hb
  have HDEC := Lib.hid hdec; have HAW := Lib.hid haw; have HE := Lib.hid he
  clear hdec haw he
  obtain ⟨hn0, hn1⟩ := hn
  obtain ⟨hm0, hm1⟩ := hm
  obtain ⟨k, hk, hk2⟩ : ∃ k : Nat, n % 2200 = (k : Int) ∧ k ≤ 2200 := ⟨(n % 2200).toNat, by omega, by omega⟩
  have HSP := Lib.hid (spread_any k w (by omega))
  have htm : n.tmod 2200 = n % 2200 := Int.tmod_eq_emod_of_nonneg hn0
  have htm2 : m.tmod 9000 = m % 9000 := Int.tmod_eq_emod_of_nonneg hm0
  have hq0 : 0 ≤ m % 9000 := by omega
  have hq1 : m % 9000 < 9000 := by omega
  go_enter Tryd.func5, Tryd.ntmps5
  go_wp2_with fail
  refine HSP.out.mono ?_; rintro e1 w1 ⟨b1, rfl, hr1, hb1⟩
  have hback := rep_back hr1
  have HB1 := Lib.hid hb1; have HE1 := Lib.hid (HE.out.bel hb1); clear hb1 hr1
  go_wp2_with fail
  have hLs : ((⟨#[49, 59]⟩ : ByteArray) ++ bs (List.replicate k 97) ++ ⟨#[13, 10]⟩).size = k + 4 := by
    rw [cat_size, cat_size, bs_size, List.length_replicate]
    show 2 + k + 2 = k + 4
    omega
  generalize ((⟨#[49, 59]⟩ : ByteArray) ++ bs (List.replicate k 97) ++ ⟨#[13, 10]⟩) = LN at hLs ⊢
  have hL2 : LN.size ≤ 2204 := by omega
  have hL3 : 4 ≤ LN.size := by omega
  clear hLs hback htm htm2
  go_loopw [8, 9] (fun t z wr => ∃ (T : ByteArray) (q : Int), t = .string T ∧ z = .int .i64 q ∧ -500 < q ∧ q < 9000 ∧ (T.size : Int) + 2 * q ≤ 18003 ∧ Below w.heap.size w wr) (fun _ z _ => (intOf z).toNat)
  case atStart => exact ⟨_, _, rfl, rfl, by omega, hq1, by show (3 : Int) + _ ≤ _; omega, HB1.out⟩
  case round =>
    obtain ⟨T, q, rfl, rfl, hqa, hqb, hT, hb⟩ := hrel
    have HB := Lib.hid hb; have HEN := Lib.hid (HE.out.bel hb); clear hb
    have hTs : T.size ≤ 19003 := by omega
    by_cases hq : 0 < q
    · obtain ⟨j, hj, hj2⟩ : ∃ j : Nat, min q 500 = (j : Int) ∧ j ≤ 500 := ⟨(min q 500).toNat, by omega, by omega⟩
      have HS2 := Lib.hid (spread_any j wr (by omega))
      have h3 : (T ++ (⟨#[97, 58, 32]⟩ : ByteArray)).size = T.size + 3 := by rw [cat_size]; rfl
      have HT := Lib.hid hT
      go_wp2_with fail
      refine HS2.out.mono ?_; rintro e2 w2 ⟨b2, rfl, hr2, hb2⟩
      have hback2 := rep_back hr2
      have HB2 := Lib.hid (HB.out.trans (hb2.mono HB.out.size)); clear hb2 hr2
      have h4 : (bs (List.replicate j 97)).size = j := by rw [bs_size, List.length_replicate]
      go_wp2_with fail
      go_roundw
      case rel =>
        have e1 : ((T ++ (⟨#[97, 58, 32]⟩ : ByteArray)) ++ bs (List.replicate j 97) ++ ⟨#[13, 10]⟩).size = T.size + 3 + j + 2 := by rw [cat_size, cat_size, cat_size, h4]; rfl
        refine ⟨_, _, rfl, by go_num, by omega, by omega, ?_, HB2.out⟩
        rw [e1]
        omega
      case measure => simp [intOf]; omega
    · have hx : (LN ++ (⟨#[120, 13, 10]⟩ : ByteArray)).size = LN.size + 3 := by rw [cat_size]; rfl
      have hx2 : (LN ++ (⟨#[120, 13, 10]⟩ : ByteArray) ++ T).size = LN.size + 3 + T.size := by rw [cat_size, hx]
      cases e
      · go_wp2_with fail
        refine (HDEC.out _ 9 _ HEN.out).mono ?_; rintro e3 w3 ⟨rfl, hb3⟩
        have HB3 := Lib.hid (HB.out.trans (hb3.mono HB.out.size)); have HE3 := Lib.hid (HEN.out.bel hb3); clear hb3
        go_wp2_with fail
        refine (HDEC.out _ 9 _ HE3.out).mono ?_; rintro e4 w4 ⟨rfl, hb4⟩
        have HB4 := Lib.hid (HB3.out.trans (hb4.mono HB3.out.size)); have HE4 := Lib.hid (HE3.out.bel hb4); clear hb4
        go_wp2_with fail
        refine (HAW.out _ HE4.out).mono ?_; rintro e5 w5 ⟨rfl, hb5⟩
        have HB5 := Lib.hid (HB4.out.trans (hb5.mono HB4.out.size)); clear hb5
        go_wp2_with fail
        go_ret
        exact ⟨rfl, HB5.out⟩
      · go_wp2_with fail
        refine (HDEC.out _ 9 _ HEN.out).mono ?_; rintro e3 w3 ⟨rfl, hb3⟩
        have HB3 := Lib.hid (HB.out.trans (hb3.mono HB.out.size)); have HE3 := Lib.hid (HEN.out.bel hb3); clear hb3
        go_wp2_with fail
        refine (HDEC.out _ 9 _ HE3.out).mono ?_; rintro e4 w4 ⟨rfl, hb4⟩
        have HB4 := Lib.hid (HB3.out.trans (hb4.mono HB3.out.size)); have HE4 := Lib.hid (HE3.out.bel hb4); clear hb4
        go_wp2_with fail
        refine (HAW.out _ HE4.out).mono ?_; rintro e5 w5 ⟨rfl, hb5⟩
        have HB5 := Lib.hid (HB4.out.trans (hb5.mono HB4.out.size)); clear hb5
        go_wp2_with fail
        go_ret
        exact ⟨rfl, HB5.out⟩
theorem u16_bd {n : Int} (h : (Lit.int .u16 n).wf = true) : 0 ≤ n ∧ n < 65536 := by
  simp [Lit.wf, IntKind.min, IntKind.max, IntKind.bits, IntKind.signed] at h
  omega
theorem long_law (n m : Int) (e : Bool) (w : World) (h1 : (Lit.int .u16 n).wf = true) (h2 : (Lit.int .u16 m).wf = true) (hm : MaxL w) (hl : LibC w) :
    Calls Tryd.prog 5 #[.int .u16 n, .int .u16 m, .bool e] w fun e w' => e = .returned (.bool true) ∧ Below w.heap.size w w' := long_any n m e w (u16_bd h1) (u16_bd h2) (envC hm hl)
end Go.Proofs.YtoengnefdndgfaaDoor
