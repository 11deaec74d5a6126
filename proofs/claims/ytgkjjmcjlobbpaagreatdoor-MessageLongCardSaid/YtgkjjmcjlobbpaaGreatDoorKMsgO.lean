/- So many bytes of a body: the statement's own walk. -/
import Derived.Test.YtgkjjmcjlobbpaaGreatDoorKMsgN
import Derived.Laws.OwnMore
import Derived.Laws.MakeOwn
namespace Go.Proofs.YtgkjjmcjlobbpaaGreatDoor
open Go.RowKit

theorem row_zero8 (w : World) (n : Nat) : rowB (w.alloc (.cells (madeCells #[.int .u8 0] n) 5)) w.heap.size n (List.replicate n 0) := by
  refine ⟨_, _, _, _, heap_alloc_new w _, .inr rfl, by simp, ?_⟩
  rw [toList_madeCells_one, List.take_of_length_le (by simp)]
  simp [Lib.byteCells]
theorem u32_bd {n : Int} (h : (Lit.int .u32 n).wf = true) : 0 ≤ n ∧ n < 4294967296 := by
  simp [Lit.wf, IntKind.min, IntKind.max, IntKind.bits, IntKind.signed] at h
  omega
theorem bits3 {n : Int} (h0 : 0 ≤ n) (h1 : n < 256) : ∃ j : Nat, j < 4 ∧ bits BinOp.and IntKind.u8 n 3 = (j : Int) := by
  have key : ∀ k : Fin 256, decide (0 ≤ bits BinOp.and IntKind.u8 (k.val : Int) 3 ∧ bits BinOp.and IntKind.u8 (k.val : Int) 3 < 4) = true := by decide +kernel
  obtain ⟨k, rfl⟩ : ∃ k : Nat, n = (k : Int) := ⟨n.toNat, by omega⟩
  have h := of_decide_eq_true (key ⟨k, by omega⟩)
  exact ⟨(bits BinOp.and IntKind.u8 (k : Int) 3).toNat, by simp only at h; omega, by simp only at h; omega⟩
theorem u8_bd {n : Int} (h : (Lit.int .u8 n).wf = true) : 0 ≤ n ∧ n < 256 := by
  simp [Lit.wf, IntKind.min, IntKind.max, IntKind.bits, IntKind.signed] at h
  omega
set_option maxHeartbeats 4000000 in
set_option maxRecDepth 100000 in
theorem messageLong_any (n kind : Int) (w : World) (he : EnvM w) (hn : 0 ≤ n ∧ n < 4294967296) (hk : 0 ≤ kind ∧ kind < 256) :
    Calls Tryz.prog 6 #[.int .u32 n, .int .u8 kind] w fun e w' => e = .returned (.bool true) ∧ Below w.heap.size w w' := by
  obtain ⟨hn0, hn1⟩ := hn
  obtain ⟨k, hkk, hk2⟩ : ∃ k : Nat, n % 524288 = (k : Int) ∧ k < 524288 := ⟨(n % 524288).toNat, by omega, by omega⟩
  have htm : n.tmod 524288 = (k : Int) := by rw [Int.tmod_eq_emod_of_nonneg hn0, hkk]
  obtain ⟨i0, hi, hz0, hz1, hz2⟩ := info_parts infoB
  have hmk : (Instr.makeSlice 50 (.int .u32 (k : Int)) (.int .u32 (k : Int))).run Tryz.prog w = .ok (.slice (some ⟨w.heap.size, 0, none⟩) k k) (w.alloc (.cells (madeCells #[.int .u8 0] k) 5)) := by
    have h := run_make (P := Tryz.prog) w 50 5 i0 (.int .u8 0) Tryz.underlying50 hi hz0 .u32 .u32 (k : Int) (k : Int) (by omega) (by omega) (by rw [hz2]; omega) (by omega)
    rw [hz1] at h
    simpa [Value.cells] using h
  have hal : Below w.heap.size w (w.alloc (.cells (madeCells #[.int .u8 0] k) 5)) := (Below.refl _ _).alloc (Nat.le_refl _) _
  have hro := row_zero8 w k
  generalize w.alloc (.cells (madeCells #[.int .u8 0] k) 5) = w1 at hal hro hmk
  have hbk := hro.back k
  have hZl : (List.replicate k (0 : UInt8)).length = k := List.length_replicate
  generalize List.replicate k (0 : UInt8) = Z at *
  have HAL := Lib.hid hal; have HE := Lib.hid he
  clear hal hro he hi hz0 hz1 hz2 hkk
  go_enter Tryz.func6, Tryz.ntmps6
  have hd2 : Below w1.heap.size w1 ((w1.alloc (.cells #[.int .i64 200, .string ⟨#[79, 75]⟩, .int .i64 1, .slice none 0 0, .string (bs Z)] 32)).alloc (.cells #[.string ⟨#[80, 79, 83, 84]⟩, .string ⟨#[47]⟩, .int .i64 1, .slice none 0 0, .string (bs Z)] 25)) := ((Below.refl _ _).alloc (Nat.le_refl _) _).alloc (by simp) _
  have ky := (blk.new w1 #[.int .i64 200, .string ⟨#[79, 75]⟩, .int .i64 1, .slice none 0 0, .string (bs Z)] 32).alloc (.cells #[.string ⟨#[80, 79, 83, 84]⟩, .string ⟨#[47]⟩, .int .i64 1, .slice none 0 0, .string (bs Z)] 25)
  have kq := blk.new (w1.alloc (.cells #[.int .i64 200, .string ⟨#[79, 75]⟩, .int .i64 1, .slice none 0 0, .string (bs Z)] 32)) #[.string ⟨#[80, 79, 83, 84]⟩, .string ⟨#[47]⟩, .int .i64 1, .slice none 0 0, .string (bs Z)] 25
  rw [World.size_alloc] at kq
  have B3 := Lib.hid (HAL.out.trans (hd2.mono HAL.out.size)); have KY3 := Lib.hid ky; have KQ3 := Lib.hid kq
  clear hd2 ky kq
  have hY : ∀ W, FL W (.slice none 0 0) [] := FL_nil
  have h0 : smallF ([] : List Fld) := fun j hj => absurd hj (by simp)
  have HY1 : Hid (∀ W, Below w.heap.size w W → Calls Tryz.prog 20 #[.agg #[.int .i64 200, .string ⟨#[79, 75]⟩, .int .i64 1, .slice none 0 0, .string (bs Z)], .bool false] W fun e w' => e = .returned (.tuple #[.string (bs (putY 200 [79, 75] 1 [] Z false).1), .int .i64 (putY 200 [79, 75] 1 [] Z false).2]) ∧ Below W.heap.size W w') :=
    fun W hb => msgPutY_any 200 1 [79, 75] Z false _ [] W (HE.out.bel hb) (hY W) h0 (by simp) (by simp) (by omega)
  have HY2 : Hid (∀ W, Below w.heap.size w W → Calls Tryz.prog 21 #[.agg #[.int .i64 200, .string ⟨#[79, 75]⟩, .int .i64 1, .slice none 0 0, .string (bs Z)], .bool false] W fun e w' => e = .returned (.tuple #[.string (bs (putY 200 [79, 75] 1 [] Z false).1), .int .i64 (putY 200 [79, 75] 1 [] Z false).2]) ∧ Below W.heap.size W w') :=
    fun W _ => rmsgPutY_any 200 1 [79, 75] Z false _ [] W (hY W) h0 (by simp) (by simp) (by omega)
  have HQ1 : Hid (∀ W, Below w.heap.size w W → Calls Tryz.prog 18 #[.agg #[.string ⟨#[80, 79, 83, 84]⟩, .string ⟨#[47]⟩, .int .i64 1, .slice none 0 0, .string (bs Z)]] W fun e w' => e = .returned (.tuple #[.string (bs (putQ [80, 79, 83, 84] [47] 1 [] Z).1), .int .i64 (putQ [80, 79, 83, 84] [47] 1 [] Z).2]) ∧ Below W.heap.size W w') :=
    fun W hb => msgPutQ_any [80, 79, 83, 84] [47] Z 1 _ [] W (HE.out.bel hb) (hY W) h0 (by simp) (by simp) (by simp) (by omega)
  have HQ2 : Hid (∀ W, Below w.heap.size w W → Calls Tryz.prog 19 #[.agg #[.string ⟨#[80, 79, 83, 84]⟩, .string ⟨#[47]⟩, .int .i64 1, .slice none 0 0, .string (bs Z)]] W fun e w' => e = .returned (.tuple #[.string (bs (putQ [80, 79, 83, 84] [47] 1 [] Z).1), .int .i64 (putQ [80, 79, 83, 84] [47] 1 [] Z).2]) ∧ Below W.heap.size W w') :=
    fun W _ => rmsgPutQ_any [80, 79, 83, 84] [47] Z 1 _ [] W (hY W) h0 (by simp) (by simp) (by simp) (by omega)
  clear hY h0
  generalize putY 200 [79, 75] 1 [] Z false = py at *
  generalize putQ [80, 79, 83, 84] [47] 1 [] Z = pq at *
  obtain ⟨y1', y2'⟩ := py
  obtain ⟨q1', q2'⟩ := pq
  simp only at HY1 HY2 HQ1 HQ2
  have y0 := KY3.out.cell 0 _ rfl; have y1 := KY3.out.cell 1 _ rfl; have y2 := KY3.out.cell 2 _ rfl; have y3 := KY3.out.cell 3 _ rfl; have y4 := KY3.out.cell 4 _ rfl
  have q0 := KQ3.out.cell 0 _ rfl; have q1 := KQ3.out.cell 1 _ rfl; have q2 := KQ3.out.cell 2 _ rfl; have q3 := KQ3.out.cell 3 _ rfl; have q4 := KQ3.out.cell 4 _ rfl
  go_wp2_with fail
  refine (HY1.out _ B3.out).mono ?_
  rintro e x4 ⟨rfl, hb⟩
  have B4 := Lib.hid (B3.out.trans (hb.mono B3.out.size)); have KY4 := Lib.hid (KY3.out.below hb); have KQ4 := Lib.hid (KQ3.out.below hb)
  clear hb
  clear y0 y1 y2 y3 y4 q0 q1 q2 q3 q4
  have y0 := KY4.out.cell 0 _ rfl; have y1 := KY4.out.cell 1 _ rfl; have y2 := KY4.out.cell 2 _ rfl; have y3 := KY4.out.cell 3 _ rfl; have y4 := KY4.out.cell 4 _ rfl
  have q0 := KQ4.out.cell 0 _ rfl; have q1 := KQ4.out.cell 1 _ rfl; have q2 := KQ4.out.cell 2 _ rfl; have q3 := KQ4.out.cell 3 _ rfl; have q4 := KQ4.out.cell 4 _ rfl
  go_wp2_with fail
  refine (HY2.out _ B4.out).mono ?_
  rintro e x5 ⟨rfl, hb⟩
  have B5 := Lib.hid (B4.out.trans (hb.mono B4.out.size)); have KY5 := Lib.hid (KY4.out.below hb); have KQ5 := Lib.hid (KQ4.out.below hb)
  clear hb
  clear y0 y1 y2 y3 y4 q0 q1 q2 q3 q4
  have y0 := KY5.out.cell 0 _ rfl; have y1 := KY5.out.cell 1 _ rfl; have y2 := KY5.out.cell 2 _ rfl; have y3 := KY5.out.cell 3 _ rfl; have y4 := KY5.out.cell 4 _ rfl
  have q0 := KQ5.out.cell 0 _ rfl; have q1 := KQ5.out.cell 1 _ rfl; have q2 := KQ5.out.cell 2 _ rfl; have q3 := KQ5.out.cell 3 _ rfl; have q4 := KQ5.out.cell 4 _ rfl
  go_wp2_with fail
  refine (HQ1.out _ B5.out).mono ?_
  rintro e x6 ⟨rfl, hb⟩
  have B6 := Lib.hid (B5.out.trans (hb.mono B5.out.size)); have KY6 := Lib.hid (KY5.out.below hb); have KQ6 := Lib.hid (KQ5.out.below hb)
  clear hb
  clear y0 y1 y2 y3 y4 q0 q1 q2 q3 q4
  have y0 := KY6.out.cell 0 _ rfl; have y1 := KY6.out.cell 1 _ rfl; have y2 := KY6.out.cell 2 _ rfl; have y3 := KY6.out.cell 3 _ rfl; have y4 := KY6.out.cell 4 _ rfl
  have q0 := KQ6.out.cell 0 _ rfl; have q1 := KQ6.out.cell 1 _ rfl; have q2 := KQ6.out.cell 2 _ rfl; have q3 := KQ6.out.cell 3 _ rfl; have q4 := KQ6.out.cell 4 _ rfl
  go_wp2_with fail
  refine (HQ2.out _ B6.out).mono ?_
  rintro e x7 ⟨rfl, hb⟩
  have B7 := Lib.hid (B6.out.trans (hb.mono B6.out.size)); have KY7 := Lib.hid (KY6.out.below hb); have KQ7 := Lib.hid (KQ6.out.below hb)
  clear hb
  clear y0 y1 y2 y3 y4 q0 q1 q2 q3 q4
  have hs1 : ((bs y1').toList == (bs y1').toList) = true := by simp
  have hs2 : ((bs q1').toList == (bs q1').toList) = true := by simp
  go_wp2_with fail
  have hdh : Below x7.heap.size x7 (x7.alloc (.cells #[.string ⟨#[72, 84, 84, 80, 47, 49, 46, 49, 32, 50, 48, 48, 32, 79, 75, 13, 10, 13, 10]⟩, .string ⟨#[80, 79, 83, 84, 32, 47, 32, 72, 84, 84, 80, 47, 49, 46, 49, 13, 10, 67, 111, 110, 116, 101, 110, 116, 45, 76, 101, 110, 103, 116, 104, 58, 32, 54, 53, 53, 51, 54, 13, 10, 13, 10]⟩, .string ⟨#[72, 84, 84, 80, 47, 49, 46, 49, 32, 50, 48, 48, 32, 79, 75, 13, 10, 67, 111, 110, 116, 101, 110, 116, 45, 76, 101, 110, 103, 116, 104, 58, 32, 50, 54, 50, 49, 52, 52, 13, 10, 13, 10]⟩, .string ⟨#[80, 79, 83, 84, 32, 47, 32, 72, 84, 84, 80, 47, 49, 46, 49, 13, 10, 67, 111, 110, 116, 101, 110, 116, 45, 76, 101, 110, 103, 116, 104, 58, 32, 54, 53, 53, 51, 55, 13, 10, 13, 10]⟩] 9)) := (Below.refl _ _).alloc (Nat.le_refl _) _
  have kh := blk.new x7 #[.string ⟨#[72, 84, 84, 80, 47, 49, 46, 49, 32, 50, 48, 48, 32, 79, 75, 13, 10, 13, 10]⟩, .string ⟨#[80, 79, 83, 84, 32, 47, 32, 72, 84, 84, 80, 47, 49, 46, 49, 13, 10, 67, 111, 110, 116, 101, 110, 116, 45, 76, 101, 110, 103, 116, 104, 58, 32, 54, 53, 53, 51, 54, 13, 10, 13, 10]⟩, .string ⟨#[72, 84, 84, 80, 47, 49, 46, 49, 32, 50, 48, 48, 32, 79, 75, 13, 10, 67, 111, 110, 116, 101, 110, 116, 45, 76, 101, 110, 103, 116, 104, 58, 32, 50, 54, 50, 49, 52, 52, 13, 10, 13, 10]⟩, .string ⟨#[80, 79, 83, 84, 32, 47, 32, 72, 84, 84, 80, 47, 49, 46, 49, 13, 10, 67, 111, 110, 116, 101, 110, 116, 45, 76, 101, 110, 103, 116, 104, 58, 32, 54, 53, 53, 51, 55, 13, 10, 13, 10]⟩] 9
  have BH := Lib.hid (B7.out.trans (hdh.mono B7.out.size)); have KH := Lib.hid kh
  clear hdh kh B7 KY7 KQ7 hs1 hs2
  refine (messageReads_any ⟨#[]⟩ false _ (HE.out.bel BH.out)).mono ?_
  rintro e x8 ⟨rfl, hb8⟩
  have B8 := Lib.hid (BH.out.trans (hb8.mono BH.out.size)); have K8 := Lib.hid (KH.out.below hb8)
  clear hb8 BH KH
  obtain ⟨j3, hj3, hb3'⟩ := bits3 hk.1 hk.2
  obtain rfl | rfl | rfl | rfl : j3 = 0 ∨ j3 = 1 ∨ j3 = 2 ∨ j3 = 3 := by omega
  · have hcat : ((⟨#[72, 84, 84, 80, 47, 49, 46, 49, 32, 50, 48, 48, 32, 79, 75, 13, 10, 13, 10]⟩ : ByteArray) ++ bs Z) = bs ([72, 84, 84, 80, 47, 49, 46, 49, 32, 50, 48, 48, 32, 79, 75, 13, 10, 13, 10] ++ Z) := by rw [← bs_append]; rfl
    have hsz : ¬ 9223372036854775807 < (⟨#[72, 84, 84, 80, 47, 49, 46, 49, 32, 50, 48, 48, 32, 79, 75, 13, 10, 13, 10]⟩ : ByteArray).size + Z.length := by rw [show (⟨#[72, 84, 84, 80, 47, 49, 46, 49, 32, 50, 48, 48, 32, 79, 75, 13, 10, 13, 10]⟩ : ByteArray).size = 19 from rfl]; omega
    have hll : ([72, 84, 84, 80, 47, 49, 46, 49, 32, 50, 48, 48, 32, 79, 75, 13, 10, 13, 10] ++ Z).length ≤ 1048576 := by rw [List.length_append]; simp; omega
    have i0 := K8.out.cell 0 _ rfl
    have HRD := Lib.hid (reads_any ([72, 84, 84, 80, 47, 49, 46, 49, 32, 50, 48, 48, 32, 79, 75, 13, 10, 13, 10] ++ Z) x8 (HE.out.bel B8.out) hll)
    rw [← hcat] at HRD
    clear hcat hll
    have hb3 : bits BinOp.and IntKind.u8 kind 3 = 0 := hb3'
    clear hb3'
    go_wp2_with fail
    refine HRD.out.mono ?_
    rintro e x9 ⟨rfl, hb9⟩
    have B9 := Lib.hid (B8.out.trans (hb9.mono B8.out.size))
    clear hb9 i0
    go_wp2_with fail
    refine (works_any _ (HE.out.bel B9.out)).mono ?_
    rintro e xa ⟨rfl, hba⟩
    have Ba := Lib.hid (B9.out.trans (hba.mono B9.out.size))
    clear hba
    go_wp2_with fail
    go_ret
    exact ⟨rfl, Ba.out⟩
  · have hcat : ((⟨#[80, 79, 83, 84, 32, 47, 32, 72, 84, 84, 80, 47, 49, 46, 49, 13, 10, 67, 111, 110, 116, 101, 110, 116, 45, 76, 101, 110, 103, 116, 104, 58, 32, 54, 53, 53, 51, 54, 13, 10, 13, 10]⟩ : ByteArray) ++ bs Z) = bs ([80, 79, 83, 84, 32, 47, 32, 72, 84, 84, 80, 47, 49, 46, 49, 13, 10, 67, 111, 110, 116, 101, 110, 116, 45, 76, 101, 110, 103, 116, 104, 58, 32, 54, 53, 53, 51, 54, 13, 10, 13, 10] ++ Z) := by rw [← bs_append]; rfl
    have hsz : ¬ 9223372036854775807 < (⟨#[80, 79, 83, 84, 32, 47, 32, 72, 84, 84, 80, 47, 49, 46, 49, 13, 10, 67, 111, 110, 116, 101, 110, 116, 45, 76, 101, 110, 103, 116, 104, 58, 32, 54, 53, 53, 51, 54, 13, 10, 13, 10]⟩ : ByteArray).size + Z.length := by rw [show (⟨#[80, 79, 83, 84, 32, 47, 32, 72, 84, 84, 80, 47, 49, 46, 49, 13, 10, 67, 111, 110, 116, 101, 110, 116, 45, 76, 101, 110, 103, 116, 104, 58, 32, 54, 53, 53, 51, 54, 13, 10, 13, 10]⟩ : ByteArray).size = 42 from rfl]; omega
    have hll : ([80, 79, 83, 84, 32, 47, 32, 72, 84, 84, 80, 47, 49, 46, 49, 13, 10, 67, 111, 110, 116, 101, 110, 116, 45, 76, 101, 110, 103, 116, 104, 58, 32, 54, 53, 53, 51, 54, 13, 10, 13, 10] ++ Z).length ≤ 1048576 := by rw [List.length_append]; simp; omega
    have i0 := K8.out.cell 1 _ rfl
    have HRD := Lib.hid (reads_any ([80, 79, 83, 84, 32, 47, 32, 72, 84, 84, 80, 47, 49, 46, 49, 13, 10, 67, 111, 110, 116, 101, 110, 116, 45, 76, 101, 110, 103, 116, 104, 58, 32, 54, 53, 53, 51, 54, 13, 10, 13, 10] ++ Z) x8 (HE.out.bel B8.out) hll)
    rw [← hcat] at HRD
    clear hcat hll
    have hb3 : bits BinOp.and IntKind.u8 kind 3 = 1 := hb3'
    clear hb3'
    go_wp2_with fail
    refine HRD.out.mono ?_
    rintro e x9 ⟨rfl, hb9⟩
    have B9 := Lib.hid (B8.out.trans (hb9.mono B8.out.size))
    clear hb9 i0
    go_wp2_with fail
    refine (works_any _ (HE.out.bel B9.out)).mono ?_
    rintro e xa ⟨rfl, hba⟩
    have Ba := Lib.hid (B9.out.trans (hba.mono B9.out.size))
    clear hba
    go_wp2_with fail
    go_ret
    exact ⟨rfl, Ba.out⟩
  · have hcat : ((⟨#[72, 84, 84, 80, 47, 49, 46, 49, 32, 50, 48, 48, 32, 79, 75, 13, 10, 67, 111, 110, 116, 101, 110, 116, 45, 76, 101, 110, 103, 116, 104, 58, 32, 50, 54, 50, 49, 52, 52, 13, 10, 13, 10]⟩ : ByteArray) ++ bs Z) = bs ([72, 84, 84, 80, 47, 49, 46, 49, 32, 50, 48, 48, 32, 79, 75, 13, 10, 67, 111, 110, 116, 101, 110, 116, 45, 76, 101, 110, 103, 116, 104, 58, 32, 50, 54, 50, 49, 52, 52, 13, 10, 13, 10] ++ Z) := by rw [← bs_append]; rfl
    have hsz : ¬ 9223372036854775807 < (⟨#[72, 84, 84, 80, 47, 49, 46, 49, 32, 50, 48, 48, 32, 79, 75, 13, 10, 67, 111, 110, 116, 101, 110, 116, 45, 76, 101, 110, 103, 116, 104, 58, 32, 50, 54, 50, 49, 52, 52, 13, 10, 13, 10]⟩ : ByteArray).size + Z.length := by rw [show (⟨#[72, 84, 84, 80, 47, 49, 46, 49, 32, 50, 48, 48, 32, 79, 75, 13, 10, 67, 111, 110, 116, 101, 110, 116, 45, 76, 101, 110, 103, 116, 104, 58, 32, 50, 54, 50, 49, 52, 52, 13, 10, 13, 10]⟩ : ByteArray).size = 43 from rfl]; omega
    have hll : ([72, 84, 84, 80, 47, 49, 46, 49, 32, 50, 48, 48, 32, 79, 75, 13, 10, 67, 111, 110, 116, 101, 110, 116, 45, 76, 101, 110, 103, 116, 104, 58, 32, 50, 54, 50, 49, 52, 52, 13, 10, 13, 10] ++ Z).length ≤ 1048576 := by rw [List.length_append]; simp; omega
    have i0 := K8.out.cell 2 _ rfl
    have HRD := Lib.hid (reads_any ([72, 84, 84, 80, 47, 49, 46, 49, 32, 50, 48, 48, 32, 79, 75, 13, 10, 67, 111, 110, 116, 101, 110, 116, 45, 76, 101, 110, 103, 116, 104, 58, 32, 50, 54, 50, 49, 52, 52, 13, 10, 13, 10] ++ Z) x8 (HE.out.bel B8.out) hll)
    rw [← hcat] at HRD
    clear hcat hll
    have hb3 : bits BinOp.and IntKind.u8 kind 3 = 2 := hb3'
    clear hb3'
    go_wp2_with fail
    refine HRD.out.mono ?_
    rintro e x9 ⟨rfl, hb9⟩
    have B9 := Lib.hid (B8.out.trans (hb9.mono B8.out.size))
    clear hb9 i0
    go_wp2_with fail
    refine (works_any _ (HE.out.bel B9.out)).mono ?_
    rintro e xa ⟨rfl, hba⟩
    have Ba := Lib.hid (B9.out.trans (hba.mono B9.out.size))
    clear hba
    go_wp2_with fail
    go_ret
    exact ⟨rfl, Ba.out⟩
  · have hcat : ((⟨#[80, 79, 83, 84, 32, 47, 32, 72, 84, 84, 80, 47, 49, 46, 49, 13, 10, 67, 111, 110, 116, 101, 110, 116, 45, 76, 101, 110, 103, 116, 104, 58, 32, 54, 53, 53, 51, 55, 13, 10, 13, 10]⟩ : ByteArray) ++ bs Z) = bs ([80, 79, 83, 84, 32, 47, 32, 72, 84, 84, 80, 47, 49, 46, 49, 13, 10, 67, 111, 110, 116, 101, 110, 116, 45, 76, 101, 110, 103, 116, 104, 58, 32, 54, 53, 53, 51, 55, 13, 10, 13, 10] ++ Z) := by rw [← bs_append]; rfl
    have hsz : ¬ 9223372036854775807 < (⟨#[80, 79, 83, 84, 32, 47, 32, 72, 84, 84, 80, 47, 49, 46, 49, 13, 10, 67, 111, 110, 116, 101, 110, 116, 45, 76, 101, 110, 103, 116, 104, 58, 32, 54, 53, 53, 51, 55, 13, 10, 13, 10]⟩ : ByteArray).size + Z.length := by rw [show (⟨#[80, 79, 83, 84, 32, 47, 32, 72, 84, 84, 80, 47, 49, 46, 49, 13, 10, 67, 111, 110, 116, 101, 110, 116, 45, 76, 101, 110, 103, 116, 104, 58, 32, 54, 53, 53, 51, 55, 13, 10, 13, 10]⟩ : ByteArray).size = 42 from rfl]; omega
    have hll : ([80, 79, 83, 84, 32, 47, 32, 72, 84, 84, 80, 47, 49, 46, 49, 13, 10, 67, 111, 110, 116, 101, 110, 116, 45, 76, 101, 110, 103, 116, 104, 58, 32, 54, 53, 53, 51, 55, 13, 10, 13, 10] ++ Z).length ≤ 1048576 := by rw [List.length_append]; simp; omega
    have i0 := K8.out.cell 3 _ rfl
    have HRD := Lib.hid (reads_any ([80, 79, 83, 84, 32, 47, 32, 72, 84, 84, 80, 47, 49, 46, 49, 13, 10, 67, 111, 110, 116, 101, 110, 116, 45, 76, 101, 110, 103, 116, 104, 58, 32, 54, 53, 53, 51, 55, 13, 10, 13, 10] ++ Z) x8 (HE.out.bel B8.out) hll)
    rw [← hcat] at HRD
    clear hcat hll
    have hb3 : bits BinOp.and IntKind.u8 kind 3 = 3 := hb3'
    clear hb3'
    go_wp2_with fail
    refine HRD.out.mono ?_
    rintro e x9 ⟨rfl, hb9⟩
    have B9 := Lib.hid (B8.out.trans (hb9.mono B8.out.size))
    clear hb9 i0
    go_wp2_with fail
    refine (works_any _ (HE.out.bel B9.out)).mono ?_
    rintro e xa ⟨rfl, hba⟩
    have Ba := Lib.hid (B9.out.trans (hba.mono B9.out.size))
    clear hba
    go_wp2_with fail
    go_ret
    exact ⟨rfl, Ba.out⟩
theorem messageLong_law (n kind : Int) (w : World) (h1 : (Lit.int .u32 n).wf = true) (h2 : (Lit.int .u8 kind).wf = true) (hm : MaxL w) (hl : LibM w) :
    Calls Tryz.prog 6 #[.int .u32 n, .int .u8 kind] w fun e w' => e = .returned (.bool true) ∧ Below w.heap.size w w' := messageLong_any n kind w (envM hm hl) (u32_bd h1) (u8_bd h2)
end Go.Proofs.YtgkjjmcjlobbpaaGreatDoor
