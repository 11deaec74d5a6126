/- LineLong: walked. -/
import Derived.Test.YtinfflceglgneaaDoorLineP
namespace Go.Proofs.YtinfflceglgneaaDoor
open Go.RowKit

theorem z1 : (⟨#[32]⟩ : ByteArray).size = 1 := rfl
theorem z9 : (⟨#[32, 72, 84, 84, 80, 47, 49, 46, 49]⟩ : ByteArray).size = 9 := rfl
theorem z13 : (⟨#[72, 84, 84, 80, 47, 49, 46, 49, 32, 50, 48, 48, 32]⟩ : ByteArray).size = 13 := rfl
set_option maxRecDepth 100000 in
set_option maxHeartbeats 1000000 in
theorem lineLong_any (x y : Int) (w : World) (hx : 0 ≤ x ∧ x ≤ 65535) (hy : 0 ≤ y ∧ y ≤ 65535) (he : Env w) :
    Calls Tryd.prog 5 #[.int .u16 x, .int .u16 y] w fun e w' => e = .returned (.bool true) ∧ Below w.heap.size w w' := by
  obtain ⟨x0, x1⟩ := hx
  obtain ⟨y0, y1⟩ := hy
  obtain ⟨k, hk⟩ : ∃ k : Nat, x % 1100 = k := ⟨(x % 1100).toNat, by omega⟩
  obtain ⟨j, hj⟩ : ∃ j : Nat, y % 1100 = j := ⟨(y % 1100).toNat, by omega⟩
  have k1 : k < 1100 := by omega
  have j1 : j < 1100 := by omega
  have HE := Lib.hid he; clear he
  have hmk := make_z k w (by omega)
  go_enter Tryd.func5, Tryd.ntmps5
  go_wp2_with fail
  have R0 : Hid (rowB (madeW w k) w.heap.size k (List.replicate k 0)) := rowB_made w k
  have HB0 : Hid (Below w.heap.size w (madeW w k)) := below_z k w
  generalize madeW w k = w0 at R0 HB0 ⊢
  clear hmk
  generalize hB : w.heap.size = B at R0 HB0 ⊢
  have HBB := Lib.hid hB; clear hB
  go_loopw [6] (fun i wr => ∃ q : Nat, q ≤ k ∧ i = .int .i64 q ∧ ∃ l, Hid (rowB wr B k l) ∧ Hid (Below B w wr)) (fun i _ => k - (intOf i).toNat)
  case atStart => exact ⟨0, Nat.zero_le _, rfl, _, R0, HB0⟩
  case round =>
    obtain ⟨q, hq, rfl, l, HR, HBr⟩ := hrel
    clear R0 HB0
    by_cases hlt : q < k
    · have c1 := HR.out.cell q hlt
      have c2 := HR.out.free q hlt
      go_wp2_with fail
      go_roundw
      case rel => exact ⟨q + 1, by omega, by go_num, _, HR.out.set q 97, HBr.out.setCell (Nat.le_refl _) _⟩
      case measure => simp [intOf]; omega
    · have hmk2 := make_z j wr (by omega)
      go_wp2_with fail
      have HRb : Hid (rowB (madeW wr j) B k l) := HR.out.below (below_z j wr) HR.out.lt
      have HRc : Hid (rowB (madeW wr j) wr.heap.size j (List.replicate j 0)) := rowB_made wr j
      have HBz : Hid (Below B w (madeW wr j)) := HBr.out.trans ((below_z j wr).mono (Nat.le_of_lt HR.out.lt))
      have HBC : Hid (B < wr.heap.size) := HR.out.lt
      clear HR HBr hmk2
      generalize madeW wr j = w1 at HRb HRc HBz ⊢
      generalize wr.heap.size = C at HRc HBC ⊢
      go_loopw [8] (fun i wx => ∃ q : Nat, q ≤ j ∧ i = .int .i64 q ∧ ∃ m, Hid (rowB wx C j m) ∧ Hid (rowB wx B k l) ∧ Hid (Below B w wx)) (fun i _ => j - (intOf i).toNat)
      case atStart => exact ⟨0, Nat.zero_le _, rfl, _, HRc, HRb, HBz⟩
      case round =>
        obtain ⟨p, hp, rfl, m, HM, HL, HBx⟩ := hrel
        clear HRb HRc HBz
        by_cases hlp : p < j
        · have c1 := HM.out.cell p hlp
          have c2 := HM.out.free p hlp
          go_wp2_with fail
          go_roundw
          case rel => exact ⟨p + 1, by omega, by go_num, _, HM.out.set p 77, HL.out.setOther (by have := HBC.out; simp; omega) _, HBx.out.setCell (Nat.le_of_lt HBC.out) _⟩
          case measure => simp [intOf]; omega
        · have hcm := HM.out.back j
          have hcl := HL.out.back k
          have hml : m.length ≤ 1100 := by have := HM.out.len; omega
          have hll : l.length ≤ 1100 := by have := HL.out.len; omega
          have HEx : Hid (Env wr) := HE.out.below HBx.out (by rw [HBB.out]; exact Nat.le_refl _)
          go_wp2_with fail
          refine (linePuts_any (bs m) (bs l) 1 200 _ (by unfold maxLen; rw [bs_size]; omega) (by unfold maxLen; rw [bs_size]; omega) HEx.out).mono ?_
          rintro e w2 ⟨rfl, hb2⟩
          have HM2 : Hid (rowB w2 C j m) := HM.out.below hb2 HM.out.lt
          have HL2 : Hid (rowB w2 B k l) := HL.out.below hb2 HL.out.lt
          have HB2 : Hid (Below B w w2) := HBx.out.trans (hb2.mono (Nat.le_of_lt HL.out.lt))
          have HE2 : Hid (Env w2) := HEx.out.below hb2 (Nat.le_refl _)
          clear hcm hcl HM HL HBx HEx hb2
          have hcm := HM2.out.back j
          have hcl := HL2.out.back k
          go_wp2_with fail
          refine (lineReads_any _ _ (by unfold maxLen; simp only [ByteArray.size_append, bs_size, z1, z9]; omega) HE2.out).mono ?_
          rintro e w3 ⟨rfl, hb3⟩
          have HM3 : Hid (rowB w3 C j m) := HM2.out.below hb3 HM2.out.lt
          have HL3 : Hid (rowB w3 B k l) := HL2.out.below hb3 HL2.out.lt
          have HB3 : Hid (Below B w w3) := HB2.out.trans (hb3.mono (Nat.le_of_lt HL2.out.lt))
          have HE3 : Hid (Env w3) := HE2.out.below hb3 (Nat.le_refl _)
          clear hcm hcl HM2 HL2 HB2 HE2 hb3
          have hcm := HM3.out.back j
          have hcl := HL3.out.back k
          go_wp2_with fail
          refine (lineReads_any _ _ (by unfold maxLen; simp only [ByteArray.size_append, bs_size, z13]; omega) HE3.out).mono ?_
          rintro e w4 ⟨rfl, hb4⟩
          have HB4 : Hid (Below B w w4) := HB3.out.trans (hb4.mono (Nat.le_of_lt HL3.out.lt))
          have HE4 : Hid (Env w4) := HE3.out.below hb4 (Nat.le_refl _)
          have HS4 : Hid (B ≤ w4.heap.size) := Nat.le_trans (Nat.le_of_lt HL3.out.lt) hb4.size
          clear hcm hcl HM3 HL3 HB3 HE3 hb4
          go_wp2_with fail
          refine (awake_any _ HE4.out).mono ?_
          rintro e w5 ⟨rfl, hb5⟩
          go_wp2_with fail
          go_ret
          exact ⟨rfl, by rw [HBB.out]; exact HB4.out.trans (hb5.mono HS4.out)⟩
theorem lineLong_all (x y : Int) (w : World) (hx : (Lit.int .u16 x).wf = true) (hy : (Lit.int .u16 y).wf = true) (he : Env w) :
    Calls Tryd.prog 5 #[.int .u16 x, .int .u16 y] w fun e w' => e = .returned (.bool true) ∧ Below w.heap.size w w' := by
  have e1 : IntKind.u16.min = 0 := rfl
  have e2 : IntKind.u16.max = 65535 := rfl
  simp only [Lit.wf, e1, e2] at hx hy
  simp at hx hy
  exact lineLong_any x y w (by omega) (by omega) he
theorem linePuts_all (a b : ByteArray) (n c : Int) (w : World) (ha : a.size ≤ maxLen) (hb : b.size ≤ maxLen) (_wn : (Lit.int .i64 n).wf = true) (_wc : (Lit.int .i64 c).wf = true) (he : Env w) :
    Calls Tryd.prog 4 #[.string a, .string b, .agg #[.int .i64 n, .int .i64 c]] w fun e w' => e = .returned (.bool true) ∧ Below w.heap.size w w' := linePuts_any a b n c w ha hb he
theorem lineBack_all (a b : ByteArray) (n c : Int) (w : World) (ha : a.size ≤ maxLen) (hb : b.size ≤ maxLen) (_wn : (Lit.int .i64 n).wf = true) (_wc : (Lit.int .i64 c).wf = true) (he : Env w) :
    Calls Tryd.prog 7 #[.string a, .string b, .agg #[.int .i64 n, .int .i64 c]] w fun e w' => e = .returned (.bool true) ∧ Below w.heap.size w w' := lineBack_any a b n c w ha hb he
end Go.Proofs.YtinfflceglgneaaDoor
