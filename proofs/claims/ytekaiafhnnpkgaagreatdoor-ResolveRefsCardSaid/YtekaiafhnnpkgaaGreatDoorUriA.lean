/- A URI's bytes, one behind the other: strconv.ParseUint of two digits, what stands first, a text passed on byte by byte. -/
import Derived.Test.YtekaiafhnnpkgaaGreatDoorUriE
import Derived.Shelf.Abstract
import Derived.Deep.QuietTactic
import Derived.BigQuiet
import Derived.OneCell
import Derived.Lib.ConvBytes
import Derived.Lib.Walk
import Derived.Laws.Closers25
import Derived.Laws.Closers25b
import Derived.Laws.Strings3
import Derived.WalkKit
import Derived.BigCall
import Derived.BigGuard
namespace Go.Proofs.YtekaiafhnnpkgaaGreatDoor
open Go.RowKit

/-- a byte, and the byte with 32: what the walk asks -/
def hxQ (c L : Int) : Prop :=
  ((48 ≤ c ∧ c ≤ 57) ∧ hxI c = c - 48) ∨ (57 < c ∧ 97 ≤ L ∧ L ≤ 102 ∧ hxI c = L - 87) ∨ (57 < c ∧ 103 ≤ L ∧ L ≤ 122 ∧ hxI c = -1) ∨
  (c < 48 ∧ L < 97 ∧ hxI c = -1) ∨ (57 < c ∧ L < 97 ∧ hxI c = -1) ∨ (57 < c ∧ 122 < L ∧ hxI c = -1)
instance (c L : Int) : Decidable (hxQ c L) := by unfold hxQ; infer_instance
theorem hxQ_all : (List.range 256).all (fun n => decide (hxQ n (Go.bits .or .u8 n 32) ∧ ((n : Int) = 95 → Go.bits .or .u8 n 32 = 127))) = true := by kernel_rfl
theorem hx_cases (c : UInt8) : hxQ (c.toNat : Int) (Go.bits .or .u8 (c.toNat : Int) 32) ∧ ((c.toNat : Int) = 95 → Go.bits .or .u8 (c.toNat : Int) 32 = 127) := by
  have h := List.all_eq_true.1 hxQ_all c.toNat (List.mem_range.2 c.toNat_lt)
  exact of_decide_eq_true h
theorem hxI_lt (n : Int) : hxI n < 16 := by unfold hxI; split <;> (try split) <;> (try split) <;> omega
theorem hxD_lt (c : UInt8) : hxD c < 16 := by have := hxI_lt (c.toNat : Int); unfold hxD; omega
/-- digits read to the end: the number, and the error's kind -/
def pw : List UInt8 → Nat → Nat × Nat
  | [], n => (n, 0)
  | c :: r, n => if hxB c then pw r (16 * n + hxD c) else (0, 2)
/-- as the library's error -/
def pwV (p : Nat × Nat) : Value := if p.2 = 0 then .tuple #[.int .u64 p.1, .nilIface] else .tuple #[.int .u64 p.1, .iface 109 (.int .i64 p.2)]
theorem pw_step {c : UInt8} (r : List UInt8) (n : Nat) : (hxI (c.toNat : Int) = -1 → pw (c :: r) n = (0, 2)) ∧ (0 ≤ hxI (c.toNat : Int) → pw (c :: r) n = pw r (16 * n + hxD c)) := by
  have e : pw (c :: r) n = if hxB c then pw r (16 * n + hxD c) else (0, 2) := rfl
  refine ⟨fun h => ?_, fun h => ?_⟩
  · have hb : hxB c = false := decide_eq_false (by omega)
    rw [e, hb]; rfl
  · have hb : hxB c = true := decide_eq_true h
    rw [e, hb, if_pos rfl]

set_option maxHeartbeats 32000000 in
set_option maxRecDepth 100000 in
theorem pwI_any (t : ByteArray) (w : World) (h2 : t.size = 2) :
    Calls Tryz.prog 115 #[.string t, .int .i64 16, .int .i64 8] w fun e w' => e = .returned (pwV (pw t.data.toList 0)) ∧ Below w.heap.size w w' := by
  have hemp : t.toList.isEmpty = false := by
    rw [← decide_eq_emptyBytes]
    exact decide_eq_false (fun h => by rw [h] at h2; exact absurd h2 (by decide))
  have hcv := Lib.run_convert_string_bytes (P := Tryz.prog) w 9 38 5 t Tryz.underlying9 Tryz.underlying38 Tryz.underlying5
  have hB : ∀ j, j < t.size → (Lib.bytesWorld w 5 t).cell? ⟨w.heap.size, j, none⟩ = some (.int .u8 (t.data.toList.getD j 0).toNat) := fun j hj => Lib.bytesWorld_cell w 5 t j hj
  have hbel : Below w.heap.size w (Lib.bytesWorld w 5 t) := Lib.bytesWorld_below _ _ _
  obtain ⟨W1, hW1⟩ : ∃ W1, W1 = Lib.bytesWorld w 5 t := ⟨_, rfl⟩
  rw [← hW1] at hcv hB hbel
  clear hW1
  obtain ⟨l, hL⟩ : ∃ l, l = t.data.toList := ⟨_, rfl⟩
  have hLn : l.length = t.size := by rw [hL, Lib.size_eq]
  rw [← hL] at hB ⊢
  clear hL
  have HBEL := Lib.hid hbel; clear hbel
  have hmv : IntKind.u64.wrap (IntKind.u64.wrap 256 - 1) = 255 := by
    rw [IntKind.wrap_u64, IntKind.wrap_u64]
    decide
  go_enter Tryz.func115, Tryz.ntmps115
  go_wp2
  go_loop [12, 13, 101] (fun vu vn vi => ∃ (k acc : Nat) (a : Int), vu = .bool false ∧ vn = .int .u64 a ∧ vi = .int .i64 k ∧ k ≤ t.size ∧ Hid (a = (acc : Int) ∧ acc * 16 ^ (2 - k) < 256 ∧ pw l 0 = pw (l.drop k) acc))
    (fun _ _ vi => t.size - (intOf vi).toNat)
  case atStart => exact ⟨0, 0, 0, rfl, rfl, rfl, by omega, rfl, by omega, rfl⟩
  case round =>
    obtain ⟨k, acc, a, rfl, rfl, rfl, hk, hh⟩ := hrel
    obtain ⟨ha, hacc, hdec⟩ := hh.out
    clear hh
    by_cases hkn : k < t.size
    · have hacc0 : acc < 16 := by
        rcases (show k = 0 ∨ k = 1 by omega) with rfl | rfl
        · omega
        · omega
      have haccn : (16 * acc + 15) * 16 ^ (2 - (k + 1)) < 256 := by
        rcases (show k = 0 ∨ k = 1 by omega) with rfl | rfl
        · have : acc = 0 := by omega
          subst this; decide
        · simp; omega
      have a0 : 0 ≤ a := by omega
      have a1 : a < 16 := by omega
      have hc := hB k hkn
      have hdrop : l.drop k = l[k]'(by omega) :: l.drop (k + 1) := List.drop_eq_getElem_cons (by omega)
      have hget : l.getD k 0 = l[k]'(by omega) := by simp [List.getD, List.getElem?_eq_getElem (show k < l.length by omega)]
      rw [hdrop] at hdec
      rw [hget] at hc
      generalize l[k]'(by omega) = c at hc hdec
      have hc256 : c.toNat < 256 := c.toNat_lt
      obtain ⟨hq, h95⟩ := hx_cases c
      obtain ⟨s1, s3⟩ := pw_step (c := c) (l.drop (k + 1)) acc
      have hlow := fun w => Tryz.internal_strconv_lower (c.toNat : Int) w
      clear hB hdrop hget
      have fin : pw (c :: l.drop (k + 1)) acc = (0, 2) → Ending.returned (.tuple #[.int .u64 0, .iface 109 (.int .i64 2)]) = Ending.returned (pwV (pw l 0)) := by
        intro hp
        rw [hdec, hp]
        rfl
      have HFIN := Lib.hid fin; clear fin
      have hD : 0 ≤ hxI (c.toNat : Int) → (hxD c : Int) = hxI (c.toNat : Int) := fun h => by unfold hxD; omega
      have HDEC := Lib.hid hdec; clear hdec
      have HAN := Lib.hid haccn; clear haccn hacc
      have hL0 := Go.bits_lo_u8 .or (c.toNat : Int) 32
      have hL1 := Go.bits_hi_u8 .or (c.toNat : Int) 32
      generalize Go.bits .or .u8 (c.toNat : Int) 32 = L at hq h95 hlow hL0 hL1
      generalize hci : (c.toNat : Int) = ci at hq h95 hlow hc s1 s3 hD
      have hci0 : 0 ≤ ci := by omega
      have hci1 : ci < 256 := by omega
      clear hc256
      have HLOW := Lib.hid hlow; clear hlow
      have ne95 : hxI ci ≠ -1 → (ci == 95) = false := fun h => by
        rw [beq_eq_false_iff_ne]
        intro e
        have := h95 e
        unfold hxQ at hq
        omega
      unfold hxQ at hq
      rcases hq with ⟨⟨h1, h2⟩, h3⟩ | ⟨h1, h2, h3, h4⟩ | ⟨h1, h2, h3, h4⟩ | ⟨h1, h2, h3⟩ | ⟨h1, h2, h3⟩ | ⟨h1, h2, h3⟩
      · have h95' := ne95 (by omega)
        have hd := hD (by omega)
        have HN : Hid (a * 16 + (ci - 48) = ((16 * acc + hxD c : Nat) : Int) ∧ (16 * acc + hxD c) * 16 ^ (2 - (k + 1)) < 256 ∧ pw l 0 = pw (l.drop (k + 1)) (16 * acc + hxD c)) :=
          Lib.hid ⟨by push_cast; omega, Nat.lt_of_le_of_lt (Nat.mul_le_mul_right _ (by have := hxD_lt c; omega)) HAN.out, HDEC.out.trans (s3 (by omega))⟩
        clear hacc0 ha s1 s3 hD hd ne95 h95 h3 HAN
        go_wp2
        refine ⟨⟨k + 1, 16 * acc + hxD c, a * 16 + (ci - 48), rfl, (by first | rfl | (congr 1; omega)), (by first | rfl | (congr 1; omega)), by omega, HN⟩, by simp [intOf]; omega⟩
      · have h95' := ne95 (by omega)
        have hd := hD (by omega)
        have HN : Hid (a * 16 + (L - 97 + 10) = ((16 * acc + hxD c : Nat) : Int) ∧ (16 * acc + hxD c) * 16 ^ (2 - (k + 1)) < 256 ∧ pw l 0 = pw (l.drop (k + 1)) (16 * acc + hxD c)) :=
          Lib.hid ⟨by push_cast; omega, Nat.lt_of_le_of_lt (Nat.mul_le_mul_right _ (by have := hxD_lt c; omega)) HAN.out, HDEC.out.trans (s3 (by omega))⟩
        clear hacc0 ha s1 s3 hD hd ne95 h95 h4 HAN
        go_wp2_with (go_at_call 129; refine (HLOW.out _).mono ?_; rintro e w' ⟨rfl, rfl⟩)
        refine ⟨⟨k + 1, 16 * acc + hxD c, a * 16 + (L - 97 + 10), rfl, (by first | rfl | (congr 1; omega)), (by first | rfl | (congr 1; omega)), by omega, HN⟩, by simp [intOf]; omega⟩
      · have HR := Lib.hid (HFIN.out (s1 h4))
        have h5 : (ci == 95) = false := by rw [beq_eq_false_iff_ne]; intro e; have := h95 e; omega
        have h6 : 97 ≤ L := by omega
        clear hacc0 ha s1 s3 hD ne95 h95 h4 HAN
        go_wp2_with (go_at_call 129; refine (HLOW.out _).mono ?_; rintro e w' ⟨rfl, rfl⟩)
        all_goals go_ret2
        all_goals exact ⟨HR.out, HBEL.out⟩
      · have HR := Lib.hid (HFIN.out (s1 h3))
        clear hacc0 ha s1 s3 hD ne95 h95 h3 HAN
        go_wp2_with (go_at_call 129; refine (HLOW.out _).mono ?_; rintro e w' ⟨rfl, rfl⟩)
        all_goals go_ret2
        all_goals exact ⟨HR.out, HBEL.out⟩
      · have HR := Lib.hid (HFIN.out (s1 h3))
        have h5 : (ci == 95) = false := by rw [beq_eq_false_iff_ne]; intro e; have := h95 e; omega
        clear hacc0 ha s1 s3 hD ne95 h95 h3 HAN
        go_wp2_with (go_at_call 129; refine (HLOW.out _).mono ?_; rintro e w' ⟨rfl, rfl⟩)
        all_goals go_ret2
        all_goals exact ⟨HR.out, HBEL.out⟩
      · have HR := Lib.hid (HFIN.out (s1 h3))
        clear hacc0 ha s1 s3 hD ne95 h95 h3 HAN
        by_cases h9 : ci = 95
        · subst h9
          go_wp2_with (go_at_call 129; refine (HLOW.out _).mono ?_; rintro e w' ⟨rfl, rfl⟩)
          all_goals go_ret2
          all_goals exact ⟨HR.out, HBEL.out⟩
        · have h5 : (ci == 95) = false := by rw [beq_eq_false_iff_ne]; exact h9
          go_wp2_with (go_at_call 129; refine (HLOW.out _).mono ?_; rintro e w' ⟨rfl, rfl⟩)
          all_goals go_ret2
          all_goals exact ⟨HR.out, HBEL.out⟩
    · have hkk : k = t.size := by omega
      subst hkk
      have hF : pw (l.drop t.size) acc = (acc, 0) := by rw [List.drop_eq_nil_of_le (by omega)]; rfl
      rw [hF] at hdec
      subst ha
      have HR : Hid (Value.tuple #[.int .u64 (acc : Int), .nilIface] = pwV (pw l 0)) := by show _ = _; rw [hdec]; rfl
      clear hacc hF hdec
      go_wp2
      go_ret2
      exact ⟨congrArg Ending.returned HR.out, HBEL.out⟩

end Go.Proofs.YtekaiafhnnpkgaaGreatDoor
