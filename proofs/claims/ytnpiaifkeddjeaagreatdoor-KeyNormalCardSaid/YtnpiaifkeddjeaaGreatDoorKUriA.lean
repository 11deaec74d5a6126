/- A URI's bytes, one behind the other: strconv.ParseUint of two digits, what stands first, a text passed on byte by byte. -/
import Derived.Test.YtnpiaifkeddjeaaGreatDoorKEnv
import Derived.Shelf.Abstract
import Derived.Deep.QuietTactic
import Derived.BigQuiet
import Derived.OneCell
import Derived.Lib.ConvBytes
import Derived.Lib.Walk
import Derived.Laws.Closers25
import Derived.Laws.Closers25b
import Derived.Laws.Strings3
import Derived.WalkKit
import Derived.BigCall
import Derived.BigGuard
import Derived.Lib.ItoaLen
namespace Go.Proofs.YtnpiaifkeddjeaaGreatDoor
open Go.RowKit

/-- a byte, and the byte with 32: what the walk asks -/
def hxQ (c L : Int) : Prop :=
  ((48 ≤ c ∧ c ≤ 57) ∧ hxI c = c - 48) ∨ (57 < c ∧ 97 ≤ L ∧ L ≤ 102 ∧ hxI c = L - 87) ∨ (57 < c ∧ 103 ≤ L ∧ L ≤ 122 ∧ hxI c = -1) ∨
  (c < 48 ∧ L < 97 ∧ hxI c = -1) ∨ (57 < c ∧ L < 97 ∧ hxI c = -1) ∨ (57 < c ∧ 122 < L ∧ hxI c = -1)
instance (c L : Int) : Decidable (hxQ c L) := by unfold hxQ; infer_instance
theorem hxQ_all : (List.range 256).all (fun n => decide (hxQ n (Go.bits .or .u8 n 32) ∧ ((n : Int) = 95 → Go.bits .or .u8 n 32 = 127))) = true := by kernel_rfl
theorem hx_cases (c : UInt8) : hxQ (c.toNat : Int) (Go.bits .or .u8 (c.toNat : Int) 32) ∧ ((c.toNat : Int) = 95 → Go.bits .or .u8 (c.toNat : Int) 32 = 127) := by
  have h := List.all_eq_true.1 hxQ_all c.toNat (List.mem_range.2 c.toNat_lt)
  exact of_decide_eq_true h
theorem hxI_lt (n : Int) : hxI n < 16 := by unfold hxI; split <;> (try split) <;> (try split) <;> omega
theorem hxD_lt (c : UInt8) : hxD c < 16 := by have := hxI_lt (c.toNat : Int); unfold hxD; omega
/-- digits read to the end: the number, and the error's kind -/
def pw : List UInt8 → Nat → Nat × Nat
  | [], n => (n, 0)
  | c :: r, n => if hxB c then pw r (16 * n + hxD c) else (0, 2)
/-- as the library's error -/
def pwV (p : Nat × Nat) : Value := if p.2 = 0 then .tuple #[.int .u64 p.1, .nilIface] else .tuple #[.int .u64 p.1, .iface 107 (.int .i64 p.2)]
theorem pw_step {c : UInt8} (r : List UInt8) (n : Nat) : (hxI (c.toNat : Int) = -1 → pw (c :: r) n = (0, 2)) ∧ (0 ≤ hxI (c.toNat : Int) → pw (c :: r) n = pw r (16 * n + hxD c)) := by
  have e : pw (c :: r) n = if hxB c then pw r (16 * n + hxD c) else (0, 2) := rfl
  refine ⟨fun h => ?_, fun h => ?_⟩
  · have hb : hxB c = false := decide_eq_false (by omega)
    rw [e, hb]; rfl
  · have hb : hxB c = true := decide_eq_true h
    rw [e, hb, if_pos rfl]

set_option maxHeartbeats 32000000 in
set_option maxRecDepth 100000 in
theorem pwI_any (t : ByteArray) (w : World) (h2 : t.size = 2) :
    Calls Tryz.prog 130 #[.string t, .int .i64 16, .int .i64 8] w fun e w' => e = .returned (pwV (pw t.data.toList 0)) ∧ Below w.heap.size w w' := by
  have hemp : t.toList.isEmpty = false := by
    rw [← decide_eq_emptyBytes]
    exact decide_eq_false (fun h => by rw [h] at h2; exact absurd h2 (by decide))
  have hcv := Lib.run_convert_string_bytes (P := Tryz.prog) w 9 67 5 t Tryz.underlying9 Tryz.underlying67 Tryz.underlying5
  have hB : ∀ j, j < t.size → (Lib.bytesWorld w 5 t).cell? ⟨w.heap.size, j, none⟩ = some (.int .u8 (t.data.toList.getD j 0).toNat) := fun j hj => Lib.bytesWorld_cell w 5 t j hj
  have hbel : Below w.heap.size w (Lib.bytesWorld w 5 t) := Lib.bytesWorld_below _ _ _
  obtain ⟨W1, hW1⟩ : ∃ W1, W1 = Lib.bytesWorld w 5 t := ⟨_, rfl⟩
  rw [← hW1] at hcv hB hbel
  clear hW1
  obtain ⟨l, hL⟩ : ∃ l, l = t.data.toList := ⟨_, rfl⟩
  have hLn : l.length = t.size := by rw [hL, Lib.size_eq]
  rw [← hL] at hB ⊢
  clear hL
  have HBEL := Lib.hid hbel; clear hbel
  have hmv : IntKind.u64.wrap (IntKind.u64.wrap 256 - 1) = 255 := by
    rw [IntKind.wrap_u64, IntKind.wrap_u64]
    decide
  go_enter Tryz.func130, Tryz.ntmps130
  go_wp2
  go_loop [12, 13, 101] (fun vu vn vi => ∃ (k acc : Nat) (a : Int), vu = .bool false ∧ vn = .int .u64 a ∧ vi = .int .i64 k ∧ k ≤ t.size ∧ Hid (a = (acc : Int) ∧ acc * 16 ^ (2 - k) < 256 ∧ pw l 0 = pw (l.drop k) acc))
    (fun _ _ vi => t.size - (intOf vi).toNat)
  case atStart => exact ⟨0, 0, 0, rfl, rfl, rfl, by omega, rfl, by omega, rfl⟩
  case round =>
    obtain ⟨k, acc, a, rfl, rfl, rfl, hk, hh⟩ := hrel
    obtain ⟨ha, hacc, hdec⟩ := hh.out
    clear hh
    by_cases hkn : k < t.size
    · have hacc0 : acc < 16 := by
        rcases (show k = 0 ∨ k = 1 by omega) with rfl | rfl
        · omega
        · omega
      have haccn : (16 * acc + 15) * 16 ^ (2 - (k + 1)) < 256 := by
        rcases (show k = 0 ∨ k = 1 by omega) with rfl | rfl
        · have : acc = 0 := by omega
          subst this; decide
        · simp; omega
      have a0 : 0 ≤ a := by omega
      have a1 : a < 16 := by omega
      have hc := hB k hkn
      have hdrop : l.drop k = l[k]'(by omega) :: l.drop (k + 1) := List.drop_eq_getElem_cons (by omega)
      have hget : l.getD k 0 = l[k]'(by omega) := by simp [List.getD, List.getElem?_eq_getElem (show k < l.length by omega)]
      rw [hdrop] at hdec
      rw [hget] at hc
      generalize l[k]'(by omega) = c at hc hdec
      have hc256 : c.toNat < 256 := c.toNat_lt
      obtain ⟨hq, h95⟩ := hx_cases c
      obtain ⟨s1, s3⟩ := pw_step (c := c) (l.drop (k + 1)) acc
      have hlow := fun w => Tryz.internal_strconv_lower (c.toNat : Int) w
      clear hB hdrop hget
      have fin : pw (c :: l.drop (k + 1)) acc = (0, 2) → Ending.returned (.tuple #[.int .u64 0, .iface 107 (.int .i64 2)]) = Ending.returned (pwV (pw l 0)) := by
        intro hp
        rw [hdec, hp]
        rfl
      have HFIN := Lib.hid fin; clear fin
      have hD : 0 ≤ hxI (c.toNat : Int) → (hxD c : Int) = hxI (c.toNat : Int) := fun h => by unfold hxD; omega
      have HDEC := Lib.hid hdec; clear hdec
      have HAN := Lib.hid haccn; clear haccn hacc
      have hL0 := Go.bits_lo_u8 .or (c.toNat : Int) 32
      have hL1 := Go.bits_hi_u8 .or (c.toNat : Int) 32
      generalize Go.bits .or .u8 (c.toNat : Int) 32 = L at hq h95 hlow hL0 hL1
      generalize hci : (c.toNat : Int) = ci at hq h95 hlow hc s1 s3 hD
      have hci0 : 0 ≤ ci := by omega
      have hci1 : ci < 256 := by omega
      clear hc256
      have HLOW := Lib.hid hlow; clear hlow
      have ne95 : hxI ci ≠ -1 → (ci == 95) = false := fun h => by
        rw [beq_eq_false_iff_ne]
        intro e
        have := h95 e
        unfold hxQ at hq
        omega
      unfold hxQ at hq
      rcases hq with ⟨⟨h1, h2⟩, h3⟩ | ⟨h1, h2, h3, h4⟩ | ⟨h1, h2, h3, h4⟩ | ⟨h1, h2, h3⟩ | ⟨h1, h2, h3⟩ | ⟨h1, h2, h3⟩
      · have h95' := ne95 (by omega)
        have hd := hD (by omega)
        have HN : Hid (a * 16 + (ci - 48) = ((16 * acc + hxD c : Nat) : Int) ∧ (16 * acc + hxD c) * 16 ^ (2 - (k + 1)) < 256 ∧ pw l 0 = pw (l.drop (k + 1)) (16 * acc + hxD c)) :=
          Lib.hid ⟨by push_cast; omega, Nat.lt_of_le_of_lt (Nat.mul_le_mul_right _ (by have := hxD_lt c; omega)) HAN.out, HDEC.out.trans (s3 (by omega))⟩
        clear hacc0 ha s1 s3 hD hd ne95 h95 h3 HAN
        go_wp2
        refine ⟨⟨k + 1, 16 * acc + hxD c, a * 16 + (ci - 48), rfl, (by first | rfl | (congr 1; omega)), (by first | rfl | (congr 1; omega)), by omega, HN⟩, by simp [intOf]; omega⟩
      · have h95' := ne95 (by omega)
        have hd := hD (by omega)
        have HN : Hid (a * 16 + (L - 97 + 10) = ((16 * acc + hxD c : Nat) : Int) ∧ (16 * acc + hxD c) * 16 ^ (2 - (k + 1)) < 256 ∧ pw l 0 = pw (l.drop (k + 1)) (16 * acc + hxD c)) :=
          Lib.hid ⟨by push_cast; omega, Nat.lt_of_le_of_lt (Nat.mul_le_mul_right _ (by have := hxD_lt c; omega)) HAN.out, HDEC.out.trans (s3 (by omega))⟩
        clear hacc0 ha s1 s3 hD hd ne95 h95 h4 HAN
        go_wp2_with (go_at_call 146; refine (HLOW.out _).mono ?_; rintro e w' ⟨rfl, rfl⟩)
        refine ⟨⟨k + 1, 16 * acc + hxD c, a * 16 + (L - 97 + 10), rfl, (by first | rfl | (congr 1; omega)), (by first | rfl | (congr 1; omega)), by omega, HN⟩, by simp [intOf]; omega⟩
      · have HR := Lib.hid (HFIN.out (s1 h4))
        have h5 : (ci == 95) = false := by rw [beq_eq_false_iff_ne]; intro e; have := h95 e; omega
        have h6 : 97 ≤ L := by omega
        clear hacc0 ha s1 s3 hD ne95 h95 h4 HAN
        go_wp2_with (go_at_call 146; refine (HLOW.out _).mono ?_; rintro e w' ⟨rfl, rfl⟩)
        all_goals go_ret2
        all_goals exact ⟨HR.out, HBEL.out⟩
      · have HR := Lib.hid (HFIN.out (s1 h3))
        clear hacc0 ha s1 s3 hD ne95 h95 h3 HAN
        go_wp2_with (go_at_call 146; refine (HLOW.out _).mono ?_; rintro e w' ⟨rfl, rfl⟩)
        all_goals go_ret2
        all_goals exact ⟨HR.out, HBEL.out⟩
      · have HR := Lib.hid (HFIN.out (s1 h3))
        have h5 : (ci == 95) = false := by rw [beq_eq_false_iff_ne]; intro e; have := h95 e; omega
        clear hacc0 ha s1 s3 hD ne95 h95 h3 HAN
        go_wp2_with (go_at_call 146; refine (HLOW.out _).mono ?_; rintro e w' ⟨rfl, rfl⟩)
        all_goals go_ret2
        all_goals exact ⟨HR.out, HBEL.out⟩
      · have HR := Lib.hid (HFIN.out (s1 h3))
        clear hacc0 ha s1 s3 hD ne95 h95 h3 HAN
        by_cases h9 : ci = 95
        · subst h9
          go_wp2_with (go_at_call 146; refine (HLOW.out _).mono ?_; rintro e w' ⟨rfl, rfl⟩)
          all_goals go_ret2
          all_goals exact ⟨HR.out, HBEL.out⟩
        · have h5 : (ci == 95) = false := by rw [beq_eq_false_iff_ne]; exact h9
          go_wp2_with (go_at_call 146; refine (HLOW.out _).mono ?_; rintro e w' ⟨rfl, rfl⟩)
          all_goals go_ret2
          all_goals exact ⟨HR.out, HBEL.out⟩
    · have hkk : k = t.size := by omega
      subst hkk
      have hF : pw (l.drop t.size) acc = (acc, 0) := by rw [List.drop_eq_nil_of_le (by omega)]; rfl
      rw [hF] at hdec
      subst ha
      have HR : Hid (Value.tuple #[.int .u64 (acc : Int), .nilIface] = pwV (pw l 0)) := by show _ = _; rw [hdec]; rfl
      clear hacc hF hdec
      go_wp2
      go_ret2
      exact ⟨congrArg Ending.returned HR.out, HBEL.out⟩

end Go.Proofs.YtnpiaifkeddjeaaGreatDoor

/- A URI's bytes, passed on one by one; which texts are hosts, which are made of plain bytes, escapes and marks. -/
namespace Go.Proofs.YtnpiaifkeddjeaaGreatDoor
open Go.RowKit

set_option maxHeartbeats 4000000 in
set_option maxRecDepth 100000 in
theorem pw_any (a b : UInt8) (w : World) (he : EnvU w) :
    Calls Tryz.prog 117 #[.string (bs [a, b]), .int .i64 16, .int .i64 8] w fun e w' => ∃ v, e = .returned (.tuple #[.int .u64 ((pw [a, b] 0).1 : Int), v]) ∧ ((pw [a, b] 0).2 = 0 → v = .nilIface) ∧ ((pw [a, b] 0).2 ≠ 0 → ∃ N, v = .iface 110 (.pointer (some ⟨N, 0, none⟩))) ∧ Below w.heap.size w w' := by
  obtain ⟨-, -, e1, e2⟩ := he
  obtain ⟨tp1, p1, v1⟩ := sen_cell gES e1
  have l1 := Lib.lt_of_cell v1
  clear e1 e2
  have hI := pwI_any (bs [a, b]) w (by rw [bs_size]; rfl)
  have hk : (pw [a, b] 0).2 = 0 ∨ (pw [a, b] 0).2 = 2 := by
    unfold pw
    split
    · unfold pw
      split
      · exact .inl rfl
      · exact .inr rfl
    · exact .inr rfl
  rw [bs_data] at hI
  generalize hP : pw [a, b] 0 = P at hI hk ⊢
  obtain ⟨n, q⟩ := P
  clear hP
  simp only at hk ⊢
  have HI := Lib.hid hI; clear hI
  have hsz : (bs [a, b]).size = 2 := by rw [bs_size]; rfl
  rcases hk with rfl | rfl
  · go_enter Tryz.func117, Tryz.ntmps117
    go_wp2_with (go_at_call 130; refine HI.out.mono ?_; rintro e w1 ⟨rfl, hb1⟩; simp only [pwV, if_true])
    go_wp2
    go_ret2
    exact ⟨_, rfl, rfl, hb1⟩
  · go_enter Tryz.func117, Tryz.ntmps117
    go_wp2_with (go_at_call 130; refine HI.out.mono ?_; rintro e w1 ⟨rfl, hb1⟩; simp only [pwV])
    have hv := (hb1.cell (show (⟨1, 0, none⟩ : Addr).block < w.heap.size from l1)).trans v1
    go_wp2_with (go_at_call 93; refine (Tryz.strconv_toError_syntax _ (bs [a, b]) 16 8 _ _ (by omega) hv (.inr ⟨_, _, rfl⟩)).mono ?_)
    rintro e w2 ⟨N, rfl, -, -, hb2⟩
    go_wp2
    go_ret2
    exact ⟨_, rfl, fun h => absurd h (by decide), fun _ => ⟨N, rfl⟩, hb1.trans (hb2.mono hb1.size)⟩
theorem pw_two (a b : UInt8) : ((hxB a && hxB b) = true → pw [a, b] 0 = (16 * hxD a + hxD b, 0)) ∧ ((hxB a && hxB b) = false → (pw [a, b] 0).2 ≠ 0) := by
  cases ha : hxB a <;> cases hb : hxB b <;> simp [pw, ha, hb]

set_option maxHeartbeats 400000 in
set_option maxRecDepth 100000 in
theorem alnum_any (n : Int) (w : World) :
    Calls Tryz.prog 86 #[.int .u8 n] w fun e w' => e = .returned (.bool (lettI n)) ∧ w = w' := by
  go_enter Tryz.func86, Tryz.ntmps86
  go_wp2
  all_goals go_ret
  all_goals unfold lettI
  all_goals refine ⟨ret_bool ?_, rfl⟩
  all_goals rw [Bool.eq_iff_iff]
  all_goals simp_all
  all_goals omega

theorem plain_cases (n : Int) : plainI n = (lettI n || ((n == 45) || ((n == 46) || ((n == 95) || (n == 126))))) := by
  unfold plainI
  rw [Bool.eq_iff_iff]
  simp
theorem host_cases (n : Int) : hostI n = (lettI n || ((n == 45) || (n == 46))) := by
  unfold hostI
  rw [Bool.eq_iff_iff]
  simp

set_option maxHeartbeats 400000 in
set_option maxRecDepth 100000 in
theorem plain_any (n : Int) (w : World) :
    Calls Tryz.prog 72 #[.int .u8 n] w fun e w' => e = .returned (.bool (plainI n)) ∧ w = w' := by
  rw [plain_cases]
  have ha := alnum_any n w
  generalize lettI n = x at *
  have HA := Lib.hid ha; clear ha
  cases x
  all_goals
    go_enter Tryz.func72, Tryz.ntmps72
    go_wp2_with (go_at_call 86; refine HA.out.mono ?_; rintro e w' ⟨rfl, rfl⟩)
    all_goals go_ret
    all_goals refine ⟨ret_bool ?_, rfl⟩
    all_goals rw [Bool.eq_iff_iff]
    all_goals simp_all

set_option maxHeartbeats 2000000 in
set_option maxRecDepth 100000 in
/-- what stands first in a text, and how many bytes it takes -/
theorem first_any (l : List UInt8) (w : World) (he : EnvU w) (hl : l ≠ []) :
    Calls Tryz.prog 97 #[.string (bs l)] w fun e w' => e = .returned (.tuple #[.int .u8 ((fsB l).toNat : Int), .int .i64 (fsN l : Int)]) ∧ Below w.heap.size w w' := by
  obtain ⟨c, r, rfl⟩ : ∃ c r, l = c :: r := by cases l with | nil => exact absurd rfl hl | cons c r => exact ⟨c, r, rfl⟩
  have h0 : 0 < (bs (c :: r)).size := by rw [bs_size]; simp
  have hg0 : (bs (c :: r))[0] = c := by rw [ByteArray.getElem_eq_getElem_data]; simp [bs]
  by_cases h37 : c = 37
  · subst h37
    match r, h0, hg0 with
    | [], h0, hg0 =>
      have hb : (((bs [37])[0].toNat : Int) == 37) = true := by rw [hg0]; rfl
      have hs : ¬ (3 : Int) ≤ ((bs [37]).size : Int) := by rw [bs_size]; simp
      have HR : Hid (Ending.returned (.tuple #[.int .u8 ((bs [37])[0].toNat : Int), .int .i64 1]) = .returned (.tuple #[.int .u8 ((fsB [37]).toNat : Int), .int .i64 (fsN [37] : Int)])) := by show _ = _; rw [hg0]; rfl
      clear hg0
      go_enter Tryz.func97, Tryz.ntmps97
      go_wp2_with fail
      go_ret2
      exact ⟨HR.out, Below.refl _ _⟩
    | [d], h0, hg0 =>
      have hb : (((bs [37, d])[0].toNat : Int) == 37) = true := by rw [hg0]; rfl
      have hs : ¬ (3 : Int) ≤ ((bs [37, d]).size : Int) := by rw [bs_size]; simp
      have HR : Hid (Ending.returned (.tuple #[.int .u8 ((bs [37, d])[0].toNat : Int), .int .i64 1]) = .returned (.tuple #[.int .u8 ((fsB [37, d]).toNat : Int), .int .i64 (fsN [37, d] : Int)])) := by show _ = _; rw [hg0]; rfl
      clear hg0
      go_enter Tryz.func97, Tryz.ntmps97
      go_wp2_with fail
      go_ret2
      exact ⟨HR.out, Below.refl _ _⟩
    | a :: b :: t, h0, hg0 =>
      have hb : (((bs (37 :: a :: b :: t))[0].toNat : Int) == 37) = true := by rw [hg0]; rfl
      have hs : (3 : Int) ≤ ((bs (37 :: a :: b :: t)).size : Int) := by rw [bs_size]; simp; omega
      have hx : (bs (37 :: a :: b :: t)).extract 1 3 = bs [a, b] := bs_of (by rw [Lib.extract_data, bs_data]; rfl)
      have hpw := pw_any a b w he
      obtain ⟨hp1, hp2⟩ := pw_two a b
      have HPW := Lib.hid hpw; clear hpw
      cases hh : (hxB a && hxB b)
      · have HR : Hid (Ending.returned (.tuple #[.int .u8 ((bs (37 :: a :: b :: t))[0].toNat : Int), .int .i64 1]) = .returned (.tuple #[.int .u8 ((fsB (37 :: a :: b :: t)).toNat : Int), .int .i64 (fsN (37 :: a :: b :: t) : Int)])) := by
          show _ = _; rw [hg0]; simp [fsB, fsN, esc3, hh]
        have HP := Lib.hid (hp2 hh); clear hp1 hp2 hh hg0
        go_enter Tryz.func97, Tryz.ntmps97
        go_wp2_with (go_at_call 117; (try rw [hx]); refine HPW.out.mono ?_)
        rintro e w1 ⟨v, rfl, -, hv, hb1⟩
        obtain ⟨N, rfl⟩ := hv HP.out
        have HB1 := Lib.hid hb1; clear hb1
        go_wp2_with fail
        go_ret2
        exact ⟨HR.out, HB1.out⟩
      · have HP := Lib.hid (hp1 hh)
        have hlt := hxD_lt a
        have hlt2 := hxD_lt b
        have HR : Hid (Ending.returned (.tuple #[.int .u8 (((16 * hxD a + hxD b : Nat)) : Int), .int .i64 3]) = .returned (.tuple #[.int .u8 ((fsB (37 :: a :: b :: t)).toNat : Int), .int .i64 (fsN (37 :: a :: b :: t) : Int)])) := by
          show _ = _
          have h1 : fsB (37 :: a :: b :: t) = hx2 a b := by simp [fsB, hh]
          have h2 : fsN (37 :: a :: b :: t) = 3 := by simp [fsN, esc3, hh]
          have h3 : (hx2 a b).toNat = 16 * hxD a + hxD b := by unfold hx2; rw [UInt8.toNat_ofNat']; omega
          rw [h1, h2, h3]; rfl
        have hm : 16 * hxD a + hxD b < 256 := by omega
        clear hp1 hp2 hh hg0 hlt hlt2
        rw [HP.out] at HPW
        generalize 16 * hxD a + hxD b = m at *
        clear HP
        go_enter Tryz.func97, Tryz.ntmps97
        go_wp2_with (go_at_call 117; (try rw [hx]); refine HPW.out.mono ?_)
        rintro e w1 ⟨v, rfl, hv, -, hb1⟩
        obtain rfl := hv trivial
        have HB1 := Lib.hid hb1; clear hb1
        go_wp2_with fail
        go_ret2
        exact ⟨HR.out, HB1.out⟩
  · have hb : (((bs (c :: r))[0].toNat : Int) == 37) = false := by
      rw [hg0, beq_eq_false_iff_ne]
      intro h
      exact h37 (UInt8.toNat_inj.1 (by show c.toNat = 37; omega))
    have HR : Hid (Ending.returned (.tuple #[.int .u8 ((bs (c :: r))[0].toNat : Int), .int .i64 1]) = .returned (.tuple #[.int .u8 ((fsB (c :: r)).toNat : Int), .int .i64 (fsN (c :: r) : Int)])) := by
      have hc : (c == 37) = false := by rw [beq_eq_false_iff_ne]; exact h37
      have h1 : fsB (c :: r) = c := by
        match r with
        | [] => rfl
        | [d] => rfl
        | a :: b :: t => simp [fsB, hc]
      have h2 : fsN (c :: r) = 1 := by
        match r with
        | [] => rfl
        | [d] => rfl
        | a :: b :: t => simp [fsN, esc3, hc]
      show _ = _
      rw [hg0, h1, h2]; rfl
    clear hg0 h37
    go_enter Tryz.func97, Tryz.ntmps97
    go_wp2_with fail
    go_ret2
    exact ⟨HR.out, Below.refl _ _⟩

set_option maxHeartbeats 2000000 in
set_option maxRecDepth 100000 in
/-- a text's bytes passed on to a function that captures nothing -/
theorem scan_any (l : List UInt8) (f : FuncId) (p : UInt8 × Bool → Bool) (I : List (UInt8 × Bool) → World → Prop) (he : ∀ args w, (callFunc f args).run Tryz.prog w = .ok (.enter f args) w)
    (hk : ∀ T w w', I T w → Below w.heap.size w w' → I T w') (hE : ∀ T w, I T w → EnvU w)
    (hf : ∀ T c e w, (∃ R, toks l = T ++ (c, e) :: R) → I T w → Calls Tryz.prog f #[.int .u8 ((c : UInt8).toNat : Int), .bool e] w fun r w' => r = .returned (.bool (p (c, e))) ∧ I (T ++ [(c, e)]) w')
    (w : World) (h0 : I [] w) (hl : l.length ≤ 281474976710656) :
    Calls Tryz.prog 70 #[.string (bs l), .func (.func f) #[] #[]] w fun r w' => r = .returned (.bool ((toks l).all p)) ∧ (∃ T, I T w') ∧ ((toks l).all p = true → I (toks l) w') := by
  have HF := Lib.hid hf; have HK := Lib.hid hk; have HE := Lib.hid hE; clear hf hk hE
  have H0 := Lib.hid h0; clear h0
  have HL := Lib.hid hl; clear hl
  obtain ⟨s, hs, hsl⟩ : ∃ s : ByteArray, s = bs l ∧ s.data.toList = l := ⟨_, rfl, bs_data _⟩
  rw [← hs]
  have HSL := Lib.hid hsl; clear hs hsl
  go_enter Tryz.func70, Tryz.ntmps70
  go_wp2_with fail
  go_loopw [0] (fun v wr => ∃ (r : List UInt8) (T : List (UInt8 × Bool)), v = .string (bs r) ∧ Hid (toks l = T ++ toks r ∧ T.all p = true ∧ r.length ≤ l.length) ∧ I T wr) (fun v _ => match v with | .string t => t.size | _ => 0)
  case atStart => exact ⟨l, [], by rw [bs_of HSL.out], ⟨rfl, rfl, Nat.le_refl _⟩, H0.out⟩
  case round =>
    obtain ⟨r, T, rfl, hh, hi⟩ := hrel
    have HI := Lib.hid hi; clear hi
    by_cases hr : r = []
    · subst hr
      have hne : (bs []).toList.isEmpty = true := by rw [Lib.toList_data, bs_data]; rfl
      have HA : Hid ((toks l).all p = true ∧ toks l = T) := by
        obtain ⟨h1, h2, -⟩ := hh.out
        have h3 : toks l = T := by rw [h1]; simp [toks]
        exact ⟨by rw [h3]; exact h2, h3⟩
      go_wp2_with fail
      go_ret
      exact ⟨ret_bool HA.out.1.symm, ⟨T, HI.out⟩, fun _ => by rw [HA.out.2]; exact HI.out⟩
    · have hne : (bs r).toList.isEmpty = false := by rw [Lib.toList_data, bs_data]; cases r with | nil => exact absurd rfl hr | cons => rfl
      have HFS := Lib.hid (first_any r wr (HE.out _ _ HI.out) hr)
      obtain ⟨hn1, hn2⟩ := fsN_le hr
      have hn3 : fsN r ≤ (bs r).size := by rw [bs_size]; exact hn2
      have hesc : (((fsN r : Nat) : Int) == 3) = esc3 r := by unfold fsN; cases esc3 r <;> rfl
      have HST : Hid (toks l = (T ++ [(fsB r, esc3 r)]) ++ toks (r.drop (fsN r))) := by
        show _ = _
        rw [hh.out.1, toks_step hr]; simp
      have HDR : Hid ((bs r).extract (fsN r) r.length = bs (r.drop (fsN r))) := bs_of (by rw [← bs_size, Lib.extract_to_end, bs_data])
      have HLE : Hid ((r.drop (fsN r)).length ≤ l.length ∧ (r.drop (fsN r)).length < r.length) := by
        have := hh.out.2.2
        show _ ∧ _
        rw [List.length_drop]; omega
      have HTR : Hid (∃ R, toks l = T ++ (fsB r, esc3 r) :: R) := ⟨toks (r.drop (fsN r)), by rw [HST.out]; simp⟩
      generalize fsB r = c at *
      generalize esc3 r = e at *
      generalize hn : fsN r = n at *
      cases hp : p (c, e)
      · have HN : Hid ((toks l).all p = false) := by show _ = _; rw [HST.out]; simp [hp]
        have HP := Lib.hid hp; clear hp
        go_wp2_with (go_at_call 97; refine HFS.out.mono ?_)
        rintro r1 w1 ⟨rfl, hb1⟩
        have HI1 := Lib.hid (HK.out _ _ _ HI.out hb1); clear hb1
        go_wp2_with (go_at_fn f; (try rw [hesc]); refine (HF.out T c e _ HTR.out HI1.out).mono ?_; rw [HP.out])
        rintro r2 w2 ⟨rfl, hi2⟩
        have HI2 := Lib.hid hi2; clear hi2
        go_wp2_with fail
        go_ret
        exact ⟨ret_bool HN.out.symm, ⟨_, HI2.out⟩, fun h => by rw [HN.out] at h; cases h⟩
      · have HN : Hid ((T ++ [(c, e)]).all p = true) := by show _ = _; simp [hp]; simpa using hh.out.2.1
        have HP := Lib.hid hp; clear hp
        go_wp2_with (go_at_call 97; refine HFS.out.mono ?_)
        rintro r1 w1 ⟨rfl, hb1⟩
        have HI1 := Lib.hid (HK.out _ _ _ HI.out hb1); clear hb1
        go_wp2_with (go_at_fn f; (try rw [hesc]); refine (HF.out T c e _ HTR.out HI1.out).mono ?_; rw [HP.out])
        rintro r2 w2 ⟨rfl, hi2⟩
        have HI2 := Lib.hid hi2; clear hi2
        go_wp2_with fail
        go_roundw
        case rel => exact ⟨r.drop n, T ++ [(c, e)], by rw [HDR.out], ⟨HST.out, HN.out, HLE.out.1⟩, HI2.out⟩
        case measure => rw [HDR.out]; simp only [bs_size]; exact HLE.out.2

set_option maxHeartbeats 2000000 in
set_option maxRecDepth 100000 in
/-- a text's bytes passed on to a function that captures one variable -/
theorem scanC_any (l : List UInt8) (f : FuncId) (b : Nat) (p : UInt8 × Bool → Bool) (I : List (UInt8 × Bool) → World → Prop) (he : ∀ args w, (callFunc f args).run Tryz.prog w = .ok (.enter f args) w)
    (hk : ∀ T w w', I T w → Below w.heap.size w w' → I T w') (hE : ∀ T w, I T w → EnvU w)
    (hf : ∀ T c e w, (∃ R, toks l = T ++ (c, e) :: R) → I T w → Calls Tryz.prog f #[.int .u8 ((c : UInt8).toNat : Int), .bool e, .pointer (some ⟨b, 0, none⟩)] w fun r w' => r = .returned (.bool (p (c, e))) ∧ I (T ++ [(c, e)]) w')
    (w : World) (h0 : I [] w) (hl : l.length ≤ 281474976710656) :
    Calls Tryz.prog 70 #[.string (bs l), .func (.func f) #[] #[.pointer (some ⟨b, 0, none⟩)]] w fun r w' => r = .returned (.bool ((toks l).all p)) ∧ (∃ T, I T w') ∧ ((toks l).all p = true → I (toks l) w') := by
  have HF := Lib.hid hf; have HK := Lib.hid hk; have HE := Lib.hid hE; clear hf hk hE
  have H0 := Lib.hid h0; clear h0
  have HL := Lib.hid hl; clear hl
  obtain ⟨s, hs, hsl⟩ : ∃ s : ByteArray, s = bs l ∧ s.data.toList = l := ⟨_, rfl, bs_data _⟩
  rw [← hs]
  have HSL := Lib.hid hsl; clear hs hsl
  go_enter Tryz.func70, Tryz.ntmps70
  go_wp2_with fail
  go_loopw [0] (fun v wr => ∃ (r : List UInt8) (T : List (UInt8 × Bool)), v = .string (bs r) ∧ Hid (toks l = T ++ toks r ∧ T.all p = true ∧ r.length ≤ l.length) ∧ I T wr) (fun v _ => match v with | .string t => t.size | _ => 0)
  case atStart => exact ⟨l, [], by rw [bs_of HSL.out], ⟨rfl, rfl, Nat.le_refl _⟩, H0.out⟩
  case round =>
    obtain ⟨r, T, rfl, hh, hi⟩ := hrel
    have HI := Lib.hid hi; clear hi
    by_cases hr : r = []
    · subst hr
      have hne : (bs []).toList.isEmpty = true := by rw [Lib.toList_data, bs_data]; rfl
      have HA : Hid ((toks l).all p = true ∧ toks l = T) := by
        obtain ⟨h1, h2, -⟩ := hh.out
        have h3 : toks l = T := by rw [h1]; simp [toks]
        exact ⟨by rw [h3]; exact h2, h3⟩
      go_wp2_with fail
      go_ret
      exact ⟨ret_bool HA.out.1.symm, ⟨T, HI.out⟩, fun _ => by rw [HA.out.2]; exact HI.out⟩
    · have hne : (bs r).toList.isEmpty = false := by rw [Lib.toList_data, bs_data]; cases r with | nil => exact absurd rfl hr | cons => rfl
      have HFS := Lib.hid (first_any r wr (HE.out _ _ HI.out) hr)
      obtain ⟨hn1, hn2⟩ := fsN_le hr
      have hn3 : fsN r ≤ (bs r).size := by rw [bs_size]; exact hn2
      have hesc : (((fsN r : Nat) : Int) == 3) = esc3 r := by unfold fsN; cases esc3 r <;> rfl
      have HST : Hid (toks l = (T ++ [(fsB r, esc3 r)]) ++ toks (r.drop (fsN r))) := by
        show _ = _
        rw [hh.out.1, toks_step hr]; simp
      have HDR : Hid ((bs r).extract (fsN r) r.length = bs (r.drop (fsN r))) := bs_of (by rw [← bs_size, Lib.extract_to_end, bs_data])
      have HLE : Hid ((r.drop (fsN r)).length ≤ l.length ∧ (r.drop (fsN r)).length < r.length) := by
        have := hh.out.2.2
        show _ ∧ _
        rw [List.length_drop]; omega
      have HTR : Hid (∃ R, toks l = T ++ (fsB r, esc3 r) :: R) := ⟨toks (r.drop (fsN r)), by rw [HST.out]; simp⟩
      generalize fsB r = c at *
      generalize esc3 r = e at *
      generalize hn : fsN r = n at *
      cases hp : p (c, e)
      · have HN : Hid ((toks l).all p = false) := by show _ = _; rw [HST.out]; simp [hp]
        have HP := Lib.hid hp; clear hp
        go_wp2_with (go_at_call 97; refine HFS.out.mono ?_)
        rintro r1 w1 ⟨rfl, hb1⟩
        have HI1 := Lib.hid (HK.out _ _ _ HI.out hb1); clear hb1
        go_wp2_with (go_at_fn f; (try rw [hesc]); refine (HF.out T c e _ HTR.out HI1.out).mono ?_; rw [HP.out])
        rintro r2 w2 ⟨rfl, hi2⟩
        have HI2 := Lib.hid hi2; clear hi2
        go_wp2_with fail
        go_ret
        exact ⟨ret_bool HN.out.symm, ⟨_, HI2.out⟩, fun h => by rw [HN.out] at h; cases h⟩
      · have HN : Hid ((T ++ [(c, e)]).all p = true) := by show _ = _; simp [hp]; simpa using hh.out.2.1
        have HP := Lib.hid hp; clear hp
        go_wp2_with (go_at_call 97; refine HFS.out.mono ?_)
        rintro r1 w1 ⟨rfl, hb1⟩
        have HI1 := Lib.hid (HK.out _ _ _ HI.out hb1); clear hb1
        go_wp2_with (go_at_fn f; (try rw [hesc]); refine (HF.out T c e _ HTR.out HI1.out).mono ?_; rw [HP.out])
        rintro r2 w2 ⟨rfl, hi2⟩
        have HI2 := Lib.hid hi2; clear hi2
        go_wp2_with fail
        go_roundw
        case rel => exact ⟨r.drop n, T ++ [(c, e)], by rw [HDR.out], ⟨HST.out, HN.out, HLE.out.1⟩, HI2.out⟩
        case measure => rw [HDR.out]; simp only [bs_size]; exact HLE.out.2
end Go.Proofs.YtnpiaifkeddjeaaGreatDoor

/- Which texts are hosts, which are made of plain bytes, escapes and marks. -/
namespace Go.Proofs.YtnpiaifkeddjeaaGreatDoor
open Go.RowKit

set_option maxHeartbeats 400000 in
set_option maxRecDepth 100000 in
theorem hostC_any (n : Int) (e : Bool) (w : World) :
    Calls Tryz.prog 85 #[.int .u8 n, .bool e] w fun r w' => r = .returned (.bool (!e && hostI n)) ∧ w = w' := by
  rw [host_cases]
  have ha := alnum_any n w
  generalize lettI n = x at *
  have HA := Lib.hid ha; clear ha
  cases e <;> cases x <;> cases h1 : (n == 45) <;> cases h2 : (n == 46)
  all_goals
    go_enter Tryz.func85, Tryz.ntmps85
    go_wp2_with (go_at_call 86; refine HA.out.mono ?_; rintro e w' ⟨rfl, rfl⟩)
    go_ret
    exact ⟨rfl, rfl⟩

set_option maxHeartbeats 400000 in
set_option maxRecDepth 100000 in
theorem consC_any (c : UInt8) (e : Bool) (b : Nat) (m : List UInt8) (w : World) (hb : w.cell? ⟨b, 0, none⟩ = some (.string (bs m))) :
    Calls Tryz.prog 88 #[.int .u8 (c.toNat : Int), .bool e, .pointer (some ⟨b, 0, none⟩)] w fun r w' => r = .returned (.bool (madeP m (c, e))) ∧ w = w' := by
  have hp := plain_any (c.toNat : Int) w
  have hx := indexU_any m c w
  have hi := index_in m c
  have HR : Hid (madeP m (c, e) = (e || (plainI (c.toNat : Int) || inI (c.toNat : Int) m))) := rfl
  rw [HR.out]
  rw [← hi]
  generalize plainI (c.toNat : Int) = x at *
  generalize Lib.indexByte m c = k at *
  have HP := Lib.hid hp; have HX := Lib.hid hx; clear hp hx hi HR
  cases e <;> cases x <;> by_cases hk : 0 ≤ k
  all_goals
    go_enter Tryz.func88, Tryz.ntmps88
    go_wp2_with (first | (go_at_call 72; refine HP.out.mono ?_; rintro e w' ⟨rfl, rfl⟩) | (go_at_call 89; refine HX.out.mono ?_; rintro e w' ⟨rfl, rfl⟩))
    go_ret
    exact ⟨ret_bool (by simp [hk]), rfl⟩

theorem hostU_iff (l : List UInt8) : hostOk l = ((!l.isEmpty && decide (l.length ≤ 253)) && (toks l).all hostP) := rfl
set_option maxHeartbeats 1000000 in
set_option maxRecDepth 100000 in
theorem isHost_any (l : List UInt8) (w : World) (he : EnvU w) (hl : l.length ≤ 281474976710656) :
    Calls Tryz.prog 60 #[.string (bs l)] w fun r w' => r = .returned (.bool (hostOk l)) ∧ Below w.heap.size w w' := by
  have hsc := scan_any l 85 hostP (fun _ W => EnvU W ∧ Below w.heap.size w W) (enters_of Tryz.func85 (by kernel_rfl) rfl)
    (fun _ W W' h hb => ⟨h.1.bel hb, h.2.trans (hb.mono h.2.size)⟩) (fun _ _ h => h.1)
    (fun _ c e W _ h => (hostC_any (c.toNat : Int) e W).mono fun r W' ⟨h1, h2⟩ => ⟨h1, h2 ▸ h⟩) w ⟨he, Below.refl _ _⟩ hl
  have HS := Lib.hid hsc; clear hsc
  rw [hostU_iff]
  generalize hq : (toks l).all hostP = q at *
  clear hq
  by_cases h0 : l = []
  · subst h0
    have hne : (bs []).toList.isEmpty = true := by rw [Lib.toList_data, bs_data]; rfl
    go_enter Tryz.func60, Tryz.ntmps60
    go_wp2_with fail
    go_ret
    exact ⟨ret_bool (by simp), Below.refl _ _⟩
  · have hne : (bs l).toList.isEmpty = false := by rw [Lib.toList_data, bs_data]; cases l with | nil => exact absurd rfl h0 | cons => rfl
    have hie : l.isEmpty = false := by cases l with | nil => exact absurd rfl h0 | cons => rfl
    rw [hie]
    clear hie h0
    by_cases h253 : l.length ≤ 253
    · rw [decide_eq_true h253]
      have hsz : ((bs l).size : Int) ≤ 253 := by rw [bs_size]; omega
      go_enter Tryz.func60, Tryz.ntmps60
      go_wp2_with (go_at_call 70; refine HS.out.mono ?_)
      rintro e w1 ⟨rfl, ⟨T, -, hb⟩, -⟩
      have HB := Lib.hid hb; clear hb
      go_wp2_with fail
      go_ret
      exact ⟨ret_bool (by simp), HB.out⟩
    · rw [decide_eq_false h253]
      have hsz : ¬ ((bs l).size : Int) ≤ 253 := by rw [bs_size]; omega
      go_enter Tryz.func60, Tryz.ntmps60
      go_wp2_with fail
      go_ret
      exact ⟨ret_bool (by simp), Below.refl _ _⟩

set_option maxHeartbeats 1000000 in
set_option maxRecDepth 100000 in
theorem consists_any (l m : List UInt8) (w : World) (he : EnvU w) (hl : l.length ≤ 281474976710656) :
    Calls Tryz.prog 62 #[.string (bs l), .string (bs m)] w fun r w' => r = .returned (.bool (made m l)) ∧ Below w.heap.size w w' := by
  have hal : Below w.heap.size w (w.alloc (.cells #[.string (bs m)] 9)) := (Below.refl _ _).alloc (Nat.le_refl _) _
  have hc0 : (w.alloc (.cells #[.string (bs m)] 9)).cell? ⟨w.heap.size, 0, none⟩ = some (.string (bs m)) := cell_of_one (heap_alloc_new w _)
  have hsc := scanC_any l 88 w.heap.size (madeP m) (fun _ W => EnvU W ∧ Below w.heap.size w W ∧ W.cell? ⟨w.heap.size, 0, none⟩ = some (.string (bs m)) ∧ w.heap.size < W.heap.size) (enters_of Tryz.func88 (by kernel_rfl) rfl)
    (fun _ W W' h hb => ⟨h.1.bel hb, h.2.1.trans (hb.mono h.2.1.size), (hb.cell (p := ⟨w.heap.size, 0, none⟩) h.2.2.2).trans h.2.2.1, Nat.lt_of_lt_of_le h.2.2.2 hb.size⟩) (fun _ _ h => h.1)
    (fun _ c e W _ h => (consC_any c e _ m W h.2.2.1).mono fun r W' ⟨h1, h2⟩ => ⟨h1, h2 ▸ h⟩) _ ⟨he.alloc _, hal, hc0, by simp⟩ hl
  have HS := Lib.hid hsc; clear hsc hal hc0
  have HM : Hid (made m l = (toks l).all (madeP m)) := rfl
  rw [HM.out]
  generalize (toks l).all (madeP m) = q at *
  clear HM
  go_enter Tryz.func62, Tryz.ntmps62
  go_wp2_with (go_at_call 70; refine HS.out.mono ?_)
  rintro e w1 ⟨rfl, ⟨T, -, hb, -⟩, -⟩
  have HB := Lib.hid hb; clear hb
  go_wp2_with fail
  go_ret
  exact ⟨rfl, HB.out⟩
end Go.Proofs.YtnpiaifkeddjeaaGreatDoor

/- A URI's parts, its text, whether it may be: the uri layer's functions. -/
namespace Go.Proofs.YtnpiaifkeddjeaaGreatDoor
open Go.RowKit

/-- block b holds just these cells -/
def ubk (w : World) (b : Nat) (cs : Array Value) : Prop := ∃ T, w.heap[b]? = some (.cells cs T (0, 0))
theorem ubk.cell {w : World} {b : Nat} {cs : Array Value} (h : ubk w b cs) (j : Nat) (u : Value) (hj : cs[j]? = some u) : w.cell? ⟨b, j, none⟩ = some u := by
  obtain ⟨T, h⟩ := h
  exact (cell_of_row w b j cs T _ h).trans hj
theorem ubk.free {w : World} {b : Nat} {cs : Array Value} (h : ubk w b cs) (j : Nat) : w.frozen? ⟨b, j, none⟩ = false := by
  obtain ⟨T, h⟩ := h
  simp [World.frozen?, h]
theorem ubk.set {w : World} {b : Nat} {cs : Array Value} (h : ubk w b cs) (j : Nat) (u : Value) : ubk (w.setCell ⟨b, j, none⟩ u) b (cs.setIfInBounds j u) := by
  obtain ⟨T, h⟩ := h
  exact ⟨T, Lib.heap_setCell_same h u⟩
theorem ubk.other {w : World} {b : Nat} {cs : Array Value} (h : ubk w b cs) {a : Addr} (ha : b ≠ a.block) (u : Value) : ubk (w.setCell a u) b cs := by
  obtain ⟨T, h⟩ := h
  exact ⟨T, by rw [Below.heap_setCell _ _ _ _ ha]; exact h⟩
theorem ubk.keep {w w' : World} {b : Nat} {cs : Array Value} (h : ubk w b cs) (hk : w'.heap[b]? = w.heap[b]?) : ubk w' b cs := by
  obtain ⟨T, h⟩ := h
  exact ⟨T, hk.trans h⟩
theorem ubk.lt {w : World} {b : Nat} {cs : Array Value} (h : ubk w b cs) : b < w.heap.size := by
  obtain ⟨T, h⟩ := h
  exact (Array.getElem?_eq_some_iff.1 h).1
theorem ubk.below {w w' : World} {b : Nat} {cs : Array Value} (h : ubk w b cs) (hb : Below w.heap.size w w') : ubk w' b cs := h.keep (hb.block b h.lt)
theorem ubk.new (w : World) (cs : Array Value) (T : TypeId) : ubk (w.alloc (.cells cs T)) w.heap.size cs := ⟨T, heap_alloc_new w _⟩
theorem ubk.alloc {w : World} {b : Nat} {cs : Array Value} (h : ubk w b cs) (o : Obj) : ubk (w.alloc o) b cs := h.keep (Below.heap_alloc _ _ _ h.lt)
theorem beq_lit (a b : List UInt8) : ((bs a).toList == b) = (a == b) := by rw [Lib.toList_data, bs_data]

set_option maxHeartbeats 400000 in
set_option maxRecDepth 100000 in
theorem usualPort_any (s : List UInt8) (w : World) :
    Calls Tryz.prog 38 #[.string (bs s)] w fun r w' => r = .returned (.int .i64 (usual s)) ∧ w = w' := by
  by_cases h1 : s = schH
  · have e1 : ((bs s).toList == [104, 116, 116, 112]) = true := by rw [beq_lit, h1]; rfl
    have hu : usual s = 80 := if_pos h1
    rw [hu]
    clear h1 hu
    go_enter Tryz.func38, Tryz.ntmps38
    go_wp2_with fail
    go_ret
    exact ⟨rfl, rfl⟩
  · have e1 : ((bs s).toList == [104, 116, 116, 112]) = false := by rw [beq_lit]; exact beq_eq_false_iff_ne.2 h1
    by_cases h2 : s = schS
    · have e2 : ((bs s).toList == [104, 116, 116, 112, 115]) = true := by rw [beq_lit, h2]; rfl
      have hu : usual s = 443 := by unfold usual; rw [if_neg h1, if_pos h2]
      rw [hu]
      clear h1 h2 hu
      go_enter Tryz.func38, Tryz.ntmps38
      go_wp2_with fail
      go_ret
      exact ⟨rfl, rfl⟩
    · have e2 : ((bs s).toList == [104, 116, 116, 112, 115]) = false := by rw [beq_lit]; exact beq_eq_false_iff_ne.2 h2
      have hu : usual s = 0 := by unfold usual; rw [if_neg h1, if_neg h2]
      rw [hu]
      clear h1 h2 hu
      go_enter Tryz.func38, Tryz.ntmps38
      go_wp2_with fail
      go_ret
      exact ⟨rfl, rfl⟩

/-- a URI's texts are not too long for the walk; its number is one -/
structure Ur.okW (u : Ur) : Prop where
  len : u.sc.length + u.ho.length + u.pa.length + u.qu.length ≤ 100000000
  lo : -9223372036854775808 ≤ u.po
  hi : u.po ≤ 9223372036854775807

theorem text_eqP (s h n p : List UInt8) : bs s ++ ⟨#[58, 47, 47]⟩ ++ bs h ++ (⟨#[58]⟩ ++ bs n) ++ bs p = bs (s ++ ([58, 47, 47] ++ (h ++ (58 :: n ++ (p ++ []))))) := bs_of (by simp)
theorem text_eqPQ (s h n p q : List UInt8) : bs s ++ ⟨#[58, 47, 47]⟩ ++ bs h ++ (⟨#[58]⟩ ++ bs n) ++ bs p ++ (⟨#[63]⟩ ++ bs q) = bs (s ++ ([58, 47, 47] ++ (h ++ (58 :: n ++ (p ++ 63 :: q))))) := bs_of (by simp)
theorem text_eqN (s h p : List UInt8) : bs s ++ ⟨#[58, 47, 47]⟩ ++ bs h ++ bs p = bs (s ++ ([58, 47, 47] ++ (h ++ ([] ++ (p ++ []))))) := bs_of (by simp)
theorem text_eqQ (s h p q : List UInt8) : bs s ++ ⟨#[58, 47, 47]⟩ ++ bs h ++ bs p ++ (⟨#[63]⟩ ++ bs q) = bs (s ++ ([58, 47, 47] ++ (h ++ ([] ++ (p ++ 63 :: q))))) := bs_of (by simp)

set_option maxHeartbeats 1000000 in
set_option maxRecDepth 100000 in
theorem written_any (u : Ur) (w : World) (he : EnvU w) (hu : u.okW) :
    Calls Tryz.prog 35 #[.agg #[.string (bs u.sc), .string (bs u.ho), .int .i64 u.po, .string (bs u.pa), .string (bs u.qu), .bool u.hq]] w fun r w' => r = .returned (.string (bs u.text)) ∧ Below w.heap.size w w' := by
  obtain ⟨sc, ho, po, pa, qu, hq⟩ := u
  obtain ⟨hlen, hlo, hhi⟩ := hu
  simp only at hlen hlo hhi ⊢
  have hT : Ur.text ⟨sc, ho, po, pa, qu, hq⟩ = sc ++ ([58, 47, 47] ++ (ho ++ ((if po = 0 then [] else 58 :: Lib.itoa po) ++ (pa ++ if hq then 63 :: qu else [])))) := rfl
  rw [hT]
  clear hT
  have hal : Below w.heap.size w (w.alloc (.cells #[.string (bs sc), .string (bs ho), .int .i64 po, .string (bs pa), .string (bs qu), .bool hq] 23)) := (Below.refl _ _).alloc (Nat.le_refl _) _
  by_cases h0 : po = 0
  · subst h0
    simp only [if_true]
    have HAL := Lib.hid hal; clear hal
    cases hq
    · go_enter Tryz.func35, Tryz.ntmps35
      go_wp2_with fail
      go_ret
      exact ⟨ret_str (by rw [text_eqN]; simp), HAL.out⟩
    · go_enter Tryz.func35, Tryz.ntmps35
      go_wp2_with fail
      go_ret
      exact ⟨ret_str (by rw [text_eqQ]; simp), HAL.out⟩
  · have hpo : (po != 0) = true := bne_iff_ne.2 h0
    rw [if_neg h0]
    clear h0
    have hit := itoaU_any po _ hlo hhi (he.alloc (.cells #[.string (bs sc), .string (bs ho), .int .i64 po, .string (bs pa), .string (bs qu), .bool hq] 23))
    have hbk := ubk.new w #[.string (bs sc), .string (bs ho), .int .i64 po, .string (bs pa), .string (bs qu), .bool hq] 23
    have hil : (Lib.itoa po).length ≤ 21 := Lib.itoa_length_le po hlo hhi
    generalize Lib.itoa po = n at *
    have HIT := Lib.hid hit; have HBK := Lib.hid hbk; have HAL := Lib.hid hal; clear hit hbk hal
    cases hq
    · go_enter Tryz.func35, Tryz.ntmps35
      go_wp2_with fail
      refine HIT.out.mono ?_
      rintro r w1 ⟨rfl, hb1⟩
      have hbk1 := HBK.out.below hb1
      have c3 := hbk1.cell 3 _ rfl
      have c5 := hbk1.cell 5 _ rfl
      have HB := Lib.hid (HAL.out.trans (hb1.mono HAL.out.size)); clear hb1 hbk1
      go_wp2_with fail
      go_ret
      exact ⟨ret_str (by rw [text_eqP]; simp), HB.out⟩
    · go_enter Tryz.func35, Tryz.ntmps35
      go_wp2_with fail
      refine HIT.out.mono ?_
      rintro r w1 ⟨rfl, hb1⟩
      have hbk1 := HBK.out.below hb1
      have c3 := hbk1.cell 3 _ rfl
      have c4 := hbk1.cell 4 _ rfl
      have c5 := hbk1.cell 5 _ rfl
      have HB := Lib.hid (HAL.out.trans (hb1.mono HAL.out.size)); clear hb1 hbk1
      go_wp2_with fail
      go_ret
      exact ⟨ret_str (by rw [text_eqPQ]; simp), HB.out⟩
end Go.Proofs.YtnpiaifkeddjeaaGreatDoor
