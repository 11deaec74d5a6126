/- What the walks of bodies in chunks ask of Go's library: one table, two errors, one number; hexadecimal digits read as a number. -/
import Derived.Test.YtgkjjmcjlobbpaaGreatDoorKBytes
import Derived.Test.YtgkjjmcjlobbpaaGreatDoorKFieldsG
import Derived.Test.YtgkjjmcjlobbpaaGreatDoorKPlain
import Derived.Test.YtgkjjmcjlobbpaaGreatDoorShelf
import Derived.Lib.LaidTab
import Derived.Lib.ConvBytes
import Derived.Lib.Walk
import Derived.Laws.Closers25
import Derived.Laws.Closers25b
import Derived.Laws.Strings3
import Derived.WalkKit
import Derived.BigCall
import Derived.BigGuard
import Derived.OwnWalk
import Derived.Scope
import Derived.WalkMore
import Derived.Lib.OthersKept
namespace Go.Proofs.YtgkjjmcjlobbpaaGreatDoor
open Go.RowKit
/-- math/bits' table -/
def deBr : List Int := [0, 1, 56, 2, 57, 49, 28, 3, 61, 58, 42, 50, 38, 29, 17, 4, 62, 47, 59, 36, 45, 43, 51, 22, 53, 39, 33, 30, 24, 18, 12, 5, 63, 55, 48, 27, 60, 41, 37, 16, 46, 35, 44, 21, 52, 32, 23, 11, 54, 26, 40, 15, 34, 20, 31, 10, 25, 14, 19, 9, 13, 8, 7, 6]
def EnvC (w : World) : Prop := MaxL w ∧ (Sen w "strconv.ErrSyntax" ∧ Sen w "strconv.ErrRange") ∧ Lib.TabIs Tryz.prog w "math/bits.deBruijn64tab" .u8 deBr
theorem gBr : Tryz.prog.globalNamed "math/bits.deBruijn64tab" = some 7 := by kernel_rfl
theorem gBrType : (Tryz.prog.globals[7]?).map (·.type) = some 255 := by kernel_rfl
theorem cellsBr : Tryz.prog.cellsOf 255 = 64 := by kernel_rfl
theorem cellsB8 : Tryz.prog.cellsOf 5 = 1 := by kernel_rfl
theorem EnvC.below {B : Nat} {w w' : World} (h : EnvC w) (hb : Below B w w') (hB : w.heap.size ≤ B) : EnvC w' := by
  obtain ⟨h1, ⟨h2, h3⟩, h4⟩ := h
  refine ⟨h1.bel hb hB, ⟨h2.below hb hB, h3.below hb hB⟩, ?_⟩
  unfold Lib.TabIs at *
  exact var_keep h4 fun g _ hl => hb.block g (by omega)
theorem EnvC.bel {w w' : World} (h : EnvC w) (hb : Below w.heap.size w w') : EnvC w' := h.below hb (Nat.le_refl _)
theorem EnvC.alloc {w : World} (h : EnvC w) (o : Obj) : EnvC (w.alloc o) := h.bel ((Below.refl w.heap.size _).alloc (Nat.le_refl _) _)
/-- the rest, from what a row lists -/
theorem envc_of {W : World} {l : List (String × DataW Unit)} (hm : MaxL W) (h : laidMetH Tryz.prog l W)
    (hf : (l.filter (fun x => x.1 == "strconv.ErrSyntax"), l.filter (fun x => x.1 == "strconv.ErrRange")) =
      ([("strconv.ErrSyntax", senData [105, 110, 118, 97, 108, 105, 100, 32, 115, 121, 110, 116, 97, 120])], [("strconv.ErrRange", senData [118, 97, 108, 117, 101, 32, 111, 117, 116, 32, 111, 102, 32, 114, 97, 110, 103, 101])]))
    (hf2 : l.filter (fun x => x.1 == "math/bits.deBruijn64tab") = [("math/bits.deBruijn64tab", Lib.tabData .u8 deBr)]) : EnvC W := by
  refine ⟨hm, sen_of h hf, ?_⟩
  have h1 := laidMetH.filter (fun x => x.1 == "math/bits.deBruijn64tab") h
  rw [hf2, MakeChecks.laidMetH_plain _ _ _ (by rfl)] at h1
  exact Lib.tabIs_of_head (rest := []) gBr gBrType Tryz.underlying255 Tryz.underlying5 cellsB8 cellsBr h1

theorem index_any (s sep : List UInt8) (w : World) (hm : MaxL w) (hs : s.length < 4294967281) :
    Calls Tryz.prog 97 #[.string (bs s), .string (bs sep)] w fun e w' => e = .returned (.int .i64 (Lib.index s sep)) ∧ w = w' := by
  obtain ⟨m, hm⟩ := hm
  refine (Tryz.strings_Index (bs s) (bs sep) m w (by rw [bs_size]; exact hs) hm).mono ?_
  rw [bs_data, bs_data]
  rintro e w' ⟨he, hw⟩
  exact ⟨he, hw.symm⟩
theorem prefix_any (s p : List UInt8) (w : World) :
    Calls Tryz.prog 50 #[.string (bs s), .string (bs p)] w fun e w' => e = .returned (.bool (Lib.hasPrefix s p)) ∧ w = w' := by
  refine (Tryz.strings_HasPrefix (bs s) (bs p) w).mono ?_
  rw [bs_data, bs_data]
  rintro e w' ⟨he, hw⟩
  exact ⟨he, hw.symm⟩

/-- digits read to the end: the number, and the error's kind -/
def pu : List UInt8 → Nat → Nat × Nat
  | [], n => (n, 0)
  | c :: r, n => if hexB c then (if 1152921504606846976 ≤ n then (18446744073709551615, 1) else pu r (16 * n + hexD c)) else (0, 2)
/-- as the library's error -/
def puV (p : Nat × Nat) : Value := if p.2 = 0 then .tuple #[.int .u64 p.1, .nilIface] else .tuple #[.int .u64 p.1, .iface 236 (.int .i64 p.2)]
theorem hexD_lt (c : UInt8) : hexD c < 16 := by have := hexI_lt (c.toNat : Int); unfold hexD; omega
/-- a byte, and the byte with 32: what the walk asks -/
def hexQ (c L : Int) : Prop :=
  ((48 ≤ c ∧ c ≤ 57) ∧ hexI c = c - 48) ∨ (57 < c ∧ 97 ≤ L ∧ L ≤ 102 ∧ hexI c = L - 87) ∨ (57 < c ∧ 103 ≤ L ∧ L ≤ 122 ∧ hexI c = -1) ∨
  (c < 48 ∧ L < 97 ∧ hexI c = -1) ∨ (57 < c ∧ L < 97 ∧ hexI c = -1) ∨ (57 < c ∧ 122 < L ∧ hexI c = -1)
instance (c L : Int) : Decidable (hexQ c L) := by unfold hexQ; infer_instance
theorem hexQ_all : (List.range 256).all (fun n => decide (hexQ n (Go.bits .or .u8 n 32) ∧ ((n : Int) = 95 → Go.bits .or .u8 n 32 = 127))) = true := by kernel_rfl
theorem hex_cases (c : UInt8) : hexQ (c.toNat : Int) (Go.bits .or .u8 (c.toNat : Int) 32) ∧ ((c.toNat : Int) = 95 → Go.bits .or .u8 (c.toNat : Int) 32 = 127) := by
  have h := List.all_eq_true.1 hexQ_all c.toNat (List.mem_range.2 c.toNat_lt)
  exact of_decide_eq_true h
end Go.Proofs.YtgkjjmcjlobbpaaGreatDoor

/- strconv.ParseUint at base 16. -/
namespace Go.Proofs.YtgkjjmcjlobbpaaGreatDoor
open Go.RowKit

theorem pu_step {c : UInt8} (r : List UInt8) (n : Nat) : (hexI (c.toNat : Int) = -1 → pu (c :: r) n = (0, 2)) ∧
    (0 ≤ hexI (c.toNat : Int) → 1152921504606846976 ≤ n → pu (c :: r) n = (18446744073709551615, 1)) ∧
    (0 ≤ hexI (c.toNat : Int) → ¬ 1152921504606846976 ≤ n → pu (c :: r) n = pu r (16 * n + hexD c)) := by
  have e : pu (c :: r) n = if hexB c then (if 1152921504606846976 ≤ n then (18446744073709551615, 1) else pu r (16 * n + hexD c)) else (0, 2) := rfl
  refine ⟨fun h => ?_, fun h h1 => ?_, fun h h1 => ?_⟩
  · have hb : hexB c = false := decide_eq_false (by omega)
    rw [e, hb]; rfl
  · have hb : hexB c = true := decide_eq_true h
    rw [e, hb, if_pos rfl, if_pos h1]
  · have hb : hexB c = true := decide_eq_true h
    rw [e, hb, if_pos rfl, if_neg h1]

set_option maxHeartbeats 32000000 in
set_option maxRecDepth 100000 in
theorem puI_any (t : ByteArray) (w : World) (hne : t.size ≠ 0) (hmax : t.size ≤ 1048576) :
    Calls Tryz.prog 201 #[.string t, .int .i64 16, .int .i64 64] w fun e w' => e = .returned (puV (pu t.data.toList 0)) ∧ Below w.heap.size w w' := by
  have hemp : t.toList.isEmpty = false := by
    rw [← decide_eq_emptyBytes]
    exact decide_eq_false (fun h => hne (by rw [h]; rfl))
  have hcv := Lib.run_convert_string_bytes (P := Tryz.prog) w 9 50 5 t Tryz.underlying9 Tryz.underlying50 Tryz.underlying5
  have hB : ∀ j, j < t.size → (Lib.bytesWorld w 5 t).cell? ⟨w.heap.size, j, none⟩ = some (.int .u8 (t.data.toList.getD j 0).toNat) := fun j hj => Lib.bytesWorld_cell w 5 t j hj
  have hbel : Below w.heap.size w (Lib.bytesWorld w 5 t) := Lib.bytesWorld_below _ _ _
  obtain ⟨W1, hW1⟩ : ∃ W1, W1 = Lib.bytesWorld w 5 t := ⟨_, rfl⟩
  rw [← hW1] at hcv hB hbel
  clear hW1
  obtain ⟨l, hL⟩ : ∃ l, l = t.data.toList := ⟨_, rfl⟩
  have hLn : l.length = t.size := by rw [hL, Lib.size_eq]
  rw [← hL] at hB ⊢
  clear hL
  have HBEL := Lib.hid hbel; clear hbel
  have hmv : IntKind.u64.wrap (IntKind.u64.wrap 18446744073709551616 - 1) = 18446744073709551615 := by
    rw [IntKind.wrap_u64, IntKind.wrap_u64]
    decide
  go_enter Tryz.func201, Tryz.ntmps201
  go_wp2
  go_loop [12, 13, 101] (fun vu vn vi => ∃ (k acc : Nat) (a : Int), vu = .bool false ∧ vn = .int .u64 a ∧ vi = .int .i64 k ∧ k ≤ t.size ∧ Hid (a = (acc : Int) ∧ acc < 18446744073709551616 ∧ pu l 0 = pu (l.drop k) acc))
    (fun _ _ vi => t.size - (intOf vi).toNat)
  case atStart => exact ⟨0, 0, 0, rfl, rfl, rfl, by omega, rfl, by omega, rfl⟩
  case round =>
    obtain ⟨k, acc, a, rfl, rfl, rfl, hk, hh⟩ := hrel
    obtain ⟨ha, hacc, hdec⟩ := hh.out
    clear hh
    have a0 : 0 ≤ a := by omega
    have a1 : a < 18446744073709551616 := by omega
    by_cases hkn : k < t.size
    · have hc := hB k hkn
      have hdrop : l.drop k = l[k]'(by omega) :: l.drop (k + 1) := List.drop_eq_getElem_cons (by omega)
      have hget : l.getD k 0 = l[k]'(by omega) := by simp [List.getD, List.getElem?_eq_getElem (show k < l.length by omega)]
      rw [hdrop] at hdec
      rw [hget] at hc
      generalize l[k]'(by omega) = c at hc hdec
      have hc256 : c.toNat < 256 := c.toNat_lt
      obtain ⟨hq, h95⟩ := hex_cases c
      obtain ⟨s1, s2, s3⟩ := pu_step (c := c) (l.drop (k + 1)) acc
      have hlow := fun w => Tryz.internal_strconv_lower (c.toNat : Int) w
      clear hB hdrop hget
      have fin : ∀ (n m : Int) (q : Nat), pu (c :: l.drop (k + 1)) acc = (n.toNat, q) → 0 ≤ n → (q = 1 ∧ m = 1 ∨ q = 2 ∧ m = 2) → Ending.returned (.tuple #[.int .u64 n, .iface 236 (.int .i64 m)]) = Ending.returned (puV (pu l 0)) := by
        intro n m q hp hn hq2
        rw [hdec, hp]
        unfold puV
        rcases hq2 with ⟨rfl, rfl⟩ | ⟨rfl, rfl⟩
        all_goals
          rw [if_neg (by simp)]
          simp only [Int.toNat_of_nonneg hn]
          rfl
      have HFIN := Lib.hid fin; clear fin
      have hD : 0 ≤ hexI (c.toNat : Int) → (hexD c : Int) = hexI (c.toNat : Int) := fun h => by unfold hexD; omega
      have HDEC := Lib.hid hdec; clear hdec
      have hL0 := Go.bits_lo_u8 .or (c.toNat : Int) 32
      have hL1 := Go.bits_hi_u8 .or (c.toNat : Int) 32
      generalize Go.bits .or .u8 (c.toNat : Int) 32 = L at hq h95 hlow hL0 hL1
      generalize hci : (c.toNat : Int) = ci at hq h95 hlow hc s1 s2 s3 hD
      have hci0 : 0 ≤ ci := by omega
      have hci1 : ci < 256 := by omega
      clear hc256
      have HLOW := Lib.hid hlow; clear hlow
      have ne95 : hexI ci ≠ -1 → (ci == 95) = false := fun h => by
        rw [beq_eq_false_iff_ne]
        intro e
        have := h95 e
        unfold hexQ at hq
        omega
      unfold hexQ at hq
      rcases hq with ⟨⟨h1, h2⟩, h3⟩ | ⟨h1, h2, h3, h4⟩ | ⟨h1, h2, h3, h4⟩ | ⟨h1, h2, h3⟩ | ⟨h1, h2, h3⟩ | ⟨h1, h2, h3⟩
      · have h95' := ne95 (by omega)
        have hd := hD (by omega)
        by_cases hcut : 1152921504606846976 ≤ acc
        · have HR := Lib.hid (HFIN.out 18446744073709551615 1 1 (s2 (by omega) hcut) (by decide) (.inl ⟨rfl, rfl⟩))
          have icut : 1152921504606846976 ≤ a := by omega
          clear hcut hacc ha s1 s2 s3 hD hd ne95 h95 h3
          go_wp2
          go_ret2
          exact ⟨HR.out, HBEL.out⟩
        · have HN : Hid (a * 16 + (ci - 48) = ((16 * acc + hexD c : Nat) : Int) ∧ 16 * acc + hexD c < 18446744073709551616 ∧ pu l 0 = pu (l.drop (k + 1)) (16 * acc + hexD c)) := Lib.hid ⟨by push_cast; omega, by have := hexD_lt c; omega, HDEC.out.trans (s3 (by omega) hcut)⟩
          have icut : a < 1152921504606846976 := by omega
          clear hcut hacc ha s1 s2 s3 hD hd ne95 h95 h3
          go_wp2
          refine ⟨⟨k + 1, 16 * acc + hexD c, a * 16 + (ci - 48), rfl, (by first | rfl | (congr 1; omega)), (by first | rfl | (congr 1; omega)), by omega, HN⟩, by simp [intOf]; omega⟩
      · have h95' := ne95 (by omega)
        have hd := hD (by omega)
        by_cases hcut : 1152921504606846976 ≤ acc
        · have HR := Lib.hid (HFIN.out 18446744073709551615 1 1 (s2 (by omega) hcut) (by decide) (.inl ⟨rfl, rfl⟩))
          have icut : 1152921504606846976 ≤ a := by omega
          clear hcut hacc ha s1 s2 s3 hD hd ne95 h95 h4
          go_wp2_with (go_at_call 206; refine (HLOW.out _).mono ?_; rintro e w' ⟨rfl, rfl⟩)
          go_ret2
          exact ⟨HR.out, HBEL.out⟩
        · have HN : Hid (a * 16 + (L - 97 + 10) = ((16 * acc + hexD c : Nat) : Int) ∧ 16 * acc + hexD c < 18446744073709551616 ∧ pu l 0 = pu (l.drop (k + 1)) (16 * acc + hexD c)) := Lib.hid ⟨by push_cast; omega, by have := hexD_lt c; omega, HDEC.out.trans (s3 (by omega) hcut)⟩
          have icut : a < 1152921504606846976 := by omega
          clear hcut hacc ha s1 s2 s3 hD hd ne95 h95 h4
          go_wp2_with (go_at_call 206; refine (HLOW.out _).mono ?_; rintro e w' ⟨rfl, rfl⟩)
          refine ⟨⟨k + 1, 16 * acc + hexD c, a * 16 + (L - 97 + 10), rfl, (by first | rfl | (congr 1; omega)), (by first | rfl | (congr 1; omega)), by omega, HN⟩, by simp [intOf]; omega⟩
      · have HR := Lib.hid (HFIN.out 0 2 2 (s1 h4) (by decide) (.inr ⟨rfl, rfl⟩))
        have h5 : (ci == 95) = false := by rw [beq_eq_false_iff_ne]; intro e; have := h95 e; omega
        have h6 : 97 ≤ L := by omega
        clear hacc ha s1 s2 s3 hD ne95 h95 h4
        go_wp2_with (go_at_call 206; refine (HLOW.out _).mono ?_; rintro e w' ⟨rfl, rfl⟩)
        all_goals go_ret2
        all_goals exact ⟨HR.out, HBEL.out⟩
      · have HR := Lib.hid (HFIN.out 0 2 2 (s1 h3) (by decide) (.inr ⟨rfl, rfl⟩))
        clear hacc ha s1 s2 s3 hD ne95 h95 h3
        go_wp2_with (go_at_call 206; refine (HLOW.out _).mono ?_; rintro e w' ⟨rfl, rfl⟩)
        all_goals go_ret2
        all_goals exact ⟨HR.out, HBEL.out⟩
      · have HR := Lib.hid (HFIN.out 0 2 2 (s1 h3) (by decide) (.inr ⟨rfl, rfl⟩))
        have h5 : (ci == 95) = false := by rw [beq_eq_false_iff_ne]; intro e; have := h95 e; omega
        clear hacc ha s1 s2 s3 hD ne95 h95 h3
        go_wp2_with (go_at_call 206; refine (HLOW.out _).mono ?_; rintro e w' ⟨rfl, rfl⟩)
        all_goals go_ret2
        all_goals exact ⟨HR.out, HBEL.out⟩
      · have HR := Lib.hid (HFIN.out 0 2 2 (s1 h3) (by decide) (.inr ⟨rfl, rfl⟩))
        clear hacc ha s1 s2 s3 hD ne95 h95 h3
        by_cases h9 : ci = 95
        · subst h9
          go_wp2_with (go_at_call 206; refine (HLOW.out _).mono ?_; rintro e w' ⟨rfl, rfl⟩)
          all_goals go_ret2
          all_goals exact ⟨HR.out, HBEL.out⟩
        · have h5 : (ci == 95) = false := by rw [beq_eq_false_iff_ne]; exact h9
          go_wp2_with (go_at_call 206; refine (HLOW.out _).mono ?_; rintro e w' ⟨rfl, rfl⟩)
          all_goals go_ret2
          all_goals exact ⟨HR.out, HBEL.out⟩
    · have hkk : k = t.size := by omega
      subst hkk
      have hF : pu (l.drop t.size) acc = (acc, 0) := by rw [List.drop_eq_nil_of_le (by omega)]; rfl
      rw [hF] at hdec
      subst ha
      have HR : Hid (Value.tuple #[.int .u64 (acc : Int), .nilIface] = puV (pu l 0)) := by show _ = _; rw [hdec]; rfl
      clear hacc hF a0 a1 hdec
      go_wp2
      go_ret2
      exact ⟨congrArg Ending.returned HR.out, HBEL.out⟩
end Go.Proofs.YtgkjjmcjlobbpaaGreatDoor

/- strconv.ParseUint at base 16, with its errors. -/
namespace Go.Proofs.YtgkjjmcjlobbpaaGreatDoor
open Go.RowKit

/-- is a text a number in hexadecimal digits, its value -/
def puR (l : List UInt8) : Nat × Nat := if l = [] then (0, 2) else pu l 0
set_option maxHeartbeats 4000000 in
set_option maxRecDepth 100000 in
theorem puS_any (t : ByteArray) (w : World) (hmax : t.size ≤ 1048576) (he : EnvC w) :
    Calls Tryz.prog 186 #[.string t, .int .i64 16, .int .i64 64] w fun e w' => ∃ v, e = .returned (.tuple #[.int .u64 (puR t.data.toList).1, v]) ∧ ((puR t.data.toList).2 = 0 → v = .nilIface) ∧ ((puR t.data.toList).2 ≠ 0 → ∃ N, v = .iface 239 (.pointer (some ⟨N, 0, none⟩))) ∧ Below w.heap.size w w' := by
  obtain ⟨-, ⟨e1, e2⟩, -⟩ := he
  obtain ⟨tp1, p1, v1⟩ := sen_cell gES e1
  obtain ⟨tp2, p2, v2⟩ := sen_cell gER e2
  have l1 := Lib.lt_of_cell v1
  have l2 := Lib.lt_of_cell v2
  clear e1 e2
  have hI : Calls Tryz.prog 201 #[.string t, .int .i64 16, .int .i64 64] w fun e w' => e = .returned (puV (puR t.data.toList)) ∧ Below w.heap.size w w' := by
    by_cases h0 : t.size = 0
    · have ht : t = ⟨#[]⟩ := ByteArray.ext (Array.eq_empty_of_size_eq_zero h0)
      subst ht
      go_enter Tryz.func201, Tryz.ntmps201
      go_wp2
      go_ret2
      exact ⟨rfl, Below.refl _ _⟩
    · refine (puI_any t w h0 hmax).mono ?_
      rintro e w' ⟨rfl, hb⟩
      refine ⟨?_, hb⟩
      unfold puR
      rw [if_neg]
      intro h
      exact h0 (by rw [size_len, h]; rfl)
  have hk : (puR t.data.toList).2 = 0 ∨ (puR t.data.toList).2 = 1 ∨ (puR t.data.toList).2 = 2 := by
    have key : ∀ (l : List UInt8) (n : Nat), (pu l n).2 = 0 ∨ (pu l n).2 = 1 ∨ (pu l n).2 = 2 := by
      intro l
      induction l with
      | nil => intro n; exact .inl rfl
      | cons c r ih =>
        intro n
        unfold pu
        split
        · split
          · exact .inr (.inl rfl)
          · exact ih _
        · exact .inr (.inr rfl)
    unfold puR
    split
    · exact .inr (.inr rfl)
    · exact key _ _
  generalize hP : puR t.data.toList = P at hI hk ⊢
  obtain ⟨n, q⟩ := P
  clear hP
  simp only at hk ⊢
  have HI := Lib.hid hI; clear hI
  rcases hk with rfl | rfl | rfl
  · go_enter Tryz.func186, Tryz.ntmps186
    go_wp2_with (go_at_call 201; refine HI.out.mono ?_; rintro e w1 ⟨rfl, hb1⟩; simp only [puV, if_true])
    go_wp2
    go_ret2
    exact ⟨_, rfl, rfl, hb1⟩
  · go_enter Tryz.func186, Tryz.ntmps186
    go_wp2_with (go_at_call 201; refine HI.out.mono ?_; rintro e w1 ⟨rfl, hb1⟩; simp only [puV, Nat.one_ne_zero, if_false])
    have hv := (hb1.cell (show (⟨5, 0, none⟩ : Addr).block < w.heap.size from l2)).trans v2
    go_wp2_with (go_at_call 178; refine (Tryz.strconv_toError_range _ t 16 64 _ _ (by omega) hv (.inr ⟨_, _, rfl⟩)).mono ?_)
    rintro e w2 ⟨N, rfl, -, -, hb2⟩
    go_wp2
    go_ret2
    exact ⟨_, rfl, fun h => absurd h (by decide), fun _ => ⟨N, rfl⟩, hb1.trans (hb2.mono hb1.size)⟩
  · go_enter Tryz.func186, Tryz.ntmps186
    go_wp2_with (go_at_call 201; refine HI.out.mono ?_; rintro e w1 ⟨rfl, hb1⟩; simp only [puV])
    have hv := (hb1.cell (show (⟨4, 0, none⟩ : Addr).block < w.heap.size from l1)).trans v1
    go_wp2_with (go_at_call 178; refine (Tryz.strconv_toError_syntax _ t 16 64 _ _ (by omega) hv (.inr ⟨_, _, rfl⟩)).mono ?_)
    rintro e w2 ⟨N, rfl, -, -, hb2⟩
    go_wp2
    go_ret2
    exact ⟨_, rfl, fun h => absurd h (by decide), fun _ => ⟨N, rfl⟩, hb1.trans (hb2.mono hb1.size)⟩
end Go.Proofs.YtgkjjmcjlobbpaaGreatDoor

/- Where a mark begins; what stands behind a size; a size line's size. -/
namespace Go.Proofs.YtgkjjmcjlobbpaaGreatDoor
open Go.RowKit

theorem text_of (s : List UInt8) : ∃ S : ByteArray, S = bs s ∧ S.data.toList = s ∧ S.size = s.length := ⟨_, rfl, bs_data _, bs_size _⟩
theorem ext_from {S : ByteArray} {s : List UInt8} (h : S.data.toList = s) (k : Nat) : S.extract k S.size = bs (s.drop k) := bs_of (by rw [Lib.extract_to_end, h])
theorem ext_upto {S : ByteArray} {s : List UInt8} (h : S.data.toList = s) (k : Nat) : S.extract 0 k = bs (s.take k) := bs_of (by rw [Lib.extract_from_zero, h])
theorem ext_mid {S : ByteArray} {s : List UInt8} (h : S.data.toList = s) (j k : Nat) : S.extract j k = bs ((s.drop j).take (k - j)) := bs_of (by rw [Lib.extract_data, h])
theorem ret_two {a b c d : Value} (h1 : a = c) (h2 : b = d) : Ending.returned (.tuple #[a, b]) = .returned (.tuple #[c, d]) := by rw [h1, h2]
theorem i64_eq {a b : Int} (h : a = b) : Value.int .i64 a = .int .i64 b := by rw [h]

set_option maxHeartbeats 1000000 in
set_option maxRecDepth 100000 in
theorem find_any (s mark : List UInt8) (most : Nat) (w : World) (hm : MaxL w) (hmost : most ≤ 10000) (hs : s.length ≤ 1048576) :
    Calls Tryz.prog 168 #[.string (bs s), .string (bs mark), .int .i64 most] w fun e w' => e = .returned (.tuple #[.int .i64 (findL s mark most).1, .int .i64 (findL s mark most).2]) ∧ w = w' := by
  have hi := index_any (s.take most) mark w hm (by rw [List.length_take]; omega)
  have hF : findL s mark most = if 0 ≤ Lib.index (s.take most) mark then ((Lib.index (s.take most) mark).toNat, 0) else if most ≤ s.length then (0, 3) else (0, 6) := rfl
  generalize findL s mark most = F at hF ⊢
  obtain ⟨f1, f2⟩ := F
  obtain ⟨S, hSe, hSl, hSz⟩ := text_of s
  rw [← hSe]
  obtain ⟨n, hn, hn1, hn2⟩ : ∃ n : Nat, min (S.size : Int) (most : Int) = (n : Int) ∧ n ≤ S.size ∧ s.take n = s.take most := by
    by_cases h : S.size ≤ most
    · refine ⟨S.size, by omega, Nat.le_refl _, ?_⟩
      rw [hSz, List.take_length, List.take_of_length_le (by omega)]
    · exact ⟨most, by omega, by omega, rfl⟩
  have hex : S.extract 0 n = bs (s.take most) := by rw [ext_upto hSl, hn2]
  rw [← hex] at hi
  have HI := Lib.hid hi; clear hi hex hn2
  rw [← hSz] at hs hF
  clear hSe hSl hSz
  have hge := Lib.index_ge (s.take most) mark
  generalize Lib.index (s.take most) mark = i at *
  have HF := Lib.hid hF; clear hF
  by_cases h0 : 0 ≤ i
  · have HR : Hid (i = f1 ∧ f2 = 0) := by
      have h := HF.out
      rw [if_pos h0] at h
      obtain ⟨rfl, rfl⟩ := Prod.mk.inj h
      exact ⟨by omega, rfl⟩
    go_enter Tryz.func168, Tryz.ntmps168
    go_wp2_with (go_at_call 97; refine HI.out.mono ?_; rintro e w1 ⟨rfl, rfl⟩)
    go_ret2
    exact ⟨ret_two (i64_eq HR.out.1) (i64_eq HR.out.2.symm), rfl⟩
  · have h1 : ¬ 0 ≤ i := h0
    by_cases hl : most ≤ S.size
    · have HR : Hid (f1 = 0 ∧ f2 = 3) := by
        have h := HF.out
        rw [if_neg h0, if_pos hl] at h
        obtain ⟨rfl, rfl⟩ := Prod.mk.inj h
        exact ⟨rfl, rfl⟩
      go_enter Tryz.func168, Tryz.ntmps168
      go_wp2_with (go_at_call 97; refine HI.out.mono ?_; rintro e w1 ⟨rfl, rfl⟩)
      go_ret2
      exact ⟨ret_two (i64_eq (by rw [HR.out.1]; rfl)) (i64_eq HR.out.2.symm), rfl⟩
    · have HR : Hid (f1 = 0 ∧ f2 = 6) := by
        have h := HF.out
        rw [if_neg h0, if_neg hl] at h
        obtain ⟨rfl, rfl⟩ := Prod.mk.inj h
        exact ⟨rfl, rfl⟩
      go_enter Tryz.func168, Tryz.ntmps168
      go_wp2_with (go_at_call 97; refine HI.out.mono ?_; rintro e w1 ⟨rfl, rfl⟩)
      go_ret2
      exact ⟨ret_two (i64_eq (by rw [HR.out.1]; rfl)) (i64_eq HR.out.2.symm), rfl⟩

def ignL (l : List UInt8) : Bool := l.all ignB
set_option maxHeartbeats 1000000 in
set_option maxRecDepth 100000 in
theorem ignorable_any (s : ByteArray) (w : World) (hs : s.size ≤ 1048576) :
    Calls Tryz.prog 187 #[.string s] w fun e w' => e = .returned (.bool (ignL s.data.toList)) ∧ w = w' := by
  go_enter Tryz.func187, Tryz.ntmps187
  go_wp2_with fail
  go_loop [7] (fun i => ∃ k : Nat, k ≤ s.size ∧ i = .int .i64 k ∧ Hid ((s.data.toList.take k).all ignB = true)) (fun i => s.size - (intOf i).toNat)
  case atStart => exact ⟨0, Nat.zero_le _, rfl, rfl⟩
  case round =>
    obtain ⟨k, hk, rfl, HT⟩ := hrel
    by_cases hlt : k < s.size
    · have hc1 : (s[k].toNat : Int) < 256 := by have := s[k].toNat_lt; omega
      cases hb : ignB s[k]
      · have HA : Hid (ignL s.data.toList = false) := all_not s ignB k hlt hb
        have h1 : ((s[k].toNat : Int) != 9) = true := by unfold ignB ignI at hb; simp at hb ⊢; omega
        have h2 : (s[k].toNat : Int) < 32 ∨ (¬ (s[k].toNat : Int) < 32 ∧ 126 < (s[k].toNat : Int)) := by unfold ignB ignI at hb; simp at hb; omega
        clear hb
        rcases h2 with h2 | ⟨h2, h3⟩
        all_goals
          go_wp2_with fail
          go_ret
          exact ⟨ret_bool HA.out.symm, rfl⟩
      · have HA := Lib.hid (all_snoc s ignB k hlt HT.out hb)
        have h2 : (s[k].toNat : Int) = 9 ∨ (((s[k].toNat : Int) != 9) = true ∧ ¬ (s[k].toNat : Int) < 32 ∧ ¬ 126 < (s[k].toNat : Int)) := by unfold ignB ignI at hb; simp at hb ⊢; omega
        clear hb
        rcases h2 with h2 | ⟨h2, h3, h4⟩
        · have h3 : ((s[k].toNat : Int) != 9) = false := by rw [h2]; rfl
          clear h2
          go_wp2_with fail
          go_round
          case rel => exact ⟨k + 1, by omega, by go_num, HA⟩
          case measure => simp [intOf]; omega
        · go_wp2_with fail
          go_round
          case rel => exact ⟨k + 1, by omega, by go_num, HA⟩
          case measure => simp [intOf]; omega
    · have HA := Lib.hid (take_all hlt)
      go_wp2_with fail
      go_ret
      exact ⟨ret_bool (by have h := HT.out; rw [HA.out] at h; unfold ignL; exact h.symm), rfl⟩

theorem pu_all : ∀ (l : List UInt8) (n : Nat), l.all hexB = true → (n + 1) * 16 ^ l.length ≤ 18446744073709551616 → pu l n = (l.foldl (fun n c => 16 * n + hexD c) n, 0) := by
  intro l
  induction l with
  | nil => intro n _ _; rfl
  | cons c r ih =>
    intro n h hn
    rw [List.all_cons, Bool.and_eq_true] at h
    rw [List.length_cons, Nat.pow_succ, Nat.mul_comm (16 ^ r.length) 16, ← Nat.mul_assoc] at hn
    have h1 : 1 ≤ 16 ^ r.length := Nat.pow_pos (by decide)
    have h2 : (n + 1) * 16 ≤ (n + 1) * 16 * 16 ^ r.length := Nat.le_mul_of_pos_right _ h1
    have h3 := hexD_lt c
    have h4 : (16 * n + hexD c + 1) * 16 ^ r.length ≤ (n + 1) * 16 * 16 ^ r.length := Nat.mul_le_mul_right _ (by omega)
    unfold pu
    rw [h.1, if_pos rfl, if_neg (by omega), ih _ h.2 (by omega), List.foldl_cons]
theorem pu_not : ∀ (l : List UInt8) (n : Nat), l.all hexB = false → (pu l n).2 ≠ 0 := by
  intro l
  induction l with
  | nil => intro n h; exact absurd h (by decide)
  | cons c r ih =>
    intro n h
    rw [List.all_cons] at h
    unfold pu
    cases hc : hexB c
    · simp
    · rw [hc, Bool.true_and] at h
      rw [if_pos rfl]
      split
      · simp
      · exact ih _ h
theorem size_pu (s : List UInt8) : sizeN s = if (puR (Lib.cut s [59]).1).2 = 0 ∧ (Lib.cut s [59]).1.length ≤ 8 ∧ (Lib.cut s [59]).2.1.all ignB = true then some (puR (Lib.cut s [59]).1).1 else none := by
  unfold sizeN
  generalize Lib.cut s [59] = C
  obtain ⟨d, e, b⟩ := C
  simp only
  unfold puR
  by_cases h0 : d = []
  · rw [if_neg (fun h => h.1 h0), if_neg]
    rw [if_pos h0]
    rintro ⟨h, _⟩
    exact absurd h (by decide)
  · rw [if_neg h0]
    by_cases h8 : d.length ≤ 8
    · cases ha : d.all hexB
      · rw [if_neg (fun h => by simp at h), if_neg (fun h => pu_not d 0 ha h.1)]
      · have hp := pu_all d 0 ha (by
          have : (16 : Nat) ^ d.length ≤ 16 ^ 8 := Nat.pow_le_pow_right (by decide) h8
          have h4 : (16 : Nat) ^ 8 = 4294967296 := by decide
          omega)
        rw [hp]
        simp only [true_and]
        by_cases hi : e.all ignB = true
        · rw [if_pos ⟨h0, h8, hi⟩, if_pos ⟨h8, hi⟩]; rfl
        · rw [if_neg (fun h => hi h.2.2), if_neg (fun h => hi h.2)]
    · rw [if_neg (fun h => h8 h.2.1), if_neg (fun h => h8 h.2.1)]

def sizeV (o : Option Nat) : Value := match o with
  | none => .tuple #[.int .i64 0, .bool false]
  | some n => .tuple #[.int .i64 n, .bool true]
set_option maxHeartbeats 2000000 in
set_option maxRecDepth 100000 in
theorem sizeOf_any (s : List UInt8) (w : World) (he : EnvC w) (hs : s.length ≤ 1048576) :
    Calls Tryz.prog 169 #[.string (bs s)] w fun e w' => e = .returned (sizeV (sizeN s)) ∧ Below w.heap.size w w' := by
  have hct := cut_any s [59] w he.1 (by omega)
  rw [show bs [59] = ⟨#[59]⟩ from rfl] at hct
  have hsz := size_pu s
  have hlt : ∀ n, sizeN s = some n → n < 4294967296 := fun n h => sizeN_lt h
  generalize sizeN s = N at hsz hlt ⊢
  obtain ⟨hl1, hl2⟩ := cut_le s [59]
  generalize Lib.cut s [59] = C at *
  obtain ⟨d, x, y⟩ := C
  simp only at hct hl1 hl2 hsz
  have HCT := Lib.hid hct; clear hct
  obtain ⟨D, hDe, hDl, hDz⟩ := text_of d
  obtain ⟨X, hXe, hXl, hXz⟩ := text_of x
  rw [← hDe, ← hXe] at HCT
  have hpu := fun (w' : World) (hb : Below w.heap.size w w') => puS_any D w' (by omega) (he.bel hb)
  have hig := fun (w' : World) => ignorable_any X w' (by omega)
  rw [hDl] at hpu
  rw [hXl] at hig
  rw [show x.all ignB = ignL x from rfl] at hsz
  rw [← hDz] at hsz
  generalize puR d = P at hpu hsz
  generalize ignL x = g at hig hsz
  obtain ⟨p, q⟩ := P
  simp only at hpu hsz
  have HPU := Lib.hid hpu; have HIG := Lib.hid hig; have HS := Lib.hid hsz; have HLT := Lib.hid hlt
  have hD2 : D.size ≤ 1048576 := by omega
  clear hpu hig hsz hlt hDe hDl hDz hXe hXl hXz hl1 hl2 hs
  by_cases hq : q = 0
  · have HPU0 : Hid (∀ (w' : World), Below w.heap.size w w' → Calls Tryz.prog 186 #[.string D, .int .i64 16, .int .i64 64] w' fun e w2 => e = .returned (.tuple #[.int .u64 p, .nilIface]) ∧ Below w'.heap.size w' w2) := fun w' hb => (HPU.out w' hb).mono (by
      rintro e w2 ⟨v, rfl, h1, h2, h3⟩
      rw [h1 hq]; exact ⟨rfl, h3⟩)
    clear HPU
    by_cases h8 : D.size ≤ 8
    · have h8' : ¬ 8 < D.size := by omega
      cases g
      · have HN : Hid (N = none) := by have h := HS.out; rw [if_neg (fun h => by simp at h)] at h; exact h
        clear HS
        go_enter Tryz.func169, Tryz.ntmps169
        go_wp2_with fail
        refine HCT.out.mono ?_; rintro e w1 ⟨rfl, hb1⟩
        have HB1 := Lib.hid hb1; clear hb1
        go_wp2_with fail
        refine (HPU0.out _ HB1.out).mono ?_; rintro e w2 ⟨rfl, hb2⟩
        have HB2 := Lib.hid (HB1.out.trans (hb2.mono HB1.out.size)); clear hb2
        go_wp2_with (go_at_call 187; refine (HIG.out _).mono ?_; rintro e w3 ⟨rfl, rfl⟩)
        go_ret2
        exact ⟨by rw [HN.out]; rfl, HB2.out⟩
      · have HN : Hid (N = some p) := by have h := HS.out; rw [if_pos ⟨hq, h8, rfl⟩] at h; exact h
        obtain ⟨a, ha, ha0, ha1⟩ : ∃ a : Int, (p : Int) = a ∧ 0 ≤ a ∧ a < 4294967296 := ⟨p, rfl, by omega, by have := HLT.out p HN.out; omega⟩
        have HN2 : Hid (Value.tuple #[.int .i64 a, .bool true] = sizeV N) := by show _ = _; rw [HN.out, ← ha]; rfl
        rw [ha] at HPU0
        clear HS HN ha HLT
        go_enter Tryz.func169, Tryz.ntmps169
        go_wp2_with fail
        refine HCT.out.mono ?_; rintro e w1 ⟨rfl, hb1⟩
        have HB1 := Lib.hid hb1; clear hb1
        go_wp2_with fail
        refine (HPU0.out _ HB1.out).mono ?_; rintro e w2 ⟨rfl, hb2⟩
        have HB2 := Lib.hid (HB1.out.trans (hb2.mono HB1.out.size)); clear hb2
        go_wp2_with (go_at_call 187; refine (HIG.out _).mono ?_; rintro e w3 ⟨rfl, rfl⟩)
        go_ret2
        exact ⟨congrArg Ending.returned HN2.out, HB2.out⟩
    · have h8' : 8 < D.size := by omega
      have HN : Hid (N = none) := by have h := HS.out; rw [if_neg (fun h => h8 h.2.1)] at h; exact h
      clear HS h8
      go_enter Tryz.func169, Tryz.ntmps169
      go_wp2_with fail
      refine HCT.out.mono ?_; rintro e w1 ⟨rfl, hb1⟩
      have HB1 := Lib.hid hb1; clear hb1
      go_wp2_with fail
      refine (HPU0.out _ HB1.out).mono ?_; rintro e w2 ⟨rfl, hb2⟩
      have HB2 := Lib.hid (HB1.out.trans (hb2.mono HB1.out.size)); clear hb2
      go_wp2_with fail
      go_ret2
      exact ⟨by rw [HN.out]; rfl, HB2.out⟩
  · have HN : Hid (N = none) := by have h := HS.out; rw [if_neg (fun h => hq h.1)] at h; exact h
    clear HS
    go_enter Tryz.func169, Tryz.ntmps169
    go_wp2_with fail
    refine HCT.out.mono ?_; rintro e w1 ⟨rfl, hb1⟩
    have HB1 := Lib.hid hb1; clear hb1
    go_wp2_with fail
    refine (HPU.out _ HB1.out).mono ?_; rintro e w2 ⟨v, rfl, -, hv, hb2⟩
    obtain ⟨M, rfl⟩ := hv hq
    have HB2 := Lib.hid (HB1.out.trans (hb2.mono HB1.out.size)); clear hb2
    go_wp2_with fail
    go_ret2
    exact ⟨by rw [HN.out]; rfl, HB2.out⟩
end Go.Proofs.YtgkjjmcjlobbpaaGreatDoor

/- The size line at a place, the bytes of a chunk, the last lines: the decoder's steps. -/
namespace Go.Proofs.YtgkjjmcjlobbpaaGreatDoor
open Go.RowKit

theorem ret_three {a b c d e f : Value} (h1 : a = d) (h2 : b = e) (h3 : c = f) : Ending.returned (.tuple #[a, b, c]) = .returned (.tuple #[d, e, f]) := by rw [h1, h2, h3]
/-- the place behind, or 0 -/
def nextI (i u : Nat) (e : Int) : Int := if e = 0 then (i : Int) + u else 0
theorem next_bad {i u : Nat} {e : Int} (h : e ≠ 0) : 0 = nextI i u e := by unfold nextI; rw [if_neg h]
theorem find_err {s mark : List UInt8} {most : Nat} (h : (findL s mark most).2 ≠ 0) : (findL s mark most).2 = 3 ∨ (findL s mark most).2 = 6 := by
  rcases find_cases s mark most with h1 | ⟨h1, _⟩ | ⟨h1, _⟩
  · exact absurd h1 h
  · exact .inl (by rw [h1])
  · exact .inr (by rw [h1])

set_option maxHeartbeats 2000000 in
set_option maxRecDepth 100000 in
theorem takeSize_any (s : List UInt8) (i room : Nat) (w : World) (he : EnvC w) (hs : s.length ≤ 1048576) (ha : i ≤ s.length) :
    Calls Tryz.prog 143 #[.string (bs s), .int .i64 i, .int .i64 room] w fun e w' =>
      e = .returned (.tuple #[.int .i64 (headL (s.drop i) room).1, .int .i64 (nextI i (headL (s.drop i) room).2.1 (headL (s.drop i) room).2.2), .int .i64 (headL (s.drop i) room).2.2]) ∧ Below w.heap.size w w' := by
  have hf := find_any (s.drop i) [13, 10] 2050 w he.1 (by decide) (by rw [List.length_drop]; omega)
  rw [show bs [13, 10] = ⟨#[13, 10]⟩ from rfl] at hf
  have hH : headL (s.drop i) room = if (findL (s.drop i) [13, 10] 2050).2 = 0 then
    (match sizeN ((s.drop i).take (findL (s.drop i) [13, 10] 2050).1) with
    | none => (0, 0, 4)
    | some n => if room < n then (0, 0, 3) else (n, (findL (s.drop i) [13, 10] 2050).1 + 2, 0))
    else (0, 0, (findL (s.drop i) [13, 10] 2050).2) := rfl
  have hhit := fun h => find_hit (s := s.drop i) (mark := [13, 10]) (most := 2050) (by simp) h
  have hso := fun (n : Nat) (w' : World) (hb : EnvC w') => sizeOf_any ((s.drop i).take n) w' hb (by rw [List.length_take, List.length_drop]; omega)
  have hlt := fun (n m : Nat) (h : sizeN ((s.drop i).take n) = some m) => sizeN_lt h
  obtain ⟨S, hSe, hSl, hSz⟩ := text_of s
  rw [← hSe]
  have hex1 : S.extract i S.size = bs (s.drop i) := ext_from hSl i
  rw [← hex1] at hf
  have hex2 : ∀ n : Nat, S.extract i (i + n) = bs ((s.drop i).take n) := fun n => by rw [ext_mid hSl, Nat.add_sub_cancel_left]
  have hdl : (s.drop i).length = S.size - i := by rw [List.length_drop, hSz]
  rw [hdl] at hhit
  rw [← hSz] at hs ha
  have HE := Lib.hid he; clear he
  generalize headL (s.drop i) room = H at hH ⊢
  obtain ⟨h1, h2, h3⟩ := H
  have herr := fun h => find_err (s := s.drop i) (mark := [13, 10]) (most := 2050) h
  generalize findL (s.drop i) [13, 10] 2050 = F at *
  obtain ⟨n, e⟩ := F
  simp only at hf hH hhit herr ⊢
  have HF := Lib.hid hf; clear hf
  clear hSe hSl hSz hex1 hdl
  by_cases hz : e = 0
  · subst hz
    obtain ⟨k1, k2, -, -⟩ := hhit rfl
    simp only [List.length_cons, List.length_nil] at k1 k2
    rw [if_pos rfl] at hH
    have hso2 := hso n w HE.out
    rw [← hex2 n] at hso2
    have hlt2 := hlt n
    generalize sizeN ((s.drop i).take n) = N at hso2 hlt2 hH
    have HSO := Lib.hid hso2; clear hso2
    clear hso hex2 hhit herr hlt
    have hin : i + n ≤ S.size := by omega
    cases N with
    | none =>
      obtain ⟨rfl, h23⟩ := Prod.mk.inj hH
      obtain ⟨rfl, rfl⟩ := Prod.mk.inj h23
      clear hH h23 hlt2
      simp only [sizeV] at HSO
      go_enter Tryz.func143, Tryz.ntmps143
      go_wp2_with (go_at_call 168; refine HF.out.mono ?_; rintro e w1 ⟨rfl, rfl⟩)
      refine HSO.out.mono ?_; rintro e w1 ⟨rfl, hb1⟩
      have HB1 := Lib.hid hb1; clear hb1
      go_wp2_with fail
      go_ret3
      exact ⟨rfl, HB1.out⟩
    | some m =>
      have hm := hlt2 m rfl
      simp only at hH
      simp only [sizeV] at HSO
      clear hlt2
      by_cases hrm : room < m
      · rw [if_pos hrm] at hH
        obtain ⟨rfl, h23⟩ := Prod.mk.inj hH
        obtain ⟨rfl, rfl⟩ := Prod.mk.inj h23
        clear hH h23
        go_enter Tryz.func143, Tryz.ntmps143
        go_wp2_with (go_at_call 168; refine HF.out.mono ?_; rintro e w1 ⟨rfl, rfl⟩)
        refine HSO.out.mono ?_; rintro e w1 ⟨rfl, hb1⟩
        have HB1 := Lib.hid hb1; clear hb1
        go_wp2_with fail
        go_ret3
        exact ⟨rfl, HB1.out⟩
      · rw [if_neg hrm] at hH
        obtain ⟨rfl, h23⟩ := Prod.mk.inj hH
        obtain ⟨rfl, rfl⟩ := Prod.mk.inj h23
        clear hH h23
        have hrm2 : h1 ≤ room := by omega
        go_enter Tryz.func143, Tryz.ntmps143
        go_wp2_with (go_at_call 168; refine HF.out.mono ?_; rintro e w1 ⟨rfl, rfl⟩)
        refine HSO.out.mono ?_; rintro e w1 ⟨rfl, hb1⟩
        have HB1 := Lib.hid hb1; clear hb1
        go_wp2_with fail
        go_ret3
        exact ⟨ret_three rfl (i64_eq (by unfold nextI; rw [if_pos rfl]; push_cast; omega)) rfl, HB1.out⟩
  · rw [if_neg hz] at hH
    obtain ⟨rfl, h23⟩ := Prod.mk.inj hH
    obtain ⟨rfl, rfl⟩ := Prod.mk.inj h23
    have hne : (h3 != 0) = true := by simpa using hz
    have HZ := Lib.hid hz
    clear hH h23 hhit hso hlt hex2 hz herr
    go_enter Tryz.func143, Tryz.ntmps143
    go_wp2_with (go_at_call 168; refine HF.out.mono ?_; rintro e w1 ⟨rfl, rfl⟩)
    go_ret3
    exact ⟨ret_three rfl (i64_eq (next_bad HZ.out)) rfl, Below.refl _ _⟩

set_option maxHeartbeats 2000000 in
set_option maxRecDepth 100000 in
theorem takeChunk_any (s : List UInt8) (i n : Nat) (w : World) (hs : s.length ≤ 1048576) (ha : i ≤ s.length) (hn : n ≤ 4294967296) :
    Calls Tryz.prog 144 #[.string (bs s), .int .i64 i, .int .i64 n] w fun e w' =>
      e = .returned (.tuple #[.string (bs (chunkL (s.drop i) n).1), .int .i64 (nextI i (chunkL (s.drop i) n).2.1 (chunkL (s.drop i) n).2.2), .int .i64 (chunkL (s.drop i) n).2.2]) ∧ w = w' := by
  have hp1 := fun w' : World => prefix_any (s.drop (i + n)) [13, 10] w'
  have hp2 := fun w' : World => prefix_any [13, 10] (s.drop (i + n)) w'
  rw [show bs [13, 10] = ⟨#[13, 10]⟩ from rfl] at hp1 hp2
  have hC : chunkL (s.drop i) n = if (s.drop i).length < n then ([], 0, 6) else if endEC (s.drop (i + n)) = 0 then ((s.drop i).take n, n + 2, 0) else ([], 0, endEC (s.drop (i + n))) := by
    unfold chunkL; rw [List.drop_drop]
  have hE : endEC (s.drop (i + n)) = if Lib.hasPrefix (s.drop (i + n)) [13, 10] then 0 else if Lib.hasPrefix [13, 10] (s.drop (i + n)) then 6 else 4 := rfl
  obtain ⟨S, hSe, hSl, hSz⟩ := text_of s
  rw [← hSe]
  have hex1 : S.extract (i + n) S.size = bs (s.drop (i + n)) := ext_from hSl (i + n)
  have hex2 : S.extract i (i + n) = bs ((s.drop i).take n) := by rw [ext_mid hSl, Nat.add_sub_cancel_left]
  rw [← hex1] at hp1 hp2
  rw [List.length_drop, ← hSz] at hC
  rw [← hSz] at hs ha
  generalize chunkL (s.drop i) n = C at hC ⊢
  obtain ⟨c1, c2, c3⟩ := C
  generalize endEC (s.drop (i + n)) = E at hC hE
  generalize Lib.hasPrefix (s.drop (i + n)) [13, 10] = P at *
  generalize Lib.hasPrefix [13, 10] (s.drop (i + n)) = Q at *
  generalize (s.drop i).take n = T at *
  have HP1 := Lib.hid hp1; have HP2 := Lib.hid hp2; have HX := Lib.hid hex2
  clear hp1 hp2 hSe hSl hSz hex1 hex2
  by_cases hlen : S.size - i < n
  · rw [if_pos hlen] at hC
    obtain ⟨rfl, h23⟩ := Prod.mk.inj hC
    obtain ⟨rfl, rfl⟩ := Prod.mk.inj h23
    clear hC h23 hE
    have hl2 : (S.size : Int) - i < n := by omega
    go_enter Tryz.func144, Tryz.ntmps144
    go_wp2_with fail
    go_ret3
    exact ⟨rfl, rfl⟩
  · rw [if_neg hlen] at hC
    have hl2 : ¬ (S.size : Int) - i < n := by omega
    have hin : i + n ≤ S.size := by omega
    clear hlen
    cases P
    · cases Q
      · have hE4 : E = 4 := hE
        rw [hE4, if_neg (by decide)] at hC
        obtain ⟨rfl, h23⟩ := Prod.mk.inj hC
        obtain ⟨rfl, rfl⟩ := Prod.mk.inj h23
        clear hC h23 hE hE4
        go_enter Tryz.func144, Tryz.ntmps144
        go_wp2_with fail
        refine (HP1.out _).mono ?_; rintro e w1 ⟨rfl, rfl⟩
        go_wp2_with fail
        refine (HP2.out _).mono ?_; rintro e w1 ⟨rfl, rfl⟩
        go_wp2_with fail
        go_ret3
        exact ⟨rfl, rfl⟩
      · have hE6 : E = 6 := hE
        rw [hE6, if_neg (by decide)] at hC
        obtain ⟨rfl, h23⟩ := Prod.mk.inj hC
        obtain ⟨rfl, rfl⟩ := Prod.mk.inj h23
        clear hC h23 hE hE6
        go_enter Tryz.func144, Tryz.ntmps144
        go_wp2_with fail
        refine (HP1.out _).mono ?_; rintro e w1 ⟨rfl, rfl⟩
        go_wp2_with fail
        refine (HP2.out _).mono ?_; rintro e w1 ⟨rfl, rfl⟩
        go_wp2_with fail
        go_ret3
        exact ⟨rfl, rfl⟩
    · have hE0 : E = 0 := hE
      rw [hE0, if_pos rfl] at hC
      obtain ⟨rfl, h23⟩ := Prod.mk.inj hC
      obtain ⟨rfl, rfl⟩ := Prod.mk.inj h23
      clear hC h23 hE hE0
      go_enter Tryz.func144, Tryz.ntmps144
      go_wp2_with fail
      refine (HP1.out _).mono ?_; rintro e w1 ⟨rfl, rfl⟩
      go_wp2_with fail
      go_ret3
      exact ⟨ret_three (by rw [← HX.out]; rfl) (i64_eq (by unfold nextI; rw [if_pos rfl]; push_cast; omega)) rfl, rfl⟩

/-- fields, a place and an error, handed back -/
def RetT (w : World) (i : Nat) (R : List Fld × Nat × Int) (e : Ending) (w' : World) : Prop := ∃ v', e = .returned (.tuple #[v', .int .i64 (nextI i R.2.1 R.2.2), .int .i64 R.2.2]) ∧ ownF w' w.heap.size v' R.1 ∧ Below w.heap.size w w'
theorem retT_bad {w w' : World} {i : Nat} {R : List Fld × Nat × Int} {E : Int} (h : R = ([], 0, E)) (hE : E ≠ 0) (hb : Below w.heap.size w w') : RetT w i R (.returned (.tuple #[.slice none 0 0, .int .i64 0, .int .i64 E])) w' := by
  subst h; exact ⟨_, ret_three rfl (i64_eq (next_bad hE)) rfl, ownF_nil _ _, hb⟩
set_option maxHeartbeats 2000000 in
set_option maxRecDepth 100000 in
theorem takeTrailers_any (s : List UInt8) (i : Nat) (w : World) (he : EnvC w) (hs : s.length ≤ 1048576) (ha : i ≤ s.length) (h2 : 2 ≤ i) (h13 : s.drop (i - 2) = 13 :: 10 :: s.drop i) :
    Calls Tryz.prog 145 #[.string (bs s), .int .i64 i] w (RetT w i (lastsL (s.drop i))) := by
  have hf := find_any (s.drop (i - 2)) [13, 10, 13, 10] 8194 w he.1 (by decide) (by rw [List.length_drop]; omega)
  rw [show bs [13, 10, 13, 10] = ⟨#[13, 10, 13, 10]⟩ from rfl] at hf
  have hH : lastsL (s.drop i) = if (findL (s.drop (i - 2)) [13, 10, 13, 10] 8194).2 = 0 then
    (if (parseL ((s.drop i).take (findL (s.drop (i - 2)) [13, 10, 13, 10] 8194).1)).2 = 0 then
      ((parseL ((s.drop i).take (findL (s.drop (i - 2)) [13, 10, 13, 10] 8194).1)).1, (findL (s.drop (i - 2)) [13, 10, 13, 10] 8194).1 + 2, 0)
    else ([], 0, (parseL ((s.drop i).take (findL (s.drop (i - 2)) [13, 10, 13, 10] 8194).1)).2))
    else ([], 0, (findL (s.drop (i - 2)) [13, 10, 13, 10] 8194).2) := by rw [h13]; rfl
  have hhit := fun h => find_hit (s := s.drop (i - 2)) (mark := [13, 10, 13, 10]) (most := 8194) (by simp) h
  have hpa := fun (n : Nat) (w' : World) (hb : EnvC w') => parse_any ((s.drop i).take n) w' hb.1 (by rw [List.length_take, List.length_drop]; omega)
  obtain ⟨S, hSe, hSl, hSz⟩ := text_of s
  rw [← hSe]
  have hex1 : S.extract (i - 2) S.size = bs (s.drop (i - 2)) := ext_from hSl (i - 2)
  rw [← hex1] at hf
  have hex2 : ∀ n : Nat, S.extract i (i + n) = bs ((s.drop i).take n) := fun n => by rw [ext_mid hSl, Nat.add_sub_cancel_left]
  have hdl : (s.drop (i - 2)).length = S.size - (i - 2) := by rw [List.length_drop, hSz]
  rw [hdl] at hhit
  rw [← hSz] at hs ha
  have HE := Lib.hid he; clear he h13
  generalize lastsL (s.drop i) = H at hH ⊢
  have herr := fun h => find_err (s := s.drop (i - 2)) (mark := [13, 10, 13, 10]) (most := 8194) h
  generalize findL (s.drop (i - 2)) [13, 10, 13, 10] 8194 = F at *
  obtain ⟨n, e⟩ := F
  simp only at hf hH hhit herr ⊢
  have HF := Lib.hid hf; clear hf
  clear hSe hSl hSz hex1 hdl
  have hi2 : (2 : Int) ≤ i := by omega
  have hq : ((i : Int) - 2).toNat = i - 2 := by omega
  by_cases hz : e = 0
  · subst hz
    obtain ⟨k1, k2, -, -⟩ := hhit rfl
    simp only [List.length_cons, List.length_nil] at k1 k2
    rw [if_pos rfl] at hH
    have hpa2 := hpa n w HE.out
    rw [← hex2 n] at hpa2
    generalize parseL ((s.drop i).take n) = N at hpa2 hH
    obtain ⟨l, x⟩ := N
    unfold RetP at hpa2
    simp only at hpa2 hH
    have HPA := Lib.hid hpa2; clear hpa2
    clear hpa hex2 hhit herr
    have hin : i + n ≤ S.size := by omega
    by_cases hx : x = 0
    · subst hx
      have HR : Hid (H = (l, n + 2, 0)) := by rw [if_pos rfl] at hH; exact hH
      clear hH
      go_enter Tryz.func145, Tryz.ntmps145
      go_wp2_with (go_at_call 168; refine HF.out.mono ?_; rintro e w1 ⟨rfl, rfl⟩)
      refine HPA.out.mono ?_; rintro e w1 ⟨v, rfl, ho, hb1⟩
      obtain ⟨A, c, rfl⟩ := ho.form
      have HB1 := Lib.hid hb1; have HO := Lib.hid ho; clear hb1 ho
      go_wp2_with fail
      go_ret3
      rw [HR.out]
      exact ⟨_, ret_three rfl (i64_eq (by unfold nextI; rw [if_pos rfl]; push_cast; omega)) rfl, HO.out, HB1.out⟩
    · have HR : Hid (H = ([], 0, x)) := by rw [if_neg hx] at hH; exact hH
      have hne : (x != 0) = true := by simpa using hx
      have HX := Lib.hid hx
      clear hH hx
      go_enter Tryz.func145, Tryz.ntmps145
      go_wp2_with (go_at_call 168; refine HF.out.mono ?_; rintro e w1 ⟨rfl, rfl⟩)
      refine HPA.out.mono ?_; rintro e w1 ⟨v, rfl, ho, hb1⟩
      obtain ⟨A, c, rfl⟩ := ho.form
      have HB1 := Lib.hid hb1; clear hb1 ho
      go_wp2_with fail
      go_ret3
      exact retT_bad HR.out HX.out HB1.out
  · have HR : Hid (H = ([], 0, e)) := by rw [if_neg hz] at hH; exact hH
    have hne : (e != 0) = true := by simpa using hz
    have HZ := Lib.hid hz
    clear hH hhit hpa hex2 hz herr
    go_enter Tryz.func145, Tryz.ntmps145
    go_wp2_with (go_at_call 168; refine HF.out.mono ?_; rintro e w1 ⟨rfl, rfl⟩)
    go_ret3
    exact retT_bad HR.out HZ.out (Below.refl _ _)
end Go.Proofs.YtgkjjmcjlobbpaaGreatDoor

/- A scope in which the run jumps to several labels: what holds at each jump, and a measure that every pass from a label lowers. (The library's law is for one label.) Nothing of the program is read here. -/
namespace Go.Proofs.YtgkjjmcjlobbpaaGreatDoor
/-- as Q; by a goto to label l: J l -/
def jumps (J : Nat → Act → World → Prop) (Q : Exit → Act → World → Prop) : Exit → Act → World → Prop
  | .goto l, a, w => J l a w
  | e, a, w => Q e a w
section
variable {P : Program} {a : Act} {w : World} {Q : Exit → Act → World → Prop}
theorem wp_scope_labels {c : Code} (R : Nat → Code) (J : Nat → Act → World → Prop) (μ : Nat → Act → World → Nat) (hf : ∀ l a w, J l a w → findLabel c l = some (R l))
    (first : c.wp P (jumps J Q) a w)
    (pass : ∀ l a w, J l a w → (R l).wp P (jumps (fun l' a' w' => J l' a' w' ∧ μ l' a' w' < μ l a w) Q) a w) : (Code.scope c).wp P Q a w := by
  intro b k cs
  have hg : ∀ l a w, J l a w → gotoIn l (.inScope c :: k) = some (.code (R l) :: .inScope c :: k) := fun l a w h => by simp [gotoIn, hf l a w h]
  have key : ∀ n l a w, μ l a w = n → J l a w → ∃ e a' w', Q e a' w' ∧ Arrives P (lone (b.at a (.code (R l) :: .inScope c :: k)) cs w) b k cs e a' w' := by
    intro n
    induction n using Nat.strongRecOn with
    | _ n ih =>
      intro l a w hn hJ
      obtain ⟨e, a₁, w₁, hq, harr⟩ := pass l a w hJ b (.inScope c :: k) cs
      cases e with
      | normal => exact ⟨.normal, a₁, w₁, hq, Steps.trans harr (.one step_inScope)⟩
      | exit id => exact ⟨.exit id, a₁, w₁, hq, fun k' hk => harr k' (by simp [exitTo, hk])⟩
      | goto l' =>
        obtain ⟨hJ', hlt⟩ := hq
        obtain ⟨e₂, a₂, w₂, hq₂, harr₂⟩ := ih _ (by omega) l' a₁ w₁ rfl hJ'
        exact ⟨e₂, a₂, w₂, hq₂, .of_steps (harr _ (hg l' a₁ w₁ hJ')) harr₂⟩
      | ret => exact ⟨_, a₁, w₁, hq, harr⟩
      | panic ch => exact ⟨_, a₁, w₁, hq, harr⟩
      | outgrown => exact ⟨_, a₁, w₁, hq, harr⟩
  obtain ⟨e, a₁, w₁, hq, harr⟩ := first b (.inScope c :: k) cs
  cases e with
  | normal => exact ⟨.normal, a₁, w₁, hq, .head step_scope (Steps.trans harr (.one step_inScope))⟩
  | exit id => exact ⟨.exit id, a₁, w₁, hq, fun k' hk => .head step_scope (harr k' (by simp [exitTo, hk]))⟩
  | goto l' =>
    obtain ⟨e₂, a₂, w₂, hq₂, harr₂⟩ := key _ l' a₁ w₁ rfl hq
    exact ⟨e₂, a₂, w₂, hq₂, .of_steps (.head step_scope (harr _ (hg l' a₁ w₁ hq))) harr₂⟩
  | ret => exact ⟨_, a₁, w₁, hq, .of_steps (.one step_scope) harr⟩
  | panic ch => exact ⟨_, a₁, w₁, hq, .of_steps (.one step_scope) harr⟩
  | outgrown => exact ⟨_, a₁, w₁, hq, .of_steps (.one step_scope) harr⟩
/-- four labels: what holds at each, and each one's measure -/
def four (J0 J1 J2 J3 : Act → World → Prop) (l : Nat) (a : Act) (w : World) : Prop := (l = 0 ∧ J0 a w) ∨ (l = 1 ∧ J1 a w) ∨ (l = 2 ∧ J2 a w) ∨ (l = 3 ∧ J3 a w)
theorem wp_scope_four {c r0 r1 r2 r3 : Code} (J0 J1 J2 J3 : Act → World → Prop) (μ : Nat → Act → World → Nat)
    (h0 : findLabel c 0 = some (Code.skip.seq r0)) (h1 : findLabel c 1 = some (Code.skip.seq r1)) (h2 : findLabel c 2 = some (Code.skip.seq r2)) (h3 : findLabel c 3 = some (Code.skip.seq r3))
    (first : (∀ a w, J0 a w → r0.wp P (jumps (four J0 J1 J2 J3) Q) a w) → c.wp P (jumps (four J0 J1 J2 J3) Q) a w)
    (p0 : ∀ a w, J0 a w → r0.wp P (jumps (fun l' a' w' => four J0 J1 J2 J3 l' a' w' ∧ μ l' a' w' < μ 0 a w) Q) a w)
    (p1 : ∀ a w, J1 a w → r1.wp P (jumps (fun l' a' w' => four J0 J1 J2 J3 l' a' w' ∧ μ l' a' w' < μ 1 a w) Q) a w)
    (p2 : ∀ a w, J2 a w → r2.wp P (jumps (fun l' a' w' => four J0 J1 J2 J3 l' a' w' ∧ μ l' a' w' < μ 2 a w) Q) a w)
    (p3 : ∀ a w, J3 a w → r3.wp P (jumps (fun l' a' w' => four J0 J1 J2 J3 l' a' w' ∧ μ l' a' w' < μ 3 a w) Q) a w) : (Code.scope c).wp P Q a w := by
  refine wp_scope_labels (fun l => if l = 0 then Code.skip.seq r0 else if l = 1 then Code.skip.seq r1 else if l = 2 then Code.skip.seq r2 else Code.skip.seq r3) (four J0 J1 J2 J3) μ ?_ (first fun a w h => Code.wp_mono (fun e a' w' hq => ?_) (p0 a w h)) ?_
  · rintro l a w (⟨rfl, _⟩ | ⟨rfl, _⟩ | ⟨rfl, _⟩ | ⟨rfl, _⟩)
    · exact h0
    · exact h1
    · exact h2
    · exact h3
  · cases e with
    | goto l => exact hq.1
    | normal => exact hq
    | exit id => exact hq
    | ret => exact hq
    | panic ch => exact hq
    | outgrown => exact hq
  · rintro l a w (⟨rfl, h⟩ | ⟨rfl, h⟩ | ⟨rfl, h⟩ | ⟨rfl, h⟩)
    · exact wp_seq (wp_skip (p0 a w h))
    · exact wp_seq (wp_skip (p1 a w h))
    · exact wp_seq (wp_skip (p2 a w h))
    · exact wp_seq (wp_skip (p3 a w h))
theorem four0 {J0 J1 J2 J3 : Act → World → Prop} {a : Act} {w : World} (h : J0 a w) : four J0 J1 J2 J3 0 a w := .inl ⟨rfl, h⟩
theorem four1 {J0 J1 J2 J3 : Act → World → Prop} {a : Act} {w : World} (h : J1 a w) : four J0 J1 J2 J3 1 a w := .inr (.inl ⟨rfl, h⟩)
theorem four2 {J0 J1 J2 J3 : Act → World → Prop} {a : Act} {w : World} (h : J2 a w) : four J0 J1 J2 J3 2 a w := .inr (.inr (.inl ⟨rfl, h⟩))
theorem four3 {J0 J1 J2 J3 : Act → World → Prop} {a : Act} {w : World} (h : J3 a w) : four J0 J1 J2 J3 3 a w := .inr (.inr (.inr ⟨rfl, h⟩))
end
end Go.Proofs.YtgkjjmcjlobbpaaGreatDoor

/- The decoder: from label to label. -/
namespace Go.Proofs.YtgkjjmcjlobbpaaGreatDoor
open Go.RowKit

theorem string_keep (B b : Nat) (l : List UInt8) (w : World) (h : bldr w B b l) (hBw : B ≤ w.heap.size) :
    Calls Tryz.prog 54 #[.pointer (some ⟨b, 0, none⟩)] w fun e w' => e = .returned (.string (bs l)) ∧ Below B w w' ∧ Lib.OthersKept 5 (some b) w w' :=
  (Tryz.Builder_String_any_k B b l w (Lib.IsBuilderF.of h) hBw).mono (by rintro e w' ⟨rfl, -, h1, h2⟩; exact ⟨rfl, h1, h2⟩)
theorem ownF.others {w w' : World} {base b : Nat} {v : Value} {l : List Fld} (h : ownF w base v l) (hb : b < base) (ho : Lib.OthersKept 5 (some b) w w') : ownF w' base v l := by
  refine ⟨h.1, ?_⟩
  rcases h.2 with hn | ⟨g, cap, cur, hv, hbg, hg, r⟩
  · exact .inl hn
  · exact .inr ⟨g, cap, cur, hv, hbg, ho g _ hg (fun e => by have := Option.some.inj e; omega) (fun c fz e => by simp at e), r⟩
theorem bldr.lt {w : World} {B b : Nat} {l : List UInt8} (h : bldr w B b l) : b < w.heap.size := by
  rcases h with ⟨_, v, h2, _⟩ | ⟨_, v, h2, _⟩ <;> exact (Array.getElem?_eq_some_iff.1 h2).1
/-- four results -/
theorem res_four {fn : Func} {t u v x : Tmp} (h : fn.results = #[.tmp t, .tmp u, .tmp v, .tmp x]) (tmps : Array Value) (P : Program) (w : World) :
    (results fn tmps).run P w = .ok (.tuple #[tmps.getD t undef, tmps.getD u undef, tmps.getD v undef, tmps.getD x undef]) w := by
  simp [results, h]
theorem ret_four {a b c d e f g h : Value} (h1 : a = e) (h2 : b = f) (h3 : c = g) (h4 : d = h) : Ending.returned (.tuple #[a, b, c, d]) = .returned (.tuple #[e, f, g, h]) := by rw [h1, h2, h3, h4]
/-- what is decoded, handed back -/
def RetD (w : World) (D : Dec) (e : Ending) (w' : World) : Prop := ∃ v, e = .returned (.tuple #[.string (bs D.1), .int .i64 D.2.1, v, .int .i64 D.2.2.2]) ∧ ownF w' w.heap.size v D.2.2.1 ∧ Below w.heap.size w w'
/-- the frame -/
def decA (S : ByteArray) (most : Int) (b : Nat) (x5 x6 x7 x9 x11 : Value) (U : Nat → Value) : Act :=
  { tmps := #[.string S, .int .i64 most, U 2, U 3, .string ⟨#[]⟩, x5, x6, x7, .pointer (some ⟨b, 0, none⟩), x9, U 10, x11, U 12, U 13, U 14, U 15, U 16, U 17, U 18, U 19, U 20, U 21, U 22, U 23, U 24, U 25, U 26, U 27, U 28, U 29, U 30, U 31, U 32, U 33, U 34, U 35, U 36, U 37, U 38, U 39, U 40, U 41, U 42, U 43, U 44, U 45, U 46, U 47, U 48, U 49, U 50, U 51, U 52, U 53, U 54, U 55, U 56], defers := [] }
theorem decA_mk {S : ByteArray} {most : Int} {b : Nat} {x5 x6 x7 x9 x11 : Value} (T : Array Value) (h : T = (decA S most b x5 x6 x7 x9 x11 fun n => T.getD n undef).tmps) : ({ tmps := T, defers := [] } : Act) = decA S most b x5 x6 x7 x9 x11 fun n => T.getD n undef := by
  conv => lhs; rw [h]
  rfl
def decM (a : Act) : Nat := (match a.tmps.getD 5 undef with | .int _ n => n.toNat | _ => 0)
theorem head_bad {s : List UInt8} {room : Nat} {acc : List UInt8} {k : Nat} (h : (headL s room).2.2 ≠ 0) : behind acc k (decL s room) = bad (headL s room).2.2 := by
  rw [decL_eq, if_neg h, behind_bad h]
theorem head_some {s : List UInt8} {u room : Nat} {acc : List UInt8} (h : (headL (s.drop u) room).2.2 = 0) (h1 : (headL (s.drop u) room).1 ≠ 0) :
    behind acc u (decL (s.drop u) room) = behind acc (u + (headL (s.drop u) room).2.1) (bytesD (s.drop (u + (headL (s.drop u) room).2.1)) (headL (s.drop u) room).1 room) := by
  rw [decL_eq, if_pos h, if_neg h1, behind_behind, List.append_nil, List.drop_drop]
theorem head_none {s : List UInt8} {u room : Nat} {acc : List UInt8} (h : (headL (s.drop u) room).2.2 = 0) (h1 : (headL (s.drop u) room).1 = 0) :
    behind acc u (decL (s.drop u) room) = behind acc (u + (headL (s.drop u) room).2.1) (lastsD (s.drop (u + (headL (s.drop u) room).2.1))) := by
  rw [decL_eq, if_pos h, if_pos h1, behind_behind, List.append_nil, List.drop_drop]
theorem head_line {s : List UInt8} {u room : Nat} (h : (headL (s.drop u) room).2.2 = 0) : s.drop (u + (headL (s.drop u) room).2.1 - 2) = 13 :: 10 :: s.drop (u + (headL (s.drop u) room).2.1) := by
  obtain ⟨_, _, _, f, hf, _, hu⟩ := head_ok h
  obtain ⟨_, f2, f3, _⟩ := find_hit (s := s.drop u) (mark := [13, 10]) (most := 2050) (by simp) (by rw [hf])
  rw [hf] at f2 f3
  simp only [List.length_cons, List.length_nil, List.length_drop] at f2 f3
  obtain ⟨g1, g2⟩ := (occ_two _ _ _ _).1 f3
  rw [List.getElem?_drop] at g1 g2
  rw [hu, show u + (f + 2) - 2 = u + f from by omega]
  have l1 : u + f < s.length := by omega
  have l2 : u + f + 1 < s.length := by omega
  rw [List.drop_eq_getElem_cons l1, List.drop_eq_getElem_cons l2]
  rw [List.getElem?_eq_getElem l1] at g1
  rw [show u + (f + 1) = u + f + 1 from by omega, List.getElem?_eq_getElem l2] at g2
  rw [Option.some.inj g1, Option.some.inj g2, show u + (f + 2) = u + f + 1 + 1 from by omega]
theorem chunk_bad {s : List UInt8} {n room k : Nat} {acc : List UInt8} (h : (chunkL s n).2.2 ≠ 0) : behind acc k (bytesD s n room) = bad (chunkL s n).2.2 := by
  unfold bytesD; rw [if_neg h, behind_bad h]
theorem chunk_some {s : List UInt8} {u n room : Nat} {acc : List UInt8} (h : (chunkL (s.drop u) n).2.2 = 0) :
    behind acc u (bytesD (s.drop u) n room) = behind (acc ++ (chunkL (s.drop u) n).1) (u + (chunkL (s.drop u) n).2.1) (decL (s.drop (u + (chunkL (s.drop u) n).2.1)) (room - n)) := by
  unfold bytesD; rw [if_pos h, behind_behind, List.drop_drop]
theorem lasts_bad {s : List UInt8} {k : Nat} {acc : List UInt8} (h : (lastsL s).2.2 ≠ 0) : behind acc k (lastsD s) = bad (lastsL s).2.2 := by
  unfold lastsD; rw [if_neg h, behind_bad h]
theorem lasts_some {s : List UInt8} {k : Nat} {acc : List UInt8} (h : (lastsL s).2.2 = 0) : behind acc k (lastsD s) = (acc, k + (lastsL s).2.1, (lastsL s).1, 0) := by
  unfold lastsD behind; rw [if_pos h]; simp

/-- what holds at each label -/
def at0 (s : List UInt8) (D : Dec) (w : World) (S : ByteArray) (most : Int) (a : Act) (w' : World) : Prop :=
  ∃ (u r : Nat) (x9 : Value) (U : Nat → Value) (acc : List UInt8), a = decA S most w.heap.size (.int .i64 u) (.slice none 0 0) (.int .i64 0) x9 (.int .i64 r) U ∧ u ≤ s.length ∧ acc.length + r ≤ 262144 ∧
    Hid (D = behind acc u (decL (s.drop u) r)) ∧ Hid (bldr w' w.heap.size w.heap.size acc) ∧ Hid (Below w.heap.size w w')
def at1 (D : Dec) (w : World) (S : ByteArray) (most : Int) (a : Act) (w' : World) : Prop :=
  ∃ (e : Int) (x5 x6 x9 x11 : Value) (U : Nat → Value), a = decA S most w.heap.size x5 x6 (.int .i64 e) x9 x11 U ∧ Hid (D = bad e) ∧ Hid (Below w.heap.size w w')
def at2 (s : List UInt8) (D : Dec) (w : World) (S : ByteArray) (most : Int) (a : Act) (w' : World) : Prop :=
  ∃ (u r n : Nat) (U : Nat → Value) (acc : List UInt8), a = decA S most w.heap.size (.int .i64 u) (.slice none 0 0) (.int .i64 0) (.int .i64 n) (.int .i64 r) U ∧ u ≤ s.length ∧ acc.length + r ≤ 262144 ∧ n ≤ r ∧
    Hid (D = behind acc u (bytesD (s.drop u) n r)) ∧ Hid (bldr w' w.heap.size w.heap.size acc) ∧ Hid (Below w.heap.size w w')
def at3 (s : List UInt8) (D : Dec) (w : World) (S : ByteArray) (most : Int) (a : Act) (w' : World) : Prop :=
  ∃ (u : Nat) (x9 x11 : Value) (U : Nat → Value) (acc : List UInt8), a = decA S most w.heap.size (.int .i64 u) (.slice none 0 0) (.int .i64 0) x9 x11 U ∧ 2 ≤ u ∧ u ≤ s.length ∧
    Hid (D = behind acc u (lastsD (s.drop u)) ∧ s.drop (u - 2) = 13 :: 10 :: s.drop u) ∧ Hid (bldr w' w.heap.size w.heap.size acc) ∧ Hid (Below w.heap.size w w')
def decMu (s : List UInt8) (l : Nat) (a : Act) (_ : World) : Nat := if l = 0 then 4 * (s.length - decM a) + 2 else if l = 1 then 0 else if l = 2 then 4 * (s.length - decM a) + 3 else 1

set_option maxHeartbeats 4000000 in
set_option maxRecDepth 100000 in
theorem decode_any (s : List UInt8) (most : Int) (w : World) (he : EnvC w) (hs : s.length ≤ 1048576) :
    Calls Tryz.prog 101 #[.string (bs s), .int .i64 most] w (RetD w (decodeL s most)) := by
  have hD0 : decodeL s most = behind [] 0 (decL (s.drop 0) (roomOf most)) := by
    rw [behind_nil _ (plain_decL _ _), List.drop_zero]; rfl
  have hroom : min (max most 0) 262144 = (roomOf most : Int) := by unfold roomOf; omega
  have hrl : roomOf most ≤ 262144 := by unfold roomOf; omega
  generalize roomOf most = room at hD0 hroom hrl
  have HE := Lib.hid he; clear he
  have hts := fun (u r : Nat) (w' : World) (hb : Below w.heap.size w w') (hu : u ≤ s.length) => takeSize_any s u r w' (HE.out.bel hb) hs hu
  have htc := fun (u n : Nat) (w' : World) (hu : u ≤ s.length) (hn : n ≤ 262144) => takeChunk_any s u n w' hs hu (by omega)
  have htt := fun (u : Nat) (w' : World) (hb : Below w.heap.size w w') (hu : u ≤ s.length) (h2 : 2 ≤ u) (h13 : s.drop (u - 2) = 13 :: 10 :: s.drop u) => takeTrailers_any s u w' (HE.out.bel hb) hs hu h2 h13
  obtain ⟨S, hSe, hSl, hSz⟩ := text_of s
  rw [← hSe] at hts htc htt
  rw [← hSe]
  have HTS := Lib.hid hts; have HTC := Lib.hid htc; have HTT := Lib.hid htt; have HD0 := Lib.hid hD0
  clear hts htc htt hD0 hSe hSl hSz HE
  generalize decodeL s most = D at *
  go_enter Tryz.func101, Tryz.ntmps101
  go_wp2
  refine wp_scope_four (at0 s D w S most) (at1 D w S most) (at2 s D w S most) (at3 s D w S most) (decMu s) rfl rfl rfl rfl ?first ?p0 ?p1 ?p2 ?p3
  case first =>
    intro H0
    go_wp2_with fail
    go_step3
    simp only [Exit.then]
    rename_i K hK
    refine hK _ _ (H0 _ _ ?_)
    exact ⟨0, room, _, _, [], decA_mk _ rfl, Nat.zero_le _, by simp; omega, HD0, bldr_new w _ (Nat.le_refl _), (Below.refl _ _).alloc (Nat.le_refl _) _⟩
  case p0 =>
    rintro a w' ⟨u, r, x9, U, acc, rfl, hu, hr, HD, HBD, HB⟩
    have h := HTS.out u r w' HB.out hu
    have hok := head_ok (r := s.drop u) (room := r)
    have hbad := head_bad (s := s.drop u) (room := r) (acc := acc) (k := u)
    have hsome := head_some (s := s) (u := u) (room := r) (acc := acc)
    have hnone := head_none (s := s) (u := u) (room := r) (acc := acc)
    have hline := head_line (s := s) (u := u) (room := r)
    rw [← HD.out] at hbad hsome hnone
    rw [List.length_drop] at hok
    generalize headL (s.drop u) r = H at *
    obtain ⟨n, k, e⟩ := H
    simp only at h hok hbad hsome hnone hline
    have HC := Lib.hid h; clear h HTS HTC HTT
    unfold decA
    by_cases hz : e = 0
    · subst hz
      obtain ⟨k3, kl, nr, -⟩ := hok rfl
      have hnx : nextI u k 0 = ((u + k : Nat) : Int) := by unfold nextI; rw [if_pos rfl]; push_cast; rfl
      rw [hnx] at HC
      clear hbad hnx hok
      by_cases hn : n = 0
      · subst hn
        have HN := Lib.hid (hnone rfl rfl); have HL := Lib.hid (hline rfl)
        clear hsome hnone hline
        go_wp2_with (go_at_call 143; refine HC.out.mono ?_; rintro e w1 ⟨rfl, hb1⟩; have HB1 := Lib.hid (HB.out.trans (hb1.mono HB.out.size)); have HBD1 := Lib.hid (HBD.out.bel hb1); clear hb1)
        go_step3
        refine And.intro (four3 ⟨u + k, _, _, _, acc, decA_mk _ rfl, by omega, by omega, ⟨HN.out, HL.out⟩, HBD1, HB1⟩) ?_
        simp [decMu, decM]
      · have hn0 : (0 : Int) < n := by omega
        have HN := Lib.hid (hsome rfl hn)
        clear hsome hnone hline hn
        go_wp2_with (go_at_call 143; refine HC.out.mono ?_; rintro e w1 ⟨rfl, hb1⟩; have HB1 := Lib.hid (HB.out.trans (hb1.mono HB.out.size)); have HBD1 := Lib.hid (HBD.out.bel hb1); clear hb1)
        go_step3
        refine And.intro (four2 ⟨u + k, r, n, _, acc, decA_mk _ rfl, by omega, hr, nr, HN, HBD1, HB1⟩) ?_
        simp [decMu, decM]; omega
    · have hne : (e != 0) = true := by simpa using hz
      have HN := Lib.hid (hbad hz)
      clear hbad hsome hnone hline hz hok
      go_wp2_with (go_at_call 143; refine HC.out.mono ?_; rintro e w1 ⟨rfl, hb1⟩; have HB1 := Lib.hid (HB.out.trans (hb1.mono HB.out.size)); clear hb1)
      go_step3
      refine And.intro (four1 ⟨e, _, _, _, _, _, decA_mk _ rfl, HN, HB1⟩) ?_
      simp [decMu]
  case p1 =>
    rintro a w' ⟨e, x5, x6, x9, x11, U, rfl, HD, HB⟩
    unfold decA
    go_wp2
    refine bodyPost_ret (res_four rfl _ _ _) rfl ?_
    refine ⟨_, ret_four ?_ ?_ rfl ?_, ?_, HB.out⟩
    · rw [HD.out]; rfl
    · rw [HD.out]; rfl
    · rw [HD.out]; rfl
    · rw [HD.out]; exact ownF_nil _ _
  case p2 =>
    rintro a w' ⟨u, r, n, U, acc, rfl, hu, hr, nr, HD, HBD, HB⟩
    have h := HTC.out u n w' hu (by omega)
    have hok := chunk_ok (t := s.drop u) (n := n)
    have hbad := chunk_bad (s := s.drop u) (n := n) (room := r) (acc := acc) (k := u)
    have hsome := chunk_some (s := s) (u := u) (n := n) (room := r) (acc := acc)
    rw [← HD.out] at hbad hsome
    rw [List.length_drop] at hok
    have htl : ((s.drop u).take n).length ≤ n := List.length_take_le _ _
    generalize (s.drop u).take n = T at hok htl
    generalize chunkL (s.drop u) n = C at *
    obtain ⟨c, k, e⟩ := C
    simp only at h hok hbad hsome
    have HC := Lib.hid h; clear h HTS HTC HTT
    unfold decA
    by_cases hz : e = 0
    · subst hz
      obtain ⟨rfl, hk, kl, -⟩ := hok rfl
      have hnx : nextI u k 0 = ((u + k : Nat) : Int) := by unfold nextI; rw [if_pos rfl]; push_cast; rfl
      rw [hnx] at HC
      have HN := Lib.hid (hsome rfl)
      have hwr := fun (w' : World) (h1 : bldr w' w.heap.size w.heap.size acc) (h2 : w.heap.size ≤ w'.heap.size) => write_any w.heap.size w.heap.size acc c w' h1 (by omega) h2
      have HWR := Lib.hid hwr
      have hcl : (acc ++ c).length + (r - n) ≤ 262144 := by rw [List.length_append]; omega
      have hrn : (r : Int) - n = ((r - n : Nat) : Int) := by omega
      have hul : u + k ≤ s.length := by omega
      have HK : Hid (0 < k) := by show 0 < k; omega
      clear hbad hnx hok hsome hwr hk
      go_wp2_with (go_at_call 144; refine HC.out.mono ?_; rintro e w1 ⟨rfl, rfl⟩)
      refine (HWR.out _ HBD.out HB.out.size).mono ?_; rintro e w1 ⟨rfl, h1, h2⟩
      have HB1 := Lib.hid (HB.out.trans h2); have HBD1 := Lib.hid h1; clear h1 h2
      go_wp2_with fail
      go_step3
      refine And.intro (four0 ⟨u + k, r - n, _, _, acc ++ c, decA_mk _ rfl, hul, hcl, HN, HBD1, HB1⟩) ?_
      have hk := HK.out
      simp [decMu, decM]; omega
    · have hne : (e != 0) = true := by simpa using hz
      have HN := Lib.hid (hbad hz)
      clear hbad hsome hz hok
      go_wp2_with (go_at_call 144; refine HC.out.mono ?_; rintro e w1 ⟨rfl, rfl⟩)
      go_step3
      refine And.intro (four1 ⟨e, _, _, _, _, _, decA_mk _ rfl, HN, HB⟩) ?_
      simp [decMu]
  case p3 =>
    rintro a w' ⟨u, x9, x11, U, acc, rfl, h2, hu, HD, HBD, HB⟩
    have h := HTT.out u w' HB.out hu h2 HD.out.2
    have hbad := lasts_bad (s := s.drop u) (acc := acc) (k := u)
    have hsome := lasts_some (s := s.drop u) (acc := acc) (k := u)
    rw [← HD.out.1] at hbad hsome
    generalize lastsL (s.drop u) = L at *
    obtain ⟨l, k, e⟩ := L
    unfold RetT at h
    simp only at h hbad hsome
    have HC := Lib.hid h; clear h HTS HTC HTT
    unfold decA
    by_cases hz : e = 0
    · subst hz
      have hnx : nextI u k 0 = ((u + k : Nat) : Int) := by unfold nextI; rw [if_pos rfl]; push_cast; rfl
      rw [hnx] at HC
      have HN := Lib.hid (hsome rfl)
      clear hbad hnx hsome
      go_wp2_with (go_at_call 145; refine HC.out.mono ?_; rintro e w1 ⟨v, rfl, ho, hb1⟩; obtain ⟨A, cp, rfl⟩ := ho.form; have HO := Lib.hid ho; have HB1 := Lib.hid (HB.out.trans (hb1.mono HB.out.size)); have HBD1 := Lib.hid (HBD.out.bel hb1); clear hb1 ho)
      refine (string_keep w.heap.size w.heap.size acc _ HBD1.out HB1.out.size).mono ?_; rintro e w2 ⟨rfl, h1, h2⟩
      have HB2 := Lib.hid (HB1.out.trans h1); have HO2 := Lib.hid (HO.out.others HBD.out.lt h2); clear h1 h2
      go_wp2_with fail
      refine bodyPost_ret (res_four rfl _ _ _) rfl ?_
      refine ⟨_, ret_four ?_ ?_ rfl ?_, ?_, HB2.out⟩
      · rw [HN.out]; rfl
      · rw [HN.out]; rfl
      · rw [HN.out]; rfl
      · rw [HN.out]; exact HO2.out.mono HB.out.size
    · have hne : (e != 0) = true := by simpa using hz
      have HN := Lib.hid (hbad hz)
      clear hbad hsome hz
      go_wp2_with (go_at_call 145; refine HC.out.mono ?_; rintro e w1 ⟨v, rfl, ho, hb1⟩; obtain ⟨A, cp, rfl⟩ := ho.form; have HB1 := Lib.hid (HB.out.trans (hb1.mono HB.out.size)); clear hb1 ho)
      go_step3
      refine And.intro (four1 ⟨e, _, _, _, _, _, decA_mk _ rfl, HN, HB1⟩) ?_
      simp [decMu]
end Go.Proofs.YtgkjjmcjlobbpaaGreatDoor
