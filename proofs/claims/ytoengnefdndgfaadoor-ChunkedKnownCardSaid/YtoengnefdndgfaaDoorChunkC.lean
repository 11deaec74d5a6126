/- Where a mark begins; what stands behind a size; a size line's size. -/
import Derived.Test.YtoengnefdndgfaaDoorChunkB2
namespace Go.Proofs.YtoengnefdndgfaaDoor
open Go.RowKit

theorem text_of (s : List UInt8) : ∃ S : ByteArray, S = bs s ∧ S.data.toList = s ∧ S.size = s.length := ⟨_, rfl, bs_data _, bs_size _⟩
theorem ext_from {S : ByteArray} {s : List UInt8} (h : S.data.toList = s) (k : Nat) : S.extract k S.size = bs (s.drop k) := bs_of (by rw [Lib.extract_to_end, h])
theorem ext_upto {S : ByteArray} {s : List UInt8} (h : S.data.toList = s) (k : Nat) : S.extract 0 k = bs (s.take k) := bs_of (by rw [Lib.extract_from_zero, h])
theorem ext_mid {S : ByteArray} {s : List UInt8} (h : S.data.toList = s) (j k : Nat) : S.extract j k = bs ((s.drop j).take (k - j)) := bs_of (by rw [Lib.extract_data, h])
theorem ret_two {a b c d : Value} (h1 : a = c) (h2 : b = d) : Ending.returned (.tuple #[a, b]) = .returned (.tuple #[c, d]) := by rw [h1, h2]
theorem i64_eq {a b : Int} (h : a = b) : Value.int .i64 a = .int .i64 b := by rw [h]

set_option maxHeartbeats 1000000 in
set_option maxRecDepth 100000 in
theorem find_any (s mark : List UInt8) (most : Nat) (w : World) (hm : MaxL w) (hmost : most ≤ 10000) (hs : s.length ≤ 1048576) :
    Calls Tryd.prog 31 #[.string (bs s), .string (bs mark), .int .i64 most] w fun e w' => e = .returned (.tuple #[.int .i64 (findL s mark most).1, .int .i64 (findL s mark most).2]) ∧ w = w' := by
  have hi := index_any (s.take most) mark w hm (by rw [List.length_take]; omega)
  have hF : findL s mark most = if 0 ≤ Lib.index (s.take most) mark then ((Lib.index (s.take most) mark).toNat, 0) else if most ≤ s.length then (0, 3) else (0, 6) := rfl
  generalize findL s mark most = F at hF ⊢
  obtain ⟨f1, f2⟩ := F
  obtain ⟨S, hSe, hSl, hSz⟩ := text_of s
  rw [← hSe]
  obtain ⟨n, hn, hn1, hn2⟩ : ∃ n : Nat, min (S.size : Int) (most : Int) = (n : Int) ∧ n ≤ S.size ∧ s.take n = s.take most := by
    by_cases h : S.size ≤ most
    · refine ⟨S.size, by omega, Nat.le_refl _, ?_⟩
      rw [hSz, List.take_length, List.take_of_length_le (by omega)]
    · exact ⟨most, by omega, by omega, rfl⟩
  have hex : S.extract 0 n = bs (s.take most) := by rw [ext_upto hSl, hn2]
  rw [← hex] at hi
  have HI := Lib.hid hi; clear hi hex hn2
  rw [← hSz] at hs hF
  clear hSe hSl hSz
  have hge := Lib.index_ge (s.take most) mark
  generalize Lib.index (s.take most) mark = i at *
  have HF := Lib.hid hF; clear hF
  by_cases h0 : 0 ≤ i
  · have HR : Hid (i = f1 ∧ f2 = 0) := by
      have h := HF.out
      rw [if_pos h0] at h
      obtain ⟨rfl, rfl⟩ := Prod.mk.inj h
      exact ⟨by omega, rfl⟩
    go_enter Tryd.func31, Tryd.ntmps31
    go_wp2_with (go_at_call 42; refine HI.out.mono ?_; rintro e w1 ⟨rfl, rfl⟩)
    go_ret2
    exact ⟨ret_two (i64_eq HR.out.1) (i64_eq HR.out.2.symm), rfl⟩
  · have h1 : ¬ 0 ≤ i := h0
    by_cases hl : most ≤ S.size
    · have HR : Hid (f1 = 0 ∧ f2 = 3) := by
        have h := HF.out
        rw [if_neg h0, if_pos hl] at h
        obtain ⟨rfl, rfl⟩ := Prod.mk.inj h
        exact ⟨rfl, rfl⟩
      go_enter Tryd.func31, Tryd.ntmps31
      go_wp2_with (go_at_call 42; refine HI.out.mono ?_; rintro e w1 ⟨rfl, rfl⟩)
      go_ret2
      exact ⟨ret_two (i64_eq (by rw [HR.out.1]; rfl)) (i64_eq HR.out.2.symm), rfl⟩
    · have HR : Hid (f1 = 0 ∧ f2 = 6) := by
        have h := HF.out
        rw [if_neg h0, if_neg hl] at h
        obtain ⟨rfl, rfl⟩ := Prod.mk.inj h
        exact ⟨rfl, rfl⟩
      go_enter Tryd.func31, Tryd.ntmps31
      go_wp2_with (go_at_call 42; refine HI.out.mono ?_; rintro e w1 ⟨rfl, rfl⟩)
      go_ret2
      exact ⟨ret_two (i64_eq (by rw [HR.out.1]; rfl)) (i64_eq HR.out.2.symm), rfl⟩

def ignL (l : List UInt8) : Bool := l.all ignB
set_option maxHeartbeats 1000000 in
set_option maxRecDepth 100000 in
theorem ignorable_any (s : ByteArray) (w : World) (hs : s.size ≤ 1048576) :
    Calls Tryd.prog 45 #[.string s] w fun e w' => e = .returned (.bool (ignL s.data.toList)) ∧ w = w' := by
  go_enter Tryd.func45, Tryd.ntmps45
  go_wp2_with fail
  go_loop [7] (fun i => ∃ k : Nat, k ≤ s.size ∧ i = .int .i64 k ∧ Hid ((s.data.toList.take k).all ignB = true)) (fun i => s.size - (intOf i).toNat)
  case atStart => exact ⟨0, Nat.zero_le _, rfl, rfl⟩
  case round =>
    obtain ⟨k, hk, rfl, HT⟩ := hrel
    by_cases hlt : k < s.size
    · have hc1 : (s[k].toNat : Int) < 256 := by have := s[k].toNat_lt; omega
      cases hb : ignB s[k]
      · have HA : Hid (ignL s.data.toList = false) := all_not s ignB k hlt hb
        have h1 : ((s[k].toNat : Int) != 9) = true := by unfold ignB ignI at hb; simp at hb ⊢; omega
        have h2 : (s[k].toNat : Int) < 32 ∨ (¬ (s[k].toNat : Int) < 32 ∧ 126 < (s[k].toNat : Int)) := by unfold ignB ignI at hb; simp at hb; omega
        clear hb
        rcases h2 with h2 | ⟨h2, h3⟩
        all_goals
          go_wp2_with fail
          go_ret
          exact ⟨ret_bool HA.out.symm, rfl⟩
      · have HA := Lib.hid (all_snoc s ignB k hlt HT.out hb)
        have h2 : (s[k].toNat : Int) = 9 ∨ (((s[k].toNat : Int) != 9) = true ∧ ¬ (s[k].toNat : Int) < 32 ∧ ¬ 126 < (s[k].toNat : Int)) := by unfold ignB ignI at hb; simp at hb ⊢; omega
        clear hb
        rcases h2 with h2 | ⟨h2, h3, h4⟩
        · have h3 : ((s[k].toNat : Int) != 9) = false := by rw [h2]; rfl
          clear h2
          go_wp2_with fail
          go_round
          case rel => exact ⟨k + 1, by omega, by go_num, HA⟩
          case measure => simp [intOf]; omega
        · go_wp2_with fail
          go_round
          case rel => exact ⟨k + 1, by omega, by go_num, HA⟩
          case measure => simp [intOf]; omega
    · have HA := Lib.hid (take_all hlt)
      go_wp2_with fail
      go_ret
      exact ⟨ret_bool (by have h := HT.out; rw [HA.out] at h; unfold ignL; exact h.symm), rfl⟩

theorem pu_all : ∀ (l : List UInt8) (n : Nat), l.all hexB = true → (n + 1) * 16 ^ l.length ≤ 18446744073709551616 → pu l n = (l.foldl (fun n c => 16 * n + hexD c) n, 0) := by
  intro l
  induction l with
  | nil => intro n _ _; rfl
  | cons c r ih =>
    intro n h hn
    rw [List.all_cons, Bool.and_eq_true] at h
    rw [List.length_cons, Nat.pow_succ, Nat.mul_comm (16 ^ r.length) 16, ← Nat.mul_assoc] at hn
    have h1 : 1 ≤ 16 ^ r.length := Nat.pow_pos (by decide)
    have h2 : (n + 1) * 16 ≤ (n + 1) * 16 * 16 ^ r.length := Nat.le_mul_of_pos_right _ h1
    have h3 := hexD_lt c
    have h4 : (16 * n + hexD c + 1) * 16 ^ r.length ≤ (n + 1) * 16 * 16 ^ r.length := Nat.mul_le_mul_right _ (by omega)
    unfold pu
    rw [h.1, if_pos rfl, if_neg (by omega), ih _ h.2 (by omega), List.foldl_cons]
theorem pu_not : ∀ (l : List UInt8) (n : Nat), l.all hexB = false → (pu l n).2 ≠ 0 := by
  intro l
  induction l with
  | nil => intro n h; exact absurd h (by decide)
  | cons c r ih =>
    intro n h
    rw [List.all_cons] at h
    unfold pu
    cases hc : hexB c
    · simp
    · rw [hc, Bool.true_and] at h
      rw [if_pos rfl]
      split
      · simp
      · exact ih _ h
theorem size_pu (s : List UInt8) : sizeN s = if (puR (Lib.cut s [59]).1).2 = 0 ∧ (Lib.cut s [59]).1.length ≤ 8 ∧ (Lib.cut s [59]).2.1.all ignB = true then some (puR (Lib.cut s [59]).1).1 else none := by
  unfold sizeN
  generalize Lib.cut s [59] = C
  obtain ⟨d, e, b⟩ := C
  simp only
  unfold puR
  by_cases h0 : d = []
  · rw [if_neg (fun h => h.1 h0), if_neg]
    rw [if_pos h0]
    rintro ⟨h, _⟩
    exact absurd h (by decide)
  · rw [if_neg h0]
    by_cases h8 : d.length ≤ 8
    · cases ha : d.all hexB
      · rw [if_neg (fun h => by simp at h), if_neg (fun h => pu_not d 0 ha h.1)]
      · have hp := pu_all d 0 ha (by
          have : (16 : Nat) ^ d.length ≤ 16 ^ 8 := Nat.pow_le_pow_right (by decide) h8
          have h4 : (16 : Nat) ^ 8 = 4294967296 := by decide
          omega)
        rw [hp]
        simp only [true_and]
        by_cases hi : e.all ignB = true
        · rw [if_pos ⟨h0, h8, hi⟩, if_pos ⟨h8, hi⟩]; rfl
        · rw [if_neg (fun h => hi h.2.2), if_neg (fun h => hi h.2)]
    · rw [if_neg (fun h => h8 h.2.1), if_neg (fun h => h8 h.2.1)]

def sizeV (o : Option Nat) : Value := match o with
  | none => .tuple #[.int .i64 0, .bool false]
  | some n => .tuple #[.int .i64 n, .bool true]
set_option maxHeartbeats 2000000 in
set_option maxRecDepth 100000 in
theorem sizeOf_any (s : List UInt8) (w : World) (he : EnvC w) (hs : s.length ≤ 1048576) :
    Calls Tryd.prog 32 #[.string (bs s)] w fun e w' => e = .returned (sizeV (sizeN s)) ∧ Below w.heap.size w w' := by
  have hct := cut_any s [59] w he.1 (by omega)
  rw [show bs [59] = ⟨#[59]⟩ from rfl] at hct
  have hsz := size_pu s
  have hlt : ∀ n, sizeN s = some n → n < 4294967296 := fun n h => sizeN_lt h
  generalize sizeN s = N at hsz hlt ⊢
  obtain ⟨hl1, hl2⟩ := cut_le s [59]
  generalize Lib.cut s [59] = C at *
  obtain ⟨d, x, y⟩ := C
  simp only at hct hl1 hl2 hsz
  have HCT := Lib.hid hct; clear hct
  obtain ⟨D, hDe, hDl, hDz⟩ := text_of d
  obtain ⟨X, hXe, hXl, hXz⟩ := text_of x
  rw [← hDe, ← hXe] at HCT
  have hpu := fun (w' : World) (hb : Below w.heap.size w w') => puS_any D w' (by omega) (he.bel hb)
  have hig := fun (w' : World) => ignorable_any X w' (by omega)
  rw [hDl] at hpu
  rw [hXl] at hig
  rw [show x.all ignB = ignL x from rfl] at hsz
  rw [← hDz] at hsz
  generalize puR d = P at hpu hsz
  generalize ignL x = g at hig hsz
  obtain ⟨p, q⟩ := P
  simp only at hpu hsz
  have HPU := Lib.hid hpu; have HIG := Lib.hid hig; have HS := Lib.hid hsz; have HLT := Lib.hid hlt
  have hD2 : D.size ≤ 1048576 := by omega
  clear hpu hig hsz hlt hDe hDl hDz hXe hXl hXz hl1 hl2 hs
  by_cases hq : q = 0
  · have HPU0 : Hid (∀ (w' : World), Below w.heap.size w w' → Calls Tryd.prog 44 #[.string D, .int .i64 16, .int .i64 64] w' fun e w2 => e = .returned (.tuple #[.int .u64 p, .nilIface]) ∧ Below w'.heap.size w' w2) := fun w' hb => (HPU.out w' hb).mono (by
      rintro e w2 ⟨v, rfl, h1, h2, h3⟩
      rw [h1 hq]; exact ⟨rfl, h3⟩)
    clear HPU
    by_cases h8 : D.size ≤ 8
    · have h8' : ¬ 8 < D.size := by omega
      cases g
      · have HN : Hid (N = none) := by have h := HS.out; rw [if_neg (fun h => by simp at h)] at h; exact h
        clear HS
        go_enter Tryd.func32, Tryd.ntmps32
        go_wp2_with fail
        refine HCT.out.mono ?_; rintro e w1 ⟨rfl, hb1⟩
        have HB1 := Lib.hid hb1; clear hb1
        go_wp2_with fail
        refine (HPU0.out _ HB1.out).mono ?_; rintro e w2 ⟨rfl, hb2⟩
        have HB2 := Lib.hid (HB1.out.trans (hb2.mono HB1.out.size)); clear hb2
        go_wp2_with (go_at_call 45; refine (HIG.out _).mono ?_; rintro e w3 ⟨rfl, rfl⟩)
        go_ret2
        exact ⟨by rw [HN.out]; rfl, HB2.out⟩
      · have HN : Hid (N = some p) := by have h := HS.out; rw [if_pos ⟨hq, h8, rfl⟩] at h; exact h
        obtain ⟨a, ha, ha0, ha1⟩ : ∃ a : Int, (p : Int) = a ∧ 0 ≤ a ∧ a < 4294967296 := ⟨p, rfl, by omega, by have := HLT.out p HN.out; omega⟩
        have HN2 : Hid (Value.tuple #[.int .i64 a, .bool true] = sizeV N) := by show _ = _; rw [HN.out, ← ha]; rfl
        rw [ha] at HPU0
        clear HS HN ha HLT
        go_enter Tryd.func32, Tryd.ntmps32
        go_wp2_with fail
        refine HCT.out.mono ?_; rintro e w1 ⟨rfl, hb1⟩
        have HB1 := Lib.hid hb1; clear hb1
        go_wp2_with fail
        refine (HPU0.out _ HB1.out).mono ?_; rintro e w2 ⟨rfl, hb2⟩
        have HB2 := Lib.hid (HB1.out.trans (hb2.mono HB1.out.size)); clear hb2
        go_wp2_with (go_at_call 45; refine (HIG.out _).mono ?_; rintro e w3 ⟨rfl, rfl⟩)
        go_ret2
        exact ⟨congrArg Ending.returned HN2.out, HB2.out⟩
    · have h8' : 8 < D.size := by omega
      have HN : Hid (N = none) := by have h := HS.out; rw [if_neg (fun h => h8 h.2.1)] at h; exact h
      clear HS h8
      go_enter Tryd.func32, Tryd.ntmps32
      go_wp2_with fail
      refine HCT.out.mono ?_; rintro e w1 ⟨rfl, hb1⟩
      have HB1 := Lib.hid hb1; clear hb1
      go_wp2_with fail
      refine (HPU0.out _ HB1.out).mono ?_; rintro e w2 ⟨rfl, hb2⟩
      have HB2 := Lib.hid (HB1.out.trans (hb2.mono HB1.out.size)); clear hb2
      go_wp2_with fail
      go_ret2
      exact ⟨by rw [HN.out]; rfl, HB2.out⟩
  · have HN : Hid (N = none) := by have h := HS.out; rw [if_neg (fun h => hq h.1)] at h; exact h
    clear HS
    go_enter Tryd.func32, Tryd.ntmps32
    go_wp2_with fail
    refine HCT.out.mono ?_; rintro e w1 ⟨rfl, hb1⟩
    have HB1 := Lib.hid hb1; clear hb1
    go_wp2_with fail
    refine (HPU.out _ HB1.out).mono ?_; rintro e w2 ⟨v, rfl, -, hv, hb2⟩
    obtain ⟨M, rfl⟩ := hv hq
    have HB2 := Lib.hid (HB1.out.trans (hb2.mono HB1.out.size)); clear hb2
    go_wp2_with fail
    go_ret2
    exact ⟨by rw [HN.out]; rfl, HB2.out⟩
end Go.Proofs.YtoengnefdndgfaaDoor
