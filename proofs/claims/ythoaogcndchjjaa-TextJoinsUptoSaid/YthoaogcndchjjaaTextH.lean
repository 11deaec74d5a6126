/- The walks of the statements TextWords, TextQuotes and TextBack. -/
import Derived.Test.YthoaogcndchjjaaTextG
namespace Go.Proofs.Ythoaogcndchjjaa
open Go.RowKit

/-- below the first world's blocks nothing has turned -/
def Bel (w0 w : World) : Prop := Below w0.heap.size w0 w
theorem Bel.refl (w : World) : Bel w w := Below.refl _ _
theorem carry {P : Program} {f : FuncId} {args : Array Value} {w0 w : World} {v : Value} (hb : Bel w0 w) (h : Calls P f args w fun e w' => e = .returned v ∧ Below w.heap.size w w') :
    Calls P f args w fun e w' => e = .returned v ∧ Bel w0 w' :=
  h.mono fun _ _ ⟨he, h2⟩ => ⟨he, Below.trans hb (h2.mono hb.size)⟩

set_option maxHeartbeats 1000000 in
theorem textWords_any (a b : ByteArray) (w : World) (ha : a.size ≤ maxLen) (hb : b.size ≤ maxLen) :
    Calls Try.prog 3 #[.string a, .string b] w fun e w' => e = .returned (.bool true) ∧ Below w.heap.size w w' := by
  have hb0 := Bel.refl w
  by_cases hla : 4000 < (a.size : Int)
  · go_enter Try.func3, Try.ntmps3
    go_wp2_with (first | (go_at_call 10; refine (long_any _ _).mono ?_; rintro e w' ⟨rfl, rfl⟩) | (go_at_call 11; refine (carry (by assumption) (awake_any _)).mono ?_; rintro e w' ⟨rfl, hb1⟩))
    go_ret
    exact ⟨rfl, by assumption⟩
  · by_cases hlb : 4000 < (b.size : Int)
    · go_enter Try.func3, Try.ntmps3
      go_wp2_with (first | (go_at_call 10; refine (long_any _ _).mono ?_; rintro e w' ⟨rfl, rfl⟩) | (go_at_call 11; refine (carry (by assumption) (awake_any _)).mono ?_; rintro e w' ⟨rfl, hb1⟩))
      go_ret
      exact ⟨rfl, by assumption⟩
    · go_enter Try.func3, Try.ntmps3
      go_wp2_with (first
        | (go_at_call 10; refine (long_any _ _).mono ?_; rintro e w' ⟨rfl, rfl⟩)
        | (go_at_call 11; refine (carry (by assumption) (awake_any _)).mono ?_; rintro e w' ⟨rfl, hb1⟩)
        | (go_at_call 12; refine (token_any _ _ (by assumption)).mono ?_; rintro e w' ⟨rfl, rfl⟩)
        | (go_at_call 13; refine (rtoken_any _ _ (by assumption)).mono ?_; rintro e w' ⟨rfl, rfl⟩)
        | (go_at_call 14; refine (carry (by assumption) (lower_any _ _ (by assumption))).mono ?_; rintro e w' ⟨rfl, hb1⟩)
        | (go_at_call 15; refine (carry (by assumption) (rlower_any _ _ (by omega))).mono ?_; rintro e w' ⟨rfl, hb1⟩)
        | (go_at_call 16; refine (carry (by assumption) (same_any _ _ _ (by assumption) (by assumption))).mono ?_; rintro e w' ⟨rfl, hb1⟩)
        | (go_at_call 17; refine (carry (by assumption) (rsame_any _ _ _ (by omega) (by omega))).mono ?_; rintro e w' ⟨rfl, hb1⟩)
        | (go_at_call 18; refine (carry (by assumption) (trim_any _ _ (by omega))).mono ?_; rintro e w' ⟨rfl, hb1⟩)
        | (go_at_call 19; refine (rtrim_any _ _ (by assumption)).mono ?_; rintro e w' ⟨rfl, rfl⟩))
      go_ret
      exact ⟨rfl, by assumption⟩

set_option maxHeartbeats 1000000 in
theorem textQuotes_any (s : ByteArray) (w : World) (_hs : s.size ≤ maxLen) :
    Calls Try.prog 4 #[.string s] w fun e w' => e = .returned (.bool true) ∧ Below w.heap.size w w' := by
  have hb0 := Bel.refl w
  by_cases hla : 4000 < (s.size : Int)
  · go_enter Try.func4, Try.ntmps4
    go_wp2_with (first | (go_at_call 10; refine (long_any _ _).mono ?_; rintro e w' ⟨rfl, rfl⟩) | (go_at_call 11; refine (carry (by assumption) (awake_any _)).mono ?_; rintro e w' ⟨rfl, hb1⟩))
    go_ret
    exact ⟨rfl, by assumption⟩
  · go_enter Try.func4, Try.ntmps4
    go_wp2_with (first
      | (go_at_call 10; refine (long_any _ _).mono ?_; rintro e w' ⟨rfl, rfl⟩)
      | (go_at_call 11; refine (carry (by assumption) (awake_any _)).mono ?_; rintro e w' ⟨rfl, hb1⟩)
      | (go_at_call 20; refine (carry (by assumption) (quote_any _ _ (by omega))).mono ?_; rintro e w' ⟨rfl, hb1⟩)
      | (go_at_call 21; refine (rquote_any _ _ (by omega)).mono ?_; rintro e w' ⟨rfl, rfl⟩)
      | (go_at_call 22; refine (carry (by assumption) (unquote_any _ _ (by omega))).mono ?_; rintro e w' ⟨rfl, hb1⟩)
      | (go_at_call 23; refine (runquote_any _ _ (by omega)).mono ?_; rintro e w' ⟨rfl, rfl⟩))
    go_ret
    exact ⟨rfl, by assumption⟩

set_option maxHeartbeats 1000000 in
theorem textBack_any (s : ByteArray) (w : World) (_hs : s.size ≤ maxLen) :
    Calls Try.prog 7 #[.string s] w fun e w' => e = .returned (.bool true) ∧ Below w.heap.size w w' := by
  have hb0 := Bel.refl w
  by_cases hla : 4000 < (s.size : Int)
  · go_enter Try.func7, Try.ntmps7
    go_wp2_with (first | (go_at_call 10; refine (long_any _ _).mono ?_; rintro e w' ⟨rfl, rfl⟩) | (go_at_call 11; refine (carry (by assumption) (awake_any _)).mono ?_; rintro e w' ⟨rfl, hb1⟩))
    go_ret
    exact ⟨rfl, by assumption⟩
  · cases hall : s.data.toList.all mayB
    · have hS : quoteS s.data.toList = [] := by rw [quoteS, hall]; rfl
      have hE : quoteE s.data.toList = 4 := by rw [quoteE, hall]; rfl
      have hq := quote_any s w (by omega)
      rw [hS, hE, show bs [] = ⟨#[]⟩ from rfl] at hq
      have HQ := Lib.hid hq; have HALL := Lib.hid hall
      clear hq hS hE hall
      go_enter Try.func7, Try.ntmps7
      go_wp2_with (first
        | (go_at_call 10; refine (long_any _ _).mono ?_; rintro e w' ⟨rfl, rfl⟩)
        | (go_at_call 20; refine (carry (by assumption) HQ.out).mono ?_; rintro e w' ⟨rfl, hb1⟩))
      rename_i w1 hb1
      have HB1 := Lib.hid hb1
      go_loop [5] (fun i => ∃ k : Nat, k ≤ s.size ∧ i = .int .i64 k ∧ (s.data.toList.take k).all mayB = true) (fun i => s.size - (intOf i).toNat)
      case atStart => exact ⟨0, Nat.zero_le _, rfl, rfl⟩
      case round =>
        obtain ⟨k, hk, rfl, ht⟩ := hrel
        have HT := Lib.hid ht; clear ht
        by_cases hlt : k < s.size
        · cases hm : mayI (s[k].toNat : Int)
          · rcases bad_byte hm with ⟨h1, h2⟩ | ⟨h1, h2⟩
            all_goals
              go_wp2_with (go_at_call 11; refine (carry (by assumption) (awake_any _)).mono ?_; rintro e w' ⟨rfl, hb2⟩)
              go_ret
              exact ⟨rfl, by assumption⟩
          · have HA := Lib.hid (all_snoc s mayB k hlt HT.out hm)
            rcases good_byte hm with ⟨h1, h2, h3⟩ | ⟨h1, h2⟩
            all_goals
              go_wp2_with fail
              go_round
              case rel => exact ⟨k + 1, by omega, by go_num, HA.out⟩
              case measure => simp [intOf]; omega
        · exfalso
          have h := HT.out
          rw [take_all hlt, HALL.out] at h
          cases h
    · have hS : unqS (quoteS s.data.toList) = s.data.toList := by rw [unqS, unquote_quote _ hall]; rfl
      have hU : unqE (quoteS s.data.toList) = 0 := by rw [unqE, unquote_quote _ hall]; rfl
      have hE : quoteE s.data.toList = 0 := by rw [quoteE, hall]; rfl
      have hlen : (bs (quoteS s.data.toList)).size ≤ 4294967296 := by rw [bs_size]; have := quoteS_len s.data.toList; rw [← size_len] at this; omega
      have hq := quote_any s w (by omega)
      rw [hE] at hq
      have hu := fun w1 => unquote_any (bs (quoteS s.data.toList)) w1 hlen
      rw [bs_data, hS, hU, bs_self] at hu
      have HQ := Lib.hid hq; have HU := Lib.hid hu
      clear hq hS hE hall hU hlen hu
      go_enter Try.func7, Try.ntmps7
      go_wp2_with (first
        | (go_at_call 10; refine (long_any _ _).mono ?_; rintro e w' ⟨rfl, rfl⟩)
        | (go_at_call 11; refine (carry (by assumption) (awake_any _)).mono ?_; rintro e w' ⟨rfl, hb1⟩)
        | (go_at_call 22; refine (carry (by assumption) (HU.out _)).mono ?_; rintro e w' ⟨rfl, hb1⟩)
        | (go_at_call 20; refine (carry (by assumption) HQ.out).mono ?_; rintro e w' ⟨rfl, hb1⟩))
      go_ret
      exact ⟨rfl, by assumption⟩
end Go.Proofs.Ythoaogcndchjjaa
