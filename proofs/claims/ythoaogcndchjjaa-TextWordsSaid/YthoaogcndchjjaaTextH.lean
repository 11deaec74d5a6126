/- The walks of the statements TextWords, TextQuotes and TextBack. -/
import Derived.Test.YthoaogcndchjjaaTextG
namespace Go.Proofs.Ythoaogcndchjjaa
open Go.RowKit

/-- below the first world's blocks nothing has turned -/
def Bel (w0 w : World) : Prop := Below w0.heap.size w0 w
theorem Bel.refl (w : World) : Bel w w := Below.refl _ _
theorem carry {P : Program} {f : FuncId} {args : Array Value} {w0 w : World} {v : Value} (hb : Bel w0 w) (h : Calls P f args w fun e w' => e = .returned v ∧ Below w.heap.size w w') :
    Calls P f args w fun e w' => e = .returned v ∧ Bel w0 w' :=
  h.mono fun _ _ ⟨he, h2⟩ => ⟨he, Below.trans hb (h2.mono hb.size)⟩

set_option maxHeartbeats 1000000 in
theorem textWords_any (a b : ByteArray) (w : World) (ha : a.size ≤ maxLen) (hb : b.size ≤ maxLen) :
    Calls Try.prog 3 #[.string a, .string b] w fun e w' => e = .returned (.bool true) ∧ Below w.heap.size w w' := by
  have hb0 := Bel.refl w
  by_cases hla : 4000 < (a.size : Int)
  · go_enter Try.func3, Try.ntmps3
    go_wp2_with (first | (go_at_call 10; refine (long_any _ _).mono ?_; rintro e w' ⟨rfl, rfl⟩) | (go_at_call 11; refine (carry (by assumption) (awake_any _)).mono ?_; rintro e w' ⟨rfl, hb1⟩))
    go_ret
    exact ⟨rfl, by assumption⟩
  · by_cases hlb : 4000 < (b.size : Int)
    · go_enter Try.func3, Try.ntmps3
      go_wp2_with (first | (go_at_call 10; refine (long_any _ _).mono ?_; rintro e w' ⟨rfl, rfl⟩) | (go_at_call 11; refine (carry (by assumption) (awake_any _)).mono ?_; rintro e w' ⟨rfl, hb1⟩))
      go_ret
      exact ⟨rfl, by assumption⟩
    · go_enter Try.func3, Try.ntmps3
      go_wp2_with (first
        | (go_at_call 10; refine (long_any _ _).mono ?_; rintro e w' ⟨rfl, rfl⟩)
        | (go_at_call 11; refine (carry (by assumption) (awake_any _)).mono ?_; rintro e w' ⟨rfl, hb1⟩)
        | (go_at_call 12; refine (token_any _ _ (by assumption)).mono ?_; rintro e w' ⟨rfl, rfl⟩)
        | (go_at_call 13; refine (rtoken_any _ _ (by assumption)).mono ?_; rintro e w' ⟨rfl, rfl⟩)
        | (go_at_call 14; refine (carry (by assumption) (lower_any _ _ (by assumption))).mono ?_; rintro e w' ⟨rfl, hb1⟩)
        | (go_at_call 15; refine (carry (by assumption) (rlower_any _ _ (by omega))).mono ?_; rintro e w' ⟨rfl, hb1⟩)
        | (go_at_call 16; refine (carry (by assumption) (same_any _ _ _ (by assumption) (by assumption))).mono ?_; rintro e w' ⟨rfl, hb1⟩)
        | (go_at_call 17; refine (carry (by assumption) (rsame_any _ _ _ (by omega) (by omega))).mono ?_; rintro e w' ⟨rfl, hb1⟩)
        | (go_at_call 18; refine (carry (by assumption) (trim_any _ _ (by omega))).mono ?_; rintro e w' ⟨rfl, hb1⟩)
        | (go_at_call 19; refine (rtrim_any _ _ (by assumption)).mono ?_; rintro e w' ⟨rfl, rfl⟩))
      go_ret
      exact ⟨rfl, by assumption⟩

set_option maxHeartbeats 1000000 in
theorem textQuotes_any (s : ByteArray) (w : World) (_hs : s.size ≤ maxLen) :
    Calls Try.prog 4 #[.string s] w fun e w' => e = .returned (.bool true) ∧ Below w.heap.size w w' := by
  have hb0 := Bel.refl w
  by_cases hla : 4000 < (s.size : Int)
  · go_enter Try.func4, Try.ntmps4
    go_wp2_with (first | (go_at_call 10; refine (long_any _ _).mono ?_; rintro e w' ⟨rfl, rfl⟩) | (go_at_call 11; refine (carry (by assumption) (awake_any _)).mono ?_; rintro e w' ⟨rfl, hb1⟩))
    go_ret
    exact ⟨rfl, by assumption⟩
  · go_enter Try.func4, Try.ntmps4
    go_wp2_with (first
      | (go_at_call 10; refine (long_any _ _).mono ?_; rintro e w' ⟨rfl, rfl⟩)
      | (go_at_call 11; refine (carry (by assumption) (awake_any _)).mono ?_; rintro e w' ⟨rfl, hb1⟩)
      | (go_at_call 20; refine (carry (by assumption) (quote_any _ _ (by omega))).mono ?_; rintro e w' ⟨rfl, hb1⟩)
      | (go_at_call 21; refine (rquote_any _ _ (by omega)).mono ?_; rintro e w' ⟨rfl, rfl⟩)
      | (go_at_call 22; refine (carry (by assumption) (unquote_any _ _ (by omega))).mono ?_; rintro e w' ⟨rfl, hb1⟩)
      | (go_at_call 23; refine (runquote_any _ _ (by omega)).mono ?_; rintro e w' ⟨rfl, rfl⟩))
    go_ret
    exact ⟨rfl, by assumption⟩
end Go.Proofs.Ythoaogcndchjjaa
