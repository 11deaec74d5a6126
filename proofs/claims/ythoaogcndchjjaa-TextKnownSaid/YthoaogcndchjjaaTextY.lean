/- TextKnown: the chapter's examples hold. (A closed statement.) -/
import Derived.Test.YthoaogcndchjjaaTextX
namespace Go.Proofs.Ythoaogcndchjjaa
open Go.RowKit

set_option maxHeartbeats 4000000 in
set_option maxRecDepth 100000 in
theorem textKnown_any (w : World) :
    Calls Try.prog 6 #[] w fun e w' => e = .returned (.bool true) ∧ Below w.heap.size w w' := by
  have hb0 := Bel.refl w
  have k0 : token [] = false := by decide +kernel
  have k1 : token [97, 32, 98] = false := by decide +kernel
  have k2 : token [34] = false := by decide +kernel
  have k3 : (lower [86, 97, 114, 121] == lower [118, 65, 82, 89]) = true := by decide +kernel
  have k4 : (lower [97] == lower [98]) = false := by decide +kernel
  have k5 : trim [32, 32, 97, 32, 98, 9] = [97, 32, 98] := by decide +kernel
  have k6 : trim [32, 9] = [] := by decide +kernel
  have k7 : quoteS [10] = [] := by decide +kernel
  have k8 : quoteE [10] = 4 := by decide +kernel
  have k9 : quoteS [127] = [] := by decide +kernel
  have k10 : quoteE [127] = 4 := by decide +kernel
  have k11 : quoteS [9, 128] = [34, 9, 128, 34] := by decide +kernel
  have k12 : quoteE [9, 128] = 0 := by decide +kernel
  have k13 : unqT [34, 92, 97, 34] = [97] := by decide +kernel
  have k14 : unqT [97] = [45] := by decide +kernel
  have k15 : unqT [34, 97, 34, 98, 34] = [45] := by decide +kernel
  have k16 : unqT [34] = [45] := by decide +kernel
  have k17 : unqT [34, 97, 92, 34] = [45] := by decide +kernel
  have k18 : unqT [34, 34] = [] := by decide +kernel
  have k19 : unqT [34, 92, 10, 34] = [45] := by decide +kernel
  have k20 : unqT [] = [45] := by decide +kernel
  have k21 : pieceI [97, 44, 32, 98, 34, 44, 34, 32, 44, 32, 44, 99] 44 = [97, 124, 98, 34, 44, 34, 124, 99] := by decide +kernel
  have k22 : pieceI [34, 97] 44 = [101, 114, 114, 111, 114, 32, 52] := by decide +kernel
  have k23 : pieceI [97] 34 = [101, 114, 114, 111, 114, 32, 50] := by decide +kernel
  have k24 : pieceI [97] 92 = [101, 114, 114, 111, 114, 32, 50] := by decide +kernel
  have k25 : pieceI [] 44 = [] := by decide +kernel
  have k26 : pieceI [97, 92, 44, 98] 44 = [97, 92, 124, 98] := by decide +kernel
  have k27 : pieceI [34, 97, 92, 34, 44, 34, 59, 98] 59 = [34, 97, 92, 34, 44, 34, 124, 98] := by decide +kernel
  have kb : ∀ l, (bs l).toList = l := fun l => by rw [Lib.toList_data, bs_data]
  have kz : ∀ l, (bs l).size = l.length := bs_size
  obtain ⟨M, hM⟩ : ∃ M, M = Lib.repeatL [97, 44] 64 := ⟨_, rfl⟩
  have m1 : (pieceI M 44).length = 127 := by subst hM; decide +kernel
  have m2 : pieceI (M ++ [97]) 44 = [101, 114, 114, 111, 114, 32, 51] := by subst hM; decide +kernel
  have m3 : M.length = 128 := by subst hM; decide +kernel
  have hrep := fun w1 => Try.strings_Repeat (⟨#[97, 44]⟩ : ByteArray) 64 w1 (by decide) (by decide)
  have e1 : (⟨(Lib.repeatL (⟨#[97, 44]⟩ : ByteArray).data.toList 64).toArray⟩ : ByteArray) = bs M := by subst hM; rfl
  rw [e1] at hrep
  have m4 : pieceI (bs M).data.toList 44 = pieceI M 44 := by rw [bs_data]
  have HR := Lib.hid hrep
  clear hrep hM e1
  have hsz : (bs M ++ ⟨#[97]⟩).size ≤ 4294967296 := by rw [ByteArray.size_append, kz, m3]; decide
  have hsz0 : (bs M).size ≤ 4294967296 := by rw [kz, m3]; decide
  go_enter Try.func6, Try.ntmps6
  go_wp2_with (first
    | (go_at_call 12; refine (token_any _ _ (by decide)).mono ?_; rintro e w' ⟨rfl, rfl⟩)
    | (go_at_call 16; refine (carry (by assumption) (same_any _ _ _ (by decide) (by decide))).mono ?_; rintro e w' ⟨rfl, hb1⟩)
    | (go_at_call 18; refine (carry (by assumption) (trim_any _ _ (by decide))).mono ?_; rintro e w' ⟨rfl, hb1⟩)
    | (go_at_call 20; refine (carry (by assumption) (quote_any _ _ (by decide))).mono ?_; rintro e w' ⟨rfl, hb1⟩)
    | (go_at_call 27; refine (carry (by assumption) (unquoted_any _ _ (by decide))).mono ?_; rintro e w' ⟨rfl, hb1⟩)
    | (go_at_call 28; refine (carry (by assumption) (HR.out _)).mono ?_; rintro e w' ⟨rfl, hb1⟩)
    | (go_at_call 29; refine (carry (by assumption) (pieces_any _ _ _ (by first | decide | assumption) (by decide) (by decide))).mono ?_; rintro e w' ⟨rfl, hb1⟩)
    | (go_at_call 11; refine (carry (by assumption) (awake_any _)).mono ?_; rintro e w' ⟨rfl, hb1⟩))
  go_ret
  exact ⟨rfl, by assumption⟩
end Go.Proofs.Ythoaogcndchjjaa
