/- What the statements of layer 1 ask beside the functions: their own small helpers. -/
import Derived.Test.YthoaogcndchjjaaTextF
namespace Go.Proofs.Ythoaogcndchjjaa
open Go.RowKit

set_option maxHeartbeats 400000 in
theorem long_any (s : ByteArray) (w : World) :
    Calls Try.prog 10 #[.string s] w fun e w' => e = .returned (.bool (decide (4000 < (s.size : Int)))) ∧ w = w' := by
  go_enter Try.func10, Try.ntmps10
  go_wp2
  go_ret
  exact ⟨rfl, rfl⟩

def unqT (l : List UInt8) : List UInt8 := if unqE l == 4 && (unqS l).isEmpty then [45] else unqS l

set_option maxHeartbeats 400000 in
theorem unquoted_any (s : ByteArray) (w : World) (hs : s.size ≤ 4294967296) :
    Calls Try.prog 27 #[.string s] w fun e w' => e = .returned (.string (bs (unqT s.data.toList))) ∧ Below w.heap.size w w' := by
  have hT : Hid (unqT s.data.toList = if unqE s.data.toList == 4 && (unqS s.data.toList).isEmpty then [45] else unqS s.data.toList) := rfl
  generalize unqT s.data.toList = T at *
  go_enter Try.func27, Try.ntmps27
  cases h1 : unqE s.data.toList == 4
  · go_wp2_with (go_at_call 22; refine (unquote_any _ _ hs).mono ?_; rintro e w' ⟨rfl, hb⟩)
    go_ret
    exact ⟨ret_str (by rw [hT.out, h1]; rfl), hb⟩
  · cases h2 : (unqS s.data.toList).isEmpty
    · have h3 : (bs (unqS s.data.toList)).toList.isEmpty = false := by rw [Lib.toList_data, bs_data]; exact h2
      go_wp2_with (go_at_call 22; refine (unquote_any _ _ hs).mono ?_; rintro e w' ⟨rfl, hb⟩)
      go_ret
      exact ⟨ret_str (by rw [hT.out, h1, h2]; rfl), hb⟩
    · have h3 : (bs (unqS s.data.toList)).toList.isEmpty = true := by rw [Lib.toList_data, bs_data]; exact h2
      go_wp2_with (go_at_call 22; refine (unquote_any _ _ hs).mono ?_; rintro e w' ⟨rfl, hb⟩)
      go_ret
      exact ⟨ret_str (by rw [hT.out, h1, h2]; rfl), hb⟩

theorem k_quoteS : bs (quoteS [97, 34, 98, 92]) = ⟨#[34, 97, 92, 34, 98, 92, 92, 34]⟩ := by decide
theorem k_quoteE : quoteE [97, 34, 98, 92] = 0 := by decide
theorem k_token : token [97, 45, 66, 126, 57] = true := by decide
theorem k_unq : bs (unqT [34, 97, 92, 34, 98, 34]) = ⟨#[97, 34, 98]⟩ := by decide
theorem k_lower : bs (lower [65, 66, 122, 45, 49]) = ⟨#[97, 98, 122, 45, 49]⟩ := by decide

set_option maxHeartbeats 400000 in
theorem awake_any (w : World) :
    Calls Try.prog 11 #[] w fun e w' => e = .returned (.bool true) ∧ Below w.heap.size w w' := by
  go_enter Try.func11, Try.ntmps11
  go_wp2_with fail
  refine (quote_any _ _ (by decide)).mono ?_
  rw [show (⟨#[97, 34, 98, 92]⟩ : ByteArray).data.toList = [97, 34, 98, 92] from rfl, k_quoteS, k_quoteE]
  rintro e w1 ⟨rfl, hb1⟩
  go_wp2_with fail
  refine (token_any _ _ (by decide)).mono ?_
  rw [show (⟨#[97, 45, 66, 126, 57]⟩ : ByteArray).data.toList = [97, 45, 66, 126, 57] from rfl, k_token]
  rintro e w1 ⟨rfl, rfl⟩
  go_wp2_with fail
  refine (unquoted_any _ _ (by decide)).mono ?_
  rw [show (⟨#[34, 97, 92, 34, 98, 34]⟩ : ByteArray).data.toList = [34, 97, 92, 34, 98, 34] from rfl, k_unq]
  rintro e w2 ⟨rfl, hb2⟩
  go_wp2_with fail
  refine (lower_any _ _ (by decide)).mono ?_
  rw [show (⟨#[65, 66, 122, 45, 49]⟩ : ByteArray).data.toList = [65, 66, 122, 45, 49] from rfl, k_lower]
  rintro e w3 ⟨rfl, hb3⟩
  go_wp2_with fail
  go_ret
  exact ⟨rfl, hb1.trans ((hb2.mono hb1.size).trans (hb3.mono (Nat.le_trans hb1.size hb2.size)))⟩
end Go.Proofs.Ythoaogcndchjjaa
