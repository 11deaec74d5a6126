/- Texts in quotes: the document's own two functions, and the closure that tells what each byte is to the quotes. -/
import Derived.Test.YtonioemenjjajaaTextD
import Derived.Test.YtonioemenjjajaaText2
import Derived.OneCell
import Derived.Lib.SmallJoins
namespace Go.Proofs.Ytonioemenjjajaa
open Go.RowKit


set_option maxHeartbeats 1000000 in
theorem runquote_any (s : ByteArray) (w : World) (hs : s.size ≤ 4294967296) :
    Calls Try.prog 57 #[.string s] w fun e w' => e = .returned (.tuple #[.string (bs (unqS s.data.toList)), .int .i64 (unqE s.data.toList)]) ∧ w = w' := by
  rcases unq_start s with ⟨h0, HU⟩ | ⟨h0, hc, HU⟩ | ⟨h0, hc, HU⟩
  · have HU := Lib.hid HU
    have h0' : ((s.size : Int) == 0) = true := beq_iff_eq.2 (by omega)
    go_enter Try.func57, Try.ntmps57
    go_wp2_with fail
    go_ret2
    exact ⟨ret_pair (by rw [unqS, HU.out]; rfl) (by rw [unqE, HU.out]; rfl), rfl⟩
  · have HU := Lib.hid HU
    have h0' : ((s.size : Int) == 0) = false := beq_eq_false_iff_ne.2 (by omega)
    have hc' : ((s[0].toNat : Int) != 34) = true := bne_iff_ne.2 (by omega)
    clear hc
    go_enter Try.func57, Try.ntmps57
    go_wp2_with fail
    go_ret2
    exact ⟨ret_pair (by rw [unqS, HU.out]; rfl) (by rw [unqE, HU.out]; rfl), rfl⟩
  · have HX := Lib.hid HU; clear HU
    have h0' : ((s.size : Int) == 0) = false := beq_eq_false_iff_ne.2 (by omega)
    have hc' : ((s[0].toNat : Int) != 34) = false := by rw [bne_eq_false_iff_eq]; omega
    clear hc
    go_enter Try.func57, Try.ntmps57
    go_wp2_with fail
    go_loop [4, 5] (fun v i => ∃ (k : Nat) (t : ByteArray), k ≤ s.size ∧ i = .int .i64 k ∧ v = .string t ∧ t.size ≤ k ∧ unquote s.data.toList = unq (s.data.toList.drop k) false t.data.toList) (fun _ i => s.size - (intOf i).toNat)
    case atStart => exact ⟨1, ⟨#[]⟩, by omega, rfl, rfl, by decide, HX.out⟩
    case round =>
      obtain ⟨k, t, hk, rfl, rfl, hts, ht⟩ := hrel
      have HT := Lib.hid ht; clear ht
      by_cases hlt : k < s.size
      · rcases unq_byte s k hlt t.data.toList with ⟨h1, h2, hu⟩ | ⟨h1, h2, hu⟩ | ⟨h1, h2, h3, hu⟩ | ⟨h1, h2, h3, hu⟩ | ⟨h1, h2, h3, h4, hu⟩ | ⟨h1, h2, h3, hu⟩ | ⟨h1, h2, h3, hu⟩
        · have HU := Lib.hid hu; clear hu
          have h2' : (((k : Int) + 1) == (s.size : Int)) = true := beq_iff_eq.2 (by omega)
          go_wp2_with fail
          go_ret2
          exact ⟨ret_pair (bs_of (by rw [unqS, HT.out, HU.out]; rfl)) (by rw [unqE, HT.out, HU.out]; rfl), rfl⟩
        · have HU := Lib.hid hu; clear hu
          have h2' : (((k : Int) + 1) == (s.size : Int)) = false := beq_eq_false_iff_ne.2 (by omega)
          go_wp2_with fail
          go_ret2
          exact ⟨ret_pair (by rw [unqS, HT.out, HU.out]; rfl) (by rw [unqE, HT.out, HU.out]; rfl), rfl⟩
        · have HU := Lib.hid hu; clear hu
          have h3' : (((k : Int) + 1) == (s.size : Int)) = true := beq_iff_eq.2 (by omega)
          go_wp2_with fail
          go_ret2
          exact ⟨ret_pair (by rw [unqS, HT.out, HU.out]; rfl) (by rw [unqE, HT.out, HU.out]; rfl), rfl⟩
        · have HU := Lib.hid hu; clear hu
          obtain ⟨h3, h4⟩ := h3
          have h3' : (((k : Int) + 1) == (s.size : Int)) = false := beq_eq_false_iff_ne.2 (by omega)
          go_wp2_with (go_at_call 70; refine (may_any _ _ (by omega) (by have := s[k + 1].toNat_lt; omega)).mono ?_; rintro e w' ⟨rfl, rfl⟩)
          go_ret2
          exact ⟨ret_pair (by rw [unqS, HT.out, HU.out]; rfl) (by rw [unqE, HT.out, HU.out]; rfl), rfl⟩
        · have HU := Lib.hid hu; clear hu
          have h3' : (((k : Int) + 1) == (s.size : Int)) = false := beq_eq_false_iff_ne.2 (by omega)
          go_wp2_with (go_at_call 70; refine (may_any _ _ (by omega) (by have := s[k + 1].toNat_lt; omega)).mono ?_; rintro e w' ⟨rfl, rfl⟩)
          go_round
          case rel => exact ⟨k + 2, _, by omega, by go_num, rfl, by simp [ByteArray.size_append]; omega, by rw [HT.out, HU.out, cat_data, Lib.extract_data, one_at s (k + 1) h3]⟩
          case measure => simp [intOf]; omega
        · have HU := Lib.hid hu; clear hu
          have h3' : ((k : Int) == (s.size : Int)) = false := beq_eq_false_iff_ne.2 (by omega)
          go_wp2_with (go_at_call 70; refine (may_any _ _ (by omega) (by have := s[k].toNat_lt; omega)).mono ?_; rintro e w' ⟨rfl, rfl⟩)
          go_ret2
          exact ⟨ret_pair (by rw [unqS, HT.out, HU.out]; rfl) (by rw [unqE, HT.out, HU.out]; rfl), rfl⟩
        · have HU := Lib.hid hu; clear hu
          have h3' : ((k : Int) == (s.size : Int)) = false := beq_eq_false_iff_ne.2 (by omega)
          go_wp2_with (go_at_call 70; refine (may_any _ _ (by omega) (by have := s[k].toNat_lt; omega)).mono ?_; rintro e w' ⟨rfl, rfl⟩)
          go_round
          case rel => exact ⟨k + 1, _, by omega, by go_num, rfl, by simp [ByteArray.size_append]; omega, by rw [HT.out, HU.out, cat_data, Lib.extract_data, one_at s k hlt]⟩
          case measure => simp [intOf]; omega
      · go_wp2_with fail
        go_ret2
        exact ⟨ret_pair (by rw [unqS, HT.out, List.drop_of_length_le (by have := size_len s; omega)]; rfl) (by rw [unqE, HT.out, List.drop_of_length_le (by have := size_len s; omega)]; rfl), rfl⟩
end Go.Proofs.Ytonioemenjjajaa
