/- Texts put in quotes: the text layer's function and the document's own. -/
import Derived.Test.YtfjikkaejhihkaaTextC
namespace Go.Proofs.Ytfjikkaejhihkaa
open Go.RowKit

theorem ret_pair {a b : ByteArray} {x y : Int} (h : a = b) (k : x = y) : Ending.returned (.tuple #[.string a, .int .i64 x]) = .returned (.tuple #[.string b, .int .i64 y]) := by rw [h, k]

set_option maxHeartbeats 1000000 in
theorem quote_any (s : ByteArray) (w : World) (hs : s.size ≤ 4294967296) :
    Calls Try.prog 19 #[.string s] w fun e w' => e = .returned (.tuple #[.string (bs (quoteS s.data.toList)), .int .i64 (quoteE s.data.toList)]) ∧ Below w.heap.size w w' := by
  go_enter Try.func19, Try.ntmps19
  go_wp2_with fail
  go_loopw [4, 10] (fun v i wr => ∃ k : Nat, k ≤ s.size ∧ i = .int .i64 k ∧ (s.data.toList.take k).all mayB = true ∧ ownB wr w.heap.size v (34 :: quoteB (s.data.toList.take k)) ∧ Below w.heap.size w wr) (fun _ i _ => s.size - (intOf i).toNat)
  case atStart => exact ⟨0, Nat.zero_le _, rfl, rfl, ownB_lit _ _ _ 34 rfl (Nat.le_refl _), (Below.refl _ _).alloc (Nat.le_refl _) _⟩
  case round =>
    obtain ⟨k, hk, rfl, hall, hown, hbel⟩ := hrel
    have HO := Lib.hid hown; clear hown
    have HB := Lib.hid hbel; clear hbel
    have HA := Lib.hid hall; clear hall
    have HL : Hid ((34 :: quoteB (s.data.toList.take k)).length + 2 ≤ 140737488355328) := by
      have := quoteB_len (s.data.toList.take k)
      have h2 : (s.data.toList.take k).length ≤ k := List.length_take_le _ _
      show _ ≤ _
      simp only [List.length_cons]; omega
    have hlen : (34 :: quoteB (s.data.toList.take k)).length + 2 ≤ 140737488355328 := HL.out
    by_cases hlt : k < s.size
    · cases hb : mayB s[k]
      · have hm : mayI (s[k].toNat : Int) = false := hb
        have HN := Lib.hid (all_not s mayB k hlt hb); clear hb hlen
        go_wp2_with (go_at_call 33; refine (quotable_any _ _).mono ?_; rintro e w' ⟨rfl, rfl⟩)
        go_ret2
        exact ⟨ret_pair (by rw [quoteS, HN.out]; rfl) (by rw [quoteE, HN.out]; rfl), HB.out⟩
      · have hm : mayI (s[k].toNat : Int) = true := hb
        have HN := Lib.hid (all_snoc s mayB k hlt HA.out hb); clear hb hlen
        by_cases hq : (s[k].toNat : Int) = 34 ∨ (s[k].toNat : Int) = 92
        · have HS : Hid (34 :: quoteB (s.data.toList.take k) ++ [92] ++ [s[k]] = 34 :: quoteB (s.data.toList.take (k + 1))) := by
            show _ = _; rw [take_snoc s k hlt, quoteB_mark _ _ hq]; simp
          have hq2 : ((s[k].toNat : Int) == 34) = true ∨ (((s[k].toNat : Int) == 34) = false ∧ ((s[k].toNat : Int) == 92) = true) := by simp; omega
          clear hq
          rcases hq2 with hq | ⟨hq, hq2⟩
          all_goals
            go_wp2_with (first | (go_at_call 33; refine (quotable_any _ _).mono ?_; rintro e w' ⟨rfl, rfl⟩) | (at_builtin; refine wpList_appB rfl (.tmp 25) (.tmp 26) rfl w.heap.size w.heap.size _ _ _ 92 rfl HO.out HB.out (Nat.le_refl _) HB.out.size rfl rfl (Nat.le_of_succ_le HL.out) ?_; intro v' w' HO' HB' _) | (at_builtin; refine wpList_appB rfl (.tmp 28) (.tmp 30) rfl w.heap.size w.heap.size _ _ _ s[k] rfl HO'.out HB'.out (Nat.le_refl _) HB'.out.size rfl rfl (by rw [List.length_append]; exact HL.out) ?_; intro v' w' HO2 HB2 _))
            go_roundw
            case rel => exact ⟨k + 1, by omega, by go_num, HN.out, by rw [← HS.out]; exact HO2.out, HB2.out⟩
            case measure => simp [intOf]; omega
        · have HS : Hid (34 :: quoteB (s.data.toList.take k) ++ [s[k]] = 34 :: quoteB (s.data.toList.take (k + 1))) := by
            show _ = _; rw [take_snoc s k hlt, quoteB_plain _ _ (fun h => hq (.inl h)) (fun h => hq (.inr h))]; simp
          have hq2 : ((s[k].toNat : Int) == 34) = false ∧ ((s[k].toNat : Int) == 92) = false := by simp; omega
          clear hq
          obtain ⟨hq, hq2⟩ := hq2
          go_wp2_with (first | (go_at_call 33; refine (quotable_any _ _).mono ?_; rintro e w' ⟨rfl, rfl⟩) | (at_builtin; refine wpList_appB rfl (.tmp 28) (.tmp 30) rfl w.heap.size w.heap.size _ _ _ s[k] rfl HO.out HB.out (Nat.le_refl _) HB.out.size rfl rfl (Nat.le_of_succ_le HL.out) ?_; intro v' w' HO2 HB2 _))
          go_roundw
          case rel => exact ⟨k + 1, by omega, by go_num, HN.out, by rw [← HS.out]; exact HO2.out, HB2.out⟩
          case measure => simp [intOf]; omega
    · clear hlen
      have HN : Hid (s.data.toList.all mayB = true) := by have h := HA.out; rw [take_all hlt] at h; exact h
      have HQ : Hid (bs (34 :: quoteB (s.data.toList.take k) ++ [34]) = bs (quoteS s.data.toList)) := by show _ = _; rw [take_all hlt, quoteS, HN.out]; rfl
      go_wp2_with (at_builtin; refine wpList_appB rfl (.tmp 33) (.tmp 34) rfl w.heap.size w.heap.size _ _ _ 34 rfl HO.out HB.out (Nat.le_refl _) HB.out.size rfl rfl (Nat.le_of_succ_le HL.out) ?_; intro v' w' HO2 HB2 _; have hback := HO2.out.back)
      go_ret2
      exact ⟨ret_pair (by rw [← HQ.out]; rfl) (by rw [quoteE, HN.out]; rfl), HB2.out⟩
end Go.Proofs.Ytfjikkaejhihkaa
