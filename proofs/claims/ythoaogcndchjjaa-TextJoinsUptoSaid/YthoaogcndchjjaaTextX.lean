/- The statements of layer 1 that ask the library, too: a list's pieces as one text; the closed examples. -/
import Derived.Test.YthoaogcndchjjaaTextW
import Derived.Test.YthoaogcndchjjaaShelf
namespace Go.Proofs.Ythoaogcndchjjaa
open Go.RowKit

def pieceT (l : List UInt8) (sep : UInt8) : List UInt8 :=
  if splitE l sep = 0 then Lib.join (splitL l sep) [124] else [101, 114, 114, 111, 114, 32] ++ [UInt8.ofNat (48 + splitE l sep).toNat]
def pieceI (l : List UInt8) (p : Int) : List UInt8 := pieceT l (UInt8.ofNat p.toNat)

theorem splitE_cases (l : List UInt8) (sep : UInt8) : splitE l sep = 0 ∨ (splitE l sep = 2 ∨ splitE l sep = 3 ∨ splitE l sep = 4) := by
  unfold splitE
  split
  · exact .inr (.inl rfl)
  · split
    · exact .inr (.inr (.inr rfl))
    · split
      · exact .inr (.inr (.inl rfl))
      · exact .inl rfl

theorem bs_lists (l : List (List UInt8)) : (l.map bs).map (fun x => x.data.toList) = l := by
  rw [List.map_map]
  have : (fun x : ByteArray => x.data.toList) ∘ bs = id := by funext x; simp
  rw [this, List.map_id]

/-- 'strings.Join' of a slice of the call's own. -/
theorem join_any (B : Nat) (v : Value) (L : List (List UInt8)) (sep : ByteArray) (w : World) (h : ownS w B v L) (hl : L.length ≤ 4294967296) (hlen : (Lib.join L sep.data.toList).length ≤ 140737488355328) :
    Calls Try.prog 32 #[v, .string sep] w fun e w' => e = .returned (.string (bs (Lib.join L sep.data.toList))) ∧ Below w.heap.size w w' := by
  rcases h.2 with ⟨rfl, hn⟩ | ⟨g, cap, cur, rfl, hb, hg, hnc, r⟩
  · have : L = [] := List.eq_nil_of_length_eq_zero hn
    subst this
    refine (Try.strings_Join_none none 0 sep w).mono ?_
    rintro e w' ⟨rfl, rfl⟩
    exact ⟨rfl, Below.refl _ _⟩
  · have hc := Try.strings_Join g 0 cap (L.map bs) sep w (fun j x hx => by
      have hj : j < L.length := by
        have := (List.getElem?_eq_some_iff.1 hx).1; simpa using this
      have h1 := World.ownsRow.cells h (g := g) rfl j (.string x) (by
        simp only [strCs, List.getElem?_map] at hx ⊢
        rw [List.getElem?_eq_getElem hj] at hx ⊢
        simp at hx ⊢; exact hx)
      rw [show (⟨g, 0, none⟩ : Addr).add j = ⟨g, 0 + j, none⟩ from by unfold Addr.add; split <;> simp_all] at h1
      exact h1) (Array.getElem?_eq_some_iff.1 hg).1 (by rw [List.length_map]; omega) (by rw [List.length_map]; exact hnc) (by rw [bs_lists]; exact hlen)
    rw [bs_lists, List.length_map] at hc
    exact hc

theorem splitL_len (l : List UInt8) (sep : UInt8) : (splitL l sep).length ≤ 64 := by
  unfold splitL
  split
  · simp
  · split
    · simp
    · split
      · simp
      · omega

theorem cutAt_len {sep : UInt8} : ∀ (l : List UInt8) (o e : Bool) (cur : List UInt8) (A R : List (List UInt8)), cutAt sep l o e cur A = some R → R.flatten.length ≤ A.flatten.length + cur.length + l.length
  | [], o, e, cur, A, R, h => by
    unfold cutAt at h
    split at h
    · cases h
    · cases h
      unfold addP
      have := trim_le cur
      split <;> simp <;> omega
  | c :: r, o, e, cur, A, R, h => by
    unfold cutAt at h
    split at h
    · have h1 := cutAt_len r _ _ _ _ _ h
      have h2 : (addP A cur).flatten.length ≤ A.flatten.length + cur.length := by
        unfold addP
        have := trim_le cur
        split <;> simp <;> omega
      simp only [List.length_nil, List.length_cons] at h1 ⊢
      omega
    · have h1 := cutAt_len r _ _ _ _ _ h
      simp only [List.length_append, List.length_cons, List.length_nil] at h1 ⊢
      omega
theorem splitL_flat (l : List UInt8) (sep : UInt8) : (splitL l sep).flatten.length ≤ l.length := by
  unfold splitL
  split
  · simp
  · split
    · simp
    · rename_i a h
      split
      · simp
      · have := cutAt_len _ _ _ _ _ _ h; simpa using this
theorem inter_len (c : UInt8) : ∀ L : List (List UInt8), (Lib.join L [c]).length ≤ L.flatten.length + L.length
  | [] => by simp [Lib.join, List.intercalate]
  | [x] => by simp [Lib.join, List.intercalate]
  | x :: y :: r => by
    have h := inter_len c (y :: r)
    have e : Lib.join (x :: y :: r) [c] = x ++ [c] ++ Lib.join (y :: r) [c] := by simp [Lib.join, List.intercalate]
    rw [e]
    simp only [List.length_append, List.flatten_cons, List.length_cons, List.length_nil] at h ⊢
    omega

set_option maxHeartbeats 1000000 in
theorem pieces_any (s : ByteArray) (p : Int) (w : World) (hs : s.size ≤ 4294967296) (hp : 0 ≤ p) (hp2 : p ≤ 255) :
    Calls Try.prog 29 #[.string s, .int .u8 p] w fun e w' => e = .returned (.string (bs (pieceI s.data.toList p))) ∧ Below w.heap.size w w' := by
  obtain ⟨sep, rfl⟩ : ∃ sep : UInt8, p = (sep.toNat : Int) := ⟨UInt8.ofNat p.toNat, by simp; omega⟩
  clear hp hp2
  have hI : pieceI s.data.toList (sep.toNat : Int) = pieceT s.data.toList sep := by unfold pieceI; simp
  rw [hI]; clear hI
  have hT : Hid (pieceT s.data.toList sep = if splitE s.data.toList sep = 0 then Lib.join (splitL s.data.toList sep) [124] else [101, 114, 114, 111, 114, 32] ++ [UInt8.ofNat (48 + splitE s.data.toList sep).toNat]) := rfl
  generalize pieceT s.data.toList sep = T at *
  have HP := Lib.hid (split_any s sep w hs)
  have HJ : Hid ((Lib.join (splitL s.data.toList sep) [124]).length ≤ 140737488355328) := by
    have h1 := inter_len 124 (splitL s.data.toList sep)
    have h2 := splitL_flat s.data.toList sep
    have h3 := splitL_len s.data.toList sep
    rw [← size_len] at h2
    show _ ≤ _
    omega
  have HL : Hid ((splitL s.data.toList sep).length ≤ 4294967296) := Nat.le_trans (splitL_len _ _) (by decide)
  rcases splitE_cases s.data.toList sep with hE | hE
  · have hq := HP.out
    unfold SplitPost at hq
    rw [hE] at hT hq
    have HQ := Lib.hid hq; clear hq hE HP
    go_enter Try.func29, Try.ntmps29
    go_wp2_with (first
      | (go_at_call 24; refine HQ.out.mono ?_; rintro e w1 ⟨v1, rfl, ho1, hb1⟩; have HO1 := Lib.hid ho1; have HB1 := Lib.hid hb1; clear ho1 hb1)
      | (go_at_call 32; refine (join_any _ _ _ _ _ HO1.out HL.out HJ.out).mono ?_; rintro e w2 ⟨rfl, hb2⟩; have HB2 := Lib.hid hb2; clear hb2))
    go_ret
    exact ⟨ret_str (by rw [hT.out]; rfl), HB1.out.trans (HB2.out.mono HB1.out.size)⟩
  · have hq := HP.out
    unfold SplitPost at hq
    rcases hE with hE | hE | hE
    all_goals
      rw [hE] at hT hq
      have HQ := Lib.hid hq; clear hq hE HP
      go_enter Try.func29, Try.ntmps29
      go_wp2_with (go_at_call 24; refine HQ.out.mono ?_; rintro e w1 ⟨v1, rfl, ho1, hb1⟩; have HB1 := Lib.hid hb1; clear ho1 hb1; have hk2 := (ownB_lit w1 0 50 50 rfl (Nat.zero_le _)).back; have hk3 := (ownB_lit w1 0 51 51 rfl (Nat.zero_le _)).back; have hk4 := (ownB_lit w1 0 52 52 rfl (Nat.zero_le _)).back)
      go_ret
      exact ⟨ret_str (by rw [hT.out]; rfl), HB1.out.alloc HB1.out.size _⟩
end Go.Proofs.Ythoaogcndchjjaa
