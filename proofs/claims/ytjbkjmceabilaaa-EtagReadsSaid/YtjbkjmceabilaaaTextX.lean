/- The statements of layer 1 that ask the library, too: a list's pieces as one text; the closed examples. -/
import Derived.Lib.Join
import Derived.Test.YtjbkjmceabilaaaTextW
import Derived.Test.YtjbkjmceabilaaaShelf
namespace Go.Proofs.Ytjbkjmceabilaaa
open Go.RowKit

def pieceT (l : List UInt8) (sep : UInt8) : List UInt8 :=
  if splitE l sep = 0 then Lib.join (splitL l sep) [124] else [101, 114, 114, 111, 114, 32] ++ [UInt8.ofNat (48 + splitE l sep).toNat]
def pieceI (l : List UInt8) (p : Int) : List UInt8 := pieceT l (UInt8.ofNat p.toNat)

theorem splitE_cases (l : List UInt8) (sep : UInt8) : splitE l sep = 0 ∨ (splitE l sep = 2 ∨ splitE l sep = 3 ∨ splitE l sep = 4) := by
  unfold splitE
  split
  · exact .inr (.inl rfl)
  · split
    · exact .inr (.inr (.inr rfl))
    · split
      · exact .inr (.inr (.inl rfl))
      · exact .inl rfl

theorem bs_lists (l : List (List UInt8)) : (l.map bs).map (fun x => x.data.toList) = l := by
  rw [List.map_map]
  have : (fun x : ByteArray => x.data.toList) ∘ bs = id := by funext x; simp
  rw [this, List.map_id]


theorem splitL_len (l : List UInt8) (sep : UInt8) : (splitL l sep).length ≤ 64 := by
  unfold splitL
  split
  · simp
  · split
    · simp
    · split
      · simp
      · omega

theorem cutAt_len {sep : UInt8} : ∀ (l : List UInt8) (o e : Bool) (cur : List UInt8) (A R : List (List UInt8)), cutAt sep l o e cur A = some R → R.flatten.length ≤ A.flatten.length + cur.length + l.length
  | [], o, e, cur, A, R, h => by
    unfold cutAt at h
    split at h
    · cases h
    · cases h
      unfold addP
      have := trim_le cur
      split <;> simp <;> omega
  | c :: r, o, e, cur, A, R, h => by
    unfold cutAt at h
    split at h
    · have h1 := cutAt_len r _ _ _ _ _ h
      have h2 : (addP A cur).flatten.length ≤ A.flatten.length + cur.length := by
        unfold addP
        have := trim_le cur
        split <;> simp <;> omega
      simp only [List.length_nil, List.length_cons] at h1 ⊢
      omega
    · have h1 := cutAt_len r _ _ _ _ _ h
      simp only [List.length_append, List.length_cons, List.length_nil] at h1 ⊢
      omega
theorem splitL_flat (l : List UInt8) (sep : UInt8) : (splitL l sep).flatten.length ≤ l.length := by
  unfold splitL
  split
  · simp
  · split
    · simp
    · rename_i a h
      split
      · simp
      · have := cutAt_len _ _ _ _ _ _ h; simpa using this
theorem inter_len (c : UInt8) : ∀ L : List (List UInt8), (Lib.join L [c]).length ≤ L.flatten.length + L.length
  | [] => by simp [Lib.join, List.intercalate]
  | [x] => by simp [Lib.join, List.intercalate]
  | x :: y :: r => by
    have h := inter_len c (y :: r)
    have e : Lib.join (x :: y :: r) [c] = x ++ [c] ++ Lib.join (y :: r) [c] := by simp [Lib.join, List.intercalate]
    rw [e]
    simp only [List.length_append, List.flatten_cons, List.length_cons, List.length_nil] at h ⊢
    omega

end Go.Proofs.Ytjbkjmceabilaaa
