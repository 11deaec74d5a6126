/- Bodies in chunks, plainly: a size line, a chunk, the last lines, the whole; what a body is in chunks. Nothing of the program is read here. -/
import Derived.Test.YtoengnefdndgfaaDoorFields1
import Derived.Lib.Strings
namespace Go.Proofs.YtoengnefdndgfaaDoor
/-- a hexadecimal digit: is it one, its value -/
def hexI (n : Int) : Int := if 48 ≤ n ∧ n ≤ 57 then n - 48 else if 97 ≤ n ∧ n ≤ 102 then n - 87 else if 65 ≤ n ∧ n ≤ 70 then n - 55 else -1
def hexB (c : UInt8) : Bool := decide (0 ≤ hexI (c.toNat : Int))
def hexD (c : UInt8) : Nat := (hexI (c.toNat : Int)).toNat
def hexN (l : List UInt8) : Nat := l.foldl (fun n c => 16 * n + hexD c) 0
def ignI (n : Int) : Bool := decide (n = 9 ∨ (32 ≤ n ∧ n ≤ 126))
def ignB (c : UInt8) : Bool := ignI (c.toNat : Int)
/-- a size line's size -/
def sizeN (s : List UInt8) : Option Nat :=
  if (Lib.cut s [59]).1 ≠ [] ∧ (Lib.cut s [59]).1.length ≤ 8 ∧ (Lib.cut s [59]).1.all hexB = true ∧ (Lib.cut s [59]).2.1.all ignB = true then some (hexN (Lib.cut s [59]).1) else none
/-- where a mark begins that ends within so many bytes; the error, if none does -/
def findL (s mark : List UInt8) (most : Nat) : Nat × Int :=
  if 0 ≤ Lib.index (s.take most) mark then ((Lib.index (s.take most) mark).toNat, 0) else if most ≤ s.length then (0, 3) else (0, 6)
/-- what a text is: the body, the bytes used, the trailers, the error -/
abbrev Dec := List UInt8 × Nat × List Fld × Int
def bad (e : Int) : Dec := ([], 0, [], e)
def behind (c : List UInt8) (k : Nat) (d : Dec) : Dec := if d.2.2.2 = 0 then (c ++ d.1, k + d.2.1, d.2.2.1, 0) else bad d.2.2.2
def endE (a : List UInt8) : Int := if Lib.hasPrefix a [13, 10] then 0 else if Lib.hasPrefix [13, 10] a then 6 else 4
/-- the size line at the head: the size, the bytes used, the error -/
def headL (r : List UInt8) (room : Nat) : Nat × Nat × Int :=
  if (findL r [13, 10] 2050).2 = 0 then
    match sizeN (r.take (findL r [13, 10] 2050).1) with
    | none => (0, 0, 4)
    | some n => if room < n then (0, 0, 3) else (n, (findL r [13, 10] 2050).1 + 2, 0)
  else (0, 0, (findL r [13, 10] 2050).2)
/-- so many bytes at the head: they, the bytes used, the error -/
def chunkL (t : List UInt8) (n : Nat) : List UInt8 × Nat × Int :=
  if t.length < n then ([], 0, 6) else if endE (t.drop n) = 0 then (t.take n, n + 2, 0) else ([], 0, endE (t.drop n))
/-- the last lines at the head: the fields, the bytes used, the error -/
def lastsL (t : List UInt8) : List Fld × Nat × Int :=
  if (findL (13 :: 10 :: t) [13, 10, 13, 10] 8194).2 = 0 then
    if (parseL (t.take (findL (13 :: 10 :: t) [13, 10, 13, 10] 8194).1)).2 = 0 then
      ((parseL (t.take (findL (13 :: 10 :: t) [13, 10, 13, 10] 8194).1)).1, (findL (13 :: 10 :: t) [13, 10, 13, 10] 8194).1 + 2, 0)
    else ([], 0, (parseL (t.take (findL (13 :: 10 :: t) [13, 10, 13, 10] 8194).1)).2)
  else ([], 0, (findL (13 :: 10 :: t) [13, 10, 13, 10] 8194).2)
def lastsD (t : List UInt8) : Dec := if (lastsL t).2.2 = 0 then ([], (lastsL t).2.1, (lastsL t).1, 0) else bad (lastsL t).2.2
/-- the whole, by a number of chunks that is not reached -/
def decF : Nat → List UInt8 → Nat → Dec
  | 0, _, _ => bad 6
  | k + 1, r, room =>
    if (headL r room).2.2 = 0 then
      if (headL r room).1 = 0 then behind [] (headL r room).2.1 (lastsD (r.drop (headL r room).2.1))
      else
        behind [] (headL r room).2.1 (
          if (chunkL (r.drop (headL r room).2.1) (headL r room).1).2.2 = 0 then
            behind (chunkL (r.drop (headL r room).2.1) (headL r room).1).1 (chunkL (r.drop (headL r room).2.1) (headL r room).1).2.1
              (decF k ((r.drop (headL r room).2.1).drop (chunkL (r.drop (headL r room).2.1) (headL r room).1).2.1) (room - (headL r room).1))
          else bad (chunkL (r.drop (headL r room).2.1) (headL r room).1).2.2)
    else bad (headL r room).2.2
def decL (r : List UInt8) (room : Nat) : Dec := decF (r.length + 1) r room
def bytesD (t : List UInt8) (n room : Nat) : Dec :=
  if (chunkL t n).2.2 = 0 then behind (chunkL t n).1 (chunkL t n).2.1 (decL (t.drop (chunkL t n).2.1) (room - n)) else bad (chunkL t n).2.2
def roomOf (most : Int) : Nat := (min (max most 0) 262144).toNat
def decodeL (s : List UInt8) (most : Int) : Dec := decL s (roomOf most)

theorem behind_bad {c : List UInt8} {k : Nat} {e : Int} (h : e ≠ 0) : behind c k (bad e) = bad e := by unfold behind bad; rw [if_neg h]
theorem behind_nil (d : Dec) (h : d.2.2.2 ≠ 0 → d = bad d.2.2.2) : behind [] 0 d = d := by
  unfold behind
  split
  · rename_i h0; obtain ⟨a, b, c, e⟩ := d; simp at h0 ⊢; exact h0.symm
  · rename_i h0; exact (h h0).symm
theorem behind_behind (a b : List UInt8) (j k : Nat) (d : Dec) : behind a j (behind b k d) = behind (a ++ b) (j + k) d := by
  unfold behind
  by_cases h : d.2.2.2 = 0
  · simp [h, Nat.add_assoc]
  · simp [h, bad]
theorem behind_err (c : List UInt8) (k : Nat) (d : Dec) : (behind c k d).2.2.2 = d.2.2.2 := by
  unfold behind; split
  · rename_i h; exact h.symm
  · rfl

theorem occ_iff (s sub : List UInt8) (i : Nat) : Lib.occAt s sub i = true ↔ ∀ j (h : j < sub.length), s[i + j]? = some sub[j] := by
  unfold Lib.occAt
  rw [List.isPrefixOf_iff_prefix, List.prefix_iff_getElem?]
  simp only [List.getElem?_drop]
theorem occ_room {s sub : List UInt8} {i : Nat} (h : Lib.occAt s sub i = true) (hs : sub ≠ []) : i + sub.length ≤ s.length := by
  rcases Lib.occAt_room h with h | h
  · exact h
  · exact absurd h hs
/-- an occurrence hangs on its own bytes -/
theorem occ_same {s t sub : List UInt8} {i m : Nat} (hm : i + sub.length ≤ m) (h : s.take m = t.take m) : Lib.occAt s sub i = Lib.occAt t sub i := by
  have key : ∀ (u v : List UInt8), u.take m = v.take m → Lib.occAt u sub i = true → Lib.occAt v sub i = true := by
    intro u v huv hu
    rw [occ_iff] at hu ⊢
    intro j hj
    have h1 := hu j hj
    have h2 : (u.take m)[i + j]? = some sub[j] := by rw [List.getElem?_take, if_pos (by omega)]; exact h1
    rw [huv, List.getElem?_take, if_pos (by omega)] at h2
    exact h2
  rw [Bool.eq_iff_iff]
  exact ⟨key _ _ h, key _ _ h.symm⟩
theorem occ_take {s sub : List UInt8} {i m : Nat} (hm : i + sub.length ≤ m) : Lib.occAt (s.take m) sub i = Lib.occAt s sub i :=
  occ_same hm (by rw [List.take_take]; simp)
theorem find_hit {s mark : List UInt8} {most : Nat} (hm : mark ≠ []) (h : (findL s mark most).2 = 0) :
    (findL s mark most).1 + mark.length ≤ most ∧ (findL s mark most).1 + mark.length ≤ s.length ∧ Lib.occAt s mark (findL s mark most).1 = true ∧ ∀ j, j < (findL s mark most).1 → Lib.occAt s mark j = false := by
  unfold findL at h ⊢
  split at h
  · rename_i h0
    rw [if_pos h0]
    rcases Lib.index_spec (s.take most) mark with ⟨h1, _⟩ | ⟨i, h1, h2, h3, h4⟩
    · omega
    · rw [h1]
      simp only [Int.toNat_natCast]
      have hr := occ_room h3 hm
      rw [List.length_take] at hr
      have h5 : i + mark.length ≤ most := by omega
      refine ⟨h5, by omega, ?_, fun j hj => ?_⟩
      · rw [← occ_take (m := most) h5]; exact h3
      · rw [← occ_take (m := most) (by omega)]; exact h4 j hj
  · split at h
    · exact absurd h (by decide)
    · exact absurd h (by decide)
theorem find_of {s mark : List UInt8} {most n : Nat} (hm : mark ≠ []) (h1 : n + mark.length ≤ most) (h2 : Lib.occAt s mark n = true) (h3 : ∀ j, j < n → Lib.occAt s mark j = false) : findL s mark most = (n, 0) := by
  have hr := occ_room h2 hm
  have h : Lib.index (s.take most) mark = n := Lib.index_first (by rw [List.length_take]; omega) (by rw [occ_take h1]; exact h2) (fun j hj => by rw [occ_take (by omega)]; exact h3 j hj)
  unfold findL
  rw [h, if_pos (by omega)]
  simp
theorem find_none {s mark : List UInt8} {most : Nat} (hm : mark ≠ []) (h : ∀ j, j + mark.length ≤ most → Lib.occAt s mark j = false) : findL s mark most = if most ≤ s.length then (0, 3) else (0, 6) := by
  have h0 : Lib.index (s.take most) mark = -1 := Lib.index_none fun j hj => by
    cases ho : Lib.occAt (s.take most) mark j
    · rfl
    · have hr := occ_room ho hm
      rw [List.length_take] at hr
      rw [occ_take (by omega), h j (by omega)] at ho
      exact absurd ho (by decide)
  unfold findL
  rw [h0, if_neg (by decide)]
theorem find_cases (s mark : List UInt8) (most : Nat) : (findL s mark most).2 = 0 ∨ (findL s mark most = (0, 3) ∧ most ≤ s.length) ∨ (findL s mark most = (0, 6) ∧ s.length < most) := by
  unfold findL
  split
  · exact .inl rfl
  · split
    · rename_i h; exact .inr (.inl ⟨rfl, h⟩)
    · rename_i h; exact .inr (.inr ⟨rfl, by omega⟩)

theorem hexI_lt (n : Int) : hexI n < 16 := by
  unfold hexI
  split
  · omega
  · split
    · omega
    · split <;> omega
theorem hexN_lt (l : List UInt8) : hexN l < 16 ^ l.length := by
  have key : ∀ (l : List UInt8) (n : Nat), l.foldl (fun n c => 16 * n + hexD c) n < (n + 1) * 16 ^ l.length := by
    intro l
    induction l with
    | nil => intro n; simp
    | cons c r ih =>
      intro n
      rw [List.foldl_cons, List.length_cons, Nat.pow_succ]
      have h : hexD c < 16 := by have := hexI_lt (c.toNat : Int); unfold hexD; omega
      have h1 := ih (16 * n + hexD c)
      have h2 : (16 * n + hexD c + 1) * 16 ^ r.length ≤ (16 * (n + 1)) * 16 ^ r.length := Nat.mul_le_mul_right _ (by omega)
      have h3 : (n + 1) * (16 ^ r.length * 16) = (16 * (n + 1)) * 16 ^ r.length := by rw [Nat.mul_comm (16 ^ r.length) 16, ← Nat.mul_assoc, Nat.mul_comm (n + 1) 16]
      rw [h3]
      exact Nat.lt_of_lt_of_le h1 h2
  have := key l 0
  simpa [hexN] using this
theorem sizeN_lt {s : List UInt8} {n : Nat} (h : sizeN s = some n) : n < 4294967296 := by
  unfold sizeN at h
  split at h
  · rename_i hc
    have h1 := hexN_lt (Lib.cut s [59]).1
    have h2 : 16 ^ (Lib.cut s [59]).1.length ≤ 16 ^ 8 := Nat.pow_le_pow_right (by decide) hc.2.1
    have h3 := Option.some.inj h
    have h4 : (16 : Nat) ^ 8 = 4294967296 := by decide
    omega
  · cases h
theorem sizeN_nil : sizeN [] = none := by decide

theorem head_ok {r : List UInt8} {room : Nat} (h : (headL r room).2.2 = 0) : 3 ≤ (headL r room).2.1 ∧ (headL r room).2.1 ≤ r.length ∧ (headL r room).1 ≤ room ∧
    ∃ f, findL r [13, 10] 2050 = (f, 0) ∧ sizeN (r.take f) = some (headL r room).1 ∧ (headL r room).2.1 = f + 2 := by
  unfold headL at h ⊢
  by_cases h0 : (findL r [13, 10] 2050).2 = 0
  · rw [if_pos h0] at h ⊢
    obtain ⟨f1, f2, f3, f4⟩ := find_hit (by simp) h0
    cases hs : sizeN (r.take (findL r [13, 10] 2050).1) with
    | none => rw [hs] at h; simp at h
    | some n =>
      rw [hs] at h
      simp only at h ⊢
      by_cases hr : room < n
      · rw [if_pos hr] at h; exact absurd h (by decide)
      · rw [if_neg hr]
        simp only [List.length_cons, List.length_nil] at f1 f2
        refine ⟨?_, by simp only; omega, by simp only; omega, _, Prod.ext rfl h0, hs, rfl⟩
        have : (findL r [13, 10] 2050).1 ≠ 0 := fun e => by rw [e, List.take_zero, sizeN_nil] at hs; cases hs
        simp only; omega
  · rw [if_neg h0] at h; exact absurd h h0
theorem chunk_ok {t : List UInt8} {n : Nat} (h : (chunkL t n).2.2 = 0) : (chunkL t n).1 = t.take n ∧ (chunkL t n).2.1 = n + 2 ∧ n + 2 ≤ t.length ∧ endE (t.drop n) = 0 := by
  unfold chunkL at h ⊢
  split at h
  · exact absurd h (by decide)
  · rename_i hl
    rw [if_neg hl]
    split at h
    · rename_i he
      rw [if_pos he]
      refine ⟨rfl, rfl, ?_, he⟩
      unfold endE at he
      split at he
      · rename_i hp
        have := (List.isPrefixOf_iff_prefix.1 hp).length_le
        rw [List.length_drop] at this
        simp only [List.length_cons, List.length_nil] at this
        omega
      · split at he <;> exact absurd he (by decide)
    · rename_i he; exact absurd h he
theorem lasts_ok {t : List UInt8} (h : (lastsL t).2.2 = 0) : 2 ≤ (lastsL t).2.1 ∧ (lastsL t).2.1 ≤ t.length := by
  unfold lastsL at h ⊢
  by_cases h0 : (findL (13 :: 10 :: t) [13, 10, 13, 10] 8194).2 = 0
  · rw [if_pos h0] at h ⊢
    obtain ⟨f1, f2, f3, f4⟩ := find_hit (by simp) h0
    simp only [List.length_cons, List.length_nil] at f1 f2
    split at h
    · rename_i hp
      rw [if_pos hp]
      exact ⟨by simp only; omega, by simp only; omega⟩
    · rename_i hp; exact absurd h hp
  · rw [if_neg h0] at h; exact absurd h h0

/-- the number makes no difference, if it is not reached -/
theorem decF_same : ∀ (k m : Nat) (r : List UInt8) (room : Nat), r.length < k → r.length < m → decF k r room = decF m r room := by
  intro k
  induction k with
  | zero => intro m r room h; omega
  | succ k ih =>
    intro m r room h hm
    obtain ⟨m, rfl⟩ : ∃ j, m = j + 1 := ⟨m - 1, by omega⟩
    unfold decF
    by_cases h1 : (headL r room).2.2 = 0
    · rw [if_pos h1, if_pos h1]
      obtain ⟨a1, a2, _⟩ := head_ok h1
      by_cases h2 : (headL r room).1 = 0
      · rw [if_pos h2, if_pos h2]
      · rw [if_neg h2, if_neg h2]
        by_cases h3 : (chunkL (r.drop (headL r room).2.1) (headL r room).1).2.2 = 0
        · rw [if_pos h3, if_pos h3]
          rw [ih m _ _ (by simp only [List.length_drop]; omega) (by simp only [List.length_drop]; omega)]
        · rw [if_neg h3, if_neg h3]
    · rw [if_neg h1, if_neg h1]
theorem decL_eq (r : List UInt8) (room : Nat) : decL r room = if (headL r room).2.2 = 0 then
      (if (headL r room).1 = 0 then behind [] (headL r room).2.1 (lastsD (r.drop (headL r room).2.1)) else behind [] (headL r room).2.1 (bytesD (r.drop (headL r room).2.1) (headL r room).1 room))
    else bad (headL r room).2.2 := by
  unfold decL
  rw [decF]
  by_cases h1 : (headL r room).2.2 = 0
  · rw [if_pos h1, if_pos h1]
    obtain ⟨a1, a2, _⟩ := head_ok h1
    by_cases h2 : (headL r room).1 = 0
    · rw [if_pos h2, if_pos h2]
    · rw [if_neg h2, if_neg h2]
      unfold bytesD decL
      by_cases h3 : (chunkL (r.drop (headL r room).2.1) (headL r room).1).2.2 = 0
      · rw [if_pos h3, if_pos h3]
        rw [decF_same r.length _ _ _ (by simp only [List.length_drop]; omega) (Nat.lt_succ_self _)]
      · rw [if_neg h3, if_neg h3]
  · rw [if_neg h1, if_neg h1]
/-- an error is all that there is -/
def plainD (d : Dec) : Prop := d.2.2.2 ≠ 0 → d = bad d.2.2.2
theorem plain_bad (e : Int) : plainD (bad e) := fun _ => rfl
theorem plain_behind (c : List UInt8) (k : Nat) (d : Dec) : plainD (behind c k d) := by
  intro h
  unfold behind at h ⊢
  split
  · rename_i h0; rw [if_pos h0] at h; exact absurd rfl h
  · rename_i h0; rfl
theorem plain_decL (r : List UInt8) (room : Nat) : plainD (decL r room) := by
  rw [decL_eq]
  split
  · split
    · exact plain_behind _ _ _
    · exact plain_behind _ _ _
  · exact plain_bad _
theorem plain_lastsD (t : List UInt8) : plainD (lastsD t) := by
  unfold lastsD
  split
  · intro h; exact absurd rfl h
  · exact plain_bad _
end Go.Proofs.YtoengnefdndgfaaDoor
