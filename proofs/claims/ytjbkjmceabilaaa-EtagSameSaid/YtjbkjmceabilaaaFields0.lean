/- Lists of header fields, plainly: names, values, what is set and taken out, the names that go no further. Nothing of the program is read here. -/
import Derived.Test.YtjbkjmceabilaaaText3
import Derived.Lib.Join
namespace Go.Proofs.Ytjbkjmceabilaaa
/-- a field: its name, its value -/
abbrev Fld := List UInt8 × List UInt8
def sameN (a b : List UInt8) : Bool := lower a == lower b
def valsL (l : List Fld) (n : List UInt8) : List (List UInt8) := (l.filter fun f => sameN f.1 n).map (·.2)
def getL (l : List Fld) (n : List UInt8) : List UInt8 := Lib.join (valsL l n) [44, 32]
def hasN (names : List (List UInt8)) (n : List UInt8) : Bool := names.any fun x => sameN x n
def delL (l : List Fld) (names : List (List UInt8)) : List Fld := l.filter fun f => !hasN names f.1
def setL : List Fld → List UInt8 → List UInt8 → List Fld
  | [], n, v => [(n, v)]
  | f :: r, n, v => if sameN f.1 n then (f.1, v) :: delL r [n] else f :: setL r n v
/-- the nine names -/
def nine : List (List UInt8) :=
  [[99,111,110,110,101,99,116,105,111,110], [107,101,101,112,45,97,108,105,118,101], [112,114,111,120,121,45,99,111,110,110,101,99,116,105,111,110], [116,101],
   [116,114,97,105,108,101,114], [116,114,97,110,115,102,101,114,45,101,110,99,111,100,105,110,103], [117,112,103,114,97,100,101],
   [112,114,111,120,121,45,97,117,116,104,101,110,116,105,99,97,116,101], [112,114,111,120,121,45,97,117,116,104,111,114,105,122,97,116,105,111,110]]
def conn : List UInt8 := [99,111,110,110,101,99,116,105,111,110]
def addN (acc : List (List UInt8)) (x : List UInt8) : List (List UInt8) := if token x then (if hasN acc x then acc else acc ++ [lower x]) else acc
def addV (acc : List (List UInt8)) (v : List UInt8) : List (List UInt8) := (splitL v 44).foldl addN acc
def hopL (l : List Fld) : List (List UInt8) := (valsL l conn).foldl addV nine
def cleanL (l : List Fld) : List Fld := delL l (hopL l)

theorem sameN_refl (a : List UInt8) : sameN a a = true := by simp [sameN]
theorem sameN_symm (a b : List UInt8) : sameN a b = sameN b a := by simp [sameN, Bool.beq_comm]
theorem sameN_eq {a b : List UInt8} (h : sameN a b = true) (c : List UInt8) : sameN a c = sameN b c := by
  have : lower a = lower b := by simpa [sameN] using h
  simp [sameN, this]
theorem sameN_eqR {a b : List UInt8} (h : sameN a b = true) (c : List UInt8) : sameN c a = sameN c b := by
  rw [sameN_symm c a, sameN_symm c b]; exact sameN_eq h c
theorem sameN_lower (a b : List UInt8) : sameN (lower a) b = sameN a b := by simp [sameN, lower_idem]
theorem hasN_one (n x : List UInt8) : hasN [n] x = sameN n x := by simp [hasN]
theorem hasN_of_same {names : List (List UInt8)} {a b : List UInt8} (h : sameN a b = true) : hasN names a = hasN names b := by
  unfold hasN
  congr 1
  funext x
  exact sameN_eqR h x

theorem filter_none {α : Type} {p : α → Bool} {l : List α} (h : ∀ x ∈ l, p x = false) : l.filter p = [] := by
  rw [List.filter_eq_nil_iff]; intro x hx; rw [h x hx]; simp
theorem filter_same {α : Type} {p q : α → Bool} {l : List α} (h : ∀ x ∈ l, p x = q x) : l.filter p = l.filter q := List.filter_congr h

theorem vals_del {l : List Fld} {names : List (List UInt8)} {n : List UInt8} (h : hasN names n = true) : valsL (delL l names) n = [] := by
  unfold valsL delL
  rw [List.filter_filter, filter_none (fun f _ => ?_)]; rfl
  cases hs : sameN f.1 n
  · rfl
  · rw [hasN_of_same hs, h]; rfl
theorem vals_del_other {l : List Fld} {names : List (List UInt8)} {n : List UInt8} (h : hasN names n = false) : valsL (delL l names) n = valsL l n := by
  unfold valsL delL
  rw [List.filter_filter]
  congr 1
  refine filter_same fun f _ => ?_
  cases hs : sameN f.1 n
  · rfl
  · rw [hasN_of_same hs, h]; rfl
theorem vals_cons (f : Fld) (l : List Fld) (n : List UInt8) : valsL (f :: l) n = if sameN f.1 n then f.2 :: valsL l n else valsL l n := by
  unfold valsL; rw [List.filter_cons]; split <;> simp
theorem vals_set (l : List Fld) (n v : List UInt8) : valsL (setL l n v) n = [v] := by
  induction l with
  | nil => simp [setL, valsL, sameN_refl]
  | cons f r ih =>
    unfold setL
    cases h : sameN f.1 n
    · simp only [Bool.false_eq_true, if_false]; rw [vals_cons, h]; simpa using ih
    · simp only [if_true]; rw [vals_cons]; simp only [h, if_true]
      rw [vals_del (by rw [hasN_one]; exact sameN_refl n)]
theorem vals_set_other {l : List Fld} {n v o : List UInt8} (h : sameN n o = false) : valsL (setL l n v) o = valsL l o := by
  induction l with
  | nil => simp [setL, valsL, h]
  | cons f r ih =>
    unfold setL
    cases hs : sameN f.1 n
    · simp only [Bool.false_eq_true, if_false]; rw [vals_cons, vals_cons, ih]
    · simp only [if_true]
      have hf : sameN f.1 o = false := (sameN_eq hs o).trans h
      rw [vals_cons, vals_cons]
      simp only [hf, Bool.false_eq_true, if_false]
      exact vals_del_other (by rw [hasN_one]; exact h)
theorem del_le (l : List Fld) (names : List (List UInt8)) : (delL l names).length ≤ l.length := List.length_filter_le _ _

/-- what stands ahead of the first field of a name -/
def firstN (l : List Fld) (n : List UInt8) : List Fld := l.takeWhile fun f => !sameN f.1 n
theorem set_none {l : List Fld} {n : List UInt8} (v : List UInt8) (h : l.any (fun f => sameN f.1 n) = false) : setL l n v = delL l [n] ++ [(n, v)] := by
  induction l with
  | nil => rfl
  | cons f r ih =>
    simp only [List.any_cons, Bool.or_eq_false_iff] at h
    unfold setL
    simp only [h.1, Bool.false_eq_true, if_false]
    have hd : delL (f :: r) [n] = f :: delL r [n] := by unfold delL; rw [List.filter_cons, hasN_one, sameN_symm, h.1]; rfl
    rw [hd, ih h.2]; rfl
theorem set_at {l : List Fld} {n : List UInt8} (v : List UInt8) : ∀ {k : Nat} (hk : k < l.length), sameN l[k].1 n = true → (∀ j (hj : j < k), sameN (l[j]'(by omega)).1 n = false) →
    setL l n v = (delL l [n]).take k ++ (l[k].1, v) :: (delL l [n]).drop k ∧ k ≤ (delL l [n]).length := by
  induction l with
  | nil => intro k hk; exact absurd hk (by simp)
  | cons f r ih =>
    intro k hk hs hn
    cases k with
    | zero =>
      unfold setL
      have hs' : sameN f.1 n = true := hs
      simp only [hs', if_true]
      have hd : delL (f :: r) [n] = delL r [n] := by unfold delL; rw [List.filter_cons, hasN_one, sameN_symm, hs']; rfl
      rw [hd]; simp
    | succ k =>
      have h0 : sameN f.1 n = false := hn 0 (by omega)
      have hd : delL (f :: r) [n] = f :: delL r [n] := by unfold delL; rw [List.filter_cons, hasN_one, sameN_symm, h0]; rfl
      obtain ⟨h1, h2⟩ := ih (k := k) (by simpa using hk) hs (fun j hj => hn (j + 1) (by omega))
      unfold setL
      simp only [h0, Bool.false_eq_true, if_false]
      rw [hd, h1]
      simp only [List.getElem_cons_succ, List.take_succ_cons, List.drop_succ_cons, List.cons_append, List.length_cons]
      exact ⟨trivial, by omega⟩

theorem any_of_has {names : List (List UInt8)} {x y : List UInt8} (hx : x ∈ names) (h : sameN x y = true) : hasN names y = true := by
  unfold hasN; rw [List.any_eq_true]; exact ⟨x, hx, h⟩
theorem addN_sub (acc : List (List UInt8)) (x : List UInt8) : ∀ y ∈ acc, y ∈ addN acc x := fun y hy => by
  unfold addN; split
  · split
    · exact hy
    · exact List.mem_append_left _ hy
  · exact hy
theorem addV_sub (v : List UInt8) : ∀ (acc : List (List UInt8)), ∀ y ∈ acc, y ∈ addV acc v := by
  unfold addV
  generalize splitL v 44 = p
  induction p with
  | nil => intro acc y hy; exact hy
  | cons x r ih => intro acc y hy; exact ih _ y (addN_sub acc x y hy)
theorem hops_sub (vs : List (List UInt8)) : ∀ (acc : List (List UInt8)), ∀ y ∈ acc, y ∈ vs.foldl addV acc := by
  induction vs with
  | nil => intro acc y hy; exact hy
  | cons v r ih => intro acc y hy; exact ih _ y (addV_sub v acc y hy)
theorem nine_hop (l : List Fld) : ∀ y ∈ nine, y ∈ hopL l := hops_sub _ nine
theorem conn_nine : conn ∈ nine := by simp [conn, nine]
theorem clean_none {l : List Fld} {x : List UInt8} (hx : x ∈ hopL l) : valsL (cleanL l) x = [] := vals_del (any_of_has hx (sameN_refl x))
theorem hop_clean (l : List Fld) : hopL (cleanL l) = nine := by
  rw [hopL, clean_none (nine_hop l conn conn_nine)]; rfl
theorem clean_clean (l : List Fld) : cleanL (cleanL l) = cleanL l := by
  have h : cleanL (cleanL l) = delL (cleanL l) nine := by rw [cleanL, hop_clean]
  rw [h]
  unfold delL
  rw [List.filter_eq_self]
  intro f hf
  have h1 : f ∈ delL l (hopL l) := hf
  rw [delL, List.mem_filter] at h1
  have h2 := h1.2
  rw [Bool.not_eq_true'] at h2 ⊢
  unfold hasN at h2 ⊢
  rw [List.any_eq_false] at h2 ⊢
  exact fun x hx => h2 x (nine_hop l x hx)

/-- names in small letters alone -/
def lows (acc : List (List UInt8)) : Prop := ∀ x ∈ acc, lower x = x
theorem lows_nine : lows nine := by
  intro x hx
  have h : nine.all (fun y => lower y == y) = true := by decide
  simpa using List.all_eq_true.1 h x hx
theorem lows_addN {acc : List (List UInt8)} (h : lows acc) (x : List UInt8) : lows (addN acc x) := by
  unfold addN
  split
  · split
    · exact h
    · intro y hy
      rcases List.mem_append.1 hy with hy | hy
      · exact h y hy
      · rw [List.mem_singleton.1 hy, lower_idem]
  · exact h
theorem lows_mem {acc : List (List UInt8)} (h : lows acc) (x : List UInt8) : hasN acc x = acc.any (fun y => y == lower x) := by
  unfold hasN
  rw [Bool.eq_iff_iff, List.any_eq_true, List.any_eq_true]
  constructor
  · rintro ⟨y, hy, h1⟩; exact ⟨y, hy, by rw [sameN, h y hy] at h1; exact h1⟩
  · rintro ⟨y, hy, h1⟩; exact ⟨y, hy, by rw [sameN, h y hy]; exact h1⟩

theorem join_snoc (L : List (List UInt8)) (x sep : List UInt8) (h : L ≠ []) : Lib.join (L ++ [x]) sep = Lib.join L sep ++ sep ++ x := by
  cases L with
  | nil => exact absurd rfl h
  | cons a r =>
    rw [List.cons_append, Lib.join_cons, Lib.join_cons]
    simp [Lib.joinTail]

/-- may a list be gone through -/
def sizeL (l : List Fld) : Nat := (l.map fun f => f.1.length + f.2.length).sum
def fewB (l : List Fld) : Bool := decide (l.length ≤ 80) && decide (sizeL l ≤ 12000)
theorem sizeL_cons (f : Fld) (l : List Fld) : sizeL (f :: l) = f.1.length + f.2.length + sizeL l := by simp [sizeL]
theorem sizeL_append (a b : List Fld) : sizeL (a ++ b) = sizeL a + sizeL b := by simp [sizeL]
theorem sizeL_mem {l : List Fld} {f : Fld} (h : f ∈ l) : f.1.length + f.2.length ≤ sizeL l := by
  induction l with
  | nil => cases h
  | cons g r ih =>
    rw [sizeL_cons]
    rcases List.mem_cons.1 h with rfl | h
    · omega
    · have := ih h; omega
theorem sizeL_filter (p : Fld → Bool) (l : List Fld) : sizeL (l.filter p) ≤ sizeL l := by
  induction l with
  | nil => exact Nat.le_refl _
  | cons f r ih => rw [List.filter_cons, sizeL_cons]; split
                   · rw [sizeL_cons]; omega
                   · omega
theorem vals_flat (l : List Fld) (n : List UInt8) : (valsL l n).flatten.length ≤ sizeL l := by
  induction l with
  | nil => simp [valsL]
  | cons f r ih =>
    rw [vals_cons, sizeL_cons]; split
    · simp only [List.flatten_cons, List.length_append]; omega
    · omega
theorem vals_len (l : List Fld) (n : List UInt8) : (valsL l n).length ≤ l.length := by unfold valsL; rw [List.length_map]; exact List.length_filter_le _ _
theorem get_len (l : List Fld) (n : List UInt8) : (getL l n).length ≤ sizeL l + 2 * l.length := by
  unfold getL
  have h : ∀ L : List (List UInt8), (Lib.join L [44, 32]).length ≤ L.flatten.length + 2 * L.length := by
    intro L
    cases L with
    | nil => simp [Lib.join_nil]
    | cons x r =>
      rw [Lib.join_cons, List.length_append, List.flatten_cons, List.length_append, List.length_cons]
      have : (Lib.joinTail [44, 32] r).length = r.flatten.length + 2 * r.length := by
        unfold Lib.joinTail
        induction r with
        | nil => rfl
        | cons y r ih => simp only [List.map_cons, List.flatten_cons, List.length_append, List.length_cons, ih, List.length_nil]; omega
      omega
  have h1 := h (valsL l n)
  have h2 := vals_flat l n
  have h3 := vals_len l n
  omega
end Go.Proofs.Ytjbkjmceabilaaa
