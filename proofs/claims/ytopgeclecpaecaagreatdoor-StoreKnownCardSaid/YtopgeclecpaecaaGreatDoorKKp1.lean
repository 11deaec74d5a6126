/- Plain: what is kept of entries, twice told; what is done keeps the rows under the keys in step. No program is read here. -/
import Derived.Test.YtopgeclecpaecaaGreatDoorKKp0
namespace Go.Proofs.YtopgeclecpaecaaGreatDoor
section
variable {α β : Type}
/-- two lists of what is kept: the same keys and sizes, values that belong together -/
def Sim (P : α → β → Prop) : List (It α) → List (It β) → Prop
  | [], [] => True
  | a :: A, y :: l => (a.1 = y.1 ∧ a.2.1 = y.2.1 ∧ P a.2.2 y.2.2) ∧ Sim P A l
  | [], _ :: _ => False
  | _ :: _, [] => False
variable {P Q : α → β → Prop}
theorem Sim.mono : ∀ {A : List (It α)} {l : List (It β)}, Sim P A l → (∀ a b, P a b → Q a b) → Sim Q A l
  | [], [], _, _ => trivial
  | _ :: _, _ :: _, h, k => ⟨⟨h.1.1, h.1.2.1, k _ _ h.1.2.2⟩, h.2.mono k⟩
  | [], _ :: _, h, _ => h.elim
  | _ :: _, [], h, _ => h.elim
theorem Sim.keys : ∀ {A : List (It α)} {l : List (It β)}, Sim P A l → keysK A = keysK l
  | [], [], _ => rfl
  | a :: A, y :: l, h => by
    show a.1 :: keysK A = y.1 :: keysK l
    rw [h.1.1, Sim.keys h.2]
  | [], _ :: _, h => h.elim
  | _ :: _, [], h => h.elim
theorem Sim.len {A : List (It α)} {l : List (It β)} (h : Sim P A l) : A.length = l.length := by
  have := congrArg List.length h.keys
  simpa [keysK] using this
theorem Sim.tot : ∀ {A : List (It α)} {l : List (It β)}, Sim P A l → totK A = totK l
  | [], [], _ => rfl
  | a :: A, y :: l, h => by
    show a.2.1 + totK A = y.2.1 + totK l
    rw [h.1.2.1, Sim.tot h.2]
  | [], _ :: _, h => h.elim
  | _ :: _, [], h => h.elim
theorem Sim.has {A : List (It α)} {l : List (It β)} (h : Sim P A l) (k : List UInt8) : hasK k A = hasK k l := by
  rw [Bool.eq_iff_iff, hasK_iff, hasK_iff, h.keys]
theorem Sim.filter {p : List UInt8 → Bool} : ∀ {A : List (It α)} {l : List (It β)}, Sim P A l → Sim P (A.filter fun a => p a.1) (l.filter fun y => p y.1)
  | [], [], _ => trivial
  | a :: A, y :: l, h => by
    rw [List.filter_cons, List.filter_cons, ← h.1.1]
    by_cases hp : p a.1 = true
    · rw [if_pos hp, if_pos hp]; exact ⟨h.1, Sim.filter h.2⟩
    · rw [if_neg hp, if_neg hp]; exact Sim.filter h.2
  | [], _ :: _, h => h.elim
  | _ :: _, [], h => h.elim
theorem Sim.drop {A : List (It α)} {l : List (It β)} (h : Sim P A l) (k : List UInt8) : Sim P (dropK k A) (dropK k l) := h.filter (p := fun x => !(x == k))
theorem Sim.append : ∀ {A B : List (It α)} {l m : List (It β)}, Sim P A l → Sim P B m → Sim P (A ++ B) (l ++ m)
  | [], _, [], _, _, k => k
  | _ :: _, _, _ :: _, _, h, k => ⟨h.1, Sim.append h.2 k⟩
  | [], _, _ :: _, _, h, _ => h.elim
  | _ :: _, _, [], _, h, _ => h.elim
theorem Sim.room (n m s : Nat) : ∀ {A : List (It α)} {l : List (It β)}, Sim P A l → (roomK n m s A).1 = (roomK n m s l).1 ∧ Sim P (roomK n m s A).2 (roomK n m s l).2
  | [], [], _ => ⟨rfl, trivial⟩
  | a :: A, y :: l, h => by
    obtain ⟨h1, h2⟩ := Sim.room n m s h.2
    unfold roomK
    rw [h.2.len, h.2.tot, h.1.2.1, h.1.1]
    split
    · exact ⟨by rw [h1], h2⟩
    · exact ⟨rfl, ⟨rfl.trans h.1.1, h.1.2.1, h.1.2.2⟩, h.2⟩
  | [], _ :: _, h => h.elim
  | _ :: _, [], h => h.elim
theorem Sim.put {A : List (It α)} {l : List (It β)} (h : Sim P A l) (n m : Nat) (k : List UInt8) (s : Nat) (a : α) (b : β) (hab : P a b) : (putK n m k s a A).1 = (putK n m k s b l).1 ∧ Sim P (putK n m k s a A).2 (putK n m k s b l).2 := by
  unfold putK
  rw [h.has k]
  split
  · exact ⟨rfl, h.drop k⟩
  · obtain ⟨h1, h2⟩ := (h.drop k).room n m s
    exact ⟨h1, h2.append ⟨⟨rfl, rfl, hab⟩, trivial⟩⟩
theorem Sim.find (k : List UInt8) : ∀ {A : List (It α)} {l : List (It β)}, Sim P A l → (findK k A = none ∧ findK k l = none) ∨ ∃ a y, findK k A = some a ∧ findK k l = some y ∧ a.1 = y.1 ∧ a.2.1 = y.2.1 ∧ P a.2.2 y.2.2
  | [], [], _ => .inl ⟨rfl, rfl⟩
  | a :: A, y :: l, h => by
    unfold findK
    rw [List.find?_cons, List.find?_cons, ← h.1.1]
    cases hk : (a.1 == k)
    · simp only
      exact Sim.find k h.2
    · simp only
      exact .inr ⟨a, y, rfl, rfl, h.1⟩
  | [], _ :: _, h => h.elim
  | _ :: _, [], h => h.elim
theorem Sim.get {A : List (It α)} {l : List (It β)} (h : Sim P A l) (k : List UInt8) : Sim P (getK k A) (getK k l) := by
  unfold getK
  rcases h.find k with ⟨h1, h2⟩ | ⟨a, y, h1, h2, h3⟩
  · rw [h1, h2]; exact h
  · rw [h1, h2]; exact (h.drop k).append ⟨h3, trivial⟩
end

/-! ### rows under the keys -/
/-- each is what its key and its entry say -/
def Of (A : List (It He)) : Prop := ∀ a ∈ A, a = itH a.2.2
theorem Of.sub {A B : List (It He)} (h : Of B) (hs : ∀ a ∈ A, a ∈ B) : Of A := fun a ha => h a (hs a ha)
theorem rowS_append (A B : List (It He)) (k : List UInt8) : rowS (A ++ B) k = rowS A k ++ rowS B k := by simp [rowS]
theorem rowS_cons (a : It He) (A : List (It He)) (k : List UInt8) : rowS (a :: A) k = (if a.2.2.key == k then [a.1] else []) ++ rowS A k := by
  unfold rowS
  rw [List.filter_cons]
  split <;> simp
theorem rowS_sub (A : List (It He)) (k : List UInt8) : ∀ i ∈ rowS A k, i ∈ keysK A := fun i hi => by
  obtain ⟨a, ha, rfl⟩ := List.mem_map.1 hi
  exact List.mem_map.2 ⟨a, (List.mem_filter.1 ha).1, rfl⟩
/-- one goes: its row is without it -/
theorem rowS_mid {xs zs : List (It He)} {a : It He} (hnd : (keysK (xs ++ a :: zs)).Nodup) : ∃ us vs, rowS (xs ++ a :: zs) a.2.2.key = us ++ a.1 :: vs ∧ a.1 ∉ us ∧ (us ++ a.1 :: vs).erase a.1 = us ++ vs ∧ ∀ k, rowS (xs ++ zs) k = if k = a.2.2.key then us ++ vs else rowS (xs ++ a :: zs) k := by
  have hx : a.1 ∉ keysK xs := fun h => by
    rw [keysK_append, List.nodup_append] at hnd
    exact hnd.2.2 a.1 h a.1 (by simp [keysK]) rfl
  have hu : a.1 ∉ rowS xs a.2.2.key := fun h => hx (rowS_sub _ _ _ h)
  refine ⟨rowS xs a.2.2.key, rowS zs a.2.2.key, ?_, hu, ?_, ?_⟩
  · rw [rowS_append, rowS_cons, if_pos (by simp)]; simp
  · rw [List.erase_append_right _ hu, List.erase_cons_head]
  · intro k
    by_cases e : k = a.2.2.key
    · rw [if_pos e, e, rowS_append]
    · rw [if_neg e, rowS_append, rowS_append, rowS_cons, if_neg (by simpa using Ne.symm e)]; simp
/-- an element that is used stands last -/
theorem rowS_moved {xs zs : List (It He)} {a : It He} (k : List UInt8) : rowS (xs ++ zs ++ [a]) k = if k = a.2.2.key then rowS xs k ++ rowS zs k ++ [a.1] else rowS (xs ++ a :: zs) k := by
  by_cases e : k = a.2.2.key
  · rw [if_pos e, rowS_append, rowS_append, rowS_cons, if_pos (by simp [e])]; simp [rowS]
  · rw [if_neg e, rowS_append, rowS_append, rowS_append, rowS_cons, rowS_cons, if_neg (by simpa using Ne.symm e)]; simp [rowS]
theorem rowS_drop (A : List (It He)) (key k : List UInt8) : rowS (dropS A key) k = if k = key then [] else rowS A k := by
  unfold rowS dropS
  rw [List.filter_filter]
  by_cases e : k = key
  · rw [if_pos e]
    have : (A.filter fun a => (a.2.2.key == k) && !(a.2.2.key == key)) = [] := by
      rw [List.filter_eq_nil_iff]
      intro a _
      simp [e]
    rw [this]; rfl
  · rw [if_neg e]
    congr 1
    apply List.filter_congr
    intro a _
    by_cases h : a.2.2.key = k
    · simp [h, e]
    · simp [h]
theorem of_id {A : List (It He)} (h : Of A) {a b : It He} (ha : a ∈ A) (hb : b ∈ A) (e : a.1 = b.1) : a.2.2.key = b.2.2.key := by
  have h1 := h a ha
  have h2 := h b hb
  rw [h1, h2] at e
  exact (idT_inj e).1
/-- who has an id -/
theorem of_has {A : List (It He)} (h : Of A) {k : List UInt8} {l : List Fld} {xs zs : List (It He)} {a : It He} (hA : A = xs ++ a :: zs) (ha : a.1 = idT k l) : a.2.2.key = k := by
  have h1 := h a (by rw [hA]; simp)
  rw [h1] at ha
  exact (idT_inj ha).1
/-! ### put -/
theorem put_again {α : Type} (n m : Nat) (k : List UInt8) (s : Nat) (x : α) (l : List (It α)) : (putK n m k s x (dropK k l)).2 = (putK n m k s x l).2 := by
  unfold putK
  rw [dropK_none (dropK_keys k l)]
  split <;> rfl
theorem put_split {α : Type} (n m : Nat) (k : List UInt8) (s : Nat) (x : α) (l : List (It α)) : ∃ xs rest, dropK k l = xs ++ rest ∧ (putK n m k s x (dropK k l)).1 = keysK xs ∧ (putK n m k s x (dropK k l)).2 = if m < s then rest else rest ++ [(k, s, x)] := by
  unfold putK
  rw [dropK_none (dropK_keys k l)]
  split
  · exact ⟨[], dropK k l, rfl, by rw [hasK_false.2 (dropK_keys k l)]; rfl, rfl⟩
  · obtain ⟨xs, h1, h2⟩ := roomK_suffix n m s (dropK k l)
    exact ⟨xs, _, h1, h2, rfl⟩
theorem rowS_snoc (A : List (It He)) (a : It He) : rowS (A ++ [a]) = fun j => if j = a.2.2.key then rowS A j ++ [a.1] else rowS A j := by
  funext j
  rw [rowS_append, rowS_cons]
  by_cases e : j = a.2.2.key
  · rw [if_pos e, if_pos (by simp [e])]; simp [rowS]
  · rw [if_neg e, if_neg (by simpa using Ne.symm e)]; simp [rowS]
end Go.Proofs.YtopgeclecpaecaaGreatDoor
