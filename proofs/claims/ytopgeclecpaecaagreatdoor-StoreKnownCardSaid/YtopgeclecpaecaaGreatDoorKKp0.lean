/- Plain: the text that stands for a key and a Vary; entries that are stored, and what is done with them. No program is read here. -/
import Derived.Test.YtopgeclecpaecaaGreatDoorKBud0
import Derived.Test.YtopgeclecpaecaaGreatDoorKPlain
import Derived.Lib.AtoiAll
import Derived.Lib.ItoaNum
import Derived.Lib.IndexMore
namespace Go.Proofs.YtopgeclecpaecaaGreatDoor
/-! ### numbers as digits -/
def decF (n : Nat) (l : List UInt8) : Nat := l.foldl (fun n c => n * 10 + (c.toNat - 48)) n
theorem decF_ge (l : List UInt8) : ∀ n, n ≤ decF n l := by
  induction l with
  | nil => intro n; exact Nat.le_refl _
  | cons c r ih => intro n; exact Nat.le_trans (by omega) (ih (n * 10 + (c.toNat - 48)))
theorem parse_digs (l : List UInt8) : ∀ acc, (∀ c ∈ l, 48 ≤ c.toNat ∧ c.toNat ≤ 57) → decF acc l < 9223372036854775808 → Lib.parseUint10 acc l = .ok (decF acc l) := by
  induction l with
  | nil => intro acc _ _; rfl
  | cons c r ih =>
    intro acc hd hl
    have hc := hd c (by simp)
    have h1 : decF acc (c :: r) = decF (acc * 10 + (c.toNat - 48)) r := rfl
    rw [h1] at hl ⊢
    have h2 := decF_ge r (acc * 10 + (c.toNat - 48))
    rw [Lib.parseUint10, if_pos hc, if_neg (by omega), if_neg (by omega)]
    exact ih _ (fun d hd' => hd d (List.mem_cons_of_mem _ hd')) hl
theorem digs_all (u : Nat) : (∀ c ∈ Lib.decDigits u, 48 ≤ c.toNat ∧ c.toNat ≤ 57) ∧ decF 0 (Lib.decDigits u) = u ∧ Lib.decDigits u ≠ [] := by
  have hd : ∀ d, d < 10 → (UInt8.ofNat (48 + d)).toNat = 48 + d := fun d h => by simp; omega
  induction u using Nat.strongRecOn with
  | _ u ih =>
    rw [Lib.decDigits]
    split
    · rename_i h
      have := hd u h
      refine ⟨fun c hc => ?_, ?_, by simp⟩
      · obtain rfl : c = UInt8.ofNat (48 + u) := by simpa using hc
        omega
      · show 0 * 10 + ((UInt8.ofNat (48 + u)).toNat - 48) = u; omega
    · obtain ⟨h1, h2, h3⟩ := ih (u / 10) (by omega)
      have h4 := hd (u % 10) (by omega)
      refine ⟨fun c hc => ?_, ?_, by simp⟩
      · rcases List.mem_append.1 hc with hc | hc
        · exact h1 c hc
        · obtain rfl : c = UInt8.ofNat (48 + u % 10) := by simpa using hc
          omega
      · unfold decF at h2 ⊢
        rw [List.foldl_append, h2]
        show u / 10 * 10 + ((UInt8.ofNat (48 + u % 10)).toNat - 48) = u
        omega
theorem atoi_digs (u : Nat) (hu : u < 9223372036854775808) : Lib.atoiAll (Lib.decDigits u) = .ok (u : Int) := by
  obtain ⟨h1, h2, h3⟩ := digs_all u
  have hp := parse_digs (Lib.decDigits u) 0 h1 (by rw [h2]; exact hu)
  rw [h2] at hp
  cases hd : Lib.decDigits u with
  | nil => exact absurd hd h3
  | cons c r =>
    have hc := h1 c (by rw [hd]; simp)
    rw [hd] at hp
    have e1 : ¬ c.toNat = 43 := by omega
    have e2 : ¬ c.toNat = 45 := by omega
    have e3 : ¬ 9223372036854775808 ≤ u := by omega
    have hm : Lib.parseMag (c :: r) = .ok u := by unfold Lib.parseMag; rw [if_neg (by simp), hp]
    simp [Lib.atoiAll, e1, e2, hm, e3]
theorem itoa_natK (n : Nat) : Lib.itoa (n : Int) = Lib.decDigits n := by unfold Lib.itoa; rw [if_neg (by omega)]; rfl
theorem digs_len (n : Nat) (h : n < 1000000) : (Lib.decDigits n).length ≤ 6 := by
  have key : ∀ k u : Nat, u < 10 ^ (k + 1) → (Lib.decDigits u).length ≤ k + 1 := by
    intro k
    induction k with
    | zero => intro u h; rw [Lib.decDigits, dif_pos (by simpa using h)]; simp
    | succ k ih =>
      intro u h
      rw [Lib.decDigits]
      split
      · simp
      · rw [List.length_append]
        have := ih (u / 10) (by rw [Nat.pow_succ] at h; omega)
        simp only [List.length_cons, List.length_nil]
        omega
  exact key 5 n (by omega)

/-! ### the text of a key and a Vary -/
def partK (p : List UInt8) : List UInt8 := Lib.decDigits p.length ++ 58 :: p
def varT (l : List Fld) : List UInt8 := l.flatMap fun f => partK (lower f.1) ++ partK f.2
def idT (key : List UInt8) (l : List Fld) : List UInt8 := partK key ++ varT l
def nmV (l : List Fld) : List Fld := l.map fun f => (lower f.1, f.2)
theorem till_colon : ∀ (a b x y : List UInt8), (∀ c ∈ a, c.toNat ≤ 57) → (∀ c ∈ b, c.toNat ≤ 57) → a ++ 58 :: x = b ++ 58 :: y → a = b ∧ x = y
  | [], [], x, y, _, _, h => ⟨rfl, by simpa using h⟩
  | [], c :: b, x, y, _, hb, h => by
    have h1 : (58 : UInt8) = c := (List.cons.inj h).1
    have := hb c (by simp)
    rw [← h1] at this; exact absurd this (by decide)
  | c :: a, [], x, y, ha, _, h => by
    have h1 : c = (58 : UInt8) := (List.cons.inj h).1
    have := ha c (by simp)
    rw [h1] at this; exact absurd this (by decide)
  | c :: a, d :: b, x, y, ha, hb, h => by
    obtain ⟨h1, h2⟩ := List.cons.inj h
    obtain ⟨h3, h4⟩ := till_colon a b x y (fun c hc => ha c (by simp [hc])) (fun c hc => hb c (by simp [hc])) h2
    exact ⟨by rw [h1, h3], h4⟩
theorem partK_inj {a b x y : List UInt8} (h : partK a ++ x = partK b ++ y) : a = b ∧ x = y := by
  unfold partK at h
  rw [List.append_assoc, List.append_assoc, List.cons_append, List.cons_append] at h
  obtain ⟨h1, h2⟩ := till_colon _ _ _ _ (fun c hc => ((digs_all _).1 c hc).2) (fun c hc => ((digs_all _).1 c hc).2) h
  have h3 : a.length = b.length := by
    have := congrArg (decF 0) h1
    rwa [(digs_all _).2.1, (digs_all _).2.1] at this
  exact List.append_inj h2 h3
theorem partK_ne (a : List UInt8) : partK a ≠ [] := by simp [partK]
theorem varT_inj : ∀ {l m : List Fld}, varT l = varT m → nmV l = nmV m
  | [], [], _ => rfl
  | [], f :: r, h => by
    have : partK (lower f.1) = [] := by
      have h1 : ([] : List UInt8) = (partK (lower f.1) ++ partK f.2) ++ varT r := h
      simp [partK] at h1
    exact absurd this (partK_ne _)
  | f :: r, [], h => by
    have h1 : (partK (lower f.1) ++ partK f.2) ++ varT r = [] := h
    simp [partK] at h1
  | f :: r, g :: s, h => by
    have h1 : (partK (lower f.1) ++ partK f.2) ++ varT r = (partK (lower g.1) ++ partK g.2) ++ varT s := h
    rw [List.append_assoc, List.append_assoc] at h1
    obtain ⟨h2, h3⟩ := partK_inj h1
    obtain ⟨h4, h5⟩ := partK_inj h3
    show (lower f.1, f.2) :: nmV r = (lower g.1, g.2) :: nmV s
    rw [h2, h4, varT_inj h5]
theorem varT_nm : ∀ {l m : List Fld}, nmV l = nmV m → varT l = varT m
  | [], [], _ => rfl
  | [], f :: r, h => by cases h
  | f :: r, [], h => by cases h
  | f :: r, g :: s, h => by
    obtain ⟨h1, h2⟩ := List.cons.inj (show (lower f.1, f.2) :: nmV r = (lower g.1, g.2) :: nmV s from h)
    obtain ⟨h3, h4⟩ := Prod.mk.inj h1
    show (partK (lower f.1) ++ partK f.2) ++ varT r = (partK (lower g.1) ++ partK g.2) ++ varT s
    rw [h3, h4, varT_nm h2]
theorem idT_inj {k k' : List UInt8} {l l' : List Fld} (h : idT k l = idT k' l') : k = k' ∧ nmV l = nmV l' := by
  obtain ⟨h1, h2⟩ := partK_inj h
  exact ⟨h1, varT_inj h2⟩
theorem idT_iff {k k' : List UInt8} {l l' : List Fld} : idT k l = idT k' l' ↔ k = k' ∧ nmV l = nmV l' :=
  ⟨idT_inj, fun ⟨h1, h2⟩ => by unfold idT; rw [h1, varT_nm h2]⟩

/-! ### entries -/
structure En where
  st : Int
  re : List UInt8
  mi : Int
  fs : List Fld
  bo : List UInt8
  ak : Int
  gt : Int
  vy : List Fld
def sizeF (l : List Fld) : Nat := (l.map fun f => f.1.length + f.2.length).sum
def sizeE (key : List UInt8) (e : En) : Nat := 64 + key.length + e.re.length + sizeF e.fs + e.bo.length + sizeF e.vy
/-- an entry that is stored: its key, itself, the how manieth that was put -/
structure He where
  key : List UInt8
  e : En
  n : Nat
def idH (h : He) : List UInt8 := idT h.key h.e.vy
def itH (h : He) : It He := (idH h, sizeE h.key h.e, h)
/-- may these be gone through? -/
structure SmF (l : List Fld) : Prop where
  len : l.length ≤ 10
  at_ : ∀ f ∈ l, f.1.length ≤ 300 ∧ f.2.length ≤ 300
structure SmE (key : List UInt8) (e : En) : Prop where
  k : key.length ≤ 300
  fs : SmF e.fs
  vy : SmF e.vy
  bo : e.bo.length ≤ 3000
  re : e.re.length ≤ 300
theorem sizeF_cons (f : Fld) (l : List Fld) : sizeF (f :: l) = f.1.length + f.2.length + sizeF l := by simp [sizeF]
theorem sizeF_le : ∀ (l : List Fld), (∀ f ∈ l, f.1.length ≤ 300 ∧ f.2.length ≤ 300) → sizeF l ≤ 600 * l.length
  | [], _ => by simp [sizeF]
  | f :: r, h => by
    have h1 := h f (by simp)
    have h2 := sizeF_le r (fun g hg => h g (by simp [hg]))
    rw [sizeF_cons, List.length_cons]; omega
theorem SmF.size {l : List Fld} (h : SmF l) : sizeF l ≤ 6000 := by
  have h1 := sizeF_le l h.at_
  have := h.len
  omega
theorem SmE.size {key : List UInt8} {e : En} (h : SmE key e) : sizeE key e ≤ 20000 := by
  have h1 := h.fs.size
  have h2 := h.vy.size
  have := h.k; have := h.bo; have := h.re
  unfold sizeE; omega
theorem SmF.nil : SmF [] := ⟨by simp, fun f hf => by cases hf⟩
theorem partK_len {p : List UInt8} (h : p.length ≤ 300) : (partK p).length ≤ 307 := by
  have := digs_len p.length (by omega)
  unfold partK
  simp; omega
theorem varT_len : ∀ {l : List Fld}, (∀ f ∈ l, f.1.length ≤ 300 ∧ f.2.length ≤ 300) → (varT l).length ≤ 614 * l.length
  | [], _ => by simp [varT]
  | f :: r, h => by
    have h1 := h f (by simp)
    have h2 := varT_len (l := r) (fun g hg => h g (by simp [hg]))
    have h3 := partK_len (p := lower f.1) (by rw [lower_len]; omega)
    have h4 := partK_len (p := f.2) h1.2
    show ((partK (lower f.1) ++ partK f.2) ++ varT r).length ≤ _
    simp at *; omega
theorem idT_len {k : List UInt8} {l : List Fld} (hk : k.length ≤ 300) (hl : SmF l) : (idT k l).length ≤ 7000 := by
  have h1 := partK_len hk
  have h2 := varT_len hl.at_
  have := hl.len
  unfold idT
  rw [List.length_append]; omega
theorem varT_snoc (l : List Fld) (f : Fld) : varT (l ++ [f]) = varT l ++ partK (lower f.1) ++ partK f.2 := by simp [varT]

/-! ### what is done with them -/
def rowS (A : List (It He)) (k : List UInt8) : List (List UInt8) := (A.filter fun a => a.2.2.key == k).map (·.1)
def keysS (A : List (It He)) : List (List UInt8) := A.map (·.2.2.key)
def putS (n m : Nat) (A : List (It He)) (h : He) : List (List UInt8) × List (It He) := putK n m (idH h) (sizeE h.key h.e) h A
def dropS (A : List (It He)) (k : List UInt8) : List (It He) := A.filter fun a => !(a.2.2.key == k)
/-- the place of the one that was put last, of those that match -/
def latG (req : List Fld) : List He → Nat → Int → Nat → Int
  | [], _, p, _ => p
  | h :: r, i, p, m => if m < h.n ∧ matchB h.e.vy req = true then latG req r (i + 1) i h.n else latG req r (i + 1) p m
def helds (A : List (It He)) (k : List UInt8) : List He := (A.filter fun a => a.2.2.key == k).map (·.2.2)
def latS (A : List (It He)) (k : List UInt8) (req : List Fld) : Int := latG req (helds A k) 0 (-1) 0
end Go.Proofs.YtopgeclecpaecaaGreatDoor
