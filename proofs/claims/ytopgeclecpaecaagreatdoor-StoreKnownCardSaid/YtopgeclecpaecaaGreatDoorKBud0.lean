/- Plain: values that are kept by keys, the one that was used least lately first; what is put, asked for and dropped. No program is read here. -/
import Derived.Test.YtopgeclecpaecaaGreatDoorKPlain
namespace Go.Proofs.YtopgeclecpaecaaGreatDoor
/-- a key, its size, its value -/
abbrev It (α : Type) := List UInt8 × Nat × α
section
variable {α : Type}
def keysK (l : List (It α)) : List (List UInt8) := l.map (·.1)
def totK : List (It α) → Nat
  | [] => 0
  | y :: r => y.2.1 + totK r
def hasK (k : List UInt8) (l : List (It α)) : Bool := l.any (fun y => y.1 == k)
def findK (k : List UInt8) (l : List (It α)) : Option (It α) := l.find? (fun y => y.1 == k)
def dropK (k : List UInt8) (l : List (It α)) : List (It α) := l.filter (fun y => !(y.1 == k))
/-- what goes ahead of one of size s, and what stays -/
def roomK (n m s : Nat) : List (It α) → List (List UInt8) × List (It α)
  | [] => ([], [])
  | y :: r => if n ≤ r.length + 1 ∨ m < y.2.1 + totK r + s then (y.1 :: (roomK n m s r).1, (roomK n m s r).2) else ([], y :: r)
/-- what goes in the document's way -/
def trimK (n m : Nat) : List (It α) → List (List UInt8) × List (It α)
  | [] => ([], [])
  | y :: r => if n < r.length + 1 ∨ m < y.2.1 + totK r then (y.1 :: (trimK n m r).1, (trimK n m r).2) else ([], y :: r)
def putK (n m : Nat) (k : List UInt8) (s : Nat) (x : α) (l : List (It α)) : List (List UInt8) × List (It α) :=
  if m < s then ((if hasK k l then [k] else []), dropK k l) else ((roomK n m s (dropK k l)).1, (roomK n m s (dropK k l)).2 ++ [(k, s, x)])
def getK (k : List UInt8) (l : List (It α)) : List (It α) := match findK k l with | none => l | some y => dropK k l ++ [y]
structure OkK (n m : Nat) (l : List (It α)) : Prop where
  nd : (keysK l).Nodup
  len : l.length ≤ n
  tot : totK l ≤ m

theorem keysK_append (a b : List (It α)) : keysK (a ++ b) = keysK a ++ keysK b := by simp [keysK]
theorem totK_append : ∀ a b : List (It α), totK (a ++ b) = totK a + totK b
  | [], b => by simp [totK]
  | y :: r, b => by
    show y.2.1 + totK (r ++ b) = y.2.1 + totK r + totK b
    rw [totK_append r b]; omega
theorem hasK_iff {k : List UInt8} {l : List (It α)} : hasK k l = true ↔ k ∈ keysK l := by
  unfold hasK keysK
  rw [List.any_eq_true, List.mem_map]
  constructor
  · rintro ⟨x, hx, h⟩; exact ⟨x, hx, beq_iff_eq.1 h⟩
  · rintro ⟨x, hx, h⟩; exact ⟨x, hx, beq_iff_eq.2 h⟩
theorem hasK_false {k : List UInt8} {l : List (It α)} : hasK k l = false ↔ k ∉ keysK l := by
  rw [← hasK_iff, Bool.not_eq_true]
theorem dropK_none {k : List UInt8} {l : List (It α)} (h : k ∉ keysK l) : dropK k l = l := by
  unfold dropK
  rw [List.filter_eq_self]
  intro y hy
  rw [Bool.not_eq_true', beq_eq_false_iff_ne]
  intro e
  exact h (by rw [← e]; exact List.mem_map.2 ⟨y, hy, rfl⟩)
theorem dropK_mid {k : List UInt8} {xs zs : List (It α)} {y : It α} (hy : y.1 = k) (h : (keysK (xs ++ y :: zs)).Nodup) : dropK k (xs ++ y :: zs) = xs ++ zs := by
  rw [keysK_append] at h
  have h2 := List.nodup_append.1 h
  have h3 : k ∉ keysK xs := fun hk => h2.2.2 k hk y.1 (by simp [keysK]) hy.symm
  have h4 : k ∉ keysK zs := by
    have h5 := h2.2.1
    rw [show keysK (y :: zs) = y.1 :: keysK zs from rfl, List.nodup_cons, hy] at h5
    exact h5.1
  unfold dropK
  rw [List.filter_append, List.filter_cons]
  have e1 := dropK_none h3
  have e2 := dropK_none h4
  unfold dropK at e1 e2
  rw [e1, e2, if_neg (by simp [hy])]
theorem findK_mid {k : List UInt8} {xs zs : List (It α)} {y : It α} (hy : y.1 = k) (h : k ∉ keysK xs) : findK k (xs ++ y :: zs) = some y := by
  unfold findK
  rw [List.find?_append, List.find?_eq_none.2 (fun x hx => by
    rw [beq_iff_eq]; intro e; exact h (by rw [← e]; exact List.mem_map.2 ⟨x, hx, rfl⟩))]
  simp [hy]
theorem findK_none {k : List UInt8} {l : List (It α)} (h : k ∉ keysK l) : findK k l = none := by
  unfold findK
  rw [List.find?_eq_none]
  intro x hx
  rw [beq_iff_eq]; intro e; exact h (by rw [← e]; exact List.mem_map.2 ⟨x, hx, rfl⟩)
/-- where a key stands -/
theorem splitK {k : List UInt8} : ∀ {l : List (It α)}, k ∈ keysK l → ∃ xs y zs, l = xs ++ y :: zs ∧ y.1 = k ∧ k ∉ keysK xs
  | [], h => by simp [keysK] at h
  | y :: r, h => by
    by_cases e : y.1 = k
    · exact ⟨[], y, r, rfl, e, by simp [keysK]⟩
    · rw [show keysK (y :: r) = y.1 :: keysK r from rfl] at h
      rcases List.mem_cons.1 h with h | h
      · exact absurd h.symm e
      · obtain ⟨xs, z, zs, rfl, h2, h3⟩ := splitK h
        refine ⟨y :: xs, z, zs, rfl, h2, ?_⟩
        rw [show keysK (y :: xs) = y.1 :: keysK xs from rfl]
        intro h4
        rcases List.mem_cons.1 h4 with h4 | h4
        · exact e h4.symm
        · exact h3 h4
theorem dropK_keys (k : List UInt8) (l : List (It α)) : k ∉ keysK (dropK k l) := by
  unfold keysK dropK
  rw [List.mem_map]
  rintro ⟨y, hy, h⟩
  have := (List.mem_filter.1 hy).2
  simp [h] at this
theorem dropK_sub (k : List UInt8) (l : List (It α)) : (dropK k l).Sublist l := List.filter_sublist
theorem totK_sub : ∀ {a b : List (It α)}, a.Sublist b → totK a ≤ totK b
  | _, _, .slnil => Nat.le_refl _
  | _, _, .cons y h => by have := totK_sub h; show _ ≤ y.2.1 + _; omega
  | _, _, .cons_cons y h => by have := totK_sub h; show y.2.1 + _ ≤ y.2.1 + _; omega
theorem keysK_sub {a b : List (It α)} (h : a.Sublist b) : (keysK a).Sublist (keysK b) := h.map _
theorem OkK.sub {n m : Nat} {a b : List (It α)} (h : OkK n m b) (hs : a.Sublist b) : OkK n m a :=
  ⟨h.nd.sublist (keysK_sub hs), Nat.le_trans hs.length_le h.len, Nat.le_trans (totK_sub hs) h.tot⟩

/-! ### room -/
theorem roomK_suffix (n m s : Nat) : ∀ l : List (It α), ∃ xs, l = xs ++ (roomK n m s l).2 ∧ (roomK n m s l).1 = keysK xs
  | [] => ⟨[], rfl, rfl⟩
  | y :: r => by
    unfold roomK
    split
    · obtain ⟨xs, h1, h2⟩ := roomK_suffix n m s r
      exact ⟨y :: xs, by rw [List.cons_append, ← h1], by rw [h2]; rfl⟩
    · exact ⟨[], rfl, rfl⟩
theorem roomK_ok {n m s : Nat} (hn : 1 ≤ n) (hs : s ≤ m) : ∀ l : List (It α), (roomK n m s l).2.length + 1 ≤ n ∧ totK (roomK n m s l).2 + s ≤ m
  | [] => ⟨by simpa [roomK] using hn, by simpa [roomK, totK] using hs⟩
  | y :: r => by
    unfold roomK
    split
    · exact roomK_ok hn hs r
    · rename_i h
      refine ⟨?_, ?_⟩
      · simp; omega
      · show y.2.1 + totK r + s ≤ m; omega
theorem roomK_done {n m s : Nat} {l : List (It α)} (h1 : l.length < n) (h2 : totK l + s ≤ m) : roomK n m s l = ([], l) := by
  cases l with
  | nil => rfl
  | cons y r =>
    unfold roomK
    rw [if_neg]
    have h3 : y.2.1 + totK r + s ≤ m := h2
    simp at h1
    omega
theorem roomK_step {n m s : Nat} {y : It α} {r : List (It α)} (h : n ≤ (y :: r).length ∨ m < totK (y :: r) + s) : roomK n m s (y :: r) = (y.1 :: (roomK n m s r).1, (roomK n m s r).2) := by
  rw [roomK, if_pos]
  exact h
theorem trim_room {n m s : Nat} (hn : 1 ≤ n) (hs : s ≤ m) (k : List UInt8) (x : α) : ∀ l : List (It α), trimK n m (l ++ [(k, s, x)]) = ((roomK n m s l).1, (roomK n m s l).2 ++ [(k, s, x)])
  | [] => by
    show (if n < 0 + 1 ∨ m < s + 0 then ((k :: (trimK n m ([] : List (It α))).1, (trimK n m ([] : List (It α))).2)) else ([], [(k, s, x)])) = ([], [(k, s, x)])
    exact if_neg (by omega)
  | y :: r => by
    have ih := trim_room hn hs k x r
    simp only [List.cons_append, trimK, roomK, ih, List.length_append, List.length_cons, List.length_nil, totK_append, totK]
    by_cases h : n ≤ r.length + 1 ∨ m < y.2.1 + totK r + s
    · rw [if_pos h, if_pos (by omega)]
    · rw [if_neg h, if_neg (by omega)]; rfl
theorem trimK_done {n m : Nat} {l : List (It α)} (h1 : l.length ≤ n) (h2 : totK l ≤ m) : trimK n m l = ([], l) := by
  cases l with
  | nil => rfl
  | cons y r =>
    rw [trimK, if_neg]
    have h3 : y.2.1 + totK r ≤ m := h2
    simp at h1
    omega
theorem trimK_step {n m : Nat} {y : It α} {r : List (It α)} (h : n < (y :: r).length ∨ m < totK (y :: r)) : trimK n m (y :: r) = (y.1 :: (trimK n m r).1, (trimK n m r).2) := by
  rw [trimK, if_pos]
  exact h

/-! ### what stays so -/
theorem OkK.drop {n m : Nat} {l : List (It α)} (h : OkK n m l) (k : List UInt8) : OkK n m (dropK k l) := h.sub (dropK_sub k l)
theorem OkK.put {n m : Nat} {l : List (It α)} (h : OkK n m l) (hn : 1 ≤ n) (k : List UInt8) (s : Nat) (x : α) : OkK n m (putK n m k s x l).2 := by
  unfold putK
  split
  · exact h.drop k
  · rename_i hs
    obtain ⟨xs, h1, h2⟩ := roomK_suffix n m s (dropK k l)
    obtain ⟨h3, h4⟩ := roomK_ok (α := α) hn (by omega : s ≤ m) (dropK k l)
    have h5 := h.drop k
    have h6 := dropK_keys k l
    generalize dropK k l = d at *
    simp only
    generalize (roomK n m s d).2 = q at *
    subst h1
    have h7 : OkK n m q := h5.sub (List.sublist_append_right xs q)
    rw [keysK_append] at h6
    refine ⟨?_, ?_, ?_⟩
    · rw [keysK_append, List.nodup_append]
      refine ⟨h7.nd, by simp [keysK], ?_⟩
      intro a ha b hb e
      have hbk : b = k := by simpa [keysK] using hb
      subst hbk
      exact h6 (List.mem_append_right _ (e ▸ ha))
    · simp; omega
    · rw [totK_append]; simp only [totK]; omega
theorem OkK.get {n m : Nat} {l : List (It α)} (h : OkK n m l) (k : List UInt8) : OkK n m (getK k l) := by
  unfold getK
  by_cases hk : k ∈ keysK l
  · obtain ⟨xs, y, zs, rfl, hy, hx⟩ := splitK hk
    rw [findK_mid hy hx, dropK_mid hy h.nd]
    have h1 := h.nd
    have h2 := h.len
    have h3 := h.tot
    refine ⟨?_, by simp at h2 ⊢; omega, ?_⟩
    · have hp : (keysK (xs ++ zs ++ [y])).Perm (keysK (xs ++ y :: zs)) := by
        unfold keysK
        apply List.Perm.map
        rw [List.append_assoc]
        exact List.Perm.append_left xs (List.perm_append_singleton y zs)
      exact hp.nodup_iff.2 h1
    · rw [totK_append] at h3 ⊢
      rw [totK_append]
      simp only [totK] at h3 ⊢
      omega
  · rw [findK_none hk]; exact h
theorem getK_found {k : List UInt8} {l : List (It α)} {y : It α} (h : findK k l = some y) : getK k l = dropK k l ++ [y] ∧ y.1 = k ∧ y ∈ l := by
  unfold getK
  rw [h]
  exact ⟨rfl, by have := List.find?_some h; simpa using this, List.mem_of_find?_eq_some h⟩
theorem find_snoc (k : List UInt8) (l : List (It α)) (y : It α) (hy : y.1 = k) (h : k ∉ keysK l) : findK k (l ++ [y]) = some y := findK_mid hy h
/-- what was put is found, and stands last -/
theorem put_finds {n m s : Nat} (k : List UInt8) (x : α) (l : List (It α)) (hs : s ≤ m) : findK k (putK n m k s x l).2 = some (k, s, x) ∧ ∃ q, (putK n m k s x l).2 = q ++ [(k, s, x)] := by
  unfold putK
  rw [if_neg (by omega)]
  obtain ⟨xs, h1, h2⟩ := roomK_suffix n m s (dropK k l)
  have h6 := dropK_keys k l
  refine ⟨find_snoc k _ _ rfl ?_, _, rfl⟩
  intro hk
  apply h6
  rw [h1, keysK_append]
  exact List.mem_append_right _ hk
theorem put_none {n m s : Nat} (k : List UInt8) (x : α) (l : List (It α)) (hs : m < s) : findK k (putK n m k s x l).2 = none := by
  unfold putK
  rw [if_pos hs]
  exact findK_none (dropK_keys k l)
theorem drop_none (k : List UInt8) (l : List (It α)) : findK k (dropK k l) = none := findK_none (dropK_keys k l)

/-! ### more entries -/
theorem roomK_zero {n m : Nat} (hn : 1 ≤ n) : ∀ l : List (It α), (∀ y ∈ l, y.2.1 = 0) → (roomK n m 0 l).2 = l.drop (l.length + 1 - n)
  | [], _ => by simp [roomK]
  | y :: r, h => by
    have hz : ∀ z ∈ r, z.2.1 = 0 := fun z hz => h z (by simp [hz])
    have ht : ∀ q : List (It α), (∀ z ∈ q, z.2.1 = 0) → totK q = 0 := by
      intro q
      induction q with
      | nil => intro _; rfl
      | cons a t ih => intro hq; show a.2.1 + totK t = 0; rw [hq a (by simp), ih (fun z hz => hq z (by simp [hz]))]
    rw [roomK]
    have e1 := h y (by simp)
    have e2 := ht r hz
    by_cases h1 : n ≤ r.length + 1
    · rw [if_pos (.inl h1)]
      simp only
      rw [roomK_zero hn r hz, List.length_cons, show r.length + 1 + 1 - n = (r.length + 1 - n) + 1 from by omega, List.drop_succ_cons]
    · rw [if_neg (by omega), List.length_cons, show r.length + 1 + 1 - n = 0 from by omega, List.drop_zero]
/-- one keeps what the other one keeps, and at most e more -/
structure MoreK (n e : Nat) (few many : List (It α)) : Prop where
  sub : few.Sublist many
  le : many.length ≤ few.length + e
  ndF : (keysK few).Nodup
  ndM : (keysK many).Nodup
  lF : few.length ≤ n
  lM : many.length ≤ n + e
  z : ∀ y ∈ many, y.2.1 = 0
theorem MoreK.zF {n e : Nat} {few many : List (It α)} (h : MoreK n e few many) : ∀ y ∈ few, y.2.1 = 0 := fun y hy => h.z y (h.sub.subset hy)
theorem nodup_mid {k : List UInt8} {xs zs : List (It α)} {y : It α} (hy : y.1 = k) (h : (keysK (xs ++ y :: zs)).Nodup) : k ∉ keysK (xs ++ zs) := by
  have := dropK_keys k (xs ++ y :: zs)
  rwa [dropK_mid hy h] at this
theorem MoreK.dropped {n e : Nat} {few many : List (It α)} (h : MoreK n e few many) (k : List UInt8) : MoreK n e (dropK k few) (dropK k many) := by
  refine ⟨h.sub.filter _, ?_, h.ndF.sublist (keysK_sub (dropK_sub k few)), h.ndM.sublist (keysK_sub (dropK_sub k many)), Nat.le_trans (dropK_sub k few).length_le h.lF, Nat.le_trans (dropK_sub k many).length_le h.lM, fun y hy => h.z y ((dropK_sub k many).subset hy)⟩
  have hle := h.le
  by_cases hk : k ∈ keysK few
  · have hm : k ∈ keysK many := (keysK_sub h.sub).subset hk
    obtain ⟨xs, y, zs, e1, hy, hx⟩ := splitK hk
    obtain ⟨us, v, vs, e2, hv, hu⟩ := splitK hm
    have hF := h.ndF
    have hM := h.ndM
    rw [e1] at hle hF ⊢
    rw [e2] at hle hM ⊢
    rw [dropK_mid hy hF, dropK_mid hv hM]
    simp at hle ⊢
    omega
  · rw [dropK_none hk]
    exact Nat.le_trans (dropK_sub k many).length_le hle
theorem tail_sub {a b : List (It α)} (h : a.Sublist b) : a.tail.Sublist b.tail := by
  cases h with
  | slnil => exact .slnil
  | cons y h => exact (List.tail_sublist _).trans h
  | cons_cons y h => exact h
theorem keysK_snoc_nd {l : List (It α)} {y : It α} (h : (keysK l).Nodup) (hk : y.1 ∉ keysK l) : (keysK (l ++ [y])).Nodup := by
  rw [keysK_append, List.nodup_append]
  refine ⟨h, by simp [keysK], ?_⟩
  intro a ha b hb e
  have : b = y.1 := by simpa [keysK] using hb
  subst this
  exact hk (e ▸ ha)
theorem MoreK.snoc {n e : Nat} {few many : List (It α)} (h : MoreK n e few many) (y : It α) (hk : y.1 ∉ keysK many) (h1 : few.length + 1 ≤ n) (h2 : many.length + 1 ≤ n + e) (hz : y.2.1 = 0) : MoreK n e (few ++ [y]) (many ++ [y]) := by
  have hkF : y.1 ∉ keysK few := fun hq => hk ((keysK_sub h.sub).subset hq)
  refine ⟨h.sub.append (List.Sublist.refl _), ?_, keysK_snoc_nd h.ndF hkF, keysK_snoc_nd h.ndM hk, by simpa using h1, by simpa using h2, ?_⟩
  · have := h.le; simp; omega
  · intro z hzm
    rcases List.mem_append.1 hzm with hzm | hzm
    · exact h.z z hzm
    · have : z = y := by simpa using hzm
      rw [this]; exact hz
theorem MoreK.put {n e m : Nat} {few many : List (It α)} (h : MoreK n e few many) (hn : 1 ≤ n) (k : List UInt8) (x : α) : MoreK n e (putK n m k 0 x few).2 (putK (n + e) m k 0 x many).2 := by
  have hd := h.dropped k
  have hkM := dropK_keys k many
  unfold putK
  rw [if_neg (by omega), if_neg (by omega)]
  simp only
  generalize dropK k few = F at *
  generalize dropK k many = M at *
  have hle := hd.le
  have hF := hd.lF
  have hM := hd.lM
  rw [roomK_zero hn F hd.zF, roomK_zero (by omega) M hd.z]
  by_cases hMN : M.length = n + e
  · have hFn : F.length = n := by omega
    rw [show F.length + 1 - n = 1 from by omega, show M.length + 1 - (n + e) = 1 from by omega, List.drop_one, List.drop_one]
    have hs := tail_sub hd.sub
    have l1 : F.tail.length = n - 1 := by simp [hFn]
    have l2 : M.tail.length = n + e - 1 := by simp [hMN]
    refine MoreK.snoc ⟨hs, by omega, hd.ndF.sublist (keysK_sub (List.tail_sublist _)), hd.ndM.sublist (keysK_sub (List.tail_sublist _)), by omega, by omega, fun y hy => hd.z y ((List.tail_sublist _).subset hy)⟩ _ (fun hq => hkM ((keysK_sub (List.tail_sublist _)).subset hq)) (by omega) (by omega) rfl
  · rw [show M.length + 1 - (n + e) = 0 from by omega, List.drop_zero]
    by_cases hFn : F.length = n
    · rw [show F.length + 1 - n = 1 from by omega, List.drop_one]
      have l1 : F.tail.length = n - 1 := by simp [hFn]
      refine MoreK.snoc ⟨(List.tail_sublist _).trans hd.sub, by omega, hd.ndF.sublist (keysK_sub (List.tail_sublist _)), hd.ndM, by omega, hM, hd.z⟩ _ hkM (by omega) (by omega) rfl
    · rw [show F.length + 1 - n = 0 from by omega, List.drop_zero]
      exact MoreK.snoc hd _ hkM (by omega) (by omega) rfl
theorem MoreK.found {n e : Nat} {few many : List (It α)} (h : MoreK n e few many) {y : It α} (hy : y ∈ few) : findK y.1 few = some y ∧ findK y.1 many = some y := by
  have key : ∀ l : List (It α), (keysK l).Nodup → y ∈ l → findK y.1 l = some y := by
    intro l hl hm
    obtain ⟨xs, zs, rfl⟩ := List.append_of_mem hm
    refine findK_mid rfl ?_
    rw [keysK_append, List.nodup_append] at hl
    exact fun hq => hl.2.2 y.1 hq y.1 (by simp [keysK]) rfl
  exact ⟨key _ h.ndF hy, key _ h.ndM (h.sub.subset hy)⟩
theorem MoreK.get {n e : Nat} {few many : List (It α)} (h : MoreK n e few many) (k : List UInt8) : MoreK n e (getK k few) (getK k many) := by
  by_cases hM : k ∈ keysK many
  · obtain ⟨us, v, vs, e2, hv, hu⟩ := splitK hM
    have hvm : v ∈ many := by rw [e2]; simp
    have h1 := h.dropped k
    have hg : getK k many = dropK k many ++ [v] := by unfold getK; rw [e2, findK_mid hv hu]
    have hkM := dropK_keys k many
    have hz := h.z v hvm
    have hlM : (dropK k many).length + 1 ≤ many.length := by
      have hM2 := h.ndM
      rw [e2] at hM2 ⊢
      rw [dropK_mid hv hM2]; simp; omega
    have hMl := h.lM
    by_cases hF : k ∈ keysK few
    · obtain ⟨xs, y, zs, e1, hy, hx⟩ := splitK hF
      have hym : y ∈ few := by rw [e1]; simp
      have hyv : y = v := by
        have a1 := (h.found hym).2
        rw [hy, e2, findK_mid hv hu] at a1
        exact (Option.some.inj a1).symm
      subst hyv
      have hgF : getK k few = dropK k few ++ [y] := by unfold getK; rw [e1, findK_mid hy hx]
      have hlF : (dropK k few).length + 1 ≤ few.length := by
        have hF2 := h.ndF
        rw [e1] at hF2 ⊢
        rw [dropK_mid hy hF2]; simp; omega
      have := h.lF
      rw [hg, hgF]
      exact h1.snoc y (by rw [hv]; exact hkM) (by omega) (by omega) hz
    · have hgF : getK k few = few := by unfold getK; rw [findK_none hF]
      have hdF : dropK k few = few := dropK_none hF
      have hs := h1.sub
      have hl1 := h.le
      rw [hdF] at hs
      have hdl : (dropK k many).length + 1 = many.length := by
        have hM2 := h.ndM
        rw [e2] at hM2 ⊢
        rw [dropK_mid hv hM2]; simp; omega
      rw [hg, hgF]
      refine ⟨hs.trans (List.sublist_append_left _ _), by simp; omega, h.ndF, keysK_snoc_nd h1.ndM (by rw [hv]; exact hkM), h.lF, by simp; omega, ?_⟩
      intro z hzm
      rcases List.mem_append.1 hzm with hzm | hzm
      · exact h1.z z hzm
      · have : z = v := by simpa using hzm
        rw [this]; exact hz
  · have hF : k ∉ keysK few := fun hq => hM ((keysK_sub h.sub).subset hq)
    have e1 : getK k few = few := by unfold getK; rw [findK_none hF]
    have e2 : getK k many = many := by unfold getK; rw [findK_none hM]
    rw [e1, e2]; exact h
end
end Go.Proofs.YtopgeclecpaecaaGreatDoor
