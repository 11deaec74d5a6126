/- What is kept under one key, with and without what is done under others (StoreApart, plain). -/
import Derived.Test.YtopgeclecpaecaaGreatDoorKKpP
namespace Go.Proofs.YtopgeclecpaecaaGreatDoor
open Go.RowKit
theorem latG_sorted (req : List Fld) : ∀ (l l' : List He) (i : Nat) (p : Int) (m m' : Nat), l.map (·.e) = l'.map (·.e) → l.Pairwise (fun a b => a.n < b.n) → l'.Pairwise (fun a b => a.n < b.n) → (∀ h ∈ l, m < h.n) → (∀ h ∈ l', m' < h.n) → latG req l i p m = latG req l' i p m'
  | [], [], _, _, _, _, _, _, _, _, _ => rfl
  | [], _ :: _, _, _, _, _, h, _, _, _, _ => by simp at h
  | _ :: _, [], _, _, _, _, h, _, _, _, _ => by simp at h
  | h :: r, h' :: r', i, p, m, m', he, h1, h2, h3, h4 => by
    simp only [List.map_cons, List.cons.injEq] at he
    obtain ⟨e1, e2⟩ := he
    rw [List.pairwise_cons] at h1 h2
    have a1 := h3 h (by simp)
    have a2 := h4 h' (by simp)
    unfold latG
    by_cases hm : matchB h.e.vy req = true
    · rw [if_pos ⟨a1, hm⟩, if_pos ⟨a2, by rw [← e1]; exact hm⟩]
      exact latG_sorted req r r' (i + 1) i h.n h'.n e2 h1.2 h2.2 h1.1 h2.1
    · rw [if_neg (fun q => hm q.2), if_neg (fun q => hm (by rw [e1]; exact q.2))]
      exact latG_sorted req r r' (i + 1) p m m' e2 h1.2 h2.2 (fun x hx => h3 x (by simp [hx])) (fun x hx => h4 x (by simp [hx]))
/-- the entries that are kept under a key -/
def keptK (key : List UInt8) (A : List (It He)) : List En := (helds A key).map (·.e)
def sortN (A : List (It He)) : Prop := A.Pairwise (fun a b => a.2.2.n < b.2.2.n)
theorem sortN.helds {A : List (It He)} (h : sortN A) (key : List UInt8) : (helds A key).Pairwise (fun a b => a.n < b.n) := by
  unfold Go.Proofs.YtopgeclecpaecaaGreatDoor.helds
  rw [List.pairwise_map]
  exact h.filter _
theorem sortN.sub {A B : List (It He)} (h : sortN A) (hs : B.Sublist A) : sortN B := List.Pairwise.sublist hs h
theorem body_map (o : Option (It He)) : bodyS o = (o.map (fun a => a.2.2.e.bo)).getD noneT := by cases o <;> rfl
theorem body_same {A B : List (It He)} {key : List UInt8} (req : List Fld) (he : keptK key A = keptK key B) (hA : sortN A) (hB : sortN B) (nA : ∀ a ∈ A, 1 ≤ a.2.2.n) (nB : ∀ a ∈ B, 1 ≤ a.2.2.n) : bodyS (foundS A key req) = bodyS (foundS B key req) := by
  have pos : ∀ C : List (It He), (∀ a ∈ C, 1 ≤ a.2.2.n) → ∀ h ∈ helds C key, 0 < h.n := fun C hC h hh => by
    unfold helds at hh
    obtain ⟨a, ha, rfl⟩ := List.mem_map.1 hh
    exact hC a (List.mem_filter.1 ha).1
  have hl : latS A key req = latS B key req := latG_sorted req _ _ 0 (-1) 0 0 he (hA.helds key) (hB.helds key) (pos A nA) (pos B nB)
  have hz : ∀ z : Nat, ((A.filter fun a => a.2.2.key == key)[z]?).map (fun a => a.2.2.e.bo) = ((B.filter fun a => a.2.2.key == key)[z]?).map (fun a => a.2.2.e.bo) := fun z => by
    have h := congrArg (fun l : List En => (l[z]?).map (·.bo)) he
    simpa [keptK, helds, List.getElem?_map, Option.map_map, Function.comp_def] using h
  rw [body_map, body_map]
  unfold foundS
  rw [hl]
  split
  · rfl
  · rw [hz]
section
variable {A : List (It He)} {key k : List UInt8} {vy : List Fld}
theorem kept_other (hO : Of A) (hk : ¬ k = key) : keptK key (dropK (idT k vy) A) = keptK key A := by
  unfold keptK helds dropK
  rw [List.filter_filter]
  congr 2
  refine List.filter_congr fun x hx => ?_
  by_cases hx2 : x.2.2.key = key
  · have hne : ¬ x.1 = idT k vy := fun e => by
      rw [of_at hO hx] at e
      exact hk ((idT_inj e).1.symm.trans hx2)
    simp [hx2, hne]
  · simp [hx2]
theorem kept_same (hO : Of A) : keptK key (dropK (idT key vy) A) = (keptK key A).filter (fun e => !(idT key e.vy == idT key vy)) := by
  unfold keptK helds dropK
  rw [List.filter_filter, List.filter_map, List.filter_map, List.filter_filter]
  congr 2
  refine List.filter_congr fun x hx => ?_
  have h1 := of_at hO hx
  by_cases hx2 : x.2.2.key = key
  · rw [h1, hx2]; simp
  · rw [beq_eq_false_iff_ne.2 hx2]; simp
theorem kept_append (A B : List (It He)) : keptK key (A ++ B) = keptK key A ++ keptK key B := by simp [keptK, helds]
theorem kept_dropS : keptK key (dropS A k) = if k = key then [] else keptK key A := by
  unfold keptK helds dropS
  rw [List.filter_filter]
  split
  · rename_i h
    subst h
    rw [List.filter_eq_nil_iff.2 (fun x _ => by simp)]; rfl
  · rename_i h
    congr 2
    refine List.filter_congr fun x _ => ?_
    by_cases hx2 : x.2.2.key = key
    · have : ¬ key = k := fun e => h e.symm
      simp [hx2, this]
    · simp [hx2]
end
theorem sizeE_le {k : List UInt8} {e : En} (h : SmE k e) : sizeE k e ≤ 17000 := by
  have h1 := h.k; have h2 := h.bo; have h3 := h.re; have h4 := h.fs.size; have h5 := h.vy.size
  unfold sizeE
  omega
theorem totK_le : ∀ {A : List (It He)}, Of A → (∀ a ∈ A, SmE a.2.2.key a.2.2.e) → totK A ≤ 17000 * A.length
  | [], _, _ => Nat.zero_le _
  | a :: r, hO, hs => by
    have h1 := totK_le (A := r) (fun x hx => hO x (by simp [hx])) (fun x hx => hs x (by simp [hx]))
    have h2 := sizeE_le (hs a (by simp))
    have h3 : a.2.1 = sizeE a.2.2.key a.2.2.e := by rw [hO a (by simp)]; rfl
    rw [totK, List.length_cons]
    omega
/-- as long as there is room nothing goes -/
theorem putS_room {n m : Nat} {A : List (It He)} {h : He} (hO : Of A) (hs : ∀ a ∈ A, SmE a.2.2.key a.2.2.e) (hh : SmE h.key h.e) (h1 : A.length < n) (h2 : 17000 * (A.length + 1) ≤ m) : (putS n m A h).2 = dropK (idH h) A ++ [itH h] ∧ sizeE h.key h.e ≤ m := by
  have e1 := sizeE_le hh
  have e2 : (dropK (idH h) A).length ≤ A.length := (dropK_sub _ _).length_le
  have e3 := totK_le (A := dropK (idH h) A) (fun a ha => hO a ((dropK_sub _ _).subset ha)) (fun a ha => hs a ((dropK_sub _ _).subset ha))
  have e4 : sizeE h.key h.e ≤ m := by omega
  refine ⟨?_, e4⟩
  unfold putS putK
  rw [if_neg (by omega)]
  show (roomK n m _ (dropK (idH h) A)).2 ++ _ = _
  rw [roomK_done (by omega) (by omega)]
  rfl
theorem sortN_put {A : List (It He)} {h : He} (hs : sortN A) (hn : ∀ a ∈ A, a.2.2.n < h.n) : sortN (dropK (idH h) A ++ [itH h]) := by
  unfold sortN
  rw [List.pairwise_append]
  refine ⟨hs.sub (dropK_sub _ _), List.pairwise_singleton _ _, fun a ha b hb => ?_⟩
  rw [List.mem_singleton.1 hb]
  exact hn a ((dropK_sub _ _).subset ha)
theorem kept_put_own {A B : List (It He)} {key : List UInt8} {e : En} {q q' : Nat} (hA : Of A) (hB : Of B) (h : keptK key A = keptK key B) : keptK key (dropK (idT key e.vy) A ++ [itH ⟨key, e, q⟩]) = keptK key (dropK (idT key e.vy) B ++ [itH ⟨key, e, q'⟩]) := by
  rw [kept_append, kept_append, kept_same hA, kept_same hB, h]
  congr 1
  simp [keptK, helds, itH]
theorem kept_put_other {A : List (It He)} {key k : List UInt8} {e : En} {q : Nat} (hA : Of A) (hk : ¬ k = key) : keptK key (dropK (idT k e.vy) A ++ [itH ⟨k, e, q⟩]) = keptK key A := by
  rw [kept_append, kept_other hA hk]
  simp [keptK, helds, itH, hk]
theorem kept_rem_own {A B : List (It He)} {key : List UInt8} {vy : List Fld} (hA : Of A) (hB : Of B) (h : keptK key A = keptK key B) : keptK key (dropK (idT key vy) A) = keptK key (dropK (idT key vy) B) := by
  rw [kept_same hA, kept_same hB, h]
theorem kept_drop_own {A B : List (It He)} {key : List UInt8} : keptK key (dropS A key) = keptK key (dropS B key) := by
  rw [kept_dropS, kept_dropS, if_pos rfl, if_pos rfl]
theorem kept_drop_other {A : List (It He)} {key k : List UInt8} (hk : ¬ k = key) : keptK key (dropS A k) = keptK key A := by
  rw [kept_dropS, if_neg hk]
end Go.Proofs.YtopgeclecpaecaaGreatDoor
