/- What an entry's life and age are, plainly. -/
import Derived.Test.YtfobjaccpnondaaGreatDoorKDirA
import Derived.Test.YtfobjaccpnondaaGreatDoorKFieldsW
import Derived.Test.YtfobjaccpnondaaGreatDoorKPlain
import Derived.Test.YtfobjaccpnondaaGreatDoorKTick
namespace Go.Proofs.YtfobjaccpnondaaGreatDoor
open Go.RowKit

def ccN : List UInt8 := [99, 97, 99, 104, 101, 45, 99, 111, 110, 116, 114, 111, 108]
def scN : List UInt8 := [115, 117, 114, 114, 111, 103, 97, 116, 101, 45, 99, 111, 110, 116, 114, 111, 108]
def dtN : List UInt8 := [100, 97, 116, 101]
def exN : List UInt8 := [101, 120, 112, 105, 114, 101, 115]
def agN : List UInt8 := [97, 103, 101]
def ncN : List UInt8 := [110, 111, 45, 99, 97, 99, 104, 101]
def smN : List UInt8 := [115, 45, 109, 97, 120, 97, 103, 101]
/-- the date of a field -/
def dateO (Y : Int) (l : List Fld) (n : List UInt8) : Option Int := parseDL (Y + 50) (getL l n)
def sentI (Y : Int) (l : List Fld) (got : Int) : Int := (dateO Y l dtN).getD got
def toldI (l : List Fld) : Int := delI (getL l agN)
def ageI (Y : Int) (l : List Fld) (asked got now : Int) : Int := addI (max (sinceI (sentI Y l got) got) (addI (toldI l) (sinceI asked got))) (sinceI got now)
/-- what the rules say: a number, and whether it applies -/
def numR (ds : List Dv) (n : List UInt8) : Int × Bool := match findD ds n with | some d => (delI d.2.1, true) | none => (0, false)
def neverR (ds : List Dv) (n : List UInt8) : Int × Bool := (0, (findD ds n).isSome)
def ctlR (c : Ctl) : Int × Bool := (c.2.2.2.2.1, c.2.2.2.1)
def dateR (Y : Int) (l : List Fld) (got : Int) (n : List UInt8) : Int × Bool := match dateO Y l n with | none => (0, hasF l n) | some t => (sinceI (sentI Y l got) t, hasF l n)
def lifeR (c : Ctl) (ds : List Dv) (Y : Int) (l : List Fld) (got : Int) : List (Int × Bool) := [ctlR c, neverR ds ncN, numR ds smN, numR ds maxN, dateR Y l got exN]
def firstI : List (Int × Bool) → Int
  | [] => 0
  | p :: r => if p.2 then p.1 else firstI r
def ctlE (l : List Fld) (dev : List UInt8) : Ctl := ofC (valsL l scN) dev
def dirsE (l : List Fld) : List Dv := dirsAll (valsL l ccN)
def lifeI (Y : Int) (l : List Fld) (got : Int) (dev : List UInt8) : Int := firstI (lifeR (ctlE l dev) (dirsE l) Y l got)

/-! An entry of few fields. -/
def Fe (l : List Fld) : Prop := l.length ≤ 100 ∧ ∀ f ∈ l, f.1.length ≤ 7000 ∧ f.2.length ≤ 7000
theorem Fe.small {l : List Fld} (h : Fe l) : smallF l := fun j hj => by
  have := h.2 _ (List.getElem_mem hj)
  omega
theorem sizeL_le {N : Nat} : ∀ {l : List Fld}, (∀ f ∈ l, f.1.length ≤ N ∧ f.2.length ≤ N) → sizeL l ≤ 2 * N * l.length
  | [], _ => by simp [sizeL]
  | f :: l, h => by
    have h1 := h f (List.mem_cons_self ..)
    have h2 := sizeL_le (l := l) fun g hg => h g (List.mem_cons_of_mem _ hg)
    have e : sizeL (f :: l) = f.1.length + f.2.length + sizeL l := by simp [sizeL]
    rw [e, List.length_cons, Nat.mul_add]
    omega
theorem Fe.size {l : List Fld} (h : Fe l) : sizeL l ≤ 1400000 := by
  have := sizeL_le h.2
  have h1 := h.1
  omega
theorem Fe.getLen {l : List Fld} (h : Fe l) (n : List UInt8) : (getL l n).length ≤ 1400200 := by
  have h1 := get_len l n
  have h2 := h.size
  have h3 := h.1
  omega
theorem Fe.vals {l : List Fld} (h : Fe l) (n : List UInt8) : (valsL l n).length ≤ 100 ∧ ∀ x ∈ valsL l n, x.length ≤ 7000 := by
  refine ⟨Nat.le_trans (vals_len l n) h.1, fun x hx => ?_⟩
  unfold valsL at hx
  obtain ⟨f, hf, rfl⟩ := List.mem_map.1 hx
  exact (h.2 f (List.mem_filter.1 hf).1).2

/-! Bounds; what goes by. -/
theorem del_bd (l : List UInt8) : 0 ≤ delI l ∧ delI l ≤ 2147483648 := by
  unfold delI
  split
  · exact ⟨ofI_lo _, ofI_hi _⟩
  · exact ⟨Int.le_refl _, by decide⟩
theorem ages_bd (s : List UInt8) : 0 ≤ (agesP s).1 ∧ (agesP s).1 ≤ 2147483648 := by
  by_cases h : isDel s = true
  · rw [ages_whole h]; exact del_bd s
  · by_cases hk : ∃ k, ∃ hk : k < s.length, s[k] = 43 ∧ hit43 s k = true
    · obtain ⟨k, hk, hc, hh⟩ := hk
      rw [ages_hit hk hc hh]; exact del_bd _
    · rw [ages_none (by simpa using h) (fun k hk' hc => by
        cases hq : hit43 s k
        · rfl
        · exact absurd ⟨k, hk', hc, hq⟩ hk)]
      exact ⟨Int.le_refl _, by decide⟩
theorem since_bd (a b : Int) : 0 ≤ sinceI a b ∧ sinceI a b ≤ 2147483648 := ⟨ofI_lo _, ofI_hi _⟩
theorem add_bd (a b : Int) : 0 ≤ addI a b ∧ addI a b ≤ 2147483648 := ⟨ofI_lo _, ofI_hi _⟩
theorem num_bd (ds : List Dv) (n : List UInt8) : 0 ≤ (numR ds n).1 ∧ (numR ds n).1 ≤ 2147483648 := by
  unfold numR
  split
  · exact del_bd _
  · exact ⟨Int.le_refl _, by decide⟩
theorem dateR_bd (Y : Int) (l : List Fld) (got : Int) (n : List UInt8) : 0 ≤ (dateR Y l got n).1 ∧ (dateR Y l got n).1 ≤ 2147483648 := by
  unfold dateR
  split
  · exact ⟨Int.le_refl _, by show (0 : Int) ≤ 2147483648; decide⟩
  · exact since_bd _ _
theorem first_bd : ∀ {r : List (Int × Bool)}, (∀ p ∈ r, 0 ≤ p.1 ∧ p.1 ≤ 2147483648) → 0 ≤ firstI r ∧ firstI r ≤ 2147483648
  | [], _ => ⟨Int.le_refl _, by decide⟩
  | p :: r, h => by
    unfold firstI
    split
    · exact h p (List.mem_cons_self ..)
    · exact first_bd fun q hq => h q (List.mem_cons_of_mem _ hq)
theorem life_bd (Y : Int) (l : List Fld) (got : Int) (dev : List UInt8) : 0 ≤ lifeI Y l got dev ∧ lifeI Y l got dev ≤ 2147483648 := by
  refine first_bd fun p hp => ?_
  simp only [lifeR, List.mem_cons, List.not_mem_nil, or_false] at hp
  rcases hp with rfl | rfl | rfl | rfl | rfl
  · show 0 ≤ (ctlE l dev).2.2.2.2.1 ∧ (ctlE l dev).2.2.2.2.1 ≤ 2147483648
    exact ages_bd _
  · exact ⟨Int.le_refl _, by show (0 : Int) ≤ 2147483648; decide⟩
  · exact num_bd _ _
  · exact num_bd _ _
  · exact dateR_bd _ _ _ _
theorem age_bd (Y : Int) (l : List Fld) (asked got now : Int) : 0 ≤ ageI Y l asked got now ∧ ageI Y l asked got now ≤ 2147483648 := add_bd _ _
theorem ofI_mx (n : Int) : ofI n = max 0 (min n 2147483648) := by
  unfold ofI
  repeat' split
  all_goals omega
/-- behind got the age grows by what goes by -/
theorem age_goes (Y : Int) (l : List Fld) (asked got a b : Int) (h1 : got ≤ a) (h2 : a ≤ b) : ageI Y l asked got b = addI (ageI Y l asked got a) (sinceI a b) := by
  unfold ageI
  generalize max (sinceI (sentI Y l got) got) (addI (toldI l) (sinceI asked got)) = x
  simp only [addI, sinceI, ofI_mx]
  omega
theorem age_rises (Y : Int) (l : List Fld) (asked got a b : Int) (h : a ≤ b) : ageI Y l asked got a ≤ ageI Y l asked got b := by
  unfold ageI
  generalize max (sinceI (sentI Y l got) got) (addI (toldI l) (sinceI asked got)) = x
  simp only [addI, sinceI, ofI_mx]
  omega
theorem age_ahead (Y : Int) (l : List Fld) (asked got : Int) : ageI Y l asked got (got - 1) = ageI Y l asked got got := by
  unfold ageI
  generalize max (sinceI (sentI Y l got) got) (addI (toldI l) (sinceI asked got)) = x
  simp only [addI, sinceI, ofI_mx]
  omega

/-! Without the fields of a name, with others in their place. -/
def withoutL (l : List Fld) (n : List UInt8) (vs : List (List UInt8)) : List Fld := l.filter (fun f => !sameN f.1 n) ++ vs.map fun v => (n, v)
theorem sameN_trans {a b c : List UInt8} (h : sameN a b = true) : sameN a c = sameN b c := by
  unfold sameN at *
  rw [eq_of_beq h]
theorem sameN_comm (a b : List UInt8) : sameN a b = sameN b a := by unfold sameN; exact Bool.beq_comm
theorem vals_append (a b : List Fld) (n : List UInt8) : valsL (a ++ b) n = valsL a n ++ valsL b n := by unfold valsL; rw [List.filter_append, List.map_append]
theorem vals_mapN (n m : List UInt8) : ∀ vs : List (List UInt8), valsL (vs.map fun v => (n, v)) m = if sameN n m then vs else []
  | [] => by simp [valsL]
  | v :: vs => by
    rw [List.map_cons, vals_cons, vals_mapN n m vs]
    split <;> rfl
theorem vals_filterN (l : List Fld) (n m : List UInt8) : valsL (l.filter fun f => !sameN f.1 n) m = if sameN n m then [] else valsL l m := by
  induction l with
  | nil => simp [valsL]
  | cons f l ih =>
    rw [List.filter_cons]
    cases h1 : sameN f.1 n
    · rw [if_pos (by rfl), vals_cons, ih, vals_cons]
      cases h2 : sameN n m
      · simp
      · have h3 : sameN f.1 m = false := by
          cases h4 : sameN f.1 m
          · rfl
          · rw [sameN_comm, sameN_trans (b := m) (by rw [sameN_comm]; rw [sameN_comm] at h4; rw [sameN_comm]; exact h2)] at h1
            rw [sameN_comm, h1] at h4; cases h4
        simp [h3]
    · rw [if_neg (by simp), ih, vals_cons]
      cases h2 : sameN n m
      · have h3 : sameN f.1 m = false := by rw [sameN_trans h1]; exact h2
        simp [h3]
      · simp
theorem vals_without (l : List Fld) (n m : List UInt8) (vs : List (List UInt8)) : valsL (withoutL l n vs) m = if sameN n m then vs else valsL l m := by
  unfold withoutL
  rw [vals_append, vals_filterN, vals_mapN]
  cases sameN n m <;> simp
theorem get_without {l : List Fld} {n m : List UInt8} {vs : List (List UInt8)} (h : sameN n m = false) : getL (withoutL l n vs) m = getL l m := by
  unfold getL; rw [vals_without, h]; simp
theorem age_without {Y : Int} {l : List Fld} {n : List UInt8} {vs : List (List UInt8)} (asked got now : Int) (h1 : sameN n dtN = false) (h2 : sameN n agN = false) : ageI Y (withoutL l n vs) asked got now = ageI Y l asked got now := by
  unfold ageI sentI toldI dateO
  rw [get_without h1, get_without h2]
theorem life_ctl {Y : Int} {l : List Fld} {got : Int} {dev : List UInt8} (h : (ctlE l dev).2.2.2.1 = true) : lifeI Y l got dev = (ctlE l dev).2.2.2.2.1 := by
  show firstI (ctlR (ctlE l dev) :: _) = _
  unfold firstI
  rw [if_pos (show (ctlR (ctlE l dev)).2 = true from h)]
  rfl
theorem ctl_without {l : List Fld} {n : List UInt8} {vs : List (List UInt8)} (dev : List UInt8) (h : sameN n scN = false) : ctlE (withoutL l n vs) dev = ctlE l dev := by
  unfold ctlE; rw [vals_without, h]; simp
theorem ctl_with {l : List Fld} {vs : List (List UInt8)} (dev : List UInt8) : ctlE (withoutL l scN vs) dev = ofC vs dev := by
  unfold ctlE; rw [vals_without, show sameN scN scN = true from beq_self_eq_true _]; simp
theorem fe_without {l : List Fld} {n : List UInt8} {vs : List (List UInt8)} (h : l.length ≤ 90) (hf : ∀ f ∈ l, f.1.length ≤ 7000 ∧ f.2.length ≤ 7000) (hn : n.length ≤ 7000) (hv : ∀ x ∈ vs, x.length ≤ 7000) (hl : vs.length ≤ 10) : Fe (withoutL l n vs) := by
  constructor
  · unfold withoutL
    rw [List.length_append, List.length_map]
    have := List.length_filter_le (fun f : Fld => !sameN f.1 n) l
    omega
  · intro f hf2
    unfold withoutL at hf2
    rcases List.mem_append.1 hf2 with h1 | h1
    · exact hf f (List.mem_filter.1 h1).1
    · obtain ⟨v, hv2, rfl⟩ := List.mem_map.1 h1
      exact ⟨hn, hv v hv2⟩

/-! The directives of an entry. -/
theorem dirs_lenE {l : List UInt8} {d : Dv} (h : d ∈ dirs l) : d.1.length ≤ l.length + 8 ∧ d.2.1.length ≤ l.length ∧ d.2.2.2 = [] := by
  unfold dirs at h
  split at h
  · obtain ⟨e, he, hs⟩ := List.mem_filterMap.1 h
    have h1 := sayD_len hs
    have h2 := (sayD_name hs).2.2.2
    have h3 := splitL_at he
    exact ⟨by omega, by omega, h2⟩
  · obtain rfl : d = noStore := by simpa using h
    exact ⟨by simp [noStore], by simp [noStore], rfl⟩
theorem dirsE_at {l : List Fld} (hf : Fe l) {d : Dv} (h : d ∈ dirsE l) : d.1.length ≤ 7008 ∧ d.2.1.length ≤ 7000 ∧ d.2.2.2 = [] := by
  unfold dirsE dirsAll at h
  obtain ⟨x, hx, hd⟩ := List.mem_flatMap.1 h
  have h1 := dirs_lenE hd
  have h2 := (hf.vals ccN).2 x hx
  exact ⟨by omega, by omega, h1.2.2⟩
theorem find_memE {l : List Dv} {n : List UInt8} {d : Dv} (h : findD l n = some d) : d ∈ l := List.mem_of_find?_eq_some h

/-! The life, way by way. -/
section
variable {Y got : Int} {l : List Fld} {dev : List UInt8} {d : Dv}
theorem life_0 (hc : (ctlE l dev).2.2.2.1 = false) (h : findD (dirsE l) ncN = some d) : lifeI Y l got dev = 0 := by
  simp [lifeI, lifeR, firstI, ctlR, neverR, hc, h]
theorem life_1 (hc : (ctlE l dev).2.2.2.1 = false) (h : findD (dirsE l) ncN = none) (h1 : findD (dirsE l) smN = some d) : lifeI Y l got dev = delI d.2.1 := by
  simp [lifeI, lifeR, firstI, ctlR, neverR, numR, hc, h, h1]
theorem life_2 (hc : (ctlE l dev).2.2.2.1 = false) (h : findD (dirsE l) ncN = none) (h1 : findD (dirsE l) smN = none) (h2 : findD (dirsE l) maxN = some d) : lifeI Y l got dev = delI d.2.1 := by
  simp [lifeI, lifeR, firstI, ctlR, neverR, numR, hc, h, h1, h2]
theorem life_3 (hc : (ctlE l dev).2.2.2.1 = false) (h : findD (dirsE l) ncN = none) (h1 : findD (dirsE l) smN = none) (h2 : findD (dirsE l) maxN = none) (ho : dateO Y l exN = none) : lifeI Y l got dev = 0 := by
  simp [lifeI, lifeR, firstI, ctlR, neverR, numR, dateR, hc, h, h1, h2, ho]
theorem get_no {n : List UInt8} (h : hasF l n = false) : getL l n = [] := by
  unfold hasF at h
  have : valsL l n = [] := List.eq_nil_of_length_eq_zero (by simpa using h)
  unfold getL; rw [this]; rfl
theorem parseD_nil (nw : Int) : parseDL nw [] = none := by rfl
theorem date_no {n : List UInt8} (h : hasF l n = false) : dateO Y l n = none := by
  unfold dateO; rw [get_no h]; exact parseD_nil _
theorem has_date {n : List UInt8} {t : Int} (h : dateO Y l n = some t) : hasF l n = true := by
  cases hq : hasF l n
  · rw [date_no hq] at h; cases h
  · rfl
theorem life_4 {t : Int} (hc : (ctlE l dev).2.2.2.1 = false) (h : findD (dirsE l) ncN = none) (h1 : findD (dirsE l) smN = none) (h2 : findD (dirsE l) maxN = none) (ho : dateO Y l exN = some t) : lifeI Y l got dev = sinceI (sentI Y l got) t := by
  simp [lifeI, lifeR, firstI, ctlR, neverR, numR, dateR, hc, h, h1, h2, ho, has_date ho]
end
end Go.Proofs.YtfobjaccpnondaaGreatDoor
