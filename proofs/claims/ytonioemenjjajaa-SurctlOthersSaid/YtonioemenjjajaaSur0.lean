/- What Surrogate-Control's values say, plainly: elements, their parts, the directives of a device, a control; as the program goes and as the document says, and that both are the same. Nothing of the program is read here. -/
import Derived.Test.YtonioemenjjajaaDir0
import Derived.Test.YtonioemenjjajaaTick0
namespace Go.Proofs.Ytonioemenjjajaa

/-! What a cut leaves of what is open. -/
def stq (l : List UInt8) (s : Bool × Bool) : Bool × Bool := l.foldl (fun s c => qnext s.1 s.2 c) s
theorem stq_append (a b : List UInt8) (s : Bool × Bool) : stq (a ++ b) s = stq b (stq a s) := by unfold stq; rw [List.foldl_append]
theorem stq_cons (c : UInt8) (r : List UInt8) (s : Bool × Bool) : stq (c :: r) s = stq r (qnext s.1 s.2 c) := rfl
theorem stq_snoc (a : List UInt8) (c : UInt8) (s : Bool × Bool) : stq (a ++ [c]) s = qnext (stq a s).1 (stq a s).2 c := by rw [stq_append]; rfl
/-- no byte t stands outside quotes -/
def noq (t : UInt8) (l : List UInt8) (s : Bool × Bool) : Prop := ∀ a c b, l = a ++ c :: b → (stq a s).1 = false → c ≠ t
theorem noq_nil (t : UInt8) (s : Bool × Bool) : noq t [] s := fun a c b h => by simp at h
theorem noq_snoc {t : UInt8} {l : List UInt8} {s : Bool × Bool} {c : UInt8} (h : noq t l s) (hc : (stq l s).1 = false → c ≠ t) : noq t (l ++ [c]) s := by
  intro a d b e hs
  rcases List.eq_nil_or_concat b with rfl | ⟨b', z, rfl⟩
  · have e2 : l ++ [c] = a ++ [d] := e
    obtain ⟨rfl, e3⟩ := List.append_inj' e2 rfl
    obtain rfl : c = d := by simpa using e3
    exact hc hs
  · have e2 : l ++ [c] = (a ++ d :: b') ++ [z] := by rw [e, List.concat_eq_append]; simp
    obtain ⟨rfl, _⟩ := List.append_inj' e2 rfl
    exact h a d b' rfl hs
theorem noq_left {t : UInt8} {a b : List UInt8} {s : Bool × Bool} (h : noq t (a ++ b) s) : noq t a s := by
  intro x c y e hs
  exact h x c (y ++ b) (by rw [e]; simp) hs
theorem noq_right {t : UInt8} {a b : List UInt8} {s : Bool × Bool} (h : noq t (a ++ b) s) : noq t b (stq a s) := by
  intro x c y e hs
  refine h (a ++ x) c y (by rw [e]; simp) ?_
  rw [stq_append]; exact hs
theorem qn_blank {c : UInt8} (hb : blankB c = true) (e : Bool) : qnext false e c = (false, false) := by
  refine qn_out e (bne_iff_ne.2 fun h => ?_)
  unfold blankB blankI at hb
  rw [decide_eq_true_iff] at hb
  omega
theorem qn_blank_in {c : UInt8} (hb : blankB c = true) (e : Bool) : (qnext true e c).1 = true := by
  unfold blankB blankI at hb
  rw [decide_eq_true_iff] at hb
  unfold qnext
  cases e
  · have h1 : ¬ (c.toNat : Int) = 92 := by omega
    have h2 : ¬ (c.toNat : Int) = 34 := by omega
    simp [h1, h2]
  · simp
theorem stq_gap : ∀ {g : List UInt8}, gaps g → stq g (false, false) = (false, false)
  | [], _ => rfl
  | c :: r, h => by
    rw [stq_cons, qn_blank (h c (by simp)) false]
    exact stq_gap fun x hx => h x (by simp [hx])
theorem stq_gap_in : ∀ {g : List UInt8} {s : Bool × Bool}, gaps g → s.1 = true → (stq g s).1 = true
  | [], _, _, h => h
  | c :: r, s, h, hs => by
    obtain ⟨o, e⟩ := s
    simp only at hs
    subst hs
    rw [stq_cons]
    exact stq_gap_in (fun x hx => h x (by simp [hx])) (qn_blank_in (h c (by simp)) e)
theorem stq_out : ∀ (l : List UInt8) (s : Bool × Bool), s.1 = false → s.2 = false → (stq l s).1 = false → (stq l s).2 = false := by
  have key : ∀ (l : List UInt8) (s : Bool × Bool), (s.1 = false → s.2 = false) → (stq l s).1 = false → (stq l s).2 = false := by
    intro l
    induction l with
    | nil => intro s h; exact h
    | cons c r ih =>
      intro s h
      rw [stq_cons]
      refine ih _ ?_
      obtain ⟨o, e⟩ := s
      unfold qnext
      cases o <;> cases e <;> simp only [Bool.false_eq_true, if_false, if_true] <;> (repeat' split) <;> simp
  exact fun l s _ h => key l s fun _ => h
theorem takeWhile_gaps : ∀ l : List UInt8, gaps (l.takeWhile blankB)
  | [] => fun c h => by cases h
  | x :: r => fun c h => by
    rw [List.takeWhile_cons] at h
    split at h
    · rename_i hx
      rcases List.mem_cons.1 h with rfl | h
      · exact hx
      · exact takeWhile_gaps r c h
    · cases h
theorem blanks_ltrim (l : List UInt8) : ∃ g, gaps g ∧ l = g ++ ltrim l :=
  ⟨l.takeWhile blankB, takeWhile_gaps l, (List.takeWhile_append_dropWhile).symm⟩
theorem blanks_rtrim (l : List UInt8) : ∃ g, gaps g ∧ l = rtrim l ++ g := by
  obtain ⟨g, h1, h2⟩ := blanks_ltrim l.reverse
  refine ⟨g.reverse, fun c hc => h1 c (by simpa using hc), ?_⟩
  have h3 := congrArg List.reverse h2
  rw [List.reverse_reverse, List.reverse_append] at h3
  exact h3
theorem blanks_trim (l : List UInt8) : ∃ g g', gaps g ∧ gaps g' ∧ l = g ++ trim l ++ g' := by
  obtain ⟨g, h1, h2⟩ := blanks_ltrim l
  obtain ⟨g', h3, h4⟩ := blanks_rtrim (ltrim l)
  refine ⟨g, g', h1, h3, ?_⟩
  show l = g ++ rtrim (ltrim l) ++ g'
  rw [List.append_assoc, ← h4]; exact h2
/-- a piece in which no byte t stands outside quotes -/
structure Shut (t : UInt8) (x : List UInt8) : Prop where
  ne : x ≠ []
  tr : trim x = x
  fin : (stq x (false, false)).1 = false
  no : noq t x (false, false)
theorem shut_trim {t : UInt8} {cur : List UInt8} (h1 : (stq cur (false, false)).1 = false) (h2 : noq t cur (false, false)) (h3 : ¬ (trim cur).isEmpty) : Shut t (trim cur) := by
  obtain ⟨g, g', hg, hg', e⟩ := blanks_trim cur
  have h4 : noq t (trim cur) (false, false) := by
    have h := h2
    rw [e] at h
    have h5 := noq_right (noq_left h)
    rwa [stq_gap hg] at h5
  refine ⟨fun h => h3 (by rw [h]; rfl), trim_idem cur, ?_, h4⟩
  have h := h1
  rw [e, stq_append, stq_append, stq_gap hg] at h
  cases hh : (stq (trim cur) (false, false)).1
  · rfl
  · rw [stq_gap_in hg' hh] at h; cases h
theorem cut_shut {sep t : UInt8} (hsep : ¬ (sep.toNat : Int) = 34) : ∀ (l : List UInt8) (o e : Bool) (cur : List UInt8) (A R : List (List UInt8)), stq cur (false, false) = (o, e) → noq t cur (false, false) →
    (∀ a c b, l = a ++ c :: b → (stq a (o, e)).1 = false → c ≠ sep → c ≠ t) → (∀ x ∈ A, Shut t x) → cutAt sep l o e cur A = some R → ∀ x ∈ R, Shut t x
  | [], o, e, cur, A, R, h1, h2, _, h4, h5 => by
    rw [cutAt] at h5
    cases o
    · obtain rfl : addP A cur = R := by simpa using h5
      unfold addP
      split
      · exact h4
      · rename_i hn
        intro x hx
        rcases List.mem_append.1 hx with hx | hx
        · exact h4 x hx
        · rw [List.mem_singleton.1 hx]
          exact shut_trim (by rw [h1]) h2 hn
    · simp at h5
  | c :: r, o, e, cur, A, R, h1, h2, h3, h4, h5 => by
    rw [cutAt] at h5
    split at h5
    · rename_i hs
      obtain ⟨rfl, hcs⟩ := hs
      subst hcs
      refine cut_shut hsep r false false [] (addP A cur) R rfl (noq_nil _ _) (fun a d b he hst => ?_) ?_ h5
      · refine h3 (c :: a) d b (by rw [he]; rfl) ?_
        have he2 : stq (c :: a) (false, e) = stq a (qnext false e c) := rfl
        rw [he2]
        rw [qn_out e (bne_iff_ne.2 hsep)]; exact hst
      · unfold addP
        split
        · exact h4
        · rename_i hn
          intro x hx
          rcases List.mem_append.1 hx with hx | hx
          · exact h4 x hx
          · rw [List.mem_singleton.1 hx]
            exact shut_trim (by rw [h1]) h2 hn
    · rename_i hs
      refine cut_shut hsep r (qnext o e c).1 (qnext o e c).2 (cur ++ [c]) A R (by rw [stq_snoc, h1]) (noq_snoc h2 fun ho => ?_) (fun a d b he hst => h3 (c :: a) d b (by rw [he]; rfl) hst) h4 h5
      rw [h1] at ho
      simp only at ho
      exact h3 [] c r rfl ho fun hc => hs ⟨ho, hc⟩
theorem cut_clean {t : UInt8} : ∀ (l : List UInt8) (o e : Bool) (cur : List UInt8) (A : List (List UInt8)), noq t l (o, e) → (stq l (o, e)).1 = false → cutAt t l o e cur A = some (addP A (cur ++ l))
  | [], o, e, cur, A, _, h => by
    have : o = false := h
    subst this
    simp [cutAt]
  | c :: r, o, e, cur, A, h1, h2 => by
    have hc : ¬ (o = false ∧ c = t) := fun h => h1 [] c r rfl h.1 h.2
    rw [cutAt, if_neg hc, cut_clean r (qnext o e c).1 (qnext o e c).2 _ _ (fun a d b he hs => h1 (c :: a) d b (by rw [he]; rfl) hs) h2]
    simp
theorem split_shut {t : UInt8} {x : List UInt8} (hb : badSep t = false) (h : Shut t x) : splitE x t = 0 ∧ splitL x t = [x] := by
  have hc := cut_clean x false false [] [] h.no h.fin
  have hp : addP [] ([] ++ x) = [x] := by
    unfold addP
    rw [List.nil_append, h.tr, if_neg (by have := h.ne; cases x with | nil => exact absurd rfl this | cons a b => simp)]
    rfl
  rw [hp] at hc
  constructor <;> simp [splitE, splitL, hb, hc]
theorem shut_of_split {t sep : UInt8} {l : List UInt8} (hb : badSep sep = false) (h3 : ∀ a c b, l = a ++ c :: b → (stq a (false, false)).1 = false → c ≠ sep → c ≠ t) : ∀ x ∈ splitL l sep, Shut t x := by
  have hsep : ¬ (sep.toNat : Int) = 34 := by
    intro h
    unfold badSep at hb
    rw [Bool.or_eq_false_iff] at hb
    exact beq_eq_false_iff_ne.1 hb.1 (UInt8.toNat_inj.1 (by simp; omega))
  intro x hx
  unfold splitL at hx
  rw [hb] at hx
  simp only [Bool.false_eq_true, if_false] at hx
  split at hx
  · cases hx
  · rename_i R hR
    split at hx
    · cases hx
    · exact cut_shut hsep l false false [] [] R rfl (noq_nil _ _) h3 (fun x h => by cases h) hR x hx
/-- a part of an element of a value is cut at no comma -/
theorem part_dirs {v e p : List UInt8} (he : e ∈ splitL v 44) (hp : p ∈ splitL e 59) : dirs p = (sayD p).toList := by
  have h1 : Shut 44 e := shut_of_split (by decide) (fun a c b _ _ h => h) e he
  have h2 : Shut 44 p := shut_of_split (by decide) (fun a c b hl hs _ => h1.no a c b hl hs) p hp
  obtain ⟨hE, hL⟩ := split_shut (by decide) h2
  unfold dirs
  rw [if_pos hE, hL]
  cases h : sayD p <;> simp [h]

/-! Directives for devices. -/
def forD (f : List UInt8) (d : Dv) : Dv := (d.1, d.2.1, d.2.2.1, f)
/-- what an element states, as the program goes: its parts are cut once more -/
def elemP (e : List UInt8) : List Dv :=
  if splitE e 59 = 0 then
    match splitL e 59 with
    | [p] => (dirs p).map (forD [])
    | [p, f] => if token f then (dirs p).map (forD f) else []
    | _ => []
  else [noStore]
/-- as the document says -/
def elemD (e : List UInt8) : List Dv :=
  if splitE e 59 = 0 then
    match splitL e 59 with
    | [p] => (sayD p).toList
    | [p, f] => if token f then (sayD p).toList.map (forD f) else []
    | _ => []
  else [noStore]
def valP (v : List UInt8) : List Dv := if splitE v 44 = 0 then (splitL v 44).flatMap elemP else [noStore]
def valD (v : List UInt8) : List Dv := if splitE v 44 = 0 then (splitL v 44).flatMap elemD else [noStore]
def listP (L : List (List UInt8)) : List Dv := L.flatMap valP
def listS (L : List (List UInt8)) : List Dv := L.flatMap valD
theorem forD_nil {p : List UInt8} : (sayD p).toList.map (forD []) = (sayD p).toList := by
  cases h : sayD p with
  | none => rfl
  | some d =>
    obtain ⟨a, b, c, f⟩ := d
    have := (sayD_name h).2.2.2
    simp only at this
    subst this
    rfl
theorem elem_eq {v e : List UInt8} (he : e ∈ splitL v 44) : elemP e = elemD e := by
  unfold elemP elemD
  split
  · split
    · rename_i p hp
      rw [part_dirs he (by rw [hp]; simp), forD_nil]
    · rename_i p f hp
      rw [part_dirs he (by rw [hp]; simp)]
    · rfl
  · rfl
theorem flatMap_eq {α β : Type} {f g : α → List β} : ∀ {L : List α}, (∀ x ∈ L, f x = g x) → L.flatMap f = L.flatMap g
  | [], _ => rfl
  | x :: r, h => by rw [List.flatMap_cons, List.flatMap_cons, h x (by simp), flatMap_eq fun y hy => h y (by simp [hy])]
theorem val_eq (v : List UInt8) : valP v = valD v := by
  unfold valP valD
  split
  · exact flatMap_eq fun e he => elem_eq he
  · rfl
theorem list_eq (L : List (List UInt8)) : listP L = listS L := flatMap_eq fun v _ => val_eq v
/-- every name is one in small letters -/
theorem elemD_name {e : List UInt8} {d : Dv} (h : d ∈ elemD e) : lower d.1 = d.1 := by
  have key : ∀ {p : List UInt8} {d : Dv}, d ∈ (sayD p).toList → lower d.1 = d.1 := fun {p d} h => by
    rw [Option.mem_toList] at h
    exact (sayD_name h).2.1
  unfold elemD at h
  split at h
  · split at h
    · exact key h
    · split at h
      · obtain ⟨d', h1, rfl⟩ := List.mem_map.1 h
        have h2 := key h1
        exact h2
      · cases h
    · cases h
  · rw [List.mem_singleton.1 h]; decide
theorem listS_name {L : List (List UInt8)} {d : Dv} (h : d ∈ listS L) : lower d.1 = d.1 := by
  obtain ⟨v, _, hv⟩ := List.mem_flatMap.1 h
  unfold valD at hv
  split at hv
  · obtain ⟨e, _, he⟩ := List.mem_flatMap.1 hv
    exact elemD_name he
  · rw [List.mem_singleton.1 hv]; decide
/-! How long. -/
theorem splitS_at {l : List UInt8} {sep : UInt8} {x : List UInt8} (h : x ∈ splitL l sep) : x.length ≤ l.length := by
  have key : ∀ (l : List UInt8) (o e : Bool) (cur : List UInt8) (A R : List (List UInt8)) (N : Nat), cur.length + l.length ≤ N → (∀ x ∈ A, x.length ≤ N) → cutAt sep l o e cur A = some R → ∀ x ∈ R, x.length ≤ N := by
    have hadd : ∀ (A : List (List UInt8)) (cur : List UInt8) (N : Nat), cur.length ≤ N → (∀ x ∈ A, x.length ≤ N) → ∀ x ∈ addP A cur, x.length ≤ N := by
      intro A cur N h1 h2 x hx
      unfold addP at hx
      split at hx
      · exact h2 x hx
      · rcases List.mem_append.1 hx with hx | hx
        · exact h2 x hx
        · rw [List.mem_singleton.1 hx]; exact Nat.le_trans (trim_le cur) h1
    intro l
    induction l with
    | nil =>
      intro o e cur A R N h1 h2 h3
      rw [cutAt] at h3
      cases o
      · obtain rfl : addP A cur = R := by simpa using h3
        exact hadd A cur N (by simpa using h1) h2
      · simp at h3
    | cons c r ih =>
      intro o e cur A R N h1 h2 h3
      rw [cutAt] at h3
      simp only [List.length_cons] at h1
      split at h3
      · exact ih _ _ _ _ _ N (by simp; omega) (hadd A cur N (by omega) h2) h3
      · exact ih _ _ _ _ _ N (by simp; omega) h2 h3
  unfold splitL at h
  split at h
  · cases h
  · split at h
    · cases h
    · rename_i R hR
      split at h
      · cases h
      · exact key l false false [] [] R l.length (by simp) (fun x h => by cases h) hR x h
theorem splitS_len (l : List UInt8) (sep : UInt8) : (splitL l sep).length ≤ 64 := by
  unfold splitL
  split
  · simp
  · split
    · simp
    · split
      · simp
      · omega
theorem dirsS_len (l : List UInt8) : (dirs l).length ≤ 64 := by
  unfold dirs
  split
  · exact Nat.le_trans (List.length_filterMap_le _ _) (splitS_len l 44)
  · simp
theorem elemP_len (e : List UInt8) : (elemP e).length ≤ 64 := by
  unfold elemP
  split
  · split
    · rw [List.length_map]; exact dirsS_len _
    · split
      · rw [List.length_map]; exact dirsS_len _
      · simp
    · simp
  · simp
theorem flatMap_len {α β : Type} {f : α → List β} {n : Nat} : ∀ {L : List α}, (∀ x ∈ L, (f x).length ≤ n) → (L.flatMap f).length ≤ L.length * n
  | [], _ => by simp
  | x :: r, h => by
    have h1 := h x (by simp)
    have h2 := flatMap_len (f := f) (n := n) (L := r) fun y hy => h y (by simp [hy])
    rw [List.flatMap_cons, List.length_append, List.length_cons, Nat.add_mul, Nat.one_mul]
    omega
theorem valP_len (v : List UInt8) : (valP v).length ≤ 4096 := by
  unfold valP
  split
  · have h1 := flatMap_len (f := elemP) (n := 64) (L := splitL v 44) fun x _ => elemP_len x
    have h2 := splitS_len v 44
    omega
  · simp
theorem listP_len (L : List (List UInt8)) : (listP L).length ≤ L.length * 4096 := flatMap_len fun x _ => valP_len x
/-- the texts of what is stated are no longer than what states it -/
def DvN (N : Nat) (d : Dv) : Prop := d.1.length ≤ N + 8 ∧ d.2.1.length ≤ N ∧ d.2.2.2.length ≤ N
theorem elemD_at {e : List UInt8} {d : Dv} {N : Nat} (hN : e.length ≤ N) (h : d ∈ elemD e) : DvN N d := by
  have key : ∀ {p : List UInt8} {d : Dv}, p ∈ splitL e 59 → d ∈ (sayD p).toList → DvN N d := fun {p d} hp h => by
    rw [Option.mem_toList] at h
    have h1 := sayD_len h
    have h2 := (sayD_name h).2.2.2
    have h3 := splitS_at hp
    exact ⟨by omega, by omega, by rw [h2]; simp⟩
  unfold elemD at h
  split at h
  · split at h
    · rename_i p hp
      exact key (by rw [hp]; simp) h
    · rename_i p f hp
      split at h
      · obtain ⟨d', h1, rfl⟩ := List.mem_map.1 h
        have h2 := key (p := p) (by rw [hp]; simp) h1
        exact ⟨h2.1, h2.2.1, Nat.le_trans (splitS_at (l := e) (sep := 59) (x := f) (by rw [hp]; simp)) hN⟩
      · cases h
    · cases h
  · rw [List.mem_singleton.1 h]
    exact ⟨by simp [noStore], by simp [noStore], by simp [noStore]⟩
theorem listS_at {L : List (List UInt8)} {N : Nat} (hN : ∀ v ∈ L, v.length ≤ N) {d : Dv} (h : d ∈ listS L) : DvN N d := by
  obtain ⟨v, hv, hd⟩ := List.mem_flatMap.1 h
  unfold valD at hd
  split at hd
  · obtain ⟨e, he, hd⟩ := List.mem_flatMap.1 hd
    exact elemD_at (Nat.le_trans (splitS_at he) (hN v hv)) hd
  · rw [List.mem_singleton.1 hd]
    exact ⟨by simp [noStore], by simp [noStore], by simp [noStore]⟩

/-! A device's directives. -/
def ownN (l : List Dv) (dev n : List UInt8) : Bool := l.any fun d => d.2.2.2 == dev && d.1 == n
def mineS (l : List Dv) (dev : List UInt8) : List Dv := l.filter fun d => d.2.2.2 == dev || (d.2.2.2 == [] && !ownN l dev d.1)
/-- the document's way: is one of a device's directives of this name; is a directive a device's -/
def ownR (l : List Dv) (dev n : List UInt8) : Bool := l.any fun d => dev != [] && d.2.2.2 == dev && d.1 == n
def isMine (l : List Dv) (dev : List UInt8) (d : Dv) : Bool := (dev != [] && d.2.2.2 == dev) || (d.2.2.2 == [] && !ownR l dev d.1)
theorem isMine_eq (l : List Dv) (dev : List UInt8) (d : Dv) : isMine l dev d = (d.2.2.2 == dev || (d.2.2.2 == [] && !ownN l dev d.1)) := by
  unfold isMine ownR ownN
  by_cases h : dev = []
  · subst h
    cases d.2.2.2 == [] <;> simp
  · have h1 : (dev != []) = true := by simpa using h
    simp only [h1, Bool.true_and]
theorem mineR_eq (l : List Dv) (dev : List UInt8) : l.filter (isMine l dev) = mineS l dev := by
  unfold mineS
  congr 1
  funext d
  exact isMine_eq l dev d
theorem mineS_mem {l : List Dv} {dev : List UInt8} {d : Dv} (h : d ∈ mineS l dev) : d ∈ l := (List.mem_filter.1 h).1
theorem mineS_len (l : List Dv) (dev : List UInt8) : (mineS l dev).length ≤ l.length := List.length_filter_le _ _
theorem ownN_mine (l : List Dv) (dev n : List UInt8) : ownN (mineS l dev) dev n = ownN l dev n := by
  cases h : ownN l dev n
  · cases h2 : ownN (mineS l dev) dev n
    · rfl
    · obtain ⟨d, hd, h3⟩ := List.any_eq_true.1 h2
      have h4 : ownN l dev n = true := List.any_eq_true.2 ⟨d, mineS_mem hd, h3⟩
      rw [h] at h4; cases h4
  · obtain ⟨d, hd, h3⟩ := List.any_eq_true.1 h
    refine List.any_eq_true.2 ⟨d, List.mem_filter.2 ⟨hd, ?_⟩, h3⟩
    rw [Bool.and_eq_true] at h3
    rw [h3.1, Bool.true_or]
theorem mine_mine (l : List Dv) (dev : List UInt8) : mineS (mineS l dev) dev = mineS l dev := by
  refine List.filter_eq_self.2 fun d hd => ?_
  rw [ownN_mine]
  exact (List.mem_filter.1 hd).2
/-- what is for another device is none of a device's -/
theorem mine_other {m l : List Dv} {dev f : List UInt8} (hm : ∀ d ∈ m, d.2.2.2 = f) (h0 : f ≠ []) (h1 : f ≠ dev) : mineS (m ++ l) dev = mineS l dev := by
  have ho : ∀ n, ownN (m ++ l) dev n = ownN l dev n := fun n => by
    unfold ownN
    rw [List.any_append, List.any_eq_false.2, Bool.false_or]
    intro d hd
    rw [hm d hd, beq_eq_false_iff_ne.2 h1]
    simp
  unfold mineS
  rw [List.filter_append, List.filter_eq_nil_iff.2, List.nil_append]
  · congr 1
    funext d
    rw [ho]
  · intro d hd
    rw [hm d hd, beq_eq_false_iff_ne.2 h1, beq_eq_false_iff_ne.2 h0]
    simp
end Go.Proofs.Ytonioemenjjajaa
