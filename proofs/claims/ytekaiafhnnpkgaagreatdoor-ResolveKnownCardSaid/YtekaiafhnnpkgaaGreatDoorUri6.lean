/- A URI's normal form is its own, and not longer; what differs in forms alone has the same one. Plainly: nothing of the program is read here. -/
import Derived.Test.YtekaiafhnnpkgaaGreatDoorUri4
import Derived.Test.YtekaiafhnnpkgaaGreatDoorUri2
namespace Go.Proofs.YtekaiafhnnpkgaaGreatDoor
/-- a piece of text that is one byte, by itself or as an escape -/
def Pc (p : List UInt8) (t : UInt8 × Bool) : Prop := (∃ c, c ≠ 37 ∧ p = [c] ∧ t = (c, false)) ∨ (∃ a b, hxB a = true ∧ hxB b = true ∧ p = [37, a, b] ∧ t = (hx2 a b, true))
/-- a text that is made of pieces -/
def Gd (A : List UInt8) (T : List (UInt8 × Bool)) : Prop := ∃ L : List (List UInt8 × (UInt8 × Bool)), A = L.flatMap (·.1) ∧ T = L.map (·.2) ∧ ∀ x ∈ L, Pc x.1 x.2
theorem toks_pc {p r : List UInt8} {t : UInt8 × Bool} (h : Pc p t) : toks (p ++ r) = t :: toks r := by
  rcases h with ⟨c, h1, rfl, rfl⟩ | ⟨a, b, ha, hb, rfl, rfl⟩
  · match r with
    | [] => rfl
    | [d] => rfl
    | a :: b :: r =>
      have hc : (c == 37) = false := beq_eq_false_iff_ne.2 h1
      show toks (c :: a :: b :: r) = _
      rw [toks, if_neg (by rw [hc]; simp)]
  · show toks (37 :: a :: b :: r) = _
    rw [toks, if_pos (by rw [ha, hb]; rfl)]
theorem Gd.nil : Gd [] [] := ⟨[], rfl, rfl, fun x hx => by cases hx⟩
theorem Gd.snoc {A p : List UInt8} {T : List (UInt8 × Bool)} {t : UInt8 × Bool} (h : Gd A T) (hp : Pc p t) : Gd (A ++ p) (T ++ [t]) := by
  obtain ⟨L, rfl, rfl, h3⟩ := h
  refine ⟨L ++ [(p, t)], by simp, by simp, fun x hx => ?_⟩
  rcases List.mem_append.1 hx with h | h
  · exact h3 x h
  · rw [List.mem_singleton.1 h]; exact hp
theorem Gd.cons {A p : List UInt8} {T : List (UInt8 × Bool)} {t : UInt8 × Bool} (h : Gd A T) (hp : Pc p t) : Gd (p ++ A) (t :: T) := by
  obtain ⟨L, rfl, rfl, h3⟩ := h
  refine ⟨(p, t) :: L, by simp, by simp, fun x hx => ?_⟩
  rcases List.mem_cons.1 hx with rfl | h
  · exact hp
  · exact h3 x h
theorem Gd.toks {A : List UInt8} {T : List (UInt8 × Bool)} (h : Gd A T) : toks A = T := by
  obtain ⟨L, rfl, rfl, h3⟩ := h
  induction L with
  | nil => rfl
  | cons x L ih =>
    rw [List.flatMap_cons, toks_pc (h3 x (by simp)), ih fun y hy => h3 y (by simp [hy])]
    rfl
/-- a text in which no byte 37 stands by itself is made of pieces -/
theorem gd_of : ∀ (n : Nat) (l : List UInt8), l.length ≤ n → (∀ t ∈ toks l, t.2 = false → t.1 ≠ 37) → Gd l (toks l) := by
  intro n
  induction n with
  | zero => intro l hl _; rw [List.eq_nil_of_length_eq_zero (Nat.le_zero.1 hl)]; exact Gd.nil
  | succ n ih =>
    intro l hl h
    match l, hl, h with
    | [], _, _ => exact Gd.nil
    | [a], _, h => exact Gd.nil.cons (.inl ⟨a, h (a, false) (by simp [toks]) rfl, rfl, rfl⟩)
    | [a, b], _, h => exact (Gd.nil.cons (.inl ⟨b, h (b, false) (by simp [toks]) rfl, rfl, rfl⟩)).cons (.inl ⟨a, h (a, false) (by simp [toks]) rfl, rfl, rfl⟩)
    | d :: a :: b :: r, hl, h =>
      by_cases he : (d == 37 && (hxB a && hxB b)) = true
      · have e : toks (d :: a :: b :: r) = (hx2 a b, true) :: toks r := by rw [toks, if_pos he]
        rw [e] at h ⊢
        simp only [Bool.and_eq_true, beq_iff_eq] at he
        obtain ⟨rfl, ha, hb⟩ := he
        exact (ih r (by simp only [List.length_cons] at hl; omega) fun t ht => h t (by simp [ht])).cons (p := [37, a, b]) (.inr ⟨a, b, ha, hb, rfl, rfl⟩)
      · have e : toks (d :: a :: b :: r) = (d, false) :: toks (a :: b :: r) := by rw [toks, if_neg he]
        rw [e] at h ⊢
        exact (ih (a :: b :: r) (by simp only [List.length_cons] at hl ⊢; omega) fun t ht => h t (by simp [ht])).cons (p := [d]) (.inl ⟨d, h (d, false) (by simp) rfl, rfl, rfl⟩)
theorem gd_made {m l : List UInt8} (hm : inI 37 m = false) (h : made m l = true) : Gd l (toks l) := by
  refine gd_of _ l (Nat.le_refl _) fun t ht h2 e => ?_
  have h3 := List.all_eq_true.1 h t ht
  unfold madeP at h3
  rw [h2, e] at h3
  have h4 : plB 37 = false := by decide
  rw [h4] at h3
  simp only [Bool.false_or] at h3
  have h5 : inI 37 m = true := h3
  rw [hm] at h5; cases h5
/-- a byte as it is written in the normal form -/
def nt (t : UInt8 × Bool) : UInt8 × Bool := (t.1, t.2 && !plB t.1)
theorem nt_nt (t : UInt8 × Bool) : nt (nt t) = nt t := by
  obtain ⟨c, b⟩ := t
  unfold nt
  cases b <;> cases plB c <;> rfl
theorem rend_nt (t : UInt8 × Bool) : rend (nt t) = rend t := by
  obtain ⟨c, b⟩ := t
  unfold nt rend
  cases b <;> cases plB c <;> rfl
theorem hex_back : ∀ n : Nat, n < 256 → (hxB (hxU (n / 16)) = true ∧ hxB (hxU (n % 16)) = true ∧ hx2 (hxU (n / 16)) (hxU (n % 16)) = UInt8.ofNat n) := by decide +kernel
theorem pc_rend {t : UInt8 × Bool} (h : t.2 = false → t.1 ≠ 37) : Pc (rend t) (nt t) := by
  obtain ⟨c, b⟩ := t
  unfold rend nt
  simp only at h ⊢
  cases b
  · exact .inl ⟨c, h rfl, rfl, rfl⟩
  · cases hp : plB c
    · have hb := hex_back c.toNat c.toNat_lt
      refine .inr ⟨_, _, hb.1, hb.2.1, rfl, ?_⟩
      rw [hb.2.2]
      simp
    · refine .inl ⟨c, ?_, rfl, rfl⟩
      rintro rfl
      exact absurd hp (by decide)
theorem gd_undo {A : List UInt8} {T : List (UInt8 × Bool)} (h : Gd A T) : Gd (T.flatMap rend) (T.map nt) := by
  obtain ⟨L, rfl, rfl, h3⟩ := h
  refine ⟨L.map fun x => (rend x.2, nt x.2), by simp [List.flatMap_map], by simp, fun x hx => ?_⟩
  obtain ⟨y, hy, rfl⟩ := List.mem_map.1 hx
  refine pc_rend fun h2 => ?_
  rcases h3 y hy with ⟨c, h4, _, h5⟩ | ⟨a, b, _, _, _, h5⟩
  · rw [h5]; exact h4
  · rw [h5] at h2; cases h2
theorem toks_undo {l : List UInt8} (h : Gd l (toks l)) : toks (undo l) = (toks l).map nt := (gd_undo h).toks
theorem undo_undo {l : List UInt8} (h : Gd l (toks l)) : undo (undo l) = undo l := by
  show (toks (undo l)).flatMap rend = (toks l).flatMap rend
  rw [toks_undo h, List.flatMap_map]
  congr 1
  funext t
  exact rend_nt t
theorem made_undo {m l : List UInt8} (hm : inI 37 m = false) (h : made m l = true) : made m (undo l) = true := by
  unfold made
  rw [toks_undo (gd_made hm h), List.all_map, List.all_eq_true]
  intro t ht
  have h2 := List.all_eq_true.1 h t ht
  obtain ⟨c, b⟩ := t
  simp only [Function.comp, nt, madeP] at h2 ⊢
  revert h2
  cases b <;> cases plB c <;> simp
theorem rend_len2 {p : List UInt8} {t : UInt8 × Bool} (h : Pc p t) : (rend t).length ≤ p.length := by
  rcases h with ⟨c, _, rfl, rfl⟩ | ⟨a, b, _, _, rfl, rfl⟩
  · exact Nat.le_refl _
  · unfold rend; split <;> simp
theorem undo_le {l : List UInt8} (h : Gd l (toks l)) : (undo l).length ≤ l.length := by
  obtain ⟨L, h1, h2, h3⟩ := h
  show ((toks l).flatMap rend).length ≤ _
  rw [h2, h1]
  clear h1 h2
  induction L with
  | nil => exact Nat.le_refl _
  | cons x L ih =>
    rw [List.map_cons, List.flatMap_cons, List.flatMap_cons, List.length_append, List.length_append]
    have h4 := rend_len2 (h3 x (by simp))
    have h5 := ih fun y hy => h3 y (by simp [hy])
    omega

/-! ### segments -/
theorem toks_slash : ∀ (n : Nat) (a b : List UInt8), a.length ≤ n → toks (a ++ 47 :: b) = toks a ++ (47, false) :: toks b := by
  have hx : hxB 47 = false := by decide
  have h0 : ∀ b : List UInt8, toks (47 :: b) = (47, false) :: toks b := fun b => toks_pc (p := [47]) (.inl ⟨47, by decide, rfl, rfl⟩)
  have h1 : ∀ (c : UInt8) (b : List UInt8), toks (c :: 47 :: b) = (c, false) :: (47, false) :: toks b := fun c b => by
    match b with
    | [] => rfl
    | d :: b => rw [toks, if_neg (by rw [hx]; simp), h0]
  intro n
  induction n with
  | zero => intro a b ha; rw [List.eq_nil_of_length_eq_zero (Nat.le_zero.1 ha)]; exact h0 b
  | succ n ih =>
    intro a b ha
    match a, ha with
    | [], _ => exact h0 b
    | [c], _ => exact h1 c b
    | [c, d], _ =>
      show toks (c :: d :: 47 :: b) = _
      rw [toks, if_neg (by rw [hx]; simp), h1]
      rfl
    | c :: d :: e :: r, ha =>
      show toks (c :: d :: e :: (r ++ 47 :: b)) = _
      by_cases he : (c == 37 && (hxB d && hxB e)) = true
      · rw [toks, if_pos he, ih r b (by simp only [List.length_cons] at ha; omega)]
        rw [show toks (c :: d :: e :: r) = (hx2 d e, true) :: toks r from by rw [toks, if_pos he]]
        rfl
      · rw [toks, if_neg he]
        have h2 := ih (d :: e :: r) b (by simp only [List.length_cons] at ha ⊢; omega)
        rw [show d :: e :: (r ++ 47 :: b) = (d :: e :: r) ++ 47 :: b from rfl, h2]
        rw [show toks (c :: d :: e :: r) = (c, false) :: toks (d :: e :: r) from by rw [toks, if_neg he]]
        rfl
theorem toks_out : ∀ K : List (List UInt8), toks (outD K) = K.flatMap fun x => (47, false) :: toks x
  | [] => rfl
  | [x] => by
    rw [outD_one]
    have := toks_slash 0 [] x (Nat.le_refl _)
    simpa [toks] using this
  | x :: y :: K => by
    have ih := toks_out (y :: K)
    have h1 := toks_slash 0 [] (x ++ outD (y :: K)) (Nat.le_refl _)
    have h2 := toks_slash _ x (y ++ outD K) (Nat.le_refl _)
    have h3 : outD (y :: K) = 47 :: (y ++ outD K) := rfl
    have h4 := toks_slash 0 [] (y ++ outD K) (Nat.le_refl _)
    rw [h3] at ih
    simp only [List.nil_append] at h1 h4
    rw [outD_cons]
    show toks (47 :: (x ++ outD (y :: K))) = _
    have ih2 : (47, false) :: toks (y ++ outD K) = (y :: K).flatMap fun x => (47, false) :: toks x := by rw [← ih, h4]; rfl
    rw [h1, h3, h2, ih2]
    rfl
theorem undo_out (K : List (List UInt8)) : undo (outD K) = outD (K.map undo) := by
  show (toks (outD K)).flatMap rend = _
  rw [toks_out]
  induction K with
  | nil => rfl
  | cons x K ih =>
    rw [List.flatMap_cons, List.flatMap_append, ih, List.map_cons, outD_cons, List.flatMap_cons]
    rfl
theorem made_out {m : List UInt8} (hm : inI 47 m = true) (K : List (List UInt8)) : made m (outD K) = K.all fun x => made m x := by
  unfold made
  rw [toks_out]
  induction K with
  | nil => rfl
  | cons x K ih =>
    have h : madeP m (47, false) = true := by
      unfold madeP
      have : inI ((47 : UInt8).toNat : Int) m = true := hm
      simp only [this, Bool.or_true]
    rw [List.flatMap_cons, List.all_append, ih, List.all_cons, List.all_cons, h, Bool.true_and]
theorem undo_clean {x : List UInt8} (h : ∀ c ∈ x, c ≠ 47) (hg : Gd x (toks x)) : ∀ c ∈ undo x, c ≠ 47 := by
  obtain ⟨L, h1, h2, h3⟩ := hg
  intro c hc
  have hc2 : c ∈ (toks x).flatMap rend := hc
  rw [h2] at hc2
  obtain ⟨t, ht, hr⟩ := List.mem_flatMap.1 hc2
  obtain ⟨y, hy, rfl⟩ := List.mem_map.1 ht
  rcases h3 y hy with ⟨d, _, h5, h6⟩ | ⟨a, b, _, _, _, h6⟩
  · rw [h6] at hr
    have : c = d := by simpa [rend] using hr
    rw [this]
    refine h d ?_
    rw [h1]
    exact List.mem_flatMap.2 ⟨y, hy, by rw [h5]; simp⟩
  · rw [h6] at hr
    unfold rend at hr
    have key : ∀ n : Nat, n < 256 → (∀ e ∈ (if true && !plB (UInt8.ofNat n) then [37, hxU ((UInt8.ofNat n).toNat / 16), hxU ((UInt8.ofNat n).toNat % 16)] else [UInt8.ofNat n]), e ≠ (47 : UInt8)) := by decide +kernel
    have := key (hx2 a b).toNat (hx2 a b).toNat_lt
    rw [show UInt8.ofNat (hx2 a b).toNat = hx2 a b by simp] at this
    exact this c hr
theorem keepS_dots {K : List (List UInt8)} (h : ∀ x ∈ K, dotS x = false) (s : List UInt8) : ∀ x ∈ keepS K s, dotS x = false := by
  unfold keepS
  split
  · exact h
  · split
    · exact fun x hx => h x ((List.dropLast_sublist K).subset hx)
    · rename_i h1 h2
      intro x hx
      rcases List.mem_append.1 hx with h3 | h3
      · exact h x h3
      · rw [List.mem_singleton.1 h3]; simp [dotS, h1, h2]
theorem endD_dots : ∀ (S K : List (List UInt8)), (∀ x ∈ K, dotS x = false) → ∀ x ∈ endD K S, dotS x = false
  | [], K, h => h
  | [s], K, h => by
    unfold endD
    split
    · intro x hx
      rcases List.mem_append.1 hx with h3 | h3
      · exact keepS_dots h s x h3
      · rw [List.mem_singleton.1 h3]; rfl
    · rename_i hs
      intro x hx
      rcases List.mem_append.1 hx with h3 | h3
      · exact h x h3
      · rw [List.mem_singleton.1 h3]; simpa using hs
  | s :: x :: t, K, h => by rw [endD_two]; exact endD_dots (x :: t) (keepS K s) (keepS_dots h s)
theorem endD_same : ∀ (S K : List (List UInt8)), (∀ x ∈ S, dotS x = false) → endD K S = K ++ S
  | [], K, _ => by simp [endD]
  | s :: t, K, h => by
    rw [endD_keep (h s (by simp)), endD_same t _ fun x hx => h x (by simp [hx])]
    simp
theorem keepS_mem {K : List (List UInt8)} {s x : List UInt8} (h : x ∈ keepS K s) : x ∈ K ∨ x = s := by
  unfold keepS at h
  split at h
  · exact .inl h
  · split at h
    · exact .inl ((List.dropLast_sublist K).subset h)
    · rcases List.mem_append.1 h with h3 | h3
      · exact .inl h3
      · exact .inr (List.mem_singleton.1 h3)
theorem endD_mem : ∀ (S K : List (List UInt8)) (x : List UInt8), x ∈ endD K S → x ∈ K ∨ x ∈ S ∨ x = []
  | [], K, x, h => .inl h
  | [s], K, x, h => by
    unfold endD at h
    split at h
    · rcases List.mem_append.1 h with h3 | h3
      · rcases keepS_mem h3 with h4 | h4
        · exact .inl h4
        · exact .inr (.inl (by rw [h4]; simp))
      · exact .inr (.inr (List.mem_singleton.1 h3))
    · rcases List.mem_append.1 h with h3 | h3
      · exact .inl h3
      · exact .inr (.inl h3)
  | s :: y :: t, K, x, h => by
    rw [endD_two] at h
    rcases endD_mem (y :: t) _ x h with h3 | h3 | h3
    · rcases keepS_mem h3 with h4 | h4
      · exact .inl h4
      · exact .inr (.inl (by rw [h4]; simp))
    · exact .inr (.inl (by simp only [List.mem_cons] at h3 ⊢; exact .inr h3))
    · exact .inr (.inr h3)
theorem jl_keep (K : List (List UInt8)) (s : List UInt8) : jl (keepS K s) ≤ jl K + (s.length + 1) := by
  have e : jl [s] = s.length + 1 := rfl
  unfold keepS
  split
  · omega
  · split
    · have := jl_sub (List.dropLast_sublist K); omega
    · rw [jl_append]; omega
theorem jl_end : ∀ (S K : List (List UInt8)), jl (endD K S) ≤ jl K + jl S
  | [], K => by simp [endD, jl]
  | [s], K => by
    have e : jl [s] = s.length + 1 := rfl
    unfold endD
    split
    · rename_i h
      rw [jl_append]
      have e2 : jl [([] : List UInt8)] = 1 := rfl
      have hs : 1 ≤ s.length := by
        unfold dotS at h
        simp only [Bool.or_eq_true, decide_eq_true_eq] at h
        rcases h with h | h <;> rw [h] <;> decide
      have hk : jl (keepS K s) ≤ jl K := by
        unfold dotS at h
        simp only [Bool.or_eq_true, decide_eq_true_eq] at h
        unfold keepS
        split
        · omega
        · split
          · exact jl_sub (List.dropLast_sublist K)
          · rename_i h1 h2; rcases h with h | h
            · exact absurd h h1
            · exact absurd h h2
      omega
    · rw [jl_append]; omega
  | s :: x :: t, K => by
    rw [endD_two, jl_cons]
    have := jl_end (x :: t) (keepS K s)
    have := jl_keep K s
    omega
theorem endD_ne : ∀ (S K : List (List UInt8)), S ≠ [] → endD K S ≠ []
  | [s], K, _ => by unfold endD; split <;> simp
  | s :: x :: t, K, _ => by rw [endD_two]; exact endD_ne (x :: t) _ (by simp)
/-- a path in its normal form: a slash, segments that are no dots, each as it is written -/
structure PathN (p : List UInt8) : Prop where
  made : made pathM p = true
  undo : undo p = p
  dots : dotsL p = p
  hd : ∃ r, p = 47 :: r
theorem path_normal {p : List UInt8} (hp : made pathM p = true) (hd : ∃ r, p = 47 :: r) : PathN (dotsL (undo p)) ∧ (dotsL (undo p)).length ≤ p.length := by
  obtain ⟨r, rfl⟩ := hd
  have h37 : inI 37 pathM = false := by decide
  have h47 : inI 47 pathM = true := by decide
  have hg := gd_made h37 hp
  have hr : (47 : UInt8) :: r = outD (segs r) := by rw [outD_join (segs_ne r), segs_join]
  have hlen := undo_le hg
  rw [hr] at hp hg
  have hall : ∀ x ∈ segs r, made pathM x = true := by rw [made_out h47, List.all_eq_true] at hp; exact hp
  have hcl := segs_clean r
  have hne := segs_ne r
  have hu : undo (47 :: r) = outD ((segs r).map undo) := by rw [hr, undo_out]
  have hcl2 : ∀ x ∈ (segs r).map undo, ∀ c ∈ x, c ≠ 47 := fun x hx => by
    obtain ⟨y, hy, rfl⟩ := List.mem_map.1 hx
    exact undo_clean (hcl y hy) (gd_made h37 (hall y hy))
  have hmd2 : ∀ x ∈ (segs r).map undo, made pathM x = true ∧ undo x = x := fun x hx => by
    obtain ⟨y, hy, rfl⟩ := List.mem_map.1 hx
    exact ⟨made_undo h37 (hall y hy), undo_undo (gd_made h37 (hall y hy))⟩
  have hne2 : (segs r).map undo ≠ [] := by simpa using hne
  rw [hu] at hlen ⊢
  generalize (segs r).map undo = S at *
  clear hr hp hg hall hcl hne hu
  have hE : dotsL (outD S) = outD (endD [] S) := by rw [outD_join hne2, dots_out, segs_of_join hne2 hcl2]
  have hlE : (outD (endD [] S)).length ≤ (outD S).length := by
    rw [outD_len, outD_len]
    have := jl_end S []
    have e : jl [] = 0 := rfl
    omega
  rw [hE]
  have hne3 := endD_ne S [] hne2
  have hdt := endD_dots S [] (fun x hx => by cases hx)
  have hmem : ∀ x ∈ endD [] S, x ∈ S ∨ x = [] := fun x hx => by
    rcases endD_mem S [] x hx with h | h | h
    · cases h
    · exact .inl h
    · exact .inr h
  generalize endD [] S = E at *
  have hmE : ∀ x ∈ E, made pathM x = true ∧ undo x = x ∧ ∀ c ∈ x, c ≠ 47 := fun x hx => by
    rcases hmem x hx with h | h
    · exact ⟨(hmd2 x h).1, (hmd2 x h).2, hcl2 x h⟩
    · subst h; exact ⟨rfl, rfl, fun c hc => by cases hc⟩
  refine ⟨⟨?_, ?_, ?_, ?_⟩, by omega⟩
  · rw [made_out h47, List.all_eq_true]; exact fun x hx => (hmE x hx).1
  · rw [undo_out]
    congr 1
    rw [List.map_congr_left fun x hx => (hmE x hx).2.1, List.map_id']
  · rw [outD_join hne3, dots_out, segs_of_join hne3 fun x hx => (hmE x hx).2.2, endD_same E [] hdt, List.nil_append, outD_join hne3]
  · exact ⟨_, outD_join hne3⟩
end Go.Proofs.YtekaiafhnnpkgaaGreatDoor
