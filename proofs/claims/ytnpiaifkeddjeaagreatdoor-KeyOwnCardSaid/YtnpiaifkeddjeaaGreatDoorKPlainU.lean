/- Plain lists of bytes: what the lines' reader comes to, step by step, and what a request's line and a reply's line are. Nothing of the program is read here. -/
import Derived.Test.YtnpiaifkeddjeaaGreatDoorKPlain
import Derived.Lib.Strings
import Derived.Lib.AtoiAll
import Derived.Lib.Split
import Derived.Lib.ItoaNum
import Derived.Lib.SplitLaws
import Derived.Lib.AtoiTie
import Derived.Lib.Case
import Derived.Lib.LastIndexLaws
namespace Go.Proofs.YtnpiaifkeddjeaaGreatDoor
def visI (n : Int) : Bool := decide (33 ≤ n ∧ n ≤ 126)
def digI (n : Int) : Bool := decide (48 ≤ n ∧ n ≤ 57)
def visB (c : UInt8) : Bool := visI (c.toNat : Int)
def digB (c : UInt8) : Bool := digI (c.toNat : Int)
/-- what strconv.Atoi hands back beside its error -/
def atoiV (l : List UInt8) : Int := match Lib.atoiAll l with | .ok v => v | .range => Lib.atoiSat l | _ => 0
/-- a reader's state -/
structure Rs where
  rest : List UInt8
  amiss : Bool
  major : Int
def Rs.expect (r : Rs) (ok : Bool) : Rs := ⟨r.rest, r.amiss || !ok, r.major⟩
def Rs.fixed (r : Rs) (p : List UInt8) : Rs := ⟨Lib.trimPrefix r.rest p, r.amiss || !Lib.hasPrefix r.rest p, r.major⟩
def Rs.got (r : Rs) (p : UInt8 → Bool) : List UInt8 := r.rest.takeWhile p
def Rs.skip (r : Rs) (p : UInt8 → Bool) : Rs := ⟨r.rest.dropWhile p, r.amiss, r.major⟩
def Rs.num (r : Rs) (k : Int) : Rs := (r.skip digB).expect (((r.got digB).length : Int) == k)
def Rs.numV (r : Rs) : Int := atoiV (r.got digB)
def Rs.setMajor (r : Rs) (n : Int) : Rs := ⟨r.rest, r.amiss, n⟩
def httpL : List UInt8 := [72, 84, 84, 80, 47]
def Rs.ver3 (r : Rs) : Rs := ((((r.fixed httpL).num 1).setMajor (r.fixed httpL).numV)).fixed [46]
def Rs.ver (r : Rs) : Rs := r.ver3.num 1
def Rs.verV (r : Rs) : Int := min r.ver3.numV 1
def Rs.fault (whole : List UInt8) (r : Rs) : Int := if 2048 < whole.length then 3 else if r.amiss || !r.rest.isEmpty then 4 else if r.major = 1 then 0 else 9

def rs0 (s : List UInt8) : Rs := ⟨s, false, 0⟩
def reqA (s : List UInt8) : Rs := (((rs0 s).skip visB).expect (token ((rs0 s).got visB))).fixed [32]
def reqB (s : List UInt8) : Rs := (((reqA s).skip visB).expect (!((reqA s).got visB).isEmpty)).fixed [32]
def reqZ (s : List UInt8) : Rs := (reqB s).ver
def reqE (s : List UInt8) : Int := if (reqZ s).fault s = 0 then (if 1024 < ((reqA s).got visB).length then 3 else 0) else (reqZ s).fault s
def reqM (s : List UInt8) : List UInt8 := if reqE s = 0 then (rs0 s).got visB else []
def reqT (s : List UInt8) : List UInt8 := if reqE s = 0 then (reqA s).got visB else []
def reqN (s : List UInt8) : Int := if reqE s = 0 then (reqB s).verV else 0

def staA (s : List UInt8) : Rs := (rs0 s).ver.fixed [32]
def validS (n : Int) : Bool := decide (100 ≤ n ∧ n ≤ 599)
def staB (s : List UInt8) : Rs := (((staA s).num 3).expect (validS (staA s).numV)).fixed [32]
def staZ (s : List UInt8) : Rs := (staB s).skip mayB
def staE (s : List UInt8) : Int := (staZ s).fault s
def staC (s : List UInt8) : Int := if staE s = 0 then (staA s).numV else 0
def staR (s : List UInt8) : List UInt8 := if staE s = 0 then (staB s).got mayB else []
def staN (s : List UInt8) : Int := if staE s = 0 then (rs0 s).verV else 0

theorem takeWhile_append {p : UInt8 → Bool} {a b : List UInt8} (ha : a.all p = true) (hb : b.takeWhile p = []) : (a ++ b).takeWhile p = a := by
  induction a with
  | nil => simpa using hb
  | cons c l ih =>
    simp only [List.all_cons, Bool.and_eq_true] at ha
    rw [List.cons_append, List.takeWhile_cons, if_pos ha.1, ih ha.2]
theorem dropWhile_append {p : UInt8 → Bool} {a b : List UInt8} (ha : a.all p = true) (hb : b.takeWhile p = []) : (a ++ b).dropWhile p = b := by
  have h1 := List.takeWhile_append_dropWhile (p := p) (l := a ++ b)
  rw [takeWhile_append ha hb] at h1
  exact List.append_cancel_left h1
theorem all_takeWhile (p : UInt8 → Bool) (l : List UInt8) : (l.takeWhile p).all p = true := by
  induction l with
  | nil => rfl
  | cons c l ih =>
    rw [List.takeWhile_cons]
    split
    · rename_i h; simp only [List.all_cons, h, ih, Bool.and_self]
    · rfl
theorem tok_vis {c : UInt8} (h : tokB c = true) : visB c = true := by
  unfold tokB tokI at h
  unfold visB visI
  simp at h ⊢
  omega
theorem token_vis {l : List UInt8} (h : token l = true) : l.all visB = true := by
  unfold token at h
  rw [Bool.and_eq_true] at h
  rw [List.all_eq_true]
  exact fun c hc => tok_vis (List.all_eq_true.1 h.2 c hc)

/-- a version's bytes -/
def verL (d1 d2 : UInt8) : List UInt8 := httpL ++ [d1, 46, d2]
structure IsReq (s m t : List UInt8) (d1 d2 : UInt8) : Prop where
  eq : s = m ++ 32 :: (t ++ 32 :: verL d1 d2)
  tok : token m = true
  vis : t.all visB = true
  ne : t ≠ []
  dig1 : digB d1 = true
  dig2 : digB d2 = true
structure IsSta (s : List UInt8) (d1 d2 a b c : UInt8) (r : List UInt8) : Prop where
  eq : s = verL d1 d2 ++ 32 :: a :: b :: c :: 32 :: r
  dig1 : digB d1 = true
  dig2 : digB d2 = true
  one : 49 ≤ a.toNat ∧ a.toNat ≤ 53
  dig3 : digB b = true
  dig4 : digB c = true
  may : r.all mayB = true

theorem digB_iff {c : UInt8} : digB c = true ↔ 48 ≤ c.toNat ∧ c.toNat ≤ 57 := by
  unfold digB digI; simp; omega
theorem digB_not {c : UInt8} : digB c = false ↔ ¬ (48 ≤ c.toNat ∧ c.toNat ≤ 57) := by
  rw [← digB_iff]; simp
theorem atoi1 {a : UInt8} (h : digB a = true) : atoiV [a] = (a.toNat : Int) - 48 := by
  have g := digB_iff.1 h
  unfold atoiV Lib.atoiAll
  simp only
  rw [if_neg (by omega)]
  simp only [Lib.parseMag, Lib.parseUint10, reduceCtorEq, if_false, if_pos g]
  rw [if_neg (by omega), if_neg (by omega)]
  simp only
  rw [if_neg (by omega), if_neg (by omega)]
  simp only
  rw [if_neg (by omega)]; omega
theorem atoi3 {a b c : UInt8} (h : digB a = true) (hb : digB b = true) (hc : digB c = true) : atoiV [a, b, c] = 100 * ((a.toNat : Int) - 48) + 10 * ((b.toNat : Int) - 48) + ((c.toNat : Int) - 48) := by
  have g := digB_iff.1 h
  have g2 := digB_iff.1 hb
  have g3 := digB_iff.1 hc
  unfold atoiV Lib.atoiAll
  simp only
  rw [if_neg (by omega)]
  simp only [Lib.parseMag, Lib.parseUint10, reduceCtorEq, if_false, if_pos g]
  rw [if_neg (by omega), if_neg (by omega)]
  simp only [if_pos g2]
  rw [if_neg (by omega), if_neg (by omega)]
  simp only [if_pos g3]
  rw [if_neg (by omega), if_neg (by omega)]
  simp only
  rw [if_neg (by omega), if_neg (by omega)]
  simp only
  rw [if_neg (by omega)]; omega
end Go.Proofs.YtnpiaifkeddjeaaGreatDoor

/- URIs, plainly: their parts and bytes, what a text is as one, the normal form. Nothing of the program is read here. -/
namespace Go.Proofs.YtnpiaifkeddjeaaGreatDoor
/-- a hexadecimal digit's value -/
def hxI (n : Int) : Int := if 48 ≤ n ∧ n ≤ 57 then n - 48 else if 97 ≤ n ∧ n ≤ 102 then n - 87 else if 65 ≤ n ∧ n ≤ 70 then n - 55 else -1
def hxB (c : UInt8) : Bool := decide (0 ≤ hxI (c.toNat : Int))
def hxD (c : UInt8) : Nat := (hxI (c.toNat : Int)).toNat
def plainI (n : Int) : Bool := lettI n || decide (n = 45 ∨ n = 46 ∨ n = 95 ∨ n = 126)
def plB (c : UInt8) : Bool := plainI (c.toNat : Int)
def hostI (n : Int) : Bool := lettI n || decide (n = 45 ∨ n = 46)
def hoB (c : UInt8) : Bool := hostI (c.toNat : Int)
/-- does an escape stand at the head; what stands there, and how many bytes it takes -/
def esc3 : List UInt8 → Bool
  | c :: a :: b :: _ => c == 37 && (hxB a && hxB b)
  | _ => false
def hx2 (a b : UInt8) : UInt8 := UInt8.ofNat (16 * hxD a + hxD b)
def fsB : List UInt8 → UInt8
  | c :: a :: b :: _ => if c == 37 && (hxB a && hxB b) then hx2 a b else c
  | c :: _ => c
  | [] => 0
def fsN (l : List UInt8) : Nat := if esc3 l then 3 else 1
/-- a text's bytes, by themselves or as escapes -/
def toks : List UInt8 → List (UInt8 × Bool)
  | c :: a :: b :: r => if c == 37 && (hxB a && hxB b) then (hx2 a b, true) :: toks r else (c, false) :: toks (a :: b :: r)
  | [c, d] => [(c, false), (d, false)]
  | [c] => [(c, false)]
  | [] => []
theorem toks_step {l : List UInt8} (h : l ≠ []) : toks l = (fsB l, esc3 l) :: toks (l.drop (fsN l)) := by
  match l, h with
  | [c], _ => rfl
  | [c, d], _ => rfl
  | c :: a :: b :: r, _ =>
    unfold fsN
    simp only [toks, fsB, esc3]
    by_cases hc : (c == 37 && (hxB a && hxB b)) = true
    · simp only [hc, if_true, List.drop_succ_cons, List.drop_zero]
    · simp only [Bool.eq_false_iff.2 hc, Bool.false_eq_true, if_false, List.drop_succ_cons, List.drop_zero]
theorem fsN_le {l : List UInt8} (h : l ≠ []) : 1 ≤ fsN l ∧ fsN l ≤ l.length := by
  match l, h with
  | [c], _ => exact ⟨Nat.le_refl _, Nat.le_refl _⟩
  | [c, d], _ => exact ⟨Nat.le_refl _, by simp [fsN, esc3]⟩
  | c :: a :: b :: r, _ =>
    unfold fsN
    split <;> simp
def madeP (m : List UInt8) (t : UInt8 × Bool) : Bool := t.2 || (plB t.1 || inI (t.1.toNat : Int) m)
/-- is a text made of plain bytes, escapes and the marks -/
def made (m l : List UInt8) : Bool := (toks l).all (madeP m)
def hostP (t : UInt8 × Bool) : Bool := !t.2 && hoB t.1
def hostOk (l : List UInt8) : Bool := (!l.isEmpty && decide (l.length ≤ 253)) && (toks l).all hostP
def hexU : List UInt8 := [48, 49, 50, 51, 52, 53, 54, 55, 56, 57, 65, 66, 67, 68, 69, 70]
def hxU (n : Nat) : UInt8 := hexU.getD n 0
def rend (t : UInt8 × Bool) : List UInt8 := if t.2 && !plB t.1 then [37, hxU (t.1.toNat / 16), hxU (t.1.toNat % 16)] else [t.1]
/-- escapes of plain bytes undone, others with capital digits -/
def undo (l : List UInt8) : List UInt8 := (toks l).flatMap rend
def pathM : List UInt8 := [33, 36, 38, 39, 40, 41, 42, 43, 44, 59, 61, 58, 64, 47]
def queryM : List UInt8 := [33, 36, 38, 39, 40, 41, 42, 43, 44, 59, 61, 58, 64, 47, 63]
def schH : List UInt8 := [104, 116, 116, 112]
def schS : List UInt8 := [104, 116, 116, 112, 115]
/-- a URI -/
structure Ur where
  sc : List UInt8
  ho : List UInt8
  po : Int
  pa : List UInt8
  qu : List UInt8
  hq : Bool
deriving DecidableEq
def ur0 : Ur := ⟨[], [], 0, [], [], false⟩
def usual (s : List UInt8) : Int := if s = schH then 80 else if s = schS then 443 else 0
def Ur.formed (u : Ur) : Bool :=
  (usual u.sc != 0) && (hostOk u.ho && (decide (0 ≤ u.po) && (decide (u.po ≤ 65535) && (Lib.hasPrefix u.pa [47] && (made pathM u.pa && (made queryM u.qu && (u.hq || u.qu.isEmpty)))))))
def Ur.text (u : Ur) : List UInt8 :=
  u.sc ++ ([58, 47, 47] ++ (u.ho ++ ((if u.po = 0 then [] else 58 :: Lib.itoa u.po) ++ (u.pa ++ if u.hq then 63 :: u.qu else []))))
def Ur.check (u : Ur) : Int := if u.formed then (if 1024 < u.text.length then 3 else 0) else 4
def Ur.put (u : Ur) : List UInt8 := if u.check = 0 then u.text else []
/-- a text's parts, by the marks between them -/
def apartL (s : List UInt8) : Ur :=
  let a := Lib.cut s [58, 47, 47]
  let b := Lib.cut a.2.1 [63]
  let c := Lib.cut b.1 [47]
  let d := Lib.cut c.1 [58]
  ⟨a.1, d.1, atoiV d.2.1, if c.2.2 then 47 :: c.2.1 else [], b.2.1, b.2.2⟩
def Ur.root (u : Ur) : Ur := ⟨u.sc, u.ho, u.po, if u.pa = [] then [47] else u.pa, u.qu, u.hq⟩
def parseU (s : List UInt8) : Ur × Int :=
  if 1024 < s.length then (ur0, 3)
  else if (apartL s).text = s then (if (apartL s).root.check = 0 then ((apartL s).root, 0) else (ur0, (apartL s).root.check))
  else (ur0, 4)
/-- a path's segments -/
def segs : List UInt8 → List (List UInt8)
  | [] => [[]]
  | c :: r => if c == 47 then [] :: segs r else match segs r with | [] => [[c]] | h :: t => (c :: h) :: t
def keepS (kept : List (List UInt8)) (s : List UInt8) : List (List UInt8) := if s = [46] then kept else if s = [46, 46] then kept.dropLast else kept ++ [s]
def keptL (l : List (List UInt8)) : List (List UInt8) := l.foldl keepS []
def dotsK (kept : List (List UInt8)) (p : List UInt8) : List UInt8 :=
  47 :: Lib.join kept [47] ++ (if (!kept.isEmpty) && (Lib.hasSuffix p [47, 46] || Lib.hasSuffix p [47, 46, 46]) then [47] else [])
/-- a path without dots -/
def dotsL (p : List UInt8) : List UInt8 := if Lib.hasPrefix p [47] then dotsK (keptL (segs (p.drop 1))) p else []
def Ur.norm (u : Ur) : Ur := ⟨u.sc, lower u.ho, if u.po = usual u.sc then 0 else u.po, dotsL (undo u.pa), undo u.qu, u.hq⟩
def Ur.normal (u : Ur) : Ur := if u.check = 0 then u.norm else ur0
end Go.Proofs.YtnpiaifkeddjeaaGreatDoor

/- A path's segments, plainly: cut at slashes, joined again, kept. Nothing of the program is read here. -/
namespace Go.Proofs.YtnpiaifkeddjeaaGreatDoor
theorem segs_ne : ∀ s : List UInt8, segs s ≠ []
  | [] => by simp [segs]
  | c :: r => by
    unfold segs
    split
    · simp
    · split <;> simp
theorem segs_slash (r : List UInt8) : segs (47 :: r) = [] :: segs r := rfl
theorem segs_other {c : UInt8} (h : c ≠ 47) (r : List UInt8) : ∃ x t, segs r = x :: t ∧ segs (c :: r) = (c :: x) :: t := by
  have hc : (c == 47) = false := beq_eq_false_iff_ne.2 h
  match hs : segs r with
  | [] => exact absurd hs (segs_ne r)
  | x :: t => exact ⟨x, t, rfl, by simp [segs, hc, hs]⟩
theorem segs_miss : ∀ {a : List UInt8}, (∀ c ∈ a, c ≠ 47) → segs a = [a]
  | [], _ => rfl
  | c :: r, h => by
    obtain ⟨x, t, h1, h2⟩ := segs_other (h c (by simp)) r
    rw [segs_miss (fun d hd => h d (by simp [hd]))] at h1
    injection h1 with h3 h4
    rw [h2, ← h3, ← h4]
theorem segs_hit : ∀ {a : List UInt8} (r : List UInt8), (∀ c ∈ a, c ≠ 47) → segs (a ++ 47 :: r) = a :: segs r
  | [], r, _ => rfl
  | c :: a, r, h => by
    obtain ⟨x, t, h1, h2⟩ := segs_other (h c (by simp)) (a ++ 47 :: r)
    rw [segs_hit r (fun d hd => h d (by simp [hd]))] at h1
    injection h1 with h3 h4
    rw [List.cons_append, h2, ← h3, ← h4]
theorem segs_clean : ∀ (s : List UInt8), ∀ x ∈ segs s, ∀ c ∈ x, c ≠ 47
  | [], x, hx, c, hc => by simp [segs] at hx; subst hx; cases hc
  | d :: r, x, hx, c, hc => by
    by_cases hd : d = 47
    · subst hd
      rw [segs_slash] at hx
      rcases List.mem_cons.1 hx with rfl | hx
      · cases hc
      · exact segs_clean r x hx c hc
    · obtain ⟨y, t, h1, h2⟩ := segs_other hd r
      rw [h2] at hx
      rcases List.mem_cons.1 hx with rfl | hx
      · rcases List.mem_cons.1 hc with rfl | hc
        · exact hd
        · exact segs_clean r y (by rw [h1]; simp) c hc
      · exact segs_clean r x (by rw [h1]; simp [hx]) c hc
theorem join_cons2 (x y : List UInt8) (t : List (List UInt8)) : Lib.join (x :: y :: t) [47] = x ++ 47 :: Lib.join (y :: t) [47] := by
  simp [Lib.join, List.intercalate, List.intersperse]
theorem join_hd (c : UInt8) (x : List UInt8) (t : List (List UInt8)) : Lib.join ((c :: x) :: t) [47] = c :: Lib.join (x :: t) [47] := by
  rw [Lib.join_cons, Lib.join_cons]; rfl
theorem segs_join : ∀ s : List UInt8, Lib.join (segs s) [47] = s
  | [] => rfl
  | c :: r => by
    have ih := segs_join r
    by_cases hc : c = 47
    · subst hc
      rw [segs_slash]
      match hs : segs r with
      | [] => exact absurd hs (segs_ne r)
      | x :: t => rw [join_cons2, ← hs, ih]; rfl
    · obtain ⟨x, t, h1, h2⟩ := segs_other hc r
      rw [h1] at ih
      rw [h2, join_hd, ih]
theorem segs_of_join : ∀ {L : List (List UInt8)}, L ≠ [] → (∀ x ∈ L, ∀ c ∈ x, c ≠ 47) → segs (Lib.join L [47]) = L
  | [x], _, h => by rw [Lib.join_one]; exact segs_miss (h x (by simp))
  | x :: y :: t, _, h => by
    rw [join_cons2, segs_hit _ (h x (by simp)), segs_of_join (by simp) (fun z hz => h z (by simp [hz]))]

/-- the bytes of texts, and one more for each -/
def jl (L : List (List UInt8)) : Nat := (L.map fun x => x.length + 1).sum
theorem jl_cons (x : List UInt8) (L : List (List UInt8)) : jl (x :: L) = x.length + 1 + jl L := by simp [jl]
theorem jl_append (A B : List (List UInt8)) : jl (A ++ B) = jl A + jl B := by simp [jl]
theorem jl_sub {A B : List (List UInt8)} (h : A.Sublist B) : jl A ≤ jl B := by
  induction h with
  | slnil => exact Nat.le_refl _
  | cons x _ ih => rw [jl_cons]; omega
  | cons_cons x _ ih => rw [jl_cons, jl_cons]; omega
theorem jl_join : ∀ {L : List (List UInt8)}, L ≠ [] → (Lib.join L [47]).length + 1 = jl L
  | [x], _ => by rw [Lib.join_one, jl_cons]; rfl
  | x :: y :: t, _ => by
    have ih := jl_join (L := y :: t) (by simp)
    rw [join_cons2, jl_cons, List.length_append, List.length_cons]
    omega
theorem join_le (L : List (List UInt8)) : (Lib.join L [47]).length ≤ jl L := by
  by_cases h : L = []
  · subst h; exact Nat.zero_le _
  · have := jl_join h; omega
theorem jl_segs (s : List UInt8) : jl (segs s) = s.length + 1 := by rw [← jl_join (segs_ne s), segs_join]
theorem segs_len (s : List UInt8) : (segs s).length ≤ s.length + 1 := by
  rw [← jl_segs s]
  generalize segs s = L
  induction L with
  | nil => exact Nat.zero_le _
  | cons x L ih => rw [jl_cons, List.length_cons]; omega

theorem keepS_sub {K L : List (List UInt8)} (h : K.Sublist L) (s : List UInt8) : (keepS K s).Sublist (L ++ [s]) := by
  unfold keepS
  split
  · exact h.trans (List.sublist_append_left _ _)
  · split
    · exact (List.dropLast_sublist _).trans (h.trans (List.sublist_append_left _ _))
    · exact h.append (List.Sublist.refl _)
theorem foldl_sub : ∀ (L : List (List UInt8)) (K M : List (List UInt8)), K.Sublist M → (L.foldl keepS K).Sublist (M ++ L)
  | [], K, M, h => by simpa using h
  | s :: L, K, M, h => by
    have := foldl_sub L (keepS K s) (M ++ [s]) (keepS_sub h s)
    simpa using this
theorem kept_sub (L : List (List UInt8)) : (keptL L).Sublist L := foldl_sub L [] [] (List.Sublist.refl _)
theorem kept_snoc (L : List (List UInt8)) (s : List UInt8) : keptL (L ++ [s]) = keepS (keptL L) s := by simp [keptL]
theorem kept_take {S : List (List UInt8)} {k : Nat} (h : k < S.length) : keptL (S.take (k + 1)) = keepS (keptL (S.take k)) S[k] := by
  rw [List.take_succ_eq_append_getElem h, kept_snoc]
theorem kept_len {S : List (List UInt8)} (k : Nat) : (keptL (S.take k)).length ≤ k := Nat.le_trans (kept_sub _).length_le (List.length_take_le _ _)

/-- the library's Split at a slash -/
theorem split_segs : ∀ (n : Nat) (s : ByteArray), s.size ≤ n → (Lib.splitB ⟨#[47]⟩ 0 (Lib.countB s ⟨#[47]⟩) s).map (fun x => x.data.toList) = segs s.data.toList := by
  intro n
  induction n with
  | zero =>
    intro s hs
    have h0 : s.data.toList = [] := nil_of (by omega)
    have hi : Lib.indexB s ⟨#[47]⟩ = -1 := by
      show Lib.index s.data.toList [47] = -1
      rw [h0]; rfl
    rw [Lib.splitB_miss _ _ _ _ hi, List.map_singleton, h0]; rfl
  | succ n ih =>
    intro s hs
    rcases Lib.index_spec s.data.toList [47] with ⟨hi, hno⟩ | ⟨i, hi, hil, ho, hno⟩
    · have hi2 : Lib.indexB s ⟨#[47]⟩ = -1 := hi
      rw [Lib.splitB_miss _ _ _ _ hi2, List.map_singleton]
      refine (segs_miss fun c hc => ?_).symm
      obtain ⟨j, hj, rfl⟩ := List.getElem_of_mem hc
      intro he
      have := hno j (by omega)
      have h2 := (occ_one s.data.toList j 47).2 (by rw [List.getElem?_eq_getElem hj, he])
      rw [this] at h2; cases h2
    · have hi2 : Lib.indexB s ⟨#[47]⟩ = i := hi
      have hoc := (occ_one s.data.toList i 47).1 ho
      have hlt : i < s.data.toList.length := (List.getElem?_eq_some_iff.1 hoc).1
      rw [Lib.countB_hit s _ i (by decide) hi2, Nat.add_comm, Lib.splitB_hit _ _ _ _ i hi2]
      have hsz : (s.extract (i + (⟨#[47]⟩ : ByteArray).size) s.size).size ≤ n := by
        rw [ByteArray.size_extract]
        have : (⟨#[47]⟩ : ByteArray).size = 1 := rfl
        omega
      have hsplit : s.data.toList = s.data.toList.take i ++ 47 :: s.data.toList.drop (i + 1) := by
        have h3 : s.data.toList[i] = 47 := by
          have := hoc; rw [List.getElem?_eq_getElem hlt] at this; exact Option.some.inj this
        rw [← h3, ← List.drop_eq_getElem_cons hlt, List.take_append_drop]
      rw [List.map_cons, ih _ hsz, Lib.extract_to_end, Lib.extract_from_zero]
      conv => rhs; rw [hsplit]
      rw [segs_hit]
      · rfl
      · intro c hc he
        obtain ⟨j, hj, rfl⟩ := List.getElem_of_mem hc
        rw [List.length_take] at hj
        have h2 := (occ_one s.data.toList j 47).2 (by rw [List.getElem?_eq_getElem (by omega)]; rw [List.getElem_take] at he; rw [he])
        rw [hno j (by omega)] at h2; cases h2
end Go.Proofs.YtnpiaifkeddjeaaGreatDoor

/- A path without dots, as the document goes about it: from an input to an output, plainly. Nothing of the program is read here. -/
namespace Go.Proofs.YtnpiaifkeddjeaaGreatDoor
/-- segments, a slash ahead of each -/
def outD (K : List (List UInt8)) : List UInt8 := K.flatMap fun x => 47 :: x
def dotS (s : List UInt8) : Bool := decide (s = [46]) || decide (s = [46, 46])
/-- what is kept in the end, of segments that are kept and segments that are left -/
def endD (K : List (List UInt8)) : List (List UInt8) → List (List UInt8)
  | [] => K
  | [s] => if dotS s then keepS K s ++ [[]] else K ++ [s]
  | s :: t => endD (keepS K s) t
theorem outD_nil : outD [] = [] := rfl
theorem outD_cons (x : List UInt8) (L : List (List UInt8)) : outD (x :: L) = 47 :: x ++ outD L := rfl
theorem outD_append (A B : List (List UInt8)) : outD (A ++ B) = outD A ++ outD B := by simp [outD]
theorem outD_one (x : List UInt8) : outD [x] = 47 :: x := by simp [outD]
theorem outD_join : ∀ {L : List (List UInt8)}, L ≠ [] → outD L = 47 :: Lib.join L [47]
  | [x], _ => by rw [Lib.join_one, outD_one]
  | x :: y :: t, _ => by rw [outD_cons, outD_join (L := y :: t) (by simp), join_cons2]; rfl
theorem outD_len (L : List (List UInt8)) : (outD L).length = jl L := by
  induction L with
  | nil => rfl
  | cons x L ih => rw [outD_cons, List.length_append, List.length_cons, jl_cons, ih]
theorem keepS_not {s : List UInt8} (h : dotS s = false) (K : List (List UInt8)) : keepS K s = K ++ [s] := by
  unfold dotS at h
  simp only [Bool.or_eq_false_iff, decide_eq_false_iff_not] at h
  unfold keepS
  rw [if_neg h.1, if_neg h.2]
theorem endD_two (K : List (List UInt8)) (s x : List UInt8) (t : List (List UInt8)) : endD K (s :: x :: t) = endD (keepS K s) (x :: t) := rfl
theorem endD_foldl : ∀ (S : List (List UInt8)) (K : List (List UInt8)), S ≠ [] → endD K S = S.foldl keepS K ++ (if (S.getLast?.map dotS) = some true then [[]] else [])
  | [s], K, _ => by
    unfold endD
    cases h : dotS s
    · simp [h, keepS_not h]
    · simp [h]
  | s :: x :: t, K, _ => by
    rw [endD_two, endD_foldl (x :: t) _ (by simp)]
    simp
theorem suffix_last : ∀ (d p : List UInt8), (∀ c ∈ d, c ≠ 47) → (47 :: d).isSuffixOf (47 :: p) = decide ((segs p).getLast? = some d)
  | d, p, hd => by
    rw [Bool.eq_iff_iff, decide_eq_true_eq, List.isSuffixOf_iff_suffix]
    have hp : p = Lib.join (segs p) [47] := (segs_join p).symm
    constructor
    · rintro ⟨t, ht⟩
      match t with
      | [] =>
        have : d = p := by simpa using ht
        subst this
        rw [segs_miss hd]; rfl
      | c :: t =>
        have h2 : t ++ 47 :: d = p := by simp at ht; exact ht.2
        rw [← h2]
        clear ht h2 hp
        induction t with
        | nil => rw [List.nil_append, segs_slash, segs_miss hd]; rfl
        | cons e t ih =>
          rw [List.cons_append]
          by_cases he : e = 47
          · subst he
            rw [segs_slash]
            match hs : segs (t ++ 47 :: d) with
            | [] => exact absurd hs (segs_ne _)
            | y :: u => rw [hs] at ih; rw [List.getLast?_cons_cons]; exact ih
          · obtain ⟨y, u, h1, h2⟩ := segs_other he (t ++ 47 :: d)
            rw [h1] at ih
            rw [h2]
            match u with
            | [] =>
              exfalso
              have h3 : Lib.join (segs (t ++ 47 :: d)) [47] = t ++ 47 :: d := segs_join _
              have h4 := segs_clean (t ++ 47 :: d) y (by rw [h1]; simp) 47
              rw [h1, Lib.join_one] at h3
              rw [h3] at h4
              exact h4 (by simp) rfl
            | z :: u => rw [List.getLast?_cons_cons] at ih ⊢; exact ih
    · intro h
      match hs : segs p with
      | [] => exact absurd hs (segs_ne p)
      | x :: t =>
        rw [hs] at h hp
        have key : ∀ (t : List (List UInt8)) (x : List UInt8), (x :: t).getLast? = some d → (47 :: d) <:+ (47 :: Lib.join (x :: t) [47]) := by
          intro t
          induction t with
          | nil => intro x h; rw [Lib.join_one]; simp at h; subst h; exact List.suffix_refl _
          | cons y t ih =>
            intro x h
            rw [List.getLast?_cons_cons] at h
            rw [join_cons2]
            exact (ih y h).trans ⟨47 :: x, by simp⟩
        rw [hp]
        exact key t x h
/-- a path without dots: what is kept, a slash ahead of each -/
theorem dots_out (p : List UInt8) : dotsL (47 :: p) = outD (endD [] (segs p)) := by
  have h1 : dotsL (47 :: p) = 47 :: Lib.join (keptL (segs p)) [47] ++ (if (!(keptL (segs p)).isEmpty) && (Lib.hasSuffix (47 :: p) [47, 46] || Lib.hasSuffix (47 :: p) [47, 46, 46]) then [47] else []) := rfl
  have e1 : Lib.hasSuffix (47 :: p) [47, 46] = decide ((segs p).getLast? = some [46]) := suffix_last [46] p (by decide)
  have e2 : Lib.hasSuffix (47 :: p) [47, 46, 46] = decide ((segs p).getLast? = some [46, 46]) := suffix_last [46, 46] p (by decide)
  have e3 : (Lib.hasSuffix (47 :: p) [47, 46] || Lib.hasSuffix (47 :: p) [47, 46, 46]) = decide (((segs p).getLast?.map dotS) = some true) := by
    rw [e1, e2]
    match (segs p).getLast? with
    | none => rfl
    | some d => simp [dotS]
  rw [h1, e3, endD_foldl _ _ (segs_ne p)]
  show _ = outD (keptL (segs p) ++ _)
  generalize hk : keptL (segs p) = K
  by_cases hd : ((segs p).getLast?.map dotS) = some true
  · rw [if_pos hd]
    match K with
    | [] => simp [hd, outD, Lib.join_nil]
    | x :: t => rw [outD_append, outD_join (by simp)]; simp [hd, outD]
  · rw [if_neg hd, List.append_nil]
    have hne : K ≠ [] := by
      intro h0
      match hl : (segs p).getLast? with
      | none => exact absurd (List.getLast?_eq_none_iff.1 hl) (segs_ne p)
      | some d =>
        have hl2 := List.getLast?_eq_some_iff.1 hl
        have hdd : dotS d = false := by
          rw [hl] at hd
          cases h : dotS d
          · rfl
          · exact absurd (by rw [Option.map_some, h]) hd
        obtain ⟨L, hL⟩ := hl2
        rw [hL, kept_snoc, keepS_not hdd] at hk
        rw [h0] at hk
        simp at hk
    rw [outD_join hne]
    simp [hd]
theorem endD_keep {x : List UInt8} (h : dotS x = false) (K L : List (List UInt8)) : endD K (x :: L) = endD (K ++ [x]) L := by
  match L with
  | [] => simp [endD, h]
  | y :: M => rw [endD_two, keepS_not h]
theorem endD_dot {x : List UInt8} (K : List (List UInt8)) {L : List (List UInt8)} (hL : L ≠ []) : endD K (x :: L) = endD (keepS K x) L := by
  match L with
  | [] => exact absurd rfl hL
  | y :: M => rw [endD_two]
theorem endD_dot1 {x : List UInt8} (h : dotS x = true) (K : List (List UInt8)) : endD K [x] = endD (keepS K x) [[]] := by
  have h2 : dotS [] = false := rfl
  simp [endD, h, h2]
/-- the last slash of what is kept -/
theorem outD_last (K : List (List UInt8)) (x : List UInt8) : outD (K ++ [x]) = outD K ++ 47 :: x := by rw [outD_append, outD_one]
end Go.Proofs.YtnpiaifkeddjeaaGreatDoor

/- Where a body ends, plainly: what the fields of the two names say, element by element. Nothing of the program is read here. -/
namespace Go.Proofs.YtnpiaifkeddjeaaGreatDoor
def clN : List UInt8 := [99,111,110,116,101,110,116,45,108,101,110,103,116,104]
def teN : List UInt8 := [116,114,97,110,115,102,101,114,45,101,110,99,111,100,105,110,103]
def chN : List UInt8 := [99,104,117,110,107,101,100]
/-- does one of the values have an error of the cut; the elements of all of them -/
def amissB (vs : List (List UInt8)) : Bool := vs.any fun v => splitE v 44 != 0
def elemsL (vs : List (List UInt8)) : List (List UInt8) := vs.flatMap fun v => splitL v 44
/-- the number that digits spell -/
def decV (l : List UInt8) : Nat := l.foldl (fun n c => 10 * n + (c.toNat - 48)) 0
def lenB (l : List UInt8) : Bool := decide (1 ≤ l.length ∧ l.length ≤ 18) && l.all digB
def chB (l : List UInt8) : Bool := sameN l chN
/-- the first of the elements -/
def headE (vs : List (List UInt8)) : List UInt8 := (elemsL vs).headD []
def unlikeB (vs : List (List UInt8)) : Bool := (elemsL vs).any fun s => decV s != decV (headE vs)
/-- what is wrong, the kind, the number: of the values of the one name and of the other -/
def endE (a b : List (List UInt8)) : Int :=
  if !a.isEmpty && !b.isEmpty then 8
  else if !b.isEmpty then (if amissB b || !((elemsL b).length == 1 && chB (headE b)) then 4 else 0)
  else if !a.isEmpty then (if amissB a || (elemsL a).isEmpty || !(elemsL a).all lenB then 4 else if unlikeB a then 8 else 0)
  else 0
def endK (a b : List (List UInt8)) : Int := if endE a b = 0 then (if !b.isEmpty then 2 else if !a.isEmpty then 1 else 0) else 0
def endN (a b : List (List UInt8)) : Int := if endE a b = 0 ∧ a.isEmpty = false then decV (headE a) else 0
def bareB (n : Int) : Bool := (decide (100 ≤ n) && decide (n ≤ 199)) || (n == 204 || n == 304)
/-- a request's answer: kind, number, error -/
def askV (a b : List (List UInt8)) : Int × Int × Int :=
  if endE a b ≠ 0 then (0, 0, endE a b) else if 65536 < endN a b then (0, 0, 3) else (endK a b, endN a b, 0)
/-- a reply's -/
def tellV (a b : List (List UInt8)) (status : Int) (head : Bool) : Int × Int × Int :=
  if endE a b ≠ 0 then (0, 0, endE a b) else if head || bareB status then (0, 0, 0) else if 262144 < endN a b then (0, 0, 3)
  else if a.isEmpty && b.isEmpty then (3, 0, 0) else (endK a b, endN a b, 0)
def askR (l : List Fld) : Int × Int × Int := askV (valsL l clN) (valsL l teN)
def tellR (l : List Fld) (status : Int) (head : Bool) : Int × Int × Int := tellV (valsL l clN) (valsL l teN) status head

/-! ### the program's steps -/
def allP (vs : List (List UInt8)) (p : List UInt8 → Bool) : Bool := (elemsL vs).all p && (!amissB vs && decide (0 < (elemsL vs).length))
def singleE (a b : List (List UInt8)) : Int := if !a.isEmpty && !b.isEmpty then 8 else 0
def formedE (a b : List (List UInt8)) : Int := if (!a.isEmpty && !allP a lenB) || (!b.isEmpty && !allP b chB) then 4 else if 1 < (elemsL b).length then 4 else 0
def numV (s : List UInt8) : Int := atoiV s
def agreedE (a : List (List UInt8)) : Int := if (elemsL a).any (fun s => numV s != numV (headE a)) then 8 else 0
def readE (a b : List (List UInt8)) : Int := if singleE a b ≠ 0 then singleE a b else if formedE a b ≠ 0 then formedE a b else agreedE a

theorem elems_nil : elemsL [] = [] := rfl
theorem decFrom_dig : ∀ (l : List UInt8) (n : Nat), l.all digB = true → Lib.decFrom n l = some (l.foldl (fun n c => 10 * n + (c.toNat - 48)) n)
  | [], n, _ => rfl
  | c :: r, n, h => by
    rw [List.all_cons, Bool.and_eq_true] at h
    have g := digB_iff.1 h.1
    simp only [Lib.decFrom, Lib.digitVal, if_pos g, List.foldl_cons]
    rw [decFrom_dig r _ h.2, Nat.mul_comm]
theorem atoiV_len {s : List UInt8} (h : lenB s = true) : atoiV s = (decV s : Int) := by
  unfold lenB at h
  rw [Bool.and_eq_true, decide_eq_true_eq] at h
  obtain ⟨⟨h1, h2⟩, h3⟩ := h
  cases s with
  | nil => simp at h1
  | cons c r =>
    have hc : digB c = true := by rw [List.all_cons, Bool.and_eq_true] at h3; exact h3.1
    have g := digB_iff.1 hc
    have h45 : (c == 45) = false := by rw [beq_eq_false_iff_ne]; rintro rfl; exact absurd g (by decide)
    have h43 : (c == 43) = false := by rw [beq_eq_false_iff_ne]; rintro rfl; exact absurd g (by decide)
    unfold atoiV
    rw [Lib.atoiAll_short _ h2]
    simp only [Lib.atoi, h45, h43, Lib.decNat, List.isEmpty_cons, Bool.false_eq_true, if_false, decFrom_dig _ 0 h3, Option.map, Lib.NumEnd.ofOption]
    rfl
theorem decV_lt {s : List UInt8} (h : lenB s = true) : decV s < 9223372036854775808 := by
  unfold lenB at h
  rw [Bool.and_eq_true, decide_eq_true_eq] at h
  refine Lib.decNat_small (l := s) h.1.2 ?_
  unfold Lib.decNat
  rw [decFrom_dig _ 0 h.2]
  cases s with
  | nil => simp at h
  | cons c r => rfl
theorem head_mem {vs : List (List UInt8)} (h : elemsL vs ≠ []) : headE vs ∈ elemsL vs := by
  unfold headE
  cases h2 : elemsL vs with
  | nil => exact absurd h2 h
  | cons x r => simp
theorem agreed_eq {a : List (List UInt8)} (h : (elemsL a).all lenB = true) : agreedE a = if unlikeB a then 8 else 0 := by
  unfold agreedE unlikeB numV
  by_cases hn : elemsL a = []
  · rw [hn]; rfl
  · rw [List.all_eq_true] at h
    have hh := atoiV_len (h _ (head_mem hn))
    rw [show ((elemsL a).any fun s => atoiV s != atoiV (headE a)) = (elemsL a).any fun s => decV s != decV (headE a) from ?_]
    refine Bool.eq_iff_iff.2 ?_
    rw [List.any_eq_true, List.any_eq_true]
    constructor
    · rintro ⟨s, hs, he⟩
      refine ⟨s, hs, ?_⟩
      rw [bne_iff_ne] at he ⊢
      rw [hh, atoiV_len (h s hs)] at he
      omega
    · rintro ⟨s, hs, he⟩
      refine ⟨s, hs, ?_⟩
      rw [bne_iff_ne] at he ⊢
      rw [hh, atoiV_len (h s hs)]
      omega
theorem one_elem {E : List (List UInt8)} (h0 : 0 < E.length) (h1 : ¬ 1 < E.length) : E = [E.headD []] := by
  cases E with
  | nil => simp at h0
  | cons x r => cases r with
    | nil => rfl
    | cons y r => simp at h1
/-- THE PROGRAM'S READER FINDS WHAT IS WRONG BY THE DOCUMENT. -/
theorem read_eq (a b : List (List UInt8)) : readE a b = endE a b := by
  unfold readE singleE
  cases a with
  | nil =>
    cases b with
    | nil => simp [formedE, agreedE, endE, elemsL]
    | cons y q =>
      have hag : agreedE [] = 0 := rfl
      simp only [List.isEmpty_nil, List.isEmpty_cons, Bool.not_true, Bool.not_false, Bool.false_and, Bool.and_true, Bool.true_and, Bool.false_or, Bool.false_eq_true, if_false, if_true, endE, formedE, hag, ne_eq, not_true_eq_false]
      generalize hE : elemsL (y :: q) = E
      unfold allP headE
      rw [hE]
      cases hm : amissB (y :: q)
      · by_cases h0 : 0 < E.length
        · by_cases h1 : 1 < E.length
          · have h2 : (E.length == 1) = false := by rw [beq_eq_false_iff_ne]; omega
            rw [h2]
            cases E.all chB <;> simp [h0, h1]
          · have h2 : (E.length == 1) = true := by rw [beq_iff_eq]; omega
            have h3 := one_elem h0 h1
            have h4 : E.all chB = chB (E.headD []) := by rw [h3]; simp
            rw [h2, h4]
            cases chB (E.headD []) <;> simp [h0, h1]
        · have h2 : (E.length == 1) = false := by rw [beq_eq_false_iff_ne]; omega
          rw [h2]; simp [h0]
      · simp
  | cons x r =>
    cases b with
    | nil =>
      simp only [List.isEmpty_nil, List.isEmpty_cons, Bool.not_true, Bool.not_false, Bool.false_and, Bool.true_and, Bool.or_false, Bool.and_false, Bool.false_eq_true, if_false, if_true, endE, formedE, ne_eq, not_true_eq_false, elems_nil, List.length_nil]
      have hag := agreed_eq (a := x :: r)
      unfold allP
      generalize agreedE (x :: r) = G at *
      generalize unlikeB (x :: r) = U at *
      generalize elemsL (x :: r) = E at *
      cases hm : amissB (x :: r)
      · cases hl : E.all lenB
        · simp
        · rw [hag hl]
          cases E with
          | nil => simp
          | cons z t => cases U <;> simp
      · simp
    | cons y q => simp [endE]
theorem end_len {a b : List (List UInt8)} (h : endE a b = 0) (ha : a.isEmpty = false) : b.isEmpty = true ∧ elemsL a ≠ [] ∧ lenB (headE a) = true ∧ numV (headE a) = endN a b := by
  have hN : endN a b = decV (headE a) := by unfold endN; rw [if_pos ⟨h, ha⟩]
  cases hb : b.isEmpty
  · unfold endE at h; rw [ha, hb] at h; simp at h
  · unfold endE at h
    rw [ha, hb] at h
    simp only [Bool.not_true, Bool.not_false, Bool.and_false, Bool.false_eq_true, if_false, if_true] at h
    by_cases hc : (amissB a || (elemsL a).isEmpty || !(elemsL a).all lenB) = true
    · rw [if_pos hc] at h; simp at h
    · rw [Bool.not_eq_true, Bool.or_eq_false_iff, Bool.or_eq_false_iff, Bool.not_eq_false'] at hc
      have hne : elemsL a ≠ [] := by have := hc.1.2; intro e; rw [e] at this; simp at this
      have hl := (List.all_eq_true.1 hc.2) _ (head_mem hne)
      exact ⟨rfl, hne, hl, by rw [hN]; exact atoiV_len hl⟩
theorem end_one {a b : List (List UInt8)} (h : endE a b = 0) (hb : b.isEmpty = false) : a.isEmpty = true ∧ endK a b = 2 ∧ endN a b = 0 := by
  cases ha : a.isEmpty
  · unfold endE at h; rw [ha, hb] at h; simp at h
  · refine ⟨rfl, ?_, ?_⟩
    · unfold endK; rw [if_pos h, hb]; rfl
    · unfold endN; rw [if_neg (by rw [ha]; simp)]

/-! ### once more, and fields of other names -/
theorem vals_app (l m : List Fld) (n : List UInt8) : valsL (l ++ m) n = valsL l n ++ valsL m n := by unfold valsL; rw [List.filter_append, List.map_append]
theorem vals_ins (l : List Fld) (f : Fld) (k : Nat) {n : List UInt8} (h : sameN f.1 n = false) : valsL (l.take k ++ f :: l.drop k) n = valsL l n := by
  rw [vals_app, vals_cons, h]
  simp only [Bool.false_eq_true, if_false]
  rw [← vals_app, List.take_append_drop]
theorem elems_app (a b : List (List UInt8)) : elemsL (a ++ b) = elemsL a ++ elemsL b := by simp [elemsL]
theorem elems_one (v : List UInt8) : elemsL [v] = splitL v 44 := by simp [elemsL]
theorem elems_sub {a : List (List UInt8)} {v : List UInt8} (h : v ∈ a) : ∀ s ∈ splitL v 44, s ∈ elemsL a := fun s hs => by
  unfold elemsL; rw [List.mem_flatMap]; exact ⟨v, h, hs⟩
theorem any_app_sub {α : Type} {E F : List α} (p : α → Bool) (h : ∀ s ∈ F, s ∈ E) : (E ++ F).any p = E.any p := by
  rw [List.any_append]
  cases hF : F.any p
  · rw [Bool.or_false]
  · obtain ⟨s, h1, h2⟩ := List.any_eq_true.1 hF
    rw [List.any_eq_true.2 ⟨s, h s h1, h2⟩]; rfl
theorem all_app_sub {α : Type} {E F : List α} (p : α → Bool) (h : ∀ s ∈ F, s ∈ E) : (E ++ F).all p = E.all p := by
  rw [List.all_append]
  cases hE : E.all p
  · rfl
  · rw [Bool.true_and, List.all_eq_true]; exact fun s hs => (List.all_eq_true.1 hE) s (h s hs)
theorem again_end {a b : List (List UInt8)} {v : List UInt8} (h : v ∈ a) : endE (a ++ [v]) b = endE a b ∧ endK (a ++ [v]) b = endK a b ∧ endN (a ++ [v]) b = endN a b := by
  have ha : a.isEmpty = false := by cases a with | nil => simp at h | cons x r => rfl
  have ha2 : (a ++ [v]).isEmpty = false := by cases a <;> rfl
  have hsub := elems_sub h
  have hE : elemsL (a ++ [v]) = elemsL a ++ splitL v 44 := by rw [elems_app, elems_one]
  have hm : amissB (a ++ [v]) = amissB a := any_app_sub _ (fun s hs => by rw [List.mem_singleton.1 hs]; exact h)
  have hemp : (elemsL (a ++ [v])).isEmpty = (elemsL a).isEmpty := by
    rw [hE]
    cases he : elemsL a with
    | nil =>
      rw [he] at hsub
      cases hs : splitL v 44 with
      | nil => rfl
      | cons x r => exact absurd (hsub x (by rw [hs]; simp)) (by simp)
    | cons x r => rfl
  have hh : headE (a ++ [v]) = headE a := by
    unfold headE
    cases he : elemsL a with
    | nil =>
      have : elemsL (a ++ [v]) = [] := by
        have h3 := hemp
        rw [he] at h3
        exact List.isEmpty_iff.1 h3
      rw [this]
    | cons x r => rw [hE, he]; rfl
  have hl : (elemsL (a ++ [v])).all lenB = (elemsL a).all lenB := by rw [hE]; exact all_app_sub _ hsub
  have hu : unlikeB (a ++ [v]) = unlikeB a := by unfold unlikeB; rw [hh, hE]; exact any_app_sub _ hsub
  have h1 : endE (a ++ [v]) b = endE a b := by unfold endE; rw [ha, ha2, hm, hemp, hl, hu]
  refine ⟨h1, ?_, ?_⟩
  · unfold endK; rw [h1, ha, ha2]
  · unfold endN; rw [h1, ha, ha2, hh]
theorem ask_ins (l : List Fld) (f : Fld) (k : Nat) (h1 : sameN f.1 clN = false) (h2 : sameN f.1 teN = false) : askR (l.take k ++ f :: l.drop k) = askR l := by
  unfold askR; rw [vals_ins l f k h1, vals_ins l f k h2]
theorem tell_ins (l : List Fld) (f : Fld) (k : Nat) (s : Int) (d : Bool) (h1 : sameN f.1 clN = false) (h2 : sameN f.1 teN = false) : tellR (l.take k ++ f :: l.drop k) s d = tellR l s d := by
  unfold tellR; rw [vals_ins l f k h1, vals_ins l f k h2]
def clU : List UInt8 := [67,79,78,84,69,78,84,45,76,69,78,71,84,72]
theorem cl_same : sameN clU clN = true := by decide
theorem cl_other : sameN clU teN = false := by decide
theorem ask_again (l : List Fld) (v : List UInt8) (h : v ∈ valsL l clN) : askR (l ++ [(clU, v)]) = askR l := by
  have h1 : valsL (l ++ [(clU, v)]) clN = valsL l clN ++ [v] := by rw [vals_app, vals_cons]; simp only [cl_same, if_true]; rfl
  have h2 : valsL (l ++ [(clU, v)]) teN = valsL l teN := by rw [vals_app, vals_cons]; simp only [cl_other, Bool.false_eq_true, if_false]; simp [valsL]
  obtain ⟨g1, g2, g3⟩ := again_end (b := valsL l teN) h
  unfold askR askV
  rw [h1, h2, g1, g2, g3]

/-! ### how long, how many -/
theorem splitF_len (l : List UInt8) (sep : UInt8) : (splitL l sep).length ≤ 64 := by
  unfold splitL
  split
  · simp
  · split
    · simp
    · split
      · simp
      · omega
theorem cutF_len {sep : UInt8} : ∀ (l : List UInt8) (o e : Bool) (cur : List UInt8) (A R : List (List UInt8)), cutAt sep l o e cur A = some R → R.flatten.length ≤ A.flatten.length + cur.length + l.length
  | [], o, e, cur, A, R, h => by
    unfold cutAt at h
    split at h
    · cases h
    · cases h
      unfold addP
      have := trim_le cur
      split <;> simp <;> omega
  | c :: r, o, e, cur, A, R, h => by
    unfold cutAt at h
    split at h
    · have h1 := cutF_len r _ _ _ _ _ h
      have h2 : (addP A cur).flatten.length ≤ A.flatten.length + cur.length := by
        unfold addP
        have := trim_le cur
        split <;> simp <;> omega
      simp only [List.length_nil, List.length_cons] at h1 ⊢
      omega
    · have h1 := cutF_len r _ _ _ _ _ h
      simp only [List.length_append, List.length_cons, List.length_nil] at h1 ⊢
      omega
theorem memF_flat {L : List (List UInt8)} {x : List UInt8} (h : x ∈ L) : x.length ≤ L.flatten.length := by
  induction L with
  | nil => exact absurd h (by simp)
  | cons y r ih =>
    rw [List.flatten_cons, List.length_append]
    rcases List.mem_cons.1 h with rfl | h
    · omega
    · have := ih h; omega
theorem splitF_mem {l : List UInt8} {sep : UInt8} {x : List UInt8} (h : x ∈ splitL l sep) : x.length ≤ l.length := by
  refine Nat.le_trans (memF_flat h) ?_
  unfold splitL
  split
  · simp
  · split
    · simp
    · rename_i a h
      split
      · simp
      · have := cutF_len _ _ _ _ _ _ h; simpa using this
theorem elems_snoc {vs : List (List UInt8)} {k : Nat} (h : k < vs.length) : elemsL (vs.take (k + 1)) = elemsL (vs.take k) ++ splitL vs[k] 44 := by
  rw [List.take_succ_eq_append_getElem h, elems_app, elems_one]
theorem amiss_snoc {vs : List (List UInt8)} {k : Nat} (h : k < vs.length) : amissB (vs.take (k + 1)) = (amissB (vs.take k) || splitE vs[k] 44 != 0) := by
  unfold amissB
  rw [List.take_succ_eq_append_getElem h, List.any_append]
  simp only [List.any_cons, List.any_nil, Bool.or_false]
theorem elems_len (vs : List (List UInt8)) : (elemsL vs).length ≤ 64 * vs.length := by
  induction vs with
  | nil => simp [elemsL]
  | cons v r ih =>
    have h1 := splitF_len v 44
    rw [show v :: r = [v] ++ r from rfl, elems_app, elems_one, List.length_append, List.length_append]
    simp only [List.length_cons, List.length_nil]; omega
theorem elems_mem {vs : List (List UInt8)} {n : Nat} (h : ∀ v ∈ vs, v.length ≤ n) : ∀ s ∈ elemsL vs, s.length ≤ n := fun s hs => by
  unfold elemsL at hs
  rw [List.mem_flatMap] at hs
  obtain ⟨v, h1, h2⟩ := hs
  exact Nat.le_trans (splitF_mem h2) (h v h1)
end Go.Proofs.YtnpiaifkeddjeaaGreatDoor

/- What a text is as a URI, as the document goes about it, plainly: the same answer. Nothing of the program is read here. -/
namespace Go.Proofs.YtnpiaifkeddjeaaGreatDoor
/-- a port's digits; 0: they are none -/
def numU (l : List UInt8) : Int := if l = [] ∨ 5 < l.length ∨ l.head? = some 48 then 0 else if l.all digB then decV l else 0
def docParts (s : List UInt8) : Ur :=
  let a := Lib.cut s [58, 47, 47]
  let b := Lib.cut a.2.1 [63]
  let c := Lib.cut b.1 [47]
  let d := Lib.cut c.1 [58]
  ⟨a.1, d.1, if d.2.2 then numU d.2.1 else 0, if c.2.2 then 47 :: c.2.1 else [47], b.2.1, b.2.2⟩
def portBad (s : List UInt8) : Bool :=
  let d := Lib.cut (Lib.cut (Lib.cut (Lib.cut s [58, 47, 47]).2.1 [63]).1 [47]).1 [58]
  d.2.2 && decide (numU d.2.1 = 0)
def docU (s : List UInt8) : Ur × Int :=
  if 1024 < s.length then (ur0, 3)
  else if (Lib.cut s [58, 47, 47]).2.2 = false then (ur0, 4)
  else if portBad s then (ur0, 4)
  else if (docParts s).check = 0 then (docParts s, 0) else (ur0, (docParts s).check)

theorem decU_snoc (l : List UInt8) (c : UInt8) : decV (l ++ [c]) = 10 * decV l + (c.toNat - 48) := by unfold decV; rw [List.foldl_append]; rfl
theorem digU_of (d : Nat) (h : d < 10) : digB (UInt8.ofNat (48 + d)) = true ∧ (UInt8.ofNat (48 + d)).toNat = 48 + d := by
  have : (UInt8.ofNat (48 + d)).toNat = 48 + d := by simp; omega
  exact ⟨digB_iff.2 (by omega), this⟩
theorem decU_all (u : Nat) : (Lib.decDigits u).all digB = true ∧ decV (Lib.decDigits u) = u ∧ Lib.decDigits u ≠ [] := by
  induction u using Nat.strongRecOn with
  | _ u ih =>
    rw [Lib.decDigits]
    split
    · rename_i h
      have := digU_of u h
      exact ⟨by rw [List.all_cons, this.1]; rfl, by unfold decV; simp only [List.foldl_cons, List.foldl_nil]; rw [this.2]; omega, by simp⟩
    · rename_i h
      obtain ⟨h1, h2, h3⟩ := ih (u / 10) (by omega)
      have := digU_of (u % 10) (by omega)
      refine ⟨by rw [List.all_append, h1, List.all_cons, this.1]; rfl, by rw [decU_snoc, h2, this.2]; omega, by simp⟩
theorem decU_len : ∀ (k u : Nat), u < 10 ^ (k + 1) → (Lib.decDigits u).length ≤ k + 1
  | 0, u, h => by rw [Lib.decDigits, dif_pos (by simpa using h)]; simp
  | k + 1, u, h => by
    rw [Lib.decDigits]
    split
    · simp
    · rw [List.length_append]
      have := decU_len k (u / 10) (by rw [Nat.pow_succ] at h; omega)
      simp only [List.length_cons, List.length_nil]
      omega
theorem decU_head (u : Nat) (h : 1 ≤ u) : (Lib.decDigits u).head? ≠ some 48 := by
  induction u using Nat.strongRecOn with
  | _ u ih =>
    rw [Lib.decDigits]
    split
    · rename_i h10
      intro h2
      have h3 : UInt8.ofNat (48 + u) = 48 := by simpa using h2
      have h4 := (digU_of u h10).2
      rw [h3] at h4
      have : (48 : UInt8).toNat = 48 := rfl
      omega
    · rename_i h10
      have h2 := ih (u / 10) (by omega) (by omega)
      have h3 := (decU_all (u / 10)).2.2
      match hd : Lib.decDigits (u / 10) with
      | [] => exact absurd hd h3
      | x :: t => rw [hd] at h2; simpa using h2
theorem decU_pos : ∀ {l : List UInt8}, l ≠ [] → l.head? ≠ some 48 → l.all digB = true → 1 ≤ decV l := by
  intro l
  induction hn : l.length using Nat.strongRecOn generalizing l with
  | _ n ih =>
    intro hl hh hd
    obtain ⟨m, c, rfl⟩ : ∃ m c, l = m ++ [c] := ⟨_, _, (List.dropLast_concat_getLast hl).symm⟩
    rw [List.all_append, Bool.and_eq_true] at hd
    match m with
    | [] =>
      have hc := digB_iff.1 (show digB c = true by simpa using hd.2)
      have : c ≠ 48 := by intro e; exact hh (by rw [e]; rfl)
      have : c.toNat ≠ 48 := fun e => this (UInt8.toNat_inj.1 (by simpa using e))
      rw [decU_snoc]
      show 1 ≤ 10 * 0 + _
      omega
    | x :: t =>
      have h2 := ih (x :: t).length (by subst hn; simp) rfl (by simp) (by simpa using hh) hd.1
      rw [decU_snoc]; omega
theorem decU_back : ∀ {l : List UInt8}, l ≠ [] → l.head? ≠ some 48 → l.all digB = true → Lib.decDigits (decV l) = l := by
  intro l
  induction hn : l.length using Nat.strongRecOn generalizing l with
  | _ n ih =>
    intro hl hh hd
    obtain ⟨m, c, rfl⟩ : ∃ m c, l = m ++ [c] := ⟨_, _, (List.dropLast_concat_getLast hl).symm⟩
    rw [List.all_append, Bool.and_eq_true] at hd
    have hc := digB_iff.1 (show digB c = true by simpa using hd.2)
    have e : UInt8.ofNat (48 + (c.toNat - 48)) = c := by rw [show 48 + (c.toNat - 48) = c.toNat by omega]; simp
    match m with
    | [] =>
      rw [decU_snoc]
      show Lib.decDigits (10 * 0 + _) = _
      rw [Lib.decDigits, dif_pos (by omega), Nat.mul_zero, Nat.zero_add, e]; rfl
    | x :: t =>
      have h1 := decU_pos (l := x :: t) (by simp) (by simpa using hh) hd.1
      have h2 := ih (x :: t).length (by subst hn; simp) rfl (by simp) (by simpa using hh) hd.1
      rw [decU_snoc, Lib.decDigits, dif_neg (by omega), show (10 * decV (x :: t) + (c.toNat - 48)) / 10 = decV (x :: t) by omega, h2, show (10 * decV (x :: t) + (c.toNat - 48)) % 10 = c.toNat - 48 by omega, e]
theorem itoaU (n : Nat) : Lib.itoa (n : Int) = Lib.decDigits n := by unfold Lib.itoa; rw [if_neg (by omega)]; rfl
theorem numU_itoa {v : Int} (h0 : 0 < v) (h1 : v ≤ 65535) : numU (Lib.itoa v) = v := by
  obtain ⟨n, rfl⟩ : ∃ n : Nat, v = n := ⟨v.toNat, by omega⟩
  rw [itoaU]
  obtain ⟨a, b, c⟩ := decU_all n
  have hl := decU_len 4 n (by omega)
  have hh := decU_head n (by omega)
  unfold numU
  rw [if_neg (fun h => by rcases h with h | h | h; (exact c h); (omega); (exact hh h)), a, if_pos rfl, b]
theorem numU_some {l : List UInt8} (h : numU l ≠ 0) : atoiV l = numU l ∧ Lib.itoa (numU l) = l ∧ 0 < numU l := by
  unfold numU at h ⊢
  by_cases h1 : l = [] ∨ 5 < l.length ∨ l.head? = some 48
  · rw [if_pos h1] at h; exact absurd rfl h
  · rw [if_neg h1] at h ⊢
    cases h2 : l.all digB
    · rw [h2] at h; exact absurd rfl h
    · simp only [if_true]
      have n1 : l ≠ [] := fun e => h1 (.inl e)
      have n2 : ¬ 5 < l.length := fun e => h1 (.inr (.inl e))
      have n3 : l.head? ≠ some 48 := fun e => h1 (.inr (.inr e))
      have n4 : l.length ≠ 0 := fun e => n1 (List.eq_nil_of_length_eq_zero e)
      refine ⟨atoiV_len (by unfold lenB; rw [h2, Bool.and_true, decide_eq_true_eq]; omega), ?_, ?_⟩
      · rw [itoaU, decU_back n1 n3 h2]
      · have := decU_pos n1 n3 h2; omega
theorem cut_parts (s sep : List UInt8) : s = (Lib.cut s sep).1 ++ (if (Lib.cut s sep).2.2 then sep ++ (Lib.cut s sep).2.1 else []) ∧ ((Lib.cut s sep).2.2 = false → (Lib.cut s sep).2.1 = []) := by
  rcases Lib.index_spec s sep with ⟨hi, _⟩ | ⟨i, hi, hil, ho, _⟩
  · unfold Lib.cut
    rw [hi, if_neg (by decide)]
    simp
  · unfold Lib.cut
    rw [hi, if_pos (by omega)]
    refine ⟨?_, fun h => by cases h⟩
    simp only [Int.toNat_natCast, if_true]
    have hp : sep <+: s.drop i := by
      have : sep.isPrefixOf (s.drop i) = true := ho
      exact List.isPrefixOf_iff_prefix.1 this
    obtain ⟨r, hr⟩ := hp
    have h3 : s.drop (i + sep.length) = r := by rw [← List.drop_drop, ← hr]; simp
    rw [h3, hr, List.take_append_drop]
theorem atoiV_nil : atoiV [] = 0 := rfl
theorem root_eq (a1 d1 c2 b2 : List UInt8) (v : Int) (c3 b3 : Bool) : Ur.root ⟨a1, d1, v, if c3 then 47 :: c2 else [], b2, b3⟩ = ⟨a1, d1, v, if c3 then 47 :: c2 else [47], b2, b3⟩ := by
  cases c3 <;> rfl
theorem check_port {u : Ur} (h : u.po < 0 ∨ 65535 < u.po) : u.check = 4 := by
  have hf : u.formed = false := by
    unfold Ur.formed
    rcases h with h | h
    · have : decide (0 ≤ u.po) = false := decide_eq_false (by omega)
      simp [this]
    · have : decide (u.po ≤ 65535) = false := decide_eq_false (by omega)
      simp [this]
  unfold Ur.check
  rw [hf]; rfl
theorem ite_iff {α : Type} {a b : Prop} [Decidable a] [Decidable b] {x y : α} (h : a ↔ b) : (if a then x else y) = if b then x else y := by
  by_cases ha : a
  · rw [if_pos ha, if_pos (h.1 ha)]
  · rw [if_neg ha, if_neg fun hb => ha (h.2 hb)]
theorem doc_core (s a1 d1 d2 c2 b2 : List UInt8) (d3 c3 b3 : Bool) (hs : s = a1 ++ ([58, 47, 47] ++ (d1 ++ ((if d3 then 58 :: d2 else []) ++ ((if c3 then 47 :: c2 else []) ++ if b3 then 63 :: b2 else []))))) (hd2 : d3 = false → d2 = []) :
    (if (d3 && decide (numU d2 = 0)) = true then (ur0, (4 : Int)) else if Ur.check ⟨a1, d1, if d3 then numU d2 else 0, if c3 then 47 :: c2 else [47], b2, b3⟩ = 0 then (⟨a1, d1, if d3 then numU d2 else 0, if c3 then 47 :: c2 else [47], b2, b3⟩, 0) else (ur0, Ur.check ⟨a1, d1, if d3 then numU d2 else 0, if c3 then 47 :: c2 else [47], b2, b3⟩)) =
    (if Ur.text ⟨a1, d1, atoiV d2, if c3 then 47 :: c2 else [], b2, b3⟩ = s then (if Ur.check (Ur.root ⟨a1, d1, atoiV d2, if c3 then 47 :: c2 else [], b2, b3⟩) = 0 then (Ur.root ⟨a1, d1, atoiV d2, if c3 then 47 :: c2 else [], b2, b3⟩, 0) else (ur0, Ur.check (Ur.root ⟨a1, d1, atoiV d2, if c3 then 47 :: c2 else [], b2, b3⟩))) else (ur0, 4)) := by
  have ht : Ur.text ⟨a1, d1, atoiV d2, if c3 then 47 :: c2 else [], b2, b3⟩ = a1 ++ ([58, 47, 47] ++ (d1 ++ ((if atoiV d2 = 0 then [] else 58 :: Lib.itoa (atoiV d2)) ++ ((if c3 then 47 :: c2 else []) ++ if b3 then 63 :: b2 else [])))) := rfl
  have hiff : Ur.text ⟨a1, d1, atoiV d2, if c3 then 47 :: c2 else [], b2, b3⟩ = s ↔ (if atoiV d2 = 0 then [] else 58 :: Lib.itoa (atoiV d2)) = (if d3 then 58 :: d2 else []) := by
    rw [ht, hs, List.append_cancel_left_eq, List.append_cancel_left_eq, List.append_cancel_left_eq, List.append_cancel_right_eq]
  rw [root_eq, ite_iff hiff]
  clear ht hs hiff
  cases d3
  · rw [hd2 rfl]
    have : atoiV [] = 0 := rfl
    simp [this]
  · simp only [Bool.true_and, decide_eq_true_eq, if_true]
    by_cases hn : numU d2 = 0
    · rw [if_pos hn]
      by_cases hv : atoiV d2 = 0
      · rw [if_pos hv, if_neg (by simp)]
      · rw [if_neg hv]
        by_cases hi : (58 : UInt8) :: Lib.itoa (atoiV d2) = 58 :: d2
        · rw [if_pos hi]
          have hi2 : Lib.itoa (atoiV d2) = d2 := by simpa using hi
          have hb : atoiV d2 < 0 ∨ 65535 < atoiV d2 := by
            rcases Int.lt_or_le (atoiV d2) 0 with h | h
            · exact .inl h
            · right
              rcases Int.lt_or_le 65535 (atoiV d2) with h2 | h2
              · exact h2
              · exfalso
                have h3 := numU_itoa (v := atoiV d2) (by omega) h2
                rw [hi2] at h3
                omega
          have hc : Ur.check ⟨a1, d1, atoiV d2, if c3 then 47 :: c2 else [47], b2, b3⟩ = 4 := check_port hb
          rw [hc, if_neg (by decide)]
        · rw [if_neg hi]
    · rw [if_neg hn]
      obtain ⟨h1, h2, h3⟩ := numU_some hn
      rw [h1, if_neg (show ¬ numU d2 = 0 from hn), h2, if_pos rfl]
theorem doc_eq (s : List UInt8) : docU s = parseU s := by
  unfold docU parseU
  by_cases hl : 1024 < s.length
  · rw [if_pos hl, if_pos hl]
  rw [if_neg hl, if_neg hl]
  obtain ⟨ha, ha2⟩ := cut_parts s [58, 47, 47]
  obtain ⟨hb, hb2⟩ := cut_parts (Lib.cut s [58, 47, 47]).2.1 [63]
  obtain ⟨hc, hc2⟩ := cut_parts (Lib.cut (Lib.cut s [58, 47, 47]).2.1 [63]).1 [47]
  obtain ⟨hd, hd2⟩ := cut_parts (Lib.cut (Lib.cut (Lib.cut s [58, 47, 47]).2.1 [63]).1 [47]).1 [58]
  by_cases hf : (Lib.cut s [58, 47, 47]).2.2 = false
  · rw [if_pos hf, if_neg]
    intro h
    have h2 := congrArg List.length h
    have h3 : (apartL s).text = (Lib.cut s [58, 47, 47]).1 ++ ([58, 47, 47] ++ ((apartL s).ho ++ ((if (apartL s).po = 0 then [] else 58 :: Lib.itoa (apartL s).po) ++ ((apartL s).pa ++ if (apartL s).hq then 63 :: (apartL s).qu else [])))) := rfl
    rw [hf] at ha
    simp only [Bool.false_eq_true, if_false, List.append_nil] at ha
    rw [h3, ← ha] at h2
    simp only [List.length_append, List.length_cons] at h2
    omega
  · rw [if_neg hf]
    have hf2 : (Lib.cut s [58, 47, 47]).2.2 = true := by simpa using hf
    refine doc_core s _ _ _ _ _ _ _ _ ?_ hd2
    rw [hf2, if_pos rfl] at ha
    conv => lhs; rw [ha]
    congr 2
    conv => lhs; rw [hb]
    conv => lhs; lhs; rw [hc]
    conv => lhs; lhs; lhs; rw [hd]
    simp only [List.append_assoc]
    rfl
end Go.Proofs.YtnpiaifkeddjeaaGreatDoor

/- A URI's text is read as the URI; what is read has that text, but for the path that was none. Plainly: nothing of the program is read here. -/
namespace Go.Proofs.YtnpiaifkeddjeaaGreatDoor
theorem occ_headU {s : List UInt8} {c : UInt8} {m : List UInt8} {j : Nat} (h : Lib.occAt s (c :: m) j = true) : s[j]? = some c := by
  have h2 : (c :: m).isPrefixOf (s.drop j) = true := h
  obtain ⟨r, hr⟩ := List.isPrefixOf_iff_prefix.1 h2
  have h3 : (s.drop j)[0]? = some c := by rw [← hr]; rfl
  simpa using h3
theorem cutF (a m r : List UInt8) (c : UInt8) (h : ∀ x ∈ a, x ≠ c) : Lib.cut (a ++ (c :: m ++ r)) (c :: m) = (a, r, true) := by
  have h1 := cut_hit (s := a ++ (c :: m ++ r)) (sep := c :: m) (i := a.length) (by simp) (by
    show (c :: m).isPrefixOf (List.drop a.length (a ++ (c :: m ++ r))) = true
    rw [List.drop_left]
    exact List.isPrefixOf_iff_prefix.2 (List.prefix_append _ _)) (fun j hj => by
      cases ho : Lib.occAt (a ++ (c :: m ++ r)) (c :: m) j
      · rfl
      · have h2 := occ_headU ho
        rw [List.getElem?_append_left hj, List.getElem?_eq_getElem hj] at h2
        exact absurd (Option.some.inj h2) (h _ (List.getElem_mem hj)))
  rw [h1, List.take_left, ← List.drop_drop, List.drop_left, List.drop_left]
theorem cutN1 (a : List UInt8) (c : UInt8) (h : ∀ x ∈ a, x ≠ c) : Lib.cut a [c] = (a, [], false) := cut_miss fun j _ => by
  cases ho : Lib.occAt a [c] j
  · rfl
  · have h2 := occ_headU ho
    have h3 := List.mem_of_getElem? h2
    exact absurd rfl (h _ h3)
theorem made_bytes (m : List UInt8) : ∀ (n : Nat) (l : List UInt8), l.length ≤ n → made m l = true → ∀ c ∈ l, c = 37 ∨ hxB c = true ∨ plB c = true ∨ inI (c.toNat : Int) m = true := by
  intro n
  induction n with
  | zero => intro l hl _ c hc; rw [List.eq_nil_of_length_eq_zero (Nat.le_zero.1 hl)] at hc; cases hc
  | succ n ih =>
    intro l hl h c hc
    match l, hl, h, hc with
    | [a], _, h, hc =>
      obtain rfl := List.mem_singleton.1 hc
      have h2 : madeP m (c, false) = true := by simpa [made, toks] using h
      simp only [madeP, Bool.false_or, Bool.or_eq_true] at h2
      exact .inr (.inr h2)
    | [a, b], _, h, hc =>
      have h2 : madeP m (a, false) = true ∧ madeP m (b, false) = true := by simpa [made, toks] using h
      simp only [madeP, Bool.false_or, Bool.or_eq_true] at h2
      rcases List.mem_cons.1 hc with rfl | hc
      · exact .inr (.inr h2.1)
      · obtain rfl := List.mem_singleton.1 hc
        exact .inr (.inr h2.2)
    | d :: a :: b :: r, hl, h, hc =>
      by_cases he : (d == 37 && (hxB a && hxB b)) = true
      · have h3 : made m r = true := by
          unfold made at h ⊢
          rw [toks, if_pos he, List.all_cons, Bool.and_eq_true] at h
          exact h.2
        simp only [Bool.and_eq_true, beq_iff_eq] at he
        rcases List.mem_cons.1 hc with rfl | hc
        · exact .inl he.1
        · rcases List.mem_cons.1 hc with rfl | hc
          · exact .inr (.inl he.2.1)
          · rcases List.mem_cons.1 hc with rfl | hc
            · exact .inr (.inl he.2.2)
            · exact ih r (by simp only [List.length_cons] at hl; omega) h3 c hc
      · unfold made at h
        rw [toks, if_neg he, List.all_cons, Bool.and_eq_true] at h
        rcases List.mem_cons.1 hc with rfl | hc
        · have h2 := h.1
          simp only [madeP, Bool.false_or, Bool.or_eq_true] at h2
          exact .inr (.inr h2)
        · exact ih (a :: b :: r) (by simp only [List.length_cons] at hl ⊢; omega) h.2 c hc
theorem path_no63 {l : List UInt8} (h : made pathM l = true) : ∀ c ∈ l, c ≠ 63 := fun c hc e => by
  subst e
  rcases made_bytes pathM _ l (Nat.le_refl _) h _ hc with h | h | h | h <;> exact absurd h (by decide)
theorem host_no {l : List UInt8} (h : hostOk l = true) : ∀ c ∈ l, c ≠ 63 ∧ c ≠ 47 ∧ c ≠ 58 := by
  have key : ∀ (n : Nat) (l : List UInt8), l.length ≤ n → (toks l).all hostP = true → ∀ c ∈ l, hoB c = true := by
    intro n
    induction n with
    | zero => intro l hl _ c hc; rw [List.eq_nil_of_length_eq_zero (Nat.le_zero.1 hl)] at hc; cases hc
    | succ n ih =>
      intro l hl h c hc
      match l, hl, h, hc with
      | [a], _, h, hc =>
        obtain rfl := List.mem_singleton.1 hc
        simpa [toks, hostP] using h
      | [a, b], _, h, hc =>
        have h2 : hoB a = true ∧ hoB b = true := by simpa [toks, hostP] using h
        rcases List.mem_cons.1 hc with rfl | hc
        · exact h2.1
        · obtain rfl := List.mem_singleton.1 hc
          exact h2.2
      | d :: a :: b :: r, hl, h, hc =>
        by_cases he : (d == 37 && (hxB a && hxB b)) = true
        · rw [toks, if_pos he, List.all_cons] at h
          simp [hostP] at h
        · rw [toks, if_neg he, List.all_cons, Bool.and_eq_true] at h
          rcases List.mem_cons.1 hc with rfl | hc
          · simpa [hostP] using h.1
          · exact ih (a :: b :: r) (by simp only [List.length_cons] at hl ⊢; omega) h.2 c hc
  unfold hostOk at h
  rw [Bool.and_eq_true] at h
  intro c hc
  have h2 := key _ l (Nat.le_refl _) h.2 c hc
  refine ⟨?_, ?_, ?_⟩ <;> (rintro rfl; exact absurd h2 (by decide))
/-- a port's text -/
def portL (p : Int) : List UInt8 := if p = 0 then [] else 58 :: Lib.itoa p
theorem port_no {p : Int} (h0 : 0 ≤ p) : ∀ c ∈ portL p, c ≠ 63 ∧ c ≠ 47 := by
  unfold portL
  by_cases hp : p = 0
  · rw [if_pos hp]; intro c hc; cases hc
  · rw [if_neg hp]
    obtain ⟨n, rfl⟩ : ∃ n : Nat, p = n := ⟨p.toNat, by omega⟩
    rw [itoaU]
    intro c hc
    rcases List.mem_cons.1 hc with rfl | hc
    · exact ⟨by decide, by decide⟩
    · have h2 := List.all_eq_true.1 (decU_all n).1 c hc
      refine ⟨?_, ?_⟩ <;> (rintro rfl; exact absurd h2 (by decide))
theorem uchk_zero {u : Ur} (h : u.check = 0) : u.formed = true ∧ u.text.length ≤ 1024 := by
  unfold Ur.check at h
  cases hf : u.formed
  · rw [hf] at h; exact absurd h (by simp)
  · rw [hf] at h
    simp only [if_true] at h
    refine ⟨rfl, ?_⟩
    rcases Nat.lt_or_ge 1024 u.text.length with h2 | h2
    · rw [if_pos h2] at h; exact absurd h (by decide)
    · exact h2
structure Fm (u : Ur) : Prop where
  sc : u.sc = schH ∨ u.sc = schS
  ho : hostOk u.ho = true
  p0 : 0 ≤ u.po
  p1 : u.po ≤ 65535
  pa : ∃ r, u.pa = 47 :: r
  mp : made pathM u.pa = true
  mq : made queryM u.qu = true
  qh : u.hq = false → u.qu = []
theorem formed_iff {u : Ur} : u.formed = true ↔ Fm u := by
  unfold Ur.formed
  simp only [Bool.and_eq_true, decide_eq_true_eq, bne_iff_ne]
  constructor
  · rintro ⟨h1, h2, h3, h4, h5, h6, h7, h8⟩
    refine ⟨?_, h2, h3, h4, ?_, h6, h7, ?_⟩
    · unfold usual at h1
      by_cases a : u.sc = schH
      · exact .inl a
      · rw [if_neg a] at h1
        by_cases b : u.sc = schS
        · exact .inr b
        · rw [if_neg b] at h1; exact absurd rfl h1
    · match hp : u.pa with
      | [] => rw [hp] at h5; exact absurd h5 (by decide)
      | c :: r =>
        rw [hp] at h5
        simp [Lib.hasPrefix, List.isPrefixOf] at h5
        exact ⟨r, by rw [h5]⟩
    · intro hq
      rw [hq, Bool.false_or] at h8
      exact List.isEmpty_iff.1 h8
  · rintro ⟨h1, h2, h3, h4, ⟨r, h5⟩, h6, h7, h8⟩
    refine ⟨?_, h2, h3, h4, ?_, h6, h7, ?_⟩
    · rcases h1 with h | h <;> rw [h] <;> decide
    · rw [h5]; rfl
    · cases hq : u.hq
      · rw [h8 hq]; rfl
      · rfl
theorem text_split (u : Ur) : u.text = u.sc ++ (58 :: [47, 47] ++ (u.ho ++ (portL u.po ++ (u.pa ++ if u.hq then 63 :: u.qu else [])))) := rfl
theorem sch_no {u : Ur} (h : Fm u) : ∀ c ∈ u.sc, c ≠ 58 ∧ c ≠ 63 := by
  rcases h.sc with h | h <;> rw [h] <;> decide
theorem apart_text {u : Ur} (h : Fm u) : apartL u.text = u := by
  obtain ⟨r, hr⟩ := h.pa
  have hh := host_no h.ho
  have hp := port_no h.p0
  have c1 : Lib.cut u.text [58, 47, 47] = (u.sc, u.ho ++ (portL u.po ++ (u.pa ++ if u.hq then 63 :: u.qu else [])), true) := by
    rw [text_split]
    exact cutF u.sc [47, 47] _ 58 fun x hx => (sch_no h x hx).1
  have n63 : ∀ x ∈ u.ho ++ (portL u.po ++ u.pa), x ≠ 63 := fun x hx => by
    rcases List.mem_append.1 hx with h1 | h1
    · exact (hh x h1).1
    · rcases List.mem_append.1 h1 with h1 | h1
      · exact (hp x h1).1
      · exact path_no63 h.mp x h1
  have c2 : Lib.cut (u.ho ++ (portL u.po ++ (u.pa ++ if u.hq then 63 :: u.qu else []))) [63] = (u.ho ++ (portL u.po ++ u.pa), u.qu, u.hq) := by
    cases hq : u.hq
    · have := cutN1 _ 63 n63
      simpa [h.qh hq] using this
    · have := cutF _ [] u.qu 63 n63
      simpa using this
  have n47 : ∀ x ∈ u.ho ++ portL u.po, x ≠ 47 := fun x hx => by
    rcases List.mem_append.1 hx with h1 | h1
    · exact (hh x h1).2.1
    · exact (hp x h1).2
  have c3 : Lib.cut (u.ho ++ (portL u.po ++ u.pa)) [47] = (u.ho ++ portL u.po, r, true) := by
    have := cutF _ [] r 47 n47
    rw [hr]
    simpa using this
  have c4 : ∃ x y, Lib.cut (u.ho ++ portL u.po) [58] = (u.ho, x, y) ∧ atoiV x = u.po := by
    by_cases hz : u.po = 0
    · refine ⟨[], false, ?_, by rw [hz]; rfl⟩
      have : portL u.po = [] := by unfold portL; rw [if_pos hz]
      rw [this, List.append_nil]
      exact cutN1 _ 58 fun x hx => (hh x hx).2.2
    · have h0 : 0 < u.po := by have := h.p0; omega
      have hn := numU_itoa h0 h.p1
      have hs := numU_some (l := Lib.itoa u.po) (by rw [hn]; omega)
      refine ⟨Lib.itoa u.po, true, ?_, by rw [hs.1, hn]⟩
      have : portL u.po = 58 :: Lib.itoa u.po := by unfold portL; rw [if_neg hz]
      rw [this]
      have := cutF u.ho [] (Lib.itoa u.po) 58 fun x hx => (hh x hx).2.2
      simpa using this
  obtain ⟨x, y, c4, c5⟩ := c4
  unfold apartL
  simp only [c1, c2, c3, c4, c5, if_true, ← hr]
theorem uparse_put {u : Ur} (h : u.check = 0) : parseU u.put = (u, 0) ∧ u.put = u.text := by
  obtain ⟨hf, hl⟩ := uchk_zero h
  have hp : u.put = u.text := by unfold Ur.put; rw [if_pos h]
  rw [hp]
  have ha := apart_text (formed_iff.1 hf)
  obtain ⟨r, hr⟩ := (formed_iff.1 hf).pa
  have hroot : u.root = u := by
    unfold Ur.root
    rw [if_neg (by rw [hr]; simp)]
  unfold parseU
  rw [if_neg (by omega), ha, if_pos rfl, hroot, if_pos h]
  exact ⟨rfl, rfl⟩
theorem uparse_no {s : List UInt8} (h : (parseU s).2 ≠ 0) : (parseU s).1 = ur0 := by
  unfold parseU at h ⊢
  split
  · rfl
  · split
    · split
      · rename_i h1 h2 h3
        rw [if_neg h1, if_pos h2, if_pos h3] at h
        exact absurd rfl h
      · rfl
    · rfl
/-- the place of the first '?', or the end -/
def atQ (s : List UInt8) : Nat := if Lib.indexByte s 63 < 0 then s.length else (Lib.indexByte s 63).toNat
theorem index_hitU (c : UInt8) : ∀ (X q : List UInt8), (∀ x ∈ X, x ≠ c) → Lib.indexByte (X ++ c :: q) c = X.length
  | [], q, _ => by simp [Lib.indexByte]
  | b :: X, q, h => by
    have hb : (b == c) = false := beq_eq_false_iff_ne.2 (h b (by simp))
    have ih := index_hitU c X q fun x hx => h x (by simp [hx])
    rw [List.cons_append, Lib.indexByte, hb, ih]
    have : ((X.length : Int) == -1) = false := by rw [beq_eq_false_iff_ne]; omega
    simp [this]
theorem index_missU (c : UInt8) : ∀ (X : List UInt8), (∀ x ∈ X, x ≠ c) → Lib.indexByte X c = -1
  | [], _ => rfl
  | b :: X, h => by
    have hb : (b == c) = false := beq_eq_false_iff_ne.2 (h b (by simp))
    have ih := index_missU c X fun x hx => h x (by simp [hx])
    rw [Lib.indexByte, hb, ih]; rfl
theorem uparse_back {s : List UInt8} (h : (parseU s).2 = 0) : (parseU s).1.check = 0 ∧ ((parseU s).1.put = s ∨ ((parseU s).1.put ≠ s ∧ (parseU s).1.pa = [47] ∧ (parseU s).1.put = s.take (atQ s) ++ 47 :: s.drop (atQ s))) := by
  unfold parseU at h ⊢
  split at h
  · exact absurd h (by decide)
  rename_i h1
  rw [if_neg h1]
  split at h
  · rename_i h2
    rw [if_pos h2]
    split at h
    · rename_i h3
      rw [if_pos h3]
      simp only
      refine ⟨h3, ?_⟩
      have hput : (apartL s).root.put = (apartL s).root.text := by unfold Ur.put; rw [if_pos h3]
      rw [hput]
      by_cases hpa : (apartL s).pa = []
      · right
        have hf := formed_iff.1 (uchk_zero h3).1
        generalize apartL s = a at *
        obtain ⟨sc, ho, po, pa, qu, hq⟩ := a
        simp only at hpa
        subst hpa
        have hr : Ur.root ⟨sc, ho, po, [], qu, hq⟩ = ⟨sc, ho, po, [47], qu, hq⟩ := rfl
        rw [hr] at hf ⊢
        have hX : ∀ x ∈ sc ++ (58 :: [47, 47] ++ (ho ++ portL po)), x ≠ 63 := fun x hx => by
          rcases List.mem_append.1 hx with h1 | h1
          · exact (sch_no hf x h1).2
          · rcases List.mem_append.1 h1 with h1 | h1
            · have h3 : ∀ y ∈ ([58, 47, 47] : List UInt8), y ≠ 63 := by decide
              exact h3 x h1
            · rcases List.mem_append.1 h1 with h1 | h1
              · exact (host_no hf.ho x h1).1
              · exact (port_no hf.p0 x h1).1
        have hs : s = (sc ++ (58 :: [47, 47] ++ (ho ++ portL po))) ++ (if hq then 63 :: qu else []) := by
          rw [← h2, text_split]; simp
        have ht : Ur.text ⟨sc, ho, po, [47], qu, hq⟩ = (sc ++ (58 :: [47, 47] ++ (ho ++ portL po))) ++ 47 :: (if hq then 63 :: qu else []) := by
          rw [text_split]; simp
        generalize sc ++ (58 :: [47, 47] ++ (ho ++ portL po)) = X at *
        have hat : atQ s = X.length := by
          unfold atQ
          cases hq
          · have := index_missU 63 X hX
            simp only [Bool.false_eq_true, if_false, List.append_nil] at hs
            rw [hs, this, if_pos (by decide)]
          · have := index_hitU 63 X qu hX
            simp only [if_true] at hs
            rw [hs, this, if_neg (by omega), Int.toNat_natCast]
        refine ⟨?_, rfl, ?_⟩
        · rw [ht, hs]
          intro e
          have := congrArg List.length e
          simp at this
        · rw [ht, hat, hs, List.take_left, List.drop_left]
      · left
        have hr : (apartL s).root = apartL s := by
          unfold Ur.root
          rw [if_neg hpa]
        rw [hr, h2]
    · exact absurd h ‹_›
  · exact absurd h (by decide)
end Go.Proofs.YtnpiaifkeddjeaaGreatDoor

/- A URI's normal form is its own, and not longer; what differs in forms alone has the same one. Plainly: nothing of the program is read here. -/
namespace Go.Proofs.YtnpiaifkeddjeaaGreatDoor
/-- a piece of text that is one byte, by itself or as an escape -/
def Pc (p : List UInt8) (t : UInt8 × Bool) : Prop := (∃ c, c ≠ 37 ∧ p = [c] ∧ t = (c, false)) ∨ (∃ a b, hxB a = true ∧ hxB b = true ∧ p = [37, a, b] ∧ t = (hx2 a b, true))
/-- a text that is made of pieces -/
def Gd (A : List UInt8) (T : List (UInt8 × Bool)) : Prop := ∃ L : List (List UInt8 × (UInt8 × Bool)), A = L.flatMap (·.1) ∧ T = L.map (·.2) ∧ ∀ x ∈ L, Pc x.1 x.2
theorem toks_pc {p r : List UInt8} {t : UInt8 × Bool} (h : Pc p t) : toks (p ++ r) = t :: toks r := by
  rcases h with ⟨c, h1, rfl, rfl⟩ | ⟨a, b, ha, hb, rfl, rfl⟩
  · match r with
    | [] => rfl
    | [d] => rfl
    | a :: b :: r =>
      have hc : (c == 37) = false := beq_eq_false_iff_ne.2 h1
      show toks (c :: a :: b :: r) = _
      rw [toks, if_neg (by rw [hc]; simp)]
  · show toks (37 :: a :: b :: r) = _
    rw [toks, if_pos (by rw [ha, hb]; rfl)]
theorem Gd.nil : Gd [] [] := ⟨[], rfl, rfl, fun x hx => by cases hx⟩
theorem Gd.snoc {A p : List UInt8} {T : List (UInt8 × Bool)} {t : UInt8 × Bool} (h : Gd A T) (hp : Pc p t) : Gd (A ++ p) (T ++ [t]) := by
  obtain ⟨L, rfl, rfl, h3⟩ := h
  refine ⟨L ++ [(p, t)], by simp, by simp, fun x hx => ?_⟩
  rcases List.mem_append.1 hx with h | h
  · exact h3 x h
  · rw [List.mem_singleton.1 h]; exact hp
theorem Gd.cons {A p : List UInt8} {T : List (UInt8 × Bool)} {t : UInt8 × Bool} (h : Gd A T) (hp : Pc p t) : Gd (p ++ A) (t :: T) := by
  obtain ⟨L, rfl, rfl, h3⟩ := h
  refine ⟨(p, t) :: L, by simp, by simp, fun x hx => ?_⟩
  rcases List.mem_cons.1 hx with rfl | h
  · exact hp
  · exact h3 x h
theorem Gd.toks {A : List UInt8} {T : List (UInt8 × Bool)} (h : Gd A T) : toks A = T := by
  obtain ⟨L, rfl, rfl, h3⟩ := h
  induction L with
  | nil => rfl
  | cons x L ih =>
    rw [List.flatMap_cons, toks_pc (h3 x (by simp)), ih fun y hy => h3 y (by simp [hy])]
    rfl
/-- a text in which no byte 37 stands by itself is made of pieces -/
theorem gd_of : ∀ (n : Nat) (l : List UInt8), l.length ≤ n → (∀ t ∈ toks l, t.2 = false → t.1 ≠ 37) → Gd l (toks l) := by
  intro n
  induction n with
  | zero => intro l hl _; rw [List.eq_nil_of_length_eq_zero (Nat.le_zero.1 hl)]; exact Gd.nil
  | succ n ih =>
    intro l hl h
    match l, hl, h with
    | [], _, _ => exact Gd.nil
    | [a], _, h => exact Gd.nil.cons (.inl ⟨a, h (a, false) (by simp [toks]) rfl, rfl, rfl⟩)
    | [a, b], _, h => exact (Gd.nil.cons (.inl ⟨b, h (b, false) (by simp [toks]) rfl, rfl, rfl⟩)).cons (.inl ⟨a, h (a, false) (by simp [toks]) rfl, rfl, rfl⟩)
    | d :: a :: b :: r, hl, h =>
      by_cases he : (d == 37 && (hxB a && hxB b)) = true
      · have e : toks (d :: a :: b :: r) = (hx2 a b, true) :: toks r := by rw [toks, if_pos he]
        rw [e] at h ⊢
        simp only [Bool.and_eq_true, beq_iff_eq] at he
        obtain ⟨rfl, ha, hb⟩ := he
        exact (ih r (by simp only [List.length_cons] at hl; omega) fun t ht => h t (by simp [ht])).cons (p := [37, a, b]) (.inr ⟨a, b, ha, hb, rfl, rfl⟩)
      · have e : toks (d :: a :: b :: r) = (d, false) :: toks (a :: b :: r) := by rw [toks, if_neg he]
        rw [e] at h ⊢
        exact (ih (a :: b :: r) (by simp only [List.length_cons] at hl ⊢; omega) fun t ht => h t (by simp [ht])).cons (p := [d]) (.inl ⟨d, h (d, false) (by simp) rfl, rfl, rfl⟩)
theorem gd_made {m l : List UInt8} (hm : inI 37 m = false) (h : made m l = true) : Gd l (toks l) := by
  refine gd_of _ l (Nat.le_refl _) fun t ht h2 e => ?_
  have h3 := List.all_eq_true.1 h t ht
  unfold madeP at h3
  rw [h2, e] at h3
  have h4 : plB 37 = false := by decide
  rw [h4] at h3
  simp only [Bool.false_or] at h3
  have h5 : inI 37 m = true := h3
  rw [hm] at h5; cases h5
/-- a byte as it is written in the normal form -/
def nt (t : UInt8 × Bool) : UInt8 × Bool := (t.1, t.2 && !plB t.1)
theorem nt_nt (t : UInt8 × Bool) : nt (nt t) = nt t := by
  obtain ⟨c, b⟩ := t
  unfold nt
  cases b <;> cases plB c <;> rfl
theorem rend_nt (t : UInt8 × Bool) : rend (nt t) = rend t := by
  obtain ⟨c, b⟩ := t
  unfold nt rend
  cases b <;> cases plB c <;> rfl
theorem hex_back : ∀ n : Nat, n < 256 → (hxB (hxU (n / 16)) = true ∧ hxB (hxU (n % 16)) = true ∧ hx2 (hxU (n / 16)) (hxU (n % 16)) = UInt8.ofNat n) := by decide +kernel
theorem pc_rend {t : UInt8 × Bool} (h : t.2 = false → t.1 ≠ 37) : Pc (rend t) (nt t) := by
  obtain ⟨c, b⟩ := t
  unfold rend nt
  simp only at h ⊢
  cases b
  · exact .inl ⟨c, h rfl, rfl, rfl⟩
  · cases hp : plB c
    · have hb := hex_back c.toNat c.toNat_lt
      refine .inr ⟨_, _, hb.1, hb.2.1, rfl, ?_⟩
      rw [hb.2.2]
      simp
    · refine .inl ⟨c, ?_, rfl, rfl⟩
      rintro rfl
      exact absurd hp (by decide)
theorem gd_undo {A : List UInt8} {T : List (UInt8 × Bool)} (h : Gd A T) : Gd (T.flatMap rend) (T.map nt) := by
  obtain ⟨L, rfl, rfl, h3⟩ := h
  refine ⟨L.map fun x => (rend x.2, nt x.2), by simp [List.flatMap_map], by simp, fun x hx => ?_⟩
  obtain ⟨y, hy, rfl⟩ := List.mem_map.1 hx
  refine pc_rend fun h2 => ?_
  rcases h3 y hy with ⟨c, h4, _, h5⟩ | ⟨a, b, _, _, _, h5⟩
  · rw [h5]; exact h4
  · rw [h5] at h2; cases h2
theorem toks_undo {l : List UInt8} (h : Gd l (toks l)) : toks (undo l) = (toks l).map nt := (gd_undo h).toks
theorem undo_undo {l : List UInt8} (h : Gd l (toks l)) : undo (undo l) = undo l := by
  show (toks (undo l)).flatMap rend = (toks l).flatMap rend
  rw [toks_undo h, List.flatMap_map]
  congr 1
  funext t
  exact rend_nt t
theorem made_undo {m l : List UInt8} (hm : inI 37 m = false) (h : made m l = true) : made m (undo l) = true := by
  unfold made
  rw [toks_undo (gd_made hm h), List.all_map, List.all_eq_true]
  intro t ht
  have h2 := List.all_eq_true.1 h t ht
  obtain ⟨c, b⟩ := t
  simp only [Function.comp, nt, madeP] at h2 ⊢
  revert h2
  cases b <;> cases plB c <;> simp
theorem rend_len2 {p : List UInt8} {t : UInt8 × Bool} (h : Pc p t) : (rend t).length ≤ p.length := by
  rcases h with ⟨c, _, rfl, rfl⟩ | ⟨a, b, _, _, rfl, rfl⟩
  · exact Nat.le_refl _
  · unfold rend; split <;> simp
theorem undo_le {l : List UInt8} (h : Gd l (toks l)) : (undo l).length ≤ l.length := by
  obtain ⟨L, h1, h2, h3⟩ := h
  show ((toks l).flatMap rend).length ≤ _
  rw [h2, h1]
  clear h1 h2
  induction L with
  | nil => exact Nat.le_refl _
  | cons x L ih =>
    rw [List.map_cons, List.flatMap_cons, List.flatMap_cons, List.length_append, List.length_append]
    have h4 := rend_len2 (h3 x (by simp))
    have h5 := ih fun y hy => h3 y (by simp [hy])
    omega

/-! ### segments -/
theorem toks_slash : ∀ (n : Nat) (a b : List UInt8), a.length ≤ n → toks (a ++ 47 :: b) = toks a ++ (47, false) :: toks b := by
  have hx : hxB 47 = false := by decide
  have h0 : ∀ b : List UInt8, toks (47 :: b) = (47, false) :: toks b := fun b => toks_pc (p := [47]) (.inl ⟨47, by decide, rfl, rfl⟩)
  have h1 : ∀ (c : UInt8) (b : List UInt8), toks (c :: 47 :: b) = (c, false) :: (47, false) :: toks b := fun c b => by
    match b with
    | [] => rfl
    | d :: b => rw [toks, if_neg (by rw [hx]; simp), h0]
  intro n
  induction n with
  | zero => intro a b ha; rw [List.eq_nil_of_length_eq_zero (Nat.le_zero.1 ha)]; exact h0 b
  | succ n ih =>
    intro a b ha
    match a, ha with
    | [], _ => exact h0 b
    | [c], _ => exact h1 c b
    | [c, d], _ =>
      show toks (c :: d :: 47 :: b) = _
      rw [toks, if_neg (by rw [hx]; simp), h1]
      rfl
    | c :: d :: e :: r, ha =>
      show toks (c :: d :: e :: (r ++ 47 :: b)) = _
      by_cases he : (c == 37 && (hxB d && hxB e)) = true
      · rw [toks, if_pos he, ih r b (by simp only [List.length_cons] at ha; omega)]
        rw [show toks (c :: d :: e :: r) = (hx2 d e, true) :: toks r from by rw [toks, if_pos he]]
        rfl
      · rw [toks, if_neg he]
        have h2 := ih (d :: e :: r) b (by simp only [List.length_cons] at ha ⊢; omega)
        rw [show d :: e :: (r ++ 47 :: b) = (d :: e :: r) ++ 47 :: b from rfl, h2]
        rw [show toks (c :: d :: e :: r) = (c, false) :: toks (d :: e :: r) from by rw [toks, if_neg he]]
        rfl
theorem toks_out : ∀ K : List (List UInt8), toks (outD K) = K.flatMap fun x => (47, false) :: toks x
  | [] => rfl
  | [x] => by
    rw [outD_one]
    have := toks_slash 0 [] x (Nat.le_refl _)
    simpa [toks] using this
  | x :: y :: K => by
    have ih := toks_out (y :: K)
    have h1 := toks_slash 0 [] (x ++ outD (y :: K)) (Nat.le_refl _)
    have h2 := toks_slash _ x (y ++ outD K) (Nat.le_refl _)
    have h3 : outD (y :: K) = 47 :: (y ++ outD K) := rfl
    have h4 := toks_slash 0 [] (y ++ outD K) (Nat.le_refl _)
    rw [h3] at ih
    simp only [List.nil_append] at h1 h4
    rw [outD_cons]
    show toks (47 :: (x ++ outD (y :: K))) = _
    have ih2 : (47, false) :: toks (y ++ outD K) = (y :: K).flatMap fun x => (47, false) :: toks x := by rw [← ih, h4]; rfl
    rw [h1, h3, h2, ih2]
    rfl
theorem undo_out (K : List (List UInt8)) : undo (outD K) = outD (K.map undo) := by
  show (toks (outD K)).flatMap rend = _
  rw [toks_out]
  induction K with
  | nil => rfl
  | cons x K ih =>
    rw [List.flatMap_cons, List.flatMap_append, ih, List.map_cons, outD_cons, List.flatMap_cons]
    rfl
theorem made_out {m : List UInt8} (hm : inI 47 m = true) (K : List (List UInt8)) : made m (outD K) = K.all fun x => made m x := by
  unfold made
  rw [toks_out]
  induction K with
  | nil => rfl
  | cons x K ih =>
    have h : madeP m (47, false) = true := by
      unfold madeP
      have : inI ((47 : UInt8).toNat : Int) m = true := hm
      simp only [this, Bool.or_true]
    rw [List.flatMap_cons, List.all_append, ih, List.all_cons, List.all_cons, h, Bool.true_and]
theorem undo_clean {x : List UInt8} (h : ∀ c ∈ x, c ≠ 47) (hg : Gd x (toks x)) : ∀ c ∈ undo x, c ≠ 47 := by
  obtain ⟨L, h1, h2, h3⟩ := hg
  intro c hc
  have hc2 : c ∈ (toks x).flatMap rend := hc
  rw [h2] at hc2
  obtain ⟨t, ht, hr⟩ := List.mem_flatMap.1 hc2
  obtain ⟨y, hy, rfl⟩ := List.mem_map.1 ht
  rcases h3 y hy with ⟨d, _, h5, h6⟩ | ⟨a, b, _, _, _, h6⟩
  · rw [h6] at hr
    have : c = d := by simpa [rend] using hr
    rw [this]
    refine h d ?_
    rw [h1]
    exact List.mem_flatMap.2 ⟨y, hy, by rw [h5]; simp⟩
  · rw [h6] at hr
    unfold rend at hr
    have key : ∀ n : Nat, n < 256 → (∀ e ∈ (if true && !plB (UInt8.ofNat n) then [37, hxU ((UInt8.ofNat n).toNat / 16), hxU ((UInt8.ofNat n).toNat % 16)] else [UInt8.ofNat n]), e ≠ (47 : UInt8)) := by decide +kernel
    have := key (hx2 a b).toNat (hx2 a b).toNat_lt
    rw [show UInt8.ofNat (hx2 a b).toNat = hx2 a b by simp] at this
    exact this c hr
theorem keepS_dots {K : List (List UInt8)} (h : ∀ x ∈ K, dotS x = false) (s : List UInt8) : ∀ x ∈ keepS K s, dotS x = false := by
  unfold keepS
  split
  · exact h
  · split
    · exact fun x hx => h x ((List.dropLast_sublist K).subset hx)
    · rename_i h1 h2
      intro x hx
      rcases List.mem_append.1 hx with h3 | h3
      · exact h x h3
      · rw [List.mem_singleton.1 h3]; simp [dotS, h1, h2]
theorem endD_dots : ∀ (S K : List (List UInt8)), (∀ x ∈ K, dotS x = false) → ∀ x ∈ endD K S, dotS x = false
  | [], K, h => h
  | [s], K, h => by
    unfold endD
    split
    · intro x hx
      rcases List.mem_append.1 hx with h3 | h3
      · exact keepS_dots h s x h3
      · rw [List.mem_singleton.1 h3]; rfl
    · rename_i hs
      intro x hx
      rcases List.mem_append.1 hx with h3 | h3
      · exact h x h3
      · rw [List.mem_singleton.1 h3]; simpa using hs
  | s :: x :: t, K, h => by rw [endD_two]; exact endD_dots (x :: t) (keepS K s) (keepS_dots h s)
theorem endD_same : ∀ (S K : List (List UInt8)), (∀ x ∈ S, dotS x = false) → endD K S = K ++ S
  | [], K, _ => by simp [endD]
  | s :: t, K, h => by
    rw [endD_keep (h s (by simp)), endD_same t _ fun x hx => h x (by simp [hx])]
    simp
theorem keepS_mem {K : List (List UInt8)} {s x : List UInt8} (h : x ∈ keepS K s) : x ∈ K ∨ x = s := by
  unfold keepS at h
  split at h
  · exact .inl h
  · split at h
    · exact .inl ((List.dropLast_sublist K).subset h)
    · rcases List.mem_append.1 h with h3 | h3
      · exact .inl h3
      · exact .inr (List.mem_singleton.1 h3)
theorem endD_mem : ∀ (S K : List (List UInt8)) (x : List UInt8), x ∈ endD K S → x ∈ K ∨ x ∈ S ∨ x = []
  | [], K, x, h => .inl h
  | [s], K, x, h => by
    unfold endD at h
    split at h
    · rcases List.mem_append.1 h with h3 | h3
      · rcases keepS_mem h3 with h4 | h4
        · exact .inl h4
        · exact .inr (.inl (by rw [h4]; simp))
      · exact .inr (.inr (List.mem_singleton.1 h3))
    · rcases List.mem_append.1 h with h3 | h3
      · exact .inl h3
      · exact .inr (.inl h3)
  | s :: y :: t, K, x, h => by
    rw [endD_two] at h
    rcases endD_mem (y :: t) _ x h with h3 | h3 | h3
    · rcases keepS_mem h3 with h4 | h4
      · exact .inl h4
      · exact .inr (.inl (by rw [h4]; simp))
    · exact .inr (.inl (by simp only [List.mem_cons] at h3 ⊢; exact .inr h3))
    · exact .inr (.inr h3)
theorem jl_keep (K : List (List UInt8)) (s : List UInt8) : jl (keepS K s) ≤ jl K + (s.length + 1) := by
  have e : jl [s] = s.length + 1 := rfl
  unfold keepS
  split
  · omega
  · split
    · have := jl_sub (List.dropLast_sublist K); omega
    · rw [jl_append]; omega
theorem jl_end : ∀ (S K : List (List UInt8)), jl (endD K S) ≤ jl K + jl S
  | [], K => by simp [endD, jl]
  | [s], K => by
    have e : jl [s] = s.length + 1 := rfl
    unfold endD
    split
    · rename_i h
      rw [jl_append]
      have e2 : jl [([] : List UInt8)] = 1 := rfl
      have hs : 1 ≤ s.length := by
        unfold dotS at h
        simp only [Bool.or_eq_true, decide_eq_true_eq] at h
        rcases h with h | h <;> rw [h] <;> decide
      have hk : jl (keepS K s) ≤ jl K := by
        unfold dotS at h
        simp only [Bool.or_eq_true, decide_eq_true_eq] at h
        unfold keepS
        split
        · omega
        · split
          · exact jl_sub (List.dropLast_sublist K)
          · rename_i h1 h2; rcases h with h | h
            · exact absurd h h1
            · exact absurd h h2
      omega
    · rw [jl_append]; omega
  | s :: x :: t, K => by
    rw [endD_two, jl_cons]
    have := jl_end (x :: t) (keepS K s)
    have := jl_keep K s
    omega
theorem endD_ne : ∀ (S K : List (List UInt8)), S ≠ [] → endD K S ≠ []
  | [s], K, _ => by unfold endD; split <;> simp
  | s :: x :: t, K, _ => by rw [endD_two]; exact endD_ne (x :: t) _ (by simp)
/-- a path in its normal form: a slash, segments that are no dots, each as it is written -/
structure PathN (p : List UInt8) : Prop where
  made : made pathM p = true
  undo : undo p = p
  dots : dotsL p = p
  hd : ∃ r, p = 47 :: r
theorem path_normal {p : List UInt8} (hp : made pathM p = true) (hd : ∃ r, p = 47 :: r) : PathN (dotsL (undo p)) ∧ (dotsL (undo p)).length ≤ p.length := by
  obtain ⟨r, rfl⟩ := hd
  have h37 : inI 37 pathM = false := by decide
  have h47 : inI 47 pathM = true := by decide
  have hg := gd_made h37 hp
  have hr : (47 : UInt8) :: r = outD (segs r) := by rw [outD_join (segs_ne r), segs_join]
  have hlen := undo_le hg
  rw [hr] at hp hg
  have hall : ∀ x ∈ segs r, made pathM x = true := by rw [made_out h47, List.all_eq_true] at hp; exact hp
  have hcl := segs_clean r
  have hne := segs_ne r
  have hu : undo (47 :: r) = outD ((segs r).map undo) := by rw [hr, undo_out]
  have hcl2 : ∀ x ∈ (segs r).map undo, ∀ c ∈ x, c ≠ 47 := fun x hx => by
    obtain ⟨y, hy, rfl⟩ := List.mem_map.1 hx
    exact undo_clean (hcl y hy) (gd_made h37 (hall y hy))
  have hmd2 : ∀ x ∈ (segs r).map undo, made pathM x = true ∧ undo x = x := fun x hx => by
    obtain ⟨y, hy, rfl⟩ := List.mem_map.1 hx
    exact ⟨made_undo h37 (hall y hy), undo_undo (gd_made h37 (hall y hy))⟩
  have hne2 : (segs r).map undo ≠ [] := by simpa using hne
  rw [hu] at hlen ⊢
  generalize (segs r).map undo = S at *
  clear hr hp hg hall hcl hne hu
  have hE : dotsL (outD S) = outD (endD [] S) := by rw [outD_join hne2, dots_out, segs_of_join hne2 hcl2]
  have hlE : (outD (endD [] S)).length ≤ (outD S).length := by
    rw [outD_len, outD_len]
    have := jl_end S []
    have e : jl [] = 0 := rfl
    omega
  rw [hE]
  have hne3 := endD_ne S [] hne2
  have hdt := endD_dots S [] (fun x hx => by cases hx)
  have hmem : ∀ x ∈ endD [] S, x ∈ S ∨ x = [] := fun x hx => by
    rcases endD_mem S [] x hx with h | h | h
    · cases h
    · exact .inl h
    · exact .inr h
  generalize endD [] S = E at *
  have hmE : ∀ x ∈ E, made pathM x = true ∧ undo x = x ∧ ∀ c ∈ x, c ≠ 47 := fun x hx => by
    rcases hmem x hx with h | h
    · exact ⟨(hmd2 x h).1, (hmd2 x h).2, hcl2 x h⟩
    · subst h; exact ⟨rfl, rfl, fun c hc => by cases hc⟩
  refine ⟨⟨?_, ?_, ?_, ?_⟩, by omega⟩
  · rw [made_out h47, List.all_eq_true]; exact fun x hx => (hmE x hx).1
  · rw [undo_out]
    congr 1
    rw [List.map_congr_left fun x hx => (hmE x hx).2.1, List.map_id']
  · rw [outD_join hne3, dots_out, segs_of_join hne3 fun x hx => (hmE x hx).2.2, endD_same E [] hdt, List.nil_append, outD_join hne3]
  · exact ⟨_, outD_join hne3⟩
end Go.Proofs.YtnpiaifkeddjeaaGreatDoor

/- The normal form of a URI that may be is one, is its own, and not longer; one that differs in forms alone has it, too. Plainly: nothing of the program is read here. -/
namespace Go.Proofs.YtnpiaifkeddjeaaGreatDoor
theorem host_toksU : ∀ (n : Nat) (l : List UInt8), l.length ≤ n → (toks l).all hostP = l.all hoB := by
  intro n
  induction n with
  | zero => intro l h; rw [List.eq_nil_of_length_eq_zero (Nat.le_zero.1 h)]; rfl
  | succ n ih =>
    intro l h
    match l, h with
    | [], _ => rfl
    | [a], _ => simp [toks, hostP]
    | [a, b], _ => simp [toks, hostP]
    | d :: a :: b :: r, h =>
      by_cases he : (d == 37 && (hxB a && hxB b)) = true
      · rw [toks, if_pos he]
        simp only [Bool.and_eq_true, beq_iff_eq] at he
        rw [he.1]
        have : hoB 37 = false := by decide
        simp [hostP, this]
      · rw [toks, if_neg he, List.all_cons, ih (a :: b :: r) (by simp only [List.length_cons] at h ⊢; omega), List.all_cons]
        simp [hostP]
theorem host_iffU (l : List UInt8) : hostOk l = true ↔ l ≠ [] ∧ l.length ≤ 253 ∧ ∀ c ∈ l, hoB c = true := by
  unfold hostOk
  rw [host_toksU _ _ (Nat.le_refl _)]
  simp only [Bool.and_eq_true, Bool.not_eq_true', List.isEmpty_eq_false_iff, decide_eq_true_eq, List.all_eq_true]
  exact ⟨fun h => ⟨h.1.1, h.1.2, h.2⟩, fun h => ⟨⟨h.1, h.2.1⟩, h.2.2⟩⟩
theorem case_host : ∀ n : Nat, n < 256 → hoB (UInt8.ofNat n) = true → hoB (lowB (UInt8.ofNat n)) = true ∧ hoB (Lib.upperB (UInt8.ofNat n)) = true := by decide +kernel
theorem case_back : ∀ n : Nat, n < 256 → lowB (Lib.upperB (lowB (UInt8.ofNat n))) = lowB (UInt8.ofNat n) ∧ lowB (lowB (UInt8.ofNat n)) = lowB (UInt8.ofNat n) := by decide +kernel
theorem byteU (c : UInt8) : UInt8.ofNat c.toNat = c := by simp
theorem host_lower {l : List UInt8} (h : hostOk l = true) : hostOk (lower l) = true ∧ hostOk (Lib.toUpperA l) = true := by
  obtain ⟨h1, h2, h3⟩ := (host_iffU l).1 h
  constructor
  · refine (host_iffU _).2 ⟨by simpa [lower] using h1, by simpa [lower] using h2, fun c hc => ?_⟩
    obtain ⟨d, hd, rfl⟩ := List.mem_map.1 hc
    have := case_host d.toNat d.toNat_lt
    rw [byteU] at this
    exact (this (h3 d hd)).1
  · refine (host_iffU _).2 ⟨by simpa [Lib.toUpperA] using h1, by simpa [Lib.toUpperA] using h2, fun c hc => ?_⟩
    obtain ⟨d, hd, rfl⟩ := List.mem_map.1 hc
    have := case_host d.toNat d.toNat_lt
    rw [byteU] at this
    exact (this (h3 d hd)).2
theorem lower_lower (l : List UInt8) : lower (lower l) = lower l := by
  unfold lower
  rw [List.map_map]
  exact List.map_congr_left fun c _ => by have := (case_back c.toNat c.toNat_lt).2; rwa [byteU] at this
theorem lower_upper (l : List UInt8) : lower (Lib.toUpperA (lower l)) = lower l := by
  unfold lower Lib.toUpperA
  rw [List.map_map, List.map_map]
  exact List.map_congr_left fun c _ => by have := (case_back c.toNat c.toNat_lt).1; rwa [byteU] at this
/-- the parts of a URI in its normal form -/
structure NormU (n : Ur) : Prop where
  sc : n.sc = schH ∨ n.sc = schS
  ho : hostOk n.ho = true
  low : ∃ h, n.ho = lower h
  p0 : 0 ≤ n.po
  p1 : n.po ≤ 65535
  po : (if n.po = usual n.sc then 0 else n.po) = n.po
  pa : PathN n.pa
  mq : made queryM n.qu = true
  uq : undo n.qu = n.qu
  qh : n.hq = false → n.qu = []
theorem queryM37 : inI 37 queryM = false := by decide
theorem norm_parts {u : Ur} (h : Fm u) : NormU u.norm ∧ u.norm.text.length ≤ u.text.length := by
  obtain ⟨h1, h2, h3, h4, h5, h6, h7, h8⟩ := h
  have hp := path_normal h6 h5
  have hg := gd_made queryM37 h7
  have hno : u.norm = ⟨u.sc, lower u.ho, if u.po = usual u.sc then 0 else u.po, dotsL (undo u.pa), undo u.qu, u.hq⟩ := rfl
  rw [hno]
  refine ⟨⟨h1, (host_lower h2).1, ⟨_, rfl⟩, ?_, ?_, ?_, hp.1, made_undo queryM37 h7, undo_undo hg, ?_⟩, ?_⟩
  · simp only; split <;> omega
  · simp only; split <;> omega
  · simp only
    by_cases hu : u.po = usual u.sc
    · rw [if_pos hu]; split <;> rfl
    · rw [if_neg hu, if_neg hu]
  · intro hq
    simp only at hq
    show undo u.qu = []
    rw [h8 hq]; rfl
  · rw [text_split, text_split]
    simp only
    have hq := undo_le hg
    have hpo : (portL (if u.po = usual u.sc then 0 else u.po)).length ≤ (portL u.po).length := by
      split
      · exact Nat.zero_le _
      · exact Nat.le_refl _
    have hp2 := hp.2
    have hl := lower_len u.ho
    simp only [List.length_append, List.length_cons] at *
    cases u.hq
    · simp only [Bool.false_eq_true, if_false, List.length_nil]; omega
    · simp only [if_true, List.length_cons]; omega
theorem formed_of {n : Ur} (h : NormU n) : Fm n := ⟨h.sc, h.ho, h.p0, h.p1, h.pa.hd, h.pa.made, h.mq, h.qh⟩
theorem norm_same {n : Ur} (h : NormU n) : n.norm = n := by
  have hno : n.norm = ⟨n.sc, lower n.ho, if n.po = usual n.sc then 0 else n.po, dotsL (undo n.pa), undo n.qu, n.hq⟩ := rfl
  obtain ⟨x, hx⟩ := h.low
  rw [hno, h.po, h.pa.undo, h.pa.dots, h.uq, hx, lower_lower, ← hx]
theorem check_fm {u : Ur} (h : Fm u) : u.check = 0 ∨ u.check = 3 := by
  unfold Ur.check
  rw [formed_iff.2 h, if_pos rfl]
  split
  · exact .inr rfl
  · exact .inl rfl
theorem check_len {u : Ur} (h : Fm u) (hl : u.text.length ≤ 1024) : u.check = 0 := by
  unfold Ur.check
  rw [formed_iff.2 h, if_pos rfl, if_neg (by omega)]
/-- of a URI that may be: its normal form may be, is its own, and not longer -/
theorem normal_ok {u : Ur} (h : u.check = 0) : NormU u.normal ∧ u.normal.check = 0 ∧ u.normal.normal = u.normal ∧ u.normal.put.length ≤ u.put.length := by
  obtain ⟨hf, hl⟩ := uchk_zero h
  obtain ⟨h1, h2⟩ := norm_parts (formed_iff.1 hf)
  have hn : u.normal = u.norm := by unfold Ur.normal; rw [if_pos h]
  rw [hn]
  have hc : u.norm.check = 0 := check_len (formed_of h1) (by omega)
  refine ⟨h1, hc, ?_, ?_⟩
  · unfold Ur.normal; rw [if_pos hc]; exact norm_same h1
  · unfold Ur.put; rw [if_pos hc, if_pos h]; exact h2
/-- a text that differs from another one in forms alone -/
def TW (l tp : List UInt8) : Prop := ∃ T, Gd tp T ∧ T.map nt = toks l
theorem TW.undo {l tp : List UInt8} (h : TW l tp) : undo tp = undo l := by
  obtain ⟨T, h1, h2⟩ := h
  show (toks tp).flatMap rend = (toks l).flatMap rend
  rw [h1.toks, ← h2, List.flatMap_map]
  congr 1
  funext t
  exact (rend_nt t).symm
theorem TW.made {l tp m : List UInt8} (h : TW l tp) (hm : made m l = true) : made m tp = true := by
  obtain ⟨T, h1, h2⟩ := h
  unfold Go.Proofs.YtnpiaifkeddjeaaGreatDoor.made at hm ⊢
  rw [h1.toks, List.all_eq_true]
  rw [← h2, List.all_map, List.all_eq_true] at hm
  intro t ht
  have h3 := hm t ht
  obtain ⟨c, b⟩ := t
  simp only [Function.comp, nt, madeP] at h3 ⊢
  revert h3
  cases b <;> simp
theorem TW.nil {tp : List UInt8} (h : TW [] tp) : tp = [] := by
  obtain ⟨T, ⟨L, rfl, rfl, _⟩, h2⟩ := h
  have : L = [] := by simpa [toks] using h2
  rw [this]; rfl
theorem TW.slash {r tp : List UInt8} (h : TW (47 :: r) tp) : ∃ r', tp = 47 :: r' := by
  obtain ⟨T, ⟨L, rfl, rfl, h3⟩, h2⟩ := h
  have h4 := toks_slash 0 [] r (Nat.le_refl _)
  simp only [List.nil_append] at h4
  rw [h4] at h2
  match L, h2, h3 with
  | [], h2, _ => simp [toks] at h2
  | x :: L, h2, h3 =>
    have h5 : nt x.2 = (47, false) := by simpa [toks] using (List.cons.inj (show nt x.2 :: (L.map (·.2)).map nt = (47, false) :: toks r from by simpa [toks] using h2)).1
    obtain ⟨p, c, b⟩ := x
    unfold nt at h5
    simp only [Prod.mk.injEq] at h5
    obtain ⟨rfl, h6⟩ := h5
    have hb : b = false := by
      have : plB 47 = false := by decide
      rw [this] at h6
      simpa using h6
    subst hb
    rcases h3 (p, (47, false)) (by simp) with ⟨d, _, h7, h8⟩ | ⟨d, e, _, _, _, h8⟩
    · simp only [Prod.mk.injEq] at h8
      simp only at h7
      exact ⟨L.flatMap (·.1), by rw [List.flatMap_cons, h7, ← h8.1]; rfl⟩
    · exact absurd (Prod.mk.inj h8).2 (by decide)
/-- with capitals in the host, other digits in escapes, and plain bytes as escapes, a URI has the same normal form -/
theorem twist_fm {n : Ur} (h : NormU n) {tp tq : List UInt8} (hp : TW n.pa tp) (hq : TW n.qu tq) : Fm ⟨n.sc, Lib.toUpperA n.ho, n.po, tp, tq, n.hq⟩ := by
  obtain ⟨r, hr⟩ := h.pa.hd
  refine ⟨h.sc, (host_lower h.ho).2, h.p0, h.p1, ?_, hp.made h.pa.made, hq.made h.mq, fun hh => ?_⟩
  · rw [hr] at hp; exact hp.slash
  · have := h.qh hh
    rw [this] at hq
    exact hq.nil
theorem twist_same {n : Ur} (h : NormU n) {tp tq : List UInt8} (hp : TW n.pa tp) (hq : TW n.qu tq) (hc : Ur.check ⟨n.sc, Lib.toUpperA n.ho, n.po, tp, tq, n.hq⟩ ≠ 3) : Ur.normal ⟨n.sc, Lib.toUpperA n.ho, n.po, tp, tq, n.hq⟩ = n := by
  have h0 : Ur.check ⟨n.sc, Lib.toUpperA n.ho, n.po, tp, tq, n.hq⟩ = 0 := by
    rcases check_fm (twist_fm h hp hq) with h1 | h1
    · exact h1
    · exact absurd h1 hc
  have hno : Ur.norm ⟨n.sc, Lib.toUpperA n.ho, n.po, tp, tq, n.hq⟩ = ⟨n.sc, lower (Lib.toUpperA n.ho), if n.po = usual n.sc then 0 else n.po, dotsL (undo tp), undo tq, n.hq⟩ := rfl
  obtain ⟨x, hx⟩ := h.low
  unfold Ur.normal
  rw [if_pos h0, hno, h.po, hp.undo, hq.undo, h.pa.undo, h.pa.dots, h.uq, hx, lower_upper, ← hx]

/-! ### step by step -/
/-- a text whose pieces are as in the normal form -/
def Wn (l : List UInt8) : Prop := Gd l (toks l) ∧ ∀ t ∈ toks l, nt t = t
theorem wn_of {m l : List UInt8} (hm : inI 37 m = false) (h : made m l = true) (hu : undo l = l) : Wn l := by
  have hg := gd_made hm h
  refine ⟨hg, fun t ht => ?_⟩
  have h2 := toks_undo hg
  rw [hu] at h2
  rw [h2] at ht
  obtain ⟨x, _, rfl⟩ := List.mem_map.1 ht
  exact nt_nt x
def Bd (l : List UInt8) (k : Nat) (out : List UInt8) : Prop := ∃ T, Gd out T ∧ T.map nt ++ toks (l.drop k) = toks l
/-- what has been made of the first k bytes: whole pieces, or a piece that is kept and not yet whole -/
def St (l : List UInt8) (k : Nat) (out : List UInt8) : Prop :=
  Bd l k out ∨ (∃ j o, k = j + 1 ∧ esc3 (l.drop j) = true ∧ out = o ++ [37] ∧ Bd l j o) ∨ (∃ j o, k = j + 2 ∧ esc3 (l.drop j) = true ∧ (∃ a, l[j + 1]? = some a ∧ out = o ++ [37, a]) ∧ Bd l j o)
theorem St.start (l : List UInt8) : St l 0 [] := .inl ⟨[], Gd.nil, rfl⟩
theorem esc3_parts {l : List UInt8} {j : Nat} (h : esc3 (l.drop j) = true) : ∃ a b, l[j]? = some 37 ∧ l[j + 1]? = some a ∧ l[j + 2]? = some b ∧ hxB a = true ∧ hxB b = true ∧ toks (l.drop j) = (hx2 a b, true) :: toks (l.drop (j + 3)) := by
  match hd : l.drop j, h with
  | c :: a :: b :: r, h =>
    have h2 : (c == 37 && (hxB a && hxB b)) = true := h
    have e : toks (c :: a :: b :: r) = (hx2 a b, true) :: toks r := by rw [toks, if_pos h2]
    simp only [Bool.and_eq_true, beq_iff_eq] at h2
    obtain ⟨rfl, ha, hb⟩ := h2
    have g0 : (l.drop j)[0]? = some 37 := by rw [hd]; rfl
    have g1 : (l.drop j)[1]? = some a := by rw [hd]; rfl
    have g2 : (l.drop j)[2]? = some b := by rw [hd]; rfl
    rw [List.getElem?_drop] at g0 g1 g2
    refine ⟨a, b, g0, g1, g2, ha, hb, ?_⟩
    rw [e]
    have : r = l.drop (j + 3) := by rw [← List.drop_drop, hd]; rfl
    rw [this]
theorem esc3_not {l : List UInt8} (hw : Wn l) {k : Nat} {c : UInt8} {out : List UInt8} (hb : Bd l k out) (hc : l[k]? = some c) (h : esc3 (l.drop k) = false) : c ≠ 37 ∧ toks (l.drop k) = (c, false) :: toks (l.drop (k + 1)) := by
  have hk : k < l.length := (List.getElem?_eq_some_iff.1 hc).1
  have hd : l.drop k = c :: l.drop (k + 1) := by rw [List.drop_eq_getElem_cons hk]; congr 1; exact (List.getElem?_eq_some_iff.1 hc).2
  have hs := toks_step (l := l.drop k) (by rw [hd]; simp)
  have e : toks (l.drop k) = (c, false) :: toks (l.drop (k + 1)) := by
    rw [hs, h]
    have hf : fsN (l.drop k) = 1 := by unfold fsN; rw [h]; rfl
    have hv : fsB (l.drop k) = c := by
      rw [hd] at h ⊢
      match hr : l.drop (k + 1), h with
      | [], _ => rfl
      | [x], _ => rfl
      | x :: y :: r, h =>
        have h2 : (c == 37 && (hxB x && hxB y)) = false := h
        simp [fsB, h2]
    rw [hf, hv, List.drop_drop]
  refine ⟨?_, e⟩
  rintro rfl
  obtain ⟨T, _, h2⟩ := hb
  obtain ⟨⟨L, h3, h4, h5⟩, _⟩ := hw
  have hm : ((37 : UInt8), false) ∈ toks l := by rw [← h2, e]; simp
  rw [h4] at hm
  obtain ⟨x, hx, h6⟩ := List.mem_map.1 hm
  rcases h5 x hx with ⟨d, h7, _, h8⟩ | ⟨a, b, _, _, _, h8⟩
  · rw [h6] at h8; exact h7 (Prod.mk.inj h8).1.symm
  · rw [h6] at h8; exact absurd (Prod.mk.inj h8).2 (by decide)
theorem Bd.push {l out p : List UInt8} {k k' : Nat} {t s : UInt8 × Bool} (h : Bd l k out) (hp : Pc p s) (hs : nt s = t) (he : toks (l.drop k) = t :: toks (l.drop k')) : Bd l k' (out ++ p) := by
  obtain ⟨T, h1, h2⟩ := h
  refine ⟨T ++ [s], h1.snoc hp, ?_⟩
  rw [← h2, he, List.map_append, List.map_cons, hs]
  simp
theorem mem_toks {l out : List UInt8} {k : Nat} {t : UInt8 × Bool} {r : List (UInt8 × Bool)} (h : Bd l k out) (he : toks (l.drop k) = t :: r) : t ∈ toks l := by
  obtain ⟨T, _, h2⟩ := h
  rw [← h2, he]; simp
theorem St.next {l out : List UInt8} {k : Nat} {c : UInt8} (hw : Wn l) (h : St l k out) (hc : l[k]? = some c) : St l (k + 1) (out ++ [c]) := by
  rcases h with h | ⟨j, o, rfl, he, rfl, hb⟩ | ⟨j, o, rfl, he, ⟨a, ha, rfl⟩, hb⟩
  · cases he : esc3 (l.drop k)
    · obtain ⟨h1, h2⟩ := esc3_not hw h hc he
      exact .inl (h.push (.inl ⟨c, h1, rfl, rfl⟩) (hw.2 _ (mem_toks h h2)) h2)
    · obtain ⟨a, b, g0, _, _, _, _, _⟩ := esc3_parts he
      have : c = 37 := by rw [hc] at g0; exact Option.some.inj g0
      subst this
      exact .inr (.inl ⟨k, out, rfl, he, rfl, h⟩)
  · exact .inr (.inr ⟨j, o, rfl, he, ⟨c, hc, by simp⟩, hb⟩)
  · obtain ⟨a', b, g0, g1, g2, hxa, hxb, ht⟩ := esc3_parts he
    rw [ha] at g1
    rw [hc] at g2
    obtain rfl := Option.some.inj g1
    obtain rfl := Option.some.inj g2
    have := hb.push (p := [37, a, c]) (.inr ⟨a, c, hxa, hxb, rfl, rfl⟩) (hw.2 _ (mem_toks hb ht)) ht
    exact .inl (by simpa using this)
theorem hexlow : ∀ n : Nat, n < 256 → hxB (UInt8.ofNat n) = true → hxB (Lib.lowerB (UInt8.ofNat n)) = true ∧ hxD (Lib.lowerB (UInt8.ofNat n)) = hxD (UInt8.ofNat n) ∧ n < 128 ∧ n ≠ 37 := by decide +kernel
theorem hexlowB {c : UInt8} (h : hxB c = true) : hxB (Lib.lowerB c) = true ∧ hxD (Lib.lowerB c) = hxD c ∧ c.toNat < 128 ∧ c ≠ 37 := by
  have := hexlow c.toNat c.toNat_lt
  rw [byteU] at this
  obtain ⟨h1, h2, h3, h4⟩ := this h
  exact ⟨h1, h2, h3, fun e => h4 (by rw [e]; rfl)⟩
theorem St.low {l out : List UInt8} {k : Nat} (hw : Wn l) (h : St l k out) (hc : l[k]? = some 37) : ∃ a b, l[k + 1]? = some a ∧ l[k + 2]? = some b ∧ a.toNat < 128 ∧ b.toNat < 128 ∧ St l (k + 3) (out ++ [37, Lib.lowerB a, Lib.lowerB b]) := by
  rcases h with h | ⟨j, o, rfl, he, rfl, hb⟩ | ⟨j, o, rfl, he, ⟨a, ha, rfl⟩, hb⟩
  · cases he : esc3 (l.drop k)
    · exact absurd rfl (esc3_not hw h hc he).1
    · obtain ⟨a, b, g0, g1, g2, hxa, hxb, ht⟩ := esc3_parts he
      have la := hexlowB hxa
      have lb := hexlowB hxb
      refine ⟨a, b, g1, g2, la.2.2.1, lb.2.2.1, .inl (h.push (.inr ⟨_, _, la.1, lb.1, rfl, rfl⟩) ?_ ht)⟩
      have e : hx2 (Lib.lowerB a) (Lib.lowerB b) = hx2 a b := by unfold hx2; rw [la.2.1, lb.2.1]
      rw [e]
      exact hw.2 _ (mem_toks h ht)
  · obtain ⟨a, b, _, g1, _, hxa, _, _⟩ := esc3_parts he
    rw [hc] at g1
    rw [← Option.some.inj g1] at hxa
    exact absurd hxa (by decide)
  · obtain ⟨a', b, _, _, g2, _, hxb, _⟩ := esc3_parts he
    rw [hc] at g2
    rw [← Option.some.inj g2] at hxb
    exact absurd hxb (by decide)
theorem St.enc {l out : List UInt8} {k : Nat} {c d1 d2 : UInt8} (hw : Wn l) (h : St l k out) (hc : l[k]? = some c) (hp : plB c = true) (h1 : ∀ j, k = j + 1 → l[j]? ≠ some 37) (h2 : ∀ j, k = j + 2 → l[j]? ≠ some 37)
    (hd1 : hxB d1 = true) (hd2 : hxB d2 = true) (hd : hx2 d1 d2 = c) : St l (k + 1) (out ++ [37, d1, d2]) := by
  rcases h with h | ⟨j, o, rfl, he, rfl, hb⟩ | ⟨j, o, rfl, he, _, hb⟩
  · cases he : esc3 (l.drop k)
    · obtain ⟨h3, h4⟩ := esc3_not hw h hc he
      refine .inl (h.push (.inr ⟨d1, d2, hd1, hd2, rfl, rfl⟩) ?_ h4)
      rw [hd]
      unfold nt
      rw [hp]; rfl
    · obtain ⟨a, b, g0, _, _, _, _, _⟩ := esc3_parts he
      rw [hc] at g0
      rw [Option.some.inj g0] at hp
      exact absurd hp (by decide)
  · obtain ⟨a, b, g0, _⟩ := esc3_parts he
    exact absurd g0 (h1 j rfl)
  · obtain ⟨a, b, g0, _⟩ := esc3_parts he
    exact absurd g0 (h2 j rfl)
theorem St.fin {l out : List UInt8} {k : Nat} (h : St l k out) (hk : k = l.length) : TW l out := by
  subst hk
  rcases h with ⟨T, h1, h2⟩ | ⟨j, o, hj, he, _, _⟩ | ⟨j, o, hj, he, _, _⟩
  · refine ⟨T, h1, ?_⟩
    rw [List.drop_length] at h2
    simpa [toks] using h2
  · obtain ⟨a, b, _, g1, g2, _⟩ := esc3_parts he
    have := (List.getElem?_eq_some_iff.1 g2).1
    omega
  · obtain ⟨a, b, _, g1, g2, _⟩ := esc3_parts he
    have := (List.getElem?_eq_some_iff.1 g2).1
    omega
def twD : List UInt8 := [48, 49, 50, 51, 52, 53, 54, 55, 56, 57, 97, 98, 99, 100, 101, 102, 48, 49, 50, 51, 52, 53, 54, 55, 56, 57, 65, 66, 67, 68, 69, 70]
theorem twD_hex : ∀ n : Nat, n < 256 → ∀ e : Nat, e < 2 → ∀ f : Nat, f < 2 → hxB (twD.getD (n / 16 + 16 * e) 0) = true ∧ hxB (twD.getD (n % 16 + 16 * f) 0) = true ∧ hx2 (twD.getD (n / 16 + 16 * e) 0) (twD.getD (n % 16 + 16 * f) 0) = UInt8.ofNat n := by decide +kernel
end Go.Proofs.YtnpiaifkeddjeaaGreatDoor

/- References, plainly: what they mean by a base, as the program reckons it. Nothing of the program is read here. -/
namespace Go.Proofs.YtnpiaifkeddjeaaGreatDoor
def abcI (n : Int) : Bool := decide ((97 ≤ n ∧ n ≤ 122) ∨ (65 ≤ n ∧ n ≤ 90))
def schM : List UInt8 := [48, 49, 50, 51, 52, 53, 54, 55, 56, 57, 43, 45, 46]
def schI (n : Int) : Bool := abcI n || inI n schM
def schB (c : UInt8) : Bool := schI (c.toNat : Int)
/-- is a text a scheme -/
def isSch : List UInt8 → Bool
  | [] => false
  | c :: r => abcI (c.toNat : Int) && r.all schB
/-- a reference's scheme, in small letters, and what stands behind its colon; all of it, if it has none -/
def apartR (r : List UInt8) : List UInt8 × List UInt8 :=
  if (Lib.cut r [58]).2.2 && isSch (Lib.cut r [58]).1 then (lower (Lib.cut r [58]).1, (Lib.cut r [58]).2.1) else ([], r)
def dirOf (p : List UInt8) : List UInt8 := p.take (Lib.lastIndex p [47] + 1).toNat
/-- rule 3: what a reference with no scheme and no host leads to -/
def relU (b : Ur) (p q : List UInt8) (h : Bool) : Ur :=
  if p = [] then (if h then ⟨b.sc, b.ho, b.po, b.pa, q, true⟩ else b)
  else if Lib.hasPrefix p [47] then ⟨b.sc, b.ho, b.po, p, q, h⟩ else ⟨b.sc, b.ho, b.po, dirOf b.pa ++ p, q, h⟩
/-- where a reference leads to, and an error -/
def targetU (b : Ur) (r : List UInt8) : Ur × Int :=
  if Lib.hasPrefix r [47, 47] then parseU (b.sc ++ 58 :: (apartR r).2)
  else if (apartR r).1 ≠ [] then parseU ((apartR r).1 ++ 58 :: (apartR r).2)
  else (relU b (Lib.cut r [63]).1 (Lib.cut r [63]).2.1 (Lib.cut r [63]).2.2, (relU b (Lib.cut r [63]).1 (Lib.cut r [63]).2.1 (Lib.cut r [63]).2.2).check)
/-- what a reference means -/
def refU (b : Ur) (r : List UInt8) : Ur × Int :=
  if 1024 < r.length then (ur0, 3)
  else if b.check ≠ 0 then (ur0, 2)
  else if (targetU b (Lib.cut r [35]).1).2 ≠ 0 then (ur0, (targetU b (Lib.cut r [35]).1).2)
  else ((targetU b (Lib.cut r [35]).1).1.normal, 0)

theorem ur0_norm0 : ur0.check ≠ 0 := by decide
/-- nothing means the base -/
theorem ref_nil {b : Ur} (h : b.check = 0) : refU b [] = (b.normal, 0) := by
  have h1 : Lib.cut ([] : List UInt8) [35] = ([], [], false) := by rfl
  have h2 : targetU b [] = (b, b.check) := rfl
  unfold refU
  rw [if_neg (by simp), if_neg (by simp [h]), h1]
  simp only [h2, h, ne_eq, not_true_eq_false, if_false]
theorem ref_bad {b : Ur} (h : b.check ≠ 0) {r : List UInt8} (hr : r.length ≤ 1024) : refU b r = (ur0, 2) := by
  unfold refU
  rw [if_neg (by omega), if_pos h]
theorem check_cases (u : Ur) : u.check = 0 ∨ u.check = 3 ∨ u.check = 4 := by
  unfold Ur.check
  split
  · split
    · exact .inr (.inl rfl)
    · exact .inl rfl
  · exact .inr (.inr rfl)
theorem parse_okR {s : List UInt8} (h : (parseU s).2 = 0) : (parseU s).1.check = 0 := (uparse_back h).1
theorem target_check {b : Ur} {r : List UInt8} (h : (targetU b r).2 = 0) : (targetU b r).1.check = 0 := by
  unfold targetU at h ⊢
  split
  · rename_i h1
    rw [if_pos h1] at h
    exact parse_okR h
  · rename_i h1
    rw [if_neg h1] at h
    split
    · rename_i h2
      rw [if_pos h2] at h
      exact parse_okR h
    · rename_i h2
      rw [if_neg h2] at h
      exact h
/-- what is meant may be, and is normal; what is none is nothing -/
theorem ref_ok {b : Ur} {r : List UInt8} (h : (refU b r).2 = 0) : (refU b r).1.check = 0 ∧ (refU b r).1.normal = (refU b r).1 := by
  unfold refU at h ⊢
  split
  · rename_i h1; rw [if_pos h1] at h; exact absurd h (by decide)
  · rename_i h1
    rw [if_neg h1] at h
    split
    · rename_i h2; rw [if_pos h2] at h; exact absurd h (by decide)
    · rename_i h2
      rw [if_neg h2] at h
      split
      · rename_i h3; rw [if_pos h3] at h; exact absurd h h3
      · rename_i h3
        have h4 := normal_ok (target_check (Classical.not_not.1 h3))
        exact ⟨h4.2.1, h4.2.2.1⟩
theorem ref_no {b : Ur} {r : List UInt8} (h : (refU b r).2 ≠ 0) : (refU b r).1 = ur0 := by
  unfold refU at h ⊢
  split
  · rfl
  · rename_i h1
    rw [if_neg h1] at h
    split
    · rfl
    · rename_i h2
      rw [if_neg h2] at h
      split
      · rfl
      · rename_i h3; rw [if_neg h3] at h; exact absurd rfl h
theorem made_no35 {m l : List UInt8} (h : made m l = true) (hm : inI 35 m = false) : ∀ c ∈ l, c ≠ 35 := fun c hc e => by
  subst e
  rcases made_bytes m _ l (Nat.le_refl _) h _ hc with h | h | h | h
  · exact absurd h (by decide)
  · exact absurd h (by decide)
  · exact absurd h (by decide)
  · rw [show ((35 : UInt8).toNat : Int) = 35 from rfl, hm] at h; exact absurd h (by decide)
theorem host_no35 {l : List UInt8} (h : hostOk l = true) : ∀ c ∈ l, c ≠ 35 := fun c hc e => by
  subst e
  exact absurd (((host_iffU l).1 h).2.2 _ hc) (by decide)
theorem port_no35 {p : Int} (h0 : 0 ≤ p) : ∀ c ∈ portL p, c ≠ 35 := by
  unfold portL
  by_cases hp : p = 0
  · rw [if_pos hp]; intro c hc; cases hc
  · rw [if_neg hp]
    obtain ⟨n, rfl⟩ : ∃ n : Nat, p = n := ⟨p.toNat, by omega⟩
    rw [itoaU]
    intro c hc
    rcases List.mem_cons.1 hc with rfl | hc
    · decide
    · have h2 := List.all_eq_true.1 (decU_all n).1 c hc
      rintro rfl
      exact absurd h2 (by decide)
theorem text_no35 {u : Ur} (h : Fm u) : ∀ c ∈ u.text, c ≠ 35 := by
  intro c hc
  rw [text_split] at hc
  simp only [List.mem_append, List.mem_cons, List.cons_append, List.nil_append] at hc
  rcases hc with hc | rfl | rfl | rfl | hc | hc | hc | hc
  · rcases h.sc with e | e <;> rw [e] at hc <;> (rintro rfl; exact absurd hc (by decide))
  · decide
  · decide
  · decide
  · exact host_no35 h.ho c hc
  · exact port_no35 h.p0 c hc
  · exact made_no35 h.mp (by decide) c hc
  · cases hq : u.hq
    · rw [hq] at hc; cases hc
    · rw [hq] at hc
      rcases List.mem_cons.1 hc with rfl | hc
      · decide
      · exact made_no35 h.mq (by decide) c hc
theorem apart_own {x : List UInt8} (hx : x = schH ∨ x = schS) (r : List UInt8) : apartR (x ++ 58 :: r) = (x, r) := by
  have h1 : Lib.cut (x ++ 58 :: r) [58] = (x, r, true) := cutF x [] r 58 (by rcases hx with rfl | rfl <;> decide)
  unfold apartR
  rw [h1]
  rcases hx with rfl | rfl <;> rfl
/-- a URI's own text means its normal form -/
theorem ref_put {a b : Ur} (ha : a.check = 0) (hb : b.check = 0) : refU a b.put = (b.normal, 0) := by
  obtain ⟨hp, he⟩ := uparse_put hb
  obtain ⟨hf, hl⟩ := uchk_zero hb
  have hF := formed_iff.1 hf
  have h1 : Lib.cut b.put [35] = (b.put, [], false) := cutN1 _ _ (by rw [he]; exact text_no35 hF)
  have h2 : targetU a b.put = (b, 0) := by
    have hs : ∃ r, b.put = b.sc ++ 58 :: r := ⟨_, by rw [he, text_split]; rfl⟩
    obtain ⟨r, hs⟩ := hs
    have h3 := apart_own hF.sc r
    rw [← hs] at h3
    have h4 : Lib.hasPrefix b.put [47, 47] = false := by rw [hs]; rcases hF.sc with e | e <;> rw [e] <;> rfl
    have h5 : b.sc ≠ [] := by rcases hF.sc with e | e <;> rw [e] <;> decide
    unfold targetU
    rw [h4, h3, ← hs, hp]
    simp [h5]
  unfold refU
  rw [if_neg (by rw [he]; omega), if_neg (by simp [ha]), h1]
  simp only [h2, ne_eq, not_true_eq_false, if_false]
end Go.Proofs.YtnpiaifkeddjeaaGreatDoor

/- References, plainly: what the document answers is what the program reckons. Nothing of the program is read here. -/
namespace Go.Proofs.YtnpiaifkeddjeaaGreatDoor
/-- how long a reference's scheme is -/
def schN (r : List UInt8) : Nat := if (Lib.cut r [58]).2.2 && isSch (Lib.cut r [58]).1 then (Lib.cut r [58]).1.length else 0
def endU (p : Ur × Int) : Ur × Int := if p.2 ≠ 0 then (ur0, p.2) else (p.1.normal, 0)
/-- where the document leads a reference -/
def docAim (b : Ur) (r : List UInt8) : Ur × Int :=
  if 0 < schN r then
    (if (lower (r.take (schN r)) = schH ∨ lower (r.take (schN r)) = schS) ∧ Lib.hasPrefix (r.drop (schN r + 1)) [47, 47] = true then endU (parseU (lower (r.take (schN r)) ++ r.drop (schN r))) else (ur0, 4))
  else if Lib.hasPrefix r [47, 47] then endU (parseU (b.sc ++ 58 :: r))
  else endU (relU b (Lib.cut r [63]).1 (Lib.cut r [63]).2.1 (Lib.cut r [63]).2.2, (relU b (Lib.cut r [63]).1 (Lib.cut r [63]).2.1 (Lib.cut r [63]).2.2).check)
theorem refU_eq {b : Ur} {r : List UInt8} (h1 : ¬ 1024 < r.length) (h2 : b.check = 0) : refU b r = endU (targetU b (Lib.cut r [35]).1) := by
  unfold refU endU
  rw [if_neg h1, if_neg (by simp [h2])]
theorem sch_all {a : List UInt8} (h : isSch a = true) : a ≠ [] ∧ (∀ c ∈ a, schB c = true) ∧ ∀ c, a.head? = some c → abcI (c.toNat : Int) = true := by
  match a, h with
  | c :: r, h =>
    simp only [isSch, Bool.and_eq_true] at h
    refine ⟨by simp, fun d hd => ?_, fun d hd => by simp at hd; rw [← hd]; exact h.1⟩
    rcases List.mem_cons.1 hd with rfl | hd
    · show (abcI _ || _) = true; rw [h.1]; rfl
    · exact List.all_eq_true.1 h.2 d hd
theorem sch_low : ∀ n : Nat, n < 256 → schB (UInt8.ofNat n) = true → lowB (UInt8.ofNat n) ≠ 58 := by decide +kernel
theorem low_no58 {a : List UInt8} (h : isSch a = true) : ∀ c ∈ lower a, c ≠ 58 := by
  intro c hc
  obtain ⟨d, hd, rfl⟩ := List.mem_map.1 hc
  have h2 := sch_low d.toNat (by have := UInt8.toNat_lt d; omega)
  rw [byteU] at h2
  exact h2 ((sch_all h).2.1 d hd)
theorem parse_no {s : List UInt8} (hl : s.length ≤ 1024) (h : ∀ x r, (x = schH ∨ x = schS) → s ≠ x ++ 58 :: 47 :: 47 :: r) : parseU s = (ur0, 4) := by
  unfold parseU
  rw [if_neg (by omega)]
  split
  · rename_i ht
    have hf : (apartL s).root.formed = false := by
      cases hf : (apartL s).root.formed
      · rfl
      · have h3 := formed_iff.1 hf
        exact absurd (ht.symm.trans (text_split (apartL s))) (h _ ((apartL s).ho ++ (portL (apartL s).po ++ ((apartL s).pa ++ if (apartL s).hq then 63 :: (apartL s).qu else []))) h3.sc)
    have hc : (apartL s).root.check = 4 := by unfold Ur.check; rw [hf]; rfl
    rw [hc, if_neg (by decide)]
  · rfl
theorem schR_no {a rest : List UInt8} (ha : isSch a = true) (hl : (lower a ++ 58 :: rest).length ≤ 1024) (h : ¬ ((lower a = schH ∨ lower a = schS) ∧ Lib.hasPrefix rest [47, 47] = true)) : parseU (lower a ++ 58 :: rest) = (ur0, 4) := by
  refine parse_no hl fun x r hx he => h ?_
  have h1 : Lib.cut (lower a ++ 58 :: rest) [58] = (lower a, rest, true) := cutF _ [] rest 58 (low_no58 ha)
  have h2 : Lib.cut (x ++ 58 :: 47 :: 47 :: r) [58] = (x, 47 :: 47 :: r, true) := cutF x [] _ 58 (by rcases hx with rfl | rfl <;> decide)
  rw [he, h2] at h1
  obtain ⟨h3, h4⟩ := Prod.mk.inj h1
  obtain ⟨h5, -⟩ := Prod.mk.inj h4
  rw [← h3, ← h5]
  exact ⟨hx, rfl⟩
theorem doc_aim (b : Ur) {r : List UInt8} (hl : r.length ≤ 1024) : docAim b r = endU (targetU b r) := by
  obtain ⟨hp, hq⟩ := cut_parts r [58]
  by_cases hs : ((Lib.cut r [58]).2.2 && isSch (Lib.cut r [58]).1) = true
  · obtain ⟨hf, hi⟩ := Bool.and_eq_true_iff.1 hs
    have hA : apartR r = (lower (Lib.cut r [58]).1, (Lib.cut r [58]).2.1) := by unfold apartR; rw [if_pos hs]
    have hN : schN r = (Lib.cut r [58]).1.length := by unfold schN; rw [if_pos hs]
    rw [hf, if_pos rfl] at hp
    generalize (Lib.cut r [58]).1 = a at *
    generalize (Lib.cut r [58]).2.1 = t at *
    obtain ⟨hne, hall, hhd⟩ := sch_all hi
    have hpos : 0 < a.length := List.length_pos_iff.2 hne
    have hr : r = a ++ 58 :: t := hp
    have h1 : r.take a.length = a := by rw [hr, List.take_left]
    have h2 : r.drop a.length = 58 :: t := by rw [hr, List.drop_left]
    have h3 : r.drop (a.length + 1) = t := by rw [← List.drop_drop, h2]; rfl
    have h4 : Lib.hasPrefix r [47, 47] = false := by
      rw [hr]
      match a, hne, hhd with
      | c :: a', _, hhd =>
        have h5 := hhd c rfl
        have h6 : (47 == c) = false := by
          rw [beq_eq_false_iff_ne]; rintro rfl; exact absurd h5 (by decide)
        show (47 == c && _) = false
        rw [h6]; rfl
    have h7 : lower a ≠ [] := by intro h; apply hne; have := congrArg List.length h; rw [lower_len] at this; exact List.eq_nil_of_length_eq_zero this
    have hT : targetU b r = parseU (lower a ++ 58 :: t) := by
      unfold targetU
      rw [h4, hA]
      simp [h7]
    unfold docAim
    rw [hN, if_pos hpos, h1, h2, h3, hT]
    split
    · rfl
    · rename_i h
      rw [schR_no hi (by rw [hr] at hl; simp only [List.length_append, lower_len] at hl ⊢; exact hl) h]
      rfl
  · have hA : apartR r = ([], r) := by unfold apartR; rw [if_neg hs]
    have hN : schN r = 0 := by unfold schN; rw [if_neg hs]
    unfold docAim targetU
    rw [hN, hA, if_neg (by decide)]
    simp only [ne_eq, not_true_eq_false, if_false]
    split <;> rfl
end Go.Proofs.YtnpiaifkeddjeaaGreatDoor

/- Keys, plainly: a URI's key and its origin; the keys that go, as the program reckons them and as the document does. Nothing of the program is read here. -/
namespace Go.Proofs.YtnpiaifkeddjeaaGreatDoor

def locN : List UInt8 := [108, 111, 99, 97, 116, 105, 111, 110]
def cloN : List UInt8 := [99, 111, 110, 116, 101, 110, 116, 45, 108, 111, 99, 97, 116, 105, 111, 110]
def getK : List UInt8 := [71, 69, 84]
def headK : List UInt8 := [72, 69, 65, 68]
def postK : List UInt8 := [80, 79, 83, 84]
def putK : List UInt8 := [80, 85, 84]
def delK : List UInt8 := [68, 69, 76, 69, 84, 69]
def patK : List UInt8 := [80, 65, 84, 67, 72]
def keyU (u : Ur) : List UInt8 := u.normal.put
def ofK (m : List UInt8) (u : Ur) : List UInt8 := if m = getK ∨ m = headK then keyU u else []
def unsB (m : List UInt8) : Bool := m == postK || (m == putK || (m == delK || m == patK))
/-- the references that a reply's fields tell -/
def refsK (l : List Fld) : List (List UInt8) := valsL l locN ++ valsL l cloN
/-- where one leads, if it may be -/
def leadK (u : Ur) (r : List UInt8) : Option Ur := if (refU u r).2 = 0 then some (refU u r).1 else none
def changedK (u : Ur) (rs : List (List UInt8)) : List Ur := u :: rs.filterMap (leadK u)
def origK (u : Ur) : List UInt8 × List UInt8 × Int := (u.normal.sc, u.normal.ho, u.normal.po)
def putS (out : List (List UInt8)) (k : List UInt8) : List (List UInt8) := if k ∈ out then out else out ++ [k]
def stepK (o : List UInt8 × List UInt8 × Int) (out : List (List UInt8)) (x : Ur) : List (List UInt8) := if origK x = o then putS out (keyU x) else out
def keysK (u : Ur) (rs : List (List UInt8)) : List (List UInt8) := (changedK u rs).foldl (stepK (origK u)) []
def goneK (u : Ur) (st : Int) (l : List Fld) : List (List UInt8) := if u.check = 0 ∧ 200 ≤ st ∧ st ≤ 399 then keysK u (refsK l) else []
/-- the document's way -/
def stepD (u : Ur) (out : List (List UInt8)) (r : List UInt8) : List (List UInt8) := if (refU u r).2 = 0 then stepK (origK u) out (refU u r).1 else out
def keysD (u : Ur) (rs : List (List UInt8)) : List (List UInt8) := rs.foldl (stepD u) [keyU u]
theorem fold_leads (u : Ur) : ∀ (rs : List (List UInt8)) (a : List (List UInt8)), (rs.filterMap (leadK u)).foldl (stepK (origK u)) a = rs.foldl (stepD u) a
  | [], _ => rfl
  | r :: t, a => by
    by_cases h : (refU u r).2 = 0
    · have h1 : leadK u r = some (refU u r).1 := by unfold leadK; rw [if_pos h]
      have h2 : stepD u a r = stepK (origK u) a (refU u r).1 := by unfold stepD; rw [if_pos h]
      rw [List.filterMap_cons_some h1, List.foldl_cons, List.foldl_cons, fold_leads u t, h2]
    · have h1 : leadK u r = none := by unfold leadK; rw [if_neg h]
      have h2 : stepD u a r = a := by unfold stepD; rw [if_neg h]
      rw [List.filterMap_cons_none h1, List.foldl_cons, fold_leads u t, h2]
theorem keys_eq (u : Ur) (rs : List (List UInt8)) : keysK u rs = keysD u rs := by
  unfold keysK changedK keysD
  rw [List.foldl_cons, show stepK (origK u) [] u = [keyU u] from by unfold stepK putS; rw [if_pos rfl]; rfl, fold_leads]

/-- a key's parts -/
structure KeyP (u : Ur) (k : List UInt8) (n : Ur) : Prop where
  ck : n.check = 0
  nm : n.normal = n
  pt : n.put = k
  og : origK n = origK u
theorem key_own {u : Ur} (h : u.check = 0) : KeyP u (keyU u) u.normal := by
  obtain ⟨-, h1, h2, -⟩ := normal_ok h
  exact ⟨h1, h2, rfl, by unfold origK; rw [h2]⟩
theorem key_parse {u : Ur} (h : u.check = 0) : parseU (keyU u) = (u.normal, 0) := (uparse_put (normal_ok h).2.1).1
theorem key_inj {a b : Ur} (ha : a.check = 0) (hb : b.check = 0) : (keyU a == keyU b) = decide (a.normal = b.normal) := by
  by_cases h : a.normal = b.normal
  · rw [decide_eq_true h, beq_iff_eq]; unfold keyU; rw [h]
  · rw [decide_eq_false h, beq_eq_false_iff_ne]
    intro e
    have h1 := key_parse ha
    rw [e, key_parse hb] at h1
    exact h (Prod.mk.inj h1).1.symm
theorem ref_key {u : Ur} {r : List UInt8} (h : (refU u r).2 = 0) : (refU u r).1.check = 0 ∧ keyU (refU u r).1 = (refU u r).1.put ∧ (refU u r).1.normal = (refU u r).1 := by
  obtain ⟨h1, h2⟩ := ref_ok h
  exact ⟨h1, by unfold keyU; rw [h2], h2⟩
theorem putS_mem {out : List (List UInt8)} {k x : List UInt8} (h : x ∈ putS out k) : x ∈ out ∨ x = k := by
  unfold putS at h
  split at h
  · exact .inl h
  · rcases List.mem_append.1 h with h | h
    · exact .inl h
    · exact .inr (List.mem_singleton.1 h)
theorem putS_nodup {out : List (List UInt8)} {k : List UInt8} (h : out.Nodup) : (putS out k).Nodup := by
  unfold putS
  split
  · exact h
  · rename_i hk
    rw [List.nodup_append]
    refine ⟨h, by simp, fun a ha b hb e => ?_⟩
    rw [List.mem_singleton] at hb
    exact hk (hb ▸ e ▸ ha)
theorem putS_len (out : List (List UInt8)) (k : List UInt8) : out.length ≤ (putS out k).length ∧ (putS out k).length ≤ out.length + 1 := by
  unfold putS
  split <;> simp
theorem putS_head {out : List (List UInt8)} {k : List UInt8} (a : List UInt8) (h : out.head? = some a) : (putS out k).head? = some a := by
  unfold putS
  split
  · exact h
  · cases out with
    | nil => cases h
    | cons b t => exact h
/-- what is so of the keys that go -/
structure KeysP (u : Ur) (n : Nat) (out : List (List UInt8)) : Prop where
  parts : ∀ k ∈ out, ∃ m, KeyP u k m
  one : out.Nodup
  len : out.length ≤ n + 1
  head : out.head? = some (keyU u)
theorem stepD_keeps {u : Ur} {n : Nat} {out : List (List UInt8)} (h : KeysP u n out) (r : List UInt8) : KeysP u (n + 1) (stepD u out r) := by
  unfold stepD
  split
  · rename_i h0
    obtain ⟨h1, h2, h3⟩ := ref_key h0
    unfold stepK
    split
    · rename_i ho
      refine ⟨fun k hk => ?_, putS_nodup h.one, Nat.le_trans (putS_len _ _).2 (by have := h.len; omega), putS_head _ h.head⟩
      rcases putS_mem hk with hk | rfl
      · exact h.parts k hk
      · exact ⟨_, h1, h3, h2.symm, ho⟩
    · exact ⟨h.parts, h.one, by have := h.len; omega, h.head⟩
  · exact ⟨h.parts, h.one, by have := h.len; omega, h.head⟩
theorem fold_keeps {u : Ur} : ∀ (rs : List (List UInt8)) (n : Nat) (a : List (List UInt8)), KeysP u n a → KeysP u (n + rs.length) (rs.foldl (stepD u) a)
  | [], _, _, h => h
  | r :: t, n, a, h => by
    have := fold_keeps t (n + 1) _ (stepD_keeps h r)
    rw [List.foldl_cons, List.length_cons, show n + (t.length + 1) = n + 1 + t.length from by omega]
    exact this
theorem keys_are {u : Ur} (h : u.check = 0) (rs : List (List UInt8)) : KeysP u rs.length (keysK u rs) := by
  rw [keys_eq]
  unfold keysD
  have := fold_keeps (u := u) rs 0 [keyU u] ⟨fun k hk => by rw [List.mem_singleton.1 hk]; exact ⟨_, key_own h⟩, by simp, by simp, rfl⟩
  rwa [Nat.zero_add] at this
theorem fold_len (o : List UInt8 × List UInt8 × Int) : ∀ (xs : List Ur) (a : List (List UInt8)), (xs.foldl (stepK o) a).length ≤ a.length + xs.length
  | [], _ => by simp
  | x :: t, a => by
    have h1 := fold_len o t (stepK o a x)
    have h2 : (stepK o a x).length ≤ a.length + 1 := by
      unfold stepK
      split
      · exact (putS_len _ _).2
      · omega
    simp only [List.foldl_cons, List.length_cons]
    omega
theorem put_short (u : Ur) : u.put.length ≤ 1024 := by
  unfold Ur.put
  split
  · rename_i h
    exact (uchk_zero h).2
  · simp
theorem key_short (u : Ur) : (keyU u).length ≤ 1024 := put_short _
theorem keys_short (u : Ur) (rs : List (List UInt8)) : ∀ k ∈ keysK u rs, k.length ≤ 1024 := by
  rw [keys_eq]
  unfold keysD
  have go : ∀ (rs a : List (List UInt8)), (∀ k ∈ a, k.length ≤ 1024) → ∀ k ∈ rs.foldl (stepD u) a, k.length ≤ 1024 := by
    intro rs
    induction rs with
    | nil => exact fun a h => h
    | cons r t ih =>
      intro a h
      rw [List.foldl_cons]
      refine ih _ fun k hk => ?_
      unfold stepD at hk
      split at hk
      · unfold stepK at hk
        split at hk
        · rcases putS_mem hk with hk | rfl
          · exact h k hk
          · exact key_short _
        · exact h k hk
      · exact h k hk
  exact go rs _ fun k hk => by rw [List.mem_singleton.1 hk]; exact key_short u
theorem loc_clo {n : List UInt8} (h : sameN n locN = true) : sameN n cloN = false := by
  unfold sameN at h ⊢
  rw [beq_iff_eq] at h
  rw [h]; decide
/-- is a field's name one of both -/
def ofBoth (f : Fld) : Bool := sameN f.1 locN || sameN f.1 cloN
theorem refs_len (l : List Fld) : (refsK l).length ≤ l.length := by
  unfold refsK valsL
  rw [List.length_append, List.length_map, List.length_map]
  induction l with
  | nil => simp
  | cons f t ih =>
    cases h1 : sameN f.1 locN
    · cases h2 : sameN f.1 cloN
      · simp only [List.filter_cons, h1, h2, Bool.false_eq_true, if_false, List.length_cons]; omega
      · simp only [List.filter_cons, h1, h2, Bool.false_eq_true, if_false, if_true, List.length_cons]; omega
    · simp only [List.filter_cons, h1, loc_clo h1, Bool.false_eq_true, if_false, if_true, List.length_cons]; omega
theorem vals_both (l : List Fld) (n : List UInt8) (h : ∀ f : Fld, sameN f.1 n = true → ofBoth f = true) : valsL (l.filter ofBoth) n = valsL l n := by
  unfold valsL
  rw [List.filter_filter]
  congr 1
  apply List.filter_congr
  intro f _
  cases hs : sameN f.1 n
  · rfl
  · rw [h f hs]; rfl
theorem refs_both (l : List Fld) : refsK (l.filter ofBoth) = refsK l := by
  unfold refsK
  rw [vals_both l locN (fun f h => by unfold ofBoth; rw [h]; rfl), vals_both l cloN (fun f h => by unfold ofBoth; rw [h]; exact Bool.or_true _)]
end Go.Proofs.YtnpiaifkeddjeaaGreatDoor
