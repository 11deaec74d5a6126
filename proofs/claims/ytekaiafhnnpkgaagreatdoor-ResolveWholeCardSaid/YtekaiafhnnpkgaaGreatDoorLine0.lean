/- Plain lists of bytes: what the lines' reader comes to, step by step, and what a request's line and a reply's line are. Nothing of the program is read here. -/
import Derived.Test.YtekaiafhnnpkgaaGreatDoorText0
import Derived.Lib.Strings
import Derived.Lib.AtoiAll
namespace Go.Proofs.YtekaiafhnnpkgaaGreatDoor
def visI (n : Int) : Bool := decide (33 ≤ n ∧ n ≤ 126)
def digI (n : Int) : Bool := decide (48 ≤ n ∧ n ≤ 57)
def visB (c : UInt8) : Bool := visI (c.toNat : Int)
def digB (c : UInt8) : Bool := digI (c.toNat : Int)
/-- what strconv.Atoi hands back beside its error -/
def atoiV (l : List UInt8) : Int := match Lib.atoiAll l with | .ok v => v | .range => Lib.atoiSat l | _ => 0
/-- a reader's state -/
structure Rs where
  rest : List UInt8
  amiss : Bool
  major : Int
def Rs.expect (r : Rs) (ok : Bool) : Rs := ⟨r.rest, r.amiss || !ok, r.major⟩
def Rs.fixed (r : Rs) (p : List UInt8) : Rs := ⟨Lib.trimPrefix r.rest p, r.amiss || !Lib.hasPrefix r.rest p, r.major⟩
def Rs.got (r : Rs) (p : UInt8 → Bool) : List UInt8 := r.rest.takeWhile p
def Rs.skip (r : Rs) (p : UInt8 → Bool) : Rs := ⟨r.rest.dropWhile p, r.amiss, r.major⟩
def Rs.num (r : Rs) (k : Int) : Rs := (r.skip digB).expect (((r.got digB).length : Int) == k)
def Rs.numV (r : Rs) : Int := atoiV (r.got digB)
def Rs.setMajor (r : Rs) (n : Int) : Rs := ⟨r.rest, r.amiss, n⟩
def httpL : List UInt8 := [72, 84, 84, 80, 47]
def Rs.ver3 (r : Rs) : Rs := ((((r.fixed httpL).num 1).setMajor (r.fixed httpL).numV)).fixed [46]
def Rs.ver (r : Rs) : Rs := r.ver3.num 1
def Rs.verV (r : Rs) : Int := min r.ver3.numV 1
def Rs.fault (whole : List UInt8) (r : Rs) : Int := if 2048 < whole.length then 3 else if r.amiss || !r.rest.isEmpty then 4 else if r.major = 1 then 0 else 9

def rs0 (s : List UInt8) : Rs := ⟨s, false, 0⟩
def reqA (s : List UInt8) : Rs := (((rs0 s).skip visB).expect (token ((rs0 s).got visB))).fixed [32]
def reqB (s : List UInt8) : Rs := (((reqA s).skip visB).expect (!((reqA s).got visB).isEmpty)).fixed [32]
def reqZ (s : List UInt8) : Rs := (reqB s).ver
def reqE (s : List UInt8) : Int := if (reqZ s).fault s = 0 then (if 1024 < ((reqA s).got visB).length then 3 else 0) else (reqZ s).fault s
def reqM (s : List UInt8) : List UInt8 := if reqE s = 0 then (rs0 s).got visB else []
def reqT (s : List UInt8) : List UInt8 := if reqE s = 0 then (reqA s).got visB else []
def reqN (s : List UInt8) : Int := if reqE s = 0 then (reqB s).verV else 0

def staA (s : List UInt8) : Rs := (rs0 s).ver.fixed [32]
def validS (n : Int) : Bool := decide (100 ≤ n ∧ n ≤ 599)
def staB (s : List UInt8) : Rs := (((staA s).num 3).expect (validS (staA s).numV)).fixed [32]
def staZ (s : List UInt8) : Rs := (staB s).skip mayB
def staE (s : List UInt8) : Int := (staZ s).fault s
def staC (s : List UInt8) : Int := if staE s = 0 then (staA s).numV else 0
def staR (s : List UInt8) : List UInt8 := if staE s = 0 then (staB s).got mayB else []
def staN (s : List UInt8) : Int := if staE s = 0 then (rs0 s).verV else 0

theorem takeWhile_append {p : UInt8 → Bool} {a b : List UInt8} (ha : a.all p = true) (hb : b.takeWhile p = []) : (a ++ b).takeWhile p = a := by
  induction a with
  | nil => simpa using hb
  | cons c l ih =>
    simp only [List.all_cons, Bool.and_eq_true] at ha
    rw [List.cons_append, List.takeWhile_cons, if_pos ha.1, ih ha.2]
theorem dropWhile_append {p : UInt8 → Bool} {a b : List UInt8} (ha : a.all p = true) (hb : b.takeWhile p = []) : (a ++ b).dropWhile p = b := by
  have h1 := List.takeWhile_append_dropWhile (p := p) (l := a ++ b)
  rw [takeWhile_append ha hb] at h1
  exact List.append_cancel_left h1
theorem all_takeWhile (p : UInt8 → Bool) (l : List UInt8) : (l.takeWhile p).all p = true := by
  induction l with
  | nil => rfl
  | cons c l ih =>
    rw [List.takeWhile_cons]
    split
    · rename_i h; simp only [List.all_cons, h, ih, Bool.and_self]
    · rfl
theorem tok_vis {c : UInt8} (h : tokB c = true) : visB c = true := by
  unfold tokB tokI at h
  unfold visB visI
  simp at h ⊢
  omega
theorem token_vis {l : List UInt8} (h : token l = true) : l.all visB = true := by
  unfold token at h
  rw [Bool.and_eq_true] at h
  rw [List.all_eq_true]
  exact fun c hc => tok_vis (List.all_eq_true.1 h.2 c hc)

/-- a version's bytes -/
def verL (d1 d2 : UInt8) : List UInt8 := httpL ++ [d1, 46, d2]
structure IsReq (s m t : List UInt8) (d1 d2 : UInt8) : Prop where
  eq : s = m ++ 32 :: (t ++ 32 :: verL d1 d2)
  tok : token m = true
  vis : t.all visB = true
  ne : t ≠ []
  dig1 : digB d1 = true
  dig2 : digB d2 = true
structure IsSta (s : List UInt8) (d1 d2 a b c : UInt8) (r : List UInt8) : Prop where
  eq : s = verL d1 d2 ++ 32 :: a :: b :: c :: 32 :: r
  dig1 : digB d1 = true
  dig2 : digB d2 = true
  one : 49 ≤ a.toNat ∧ a.toNat ≤ 53
  dig3 : digB b = true
  dig4 : digB c = true
  may : r.all mayB = true

theorem digB_iff {c : UInt8} : digB c = true ↔ 48 ≤ c.toNat ∧ c.toNat ≤ 57 := by
  unfold digB digI; simp; omega
theorem digB_not {c : UInt8} : digB c = false ↔ ¬ (48 ≤ c.toNat ∧ c.toNat ≤ 57) := by
  rw [← digB_iff]; simp
theorem atoi1 {a : UInt8} (h : digB a = true) : atoiV [a] = (a.toNat : Int) - 48 := by
  have g := digB_iff.1 h
  unfold atoiV Lib.atoiAll
  simp only
  rw [if_neg (by omega)]
  simp only [Lib.parseMag, Lib.parseUint10, reduceCtorEq, if_false, if_pos g]
  rw [if_neg (by omega), if_neg (by omega)]
  simp only
  rw [if_neg (by omega), if_neg (by omega)]
  simp only
  rw [if_neg (by omega)]; omega
theorem atoi3 {a b c : UInt8} (h : digB a = true) (hb : digB b = true) (hc : digB c = true) : atoiV [a, b, c] = 100 * ((a.toNat : Int) - 48) + 10 * ((b.toNat : Int) - 48) + ((c.toNat : Int) - 48) := by
  have g := digB_iff.1 h
  have g2 := digB_iff.1 hb
  have g3 := digB_iff.1 hc
  unfold atoiV Lib.atoiAll
  simp only
  rw [if_neg (by omega)]
  simp only [Lib.parseMag, Lib.parseUint10, reduceCtorEq, if_false, if_pos g]
  rw [if_neg (by omega), if_neg (by omega)]
  simp only [if_pos g2]
  rw [if_neg (by omega), if_neg (by omega)]
  simp only [if_pos g3]
  rw [if_neg (by omega), if_neg (by omega)]
  simp only
  rw [if_neg (by omega), if_neg (by omega)]
  simp only
  rw [if_neg (by omega)]; omega
end Go.Proofs.YtekaiafhnnpkgaaGreatDoor
