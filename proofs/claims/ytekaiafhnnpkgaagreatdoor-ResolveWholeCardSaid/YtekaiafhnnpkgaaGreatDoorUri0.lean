/- URIs, plainly: their parts and bytes, what a text is as one, the normal form. Nothing of the program is read here. -/
import Derived.Test.YtekaiafhnnpkgaaGreatDoorFields1
import Derived.Test.YtekaiafhnnpkgaaGreatDoorLine0
import Derived.Lib.Strings
import Derived.Lib.Split
import Derived.Lib.ItoaNum
import Derived.Lib.SplitLaws
namespace Go.Proofs.YtekaiafhnnpkgaaGreatDoor
/-- a hexadecimal digit's value -/
def hxI (n : Int) : Int := if 48 ≤ n ∧ n ≤ 57 then n - 48 else if 97 ≤ n ∧ n ≤ 102 then n - 87 else if 65 ≤ n ∧ n ≤ 70 then n - 55 else -1
def hxB (c : UInt8) : Bool := decide (0 ≤ hxI (c.toNat : Int))
def hxD (c : UInt8) : Nat := (hxI (c.toNat : Int)).toNat
def plainI (n : Int) : Bool := lettI n || decide (n = 45 ∨ n = 46 ∨ n = 95 ∨ n = 126)
def plB (c : UInt8) : Bool := plainI (c.toNat : Int)
def hostI (n : Int) : Bool := lettI n || decide (n = 45 ∨ n = 46)
def hoB (c : UInt8) : Bool := hostI (c.toNat : Int)
/-- does an escape stand at the head; what stands there, and how many bytes it takes -/
def esc3 : List UInt8 → Bool
  | c :: a :: b :: _ => c == 37 && (hxB a && hxB b)
  | _ => false
def hx2 (a b : UInt8) : UInt8 := UInt8.ofNat (16 * hxD a + hxD b)
def fsB : List UInt8 → UInt8
  | c :: a :: b :: _ => if c == 37 && (hxB a && hxB b) then hx2 a b else c
  | c :: _ => c
  | [] => 0
def fsN (l : List UInt8) : Nat := if esc3 l then 3 else 1
/-- a text's bytes, by themselves or as escapes -/
def toks : List UInt8 → List (UInt8 × Bool)
  | c :: a :: b :: r => if c == 37 && (hxB a && hxB b) then (hx2 a b, true) :: toks r else (c, false) :: toks (a :: b :: r)
  | [c, d] => [(c, false), (d, false)]
  | [c] => [(c, false)]
  | [] => []
theorem toks_step {l : List UInt8} (h : l ≠ []) : toks l = (fsB l, esc3 l) :: toks (l.drop (fsN l)) := by
  match l, h with
  | [c], _ => rfl
  | [c, d], _ => rfl
  | c :: a :: b :: r, _ =>
    unfold fsN
    simp only [toks, fsB, esc3]
    by_cases hc : (c == 37 && (hxB a && hxB b)) = true
    · simp only [hc, if_true, List.drop_succ_cons, List.drop_zero]
    · simp only [Bool.eq_false_iff.2 hc, Bool.false_eq_true, if_false, List.drop_succ_cons, List.drop_zero]
theorem fsN_le {l : List UInt8} (h : l ≠ []) : 1 ≤ fsN l ∧ fsN l ≤ l.length := by
  match l, h with
  | [c], _ => exact ⟨Nat.le_refl _, Nat.le_refl _⟩
  | [c, d], _ => exact ⟨Nat.le_refl _, by simp [fsN, esc3]⟩
  | c :: a :: b :: r, _ =>
    unfold fsN
    split <;> simp
def madeP (m : List UInt8) (t : UInt8 × Bool) : Bool := t.2 || (plB t.1 || inI (t.1.toNat : Int) m)
/-- is a text made of plain bytes, escapes and the marks -/
def made (m l : List UInt8) : Bool := (toks l).all (madeP m)
def hostP (t : UInt8 × Bool) : Bool := !t.2 && hoB t.1
def hostOk (l : List UInt8) : Bool := (!l.isEmpty && decide (l.length ≤ 253)) && (toks l).all hostP
def hexU : List UInt8 := [48, 49, 50, 51, 52, 53, 54, 55, 56, 57, 65, 66, 67, 68, 69, 70]
def hxU (n : Nat) : UInt8 := hexU.getD n 0
def rend (t : UInt8 × Bool) : List UInt8 := if t.2 && !plB t.1 then [37, hxU (t.1.toNat / 16), hxU (t.1.toNat % 16)] else [t.1]
/-- escapes of plain bytes undone, others with capital digits -/
def undo (l : List UInt8) : List UInt8 := (toks l).flatMap rend
def pathM : List UInt8 := [33, 36, 38, 39, 40, 41, 42, 43, 44, 59, 61, 58, 64, 47]
def queryM : List UInt8 := [33, 36, 38, 39, 40, 41, 42, 43, 44, 59, 61, 58, 64, 47, 63]
def schH : List UInt8 := [104, 116, 116, 112]
def schS : List UInt8 := [104, 116, 116, 112, 115]
/-- a URI -/
structure Ur where
  sc : List UInt8
  ho : List UInt8
  po : Int
  pa : List UInt8
  qu : List UInt8
  hq : Bool
deriving DecidableEq
def ur0 : Ur := ⟨[], [], 0, [], [], false⟩
def usual (s : List UInt8) : Int := if s = schH then 80 else if s = schS then 443 else 0
def Ur.formed (u : Ur) : Bool :=
  (usual u.sc != 0) && (hostOk u.ho && (decide (0 ≤ u.po) && (decide (u.po ≤ 65535) && (Lib.hasPrefix u.pa [47] && (made pathM u.pa && (made queryM u.qu && (u.hq || u.qu.isEmpty)))))))
def Ur.text (u : Ur) : List UInt8 :=
  u.sc ++ ([58, 47, 47] ++ (u.ho ++ ((if u.po = 0 then [] else 58 :: Lib.itoa u.po) ++ (u.pa ++ if u.hq then 63 :: u.qu else []))))
def Ur.check (u : Ur) : Int := if u.formed then (if 1024 < u.text.length then 3 else 0) else 4
def Ur.put (u : Ur) : List UInt8 := if u.check = 0 then u.text else []
/-- a text's parts, by the marks between them -/
def apartL (s : List UInt8) : Ur :=
  let a := Lib.cut s [58, 47, 47]
  let b := Lib.cut a.2.1 [63]
  let c := Lib.cut b.1 [47]
  let d := Lib.cut c.1 [58]
  ⟨a.1, d.1, atoiV d.2.1, if c.2.2 then 47 :: c.2.1 else [], b.2.1, b.2.2⟩
def Ur.root (u : Ur) : Ur := ⟨u.sc, u.ho, u.po, if u.pa = [] then [47] else u.pa, u.qu, u.hq⟩
def parseU (s : List UInt8) : Ur × Int :=
  if 1024 < s.length then (ur0, 3)
  else if (apartL s).text = s then (if (apartL s).root.check = 0 then ((apartL s).root, 0) else (ur0, (apartL s).root.check))
  else (ur0, 4)
/-- a path's segments -/
def segs : List UInt8 → List (List UInt8)
  | [] => [[]]
  | c :: r => if c == 47 then [] :: segs r else match segs r with | [] => [[c]] | h :: t => (c :: h) :: t
def keepS (kept : List (List UInt8)) (s : List UInt8) : List (List UInt8) := if s = [46] then kept else if s = [46, 46] then kept.dropLast else kept ++ [s]
def keptL (l : List (List UInt8)) : List (List UInt8) := l.foldl keepS []
def dotsK (kept : List (List UInt8)) (p : List UInt8) : List UInt8 :=
  47 :: Lib.join kept [47] ++ (if (!kept.isEmpty) && (Lib.hasSuffix p [47, 46] || Lib.hasSuffix p [47, 46, 46]) then [47] else [])
/-- a path without dots -/
def dotsL (p : List UInt8) : List UInt8 := if Lib.hasPrefix p [47] then dotsK (keptL (segs (p.drop 1))) p else []
def Ur.norm (u : Ur) : Ur := ⟨u.sc, lower u.ho, if u.po = usual u.sc then 0 else u.po, dotsL (undo u.pa), undo u.qu, u.hq⟩
def Ur.normal (u : Ur) : Ur := if u.check = 0 then u.norm else ur0
end Go.Proofs.YtekaiafhnnpkgaaGreatDoor
