/- Lines that are put: plain lists of bytes, and what they are read as. Nothing of the program is read here. -/
import Derived.Test.YtinfflceglgneaaDoorLine1
import Derived.Lib.ItoaNum
namespace Go.Proofs.YtinfflceglgneaaDoor
def bitB (n : Int) : UInt8 := if n = 0 then 48 else 49
def verN (n : Int) : List UInt8 := [72, 84, 84, 80, 47, 49, 46] ++ [bitB n]
def reqLine (m t : List UInt8) (n : Int) : List UInt8 := m ++ [32] ++ t ++ [32] ++ verN n
def validM (n : Int) : Bool := decide (n = 0 ∨ n = 1)
def target (l : List UInt8) : Bool := l.all visB && !l.isEmpty
def putRQ (m t : List UInt8) (n : Int) : Int := if token m && target t && validM n then (if 1024 < t.length ∨ 2048 < (reqLine m t n).length then 3 else 0) else 4
def putRL (m t : List UInt8) (n : Int) : List UInt8 := if putRQ m t n = 0 then reqLine m t n else []
def code3 (n : Int) : List UInt8 := [UInt8.ofNat (48 + n.toNat / 100), UInt8.ofNat (48 + n.toNat / 10 % 10), UInt8.ofNat (48 + n.toNat % 10)]
def staLine (c : Int) (r : List UInt8) (n : Int) : List UInt8 := verN n ++ [32] ++ code3 c ++ [32] ++ r
def putSQ (c : Int) (r : List UInt8) (n : Int) : Int := if validS c && r.all mayB && validM n then (if 2048 < (staLine c r n).length then 3 else 0) else 4
def putSL (c : Int) (r : List UInt8) (n : Int) : List UInt8 := if putSQ c r n = 0 then staLine c r n else []
theorem dec3 {n : Nat} (h1 : 100 ≤ n) (h2 : n ≤ 999) : Lib.decDigits n = [UInt8.ofNat (48 + n / 100), UInt8.ofNat (48 + n / 10 % 10), UInt8.ofNat (48 + n % 10)] := by
  rw [Lib.decDigits, dif_neg (by omega), Lib.decDigits, dif_neg (by omega), Lib.decDigits, dif_pos (by omega)]
  have : n / 10 / 10 = n / 100 := by omega
  rw [this]; rfl
theorem itoa3 {n : Int} (h1 : 100 ≤ n) (h2 : n ≤ 599) : Lib.itoa n = code3 n := by
  unfold Lib.itoa
  rw [if_neg (by omega)]
  exact dec3 (n := n.toNat) (by omega) (by omega)
theorem drop_all (p : UInt8 → Bool) (l : List UInt8) : (l.dropWhile p).isEmpty = l.all p := by
  induction l with
  | nil => rfl
  | cons c l ih =>
    rw [List.dropWhile_cons, List.all_cons]
    cases h : p c
    · rfl
    · simpa using ih
end Go.Proofs.YtinfflceglgneaaDoor
