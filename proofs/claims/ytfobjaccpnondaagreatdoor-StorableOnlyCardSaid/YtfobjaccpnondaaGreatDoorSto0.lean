/- Which replies may be kept, plainly. -/
import Derived.Test.YtfobjaccpnondaaGreatDoorKFre0
import Derived.Test.YtfobjaccpnondaaGreatDoorKEtag
import Derived.Test.YtfobjaccpnondaaGreatDoorKVary
namespace Go.Proofs.YtfobjaccpnondaaGreatDoor
open Go.RowKit

def prvN : List UInt8 := [112, 114, 105, 118, 97, 116, 101]
def pubN : List UInt8 := [112, 117, 98, 108, 105, 99]
def musN : List UInt8 := [109, 117, 115, 116, 45, 114, 101, 118, 97, 108, 105, 100, 97, 116, 101]
def autN : List UInt8 := [97, 117, 116, 104, 111, 114, 105, 122, 97, 116, 105, 111, 110]
def etgN : List UInt8 := [101, 116, 97, 103]
def lmdN : List UInt8 := [108, 97, 115, 116, 45, 109, 111, 100, 105, 102, 105, 101, 100]
def getM : List UInt8 := [71, 69, 84]
/-- is there a directive of a name? -/
def dirB (l : List Fld) (n : List UInt8) : Bool := (findD (dirsE l) n).isSome
def lastS (st : Int) : Bool := decide (st = 200) || (decide (st = 301) || (decide (st = 404) || decide (st = 410)))
def secB (q : List Fld) : Bool := (valsL q autN).isEmpty
/-- what makes up for an authorization -/
def openB (q l : List Fld) (dev : List UInt8) : Bool := secB q || (dirB l pubN || (dirB l smN || (dirB l musN || (ctlE l dev).2.2.2.1)))
/-- what it is kept for -/
def useB (Y : Int) (l : List Fld) (got : Int) (dev : List UInt8) : Bool := decide (0 < lifeI Y l got dev) || (isE (getL l etgN) || (dateO Y l lmdN).isSome)
def stoB (m : List UInt8) (st : Int) (q l : List Fld) (Y got : Int) (dev : List UInt8) : Bool :=
  m == getM && (lastS st && (!dirB q nosN && (!dirB l nosN && (!dirB l prvN && (!(ctlE l dev).1 && (!allB (valsL l varyN) && (openB q l dev && useB Y l got dev)))))))

/-! What a field more does. -/
theorem vals_snoc (l : List Fld) (n v x : List UInt8) : valsL (l ++ [(n, v)]) x = valsL l x ++ if sameN n x then [v] else [] := by
  rw [vals_append, vals_cons]
  split <;> rfl
theorem dirs_snoc (l : List Fld) (n v : List UInt8) (h : sameN n ccN = true) : dirsE (l ++ [(n, v)]) = dirsE l ++ dirs v := by
  unfold dirsE
  rw [vals_snoc, if_pos h]
  unfold dirsAll
  rw [List.flatMap_append]
  simp
theorem hasD_snoc {l : List Fld} {n v x : List UInt8} (h : sameN n ccN = true) (hd : (findD (dirs v) x).isSome = true) : dirB (l ++ [(n, v)]) x = true := by
  unfold dirB
  rw [dirs_snoc l n v h]
  unfold findD at *
  rw [List.find?_append]
  cases h1 : (dirsE l).find? fun d => lower d.1 == lower x
  · exact hd
  · rfl
theorem nos_is : valD nosN = [noStore] := by decide +kernel
theorem nos_no (L : List (List UInt8)) (dev : List UInt8) : (ofC (L ++ [nosN]) dev).1 = true := by
  have e : listS (L ++ [nosN]) = listS L ++ [noStore] := by unfold listS; rw [List.flatMap_append]; simp [nos_is]
  show (firstS (mineS (listS (L ++ [nosN])) dev) nosN).2 = true
  rw [e, first_any]
  generalize listS L = l
  cases ho : ownN (l ++ [noStore]) dev nosN
  · refine List.any_eq_true.2 ⟨noStore, List.mem_filter.2 ⟨by simp, ?_⟩, by decide⟩
    have hq : ownN (l ++ [noStore]) dev noStore.1 = false := ho
    rw [hq]
    simp [noStore]
  · obtain ⟨d, hd, h⟩ := List.any_eq_true.1 ho
    rw [Bool.and_eq_true] at h
    exact List.any_eq_true.2 ⟨d, List.mem_filter.2 ⟨hd, by rw [h.1, Bool.true_or]⟩, h.2⟩
/-- Cache-Control, Surrogate-Control, Vary, as the statements write them -/
def CcN : List UInt8 := [67, 97, 99, 104, 101, 45, 67, 111, 110, 116, 114, 111, 108]
def ScN : List UInt8 := [83, 117, 114, 114, 111, 103, 97, 116, 101, 45, 67, 111, 110, 116, 114, 111, 108]
def VrN : List UInt8 := [86, 97, 114, 121]
def prvV : List UInt8 := [112, 114, 105, 118, 97, 116, 101, 61, 34, 120, 34]
def neverF : List Fld := [(CcN, nosN), (CcN, prvV), (ScN, nosN), (VrN, [42])]
section
variable {m : List UInt8} {st : Int} {q l : List Fld} {Y got : Int} {dev : List UInt8}
theorem may_nos (h : dirB l nosN = true) : stoB m st q l Y got dev = false := by simp [stoB, h]
theorem may_prv (h : dirB l prvN = true) : stoB m st q l Y got dev = false := by simp [stoB, h]
theorem may_asked (h : dirB q nosN = true) : stoB m st q l Y got dev = false := by simp [stoB, h]
theorem may_ctl (h : (ctlE l dev).1 = true) : stoB m st q l Y got dev = false := by simp [stoB, h]
theorem may_all (h : allB (valsL l varyN) = true) : stoB m st q l Y got dev = false := by simp [stoB, h]
theorem may_get (h : stoB m st q l Y got dev = true) : m = getM := by
  unfold stoB at h
  rw [Bool.and_eq_true] at h
  exact eq_of_beq h.1
theorem may_post : stoB [80, 79, 83, 84] st q l Y got dev = false := rfl
theorem may_bare (h : stoB m st q l Y got dev = true) : stoB m st [] l Y got dev = true := by
  have h1 : dirB [] nosN = false := rfl
  have h2 : secB [] = true := rfl
  simp only [stoB, openB, h1, h2, Bool.and_eq_true, Bool.not_false, Bool.true_or, true_and] at h ⊢
  exact ⟨h.1, h.2.1, h.2.2.2.1, h.2.2.2.2.1, h.2.2.2.2.2.1, h.2.2.2.2.2.2.1, h.2.2.2.2.2.2.2.2⟩
theorem may_never (k : Nat) (hk : k < neverF.length) : stoB m st q (l ++ [neverF[k]]) Y got dev = false := by
  have hk' : k < 4 := hk
  match k, hk' with
  | 0, _ => exact may_nos (hasD_snoc (n := CcN) (v := nosN) (by decide) (by decide +kernel))
  | 1, _ => exact may_prv (hasD_snoc (n := CcN) (v := prvV) (by decide) (by decide +kernel))
  | 2, _ =>
    refine may_ctl ?_
    show (ofC (valsL (l ++ [(ScN, nosN)]) scN) dev).1 = true
    rw [vals_snoc, if_pos (show sameN ScN scN = true from by decide)]
    exact nos_no _ _
  | 3, _ =>
    refine may_all ?_
    show allB (valsL (l ++ [(VrN, [42])]) varyN) = true
    rw [vals_snoc, if_pos (show sameN VrN varyN = true from by decide)]
    unfold allB
    rw [List.any_append, show ([[42]] : List (List UInt8)).any badV = true from by decide +kernel, Bool.or_true]
theorem may_ask : stoB m st (q ++ [(CcN, nosN)]) l Y got dev = false := may_asked (hasD_snoc (n := CcN) (v := nosN) (by decide) (by decide +kernel))
/-- the names that count -/
def countN : List (List UInt8) := [ccN, scN, varyN, etgN, lmdN, exN, dtN]
theorem may_other {f : Fld} (h : hasN countN f.1 = false) : stoB m st q (l ++ [f]) Y got dev = stoB m st q l Y got dev := by
  obtain ⟨n, v⟩ := f
  have key : ∀ x ∈ countN, valsL (l ++ [(n, v)]) x = valsL l x := fun x hx => by
    rw [vals_snoc]
    have : sameN x n = false := by
      have h1 := List.any_eq_false.1 h x hx
      simpa using h1
    rw [sameN_comm] at this
    rw [this]
    simp
  have k1 := key ccN (by simp [countN])
  have k2 := key scN (by simp [countN])
  have k3 := key varyN (by simp [countN])
  have k4 := key etgN (by simp [countN])
  have k5 := key lmdN (by simp [countN])
  have k6 := key exN (by simp [countN])
  have k7 := key dtN (by simp [countN])
  have e1 : dirsE (l ++ [(n, v)]) = dirsE l := by unfold dirsE; rw [k1]
  have e2 : ctlE (l ++ [(n, v)]) dev = ctlE l dev := by unfold ctlE; rw [k2]
  have e4 : getL (l ++ [(n, v)]) etgN = getL l etgN := by unfold getL; rw [k4]
  have e5 : dateO Y (l ++ [(n, v)]) lmdN = dateO Y l lmdN := by unfold dateO getL; rw [k5]
  have e6 : dateO Y (l ++ [(n, v)]) exN = dateO Y l exN := by unfold dateO getL; rw [k6]
  have e7 : dateO Y (l ++ [(n, v)]) dtN = dateO Y l dtN := by unfold dateO getL; rw [k7]
  have e8 : hasF (l ++ [(n, v)]) exN = hasF l exN := by unfold hasF; rw [k6]
  have e9 : dateR Y (l ++ [(n, v)]) got exN = dateR Y l got exN := by unfold dateR sentI; rw [e6, e7, e8]
  have e10 : lifeI Y (l ++ [(n, v)]) got dev = lifeI Y l got dev := by unfold lifeI lifeR; rw [e1, e2, e9]
  unfold stoB openB useB dirB
  rw [e1, e2, k3, e4, e5, e10]
end
end Go.Proofs.YtfobjaccpnondaaGreatDoor
