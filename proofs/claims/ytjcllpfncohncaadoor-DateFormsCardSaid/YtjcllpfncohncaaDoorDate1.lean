/- Plain texts: what the date layer reads and writes. Nothing of the program is read here. -/
import Derived.Test.YtjcllpfncohncaaDoorDate0
import Derived.Test.YtjcllpfncohncaaDoorText0
import Derived.Test.YtjcllpfncohncaaDoorTick0
import Derived.Lib.Fields
namespace Go.Proofs.YtjcllpfncohncaaDoor
def sDays : List (List UInt8) := [[77, 111, 110], [84, 117, 101], [87, 101, 100], [84, 104, 117], [70, 114, 105], [83, 97, 116], [83, 117, 110]]
def lDays : List (List UInt8) := [[77, 111, 110, 100, 97, 121], [84, 117, 101, 115, 100, 97, 121], [87, 101, 100, 110, 101, 115, 100, 97, 121], [84, 104, 117, 114, 115, 100, 97, 121], [70, 114, 105, 100, 97, 121], [83, 97, 116, 117, 114, 100, 97, 121], [83, 117, 110, 100, 97, 121]]
def sMonths : List (List UInt8) := [[74, 97, 110], [70, 101, 98], [77, 97, 114], [65, 112, 114], [77, 97, 121], [74, 117, 110], [74, 117, 108], [65, 117, 103], [83, 101, 112], [79, 99, 116], [78, 111, 118], [68, 101, 99]]
/-- a digit's byte -/
def digO (n : Nat) : UInt8 := UInt8.ofNat (48 + n)
/-- a number below 100, by two digits -/
def pad2 (n : Int) : List UInt8 := [digO (n.toNat / 10), digO (n.toNat % 10)]
/-- the first of the names that l begins with, from number i on: its number, its length -/
def leadGo : Nat → List (List UInt8) → List UInt8 → Nat × Nat
  | _, [], _ => (0, 0)
  | i, n :: ns, l => if n.isPrefixOf l then (i, n.length) else leadGo (i + 1) ns l
def leadL (ns : List (List UInt8)) (l : List UInt8) : Nat × Nat := leadGo 0 ns l
theorem lead_step {ns : List (List UInt8)} {l : List UInt8} {k : Nat} (h : k < ns.length) (hb : ns[k].isPrefixOf l = false) : leadGo k (ns.drop k) l = leadGo (k + 1) (ns.drop (k + 1)) l := by
  rw [List.drop_eq_getElem_cons h, leadGo, if_neg (by rw [hb]; simp)]
theorem lead_hit {ns : List (List UInt8)} {l : List UInt8} {k : Nat} (h : k < ns.length) (hb : ns[k].isPrefixOf l = true) : leadGo k (ns.drop k) l = (k, ns[k].length) := by
  rw [List.drop_eq_getElem_cons h, leadGo, if_pos hb]
theorem lead_end {ns : List (List UInt8)} {l : List UInt8} {k : Nat} (h : ¬ k < ns.length) : leadGo k (ns.drop k) l = (0, 0) := by
  rw [List.drop_of_length_le (by omega)]; rfl
/-- do k digits stand ahead? -/
def numB (l : List UInt8) (k : Nat) : Bool := decide (k ≤ l.length) && (l.take k).all digC
def numV (l : List UInt8) (k : Nat) : Nat × Nat := if numB l k then (num (l.take k), k) else (0, 0)
def spdV (l : List UInt8) : Nat × Nat := if Lib.hasPrefix l [32] then (if numB (l.drop 1) 1 then (num ((l.drop 1).take 1), 2) else (0, 0)) else numV l 2
theorem numV_short {l : List UInt8} {k : Nat} (h : l.length < k) : numV l k = (0, 0) := by
  unfold numV numB; rw [decide_eq_false (by omega)]; rfl
theorem numV_no {l : List UInt8} {k : Nat} (h : (l.take k).all digC = false) : numV l k = (0, 0) := by
  unfold numV numB; rw [h, Bool.and_false]; rfl
theorem numV_yes {l : List UInt8} {k : Nat} (h0 : k ≤ l.length) (h : (l.take k).all digC = true) : numV l k = (num (l.take k), k) := by
  unfold numV numB; rw [h, decide_eq_true h0]; rfl
theorem num_lt10 {l : List UInt8} (h : l.all digC = true) {n : Nat} (hl : l.length ≤ n) (hn : n ≤ 4) : num l < 10000 :=
  Nat.lt_of_lt_of_le (num_lt l h) (by rw [show (10000 : Nat) = 10 ^ 4 from rfl]; exact Nat.pow_le_pow_right (by omega) (by omega))
theorem numV_bd (l : List UInt8) {k : Nat} (hk : k ≤ 4) : (numV l k).1 < 10000 ∧ (numV l k).2 ≤ k := by
  unfold numV
  split
  · rename_i h
    unfold numB at h
    rw [Bool.and_eq_true] at h
    exact ⟨num_lt10 h.2 (List.length_take_le _ _) hk, Nat.le_refl _⟩
  · exact ⟨by omega, by omega⟩

/-- what a text says of a date -/
structure Rd where
  (wd d m y h i s : Int)
def Rd.zero : Rd := ⟨0, 0, 0, 0, 0, 0, 0⟩
/-- one letter of a form: what is read ahead, and how long it is -/
def takeL (c : UInt8) (l : List UInt8) (nw : Int) (r : Rd) : Rd × Nat :=
  if c = 119 then ({ r with wd := (leadL sDays l).1 }, (leadL sDays l).2)
  else if c = 87 then ({ r with wd := (leadL lDays l).1 }, (leadL lDays l).2)
  else if c = 100 then ({ r with d := (numV l 2).1 }, (numV l 2).2)
  else if c = 101 then ({ r with d := (spdV l).1 }, (spdV l).2)
  else if c = 109 then ({ r with m := (leadL sMonths l).1 }, (leadL sMonths l).2)
  else if c = 89 then ({ r with y := (numV l 4).1 }, (numV l 4).2)
  else if c = 121 then ({ r with y := nw - (nw - (numV l 2).1) % 100 }, (numV l 2).2)
  else if c = 104 then ({ r with h := (numV l 2).1 }, (numV l 2).2)
  else if c = 105 then ({ r with i := (numV l 2).1 }, (numV l 2).2)
  else if c = 115 then ({ r with s := (numV l 2).1 }, (numV l 2).2)
  else (r, if Lib.hasPrefix l [c] then 1 else 0)
/-- a form -/
def runL (nw : Int) : List UInt8 → List UInt8 → Rd → Option (Rd × List UInt8)
  | [], l, r => some (r, l)
  | c :: cs, l, r => if (takeL c l nw r).2 = 0 then none else runL nw cs (l.drop (takeL c l nw r).2) (takeL c l nw r).1
def validL (r : Rd) : Bool := decide (1970 ≤ r.y ∧ r.y ≤ 9999 ∧ 1 ≤ r.d ∧ r.d ≤ domI r.y r.m ∧ r.h ≤ 23 ∧ r.i ≤ 59 ∧ r.s ≤ 59 ∧ r.wd = wdI (aheadI r.y + cumI r.y r.m + r.d - 1))
def tickL (r : Rd) : Int := (aheadI r.y + cumI r.y r.m + r.d - 1) * 86400 + (r.h * 3600 + r.i * 60 + r.s)
def formL (nw : Int) (f l : List UInt8) : Option Int :=
  match runL nw f l .zero with
  | some (r, []) => if validL r then some (tickL r) else none
  | _ => none
def fixF : List UInt8 := [119, 44, 32, 100, 32, 109, 32, 89, 32, 104, 58, 105, 58, 115, 32, 71, 77, 84]
def oldF : List UInt8 := [87, 44, 32, 100, 45, 109, 45, 121, 32, 104, 58, 105, 58, 115, 32, 71, 77, 84]
def ascF : List UInt8 := [119, 32, 109, 32, 101, 32, 104, 58, 105, 58, 115, 32, 89]
def parseL (nw : Int) (l : List UInt8) : Option Int := (formL nw fixF l).or ((formL nw oldF l).or (formL nw ascF l))

theorem lead_bd (ns : List (List UInt8)) (l : List UInt8) : (leadL ns l).1 ≤ ns.length ∧ (leadL ns l).2 ≤ l.length ∧ (0 < ns.length → (leadL ns l).1 < ns.length) := by
  suffices h : ∀ (k : Nat) (ns : List (List UInt8)), (leadGo k ns l).1 ≤ k + ns.length ∧ (leadGo k ns l).2 ≤ l.length ∧ (0 < k + ns.length → (leadGo k ns l).1 < k + ns.length) by
    have := h 0 ns
    simp only [Nat.zero_add] at this
    exact this
  intro k ns
  induction ns generalizing k with
  | nil => simp [leadGo]
  | cons n ns ih =>
    rw [leadGo]; split
    · rename_i hp
      have := (List.isPrefixOf_iff_prefix.1 hp).length_le
      exact ⟨by simp, this, fun _ => by simp⟩
    · have := ih (k + 1)
      simp only [List.length_cons]
      exact ⟨by omega, this.2.1, fun _ => by omega⟩
theorem numV_le (l : List UInt8) (k : Nat) : (numV l k).2 ≤ l.length := by
  unfold numV numB
  split
  · rename_i h; rw [Bool.and_eq_true] at h; exact of_decide_eq_true h.1
  · omega
theorem prefix_one {l : List UInt8} {c : UInt8} (h : Lib.hasPrefix l [c] = true) : ∃ r, l = c :: r := by
  unfold Lib.hasPrefix at h
  obtain ⟨r, hr⟩ := List.isPrefixOf_iff_prefix.1 h
  exact ⟨r, hr.symm⟩
theorem spdV_le (l : List UInt8) : (spdV l).2 ≤ l.length := by
  unfold spdV
  split
  · rename_i h
    obtain ⟨r, rfl⟩ := prefix_one h
    split
    · rename_i h2
      unfold numB at h2; rw [Bool.and_eq_true] at h2
      have := of_decide_eq_true h2.1
      simp at this ⊢; omega
    · omega
  · exact numV_le _ _
theorem take_le (c : UInt8) (l : List UInt8) (nw : Int) (r : Rd) : (takeL c l nw r).2 ≤ l.length := by
  unfold takeL
  repeat' split
  all_goals first | exact (lead_bd _ _).2.1 | exact numV_le _ _ | exact spdV_le _ | skip
  · rename_i h
    obtain ⟨r, rfl⟩ := prefix_one h
    simp
  · exact Nat.zero_le _
end Go.Proofs.YtjcllpfncohncaaDoor
