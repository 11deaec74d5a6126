/- Plain numbers and digits: what the tick layer's functions come to. Nothing of the program is read here. -/
import Derived.Lib.ItoaNum
import Derived.Lib.Strings
namespace Go.Proofs.Ytonioemenjjajaa
/-- the delta of a number -/
def ofI (n : Int) : Int := if n < 0 then 0 else if 2147483648 < n then 2147483648 else n
def addI (a b : Int) : Int := ofI (ofI a + ofI b)
def lessI (a b : Int) : Int := ofI (ofI a - ofI b)
def sinceI (a b : Int) : Int := ofI (b - a)
theorem ofI_mm (n : Int) : ofI n = min (max n 0) 2147483648 := by unfold ofI; split <;> (try split) <;> omega
theorem ofI_lo (n : Int) : 0 ≤ ofI n := by unfold ofI; split <;> (try split) <;> omega
theorem ofI_hi (n : Int) : ofI n ≤ 2147483648 := by unfold ofI; split <;> (try split) <;> omega
theorem ofI_neg {n : Int} (h : n < 0) : ofI n = 0 := by unfold ofI; rw [if_pos h]
theorem ofI_big {n : Int} (h : 2147483648 < n) : ofI n = 2147483648 := by unfold ofI; rw [if_neg (by omega), if_pos h]
theorem ofI_mid {n : Int} (h0 : 0 ≤ n) (h1 : n ≤ 2147483648) : ofI n = n := by unfold ofI; rw [if_neg (by omega), if_neg (by omega)]
theorem ofI_top {n : Int} (h : 2147483648 ≤ n) : ofI n = 2147483648 := by unfold ofI; split <;> (try split) <;> omega
theorem ofI_ofI (n : Int) : ofI (ofI n) = ofI n := ofI_mid (ofI_lo n) (ofI_hi n)
theorem ofI_mono {a b : Int} (h : a ≤ b) : ofI a ≤ ofI b := by unfold ofI; split <;> split <;> (try split) <;> (try split) <;> omega

/-- a digit -/
def digC (c : UInt8) : Bool := decide (48 ≤ (c.toNat : Int) ∧ (c.toNat : Int) ≤ 57)
def num (l : List UInt8) : Nat := l.foldl (fun n c => 10 * n + (c.toNat - 48)) 0
def isDel (l : List UInt8) : Bool := !l.isEmpty && l.all digC
def delI (l : List UInt8) : Int := if isDel l then ofI (num l) else 0
def putTk (n : Int) : List UInt8 := Lib.decDigits (ofI n).toNat
theorem num_snoc (l : List UInt8) (c : UInt8) : num (l ++ [c]) = 10 * num l + (c.toNat - 48) := by unfold num; rw [List.foldl_append]; rfl
theorem num_append (a b : List UInt8) : num (a ++ b) = num a * 10 ^ b.length + num b := by
  suffices h : ∀ (b : List UInt8) (n : Nat), b.foldl (fun n c => 10 * n + (c.toNat - 48)) n = n * 10 ^ b.length + num b by
    unfold num; rw [List.foldl_append]; exact h b _
  intro b
  induction b with
  | nil => intro n; simp [num]
  | cons c b ih =>
    intro n
    rw [List.foldl_cons, ih, show num (c :: b) = (c.toNat - 48) * 10 ^ b.length + num b from by unfold num; rw [List.foldl_cons, ih]; simp [num], List.length_cons, Nat.pow_succ,
      show n * (10 ^ b.length * 10) = 10 * n * 10 ^ b.length from by rw [← Nat.mul_assoc, Nat.mul_comm (n * 10 ^ b.length) 10, Nat.mul_assoc], Nat.add_mul]
    omega
theorem ofI_step (m : Nat) (d : Int) (h0 : 0 ≤ d) : ofI (10 * ofI m + d) = ofI ((10 * m : Nat) + d) := by
  unfold ofI; repeat' split
  all_goals omega
theorem dig_bd {c : UInt8} (h : digC c = true) : 48 ≤ c.toNat ∧ c.toNat ≤ 57 := by
  unfold digC at h; have := of_decide_eq_true h; omega
theorem ofI_num (l : List UInt8) (c : UInt8) (h : digC c = true) : ofI (10 * ofI (num l) + ((c.toNat : Int) - 48)) = ofI (num (l ++ [c])) := by
  have := dig_bd h
  rw [ofI_step _ _ (by omega), num_snoc]
  congr 1; omega
theorem num_cons (c : UInt8) (l : List UInt8) : num (c :: l) = (c.toNat - 48) * 10 ^ l.length + num l := by
  have h := num_append [c] l
  rw [show num [c] = c.toNat - 48 from by unfold num; simp] at h
  exact h
theorem num_lt : ∀ (l : List UInt8), l.all digC = true → num l < 10 ^ l.length
  | [], _ => by simp [num]
  | c :: l, h => by
    rw [List.all_cons, Bool.and_eq_true] at h
    have h1 := num_lt l h.2
    have h2 := dig_bd h.1
    rw [num_cons, List.length_cons, Nat.pow_succ]
    have h3 : (c.toNat - 48) * 10 ^ l.length ≤ 9 * 10 ^ l.length := Nat.mul_le_mul_right _ (by omega)
    omega
/-- the leading noughts are nothing -/
theorem num_zeros (l : List UInt8) : num (48 :: l) = num l := by unfold num; rw [List.foldl_cons]; rfl
theorem num_big {c : UInt8} {l : List UInt8} (h0 : 49 ≤ c.toNat) (hl : 10 ≤ l.length) : 2147483648 < num (c :: l) := by
  have h3 : 10 ^ 10 ≤ 10 ^ l.length := Nat.pow_le_pow_right (by omega) hl
  have h4 : 10 ^ l.length ≤ (c.toNat - 48) * 10 ^ l.length := Nat.le_mul_of_pos_left _ (by omega)
  rw [num_cons]
  omega
theorem dig_of (d : Nat) (h : d < 10) : digC (UInt8.ofNat (48 + d)) = true ∧ (UInt8.ofNat (48 + d)).toNat = 48 + d := by
  have : (UInt8.ofNat (48 + d)).toNat = 48 + d := by simp; omega
  exact ⟨by unfold digC; rw [this]; exact decide_eq_true (by omega), this⟩
theorem dec_all (u : Nat) : (Lib.decDigits u).all digC = true ∧ num (Lib.decDigits u) = u ∧ Lib.decDigits u ≠ [] := by
  induction u using Nat.strongRecOn with
  | _ u ih =>
    rw [Lib.decDigits]
    split
    · rename_i h
      have := dig_of u h
      exact ⟨by rw [List.all_cons, this.1]; rfl, by unfold num; simp only [List.foldl_cons, List.foldl_nil]; rw [this.2]; omega, by simp⟩
    · rename_i h
      obtain ⟨h1, h2, h3⟩ := ih (u / 10) (by omega)
      have := dig_of (u % 10) (by omega)
      refine ⟨by rw [List.all_append, h1, List.all_cons, this.1]; rfl, by rw [num_snoc, h2, this.2]; omega, by simp⟩
theorem del_put (n : Int) : isDel (putTk n) = true ∧ delI (putTk n) = ofI n := by
  obtain ⟨h1, h2, h3⟩ := dec_all (ofI n).toNat
  have hd : isDel (putTk n) = true := by
    unfold isDel putTk; rw [h1]
    cases h : Lib.decDigits (ofI n).toNat with
    | nil => exact absurd h h3
    | cons a l => rfl
  refine ⟨hd, ?_⟩
  unfold delI; rw [if_pos hd]
  unfold putTk; rw [h2]
  have := ofI_lo n
  rw [show (((ofI n).toNat : Nat) : Int) = ofI n from by omega, ofI_ofI]
theorem itoa_put (n : Int) : Lib.itoa (ofI n) = putTk n := by
  unfold Lib.itoa putTk; rw [if_neg (by have := ofI_lo n; omega)]
end Go.Proofs.Ytonioemenjjajaa
