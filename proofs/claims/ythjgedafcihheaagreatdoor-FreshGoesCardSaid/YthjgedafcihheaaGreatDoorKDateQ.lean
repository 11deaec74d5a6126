/- The date layer's Put, walked. -/
import Derived.Test.YthjgedafcihheaaGreatDoorKDateP
import Derived.Test.YthjgedafcihheaaGreatDoorKGrow
namespace Go.Proofs.YthjgedafcihheaaGreatDoor
open Go.RowKit

theorem dec_four (n : Nat) (h : 1000 ≤ n) (h1 : n < 10000) : Lib.decDigits n = [digO (n / 1000), digO (n / 100 % 10), digO (n / 10 % 10), digO (n % 10)] := by
  rw [Lib.decDigits, dif_neg (by omega), Lib.decDigits, dif_neg (by omega), dec_two (n / 10 / 10) (by omega) (by omega)]
  rw [show n / 10 / 10 / 10 = n / 1000 from by omega, show n / 10 / 10 % 10 = n / 100 % 10 from by omega]; rfl
/-- a year, by four digits -/
def pad4 (n : Int) : List UInt8 := [digO (n.toNat / 1000), digO (n.toNat / 100 % 10), digO (n.toNat / 10 % 10), digO (n.toNat % 10)]
theorem itoa_four (n : Int) (h0 : 1000 ≤ n) (h1 : n < 10000) : Lib.itoa n = pad4 n := by
  unfold Lib.itoa
  rw [if_neg (by omega), dec_four _ (by omega) (by omega)]; rfl
/-- a date in the first form -/
def fixT (wd m : Nat) (d y h i s : Int) : List UInt8 :=
  sDays.getD wd [] ++ [44, 32] ++ pad2 d ++ [32] ++ sMonths.getD m [] ++ [32] ++ pad4 y ++ [32] ++ pad2 h ++ [58] ++ pad2 i ++ [58] ++ pad2 s ++ [32, 71, 77, 84]
theorem day_three (k : Nat) (h : k < 7) : ∃ a b c, sDays.getD k [] = [a, b, c] := by
  match k, h with
  | 0, _ | 1, _ | 2, _ | 3, _ | 4, _ | 5, _ | 6, _ => exact ⟨_, _, _, rfl⟩
theorem month_three (k : Nat) (h : k < 12) : ∃ a b c, sMonths.getD k [] = [a, b, c] := by
  match k, h with
  | 0, _ | 1, _ | 2, _ | 3, _ | 4, _ | 5, _ | 6, _ | 7, _ | 8, _ | 9, _ | 10, _ | 11, _ => exact ⟨_, _, _, rfl⟩
theorem strs_getD {w : World} {b : Nat} {ns : List (List UInt8)} {k : Nat} {l : List UInt8} (hb : w.heap[b]? = some (.cells (strs ns) 9 (0, 0))) (hk : k < ns.length) (hl : ns.getD k [] = l) : w.cell? ⟨b, k, none⟩ = some (.string (bs l)) := by
  subst hl
  unfold World.cell?
  simp [hb, strs, hk]
theorem alloc_self (w : World) (c : Array Value) (T : TypeId) : (w.alloc (.cells c T)).heap[w.heap.size]? = some (.cells c T (0, 0)) := by
  show (w.heap.push _)[w.heap.size]? = _
  simp
theorem fields_days (w : World) (ht : Tabs w) :
    Calls Tryz.prog 166 #[.string ⟨#[77, 111, 110, 32, 84, 117, 101, 32, 87, 101, 100, 32, 84, 104, 117, 32, 70, 114, 105, 32, 83, 97, 116, 32, 83, 117, 110]⟩] w fun e w' => e = .returned (.slice (some ⟨w.heap.size, 0, none⟩) 7 7) ∧ w' = w.alloc (.cells (strs sDays) 9) :=
  fields_any _ sDays w (by decide) (by decide) (by decide) ht
theorem fields_months (w : World) (ht : Tabs w) :
    Calls Tryz.prog 166 #[.string ⟨#[74, 97, 110, 32, 70, 101, 98, 32, 77, 97, 114, 32, 65, 112, 114, 32, 77, 97, 121, 32, 74, 117, 110, 32, 74, 117, 108, 32, 65, 117, 103, 32, 83, 101, 112, 32, 79, 99, 116, 32, 78, 111, 118, 32, 68, 101, 99]⟩] w fun e w' => e = .returned (.slice (some ⟨w.heap.size, 0, none⟩) 12 12) ∧ w' = w.alloc (.cells (strs sMonths) 9) :=
  fields_any _ sMonths w (by decide) (by decide) (by decide) ht
theorem grown_block {w w' : World} {b : Nat} {o : Obj} (hb : w.heap[b]? = some o) (h : Below w.heap.size w w') : w'.heap[b]? = some o := (h.block b (lt_of_block hb)).trans hb
theorem fieldsDays_gr (w : World) (ht : Tabs w) :
    Calls Tryz.prog 166 #[.string ⟨#[77, 111, 110, 32, 84, 117, 101, 32, 87, 101, 100, 32, 84, 104, 117, 32, 70, 114, 105, 32, 83, 97, 116, 32, 83, 117, 110]⟩] w fun e w' => ∃ A, e = .returned (.slice (some ⟨A, 0, none⟩) 7 7) ∧ Below w.heap.size w w' ∧ w'.heap[A]? = some (.cells (strs sDays) 9 (0, 0)) :=
  (fields_days w ht).mono fun _ w' ⟨h1, h2⟩ => ⟨_, h1, by subst h2; exact (Below.refl _ _).alloc (Nat.le_refl _) _, by subst h2; exact alloc_self _ _ _⟩
theorem fieldsMonths_gr (w : World) (ht : Tabs w) :
    Calls Tryz.prog 166 #[.string ⟨#[74, 97, 110, 32, 70, 101, 98, 32, 77, 97, 114, 32, 65, 112, 114, 32, 77, 97, 121, 32, 74, 117, 110, 32, 74, 117, 108, 32, 65, 117, 103, 32, 83, 101, 112, 32, 79, 99, 116, 32, 78, 111, 118, 32, 68, 101, 99]⟩] w fun e w' => ∃ A, e = .returned (.slice (some ⟨A, 0, none⟩) 12 12) ∧ Below w.heap.size w w' ∧ w'.heap[A]? = some (.cells (strs sMonths) 9 (0, 0)) :=
  (fields_months w ht).mono fun _ w' ⟨h1, h2⟩ => ⟨_, h1, by subst h2; exact (Below.refl _ _).alloc (Nat.le_refl _) _, by subst h2; exact alloc_self _ _ _⟩
/-- a reading's row in block b: its cells -/
theorem rd_cells {b : Nat} {wd d m y h i s : Int} {w : World} (H : w.heap[b]? = some (.cells (rdRow wd d m y h i s) 162 (0, 0))) :
    w.cell? ⟨b, 0, none⟩ = some (.int .i64 wd) ∧ w.cell? ⟨b, 1, none⟩ = some (.int .i64 d) ∧ w.cell? ⟨b, 2, none⟩ = some (.int .i64 m) ∧ w.cell? ⟨b, 3, none⟩ = some (.int .i64 y) ∧
    w.cell? ⟨b, 4, none⟩ = some (.int .i64 h) ∧ w.cell? ⟨b, 5, none⟩ = some (.int .i64 i) ∧ w.cell? ⟨b, 6, none⟩ = some (.int .i64 s) :=
  rdIn_cells (b := b) (r := ⟨wd, d, m, y, h, i, s⟩) H

end Go.Proofs.YthjgedafcihheaaGreatDoor
