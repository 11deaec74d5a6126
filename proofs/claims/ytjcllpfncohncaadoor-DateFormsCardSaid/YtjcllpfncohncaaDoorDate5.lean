/- Plain texts: the document's reading of a text, and that it is the program's. Nothing of the program is read here. -/
import Derived.Test.YtjcllpfncohncaaDoorDate4
import Derived.Test.YtjcllpfncohncaaDoorDateZ
namespace Go.Proofs.YtjcllpfncohncaaDoor
/-- a date that may be, months from 1 on -/
def mayD (y m d h i s : Int) : Bool := decide (1970 ≤ y ∧ y ≤ 9999 ∧ 1 ≤ m ∧ m ≤ 12 ∧ 1 ≤ d ∧ d ≤ domI y (m - 1) ∧ 0 ≤ h ∧ h ≤ 23 ∧ 0 ≤ i ∧ i ≤ 59 ∧ 0 ≤ s ∧ s ≤ 59)
/-- a date that is written just as the text -/
def hitB (y : Int) (m : Nat) (d h i s : Int) (t l : List UInt8) : Bool := mayD y m d h i s && (t == l)
def tickM (y : Int) (m : Nat) (d h i s : Int) : Int := tickD y (m - 1) d h i s
def txtA (y : Int) (m : Nat) (d h i s : Int) : List UInt8 := fixT (wdN y (m - 1) d) (m - 1) d y h i s
def txtB (y : Int) (m : Nat) (d h i s : Int) : List UInt8 := oldT (wdN y (m - 1) d) (m - 1) d y h i s
def txtC (y : Int) (m : Nat) (d h i s : Int) : List UInt8 := ascT (wdN y (m - 1) d) (m - 1) (pad2 d) y h i s
def txtD (y : Int) (m : Nat) (d h i s : Int) : List UInt8 := ascT (wdN y (m - 1) d) (m - 1) [32, digO (d.toNat % 10)] y h i s
/-- where the first comma stands; else the length -/
def commaAt (l : List UInt8) : Nat := l.findIdx (· == 44)
def rA (l : List UInt8) : Bool := hitB (numAt l 12 4) (monthAt l 8) (numAt l 5 2) (numAt l 17 2) (numAt l 20 2) (numAt l 23 2) (txtA (numAt l 12 4) (monthAt l 8) (numAt l 5 2) (numAt l 17 2) (numAt l 20 2) (numAt l 23 2)) l
def tA (l : List UInt8) : Int := tickM (numAt l 12 4) (monthAt l 8) (numAt l 5 2) (numAt l 17 2) (numAt l 20 2) (numAt l 23 2)
def rBa (nw : Int) (l : List UInt8) (a : Nat) : Bool := hitB (nearI nw (numAt l (a + 9) 2)) (monthAt l (a + 5)) (numAt l (a + 2) 2) (numAt l (a + 12) 2) (numAt l (a + 12 + 3) 2) (numAt l (a + 12 + 6) 2) (txtB (nearI nw (numAt l (a + 9) 2)) (monthAt l (a + 5)) (numAt l (a + 2) 2) (numAt l (a + 12) 2) (numAt l (a + 12 + 3) 2) (numAt l (a + 12 + 6) 2)) l
def tBa (nw : Int) (l : List UInt8) (a : Nat) : Int := tickM (nearI nw (numAt l (a + 9) 2)) (monthAt l (a + 5)) (numAt l (a + 2) 2) (numAt l (a + 12) 2) (numAt l (a + 12 + 3) 2) (numAt l (a + 12 + 6) 2)
def rC (l : List UInt8) : Bool := hitB (numAt l 20 4) (monthAt l 4) (numAt l 8 2) (numAt l 11 2) (numAt l 14 2) (numAt l 17 2) (txtC (numAt l 20 4) (monthAt l 4) (numAt l 8 2) (numAt l 11 2) (numAt l 14 2) (numAt l 17 2)) l
def tC (l : List UInt8) : Int := tickM (numAt l 20 4) (monthAt l 4) (numAt l 8 2) (numAt l 11 2) (numAt l 14 2) (numAt l 17 2)
def rD (l : List UInt8) : Bool := hitB (numAt l 20 4) (monthAt l 4) (numAt l 9 1) (numAt l 11 2) (numAt l 14 2) (numAt l 17 2) (txtD (numAt l 20 4) (monthAt l 4) (numAt l 9 1) (numAt l 11 2) (numAt l 14 2) (numAt l 17 2)) l
def tD (l : List UInt8) : Int := tickM (numAt l 20 4) (monthAt l 4) (numAt l 9 1) (numAt l 11 2) (numAt l 14 2) (numAt l 17 2)
def rparseL (nw : Int) (l : List UInt8) : Option Int :=
  if rA l then some (tA l) else if (decide (0 ≤ numAt l (commaAt l + 9) 2) && rBa nw l (commaAt l)) then some (tBa nw l (commaAt l)) else if rC l then some (tC l) else if rD l then some (tD l) else none

theorem mayD_bd {y : Int} {m : Nat} {d h i s : Int} (H : mayD y m d h i s = true) : ∃ m0 : Nat, m = m0 + 1 ∧ VD y m0 d h i s := by
  obtain ⟨a, b, c, d', e, f, g, k, l, n, o, p⟩ := of_decide_eq_true H
  refine ⟨m - 1, by omega, a, b, by omega, e, ?_, g, k, l, n, o, p⟩
  rw [show (((m - 1 : Nat) : Int)) = (m : Int) - 1 from by omega]; exact f
theorem vd_mayD {y : Int} {m : Nat} {d h i s : Int} (H : VD y m d h i s) : mayD y ((m + 1 : Nat) : Int) d h i s = true := by
  obtain ⟨a, b, c, d', e, f, g, k, l, n, o⟩ := H
  refine decide_eq_true ⟨a, b, by omega, by omega, d', ?_, f, g, k, l, n, o⟩
  rw [show ((m + 1 : Nat) : Int) - 1 = (m : Int) from by omega]; exact e
theorem hit_vd {y : Int} {m : Nat} {d h i s : Int} {t l : List UInt8} (H : hitB y m d h i s t l = true) : VD y (m - 1) d h i s ∧ l = t := by
  unfold hitB at H
  rw [Bool.and_eq_true, beq_iff_eq] at H
  obtain ⟨m0, rfl, V⟩ := mayD_bd H.1
  exact ⟨V, H.2.symm⟩
theorem numAt_of {l p x : List UInt8} {a k : Nat} (h : l.drop a = p ++ x) (hp : p.length = k) (hd : p.all digC = true) : numAt l a k = num p := by
  have h2 : (p ++ x).take k = p := by rw [← hp]; simp
  have hb : numB (l.drop a) k = true := by
    unfold numB
    rw [h, h2, hd, decide_eq_true (by simp; omega)]; rfl
  rw [numAt_yes hb, h, h2]
theorem numAt_pad2 {l x : List UInt8} {a : Nat} {n : Int} (h : l.drop a = pad2 n ++ x) (h0 : 0 ≤ n) (h1 : n < 100) : numAt l a 2 = n := by
  obtain ⟨p, q⟩ := pad2_all h0 h1
  rw [numAt_of (k := 2) h rfl p, q]; omega
theorem numAt_pad4 {l x : List UInt8} {a : Nat} {n : Int} (h : l.drop a = pad4 n ++ x) (h0 : 0 ≤ n) (h1 : n < 10000) : numAt l a 4 = n := by
  obtain ⟨p, q⟩ := pad4_all h0 h1
  rw [numAt_of (k := 4) h rfl p, q]; omega
theorem numAt_one {l x : List UInt8} {a : Nat} {n : Int} (h : l.drop a = [digO n.toNat] ++ x) (h0 : 0 ≤ n) (h1 : n < 10) : numAt l a 1 = n := by
  obtain ⟨p, q⟩ := one_all h0 h1
  rw [numAt_of (k := 1) h rfl p, q]; omega
theorem monthAt_of {l x : List UInt8} {a m : Nat} (h : l.drop a = sMonths.getD m [] ++ x) (hm : m < 12) : monthAt l a = m + 1 := by
  obtain ⟨p, q⟩ := lead_month m hm x
  unfold monthAt
  rw [h, p]; rfl
theorem VD.bd {y : Int} {m : Nat} {d h i s : Int} (V : VD y m d h i s) : 0 ≤ y ∧ y < 10000 ∧ 0 ≤ d ∧ d < 100 ∧ h < 100 ∧ i < 100 ∧ s < 100 := by
  obtain ⟨a, b, c, d', e, f, g, k, l, n, o⟩ := V
  have := (dom_bd y m).2
  omega

theorem rA_iff (l : List UInt8) (t : Int) : rA l = true ∧ tA l = t ↔ F1 l t := by
  constructor
  · rintro ⟨h, rfl⟩
    obtain ⟨V, e⟩ := hit_vd h
    exact ⟨_, _, _, _, _, _, V, e, rfl⟩
  · rintro ⟨y, m, d, h, i, s, V, e, rfl⟩
    obtain ⟨v1, v2, v3, v4, v5, v6, v7⟩ := V.bd
    obtain ⟨a, b, c, hd⟩ := day_three _ (wdN_lt y m d)
    obtain ⟨p, q, r, hm⟩ := month_three m V.2.2.1
    have e2 : l = [a, b, c] ++ [44, 32] ++ pad2 d ++ [32] ++ [p, q, r] ++ [32] ++ pad4 y ++ [32] ++ pad2 h ++ [58] ++ pad2 i ++ [58] ++ pad2 s ++ [32, 71, 77, 84] := by rw [e]; unfold fixT; rw [hd, hm]
    have n1 : numAt l 12 4 = y := numAt_pad4 (x := [32] ++ pad2 h ++ [58] ++ pad2 i ++ [58] ++ pad2 s ++ [32, 71, 77, 84]) (by rw [e2]; rfl) v1 v2
    have n2 : monthAt l 8 = m + 1 := monthAt_of (x := [32] ++ pad4 y ++ [32] ++ pad2 h ++ [58] ++ pad2 i ++ [58] ++ pad2 s ++ [32, 71, 77, 84]) (by rw [e2, hm]; rfl) V.2.2.1
    have n3 : numAt l 5 2 = d := numAt_pad2 (x := [32] ++ [p, q, r] ++ [32] ++ pad4 y ++ [32] ++ pad2 h ++ [58] ++ pad2 i ++ [58] ++ pad2 s ++ [32, 71, 77, 84]) (by rw [e2]; rfl) v3 v4
    have n4 : numAt l 17 2 = h := numAt_pad2 (x := [58] ++ pad2 i ++ [58] ++ pad2 s ++ [32, 71, 77, 84]) (by rw [e2]; rfl) V.2.2.2.2.2.1 v5
    have n5 : numAt l 20 2 = i := numAt_pad2 (x := [58] ++ pad2 s ++ [32, 71, 77, 84]) (by rw [e2]; rfl) V.2.2.2.2.2.2.2.1 v6
    have n6 : numAt l 23 2 = s := numAt_pad2 (x := [32, 71, 77, 84]) (by rw [e2]; rfl) V.2.2.2.2.2.2.2.2.2.1 v7
    unfold rA tA
    rw [n1, n2, n3, n4, n5, n6]
    refine ⟨?_, rfl⟩
    unfold hitB
    rw [vd_mayD V, e]
    simp [txtA]
theorem comma_long (k : Nat) (h : k < 7) (x : List UInt8) : commaAt (lDays.getD k [] ++ (44 :: x)) = (lDays.getD k []).length := by
  match k, h with
  | 0, _ | 1, _ | 2, _ | 3, _ | 4, _ | 5, _ | 6, _ => rfl
theorem drop_past (n z : List UInt8) (c : Nat) : (n ++ z).drop (n.length + c) = z.drop c := by
  rw [← List.drop_drop, List.drop_left' rfl]
theorem rB_iff (nw : Int) (l : List UInt8) (t : Int) : (decide (0 ≤ numAt l (commaAt l + 9) 2) && rBa nw l (commaAt l)) = true ∧ tBa nw l (commaAt l) = t ↔ F2 nw l t := by
  constructor
  · rintro ⟨h, rfl⟩
    rw [Bool.and_eq_true] at h
    obtain ⟨V, e⟩ := hit_vd h.2
    exact ⟨_, _, _, _, _, _, V, by unfold nearI; omega, by unfold nearI; omega, e, rfl⟩
  · rintro ⟨y, m, d, h, i, s, V, g0, g1, e, rfl⟩
    obtain ⟨v1, v2, v3, v4, v5, v6, v7⟩ := V.bd
    obtain ⟨p, q, r, hm⟩ := month_three m V.2.2.1
    have e2 : l = lDays.getD (wdN y m d) [] ++ (44 :: 32 :: (pad2 d ++ (45 :: p :: q :: r :: 45 :: (pad2 (y % 100) ++ (32 :: (pad2 h ++ (58 :: (pad2 i ++ (58 :: (pad2 s ++ [32, 71, 77, 84])))))))))) := by
      rw [e]; unfold oldT clkT; rw [hm]
      simp only [List.append_assoc, pad2]; rfl
    have hc : commaAt l = (lDays.getD (wdN y m d) []).length := by rw [e2]; exact comma_long _ (wdN_lt y m d) _
    rw [hc]
    obtain ⟨n, hn⟩ : ∃ n, lDays.getD (wdN y m d) [] = n := ⟨_, rfl⟩
    rw [hn] at e2 ⊢
    have dr : ∀ c, l.drop (n.length + c) = (44 :: 32 :: (pad2 d ++ (45 :: p :: q :: r :: 45 :: (pad2 (y % 100) ++ (32 :: (pad2 h ++ (58 :: (pad2 i ++ (58 :: (pad2 s ++ [32, 71, 77, 84])))))))))).drop c := fun c => by rw [e2]; exact drop_past _ _ _
    have n1 : numAt l (n.length + 9) 2 = y % 100 := numAt_pad2 (x := 32 :: (pad2 h ++ (58 :: (pad2 i ++ (58 :: (pad2 s ++ [32, 71, 77, 84])))))) (by rw [dr]; rfl) (by omega) (by omega)
    have n2 : monthAt l (n.length + 5) = m + 1 := monthAt_of (x := 45 :: (pad2 (y % 100) ++ (32 :: (pad2 h ++ (58 :: (pad2 i ++ (58 :: (pad2 s ++ [32, 71, 77, 84])))))))) (by rw [dr, hm]; rfl) V.2.2.1
    have n3 : numAt l (n.length + 2) 2 = d := numAt_pad2 (x := 45 :: p :: q :: r :: 45 :: (pad2 (y % 100) ++ (32 :: (pad2 h ++ (58 :: (pad2 i ++ (58 :: (pad2 s ++ [32, 71, 77, 84])))))))) (by rw [dr]; rfl) v3 v4
    have n4 : numAt l (n.length + 12) 2 = h := numAt_pad2 (x := 58 :: (pad2 i ++ (58 :: (pad2 s ++ [32, 71, 77, 84])))) (by rw [dr]; rfl) V.2.2.2.2.2.1 v5
    have n5 : numAt l (n.length + 12 + 3) 2 = i := numAt_pad2 (x := 58 :: (pad2 s ++ [32, 71, 77, 84])) (by rw [Nat.add_assoc, dr]; rfl) V.2.2.2.2.2.2.2.1 v6
    have n6 : numAt l (n.length + 12 + 6) 2 = s := numAt_pad2 (x := [32, 71, 77, 84]) (by rw [Nat.add_assoc, dr]; rfl) V.2.2.2.2.2.2.2.2.2.1 v7
    unfold rBa tBa
    rw [n1, n2, n3, n4, n5, n6, show nearI nw (y % 100) = y from by unfold nearI; omega]
    refine ⟨?_, rfl⟩
    unfold hitB
    rw [vd_mayD V, decide_eq_true (by omega), e]
    simp [txtB]
theorem rC_sound (l : List UInt8) (h : rC l = true) : F3 l (tC l) := by
  obtain ⟨V, e⟩ := hit_vd h
  exact ⟨_, _, _, _, _, _, V, .inl e, rfl⟩
theorem numAt1_bd (l : List UInt8) (a : Nat) : numAt l a 1 < 10 := by
  unfold numAt
  split
  · rename_i h
    unfold numB at h
    rw [Bool.and_eq_true] at h
    have h1 := of_decide_eq_true h.1
    have := (of_one h.2 (by rw [List.length_take]; omega)).2
    omega
  · omega
theorem rD_sound (l : List UInt8) (h : rD l = true) : F3 l (tD l) := by
  obtain ⟨V, e⟩ := hit_vd h
  have h9 := numAt1_bd l 9
  have h0 := V.2.2.2.1
  exact ⟨_, _, _, _, _, _, V, .inr ⟨h9, e.trans (by unfold txtD; rw [Nat.mod_eq_of_lt (by omega)])⟩, rfl⟩
theorem rCD_of (l : List UInt8) (t : Int) (H : F3 l t) : (rC l = true ∧ tC l = t) ∨ (rC l = false ∧ rD l = true ∧ tD l = t) := by
  obtain ⟨y, m, d, h, i, s, V, e, rfl⟩ := H
  obtain ⟨v1, v2, v3, v4, v5, v6, v7⟩ := V.bd
  obtain ⟨a, b, c, hd⟩ := day_three _ (wdN_lt y m d)
  obtain ⟨p, q, r, hm⟩ := month_three m V.2.2.1
  have main : ∀ dd : List UInt8, dd.length = 2 → l = ascT (wdN y m d) m dd y h i s → numAt l 20 4 = y ∧ monthAt l 4 = m + 1 ∧ numAt l 11 2 = h ∧ numAt l 14 2 = i ∧ numAt l 17 2 = s ∧ l.drop 8 = dd ++ ([32] ++ pad2 h ++ [58] ++ pad2 i ++ [58] ++ pad2 s ++ [32] ++ pad4 y) := by
    intro dd h2 e
    match dd, h2 with
    | [d1, d2], _ =>
    have e2 : l = [a, b, c] ++ [32] ++ [p, q, r] ++ [32] ++ [d1, d2] ++ [32] ++ pad2 h ++ [58] ++ pad2 i ++ [58] ++ pad2 s ++ [32] ++ pad4 y := by
      rw [e]; unfold ascT clkT; rw [hd, hm]
      simp only [List.append_assoc, pad2]; rfl
    exact ⟨numAt_pad4 (x := []) (by rw [e2]; rfl) v1 v2, monthAt_of (x := [32] ++ [d1, d2] ++ [32] ++ pad2 h ++ [58] ++ pad2 i ++ [58] ++ pad2 s ++ [32] ++ pad4 y) (by rw [e2, hm]; rfl) V.2.2.1,
      numAt_pad2 (x := [58] ++ pad2 i ++ [58] ++ pad2 s ++ [32] ++ pad4 y) (by rw [e2]; rfl) V.2.2.2.2.2.1 v5, numAt_pad2 (x := [58] ++ pad2 s ++ [32] ++ pad4 y) (by rw [e2]; rfl) V.2.2.2.2.2.2.2.1 v6,
      numAt_pad2 (x := [32] ++ pad4 y) (by rw [e2]; rfl) V.2.2.2.2.2.2.2.2.2.1 v7, by rw [e2]; rfl⟩
  rcases e with e | ⟨d1, e⟩
  · obtain ⟨n1, n2, n4, n5, n6, n8⟩ := main _ rfl e
    have n3 : numAt l 8 2 = d := numAt_pad2 n8 v3 v4
    refine .inl ?_
    unfold rC tC
    rw [n1, n2, n3, n4, n5, n6]
    refine ⟨?_, rfl⟩
    unfold hitB
    rw [vd_mayD V, e]
    simp [txtC]
  · obtain ⟨n1, n2, n4, n5, n6, n8⟩ := main _ rfl e
    have n9 : l.drop 9 = [digO d.toNat] ++ ([32] ++ pad2 h ++ [58] ++ pad2 i ++ [58] ++ pad2 s ++ [32] ++ pad4 y) := by
      rw [show (9 : Nat) = 8 + 1 from rfl, ← List.drop_drop, n8]; rfl
    have n3 : numAt l 9 1 = d := numAt_one n9 v3 d1
    have n8' : numAt l 8 2 = -1 := by
      refine numAt_no ?_
      unfold numB
      rw [n8]
      have : digC 32 = false := by decide
      simp [this]
    refine .inr ⟨?_, ?_⟩
    · unfold rC hitB
      rw [n8']
      have : mayD (numAt l 20 4) (monthAt l 4) (-1) (numAt l 11 2) (numAt l 14 2) (numAt l 17 2) = false := by
        unfold mayD; refine decide_eq_false (fun h => ?_); have := h.2.2.2.2.1; omega
      rw [this]; rfl
    · unfold rD tD
      rw [n1, n2, n3, n4, n5, n6]
      refine ⟨?_, rfl⟩
      unfold hitB
      have h0 := V.2.2.2.1
      rw [vd_mayD V, e]
      simp [txtD, Nat.mod_eq_of_lt (show d.toNat < 10 by omega)]
theorem rparse_eq (nw : Int) (l : List UInt8) : rparseL nw l = parseL nw l := by
  have key : ∀ t, rparseL nw l = some t → parseL nw l = some t := by
    intro t h
    rw [parseL_iff]
    unfold rparseL at h
    split at h
    · rename_i hA
      exact .inl ((rA_iff l t).1 ⟨hA, Option.some.inj h⟩)
    · rename_i hA
      have N1 : ¬ ∃ u, F1 l u := fun ⟨u, hu⟩ => hA ((rA_iff l u).2 hu).1
      split at h
      · rename_i hB
        exact .inr (.inl ⟨N1, (rB_iff nw l t).1 ⟨hB, Option.some.inj h⟩⟩)
      · rename_i hB
        have N2 : ¬ ∃ u, F2 nw l u := fun ⟨u, hu⟩ => hB ((rB_iff nw l u).2 hu).1
        split at h
        · rename_i hC
          have := rC_sound l hC
          rw [Option.some.inj h] at this
          exact .inr (.inr ⟨N1, N2, this⟩)
        · split at h
          · rename_i hD
            have := rD_sound l hD
            rw [Option.some.inj h] at this
            exact .inr (.inr ⟨N1, N2, this⟩)
          · cases h
  cases hr : rparseL nw l with
  | some t => exact (key t hr).symm
  | none =>
    cases hp : parseL nw l with
    | none => rfl
    | some t =>
      exfalso
      rw [parseL_iff] at hp
      unfold rparseL at hr
      split at hr
      · cases hr
      · rename_i hA
        split at hr
        · cases hr
        · rename_i hB
          split at hr
          · cases hr
          · rename_i hC
            split at hr
            · cases hr
            · rename_i hD
              rcases hp with h | ⟨_, h⟩ | ⟨_, _, h⟩
              · exact hA ((rA_iff l t).2 h).1
              · exact hB ((rB_iff nw l t).2 h).1
              · rcases rCD_of l t h with ⟨h1, _⟩ | ⟨_, h1, _⟩
                · exact hC h1
                · exact hD h1
end Go.Proofs.YtjcllpfncohncaaDoor
