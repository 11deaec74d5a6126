/- Plain texts: a form and what it reads. Nothing of the program is read here. -/
import Derived.Test.YtjcllpfncohncaaDoorDate2
namespace Go.Proofs.YtjcllpfncohncaaDoor
/-- which part of a date a letter stands for -/
def fld (c : UInt8) : Nat := if c = 119 ∨ c = 87 then 1 else if c = 100 ∨ c = 101 then 2 else if c = 109 then 3 else if c = 89 ∨ c = 121 then 4 else if c = 104 then 5 else if c = 105 then 6 else if c = 115 then 7 else 0
def getF (k : Nat) (r : Rd) : Int := if k = 1 then r.wd else if k = 2 then r.d else if k = 3 then r.m else if k = 4 then r.y else if k = 5 then r.h else if k = 6 then r.i else if k = 7 then r.s else 0
/-- how a part is written -/
def Rend (nw : Int) (c : UInt8) (v : Int) (p : List UInt8) : Prop :=
  if c = 119 then ∃ k : Nat, k < 7 ∧ v = k ∧ p = sDays.getD k []
  else if c = 87 then ∃ k : Nat, k < 7 ∧ v = k ∧ p = lDays.getD k []
  else if c = 100 then 0 ≤ v ∧ v < 100 ∧ p = pad2 v
  else if c = 101 then 0 ≤ v ∧ ((v < 100 ∧ p = pad2 v) ∨ (v < 10 ∧ p = [32, digO v.toNat]))
  else if c = 109 then ∃ k : Nat, k < 12 ∧ v = k ∧ p = sMonths.getD k []
  else if c = 89 then 0 ≤ v ∧ v < 10000 ∧ p = pad4 v
  else if c = 121 then nw - 99 ≤ v ∧ v ≤ nw ∧ p = pad2 (v % 100)
  else if c = 104 then 0 ≤ v ∧ v < 100 ∧ p = pad2 v
  else if c = 105 then 0 ≤ v ∧ v < 100 ∧ p = pad2 v
  else if c = 115 then 0 ≤ v ∧ v < 100 ∧ p = pad2 v
  else p = [c]
def Rends (nw : Int) : List UInt8 → Rd → List UInt8 → Prop
  | [], _, l => l = []
  | c :: cs, r, l => ∃ p q, l = p ++ q ∧ Rend nw c (getF (fld c) r) p ∧ Rends nw cs r q
/-- r with a letter's part out of another one -/
def updR (c : UInt8) (r0 r : Rd) : Rd :=
  if fld c = 1 then { r0 with wd := r.wd } else if fld c = 2 then { r0 with d := r.d } else if fld c = 3 then { r0 with m := r.m } else if fld c = 4 then { r0 with y := r.y }
  else if fld c = 5 then { r0 with h := r.h } else if fld c = 6 then { r0 with i := r.i } else if fld c = 7 then { r0 with s := r.s } else r0

theorem letter_cases (c : UInt8) : c = 119 ∨ c = 87 ∨ c = 100 ∨ c = 101 ∨ c = 109 ∨ c = 89 ∨ c = 121 ∨ c = 104 ∨ c = 105 ∨ c = 115 ∨ (¬ c = 119 ∧ ¬ c = 87 ∧ ¬ c = 100 ∧ ¬ c = 101 ∧ ¬ c = 109 ∧ ¬ c = 89 ∧ ¬ c = 121 ∧ ¬ c = 104 ∧ ¬ c = 105 ∧ ¬ c = 115) := by
  by_cases a1 : c = 119; · simp [a1]
  by_cases a2 : c = 87; · simp [a2]
  by_cases a3 : c = 100; · simp [a3]
  by_cases a4 : c = 101; · simp [a4]
  by_cases a5 : c = 109; · simp [a5]
  by_cases a6 : c = 89; · simp [a6]
  by_cases a7 : c = 121; · simp [a7]
  by_cases a8 : c = 104; · simp [a8]
  by_cases a9 : c = 105; · simp [a9]
  by_cases a10 : c = 115; · simp [a10]
  simp [a1, a2, a3, a4, a5, a6, a7, a8, a9, a10]

/-- what is read is what stands there -/
theorem takeL_sound (c : UInt8) (l : List UInt8) (nw : Int) (r : Rd) (h : (takeL c l nw r).2 ≠ 0) :
    Rend nw c (getF (fld c) (takeL c l nw r).1) (l.take (takeL c l nw r).2) := by
  rcases letter_cases c with rfl | rfl | rfl | rfl | rfl | rfl | rfl | rfl | rfl | rfl | ⟨a1, a2, a3, a4, a5, a6, a7, a8, a9, a10⟩
  · have hb := lead_inv (ns := sDays) (l := l) h
    exact ⟨_, hb.1, rfl, hb.2⟩
  · have hb := lead_inv (ns := lDays) (l := l) h
    exact ⟨_, hb.1, rfl, hb.2⟩
  · obtain ⟨_, b, e, g⟩ := numV_inv (l := l) (k := 2) h
    obtain ⟨p, q⟩ := of_pad2 b g
    show 0 ≤ ((numV l 2).1 : Int) ∧ ((numV l 2).1 : Int) < 100 ∧ l.take (numV l 2).2 = pad2 ((numV l 2).1 : Int)
    rw [e]
    exact ⟨by omega, by show ((num (l.take 2) : Nat) : Int) < 100; omega, p⟩
  · show 0 ≤ ((spdV l).1 : Int) ∧ ((((spdV l).1 : Int) < 100 ∧ l.take (spdV l).2 = pad2 ((spdV l).1 : Int)) ∨ (((spdV l).1 : Int) < 10 ∧ l.take (spdV l).2 = [32, digO ((spdV l).1 : Int).toNat]))
    refine ⟨by omega, ?_⟩
    have h' : (spdV l).2 ≠ 0 := h
    unfold spdV at h' ⊢
    cases hb : Lib.hasPrefix l [32]
    · rw [hb] at h'
      obtain ⟨_, b, e, g⟩ := numV_inv (l := l) (k := 2) h'
      obtain ⟨p, q⟩ := of_pad2 b g
      refine .inl ?_
      rw [if_neg (by simp), e]
      exact ⟨by show ((num (l.take 2) : Nat) : Int) < 100; omega, p⟩
    · rw [hb, if_pos rfl] at h'
      obtain ⟨x, rfl⟩ := prefix_one hb
      cases hn : numB ((32 :: x).drop 1) 1
      · rw [hn] at h'; exact absurd rfl h'
      · refine .inr ?_
        have hn2 := hn
        unfold numB at hn2
        rw [Bool.and_eq_true] at hn2
        have hlen := of_decide_eq_true hn2.1
        obtain ⟨p, q⟩ := of_one hn2.2 (by rw [List.length_take]; omega)
        rw [if_pos rfl, if_pos rfl]
        refine ⟨by show ((num (((32 :: x).drop 1).take 1) : Nat) : Int) < 10; omega, ?_⟩
        show 32 :: x.take 1 = [32, digO (num (x.take 1))]
        have p' : x.take 1 = [digO (num (x.take 1))] := p
        rw [← p']
  · have hb := lead_inv (ns := sMonths) (l := l) h
    exact ⟨_, hb.1, rfl, hb.2⟩
  · obtain ⟨_, b, e, g⟩ := numV_inv (l := l) (k := 4) h
    obtain ⟨p, q⟩ := of_pad4 b g
    show 0 ≤ ((numV l 4).1 : Int) ∧ ((numV l 4).1 : Int) < 10000 ∧ l.take (numV l 4).2 = pad4 ((numV l 4).1 : Int)
    rw [e]
    exact ⟨by omega, by show ((num (l.take 4) : Nat) : Int) < 10000; omega, p⟩
  · obtain ⟨_, b, e, g⟩ := numV_inv (l := l) (k := 2) h
    obtain ⟨p, q⟩ := of_pad2 b g
    show nw - 99 ≤ nw - (nw - ((numV l 2).1 : Int)) % 100 ∧ nw - (nw - ((numV l 2).1 : Int)) % 100 ≤ nw ∧ l.take (numV l 2).2 = pad2 ((nw - (nw - ((numV l 2).1 : Int)) % 100) % 100)
    rw [e]
    refine ⟨by omega, by omega, ?_⟩
    show l.take 2 = pad2 ((nw - (nw - ((num (l.take 2) : Nat) : Int)) % 100) % 100)
    rw [show (nw - (nw - ((num (l.take 2) : Nat) : Int)) % 100) % 100 = ((num (l.take 2) : Nat) : Int) from by omega]
    exact p
  · obtain ⟨_, b, e, g⟩ := numV_inv (l := l) (k := 2) h
    obtain ⟨p, q⟩ := of_pad2 b g
    show 0 ≤ ((numV l 2).1 : Int) ∧ ((numV l 2).1 : Int) < 100 ∧ l.take (numV l 2).2 = pad2 ((numV l 2).1 : Int)
    rw [e]
    exact ⟨by omega, by show ((num (l.take 2) : Nat) : Int) < 100; omega, p⟩
  · obtain ⟨_, b, e, g⟩ := numV_inv (l := l) (k := 2) h
    obtain ⟨p, q⟩ := of_pad2 b g
    show 0 ≤ ((numV l 2).1 : Int) ∧ ((numV l 2).1 : Int) < 100 ∧ l.take (numV l 2).2 = pad2 ((numV l 2).1 : Int)
    rw [e]
    exact ⟨by omega, by show ((num (l.take 2) : Nat) : Int) < 100; omega, p⟩
  · obtain ⟨_, b, e, g⟩ := numV_inv (l := l) (k := 2) h
    obtain ⟨p, q⟩ := of_pad2 b g
    show 0 ≤ ((numV l 2).1 : Int) ∧ ((numV l 2).1 : Int) < 100 ∧ l.take (numV l 2).2 = pad2 ((numV l 2).1 : Int)
    rw [e]
    exact ⟨by omega, by show ((num (l.take 2) : Nat) : Int) < 100; omega, p⟩
  · unfold Rend
    rw [if_neg a1, if_neg a2, if_neg a3, if_neg a4, if_neg a5, if_neg a6, if_neg a7, if_neg a8, if_neg a9, if_neg a10]
    have e : takeL c l nw r = (r, if Lib.hasPrefix l [c] then 1 else 0) := by
      unfold takeL
      rw [if_neg a1, if_neg a2, if_neg a3, if_neg a4, if_neg a5, if_neg a6, if_neg a7, if_neg a8, if_neg a9, if_neg a10]
    rw [e] at h ⊢
    cases hb : Lib.hasPrefix l [c]
    · rw [hb] at h; exact absurd rfl h
    · obtain ⟨x, rfl⟩ := prefix_one hb
      rfl

/-- what is written is read -/
theorem takeL_complete (c : UInt8) (p x : List UInt8) (nw : Int) (r0 r : Rd) (h : Rend nw c (getF (fld c) r) p) :
    takeL c (p ++ x) nw r0 = (updR c r0 r, p.length) ∧ p.length ≠ 0 := by
  rcases letter_cases c with rfl | rfl | rfl | rfl | rfl | rfl | rfl | rfl | rfl | rfl | ⟨a1, a2, a3, a4, a5, a6, a7, a8, a9, a10⟩
  · obtain ⟨k, hk, hv, rfl⟩ := h
    obtain ⟨a, b⟩ := lead_day k hk x
    have hv' : r.wd = k := hv
    refine ⟨?_, by omega⟩
    show (({ r0 with wd := ((leadL sDays (sDays.getD k [] ++ x)).1 : Int) } : Rd), (leadL sDays (sDays.getD k [] ++ x)).2) = (({ r0 with wd := r.wd } : Rd), _)
    rw [a, b, hv']
  · obtain ⟨k, hk, hv, rfl⟩ := h
    obtain ⟨a, b⟩ := lead_long k hk x
    have hv' : r.wd = k := hv
    refine ⟨?_, b⟩
    show (({ r0 with wd := ((leadL lDays (lDays.getD k [] ++ x)).1 : Int) } : Rd), (leadL lDays (lDays.getD k [] ++ x)).2) = (({ r0 with wd := r.wd } : Rd), _)
    rw [a, hv']
  · obtain ⟨h0, h1, rfl⟩ := h
    have h0' : 0 ≤ r.d := h0
    have h1' : r.d < 100 := h1
    obtain ⟨a, b⟩ := pad2_all h0' h1'
    refine ⟨?_, by show (2 : Nat) ≠ 0; omega⟩
    show (({ r0 with d := ((numV (pad2 r.d ++ x) 2).1 : Int) } : Rd), (numV (pad2 r.d ++ x) 2).2) = (({ r0 with d := r.d } : Rd), 2)
    rw [numV_of (k := 2) rfl rfl a, b, show (((r.d.toNat, 2) : Nat × Nat).1 : Int) = r.d from by show ((r.d.toNat : Nat) : Int) = r.d; omega]
  · obtain ⟨h0, h⟩ := h
    have h0' : 0 ≤ r.d := h0
    rcases h with ⟨h1, rfl⟩ | ⟨h1, rfl⟩
    · have h1' : r.d < 100 := h1
      obtain ⟨a, b⟩ := pad2_all h0' h1'
      refine ⟨?_, by show (2 : Nat) ≠ 0; omega⟩
      have hp : Lib.hasPrefix (pad2 r.d ++ x) [32] = false := by
        have hd : digO (r.d.toNat / 10) ≠ 32 := by
          intro e
          have := congrArg UInt8.toNat e
          rw [digO_toNat (by omega)] at this
          have h32 : (32 : UInt8).toNat = 32 := rfl
          omega
        show List.isPrefixOf [32] (digO (r.d.toNat / 10) :: (digO (r.d.toNat % 10) :: x)) = false
        simp [List.isPrefixOf]
        exact fun e => hd e.symm
      show (({ r0 with d := ((spdV (pad2 r.d ++ x)).1 : Int) } : Rd), (spdV (pad2 r.d ++ x)).2) = (({ r0 with d := r.d } : Rd), 2)
      rw [show spdV (pad2 r.d ++ x) = numV (pad2 r.d ++ x) 2 from by unfold spdV; rw [hp]; rfl, numV_of (k := 2) rfl rfl a, b, show (((r.d.toNat, 2) : Nat × Nat).1 : Int) = r.d from by show ((r.d.toNat : Nat) : Int) = r.d; omega]
    · have h1' : r.d < 10 := h1
      obtain ⟨a, b⟩ := one_all h0' h1'
      refine ⟨?_, by show (2 : Nat) ≠ 0; omega⟩
      have hn : numB (digO r.d.toNat :: x) 1 = true := by
        unfold numB
        rw [decide_eq_true (by simp), show (digO r.d.toNat :: x).take 1 = [digO r.d.toNat] from rfl, a]; rfl
      show (({ r0 with d := ((spdV (32 :: digO r.d.toNat :: x)).1 : Int) } : Rd), (spdV (32 :: digO r.d.toNat :: x)).2) = (({ r0 with d := r.d } : Rd), 2)
      rw [show spdV (32 :: digO r.d.toNat :: x) = (r.d.toNat, 2) from by
        unfold spdV
        rw [show Lib.hasPrefix (32 :: digO r.d.toNat :: x) [32] = true from by simp [Lib.hasPrefix, List.isPrefixOf], if_pos rfl, show (32 :: digO r.d.toNat :: x).drop 1 = digO r.d.toNat :: x from rfl, hn, if_pos rfl,
          show (digO r.d.toNat :: x).take 1 = [digO r.d.toNat] from rfl, b], show (((r.d.toNat, 2) : Nat × Nat).1 : Int) = r.d from by show ((r.d.toNat : Nat) : Int) = r.d; omega]
  · obtain ⟨k, hk, hv, rfl⟩ := h
    obtain ⟨a, b⟩ := lead_month k hk x
    have hv' : r.m = k := hv
    refine ⟨?_, by omega⟩
    show (({ r0 with m := ((leadL sMonths (sMonths.getD k [] ++ x)).1 : Int) } : Rd), (leadL sMonths (sMonths.getD k [] ++ x)).2) = (({ r0 with m := r.m } : Rd), _)
    rw [a, b, hv']
  · obtain ⟨h0, h1, rfl⟩ := h
    have h0' : 0 ≤ r.y := h0
    have h1' : r.y < 10000 := h1
    obtain ⟨a, b⟩ := pad4_all h0' h1'
    refine ⟨?_, by show (4 : Nat) ≠ 0; omega⟩
    show (({ r0 with y := ((numV (pad4 r.y ++ x) 4).1 : Int) } : Rd), (numV (pad4 r.y ++ x) 4).2) = (({ r0 with y := r.y } : Rd), 4)
    rw [numV_of (k := 4) rfl rfl a, b, show (((r.y.toNat, 4) : Nat × Nat).1 : Int) = r.y from by show ((r.y.toNat : Nat) : Int) = r.y; omega]
  · obtain ⟨h0, h1, rfl⟩ := h
    have h0' : nw - 99 ≤ r.y := h0
    have h1' : r.y ≤ nw := h1
    obtain ⟨a, b⟩ := pad2_all (n := r.y % 100) (by omega) (by omega)
    refine ⟨?_, by show (2 : Nat) ≠ 0; omega⟩
    show (({ r0 with y := nw - (nw - ((numV (pad2 (r.y % 100) ++ x) 2).1 : Int)) % 100 } : Rd), (numV (pad2 (r.y % 100) ++ x) 2).2) = (({ r0 with y := r.y } : Rd), 2)
    rw [numV_of (k := 2) rfl rfl a, b, show nw - (nw - ((((r.y % 100).toNat, 2) : Nat × Nat).1 : Int)) % 100 = r.y from by show nw - (nw - (((r.y % 100).toNat : Nat) : Int)) % 100 = r.y; omega]
  · obtain ⟨h0, h1, rfl⟩ := h
    have h0' : 0 ≤ r.h := h0
    have h1' : r.h < 100 := h1
    obtain ⟨a, b⟩ := pad2_all h0' h1'
    refine ⟨?_, by show (2 : Nat) ≠ 0; omega⟩
    show (({ r0 with h := ((numV (pad2 r.h ++ x) 2).1 : Int) } : Rd), (numV (pad2 r.h ++ x) 2).2) = (({ r0 with h := r.h } : Rd), 2)
    rw [numV_of (k := 2) rfl rfl a, b, show (((r.h.toNat, 2) : Nat × Nat).1 : Int) = r.h from by show ((r.h.toNat : Nat) : Int) = r.h; omega]
  · obtain ⟨h0, h1, rfl⟩ := h
    have h0' : 0 ≤ r.i := h0
    have h1' : r.i < 100 := h1
    obtain ⟨a, b⟩ := pad2_all h0' h1'
    refine ⟨?_, by show (2 : Nat) ≠ 0; omega⟩
    show (({ r0 with i := ((numV (pad2 r.i ++ x) 2).1 : Int) } : Rd), (numV (pad2 r.i ++ x) 2).2) = (({ r0 with i := r.i } : Rd), 2)
    rw [numV_of (k := 2) rfl rfl a, b, show (((r.i.toNat, 2) : Nat × Nat).1 : Int) = r.i from by show ((r.i.toNat : Nat) : Int) = r.i; omega]
  · obtain ⟨h0, h1, rfl⟩ := h
    have h0' : 0 ≤ r.s := h0
    have h1' : r.s < 100 := h1
    obtain ⟨a, b⟩ := pad2_all h0' h1'
    refine ⟨?_, by show (2 : Nat) ≠ 0; omega⟩
    show (({ r0 with s := ((numV (pad2 r.s ++ x) 2).1 : Int) } : Rd), (numV (pad2 r.s ++ x) 2).2) = (({ r0 with s := r.s } : Rd), 2)
    rw [numV_of (k := 2) rfl rfl a, b, show (((r.s.toNat, 2) : Nat × Nat).1 : Int) = r.s from by show ((r.s.toNat : Nat) : Int) = r.s; omega]
  · have e : takeL c (p ++ x) nw r0 = (r0, if Lib.hasPrefix (p ++ x) [c] then 1 else 0) := by
      unfold takeL
      rw [if_neg a1, if_neg a2, if_neg a3, if_neg a4, if_neg a5, if_neg a6, if_neg a7, if_neg a8, if_neg a9, if_neg a10]
    have hp : p = [c] := by
      unfold Rend at h
      rwa [if_neg a1, if_neg a2, if_neg a3, if_neg a4, if_neg a5, if_neg a6, if_neg a7, if_neg a8, if_neg a9, if_neg a10] at h
    have hf : fld c = 0 := by simp [fld, a1, a2, a3, a4, a5, a6, a7, a8, a9, a10]
    subst hp
    refine ⟨?_, by simp⟩
    rw [e, show Lib.hasPrefix ([c] ++ x) [c] = true from by simp [Lib.hasPrefix, List.isPrefixOf]]
    unfold updR
    rw [hf]; rfl
end Go.Proofs.YtjcllpfncohncaaDoor
