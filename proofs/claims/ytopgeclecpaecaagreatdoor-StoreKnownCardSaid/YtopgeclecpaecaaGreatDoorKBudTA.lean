/- The ring's own steps, and whether a budget was made (values: inlay/store.item). -/
import Derived.Test.YtopgeclecpaecaaGreatDoorKBdM
import Derived.BigRegion
import Derived.Deep.RegionHeld
import Derived.BigQuiet
import Derived.Outline
import Derived.Deep.QuietTactic
namespace Go.Proofs.YtopgeclecpaecaaGreatDoor.BT
open Go.RowKit
set_option maxRecDepth 100000 in
set_option maxHeartbeats 1000000 in
theorem leave_any (yb pb po qb qo : Nat) (k0 k1 k2 k3 k4 k5 k6 k7 k8 k9 k10 u v : Value) (w : World) (hy : bk w yb #[k0, k1, k2, k3, k4, k5, k6, k7, k8, k9, k10, .pointer (some ⟨pb, po, none⟩), .pointer (some ⟨qb, qo, none⟩)])
    (c1 : w.cell? ⟨pb, po + 12, none⟩ = some u) (f1 : w.frozen? ⟨pb, po + 12, none⟩ = false) (c2 : w.cell? ⟨qb, qo + 11, none⟩ = some v) (f2 : w.frozen? ⟨qb, qo + 11, none⟩ = false)
    (ne : pb ≠ qb ∨ po + 12 ≠ qo + 11) :
    Calls Tryz.prog 73 #[.pointer (some ⟨yb, 0, none⟩)] w fun e w' => e = .returned (.tuple #[]) ∧
      Twin w' ((w.setCell ⟨pb, po + 12, none⟩ (.pointer (some ⟨qb, qo, none⟩))).setCell ⟨qb, qo + 11, none⟩ (.pointer (some ⟨pb, po, none⟩))) := by
  have y3 := hy.cell 11 (.pointer (some ⟨pb, po, none⟩)) rfl
  have y4 := hy.cell 12 (.pointer (some ⟨qb, qo, none⟩)) rfl
  have ea : (⟨pb, po + 12, none⟩ : Addr) ≠ ⟨qb, qo + 11, none⟩ := by
    intro e
    simp only [Addr.mk.injEq, and_true] at e
    rcases ne with h | h
    · exact h e.1
    · exact h e.2
  have c3 : (w.setCell ⟨pb, po + 12, none⟩ (.pointer (some ⟨qb, qo, none⟩))).cell? ⟨qb, qo + 11, none⟩ = some v := (World.cell?_setCell_other _ _ _ _ ea).trans c2
  have c4 : (w.setCell ⟨qb, qo + 11, none⟩ (.pointer (some ⟨pb, po, none⟩))).cell? ⟨pb, po + 12, none⟩ = some u := (World.cell?_setCell_other _ _ _ _ ea.symm).trans c1
  clear ea
  have HC := Lib.hid (heap_comm w pb qb (po + 12) (qo + 11) (.pointer (some ⟨qb, qo, none⟩)) (.pointer (some ⟨pb, po, none⟩)) ne)
  clear hy
  go_enter Tryz.func73, Tryz.ntmps73
  go_region
  all_goals go_wp2_with fail
  all_goals go_end0
  all_goals first
    | exact ⟨rfl, rfl, rfl, rfl, rfl⟩
    | exact ⟨rfl, HC.out.symm, rfl, rfl, rfl⟩
set_option maxRecDepth 100000 in
set_option maxHeartbeats 1000000 in
theorem enter_any (yb pb po sb eo : Nat) (k0 k1 k2 k3 k4 k5 k6 k7 k8 k9 k10 u v x : Value) (w : World) (hy : bk w yb #[k0, k1, k2, k3, k4, k5, k6, k7, k8, k9, k10, u, v])
    (e1 : w.cell? ⟨sb, eo + 11, none⟩ = some (.pointer (some ⟨pb, po, none⟩))) (g1 : w.frozen? ⟨sb, eo + 11, none⟩ = false) (c1 : w.cell? ⟨pb, po + 12, none⟩ = some x) (f1 : w.frozen? ⟨pb, po + 12, none⟩ = false)
    (n1 : sb ≠ yb) (n2 : pb ≠ yb) (ne : pb ≠ sb ∨ po + 12 ≠ eo + 11) :
    Calls Tryz.prog 74 #[.pointer (some ⟨yb, 0, none⟩), .pointer (some ⟨sb, eo, none⟩)] w fun e w' => e = .returned (.tuple #[]) ∧
      Twin w' ((((w.setCell ⟨yb, 11, none⟩ (.pointer (some ⟨pb, po, none⟩))).setCell ⟨yb, 12, none⟩ (.pointer (some ⟨sb, eo, none⟩))).setCell ⟨pb, po + 12, none⟩ (.pointer (some ⟨yb, 0, none⟩))).setCell ⟨sb, eo + 11, none⟩ (.pointer (some ⟨yb, 0, none⟩))) := by
  have y3 := hy.cell 11 u rfl
  have fy3 := hy.free 11
  have y4 := (hy.set 11 (.pointer (some ⟨pb, po, none⟩))).cell 12 v rfl
  have fy4 := hy.free 12
  have hz := (hy.set 11 (.pointer (some ⟨pb, po, none⟩))).set 12 (.pointer (some ⟨sb, eo, none⟩))
  have ea : (⟨pb, po + 12, none⟩ : Addr) ≠ ⟨sb, eo + 11, none⟩ := by
    intro e
    simp only [Addr.mk.injEq, and_true] at e
    rcases ne with h | h
    · exact h e.1
    · exact h e.2
  have Z3 := Lib.hid (hz.cell 11 (.pointer (some ⟨pb, po, none⟩)) rfl)
  have Z4 := Lib.hid (hz.cell 12 (.pointer (some ⟨sb, eo, none⟩)) rfl)
  have E3 : Hid (((w.setCell ⟨yb, 11, none⟩ (.pointer (some ⟨pb, po, none⟩))).setCell ⟨yb, 12, none⟩ (.pointer (some ⟨sb, eo, none⟩))).cell? ⟨sb, eo + 11, none⟩ = some (.pointer (some ⟨pb, po, none⟩))) :=
    (World.cell?_setCell_far _ _ _ _ n1.symm).trans ((World.cell?_setCell_far _ _ _ _ n1.symm).trans e1)
  have P3 : Hid (((w.setCell ⟨yb, 11, none⟩ (.pointer (some ⟨pb, po, none⟩))).setCell ⟨yb, 12, none⟩ (.pointer (some ⟨sb, eo, none⟩))).cell? ⟨pb, po + 12, none⟩ = some x) :=
    (World.cell?_setCell_far _ _ _ _ n2.symm).trans ((World.cell?_setCell_far _ _ _ _ n2.symm).trans c1)
  have GE : Hid (((w.setCell ⟨yb, 11, none⟩ (.pointer (some ⟨pb, po, none⟩))).setCell ⟨yb, 12, none⟩ (.pointer (some ⟨sb, eo, none⟩))).frozen? ⟨sb, eo + 11, none⟩ = false) := by show _ = _; simpa using g1
  have GP : Hid (((w.setCell ⟨yb, 11, none⟩ (.pointer (some ⟨pb, po, none⟩))).setCell ⟨yb, 12, none⟩ (.pointer (some ⟨sb, eo, none⟩))).frozen? ⟨pb, po + 12, none⟩ = false) := by show _ = _; simpa using f1
  have HN := Lib.hid ea; have HNE := Lib.hid ne
  clear hy hz ea c1 f1 ne g1
  go_enter Tryz.func74, Tryz.ntmps74
  go_wp2_with fail
  clear y3 fy3 y4 fy4 e1
  generalize hw : (w.setCell ⟨yb, 11, none⟩ (.pointer (some ⟨pb, po, none⟩))).setCell ⟨yb, 12, none⟩ (.pointer (some ⟨sb, eo, none⟩)) = w1 at *
  have HW := Lib.hid hw; clear hw
  have z3 := Z3.out
  have z4 := Z4.out
  have e3 := E3.out
  have p3 := P3.out
  have ge := GE.out
  have gp := GP.out
  have c3 : (w1.setCell ⟨pb, po + 12, none⟩ (.pointer (some ⟨yb, 0, none⟩))).cell? ⟨sb, eo + 11, none⟩ = some (.pointer (some ⟨pb, po, none⟩)) := (World.cell?_setCell_other _ _ _ _ HN.out).trans e3
  have c4 : (w1.setCell ⟨sb, eo + 11, none⟩ (.pointer (some ⟨yb, 0, none⟩))).cell? ⟨pb, po + 12, none⟩ = some x := (World.cell?_setCell_other _ _ _ _ HN.out.symm).trans p3
  have HC := Lib.hid (heap_comm w1 pb sb (po + 12) (eo + 11) (.pointer (some ⟨yb, 0, none⟩)) (.pointer (some ⟨yb, 0, none⟩)) HNE.out)
  go_region
  all_goals go_wp2_with fail
  all_goals go_end0
  all_goals rw [HW.out]
  all_goals first
    | exact ⟨rfl, rfl, rfl, rfl, rfl⟩
    | exact ⟨rfl, HC.out.symm, rfl, rfl, rfl⟩
/-- was the budget made by New? -/
theorem made_nil (w : World) : Calls Tryz.prog 57 #[.pointer none] w fun e w' => e = .returned (.bool false) ∧ w = w' := by
  go_enter Tryz.func57, Tryz.ntmps57
  go_wp2
  go_ret
  exact ⟨rfl, rfl⟩
theorem made_zero (b : Nat) (w : World) (h : bk w b #[.pointer none]) : Calls Tryz.prog 57 #[.pointer (some ⟨b, 0, none⟩)] w fun e w' => e = .returned (.bool false) ∧ w = w' := by
  have c0 := h.cell 0 (.pointer none) rfl
  clear h
  go_enter Tryz.func57, Tryz.ntmps57
  go_wp2
  go_ret
  exact ⟨rfl, rfl⟩
theorem made_any (b sb : Nat) (w : World) (h : bk w b #[.pointer (some ⟨sb, 0, none⟩)]) : Calls Tryz.prog 57 #[.pointer (some ⟨b, 0, none⟩)] w fun e w' => e = .returned (.bool true) ∧ w = w' := by
  have c0 := h.cell 0 (.pointer (some ⟨sb, 0, none⟩)) rfl
  clear h
  go_enter Tryz.func57, Tryz.ntmps57
  go_wp2
  go_ret
  exact ⟨rfl, rfl⟩
end Go.Proofs.YtopgeclecpaecaaGreatDoor.BT
