/- Copies of fields; a set of names, and the closures that ask it; the fields that stay. -/
import Derived.Test.YtnhkebbmgiokbaaDoorFieldsB
import Derived.Test.YtnhkebbmgiokbaaDoorGrow2
import Derived.Maps.OwnSet
import Derived.Maps.OwnOps
import Derived.WalkKit
namespace Go.Proofs.YtnhkebbmgiokbaaDoor
open Go.RowKit

/-- block b is a field's two cells -/
def oneF2 (w : World) (b : Nat) (x y : Value) : Prop := w.heap[b]? = some (.cells #[x, y] 38 (0, 0))
theorem oneF2.cells {w : World} {b : Nat} {x y : Value} (h : oneF2 w b x y) : w.cell? ⟨b, 0, none⟩ = some x ∧ w.cell? ⟨b, 1, none⟩ = some y ∧ w.frozen? ⟨b, 0, none⟩ = false ∧ w.frozen? ⟨b, 1, none⟩ = false := by
  unfold oneF2 at h
  simp [World.cell?, World.frozen?, h]
theorem oneF2.bel {w w' : World} {b : Nat} {x y : Value} (h : oneF2 w b x y) (hb : Below w.heap.size w w') : oneF2 w' b x y :=
  (hb.block b (Array.getElem?_eq_some_iff.1 h).1).trans h
theorem oneF2.new (w : World) (x y : Value) : oneF2 (w.alloc (.cells #[x, y] 38)) w.heap.size x y := heap_alloc_new w _

set_option maxHeartbeats 1000000 in
set_option maxRecDepth 100000 in
theorem copied_any (f : Fld) (w : World) (h1 : f.1.length ≤ 281474976710656) (h2 : f.2.length ≤ 281474976710656) :
    Calls Tryd.prog 40 #[fv f] w fun e w' => e = .returned (fv f) ∧ Below w.heap.size w w' := by
  obtain ⟨n, v⟩ := f; simp only at h1 h2
  unfold fv; simp only
  have HP : Hid (oneF2 ((w.alloc (.cells #[.string (bs n), .string (bs v)] 38)).alloc (.cells #[.string ⟨#[]⟩, .string ⟨#[]⟩] 38)) w.heap.size (.string (bs n)) (.string (bs v))) :=
    (oneF2.new _ _ _).bel ((Below.refl _ _).alloc (Nat.le_refl _) _)
  have HR : Hid (oneF2 ((w.alloc (.cells #[.string (bs n), .string (bs v)] 38)).alloc (.cells #[.string ⟨#[]⟩, .string ⟨#[]⟩] 38)) (w.heap.size + 1) (.string ⟨#[]⟩) (.string ⟨#[]⟩)) := by
    have h := oneF2.new (w.alloc (.cells #[.string (bs n), .string (bs v)] 38)) (.string ⟨#[]⟩) (.string ⟨#[]⟩)
    rw [World.size_alloc] at h
    exact h
  have HB : Hid (Below w.heap.size w ((w.alloc (.cells #[.string (bs n), .string (bs v)] 38)).alloc (.cells #[.string ⟨#[]⟩, .string ⟨#[]⟩] 38))) := ((Below.refl _ _).alloc (Nat.le_refl _) _).alloc (by simp) _
  have HZ : Hid (w.heap.size + 2 = ((w.alloc (.cells #[.string (bs n), .string (bs v)] 38)).alloc (.cells #[.string ⟨#[]⟩, .string ⟨#[]⟩] 38)).heap.size) := by show _ = _; simp
  go_enter Tryd.func40, Tryd.ntmps40
  go_wp2_with fail
  generalize (w.alloc (.cells #[.string (bs n), .string (bs v)] 38)).alloc (.cells #[.string ⟨#[]⟩, .string ⟨#[]⟩] 38) = W at *
  refine wp_region_growS (.one 0 false (.one 1 false (.one 3 false (.one 4 false (.one 2 true (.one 5 true (.one 6 false (.one 7 true .done)))))))) (fun x => Below (w.heap.size + 1) W x) (by kernel_rfl) (by kernel_rfl) rfl (by kernel_rfl) (by kernel_rfl) (Below.refl _ _).drew (fun ops hops => ?_)
  simp only [GT.ins, List.getD_cons_zero, List.getD_cons_succ]
  clear hops
  iterate 4
    refine growS_take (by rfl) ?_
    apply Exists.intro
    refine ⟨fun w' hE => ?_, ?_⟩
    · have k1 := (hE.cell (p := ⟨w.heap.size, 0, none⟩) (by simp)).trans HP.out.cells.1
      have k2 := (hE.cell (p := ⟨w.heap.size, 1, none⟩) (by simp)).trans HP.out.cells.2.1
      go_simp
      try with_reducible rfl
    simp only [Act.put, List.setIfInBounds_toArray, List.set_cons_zero, List.set_cons_succ]
  refine growS_call (by rfl) (fun K hK => ?_)
  go_simp
  refine (clone_l n _ h1).mono ?_
  rintro e w1 ⟨rfl, hb1⟩
  have HS1 : Hid (Below (w.heap.size + 1) W w1) := (Below.refl _ _).drew.trans (hb1.mono (by have := HZ.out; show _ ≤ W.heap.size; omega))
  have HR1 := Lib.hid (HR.out.bel (w' := w1) ((Below.refl _ _).drew.trans hb1))
  have HB1 : Hid (Below w.heap.size w w1) := HB.out.trans (((Below.refl _ _).drew.trans hb1).mono HB.out.size)
  have HZ1 : Hid (w.heap.size + 2 ≤ w1.heap.size) := by have h3 := HZ.out; have h4 := hb1.size; show _ ≤ _; rw [h3]; exact h4
  clear hb1
  refine hK.out _ _ HS1.out ?_
  clear hK K
  refine growS_call (by rfl) (fun K hK => ?_)
  go_simp
  refine (clone_l v _ h2).mono ?_
  rintro e w2 ⟨rfl, hb2⟩
  have HS2 : Hid (Below (w.heap.size + 1) W w2) := HS1.out.trans (hb2.mono (by have := HZ1.out; omega))
  have HR2 := Lib.hid (HR1.out.bel hb2)
  have HB2 : Hid (Below w.heap.size w w2) := HB1.out.trans (hb2.mono HB1.out.size)
  clear hb2
  refine hK.out _ _ HS2.out ?_
  clear hK K
  refine growS_take (by rfl) ?_
  apply Exists.intro
  refine ⟨fun w' hE => ?_, ?_⟩
  · go_simp
    try with_reducible rfl
  simp only [Act.put, List.setIfInBounds_toArray, List.set_cons_zero, List.set_cons_succ]
  refine growS_call (by rfl) (fun K hK => ?_)
  obtain ⟨c1, c2, c3, c4⟩ := HR2.out.cells
  go_simp
  have HC : Hid (oneF2 ((w2.setCell ⟨w.heap.size + 1, 0, none⟩ (.string (bs n))).setCell ⟨w.heap.size + 1, 1, none⟩ (.string (bs v))) (w.heap.size + 1) (.string (bs n)) (.string (bs v))) := by
    have h := HR2.out
    show oneF2 _ _ _ _
    unfold oneF2 at h ⊢
    rw [Lib.heap_setCell_same (Lib.heap_setCell_same h _) _]
    simp
  refine hK.out _ _ ((HS2.out.setCell (Nat.le_refl _) _).setCell (Nat.le_refl _) _) ?_
  have HB3 : Hid (Below w.heap.size w ((w2.setCell ⟨w.heap.size + 1, 0, none⟩ (.string (bs n))).setCell ⟨w.heap.size + 1, 1, none⟩ (.string (bs v)))) := (HB2.out.setCell (Nat.le_succ _) _).setCell (Nat.le_succ _) _
  clear hK K c1 c2 c3 c4
  generalize (w2.setCell ⟨w.heap.size + 1, 0, none⟩ (.string (bs n))).setCell ⟨w.heap.size + 1, 1, none⟩ (.string (bs v)) = w3 at *
  refine growS_done (NoPanic.normal ?_)
  simp only [Exit.then]
  obtain ⟨c1, c2, c3, c4⟩ := HC.out.cells
  go_wp2_with fail
  exact bodyPost_ret (v := .agg #[.string (bs n), .string (bs v)]) (by simp [results, Tryd.results40, go_sem, c1, c2]) rfl ⟨rfl, HB3.out⟩
end Go.Proofs.YtnhkebbmgiokbaaDoor
