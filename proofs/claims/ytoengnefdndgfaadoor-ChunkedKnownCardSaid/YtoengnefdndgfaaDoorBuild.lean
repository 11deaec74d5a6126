/- A strings.Builder that a call has made: one more text written to it, and what it holds. (The library's copyCheck has, in this translation, no panic of its own: so its shelf contract is not laid here.) -/
import Derived.Test.YtoengnefdndgfaaDoorBytes
import Derived.Test.YtoengnefdndgfaaDoorShelf
import Derived.Lib.Builder
import Derived.Shelf.Strings.Builder1
namespace Go.Proofs.YtoengnefdndgfaaDoor
open Go.RowKit Go.Shelf

theorem sizeBl : (Tryd.prog.info? 46).map (·.size) = some 2 := by kernel_rfl
theorem liesBl : liesAt Tryd.prog Tryd.prog.depth 46 (2 / Tryd.prog.cellsOf 46) 0 46 1 = true := by kernel_rfl
/-- block b is a builder that holds the bytes l -/
def bldr (w : World) (B b : Nat) (l : List UInt8) : Prop := Lib.IsBuilder 46 5 B b (Lib.byteCells l) w
theorem bldr_new (w : World) (B : Nat) (hB : B ≤ w.heap.size) : bldr (w.alloc (.cells #[.pointer none, .slice none 0 0] 46)) B w.heap.size [] :=
  .inl ⟨hB, _, heap_alloc_new w _, World.ownsRow_nil _ _ _ _, by simp [Value.ownBlock]⟩

set_option maxHeartbeats 1000000 in
set_option maxRecDepth 100000 in
theorem copyCheck_any (B b : Nat) (bs' : List Value) (w : World) (h : Lib.IsBuilder 46 5 B b bs' w) :
    Calls Tryd.prog 34 #[.pointer (some ⟨b, 0, none⟩)] w fun e w' => e = .returned (.tuple #[]) ∧ Lib.BuilderAt 46 5 B b (.pointer (some ⟨b, 0, none⟩)) bs' w' ∧ Below B w w' := by
  obtain ⟨j, hj, hjs⟩ := Option.map_eq_some_iff.1 sizeBl
  rcases h with h | h
  · have h0 := h.cell0
    have hfz := h.frozen0
    have hto := Lib.run_to_unsafe (P := Tryd.prog) w (⟨b, 0, none⟩ : Addr) Tryd.underlying44 Tryd.underlying90 hj (by rw [hjs]; decide) h.shape (Nat.zero_lt_succ 1)
    have hne : (callFunc 47 #[.pointer (some ⟨b, 0, none⟩)]).run Tryd.prog w = .ok (.value (.pointer (some ⟨b, 0, none⟩))) w := by
      rw [run_callFunc_extern Tryd.func47 (by kernel_rfl) (by kernel_rfl) (by kernel_rfl) (e := Extern.AbiNoEscape.same) (by kernel_rfl), Lib.run_noEscape]
      rfl
    have hfr := Lib.run_from_unsafe (P := Tryd.prog) w (⟨b, 0, none⟩ : Addr) Tryd.underlying90 Tryd.underlying44 hj h.shape liesBl
    have HH := Lib.hid h; clear h
    go_enter Tryd.func34, Tryd.ntmps34
    go_wp2_with (simp only [hne])
    go_end0
    exact ⟨rfl, HH.out.used _, (Below.refl B w).setCell (p := ⟨b, 0, none⟩) HH.out.1 _⟩
  · have h0 := h.cell0
    have HH := Lib.hid h; clear h
    go_enter Tryd.func34, Tryd.ntmps34
    go_wp2
    rw [Lib.run_neq_ptr_same _ _ Tryd.underlying44 hj]
    go_wp2
    go_end0
    exact ⟨rfl, HH.out, Below.refl B _⟩

set_option maxHeartbeats 1000000 in
set_option maxRecDepth 100000 in
theorem write_any (B b : Nat) (l s : List UInt8) (w : World) (h : bldr w B b l) (hlen : l.length + s.length ≤ 140737488355328) (hBw : B ≤ w.heap.size) :
    Calls Tryd.prog 20 #[.pointer (some ⟨b, 0, none⟩), .string (bs s)] w fun e w' => e = .returned (.tuple #[.int .i64 s.length, .nilIface]) ∧ bldr w' B b (l ++ s) ∧ Below B w w' := by
  obtain ⟨i0, hi, hz0, hz1, hz2⟩ := info_parts infoB
  have hcc := copyCheck_any B b (Lib.byteCells l) w h
  have HCC := Lib.hid hcc; clear hcc h
  go_enter Tryd.func20, Tryd.ntmps20
  go_wp2_with (go_at_call 34; refine HCC.out.mono ?_)
  rintro e w1 ⟨rfl, h1, hb1⟩
  obtain ⟨hB, v, hbk, hown, hne⟩ := h1
  have hl := Lib.byteCells_length l
  have hsz : (bs s).size = s.length := bs_size s
  have hwz := hb1.size
  have c0 : w1.cell? ⟨b, 0, none⟩ = some (.pointer (some ⟨b, 0, none⟩)) := by rw [Lib.cell_of_heap hbk]; rfl
  have c1 : w1.cell? ⟨b, 1, none⟩ = some v := by rw [Lib.cell_of_heap hbk]; rfl
  have HO := Lib.hid hown; have HK := Lib.hid hbk; have HB1 := Lib.hid hb1; have HNE := Lib.hid hne
  have HL := Lib.hid hl; have HSZ := Lib.hid hsz
  clear hown hbk hb1 hne hl hsz
  go_wp2_with (at_builtin; refine Lib.wpList_append_own_string _ rfl _ _ 36 9 rfl B 5 i0 Tryd.underlying36 Tryd.underlying9 hi hz0 hz1 hz2 _ _ _ rfl HO.out (bs s) rfl ?c3 ?c4 ?c5 ?_)
  case c3 => rw [HL.out, HSZ.out]; unfold maxLen; omega
  case c4 => rw [HL.out, HSZ.out]; omega
  case c5 => omega
  intro v' w2 hown' hgrow _
  have hlt : b < w1.heap.size := (Array.getElem?_eq_some_iff.1 HK.out).1
  have hb2 : w2.heap[b]? = some (.cells #[.pointer (some ⟨b, 0, none⟩), v] 46 (0, 0)) := by
    rw [hgrow.block b hlt (fun e => HNE.out e.symm)]
    exact HK.out
  have d0 : w2.cell? ⟨b, 0, none⟩ = some (.pointer (some ⟨b, 0, none⟩)) := by rw [Lib.cell_of_heap hb2]; rfl
  have d1 : w2.cell? ⟨b, 1, none⟩ = some v := by rw [Lib.cell_of_heap hb2]; rfl
  have f1 : w2.frozen? ⟨b, 1, none⟩ = false := Lib.frozen_of_heap hb2 1
  obtain ⟨ao, n', cap, rfl⟩ : ∃ ao n' cap, v' = .slice ao n' cap := by
    rcases hown'.2 with ⟨hv, _⟩ | ⟨g, cap, cur, hv, _⟩
    · exact ⟨_, _, _, hv⟩
    · exact ⟨_, _, _, hv⟩
  have HB2 : Hid (Below B w w2) := HB1.out.grown hgrow (by omega) (fun k hk => (HO.out.lt k hk).1)
  have HK2 := Lib.hid hb2; have HO2 := Lib.hid hown'
  clear hb2 hown' hgrow
  go_wp2
  go_ret2
  refine ⟨by show Ending.returned (.tuple #[.int .i64 ((bs s).size : Int), .nilIface]) = _; rw [HSZ.out], .inr ?_, HB2.out.setCell (p := ⟨b, 1, none⟩) hB _⟩
  refine Lib.BuilderAt.put (T := 46) (e := 5) hB HK2.out (bs' := Lib.byteCells (l ++ s)) ?_ (by decide)
  have h := HO2.out
  rw [Lib.byteCells_append, List.length_append]
  have e : Lib.strCells (bs s) = Lib.byteCells s := by simp [Lib.strCells, Lib.byteCells]
  rw [e] at h
  rw [Lib.byteCells_length s]
  exact h

theorem string_any (B b : Nat) (l : List UInt8) (w : World) (h : bldr w B b l) (hBw : B ≤ w.heap.size) :
    Calls Tryd.prog 22 #[.pointer (some ⟨b, 0, none⟩)] w fun e w' => e = .returned (.string (bs l)) ∧ Below B w w' :=
  Tryd.Builder_String_any B b l w h hBw
end Go.Proofs.YtoengnefdndgfaaDoor
