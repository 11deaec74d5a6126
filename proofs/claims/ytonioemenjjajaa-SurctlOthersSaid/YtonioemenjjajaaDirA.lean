/- Directives in memory: as values, blocks that hold one, slices of them, those that a call has made, one more appended. -/
import Derived.Test.YtonioemenjjajaaFieldsA
import Derived.Test.YtonioemenjjajaaShelf
import Derived.Test.YtonioemenjjajaaDir0
import Derived.HandedShaped
import Derived.RangeFuncBox
namespace Go.Proofs.Ytonioemenjjajaa
open Go.RowKit

/-- the library's variable that strings.Index looks at holds a number -/
def MaxD (w : World) : Prop := ∃ m : Int, w.cell? ⟨0, 0, none⟩ = some (.int .i64 m)
theorem MaxD.below {w w' : World} {B : Nat} (h : MaxD w) (hb : Below B w w') (hB : w.heap.size ≤ B) : MaxD w' := by
  obtain ⟨m, h⟩ := h
  have hlt : 0 < w.heap.size := block_lt_of_cell h
  exact ⟨m, (hb.cell (p := ⟨0, 0, none⟩) (by show 0 < B; omega)).trans h⟩
theorem MaxD.bel {w w' : World} (h : MaxD w) (hb : Below w.heap.size w w') : MaxD w' := h.below hb (Nat.le_refl _)
theorem maxD_of (W : World) (h : W.ShapedOpen Try.prog) : MaxD W :=
  Go.Proofs.cell_of_shapedOpen_int (zero := #[.int .i64 0]) (t := 3) h (of_decide_eq_true (by kernel_rfl)) (by kernel_rfl) rfl (by kernel_rfl) (by kernel_rfl) Try.underlying3
theorem cutD_any (s sep : List UInt8) (w : World) (hm : MaxD w) (hs : s.length < 4294967281) :
    Calls Try.prog 64 #[.string (bs s), .string (bs sep)] w fun e w' => e = .returned (.tuple #[.string (bs (Lib.cut s sep).1), .string (bs (Lib.cut s sep).2.1), .bool (Lib.cut s sep).2.2]) ∧ Below w.heap.size w w' := by
  obtain ⟨m, hm⟩ := hm
  refine (Try.strings_Cut (bs s) (bs sep) m w (by rw [bs_size]; exact hs) hm).mono ?_
  rw [bs_data, bs_data]
  rintro e w' ⟨he, n, rfl⟩
  have h := Below.refl w.heap.size w
  exact ⟨he, h.os, h.tape, h.output, h.size, h.block⟩

theorem infoD : (Try.prog.info? 39).map (fun i => (i.zero, i.size, i.bytes)) = some (some (.agg #[.string ⟨#[]⟩, .string ⟨#[]⟩, .bool false, .string ⟨#[]⟩]), 4, 56) := by kernel_rfl
/-- a directive as a value, as cells; a list's cells -/
def dvV (d : Dv) : Value := .agg #[.string (bs d.1), .string (bs d.2.1), .bool d.2.2.1, .string (bs d.2.2.2)]
def dvA (d : Dv) : Array Value := #[.string (bs d.1), .string (bs d.2.1), .bool d.2.2.1, .string (bs d.2.2.2)]
def dcs (l : List Dv) : List Value := l.flatMap fun d => [.string (bs d.1), .string (bs d.2.1), .bool d.2.2.1, .string (bs d.2.2.2)]
theorem dcs_len (l : List Dv) : (dcs l).length = l.length * 4 := by
  induction l with
  | nil => rfl
  | cons f r ih => simp [dcs] at ih ⊢; omega
theorem dcs_append (a b : List Dv) : dcs (a ++ b) = dcs a ++ dcs b := by simp [dcs]
theorem dcs_at (l : List Dv) (j : Nat) (hj : j < l.length) : (dcs l)[j * 4]? = some (.string (bs l[j].1)) ∧ (dcs l)[j * 4 + 1]? = some (.string (bs l[j].2.1)) ∧ (dcs l)[j * 4 + 2]? = some (.bool l[j].2.2.1) ∧ (dcs l)[j * 4 + 3]? = some (.string (bs l[j].2.2.2)) := by
  induction l generalizing j with
  | nil => exact absurd hj (by simp)
  | cons f r ih =>
    have e : dcs (f :: r) = .string (bs f.1) :: .string (bs f.2.1) :: .bool f.2.2.1 :: .string (bs f.2.2.2) :: dcs r := by simp [dcs]
    rw [e]
    cases j with
    | zero => exact ⟨rfl, rfl, rfl, rfl⟩
    | succ k =>
      obtain ⟨h1, h2, h3, h4⟩ := ih k (by simpa using hj)
      rw [show (k + 1) * 4 = k * 4 + 4 from by omega]
      exact ⟨h1, h2, h3, h4⟩

/-- block b holds just these cells -/
def dbk (w : World) (b : Nat) (cs : Array Value) : Prop := ∃ T, w.heap[b]? = some (.cells cs T (0, 0))
theorem dbk.cell {w : World} {b : Nat} {cs : Array Value} (h : dbk w b cs) (j : Nat) (u : Value) (hj : cs[j]? = some u) : w.cell? ⟨b, j, none⟩ = some u := by
  obtain ⟨T, h⟩ := h
  exact (cell_of_row w b j cs T _ h).trans hj
theorem dbk.free {w : World} {b : Nat} {cs : Array Value} (h : dbk w b cs) (j : Nat) : w.frozen? ⟨b, j, none⟩ = false := by
  obtain ⟨T, h⟩ := h
  simp [World.frozen?, h]
theorem dbk.set {w : World} {b : Nat} {cs : Array Value} (h : dbk w b cs) (j : Nat) (u : Value) : dbk (w.setCell ⟨b, j, none⟩ u) b (cs.setIfInBounds j u) := by
  obtain ⟨T, h⟩ := h
  exact ⟨T, Lib.heap_setCell_same h u⟩
theorem dbk.keep {w w' : World} {b : Nat} {cs : Array Value} (h : dbk w b cs) (hk : w'.heap[b]? = w.heap[b]?) : dbk w' b cs := by
  obtain ⟨T, h⟩ := h
  exact ⟨T, hk.trans h⟩
theorem dbk.lt {w : World} {b : Nat} {cs : Array Value} (h : dbk w b cs) : b < w.heap.size := by
  obtain ⟨T, h⟩ := h
  exact (Array.getElem?_eq_some_iff.1 h).1
theorem dbk.below {w w' : World} {b : Nat} {cs : Array Value} (h : dbk w b cs) (hb : Below w.heap.size w w') : dbk w' b cs := h.keep (hb.block b h.lt)
theorem dbk.new (w : World) (cs : Array Value) (T : TypeId) : dbk (w.alloc (.cells cs T)) w.heap.size cs := ⟨T, heap_alloc_new w _⟩
theorem dbk.alloc {w : World} {b : Nat} {cs : Array Value} (h : dbk w b cs) (o : Obj) : dbk (w.alloc o) b cs := h.keep (Below.heap_alloc _ _ _ h.lt)
/-- all four cells of a block are stored into -/
def putD (w : World) (b : Nat) (d : Dv) : World := (((w.setCell ⟨b, 0, none⟩ (.string (bs d.1))).setCell ⟨b, 1, none⟩ (.string (bs d.2.1))).setCell ⟨b, 2, none⟩ (.bool d.2.2.1)).setCell ⟨b, 3, none⟩ (.string (bs d.2.2.2))
theorem dbk.putd {w : World} {b : Nat} {d0 : Dv} (h : dbk w b (dvA d0)) (d : Dv) : dbk (putD w b d) b (dvA d) := by
  have := (((h.set 0 (.string (bs d.1))).set 1 (.string (bs d.2.1))).set 2 (.bool d.2.2.1)).set 3 (.string (bs d.2.2.2))
  simpa [dvA, putD] using this
theorem putD_below {B : Nat} {a w : World} {b : Nat} (h : Below B a w) (hb : B ≤ b) (d : Dv) : Below B a (putD w b d) :=
  (((h.setCell (p := ⟨b, 0, none⟩) hb _).setCell (p := ⟨b, 1, none⟩) hb _).setCell (p := ⟨b, 2, none⟩) hb _).setCell (p := ⟨b, 3, none⟩) hb _
theorem dbk.asks {w : World} {b : Nat} {d0 : Dv} (h : dbk w b (dvA d0)) (x y z : Value) :
    w.cell? ⟨b, 0, none⟩ = some (.string (bs d0.1)) ∧ w.frozen? ⟨b, 0, none⟩ = false ∧ (w.setCell ⟨b, 0, none⟩ x).cell? ⟨b, 1, none⟩ = some (.string (bs d0.2.1)) ∧ (w.setCell ⟨b, 0, none⟩ x).frozen? ⟨b, 1, none⟩ = false ∧
    ((w.setCell ⟨b, 0, none⟩ x).setCell ⟨b, 1, none⟩ y).cell? ⟨b, 2, none⟩ = some (.bool d0.2.2.1) ∧ ((w.setCell ⟨b, 0, none⟩ x).setCell ⟨b, 1, none⟩ y).frozen? ⟨b, 2, none⟩ = false ∧
    (((w.setCell ⟨b, 0, none⟩ x).setCell ⟨b, 1, none⟩ y).setCell ⟨b, 2, none⟩ z).cell? ⟨b, 3, none⟩ = some (.string (bs d0.2.2.2)) ∧ (((w.setCell ⟨b, 0, none⟩ x).setCell ⟨b, 1, none⟩ y).setCell ⟨b, 2, none⟩ z).frozen? ⟨b, 3, none⟩ = false :=
  ⟨h.cell 0 _ rfl, h.free 0, (h.set 0 x).cell 1 _ rfl, (h.set 0 x).free 1, ((h.set 0 x).set 1 y).cell 2 _ rfl, ((h.set 0 x).set 1 y).free 2, (((h.set 0 x).set 1 y).set 2 z).cell 3 _ rfl, (((h.set 0 x).set 1 y).set 2 z).free 3⟩

theorem dbk.four {w : World} {b : Nat} {d : Dv} (h : dbk w b (dvA d)) : w.cell? ⟨b, 0, none⟩ = some (.string (bs d.1)) ∧ w.cell? ⟨b, 1, none⟩ = some (.string (bs d.2.1)) ∧ w.cell? ⟨b, 2, none⟩ = some (.bool d.2.2.1) ∧ w.cell? ⟨b, 3, none⟩ = some (.string (bs d.2.2.2)) :=
  ⟨h.cell 0 _ rfl, h.cell 1 _ rfl, h.cell 2 _ rfl, h.cell 3 _ rfl⟩

/-- the slice v reads as the directives l -/
def DL (w : World) (v : Value) (l : List Dv) : Prop :=
  (l = [] ∧ ∃ A c, v = .slice A 0 c) ∨ ∃ b off c, v = .slice (some ⟨b, off, none⟩) l.length c ∧ b < w.heap.size ∧
    ∀ j (hj : j < l.length), w.cell? ⟨b, off + j * 4, none⟩ = some (.string (bs l[j].1)) ∧ w.cell? ⟨b, off + j * 4 + 1, none⟩ = some (.string (bs l[j].2.1)) ∧ w.cell? ⟨b, off + j * 4 + 2, none⟩ = some (.bool l[j].2.2.1) ∧ w.cell? ⟨b, off + j * 4 + 3, none⟩ = some (.string (bs l[j].2.2.2))
theorem DL.form {w : World} {v : Value} {l : List Dv} (h : DL w v l) : ∃ A c, v = .slice A l.length c := by
  rcases h with ⟨rfl, A, c, rfl⟩ | ⟨b, off, c, rfl, _⟩
  · exact ⟨A, c, rfl⟩
  · exact ⟨_, _, rfl⟩
theorem DL.bel {w w' : World} {v : Value} {l : List Dv} (h : DL w v l) (hb : Below w.heap.size w w') : DL w' v l := by
  rcases h with h | ⟨b, off, c, hv, hlt, hc⟩
  · exact .inl h
  · refine .inr ⟨b, off, c, hv, Nat.lt_of_lt_of_le hlt hb.size, fun j hj => ?_⟩
    obtain ⟨h1, h2, h3, h4⟩ := hc j hj
    exact ⟨(hb.cell (p := ⟨b, off + j * 4, none⟩) hlt).trans h1, (hb.cell (p := ⟨b, off + j * 4 + 1, none⟩) hlt).trans h2, (hb.cell (p := ⟨b, off + j * 4 + 2, none⟩) hlt).trans h3, (hb.cell (p := ⟨b, off + j * 4 + 3, none⟩) hlt).trans h4⟩
theorem DL.get {w : World} {A : Option Addr} {n c : Nat} {l : List Dv} (h : DL w (.slice A n c) l) (j : Nat) (hj : j < l.length) :
    ∃ b off, A = some ⟨b, off, none⟩ ∧ b < w.heap.size ∧ w.cell? ⟨b, off + j * 4, none⟩ = some (.string (bs l[j].1)) ∧ w.cell? ⟨b, off + j * 4 + 1, none⟩ = some (.string (bs l[j].2.1)) ∧ w.cell? ⟨b, off + j * 4 + 2, none⟩ = some (.bool l[j].2.2.1) ∧ w.cell? ⟨b, off + j * 4 + 3, none⟩ = some (.string (bs l[j].2.2.2)) := by
  rcases h with ⟨rfl, _⟩ | ⟨b, off, c, hv, hlt, hc⟩
  · exact absurd hj (by simp)
  · simp only [Value.slice.injEq] at hv
    exact ⟨b, off, hv.1, hlt, hc j hj⟩
theorem DL_nil (w : World) : DL w (.slice none 0 0) [] := .inl ⟨rfl, _, _, rfl⟩

/-- a slice of the call's own that holds the directives l -/
def ownD (w : World) (base : Nat) (v : Value) (l : List Dv) : Prop := w.ownsRow base 39 4 v l.length (dcs l)
theorem ownD_nil (w : World) (base : Nat) : ownD w base (.slice none 0 0) [] := World.ownsRow_nil _ _ _ _
theorem ownD.alloc {w : World} {base : Nat} {v : Value} {l : List Dv} (h : ownD w base v l) (o : Obj) : ownD (w.alloc o) base v l := World.ownsRow.alloc h o
theorem ownD.bel {w w' : World} {base : Nat} {v : Value} {l : List Dv} (h : ownD w base v l) (hb : Below w.heap.size w w') : ownD w' base v l := by
  refine ⟨h.1, ?_⟩
  rcases h.2 with hn | ⟨g, cap, cur, hv, hbg, hg, r⟩
  · exact .inl hn
  · exact .inr ⟨g, cap, cur, hv, hbg, by rw [hb.block g (Array.getElem?_eq_some_iff.1 hg).1]; exact hg, r⟩
theorem ownD.mono {w : World} {base base' : Nat} {v : Value} {l : List Dv} (h : ownD w base v l) (hb : base' ≤ base) : ownD w base' v l := by
  refine ⟨h.1, ?_⟩
  rcases h.2 with hn | ⟨g, cap, cur, hv, hbg, r⟩
  · exact .inl hn
  · exact .inr ⟨g, cap, cur, hv, by omega, r⟩
theorem ownD.dl {w : World} {base : Nat} {v : Value} {l : List Dv} (h : ownD w base v l) : DL w v l := by
  rcases h.2 with ⟨rfl, hn⟩ | ⟨g, cap, cur, rfl, hb, hg, hnc, hcm, hcs, ht⟩
  · exact .inl ⟨List.eq_nil_of_length_eq_zero hn, _, _, rfl⟩
  · refine .inr ⟨g, 0, cap, rfl, (Array.getElem?_eq_some_iff.1 hg).1, fun j hj => ?_⟩
    obtain ⟨h1, h2, h3, h4⟩ := dcs_at l j hj
    have hh : w.ownsRow base 39 4 (.slice (some ⟨g, 0, none⟩) l.length cap) l.length (dcs l) := h
    rw [Nat.zero_add, hh.cellAt (j * 4) (by omega), hh.cellAt (j * 4 + 1) (by omega), hh.cellAt (j * 4 + 2) (by omega), hh.cellAt (j * 4 + 3) (by omega)]
    exact ⟨h1, h2, h3, h4⟩
theorem ownD.form {w : World} {base : Nat} {v : Value} {l : List Dv} (h : ownD w base v l) : ∃ A c, v = .slice A l.length c := h.dl.form
/-- 'append(l, d)': the directives, and d. (The new one lies in a block of its own, laid just ahead.) -/
theorem wpList_appD {w0 w : World} {ops : Array Oper} {rest : List Oper} {o : Oper} {a : Act} {Q : Exit → Act → World → Prop} (hgd : o.guard = none) (s x : Operand)
    (ho : o.op = .call { callee := .builtin .append, args := #[s, x], argTypes := #[26, 26] })
    (base B : Nat) (v : Value) (l : List Dv) (d : Dv) (hs : a.eval s = v) (hown : ownD w base v l) (hb : Below B w0 w) (hBb : B ≤ base) (hbase : base ≤ w.heap.size)
    {g : Nat} (hx : a.eval x = .slice (some ⟨g, 0, none⟩) 1 1) (hlen : l.length + 1 ≤ 4294967296)
    (h : ∀ v' w', Hid (ownD w' base v' (l ++ [d])) → Hid (Below B w0 w') → Hid (∀ b, b < base → w'.heap[b]? = w.heap[b]?) → wpList Try.prog ops Q rest (a.put o.dst v') w') (hg : g = w.heap.size := by simp) :
    wpList Try.prog ops Q (o :: rest) a (w.alloc (.cells #[.string (bs d.1), .string (bs d.2.1), .bool d.2.2.1, .string (bs d.2.2.2)] 39)) := by
  obtain ⟨i0, hi, hz0, hz1, hz2⟩ := info_parts infoD
  subst hg
  refine wpList_append_own _ hgd s x 26 ho base 39 i0 (.agg #[.string ⟨#[]⟩, .string ⟨#[]⟩, .bool false, .string ⟨#[]⟩]) 4 56 Try.underlying26 hi hz0 hz1 hz2 rfl (by decide) v l.length _ hs (hown.alloc _) ⟨w.heap.size, 0, none⟩ 1 1 [.string (bs d.1), .string (bs d.2.1), .bool d.2.2.1, .string (bs d.2.2.2)] hx rfl ?_ ?_ ?_ ?_ ?_ ?_
  · exact World.news_of_block (heap_alloc_new w _)
  · intro v hv; simp at hv; rcases hv with rfl | rfl | rfl | rfl <;> rfl
  · unfold maxLen; omega
  · omega
  · simp; omega
  · intro v' w' h1 h2 _
    have hge : ∀ k, v.ownBlock = some k → base ≤ k := fun k hk => (World.ownsRow.lt hown k hk).1
    refine h v' w' ?_ ?_ ?_
    · have : (l ++ [d]).length = l.length + 1 := by simp
      show ownD _ _ _ _
      unfold ownD
      rw [this, dcs_append]
      exact h1
    · exact (hb.alloc (by omega) _).grown h2 (by simp; omega) (fun k hk => Nat.le_trans hBb (hge k hk))
    · intro b hb
      rw [h2.block b (by simp; omega) (fun e => by have := hge b e.symm; omega)]
      exact Below.heap_alloc _ _ _ (by omega)
end Go.Proofs.Ytonioemenjjajaa
