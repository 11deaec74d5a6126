/- Directives in memory: as values, blocks that hold one, slices of them, those that a call has made, one more appended. -/
import Derived.Test.YtfobjaccpnondaaGreatDoorKBytes
import Derived.Test.YtfobjaccpnondaaGreatDoorKFieldsA
import Derived.Test.YtfobjaccpnondaaGreatDoorKPlain
import Derived.Test.YtfobjaccpnondaaGreatDoorKTextD
import Derived.Test.YtfobjaccpnondaaGreatDoorKTextT
import Derived.Test.YtfobjaccpnondaaGreatDoorShelf
import Derived.HandedShaped
import Derived.RangeFuncBox
import Derived.RangeFuncNested
import Derived.RangeFuncBound
import Derived.RangeFuncCalls
import Derived.RangeFuncLeaves
import Derived.Shelf.Abstract
import Derived.Shelf.RegionOpen
import Derived.WalkKit
import Derived.OwnWalkIn
import Derived.TacticsInMore
import Derived.LoopNIn
import Derived.LoopIn
import Derived.Maps.AppendAt
namespace Go.Proofs.YtfobjaccpnondaaGreatDoor
open Go.RowKit

/-- the library's variable that strings.Index looks at holds a number -/
def MaxD (w : World) : Prop := ∃ m : Int, w.cell? ⟨5, 0, none⟩ = some (.int .i64 m)
theorem MaxD.below {w w' : World} {B : Nat} (h : MaxD w) (hb : Below B w w') (hB : w.heap.size ≤ B) : MaxD w' := by
  obtain ⟨m, h⟩ := h
  have hlt : 5 < w.heap.size := block_lt_of_cell h
  exact ⟨m, (hb.cell (p := ⟨5, 0, none⟩) (by show 5 < B; omega)).trans h⟩
theorem MaxD.bel {w w' : World} (h : MaxD w) (hb : Below w.heap.size w w') : MaxD w' := h.below hb (Nat.le_refl _)
theorem maxD_of (W : World) (h : W.ShapedOpen Tryz.prog) : MaxD W :=
  Go.Proofs.cell_of_shapedOpen_int (zero := #[.int .i64 0]) (t := 3) h (of_decide_eq_true (by kernel_rfl)) (by kernel_rfl) rfl (by kernel_rfl) (by kernel_rfl) Tryz.underlying3
theorem cutD_any (s sep : List UInt8) (w : World) (hm : MaxD w) (hs : s.length < 4294967281) :
    Calls Tryz.prog 164 #[.string (bs s), .string (bs sep)] w fun e w' => e = .returned (.tuple #[.string (bs (Lib.cut s sep).1), .string (bs (Lib.cut s sep).2.1), .bool (Lib.cut s sep).2.2]) ∧ Below w.heap.size w w' := by
  obtain ⟨m, hm⟩ := hm
  refine (Tryz.strings_Cut (bs s) (bs sep) m w (by rw [bs_size]; exact hs) hm).mono ?_
  rw [bs_data, bs_data]
  rintro e w' ⟨he, n, rfl⟩
  have h := Below.refl w.heap.size w
  exact ⟨he, h.os, h.tape, h.output, h.size, h.block⟩

theorem infoD : (Tryz.prog.info? 79).map (fun i => (i.zero, i.size, i.bytes)) = some (some (.agg #[.string ⟨#[]⟩, .string ⟨#[]⟩, .bool false, .string ⟨#[]⟩]), 4, 56) := by kernel_rfl
/-- a directive as a value, as cells; a list's cells -/
def dvV (d : Dv) : Value := .agg #[.string (bs d.1), .string (bs d.2.1), .bool d.2.2.1, .string (bs d.2.2.2)]
def dvA (d : Dv) : Array Value := #[.string (bs d.1), .string (bs d.2.1), .bool d.2.2.1, .string (bs d.2.2.2)]
def dcs (l : List Dv) : List Value := l.flatMap fun d => [.string (bs d.1), .string (bs d.2.1), .bool d.2.2.1, .string (bs d.2.2.2)]
theorem dcs_len (l : List Dv) : (dcs l).length = l.length * 4 := by
  induction l with
  | nil => rfl
  | cons f r ih => simp [dcs] at ih ⊢; omega
theorem dcs_append (a b : List Dv) : dcs (a ++ b) = dcs a ++ dcs b := by simp [dcs]
theorem dcs_at (l : List Dv) (j : Nat) (hj : j < l.length) : (dcs l)[j * 4]? = some (.string (bs l[j].1)) ∧ (dcs l)[j * 4 + 1]? = some (.string (bs l[j].2.1)) ∧ (dcs l)[j * 4 + 2]? = some (.bool l[j].2.2.1) ∧ (dcs l)[j * 4 + 3]? = some (.string (bs l[j].2.2.2)) := by
  induction l generalizing j with
  | nil => exact absurd hj (by simp)
  | cons f r ih =>
    have e : dcs (f :: r) = .string (bs f.1) :: .string (bs f.2.1) :: .bool f.2.2.1 :: .string (bs f.2.2.2) :: dcs r := by simp [dcs]
    rw [e]
    cases j with
    | zero => exact ⟨rfl, rfl, rfl, rfl⟩
    | succ k =>
      obtain ⟨h1, h2, h3, h4⟩ := ih k (by simpa using hj)
      rw [show (k + 1) * 4 = k * 4 + 4 from by omega]
      exact ⟨h1, h2, h3, h4⟩

/-- block b holds just these cells -/
def dbk (w : World) (b : Nat) (cs : Array Value) : Prop := ∃ T, w.heap[b]? = some (.cells cs T (0, 0))
theorem dbk.cell {w : World} {b : Nat} {cs : Array Value} (h : dbk w b cs) (j : Nat) (u : Value) (hj : cs[j]? = some u) : w.cell? ⟨b, j, none⟩ = some u := by
  obtain ⟨T, h⟩ := h
  exact (cell_of_row w b j cs T _ h).trans hj
theorem dbk.free {w : World} {b : Nat} {cs : Array Value} (h : dbk w b cs) (j : Nat) : w.frozen? ⟨b, j, none⟩ = false := by
  obtain ⟨T, h⟩ := h
  simp [World.frozen?, h]
theorem dbk.set {w : World} {b : Nat} {cs : Array Value} (h : dbk w b cs) (j : Nat) (u : Value) : dbk (w.setCell ⟨b, j, none⟩ u) b (cs.setIfInBounds j u) := by
  obtain ⟨T, h⟩ := h
  exact ⟨T, Lib.heap_setCell_same h u⟩
theorem dbk.keep {w w' : World} {b : Nat} {cs : Array Value} (h : dbk w b cs) (hk : w'.heap[b]? = w.heap[b]?) : dbk w' b cs := by
  obtain ⟨T, h⟩ := h
  exact ⟨T, hk.trans h⟩
theorem dbk.lt {w : World} {b : Nat} {cs : Array Value} (h : dbk w b cs) : b < w.heap.size := by
  obtain ⟨T, h⟩ := h
  exact (Array.getElem?_eq_some_iff.1 h).1
theorem dbk.below {w w' : World} {b : Nat} {cs : Array Value} (h : dbk w b cs) (hb : Below w.heap.size w w') : dbk w' b cs := h.keep (hb.block b h.lt)
theorem dbk.new (w : World) (cs : Array Value) (T : TypeId) : dbk (w.alloc (.cells cs T)) w.heap.size cs := ⟨T, heap_alloc_new w _⟩
theorem dbk.alloc {w : World} {b : Nat} {cs : Array Value} (h : dbk w b cs) (o : Obj) : dbk (w.alloc o) b cs := h.keep (Below.heap_alloc _ _ _ h.lt)
/-- all four cells of a block are stored into -/
def putD (w : World) (b : Nat) (d : Dv) : World := (((w.setCell ⟨b, 0, none⟩ (.string (bs d.1))).setCell ⟨b, 1, none⟩ (.string (bs d.2.1))).setCell ⟨b, 2, none⟩ (.bool d.2.2.1)).setCell ⟨b, 3, none⟩ (.string (bs d.2.2.2))
theorem dbk.putd {w : World} {b : Nat} {d0 : Dv} (h : dbk w b (dvA d0)) (d : Dv) : dbk (putD w b d) b (dvA d) := by
  have := (((h.set 0 (.string (bs d.1))).set 1 (.string (bs d.2.1))).set 2 (.bool d.2.2.1)).set 3 (.string (bs d.2.2.2))
  simpa [dvA, putD] using this
theorem putD_below {B : Nat} {a w : World} {b : Nat} (h : Below B a w) (hb : B ≤ b) (d : Dv) : Below B a (putD w b d) :=
  (((h.setCell (p := ⟨b, 0, none⟩) hb _).setCell (p := ⟨b, 1, none⟩) hb _).setCell (p := ⟨b, 2, none⟩) hb _).setCell (p := ⟨b, 3, none⟩) hb _
theorem dbk.asks {w : World} {b : Nat} {d0 : Dv} (h : dbk w b (dvA d0)) (x y z : Value) :
    w.cell? ⟨b, 0, none⟩ = some (.string (bs d0.1)) ∧ w.frozen? ⟨b, 0, none⟩ = false ∧ (w.setCell ⟨b, 0, none⟩ x).cell? ⟨b, 1, none⟩ = some (.string (bs d0.2.1)) ∧ (w.setCell ⟨b, 0, none⟩ x).frozen? ⟨b, 1, none⟩ = false ∧
    ((w.setCell ⟨b, 0, none⟩ x).setCell ⟨b, 1, none⟩ y).cell? ⟨b, 2, none⟩ = some (.bool d0.2.2.1) ∧ ((w.setCell ⟨b, 0, none⟩ x).setCell ⟨b, 1, none⟩ y).frozen? ⟨b, 2, none⟩ = false ∧
    (((w.setCell ⟨b, 0, none⟩ x).setCell ⟨b, 1, none⟩ y).setCell ⟨b, 2, none⟩ z).cell? ⟨b, 3, none⟩ = some (.string (bs d0.2.2.2)) ∧ (((w.setCell ⟨b, 0, none⟩ x).setCell ⟨b, 1, none⟩ y).setCell ⟨b, 2, none⟩ z).frozen? ⟨b, 3, none⟩ = false :=
  ⟨h.cell 0 _ rfl, h.free 0, (h.set 0 x).cell 1 _ rfl, (h.set 0 x).free 1, ((h.set 0 x).set 1 y).cell 2 _ rfl, ((h.set 0 x).set 1 y).free 2, (((h.set 0 x).set 1 y).set 2 z).cell 3 _ rfl, (((h.set 0 x).set 1 y).set 2 z).free 3⟩

theorem dbk.four {w : World} {b : Nat} {d : Dv} (h : dbk w b (dvA d)) : w.cell? ⟨b, 0, none⟩ = some (.string (bs d.1)) ∧ w.cell? ⟨b, 1, none⟩ = some (.string (bs d.2.1)) ∧ w.cell? ⟨b, 2, none⟩ = some (.bool d.2.2.1) ∧ w.cell? ⟨b, 3, none⟩ = some (.string (bs d.2.2.2)) :=
  ⟨h.cell 0 _ rfl, h.cell 1 _ rfl, h.cell 2 _ rfl, h.cell 3 _ rfl⟩

/-- the slice v reads as the directives l -/
def DL (w : World) (v : Value) (l : List Dv) : Prop :=
  (l = [] ∧ ∃ A c, v = .slice A 0 c) ∨ ∃ b off c, v = .slice (some ⟨b, off, none⟩) l.length c ∧ b < w.heap.size ∧
    ∀ j (hj : j < l.length), w.cell? ⟨b, off + j * 4, none⟩ = some (.string (bs l[j].1)) ∧ w.cell? ⟨b, off + j * 4 + 1, none⟩ = some (.string (bs l[j].2.1)) ∧ w.cell? ⟨b, off + j * 4 + 2, none⟩ = some (.bool l[j].2.2.1) ∧ w.cell? ⟨b, off + j * 4 + 3, none⟩ = some (.string (bs l[j].2.2.2))
theorem DL.form {w : World} {v : Value} {l : List Dv} (h : DL w v l) : ∃ A c, v = .slice A l.length c := by
  rcases h with ⟨rfl, A, c, rfl⟩ | ⟨b, off, c, rfl, _⟩
  · exact ⟨A, c, rfl⟩
  · exact ⟨_, _, rfl⟩
theorem DL.bel {w w' : World} {v : Value} {l : List Dv} (h : DL w v l) (hb : Below w.heap.size w w') : DL w' v l := by
  rcases h with h | ⟨b, off, c, hv, hlt, hc⟩
  · exact .inl h
  · refine .inr ⟨b, off, c, hv, Nat.lt_of_lt_of_le hlt hb.size, fun j hj => ?_⟩
    obtain ⟨h1, h2, h3, h4⟩ := hc j hj
    exact ⟨(hb.cell (p := ⟨b, off + j * 4, none⟩) hlt).trans h1, (hb.cell (p := ⟨b, off + j * 4 + 1, none⟩) hlt).trans h2, (hb.cell (p := ⟨b, off + j * 4 + 2, none⟩) hlt).trans h3, (hb.cell (p := ⟨b, off + j * 4 + 3, none⟩) hlt).trans h4⟩
theorem DL.get {w : World} {A : Option Addr} {n c : Nat} {l : List Dv} (h : DL w (.slice A n c) l) (j : Nat) (hj : j < l.length) :
    ∃ b off, A = some ⟨b, off, none⟩ ∧ b < w.heap.size ∧ w.cell? ⟨b, off + j * 4, none⟩ = some (.string (bs l[j].1)) ∧ w.cell? ⟨b, off + j * 4 + 1, none⟩ = some (.string (bs l[j].2.1)) ∧ w.cell? ⟨b, off + j * 4 + 2, none⟩ = some (.bool l[j].2.2.1) ∧ w.cell? ⟨b, off + j * 4 + 3, none⟩ = some (.string (bs l[j].2.2.2)) := by
  rcases h with ⟨rfl, _⟩ | ⟨b, off, c, hv, hlt, hc⟩
  · exact absurd hj (by simp)
  · simp only [Value.slice.injEq] at hv
    exact ⟨b, off, hv.1, hlt, hc j hj⟩
theorem DL_nil (w : World) : DL w (.slice none 0 0) [] := .inl ⟨rfl, _, _, rfl⟩

/-- a slice of the call's own that holds the directives l -/
def ownD (w : World) (base : Nat) (v : Value) (l : List Dv) : Prop := w.ownsRow base 79 4 v l.length (dcs l)
theorem ownD_nil (w : World) (base : Nat) : ownD w base (.slice none 0 0) [] := World.ownsRow_nil _ _ _ _
theorem ownD.alloc {w : World} {base : Nat} {v : Value} {l : List Dv} (h : ownD w base v l) (o : Obj) : ownD (w.alloc o) base v l := World.ownsRow.alloc h o
theorem ownD.bel {w w' : World} {base : Nat} {v : Value} {l : List Dv} (h : ownD w base v l) (hb : Below w.heap.size w w') : ownD w' base v l := by
  refine ⟨h.1, ?_⟩
  rcases h.2 with hn | ⟨g, cap, cur, hv, hbg, hg, r⟩
  · exact .inl hn
  · exact .inr ⟨g, cap, cur, hv, hbg, by rw [hb.block g (Array.getElem?_eq_some_iff.1 hg).1]; exact hg, r⟩
theorem ownD.mono {w : World} {base base' : Nat} {v : Value} {l : List Dv} (h : ownD w base v l) (hb : base' ≤ base) : ownD w base' v l := by
  refine ⟨h.1, ?_⟩
  rcases h.2 with hn | ⟨g, cap, cur, hv, hbg, r⟩
  · exact .inl hn
  · exact .inr ⟨g, cap, cur, hv, by omega, r⟩
theorem ownD.dl {w : World} {base : Nat} {v : Value} {l : List Dv} (h : ownD w base v l) : DL w v l := by
  rcases h.2 with ⟨rfl, hn⟩ | ⟨g, cap, cur, rfl, hb, hg, hnc, hcm, hcs, ht⟩
  · exact .inl ⟨List.eq_nil_of_length_eq_zero hn, _, _, rfl⟩
  · refine .inr ⟨g, 0, cap, rfl, (Array.getElem?_eq_some_iff.1 hg).1, fun j hj => ?_⟩
    obtain ⟨h1, h2, h3, h4⟩ := dcs_at l j hj
    have hh : w.ownsRow base 79 4 (.slice (some ⟨g, 0, none⟩) l.length cap) l.length (dcs l) := h
    rw [Nat.zero_add, hh.cellAt (j * 4) (by omega), hh.cellAt (j * 4 + 1) (by omega), hh.cellAt (j * 4 + 2) (by omega), hh.cellAt (j * 4 + 3) (by omega)]
    exact ⟨h1, h2, h3, h4⟩
theorem ownD.form {w : World} {base : Nat} {v : Value} {l : List Dv} (h : ownD w base v l) : ∃ A c, v = .slice A l.length c := h.dl.form
/-- 'append(l, d)': the directives, and d. (The new one lies in a block of its own, laid just ahead.) -/
theorem wpList_appD {w0 w : World} {ops : Array Oper} {rest : List Oper} {o : Oper} {a : Act} {Q : Exit → Act → World → Prop} (hgd : o.guard = none) (s x : Operand)
    (ho : o.op = .call { callee := .builtin .append, args := #[s, x], argTypes := #[68, 68] })
    (base B : Nat) (v : Value) (l : List Dv) (d : Dv) (hs : a.eval s = v) (hown : ownD w base v l) (hb : Below B w0 w) (hBb : B ≤ base) (hbase : base ≤ w.heap.size)
    {g : Nat} (hx : a.eval x = .slice (some ⟨g, 0, none⟩) 1 1) (hlen : l.length + 1 ≤ 4294967296)
    (h : ∀ v' w', Hid (ownD w' base v' (l ++ [d])) → Hid (Below B w0 w') → Hid (∀ b, b < base → w'.heap[b]? = w.heap[b]?) → wpList Tryz.prog ops Q rest (a.put o.dst v') w') (hg : g = w.heap.size := by simp) :
    wpList Tryz.prog ops Q (o :: rest) a (w.alloc (.cells #[.string (bs d.1), .string (bs d.2.1), .bool d.2.2.1, .string (bs d.2.2.2)] 79)) := by
  obtain ⟨i0, hi, hz0, hz1, hz2⟩ := info_parts infoD
  subst hg
  refine wpList_append_own _ hgd s x 68 ho base 79 i0 (.agg #[.string ⟨#[]⟩, .string ⟨#[]⟩, .bool false, .string ⟨#[]⟩]) 4 56 Tryz.underlying68 hi hz0 hz1 hz2 rfl (by decide) v l.length _ hs (hown.alloc _) ⟨w.heap.size, 0, none⟩ 1 1 [.string (bs d.1), .string (bs d.2.1), .bool d.2.2.1, .string (bs d.2.2.2)] hx rfl ?_ ?_ ?_ ?_ ?_ ?_
  · exact World.news_of_block (heap_alloc_new w _)
  · intro v hv; simp at hv; rcases hv with rfl | rfl | rfl | rfl <;> rfl
  · unfold maxLen; omega
  · omega
  · simp; omega
  · intro v' w' h1 h2 _
    have hge : ∀ k, v.ownBlock = some k → base ≤ k := fun k hk => (World.ownsRow.lt hown k hk).1
    refine h v' w' ?_ ?_ ?_
    · have : (l ++ [d]).length = l.length + 1 := by simp
      show ownD _ _ _ _
      unfold ownD
      rw [this, dcs_append]
      exact h1
    · exact (hb.alloc (by omega) _).grown h2 (by simp; omega) (fun k hk => Nat.le_trans hBb (hge k hk))
    · intro b hb
      rw [h2.block b (by simp; omega) (fun e => by have := hge b e.symm; omega)]
      exact Below.heap_alloc _ _ _ (by omega)
end Go.Proofs.YtfobjaccpnondaaGreatDoor

/- What an element of a list is as a directive: the directive layer's read. -/
namespace Go.Proofs.YtfobjaccpnondaaGreatDoor
open Go.RowKit

theorem unq_some {l p : List UInt8} (h : unquote l = some p) : unqS l = p ∧ unqE l = 0 := by simp [unqS, unqE, h]
theorem unq_no {l : List UInt8} (h : unquote l = none) : unqE l = 4 := by simp [unqE, h]
theorem bs_nil : bs [] = ⟨#[]⟩ := rfl
/-- what read hands back -/
def RetR (w : World) (o : Option Dv) (e : Ending) (w' : World) : Prop :=
  e = .returned (.tuple #[.agg #[.string (bs (o.getD dv0).1), .string (bs (o.getD dv0).2.1), .bool (o.getD dv0).2.2.1, .string (bs (o.getD dv0).2.2.2)], .bool o.isSome]) ∧ Below w.heap.size w w'
/-- the block of the result, as it is laid; what a store of a directive into it asks and leaves -/
theorem res_new (w : World) : dbk (w.alloc (.cells #[.string ⟨#[]⟩, .string ⟨#[]⟩, .bool false, .string ⟨#[]⟩] 79)) w.heap.size (dvA dv0) := dbk.new w _ _

set_option maxRecDepth 100000 in
set_option maxHeartbeats 2000000 in
theorem readD_any (s : List UInt8) (w : World) (hm : MaxD w) (hs : s.length ≤ 4294967200) :
    Calls Tryz.prog 161 #[.string (bs s)] w (RetR w (sayD s)) := by
  have hc := cutE_le s
  have hal : Below w.heap.size w (w.alloc (.cells #[.string ⟨#[]⟩, .string ⟨#[]⟩, .bool false, .string ⟨#[]⟩] 79)) := (Below.refl _ _).alloc (Nat.le_refl _) _
  have hm0 := hm.bel hal
  have hr := res_new w
  have HC := Lib.hid (fun W (h : MaxD W) => cutD_any s [61] W h (by omega))
  have hsay : sayD s = if token (Lib.cut s [61]).1 then
    if (Lib.cut s [61]).2.2 then
      if token (Lib.cut s [61]).2.1 then some (lower (Lib.cut s [61]).1, (Lib.cut s [61]).2.1, true, [])
      else match unquote (Lib.cut s [61]).2.1 with
        | some p => some (lower (Lib.cut s [61]).1, p, true, [])
        | none => none
    else some (lower (Lib.cut s [61]).1, [], false, [])
  else none := rfl
  have hno : (Lib.cut s [61]).2.2 = false → (Lib.cut s [61]).2.1 = [] := by
    rcases cutE_cases s with ⟨_, h⟩ | ⟨a, r, _, _, h⟩
    · rw [h]; intro _; rfl
    · rw [h]; intro h; cases h
  rw [hsay]
  generalize Lib.cut s [61] = C at *
  obtain ⟨n, v, b⟩ := C
  simp only at hc hno HC ⊢
  clear hsay
  have HM := Lib.hid hm0; have HB0 := Lib.hid hal; have HR0 := Lib.hid hr
  have hvn : v.length ≤ 4294967200 := by omega
  have hnn : n.length ≤ 4294967200 := by omega
  have HT := Lib.hid (fun W => token_any (bs n) W (by rw [bs_size]; unfold maxLen; omega))
  have HV := Lib.hid (fun W => token_any (bs v) W (by rw [bs_size]; unfold maxLen; omega))
  have HU := Lib.hid (fun W => unquote_any (bs v) W (by rw [bs_size]; omega))
  have HL := Lib.hid (fun W => lower_any (bs n) W (by rw [bs_size]; unfold maxLen; omega))
  clear hm0 hal hr hm hc hvn hnn hs
  -- a directive stored into the result's block
  have HN : Hid (∀ w1 : World, dbk w1 w.heap.size (dvA dv0) → Below w.heap.size w w1 → ∀ d : Dv, dbk (putD w1 w.heap.size d) w.heap.size (dvA d) ∧ Below w.heap.size w (putD w1 w.heap.size d)) := fun w1 h1 h2 d => ⟨h1.putd d, putD_below h2 (Nat.le_refl _) d⟩
  cases ht : token n
  · simp only [Bool.false_eq_true, if_false]
    go_enter Tryz.func161, Tryz.ntmps161
    go_wp2_with fail
    refine (HC.out _ HM.out).mono ?_
    rintro e w1 ⟨rfl, hb⟩
    have HB1 := Lib.hid (HB0.out.trans (hb.mono HB0.out.size)); have HR1 := Lib.hid (HR0.out.below hb); clear hb HB0 HR0
    go_wp2_with fail
    refine (HT.out _).mono ?_
    rw [bs_data, ht]
    rintro e w2 ⟨rfl, rfl⟩
    obtain ⟨a0, b0, a1, b1, a2, b2, a3, b3⟩ := HR1.out.asks (.string (bs (dv0).1)) (.string (bs (dv0).2.1)) (.bool (dv0).2.2.1)
    have hq := HN.out _ HR1.out HB1.out (dv0)
    obtain ⟨c0, c1, c2, c3⟩ := hq.1.four
    have HQ := Lib.hid hq.2; clear hq
    simp only [putD, dv0, bs_nil] at c0 c1 c2 c3 HQ a0 a1 a2 a3 b0 b1 b2 b3
    go_wp2_with fail
    refine bodyPost_ret (v := .tuple #[.agg #[.string ⟨#[]⟩, .string ⟨#[]⟩, .bool false, .string ⟨#[]⟩], .bool false]) (by simp [results, Tryz.results161, go_sem, c0, c1, c2, c3]) rfl ?_
    exact ⟨rfl, HQ.out⟩
  · cases hb0 : b
    · have hv := hno hb0
      have hs0 : (some (lower n, [], false, []) : Option Dv) = some (lower n, v, false, []) := by rw [hv]
      subst hb0
      clear hno HV HU
      simp only [Bool.false_eq_true, if_false, if_true, hs0]
      clear hs0 hv
      go_enter Tryz.func161, Tryz.ntmps161
      go_wp2_with fail
      refine (HC.out _ HM.out).mono ?_
      rintro e w1 ⟨rfl, hb⟩
      have HB1 := Lib.hid (HB0.out.trans (hb.mono HB0.out.size)); have HR1 := Lib.hid (HR0.out.below hb); clear hb HB0 HR0
      go_wp2_with fail
      refine (HT.out _).mono ?_
      rw [bs_data, ht]
      rintro e w2 ⟨rfl, rfl⟩
      go_wp2_with fail
      refine (HL.out _).mono ?_
      rw [bs_data]
      rintro e w2 ⟨rfl, hb⟩
      have HB2 := Lib.hid (HB1.out.trans (hb.mono HB1.out.size)); have HR2 := Lib.hid (HR1.out.below hb); clear hb HB1 HR1
      obtain ⟨a0, b0, a1, b1, a2, b2, a3, b3⟩ := HR2.out.asks (.string (bs (lower n))) (.string (bs v)) (.bool false)
      have hq := HN.out _ HR2.out HB2.out (lower n, v, false, [])
      obtain ⟨c0, c1, c2, c3⟩ := hq.1.four
      have HQ := Lib.hid hq.2; clear hq
      simp only [putD, dv0, bs_nil] at c0 c1 c2 c3 HQ a0 a1 a2 a3 b0 b1 b2 b3
      go_wp2_with fail
      refine bodyPost_ret (v := .tuple #[.agg #[.string (bs (lower n)), .string (bs v), .bool false, .string ⟨#[]⟩], .bool true]) (by simp [results, Tryz.results161, go_sem, c0, c1, c2, c3]) rfl ?_
      exact ⟨rfl, HQ.out⟩
    · subst hb0
      clear hno
      cases hv : token v
      · cases hu : unquote v with
        | none =>
          have hue := unq_no hu
          simp only [Bool.false_eq_true, if_false, if_true]
          go_enter Tryz.func161, Tryz.ntmps161
          go_wp2_with fail
          refine (HC.out _ HM.out).mono ?_
          rintro e w1 ⟨rfl, hb⟩
          have HB1 := Lib.hid (HB0.out.trans (hb.mono HB0.out.size)); have HR1 := Lib.hid (HR0.out.below hb); clear hb HB0 HR0
          go_wp2_with fail
          refine (HT.out _).mono ?_
          rw [bs_data, ht]
          rintro e w2 ⟨rfl, rfl⟩
          go_wp2_with fail
          refine (HV.out _).mono ?_
          rw [bs_data, hv]
          rintro e w3 ⟨rfl, rfl⟩
          go_wp2_with fail
          refine (HU.out _).mono ?_
          rw [bs_data, hue]
          rintro e w2 ⟨rfl, hb⟩
          have HB2 := Lib.hid (HB1.out.trans (hb.mono HB1.out.size)); have HR2 := Lib.hid (HR1.out.below hb); clear hb HB1 HR1
          obtain ⟨a0, b0, a1, b1, a2, b2, a3, b3⟩ := HR2.out.asks (.string (bs (dv0).1)) (.string (bs (dv0).2.1)) (.bool (dv0).2.2.1)
          have hq := HN.out _ HR2.out HB2.out (dv0)
          obtain ⟨c0, c1, c2, c3⟩ := hq.1.four
          have HQ := Lib.hid hq.2; clear hq
          simp only [putD, dv0, bs_nil] at c0 c1 c2 c3 HQ a0 a1 a2 a3 b0 b1 b2 b3
          go_wp2_with fail
          refine bodyPost_ret (v := .tuple #[.agg #[.string ⟨#[]⟩, .string ⟨#[]⟩, .bool false, .string ⟨#[]⟩], .bool false]) (by simp [results, Tryz.results161, go_sem, c0, c1, c2, c3]) rfl ?_
          exact ⟨rfl, HQ.out⟩
        | some p =>
          obtain ⟨hus, hue⟩ := unq_some hu
          simp only [Bool.false_eq_true, if_false, if_true]
          go_enter Tryz.func161, Tryz.ntmps161
          go_wp2_with fail
          refine (HC.out _ HM.out).mono ?_
          rintro e w1 ⟨rfl, hb⟩
          have HB1 := Lib.hid (HB0.out.trans (hb.mono HB0.out.size)); have HR1 := Lib.hid (HR0.out.below hb); clear hb HB0 HR0
          go_wp2_with fail
          refine (HT.out _).mono ?_
          rw [bs_data, ht]
          rintro e w2 ⟨rfl, rfl⟩
          go_wp2_with fail
          refine (HV.out _).mono ?_
          rw [bs_data, hv]
          rintro e w3 ⟨rfl, rfl⟩
          go_wp2_with fail
          refine (HU.out _).mono ?_
          rw [bs_data, hue, hus]
          rintro e w2 ⟨rfl, hb⟩
          have HB2 := Lib.hid (HB1.out.trans (hb.mono HB1.out.size)); have HR2 := Lib.hid (HR1.out.below hb); clear hb HB1 HR1
          go_wp2_with fail
          refine (HL.out _).mono ?_
          rw [bs_data]
          rintro e w3 ⟨rfl, hb⟩
          have HB3 := Lib.hid (HB2.out.trans (hb.mono HB2.out.size)); have HR3 := Lib.hid (HR2.out.below hb); clear hb HB2 HR2
          obtain ⟨a0, b0, a1, b1, a2, b2, a3, b3⟩ := HR3.out.asks (.string (bs (lower n))) (.string (bs p)) (.bool true)
          have hq := HN.out _ HR3.out HB3.out ((lower n, p, true, []))
          obtain ⟨c0, c1, c2, c3⟩ := hq.1.four
          have HQ := Lib.hid hq.2; clear hq
          simp only [putD, dv0, bs_nil] at c0 c1 c2 c3 HQ a0 a1 a2 a3 b0 b1 b2 b3
          go_wp2_with fail
          refine bodyPost_ret (v := .tuple #[.agg #[.string (bs (lower n)), .string (bs p), .bool true, .string ⟨#[]⟩], .bool true]) (by simp [results, Tryz.results161, go_sem, c0, c1, c2, c3]) rfl ?_
          exact ⟨rfl, HQ.out⟩
      · simp only [if_true]
        go_enter Tryz.func161, Tryz.ntmps161
        go_wp2_with fail
        refine (HC.out _ HM.out).mono ?_
        rintro e w1 ⟨rfl, hb⟩
        have HB1 := Lib.hid (HB0.out.trans (hb.mono HB0.out.size)); have HR1 := Lib.hid (HR0.out.below hb); clear hb HB0 HR0
        go_wp2_with fail
        refine (HT.out _).mono ?_
        rw [bs_data, ht]
        rintro e w2 ⟨rfl, rfl⟩
        go_wp2_with fail
        refine (HV.out _).mono ?_
        rw [bs_data, hv]
        rintro e w3 ⟨rfl, rfl⟩
        go_wp2_with fail
        refine (HL.out _).mono ?_
        rw [bs_data]
        rintro e w2 ⟨rfl, hb⟩
        have HB2 := Lib.hid (HB1.out.trans (hb.mono HB1.out.size)); have HR2 := Lib.hid (HR1.out.below hb); clear hb HB1 HR1
        obtain ⟨a0, b0, a1, b1, a2, b2, a3, b3⟩ := HR2.out.asks (.string (bs (lower n))) (.string (bs v)) (.bool true)
        have hq := HN.out _ HR2.out HB2.out ((lower n, v, true, []))
        obtain ⟨c0, c1, c2, c3⟩ := hq.1.four
        have HQ := Lib.hid hq.2; clear hq
        simp only [putD, dv0, bs_nil] at c0 c1 c2 c3 HQ a0 a1 a2 a3 b0 b1 b2 b3
        go_wp2_with fail
        refine bodyPost_ret (v := .tuple #[.agg #[.string (bs (lower n)), .string (bs v), .bool true, .string ⟨#[]⟩], .bool true]) (by simp [results, Tryz.results161, go_sem, c0, c1, c2, c3]) rfl ?_
        exact ⟨rfl, HQ.out⟩
end Go.Proofs.YtfobjaccpnondaaGreatDoor

/- The directives of a value, one by one: the directive layer's range function. -/
namespace Go.Proofs.YtfobjaccpnondaaGreatDoor
open Go.RowKit Go.Shelf
attribute [local go_sem] Oper.semAt_some

theorem splitL_at {l : List UInt8} {sep : UInt8} {x : List UInt8} (h : x ∈ splitL l sep) : x.length ≤ l.length := by
  refine Nat.le_trans ?_ (splitL_flat l sep)
  generalize splitL l sep = L at h
  induction L with
  | nil => cases h
  | cons y r ih =>
    rw [List.flatten_cons, List.length_append]
    rcases List.mem_cons.1 h with rfl | h
    · omega
    · have := ih h; omega
theorem dirs_len (l : List UInt8) : (dirs l).length ≤ 64 := by
  unfold dirs
  split
  · exact Nat.le_trans (List.length_filterMap_le _ _) (splitL_len l 44)
  · simp

/-- what a round keeps that goes on: the blocks of texts, and the library's variable -/
def Kd (W W' : World) : Prop := (∀ (b : Nat) (cs : Array Value) (r : Nat × Nat), W.heap[b]? = some (Obj.cells cs 9 r) → W'.heap[b]? = some (Obj.cells cs 9 r)) ∧ (MaxD W → MaxD W')
theorem Kd.trans {A B C : World} (h : Kd A B) (k : Kd B C) : Kd A C := ⟨fun b cs r e => k.1 b cs r (h.1 b cs r e), fun e => k.2 (h.2 e)⟩
theorem Kd.book {w : World} (W : World) (l : Nat) (o o' : Obj) (_ : w.heap.size ≤ l) (h : W.heap[l]? = some o) (hc : o.isCells = false) (_ : o.isWalk = false) : Kd W (W.putObj l o') := by
  refine ⟨fun b cs r e => ?_, fun ⟨m, hm⟩ => ?_⟩
  · by_cases hb : b = l
    · subst hb; rw [h] at e; cases e; cases hc
    · exact (World.putObj_heap_other hb).trans e
  · exact ⟨m, cell_kept hm (grownBy_putObj' W l o') (fun r e => by cases e; exact ⟨o, h, hc⟩)⟩
theorem Kd.bel {W W' : World} (h : Below W.heap.size W W') : Kd W W' := ⟨fun b cs r e => by rw [h.block b (Array.getElem?_eq_some_iff.1 e).1]; exact e, fun e => e.bel h⟩
theorem ownS.kd {W W' : World} {base : Nat} {v : Value} {L : List (List UInt8)} (h : ownS W base v L) (k : Kd W W') : ownS W' base v L := by
  refine ⟨h.1, ?_⟩
  rcases h.2 with hn | ⟨g, cap, cur, hv, hbg, hg, r⟩
  · exact .inl hn
  · exact .inr ⟨g, cap, cur, hv, hbg, k.1 _ _ _ hg, r⟩
theorem grown_of {W W' : World} (hb : Below W.heap.size W W') : W.grownBy W' none := ⟨hb.os, hb.tape, hb.output, hb.size, fun k hk _ => hb.block k hk⟩
theorem abidesD {β : Type} {B : Nat} {J : β → World → Prop} (h : AbidesFrom B J) {s : β} {W W' : World} (hs : J s W) (hb : Below W.heap.size W W') : J s W' :=
  h s W W' none hs (grown_of hb) (fun r e => by cases e)

theorem directives_any (s : List UInt8) (w : World) :
    Calls Tryz.prog 120 #[.string (bs s)] w fun e w' => e = .returned (.func (.func 160) #[] #[.pointer (some ⟨w.heap.size, 0, none⟩)]) ∧ w' = w.alloc (.cells #[.string (bs s)] 9) := by
  go_enter Tryz.func120, Tryz.ntmps120
  go_wp2_with fail
  go_ret
  exact ⟨rfl, rfl⟩

theorem fmap_snoc {α β : Type} (f : α → Option β) (L : List α) (k : Nat) (h : k < L.length) : (L.take (k + 1)).filterMap f = (L.take k).filterMap f ++ (f L[k]).toList := by
  rw [List.take_succ_eq_append_getElem h, List.filterMap_append]
  congr 1
theorem fmap_lt {α β : Type} (f : α → Option β) (L : List α) (k : Nat) (h : k < L.length) {d : β} (hd : f L[k] = some d) : ((L.take k).filterMap f).length < (L.filterMap f).length := by
  have h1 : L.filterMap f = (L.take (k + 1)).filterMap f ++ (L.drop (k + 1)).filterMap f := by rw [← List.filterMap_append, List.take_append_drop]
  rw [h1, fmap_snoc f L k h, hd]
  simp

set_option maxRecDepth 100000 in
set_option maxHeartbeats 4000000 in
theorem iter_stops (s : List UInt8) (Bs : Nat) (w : World) (hm : MaxD w) (hB : Bs < w.heap.size) (hc : w.cell? ⟨Bs, 0, none⟩ = some (.string (bs s))) (hs : s.length ≤ 4294967200) :
    SeqStopsK Fence.wide 8 Tryz.prog 160 #[.pointer (some ⟨Bs, 0, none⟩)] (fun d : Dv => #[dvV d]) Kd (fun xs => xs = dirs s) (fun _ => True) (dirs s).length w := fun l J Jx W hW hJ hJx hY h0 => by
  have hcW : W.cell? ⟨Bs, 0, none⟩ = some (.string (bs s)) := (hW.cell (p := ⟨Bs, 0, none⟩) hB).trans hc
  have hmW := hm.bel hW
  have hsp := split_any (bs s) 44 W (by rw [bs_size]; omega)
  rw [bs_data] at hsp
  have HSP := Lib.hid hsp; have HMW := Lib.hid hmW; have HY := Lib.hid hY; have H0 := Lib.hid h0; have HJ := Lib.hid hJ; have HJX := Lib.hid hJx
  clear hsp hmW hY h0 hJ hJx hm hc hW
  refine callsIn_of_wp Tryz.func160 rfl trivial ?_ rfl
  simp only [Tryz.ntmps160, List.size_toArray, List.length_cons, List.length_nil, Nat.reduceAdd, Nat.reduceSub, Array.replicate_succ, Array.replicate_zero, List.push_toArray, List.append_toArray, List.nil_append, List.cons_append]
  gi_wp2_with fail
  refine ⟨trivial, (callsIn_wide.2 HSP.out).mono ?_⟩
  rintro e W1 ⟨v, rfl, ho, hb1⟩
  have HB1 := Lib.hid hb1; have HO := Lib.hid ho; have HM1 := Lib.hid (HMW.out.bel hb1)
  have HJ1 := Lib.hid (abidesD HJ.out H0.out hb1)
  clear hb1 ho HSP H0 hcW
  by_cases hE : splitE s 44 = 0
  · have hD : dirs s = (splitL s 44).filterMap sayD := if_pos hE
    have hat := fun x h => splitL_at (l := s) (sep := 44) (x := x) h
    rw [hE]
    have HD := Lib.hid hD; clear hD hE
    rw [HD.out] at HY
    have hl64 := splitL_len s 44
    generalize splitL s 44 = L at *
    have HAT := Lib.hid hat; clear hat
    obtain ⟨A, c, rfl⟩ := HO.out.form
    gi_wp2_with fail
    gi_loopw [21] (fun i wr => ∃ k : Nat, k ≤ L.length ∧ i = .int .i64 k ∧ J ((L.take k).filterMap sayD) wr ∧ ownS wr W.heap.size (.slice A L.length c) L ∧ MaxD wr) (fun i _ => L.length - (intOf i).toNat)
    case atStart => exact ⟨0, Nat.zero_le _, rfl, HJ1.out, HO.out, HM1.out⟩
    case round =>
      obtain ⟨k, hk, rfl, hj, ho, hm⟩ := hrel
      have HK := Lib.hid hj; have HO2 := Lib.hid ho; have HM2 := Lib.hid hm
      clear hj ho hm HO HM1 HJ1
      by_cases hlt : k < L.length
      · obtain ⟨g, rfl, hcell⟩ := HO2.out.cell k hlt
        rw [show L.getD k [] = L[k] from by simp [List.getD, hlt]] at hcell
        have hle : L[k].length ≤ 4294967200 := Nat.le_trans (HAT.out _ (List.getElem_mem hlt)) hs
        have hrd := readD_any L[k] wr HM2.out hle
        have hsn := fmap_snoc sayD L k hlt
        have hfl := fun d => fmap_lt sayD L k hlt (d := d)
        have HRD := Lib.hid hrd; have HSN := Lib.hid hsn; have HFL := Lib.hid hfl
        clear hrd hsn hfl hle
        cases hd : sayD L[k] with
        | none =>
          have hr2 : RetR wr none = fun e w' => e = .returned (.tuple #[.agg #[.string ⟨#[]⟩, .string ⟨#[]⟩, .bool false, .string ⟨#[]⟩], .bool false]) ∧ Below wr.heap.size wr w' := rfl
          rw [hd, hr2] at HRD
          rw [hd, Option.toList_none, List.append_nil] at HSN
          clear hr2 HFL hd HY
          gi_wp2_with fail
          refine ⟨trivial, (callsIn_wide.2 HRD.out).mono ?_⟩
          rintro e W2 ⟨rfl, hb2⟩
          have hq : Below W2.heap.size W2 (W2.alloc (.cells #[.string ⟨#[]⟩, .string ⟨#[]⟩, .bool false, .string ⟨#[]⟩] 79)) := (Below.refl _ _).alloc (Nat.le_refl _) _
          have HQ := Lib.hid (hb2.trans (hq.mono hb2.size)); clear hb2 hq
          gi_wp2_with fail
          refine ⟨fun _ h => (by cases h), ?_⟩
          gi_wp2_with fail
          go_roundw
          case rel => exact ⟨k + 1, by omega, by go_num, by rw [HSN.out]; exact abidesD HJ.out HK.out HQ.out, HO2.out.bel HQ.out, HM2.out.bel HQ.out⟩
          case measure => simp [intOf]; omega
        | some d =>
          have hr2 : RetR wr (some d) = fun e w' => e = .returned (.tuple #[.agg #[.string (bs d.1), .string (bs d.2.1), .bool d.2.2.1, .string (bs d.2.2.2)], .bool true]) ∧ Below wr.heap.size wr w' := rfl
          rw [hd, hr2] at HRD
          rw [hd] at HSN
          have hfl := HFL.out d hd
          have HF := Lib.hid hfl
          clear hr2 HFL hd hfl
          gi_wp2_with fail
          refine ⟨trivial, (callsIn_wide.2 HRD.out).mono ?_⟩
          rintro e W2 ⟨rfl, hb2⟩
          have hx : dbk (W2.alloc (.cells #[.string (bs d.1), .string (bs d.2.1), .bool d.2.2.1, .string (bs d.2.2.2)] 79)) W2.heap.size (dvA d) := dbk.new W2 _ _
          obtain ⟨c0, c1, c2, c3⟩ := hx.four
          have hq : Below W2.heap.size W2 (W2.alloc (.cells #[.string (bs d.1), .string (bs d.2.1), .bool d.2.2.1, .string (bs d.2.2.2)] 79)) := (Below.refl _ _).alloc (Nat.le_refl _) _
          have HQ := Lib.hid (hb2.trans (hq.mono hb2.size)); clear hb2 hq hx
          obtain ⟨fn, tmps, assign, body, hy, hR⟩ := HY.out _ d _ (abidesD HJ.out HK.out HQ.out) HF.out
          dsimp only [dvV] at hy
          have HR := Lib.hid hR; clear hR
          gi_wp2_with fail
          refine HR.out.mono ?_
          rintro e W3 (⟨rfl, hj3, hk3⟩ | ⟨rfl, hj3⟩)
          · have hk4 := (Kd.bel HQ.out).trans hk3
            have HJ3 := Lib.hid hj3; have HO3 := Lib.hid (HO2.out.kd hk4); have HM3 := Lib.hid (hk4.2 HM2.out)
            clear hj3 hk3 hk4
            gi_wp2_with fail
            go_roundw
            case rel => exact ⟨k + 1, by omega, by go_num, by rw [HSN.out]; exact HJ3.out, HO3.out, HM3.out⟩
            case measure => simp [intOf]; omega
          · have HJ3 := Lib.hid hj3; clear hj3
            gi_wp2_with fail
            refine bodyPost_ret (results_none rfl _ _ _) rfl ?_
            exact ⟨⟨_, rfl⟩, .inr ⟨_, trivial, HJ3.out⟩⟩
      · gi_wp2_with fail
        go_end0
        refine ⟨⟨_, rfl⟩, .inl ⟨_, rfl, ?_⟩⟩
        rw [HD.out]
        have h := HK.out
        rw [List.take_of_length_le (by omega)] at h
        exact h
  · have hD : dirs s = [noStore] := if_neg hE
    have hne : ((splitE s 44) != 0) = true := bne_iff_ne.2 hE
    generalize splitE s 44 = E at *
    obtain ⟨fn, tmps, assign, body, hy, hR⟩ := HY.out [] noStore W1 HJ1.out (by rw [hD]; simp)
    have hy2 : (Instr.yield l #[.agg #[.string ⟨#[110, 111, 45, 115, 116, 111, 114, 101]⟩, .string ⟨#[]⟩, .bool false, .string ⟨#[]⟩]]).run Tryz.prog W1 = .ok (.round l fn tmps assign body) W1 := hy
    have HR := Lib.hid hR; have HD := Lib.hid hD; clear hy hR hD hE HY
    obtain ⟨A, c, rfl⟩ := HO.out.form
    gi_wp2_with fail
    refine HR.out.mono ?_
    rintro e W2 (⟨rfl, hj, _⟩ | ⟨rfl, hj⟩)
    · have HJ2 := Lib.hid hj; clear hj
      gi_wp2_with fail
      refine bodyPost_ret (results_none rfl _ _ _) rfl ?_
      exact ⟨⟨_, rfl⟩, .inl ⟨_, HD.out.symm, HJ2.out⟩⟩
    · have HJ2 := Lib.hid hj; clear hj
      gi_wp2_with fail
      refine bodyPost_ret (results_none rfl _ _ _) rfl ?_
      exact ⟨⟨_, rfl⟩, .inr ⟨_, trivial, HJ2.out⟩⟩
end Go.Proofs.YtfobjaccpnondaaGreatDoor

/- The directives of values: the directive layer's List, a loop over the range function for each value. -/
namespace Go.Proofs.YtfobjaccpnondaaGreatDoor
open Go.RowKit Go.Shelf
attribute [local go_sem] Oper.semAt_some

/-- the marks that the loops over the range function leave -/
def marksD (Ds : List Nat) : List Deferred := Ds.map fun D => { target := .collected D, args := #[] }
theorem leaves_marks {F : Fence} {n : Nat} {P : Program} {fn : Func} {tmps : Array Value} {R : Ending → World → Prop} (B : Nat) (I : World → Prop) (hI : ∀ W D o, B ≤ D → I W → W.heap[D]? = some (.deferred (some o)) → I (W.putObj D (.deferred none)))
    (hR : ∀ W, I W → LeavesIn F n P fn tmps R [] .returning W) : ∀ (Ds : List Nat) (W : World), Ds.Nodup → (∀ D ∈ Ds, B ≤ D ∧ W.heap[D]? = some (.deferred (some []))) → I W → LeavesInM F n P fn tmps R (marksD Ds) .returning W
  | [], W, _, _, h => hR W h
  | D :: Ds, W, hn, hd, h => by
    have h1 := hd D (by simp)
    refine ⟨by simp, .inl ⟨D, _, rfl, run_takeDeferred h1.2, ?_⟩⟩
    refine leaves_marks B I hI hR Ds _ (List.nodup_cons.1 hn).2 (fun D' h' => ?_) (hI W D [] h1.1 h h1.2)
    have hne : D' ≠ D := fun e => (List.nodup_cons.1 hn).1 (e ▸ h')
    have h2 := hd D' (by simp [h'])
    exact ⟨h2.1, (World.putObj_heap_other hne).trans h2.2⟩

/-- what List has put together of the values ahead of one -/
structure LdMem (w W : World) (M : List Dv) (Ds : List Nat) : Prop where
  out : ∃ u, Boxed W w.heap.size 68 u ∧ ownD W w.heap.size u M
  bel : Below w.heap.size w W
  lib : MaxD W
  old : ∀ D ∈ Ds, w.heap.size ≤ D ∧ W.heap[D]? = some (.deferred (some []))
  nod : Ds.Nodup
theorem LdMem.below {w W W' : World} {M : List Dv} {Ds : List Nat} (h : LdMem w W M Ds) (hb : Below W.heap.size W W') : LdMem w W' M Ds := by
  obtain ⟨u, hu, ho⟩ := h.out
  exact ⟨⟨u, (hb.block _ hu.lt).trans hu, ho.bel hb⟩, h.bel.trans (hb.mono h.bel.size), h.lib.bel hb, fun D hD => ⟨(h.old D hD).1, (hb.block D (Array.getElem?_eq_some_iff.1 (h.old D hD).2).1).trans (h.old D hD).2⟩, h.nod⟩
/-- turns of blocks that are no cells and lie beyond leave it -/
theorem LdMem.own {w V : World} {Ds : List Nat} {M : List Dv} (hV : w.heap.size ≤ V.heap.size) (hD : ∀ D ∈ Ds, D < V.heap.size) : OwnFrom V.heap.size (fun (pre : List Dv) W => LdMem w W (M ++ pre) Ds) := by
  rintro s X Y row h hg hrow
  have hc : ∀ r, row = some r → ∃ o : Obj, X.heap[r]? = some o ∧ o.isCells = false := fun r e => (hrow r e).2
  obtain ⟨u, hu, ho⟩ := h.out
  obtain ⟨u', h1, h2, h3⟩ := holdsRow_own w.heap.size w.heap.size 68 79 4 (fun (p : List Dv) => (M ++ p).length) (fun p => dcs (M ++ p)) (fun _ v => v = u) s X Y row ⟨u, hu, ho, rfl⟩ hg hc
  obtain ⟨m, hm⟩ := h.lib
  refine ⟨⟨u', h1, h2⟩, h.bel.grown hg h.bel.size (fun k e => Nat.le_trans hV (hrow k e).1), ⟨m, cell_kept hm hg hc⟩, fun D hd => ⟨(h.old D hd).1, ?_⟩, h.nod⟩
  have hx := (h.old D hd).2
  refine (hg.block D (Array.getElem?_eq_some_iff.1 hx).1 fun e => ?_).trans hx
  have := (hrow D e.symm).1
  have := hD D hd
  omega

theorem dirsAll_len (L : List (List UInt8)) : (dirsAll L).length ≤ 64 * L.length := by
  induction L with
  | nil => simp [dirsAll]
  | cons x r ih => have := dirs_len x; simp [dirsAll] at ih ⊢; omega
theorem dirsAll_snoc (L : List (List UInt8)) (k : Nat) (h : k < L.length) : dirsAll (L.take (k + 1)) = dirsAll (L.take k) ++ dirs L[k] := by
  unfold dirsAll
  rw [List.take_succ_eq_append_getElem h, List.flatMap_append]
  simp

/-- 'out = append(out, d)': the blocks of texts stand -/
theorem kd_appended {X w1 : World} {B0 base : Nat} {u v' : Value} {l : List Dv} {tmp : Obj} (hu : Boxed X B0 68 u) (ho : ownD X base u l) (hgrow : (X.alloc tmp).grownBy w1 u.ownBlock) (hm : MaxD (w1.setCell ⟨B0, 0, none⟩ v')) : Kd X (w1.setCell ⟨B0, 0, none⟩ v') := by
  refine ⟨fun b cs r e => ?_, fun _ => hm⟩
  have hlt := (Array.getElem?_eq_some_iff.1 e).1
  have hb : b ≠ B0 := by
    rintro rfl
    have h : X.heap[b]? = some (.cells #[u] 68 (0, 0)) := hu
    rw [e] at h
    simp at h
  refine ((Below.heap_setCell _ _ _ _ hb).trans (hgrow.block b (by simp; omega) fun e' => ?_)).trans ((Below.heap_alloc _ _ _ hlt).trans e)
  rcases ho.2 with ⟨rfl, _⟩ | ⟨g, cap, cur, rfl, _, hg, _⟩
  · cases e'
  · obtain rfl : b = g := by simpa [Value.ownBlock] using e'
    rw [e] at hg
    simp at hg
theorem one4 (d : Dv) : ∀ u ∈ [Value.string (bs d.1), .string (bs d.2.1), .bool d.2.2.1, .string (bs d.2.2.2)], u.oneCell' = true := by
  intro v hv; simp at hv; rcases hv with rfl | rfl | rfl | rfl <;> rfl

set_option maxRecDepth 100000 in
set_option maxHeartbeats 4000000 in
theorem listD_any (v : Value) (L : List (List UInt8)) (w : World) (hm : MaxD w) (hv : SL w v L) (hs : ∀ x ∈ L, x.length ≤ 4294967200) (hl : L.length ≤ 1000000) :
    Calls Tryz.prog 78 #[v] w fun e w' => ∃ u, e = .returned u ∧ ownD w' w.heap.size u (dirsAll L) ∧ Below w.heap.size w w' := by
  obtain ⟨A, c, rfl⟩ := hv.form
  obtain ⟨i0, hi, hz0, hz1, hz2⟩ := info_parts infoD
  refine (callsIn_wide (n := 9)).1 ?_
  refine callsIn_of_wp_marks Tryz.func78 rfl trivial ?_ rfl
  simp only [Tryz.ntmps78, List.size_toArray, List.length_cons, List.length_nil, Nat.reduceAdd, Nat.reduceSub, Array.replicate_succ, Array.replicate_zero, List.push_toArray, List.append_toArray, List.nil_append, List.cons_append]
  have HV := Lib.hid hv; have HM := Lib.hid hm; have HS := Lib.hid hs; clear hv hm hs
  gi_wp2_with fail
  refine wpIn_loop (fun a W => ∃ (k : Nat) (u5 u10 u11 u12 u13 u14 u20 : Value) (Ds : List Nat), k ≤ L.length ∧ LdMem w W (dirsAll (L.take k)) Ds ∧
      a = { tmps := #[.slice A L.length c, undef, .slice none 0 0, .pointer (some ⟨w.heap.size, 0, none⟩), undef, u5, undef, .slice A L.length c, .int .i64 L.length, .int .i64 k, u10, u11, u12, u13, u14, undef, undef, undef, undef, undef, u20, undef], defers := marksD Ds })
    (fun a _ => L.length - (intOf (a.tmps.getD 9 undef)).toNat) ?_ ?_
  · refine ⟨0, _, _, _, _, _, _, _, [], Nat.zero_le _, ⟨⟨_, Boxed.new w _ _, ownD_nil _ _⟩, (Below.refl _ _).alloc (Nat.le_refl _) _, HM.out.bel ((Below.refl _ _).alloc (Nat.le_refl _) _), (fun D h => by cases h), List.nodup_nil⟩, rfl⟩
  · rintro a W ⟨k, u5, u10, u11, u12, u13, u14, u20, Ds, hk, hmem, rfl⟩
    have HX := Lib.hid hmem; clear hmem
    by_cases hlt : k < L.length
    · obtain ⟨b, off, rfl, hb, hcell⟩ := (HV.out.bel HX.out.bel).get k hlt
      have hle : L[k].length ≤ 4294967200 := HS.out _ (List.getElem_mem hlt)
      have hda := directives_any L[k] W
      have hbn := Boxed.new W 9 (.string (bs L[k]))
      have hmv := HX.out.below ((Below.refl _ _).alloc (Nat.le_refl _) (.cells #[.string (bs L[k])] 9))
      have hst := iter_stops L[k] W.heap.size (W.alloc (.cells #[.string (bs L[k])] 9)) hmv.lib (by simp) hbn.cell hle
      have hsn := dirsAll_snoc L k hlt
      have hln := dirsAll_len (L.take k)
      have hl1 := dirs_len L[k]
      rw [List.length_take] at hln
      have HDA := Lib.hid hda; have HST := Lib.hid hst; have HMV := Lib.hid hmv; have HSN := Lib.hid hsn; have HLN : Hid ((dirsAll (L.take k)).length + 64 ≤ 100000000) := by show _ ≤ _; omega
      clear hda hst hmv hbn hle hsn hln
      have HL1 := Lib.hid hl1; clear hl1
      gi_wp2_with fail
      refine ⟨trivial, (callsIn_wide.2 HDA.out).mono ?_⟩
      rintro e w' ⟨rfl, rfl⟩
      gi_wp2_with fail
      obtain ⟨V, hV⟩ : ∃ V, W.alloc (.cells #[.string (bs L[k])] 9) = V := ⟨_, rfl⟩
      rw [hV] at HST HMV ⊢
      have hVs : W.heap.size < V.heap.size := by rw [← hV]; simp
      clear hV
      refine wpIn_rangeFunc_ownH rfl (by omega) (gf := 160) (lb := #[.pointer (some ⟨W.heap.size, 0, none⟩)]) rfl trivial (enters_of Tryz.func160 (by kernel_rfl) rfl)
        HST.out (fun h k => h.trans k) Kd.book (Below.refl _ _) (fun _ => rfl)
        (fun pre W' => LdMem w W' (dirsAll (L.take k) ++ pre) Ds) (fun _ _ _ => False)
        (LdMem.own (Nat.le_trans HX.out.bel.size (Nat.le_of_lt hVs)) (fun D hD => Nat.lt_trans (Array.getElem?_eq_some_iff.1 (HX.out.old D hD).2).1 hVs))
        (fun _ _ _ _ _ hs _ _ => hs) (by rw [List.append_nil]; exact HMV.out)
        (fun d a' W' => ∃ Bx, dbk W' Bx (dvA d) ∧ a' = { tmps := #[.slice (some ⟨b, off, none⟩) L.length c, undef, .slice none 0 0, .pointer (some ⟨w.heap.size, 0, none⟩), undef, .string (bs L[k]), .pointer (some ⟨Bx, 0, none⟩), .slice (some ⟨b, off, none⟩) L.length c, .int .i64 L.length, .int .i64 k, .bool true, .pointer (some ⟨b, off + k, none⟩), .string (bs L[k]), .string (bs L[k]), .func (.func 160) #[] #[.pointer (some ⟨W.heap.size, 0, none⟩)],
          .agg #[.string (bs d.1), .string (bs d.2.1), .bool d.2.2.1, .string (bs d.2.2.2)], undef, undef, undef, undef, u20, undef], defers := [] })
        ?hAx ?assign ?body ?done ?stop
      case hAx =>
        rintro d a' s X Y row ⟨Bx, ⟨T, hT⟩, rfl⟩ hg hr
        refine ⟨Bx, ⟨T, (hg.block Bx (Array.getElem?_eq_some_iff.1 hT).1 fun e => ?_).trans hT⟩, rfl⟩
        obtain ⟨o, ho, hc⟩ := (hr Bx e.symm).2
        rw [hT] at ho; cases ho; cases hc
      case assign =>
        intro l pre d X K hi hK
        have hn : dbk (X.alloc (.cells #[.string (bs d.1), .string (bs d.2.1), .bool d.2.2.1, .string (bs d.2.2.2)] 79)) X.heap.size (dvA d) := dbk.new X _ _
        have hq : Below X.heap.size X (X.alloc (.cells #[.string (bs d.1), .string (bs d.2.1), .bool d.2.2.1, .string (bs d.2.2.2)] 79)) := (Below.refl _ _).alloc (Nat.le_refl _) _
        have HK := Lib.hid (fun a' => hK a' _ ((KeepsOthers.alloc X (.cells #[.string (bs d.1), .string (bs d.2.1), .bool d.2.2.1, .string (bs d.2.2.2)] 79)).from _) (Kd.bel hq) (hi.below hq))
        clear hK hi hq
        have HN := Lib.hid hn; clear hn
        dsimp only [dvV]
        gi_wp2_with fail
        exact HK.out _ ⟨_, HN.out, rfl⟩
      case body =>
        rintro l pre d a' X hl hr hi ⟨Bx, hx, rfl⟩ hlt2
        have hd2 : dirsAll (L.take k) ++ (pre ++ [d]) = (dirsAll (L.take k) ++ pre) ++ [d] := (List.append_assoc _ _ _).symm
        have hll : (dirsAll (L.take k) ++ pre).length + 1 ≤ 4294967296 := by
          have h1 := HLN.out; have h2 := HL1.out
          rw [List.length_append]; omega
        show Code.wpIn _ _ _ _ (ownPostG V.heap.size Kd (fun pre W' => LdMem w W' (dirsAll (L.take k) ++ pre) Ds) (fun _ _ _ => False) (pre ++ [d]) X) _ X
        have hpost : ∀ (a : Act) (W' : World), KeepsFrom V.heap.size X W' ∧ Kd X W' ∧ LdMem w W' ((dirsAll (L.take k) ++ pre) ++ [d]) Ds → ownPostG V.heap.size Kd (fun pre W' => LdMem w W' (dirsAll (L.take k) ++ pre) Ds) (fun _ _ _ => False) (pre ++ [d]) X .normal a W' := fun a W' h => ⟨h.1, h.2.1, by show LdMem w W' (dirsAll (L.take k) ++ (pre ++ [d])) Ds; rw [hd2]; exact h.2.2⟩
        have HP := Lib.hid hpost; clear hpost hd2
        generalize dirsAll (L.take k) ++ pre = M at *
        obtain ⟨u, hu, ho⟩ := hi.out
        have HI := Lib.hid hi; clear hi
        have hc := hu.cell
        obtain ⟨A', c', rfl⟩ := ho.form
        obtain ⟨c0, c1, c2, c3⟩ := hx.four
        have hsz := HI.out.bel.size
        have HX2 := Lib.hid hx; clear hx
        have HU := Lib.hid hu; have HO := Lib.hid ho; clear hu ho
        clear hlt2 hr hl
        gi_wp2_with (gi_at_builtin; refine wpListIn_append_own _ rfl _ _ 68 rfl w.heap.size 79 i0 (.agg #[.string ⟨#[]⟩, .string ⟨#[]⟩, .bool false, .string ⟨#[]⟩]) 4 56 Tryz.underlying68 hi hz0 hz1 hz2 rfl (by decide) _ _ _ rfl (HO.out.alloc _) ⟨X.heap.size, 0, none⟩ 1 1 [Value.string (bs d.1), .string (bs d.2.1), .bool d.2.2.1, .string (bs d.2.2.2)] rfl rfl (World.news_of_block (heap_alloc_new X _)) (one4 d) (by unfold maxLen; omega) (by omega) (by simp; omega) ?_; intro v' w1 hown' hgrow _; obtain ⟨g', cap', rfl⟩ := ownsRow_succ hown'; obtain ⟨hv1, hv2, hr2, hk2, hb2⟩ := HU.out.appended (by decide) HO.out hsz (Nat.le_refl _) hown' hgrow; have hc1 := hv1.cell; have hf1 := hv1.frozen; have HG := Lib.hid hgrow; have HV2 := Lib.hid hv2; have HR2 := Lib.hid hr2; have HK2 := Lib.hid hk2; have HB2 := Lib.hid hb2; clear hgrow hv2 hr2 hk2 hb2 hv1 hown' hc)
        have hbw := HI.out.bel.trans HB2.out
        refine HP.out _ _ ⟨HK2.out.from _, kd_appended HU.out HO.out HG.out (HM.out.bel hbw), ⟨_, HV2.out, ?_⟩, hbw, HM.out.bel hbw, fun D hD => ⟨(HI.out.old D hD).1, HK2.out.same D _ (HI.out.old D hD).2 rfl⟩, HI.out.nod⟩
        have h := HR2.out
        unfold ownD
        rw [List.length_append, dcs_append]
        exact h
      case done =>
        rintro D xs X hD rfl hi hK
        have HI := Lib.hid hi; have HD := Lib.hid hD; have HK := Lib.hid hK; clear hi hD hK
        gi_wp2_with fail
        refine ⟨⟨k + 1, .string (bs L[k]), .bool true, .pointer (some ⟨b, off + k, none⟩), .string (bs L[k]), .string (bs L[k]), .func (.func 160) #[] #[.pointer (some ⟨W.heap.size, 0, none⟩)], .int .i64 (k + 1), D :: Ds, by omega, ?_, rfl⟩, by simp [intOf]; omega⟩
        have h := HI.out
        rw [HSN.out]
        refine ⟨h.out, h.bel, h.lib, fun D' hD' => ?_, List.nodup_cons.2 ⟨fun hD' => ?_, h.nod⟩⟩
        · rcases List.mem_cons.1 hD' with rfl | hD'
          · exact ⟨Nat.le_trans HX.out.bel.size (Nat.le_trans (Nat.le_of_lt hVs) HD.out), HK.out⟩
          · exact h.old D' hD'
        · have h1 := (Array.getElem?_eq_some_iff.1 (HX.out.old D hD').2).1
          have h2 := HD.out
          omega
      case stop =>
        rintro D c pre X _ _ h _
        exact h.elim
    · obtain ⟨u, hu, ho⟩ := HX.out.out
      have hc := hu.cell
      have hE : L.take k = L := List.take_of_length_le (by omega)
      rw [hE] at ho
      have HO := Lib.hid ho; have HU := Lib.hid hu; clear ho hu hE
      obtain ⟨A', c', rfl⟩ := HO.out.form
      gi_wp2_with fail
      refine leaves_marks w.heap.size (fun X => ownD X w.heap.size (.slice A' (dirsAll L).length c') (dirsAll L) ∧ Below w.heap.size w X) ?_ ?_ Ds W HX.out.nod HX.out.old ⟨HO.out, HX.out.bel⟩
      · rintro X D o hB ⟨h1, h2⟩ hx
        exact ⟨ownsRow_putObj h1 _ hx rfl, h2.trans (belowK_b (w := w) (Nat.le_refl _) X D _ _ hB hx rfl rfl)⟩
      · rintro X ⟨h1, h2⟩
        exact ⟨.slice A' (dirsAll L).length c', results_tmp (t := 2) rfl _ _ _, _, rfl, h1, h2⟩
end Go.Proofs.YtfobjaccpnondaaGreatDoor
