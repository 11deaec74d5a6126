/- Lists of URIs in memory: slices that are read, slices of the call's own, one append. -/
import Derived.Test.YtnpiaifkeddjeaaGreatDoorKUriA
import Derived.Deep.AppendLies
namespace Go.Proofs.YtnpiaifkeddjeaaGreatDoor
open Go.RowKit

theorem infoU : (Tryz.prog.info? 23).map (fun i => (i.zero, i.size, i.bytes)) = some (some (.agg #[.string ⟨#[]⟩, .string ⟨#[]⟩, .int .i64 0, .string ⟨#[]⟩, .string ⟨#[]⟩, .bool false]), 6, 80) := by kernel_rfl
/-- a URI's cells; a list's -/
def urC (u : Ur) : List Value := [.string (bs u.sc), .string (bs u.ho), .int .i64 u.po, .string (bs u.pa), .string (bs u.qu), .bool u.hq]
def ucs (l : List Ur) : List Value := l.flatMap urC
theorem ucs_len (l : List Ur) : (ucs l).length = l.length * 6 := by
  induction l with
  | nil => rfl
  | cons f r ih => simp [ucs, urC] at ih ⊢; omega
theorem ucs_append (a b : List Ur) : ucs (a ++ b) = ucs a ++ ucs b := by simp [ucs]
/-- the six cells at a place -/
def six (w : World) (b off : Nat) (u : Ur) : Prop :=
  w.cell? ⟨b, off, none⟩ = some (.string (bs u.sc)) ∧ w.cell? ⟨b, off + 1, none⟩ = some (.string (bs u.ho)) ∧ w.cell? ⟨b, off + 2, none⟩ = some (.int .i64 u.po) ∧ w.cell? ⟨b, off + 3, none⟩ = some (.string (bs u.pa)) ∧ w.cell? ⟨b, off + 4, none⟩ = some (.string (bs u.qu)) ∧ w.cell? ⟨b, off + 5, none⟩ = some (.bool u.hq)
theorem six.keep {w w' : World} {b off : Nat} {u : Ur} (h : six w b off u) (hk : w'.heap[b]? = w.heap[b]?) : six w' b off u := by
  obtain ⟨h0, h1, h2, h3, h4, h5⟩ := h
  exact ⟨(World.cell?_of_block (a := ⟨b, off, none⟩) hk).trans h0, (World.cell?_of_block (a := ⟨b, off + 1, none⟩) hk).trans h1, (World.cell?_of_block (a := ⟨b, off + 2, none⟩) hk).trans h2, (World.cell?_of_block (a := ⟨b, off + 3, none⟩) hk).trans h3, (World.cell?_of_block (a := ⟨b, off + 4, none⟩) hk).trans h4, (World.cell?_of_block (a := ⟨b, off + 5, none⟩) hk).trans h5⟩
theorem ucs_at (l : List Ur) (j : Nat) (hj : j < l.length) : (ucs l)[j * 6]? = some (.string (bs l[j].sc)) ∧ (ucs l)[j * 6 + 1]? = some (.string (bs l[j].ho)) ∧ (ucs l)[j * 6 + 2]? = some (.int .i64 l[j].po) ∧ (ucs l)[j * 6 + 3]? = some (.string (bs l[j].pa)) ∧ (ucs l)[j * 6 + 4]? = some (.string (bs l[j].qu)) ∧ (ucs l)[j * 6 + 5]? = some (.bool l[j].hq) := by
  induction l generalizing j with
  | nil => exact absurd hj (by simp)
  | cons f r ih =>
    have e : ucs (f :: r) = .string (bs f.sc) :: .string (bs f.ho) :: .int .i64 f.po :: .string (bs f.pa) :: .string (bs f.qu) :: .bool f.hq :: ucs r := by simp [ucs, urC]
    rw [e]
    cases j with
    | zero => exact ⟨rfl, rfl, rfl, rfl, rfl, rfl⟩
    | succ k =>
      have h := ih k (by simpa using hj)
      rw [show (k + 1) * 6 = k * 6 + 6 from by omega]
      exact h
/-- the slice v reads as the URIs l -/
def UL (w : World) (v : Value) (l : List Ur) : Prop :=
  (l = [] ∧ ∃ A c, v = .slice A 0 c) ∨ ∃ b off c, v = .slice (some ⟨b, off, none⟩) l.length c ∧ b < w.heap.size ∧ ∀ j (hj : j < l.length), six w b (off + j * 6) l[j]
theorem UL.form {w : World} {v : Value} {l : List Ur} (h : UL w v l) : ∃ A c, v = .slice A l.length c := by
  rcases h with ⟨rfl, A, c, rfl⟩ | ⟨b, off, c, rfl, _⟩
  · exact ⟨A, c, rfl⟩
  · exact ⟨_, _, rfl⟩
theorem UL.bel {w w' : World} {v : Value} {l : List Ur} (h : UL w v l) (hb : Below w.heap.size w w') : UL w' v l := by
  rcases h with h | ⟨b, off, c, hv, hlt, hc⟩
  · exact .inl h
  · exact .inr ⟨b, off, c, hv, Nat.lt_of_lt_of_le hlt hb.size, fun j hj => (hc j hj).keep (hb.block b hlt)⟩
theorem UL.keepG {w w' : World} {v : Value} {l : List Ur} (h : UL w v l) (hk : ∀ g, v.ownBlock = some g → w'.heap[g]? = w.heap[g]?) : UL w' v l := by
  rcases h with h | ⟨b, off, c, rfl, hb, hc⟩
  · exact .inl h
  · have he := hk b rfl
    have hs : b < w'.heap.size := by
      rw [Array.getElem?_eq_getElem hb] at he
      exact (Array.getElem?_eq_some_iff.1 he).1
    exact .inr ⟨b, off, c, rfl, hs, fun j hj => (hc j hj).keep he⟩
theorem UL.get {w : World} {A : Option Addr} {n c : Nat} {l : List Ur} (h : UL w (.slice A n c) l) (j : Nat) (hj : j < l.length) :
    ∃ b off, A = some ⟨b, off, none⟩ ∧ b < w.heap.size ∧ six w b (off + j * 6) l[j] := by
  rcases h with ⟨rfl, _⟩ | ⟨b, off, c, hv, hlt, hc⟩
  · exact absurd hj (by simp)
  · simp only [Value.slice.injEq] at hv
    exact ⟨b, off, hv.1, hlt, hc j hj⟩
theorem UL_nil (w : World) : UL w (.slice none 0 0) [] := .inl ⟨rfl, _, _, rfl⟩

/-- a slice of the call's own that holds the URIs l -/
def ownU (w : World) (base : Nat) (v : Value) (l : List Ur) : Prop := w.ownsRow base 23 6 v l.length (ucs l)
theorem ownU_nil (w : World) (base : Nat) : ownU w base (.slice none 0 0) [] := World.ownsRow_nil _ _ _ _
theorem ownU.alloc {w : World} {base : Nat} {v : Value} {l : List Ur} (h : ownU w base v l) (o : Obj) : ownU (w.alloc o) base v l := World.ownsRow.alloc h o
theorem ownU.bel {w w' : World} {base : Nat} {v : Value} {l : List Ur} (h : ownU w base v l) (hb : Below w.heap.size w w') : ownU w' base v l := by
  refine ⟨h.1, ?_⟩
  rcases h.2 with hn | ⟨g, cap, cur, hv, hbg, hg, r⟩
  · exact .inl hn
  · exact .inr ⟨g, cap, cur, hv, hbg, by rw [hb.block g (Array.getElem?_eq_some_iff.1 hg).1]; exact hg, r⟩
theorem ownU.mono {w : World} {base base' : Nat} {v : Value} {l : List Ur} (h : ownU w base v l) (hb : base' ≤ base) : ownU w base' v l := by
  refine ⟨h.1, ?_⟩
  rcases h.2 with hn | ⟨g, cap, cur, hv, hbg, r⟩
  · exact .inl hn
  · exact .inr ⟨g, cap, cur, hv, by omega, r⟩
theorem ownU.ul {w : World} {base : Nat} {v : Value} {l : List Ur} (h : ownU w base v l) : UL w v l := by
  rcases h.2 with ⟨rfl, hn⟩ | ⟨g, cap, cur, rfl, hb, hg, hnc, hcm, hcs, ht⟩
  · exact .inl ⟨List.eq_nil_of_length_eq_zero hn, _, _, rfl⟩
  · refine .inr ⟨g, 0, cap, rfl, (Array.getElem?_eq_some_iff.1 hg).1, fun j hj => ?_⟩
    obtain ⟨h0, h1, h2, h3, h4, h5⟩ := ucs_at l j hj
    have hh : w.ownsRow base 23 6 (.slice (some ⟨g, 0, none⟩) l.length cap) l.length (ucs l) := h
    rw [Nat.zero_add]
    refine ⟨?_, ?_, ?_, ?_, ?_, ?_⟩
    · rw [hh.cellAt (j * 6) (by omega)]; exact h0
    · rw [hh.cellAt (j * 6 + 1) (by omega)]; exact h1
    · rw [hh.cellAt (j * 6 + 2) (by omega)]; exact h2
    · rw [hh.cellAt (j * 6 + 3) (by omega)]; exact h3
    · rw [hh.cellAt (j * 6 + 4) (by omega)]; exact h4
    · rw [hh.cellAt (j * 6 + 5) (by omega)]; exact h5
theorem ownU.form {w : World} {base : Nat} {v : Value} {l : List Ur} (h : ownU w base v l) : ∃ A c, v = .slice A l.length c := h.ul.form
/-- '[]api.URI{u}' -/
theorem ownU_lit {w : World} {base : Nat} (u : Ur) (hb : base ≤ w.heap.size) : ownU (w.alloc (.cells #[.string (bs u.sc), .string (bs u.ho), .int .i64 u.po, .string (bs u.pa), .string (bs u.qu), .bool u.hq] 23)) base (.slice (some ⟨w.heap.size, 0, none⟩) 1 1) [u] :=
  World.ownsRow_lit (size := 6) w _ 1 hb (by decide) (by simp)
/-- 'append(l, u)': the URIs, and u. (The new one lies in a block of its own, laid just ahead.) Blocks that are not the slice's own stand. -/
theorem wpList_appU {w0 w : World} {ops : Array Oper} {rest : List Oper} {o : Oper} {a : Act} {Q : Exit → Act → World → Prop} (hgd : o.guard = none) (s x : Operand)
    (ho : o.op = .call { callee := .builtin .append, args := #[s, x], argTypes := #[55, 55] })
    (base B : Nat) (v : Value) (l : List Ur) (u : Ur) (hs : a.eval s = v) (hown : ownU w base v l) (hb : Below B w0 w) (hBb : B ≤ base) (hbase : base ≤ w.heap.size)
    {g : Nat} (hx : a.eval x = .slice (some ⟨g, 0, none⟩) 1 1) (hlen : l.length + 1 ≤ 4294967296)
    (h : ∀ v' w', Hid (ownU w' base v' (l ++ [u])) → Hid (Below B w0 w') → Hid (∀ k, v.ownBlock ≠ some k → k < w.heap.size → v'.ownBlock ≠ some k ∧ w'.heap[k]? = w.heap[k]?) → Hid (w.heap.size ≤ w'.heap.size) → wpList Tryz.prog ops Q rest (a.put o.dst v') w') (hg : g = w.heap.size := by simp) :
    wpList Tryz.prog ops Q (o :: rest) a (w.alloc (.cells #[.string (bs u.sc), .string (bs u.ho), .int .i64 u.po, .string (bs u.pa), .string (bs u.qu), .bool u.hq] 23)) := by
  obtain ⟨i0, hi, hz0, hz1, hz2⟩ := info_parts infoU
  subst hg
  refine wpList_append_lies _ hgd s x 55 ho base 23 i0 (.agg #[.string ⟨#[]⟩, .string ⟨#[]⟩, .int .i64 0, .string ⟨#[]⟩, .string ⟨#[]⟩, .bool false]) 6 80 Tryz.underlying55 hi hz0 hz1 hz2 rfl (by decide) v l.length _ hs (hown.alloc _) ⟨w.heap.size, 0, none⟩ 1 1 (urC u) hx rfl
    (World.news_of_block (cs := #[.string (bs u.sc), .string (bs u.ho), .int .i64 u.po, .string (bs u.pa), .string (bs u.qu), .bool u.hq]) (t := 23) (fr := (0, 0)) (heap_alloc_new w _)) ?_ (by omega) ?_ ?_ ?_ (w.heap.size + 1) (by simp) ?_
  · intro v hv; simp [urC] at hv; rcases hv with rfl | rfl | rfl | rfl | rfl | rfl <;> rfl
  · unfold maxLen; omega
  · omega
  · simp; omega
  · intro g cap w' h1 h2 hat hlt
    have hz := h2.size
    rw [World.size_alloc] at hz
    have hge : ∀ k, v.ownBlock = some k → base ≤ k := fun k hk => (World.ownsRow.lt hown k hk).1
    refine h _ w' ?_ ?_ (fun k hv hk => ⟨fun e => ?_, ?_⟩) (show _ ≤ _ by omega)
    · have : (l ++ [u]).length = l.length + 1 := by simp
      show ownU _ _ _ _
      unfold ownU
      rw [this, ucs_append]
      simpa [ucs] using h1
    · exact (hb.alloc (by omega) _).grown h2 (by simp; omega) (fun k hk => Nat.le_trans hBb (hge k hk))
    · have hk' : g = k := by simpa [Value.ownBlock] using e
      subst hk'
      rcases hat with h3 | h3
      · exact hv h3
      · omega
    · rw [h2.block k (by simp; omega) (fun e => hv e.symm)]
      exact Below.heap_alloc _ _ _ hk
end Go.Proofs.YtnpiaifkeddjeaaGreatDoor
