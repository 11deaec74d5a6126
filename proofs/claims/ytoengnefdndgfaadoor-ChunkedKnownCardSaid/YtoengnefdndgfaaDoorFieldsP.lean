/- The text of a list of fields: the fields layer's Put, and the document's own. -/
import Derived.Test.YtoengnefdndgfaaDoorFieldsC
import Derived.Test.YtoengnefdndgfaaDoorBuild
import Derived.Lib.AppendStr
namespace Go.Proofs.YtoengnefdndgfaaDoor
open Go.RowKit

theorem ownsRow_bel {w w' : World} {base : Nat} {e : TypeId} {size : Nat} {v : Value} {n : Nat} {xs : List Value} (h : w.ownsRow base e size v n xs) (hb : Below w.heap.size w w') : w'.ownsRow base e size v n xs := by
  refine ⟨h.1, ?_⟩
  rcases h.2 with hn | ⟨g, cap, cur, hv, hbg, hg, r⟩
  · exact .inl hn
  · exact .inr ⟨g, cap, cur, hv, hbg, (hb.block g (Array.getElem?_eq_some_iff.1 hg).1).trans hg, r⟩
theorem ownB.bel {w w' : World} {base : Nat} {v : Value} {l : List UInt8} (h : ownB w base v l) (hb : Below w.heap.size w w') : ownB w' base v l := ownsRow_bel h hb
theorem bldr.bel {w w' : World} {B b : Nat} {l : List UInt8} (h : bldr w B b l) (hb : Below w.heap.size w w') : bldr w' B b l := by
  rcases h with ⟨h1, v, h2, h3, h4⟩ | ⟨h1, v, h2, h3, h4⟩
  · exact .inl ⟨h1, v, (hb.block b (Array.getElem?_eq_some_iff.1 h2).1).trans h2, ownsRow_bel h3 hb, h4⟩
  · exact .inr ⟨h1, v, (hb.block b (Array.getElem?_eq_some_iff.1 h2).1).trans h2, ownsRow_bel h3 hb, h4⟩
theorem lines_step {l : List Fld} {k : Nat} (h : k < l.length) : linesL (l.take (k + 1)) = linesL (l.take k) ++ (lineL l[k] ++ [13, 10]) := by
  rw [List.take_succ_eq_append_getElem h, lines_snoc]
theorem lines_take_len {l : List Fld} (h : ∀ f ∈ l, chkF f = 0) (hl : l.length ≤ 64) (k : Nat) : (linesL (l.take k)).length ≤ 131200 := by
  have := lines_len (l := l.take k) fun f hf => h f (List.mem_of_mem_take hf)
  have h2 : (l.take k).length ≤ 64 := Nat.le_trans (List.length_take_le' _ _) hl
  omega


/-- 'append(b, s...)', s a text. -/
theorem wpList_appStr {w0 w : World} {ops : Array Oper} {rest : List Oper} {o : Oper} {a : Act} {Q : Exit → Act → World → Prop} (hgd : o.guard = none) (s x : Operand)
    (ho : o.op = .call { callee := .builtin .append, args := #[s, x], argTypes := #[36, 9] })
    (base B : Nat) (v : Value) (l t : List UInt8) (hs : a.eval s = v) (hown : ownB w base v l) (hb : Below B w0 w) (hBb : B ≤ base) (hbase : base ≤ w.heap.size)
    (hx : a.eval x = .string (bs t)) (hlen : l.length + t.length ≤ 140737488355328)
    (h : ∀ v' w', Hid (ownB w' base v' (l ++ t)) → Hid (Below B w0 w') → wpList Tryd.prog ops Q rest (a.put o.dst v') w') :
    wpList Tryd.prog ops Q (o :: rest) a w := by
  obtain ⟨i0, hi, hz0, hz1, hz2⟩ := info_parts infoB
  have hsz : (bs t).size = t.length := bs_size t
  refine Lib.wpList_append_own_string _ hgd s x 36 9 ho base 5 i0 Tryd.underlying36 Tryd.underlying9 hi hz0 hz1 hz2 v l.length _ hs hown (bs t) hx ?_ ?_ hbase ?_
  · rw [hsz]; unfold maxLen; omega
  · rw [hsz]; omega
  · intro v' w' h1 h2 _
    refine h v' w' ?_ (hb.grown h2 (by omega) (fun k hk => Nat.le_trans hBb (hown.ge k hk)))
    show World.ownsRow _ _ _ _ _ _ _
    rw [List.length_append, Lib.byteCells_append, ← hsz]
    have e : Lib.strCells (bs t) = Lib.byteCells t := by simp [Lib.strCells, Lib.byteCells]
    rw [e] at h1
    exact h1
/-- 'append(b, c, d)'. -/
theorem wpList_appTwo {w0 w : World} {ops : Array Oper} {rest : List Oper} {o : Oper} {a : Act} {Q : Exit → Act → World → Prop} (hgd : o.guard = none) (s x : Operand)
    (ho : o.op = .call { callee := .builtin .append, args := #[s, x], argTypes := #[36, 36] })
    (base B : Nat) (v : Value) (l : List UInt8) (c d : Int) (u1 u2 : UInt8) (hs : a.eval s = v) (hown : ownB w base v l) (hb : Below B w0 w) (hBb : B ≤ base) (hbase : base ≤ w.heap.size) (hu : c = (u1.toNat : Int)) (hd : d = (u2.toNat : Int))
    {g : Nat} (hx : a.eval x = .slice (some ⟨g, 0, none⟩) 2 2) (hlen : l.length + 2 ≤ 140737488355328)
    (h : ∀ v' w', Hid (ownB w' base v' (l ++ [u1, u2])) → Hid (Below B w0 w') → wpList Tryd.prog ops Q rest (a.put o.dst v') w') (hg : g = w.heap.size := by simp) :
    wpList Tryd.prog ops Q (o :: rest) a (w.alloc (.cells #[.int .u8 c, .int .u8 d] 5)) := by
  obtain ⟨i0, hi, hz0, hz1, hz2⟩ := info_parts infoB
  subst hu hd hg
  refine wpList_append_own _ hgd s x 36 ho base 5 i0 (.int .u8 0) 1 1 Tryd.underlying36 hi hz0 hz1 hz2 rfl (by decide) v l.length _ hs (hown.alloc _) ⟨w.heap.size, 0, none⟩ 2 2 [.int .u8 u1.toNat, .int .u8 u2.toNat] hx rfl ?_ ?_ ?_ ?_ ?_ ?_
  · exact World.news_of_block (heap_alloc_new w _)
  · intro v hv; simp at hv; rcases hv with rfl | rfl <;> rfl
  · unfold maxLen; omega
  · omega
  · simp; omega
  · intro v' w' h1 h2 _
    refine h v' w' ?_ ?_
    · have : (l ++ [u1, u2]).length = l.length + 2 := by simp
      show ownB _ _ _ _
      unfold ownB
      rw [this, Lib.byteCells_append]
      exact h1
    · exact (hb.alloc (by omega) _).grown h2 (by simp; omega) (fun k hk => Nat.le_trans hBb (hown.ge k hk))

end Go.Proofs.YtoengnefdndgfaaDoor
