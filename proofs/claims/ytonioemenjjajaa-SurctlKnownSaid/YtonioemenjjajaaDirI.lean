/- The document's directives of values. -/
import Derived.Test.YtonioemenjjajaaDirH
namespace Go.Proofs.Ytonioemenjjajaa
open Go.RowKit

/-- the blocks of texts stand -/
def Ks (W W' : World) : Prop := ∀ (b : Nat) (cs : Array Value) (r : Nat × Nat), W.heap[b]? = some (Obj.cells cs 9 r) → W'.heap[b]? = some (Obj.cells cs 9 r)
theorem Ks.bel {W W' : World} (h : Below W.heap.size W W') : Ks W W' := fun b cs r e => by rw [h.block b (Array.getElem?_eq_some_iff.1 e).1]; exact e
theorem Ks.trans {A B C : World} (h : Ks A B) (k : Ks B C) : Ks A C := fun b cs r e => k b cs r (h b cs r e)
theorem ownS.ks {W W' : World} {base : Nat} {v : Value} {L : List (List UInt8)} (h : ownS W base v L) (k : Ks W W') : ownS W' base v L := by
  refine ⟨h.1, ?_⟩
  rcases h.2 with hn | ⟨g, cap, cur, hv, hbg, hg, r⟩
  · exact .inl hn
  · exact .inr ⟨g, cap, cur, hv, hbg, k _ _ _ hg, r⟩
/-- 'append(l, d)', and the blocks of texts stand -/
theorem wpList_appDS {w0 w : World} {ops : Array Oper} {rest : List Oper} {o : Oper} {a : Act} {Q : Exit → Act → World → Prop} (hgd : o.guard = none) (s x : Operand)
    (ho : o.op = .call { callee := .builtin .append, args := #[s, x], argTypes := #[26, 26] })
    (base B : Nat) (v : Value) (l : List Dv) (d : Dv) (hs : a.eval s = v) (hown : ownD w base v l) (hb : Below B w0 w) (hBb : B ≤ base) (hbase : base ≤ w.heap.size)
    {g : Nat} (hx : a.eval x = .slice (some ⟨g, 0, none⟩) 1 1) (hlen : l.length + 1 ≤ 4294967296)
    (h : ∀ v' w', Hid (ownD w' base v' (l ++ [d])) → Hid (Below B w0 w') → Hid (Ks w w') → wpList Try.prog ops Q rest (a.put o.dst v') w') (hg : g = w.heap.size := by simp) :
    wpList Try.prog ops Q (o :: rest) a (w.alloc (.cells #[.string (bs d.1), .string (bs d.2.1), .bool d.2.2.1, .string (bs d.2.2.2)] 39)) := by
  obtain ⟨i0, hi, hz0, hz1, hz2⟩ := info_parts infoD
  subst hg
  refine wpList_append_own _ hgd s x 26 ho base 39 i0 (.agg #[.string ⟨#[]⟩, .string ⟨#[]⟩, .bool false, .string ⟨#[]⟩]) 4 56 Try.underlying26 hi hz0 hz1 hz2 rfl (by decide) v l.length _ hs (hown.alloc _) ⟨w.heap.size, 0, none⟩ 1 1 [.string (bs d.1), .string (bs d.2.1), .bool d.2.2.1, .string (bs d.2.2.2)] hx rfl ?_ ?_ ?_ ?_ ?_ ?_
  · exact World.news_of_block (heap_alloc_new w _)
  · exact one4 d
  · unfold maxLen; omega
  · omega
  · simp; omega
  · intro v' w' h1 h2 _
    have hge : ∀ k, v.ownBlock = some k → base ≤ k := fun k hk => (World.ownsRow.lt hown k hk).1
    refine h v' w' ?_ ?_ ?_
    · have : (l ++ [d]).length = l.length + 1 := by simp
      show ownD _ _ _ _
      unfold ownD
      rw [this, dcs_append]
      exact h1
    · exact (hb.alloc (by omega) _).grown h2 (by simp; omega) (fun k hk => Nat.le_trans hBb (hge k hk))
    · intro b cs r e
      have hlt := (Array.getElem?_eq_some_iff.1 e).1
      refine (h2.block b (by simp; omega) fun e' => ?_).trans ((Below.heap_alloc _ _ _ hlt).trans e)
      rcases hown.2 with ⟨rfl, _⟩ | ⟨g, cap, cur, rfl, _, hg, _⟩
      · cases e'
      · obtain rfl : b = g := by simpa [Value.ownBlock] using e'
        rw [e] at hg
        simp at hg

end Go.Proofs.Ytonioemenjjajaa
