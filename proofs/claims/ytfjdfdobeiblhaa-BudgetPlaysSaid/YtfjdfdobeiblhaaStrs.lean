/- Slices of texts that a call has made. -/
import Derived.Test.YtfjdfdobeiblhaaBytes
import Derived.Deep.AppendLies
namespace Go.Proofs.Ytfjdfdobeiblhaa
open Go.RowKit
theorem infoS : (Try.prog.info? 9).map (fun i => (i.zero, i.size, i.bytes)) = some (some (.string ⟨#[]⟩), 1, 16) := by kernel_rfl
def strCs (l : List (List UInt8)) : List Value := l.map fun x => Value.string (bs x)
def ownS (w : World) (base : Nat) (v : Value) (l : List (List UInt8)) : Prop := w.ownsRow base 9 1 v l.length (strCs l)
theorem ownS_nil (w : World) (base : Nat) : ownS w base (.slice none 0 0) [] := World.ownsRow_nil _ _ _ _
theorem ownS.alloc {w : World} {base : Nat} {v : Value} {l : List (List UInt8)} (h : ownS w base v l) (o : Obj) : ownS (w.alloc o) base v l := World.ownsRow.alloc h o
theorem ownS.drew {w : World} {base : Nat} {v : Value} {l : List (List UInt8)} (h : ownS w base v l) : ownS w.drew base v l := World.ownsRow.drew h
theorem ownS.setLow {w : World} {base : Nat} {v : Value} {l : List (List UInt8)} (h : ownS w base v l) {a : Addr} (ha : a.block < base) (u : Value) : ownS (w.setCell a u) base v l := ownsRow_setCell_below h ha u
theorem ownS.below {B : Nat} {w w' : World} {base : Nat} {v : Value} {l : List (List UInt8)} (h : ownS w base v l) (hb : Below B w w') (hB : w.heap.size ≤ B) : ownS w' base v l := by
  refine ⟨h.1, ?_⟩
  rcases h.2 with hn | ⟨g, cap, cur, hv, hbg, hg, r⟩
  · exact .inl hn
  · exact .inr ⟨g, cap, cur, hv, hbg, by rw [hb.block g (Nat.lt_of_lt_of_le (Array.getElem?_eq_some_iff.1 hg).1 hB)]; exact hg, r⟩
theorem ownS.mono {w : World} {base base' : Nat} {v : Value} {l : List (List UInt8)} (h : ownS w base v l) (hb : base' ≤ base) : ownS w base' v l := by
  refine ⟨h.1, ?_⟩
  rcases h.2 with hn | ⟨g, cap, cur, hv, hbg, r⟩
  · exact .inl hn
  · exact .inr ⟨g, cap, cur, hv, by omega, r⟩
theorem ownS.form {w : World} {base : Nat} {v : Value} {l : List (List UInt8)} (h : ownS w base v l) : ∃ a c, v = .slice a l.length c := by
  rcases h.2 with ⟨rfl, hn⟩ | ⟨g, cap, cur, rfl, _⟩
  · exact ⟨none, 0, by rw [hn]⟩
  · exact ⟨_, _, rfl⟩
theorem ownS.cell {w : World} {base : Nat} {a : Option Addr} {n c : Nat} {l : List (List UInt8)} (h : ownS w base (.slice a n c) l) (j : Nat) (hj : j < l.length) :
    ∃ g, a = some ⟨g, 0, none⟩ ∧ w.cell? ⟨g, j, none⟩ = some (.string (bs (l.getD j []))) := by
  rcases h.2 with ⟨_, hn⟩ | ⟨g, cap, cur, hv, _⟩
  · omega
  · simp only [Value.slice.injEq] at hv
    obtain ⟨rfl, _, _⟩ := hv
    refine ⟨g, rfl, ?_⟩
    have h1 := World.ownsRow.cells h (g := g) rfl j (.string (bs (l.getD j []))) (by simp [strCs, hj])
    rw [show (⟨g, 0, none⟩ : Addr).add j = ⟨g, j, none⟩ from by unfold Addr.add; split <;> simp_all] at h1
    exact h1
/-- 'append(l, x)': the texts, and x. (The new text lies in a block of its own, laid just ahead.) What lies below the slice's base stands. -/
theorem wpList_appS {w0 w : World} {ops : Array Oper} {rest : List Oper} {o : Oper} {a : Act} {Q : Exit → Act → World → Prop} (hgd : o.guard = none) (s x : Operand)
    (ho : o.op = .call { callee := .builtin .append, args := #[s, x], argTypes := #[35, 35] })
    (base B : Nat) (v : Value) (l : List (List UInt8)) (t : List UInt8) (hs : a.eval s = v) (hown : ownS w base v l) (hb : Below B w0 w) (hBb : B ≤ base) (hbase : base ≤ w.heap.size)
    {g : Nat} (hx : a.eval x = .slice (some ⟨g, 0, none⟩) 1 1) (hlen : l.length + 1 ≤ 4294967296)
    (h : ∀ v' w', Hid (ownS w' base v' (l ++ [t])) → Hid (Below B w0 w') → Hid (∀ b, b < base → w'.heap[b]? = w.heap[b]?) → wpList Try.prog ops Q rest (a.put o.dst v') w') (hg : g = w.heap.size := by simp) :
    wpList Try.prog ops Q (o :: rest) a (w.alloc (.cells #[.string (bs t)] 9)) := by
  obtain ⟨i0, hi, hz0, hz1, hz2⟩ := info_parts infoS
  subst hg
  refine wpList_append_own _ hgd s x 35 ho base 9 i0 (.string ⟨#[]⟩) 1 16 Try.underlying35 hi hz0 hz1 hz2 rfl (by decide) v l.length _ hs (hown.alloc _) ⟨w.heap.size, 0, none⟩ 1 1 [.string (bs t)] hx rfl ?_ ?_ ?_ ?_ ?_ ?_
  · intro j v hj
    match j, hj with
    | 0, hj => simp at hj; subst hj; simp [Addr.add]
  · intro v hv; simp at hv; subst hv; rfl
  · unfold maxLen; omega
  · omega
  · simp; omega
  · intro v' w' h1 h2 _
    have hge : ∀ k, v.ownBlock = some k → base ≤ k := fun k hk => (World.ownsRow.lt hown k hk).1
    refine h v' w' ?_ ?_ ?_
    · have : (l ++ [t]).length = l.length + 1 := by simp
      show ownS _ _ _ _
      unfold ownS
      rw [this]
      simpa [strCs] using h1
    · exact (hb.alloc (by omega) _).grown h2 (by simp; omega) (fun k hk => Nat.le_trans hBb (hge k hk))
    · intro b hb
      rw [h2.block b (by simp; omega) (fun e => by have := hge b e.symm; omega)]
      exact Below.heap_alloc _ _ _ (by omega)
end Go.Proofs.Ytfjdfdobeiblhaa
