/- 'append(l, x)' on texts beside blocks that stay: a slice of the call's own, lists that are read. -/
import Derived.Test.YtmlgmpjbjbjaoaaKFieldsA
import Derived.Maps.OwnSet
import Derived.Deep.AppendLies
namespace Go.Proofs.Ytmlgmpjbjbjaoaa
open Go.RowKit

theorem SL.keepG {w w' : World} {v : Value} {L : List (List UInt8)} (h : SL w v L) (hk : ∀ g, v.ownBlock = some g → w'.heap[g]? = w.heap[g]?) (hz : w.heap.size ≤ w'.heap.size) : SL w' v L := by
  rcases h with h | ⟨b, off, c, rfl, hb, hc⟩
  · exact .inl h
  · refine .inr ⟨b, off, c, rfl, by omega, fun j hj => ?_⟩
    rw [World.cell?_of_block (hk b rfl)]
    exact hc j hj
theorem SL.lt {w : World} {A : Option Addr} {n c : Nat} {L : List (List UInt8)} (h : SL w (.slice A n c) L) (hn : 0 < L.length) : ∀ g, (Value.slice A n c).ownBlock = some g → g < w.heap.size := by
  rcases h with ⟨rfl, _⟩ | ⟨b, off, c', hv, hb, hc⟩
  · cases hn
  · intro g hg
    cases hv
    have : b = g := by simpa [Value.ownBlock] using hg
    omega
/-- a list that is read, and the list that is made; what lies below stands -/
structure NR (w0 w : World) (vN : Value) (N : List (List UInt8)) (vM : Value) (M : List (List UInt8)) (o : Value) (acc : List (List UInt8)) : Prop where
  own : ownS w w0.heap.size o acc
  oN : ∀ g, vN.ownBlock = some g → o.ownBlock ≠ some g ∧ g < w.heap.size
  oM : ∀ g, vM.ownBlock = some g → o.ownBlock ≠ some g ∧ g < w.heap.size
  sN : SL w vN N
  sM : SL w vM M
  bel : Below w0.heap.size w0 w
theorem NR.call {w0 w w' : World} {vN vM o : Value} {N M acc : List (List UInt8)} (h : NR w0 w vN N vM M o acc) (hb : Below w.heap.size w w') : NR w0 w' vN N vM M o acc :=
  ⟨h.own.bel hb, fun g hg => ⟨(h.oN g hg).1, Nat.lt_of_lt_of_le (h.oN g hg).2 hb.size⟩, fun g hg => ⟨(h.oM g hg).1, Nat.lt_of_lt_of_le (h.oM g hg).2 hb.size⟩, h.sN.bel hb, h.sM.bel hb, h.bel.trans (hb.mono h.bel.size)⟩
/-- the second list is another one now: one made since -/
theorem NR.next {w0 w w' : World} {vN vM o u : Value} {N M acc U : List (List UInt8)} (h : NR w0 w vN N vM M o acc) (hb : Below w.heap.size w w') (hu : ownS w' w.heap.size u U) : NR w0 w' vN N u U o acc := by
  have h' := h.call hb
  refine ⟨h'.own, h'.oN, fun g hg => ⟨fun e => ?_, (World.ownsRow.lt hu g hg).2⟩, h'.sN, hu.sl, h'.bel⟩
  have h1 := (World.ownsRow.lt h.own g e).2
  have h2 := (World.ownsRow.lt hu g hg).1
  omega
theorem NR.drop {w0 w : World} {vN vM o : Value} {N M acc : List (List UInt8)} (h : NR w0 w vN N vM M o acc) : NR w0 w vN N (.slice none 0 0) [] o acc :=
  ⟨h.own, h.oN, fun g hg => by simp [Value.ownBlock] at hg, h.sN, SL_nil _, h.bel⟩
/-- a block is written (a map's), which none of them is -/
theorem NR.turn {w0 w w' : World} {vN vM o : Value} {N M acc : List (List UInt8)} {m : Nat} (h : NR w0 w vN N vM M o acc) (hg : w.grownBy w' (some m)) (hm : w0.heap.size ≤ m) (ho : o.ownBlock ≠ some m) (hN : vN.ownBlock ≠ some m) (hM : vM.ownBlock ≠ some m) : NR w0 w' vN N vM M o acc := by
  refine ⟨World.ownsRow.kept h.own hg (.inr ho), fun g hq => ⟨(h.oN g hq).1, Nat.lt_of_lt_of_le (h.oN g hq).2 hg.size⟩, fun g hq => ⟨(h.oM g hq).1, Nat.lt_of_lt_of_le (h.oM g hq).2 hg.size⟩, ?_, ?_, h.bel.grown hg h.bel.size (fun k hk => by cases hk; exact hm)⟩
  · exact h.sN.keepG (fun g hq => hg.block g (h.oN g hq).2 (fun e => hN (hq.trans e))) hg.size
  · exact h.sM.keepG (fun g hq => hg.block g (h.oM g hq).2 (fun e => hM (hq.trans e))) hg.size
/-- 'append(o, t)' beside them, and beside the blocks G -/
theorem wpList_appNR {w0 w : World} {ops : Array Oper} {rest : List Oper} {o : Oper} {a : Act} {Q : Exit → Act → World → Prop} (hgd : o.guard = none) (s x : Operand)
    (ho : o.op = .call { callee := .builtin .append, args := #[s, x], argTypes := #[27, 27] })
    (G : Nat → Prop) (v vN vM : Value) (N M l : List (List UInt8)) (t : List UInt8) (hs : a.eval s = v) (h : NR w0 w vN N vM M v l) (hG : ∀ g, G g → v.ownBlock ≠ some g ∧ g < w.heap.size)
    {g : Nat} (hx : a.eval x = .slice (some ⟨g, 0, none⟩) 1 1) (hlen : l.length + 1 ≤ 4294967296)
    (hc : ∀ v' w', Hid (NR w0 w' vN N vM M v' (l ++ [t])) → Hid (∀ k, G k → v'.ownBlock ≠ some k) → Hid (∀ k, G k → w'.heap[k]? = w.heap[k]?) → wpList Try.prog ops Q rest (a.put o.dst v') w') (hg : g = w.heap.size := by simp) :
    wpList Try.prog ops Q (o :: rest) a (w.alloc (.cells #[.string (bs t)] 9)) := by
  obtain ⟨i0, hi, hz0, hz1, hz2⟩ := info_parts infoS
  subst hg
  have hbase := h.bel.size
  refine wpList_append_lies _ hgd s x 27 ho w0.heap.size 9 i0 (.string ⟨#[]⟩) 1 16 Try.underlying27 hi hz0 hz1 hz2 rfl (by decide) v l.length _ hs (h.own.alloc _) ⟨w.heap.size, 0, none⟩ 1 1 [.string (bs t)] hx rfl
    (World.news_of_block (cs := #[.string (bs t)]) (t := 9) (fr := (0, 0)) (heap_alloc_new w _)) ?_ (by omega) ?_ ?_ ?_ (w.heap.size + 1) (by simp) ?_
  · intro v hv; simp at hv; subst hv; rfl
  · unfold maxLen; omega
  · omega
  · simp; omega
  · intro g cap w' h1 h2 hat hlt
    have hz := h2.size
    rw [World.size_alloc] at hz
    have hnew : ∀ k, v.ownBlock ≠ some k → k < w.heap.size → (Value.slice (some ⟨g, 0, none⟩) (l.length + 1) cap).ownBlock ≠ some k := by
      intro k hv hk e
      have hk' : g = k := by simpa [Value.ownBlock] using e
      subst hk'
      rcases hat with h3 | h3
      · exact hv h3
      · omega
    have hsame : ∀ k, v.ownBlock ≠ some k → k < w.heap.size → w'.heap[k]? = w.heap[k]? := by
      intro k hv hk
      rw [h2.block k (by simp; omega) (fun e => hv e.symm)]
      exact Below.heap_alloc _ _ _ hk
    refine hc _ w' ⟨?_, fun k hk => ⟨hnew k (h.oN k hk).1 (h.oN k hk).2, by have := (h.oN k hk).2; omega⟩, fun k hk => ⟨hnew k (h.oM k hk).1 (h.oM k hk).2, by have := (h.oM k hk).2; omega⟩, ?_, ?_, ?_⟩ (fun k hk => hnew k (hG k hk).1 (hG k hk).2) (fun k hk => hsame k (hG k hk).1 (hG k hk).2)
    · have : (l ++ [t]).length = l.length + 1 := by simp
      show ownS _ _ _ _
      unfold ownS
      rw [this]
      simpa [strCs] using h1
    · exact h.sN.keepG (fun k hk => hsame k (h.oN k hk).1 (h.oN k hk).2) (by omega)
    · exact h.sM.keepG (fun k hk => hsame k (h.oM k hk).1 (h.oM k hk).2) (by omega)
    · exact (h.bel.alloc hbase _).grown h2 (by simp; omega) (fun k hk => (World.ownsRow.lt h.own k hk).1)
end Go.Proofs.Ytmlgmpjbjbjaoaa
