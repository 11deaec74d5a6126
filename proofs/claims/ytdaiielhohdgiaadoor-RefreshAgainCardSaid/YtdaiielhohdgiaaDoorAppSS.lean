/- A slice of texts that the call has made, and all texts of another behind it. -/
import Derived.Test.YtdaiielhohdgiaaDoorKBytes
import Derived.Test.YtdaiielhohdgiaaDoorKFieldsA
import Derived.Lib.AppendZeros
namespace Go.Proofs.YtdaiielhohdgiaaDoor
open Go.RowKit

theorem app_nothingS (ty : TypeId) (A : Option Addr) (n cap c : Nat) (w : World) (hA : A = none → n = 0 ∧ cap = 0) (hn : n ≤ cap) :
    (Builtin.append_ #[33, 33] ty #[.slice A n cap, .slice none 0 c]).run Tryd.prog w = .ok (.slice A n cap) w := by
  obtain ⟨i0, hi, hz0, hz1, hz2⟩ := info_parts infoS
  cases A with
  | none =>
    obtain ⟨rfl, rfl⟩ := hA rfl
    simp [Builtin.append_, run_underlying Tryd.underlying33, sizeOf, typeInfo, hi, Builtin.lenOf, Builtin.firstCells]
  | some a =>
    simp [Builtin.append_, run_underlying Tryd.underlying33, sizeOf, typeInfo, hi, Builtin.lenOf, Builtin.firstCells, hn, storeCells]
/-- 'append(l, m...)': the texts of the one, those of the other. What lies below the slice's base stands. -/
theorem wpList_appSS {w0 w : World} {ops : Array Oper} {rest : List Oper} {o : Oper} {a : Act} {Q : Exit → Act → World → Prop} (hgd : o.guard = none) (s x : Operand)
    (ho : o.op = .call { callee := .builtin .append, args := #[s, x], argTypes := #[33, 33] })
    (base B : Nat) (v vx : Value) (l m : List (List UInt8)) (hs : a.eval s = v) (hown : ownS w base v l) (hb : Below B w0 w) (hBb : B ≤ base) (hbase : base ≤ w.heap.size)
    (hx : a.eval x = vx) (hm : SL w vx m) (hlen : l.length + m.length ≤ 4294967296)
    (h : ∀ v' w', Hid (ownS w' base v' (l ++ m)) → Hid (Below B w0 w') → Hid (∀ b, b < base → w'.heap[b]? = w.heap[b]?) → Hid (w.heap.size ≤ w'.heap.size) → wpList Tryd.prog ops Q rest (a.put o.dst v') w') :
    wpList Tryd.prog ops Q (o :: rest) a w := by
  obtain ⟨i0, hi, hz0, hz1, hz2⟩ := info_parts infoS
  have key : ∀ (ad : Addr) (c : Nat), vx = .slice (some ad) m.length c → (∀ j u, (strCs m)[j]? = some u → w.cell? (ad.add j) = some u) → wpList Tryd.prog ops Q (o :: rest) a w := by
    intro ad c hv hc
    refine wpList_append_own _ hgd s x 33 ho base 9 i0 (.string ⟨#[]⟩) 1 16 Tryd.underlying33 hi hz0 hz1 hz2 rfl (by decide) v l.length _ hs hown ad m.length c (strCs m) (hx.trans hv) (by simp [strCs]) hc ?_ ?_ ?_ hbase ?_
    · intro v hv; simp [strCs] at hv; obtain ⟨y, _, rfl⟩ := hv; rfl
    · unfold maxLen; omega
    · omega
    · intro v' w' h1 h2 _
      have hge : ∀ k, v.ownBlock = some k → base ≤ k := fun k hk => (World.ownsRow.lt hown k hk).1
      refine h v' w' ?_ ?_ ?_ h2.size
      · show ownS _ _ _ _
        unfold ownS
        rw [List.length_append, show strCs (l ++ m) = strCs l ++ strCs m from by simp [strCs]]
        exact h1
      · exact hb.grown h2 (Nat.le_trans hBb hbase) (fun k hk => Nat.le_trans hBb (hge k hk))
      · intro b hb2
        exact h2.block b (by omega) (fun e => by have := hge b e.symm; omega)
  rcases hm with ⟨rfl, A, c, hv⟩ | ⟨b, off, c, hv, _, hc⟩
  · cases A with
    | some ad => exact key ad c hv (fun j u hu => by simp [strCs] at hu)
    | none =>
      have hform : ∃ A n cap, v = .slice A l.length cap ∧ (A = none → l.length = 0 ∧ cap = 0) ∧ l.length ≤ cap ∧ n = l.length := by
        rcases hown.2 with ⟨rfl, hn⟩ | ⟨g, cap, cur, rfl, _, _, hnc, _⟩
        · exact ⟨none, 0, 0, by rw [hn], fun _ => ⟨hn, rfl⟩, by omega, hn.symm⟩
        · exact ⟨some ⟨g, 0, none⟩, l.length, cap, rfl, (fun e => by cases e), hnc, rfl⟩
      obtain ⟨A, _, cap, rfl, h1, h2, _⟩ := hform
      refine Lib.wpList_append_run _ hgd s x 33 33 ho _ _ hs (hx.trans hv) _ _ (app_nothingS _ A l.length cap c w h1 h2) ?_
      exact h _ _ (by rw [List.append_nil]; exact hown) hb (fun _ _ => rfl) (Nat.le_refl _)
  · refine key ⟨b, off, none⟩ c hv fun j u hu => ?_
    have hj : j < m.length := by have := (List.getElem?_eq_some_iff.1 hu).1; simpa [strCs] using this
    rw [Addr.add_lit, hc j hj]
    simp [strCs, hj] at hu
    rw [hu]
end Go.Proofs.YtdaiielhohdgiaaDoor
