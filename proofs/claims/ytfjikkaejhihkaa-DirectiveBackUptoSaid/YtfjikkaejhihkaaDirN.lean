/- One list of texts behind another: what append makes of them; what every directive that is read is. -/
import Derived.Test.YtfjikkaejhihkaaDirL
import Derived.ArgAppend
import Derived.Lib.AppendZeros
namespace Go.Proofs.Ytfjikkaejhihkaa
open Go.RowKit

theorem dirs_name {l : List UInt8} {d : Dv} (h : d ∈ dirs l) : token d.1 = true ∧ lower d.1 = d.1 ∧ (d.2.2.1 = false → d.2.1 = []) ∧ d.2.2.2 = [] := by
  unfold dirs at h
  split at h
  · obtain ⟨e, _, he⟩ := List.mem_filterMap.1 h
    exact sayD_name he
  · rw [List.mem_singleton.1 h]
    exact ⟨by decide, by decide, fun _ => rfl, rfl⟩
theorem dirsAll_name {L : List (List UInt8)} {d : Dv} (h : d ∈ dirsAll L) : token d.1 = true ∧ lower d.1 = d.1 ∧ (d.2.2.1 = false → d.2.1 = []) ∧ d.2.2.2 = [] := by
  obtain ⟨x, _, hx⟩ := List.mem_flatMap.1 h
  exact dirs_name hx
theorem dirs_at_len {l : List UInt8} {d : Dv} (h : d ∈ dirs l) : d.1.length ≤ l.length + 8 ∧ d.2.1.length ≤ l.length := by
  unfold dirs at h
  split at h
  · obtain ⟨e, he, hd⟩ := List.mem_filterMap.1 h
    have h1 := sayD_len hd
    have h2 := splitL_at he
    omega
  · rw [List.mem_singleton.1 h]
    exact ⟨by simp [noStore], by simp [noStore]⟩
theorem dirsAll_at_len {L : List (List UInt8)} {d : Dv} {N : Nat} (hL : ∀ x ∈ L, x.length ≤ N) (h : d ∈ dirsAll L) : d.1.length ≤ N + 8 ∧ d.2.1.length ≤ N := by
  obtain ⟨x, hx, hd⟩ := List.mem_flatMap.1 h
  have h1 := dirs_at_len hd
  have h2 := hL x hx
  omega
theorem dirsAll_append (A B : List (List UInt8)) : dirsAll (A ++ B) = dirsAll A ++ dirsAll B := by unfold dirsAll; rw [List.flatMap_append]

theorem app_nothingD (ty : TypeId) (A A2 : Option Addr) (n cap c : Nat) (w : World) (hA : A = none → n = 0 ∧ cap = 0) (hn : n ≤ cap) :
    (Builtin.append_ #[22, 22] ty #[.slice A n cap, .slice A2 0 c]).run Try.prog w = .ok (.slice A n cap) w := by
  obtain ⟨i0, hi, hz0, hz1, hz2⟩ := info_parts infoS
  cases A with
  | none =>
    obtain ⟨rfl, rfl⟩ := hA rfl
    cases A2 <;> simp [Builtin.append_, run_underlying Try.underlying22, sizeOf, typeInfo, hi, Builtin.lenOf, Builtin.firstCells, loadCells, loadCellsFrom]
  | some a =>
    cases A2 <;> simp [Builtin.append_, run_underlying Try.underlying22, sizeOf, typeInfo, hi, Builtin.lenOf, Builtin.firstCells, hn, storeCells, loadCells, loadCellsFrom]
/-- 'append(l[:len(l):len(l)], m...)': the texts of the one, those of the other -/
theorem wpList_joinT {w : World} {ops : Array Oper} {rest : List Oper} {o : Oper} {a : Act} {Q : Exit → Act → World → Prop} (hgd : o.guard = none) (s x : Operand)
    (ho : o.op = .call { callee := .builtin .append, args := #[s, x], argTypes := #[22, 22] })
    (A : Option Addr) (L M : List (List UInt8)) (vx : Value) (hs : a.eval s = .slice A L.length L.length) (hx : a.eval x = vx) (hL : SL w (.slice A L.length L.length) L) (hM : SL w vx M)
    (hlen : L.length + M.length ≤ 4294967296)
    (h : ∀ v' w', Hid (SL w' v' (L ++ M)) → Hid (Below w.heap.size w w') → wpList Try.prog ops Q rest (a.put o.dst v') w') :
    wpList Try.prog ops Q (o :: rest) a w := by
  obtain ⟨i0, hi, hz0, hz1, hz2⟩ := info_parts infoS
  have hnone : A = none → L.length = 0 ∧ L.length = 0 := by
    rintro rfl
    rcases hL with ⟨rfl, _⟩ | ⟨b, off, c, hv, _⟩
    · exact ⟨rfl, rfl⟩
    · simp at hv
  obtain ⟨A2, c2, rfl⟩ := hM.form
  by_cases hm : M = []
  · subst hm
    refine Lib.wpList_append_run _ hgd s x 22 22 ho _ _ hs hx _ _ (app_nothingD _ A A2 L.length L.length c2 w hnone (Nat.le_refl _)) ?_
    exact h _ _ (by rw [List.append_nil]; exact hL) (Below.refl _ _)
  · rcases hM with ⟨rfl, _⟩ | ⟨b, off, c, hv, hb, hc⟩
    · exact absurd rfl hm
    · simp only [Value.slice.injEq] at hv
      obtain ⟨rfl, -, rfl⟩ := hv
      have hpos : 0 < M.length := List.length_pos_iff.2 hm
      refine wpList_append_grows _ hgd s x 22 ho 9 i0 (.string ⟨#[]⟩) 1 16 Try.underlying22 hi hz0 hz1 hz2 rfl (by decide) A L.length L.length (strCs L) hs hnone (by simp [strCs]) ?_ ⟨b, off, none⟩ M.length c2 (strCs M) hx (by simp [strCs]) ?_ ?_ (by omega) (by unfold maxLen; omega) (by omega) ?_
      · rintro a0 rfl j u hu
        have hj : j < L.length := by have := (List.getElem?_eq_some_iff.1 hu).1; simpa [strCs] using this
        obtain ⟨b1, o1, e, _, hc1⟩ := hL.get j hj
        cases e
        rw [Addr.add_lit, hc1]
        simp [strCs, hj] at hu
        rw [hu]
      · intro j u hu
        have hj : j < M.length := by have := (List.getElem?_eq_some_iff.1 hu).1; simpa [strCs] using this
        rw [Addr.add_lit, hc j hj]
        simp [strCs, hj] at hu
        rw [hu]
      · intro u hu
        obtain ⟨y, _, rfl⟩ := List.mem_map.1 hu
        rfl
      · intro v' w' h1 h2
        have h3 : ownS w' w.heap.size v' (L ++ M) := by
          unfold ownS
          rw [List.length_append]
          simpa [strCs] using h1
        exact h v' w' h3.sl ((Below.refl _ _).grown h2 (Nat.le_refl _) (fun k e => by cases e))
end Go.Proofs.Ytfjikkaejhihkaa
