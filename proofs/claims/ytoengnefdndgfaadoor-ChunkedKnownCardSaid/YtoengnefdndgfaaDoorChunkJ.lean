/- A body in chunks: the program's. -/
import Derived.Test.YtoengnefdndgfaaDoorChunk1
import Derived.Test.YtoengnefdndgfaaDoorChunkG
import Derived.Test.YtoengnefdndgfaaDoorBuild
import Derived.Test.YtoengnefdndgfaaDoorChunkC
namespace Go.Proofs.YtoengnefdndgfaaDoor
open Go.RowKit

set_option maxHeartbeats 1000000 in
set_option maxRecDepth 100000 in
theorem usable_any (v : Value) (l : List Int) (whole : Int) (w : World) (h : IL w v l) (hl : l.length ≤ 4294967296) :
    Calls Tryd.prog 28 #[v, .int .i64 whole] w fun e w' => ∃ v', e = .returned v' ∧ IL w' v' (useL l whole) ∧ Below w.heap.size w w' := by
  obtain ⟨A, c, rfl⟩ := h.form
  have HC := Lib.hid (cloneI_any _ l w h hl)
  clear h
  have hpl : (posL l).length ≤ l.length := List.length_filter_le _ _
  go_enter Tryd.func28, Tryd.ntmps28
  go_wp2_with fail
  refine HC.out.mono ?_; rintro e w1 ⟨v1, rfl, h1, hb1⟩
  have HD := Lib.hid (deleteI_any w.heap.size v1 l w1 h1 hl)
  obtain ⟨a1, m1, c1, rfl⟩ : ∃ a m c, v1 = .slice a m c := by
    rcases h1.2 with ⟨hv, _⟩ | ⟨g, cap, cur, hv, _⟩
    · exact ⟨_, _, _, hv⟩
    · exact ⟨_, _, _, hv⟩
  have HB1 := Lib.hid hb1; clear hb1 h1
  go_wp2_with fail
  refine HD.out.mono ?_; rintro e w2 ⟨v2, rfl, h2, hb2⟩
  obtain ⟨a2, c2, rfl⟩ := h2.form
  have HL := Lib.hid h2; have HB2 := Lib.hid (HB1.out.trans hb2); clear h2 hb2
  by_cases h0 : posL l = []
  · have HU : Hid (useL l whole = [whole]) := if_pos h0
    have h00 : (posL l).length = 0 := by rw [h0]; rfl
    have HLL := Lib.hid (IL_lit w2 whole)
    have HB3 := Lib.hid (HB2.out.alloc HB2.out.size (.cells #[.int .i64 whole] 3))
    rw [h00] 
    clear h0 h00 HL hpl
    go_wp2_with fail
    go_ret
    exact ⟨_, rfl, by rw [HU.out]; exact HLL.out, HB3.out⟩
  · have HU : Hid (useL l whole = posL l) := if_neg h0
    have h00 : ((posL l).length : Int) ≠ 0 := fun e => h0 (List.eq_nil_of_length_eq_zero (by omega))
    have h01 : (((posL l).length : Int) == 0) = false := beq_eq_false_iff_ne.2 h00
    clear h0 h00
    go_wp2_with fail
    go_ret
    exact ⟨_, rfl, by rw [HU.out]; exact HL.out, HB2.out⟩

/-- 'append(b, s...)', s a text -/
theorem wpList_appT {w0 w : World} {ops : Array Oper} {rest : List Oper} {o : Oper} {a : Act} {Q : Exit → Act → World → Prop} (hgd : o.guard = none) (s x : Operand)
    (ho : o.op = .call { callee := .builtin .append, args := #[s, x], argTypes := #[36, 9] })
    (base B : Nat) (v : Value) (l : List UInt8) (t : ByteArray) (hs : a.eval s = v) (hown : ownB w base v l) (hb : Below B w0 w) (hBb : B ≤ base) (hbase : base ≤ w.heap.size)
    (hx : a.eval x = .string t) (hlen : l.length + t.size ≤ 140737488355328)
    (h : ∀ v' w', Hid (ownB w' base v' (l ++ t.data.toList)) → Hid (Below B w0 w') → wpList Tryd.prog ops Q rest (a.put o.dst v') w') :
    wpList Tryd.prog ops Q (o :: rest) a w := by
  obtain ⟨i0, hi, hz0, hz1, hz2⟩ := info_parts infoB
  refine Lib.wpList_append_own_string _ hgd s x 36 9 ho base 5 i0 Tryd.underlying36 Tryd.underlying9 hi hz0 hz1 hz2 v l.length _ hs hown t hx ?_ ?_ hbase ?_
  · unfold maxLen; omega
  · omega
  · intro v' w' h1 h2 _
    refine h v' w' ?_ ?_
    · show ownB _ _ _ _
      unfold ownB
      rw [Lib.byteCells_append, List.length_append]
      have e : Lib.strCells t = Lib.byteCells t.data.toList := by simp [Lib.strCells, Lib.byteCells]
      rw [e] at h1
      exact h1
    · exact hb.grown h2 (Nat.le_trans hBb hbase) (fun k hk => Nat.le_trans hBb (hown.ge k hk))

set_option maxHeartbeats 2000000 in
set_option maxRecDepth 100000 in
theorem appendChunk_any (base : Nat) (v : Value) (l c : List UInt8) (w : World) (he : EnvC w) (hown : ownB w base v l) (hbase : base ≤ w.heap.size) (hl : l.length ≤ 1099511627776) (hc : c.length ≤ 1048576) :
    Calls Tryd.prog 29 #[v, .string (bs c)] w fun e w' => ∃ v', e = .returned v' ∧ ownB w' base v' (l ++ chunkT c) ∧ Below base w w' := by
  have h := ai_any base v l c.length w he hown hbase hl (by omega)
  have hh := hexL_len8 (n := c.length) (by omega)
  have HT : Hid (l ++ hexL c.length ++ [13, 10] ++ c ++ [13, 10] = l ++ chunkT c) := by show _ = _; unfold chunkT; simp
  obtain ⟨C, hCe, hCl, hCz⟩ := text_of c
  rw [← hCe]
  rw [← hCz] at h
  have HC := Lib.hid hCl; have HZ := Lib.hid hCz
  have HL2 : Hid ((l ++ hexL c.length).length ≤ 1099511627784 ∧ C.size ≤ 1048576) := ⟨by rw [List.length_append]; omega, by omega⟩
  obtain ⟨ao, no, co, rfl⟩ := hown.shape
  have HH := Lib.hid h
  clear h hown hCe hCl hCz hh he
  go_enter Tryd.func29, Tryd.ntmps29
  go_wp2_with fail
  refine HH.out.mono ?_; rintro e w1 ⟨v1, rfl, ho, hb⟩
  obtain ⟨a1, n1, c1, rfl⟩ := ho.shape
  rw [HZ.out] at ho
  have HO1 := Lib.hid ho; have HB1 := Lib.hid hb; clear ho hb
  go_wp2_with (at_builtin; refine wpList_appT rfl (.tmp 9) (.const (.string ⟨#[13, 10]⟩)) rfl base base _ _ ⟨#[13, 10]⟩ rfl HO1.out HB1.out (Nat.le_refl _) (Nat.le_trans hbase HB1.out.size) rfl ?c2 ?_)
  case c2 =>
    have h := HL2.out.1
    show _ + 2 ≤ _
    omega
  intro v2 w2 HO2 HB2
  obtain ⟨a2, n2, c2, rfl⟩ := HO2.out.shape
  go_wp2_with (at_builtin; refine wpList_appT rfl (.tmp 11) (.tmp 12) rfl base base _ _ C rfl HO2.out HB2.out (Nat.le_refl _) (Nat.le_trans hbase HB2.out.size) rfl ?c3 ?_)
  case c3 =>
    have h := HL2.out
    simp only [List.length_append, List.length_cons, List.length_nil] at h ⊢
    omega
  intro v3 w3 HO3 HB3
  obtain ⟨a3, n3, c3, rfl⟩ := HO3.out.shape
  go_wp2_with (at_builtin; refine wpList_appT rfl (.tmp 14) (.const (.string ⟨#[13, 10]⟩)) rfl base base _ _ ⟨#[13, 10]⟩ rfl HO3.out HB3.out (Nat.le_refl _) (Nat.le_trans hbase HB3.out.size) rfl ?c4 ?_)
  case c4 =>
    have h := HL2.out
    have hz : C.data.toList.length = C.size := (size_len C).symm
    show _ + 2 ≤ _
    simp only [List.length_append, List.length_cons] at h ⊢
    omega
  intro v4 w4 HO4 HB4
  go_wp2_with fail
  go_ret
  refine ⟨_, rfl, ?_, HB4.out⟩
  have h := HO4.out
  rw [HC.out] at h
  rw [← HT.out]
  simpa using h
end Go.Proofs.YtoengnefdndgfaaDoor
