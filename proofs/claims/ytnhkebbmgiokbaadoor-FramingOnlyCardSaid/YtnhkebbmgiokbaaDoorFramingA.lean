/- A slice of texts that the call has made, and all texts of another behind it. What a length is, what a coding, which replies have no body. -/
import Derived.Test.YtnhkebbmgiokbaaDoorFieldsB
import Derived.Test.YtnhkebbmgiokbaaDoorFraming0
import Derived.Lib.AppendZeros
namespace Go.Proofs.YtnhkebbmgiokbaaDoor
open Go.RowKit

theorem app_nothingS (ty : TypeId) (A : Option Addr) (n cap c : Nat) (w : World) (hA : A = none → n = 0 ∧ cap = 0) (hn : n ≤ cap) :
    (Builtin.append_ #[39, 39] ty #[.slice A n cap, .slice none 0 c]).run Tryd.prog w = .ok (.slice A n cap) w := by
  obtain ⟨i0, hi, hz0, hz1, hz2⟩ := info_parts infoS
  cases A with
  | none =>
    obtain ⟨rfl, rfl⟩ := hA rfl
    simp [Builtin.append_, run_underlying Tryd.underlying39, sizeOf, typeInfo, hi, Builtin.lenOf, Builtin.firstCells]
  | some a =>
    simp [Builtin.append_, run_underlying Tryd.underlying39, sizeOf, typeInfo, hi, Builtin.lenOf, Builtin.firstCells, hn, storeCells]
/-- 'append(l, m...)': the texts of the one, those of the other. What lies below the slice's base stands. -/
theorem wpList_appSS {w0 w : World} {ops : Array Oper} {rest : List Oper} {o : Oper} {a : Act} {Q : Exit → Act → World → Prop} (hgd : o.guard = none) (s x : Operand)
    (ho : o.op = .call { callee := .builtin .append, args := #[s, x], argTypes := #[39, 39] })
    (base B : Nat) (v vx : Value) (l m : List (List UInt8)) (hs : a.eval s = v) (hown : ownS w base v l) (hb : Below B w0 w) (hBb : B ≤ base) (hbase : base ≤ w.heap.size)
    (hx : a.eval x = vx) (hm : SL w vx m) (hlen : l.length + m.length ≤ 4294967296)
    (h : ∀ v' w', Hid (ownS w' base v' (l ++ m)) → Hid (Below B w0 w') → Hid (∀ b, b < base → w'.heap[b]? = w.heap[b]?) → Hid (w.heap.size ≤ w'.heap.size) → wpList Tryd.prog ops Q rest (a.put o.dst v') w') :
    wpList Tryd.prog ops Q (o :: rest) a w := by
  obtain ⟨i0, hi, hz0, hz1, hz2⟩ := info_parts infoS
  have key : ∀ (ad : Addr) (c : Nat), vx = .slice (some ad) m.length c → (∀ j u, (strCs m)[j]? = some u → w.cell? (ad.add j) = some u) → wpList Tryd.prog ops Q (o :: rest) a w := by
    intro ad c hv hc
    refine wpList_append_own _ hgd s x 39 ho base 9 i0 (.string ⟨#[]⟩) 1 16 Tryd.underlying39 hi hz0 hz1 hz2 rfl (by decide) v l.length _ hs hown ad m.length c (strCs m) (hx.trans hv) (by simp [strCs]) hc ?_ ?_ ?_ hbase ?_
    · intro v hv; simp [strCs] at hv; obtain ⟨y, _, rfl⟩ := hv; rfl
    · unfold maxLen; omega
    · omega
    · intro v' w' h1 h2 _
      have hge : ∀ k, v.ownBlock = some k → base ≤ k := fun k hk => (World.ownsRow.lt hown k hk).1
      refine h v' w' ?_ ?_ ?_ h2.size
      · show ownS _ _ _ _
        unfold ownS
        rw [List.length_append, show strCs (l ++ m) = strCs l ++ strCs m from by simp [strCs]]
        exact h1
      · exact hb.grown h2 (Nat.le_trans hBb hbase) (fun k hk => Nat.le_trans hBb (hge k hk))
      · intro b hb2
        exact h2.block b (by omega) (fun e => by have := hge b e.symm; omega)
  rcases hm with ⟨rfl, A, c, hv⟩ | ⟨b, off, c, hv, _, hc⟩
  · cases A with
    | some ad => exact key ad c hv (fun j u hu => by simp [strCs] at hu)
    | none =>
      have hform : ∃ A n cap, v = .slice A l.length cap ∧ (A = none → l.length = 0 ∧ cap = 0) ∧ l.length ≤ cap ∧ n = l.length := by
        rcases hown.2 with ⟨rfl, hn⟩ | ⟨g, cap, cur, rfl, _, _, hnc, _⟩
        · exact ⟨none, 0, 0, by rw [hn], fun _ => ⟨hn, rfl⟩, by omega, hn.symm⟩
        · exact ⟨some ⟨g, 0, none⟩, l.length, cap, rfl, (fun e => by cases e), hnc, rfl⟩
      obtain ⟨A, _, cap, rfl, h1, h2, _⟩ := hform
      refine Lib.wpList_append_run _ hgd s x 39 39 ho _ _ hs (hx.trans hv) _ _ (app_nothingS _ A l.length cap c w h1 h2) ?_
      exact h _ _ (by rw [List.append_nil]; exact hown) hb (fun _ _ => rfl) (Nat.le_refl _)
  · refine key ⟨b, off, none⟩ c hv fun j u hu => ?_
    have hj : j < m.length := by have := (List.getElem?_eq_some_iff.1 hu).1; simpa [strCs] using this
    rw [Addr.add_lit, hc j hj]
    simp [strCs, hj] at hu
    rw [hu]

theorem dig_no {n : Int} (h : digI n = false) : n < 48 ∨ (¬ n < 48 ∧ 57 < n) := by
  unfold digI at h; simp only [decide_eq_false_iff_not] at h; omega
theorem dig_yes {n : Int} (h : digI n = true) : ¬ n < 48 ∧ ¬ 57 < n := by
  unfold digI at h; simp only [decide_eq_true_iff] at h; omega
theorem lenB_all {s : ByteArray} (h : s.data.toList.all digB = true) : lenB s.data.toList = (decide (1 ≤ s.size) && decide (s.size ≤ 18)) := by
  unfold lenB; rw [h, Bool.and_true, ← size_len, Bool.decide_and]
theorem lenB_not {s : ByteArray} (h : s.data.toList.all digB = false) : lenB s.data.toList = false := by
  unfold lenB; rw [h, Bool.and_false]
set_option maxRecDepth 100000 in
theorem isLength_any (s : ByteArray) (w : World) (hs : s.size ≤ 4294967296) :
    Calls Tryd.prog 50 #[.string s] w fun e w' => e = .returned (.bool (lenB s.data.toList)) ∧ w = w' := by
  go_enter Tryd.func50, Tryd.ntmps50
  go_wp2_with fail
  go_loop [6] (fun i => ∃ k : Nat, k ≤ s.size ∧ i = .int .i64 k ∧ (s.data.toList.take k).all digB = true) (fun i => s.size - (intOf i).toNat)
  case atStart => exact ⟨0, Nat.zero_le _, rfl, rfl⟩
  case round =>
    obtain ⟨k, hk, rfl, ht⟩ := hrel
    have HT := Lib.hid ht; clear ht
    by_cases hlt : k < s.size
    · cases hm : digI (s[k].toNat : Int)
      · have HA := Lib.hid (lenB_not (all_not s digB k hlt hm))
        rcases dig_no hm with h1 | ⟨h1, h2⟩
        all_goals
          clear hm
          go_wp2_with fail
          go_ret
          exact ⟨ret_bool HA.out.symm, rfl⟩
      · have HA := Lib.hid (all_snoc s digB k hlt HT.out hm)
        obtain ⟨h1, h2⟩ := dig_yes hm
        clear hm
        go_wp2_with fail
        go_round
        case rel => exact ⟨k + 1, by omega, by go_num, HA.out⟩
        case measure => simp [intOf]; omega
    · have HA : Hid (lenB s.data.toList = (decide (1 ≤ s.size) && decide (s.size ≤ 18))) := lenB_all (by have h := HT.out; rwa [take_all hlt] at h)
      by_cases h1 : 1 ≤ s.size
      · have h1' : 1 ≤ (s.size : Int) := by omega
        go_wp2_with fail
        go_ret
        exact ⟨ret_bool (by rw [HA.out, decide_eq_true h1, Bool.true_and, decide_eq_decide]; omega), rfl⟩
      · have h1' : ¬ 1 ≤ (s.size : Int) := by omega
        go_wp2_with fail
        go_ret
        exact ⟨ret_bool (by rw [HA.out, decide_eq_false h1, Bool.false_and]), rfl⟩
theorem isLength_l (n : List UInt8) (w : World) (h : n.length ≤ 4294967296) : Calls Tryd.prog 50 #[.string (bs n)] w fun e w' => e = .returned (.bool (lenB n)) ∧ w = w' := by
  have := isLength_any (bs n) w (by rw [bs_size]; exact h)
  rwa [bs_data] at this

theorem chN_bytes : (⟨#[99, 104, 117, 110, 107, 101, 100]⟩ : ByteArray).data.toList = chN := rfl
set_option maxRecDepth 100000 in
theorem isChunked_l (n : List UInt8) (w : World) (h : n.length ≤ 4294967296) : Calls Tryd.prog 51 #[.string (bs n)] w fun e w' => e = .returned (.bool (chB n)) ∧ Below w.heap.size w w' := by
  go_enter Tryd.func51, Tryd.ntmps51
  go_wp2_with fail
  refine (same_any _ _ _ (by rw [bs_size]; unfold maxLen; omega) (by unfold maxLen; decide)).mono ?_
  rintro e w1 ⟨rfl, hb⟩
  have HB := Lib.hid hb; clear hb
  go_wp2_with fail
  go_ret
  exact ⟨ret_bool rfl, HB.out⟩

set_option maxRecDepth 100000 in
theorem bodiless_any (n : Int) (w : World) :
    Calls Tryd.prog 21 #[.int .i64 n] w fun e w' => e = .returned (.bool (bareB n)) ∧ w = w' := by
  have hb : bareB n = ((decide (100 ≤ n) && decide (n ≤ 199)) || (n == 204 || n == 304)) := rfl
  have HB := Lib.hid hb; clear hb
  by_cases h1 : 100 ≤ n <;> by_cases h2 : n ≤ 199 <;> cases h3 : (n == 204) <;> cases h4 : (n == 304)
  all_goals
    go_enter Tryd.func21, Tryd.ntmps21
    go_wp2_with fail
    go_ret
    exact ⟨ret_bool (by rw [HB.out]; simp [h1, h2, h3, h4]), rfl⟩
end Go.Proofs.YtnhkebbmgiokbaaDoor
