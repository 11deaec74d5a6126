/- slices.Insert of one field into a slice of the call's own. -/
import Derived.Test.YtilaalfehnngcaaDoorFieldsF
import Derived.Test.YtilaalfehnngcaaDoorGrow2
import Derived.Lib.AppendZerosOnto
import Derived.Lib.Overlaps
import Derived.Laws.CopyRow
import Derived.Laws.CopyOwn
import Derived.Laws.Externs
namespace Go.Proofs.YtilaalfehnngcaaDoor
open Go.RowKit Go.Shelf

theorem fcs_take (l : List Fld) (k : Nat) : (fcs l).take (k * 2) = fcs (l.take k) := by
  induction l generalizing k with
  | nil => simp [fcs]
  | cons f r ih =>
    cases k with
    | zero => simp [fcs]
    | succ k =>
      have e : ∀ q : List Fld, fcs (f :: q) = .string (bs f.1) :: .string (bs f.2) :: fcs q := fun q => by simp [fcs]
      rw [List.take_succ_cons, e, e, show (k + 1) * 2 = k * 2 + 2 from by omega, List.take_succ_cons, List.take_succ_cons, ih]
theorem fcs_drop (l : List Fld) (k : Nat) : (fcs l).drop (k * 2) = fcs (l.drop k) := by
  induction l generalizing k with
  | nil => simp [fcs]
  | cons f r ih =>
    cases k with
    | zero => simp [fcs]
    | succ k =>
      have e : ∀ q : List Fld, fcs (f :: q) = .string (bs f.1) :: .string (bs f.2) :: fcs q := fun q => by simp [fcs]
      rw [List.drop_succ_cons, e, show (k + 1) * 2 = k * 2 + 2 from by omega, List.drop_succ_cons, List.drop_succ_cons, ih]
theorem fcs_mid (l : List Fld) (k : Nat) (f : Fld) : fcs (l.take k ++ f :: l.drop k) = fcs (l.take k) ++ [.string (bs f.1), .string (bs f.2)] ++ fcs (l.drop k) := by
  rw [fcs_append]; simp [fcs]

/-- 'copy(d, s)' between slices of fields: the cells cs go over. -/
theorem run_copyF (w : World) (ty : TypeId) (g o dLen dCap : Nat) (a : Addr) (sLen sCap : Nat) (cur : Array Value) (cs : List Value) (n : Nat)
    (hg : w.heap[g]? = some (.cells cur 44 (0, 0))) (hn : Nat.min sLen dLen = n) (hl : cs.length = n * 2)
    (hsrc : ∀ j v, cs[j]? = some v → w.cell? (a.add j) = some v) (hfit : o + cs.length ≤ cur.size) (h1 : ∀ v ∈ cs, v.oneCell' = true) :
    (Builtin.copy_ #[22, 22] ty #[.slice (some ⟨g, o, none⟩) dLen dCap, .slice (some a) sLen sCap]).run Tryd.prog w =
      .ok (goInt n) (w.setRow g (cur.toList.take o ++ cs ++ cur.toList.drop (o + cs.length)).toArray) := by
  obtain ⟨i0, hi, hz0, hz1, hz2⟩ := info_parts infoF
  have hld := run_loadCells_list (P := Tryd.prog) w a cs hsrc
  have hst := run_storeCells_at Tryd.prog g o 44 cs 0 cur w hg (by simpa using hfit) h1
  simp [Builtin.copy_, run_underlying Tryd.underlying22, Builtin.lenOf, Builtin.firstCells, sizeOf, typeInfo, hi, hz1, hn, ← hl, hld, hst]

theorem wpList_copy_is {w : World} {ops : Array Oper} {rest : List Oper} {o : Oper} {a : Act} {Q : Exit → Act → World → Prop} (hgd : o.guard = none) (d s : Operand) (t t' : TypeId)
    (ho : o.op = .call { callee := .builtin .copy, args := #[d, s], argTypes := #[t, t'] }) (v u : Value) (hd : a.eval d = v) (hs : a.eval s = u) {v' : Value} {w' : World}
    (hr : (Builtin.copy_ #[t, t'] o.type #[v, u]).run Tryd.prog w = .ok v' w') (h : wpList Tryd.prog ops Q rest (a.put o.dst v') w') : wpList Tryd.prog ops Q (o :: rest) a w :=
  wpList_plain hgd fun _ hK => by
    unfold Oper.wp execOp
    simp only [ho, resolve, invoke, builtin, Sem.run_bind, Sem.run_pure, Result.andThen_ok, List.map_toArray, List.map_cons, List.map_nil, hd, hs, hr]
    exact hK _ _ h

theorem wp_copy_is {w : World} {o : Oper} {a : Act} {K : Act → World → Prop} {Q : Exit → Act → World → Prop} (d s : Operand) (t t' : TypeId)
    (ho : o.op = .call { callee := .builtin .copy, args := #[d, s], argTypes := #[t, t'] }) (v u : Value) (hd : a.eval d = v) (hs : a.eval s = u) {v' : Value} {w' : World}
    (hr : (Builtin.copy_ #[t, t'] o.type #[v, u]).run Tryd.prog w = .ok v' w') (h : K (a.put o.dst v') w') : Oper.wp Tryd.prog o a w K Q := by
  unfold Oper.wp execOp
  simp only [ho, resolve, invoke, builtin, Sem.run_bind, Sem.run_pure, Result.andThen_ok, List.map_toArray, List.map_cons, List.map_nil, hd, hs, hr]
  exact h

/-- what Insert hands back -/
def InsP (base : Nat) (w : World) (l : List Fld) (e : Ending) (w' : World) : Prop := ∃ v', e = .returned v' ∧ ownF w' base v' l ∧ Below base w w'

set_option maxHeartbeats 2000000 in
set_option maxRecDepth 100000 in
theorem insert_end (base : Nat) (v : Value) (d : List Fld) (f : Fld) (g : Nat) (w : World) (hown : ownF w base v d) (hbase : base ≤ w.heap.size) (hlit : oneF2 w g (.string (bs f.1)) (.string (bs f.2))) (hl : d.length ≤ 1048576) :
    Calls Tryd.prog 51 #[v, .int .i64 d.length, .slice (some ⟨g, 0, none⟩) 1 1] w (InsP base w (d ++ [f])) := by
  obtain ⟨i0, hi, hz0, hz1, hz2⟩ := info_parts infoF
  obtain ⟨A, c, rfl⟩ := hown.form
  have HO := Lib.hid hown
  have hnews := World.news_of_block hlit
  have HW := Lib.hid hnews
  clear hown hlit hnews
  go_enter Tryd.func51, Tryd.ntmps51
  go_wp2_with (at_builtin; refine wpList_append_own _ rfl (.tmp 23) (.tmp 24) 22 rfl base 44 i0 (.agg #[.string ⟨#[]⟩, .string ⟨#[]⟩]) 2 32 Tryd.underlying22 hi hz0 hz1 hz2 rfl (by decide) _ d.length _ rfl HO.out ⟨g, 0, none⟩ 1 1 [.string (bs f.1), .string (bs f.2)] rfl rfl HW.out (fcs_one [f]) (by unfold maxLen; omega) (by omega) hbase ?_; intro v' w' h1 h2 _)
  all_goals
    go_ret
    refine ⟨_, rfl, ?_, (Below.refl _ _).grown h2 hbase (fun k hk => (World.ownsRow.lt HO.out k hk).1)⟩
    have : (d ++ [f]).length = d.length + 1 := by simp
    unfold ownF
    rw [this, fcs_append]
    exact h1

/-- the row of the slice, shifted, with f at k -/
theorem shift_row {cur : List Value} {d : List Fld} {k : Nat} (f : Fld) (hk : k < d.length) (ht : cur.take (d.length * 2) = fcs d) (hl : (d.length + 1) * 2 ≤ cur.length) :
    (let R1 := cur.take ((k + 1) * 2) ++ fcs (d.drop k) ++ cur.drop ((k + 1) * 2 + (fcs (d.drop k)).length)
     let R2 := R1.take (k * 2) ++ [.string (bs f.1), .string (bs f.2)] ++ R1.drop (k * 2 + 2)
     R2.take ((d.length + 1) * 2) = fcs (d.take k ++ f :: d.drop k) ∧ R1.length = cur.length ∧ R2.length = cur.length) := by
  have h1 : (fcs (d.drop k)).length = (d.length - k) * 2 := by rw [fcs_len, List.length_drop]
  have h2 : cur.take (k * 2) = fcs (d.take k) := by
    rw [← fcs_take, ← ht, List.take_take, Nat.min_eq_left (by omega)]
  have h3 : (fcs (d.take k)).length = k * 2 := by rw [fcs_len, List.length_take, Nat.min_eq_left (by omega)]
  have h4 : (cur.take ((k + 1) * 2)).length = (k + 1) * 2 := by rw [List.length_take, Nat.min_eq_left (by omega)]
  simp only
  have e1 : (cur.take ((k + 1) * 2) ++ fcs (d.drop k) ++ cur.drop ((k + 1) * 2 + (fcs (d.drop k)).length)).take (k * 2) = fcs (d.take k) := by
    rw [List.append_assoc, List.take_append_of_le_length (by omega), List.take_take, Nat.min_eq_left (by omega), h2]
  have e2 : (cur.take ((k + 1) * 2) ++ fcs (d.drop k) ++ cur.drop ((k + 1) * 2 + (fcs (d.drop k)).length)).drop (k * 2 + 2) = fcs (d.drop k) ++ cur.drop ((k + 1) * 2 + (fcs (d.drop k)).length) := by
    rw [List.append_assoc, List.drop_append_of_le_length (by omega), List.drop_of_length_le (by omega), List.nil_append]
  have e3 : (cur.take ((k + 1) * 2) ++ fcs (d.drop k) ++ cur.drop ((k + 1) * 2 + (fcs (d.drop k)).length)).length = cur.length := by
    rw [List.length_append, List.length_append, List.length_drop, h1, h4]; omega
  refine ⟨?_, e3, ?_⟩
  · rw [e1, e2, fcs_mid, ← List.append_assoc, List.take_append_of_le_length (by simp only [List.length_append, List.length_cons, List.length_nil, h3, h1]; omega), List.take_of_length_le (by simp only [List.length_append, List.length_cons, List.length_nil, h3, h1]; omega)]
  · rw [e1, e2, List.length_append, List.length_append, List.length_append, List.length_drop, h3, h1]; simp only [List.length_cons, List.length_nil]; omega

set_option maxHeartbeats 2000000 in
set_option maxRecDepth 100000 in
theorem insert_room (base b cap : Nat) (cur : Array Value) (d : List Fld) (k : Nat) (f : Fld) (g : Nat) (w : World) (hk : k < d.length) (hb : base ≤ b) (hcur : w.heap[b]? = some (.cells cur 44 (0, 0))) (hroom : d.length + 1 ≤ cap) (hcap : cap ≤ maxLen) (hcs : cur.size = cap * 2)
    (ht : cur.toList.take (d.length * 2) = fcs d) (hlit : oneF2 w g (.string (bs f.1)) (.string (bs f.2))) (hgb : g ≠ b) (hl : d.length ≤ 1048576) :
    Calls Tryd.prog 51 #[.slice (some ⟨b, 0, none⟩) d.length cap, .int .i64 k, .slice (some ⟨g, 0, none⟩) 1 1] w (InsP base w (d.take k ++ f :: d.drop k)) := by
  obtain ⟨i0, hi, hz0, hz1, hz2⟩ := info_parts infoF
  unfold maxLen at hcap
  have hz1' : ¬ ((k : Int) = (d.length : Int)) := by omega
  have hc1 : ¬ (cap = k) := by omega
  have hc2 : ¬ (cap = k + 1) := by omega
  have hov : ∀ lb cb, (callFunc 73 #[.slice (some ⟨g, 0, none⟩) 1 1, .slice (some ⟨b, (k + 1) * 2, none⟩) lb cb]).run Tryd.prog w = .ok (.value (.bool false)) w := fun lb cb => by
    rw [run_callFunc_extern Tryd.func73 (by kernel_rfl) (by kernel_rfl) (by kernel_rfl) (e := Extern.SlicesOverlaps.overlaps #[22, 22] #[4]) (by kernel_rfl),
      Lib.run_overlaps_apart w 22 4 44 Tryd.underlying22 2 Tryd.sizeOf44 ⟨g, 0, none⟩ ⟨b, (k + 1) * 2, none⟩ 1 1 lb cb hgb 44 44 2 cur.size (by unfold World.shape?; unfold oneF2 at hlit; rw [hlit]; rfl) (by unfold World.shape?; rw [hcur]) (by omega) hlit.cells.2.2.1 (by unfold oneF2 at hlit; simp [World.frozen?, hlit])]
    rfl
  obtain ⟨hR, hR1l, hR2l⟩ := shift_row f hk ht (by have e : cur.toList.length = cur.size := Array.length_toList; omega)
  generalize hR1 : cur.toList.take ((k + 1) * 2) ++ fcs (d.drop k) ++ cur.toList.drop ((k + 1) * 2 + (fcs (d.drop k)).length) = R1 at *
  generalize hR2 : R1.take (k * 2) ++ [.string (bs f.1), .string (bs f.2)] ++ R1.drop (k * 2 + 2) = R2 at *
  have hbl : b < w.heap.size := (Array.getElem?_eq_some_iff.1 hcur).1
  have hgl : g < w.heap.size := (Array.getElem?_eq_some_iff.1 hlit).1
  have hfl : (fcs (d.drop k)).length = (d.length - k) * 2 := by rw [fcs_len, List.length_drop]
  have hcp1 : ∀ ty dc sc, (Builtin.copy_ #[22, 22] ty #[.slice (some ⟨b, (k + 1) * 2, none⟩) (d.length - k) dc, .slice (some ⟨b, k * 2, none⟩) (d.length + 1 - k) sc]).run Tryd.prog w.drew = .ok (goInt ((d.length - k : Nat) : Int)) (w.drew.setRow b R1.toArray) := fun ty dc sc => by
    rw [← hR1]
    refine run_copyF w.drew ty b ((k + 1) * 2) (d.length - k) dc ⟨b, k * 2, none⟩ (d.length + 1 - k) sc cur (fcs (d.drop k)) (d.length - k) hcur (by simp only [Nat.min_def]; split <;> omega) hfl ?_ (by rw [hfl]; omega) (fcs_one _)
    intro j u hu
    rw [Addr.add_lit]
    have hj : j < (d.length - k) * 2 := by have := (List.getElem?_eq_some_iff.1 hu).1; omega
    have h1 : (fcs d)[k * 2 + j]? = some u := by rw [← fcs_drop, List.getElem?_drop] at hu; exact hu
    rw [← ht, List.getElem?_take, if_pos (by omega), Array.getElem?_toList] at h1
    show World.cell? w _ = _
    rw [cell_of_row w b (k * 2 + j) cur _ _ hcur]
    exact h1
  have hf2 : k * 2 + [Value.string (bs f.1), Value.string (bs f.2)].length ≤ R1.toArray.size := by
    have e : cur.toList.length = cur.size := Array.length_toList
    have e2 : R1.toArray.size = R1.length := by simp
    simp only [List.length_cons, List.length_nil]; omega
  have hcp2 : ∀ (W : World), W.heap[b]? = some (.cells R1.toArray 44 (0, 0)) → W.heap[g]? = w.heap[g]? → ∀ ty dc, (Builtin.copy_ #[22, 22] ty #[.slice (some ⟨b, k * 2, none⟩) (d.length + 1 - k) dc, .slice (some ⟨g, 0, none⟩) 1 1]).run Tryd.prog W = .ok (goInt 1) (W.setRow b R2.toArray) := fun W hWb hWg ty dc => by
    have h := run_copyF W ty b (k * 2) (d.length + 1 - k) dc ⟨g, 0, none⟩ 1 1 R1.toArray [.string (bs f.1), .string (bs f.2)] 1 hWb (by simp only [Nat.min_def]; split <;> omega) rfl (World.news_of_block (hWg.trans hlit)) hf2 (fcs_one [f])
    rw [h, ← hR2]
    rfl
  have HC1 := Lib.hid hcp1; have HC2 := Lib.hid hcp2; have HR := Lib.hid hR; have HR2 := Lib.hid hR2l; have HCU := Lib.hid hcur; have HLT := Lib.hid hlit; have HCS := Lib.hid hcs
  clear hcp1 hcp2 hf2 hR hR1l hR2l hR1 hR2 hcur hlit hcs hfl ht
  go_enter Tryd.func51, Tryd.ntmps51
  go_wp2_with (simp only [hov])
  have hw1 : IntKind.i64.wrap ((k : Int) + 1) = (k : Int) + 1 := by rw [IntKind.wrap_i64]; omega
  have hb1 : (0 : Int) ≤ (k : Int) + 1 := by omega
  have htn : ((k : Int) + 1).toNat = k + 1 := by omega
  have hle1 : k + 1 ≤ d.length + 1 := by omega
  have hle2 : k ≤ d.length + 1 := by omega
  have hle3 : (k : Int) + 1 ≤ (d.length : Int) + 1 := by omega
  have hle4 : (k : Int) ≤ (d.length : Int) + 1 := by omega
  refine wp_region_growS (.one 0 false (.one 1 false (.one 2 false (.one 3 false (.one 4 false (.one 5 false (.one 6 false (.one 7 false (.one 8 true .done)))))))))
    (fun _ => True) (by kernel_rfl) (by kernel_rfl) rfl (by kernel_rfl) (by kernel_rfl) trivial (fun ops hops => ?_)
  simp only [GT.ins, List.getD_cons_zero, List.getD_cons_succ]
  clear hops
  iterate 8
    refine growS_take (by rfl) ?_
    apply Exists.intro
    refine ⟨fun w' _ => ?_, ?_⟩
    · go_simp
      try with_reducible rfl
    simp only [Act.put, List.setIfInBounds_toArray, List.set_cons_zero, List.set_cons_succ]
  refine growS_call (by rfl) (fun K hK => ?_)
  refine wp_copy_is (.tmp 73) (.tmp 76) 22 22 rfl _ _ rfl rfl (HC1.out _ _ _) ?_
  refine hK.out _ _ trivial ?_
  have HW1 : Hid ((w.drew.setRow b R1.toArray).heap[b]? = some (.cells R1.toArray 44 (0, 0))) := setRow_heap _ _ _ _ _ _ HCU.out
  have HW2 : Hid ((w.drew.setRow b R1.toArray).heap[g]? = w.heap[g]?) := setRow_other _ _ _ _ hgb
  have HB1 : Hid (Below base w (w.drew.setRow b R1.toArray)) := below_setRow (Below.refl _ _).drew hb _
  clear hK K
  generalize w.drew.setRow b R1.toArray = W1 at *
  refine growS_done (NoPanic.normal ?_)
  go_wp2_with (refine wpList_copy_is rfl (.tmp 80) (.tmp 81) 22 22 rfl _ _ rfl rfl (HC2.out _ HW1.out HW2.out _ _) ?_)
  go_ret
  have hl2 : (d.take k ++ f :: d.drop k).length = d.length + 1 := by rw [List.length_append, List.length_cons, List.length_take, List.length_drop]; omega
  refine ⟨_, rfl, ⟨by rw [fcs_len], .inr ⟨b, cap, R2.toArray, by rw [hl2]; rfl, hb, setRow_heap _ _ _ _ _ _ HW1.out, by rw [hl2]; exact hroom, by unfold maxLen; omega, ?_, ?_⟩⟩, below_setRow HB1.out hb _⟩
  · have h1 := HR2.out; have h2 := HCS.out
    have h3 : cur.toList.length = cur.size := Array.length_toList
    simp only [List.size_toArray]; omega
  · rw [hl2]; exact HR.out
end Go.Proofs.YtilaalfehnngcaaDoor
