/- slices.Insert where the slice has no room; all its roads. -/
import Derived.Test.YtilaalfehnngcaaDoorFieldsI
namespace Go.Proofs.YtilaalfehnngcaaDoor
open Go.RowKit Go.Shelf

/-- a new row: what stood ahead of k, room, with f at k, and what stood from k on -/
theorem grow_row {d : List Fld} {k : Nat} (f : Fld) (Z : List Value) (hk : k < d.length) (hz : (d.length + 1 - k) * 2 ≤ Z.length) :
    (let R0 := fcs (d.take k) ++ Z
     let R1 := R0.take (k * 2) ++ [.string (bs f.1), .string (bs f.2)] ++ R0.drop (k * 2 + 2)
     let R2 := R1.take ((k + 1) * 2) ++ fcs (d.drop k) ++ R1.drop ((k + 1) * 2 + (fcs (d.drop k)).length)
     R2.take ((d.length + 1) * 2) = fcs (d.take k ++ f :: d.drop k) ∧ R1.length = R0.length ∧ R2.length = R0.length ∧ R0.length = k * 2 + Z.length) := by
  have h1 : (fcs (d.drop k)).length = (d.length - k) * 2 := by rw [fcs_len, List.length_drop]
  have h3 : (fcs (d.take k)).length = k * 2 := by rw [fcs_len, List.length_take, Nat.min_eq_left (by omega)]
  simp only
  have e0 : (fcs (d.take k) ++ Z).take (k * 2) = fcs (d.take k) := by rw [List.take_append_of_le_length (by omega), List.take_of_length_le (by omega)]
  have e1 : (fcs (d.take k) ++ Z).drop (k * 2 + 2) = Z.drop 2 := by
    rw [List.drop_append, List.drop_of_length_le (by omega), List.nil_append, h3]; congr 1; omega
  have e2 : (fcs (d.take k) ++ [Value.string (bs f.1), Value.string (bs f.2)] ++ Z.drop 2).take ((k + 1) * 2) = fcs (d.take k) ++ [Value.string (bs f.1), Value.string (bs f.2)] := by
    rw [List.take_append_of_le_length (by simp only [List.length_append, List.length_cons, List.length_nil, h3]; omega), List.take_of_length_le (by simp only [List.length_append, List.length_cons, List.length_nil, h3]; omega)]
  rw [e0, e1, e2]
  refine ⟨?_, ?_, ?_, by rw [List.length_append, h3]⟩
  · rw [fcs_mid, List.take_append_of_le_length (by simp only [List.length_append, List.length_cons, List.length_nil, h3, h1]; omega), List.take_of_length_le (by simp only [List.length_append, List.length_cons, List.length_nil, h3, h1]; omega)]
  · simp only [List.length_append, List.length_cons, List.length_nil, List.length_drop, h3]; omega
  · simp only [List.length_append, List.length_cons, List.length_nil, List.length_drop, h3, h1]; omega

set_option maxHeartbeats 2000000 in
set_option maxRecDepth 100000 in
theorem insert_grow (base b cap : Nat) (cur : Array Value) (d : List Fld) (k : Nat) (f : Fld) (g : Nat) (w : World) (hk : k < d.length) (hcur : w.heap[b]? = some (.cells cur 44 (0, 0))) (hnc : d.length ≤ cap) (hroom : cap < d.length + 1)
    (ht : cur.toList.take (d.length * 2) = fcs d) (hlit : oneF2 w g (.string (bs f.1)) (.string (bs f.2))) (hbase : base ≤ w.heap.size) (hl : d.length ≤ 1048576) :
    Calls Tryd.prog 51 #[.slice (some ⟨b, 0, none⟩) d.length cap, .int .i64 k, .slice (some ⟨g, 0, none⟩) 1 1] w (InsP base w (d.take k ++ f :: d.drop k)) := by
  obtain ⟨i0, hi, hz0, hz1, hz2⟩ := info_parts infoF
  have hz1' : ¬ ((k : Int) = (d.length : Int)) := by omega
  have hz3 : (cap : Int) < (d.length : Int) + 1 := by omega
  have hci : ¬ (cap = k) := by omega
  have hbl : b < w.heap.size := (Array.getElem?_eq_some_iff.1 hcur).1
  have hgl : g < w.heap.size := (Array.getElem?_eq_some_iff.1 hlit).1
  have hcell : ∀ W : World, W.heap[b]? = w.heap[b]? → ∀ j u, (fcs d)[j]? = some u → W.cell? ⟨b, j, none⟩ = some u := fun W hW j u hu => by
    have hj : j < d.length * 2 := by have := (List.getElem?_eq_some_iff.1 hu).1; rw [fcs_len] at this; exact this
    rw [← ht, List.getElem?_take, if_pos hj, Array.getElem?_toList] at hu
    rw [cell_of_row W b j cur _ _ (hW.trans hcur)]
    exact hu
  have hold : (Builtin.firstCells i0.size k (.slice (some ⟨b, 0, none⟩) k cap)).run Tryd.prog w.drew = .ok (fcs (d.take k)).toArray w.drew := by
    rw [hz1]
    exact run_firstCells_some w.drew 2 k ⟨b, 0, none⟩ k cap (fcs (d.take k)) (by rw [fcs_len, List.length_take]; omega) (fun j u hu => by
      rw [Addr.add_lit, Nat.zero_add]
      refine hcell w.drew rfl j u ?_
      rw [← fcs_take, List.getElem?_take] at hu
      split at hu
      · exact hu
      · cases hu)
  have hik : k + (d.length + 1 - k) = d.length + 1 := by omega
  have hkk : (d.length : Int) + 1 - (k : Int) = ((d.length + 1 - k : Nat) : Int) := by omega
  obtain ⟨G, hG⟩ : ∃ G, G = grownCap w (d.length + 1) cap 44 := ⟨_, rfl⟩
  have hGn : d.length + 1 ≤ G := by rw [hG]; exact grownCap_ge w _ _ _
  have hGm : G ≤ maxLen := by rw [hG]; exact grownCap_le_maxLen w (d.length + 1) cap _ (by unfold maxLen; omega)
  obtain ⟨Z, hZ⟩ : ∃ Z : List Value, Z = (Builtin.zeroCells (Value.agg #[.string ⟨#[]⟩, .string ⟨#[]⟩]).cells (d.length + 1 - k)).toList ++ (Builtin.zeroCells (Value.agg #[.string ⟨#[]⟩, .string ⟨#[]⟩]).cells (G - (d.length + 1))).toList := ⟨_, rfl⟩
  have hzc : ∀ n, (Builtin.zeroCells (Value.agg #[.string ⟨#[]⟩, .string ⟨#[]⟩]).cells n).size = n * 2 := fun n => by rw [size_zeroCells]; rfl
  have hzl : ∀ n, (Builtin.zeroCells (Value.agg #[.string ⟨#[]⟩, .string ⟨#[]⟩]).cells n).toList.length = n * 2 := fun n => hzc n
  have hZl : Z.length = (G - k) * 2 := by rw [hZ, List.length_append, hzl, hzl]; omega
  have hrz : ∀ ty, (Builtin.append_ #[22, 3] ty #[.slice (some ⟨b, 0, none⟩) k cap, .int .i64 ((d.length : Int) + 1 - (k : Int))]).run Tryd.prog w =
      .ok (.slice (some ⟨w.heap.size, 0, none⟩) (d.length + 1) G) (w.drew.alloc (.cells (fcs (d.take k) ++ Z).toArray 44)) := fun ty => by
    have h := Lib.run_append_grow_zeros w 22 3 ty 44 i0 _ .i64 .i64 Tryd.underlying22 Tryd.underlying3 hi hz0 (some ⟨b, 0, none⟩) k cap (fcs (d.take k)) hold (d.length + 1 - k) (by omega) (by omega) (by omega) (by omega) (by rw [hz2]; omega) (by rw [hz2, hik]; exact growslice_fits hroom (by omega))
    rw [hik, ← hG] at h
    rw [hkk, h]
    have e : (fcs (d.take k)).toArray ++ Builtin.zeroCells (Value.agg #[.string ⟨#[]⟩, .string ⟨#[]⟩]).cells (d.length + 1 - k) ++ Builtin.zeroCells (Value.agg #[.string ⟨#[]⟩, .string ⟨#[]⟩]).cells (G - (d.length + 1)) = (fcs (d.take k) ++ Z).toArray := by
      apply Array.toList_inj.1
      simp [hZ]
    rw [e]
  obtain ⟨hR, hR1l, hR2l, hR0l⟩ := grow_row f Z hk (by omega)
  generalize hR0 : fcs (d.take k) ++ Z = R0 at *
  generalize hR1 : R0.take (k * 2) ++ [.string (bs f.1), .string (bs f.2)] ++ R0.drop (k * 2 + 2) = R1 at *
  generalize hR2 : R1.take ((k + 1) * 2) ++ fcs (d.drop k) ++ R1.drop ((k + 1) * 2 + (fcs (d.drop k)).length) = R2 at *
  have hfl : (fcs (d.drop k)).length = (d.length - k) * 2 := by rw [fcs_len, List.length_drop]
  have e0 : R0.toArray.size = R0.length := by simp
  have e1 : R1.toArray.size = R1.length := by simp
  have hf1 : k * 2 + [Value.string (bs f.1), Value.string (bs f.2)].length ≤ R0.toArray.size := by
    simp only [List.length_cons, List.length_nil]; omega
  have hcp1 : ∀ (W : World), W.heap[w.heap.size]? = some (.cells R0.toArray 44 (0, 0)) → W.heap[g]? = w.heap[g]? → ∀ ty dc, (Builtin.copy_ #[22, 22] ty #[.slice (some ⟨w.heap.size, k * 2, none⟩) (d.length + 1 - k) dc, .slice (some ⟨g, 0, none⟩) 1 1]).run Tryd.prog W = .ok (goInt 1) (W.setRow w.heap.size R1.toArray) := fun W hWb hWg ty dc => by
    have h := run_copyF W ty w.heap.size (k * 2) (d.length + 1 - k) dc ⟨g, 0, none⟩ 1 1 R0.toArray [.string (bs f.1), .string (bs f.2)] 1 hWb (by simp only [Nat.min_def]; split <;> omega) rfl (World.news_of_block (hWg.trans hlit)) hf1 (fcs_one [f])
    rw [h, ← hR1]
    rfl
  have hcp2 : ∀ (W : World), W.heap[w.heap.size]? = some (.cells R1.toArray 44 (0, 0)) → W.heap[b]? = w.heap[b]? → ∀ ty dc sc, (Builtin.copy_ #[22, 22] ty #[.slice (some ⟨w.heap.size, (k + 1) * 2, none⟩) (d.length - k) dc, .slice (some ⟨b, k * 2, none⟩) (d.length - k) sc]).run Tryd.prog W = .ok (goInt ((d.length - k : Nat) : Int)) (W.setRow w.heap.size R2.toArray) := fun W hWb hWg ty dc sc => by
    have h := run_copyF W ty w.heap.size ((k + 1) * 2) (d.length - k) dc ⟨b, k * 2, none⟩ (d.length - k) sc R1.toArray (fcs (d.drop k)) (d.length - k) hWb (by simp only [Nat.min_def]; split <;> omega) hfl (fun j u hu => by
      rw [Addr.add_lit]
      refine hcell W hWg _ u ?_
      rw [← fcs_drop, List.getElem?_drop] at hu; exact hu) (by omega) (fcs_one _)
    rw [h, ← hR2]
  have HC1 := Lib.hid hcp1; have HC2 := Lib.hid hcp2; have HRZ := Lib.hid hrz; have HR := Lib.hid hR; have HR2 := Lib.hid (hR2l.trans (hR0l.trans (by rw [hZl]))); have HG := Lib.hid hGm
  have hGi : ¬ (G = k) := by omega
  have hGim : ¬ (G = k + 1) := by omega
  clear hcp1 hcp2 hf1 hR hR1l hR2l hR0l hR1 hR2 hR0 hfl ht hrz hZl hZ hzc hzl hold hcell hkk hik e0 e1 hG hGm
  have hw9 := HG.out
  unfold maxLen at hw9
  go_enter Tryd.func51, Tryd.ntmps51
  have HA1 : Hid ((w.drew.alloc (.cells R0.toArray 44)).heap[w.heap.size]? = some (.cells R0.toArray 44 (0, 0))) := heap_alloc_new w.drew _
  have HAb : Hid (Below w.heap.size w (w.drew.alloc (.cells R0.toArray 44))) := (Below.refl _ _).drew.alloc (Nat.le_refl _) _
  go_wp2_with (first
    | (at_builtin; refine Lib.wpList_append_run _ rfl (.tmp 34) (.tmp 39) 22 3 rfl _ _ rfl rfl _ _ (HRZ.out _) ?_; clear HRZ; generalize w.drew.alloc (.cells R0.toArray 44) = W1 at *)
    | (refine wpList_copy_is rfl (.tmp 43) (.tmp 44) 22 22 rfl _ _ rfl rfl (HC1.out _ HA1.out (HAb.out.block g hgl) _ _) ?_))
  have HW2 : Hid ((W1.setRow w.heap.size R1.toArray).heap[w.heap.size]? = some (.cells R1.toArray 44 (0, 0))) := setRow_heap _ _ _ _ _ _ HA1.out
  have HB2 : Hid (Below w.heap.size w (W1.setRow w.heap.size R1.toArray)) := below_setRow HAb.out (Nat.le_refl _) _
  clear HC1
  generalize W1.setRow w.heap.size R1.toArray = W2 at *
  have hw1 : IntKind.i64.wrap ((k : Int) + 1) = (k : Int) + 1 := by rw [IntKind.wrap_i64]; omega
  have hb1 : (0 : Int) ≤ (k : Int) + 1 := by omega
  have htn : ((k : Int) + 1).toNat = k + 1 := by omega
  have hle1 : k + 1 ≤ d.length + 1 := by omega
  have hle2 : k ≤ d.length := by omega
  have hle3 : (k : Int) + 1 ≤ (d.length : Int) + 1 := by omega
  have hle4 : (k : Int) ≤ (d.length : Int) := by omega
  refine wp_region_growS (.one 0 false (.one 1 false (.one 2 false (.one 3 false (.one 4 false (.one 5 false (.one 6 false (.one 7 false (.one 8 true .done)))))))))
    (fun _ => True) (by kernel_rfl) (by kernel_rfl) rfl (by kernel_rfl) (by kernel_rfl) trivial (fun ops hops => ?_)
  simp only [GT.ins, List.getD_cons_zero, List.getD_cons_succ]
  clear hops
  iterate 8
    refine growS_take (by rfl) ?_
    apply Exists.intro
    refine ⟨fun w' _ => ?_, ?_⟩
    · go_simp
      try with_reducible rfl
    simp only [Act.put, List.setIfInBounds_toArray, List.set_cons_zero, List.set_cons_succ]
  refine growS_call (by rfl) (fun K hK => ?_)
  refine wp_copy_is (.tmp 50) (.tmp 53) 22 22 rfl _ _ rfl rfl (HC2.out W2.drew HW2.out (HB2.out.block b hbl) _ _ _) ?_
  refine hK.out _ _ trivial ?_
  have HW3 : Hid ((W2.drew.setRow w.heap.size R2.toArray).heap[w.heap.size]? = some (.cells R2.toArray 44 (0, 0))) := setRow_heap _ _ _ _ _ _ HW2.out
  have HB3 : Hid (Below w.heap.size w (W2.drew.setRow w.heap.size R2.toArray)) := below_setRow HB2.out.drew (Nat.le_refl _) _
  clear hK K
  generalize W2.drew.setRow w.heap.size R2.toArray = W3 at *
  refine growS_done (NoPanic.normal ?_)
  go_wp2_with fail
  go_ret
  have hl2 : (d.take k ++ f :: d.drop k).length = d.length + 1 := by rw [List.length_append, List.length_cons, List.length_take, List.length_drop]; omega
  refine ⟨_, rfl, ⟨by rw [fcs_len], .inr ⟨w.heap.size, G, R2.toArray, by rw [hl2]; rfl, hbase, HW3.out, by rw [hl2]; exact hGn, HG.out, ?_, ?_⟩⟩, HB3.out.mono hbase⟩
  · have h1 := HR2.out
    simp only [List.size_toArray]; omega
  · rw [hl2]; exact HR.out

theorem mid_zero (d : List Fld) (f : Fld) : d.take d.length ++ f :: d.drop d.length = d ++ [f] := by simp
/-- slices.Insert of one field, given as a literal, into a slice of the call's own. -/
theorem insert_any (base : Nat) (v : Value) (d : List Fld) (k : Nat) (f : Fld) (g : Nat) (w : World) (hown : ownF w base v d) (hk : k ≤ d.length) (hlit : oneF2 w g (.string (bs f.1)) (.string (bs f.2))) (hgv : v.ownBlock ≠ some g) (hbase : base ≤ w.heap.size) (hl : d.length ≤ 1048576) :
    Calls Tryd.prog 51 #[v, .int .i64 k, .slice (some ⟨g, 0, none⟩) 1 1] w (InsP base w (d.take k ++ f :: d.drop k)) := by
  rcases Nat.eq_or_lt_of_le hk with rfl | hlt
  · rw [mid_zero]
    exact insert_end base v d f g w hown hbase hlit hl
  · rcases hown.2 with ⟨rfl, hn⟩ | ⟨b, cap, cur, rfl, hbb, hcur, hnc, hcm, hcs, ht⟩
    · omega
    · by_cases hroom : d.length + 1 ≤ cap
      · exact insert_room base b cap cur d k f g w hlt hbb hcur hroom hcm hcs ht hlit (fun e => hgv (by rw [e]; rfl)) hl
      · exact insert_grow base b cap cur d k f g w hlt hcur hnc (by omega) ht hlit hbase hl
end Go.Proofs.YtilaalfehnngcaaDoor
