/- A set of names in a map, and the closures that ask it. -/
import Derived.Test.YtnhkebbmgiokbaaDoorFieldsD
import Derived.StringKeys
namespace Go.Proofs.YtnhkebbmgiokbaaDoor
open Go.RowKit

theorem lawS : Go.Maps.Keyed Tryd.prog 9 := Go.Maps.string_keyed Tryd.underlying9
theorem zeroU (w : World) : (zeroValue 85).run Tryd.prog w = .ok (.agg #[]) w := by kernel_rfl
/-- block m is a map whose keys are the texts L -/
def mapAt (w : World) (m k : Nat) (L : List (List UInt8)) : Prop := w.ownsMap (H := Unit) Tryd.prog 9 unitElem m k (Go.Maps.setOf (.agg []) (L.map Lit.string))
theorem below_grown {w w' : World} (hb : Below w.heap.size w w') : w.grownBy w' none := ⟨hb.os, hb.tape, hb.output, hb.size, fun k hk _ => hb.block k hk⟩
theorem mapAt.bel {w w' : World} {m k : Nat} {L : List (List UInt8)} (h : mapAt w m k L) (hb : Below w.heap.size w w') : mapAt w' m k L := World.ownsMap.kept h (below_grown hb) (by simp)
theorem mapAt.lt {w : World} {m k : Nat} {L : List (List UInt8)} (h : mapAt w m k L) : m < w.heap.size := World.ownsMap.lt h
theorem mapAt_new (w : World) : mapAt (w.alloc (.map #[] 0)) w.heap.size 0 [] := World.ownsMap_made w _ _ _
theorem keyLits (L : List (List UInt8)) : ∀ x ∈ L.map Lit.string, WideAt.IsKeyLit x := by
  intro x hx
  obtain ⟨y, _, rfl⟩ := List.mem_map.1 hx
  trivial
theorem has_lits (L : List (List UInt8)) (n : List UInt8) : Go.Maps.has (Go.Maps.setOf (.agg [] : DataW Unit) (L.map Lit.string)) (.string n) = L.any (· == n) := by
  rw [Go.Maps.has_setOf _ _ _ (keyLits L), List.any_map]
  rfl
theorem key_l (n : List UInt8) (h : n.length ≤ maxLen) : keyOf Tryd.prog 9 (.string (bs n)) = some (.string n) := by
  have := Go.WideMaps.keyOf_string_mk (P := Tryd.prog) (k := 9) Tryd.underlying9 (s := bs n) (by rw [bs_size]; exact h)
  rwa [bs_data] at this
theorem mapAt.look {w : World} {m k : Nat} {L : List (List UInt8)} (h : mapAt w m k L) (n : List UInt8) (hn : n.length ≤ maxLen) :
    (Instr.lookup 84 (.map (some m)) (.string (bs n)) true).run Tryd.prog w = .ok (.tuple #[.agg #[], .bool (L.any (· == n))]) w := by
  obtain ⟨v, ps, hrun, hv⟩ := World.ownsMap.look_ok (t := 84) h lawS Tryd.underlying84 (zeroU w) (zd := .agg []) (zp := []) unitElem_mk (key_l n hn)
  obtain ⟨rfl, _⟩ := unitElem_inv hv
  rw [has_lits] at hrun
  exact hrun
theorem mapAt.put {w : World} {m k : Nat} {L : List (List UInt8)} (h : mapAt w m k L) (n : List UInt8) (hn : n.length ≤ maxLen) (hk : k < maxLen) :
    ∃ w', (Instr.mapUpdate 84 (.map (some m)) (.string (bs n)) (.agg #[])).run Tryd.prog w = .ok () w' ∧ mapAt w' m (k + 1) (L ++ [n]) ∧ w.grownBy w' (some m) := by
  obtain ⟨w', hrun, h1, h2⟩ := World.ownsMap.update (t := 84) h lawS Tryd.underlying84 hk (key_l n hn) (unitElem_mk (H := Unit))
  refine ⟨w', hrun, ?_, h2⟩
  unfold mapAt
  rw [List.map_append, List.map_cons, List.map_nil, Go.Maps.setOf_snoc]
  exact h1
theorem make_map (w : World) (n : Int) : (Instr.makeMap 84 (some (.int .i64 n))).run Tryd.prog w = .ok (.map (some w.heap.size)) (w.alloc (.map #[] 0)) := by
  simp [Instr.makeMap, run_underlying Tryd.underlying84, asInt, asIntOf, Result.andThen]

/-- block b holds a map whose keys are the texts L -/
def knows (w : World) (b : Nat) (L : List (List UInt8)) : Prop := ∃ m k, w.heap[b]? = some (.cells #[.map (some m)] 84 (0, 0)) ∧ mapAt w m k L
theorem knows.bel {w w' : World} {b : Nat} {L : List (List UInt8)} (h : knows w b L) (hb : Below w.heap.size w w') : knows w' b L := by
  obtain ⟨m, k, h1, h2⟩ := h
  exact ⟨m, k, (hb.block b (Array.getElem?_eq_some_iff.1 h1).1).trans h1, h2.bel hb⟩
theorem knows.lt {w : World} {b : Nat} {L : List (List UInt8)} (h : knows w b L) : b < w.heap.size := by
  obtain ⟨m, k, h1, _⟩ := h; exact (Array.getElem?_eq_some_iff.1 h1).1

/-- the small letters of names -/
def lowsOf (L : List (List UInt8)) : List (List UInt8) := L.map lower
theorem lowsOf_any (L : List (List UInt8)) (n : List UInt8) : (lowsOf L).any (· == lower n) = hasN L n := by
  unfold lowsOf hasN; rw [List.any_map]; rfl

set_option maxHeartbeats 2000000 in
set_option maxRecDepth 100000 in
theorem named_any (v : Value) (L : List (List UInt8)) (w : World) (h : SL w v L) (hs : ∀ x ∈ L, x.length ≤ 4294967296) (hl : L.length ≤ 4294967296) :
    Calls Tryd.prog 23 #[v] w fun e w' => e = .returned (.func (.func 42) #[] #[.pointer (some ⟨w.heap.size + 1, 0, none⟩)]) ∧ knows w' (w.heap.size + 1) (lowsOf L) ∧ Below w.heap.size w w' := by
  obtain ⟨A, c, rfl⟩ := h.form
  have HF := Lib.hid h; clear h
  have hmk := make_map
  have HS := Lib.hid hs; clear hs
  go_enter Tryd.func23, Tryd.ntmps23
  go_wp2_with fail
  clear hmk
  go_loopw [11] (fun i wr => ∃ k : Nat, k ≤ L.length ∧ i = .int .i64 k ∧ wr.heap[w.heap.size + 1]? = some (.cells #[.map (some w.heap.size)] 84 (0, 0)) ∧ mapAt wr w.heap.size k (lowsOf (L.take k)) ∧ Below w.heap.size w wr) (fun i _ => L.length - (intOf i).toNat)
  case atStart =>
    refine ⟨0, Nat.zero_le _, rfl, ?_, (mapAt_new w).bel ((Below.refl _ _).alloc (Nat.le_refl _) _), ((Below.refl _ _).alloc (Nat.le_refl _) _).alloc (by simp) _⟩
    have h := heap_alloc_new (w.alloc (.map #[] 0)) (.cells #[.map (some w.heap.size)] 84)
    rw [World.size_alloc] at h
    exact h
  case round =>
    obtain ⟨k, hk, rfl, hh, hm, hb⟩ := hrel
    have HH := Lib.hid hh; have HM := Lib.hid hm; have HB := Lib.hid hb; clear hh hm hb
    by_cases hlt : k < L.length
    · obtain ⟨b, off, rfl, hbb, hc⟩ := (HF.out.bel HB.out).get k hlt
      have hx := HS.out L[k] (List.getElem_mem hlt)
      have HT : Hid (lowsOf (L.take (k + 1)) = lowsOf (L.take k) ++ [lower L[k]]) := by show _ = _; unfold lowsOf; rw [List.take_succ_eq_append_getElem hlt, List.map_append]; rfl
      generalize L[k] = x at *
      have hlow := fun w => lower_l x w (by unfold maxLen; omega)
      have hlen := lower_len x
      have HLen : Hid ((lower x).length ≤ maxLen) := by show _ ≤ _; rw [hlen]; unfold maxLen; omega
      clear hlen
      have HL := Lib.hid hlow; clear hlow
      go_wp2_with fail
      refine wp_region_growS (.one 0 false (.one 1 false (.one 3 false (.one 2 true (.one 4 true .done))))) (fun x => x.cell? ⟨w.heap.size + 1, 0, none⟩ = some (.map (some w.heap.size))) (by kernel_rfl) (by kernel_rfl) rfl (by kernel_rfl) (by kernel_rfl) (cell_of_one HH.out) (fun ops hops => ?_)
      simp only [GT.ins, List.getD_cons_zero, List.getD_cons_succ]
      clear hops
      iterate 3
        refine growS_take (by rfl) ?_
        apply Exists.intro
        refine ⟨fun w' hE => ?_, ?_⟩
        · go_simp
          try with_reducible rfl
        simp only [Act.put, List.setIfInBounds_toArray, List.set_cons_zero, List.set_cons_succ]
      refine growS_call (by rfl) (fun K hK => ?_)
      go_simp
      refine (HL.out _).mono ?_
      rintro e w1 ⟨rfl, hb1⟩
      have hb2 : Below wr.heap.size wr w1 := (Below.refl _ _).drew.trans hb1
      have HH1 : Hid (w1.heap[w.heap.size + 1]? = some (.cells #[.map (some w.heap.size)] 84 (0, 0))) := (hb2.block _ (Array.getElem?_eq_some_iff.1 HH.out).1).trans HH.out
      have HM1 := Lib.hid (HM.out.bel hb2)
      have HB1 := Lib.hid (HB.out.trans (hb2.mono HB.out.size))
      clear hb1 hb2
      refine hK.out _ _ (cell_of_one HH1.out) ?_
      clear hK K
      refine growS_call (by rfl) (fun K hK => ?_)
      obtain ⟨w2, hrun, hm2, hg2⟩ := HM1.out.put (lower x) HLen.out (by unfold maxLen; omega)
      have HH2 : Hid (w2.heap[w.heap.size + 1]? = some (.cells #[.map (some w.heap.size)] 84 (0, 0))) := (hg2.block _ (Array.getElem?_eq_some_iff.1 HH1.out).1 (by simp)).trans HH1.out
      have HB2 : Hid (Below w.heap.size w w2) := HB1.out.grown hg2 HB1.out.size (fun k hk => by cases hk; exact Nat.le_refl _)
      have HM2 := Lib.hid hm2; clear hm2 hg2
      go_simp
      refine hK.out _ _ (cell_of_one HH2.out) ?_
      clear hK K hrun
      refine growS_done (NoPanic.normal ?_)
      try simp only [Exit.then]
      go_wp2_with fail
      go_roundw
      case rel => exact ⟨k + 1, by omega, by go_num, HH2.out, by rw [HT.out]; exact HM2.out, HB2.out⟩
      case measure => simp [intOf]; omega
    · have HT : Hid (lowsOf (L.take k) = lowsOf L) := by show _ = _; rw [List.take_of_length_le (by omega)]
      go_wp2_with fail
      go_ret
      exact ⟨rfl, ⟨w.heap.size, k, HH.out, by rw [← HT.out]; exact HM.out⟩, HB.out⟩

set_option maxHeartbeats 2000000 in
set_option maxRecDepth 100000 in
theorem named1_any (f : Fld) (b : Nat) (L : List (List UInt8)) (w : World) (h : knows w b L) (h1 : f.1.length ≤ 4294967296) :
    Calls Tryd.prog 42 #[fv f, .pointer (some ⟨b, 0, none⟩)] w fun e w' => e = .returned (.bool (L.any (· == lower f.1))) ∧ Below w.heap.size w w' := by
  obtain ⟨n, v⟩ := f; simp only at h1
  obtain ⟨m, k, hh, hm⟩ := h
  have hbl : b < w.heap.size := (Array.getElem?_eq_some_iff.1 hh).1
  have hml := hm.lt
  unfold fv; simp only
  have hlow := fun w => lower_l n w (by unfold maxLen; omega)
  have hlen := lower_len n
  have HLen : Hid ((lower n).length ≤ maxLen) := by show _ ≤ _; rw [hlen]; unfold maxLen; omega
  clear hlen
  generalize lower n = ln at *
  have HL := Lib.hid hlow; clear hlow
  have hal : Below w.heap.size w (w.alloc (.cells #[.string (bs n), .string (bs v)] 38)) := (Below.refl _ _).alloc (Nat.le_refl _) _
  have HH : Hid ((w.alloc (.cells #[.string (bs n), .string (bs v)] 38)).heap[b]? = some (.cells #[.map (some m)] 84 (0, 0))) := (hal.block b hbl).trans hh
  have HM : Hid (mapAt (w.alloc (.cells #[.string (bs n), .string (bs v)] 38)) m k L) := hm.bel hal
  have HP : Hid (oneF2 (w.alloc (.cells #[.string (bs n), .string (bs v)] 38)) w.heap.size (.string (bs n)) (.string (bs v))) := oneF2.new _ _ _
  have HB : Hid (Below w.heap.size w (w.alloc (.cells #[.string (bs n), .string (bs v)] 38))) := hal
  have HZ : Hid (w.heap.size + 1 = (w.alloc (.cells #[.string (bs n), .string (bs v)] 38)).heap.size) := by show _ = _; simp
  clear hal hh hm
  go_enter Tryd.func42, Tryd.ntmps42
  go_wp2_with fail
  generalize w.alloc (.cells #[.string (bs n), .string (bs v)] 38) = W at *
  have hS : ∀ x, Below W.heap.size W x → x.cell? ⟨b, 0, none⟩ = some (.map (some m)) ∧ x.cell? ⟨w.heap.size, 0, none⟩ = some (.string (bs n)) ∧ (Instr.lookup 84 (.map (some m)) (.string (bs ln)) true).run Tryd.prog x = .ok (.tuple #[.agg #[], .bool (L.any (· == ln))]) x :=
    fun x hx => ⟨cell_of_one ((hx.block b (Array.getElem?_eq_some_iff.1 HH.out).1).trans HH.out), (HP.out.bel hx).cells.1, (HM.out.bel hx).look ln HLen.out⟩
  have HS := Lib.hid hS; clear hS
  refine wp_region_growS (.one 0 false (.one 1 false (.one 2 false (.two 3 8 (.one 4 false (.one 5 false (.one 6 false (.one 7 false (.one 8 true (.one 9 true (.one 10 false .done))))))) (.one 3 true (.one 4 false (.one 5 false (.one 6 false (.one 7 false (.one 9 true (.one 10 false .done)))))))))))
    (fun x => Below W.heap.size W x) (by kernel_rfl) (by kernel_rfl) rfl (by kernel_rfl) (by kernel_rfl) (Below.refl _ _).drew (fun ops hops => ?_)
  simp only [GT.ins, List.getD_cons_zero, List.getD_cons_succ]
  clear hops
  iterate 3
    refine growS_take (by rfl) ?_
    apply Exists.intro
    refine ⟨fun w' hE => ?_, ?_⟩
    · obtain ⟨k1, k2, k3⟩ := HS.out w' hE
      go_simp
      try with_reducible rfl
    simp only [Act.put, List.setIfInBounds_toArray, List.set_cons_zero, List.set_cons_succ]
  refine growS_two (by rfl) (by rfl) (fun K hK => ?_) (fun K hK => ?_)
  · go_simp
    refine (HL.out _).mono ?_
    rintro e w1 ⟨rfl, hb1⟩
    have HB1 : Hid (Below W.heap.size W w1) := (Below.refl _ _).drew.trans hb1
    clear hb1
    refine hK.out _ _ HB1.out ?_
    clear hK K
    iterate 4
      refine growS_take (by rfl) ?_
      apply Exists.intro
      refine ⟨fun w' hE => ?_, ?_⟩
      · obtain ⟨k1, k2, k3⟩ := HS.out w' hE
        go_simp
        try with_reducible rfl
      simp only [Act.put, List.setIfInBounds_toArray, List.set_cons_zero, List.set_cons_succ]
    refine growS_call (by rfl) (fun K hK => ?_)
    go_simp
    refine hK.out _ _ (HB1.out.alloc HB1.out.size _) ?_
    clear hK K
    refine growS_call (by rfl) (fun K hK => ?_)
    go_simp
    refine hK.out _ _ (HB1.out.alloc HB1.out.size _) ?_
    clear hK K
    refine growS_take (by rfl) ?_
    apply Exists.intro
    refine ⟨fun w' hE => ?_, ?_⟩
    · go_simp
      try with_reducible rfl
    simp only [Act.put, List.setIfInBounds_toArray, List.set_cons_zero, List.set_cons_succ]
    refine growS_done (NoPanic.normal ?_)
    simp only [Exit.then]
    go_wp2_with fail
    go_ret
    exact ⟨rfl, HB.out.trans ((HB1.out.alloc HB1.out.size _).mono HB.out.size)⟩
  · go_simp
    have HB0 : Hid (Below W.heap.size W (W.drew.alloc (.cells #[] 85))) := (Below.refl _ _).drew.alloc (Nat.le_refl _) _
    refine hK.out _ _ HB0.out ?_
    clear hK K
    refine growS_call (by rfl) (fun K hK => ?_)
    go_simp
    refine (HL.out _).mono ?_
    rintro e w1 ⟨rfl, hb1⟩
    have HB1 : Hid (Below W.heap.size W w1) := HB0.out.trans (hb1.mono (by simp))
    clear hb1
    refine hK.out _ _ HB1.out ?_
    clear hK K
    iterate 4
      refine growS_take (by rfl) ?_
      apply Exists.intro
      refine ⟨fun w' hE => ?_, ?_⟩
      · obtain ⟨k1, k2, k3⟩ := HS.out w' hE
        go_simp
        try with_reducible rfl
      simp only [Act.put, List.setIfInBounds_toArray, List.set_cons_zero, List.set_cons_succ]
    refine growS_call (by rfl) (fun K hK => ?_)
    go_simp
    refine hK.out _ _ HB1.out ?_
    clear hK K
    refine growS_take (by rfl) ?_
    apply Exists.intro
    refine ⟨fun w' hE => ?_, ?_⟩
    · go_simp
      try with_reducible rfl
    simp only [Act.put, List.setIfInBounds_toArray, List.set_cons_zero, List.set_cons_succ]
    refine growS_done (NoPanic.normal ?_)
    simp only [Exit.then]
    go_wp2_with fail
    go_ret
    exact ⟨rfl, HB.out.trans (HB1.out.mono HB.out.size)⟩
end Go.Proofs.YtnhkebbmgiokbaaDoor
