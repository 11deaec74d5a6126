/- Lists of fields held against each other; Select and Matches of the vary layer, and the document's. -/
import Derived.Test.YtmlgmpjbjbjaoaaVaryD
import Derived.Test.YtmlgmpjbjbjaoaaKFieldsG
import Derived.Test.YtmlgmpjbjbjaoaaKOpen
namespace Go.Proofs.Ytmlgmpjbjbjaoaa
open Go.RowKit

/-- block b holds just these cells -/
def vbk (w : World) (b : Nat) (cs : Array Value) : Prop := ∃ T, w.heap[b]? = some (.cells cs T (0, 0))
theorem vbk.cell {w : World} {b : Nat} {cs : Array Value} (h : vbk w b cs) (j : Nat) (u : Value) (hj : cs[j]? = some u) : w.cell? ⟨b, j, none⟩ = some u := by
  obtain ⟨T, h⟩ := h
  exact (cell_of_row w b j cs T _ h).trans hj
theorem vbk.lt {w : World} {b : Nat} {cs : Array Value} (h : vbk w b cs) : b < w.heap.size := by
  obtain ⟨T, h⟩ := h
  exact (Array.getElem?_eq_some_iff.1 h).1
theorem vbk.below {w w' : World} {b : Nat} {cs : Array Value} (h : vbk w b cs) (hb : Below w.heap.size w w') : vbk w' b cs := by
  have hk := hb.block b h.lt
  obtain ⟨T, h⟩ := h
  exact ⟨T, hk.trans h⟩
theorem vbk.new (w : World) (cs : Array Value) (T : TypeId) : vbk (w.alloc (.cells cs T)) w.heap.size cs := ⟨T, heap_alloc_new w _⟩

set_option maxHeartbeats 1000000 in
set_option maxRecDepth 100000 in
theorem vsame_any (v1 v2 : Value) (L1 L2 : List Fld) (w : World) (h1 : FL w v1 L1) (h2 : FL w v2 L2) (hl : L1.length ≤ 4294967296) :
    Calls Try.prog 23 #[v1, v2] w fun e w' => e = .returned (.bool (L1 == L2)) ∧ Below w.heap.size w w' := by
  obtain ⟨a1, c1, rfl⟩ := h1.form
  obtain ⟨a2, c2, rfl⟩ := h2.form
  have H1 := Lib.hid h1; have H2 := Lib.hid h2
  clear h1 h2
  by_cases hlen : L1.length = L2.length
  · have hne : ((L1.length : Int) != (L2.length : Int)) = false := by rw [bne_eq_false_iff_eq]; omega
    have HLen := Lib.hid hlen; clear hlen
    go_enter Try.func23, Try.ntmps23
    go_wp2_with fail
    go_loopw [5] (fun i wr => ∃ k : Nat, k ≤ L1.length ∧ i = .int .i64 k ∧ L1.take k = L2.take k ∧ Below w.heap.size w wr) (fun i _ => L1.length - (intOf i).toNat)
    case atStart => exact ⟨0, Nat.zero_le _, rfl, rfl, Below.refl _ _⟩
    case round =>
      obtain ⟨k, hk, rfl, ht, hb⟩ := hrel
      have HT := Lib.hid ht; clear ht
      have HB := Lib.hid hb; clear hb
      by_cases hlt : k < L1.length
      · have hlt2 : k < L2.length := by have := HLen.out; omega
        have hi1 : (k : Int) < (L1.length : Int) := by omega
        have hi2 : (k : Int) < (L2.length : Int) := by omega
        obtain ⟨g1, o1, rfl, _, hc1, hc3⟩ := (H1.out.bel HB.out).get k hlt
        obtain ⟨g2, o2, rfl, _, hc2, hc4⟩ := (H2.out.bel HB.out).get k hlt2
        have hcmp := fun w => run_neqF L1[k] L2[k] w
        by_cases he : L1[k] = L2[k]
        · have HS := Lib.hid (take_grow hlt hlt2 HT.out he)
          rw [show (!(L1[k] == L2[k])) = false from by rw [he]; simp] at hcmp
          clear he
          generalize L1[k] = x at *
          generalize L2[k] = y at *
          generalize bs x.1 = x1 at *
          generalize bs x.2 = x2 at *
          generalize bs y.1 = y1 at *
          generalize bs y.2 = y2 at *
          go_wp2_with fail
          go_quiet (fail)
          go_wp2_with fail
          go_roundw
          case rel => exact ⟨k + 1, by omega, by go_num, HS.out, below_dn HB.out _⟩
          case measure => simp [intOf]; omega
        · have HN : Hid (¬ L1 = L2) := fun e => he (by subst e; rfl)
          rw [show (!(L1[k] == L2[k])) = true from by rw [beq_eq_false_iff_ne.2 he]; rfl] at hcmp
          clear he
          generalize L1[k] = x at *
          generalize L2[k] = y at *
          generalize bs x.1 = x1 at *
          generalize bs x.2 = x2 at *
          generalize bs y.1 = y1 at *
          generalize bs y.2 = y2 at *
          go_wp2_with fail
          go_quiet (fail)
          go_wp2_with fail
          go_ret
          exact ⟨ret_bool (beq_eq_false_iff_ne.2 HN.out).symm, below_dn HB.out _⟩
      · have HE : Hid (L1 = L2) := by
          have h := HT.out
          have h3 := HLen.out
          rwa [List.take_of_length_le (by omega), List.take_of_length_le (by omega)] at h
        go_wp2_with fail
        go_ret
        exact ⟨ret_bool (beq_iff_eq.2 HE.out).symm, HB.out⟩
  · have hne : ((L1.length : Int) != (L2.length : Int)) = true := bne_iff_ne.2 (by omega)
    have HN : Hid (¬ L1 = L2) := fun e => hlen (by rw [e])
    clear hlen
    go_enter Try.func23, Try.ntmps23
    go_wp2_with fail
    go_ret
    exact ⟨ret_bool (beq_eq_false_iff_ne.2 HN.out).symm, Below.refl _ _⟩

set_option maxHeartbeats 1000000 in
set_option maxRecDepth 100000 in
theorem rvsame_any (v1 v2 : Value) (L1 L2 : List Fld) (w : World) (h1 : FL w v1 L1) (h2 : FL w v2 L2) (hl : L1.length ≤ 4294967296) :
    Calls Try.prog 13 #[v1, v2] w fun e w' => e = .returned (.bool (L1 == L2)) ∧ Below w.heap.size w w' := by
  obtain ⟨a1, c1, rfl⟩ := h1.form
  obtain ⟨a2, c2, rfl⟩ := h2.form
  have H1 := Lib.hid h1; have H2 := Lib.hid h2
  clear h1 h2
  by_cases hlen : L1.length = L2.length
  · have hne : ((L1.length : Int) != (L2.length : Int)) = false := by rw [bne_eq_false_iff_eq]; omega
    have HLen := Lib.hid hlen; clear hlen
    go_enter Try.func13, Try.ntmps13
    go_wp2_with fail
    go_loopw [5] (fun i wr => ∃ k : Nat, k ≤ L1.length ∧ i = .int .i64 k ∧ L1.take k = L2.take k ∧ Below w.heap.size w wr) (fun i _ => L1.length - (intOf i).toNat)
    case atStart => exact ⟨0, Nat.zero_le _, rfl, rfl, Below.refl _ _⟩
    case round =>
      obtain ⟨k, hk, rfl, ht, hb⟩ := hrel
      have HT := Lib.hid ht; clear ht
      have HB := Lib.hid hb; clear hb
      by_cases hlt : k < L1.length
      · have hlt2 : k < L2.length := by have := HLen.out; omega
        have hi1 : (k : Int) < (L1.length : Int) := by omega
        have hi2 : (k : Int) < (L2.length : Int) := by omega
        obtain ⟨g1, o1, rfl, _, hc1, hc3⟩ := (H1.out.bel HB.out).get k hlt
        obtain ⟨g2, o2, rfl, _, hc2, hc4⟩ := (H2.out.bel HB.out).get k hlt2
        have hcmp := fun w => run_neqF L1[k] L2[k] w
        by_cases he : L1[k] = L2[k]
        · have HS := Lib.hid (take_grow hlt hlt2 HT.out he)
          rw [show (!(L1[k] == L2[k])) = false from by rw [he]; simp] at hcmp
          clear he
          generalize L1[k] = x at *
          generalize L2[k] = y at *
          generalize bs x.1 = x1 at *
          generalize bs x.2 = x2 at *
          generalize bs y.1 = y1 at *
          generalize bs y.2 = y2 at *
          go_wp2_with fail
          go_quiet (fail)
          go_wp2_with fail
          go_roundw
          case rel => exact ⟨k + 1, by omega, by go_num, HS.out, below_dn HB.out _⟩
          case measure => simp [intOf]; omega
        · have HN : Hid (¬ L1 = L2) := fun e => he (by subst e; rfl)
          rw [show (!(L1[k] == L2[k])) = true from by rw [beq_eq_false_iff_ne.2 he]; rfl] at hcmp
          clear he
          generalize L1[k] = x at *
          generalize L2[k] = y at *
          generalize bs x.1 = x1 at *
          generalize bs x.2 = x2 at *
          generalize bs y.1 = y1 at *
          generalize bs y.2 = y2 at *
          go_wp2_with fail
          go_quiet (fail)
          go_wp2_with fail
          go_ret
          exact ⟨ret_bool (beq_eq_false_iff_ne.2 HN.out).symm, below_dn HB.out _⟩
      · have HE : Hid (L1 = L2) := by
          have h := HT.out
          have h3 := HLen.out
          rwa [List.take_of_length_le (by omega), List.take_of_length_le (by omega)] at h
        go_wp2_with fail
        go_ret
        exact ⟨ret_bool (beq_iff_eq.2 HE.out).symm, HB.out⟩
  · have hne : ((L1.length : Int) != (L2.length : Int)) = true := bne_iff_ne.2 (by omega)
    have HN : Hid (¬ L1 = L2) := fun e => hlen (by rw [e])
    clear hlen
    go_enter Try.func13, Try.ntmps13
    go_wp2_with fail
    go_ret
    exact ⟨ret_bool (beq_eq_false_iff_ne.2 HN.out).symm, Below.refl _ _⟩

theorem sel_step {names : List (List UInt8)} {k : Nat} (h : k < names.length) (l : List Fld) : selectL (names.take (k + 1)) l = selectL (names.take k) l ++ [(names[k], valueL l names[k])] := by
  rw [List.take_succ_eq_append_getElem h]; unfold selectL; rw [List.map_append]; rfl
set_option maxHeartbeats 2000000 in
set_option maxRecDepth 100000 in
theorem vselect_any {vN v : Value} {names : List (List UInt8)} {l : List Fld} (w : World) (hN : SL w vN names) (hv : FL w v l) (hs : VfB l) (hns : ∀ n ∈ names, n.length ≤ 65536) (hl : names.length ≤ 100000) :
    Calls Try.prog 14 #[vN, v] w (RetF w (selectL names l)) := by
  obtain ⟨A, c, rfl⟩ := hN.form
  obtain ⟨Av, cv, hfv⟩ := hv.form
  have hmf : ∀ (fn : Fn) (first cap : Array Value) (w : World), (Instr.makeFunc fn first cap).run Try.prog w = .ok (.func fn first cap) w := fun _ _ _ _ => rfl
  have HN := Lib.hid hN; have HNS := Lib.hid hns
  have HVL := Lib.hid fun (n : List UInt8) (hn : n.length ≤ 65536) W (hb : Below w.heap.size w W) => vvalue_any n W (hv.bel hb) hs (by omega)
  clear hN hv hns hs
  subst hfv
  go_enter Try.func14, Try.ntmps14
  go_wp2_with fail
  clear hmf
  go_loopw [5, 13] (fun o i wr => ∃ k : Nat, k ≤ names.length ∧ i = .int .i64 k ∧ ownF wr w.heap.size o (selectL (names.take k) l) ∧ Below w.heap.size w wr) (fun _ i _ => names.length - (intOf i).toNat)
  case atStart => exact ⟨0, Nat.zero_le _, rfl, ownF_nil _ _, Below.refl _ _⟩
  case round =>
    obtain ⟨k, hk, rfl, ho, hb⟩ := hrel
    have HO := Lib.hid ho; have HB := Lib.hid hb; clear ho hb
    by_cases hlt : k < names.length
    · obtain ⟨b, off, rfl, hbb, hc⟩ := (HN.out.bel HB.out).get k hlt
      have hnl := HNS.out names[k] (List.getElem_mem hlt)
      have HST := Lib.hid (sel_step hlt l)
      have hsl := select_len (names.take k) l
      have htl : (names.take k).length ≤ names.length := List.length_take_le' _ _
      have HQL : Hid ((selectL (names.take k) l).length + 1 ≤ 4294967296) := by show _ ≤ _; omega
      generalize selectL (names.take k) l = acc at *
      generalize names[k] = n at *
      have HC := Lib.hid fun W => clone_l n W (by omega)
      have HV := Lib.hid (HVL.out n hnl)
      generalize valueL l n = z at *
      obtain ⟨A0, c0, rfl⟩ := HO.out.form
      clear hnl hsl htl
      go_wp2_with (first
        | (go_at_call 36; refine (HC.out _).mono ?_; rintro e w1 ⟨rfl, hb1⟩; have HO1 := Lib.hid (HO.out.bel hb1); have HB1 := Lib.hid (HB.out.trans (hb1.mono HB.out.size)); clear hb1)
        | (go_at_call 35; refine (HV.out _ HB1.out).mono ?_; rintro e w2 ⟨rfl, hb2⟩; have HO2 := Lib.hid (HO1.out.bel hb2); have HB2 := Lib.hid (HB1.out.trans (hb2.mono HB1.out.size)); clear hb2)
        | (at_builtin; refine wpList_appF rfl (.tmp 17) (.tmp 24) rfl w.heap.size w.heap.size _ _ n z rfl HO2.out HB2.out (Nat.le_refl _) HB2.out.size rfl HQL.out ?_; intro v' w3 HO3 HB3 _))
      go_roundw
      case rel => exact ⟨k + 1, by omega, by go_num, by rw [HST.out]; exact HO3.out, HB3.out⟩
      case measure => simp [intOf]; omega
    · have HE : Hid (names.take k = names) := List.take_of_length_le (by omega)
      go_wp2_with fail
      go_ret
      exact ⟨_, rfl, by have h := HO.out; rw [HE.out] at h; exact h, HB.out⟩

set_option maxHeartbeats 4000000 in
set_option maxRecDepth 100000 in
theorem rvselect_any {vN v : Value} {names : List (List UInt8)} {l : List Fld} (w : World) (hN : SL w vN names) (hv : FL w v l) (hs : VfB l) (hns : ∀ n ∈ names, n.length ≤ 65536) (hl : names.length ≤ 100000) :
    Calls Try.prog 15 #[vN, v] w (RetF w (selectL names l)) := by
  obtain ⟨A, c, rfl⟩ := hN.form
  obtain ⟨Av, cv, hfv⟩ := hv.form
  have HN := Lib.hid hN; have HNS := Lib.hid hns
  have HVL := Lib.hid fun (n : List UInt8) (hn : n.length ≤ 65536) W (hb : Below w.heap.size w W) => rvvalue_any n W (hv.bel hb) hs (by omega)
  clear hN hv hns hs
  subst hfv
  go_enter Try.func15, Try.ntmps15
  go_wp2_with fail
  go_loopw [5, 6] (fun o i wr => ∃ k : Nat, k ≤ names.length ∧ i = .int .i64 k ∧ ownF wr w.heap.size o (selectL (names.take k) l) ∧ Below w.heap.size w wr) (fun _ i _ => names.length - (intOf i).toNat)
  case atStart => exact ⟨0, Nat.zero_le _, rfl, ownF_nil _ _, Below.refl _ _⟩
  case round =>
    obtain ⟨k, hk, rfl, ho, hb⟩ := hrel
    have HO := Lib.hid ho; have HB := Lib.hid hb; clear ho hb
    by_cases hlt : k < names.length
    · have hki : (k : Int) < (names.length : Int) := by omega
      obtain ⟨b, off, rfl, hbb, hc⟩ := HN.out.get k hlt
      have hnl := HNS.out names[k] (List.getElem_mem hlt)
      have HST := Lib.hid (sel_step hlt l)
      have hsl := select_len (names.take k) l
      have htl : (names.take k).length ≤ names.length := List.length_take_le' _ _
      have HQL : Hid ((selectL (names.take k) l).length + [(names[k], valueL l names[k])].length ≤ 4294967296) := by show _ + 1 ≤ _; omega
      generalize selectL (names.take k) l = acc at *
      generalize names[k] = n at *
      have HV := Lib.hid (HVL.out n hnl)
      generalize valueL l n = z at *
      obtain ⟨A0, c0, rfl⟩ := HO.out.form
      have HCC : Hid (∀ W, Below w.heap.size w W → W.cell? ⟨b, off + k, none⟩ = some (.string (bs n))) := fun W h => (World.cell?_of_block (a := ⟨b, off + k, none⟩) (h.block b hbb)).trans hc
      clear hnl hsl htl hc
      go_wp2_with fail
      refine wp_region_growS (.one 0 false (.one 1 false (.one 2 false (.one 3 false (.one 4 false (.one 5 false (.one 6 false (.one 7 false (.one 8 false (.one 9 false (.one 10 true (.one 11 false (.one 12 true (.one 13 true (.one 14 false .done)))))))))))))))
        (fun W => Below w.heap.size w W) (by kernel_rfl) (by kernel_rfl) rfl (by kernel_rfl) (by kernel_rfl) HB.out.drew (fun ops hops => ?_)
      simp only [GT.ins, List.getD_cons_zero, List.getD_cons_succ]
      clear hops
      iterate 10
        refine growS_take (by rfl) ?_
        apply Exists.intro
        refine ⟨fun w' hE => ?_, ?_⟩
        · have q1 := HCC.out w' hE
          go_simp
          try with_reducible rfl
        simp only [Act.put, List.setIfInBounds_toArray, List.set_cons_zero, List.set_cons_succ]
      refine growS_call (by rfl) (fun K hK => ?_)
      go_simp
      refine (HV.out _ HB.out.drew).mono ?_
      rintro e w5 ⟨rfl, hb5⟩
      have hb5' : Below wr.heap.size wr w5 := (Below.refl _ _).drew.trans hb5
      have HO5 := Lib.hid (HO.out.bel hb5'); have HB5 := Lib.hid (HB.out.trans (hb5'.mono HB.out.size))
      clear hb5 hb5'
      refine hK.out _ _ HB5.out ?_
      clear hK K
      iterate 1
        refine growS_take (by rfl) ?_
        apply Exists.intro
        refine ⟨fun w' hE => ?_, ?_⟩
        · have q1 := HCC.out w' hE
          go_simp
          try with_reducible rfl
        simp only [Act.put, List.setIfInBounds_toArray, List.set_cons_zero, List.set_cons_succ]
      refine growS_call (by rfl) (fun K hK => ?_)
      go_simp
      have hal : Below w5.heap.size w5 (w5.alloc (.cells #[.string (bs n), .string (bs z)] 41)) := (Below.refl _ _).alloc (Nat.le_refl _) _
      have HN6 := Lib.hid (FL_lit w5 (n, z)); have HO6 := Lib.hid (HO5.out.bel hal); have HB6 := Lib.hid (HB5.out.trans (hal.mono HB5.out.size))
      clear hal
      refine hK.out _ _ HB6.out ?_
      clear hK K
      refine growS_call (by rfl) (fun K hK => ?_)
      refine wp_appFF (.tmp 13) (.tmp 25) rfl w.heap.size w.heap.size _ _ acc [(n, z)] rfl HO6.out HB6.out (Nat.le_refl _) HB6.out.size rfl HN6.out HQL.out ?_
      intro v7 w7 HO7 HB7 HK7 HS7
      refine hK.out _ _ HB7.out ?_
      clear hK K
      iterate 1
        refine growS_take (by rfl) ?_
        apply Exists.intro
        refine ⟨fun w' hE => ?_, ?_⟩
        · have q1 := HCC.out w' hE
          go_simp
          try with_reducible rfl
        simp only [Act.put, List.setIfInBounds_toArray, List.set_cons_zero, List.set_cons_succ]
      refine growS_done (NoPanic.normal ?_)
      try simp only [Exit.then]
      go_wp2_with fail
      go_roundw
      case rel => exact ⟨k + 1, by omega, by go_num, by rw [HST.out]; exact HO7.out, HB7.out⟩
      case measure => simp [intOf]; omega
    · have HE : Hid (names.take k = names) := List.take_of_length_le (by omega)
      go_wp2_with fail
      go_ret
      exact ⟨_, rfl, by have h := HO.out; rw [HE.out] at h; exact h, HB.out⟩

theorem all_snocF {E : List Fld} {p : Fld → Bool} {k : Nat} (h : k < E.length) (hp : (E.take k).all p = true) (hq : p E[k] = true) : (E.take (k + 1)).all p = true := by
  rw [List.take_succ_eq_append_getElem h, List.all_append, hp]; simp [hq]
theorem all_noF {E : List Fld} {p : Fld → Bool} {k : Nat} (h : k < E.length) (hq : p E[k] = false) : E.all p = false := List.all_eq_false.2 ⟨E[k], List.getElem_mem h, by simp [hq]⟩
variable {a0 a1 a2 a3 a4 a5 a6 : Value}
set_option maxHeartbeats 4000000 in
set_option maxRecDepth 100000 in
theorem vmatches_any {vv v : Value} {vary l : List Fld} (w : World) (hN : FL w vv vary) (hv : FL w v l) (hs : VfB l) (hns : smallF vary) (hl : vary.length ≤ 4294967296) :
    Calls Try.prog 16 #[.agg #[a0, a1, a2, a3, a4, a5, a6, vv], v] w fun e w' => e = .returned (.bool (matchB vary l)) ∧ Below w.heap.size w w' := by
  obtain ⟨A, c, rfl⟩ := hN.form
  obtain ⟨Av, cv, hfv⟩ := hv.form
  have hmf : ∀ (fn : Fn) (first cap : Array Value) (w : World), (Instr.makeFunc fn first cap).run Try.prog w = .ok (.func fn first cap) w := fun _ _ _ _ => rfl
  have HX : Hid (Below w.heap.size w (w.alloc (.cells #[a0, a1, a2, a3, a4, a5, a6, .slice A vary.length c] 33))) := (Below.refl _ _).alloc (Nat.le_refl _) _
  have HVL := Lib.hid fun (n : List UInt8) (hn : n.length ≤ 4294967296) W (hb : Below w.heap.size w W) => vvalue_any n W (hv.bel hb) hs hn
  have HN := Lib.hid (hN.bel HX.out); have HNS := Lib.hid hns
  clear hN hv hns hs
  subst hfv
  go_enter Try.func16, Try.ntmps16
  go_wp2_with fail
  clear hmf
  generalize w.alloc (.cells #[a0, a1, a2, a3, a4, a5, a6, .slice A vary.length c] 33) = W0 at *
  go_loopw [13] (fun i wr => ∃ k : Nat, k ≤ vary.length ∧ i = .int .i64 k ∧ (vary.take k).all (fun f => f.2 == valueL l f.1) = true ∧ Below W0.heap.size W0 wr) (fun i _ => vary.length - (intOf i).toNat)
  case atStart => exact ⟨0, Nat.zero_le _, rfl, rfl, Below.refl _ _⟩
  case round =>
    obtain ⟨k, hk, rfl, ha, hb⟩ := hrel
    have HA := Lib.hid ha; have HB := Lib.hid hb; clear ha hb
    by_cases hlt : k < vary.length
    · obtain ⟨b, off, rfl, hbb, c0, c1⟩ := (HN.out.bel HB.out).get k hlt
      obtain ⟨s1, s2⟩ := HNS.out k hlt
      have HYE : Hid ((vary[k].2 == valueL l vary[k].1) = true → (vary.take (k + 1)).all (fun f => f.2 == valueL l f.1) = true) := fun h => all_snocF hlt HA.out h
      have HNO : Hid ((vary[k].2 == valueL l vary[k].1) = false → matchB vary l = false) := fun h => all_noF hlt h
      generalize vary[k] = f at *
      obtain ⟨n, x⟩ := f
      simp only at HYE HNO c0 c1 s1 s2
      have HV := Lib.hid (HVL.out n s1)
      have hq := beqVV x (valueL l n)
      generalize valueL l n = z at *
      have hal : Below wr.heap.size wr (wr.alloc (.cells #[.string (bs n), .string (bs x)] 41)) := (Below.refl _ _).alloc (Nat.le_refl _) _
      have HBa := Lib.hid (HB.out.trans (hal.mono HB.out.size))
      have HPa := Lib.hid (oneF2.new wr (.string (bs n)) (.string (bs x)))
      have HXa : Hid (Below w.heap.size w (wr.alloc (.cells #[.string (bs n), .string (bs x)] 41))) := HX.out.trans (HBa.out.mono HX.out.size)
      clear hal s1 s2
      cases hx : x == z
      · rw [hx] at hq
        have HNO2 := Lib.hid (HNO.out hx)
        clear hx HNO HYE
        go_wp2_with fail
        clear c0 c1
        generalize wr.alloc (.cells #[.string (bs n), .string (bs x)] 41) = C at *
        refine wp_region_growS (.one 0 false (.one 1 false (.one 2 false (.one 3 false (.one 4 false (.one 5 true (.one 6 false .done)))))))
          (fun W => Below C.heap.size C W) (by kernel_rfl) (by kernel_rfl) rfl (by kernel_rfl) (by kernel_rfl) (Below.refl _ _).drew (fun ops hops => ?_)
        simp only [GT.ins, List.getD_cons_zero, List.getD_cons_succ]
        clear hops
        iterate 5
          refine growS_take (by rfl) ?_
          apply Exists.intro
          refine ⟨fun w' hE => ?_, ?_⟩
          · obtain ⟨q0, q1, _, _⟩ := (HPa.out.bel hE).cells
            go_simp
            try with_reducible rfl
          simp only [Act.put, List.setIfInBounds_toArray, List.set_cons_zero, List.set_cons_succ]
        refine growS_call (by rfl) (fun K hK => ?_)
        go_simp
        refine (HV.out _ HXa.out.drew).mono ?_
        rintro e w5 ⟨rfl, hb5⟩
        have HC5 : Hid (Below C.heap.size C w5) := (Below.refl _ _).drew.trans hb5
        clear hb5
        refine hK.out _ _ HC5.out ?_
        clear hK K
        iterate 1
          refine growS_take (by rfl) ?_
          apply Exists.intro
          refine ⟨fun w' hE => ?_, ?_⟩
          · obtain ⟨q0, q1, _, _⟩ := (HPa.out.bel hE).cells
            go_simp
            try with_reducible rfl
          simp only [Act.put, List.setIfInBounds_toArray, List.set_cons_zero, List.set_cons_succ]
        refine growS_done (NoPanic.normal ?_)
        try simp only [Exit.then]
        go_wp2_with fail
        go_ret
        exact ⟨ret_bool HNO2.out.symm, HX.out.trans ((HBa.out.trans (HC5.out.mono HBa.out.size)).mono HX.out.size)⟩
      · rw [hx] at hq
        have HYE2 := Lib.hid (HYE.out hx)
        clear hx HNO HYE
        go_wp2_with fail
        clear c0 c1
        generalize wr.alloc (.cells #[.string (bs n), .string (bs x)] 41) = C at *
        refine wp_region_growS (.one 0 false (.one 1 false (.one 2 false (.one 3 false (.one 4 false (.one 5 true (.one 6 false .done)))))))
          (fun W => Below C.heap.size C W) (by kernel_rfl) (by kernel_rfl) rfl (by kernel_rfl) (by kernel_rfl) (Below.refl _ _).drew (fun ops hops => ?_)
        simp only [GT.ins, List.getD_cons_zero, List.getD_cons_succ]
        clear hops
        iterate 5
          refine growS_take (by rfl) ?_
          apply Exists.intro
          refine ⟨fun w' hE => ?_, ?_⟩
          · obtain ⟨q0, q1, _, _⟩ := (HPa.out.bel hE).cells
            go_simp
            try with_reducible rfl
          simp only [Act.put, List.setIfInBounds_toArray, List.set_cons_zero, List.set_cons_succ]
        refine growS_call (by rfl) (fun K hK => ?_)
        go_simp
        refine (HV.out _ HXa.out.drew).mono ?_
        rintro e w5 ⟨rfl, hb5⟩
        have HC5 : Hid (Below C.heap.size C w5) := (Below.refl _ _).drew.trans hb5
        clear hb5
        refine hK.out _ _ HC5.out ?_
        clear hK K
        iterate 1
          refine growS_take (by rfl) ?_
          apply Exists.intro
          refine ⟨fun w' hE => ?_, ?_⟩
          · obtain ⟨q0, q1, _, _⟩ := (HPa.out.bel hE).cells
            go_simp
            try with_reducible rfl
          simp only [Act.put, List.setIfInBounds_toArray, List.set_cons_zero, List.set_cons_succ]
        refine growS_done (NoPanic.normal ?_)
        try simp only [Exit.then]
        go_wp2_with fail
        go_roundw
        case rel => exact ⟨k + 1, by omega, by go_num, HYE2.out, HBa.out.trans (HC5.out.mono HBa.out.size)⟩
        case measure => simp [intOf]; omega
    · have HE : Hid (matchB vary l = true) := by have h := HA.out; rw [List.take_of_length_le (by omega)] at h; exact h
      go_wp2_with fail
      go_ret
      exact ⟨ret_bool HE.out.symm, HX.out.trans (HB.out.mono HX.out.size)⟩

set_option maxHeartbeats 4000000 in
set_option maxRecDepth 100000 in
theorem rvmatches_any {vv v : Value} {vary l : List Fld} (w : World) (hN : FL w vv vary) (hv : FL w v l) (hs : VfB l) (hns : smallF vary) (hl : vary.length ≤ 4294967296) :
    Calls Try.prog 17 #[.agg #[a0, a1, a2, a3, a4, a5, a6, vv], v] w fun e w' => e = .returned (.bool (matchB vary l)) ∧ Below w.heap.size w w' := by
  obtain ⟨A, c, rfl⟩ := hN.form
  obtain ⟨Av, cv, hfv⟩ := hv.form
  have HX : Hid (Below w.heap.size w (w.alloc (.cells #[a0, a1, a2, a3, a4, a5, a6, .slice A vary.length c] 33))) := (Below.refl _ _).alloc (Nat.le_refl _) _
  have HVL := Lib.hid fun (n : List UInt8) (hn : n.length ≤ 4294967296) W (hb : Below w.heap.size w W) => rvvalue_any n W (hv.bel hb) hs hn
  have HN := Lib.hid (hN.bel HX.out); have HNS := Lib.hid hns
  have HD := Lib.hid (vbk.new w #[a0, a1, a2, a3, a4, a5, a6, .slice A vary.length c] 33)
  clear hN hv hns hs
  subst hfv
  go_enter Try.func17, Try.ntmps17
  go_wp2_with fail
  generalize w.alloc (.cells #[a0, a1, a2, a3, a4, a5, a6, .slice A vary.length c] 33) = W0 at *
  go_loopw [5] (fun i wr => ∃ k : Nat, k ≤ vary.length ∧ i = .int .i64 k ∧ (vary.take k).all (fun f => f.2 == valueL l f.1) = true ∧ Below W0.heap.size W0 wr) (fun i _ => vary.length - (intOf i).toNat)
  case atStart => exact ⟨0, Nat.zero_le _, rfl, rfl, Below.refl _ _⟩
  case round =>
    obtain ⟨k, hk, rfl, ha, hb⟩ := hrel
    have HA := Lib.hid ha; have HB := Lib.hid hb; clear ha hb
    have hd7 := (HD.out.below HB.out).cell 7 _ rfl
    by_cases hlt : k < vary.length
    · have hki : (k : Int) < (vary.length : Int) := by omega
      obtain ⟨b, off, rfl, hbb, c0, c1⟩ := HN.out.get k hlt
      obtain ⟨s1, s2⟩ := HNS.out k hlt
      have HYE : Hid ((vary[k].2 == valueL l vary[k].1) = true → (vary.take (k + 1)).all (fun f => f.2 == valueL l f.1) = true) := fun h => all_snocF hlt HA.out h
      have HNO : Hid ((vary[k].2 == valueL l vary[k].1) = false → matchB vary l = false) := fun h => all_noF hlt h
      generalize vary[k] = f at *
      obtain ⟨n, x⟩ := f
      simp only at HYE HNO c0 c1 s1 s2
      have HV := Lib.hid (HVL.out n s1)
      have hq := beqVV (valueL l n) x
      rw [show (valueL l n == x) = (x == valueL l n) from by rw [Bool.beq_comm]] at hq
      generalize valueL l n = z at *
      have HCC : Hid (∀ W, Below W0.heap.size W0 W → W.cell? ⟨w.heap.size, 7, none⟩ = some (.slice (some ⟨b, off, none⟩) vary.length c) ∧ W.cell? ⟨b, off + k * 2, none⟩ = some (.string (bs n)) ∧ W.cell? ⟨b, off + k * 2 + 1, none⟩ = some (.string (bs x))) :=
        fun W h => ⟨(HD.out.below h).cell 7 _ rfl, (World.cell?_of_block (a := ⟨b, off + k * 2, none⟩) (h.block b hbb)).trans c0, (World.cell?_of_block (a := ⟨b, off + k * 2 + 1, none⟩) (h.block b hbb)).trans c1⟩
      have HXr : Hid (Below w.heap.size w wr) := HX.out.trans (HB.out.mono HX.out.size)
      clear s1 s2 c0 c1
      cases hx : x == z
      · rw [hx] at hq
        have HNO2 := Lib.hid (HNO.out hx)
        clear hx HNO HYE
        go_wp2_with fail
        clear hd7
        refine wp_region_growS (.one 0 false (.one 1 false (.one 2 false (.one 3 false (.one 4 false (.one 5 false (.one 6 false (.one 8 false (.one 9 false (.one 10 false (.one 11 false (.one 12 false (.one 13 false (.one 7 true (.one 14 false .done)))))))))))))))
          (fun W => Below W0.heap.size W0 W) (by kernel_rfl) (by kernel_rfl) rfl (by kernel_rfl) (by kernel_rfl) HB.out.drew (fun ops hops => ?_)
        simp only [GT.ins, List.getD_cons_zero, List.getD_cons_succ]
        clear hops
        iterate 13
          refine growS_take (by rfl) ?_
          apply Exists.intro
          refine ⟨fun w' hE => ?_, ?_⟩
          · obtain ⟨q0, q1, q2⟩ := HCC.out w' hE
            go_simp
            try with_reducible rfl
          simp only [Act.put, List.setIfInBounds_toArray, List.set_cons_zero, List.set_cons_succ]
        refine growS_call (by rfl) (fun K hK => ?_)
        go_simp
        refine (HV.out _ HXr.out.drew).mono ?_
        rintro e w5 ⟨rfl, hb5⟩
        have HC5 : Hid (Below W0.heap.size W0 w5) := HB.out.drew.trans (hb5.mono HB.out.size)
        clear hb5
        refine hK.out _ _ HC5.out ?_
        clear hK K
        iterate 1
          refine growS_take (by rfl) ?_
          apply Exists.intro
          refine ⟨fun w' hE => ?_, ?_⟩
          · obtain ⟨q0, q1, q2⟩ := HCC.out w' hE
            go_simp
            try with_reducible rfl
          simp only [Act.put, List.setIfInBounds_toArray, List.set_cons_zero, List.set_cons_succ]
        refine growS_done (NoPanic.normal ?_)
        try simp only [Exit.then]
        go_wp2_with fail
        go_ret
        exact ⟨ret_bool HNO2.out.symm, HX.out.trans (HC5.out.mono HX.out.size)⟩
      · rw [hx] at hq
        have HYE2 := Lib.hid (HYE.out hx)
        clear hx HNO HYE
        go_wp2_with fail
        clear hd7
        refine wp_region_growS (.one 0 false (.one 1 false (.one 2 false (.one 3 false (.one 4 false (.one 5 false (.one 6 false (.one 8 false (.one 9 false (.one 10 false (.one 11 false (.one 12 false (.one 13 false (.one 7 true (.one 14 false .done)))))))))))))))
          (fun W => Below W0.heap.size W0 W) (by kernel_rfl) (by kernel_rfl) rfl (by kernel_rfl) (by kernel_rfl) HB.out.drew (fun ops hops => ?_)
        simp only [GT.ins, List.getD_cons_zero, List.getD_cons_succ]
        clear hops
        iterate 13
          refine growS_take (by rfl) ?_
          apply Exists.intro
          refine ⟨fun w' hE => ?_, ?_⟩
          · obtain ⟨q0, q1, q2⟩ := HCC.out w' hE
            go_simp
            try with_reducible rfl
          simp only [Act.put, List.setIfInBounds_toArray, List.set_cons_zero, List.set_cons_succ]
        refine growS_call (by rfl) (fun K hK => ?_)
        go_simp
        refine (HV.out _ HXr.out.drew).mono ?_
        rintro e w5 ⟨rfl, hb5⟩
        have HC5 : Hid (Below W0.heap.size W0 w5) := HB.out.drew.trans (hb5.mono HB.out.size)
        clear hb5
        refine hK.out _ _ HC5.out ?_
        clear hK K
        iterate 1
          refine growS_take (by rfl) ?_
          apply Exists.intro
          refine ⟨fun w' hE => ?_, ?_⟩
          · obtain ⟨q0, q1, q2⟩ := HCC.out w' hE
            go_simp
            try with_reducible rfl
          simp only [Act.put, List.setIfInBounds_toArray, List.set_cons_zero, List.set_cons_succ]
        refine growS_done (NoPanic.normal ?_)
        try simp only [Exit.then]
        go_wp2_with fail
        go_roundw
        case rel => exact ⟨k + 1, by omega, by go_num, HYE2.out, HC5.out⟩
        case measure => simp [intOf]; omega
    · have HE : Hid (matchB vary l = true) := by have h := HA.out; rw [List.take_of_length_le (by omega)] at h; exact h
      go_wp2_with fail
      go_ret
      exact ⟨ret_bool HE.out.symm, HX.out.trans (HB.out.mono HX.out.size)⟩
end Go.Proofs.Ytmlgmpjbjbjaoaa
