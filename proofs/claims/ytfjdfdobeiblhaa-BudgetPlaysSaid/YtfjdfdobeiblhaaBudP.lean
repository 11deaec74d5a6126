/- What is kept, and what goes, is the document's: the statement's own walk. -/
import Derived.Test.YtfjdfdobeiblhaaBudZ
import Derived.Test.YtfjdfdobeiblhaaBudW
namespace Go.Proofs.Ytfjdfdobeiblhaa
open Go.RowKit
set_option maxRecDepth 100000 in
set_option maxHeartbeats 8000000 in
theorem plays_no (e0 m0 : Int) (v : Value) (w : World) (h : e0 < 1 ∨ 4096 < e0 ∨ m0 < 1 ∨ 1073741824 < m0) :
    Calls Try.prog 3 #[.int .i64 e0, .int .i64 m0, v] w fun e w' => e = .returned (.bool true) ∧ Below w.heap.size w w' := by
  have HNN := Lib.hid (BI.new_nil e0 m0 w h)
  by_cases h1 : e0 < 1
  · clear h
    go_enter Try.func3, Try.ntmps3
    go_wp2_with fail
    refine HNN.out.mono ?_
    rintro e wx ⟨rfl, rfl⟩
    go_wp2_with fail
    refine (works_any _).mono ?_
    rintro e wz ⟨rfl, hb⟩
    have HBZ := Lib.hid hb
    clear hb
    go_wp2_with fail
    go_ret
    exact ⟨rfl, HBZ.out⟩
  by_cases h2 : 4096 < e0
  · clear h
    go_enter Try.func3, Try.ntmps3
    go_wp2_with fail
    refine HNN.out.mono ?_
    rintro e wx ⟨rfl, rfl⟩
    go_wp2_with fail
    refine (works_any _).mono ?_
    rintro e wz ⟨rfl, hb⟩
    have HBZ := Lib.hid hb
    clear hb
    go_wp2_with fail
    go_ret
    exact ⟨rfl, HBZ.out⟩
  by_cases h3 : m0 < 1
  · clear h
    go_enter Try.func3, Try.ntmps3
    go_wp2_with fail
    refine HNN.out.mono ?_
    rintro e wx ⟨rfl, rfl⟩
    go_wp2_with fail
    refine (works_any _).mono ?_
    rintro e wz ⟨rfl, hb⟩
    have HBZ := Lib.hid hb
    clear hb
    go_wp2_with fail
    go_ret
    exact ⟨rfl, HBZ.out⟩
  · have h4 : 1073741824 < m0 := by omega
    clear h
    go_enter Try.func3, Try.ntmps3
    go_wp2_with fail
    refine HNN.out.mono ?_
    rintro e wx ⟨rfl, rfl⟩
    go_wp2_with fail
    refine (works_any _).mono ?_
    rintro e wz ⟨rfl, hb⟩
    have HBZ := Lib.hid hb
    clear hb
    go_wp2_with fail
    go_ret
    exact ⟨rfl, HBZ.out⟩
set_option maxRecDepth 100000 in
set_option maxHeartbeats 8000000 in
theorem plays_yes (n m : Nat) (v : Value) (L : List Ac) (w : World) (b1 : 1 ≤ n) (b2 : n ≤ 4096) (b3 : 1 ≤ m) (b4 : m ≤ 1073741824) (hv : AL w v L) (hL : ∀ j (hj : j < L.length), L[j].Ok ∧ L[j].key.length ≤ KL) :
    Calls Try.prog 3 #[.int .i64 n, .int .i64 m, v] w fun e w' => e = .returned (.bool true) ∧ Below w.heap.size w w' := by
  have HNEW := Lib.hid (BI.new_any n m w b1 b2 b3 b4)
  have HV := Lib.hid hv; have HL := Lib.hid hL
  obtain ⟨Av, cv, rfl⟩ := hv.form
  have a1 : ¬ (n : Int) < 1 := by omega
  have a2 : ¬ 4096 < (n : Int) := by omega
  have a3 : ¬ (m : Int) < 1 := by omega
  have a4 : ¬ 1073741824 < (m : Int) := by omega
  clear hv hL b1 b2 b3 b4
  go_enter Try.func3, Try.ntmps3
  go_wp2_with fail
  refine HNEW.out.mono ?_
  rintro e w1 ⟨b, Xb0, rfl, hbd, hb1, hlb⟩
  have hal : Below w1.heap.size w1 (w1.alloc (.cells #[.int .i64 n, .int .i64 m, .slice none 0 0] 29)) := (Below.refl _ _).alloc (Nat.le_refl _) _
  have hrk := bk.new w1 #[.int .i64 n, .int .i64 m, .slice none 0 0] 29
  have HP0 : Hid (Pair w (w1.alloc (.cells #[.int .i64 n, .int .i64 m, .slice none 0 0] 29)) b w1.heap.size n m [] [] Xb0 (fun k => k = w1.heap.size ∨ (Value.slice none 0 0).ownBlock = some k)) :=
    ⟨hbd.bel hal, ⟨_, hrk, OL_nil _, by simp [Value.ownBlock], rfl⟩, hb1.trans (hal.mono hb1.size), hlb, fun k hk => by
      rcases hk with rfl | e
      · exact hb1.size
      · simp [Value.ownBlock] at e, fun k hk e => by
      have h1 := hbd.lt k hk
      rcases e with rfl | e
      · omega
      · simp [Value.ownBlock] at e⟩
  clear hbd hb1 hlb hal hrk HNEW
  go_wp2_with fail
  clear a1 a2 a3 a4
  generalize w1.heap.size = rb at *
  go_loopw [9] (fun i wr => ∃ k : Nat, k ≤ L.length ∧ i = .int .i64 k ∧ ∃ l Xb Xr, Hid (Pair w wr b rb n m l l Xb Xr)) (fun i _ => L.length - (intOf i).toNat)
  case atStart => exact ⟨0, Nat.zero_le _, rfl, [], _, _, HP0.out⟩
  case round =>
    obtain ⟨k, hk, rfl, l, Xb, Xr, HP⟩ := hrel
    clear HP0
    by_cases hlt : k < L.length ∧ k < 150
    · obtain ⟨hk1, hk2⟩ := hlt
      obtain ⟨ba, off, hA, hba, d0, d1, d2, d3⟩ := HV.out.get k hk1
      subst hA
      have hbw : w.heap.size ≤ wr.heap.size := HP.out.bel.size
      have HBA : Hid (ba < wr.heap.size) := Nat.lt_of_lt_of_le hba hbw
      have HBX : Hid (¬ Xb ba ∧ ¬ Xr ba) := ⟨fun e => by have := HP.out.lb _ e; omega, fun e => by have := HP.out.lr _ e; omega⟩
      have D0 := Lib.hid ((HP.out.bel.cell (p := ⟨ba, off + k * 4, none⟩) hba).trans d0)
      have D1 := Lib.hid ((HP.out.bel.cell (p := ⟨ba, off + k * 4 + 1, none⟩) hba).trans d1)
      have D2 := Lib.hid ((HP.out.bel.cell (p := ⟨ba, off + k * 4 + 2, none⟩) hba).trans d2)
      have D3 := Lib.hid ((HP.out.bel.cell (p := ⟨ba, off + k * 4 + 3, none⟩) hba).trans d3)
      have hki : (k : Int) < (L.length : Int) := by omega
      have hkj : (k : Int) < 150 := by omega
      have hST := step_any (w := wr.drew) (w0 := w) ⟨HP.out.bd.keep (fun _ _ => rfl), HP.out.rd.keep (fun _ _ => rfl), HP.out.bel.drew, HP.out.lb, HP.out.lr, HP.out.ap⟩ L[k] (HL.out k hk1).1 (HL.out k hk1).2
      have HST := Lib.hid hST
      have HZ0 : Hid (wr.drew.heap[ba]? = wr.heap[ba]?) := rfl
      clear hST hba d0 d1 d2 d3 hbw
      generalize L[k] = a at *
      obtain ⟨wh, key, sz, x⟩ := a
      simp only at D0 D1 D2 D3 HST
      generalize actK n m ⟨wh, key, sz, x⟩ l = l' at *
      go_wp2_with fail
      refine wp_region_growS (.one 0 false (.one 1 false (.one 2 false (.one 3 false (.one 4 false (.one 5 false (.one 6 true (.one 7 false (.one 8 false (.one 9 false (.one 11 false (.one 12 false (.one 13 false (.two 10 14 (.one 14 true (.one 15 false (.one 16 false (.one 17 false (.one 18 false (.one 19 false (.one 21 false (.one 20 true (.one 22 true (.one 23 false (.one 24 false (.one 25 false (.one 26 false (.one 28 false (.one 27 true (.one 29 true (.one 30 true (.one 31 false (.one 32 false .done))))))))))))))))))) (.one 15 false (.one 10 true (.one 16 false (.one 17 false (.one 18 false (.one 19 false (.one 21 false (.one 20 true (.one 22 true (.one 23 false (.one 24 false (.one 25 false (.one 26 false (.one 28 false (.one 27 true (.one 29 true (.one 30 true (.one 31 false (.one 32 false .done)))))))))))))))))))))))))))))))))
        (fun W => W.heap[ba]? = wr.heap[ba]?) (by kernel_rfl) (by kernel_rfl) rfl (by kernel_rfl) (by kernel_rfl) HZ0.out (fun ops hops => ?_)
      simp only [GT.ins, List.getD_cons_zero, List.getD_cons_succ]
      have g8 : (ops[8]?).bind (·.dst) = some 54 := by rw [hops.out]; rfl
      have G8 := Lib.hid g8
      have g18 : (ops[18]?).bind (·.dst) = some 64 := by rw [hops.out]; rfl
      have G18 := Lib.hid g18
      have g25 : (ops[25]?).bind (·.dst) = some 71 := by rw [hops.out]; rfl
      have G25 := Lib.hid g25
      clear hops g8 g18 g25
      iterate 6
        refine growS_take (by rfl) ?_
        apply Exists.intro
        refine ⟨fun w' hE => ?_, ?_⟩
        · have q0 := (World.cell?_of_block (a := ⟨ba, off + k * 4, none⟩) hE).trans D0.out; have q1 := (World.cell?_of_block (a := ⟨ba, off + k * 4 + 1, none⟩) hE).trans D1.out; have q2 := (World.cell?_of_block (a := ⟨ba, off + k * 4 + 2, none⟩) hE).trans D2.out; have q3 := (World.cell?_of_block (a := ⟨ba, off + k * 4 + 3, none⟩) hE).trans D3.out
          go_simp
          try with_reducible rfl
        simp only [Act.put, List.setIfInBounds_toArray, List.set_cons_zero, List.set_cons_succ]
      refine growS_call (by rfl) (fun K hK => ?_)
      go_simp
      refine (HST.out).mono ?_
      rintro e w2 ⟨rfl, Xb', Xr', hP2, hd2⟩
      have HP2 := Lib.hid hP2
      have hba2 : w2.heap[ba]? = wr.heap[ba]? := hd2.keep ba HBA.out (fun e => e.elim HBX.out.1 HBX.out.2)
      have HS2 := Lib.hid hba2
      refine hK.out _ _ hba2 ?_
      have HBA2 : Hid (ba < w2.heap.size) := Nat.lt_of_lt_of_le HBA.out hd2.size
      clear hK K hP2 hd2 hba2
      have HLE := Lib.hid (BI.len_any HP2.out.bd); have HBY := Lib.hid (BI.bytes_any HP2.out.bd); have HKE := Lib.hid (BI.keys_any HP2.out.bd)
      obtain ⟨vr, hrb, hov, -, -⟩ := HP2.out.rd
      have HRB := Lib.hid hrb
      have HRY := Lib.hid (rbytes_any hrb hov (by have h1 := HP2.out.bd.ok.len; have h2 := HP2.out.bd.bounds; omega) (by have h1 := HP2.out.bd.ok.tot; have h2 := HP2.out.bd.bounds; omega))
      have HRK : Hid (∀ W Z, RB W rb Z n m l' → Calls Try.prog 15 #[.pointer (some ⟨rb, 0, none⟩)] W fun e w' => ∃ v, e = .returned v ∧ ownS w' W.heap.size v (keysK l') ∧ Below W.heap.size W w') := fun W Z hZ => rkeys_any hZ (by have h1 := HP2.out.bd.ok.len; have h2 := HP2.out.bd.bounds; omega)
      have HKN : Hid ((keysK l').length ≤ 4294967296) := by have h1 := HP2.out.bd.ok.len; have h2 := HP2.out.bd.bounds; simp [keysK]; show _ ≤ _; omega
      have HGG : Hid ((keysK l' == keysK l') = true) := by show _ = _; simp
      obtain ⟨A2, k2, rfl⟩ := hov.form
      clear hrb hov
      generalize totK l' = tot at *
      generalize hlen : l'.length = len at *
      have HLN := Lib.hid hlen; clear hlen
      iterate 2
        refine growS_take (by rfl) ?_
        apply Exists.intro
        refine ⟨fun w' hE => ?_, ?_⟩
        · skip
          go_simp
          try with_reducible rfl
        simp only [Act.put, List.setIfInBounds_toArray, List.set_cons_zero, List.set_cons_succ]
      iterate 4
        refine growS_take (wantedS G8.out rfl rfl) ?_
        apply Exists.intro
        refine ⟨fun w' hE => ?_, ?_⟩
        · skip
          go_simp
          try with_reducible rfl
        simp only [Act.put, List.setIfInBounds_toArray, List.set_cons_zero, List.set_cons_succ]
      refine growS_two (wantedS G8.out rfl rfl) (wantedS G8.out rfl rfl) (fun K hK => ?_) (fun K hK => ?_)
      · go_simp
        refine HLE.out.mono ?_
        rintro e wx ⟨rfl, rfl⟩
        refine hK.out _ _ HS2.out ?_
        clear hK K
        refine growS_call (wantedS G8.out rfl rfl) (fun K hK => ?_)
        have c2 := HRB.out.cell 2 (.slice A2 len k2) rfl
        go_simp
        refine hK.out _ _ HS2.out ?_
        clear hK K c2
        iterate 1
          refine growS_take (wantedS G8.out rfl rfl) ?_
          apply Exists.intro
          refine ⟨fun w' hE => ?_, ?_⟩
          · skip
            go_simp
            try with_reducible rfl
          simp only [Act.put, List.setIfInBounds_toArray, List.set_cons_zero, List.set_cons_succ]
        iterate 1
          refine growS_take (wantedS G8.out rfl rfl) ?_
          apply Exists.intro
          refine ⟨fun w' hE => ?_, ?_⟩
          · skip
            go_simp
            try with_reducible rfl
          simp only [Act.put, List.setIfInBounds_toArray, List.set_cons_zero, List.set_cons_succ]
        iterate 2
          refine growS_take (by rfl) ?_
          apply Exists.intro
          refine ⟨fun w' hE => ?_, ?_⟩
          · skip
            go_simp
            try with_reducible rfl
          simp only [Act.put, List.setIfInBounds_toArray, List.set_cons_zero, List.set_cons_succ]
        iterate 2
          refine growS_take (wantedS G18.out rfl rfl) ?_
          apply Exists.intro
          refine ⟨fun w' hE => ?_, ?_⟩
          · skip
            go_simp
            try with_reducible rfl
          simp only [Act.put, List.setIfInBounds_toArray, List.set_cons_zero, List.set_cons_succ]
        refine growS_call (wantedS G18.out rfl rfl) (fun K hK => ?_)
        go_simp
        refine HBY.out.mono ?_
        rintro e wx ⟨rfl, rfl⟩
        refine hK.out _ _ HS2.out ?_
        clear hK K
        refine growS_call (wantedS G18.out rfl rfl) (fun K hK => ?_)
        go_simp
        refine HRY.out.mono ?_
        rintro e wx ⟨rfl, rfl⟩
        refine hK.out _ _ HS2.out ?_
        clear hK K
        iterate 1
          refine growS_take (wantedS G18.out rfl rfl) ?_
          apply Exists.intro
          refine ⟨fun w' hE => ?_, ?_⟩
          · skip
            go_simp
            try with_reducible rfl
          simp only [Act.put, List.setIfInBounds_toArray, List.set_cons_zero, List.set_cons_succ]
        iterate 2
          refine growS_take (by rfl) ?_
          apply Exists.intro
          refine ⟨fun w' hE => ?_, ?_⟩
          · skip
            go_simp
            try with_reducible rfl
          simp only [Act.put, List.setIfInBounds_toArray, List.set_cons_zero, List.set_cons_succ]
        iterate 2
          refine growS_take (wantedS G25.out rfl rfl) ?_
          apply Exists.intro
          refine ⟨fun w' hE => ?_, ?_⟩
          · skip
            go_simp
            try with_reducible rfl
          simp only [Act.put, List.setIfInBounds_toArray, List.set_cons_zero, List.set_cons_succ]
        refine growS_call (wantedS G25.out rfl rfl) (fun K hK => ?_)
        go_simp
        refine HKE.out.mono ?_
        rintro e w3 ⟨u, rfl, hu, hb3⟩
        have HP3 := Lib.hid (HP2.out.call hb3)
        have HU := Lib.hid hu
        have hb3a : w3.heap[ba]? = wr.heap[ba]? := (hb3.block ba HBA2.out).trans HS2.out
        have HS3 := Lib.hid hb3a
        refine hK.out _ _ hb3a ?_
        have HSZ3 := Lib.hid hb3.size
        clear hK K hb3 hu hb3a
        have HBA3 : Hid (ba < w3.heap.size) := Nat.lt_of_lt_of_le HBA2.out HSZ3.out
        have HRK3 := Lib.hid (HRK.out w3 _ HP3.out.rd)
        refine growS_call (wantedS G25.out rfl rfl) (fun K hK => ?_)
        go_simp
        refine HRK3.out.mono ?_
        rintro e w4 ⟨v, rfl, hv, hb4⟩
        have HP4 := Lib.hid (HP3.out.call hb4)
        have HSM := Lib.hid (rsame_any _ _ u v (keysK l') (keysK l') w4 (HU.out.below hb4 (Nat.le_refl _)) hv HKN.out)
        have hb4a : w4.heap[ba]? = wr.heap[ba]? := (hb4.block ba HBA3.out).trans HS3.out
        have HS4 := Lib.hid hb4a
        refine hK.out _ _ hb4a ?_
        have hba4 : ba < w4.heap.size := Nat.lt_of_lt_of_le HBA3.out hb4.size
        have HBA4 := Lib.hid hba4
        clear hK K hb4 hv hb4a hba4
        refine growS_call (wantedS G25.out rfl rfl) (fun K hK => ?_)
        go_simp
        refine HSM.out.mono ?_
        rintro e w5 ⟨rfl, hb5⟩
        have HP5 := Lib.hid (HP4.out.call hb5)
        refine hK.out _ _ ((hb5.block ba HBA4.out).trans HS4.out) ?_
        clear hK K hb5
        rw [HGG.out]
        iterate 1
          refine growS_take (wantedS G25.out rfl rfl) ?_
          apply Exists.intro
          refine ⟨fun w' hE => ?_, ?_⟩
          · skip
            go_simp
            try with_reducible rfl
          simp only [Act.put, List.setIfInBounds_toArray, List.set_cons_zero, List.set_cons_succ]
        iterate 1
          refine growS_take (by rfl) ?_
          apply Exists.intro
          refine ⟨fun w' hE => ?_, ?_⟩
          · skip
            go_simp
            try with_reducible rfl
          simp only [Act.put, List.setIfInBounds_toArray, List.set_cons_zero, List.set_cons_succ]
        refine growS_done (NoPanic.normal ?_)
        go_wp2_with fail
        go_roundw
        case rel => exact ⟨k + 1, by omega, by go_num, l', Xb', Xr', HP5.out⟩
        case measure => simp [intOf]; omega
      · have c2 := HRB.out.cell 2 (.slice A2 len k2) rfl
        go_simp
        refine hK.out _ _ HS2.out ?_
        clear hK K c2
        iterate 1
          refine growS_take (wantedS G8.out rfl rfl) ?_
          apply Exists.intro
          refine ⟨fun w' hE => ?_, ?_⟩
          · skip
            go_simp
            try with_reducible rfl
          simp only [Act.put, List.setIfInBounds_toArray, List.set_cons_zero, List.set_cons_succ]
        refine growS_call (wantedS G8.out rfl rfl) (fun K hK => ?_)
        go_simp
        refine HLE.out.mono ?_
        rintro e wx ⟨rfl, rfl⟩
        refine hK.out _ _ HS2.out ?_
        clear hK K
        iterate 1
          refine growS_take (wantedS G8.out rfl rfl) ?_
          apply Exists.intro
          refine ⟨fun w' hE => ?_, ?_⟩
          · skip
            go_simp
            try with_reducible rfl
          simp only [Act.put, List.setIfInBounds_toArray, List.set_cons_zero, List.set_cons_succ]
        iterate 2
          refine growS_take (by rfl) ?_
          apply Exists.intro
          refine ⟨fun w' hE => ?_, ?_⟩
          · skip
            go_simp
            try with_reducible rfl
          simp only [Act.put, List.setIfInBounds_toArray, List.set_cons_zero, List.set_cons_succ]
        iterate 2
          refine growS_take (wantedS G18.out rfl rfl) ?_
          apply Exists.intro
          refine ⟨fun w' hE => ?_, ?_⟩
          · skip
            go_simp
            try with_reducible rfl
          simp only [Act.put, List.setIfInBounds_toArray, List.set_cons_zero, List.set_cons_succ]
        refine growS_call (wantedS G18.out rfl rfl) (fun K hK => ?_)
        go_simp
        refine HBY.out.mono ?_
        rintro e wx ⟨rfl, rfl⟩
        refine hK.out _ _ HS2.out ?_
        clear hK K
        refine growS_call (wantedS G18.out rfl rfl) (fun K hK => ?_)
        go_simp
        refine HRY.out.mono ?_
        rintro e wx ⟨rfl, rfl⟩
        refine hK.out _ _ HS2.out ?_
        clear hK K
        iterate 1
          refine growS_take (wantedS G18.out rfl rfl) ?_
          apply Exists.intro
          refine ⟨fun w' hE => ?_, ?_⟩
          · skip
            go_simp
            try with_reducible rfl
          simp only [Act.put, List.setIfInBounds_toArray, List.set_cons_zero, List.set_cons_succ]
        iterate 2
          refine growS_take (by rfl) ?_
          apply Exists.intro
          refine ⟨fun w' hE => ?_, ?_⟩
          · skip
            go_simp
            try with_reducible rfl
          simp only [Act.put, List.setIfInBounds_toArray, List.set_cons_zero, List.set_cons_succ]
        iterate 2
          refine growS_take (wantedS G25.out rfl rfl) ?_
          apply Exists.intro
          refine ⟨fun w' hE => ?_, ?_⟩
          · skip
            go_simp
            try with_reducible rfl
          simp only [Act.put, List.setIfInBounds_toArray, List.set_cons_zero, List.set_cons_succ]
        refine growS_call (wantedS G25.out rfl rfl) (fun K hK => ?_)
        go_simp
        refine HKE.out.mono ?_
        rintro e w3 ⟨u, rfl, hu, hb3⟩
        have HP3 := Lib.hid (HP2.out.call hb3)
        have HU := Lib.hid hu
        have hb3a : w3.heap[ba]? = wr.heap[ba]? := (hb3.block ba HBA2.out).trans HS2.out
        have HS3 := Lib.hid hb3a
        refine hK.out _ _ hb3a ?_
        have HSZ3 := Lib.hid hb3.size
        clear hK K hb3 hu hb3a
        have HBA3 : Hid (ba < w3.heap.size) := Nat.lt_of_lt_of_le HBA2.out HSZ3.out
        have HRK3 := Lib.hid (HRK.out w3 _ HP3.out.rd)
        refine growS_call (wantedS G25.out rfl rfl) (fun K hK => ?_)
        go_simp
        refine HRK3.out.mono ?_
        rintro e w4 ⟨v, rfl, hv, hb4⟩
        have HP4 := Lib.hid (HP3.out.call hb4)
        have HSM := Lib.hid (rsame_any _ _ u v (keysK l') (keysK l') w4 (HU.out.below hb4 (Nat.le_refl _)) hv HKN.out)
        have hb4a : w4.heap[ba]? = wr.heap[ba]? := (hb4.block ba HBA3.out).trans HS3.out
        have HS4 := Lib.hid hb4a
        refine hK.out _ _ hb4a ?_
        have hba4 : ba < w4.heap.size := Nat.lt_of_lt_of_le HBA3.out hb4.size
        have HBA4 := Lib.hid hba4
        clear hK K hb4 hv hb4a hba4
        refine growS_call (wantedS G25.out rfl rfl) (fun K hK => ?_)
        go_simp
        refine HSM.out.mono ?_
        rintro e w5 ⟨rfl, hb5⟩
        have HP5 := Lib.hid (HP4.out.call hb5)
        refine hK.out _ _ ((hb5.block ba HBA4.out).trans HS4.out) ?_
        clear hK K hb5
        rw [HGG.out]
        iterate 1
          refine growS_take (wantedS G25.out rfl rfl) ?_
          apply Exists.intro
          refine ⟨fun w' hE => ?_, ?_⟩
          · skip
            go_simp
            try with_reducible rfl
          simp only [Act.put, List.setIfInBounds_toArray, List.set_cons_zero, List.set_cons_succ]
        iterate 1
          refine growS_take (by rfl) ?_
          apply Exists.intro
          refine ⟨fun w' hE => ?_, ?_⟩
          · skip
            go_simp
            try with_reducible rfl
          simp only [Act.put, List.setIfInBounds_toArray, List.set_cons_zero, List.set_cons_succ]
        refine growS_done (NoPanic.normal ?_)
        go_wp2_with fail
        go_roundw
        case rel => exact ⟨k + 1, by omega, by go_num, l', Xb', Xr', HP5.out⟩
        case measure => simp [intOf]; omega
    · by_cases hk1 : k < L.length
      · have hki : (k : Int) < (L.length : Int) := by omega
        have hkj : ¬ (k : Int) < 150 := by omega
        clear hlt
        go_wp2_with fail
        refine (works_any _).mono ?_
        rintro e wz ⟨rfl, hb⟩
        have HBZ := Lib.hid (HP.out.bel.trans (hb.mono HP.out.bel.size))
        clear hb
        go_wp2_with fail
        go_ret
        exact ⟨rfl, HBZ.out⟩
      · have hki : ¬ (k : Int) < (L.length : Int) := by omega
        clear hlt
        go_wp2_with fail
        refine (works_any _).mono ?_
        rintro e wz ⟨rfl, hb⟩
        have HBZ := Lib.hid (HP.out.bel.trans (hb.mono HP.out.bel.size))
        clear hb
        go_wp2_with fail
        go_ret
        exact ⟨rfl, HBZ.out⟩
theorem budgetPlays_law (e0 m0 : Int) (v : Value) (L : List Ac) (w : World) (_he : (Lit.int .i64 e0).wf = true) (_hm : (Lit.int .i64 m0).wf = true) (hv : AL w v L) (hL : ∀ j (hj : j < L.length), L[j].Ok ∧ L[j].key.length ≤ KL) :
    Calls Try.prog 3 #[.int .i64 e0, .int .i64 m0, v] w fun e w' => e = .returned (.bool true) ∧ Below w.heap.size w w' := by
  by_cases h : 1 ≤ e0 ∧ e0 ≤ 4096 ∧ 1 ≤ m0 ∧ m0 ≤ 1073741824
  · obtain ⟨n, rfl⟩ : ∃ n : Nat, e0 = (n : Int) := ⟨e0.toNat, by omega⟩
    obtain ⟨m, rfl⟩ : ∃ m : Nat, m0 = (m : Int) := ⟨m0.toNat, by omega⟩
    exact plays_yes n m v L w (by omega) (by omega) (by omega) (by omega) hv hL
  · exact plays_no e0 m0 v w (by omega)
end Go.Proofs.Ytfjdfdobeiblhaa
