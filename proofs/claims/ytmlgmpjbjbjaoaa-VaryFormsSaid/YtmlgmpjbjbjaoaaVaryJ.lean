/- The statement VaryForms. -/
import Derived.Test.YtmlgmpjbjbjaoaaVaryM
import Derived.Test.YtmlgmpjbjbjaoaaOpenV
namespace Go.Proofs.Ytmlgmpjbjbjaoaa
open Go.RowKit Go.Shelf

set_option maxRecDepth 100000 in
set_option maxHeartbeats 1000000 in
theorem varyForms_law (v1 : Value) (N : List (List UInt8)) (v2 : Value) (w : World) (h1 : SL w v1 N) (s1 : ∀ j (hj : j < N.length), N[j].length ≤ 9223372036854775807) (n1 : N.length ≤ 9223372036854775807) (h2 : BLv w v2) :
    Calls Try.prog 7 #[v1, v2] w fun e w' => e = .returned (.bool true) ∧ Below w.heap.size w w' := by
  obtain ⟨A1, c1, rfl⟩ := h1.form
  obtain ⟨A2, n2, c2, hv2⟩ := h2.form
  subst hv2
  have HW := Lib.hid vawake_any
  have HN := Lib.hid h1; have HSZ := Lib.hid s1; have HBV := Lib.hid h2
  clear h1 s1 h2
  by_cases h20 : 20 < N.length
  · have hi : (20 : Int) < (N.length : Int) := by omega
    clear h20
    go_enter Try.func7, Try.ntmps7
    go_wp2_with fail
    refine (HW.out _).mono ?_
    rintro e w1 ⟨rfl, hb⟩
    have HB1 := Lib.hid hb; clear hb
    go_wp2_with fail
    go_ret
    exact ⟨rfl, HB1.out⟩
  · have hi : ¬ (20 : Int) < (N.length : Int) := by omega
    go_enter Try.func7, Try.ntmps7
    go_wp2_with fail
    go_loopw [5, 6, 7, 8] (fun o u s i wr => ∃ (k : Nat) (G : List (List UInt8)) (F : List Fld) (X : List UInt8) (P : List (List UInt8)), k ≤ N.length ∧ i = .int .i64 k ∧ s = .string (bs X) ∧ ownS wr w.heap.size o G ∧ ownF wr w.heap.size u F ∧ FormP k G F X P ∧ Below w.heap.size w wr) (fun _ _ _ i _ => N.length - (intOf i).toNat)
    case atStart => exact ⟨0, [], [], [], [], Nat.zero_le _, rfl, rfl, ownS_nil _ _, ownF_nil _ _, FormP.nil, Below.refl _ _⟩
    case round =>
    obtain ⟨k, G, F, X, P, hk, rfl, rfl, ho, hu, hfp, hb⟩ := hrel
    have hk20 : k ≤ 20 := by omega
    have hXl := hfp.lenX
    have HO := Lib.hid ho; have HU := Lib.hid hu; have HFP := Lib.hid hfp; have HB := Lib.hid hb
    clear ho hu hfp hb
    obtain ⟨Ao0, co0, rfl⟩ := HO.out.form
    obtain ⟨Au, cu, rfl⟩ := HU.out.form
    by_cases hlt : k < N.length
    · have hki : (k : Int) < (N.length : Int) := by omega
      obtain ⟨b, off, rfl, hbb, hc0⟩ := HN.out.get k hlt
      have HCW : Hid (∀ W, Below w.heap.size w W → W.cell? ⟨b, off + k, none⟩ = some (.string (bs N[k]))) := fun W h => (World.cell?_of_block (a := ⟨b, off + k, none⟩) (h.block b hbb)).trans hc0
      have hcr := HCW.out wr HB.out
      have htz := HSZ.out k hlt
      clear hc0
      generalize N[k] = t at *
      go_upto_if 23 with fail
      go_cut [9] (fun v wx => ∃ x : Nat, x < 256 ∧ v = .int .u8 (x : Int) ∧ wr = wx)
      case first =>
        rcases HBV.out.below HB.out with ⟨a', c', he⟩ | ⟨b', o', l', c', j0, j1, he, j3, j4⟩
        · simp only [Value.slice.injEq] at he
          obtain ⟨rfl, rfl, rfl⟩ := he
          go_wp2_with fail
          go_meet
          exact ⟨0, by omega, rfl, rfl⟩
        · simp only [Value.slice.injEq] at he
          obtain ⟨rfl, rfl, rfl⟩ := he
          have hmod : Int.tmod (k : Int) (n2 : Int) = ((k % n2 : Nat) : Int) := by rw [Int.tmod_eq_emod_of_nonneg (by omega)]; omega
          have hml2 : k % n2 < n2 := Nat.mod_lt _ j0
          have hmi : ((k % n2 : Nat) : Int) < (n2 : Int) := by omega
          have hbi : (0 : Int) < (n2 : Int) := by omega
          obtain ⟨u, hu, hcu⟩ := j4 (k % n2) hml2
          generalize k % n2 = r at *
          clear j4
          go_wp2_with fail
          go_meet
          exact ⟨u, hu, rfl, rfl⟩
      case rest =>
      obtain ⟨x, hx256, rfl, rfl⟩ := hcut
      have htl := fun W (h : t.length ≤ 9223372036854775807) => token_l t W (by unfold maxLen; omega)
      cases htk : token t
      · rw [htk] at htl
        have HTK := Lib.hid fun W => htl W htz
        clear htl htk
        go_wp2_with (go_at_call 21; refine (HTK.out _).mono ?_; rintro e w5 ⟨rfl, rfl⟩)
        go_roundw
        case rel => exact ⟨k + 1, G, F, X, P, by omega, by go_num, rfl, HO.out, HU.out, HFP.out.keep, HB.out⟩
        case measure => simp [intOf]; omega
      · rw [htk] at htl
        have HTK := Lib.hid fun W => htl W htz
        by_cases h50 : 50 < t.length
        · have hd : (50 : Int) < (t.length : Int) := by omega
          clear htl htk h50
          go_wp2_with (go_at_call 21; refine (HTK.out _).mono ?_; rintro e w5 ⟨rfl, rfl⟩)
          go_roundw
          case rel => exact ⟨k + 1, G, F, X, P, by omega, by go_num, rfl, HO.out, HU.out, HFP.out.keep, HB.out⟩
          case measure => simp [intOf]; omega
        · have hd : ¬ (50 : Int) < (t.length : Int) := by omega
          have hg1 : gaps (Lib.repeatL [32] (x % 3)) := gaps_repV 32 (by decide) _
          have hg2 : gaps (Lib.repeatL [9] (x / 3 % 3)) := gaps_repV 9 (by decide) _
          have hl1 := Lib.repeatL_length [32] (x % 3)
          have hl2 := Lib.repeatL_length [9] (x / 3 % 3)
          have hr1 := fun w1 => Try.strings_Repeat (⟨#[32]⟩ : ByteArray) (x % 3) w1 (by omega) (by show 1 * (x % 3) ≤ _; omega)
          have hr2 := fun w1 => Try.strings_Repeat (⟨#[9]⟩ : ByteArray) (x / 3 % 3) w1 (by omega) (by show 1 * (x / 3 % 3) ≤ _; omega)
          rw [show ((x % 3 : Nat) : Int) = (x : Int) % 3 from by omega, show (⟨(Lib.repeatL (⟨#[32]⟩ : ByteArray).data.toList (x % 3)).toArray⟩ : ByteArray) = bs (Lib.repeatL [32] (x % 3)) from rfl] at hr1
          rw [show ((x / 3 % 3 : Nat) : Int) = (x : Int) / 3 % 3 from by omega, show (⟨(Lib.repeatL (⟨#[9]⟩ : ByteArray).data.toList (x / 3 % 3)).toArray⟩ : ByteArray) = bs (Lib.repeatL [9] (x / 3 % 3)) from rfl] at hr2
          generalize Lib.repeatL [32] (x % 3) = r1 at *
          generalize Lib.repeatL [9] (x / 3 % 3) = r2 at *
          have hz1 : r1.length ≤ 2 := by rw [hl1]; simp; omega
          have hz2 : r2.length ≤ 2 := by rw [hl2]; simp; omega
          have t3 : Int.tmod (x : Int) 3 = (x : Int) % 3 := Int.tmod_eq_emod_of_nonneg (by omega)
          have d3 : Int.tdiv (x : Int) 3 = (x : Int) / 3 := Int.tdiv_eq_ediv_of_nonneg (by omega)
          have t33 : Int.tmod ((x : Int) / 3) 3 = (x : Int) / 3 % 3 := Int.tmod_eq_emod_of_nonneg (by omega)
          have u3 : IntKind.u8.wrap ((x : Int) / 3) = (x : Int) / 3 := by rw [IntKind.wrap_u8]; omega
          have w3 : IntKind.i64.wrap ((x : Int) % 3) = (x : Int) % 3 := IntWalk.i64_in _ (by omega)
          have w33 : IntKind.i64.wrap ((x : Int) / 3 % 3) = (x : Int) / 3 % 3 := IntWalk.i64_in _ (by omega)
          obtain ⟨Y1, e1⟩ : ∃ Y, Y = X ++ r1 := ⟨_, rfl⟩
          obtain ⟨Y2, e2⟩ : ∃ Y, Y = Y1 ++ t := ⟨_, rfl⟩
          obtain ⟨Y3, e3⟩ : ∃ Y, Y = Y2 ++ r2 := ⟨_, rfl⟩
          obtain ⟨Y, e4⟩ : ∃ Y, Y = Y3 ++ [44] := ⟨_, rfl⟩
          have l1 : Y1.length ≤ 10000 := by rw [e1, List.length_append]; omega
          have l2 : Y2.length ≤ 20000 := by rw [e2, List.length_append]; omega
          have l3 : Y3.length ≤ 30000 := by rw [e3, List.length_append]; omega
          have HFP2 : Hid (FormP (k + 1) (G ++ [t]) F Y (P ++ [t])) := by rw [e4, e3, e2, e1]; exact HFP.out.put hg1 hg2 hz1 hz2 htk (by omega)
          have HFP3 := Lib.hid (HFP2.out.cut (by omega) (t := t) (by omega) HFP.out.lenF)
          have s1 : ∀ W, (Op.stringOp .add (bs X) (bs r1)).run Try.prog W = .ok (.string (bs Y1)) W := by rw [e1]; exact fun W => add_l X r1 W (by omega)
          have s2 : ∀ W, (Op.stringOp .add (bs Y1) (bs t)).run Try.prog W = .ok (.string (bs Y2)) W := by rw [e2]; exact fun W => add_l Y1 t W (by omega)
          have s3 : ∀ W, (Op.stringOp .add (bs Y2) (bs r2)).run Try.prog W = .ok (.string (bs Y3)) W := by rw [e3]; exact fun W => add_l Y2 r2 W (by omega)
          have s4 : ∀ W, (Op.stringOp .add (bs Y3) ⟨#[44]⟩).run Try.prog W = .ok (.string (bs Y)) W := by rw [e4]; exact fun W => add_l Y3 [44] W (by simp only [List.length_cons, List.length_nil]; omega)
          clear e1 e2 e3 e4 l1 l2 l3
          have HR1 := Lib.hid hr1; have HR2 := Lib.hid hr2
          have HGL : Hid (G.length + 1 ≤ 4294967296) := by have := HFP.out.lenG; show _ ≤ _; omega
          have HFL : Hid (F.length + 2 ≤ 4294967296) := by have := HFP.out.lenF; show _ ≤ _; omega
          have hnr : NR w wr (.slice none 0 0) [] (.slice none 0 0) [] (.slice Ao0 G.length co0) G := ⟨HO.out, fun g hg => by simp [Value.ownBlock] at hg, fun g hg => by simp [Value.ownBlock] at hg, SL_nil _, SL_nil _, HB.out⟩
          have HNR := Lib.hid hnr
          have HTG : Hid (token t = true) := htk
          clear htl htk h50 hg1 hg2 hl1 hl2 hr1 hr2 hnr htz hXl hz1 hz2
          go_upto_region 14 with (first
            | (go_at_call 21; refine (HTK.out _).mono ?_; rintro e w5 ⟨rfl, rfl⟩)
            | (at_builtin; refine wpList_appNR rfl (.tmp 45) (.tmp 50) rfl (fun g => (Value.slice Au F.length cu).ownBlock = some g) _ _ _ [] [] G t rfl HNR.out (fun g hg => ⟨fun e => own_apart HO.out HU.out g e hg, (World.ownsRow.lt HU.out g hg).2⟩) rfl HGL.out ?_; intro vG w6 HNR6 HG6 HK6; have HU6 : Hid (ownF w6 w.heap.size (.slice Au F.length cu) F) := ownsRow_keepG HU.out (fun g hg => HK6.out g hg)))
          clear HO HU HB HNR HG6 HK6 HTK
          have HO6 := Lib.hid HNR6.out.own; have HB6 := Lib.hid HNR6.out.bel
          clear HNR6
          have HCC : Hid (∀ W, Below w6.heap.size w6 W → W.cell? ⟨b, off + k, none⟩ = some (.string (bs t))) := fun W h => HCW.out W (HB6.out.trans (h.mono HB6.out.size))
          obtain ⟨Gt, hGt⟩ : ∃ Gt, Gt = G ++ [t] := ⟨_, rfl⟩
          rw [← hGt] at HO6 HFP2 HFP3
          clear hGt
          obtain ⟨Ao, co, rfl⟩ := HO6.out.form
          generalize w6 = C at *
          rcases (show x % 2 = 1 ∨ x % 2 = 0 from by omega) with hodd | hodd
          · have m2 : Int.tmod (x : Int) 2 = 1 := by rw [Int.tmod_eq_emod_of_nonneg (by omega)]; omega
            clear hodd
            refine wp_region_growS (.one 0 false (.one 1 false (.one 2 false (.one 3 false (.one 6 false (.one 7 false (.one 8 false (.one 9 false (.one 11 false (.one 12 false (.one 13 false (.one 14 false (.one 4 true (.one 5 false (.one 10 false (.one 15 true (.one 16 false (.one 17 false (.one 18 false .done)))))))))))))))))))
              (fun W => Below C.heap.size C W) (by kernel_rfl) (by kernel_rfl) rfl (by kernel_rfl) (by kernel_rfl) ((Below.refl _ _).drew) (fun ops hops => ?_)
            simp only [GT.ins, List.getD_cons_zero, List.getD_cons_succ]
            clear hops
            iterate 12
              refine growS_take (by rfl) ?_
              apply Exists.intro
              refine ⟨fun w' hE => ?_, ?_⟩
              · have q1 := HCC.out w' hE
                go_simp
                try with_reducible rfl
              simp only [Act.put, List.setIfInBounds_toArray, List.set_cons_zero, List.set_cons_succ]
            refine growS_call (by rfl) (fun K hK => ?_)
            go_simp
            refine (HR1.out _).mono ?_
            rintro e x1 ⟨rfl, hb⟩
            have hz : Below C.heap.size C x1 := (Below.refl _ _).drew.trans hb
            have HZ1 := Lib.hid hz
            refine hK.out _ _ hz ?_
            clear hK K hb hz
            iterate 2
              refine growS_take (by rfl) ?_
              apply Exists.intro
              refine ⟨fun w' hE => ?_, ?_⟩
              · have q1 := HCC.out w' hE
                go_simp
                try with_reducible rfl
              simp only [Act.put, List.setIfInBounds_toArray, List.set_cons_zero, List.set_cons_succ]
            refine growS_call (by rfl) (fun K hK => ?_)
            go_simp
            refine (HR2.out _).mono ?_
            rintro e x2 ⟨rfl, hb⟩
            have hz : Below C.heap.size C x2 := HZ1.out.trans (hb.mono HZ1.out.size)
            have HZ2 := Lib.hid hz
            refine hK.out _ _ hz ?_
            clear hK K hb hz HZ1
            iterate 3
              refine growS_take (by rfl) ?_
              apply Exists.intro
              refine ⟨fun w' hE => ?_, ?_⟩
              · have q1 := HCC.out w' hE
                go_simp
                try with_reducible rfl
              simp only [Act.put, List.setIfInBounds_toArray, List.set_cons_zero, List.set_cons_succ]
            refine growS_done (NoPanic.normal ?_)
            have HO8 := Lib.hid (HO6.out.bel HZ2.out); have HU8 := Lib.hid (HU6.out.bel HZ2.out); have HB8 := Lib.hid (HB6.out.trans (HZ2.out.mono HB6.out.size))
            have hcl := HCC.out _ HZ2.out
            clear HO6 HU6 HB6 HCC HZ2 s1 s2 s3 s4 t3 d3 t33 u3 w3 w33 HR1 HR2
            go_upto_region 16 with fail
            have hal : Below x2.heap.size x2 (x2.alloc (.cells #[.string ⟨#[65, 67, 67, 69, 80, 84]⟩, .string (bs Y), .string ⟨#[120]⟩, .string (bs t)] 41)) := (Below.refl _ _).alloc (Nat.le_refl _) _
            have HM := Lib.hid (show FL (x2.alloc (.cells #[.string ⟨#[65, 67, 67, 69, 80, 84]⟩, .string (bs Y), .string ⟨#[120]⟩, .string (bs t)] 41)) (.slice (some ⟨x2.heap.size, 0, none⟩) 2 2) [(accC, Y), (xN, t)] from FL_litsV x2 [(accC, Y), (xN, t)])
            have HO9 := Lib.hid (HO8.out.bel hal); have HU9 := Lib.hid (HU8.out.bel hal); have HB9 := Lib.hid (HB8.out.trans (hal.mono HB8.out.size))
            clear hal HO8 HU8 HB8
            go_wp2_with (at_builtin; refine wpList_appFX rfl (.tmp 73) (.tmp 81) rfl w.heap.size w.heap.size _ _ F [(accC, Y), (xN, t)] rfl HU9.out HB9.out (Nat.le_refl _) HB9.out.size rfl HM.out HFL.out ?_; intro v9 w9 HUa HBa HKa; have HOa : Hid (ownS w9 w.heap.size (.slice Ao Gt.length co) Gt) := ownsRow_keepG HO9.out (fun g hg => HKa.out g (World.ownsRow.lt HO9.out g hg).2 (own_apart HO9.out HU9.out g hg)))
            go_roundw
            case rel => exact ⟨k + 1, Gt, F ++ [(accC, Y), (xN, t)], [], [], by omega, by go_num, rfl, HOa.out, HUa.out, HFP3.out, HBa.out⟩
            case measure => simp [intOf]; omega
          · have m2 : Int.tmod (x : Int) 2 = 0 := by rw [Int.tmod_eq_emod_of_nonneg (by omega)]; omega
            clear hodd
            refine wp_region_growS (.one 0 false (.one 1 false (.one 2 false (.one 3 false (.one 6 false (.one 7 false (.one 8 false (.one 9 false (.one 11 false (.one 12 false (.one 13 false (.one 14 false (.one 4 true (.one 5 false (.one 10 false (.one 15 true (.one 16 false (.one 17 false (.one 18 false .done)))))))))))))))))))
              (fun W => Below C.heap.size C W) (by kernel_rfl) (by kernel_rfl) rfl (by kernel_rfl) (by kernel_rfl) ((Below.refl _ _).drew) (fun ops hops => ?_)
            simp only [GT.ins, List.getD_cons_zero, List.getD_cons_succ]
            clear hops
            iterate 12
              refine growS_take (by rfl) ?_
              apply Exists.intro
              refine ⟨fun w' hE => ?_, ?_⟩
              · have q1 := HCC.out w' hE
                go_simp
                try with_reducible rfl
              simp only [Act.put, List.setIfInBounds_toArray, List.set_cons_zero, List.set_cons_succ]
            refine growS_call (by rfl) (fun K hK => ?_)
            go_simp
            refine (HR1.out _).mono ?_
            rintro e x1 ⟨rfl, hb⟩
            have hz : Below C.heap.size C x1 := (Below.refl _ _).drew.trans hb
            have HZ1 := Lib.hid hz
            refine hK.out _ _ hz ?_
            clear hK K hb hz
            iterate 2
              refine growS_take (by rfl) ?_
              apply Exists.intro
              refine ⟨fun w' hE => ?_, ?_⟩
              · have q1 := HCC.out w' hE
                go_simp
                try with_reducible rfl
              simp only [Act.put, List.setIfInBounds_toArray, List.set_cons_zero, List.set_cons_succ]
            refine growS_call (by rfl) (fun K hK => ?_)
            go_simp
            refine (HR2.out _).mono ?_
            rintro e x2 ⟨rfl, hb⟩
            have hz : Below C.heap.size C x2 := HZ1.out.trans (hb.mono HZ1.out.size)
            have HZ2 := Lib.hid hz
            refine hK.out _ _ hz ?_
            clear hK K hb hz HZ1
            iterate 3
              refine growS_take (by rfl) ?_
              apply Exists.intro
              refine ⟨fun w' hE => ?_, ?_⟩
              · have q1 := HCC.out w' hE
                go_simp
                try with_reducible rfl
              simp only [Act.put, List.setIfInBounds_toArray, List.set_cons_zero, List.set_cons_succ]
            refine growS_done (NoPanic.normal ?_)
            have HO8 := Lib.hid (HO6.out.bel HZ2.out); have HU8 := Lib.hid (HU6.out.bel HZ2.out); have HB8 := Lib.hid (HB6.out.trans (HZ2.out.mono HB6.out.size))
            clear HO6 HU6 HB6 HCC HZ2 s1 s2 s3 s4 t3 d3 t33 u3 w3 w33 HR1 HR2
            go_wp2_with fail
            go_roundw
            case rel => exact ⟨k + 1, Gt, F, Y, P ++ [t], by omega, by go_num, rfl, HO8.out, HU8.out, HFP2.out, HB8.out⟩
            case measure => simp [intOf]; omega
    · obtain ⟨FF, hFF⟩ : ∃ FF, FF = F ++ [(accA, X)] := ⟨_, rfl⟩
      obtain ⟨Z, hZ⟩ : ∃ Z, Z = Lib.join G [44, 32] := ⟨_, rfl⟩
      have hvf := HFP.out.vf hk20
      have hdn := HFP.out.done hk20
      rw [← hFF] at hvf hdn
      rw [← hZ] at hdn
      have hjl : (Lib.join G [44, 32]).length ≤ 140737488355328 := by
        have h1 := flat_le HFP.out.sizeG
        have h2 := joinP_len (L := G)
        have h3 := HFP.out.lenG
        omega
      have hgl := HFP.out.lenG
      have HFL : Hid (F.length + 1 ≤ 4294967296) := by have := HFP.out.lenF; show _ ≤ _; omega
      have hna : ∀ n ∈ [acceptN], n.length ≤ 65536 := by decide
      have hsel : ∀ (W : World) (v : Value), ownF W w.heap.size v FF → Calls Try.prog 14 #[.slice (some ⟨W.heap.size, 0, none⟩) 1 1, v] (W.alloc (.cells #[.string ⟨#[97, 99, 99, 101, 112, 116]⟩] 9)) fun e w' => ∃ u, e = .returned u ∧ FL w' u [(acceptN, Z)] ∧ Below W.heap.size W w' := fun W v h => by
        have hal2 : Below W.heap.size W (W.alloc (.cells #[.string ⟨#[97, 99, 99, 101, 112, 116]⟩] 9)) := (Below.refl _ _).alloc (Nat.le_refl _) _
        have hc := vselect_any (W.alloc (.cells #[.string ⟨#[97, 99, 99, 101, 112, 116]⟩] 9)) (SL_lit W acceptN) (h.bel hal2).fl hvf hna (by simp)
        refine hc.mono ?_
        rintro e w' ⟨u, rfl, ho, hb⟩
        refine ⟨u, rfl, ?_, hal2.trans (hb.mono hal2.size)⟩
        have h2 := ho.fl
        rwa [show selectL [acceptN] FF = [(acceptN, Z)] from by unfold selectL; rw [List.map_cons, List.map_nil, hdn]] at h2
      have hal : Below wr.heap.size wr (wr.alloc (.cells #[.string ⟨#[65, 99, 99, 101, 112, 116]⟩, .string (bs X)] 41)) := (Below.refl _ _).alloc (Nat.le_refl _) _
      have HM := Lib.hid (show FL (wr.alloc (.cells #[.string ⟨#[65, 99, 99, 101, 112, 116]⟩, .string (bs X)] 41)) (.slice (some ⟨wr.heap.size, 0, none⟩) 1 1) [(accA, X)] from FL_litsV wr [(accA, X)])
      have HO9 := Lib.hid (HO.out.bel hal); have HU9 := Lib.hid (HU.out.bel hal); have HB9 := Lib.hid (HB.out.trans (hal.mono HB.out.size))
      have HSEL := Lib.hid hsel; have HJL := Lib.hid hjl; have HZ := Lib.hid hZ; have HFF := Lib.hid hFF; have HGL := Lib.hid hgl
      clear hal hsel hna hjl hZ hFF hgl hvf hdn HO HU HB
      go_upto_region 20 with (first
        | (at_builtin; refine wpList_appFX rfl (.tmp 83) (.tmp 86) rfl w.heap.size w.heap.size _ _ F [(accA, X)] rfl HU9.out HB9.out (Nat.le_refl _) HB9.out.size rfl HM.out HFL.out ?_; intro v9 w9 HUa HBa HKa; have HOa : Hid (ownS w9 w.heap.size (.slice Ao0 G.length co0) G) := ownsRow_keepG HO9.out (fun g hg => HKa.out g (World.ownsRow.lt HO9.out g hg).2 (own_apart HO9.out HU9.out g hg)); have HUb : Hid (ownF w9 w.heap.size v9 FF) := (by rw [HFF.out]; exact HUa.out); obtain ⟨A9, c9, hv9⟩ := HUb.out.form; subst hv9; clear HUa HKa)
        | (go_at_call 14; refine (HSEL.out _ _ HUb.out).mono ?_; rintro e w10 ⟨u, rfl, hf, hb⟩; have HF10 := Lib.hid hf; have HO10 := Lib.hid (HOa.out.bel hb); have HB10 := Lib.hid (HBa.out.trans (hb.mono HBa.out.size)); obtain ⟨A10, c10, hv10⟩ := hf.form; replace hv10 : u = .slice A10 1 c10 := hv10; subst hv10; clear hf hb))
      clear HSEL HO9 HU9 HB9 HM HOa HUb HBa
      obtain ⟨b8, o8, rfl, hb8, d0, d1⟩ := HF10.out.get 0 (by simp)
      replace d0 : w10.cell? ⟨b8, o8, none⟩ = some (.string ⟨#[97, 99, 99, 101, 112, 116]⟩) := d0
      replace d1 : w10.cell? ⟨b8, o8 + 1, none⟩ = some (.string (bs Z)) := d1
      have HCC : Hid (∀ W, Below w10.heap.size w10 W → W.cell? ⟨b8, o8, none⟩ = some (.string ⟨#[97, 99, 99, 101, 112, 116]⟩) ∧ W.cell? ⟨b8, o8 + 1, none⟩ = some (.string (bs Z))) :=
        fun W h => ⟨(World.cell?_of_block (a := ⟨b8, o8, none⟩) (h.block b8 hb8)).trans d0, (World.cell?_of_block (a := ⟨b8, o8 + 1, none⟩) (h.block b8 hb8)).trans d1⟩
      have qe : ∀ W, (binOp .eql 41 (.agg #[.string ⟨#[97, 99, 99, 101, 112, 116]⟩, .string (bs Z)]) (.agg #[.string ⟨#[97, 99, 99, 101, 112, 116]⟩, .string (bs Z)])).run Try.prog W = .ok (.bool true) W := fun W => by
        have h := run_eqlF (acceptN, Z) (acceptN, Z) W
        rw [show ((acceptN, Z) == (acceptN, Z)) = true from by simp] at h
        exact h
      have hj : ∀ W, Below w10.heap.size w10 W → Calls Try.prog 25 #[.slice Ao0 G.length co0, .string ⟨#[44, 32]⟩] W fun e w' => e = .returned (.string (bs Z)) ∧ Below W.heap.size W w' := fun W h => by
        have h1 := join_any _ _ G ⟨#[44, 32]⟩ W (HO10.out.bel h) (by have := HGL.out; omega) HJL.out
        rw [HZ.out]
        exact h1
      have HJ := Lib.hid hj
      clear d0 d1 hj HO10 HF10 HJL HZ HFF HGL hXl
      generalize w10 = C at *
      refine wp_region_growS (.one 0 false (.one 1 false (.one 2 false (.one 3 false (.one 4 false (.one 5 false (.one 6 false (.one 7 false (.one 8 true (.one 9 false (.one 10 false (.one 11 false (.one 12 false (.one 13 true (.one 14 false (.one 15 false .done))))))))))))))))
        (fun W => Below C.heap.size C W) (by kernel_rfl) (by kernel_rfl) rfl (by kernel_rfl) (by kernel_rfl) ((Below.refl _ _).drew) (fun ops hops => ?_)
      simp only [GT.ins, List.getD_cons_zero, List.getD_cons_succ]
      have g3 : (ops[3]?).bind (·.dst) = some 94 := by rw [hops.out]; rfl
      have g12 : (ops[12]?).bind (·.dst) = some 103 := by rw [hops.out]; rfl
      have G3 := Lib.hid g3
      have G12 := Lib.hid g12
      clear hops g3 g12
      iterate 4
        refine growS_take (by rfl) ?_
        apply Exists.intro
        refine ⟨fun w' hE => ?_, ?_⟩
        · obtain ⟨q1, q2⟩ := HCC.out w' hE
          go_simp
          try with_reducible rfl
        simp only [Act.put, List.setIfInBounds_toArray, List.set_cons_zero, List.set_cons_succ]
      iterate 4
        refine growS_take (wantedS G3.out rfl rfl) ?_
        apply Exists.intro
        refine ⟨fun w' hE => ?_, ?_⟩
        · obtain ⟨q1, q2⟩ := HCC.out w' hE
          go_simp
          try with_reducible rfl
        simp only [Act.put, List.setIfInBounds_toArray, List.set_cons_zero, List.set_cons_succ]
      refine growS_call (wantedS G3.out rfl rfl) (fun K hK => ?_)
      go_simp
      refine (HJ.out _ ((Below.refl _ _).drew : Below C.heap.size C C.drew)).mono ?_
      rintro e x1 ⟨rfl, hb⟩
      have hz : Below C.heap.size C x1 := (Below.refl _ _).drew.trans hb
      have HZ1 := Lib.hid hz
      refine hK.out _ _ hz ?_
      clear hK K hb hz
      iterate 2
        refine growS_take (wantedS G3.out rfl rfl) ?_
        apply Exists.intro
        refine ⟨fun w' hE => ?_, ?_⟩
        · obtain ⟨q1, q2⟩ := HCC.out w' hE
          go_simp
          try with_reducible rfl
        simp only [Act.put, List.setIfInBounds_toArray, List.set_cons_zero, List.set_cons_succ]
      iterate 2
        refine growS_take (by rfl) ?_
        apply Exists.intro
        refine ⟨fun w' hE => ?_, ?_⟩
        · obtain ⟨q1, q2⟩ := HCC.out w' hE
          go_simp
          try with_reducible rfl
        simp only [Act.put, List.setIfInBounds_toArray, List.set_cons_zero, List.set_cons_succ]
      refine growS_call (wantedS G12.out rfl rfl) (fun K hK => ?_)
      go_simp
      refine (HW.out _).mono ?_
      rintro e x2 ⟨rfl, hb⟩
      have hz : Below C.heap.size C x2 := HZ1.out.trans (hb.mono HZ1.out.size)
      have HZ2 := Lib.hid hz
      refine hK.out _ _ hz ?_
      clear hK K hb hz HZ1
      iterate 2
        refine growS_take (by rfl) ?_
        apply Exists.intro
        refine ⟨fun w' hE => ?_, ?_⟩
        · obtain ⟨q1, q2⟩ := HCC.out w' hE
          go_simp
          try with_reducible rfl
        simp only [Act.put, List.setIfInBounds_toArray, List.set_cons_zero, List.set_cons_succ]
      refine growS_done (NoPanic.normal ?_)
      try simp only [Exit.then]
      go_wp2_with fail
      go_ret
      exact ⟨rfl, HB10.out.trans (HZ2.out.mono HB10.out.size)⟩
end Go.Proofs.Ytmlgmpjbjbjaoaa
