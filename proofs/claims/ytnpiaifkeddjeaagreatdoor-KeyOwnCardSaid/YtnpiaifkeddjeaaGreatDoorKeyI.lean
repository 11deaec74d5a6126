/- The first key that goes is the URI's own, each is one of its origin, none is twice, fields of other names make no difference: the statement's own walk. -/
import Derived.Test.YtnpiaifkeddjeaaGreatDoorKeyE
namespace Go.Proofs.YtnpiaifkeddjeaaGreatDoor
open Go.RowKit Go.Shelf

/-- what a key is read as: a URI of the origin -/
theorem key_part {u : Ur} (h : u.check = 0) {rs : List (List UInt8)} {k : List UInt8} (hk : k ∈ keysK u rs) : ∃ mp mq mh, parseU k = (⟨u.normal.sc, u.normal.ho, u.normal.po, mp, mq, mh⟩, 0) := by
  obtain ⟨m, hm⟩ := (keys_are h rs).parts k hk
  have h1 := (uparse_put hm.ck).1
  rw [hm.pt] at h1
  have h2 := hm.og
  unfold origK at h2
  rw [hm.nm] at h2
  obtain ⟨e1, e2⟩ := Prod.mk.inj h2
  obtain ⟨e2, e3⟩ := Prod.mk.inj e2
  exact ⟨m.pa, m.qu, m.hq, by rw [h1, ← e1, ← e2, ← e3]⟩
theorem goneK_both (u : Ur) (st : Int) (l : List Fld) (h1 : 200 ≤ st) (h2 : st ≤ 399) : goneK u 200 (l.filter ofBoth) = goneK u st l := by
  unfold goneK
  rw [refs_both]
  by_cases h : u.check = 0
  · rw [if_pos ⟨h, by decide, by decide⟩, if_pos ⟨h, h1, h2⟩]
  · rw [if_neg (fun e => h e.1), if_neg (fun e => h e.1)]
theorem KfB.filter {l : List Fld} (h : KfB l) (p : Fld → Bool) : KfB (l.filter p) := ⟨Nat.le_trans (List.length_filter_le _ _) h.1, fun f hf => h.2 f (List.mem_filter.1 hf).1⟩
theorem filter_next {l : List Fld} {j : Nat} (h : j < l.length) : (l.take (j + 1)).filter ofBoth = if ofBoth l[j] then (l.take j).filter ofBoth ++ [l[j]] else (l.take j).filter ofBoth := by
  rw [List.take_succ_eq_append_getElem h, List.filter_append]
  cases hb : ofBoth l[j]
  · simp [hb]
  · simp [hb]
theorem nodup_ne {L : List (List UInt8)} (h : L.Nodup) {k j : Nat} (hk : k < j) (hj : j < L.length) : ((bs (L.getD k [])).toList == (bs (L.getD j [])).toList) = false := by
  rw [beq_bs2, beq_eq_false_iff_ne]
  rw [show L.getD k [] = L[k] from by simp [List.getD, show k < L.length from by omega], show L.getD j [] = L[j] from by simp [List.getD, hj]]
  exact List.pairwise_iff_getElem.1 h k j (by omega) hj hk
set_option maxHeartbeats 16000000 in
set_option maxRecDepth 100000 in
theorem keyOwn_law {st mi : Int} {re bo : ByteArray} {fs : Value} {l : List Fld} (u : Ur) (w : World) (hu : u.sized) (hv : FL w fs l) (hz : SzF l) (hm : MaxU w) (hl0 : Env w) :
    Calls Tryz.prog 7 #[.agg #[.string (bs u.sc), .string (bs u.ho), .int .i64 u.po, .string (bs u.pa), .string (bs u.qu), .bool u.hq], .agg #[.int .i64 st, .string re, .int .i64 mi, fs, .string bo]] w fun e w' => e = .returned (.bool true) ∧ Below w.heap.size w w' := by
  obtain ⟨A, c, rfl⟩ := hv.form
  have HE : Hid (EnvU w) := ⟨hm, hl0⟩
  clear hm hl0
  have HLO := Lib.hid (fun W => klong_any u W hu)
  have HFE := Lib.hid (fun W (hf : FL W (.slice A l.length c) l) => fewK_any (.slice A l.length c) l W hf hz.1 hz.2)
  have HFL := Lib.hid hv
  clear hv hz
  cases hlb : longB u
  · cases hfw : fewK l
    · rw [hlb] at HLO
      rw [hfw] at HFE
      clear hlb hfw hu
      obtain ⟨sc, ho, po, pa, qu, hq⟩ := u
      simp only at HLO ⊢
      have hal : Below w.heap.size w (w.alloc (.cells #[.string (bs sc), .string (bs ho), .int .i64 po, .string (bs pa), .string (bs qu), .bool hq] 23)) := (Below.refl _ _).alloc (Nat.le_refl _) _
      have HB1 := Lib.hid hal
      have hn := ubk.new w #[.string (bs sc), .string (bs ho), .int .i64 po, .string (bs pa), .string (bs qu), .bool hq] 23
      have HU1 := Lib.hid hn; clear hn
      clear hal
      have hal : Below (w.alloc (.cells #[.string (bs sc), .string (bs ho), .int .i64 po, .string (bs pa), .string (bs qu), .bool hq] 23)).heap.size (w.alloc (.cells #[.string (bs sc), .string (bs ho), .int .i64 po, .string (bs pa), .string (bs qu), .bool hq] 23)) ((w.alloc (.cells #[.string (bs sc), .string (bs ho), .int .i64 po, .string (bs pa), .string (bs qu), .bool hq] 23)).alloc (.cells #[.int .i64 st, .string re, .int .i64 mi, .slice A l.length c, .string bo] 31)) := (Below.refl _ _).alloc (Nat.le_refl _) _
      have HB2 := Lib.hid (HB1.out.trans (hal.mono HB1.out.size))
      have HU2 := Lib.hid (HU1.out.alloc (.cells #[.int .i64 st, .string re, .int .i64 mi, .slice A l.length c, .string bo] 31))
      have hn := ubk.new (w.alloc (.cells #[.string (bs sc), .string (bs ho), .int .i64 po, .string (bs pa), .string (bs qu), .bool hq] 23)) #[.int .i64 st, .string re, .int .i64 mi, .slice A l.length c, .string bo] 31
      rw [World.size_alloc] at hn
      have HP2 := Lib.hid hn; clear hn
      clear hal HB1 HU1
      go_enter Tryz.func7, Tryz.ntmps7
      have uc0 := HU2.out.cell 0 (.string (bs sc)) rfl
      have uc1 := HU2.out.cell 1 (.string (bs ho)) rfl
      have uc2 := HU2.out.cell 2 (.int .i64 po) rfl
      have uc3 := HU2.out.cell 3 (.string (bs pa)) rfl
      have uc4 := HU2.out.cell 4 (.string (bs qu)) rfl
      have uc5 := HU2.out.cell 5 (.bool hq) rfl
      go_wp2_with fail
      refine (HLO.out _).mono ?_
      rintro r w3 ⟨rfl, hb⟩
      have HB3 := Lib.hid (HB2.out.trans (hb.mono HB2.out.size))
      have HU3 := Lib.hid (HU2.out.below hb)
      have HP3 := Lib.hid (HP2.out.below hb)
      clear hb HB2 HU2 HP2
      clear uc0 uc1 uc2 uc3 uc4 uc5
      have pc0 := HP3.out.cell 0 (.int .i64 st) rfl
      have pc1 := HP3.out.cell 1 (.string re) rfl
      have pc2 := HP3.out.cell 2 (.int .i64 mi) rfl
      have pc3 := HP3.out.cell 3 (.slice A l.length c) rfl
      have pc4 := HP3.out.cell 4 (.string bo) rfl
      go_wp2_with fail
      refine (HFE.out _ (HFL.out.bel HB3.out)).mono ?_
      rintro r w4 ⟨rfl, hb⟩
      have HB4 := Lib.hid (HB3.out.trans (hb.mono HB3.out.size))
      have HU4 := Lib.hid (HU3.out.below hb)
      have HP4 := Lib.hid (HP3.out.below hb)
      clear hb HB3 HU3 HP3
      clear pc0 pc1 pc2 pc3 pc4
      go_wp2_with fail
      refine (kawake_any _ (HE.out.bel HB4.out)).mono ?_
      rintro r w5 ⟨rfl, hb⟩
      have HB5 := Lib.hid (HB4.out.trans (hb.mono HB4.out.size))
      have HU5 := Lib.hid (HU4.out.below hb)
      have HP5 := Lib.hid (HP4.out.below hb)
      clear hb HB4 HU4 HP4
      go_wp2_with fail
      go_ret
      exact ⟨rfl, HB5.out⟩
    · have hok := long_okW hu hlb
      have hkf := fewK_kf hfw
      rw [hlb] at HLO
      rw [hfw] at HFE
      clear hlb hfw hu
      have HGO := Lib.hid (fun W (he : EnvU W) (hf : FL W (.slice A l.length c) l) => gone_any u st mi re bo (.slice A l.length c) l W he hok hf hkf)
      have HCK := Lib.hid (fun W (he : EnvU W) => uriCheck_any u W he hok)
      by_cases hck : u.check = 0
      · by_cases h200 : 200 ≤ st
        · by_cases h399 : st ≤ 399
          · have g1 : decide (st < 200) = false := decide_eq_false (by omega)
            have g2 : decide (399 < st) = false := decide_eq_false (by omega)
            have hkb : ((0 : Int) != 0) = false := rfl
            have hG : goneK u st l = keysK u (refsK l) := if_pos ⟨hck, h200, h399⟩
            have HKP := keys_are hck (refsK l)
            have HPT := Lib.hid (fun k (hk : k ∈ keysK u (refsK l)) => key_part hck hk)
            have HNE := Lib.hid (fun k j (hk : k < j) (hj : j < (keysK u (refsK l)).length) => nodup_ne HKP.one hk hj)
            have HG0 : Hid ((keysK u (refsK l)).getD 0 [] = keyU u) := by
              have h := HKP.head
              show _ = _
              cases hh : keysK u (refsK l) with
              | nil => rw [hh] at h; cases h
              | cons a t => rw [hh] at h; simp at h; simp [h]
            have HGP : Hid (0 < (keysK u (refsK l)).length) := by
              have h := HKP.head
              show _ < _
              cases hh : keysK u (refsK l) with
              | nil => rw [hh] at h; cases h
              | cons a t => simp
            have HGN : Hid ((keysK u (refsK l)).length ≤ 1 + l.length) := by
              have h := HKP.len
              have h2 := refs_len l
              show _ ≤ _
              omega
            have HLN : Hid (l.length ≤ 1000) := hkf.1
            have HJL : Hid ((Lib.join (keysK u (refsK l)) [32]).length ≤ 2000000) := by
              have h := gone_join u st hkf.1
              rwa [hG] at h
            have HOU : Hid (∀ W, EnvU W → Calls Tryz.prog 10 #[.string ⟨#[71, 69, 84]⟩, .agg #[.string (bs u.sc), .string (bs u.ho), .int .i64 u.po, .string (bs u.pa), .string (bs u.qu), .bool u.hq]] W fun r w' => r = .returned (.string (bs (keyU u))) ∧ Below W.heap.size W w') := fun W he => kof_any getK u W he hok
            have HNU := Lib.hid (fun W (he : EnvU W) => normal_any u W he hok)
            have HPA := Lib.hid (fun k W (he : EnvU W) => parse_any k W he)
            have HG2 : Hid (∀ v W, EnvU W → FL W v (l.filter ofBoth) → Calls Tryz.prog 16 #[.agg #[.string (bs u.sc), .string (bs u.ho), .int .i64 u.po, .string (bs u.pa), .string (bs u.qu), .bool u.hq], .agg #[.int .i64 200, .string ⟨#[]⟩, .int .i64 0, v, .string ⟨#[]⟩]] W (RetS W (keysK u (refsK l)))) := fun v W he hf => by
              have h := gone_any u 200 0 ⟨#[]⟩ ⟨#[]⟩ v (l.filter ofBoth) W he hok hf (hkf.filter _)
              rwa [goneK_both u st l h200 h399, hG] at h
            have HFS := Lib.hid (fun (f : Fld) (hf : f ∈ l) => hkf.2 f hf)
            rw [hck] at HCK
            rw [hG] at HGO
            clear h200 h399 hck hok hkf hG HKP
            generalize keysK u (refsK l) = G at *
            generalize keyU u = ku at *
            generalize u.normal = un at *
            obtain ⟨sc, ho, po, pa, qu, hq⟩ := u
            obtain ⟨nsc, nho, npo, npa, nqu, nhq⟩ := un
            simp only at HLO HGO HCK HOU HNU HG2 HPT ⊢
            have hal : Below w.heap.size w (w.alloc (.cells #[.string (bs sc), .string (bs ho), .int .i64 po, .string (bs pa), .string (bs qu), .bool hq] 23)) := (Below.refl _ _).alloc (Nat.le_refl _) _
            have HB1 := Lib.hid hal
            have hn := ubk.new w #[.string (bs sc), .string (bs ho), .int .i64 po, .string (bs pa), .string (bs qu), .bool hq] 23
            have HU1 := Lib.hid hn; clear hn
            clear hal
            have hal : Below (w.alloc (.cells #[.string (bs sc), .string (bs ho), .int .i64 po, .string (bs pa), .string (bs qu), .bool hq] 23)).heap.size (w.alloc (.cells #[.string (bs sc), .string (bs ho), .int .i64 po, .string (bs pa), .string (bs qu), .bool hq] 23)) ((w.alloc (.cells #[.string (bs sc), .string (bs ho), .int .i64 po, .string (bs pa), .string (bs qu), .bool hq] 23)).alloc (.cells #[.int .i64 st, .string re, .int .i64 mi, .slice A l.length c, .string bo] 31)) := (Below.refl _ _).alloc (Nat.le_refl _) _
            have HB2 := Lib.hid (HB1.out.trans (hal.mono HB1.out.size))
            have HU2 := Lib.hid (HU1.out.alloc (.cells #[.int .i64 st, .string re, .int .i64 mi, .slice A l.length c, .string bo] 31))
            have hn := ubk.new (w.alloc (.cells #[.string (bs sc), .string (bs ho), .int .i64 po, .string (bs pa), .string (bs qu), .bool hq] 23)) #[.int .i64 st, .string re, .int .i64 mi, .slice A l.length c, .string bo] 31
            rw [World.size_alloc] at hn
            have HP2 := Lib.hid hn; clear hn
            clear hal HB1 HU1
            go_enter Tryz.func7, Tryz.ntmps7
            have uc0 := HU2.out.cell 0 (.string (bs sc)) rfl
            have uc1 := HU2.out.cell 1 (.string (bs ho)) rfl
            have uc2 := HU2.out.cell 2 (.int .i64 po) rfl
            have uc3 := HU2.out.cell 3 (.string (bs pa)) rfl
            have uc4 := HU2.out.cell 4 (.string (bs qu)) rfl
            have uc5 := HU2.out.cell 5 (.bool hq) rfl
            go_wp2_with fail
            refine (HLO.out _).mono ?_
            rintro r w3 ⟨rfl, hb⟩
            have HB3 := Lib.hid (HB2.out.trans (hb.mono HB2.out.size))
            have HU3 := Lib.hid (HU2.out.below hb)
            have HP3 := Lib.hid (HP2.out.below hb)
            clear hb HB2 HU2 HP2
            clear uc0 uc1 uc2 uc3 uc4 uc5
            have pc0 := HP3.out.cell 0 (.int .i64 st) rfl
            have pc1 := HP3.out.cell 1 (.string re) rfl
            have pc2 := HP3.out.cell 2 (.int .i64 mi) rfl
            have pc3 := HP3.out.cell 3 (.slice A l.length c) rfl
            have pc4 := HP3.out.cell 4 (.string bo) rfl
            go_wp2_with fail
            refine (HFE.out _ (HFL.out.bel HB3.out)).mono ?_
            rintro r w4 ⟨rfl, hb⟩
            have HB4 := Lib.hid (HB3.out.trans (hb.mono HB3.out.size))
            have HU4 := Lib.hid (HU3.out.below hb)
            have HP4 := Lib.hid (HP3.out.below hb)
            clear hb HB3 HU3 HP3
            clear pc0 pc1 pc2 pc3 pc4
            have uc0 := HU4.out.cell 0 (.string (bs sc)) rfl
            have uc1 := HU4.out.cell 1 (.string (bs ho)) rfl
            have uc2 := HU4.out.cell 2 (.int .i64 po) rfl
            have uc3 := HU4.out.cell 3 (.string (bs pa)) rfl
            have uc4 := HU4.out.cell 4 (.string (bs qu)) rfl
            have uc5 := HU4.out.cell 5 (.bool hq) rfl
            have pc0 := HP4.out.cell 0 (.int .i64 st) rfl
            have pc1 := HP4.out.cell 1 (.string re) rfl
            have pc2 := HP4.out.cell 2 (.int .i64 mi) rfl
            have pc3 := HP4.out.cell 3 (.slice A l.length c) rfl
            have pc4 := HP4.out.cell 4 (.string bo) rfl
            go_wp2_with fail
            refine (HGO.out _ (HE.out.bel HB4.out) (HFL.out.bel HB4.out)).mono ?_
            rintro r w5 ⟨v5, rfl, ho5, hb⟩
            have HB5 := Lib.hid (HB4.out.trans (hb.mono HB4.out.size))
            have HU5 := Lib.hid (HU4.out.below hb)
            have HP5 := Lib.hid (HP4.out.below hb)
            clear hb HB4 HU4 HP4
            clear uc0 uc1 uc2 uc3 uc4 uc5
            clear pc0 pc1 pc2 pc3 pc4
            have HVa := Lib.hid ho5
            obtain ⟨A5, c5, rfl⟩ := ho5.form
            clear ho5
            have uc0 := HU5.out.cell 0 (.string (bs sc)) rfl
            have uc1 := HU5.out.cell 1 (.string (bs ho)) rfl
            have uc2 := HU5.out.cell 2 (.int .i64 po) rfl
            have uc3 := HU5.out.cell 3 (.string (bs pa)) rfl
            have uc4 := HU5.out.cell 4 (.string (bs qu)) rfl
            have uc5 := HU5.out.cell 5 (.bool hq) rfl
            have pc0 := HP5.out.cell 0 (.int .i64 st) rfl
            have pc1 := HP5.out.cell 1 (.string re) rfl
            have pc2 := HP5.out.cell 2 (.int .i64 mi) rfl
            have pc3 := HP5.out.cell 3 (.slice A l.length c) rfl
            have pc4 := HP5.out.cell 4 (.string bo) rfl
            go_wp2_with fail
            refine (HCK.out _ (HE.out.bel HB5.out)).mono ?_
            rintro r w6 ⟨rfl, hb⟩
            have HB6 := Lib.hid (HB5.out.trans (hb.mono HB5.out.size))
            have HU6 := Lib.hid (HU5.out.below hb)
            have HP6 := Lib.hid (HP5.out.below hb)
            have HVb := Lib.hid (HVa.out.bel hb)
            clear hb HB5 HU5 HP5 HVa
            clear uc0 uc1 uc2 uc3 uc4 uc5
            clear pc0 pc1 pc2 pc3 pc4
            have pc0 := HP6.out.cell 0 (.int .i64 st) rfl
            have pc1 := HP6.out.cell 1 (.string re) rfl
            have pc2 := HP6.out.cell 2 (.int .i64 mi) rfl
            have pc3 := HP6.out.cell 3 (.slice A l.length c) rfl
            have pc4 := HP6.out.cell 4 (.string bo) rfl
            have uc0 := HU6.out.cell 0 (.string (bs sc)) rfl
            have uc1 := HU6.out.cell 1 (.string (bs ho)) rfl
            have uc2 := HU6.out.cell 2 (.int .i64 po) rfl
            have uc3 := HU6.out.cell 3 (.string (bs pa)) rfl
            have uc4 := HU6.out.cell 4 (.string (bs qu)) rfl
            have uc5 := HU6.out.cell 5 (.bool hq) rfl
            have q0 : (((G.length : Nat) : Int) == 0) = false := beq_eq_false_iff_ne.2 (by have := HGP.out; omega)
            have q1 : ((bs ku).toList == (bs ku).toList) = true := by simp
            have q2 : IntKind.i64.wrap ((1 : Int) + (l.length : Int)) = (1 : Int) + (l.length : Int) := IntWalk.i64_in _ (by have := HLN.out; omega)
            have q3 : decide ((1 : Int) + (l.length : Int) < (G.length : Int)) = false := decide_eq_false (by have := HGN.out; omega)
            have q4 : (0 : Int) < (G.length : Int) := by have := HGP.out; omega
            obtain ⟨g0, rfl, hc0⟩ := HVb.out.cell 0 HGP.out
            rw [HG0.out] at hc0
            have HC0 := Lib.hid hc0
            have HLT : Hid (g0 < w6.heap.size) := (World.ownsRow.lt HVb.out g0 rfl).2
            clear hc0
            go_wp2_with fail
            clear uc0 uc1 uc2 uc3 uc4 uc5
            clear pc0 pc1 pc2 pc3 pc4
            have hz : Below w6.heap.size w6 w6.drew := (Below.refl _ _).drew
            have HZ1_0 := Lib.hid hz; clear hz
            refine wp_region_growS (.one 0 false (.one 1 false (.one 2 false (.one 3 false (.one 4 false (.one 5 false (.one 6 false (.one 7 false (.one 8 true (.one 9 false (.one 10 false (.one 11 false (.one 12 false (.one 13 false (.one 14 false (.one 15 false (.one 16 false (.one 17 false (.one 18 false (.one 19 false .done))))))))))))))))))))
              (fun W => Below w6.heap.size w6 W) (by kernel_rfl) (by kernel_rfl) rfl (by kernel_rfl) (by kernel_rfl) HZ1_0.out (fun ops hops => ?_)
            simp only [GT.ins, List.getD_cons_zero, List.getD_cons_succ]
            have g3 : (ops[3]?).bind (·.dst) = some 48 := by rw [hops.out]; rfl
            have g11 : (ops[11]?).bind (·.dst) = some 56 := by rw [hops.out]; rfl
            have G3 := Lib.hid g3
            have G11 := Lib.hid g11
            clear hops g3 g11
            iterate 4
              refine growS_take (by rfl) ?_
              apply Exists.intro
              refine ⟨fun w' hE => ?_, ?_⟩
              · have yc0 := (HU6.out.below hE).cell 0 (.string (bs sc)) rfl; have yc1 := (HU6.out.below hE).cell 1 (.string (bs ho)) rfl; have yc2 := (HU6.out.below hE).cell 2 (.int .i64 po) rfl; have yc3 := (HU6.out.below hE).cell 3 (.string (bs pa)) rfl; have yc4 := (HU6.out.below hE).cell 4 (.string (bs qu)) rfl; have yc5 := (HU6.out.below hE).cell 5 (.bool hq) rfl; have zc0 := (HP6.out.below hE).cell 0 (.int .i64 st) rfl; have zc1 := (HP6.out.below hE).cell 1 (.string re) rfl; have zc2 := (HP6.out.below hE).cell 2 (.int .i64 mi) rfl; have zc3 := (HP6.out.below hE).cell 3 (.slice A l.length c) rfl; have zc4 := (HP6.out.below hE).cell 4 (.string bo) rfl; have q5 := (hE.cell (p := ⟨g0, 0, none⟩) HLT.out).trans HC0.out; have q6 := HGP.out
                go_simp
                try with_reducible rfl
              simp only [Act.put, List.setIfInBounds_toArray, List.set_cons_zero, List.set_cons_succ]
            iterate 4
              refine growS_take (wantedS G3.out rfl rfl) ?_
              apply Exists.intro
              refine ⟨fun w' hE => ?_, ?_⟩
              · have yc0 := (HU6.out.below hE).cell 0 (.string (bs sc)) rfl; have yc1 := (HU6.out.below hE).cell 1 (.string (bs ho)) rfl; have yc2 := (HU6.out.below hE).cell 2 (.int .i64 po) rfl; have yc3 := (HU6.out.below hE).cell 3 (.string (bs pa)) rfl; have yc4 := (HU6.out.below hE).cell 4 (.string (bs qu)) rfl; have yc5 := (HU6.out.below hE).cell 5 (.bool hq) rfl; have zc0 := (HP6.out.below hE).cell 0 (.int .i64 st) rfl; have zc1 := (HP6.out.below hE).cell 1 (.string re) rfl; have zc2 := (HP6.out.below hE).cell 2 (.int .i64 mi) rfl; have zc3 := (HP6.out.below hE).cell 3 (.slice A l.length c) rfl; have zc4 := (HP6.out.below hE).cell 4 (.string bo) rfl; have q5 := (hE.cell (p := ⟨g0, 0, none⟩) HLT.out).trans HC0.out; have q6 := HGP.out
                go_simp
                try with_reducible rfl
              simp only [Act.put, List.setIfInBounds_toArray, List.set_cons_zero, List.set_cons_succ]
            refine growS_call (wantedS G3.out rfl rfl) (fun K hK => ?_)
            go_simp
            refine (HOU.out _ (HE.out.bel (HB6.out.trans (HZ1_0.out.mono HB6.out.size)))).mono ?_
            rintro r z1_1 ⟨rfl, hb⟩
            have hz := HZ1_0.out.trans (hb.mono HZ1_0.out.size)
            refine hK.out _ _ hz ?_
            have HZ1_1 := Lib.hid hz
            clear hK K hb hz
            iterate 1
              refine growS_take (wantedS G3.out rfl rfl) ?_
              apply Exists.intro
              refine ⟨fun w' hE => ?_, ?_⟩
              · have yc0 := (HU6.out.below hE).cell 0 (.string (bs sc)) rfl; have yc1 := (HU6.out.below hE).cell 1 (.string (bs ho)) rfl; have yc2 := (HU6.out.below hE).cell 2 (.int .i64 po) rfl; have yc3 := (HU6.out.below hE).cell 3 (.string (bs pa)) rfl; have yc4 := (HU6.out.below hE).cell 4 (.string (bs qu)) rfl; have yc5 := (HU6.out.below hE).cell 5 (.bool hq) rfl; have zc0 := (HP6.out.below hE).cell 0 (.int .i64 st) rfl; have zc1 := (HP6.out.below hE).cell 1 (.string re) rfl; have zc2 := (HP6.out.below hE).cell 2 (.int .i64 mi) rfl; have zc3 := (HP6.out.below hE).cell 3 (.slice A l.length c) rfl; have zc4 := (HP6.out.below hE).cell 4 (.string bo) rfl; have q5 := (hE.cell (p := ⟨g0, 0, none⟩) HLT.out).trans HC0.out; have q6 := HGP.out
                go_simp
                try with_reducible rfl
              simp only [Act.put, List.setIfInBounds_toArray, List.set_cons_zero, List.set_cons_succ]
            iterate 2
              refine growS_take (by rfl) ?_
              apply Exists.intro
              refine ⟨fun w' hE => ?_, ?_⟩
              · have yc0 := (HU6.out.below hE).cell 0 (.string (bs sc)) rfl; have yc1 := (HU6.out.below hE).cell 1 (.string (bs ho)) rfl; have yc2 := (HU6.out.below hE).cell 2 (.int .i64 po) rfl; have yc3 := (HU6.out.below hE).cell 3 (.string (bs pa)) rfl; have yc4 := (HU6.out.below hE).cell 4 (.string (bs qu)) rfl; have yc5 := (HU6.out.below hE).cell 5 (.bool hq) rfl; have zc0 := (HP6.out.below hE).cell 0 (.int .i64 st) rfl; have zc1 := (HP6.out.below hE).cell 1 (.string re) rfl; have zc2 := (HP6.out.below hE).cell 2 (.int .i64 mi) rfl; have zc3 := (HP6.out.below hE).cell 3 (.slice A l.length c) rfl; have zc4 := (HP6.out.below hE).cell 4 (.string bo) rfl; have q5 := (hE.cell (p := ⟨g0, 0, none⟩) HLT.out).trans HC0.out; have q6 := HGP.out
                go_simp
                try with_reducible rfl
              simp only [Act.put, List.setIfInBounds_toArray, List.set_cons_zero, List.set_cons_succ]
            iterate 7
              refine growS_take (wantedS G11.out rfl rfl) ?_
              apply Exists.intro
              refine ⟨fun w' hE => ?_, ?_⟩
              · have yc0 := (HU6.out.below hE).cell 0 (.string (bs sc)) rfl; have yc1 := (HU6.out.below hE).cell 1 (.string (bs ho)) rfl; have yc2 := (HU6.out.below hE).cell 2 (.int .i64 po) rfl; have yc3 := (HU6.out.below hE).cell 3 (.string (bs pa)) rfl; have yc4 := (HU6.out.below hE).cell 4 (.string (bs qu)) rfl; have yc5 := (HU6.out.below hE).cell 5 (.bool hq) rfl; have zc0 := (HP6.out.below hE).cell 0 (.int .i64 st) rfl; have zc1 := (HP6.out.below hE).cell 1 (.string re) rfl; have zc2 := (HP6.out.below hE).cell 2 (.int .i64 mi) rfl; have zc3 := (HP6.out.below hE).cell 3 (.slice A l.length c) rfl; have zc4 := (HP6.out.below hE).cell 4 (.string bo) rfl; have q5 := (hE.cell (p := ⟨g0, 0, none⟩) HLT.out).trans HC0.out; have q6 := HGP.out
                go_simp
                try with_reducible rfl
              simp only [Act.put, List.setIfInBounds_toArray, List.set_cons_zero, List.set_cons_succ]
            iterate 1
              refine growS_take (by rfl) ?_
              apply Exists.intro
              refine ⟨fun w' hE => ?_, ?_⟩
              · have yc0 := (HU6.out.below hE).cell 0 (.string (bs sc)) rfl; have yc1 := (HU6.out.below hE).cell 1 (.string (bs ho)) rfl; have yc2 := (HU6.out.below hE).cell 2 (.int .i64 po) rfl; have yc3 := (HU6.out.below hE).cell 3 (.string (bs pa)) rfl; have yc4 := (HU6.out.below hE).cell 4 (.string (bs qu)) rfl; have yc5 := (HU6.out.below hE).cell 5 (.bool hq) rfl; have zc0 := (HP6.out.below hE).cell 0 (.int .i64 st) rfl; have zc1 := (HP6.out.below hE).cell 1 (.string re) rfl; have zc2 := (HP6.out.below hE).cell 2 (.int .i64 mi) rfl; have zc3 := (HP6.out.below hE).cell 3 (.slice A l.length c) rfl; have zc4 := (HP6.out.below hE).cell 4 (.string bo) rfl; have q5 := (hE.cell (p := ⟨g0, 0, none⟩) HLT.out).trans HC0.out; have q6 := HGP.out
                go_simp
                try with_reducible rfl
              simp only [Act.put, List.setIfInBounds_toArray, List.set_cons_zero, List.set_cons_succ]
            refine growS_done (NoPanic.normal ?_)
            have HVc := Lib.hid (HVb.out.bel HZ1_1.out)
            clear HVb HC0 HLT
            have HB7 := Lib.hid (HB6.out.trans (HZ1_1.out.mono HB6.out.size))
            have HU7 := Lib.hid (HU6.out.below HZ1_1.out)
            have HP7 := Lib.hid (HP6.out.below HZ1_1.out)
            clear HB6 HU6 HP6 HZ1_0 HZ1_1
            clear q0 q2 q3 q4
            have uc0 := HU7.out.cell 0 (.string (bs sc)) rfl
            have uc1 := HU7.out.cell 1 (.string (bs ho)) rfl
            have uc2 := HU7.out.cell 2 (.int .i64 po) rfl
            have uc3 := HU7.out.cell 3 (.string (bs pa)) rfl
            have uc4 := HU7.out.cell 4 (.string (bs qu)) rfl
            have uc5 := HU7.out.cell 5 (.bool hq) rfl
            go_wp2_with fail
            refine (HNU.out _ (HE.out.bel HB7.out)).mono ?_
            rintro r w8 ⟨rfl, hb⟩
            have hal : Below w8.heap.size w8 (w8.alloc (.cells #[.string (bs nsc), .string (bs nho), .int .i64 npo, .string (bs npa), .string (bs nqu), .bool nhq] 23)) := (Below.refl _ _).alloc (Nat.le_refl _) _
            have hn := ubk.new w8 #[.string (bs nsc), .string (bs nho), .int .i64 npo, .string (bs npa), .string (bs nqu), .bool nhq] 23
            have hb2 := hb.trans (hal.mono hb.size)
            have HBn := Lib.hid (HB7.out.trans (hb2.mono HB7.out.size)); have HUn := Lib.hid (HU7.out.below hb2); have HPn := Lib.hid (HP7.out.below hb2); have HVn := Lib.hid (HVc.out.bel hb2); have HNn := Lib.hid hn
            clear hb hal hn hb2 HB7 HU7 HP7 HVc uc0 uc1 uc2 uc3 uc4 uc5
            go_wp2_with fail
            generalize w8.heap.size = nb at *
            generalize w8.alloc (.cells #[.string (bs nsc), .string (bs nho), .int .i64 npo, .string (bs npa), .string (bs nqu), .bool nhq] 23) = W6 at *
            go_loopw [7] (fun i wr => ∃ j : Nat, j ≤ G.length ∧ i = .int .i64 j ∧ Below W6.heap.size W6 wr) (fun i _ => G.length - (intOf i).toNat)
            case atStart => exact ⟨0, Nat.zero_le _, rfl, Below.refl _ _⟩
            case round =>
              obtain ⟨j, hj, rfl, hb⟩ := hrel
              have HJ := Lib.hid hb
              clear hb
              have hGo := HGN.out
              have hLo := HLN.out
              by_cases hjt : j < G.length
              · obtain ⟨mp, mq, mh, hpt⟩ := HPT.out G[j] (List.getElem_mem hjt)
                obtain ⟨g1, hg1, hcj⟩ := (HVn.out.bel HJ.out).cell j hjt
                obtain rfl : g0 = g1 := by simpa using hg1
                clear hg1
                have HPJ := Lib.hid (fun W (he : EnvU W) => HPA.out G[j] W he)
                rw [hpt] at HPJ
                unfold RetU at HPJ
                simp only at HPJ
                have HCJ := Lib.hid hcj
                have HLT : Hid (g0 < wr.heap.size) := (World.ownsRow.lt (HVn.out.bel HJ.out) g0 rfl).2
                rw [show G.getD j [] = G[j] from by simp [List.getD, hjt]] at hcj
                clear hpt
                generalize G[j] = kj at *
                have hjl : (j : Int) < (G.length : Int) := by omega
                have q2 : ((bs nsc).toList == (bs nsc).toList) = true := by simp
                have q3 : ((bs nho).toList == (bs nho).toList) = true := by simp
                have q4 : (npo != npo) = false := by simp
                go_wp2_with fail
                refine (HPJ.out _ (HE.out.bel (HBn.out.trans (HJ.out.mono HBn.out.size)))).mono ?_
                rintro r w8 ⟨rfl, hb⟩
                have hal : Below w8.heap.size w8 (w8.alloc (.cells #[.string (bs nsc), .string (bs nho), .int .i64 npo, .string (bs mp), .string (bs mq), .bool mh] 23)) := (Below.refl _ _).alloc (Nat.le_refl _) _
                have hx := ubk.new w8 #[.string (bs nsc), .string (bs nho), .int .i64 npo, .string (bs mp), .string (bs mq), .bool mh] 23
                have hb2 := hb.trans (hal.mono hb.size)
                have HX8 := Lib.hid (HJ.out.trans (hb2.mono HJ.out.size))
                have HCX : Hid ((w8.alloc (.cells #[.string (bs nsc), .string (bs nho), .int .i64 npo, .string (bs mp), .string (bs mq), .bool mh] 23)).cell? ⟨g0, j, none⟩ = some (.string (bs (G.getD j [])))) := (hb2.cell (p := ⟨g0, j, none⟩) HLT.out).trans HCJ.out
                have HLX : Hid (g0 < (w8.alloc (.cells #[.string (bs nsc), .string (bs nho), .int .i64 npo, .string (bs mp), .string (bs mq), .bool mh] 23)).heap.size) := Nat.lt_of_lt_of_le HLT.out hb2.size
                have xc0 := hx.cell 0 (.string (bs nsc)) rfl
                have xc1 := hx.cell 1 (.string (bs nho)) rfl
                have xc2 := hx.cell 2 (.int .i64 npo) rfl
                have xc3 := hx.cell 3 (.string (bs mp)) rfl
                have xc4 := hx.cell 4 (.string (bs mq)) rfl
                have xc5 := hx.cell 5 (.bool mh) rfl
                have nc0 := (HNn.out.below HX8.out).cell 0 (.string (bs nsc)) rfl
                have nc1 := (HNn.out.below HX8.out).cell 1 (.string (bs nho)) rfl
                have nc2 := (HNn.out.below HX8.out).cell 2 (.int .i64 npo) rfl
                have nc3 := (HNn.out.below HX8.out).cell 3 (.string (bs npa)) rfl
                have nc4 := (HNn.out.below HX8.out).cell 4 (.string (bs nqu)) rfl
                have nc5 := (HNn.out.below HX8.out).cell 5 (.bool nhq) rfl
                clear hb hal hx hb2 HJ HCJ HLT hcj
                go_wp2_with fail
                clear xc0 xc1 xc2 xc3 xc4 xc5 nc0 nc1 nc2 nc3 nc4 nc5 q2 q3 q4
                generalize w8.alloc (.cells #[.string (bs nsc), .string (bs nho), .int .i64 npo, .string (bs mp), .string (bs mq), .bool mh] 23) = W8 at *
                go_loopw [10] (fun i wr2 => ∃ k : Nat, k ≤ j ∧ i = .int .i64 k ∧ Below W8.heap.size W8 wr2) (fun i _ => j - (intOf i).toNat)
                case atStart => exact ⟨0, Nat.zero_le _, rfl, Below.refl _ _⟩
                case round =>
                  obtain ⟨k, hk, rfl, hb⟩ := hrel
                  have HK := Lib.hid hb
                  clear hb
                  by_cases hkt : k < j
                  · have hne := HNE.out k j hkt hjt
                    obtain ⟨g1, hg1, hck⟩ := (HVn.out.bel (HX8.out.trans (HK.out.mono HX8.out.size))).cell k (by omega)
                    obtain rfl : g0 = g1 := by simpa using hg1
                    clear hg1
                    have hcx := (HK.out.cell (p := ⟨g0, j, none⟩) HLX.out).trans HCX.out
                    have hkl : (k : Int) < (j : Int) := by omega
                    have hkl2 : (k : Int) < (G.length : Int) := by omega
                    have hjl2 : (j : Int) < (G.length : Int) := by omega
                    generalize bs (G.getD k []) = yk at *
                    generalize bs (G.getD j []) = yj at *
                    go_wp2_with fail
                    go_quiet (fail)
                    go_wp2_with fail
                    go_roundw
                    case rel => exact ⟨k + 1, by omega, by go_num, below_dnX HK.out _⟩
                    case measure => simp [intOf]; omega
                  · have HX9 := Lib.hid (HX8.out.trans (HK.out.mono HX8.out.size))
                    have hkl : ¬ (k : Int) < (j : Int) := by omega
                    go_wp2_with fail
                    go_roundw
                    case rel => exact ⟨j + 1, by omega, by go_num, HX9.out⟩
                    case measure => simp [intOf]; omega
              · have hjl : ¬ (j : Int) < (G.length : Int) := by omega
                have HBw := Lib.hid (HBn.out.trans (HJ.out.mono HBn.out.size)); have HUw := Lib.hid (HUn.out.below HJ.out); have HPw := Lib.hid (HPn.out.below HJ.out); have HVw := Lib.hid (HVn.out.bel HJ.out)
                clear HJ HBn HUn HPn HVn HNn HPT HNE HPA HOU HNU hj hjt
                go_wp2_with fail
                clear hjl
                go_loopw [11, 12] (fun o i ws => ∃ k : Nat, k ≤ l.length ∧ i = .int .i64 k ∧ ownF ws wr.heap.size o ((l.take k).filter ofBoth) ∧ Below wr.heap.size wr ws) (fun _ i _ => l.length - (intOf i).toNat)
                case atStart => exact ⟨0, Nat.zero_le _, rfl, ownF_nil _ _, Below.refl _ _⟩
                case round =>
                  obtain ⟨k, hk, rfl, ho, hb⟩ := hrel
                  have HK := Lib.hid hb
                  have HO := Lib.hid ho
                  clear hb ho
                  have pc0 := (HPw.out.below HK.out).cell 0 (.int .i64 st) rfl
                  have pc1 := (HPw.out.below HK.out).cell 1 (.string re) rfl
                  have pc2 := (HPw.out.below HK.out).cell 2 (.int .i64 mi) rfl
                  have pc3 := (HPw.out.below HK.out).cell 3 (.slice A l.length c) rfl
                  have pc4 := (HPw.out.below HK.out).cell 4 (.string bo) rfl
                  by_cases hkt : k < l.length
                  · have HFN := Lib.hid (filter_next hkt)
                    have hsz := HFS.out l[k] (List.getElem_mem hkt)
                    obtain ⟨b, off, rfl, hbb, e0, e1⟩ := (HFL.out.bel (HBw.out.trans (HK.out.mono HBw.out.size))).get k hkt
                    have HQL : Hid (((l.take k).filter ofBoth).length ≤ 1000) := by
                      have h1 := List.length_filter_le ofBoth (l.take k)
                      have h2 : (l.take k).length ≤ l.length := List.length_take_le' _ _
                      show _ ≤ _
                      omega
                    have HOB : Hid (ofBoth l[k] = (sameN l[k].1 locN || sameN l[k].1 cloN)) := rfl
                    generalize ofBoth l[k] = ob at *
                    generalize (l.take k).filter ofBoth = acc at *
                    generalize l[k] = f at *
                    obtain ⟨n, v⟩ := f
                    simp only at e0 e1 hsz HOB
                    have HS1 : Hid (∀ W, Calls Tryz.prog 23 #[.string (bs n), .string ⟨#[108, 111, 99, 97, 116, 105, 111, 110]⟩] W fun e w' => e = .returned (.bool (sameN n locN)) ∧ Below W.heap.size W w') := fun W => by have h := same_any (bs n) (bs locN) W (by rw [bs_size]; unfold maxLen; omega) (by decide); rw [bs_data, bs_data] at h; exact h
                    have HS2 : Hid (∀ W, Calls Tryz.prog 23 #[.string (bs n), .string ⟨#[99, 111, 110, 116, 101, 110, 116, 45, 108, 111, 99, 97, 116, 105, 111, 110]⟩] W fun e w' => e = .returned (.bool (sameN n cloN)) ∧ Below W.heap.size W w') := fun W => by have h := same_any (bs n) (bs cloN) W (by rw [bs_size]; unfold maxLen; omega) (by decide); rw [bs_data, bs_data] at h; exact h
                    generalize sameN n locN = s1 at *
                    generalize sameN n cloN = s2 at *
                    have hkl : (k : Int) < (l.length : Int) := by omega
                    have HBB := Lib.hid hbb; have HE0 := Lib.hid e0; have HE1 := Lib.hid e1
                    clear hsz
                    go_wp2_with fail
                    refine (HS1.out _).mono ?_
                    rintro r w9 ⟨rfl, hb9⟩
                    have HB9 := Lib.hid hb9
                    clear e0 e1 pc0 pc1 pc2 pc3 pc4
                    clear hb9
                    cases s1
                    · have d0 := (HB9.out.cell (p := ⟨b, off + k * 2, none⟩) HBB.out).trans HE0.out
                      have d1 := (HB9.out.cell (p := ⟨b, off + k * 2 + 1, none⟩) HBB.out).trans HE1.out
                      have dc0 := (HPw.out.below (HK.out.trans (HB9.out.mono HK.out.size))).cell 0 (.int .i64 st) rfl
                      have dc1 := (HPw.out.below (HK.out.trans (HB9.out.mono HK.out.size))).cell 1 (.string re) rfl
                      have dc2 := (HPw.out.below (HK.out.trans (HB9.out.mono HK.out.size))).cell 2 (.int .i64 mi) rfl
                      have dc3 := (HPw.out.below (HK.out.trans (HB9.out.mono HK.out.size))).cell 3 (.slice (some ⟨b, off, none⟩) l.length c) rfl
                      have dc4 := (HPw.out.below (HK.out.trans (HB9.out.mono HK.out.size))).cell 4 (.string bo) rfl
                      go_wp2_with fail
                      refine (HS2.out _).mono ?_
                      rintro r w10 ⟨rfl, hb10⟩
                      have HB10 := Lib.hid (HB9.out.trans (hb10.mono HB9.out.size))
                      clear hb10 HB9 d0 d1 dc0 dc1 dc2 dc3 dc4
                      cases s2
                      · simp only [Bool.or_self] at HOB
                        rw [HOB.out] at HFN
                        simp only [Bool.false_eq_true, if_false] at HFN
                        have HO2 := Lib.hid (HO.out.bel HB10.out); have HK2 := Lib.hid (HK.out.trans (HB10.out.mono HK.out.size))
                        clear HO HK
                        go_wp2_with fail
                        go_roundw
                        case rel => exact ⟨k + 1, by omega, by go_num, by rw [HFN.out]; exact HO2.out, HK2.out⟩
                        case measure => simp [intOf]; omega
                      · rw [HOB.out] at HFN
                        simp only [Bool.false_or, if_true] at HFN
                        have d0 := (HB10.out.cell (p := ⟨b, off + k * 2, none⟩) HBB.out).trans HE0.out
                        have d1 := (HB10.out.cell (p := ⟨b, off + k * 2 + 1, none⟩) HBB.out).trans HE1.out
                        have dc0 := (HPw.out.below (HK.out.trans (HB10.out.mono HK.out.size))).cell 0 (.int .i64 st) rfl
                        have dc1 := (HPw.out.below (HK.out.trans (HB10.out.mono HK.out.size))).cell 1 (.string re) rfl
                        have dc2 := (HPw.out.below (HK.out.trans (HB10.out.mono HK.out.size))).cell 2 (.int .i64 mi) rfl
                        have dc3 := (HPw.out.below (HK.out.trans (HB10.out.mono HK.out.size))).cell 3 (.slice (some ⟨b, off, none⟩) l.length c) rfl
                        have dc4 := (HPw.out.below (HK.out.trans (HB10.out.mono HK.out.size))).cell 4 (.string bo) rfl
                        have HO2 := Lib.hid (HO.out.bel HB10.out); have HK2 := Lib.hid (HK.out.trans (HB10.out.mono HK.out.size))
                        clear HO HK
                        go_wp2_with (at_builtin; refine wpList_appF rfl (.tmp 141) (.tmp 147) rfl _ _ _ acc n v rfl HO2.out HK2.out (Nat.le_refl _) HK2.out.size rfl (by have := HQL.out; omega) ?_; intro v' wA HOA HBA HKA)
                        go_roundw
                        case rel => exact ⟨k + 1, by omega, by go_num, by rw [HFN.out]; exact HOA.out, HBA.out⟩
                        case measure => simp [intOf]; omega
                    · rw [HOB.out] at HFN
                      simp only [Bool.true_or, if_true] at HFN
                      have d0 := (HB9.out.cell (p := ⟨b, off + k * 2, none⟩) HBB.out).trans HE0.out
                      have d1 := (HB9.out.cell (p := ⟨b, off + k * 2 + 1, none⟩) HBB.out).trans HE1.out
                      have dc0 := (HPw.out.below (HK.out.trans (HB9.out.mono HK.out.size))).cell 0 (.int .i64 st) rfl
                      have dc1 := (HPw.out.below (HK.out.trans (HB9.out.mono HK.out.size))).cell 1 (.string re) rfl
                      have dc2 := (HPw.out.below (HK.out.trans (HB9.out.mono HK.out.size))).cell 2 (.int .i64 mi) rfl
                      have dc3 := (HPw.out.below (HK.out.trans (HB9.out.mono HK.out.size))).cell 3 (.slice (some ⟨b, off, none⟩) l.length c) rfl
                      have dc4 := (HPw.out.below (HK.out.trans (HB9.out.mono HK.out.size))).cell 4 (.string bo) rfl
                      have HO2 := Lib.hid (HO.out.bel HB9.out); have HK2 := Lib.hid (HK.out.trans (HB9.out.mono HK.out.size))
                      clear HO HK
                      go_wp2_with (at_builtin; refine wpList_appF rfl (.tmp 141) (.tmp 147) rfl _ _ _ acc n v rfl HO2.out HK2.out (Nat.le_refl _) HK2.out.size rfl (by have := HQL.out; omega) ?_; intro v' wA HOA HBA HKA)
                      go_roundw
                      case rel => exact ⟨k + 1, by omega, by go_num, by rw [HFN.out]; exact HOA.out, HBA.out⟩
                      case measure => simp [intOf]; omega
                  · have HE2 : Hid (l.take k = l) := List.take_of_length_le (by omega)
                    rw [HE2.out] at HO
                    generalize hlf : l.filter ofBoth = lf at *
                    clear hlf HE2
                    obtain ⟨A6, c6, rfl⟩ := HO.out.form
                    have hkl : ¬ (k : Int) < (l.length : Int) := by omega
                    have HV2 := Lib.hid (HVw.out.bel HK.out); have HB2 := Lib.hid (HBw.out.trans (HK.out.mono HBw.out.size)); have HF2 := Lib.hid HO.out.fl
                    have uc0 := (HUw.out.below HK.out).cell 0 (.string (bs sc)) rfl
                    have uc1 := (HUw.out.below HK.out).cell 1 (.string (bs ho)) rfl
                    have uc2 := (HUw.out.below HK.out).cell 2 (.int .i64 po) rfl
                    have uc3 := (HUw.out.below HK.out).cell 3 (.string (bs pa)) rfl
                    have uc4 := (HUw.out.below HK.out).cell 4 (.string (bs qu)) rfl
                    have uc5 := (HUw.out.below HK.out).cell 5 (.bool hq) rfl
                    clear HK HO HVw HBw HUw HPw
                    go_wp2_with fail
                    refine (HG2.out _ _ (HE.out.bel HB2.out) HF2.out).mono ?_
                    rintro r wE ⟨vE, rfl, hoE, hb⟩
                    have HV3 := Lib.hid (HV2.out.bel hb); have HB3 := Lib.hid (HB2.out.trans (hb.mono HB2.out.size)); have HW3 := Lib.hid hoE
                    clear hb hoE HV2 HB2 HF2 uc0 uc1 uc2 uc3 uc4 uc5 pc0 pc1 pc2 pc3 pc4
                    have q9 : ((bs (Lib.join G [32])).toList == (bs (Lib.join G [32])).toList) = true := by simp
                    have HJ1 : Hid (∀ B v W, ownS W B v G → Calls Tryz.prog 24 #[v, .string ⟨#[32]⟩] W fun e w' => e = .returned (.string (bs (Lib.join G [32]))) ∧ Below W.heap.size W w') := fun B v W h => join_any B v G ⟨#[32]⟩ W h (by have h1 := HGN.out; have h2 := HLN.out; omega) (by have := HJL.out; show (Lib.join G [32]).length ≤ _; omega)
                    generalize bs (Lib.join G [32]) = jt at *
                    go_wp2_with fail
                    refine (HJ1.out _ _ _ HV3.out).mono ?_
                    rintro r wF ⟨rfl, hb⟩
                    have HW4 := Lib.hid (HW3.out.bel hb); have HB4 := Lib.hid (HB3.out.trans (hb.mono HB3.out.size))
                    clear hb HV3 HB3 HW3
                    go_wp2_with fail
                    refine (HJ1.out _ _ _ HW4.out).mono ?_
                    rintro r wG ⟨rfl, hb⟩
                    have HB5 := Lib.hid (HB4.out.trans (hb.mono HB4.out.size))
                    clear hb HB4 HW4
                    go_wp2_with fail
                    refine (kawake_any _ (HE.out.bel HB5.out)).mono ?_
                    rintro r wH ⟨rfl, hb⟩
                    have HB6 := Lib.hid (HB5.out.trans (hb.mono HB5.out.size))
                    go_wp2_with fail
                    go_ret
                    exact ⟨rfl, HB6.out⟩
          · have g1 : decide (st < 200) = false := decide_eq_false (by omega)
            have g2 : decide (399 < st) = true := decide_eq_true (by omega)
            have hkb : ((0 : Int) != 0) = false := rfl
            rw [hck] at HCK
            rw [show goneK u st l = [] from if_neg (fun h => h399 h.2.2)] at HGO
            clear h200 h399 hck hok hkf
            obtain ⟨sc, ho, po, pa, qu, hq⟩ := u
            simp only at HLO HGO HCK ⊢
            have hal : Below w.heap.size w (w.alloc (.cells #[.string (bs sc), .string (bs ho), .int .i64 po, .string (bs pa), .string (bs qu), .bool hq] 23)) := (Below.refl _ _).alloc (Nat.le_refl _) _
            have HB1 := Lib.hid hal
            have hn := ubk.new w #[.string (bs sc), .string (bs ho), .int .i64 po, .string (bs pa), .string (bs qu), .bool hq] 23
            have HU1 := Lib.hid hn; clear hn
            clear hal
            have hal : Below (w.alloc (.cells #[.string (bs sc), .string (bs ho), .int .i64 po, .string (bs pa), .string (bs qu), .bool hq] 23)).heap.size (w.alloc (.cells #[.string (bs sc), .string (bs ho), .int .i64 po, .string (bs pa), .string (bs qu), .bool hq] 23)) ((w.alloc (.cells #[.string (bs sc), .string (bs ho), .int .i64 po, .string (bs pa), .string (bs qu), .bool hq] 23)).alloc (.cells #[.int .i64 st, .string re, .int .i64 mi, .slice A l.length c, .string bo] 31)) := (Below.refl _ _).alloc (Nat.le_refl _) _
            have HB2 := Lib.hid (HB1.out.trans (hal.mono HB1.out.size))
            have HU2 := Lib.hid (HU1.out.alloc (.cells #[.int .i64 st, .string re, .int .i64 mi, .slice A l.length c, .string bo] 31))
            have hn := ubk.new (w.alloc (.cells #[.string (bs sc), .string (bs ho), .int .i64 po, .string (bs pa), .string (bs qu), .bool hq] 23)) #[.int .i64 st, .string re, .int .i64 mi, .slice A l.length c, .string bo] 31
            rw [World.size_alloc] at hn
            have HP2 := Lib.hid hn; clear hn
            clear hal HB1 HU1
            go_enter Tryz.func7, Tryz.ntmps7
            have uc0 := HU2.out.cell 0 (.string (bs sc)) rfl
            have uc1 := HU2.out.cell 1 (.string (bs ho)) rfl
            have uc2 := HU2.out.cell 2 (.int .i64 po) rfl
            have uc3 := HU2.out.cell 3 (.string (bs pa)) rfl
            have uc4 := HU2.out.cell 4 (.string (bs qu)) rfl
            have uc5 := HU2.out.cell 5 (.bool hq) rfl
            go_wp2_with fail
            refine (HLO.out _).mono ?_
            rintro r w3 ⟨rfl, hb⟩
            have HB3 := Lib.hid (HB2.out.trans (hb.mono HB2.out.size))
            have HU3 := Lib.hid (HU2.out.below hb)
            have HP3 := Lib.hid (HP2.out.below hb)
            clear hb HB2 HU2 HP2
            clear uc0 uc1 uc2 uc3 uc4 uc5
            have pc0 := HP3.out.cell 0 (.int .i64 st) rfl
            have pc1 := HP3.out.cell 1 (.string re) rfl
            have pc2 := HP3.out.cell 2 (.int .i64 mi) rfl
            have pc3 := HP3.out.cell 3 (.slice A l.length c) rfl
            have pc4 := HP3.out.cell 4 (.string bo) rfl
            go_wp2_with fail
            refine (HFE.out _ (HFL.out.bel HB3.out)).mono ?_
            rintro r w4 ⟨rfl, hb⟩
            have HB4 := Lib.hid (HB3.out.trans (hb.mono HB3.out.size))
            have HU4 := Lib.hid (HU3.out.below hb)
            have HP4 := Lib.hid (HP3.out.below hb)
            clear hb HB3 HU3 HP3
            clear pc0 pc1 pc2 pc3 pc4
            have uc0 := HU4.out.cell 0 (.string (bs sc)) rfl
            have uc1 := HU4.out.cell 1 (.string (bs ho)) rfl
            have uc2 := HU4.out.cell 2 (.int .i64 po) rfl
            have uc3 := HU4.out.cell 3 (.string (bs pa)) rfl
            have uc4 := HU4.out.cell 4 (.string (bs qu)) rfl
            have uc5 := HU4.out.cell 5 (.bool hq) rfl
            have pc0 := HP4.out.cell 0 (.int .i64 st) rfl
            have pc1 := HP4.out.cell 1 (.string re) rfl
            have pc2 := HP4.out.cell 2 (.int .i64 mi) rfl
            have pc3 := HP4.out.cell 3 (.slice A l.length c) rfl
            have pc4 := HP4.out.cell 4 (.string bo) rfl
            go_wp2_with fail
            refine (HGO.out _ (HE.out.bel HB4.out) (HFL.out.bel HB4.out)).mono ?_
            rintro r w5 ⟨v5, rfl, ho5, hb⟩
            have HB5 := Lib.hid (HB4.out.trans (hb.mono HB4.out.size))
            have HU5 := Lib.hid (HU4.out.below hb)
            have HP5 := Lib.hid (HP4.out.below hb)
            clear hb HB4 HU4 HP4
            clear uc0 uc1 uc2 uc3 uc4 uc5
            clear pc0 pc1 pc2 pc3 pc4
            obtain ⟨A5, c5, rfl⟩ := ho5.form
            clear ho5
            simp only [List.length_nil]
            have uc0 := HU5.out.cell 0 (.string (bs sc)) rfl
            have uc1 := HU5.out.cell 1 (.string (bs ho)) rfl
            have uc2 := HU5.out.cell 2 (.int .i64 po) rfl
            have uc3 := HU5.out.cell 3 (.string (bs pa)) rfl
            have uc4 := HU5.out.cell 4 (.string (bs qu)) rfl
            have uc5 := HU5.out.cell 5 (.bool hq) rfl
            have pc0 := HP5.out.cell 0 (.int .i64 st) rfl
            have pc1 := HP5.out.cell 1 (.string re) rfl
            have pc2 := HP5.out.cell 2 (.int .i64 mi) rfl
            have pc3 := HP5.out.cell 3 (.slice A l.length c) rfl
            have pc4 := HP5.out.cell 4 (.string bo) rfl
            go_wp2_with fail
            refine (HCK.out _ (HE.out.bel HB5.out)).mono ?_
            rintro r w6 ⟨rfl, hb⟩
            have HB6 := Lib.hid (HB5.out.trans (hb.mono HB5.out.size))
            have HU6 := Lib.hid (HU5.out.below hb)
            have HP6 := Lib.hid (HP5.out.below hb)
            clear hb HB5 HU5 HP5
            clear uc0 uc1 uc2 uc3 uc4 uc5
            clear pc0 pc1 pc2 pc3 pc4
            have pc0 := HP6.out.cell 0 (.int .i64 st) rfl
            have pc1 := HP6.out.cell 1 (.string re) rfl
            have pc2 := HP6.out.cell 2 (.int .i64 mi) rfl
            have pc3 := HP6.out.cell 3 (.slice A l.length c) rfl
            have pc4 := HP6.out.cell 4 (.string bo) rfl
            go_wp2_with fail
            refine (kawake_any _ (HE.out.bel HB6.out)).mono ?_
            rintro r w7 ⟨rfl, hb⟩
            have HB7 := Lib.hid (HB6.out.trans (hb.mono HB6.out.size))
            have HU7 := Lib.hid (HU6.out.below hb)
            have HP7 := Lib.hid (HP6.out.below hb)
            clear hb HB6 HU6 HP6
            clear pc0 pc1 pc2 pc3 pc4
            go_wp2_with fail
            go_ret
            exact ⟨rfl, HB7.out⟩
        · have g1 : decide (st < 200) = true := decide_eq_true (by omega)
          have hkb : ((0 : Int) != 0) = false := rfl
          rw [hck] at HCK
          rw [show goneK u st l = [] from if_neg (fun h => h200 h.2.1)] at HGO
          clear h200 hck hok hkf
          obtain ⟨sc, ho, po, pa, qu, hq⟩ := u
          simp only at HLO HGO HCK ⊢
          have hal : Below w.heap.size w (w.alloc (.cells #[.string (bs sc), .string (bs ho), .int .i64 po, .string (bs pa), .string (bs qu), .bool hq] 23)) := (Below.refl _ _).alloc (Nat.le_refl _) _
          have HB1 := Lib.hid hal
          have hn := ubk.new w #[.string (bs sc), .string (bs ho), .int .i64 po, .string (bs pa), .string (bs qu), .bool hq] 23
          have HU1 := Lib.hid hn; clear hn
          clear hal
          have hal : Below (w.alloc (.cells #[.string (bs sc), .string (bs ho), .int .i64 po, .string (bs pa), .string (bs qu), .bool hq] 23)).heap.size (w.alloc (.cells #[.string (bs sc), .string (bs ho), .int .i64 po, .string (bs pa), .string (bs qu), .bool hq] 23)) ((w.alloc (.cells #[.string (bs sc), .string (bs ho), .int .i64 po, .string (bs pa), .string (bs qu), .bool hq] 23)).alloc (.cells #[.int .i64 st, .string re, .int .i64 mi, .slice A l.length c, .string bo] 31)) := (Below.refl _ _).alloc (Nat.le_refl _) _
          have HB2 := Lib.hid (HB1.out.trans (hal.mono HB1.out.size))
          have HU2 := Lib.hid (HU1.out.alloc (.cells #[.int .i64 st, .string re, .int .i64 mi, .slice A l.length c, .string bo] 31))
          have hn := ubk.new (w.alloc (.cells #[.string (bs sc), .string (bs ho), .int .i64 po, .string (bs pa), .string (bs qu), .bool hq] 23)) #[.int .i64 st, .string re, .int .i64 mi, .slice A l.length c, .string bo] 31
          rw [World.size_alloc] at hn
          have HP2 := Lib.hid hn; clear hn
          clear hal HB1 HU1
          go_enter Tryz.func7, Tryz.ntmps7
          have uc0 := HU2.out.cell 0 (.string (bs sc)) rfl
          have uc1 := HU2.out.cell 1 (.string (bs ho)) rfl
          have uc2 := HU2.out.cell 2 (.int .i64 po) rfl
          have uc3 := HU2.out.cell 3 (.string (bs pa)) rfl
          have uc4 := HU2.out.cell 4 (.string (bs qu)) rfl
          have uc5 := HU2.out.cell 5 (.bool hq) rfl
          go_wp2_with fail
          refine (HLO.out _).mono ?_
          rintro r w3 ⟨rfl, hb⟩
          have HB3 := Lib.hid (HB2.out.trans (hb.mono HB2.out.size))
          have HU3 := Lib.hid (HU2.out.below hb)
          have HP3 := Lib.hid (HP2.out.below hb)
          clear hb HB2 HU2 HP2
          clear uc0 uc1 uc2 uc3 uc4 uc5
          have pc0 := HP3.out.cell 0 (.int .i64 st) rfl
          have pc1 := HP3.out.cell 1 (.string re) rfl
          have pc2 := HP3.out.cell 2 (.int .i64 mi) rfl
          have pc3 := HP3.out.cell 3 (.slice A l.length c) rfl
          have pc4 := HP3.out.cell 4 (.string bo) rfl
          go_wp2_with fail
          refine (HFE.out _ (HFL.out.bel HB3.out)).mono ?_
          rintro r w4 ⟨rfl, hb⟩
          have HB4 := Lib.hid (HB3.out.trans (hb.mono HB3.out.size))
          have HU4 := Lib.hid (HU3.out.below hb)
          have HP4 := Lib.hid (HP3.out.below hb)
          clear hb HB3 HU3 HP3
          clear pc0 pc1 pc2 pc3 pc4
          have uc0 := HU4.out.cell 0 (.string (bs sc)) rfl
          have uc1 := HU4.out.cell 1 (.string (bs ho)) rfl
          have uc2 := HU4.out.cell 2 (.int .i64 po) rfl
          have uc3 := HU4.out.cell 3 (.string (bs pa)) rfl
          have uc4 := HU4.out.cell 4 (.string (bs qu)) rfl
          have uc5 := HU4.out.cell 5 (.bool hq) rfl
          have pc0 := HP4.out.cell 0 (.int .i64 st) rfl
          have pc1 := HP4.out.cell 1 (.string re) rfl
          have pc2 := HP4.out.cell 2 (.int .i64 mi) rfl
          have pc3 := HP4.out.cell 3 (.slice A l.length c) rfl
          have pc4 := HP4.out.cell 4 (.string bo) rfl
          go_wp2_with fail
          refine (HGO.out _ (HE.out.bel HB4.out) (HFL.out.bel HB4.out)).mono ?_
          rintro r w5 ⟨v5, rfl, ho5, hb⟩
          have HB5 := Lib.hid (HB4.out.trans (hb.mono HB4.out.size))
          have HU5 := Lib.hid (HU4.out.below hb)
          have HP5 := Lib.hid (HP4.out.below hb)
          clear hb HB4 HU4 HP4
          clear uc0 uc1 uc2 uc3 uc4 uc5
          clear pc0 pc1 pc2 pc3 pc4
          obtain ⟨A5, c5, rfl⟩ := ho5.form
          clear ho5
          simp only [List.length_nil]
          have uc0 := HU5.out.cell 0 (.string (bs sc)) rfl
          have uc1 := HU5.out.cell 1 (.string (bs ho)) rfl
          have uc2 := HU5.out.cell 2 (.int .i64 po) rfl
          have uc3 := HU5.out.cell 3 (.string (bs pa)) rfl
          have uc4 := HU5.out.cell 4 (.string (bs qu)) rfl
          have uc5 := HU5.out.cell 5 (.bool hq) rfl
          have pc0 := HP5.out.cell 0 (.int .i64 st) rfl
          have pc1 := HP5.out.cell 1 (.string re) rfl
          have pc2 := HP5.out.cell 2 (.int .i64 mi) rfl
          have pc3 := HP5.out.cell 3 (.slice A l.length c) rfl
          have pc4 := HP5.out.cell 4 (.string bo) rfl
          go_wp2_with fail
          refine (HCK.out _ (HE.out.bel HB5.out)).mono ?_
          rintro r w6 ⟨rfl, hb⟩
          have HB6 := Lib.hid (HB5.out.trans (hb.mono HB5.out.size))
          have HU6 := Lib.hid (HU5.out.below hb)
          have HP6 := Lib.hid (HP5.out.below hb)
          clear hb HB5 HU5 HP5
          clear uc0 uc1 uc2 uc3 uc4 uc5
          clear pc0 pc1 pc2 pc3 pc4
          have pc0 := HP6.out.cell 0 (.int .i64 st) rfl
          have pc1 := HP6.out.cell 1 (.string re) rfl
          have pc2 := HP6.out.cell 2 (.int .i64 mi) rfl
          have pc3 := HP6.out.cell 3 (.slice A l.length c) rfl
          have pc4 := HP6.out.cell 4 (.string bo) rfl
          go_wp2_with fail
          refine (kawake_any _ (HE.out.bel HB6.out)).mono ?_
          rintro r w7 ⟨rfl, hb⟩
          have HB7 := Lib.hid (HB6.out.trans (hb.mono HB6.out.size))
          have HU7 := Lib.hid (HU6.out.below hb)
          have HP7 := Lib.hid (HP6.out.below hb)
          clear hb HB6 HU6 HP6
          clear pc0 pc1 pc2 pc3 pc4
          go_wp2_with fail
          go_ret
          exact ⟨rfl, HB7.out⟩
      · have hkb : (u.check != 0) = true := bne_iff_ne.2 hck
        rw [show goneK u st l = [] from if_neg (fun h => hck h.1)] at HGO
        clear hck hok hkf
        generalize u.check = ck at *
        obtain ⟨sc, ho, po, pa, qu, hq⟩ := u
        simp only at HLO HGO HCK ⊢
        have hal : Below w.heap.size w (w.alloc (.cells #[.string (bs sc), .string (bs ho), .int .i64 po, .string (bs pa), .string (bs qu), .bool hq] 23)) := (Below.refl _ _).alloc (Nat.le_refl _) _
        have HB1 := Lib.hid hal
        have hn := ubk.new w #[.string (bs sc), .string (bs ho), .int .i64 po, .string (bs pa), .string (bs qu), .bool hq] 23
        have HU1 := Lib.hid hn; clear hn
        clear hal
        have hal : Below (w.alloc (.cells #[.string (bs sc), .string (bs ho), .int .i64 po, .string (bs pa), .string (bs qu), .bool hq] 23)).heap.size (w.alloc (.cells #[.string (bs sc), .string (bs ho), .int .i64 po, .string (bs pa), .string (bs qu), .bool hq] 23)) ((w.alloc (.cells #[.string (bs sc), .string (bs ho), .int .i64 po, .string (bs pa), .string (bs qu), .bool hq] 23)).alloc (.cells #[.int .i64 st, .string re, .int .i64 mi, .slice A l.length c, .string bo] 31)) := (Below.refl _ _).alloc (Nat.le_refl _) _
        have HB2 := Lib.hid (HB1.out.trans (hal.mono HB1.out.size))
        have HU2 := Lib.hid (HU1.out.alloc (.cells #[.int .i64 st, .string re, .int .i64 mi, .slice A l.length c, .string bo] 31))
        have hn := ubk.new (w.alloc (.cells #[.string (bs sc), .string (bs ho), .int .i64 po, .string (bs pa), .string (bs qu), .bool hq] 23)) #[.int .i64 st, .string re, .int .i64 mi, .slice A l.length c, .string bo] 31
        rw [World.size_alloc] at hn
        have HP2 := Lib.hid hn; clear hn
        clear hal HB1 HU1
        go_enter Tryz.func7, Tryz.ntmps7
        have uc0 := HU2.out.cell 0 (.string (bs sc)) rfl
        have uc1 := HU2.out.cell 1 (.string (bs ho)) rfl
        have uc2 := HU2.out.cell 2 (.int .i64 po) rfl
        have uc3 := HU2.out.cell 3 (.string (bs pa)) rfl
        have uc4 := HU2.out.cell 4 (.string (bs qu)) rfl
        have uc5 := HU2.out.cell 5 (.bool hq) rfl
        go_wp2_with fail
        refine (HLO.out _).mono ?_
        rintro r w3 ⟨rfl, hb⟩
        have HB3 := Lib.hid (HB2.out.trans (hb.mono HB2.out.size))
        have HU3 := Lib.hid (HU2.out.below hb)
        have HP3 := Lib.hid (HP2.out.below hb)
        clear hb HB2 HU2 HP2
        clear uc0 uc1 uc2 uc3 uc4 uc5
        have pc0 := HP3.out.cell 0 (.int .i64 st) rfl
        have pc1 := HP3.out.cell 1 (.string re) rfl
        have pc2 := HP3.out.cell 2 (.int .i64 mi) rfl
        have pc3 := HP3.out.cell 3 (.slice A l.length c) rfl
        have pc4 := HP3.out.cell 4 (.string bo) rfl
        go_wp2_with fail
        refine (HFE.out _ (HFL.out.bel HB3.out)).mono ?_
        rintro r w4 ⟨rfl, hb⟩
        have HB4 := Lib.hid (HB3.out.trans (hb.mono HB3.out.size))
        have HU4 := Lib.hid (HU3.out.below hb)
        have HP4 := Lib.hid (HP3.out.below hb)
        clear hb HB3 HU3 HP3
        clear pc0 pc1 pc2 pc3 pc4
        have uc0 := HU4.out.cell 0 (.string (bs sc)) rfl
        have uc1 := HU4.out.cell 1 (.string (bs ho)) rfl
        have uc2 := HU4.out.cell 2 (.int .i64 po) rfl
        have uc3 := HU4.out.cell 3 (.string (bs pa)) rfl
        have uc4 := HU4.out.cell 4 (.string (bs qu)) rfl
        have uc5 := HU4.out.cell 5 (.bool hq) rfl
        have pc0 := HP4.out.cell 0 (.int .i64 st) rfl
        have pc1 := HP4.out.cell 1 (.string re) rfl
        have pc2 := HP4.out.cell 2 (.int .i64 mi) rfl
        have pc3 := HP4.out.cell 3 (.slice A l.length c) rfl
        have pc4 := HP4.out.cell 4 (.string bo) rfl
        go_wp2_with fail
        refine (HGO.out _ (HE.out.bel HB4.out) (HFL.out.bel HB4.out)).mono ?_
        rintro r w5 ⟨v5, rfl, ho5, hb⟩
        have HB5 := Lib.hid (HB4.out.trans (hb.mono HB4.out.size))
        have HU5 := Lib.hid (HU4.out.below hb)
        have HP5 := Lib.hid (HP4.out.below hb)
        clear hb HB4 HU4 HP4
        clear uc0 uc1 uc2 uc3 uc4 uc5
        clear pc0 pc1 pc2 pc3 pc4
        obtain ⟨A5, c5, rfl⟩ := ho5.form
        clear ho5
        simp only [List.length_nil]
        have uc0 := HU5.out.cell 0 (.string (bs sc)) rfl
        have uc1 := HU5.out.cell 1 (.string (bs ho)) rfl
        have uc2 := HU5.out.cell 2 (.int .i64 po) rfl
        have uc3 := HU5.out.cell 3 (.string (bs pa)) rfl
        have uc4 := HU5.out.cell 4 (.string (bs qu)) rfl
        have uc5 := HU5.out.cell 5 (.bool hq) rfl
        have pc0 := HP5.out.cell 0 (.int .i64 st) rfl
        have pc1 := HP5.out.cell 1 (.string re) rfl
        have pc2 := HP5.out.cell 2 (.int .i64 mi) rfl
        have pc3 := HP5.out.cell 3 (.slice A l.length c) rfl
        have pc4 := HP5.out.cell 4 (.string bo) rfl
        go_wp2_with fail
        refine (HCK.out _ (HE.out.bel HB5.out)).mono ?_
        rintro r w6 ⟨rfl, hb⟩
        have HB6 := Lib.hid (HB5.out.trans (hb.mono HB5.out.size))
        have HU6 := Lib.hid (HU5.out.below hb)
        have HP6 := Lib.hid (HP5.out.below hb)
        clear hb HB5 HU5 HP5
        clear uc0 uc1 uc2 uc3 uc4 uc5
        clear pc0 pc1 pc2 pc3 pc4
        have pc0 := HP6.out.cell 0 (.int .i64 st) rfl
        have pc1 := HP6.out.cell 1 (.string re) rfl
        have pc2 := HP6.out.cell 2 (.int .i64 mi) rfl
        have pc3 := HP6.out.cell 3 (.slice A l.length c) rfl
        have pc4 := HP6.out.cell 4 (.string bo) rfl
        go_wp2_with fail
        refine (kawake_any _ (HE.out.bel HB6.out)).mono ?_
        rintro r w7 ⟨rfl, hb⟩
        have HB7 := Lib.hid (HB6.out.trans (hb.mono HB6.out.size))
        have HU7 := Lib.hid (HU6.out.below hb)
        have HP7 := Lib.hid (HP6.out.below hb)
        clear hb HB6 HU6 HP6
        clear pc0 pc1 pc2 pc3 pc4
        go_wp2_with fail
        go_ret
        exact ⟨rfl, HB7.out⟩
  · rw [hlb] at HLO
    clear hlb hu HFE
    obtain ⟨sc, ho, po, pa, qu, hq⟩ := u
    simp only at HLO ⊢
    have hal : Below w.heap.size w (w.alloc (.cells #[.string (bs sc), .string (bs ho), .int .i64 po, .string (bs pa), .string (bs qu), .bool hq] 23)) := (Below.refl _ _).alloc (Nat.le_refl _) _
    have HB1 := Lib.hid hal
    have hn := ubk.new w #[.string (bs sc), .string (bs ho), .int .i64 po, .string (bs pa), .string (bs qu), .bool hq] 23
    have HU1 := Lib.hid hn; clear hn
    clear hal
    have hal : Below (w.alloc (.cells #[.string (bs sc), .string (bs ho), .int .i64 po, .string (bs pa), .string (bs qu), .bool hq] 23)).heap.size (w.alloc (.cells #[.string (bs sc), .string (bs ho), .int .i64 po, .string (bs pa), .string (bs qu), .bool hq] 23)) ((w.alloc (.cells #[.string (bs sc), .string (bs ho), .int .i64 po, .string (bs pa), .string (bs qu), .bool hq] 23)).alloc (.cells #[.int .i64 st, .string re, .int .i64 mi, .slice A l.length c, .string bo] 31)) := (Below.refl _ _).alloc (Nat.le_refl _) _
    have HB2 := Lib.hid (HB1.out.trans (hal.mono HB1.out.size))
    have HU2 := Lib.hid (HU1.out.alloc (.cells #[.int .i64 st, .string re, .int .i64 mi, .slice A l.length c, .string bo] 31))
    have hn := ubk.new (w.alloc (.cells #[.string (bs sc), .string (bs ho), .int .i64 po, .string (bs pa), .string (bs qu), .bool hq] 23)) #[.int .i64 st, .string re, .int .i64 mi, .slice A l.length c, .string bo] 31
    rw [World.size_alloc] at hn
    have HP2 := Lib.hid hn; clear hn
    clear hal HB1 HU1
    go_enter Tryz.func7, Tryz.ntmps7
    have uc0 := HU2.out.cell 0 (.string (bs sc)) rfl
    have uc1 := HU2.out.cell 1 (.string (bs ho)) rfl
    have uc2 := HU2.out.cell 2 (.int .i64 po) rfl
    have uc3 := HU2.out.cell 3 (.string (bs pa)) rfl
    have uc4 := HU2.out.cell 4 (.string (bs qu)) rfl
    have uc5 := HU2.out.cell 5 (.bool hq) rfl
    go_wp2_with fail
    refine (HLO.out _).mono ?_
    rintro r w3 ⟨rfl, hb⟩
    have HB3 := Lib.hid (HB2.out.trans (hb.mono HB2.out.size))
    have HU3 := Lib.hid (HU2.out.below hb)
    have HP3 := Lib.hid (HP2.out.below hb)
    clear hb HB2 HU2 HP2
    clear uc0 uc1 uc2 uc3 uc4 uc5
    go_wp2_with fail
    refine (kawake_any _ (HE.out.bel HB3.out)).mono ?_
    rintro r w4 ⟨rfl, hb⟩
    have HB4 := Lib.hid (HB3.out.trans (hb.mono HB3.out.size))
    have HU4 := Lib.hid (HU3.out.below hb)
    have HP4 := Lib.hid (HP3.out.below hb)
    clear hb HB3 HU3 HP3
    go_wp2_with fail
    go_ret
    exact ⟨rfl, HB4.out⟩
end Go.Proofs.YtnpiaifkeddjeaaGreatDoor
