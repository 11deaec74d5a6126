/- The keys that go: the key layer's Gone. -/
import Derived.Test.YtnpiaifkeddjeaaGreatDoorKeyB
import Derived.Test.YtnpiaifkeddjeaaGreatDoorKOpen
import Derived.Deep.RegionWith
namespace Go.Proofs.YtnpiaifkeddjeaaGreatDoor
open Go.RowKit Go.Shelf

theorem putS_any (out : List (List UInt8)) (k : List UInt8) : putS out k = if out.any (· == k) then out else out ++ [k] := by
  unfold putS
  by_cases h : k ∈ out
  · rw [if_pos h, if_pos (List.any_eq_true.2 ⟨k, h, by simp⟩)]
  · rw [if_neg h, if_neg]
    intro h2
    obtain ⟨x, hx, e⟩ := List.any_eq_true.1 h2
    rw [beq_iff_eq] at e
    exact h (e ▸ hx)
theorem stepK_take (o : List UInt8 × List UInt8 × Int) (X : List Ur) {k : Nat} (h : k < X.length) : (X.take (k + 1)).foldl (stepK o) [] = stepK o ((X.take k).foldl (stepK o) []) X[k] := by
  rw [List.take_succ_eq_append_getElem h, List.foldl_append]; rfl
/-- what stands while the keys are put together: the list of URIs, the own origin, the map of what is known -/
structure GK (w0 : World) (ob mb : Nat) (OG : Array Value) (vX : Value) (X : List Ur) (w : World) (o : Value) (acc M : List (List UInt8)) : Prop where
  own : ownS w w0.heap.size o acc
  bel : Below w0.heap.size w0 w
  sX : UL w vX X
  oX : ∀ g, vX.ownBlock = some g → o.ownBlock ≠ some g ∧ g < w.heap.size ∧ g ≠ mb
  ho : ubk w ob OG
  oo : o.ownBlock ≠ some ob
  om : ob ≠ mb
  map : mapAt w mb M.length M
  mo : o.ownBlock ≠ some mb
  ml : w0.heap.size ≤ mb
section
variable {w0 w w' : World} {ob mb : Nat} {OG : Array Value} {vX o : Value} {X : List Ur} {acc M : List (List UInt8)}
theorem GK.call (h : GK w0 ob mb OG vX X w o acc M) (hb : Below w.heap.size w w') : GK w0 ob mb OG vX X w' o acc M :=
  ⟨h.own.bel hb, h.bel.trans (hb.mono h.bel.size), h.sX.bel hb, fun g hg => ⟨(h.oX g hg).1, Nat.lt_of_lt_of_le (h.oX g hg).2.1 hb.size, (h.oX g hg).2.2⟩, h.ho.below hb, h.oo, h.om, h.map.bel hb, h.mo, h.ml⟩
theorem GK.turn (h : GK w0 ob mb OG vX X w o acc M) {n : List UInt8} (hg : w.grownBy w' (some mb)) (hm : mapAt w' mb (M.length + 1) (M ++ [n])) : GK w0 ob mb OG vX X w' o acc (M ++ [n]) :=
  ⟨World.ownsRow.kept h.own hg (.inr h.mo), h.bel.grown hg h.bel.size (fun k hk => by cases hk; exact h.ml), h.sX.keepG (fun g hq => hg.block g (h.oX g hq).2.1 (fun e => (h.oX g hq).2.2 (Option.some.inj e))),
    fun g hq => ⟨(h.oX g hq).1, Nat.lt_of_lt_of_le (h.oX g hq).2.1 hg.size, (h.oX g hq).2.2⟩, h.ho.keep (hg.block ob h.ho.lt (fun e => h.om (Option.some.inj e))), h.oo, h.om, by rw [List.length_append]; exact hm, h.mo, h.ml⟩
theorem GK.nr (h : GK w0 ob mb OG vX X w o acc M) : NR w0 w (.slice none 0 0) [] (.slice none 0 0) [] o acc :=
  ⟨h.own, fun g hg => by simp [Value.ownBlock] at hg, fun g hg => by simp [Value.ownBlock] at hg, SL_nil _, SL_nil _, h.bel⟩
/-- the blocks that an append must leave -/
def keepsK (ob mb : Nat) (vX : Value) (g : Nat) : Prop := g = mb ∨ g = ob ∨ vX.ownBlock = some g
theorem GK.guard (h : GK w0 ob mb OG vX X w o acc M) : ∀ g, keepsK ob mb vX g → o.ownBlock ≠ some g ∧ g < w.heap.size := by
  rintro g (rfl | rfl | hg)
  · exact ⟨h.mo, h.map.lt⟩
  · exact ⟨h.oo, h.ho.lt⟩
  · exact ⟨(h.oX g hg).1, (h.oX g hg).2.1⟩
theorem GK.put {v1 v2 o' : Value} {N1 N2 acc' : List (List UInt8)} (h : GK w0 ob mb OG vX X w o acc M) (hn : NR w0 w' v1 N1 v2 N2 o' acc') (hG : ∀ k, keepsK ob mb vX k → o'.ownBlock ≠ some k) (hK : ∀ k, keepsK ob mb vX k → w'.heap[k]? = w.heap[k]?) :
    GK w0 ob mb OG vX X w' o' acc' M := by
  refine ⟨hn.own, hn.bel, h.sX.keepG fun g hg => hK g (.inr (.inr hg)), fun g hg => ⟨hG g (.inr (.inr hg)), ?_, (h.oX g hg).2.2⟩, h.ho.keep (hK ob (.inr (.inl rfl))), hG ob (.inr (.inl rfl)), h.om, ?_, hG mb (.inl rfl), h.ml⟩
  · have he := hK g (.inr (.inr hg))
    rw [Array.getElem?_eq_getElem (h.oX g hg).2.1] at he
    exact (Array.getElem?_eq_some_iff.1 he).1
  · exact h.map.keepV (hK mb (.inl rfl))
end
set_option maxHeartbeats 8000000 in
set_option maxRecDepth 100000 in
theorem gone_any (u : Ur) (st mi : Int) (re bo : ByteArray) (v : Value) (l : List Fld) (w : World) (he : EnvU w) (hu : u.okW) (hv : FL w v l) (hs : KfB l) :
    Calls Tryz.prog 16 #[.agg #[.string (bs u.sc), .string (bs u.ho), .int .i64 u.po, .string (bs u.pa), .string (bs u.qu), .bool u.hq], .agg #[.int .i64 st, .string re, .int .i64 mi, v, .string bo]] w (RetS w (goneK u st l)) := by
  obtain ⟨A, c, rfl⟩ := hv.form
  have HCK := Lib.hid (fun W (h : EnvU W) => uriCheck_any u W h hu)
  have HSU := Lib.hid (fun W => succeeded_any st W)
  have HOR := Lib.hid (fun W (h : EnvU W) => originOf_any u W h hu)
  have HCH := Lib.hid (fun W (h : EnvU W) (hf : FL W (.slice A l.length c) l) => changed_any u (.slice A l.length c) l W h hu hf hs)
  have HG : Hid (goneK u st l = if u.check = 0 ∧ 200 ≤ st ∧ st ≤ 399 then keysK u (refsK l) else []) := rfl
  have HKY : Hid (keysK u (refsK l) = (changedK u (refsK l)).foldl (stepK (origK u)) []) := rfl
  have HOK : Hid (origK u = (u.normal.sc, u.normal.ho, u.normal.po)) := rfl
  have HXO : Hid (∀ x ∈ changedK u (refsK l), x.okW) := fun x hx => by
    rcases List.mem_cons.1 hx with rfl | hx
    · exact hu
    · obtain ⟨r, -, hr⟩ := List.mem_filterMap.1 hx
      unfold leadK at hr
      split at hr
      · rw [← Option.some.inj hr]; exact ref_okW u r
      · cases hr
  have HXL : Hid ((changedK u (refsK l)).length ≤ 2001) := by
    have h1 := changedK_len u (refsK l)
    have h2 := refs_len l
    have h3 := hs.1
    show _ ≤ _
    omega
  rw [HG.out]
  generalize changedK u (refsK l) = X at *
  generalize keysK u (refsK l) = KS at *
  generalize origK u = og at *
  generalize u.normal.sc = osc at *
  generalize u.normal.ho = oho at *
  generalize u.normal.po = opo at *
  generalize u.check = ck at *
  have HE := Lib.hid he; have HFL := Lib.hid hv
  have HWK : Hid (∀ W, Below w.heap.size w W → EnvU W) := fun W h => he.bel h
  clear he hu hs hv HG
  obtain ⟨sc, ho, po, pa, qu, hq⟩ := u
  simp only at HCK HOR HCH ⊢
  have hmk := @run_makeMap Tryz.prog
  by_cases hck : ck = 0
  · subst hck
    have hkb : ((0 : Int) != 0) = false := rfl
    by_cases hst : 200 ≤ st ∧ st ≤ 399
    · rw [if_pos ⟨rfl, hst⟩]
      have HS2 : Hid (∀ W, Calls Tryz.prog 27 #[.int .i64 st] W fun r w' => r = .returned (.bool true) ∧ W = w') := fun W => by have h := HSU.out W; rwa [decide_eq_true hst] at h
      clear hst HSU hkb
      have hal : Below w.heap.size w (w.alloc (.cells #[.string (bs sc), .string (bs ho), .int .i64 po, .string (bs pa), .string (bs qu), .bool hq] 23)) := (Below.refl _ _).alloc (Nat.le_refl _) _
      have HB1 := Lib.hid hal
      have hn := ubk.new w #[.string (bs sc), .string (bs ho), .int .i64 po, .string (bs pa), .string (bs qu), .bool hq] 23
      have HU1 := Lib.hid hn; clear hn
      clear hal
      have hal : Below (w.alloc (.cells #[.string (bs sc), .string (bs ho), .int .i64 po, .string (bs pa), .string (bs qu), .bool hq] 23)).heap.size (w.alloc (.cells #[.string (bs sc), .string (bs ho), .int .i64 po, .string (bs pa), .string (bs qu), .bool hq] 23)) ((w.alloc (.cells #[.string (bs sc), .string (bs ho), .int .i64 po, .string (bs pa), .string (bs qu), .bool hq] 23)).alloc (.cells #[.int .i64 st, .string re, .int .i64 mi, .slice A l.length c, .string bo] 31)) := (Below.refl _ _).alloc (Nat.le_refl _) _
      have HB2 := Lib.hid (HB1.out.trans (hal.mono HB1.out.size))
      have HU2 := Lib.hid (HU1.out.alloc (.cells #[.int .i64 st, .string re, .int .i64 mi, .slice A l.length c, .string bo] 31))
      have hn := ubk.new (w.alloc (.cells #[.string (bs sc), .string (bs ho), .int .i64 po, .string (bs pa), .string (bs qu), .bool hq] 23)) #[.int .i64 st, .string re, .int .i64 mi, .slice A l.length c, .string bo] 31
      rw [World.size_alloc] at hn
      have HP2 := Lib.hid hn; clear hn
      clear hal HB1 HU1
      go_enter Tryz.func16, Tryz.ntmps16
      have uc0 := HU2.out.cell 0 (.string (bs sc)) rfl
      have uc1 := HU2.out.cell 1 (.string (bs ho)) rfl
      have uc2 := HU2.out.cell 2 (.int .i64 po) rfl
      have uc3 := HU2.out.cell 3 (.string (bs pa)) rfl
      have uc4 := HU2.out.cell 4 (.string (bs qu)) rfl
      have uc5 := HU2.out.cell 5 (.bool hq) rfl
      go_wp2_with fail
      refine (HCK.out _ (HE.out.bel HB2.out)).mono ?_
      rintro r w3 ⟨rfl, hb⟩
      have HB3 := Lib.hid (HB2.out.trans (hb.mono HB2.out.size))
      have HU3 := Lib.hid (HU2.out.below hb)
      have HP3 := Lib.hid (HP2.out.below hb)
      clear hb HB2 HU2 HP2
      clear uc0 uc1 uc2 uc3 uc4 uc5
      have pc0 := HP3.out.cell 0 (.int .i64 st) rfl
      have pc1 := HP3.out.cell 1 (.string re) rfl
      have pc2 := HP3.out.cell 2 (.int .i64 mi) rfl
      have pc3 := HP3.out.cell 3 (.slice A l.length c) rfl
      have pc4 := HP3.out.cell 4 (.string bo) rfl
      have uc0 := HU3.out.cell 0 (.string (bs sc)) rfl
      have uc1 := HU3.out.cell 1 (.string (bs ho)) rfl
      have uc2 := HU3.out.cell 2 (.int .i64 po) rfl
      have uc3 := HU3.out.cell 3 (.string (bs pa)) rfl
      have uc4 := HU3.out.cell 4 (.string (bs qu)) rfl
      have uc5 := HU3.out.cell 5 (.bool hq) rfl
      go_wp2_with fail
      refine (HS2.out _).mono ?_
      rintro r wx ⟨rfl, rfl⟩
      clear uc0 uc1 uc2 uc3 uc4 uc5 pc0 pc1 pc2 pc3 pc4
      have hal : Below w3.heap.size w3 (w3.alloc (.map #[] 0)) := (Below.refl _ _).alloc (Nat.le_refl _) _
      have hmp := mapAt_new w3
      have HMP := Lib.hid hmp; have HBm := Lib.hid (HB3.out.trans (hal.mono HB3.out.size)); have HUm := Lib.hid (HU3.out.alloc (.map #[] 0)); have HPm := Lib.hid (HP3.out.alloc (.map #[] 0)); have HML := Lib.hid HB3.out.size; have HMZ : Hid (w3.heap.size < (w3.alloc (.map #[] 0)).heap.size) := by show _ < _; rw [World.size_alloc]; omega
      clear hal hmp HB3 HU3 HP3
      have uc0 := HUm.out.cell 0 (.string (bs sc)) rfl
      have uc1 := HUm.out.cell 1 (.string (bs ho)) rfl
      have uc2 := HUm.out.cell 2 (.int .i64 po) rfl
      have uc3 := HUm.out.cell 3 (.string (bs pa)) rfl
      have uc4 := HUm.out.cell 4 (.string (bs qu)) rfl
      have uc5 := HUm.out.cell 5 (.bool hq) rfl
      go_wp2_with fail
      clear hmk
      refine (HOR.out _ (HWK.out _ HBm.out)).mono ?_
      rintro r wo ⟨rfl, hb⟩
      have HMo := Lib.hid (HMP.out.bel hb); have HBo := Lib.hid (HBm.out.trans (hb.mono HBm.out.size)); have HUo := Lib.hid (HUm.out.below hb); have HPo := Lib.hid (HPm.out.below hb); have HMW := Lib.hid (Nat.lt_of_lt_of_le HMZ.out hb.size)
      clear hb HMP HBm HUm HPm HMZ uc0 uc1 uc2 uc3 uc4 uc5
      generalize w3.heap.size = mb at *
      have hal : Below wo.heap.size wo (wo.alloc (.cells #[.string (bs osc), .string (bs oho), .int .i64 opo] 53)) := (Below.refl _ _).alloc (Nat.le_refl _) _
      have hon := ubk.new wo #[.string (bs osc), .string (bs oho), .int .i64 opo] 53
      have HOB := Lib.hid hon; have HMa := Lib.hid (HMo.out.bel hal); have HBa := Lib.hid (HBo.out.trans (hal.mono HBo.out.size)); have HUa := Lib.hid (HUo.out.below hal); have HPa := Lib.hid (HPo.out.below hal)
      clear hon hal HMo HBo HUo HPo
      have uc0 := HUa.out.cell 0 (.string (bs sc)) rfl
      have uc1 := HUa.out.cell 1 (.string (bs ho)) rfl
      have uc2 := HUa.out.cell 2 (.int .i64 po) rfl
      have uc3 := HUa.out.cell 3 (.string (bs pa)) rfl
      have uc4 := HUa.out.cell 4 (.string (bs qu)) rfl
      have uc5 := HUa.out.cell 5 (.bool hq) rfl
      have pc0 := HPa.out.cell 0 (.int .i64 st) rfl
      have pc1 := HPa.out.cell 1 (.string re) rfl
      have pc2 := HPa.out.cell 2 (.int .i64 mi) rfl
      have pc3 := HPa.out.cell 3 (.slice A l.length c) rfl
      have pc4 := HPa.out.cell 4 (.string bo) rfl
      go_wp2_with fail
      refine (HCH.out _ (HWK.out _ HBa.out) (HFL.out.bel HBa.out)).mono ?_
      rintro r wc ⟨vX, rfl, hoX, hb⟩
      have hGK : GK w wo.heap.size mb #[.string (bs osc), .string (bs oho), .int .i64 opo] vX X wc (.slice none 0 0) [] [] :=
        ⟨ownS_nil _ _, HBa.out.trans (hb.mono HBa.out.size), hoX.ul, fun g hg => ⟨by simp [Value.ownBlock], (World.ownsRow.lt hoX g hg).2, fun e => by have h := (World.ownsRow.lt hoX g hg).1; rw [World.size_alloc] at h; have h2 := HMW.out; omega⟩, HOB.out.below hb, by simp [Value.ownBlock], fun e => by have h2 := HMW.out; omega, HMa.out.bel hb, by simp [Value.ownBlock], HML.out⟩
      obtain ⟨A2, c2, rfl⟩ := hoX.form
      have HGK := Lib.hid hGK
      clear hGK hoX hb HOB HMa HBa HUa HPa HMW HML pc0 pc1 pc2 pc3 pc4 uc0 uc1 uc2 uc3 uc4 uc5
      generalize wo.heap.size = ob at *
      go_wp2_with fail
      go_loopw [5, 30] (fun o i wr => ∃ k : Nat, k ≤ X.length ∧ i = .int .i64 k ∧ GK w ob mb #[.string (bs osc), .string (bs oho), .int .i64 opo] (.slice A2 X.length c2) X wr o ((X.take k).foldl (stepK og) []) ((X.take k).foldl (stepK og) [])) (fun _ i _ => X.length - (intOf i).toNat)
      case atStart => exact ⟨0, Nat.zero_le _, rfl, HGK.out⟩
      case round =>
        obtain ⟨k, hk, rfl, hgk⟩ := hrel
        have HK := Lib.hid hgk
        clear hgk HGK
        by_cases hlt : k < X.length
        · obtain ⟨b, off, rfl, hbb, e0, e1, e2, e3, e4, e5⟩ := HK.out.sX.get k hlt
          have HSK := Lib.hid (stepK_take og X hlt)
          have hxo := HXO.out X[k] (List.getElem_mem hlt)
          have HOX := Lib.hid (fun W (h : EnvU W) => originOf_any X[k] W h hxo)
          have HKX := Lib.hid (fun W (h : EnvU W) => keyOf_any X[k] W h hxo)
          have HKL := Lib.hid (key_short X[k])
          have HQL : Hid (((X.take k).foldl (stepK og) []).length ≤ 3000) := by
            have h1 := fold_len og (X.take k) []
            have h2 : (X.take k).length ≤ X.length := List.length_take_le' _ _
            have h3 := HXL.out
            show _ ≤ _
            simp only [List.length_nil] at h1
            omega
          have HSD : Hid (stepK og ((X.take k).foldl (stepK og) []) X[k] = if (X[k].normal.sc, X[k].normal.ho, X[k].normal.po) = og then putS ((X.take k).foldl (stepK og) []) (keyU X[k]) else (X.take k).foldl (stepK og) []) := rfl
          have hXo := HXL.out
          clear hxo
          generalize keyU X[k] = kx at *
          generalize X[k].normal.sc = nsc at *
          generalize X[k].normal.ho = nho at *
          generalize X[k].normal.po = npo at *
          generalize stepK og ((X.take k).foldl (stepK og) []) X[k] = nxt at *
          generalize (X.take k).foldl (stepK og) [] = acc at *
          generalize X[k] = x at *
          obtain ⟨xsc, xho, xpo, xpa, xqu, xhq⟩ := x
          simp only at HOX HKX e0 e1 e2 e3 e4 e5
          have hcmp := fun W => run_neqO nsc nho npo osc oho opo W
          rw [HOK.out] at HSD
          have hki : (k : Int) < (X.length : Int) := by omega
          go_wp2_with fail
          have hal : Below wr.heap.size wr (wr.alloc (.cells #[.string (bs xsc), .string (bs xho), .int .i64 xpo, .string (bs xpa), .string (bs xqu), .bool xhq] 23)) := (Below.refl _ _).alloc (Nat.le_refl _) _
          have hxn := ubk.new wr #[.string (bs xsc), .string (bs xho), .int .i64 xpo, .string (bs xpa), .string (bs xqu), .bool xhq] 23
          have HKC := Lib.hid (HK.out.call hal); have HXC := Lib.hid hxn
          clear hal hxn HK e0 e1 e2 e3 e4 e5 hbb
          generalize wr.heap.size = xb at *
          generalize wr.alloc (.cells #[.string (bs xsc), .string (bs xho), .int .i64 xpo, .string (bs xpa), .string (bs xqu), .bool xhq] 23) = C at *
          have hz0 : Below C.heap.size C C.drew := (Below.refl _ _).drew
          have HZ0 := Lib.hid hz0; clear hz0
          have HEC := Lib.hid (HWK.out _ HKC.out.bel)
          by_cases hor : (nsc, nho, npo) = (osc, oho, opo)
          · rw [decide_eq_true hor] at hcmp
            rw [if_pos hor] at HSD
            clear hor
            refine wp_region_growS (.one 0 false (.one 2 false (.one 1 true (.one 3 false .done))))
              (fun W => Below C.heap.size C W) (by kernel_rfl) (by kernel_rfl) rfl (by kernel_rfl) (by kernel_rfl) HZ0.out (fun ops hops => ?_)
            simp only [GT.ins, List.getD_cons_zero, List.getD_cons_succ]
            clear hops
            iterate 2
              refine growS_take (by rfl) ?_
              apply Exists.intro
              refine ⟨fun w' hE => ?_, ?_⟩
              · have yc0 := (HXC.out.below hE).cell 0 (.string (bs xsc)) rfl; have yc1 := (HXC.out.below hE).cell 1 (.string (bs xho)) rfl; have yc2 := (HXC.out.below hE).cell 2 (.int .i64 xpo) rfl; have yc3 := (HXC.out.below hE).cell 3 (.string (bs xpa)) rfl; have yc4 := (HXC.out.below hE).cell 4 (.string (bs xqu)) rfl; have yc5 := (HXC.out.below hE).cell 5 (.bool xhq) rfl; have zc0 := (HKC.out.ho.below hE).cell 0 (.string (bs osc)) rfl; have zc1 := (HKC.out.ho.below hE).cell 1 (.string (bs oho)) rfl; have zc2 := (HKC.out.ho.below hE).cell 2 (.int .i64 opo) rfl
                go_simp
                try with_reducible rfl
              simp only [Act.put, List.setIfInBounds_toArray, List.set_cons_zero, List.set_cons_succ]
            refine growS_call (by rfl) (fun K hK => ?_)
            go_simp
            refine (HOX.out _ (HEC.out.bel HZ0.out)).mono ?_
            rintro r z1 ⟨rfl, hb⟩
            have hz := HZ0.out.trans (hb.mono HZ0.out.size)
            refine hK.out _ _ hz ?_
            have HZ1 := Lib.hid hz
            clear hK K hb hz
            iterate 1
              refine growS_take (by rfl) ?_
              apply Exists.intro
              refine ⟨fun w' hE => ?_, ?_⟩
              · have yc0 := (HXC.out.below hE).cell 0 (.string (bs xsc)) rfl; have yc1 := (HXC.out.below hE).cell 1 (.string (bs xho)) rfl; have yc2 := (HXC.out.below hE).cell 2 (.int .i64 xpo) rfl; have yc3 := (HXC.out.below hE).cell 3 (.string (bs xpa)) rfl; have yc4 := (HXC.out.below hE).cell 4 (.string (bs xqu)) rfl; have yc5 := (HXC.out.below hE).cell 5 (.bool xhq) rfl; have zc0 := (HKC.out.ho.below hE).cell 0 (.string (bs osc)) rfl; have zc1 := (HKC.out.ho.below hE).cell 1 (.string (bs oho)) rfl; have zc2 := (HKC.out.ho.below hE).cell 2 (.int .i64 opo) rfl
                go_simp
                try with_reducible rfl
              simp only [Act.put, List.setIfInBounds_toArray, List.set_cons_zero, List.set_cons_succ]
            refine growS_done (NoPanic.normal ?_)
            have HK1 := Lib.hid (HKC.out.call HZ1.out); have HX1 := Lib.hid (HXC.out.below HZ1.out)
            clear HKC HXC HZ0 HZ1 HEC
            have HPS := Lib.hid (putS_any acc kx)
            cases hh : acc.any (· == kx)
            · rw [hh] at HPS
              simp only [Bool.false_eq_true, if_false] at HPS
              have xc0 := HX1.out.cell 0 (.string (bs xsc)) rfl
              have xc1 := HX1.out.cell 1 (.string (bs xho)) rfl
              have xc2 := HX1.out.cell 2 (.int .i64 xpo) rfl
              have xc3 := HX1.out.cell 3 (.string (bs xpa)) rfl
              have xc4 := HX1.out.cell 4 (.string (bs xqu)) rfl
              have xc5 := HX1.out.cell 5 (.bool xhq) rfl
              go_wp2_with (first
                | (go_at_call 25; refine (HKX.out _ (HWK.out _ HK1.out.bel)).mono ?_; rintro e w5 ⟨rfl, hb5⟩; have HK5 := Lib.hid (HK1.out.call hb5); have hlk := HK5.out.map.look kx (by have := HKL.out; unfold maxLen; omega); rw [hh] at hlk; have hal5 : Below w5.heap.size w5 (w5.alloc (.cells #[] 57)) := (Below.refl _ _).alloc (Nat.le_refl _) _; have HK6 := Lib.hid (HK5.out.call hal5); clear hal5 HK5 hb5 HK1 HX1 xc0 xc1 xc2 xc3 xc4 xc5; obtain ⟨w7, hrun, hm7, hg7⟩ := HK6.out.map.put kx (by have := HKL.out; unfold maxLen; omega) (by have := HQL.out; unfold maxLen; omega); have HK7 := Lib.hid (HK6.out.turn hg7 hm7); clear hm7 hg7 hh HK6)
                | (at_builtin; refine wpList_appNR rfl (.tmp 51) (.tmp 53) rfl (keepsK ob mb (.slice (some ⟨b, off, none⟩) X.length c2)) _ _ _ [] [] acc kx rfl HK7.out.nr HK7.out.guard rfl (by have := HQL.out; omega) ?_; intro v' w8 HNR8 HG8 HK8; have HKN := Lib.hid (HK7.out.put HNR8.out HG8.out HK8.out); clear HNR8 HG8 HK8 HK7))
              go_roundw
              case rel => exact ⟨k + 1, by omega, by go_num, by rw [HSK.out, HSD.out, HPS.out]; exact HKN.out⟩
              case measure => simp [intOf]; omega
            · rw [hh] at HPS
              simp only [if_true] at HPS
              have xc0 := HX1.out.cell 0 (.string (bs xsc)) rfl
              have xc1 := HX1.out.cell 1 (.string (bs xho)) rfl
              have xc2 := HX1.out.cell 2 (.int .i64 xpo) rfl
              have xc3 := HX1.out.cell 3 (.string (bs xpa)) rfl
              have xc4 := HX1.out.cell 4 (.string (bs xqu)) rfl
              have xc5 := HX1.out.cell 5 (.bool xhq) rfl
              go_wp2_with (go_at_call 25; refine (HKX.out _ (HWK.out _ HK1.out.bel)).mono ?_; rintro e w5 ⟨rfl, hb5⟩; have HK5 := Lib.hid (HK1.out.call hb5); have hlk := HK5.out.map.look kx (by have := HKL.out; unfold maxLen; omega); rw [hh] at hlk; have hal5 : Below w5.heap.size w5 (w5.alloc (.cells #[] 57)) := (Below.refl _ _).alloc (Nat.le_refl _) _; have HK6 := Lib.hid (HK5.out.call hal5); clear hal5 HK5 hb5 HK1 HX1 hh xc0 xc1 xc2 xc3 xc4 xc5)
              go_roundw
              case rel => exact ⟨k + 1, by omega, by go_num, by rw [HSK.out, HSD.out, HPS.out]; exact HK6.out⟩
              case measure => simp [intOf]; omega
          · rw [decide_eq_false hor] at hcmp
            rw [if_neg hor] at HSD
            clear hor
            refine wp_region_growS (.one 0 false (.one 2 false (.one 1 true (.one 3 false .done))))
              (fun W => Below C.heap.size C W) (by kernel_rfl) (by kernel_rfl) rfl (by kernel_rfl) (by kernel_rfl) HZ0.out (fun ops hops => ?_)
            simp only [GT.ins, List.getD_cons_zero, List.getD_cons_succ]
            clear hops
            iterate 2
              refine growS_take (by rfl) ?_
              apply Exists.intro
              refine ⟨fun w' hE => ?_, ?_⟩
              · have yc0 := (HXC.out.below hE).cell 0 (.string (bs xsc)) rfl; have yc1 := (HXC.out.below hE).cell 1 (.string (bs xho)) rfl; have yc2 := (HXC.out.below hE).cell 2 (.int .i64 xpo) rfl; have yc3 := (HXC.out.below hE).cell 3 (.string (bs xpa)) rfl; have yc4 := (HXC.out.below hE).cell 4 (.string (bs xqu)) rfl; have yc5 := (HXC.out.below hE).cell 5 (.bool xhq) rfl; have zc0 := (HKC.out.ho.below hE).cell 0 (.string (bs osc)) rfl; have zc1 := (HKC.out.ho.below hE).cell 1 (.string (bs oho)) rfl; have zc2 := (HKC.out.ho.below hE).cell 2 (.int .i64 opo) rfl
                go_simp
                try with_reducible rfl
              simp only [Act.put, List.setIfInBounds_toArray, List.set_cons_zero, List.set_cons_succ]
            refine growS_call (by rfl) (fun K hK => ?_)
            go_simp
            refine (HOX.out _ (HEC.out.bel HZ0.out)).mono ?_
            rintro r z1 ⟨rfl, hb⟩
            have hz := HZ0.out.trans (hb.mono HZ0.out.size)
            refine hK.out _ _ hz ?_
            have HZ1 := Lib.hid hz
            clear hK K hb hz
            iterate 1
              refine growS_take (by rfl) ?_
              apply Exists.intro
              refine ⟨fun w' hE => ?_, ?_⟩
              · have yc0 := (HXC.out.below hE).cell 0 (.string (bs xsc)) rfl; have yc1 := (HXC.out.below hE).cell 1 (.string (bs xho)) rfl; have yc2 := (HXC.out.below hE).cell 2 (.int .i64 xpo) rfl; have yc3 := (HXC.out.below hE).cell 3 (.string (bs xpa)) rfl; have yc4 := (HXC.out.below hE).cell 4 (.string (bs xqu)) rfl; have yc5 := (HXC.out.below hE).cell 5 (.bool xhq) rfl; have zc0 := (HKC.out.ho.below hE).cell 0 (.string (bs osc)) rfl; have zc1 := (HKC.out.ho.below hE).cell 1 (.string (bs oho)) rfl; have zc2 := (HKC.out.ho.below hE).cell 2 (.int .i64 opo) rfl
                go_simp
                try with_reducible rfl
              simp only [Act.put, List.setIfInBounds_toArray, List.set_cons_zero, List.set_cons_succ]
            refine growS_done (NoPanic.normal ?_)
            have HK1 := Lib.hid (HKC.out.call HZ1.out); have HX1 := Lib.hid (HXC.out.below HZ1.out)
            clear HKC HXC HZ0 HZ1 HEC
            go_wp2_with fail
            go_roundw
            case rel => exact ⟨k + 1, by omega, by go_num, by rw [HSK.out, HSD.out]; exact HK1.out⟩
            case measure => simp [intOf]; omega
        · have HE2 : Hid (X.take k = X) := List.take_of_length_le (by omega)
          go_wp2_with fail
          go_ret
          exact ⟨_, rfl, by rw [HKY.out, ← HE2.out]; exact HK.out.own, HK.out.bel⟩
    · rw [if_neg (fun h => hst h.2)]
      have HS2 : Hid (∀ W, Calls Tryz.prog 27 #[.int .i64 st] W fun r w' => r = .returned (.bool false) ∧ W = w') := fun W => by have h := HSU.out W; rwa [decide_eq_false hst] at h
      clear hst HSU hkb hmk
      have hal : Below w.heap.size w (w.alloc (.cells #[.string (bs sc), .string (bs ho), .int .i64 po, .string (bs pa), .string (bs qu), .bool hq] 23)) := (Below.refl _ _).alloc (Nat.le_refl _) _
      have HB1 := Lib.hid hal
      have hn := ubk.new w #[.string (bs sc), .string (bs ho), .int .i64 po, .string (bs pa), .string (bs qu), .bool hq] 23
      have HU1 := Lib.hid hn; clear hn
      clear hal
      have hal : Below (w.alloc (.cells #[.string (bs sc), .string (bs ho), .int .i64 po, .string (bs pa), .string (bs qu), .bool hq] 23)).heap.size (w.alloc (.cells #[.string (bs sc), .string (bs ho), .int .i64 po, .string (bs pa), .string (bs qu), .bool hq] 23)) ((w.alloc (.cells #[.string (bs sc), .string (bs ho), .int .i64 po, .string (bs pa), .string (bs qu), .bool hq] 23)).alloc (.cells #[.int .i64 st, .string re, .int .i64 mi, .slice A l.length c, .string bo] 31)) := (Below.refl _ _).alloc (Nat.le_refl _) _
      have HB2 := Lib.hid (HB1.out.trans (hal.mono HB1.out.size))
      have HU2 := Lib.hid (HU1.out.alloc (.cells #[.int .i64 st, .string re, .int .i64 mi, .slice A l.length c, .string bo] 31))
      have hn := ubk.new (w.alloc (.cells #[.string (bs sc), .string (bs ho), .int .i64 po, .string (bs pa), .string (bs qu), .bool hq] 23)) #[.int .i64 st, .string re, .int .i64 mi, .slice A l.length c, .string bo] 31
      rw [World.size_alloc] at hn
      have HP2 := Lib.hid hn; clear hn
      clear hal HB1 HU1
      go_enter Tryz.func16, Tryz.ntmps16
      have uc0 := HU2.out.cell 0 (.string (bs sc)) rfl
      have uc1 := HU2.out.cell 1 (.string (bs ho)) rfl
      have uc2 := HU2.out.cell 2 (.int .i64 po) rfl
      have uc3 := HU2.out.cell 3 (.string (bs pa)) rfl
      have uc4 := HU2.out.cell 4 (.string (bs qu)) rfl
      have uc5 := HU2.out.cell 5 (.bool hq) rfl
      go_wp2_with fail
      refine (HCK.out _ (HE.out.bel HB2.out)).mono ?_
      rintro r w3 ⟨rfl, hb⟩
      have HB3 := Lib.hid (HB2.out.trans (hb.mono HB2.out.size))
      have HU3 := Lib.hid (HU2.out.below hb)
      have HP3 := Lib.hid (HP2.out.below hb)
      clear hb HB2 HU2 HP2
      clear uc0 uc1 uc2 uc3 uc4 uc5
      have pc0 := HP3.out.cell 0 (.int .i64 st) rfl
      have pc1 := HP3.out.cell 1 (.string re) rfl
      have pc2 := HP3.out.cell 2 (.int .i64 mi) rfl
      have pc3 := HP3.out.cell 3 (.slice A l.length c) rfl
      have pc4 := HP3.out.cell 4 (.string bo) rfl
      have uc0 := HU3.out.cell 0 (.string (bs sc)) rfl
      have uc1 := HU3.out.cell 1 (.string (bs ho)) rfl
      have uc2 := HU3.out.cell 2 (.int .i64 po) rfl
      have uc3 := HU3.out.cell 3 (.string (bs pa)) rfl
      have uc4 := HU3.out.cell 4 (.string (bs qu)) rfl
      have uc5 := HU3.out.cell 5 (.bool hq) rfl
      go_wp2_with fail
      refine (HS2.out _).mono ?_
      rintro r wx ⟨rfl, rfl⟩
      go_wp2_with fail
      go_ret
      exact ⟨_, rfl, ownS_nil _ _, HB3.out⟩
  · rw [if_neg (fun h => hck h.1)]
    have hkb : (ck != 0) = true := bne_iff_ne.2 hck
    clear hck hmk
    have hal : Below w.heap.size w (w.alloc (.cells #[.string (bs sc), .string (bs ho), .int .i64 po, .string (bs pa), .string (bs qu), .bool hq] 23)) := (Below.refl _ _).alloc (Nat.le_refl _) _
    have HB1 := Lib.hid hal
    have hn := ubk.new w #[.string (bs sc), .string (bs ho), .int .i64 po, .string (bs pa), .string (bs qu), .bool hq] 23
    have HU1 := Lib.hid hn; clear hn
    clear hal
    have hal : Below (w.alloc (.cells #[.string (bs sc), .string (bs ho), .int .i64 po, .string (bs pa), .string (bs qu), .bool hq] 23)).heap.size (w.alloc (.cells #[.string (bs sc), .string (bs ho), .int .i64 po, .string (bs pa), .string (bs qu), .bool hq] 23)) ((w.alloc (.cells #[.string (bs sc), .string (bs ho), .int .i64 po, .string (bs pa), .string (bs qu), .bool hq] 23)).alloc (.cells #[.int .i64 st, .string re, .int .i64 mi, .slice A l.length c, .string bo] 31)) := (Below.refl _ _).alloc (Nat.le_refl _) _
    have HB2 := Lib.hid (HB1.out.trans (hal.mono HB1.out.size))
    have HU2 := Lib.hid (HU1.out.alloc (.cells #[.int .i64 st, .string re, .int .i64 mi, .slice A l.length c, .string bo] 31))
    have hn := ubk.new (w.alloc (.cells #[.string (bs sc), .string (bs ho), .int .i64 po, .string (bs pa), .string (bs qu), .bool hq] 23)) #[.int .i64 st, .string re, .int .i64 mi, .slice A l.length c, .string bo] 31
    rw [World.size_alloc] at hn
    have HP2 := Lib.hid hn; clear hn
    clear hal HB1 HU1
    go_enter Tryz.func16, Tryz.ntmps16
    have uc0 := HU2.out.cell 0 (.string (bs sc)) rfl
    have uc1 := HU2.out.cell 1 (.string (bs ho)) rfl
    have uc2 := HU2.out.cell 2 (.int .i64 po) rfl
    have uc3 := HU2.out.cell 3 (.string (bs pa)) rfl
    have uc4 := HU2.out.cell 4 (.string (bs qu)) rfl
    have uc5 := HU2.out.cell 5 (.bool hq) rfl
    go_wp2_with fail
    refine (HCK.out _ (HE.out.bel HB2.out)).mono ?_
    rintro r w3 ⟨rfl, hb⟩
    have HB3 := Lib.hid (HB2.out.trans (hb.mono HB2.out.size))
    have HU3 := Lib.hid (HU2.out.below hb)
    have HP3 := Lib.hid (HP2.out.below hb)
    clear hb HB2 HU2 HP2
    clear uc0 uc1 uc2 uc3 uc4 uc5
    have pc0 := HP3.out.cell 0 (.int .i64 st) rfl
    have pc1 := HP3.out.cell 1 (.string re) rfl
    have pc2 := HP3.out.cell 2 (.int .i64 mi) rfl
    have pc3 := HP3.out.cell 3 (.slice A l.length c) rfl
    have pc4 := HP3.out.cell 4 (.string bo) rfl
    have uc0 := HU3.out.cell 0 (.string (bs sc)) rfl
    have uc1 := HU3.out.cell 1 (.string (bs ho)) rfl
    have uc2 := HU3.out.cell 2 (.int .i64 po) rfl
    have uc3 := HU3.out.cell 3 (.string (bs pa)) rfl
    have uc4 := HU3.out.cell 4 (.string (bs qu)) rfl
    have uc5 := HU3.out.cell 5 (.bool hq) rfl
    go_wp2_with fail
    go_ret
    exact ⟨_, rfl, ownS_nil _ _, HB3.out⟩
end Go.Proofs.YtnpiaifkeddjeaaGreatDoor
