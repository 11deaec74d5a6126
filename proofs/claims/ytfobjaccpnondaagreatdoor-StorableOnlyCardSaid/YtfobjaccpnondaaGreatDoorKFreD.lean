/- The life of an entry: the rules, one behind the other. -/
import Derived.Test.YtfobjaccpnondaaGreatDoorKFre
import Derived.Test.YtfobjaccpnondaaGreatDoorKOpen
import Derived.Deep.LoopGhost
import Derived.WalkMore
namespace Go.Proofs.YtfobjaccpnondaaGreatDoor
open Go.RowKit Go.Shelf

theorem wp_meetV {P : Program} {c : Code} {Q : Exit → Act → World → Prop} {a : Act} {w : World} {act : Nat → Value → Option Addr → Nat → Act} (Good : Nat → Value → Option Addr → Nat → World → Prop)
    (h1 : c.wp P (fun e a' w' => ∃ g v u k, e = .normal ∧ a' = act g v u k ∧ Good g v u k w') a w)
    (h2 : ∀ g v u k w', Good g v u k w' → Q .normal (act g v u k) w') : c.wp P Q a w :=
  Code.wp_mono (by rintro e a' w' ⟨g, v, u, k, rfl, rfl, h⟩; exact h2 g v u k w' h) h1
theorem dbk.cells {w : World} {b : Nat} {cs : Array Value} (h : dbk w b cs) (j : Nat) : w.cell? ⟨b, j, none⟩ = cs[j]? := by
  obtain ⟨T, hT⟩ := h
  unfold World.cell?
  simp [hT]
theorem dbk.hit {w : World} {b j : Nat} {cs : Array Value} {v : Value} (h : dbk w b cs) (hc : w.cell? ⟨b, j, none⟩ = some v) : cs[j]? = some v := by rw [← h.cells j]; exact hc
/-- directives lie in no block of a stored entry's zeros -/
theorem DL.apart {w w' : World} {v : Value} {l : List Dv} {g : Nat} (h : DL w v l) (hz : dbk w g #[.int .i64 0, .string ⟨#[]⟩, .int .i64 0, .slice none 0 0, .string ⟨#[]⟩, .int .i64 0, .int .i64 0, .slice none 0 0, .bool false, .bool false, .bool false, .bool false, .int .i64 0, .int .i64 0, .slice none 0 0]) (hs : w'.heap.size = w.heap.size) (hk : ∀ b, b ≠ g → w'.heap[b]? = w.heap[b]?) : DL w' v l := by
  rcases h with ⟨rfl, A, c, rfl⟩ | ⟨b, off, c, rfl, hb, hc⟩
  · exact .inl ⟨rfl, A, c, rfl⟩
  · cases l with
    | nil => exact .inl ⟨rfl, _, _, rfl⟩
    | cons d l =>
      have hne : b ≠ g := by
        rintro rfl
        obtain ⟨c0, c1, c2, c3⟩ := hc 0 (by simp)
        rw [Nat.zero_mul, Nat.add_zero] at c0 c1
        have e0 := hz.hit c0
        have e1 := hz.hit c1
        have hlt : off < 15 := by
          rcases Nat.lt_or_ge off 15 with h | h
          · exact h
          · rw [Array.getElem?_eq_none (by simpa using h)] at e0; cases e0
        rcases (by omega : off = 0 ∨ off = 1 ∨ off = 2 ∨ off = 3 ∨ off = 4 ∨ off = 5 ∨ off = 6 ∨ off = 7 ∨ off = 8 ∨ off = 9 ∨ off = 10 ∨ off = 11 ∨ off = 12 ∨ off = 13 ∨ off = 14) with rfl | rfl | rfl | rfl | rfl | rfl | rfl | rfl | rfl | rfl | rfl | rfl | rfl | rfl | rfl <;> first | (simp at e0; done) | (simp at e1; done)
      refine .inr ⟨b, off, c, rfl, by rw [hs]; exact hb, fun j hj => ?_⟩
      have h := hc j hj
      unfold World.cell? at h ⊢
      simp only at h ⊢
      rw [hk b hne]
      exact h
variable {st mi asked got Y : Int} {re bo : ByteArray} {fs : Value} {vA : Option Addr} {vn vc : Nat} {l : List Fld}

set_option maxRecDepth 100000 in
set_option maxHeartbeats 8000000 in
theorem life_any (dev : List UInt8) (w : World) (h : EnW w fs l asked got Y) :
    Calls Tryz.prog 45 #[.agg #[.int .i64 st, .string re, .int .i64 mi, fs, .string bo, .int .i64 asked, .int .i64 got, .slice vA vn vc], .string (bs dev)] w fun e w' => e = .returned (.int .i64 (lifeI Y l got dev)) ∧ Below w.heap.size w w' := by
  have hx : Below w.heap.size w (w.alloc (.cells #[.int .i64 st, .string re, .int .i64 mi, fs, .string bo, .int .i64 asked, .int .i64 got, .slice vA vn vc] 28)) := (Below.refl _ _).alloc (Nat.le_refl _) _
  have hd := dbk.new w #[.int .i64 st, .string re, .int .i64 mi, fs, .string bo, .int .i64 asked, .int .i64 got, .slice vA vn vc] 28
  have hct := fun W (h : EnW W fs l asked got Y) => fctl_any (st := st) (mi := mi) (re := re) (bo := bo) (vA := vA) (vn := vn) (vc := vc) dev W h
  have hva := fun W (h : EnW W fs l asked got Y) => values_any fs l ccN W h.fl h.fe.small (by have := h.fe.1; omega) (by decide)
  obtain ⟨hf1, hf2⟩ := h.fe.vals ccN
  have hli := fun W v (hm : MaxD W) (hv : SL W v (valsL l ccN)) => listD_any v (valsL l ccN) W hm hv (fun x hx => by have := hf2 x hx; omega) (by omega)
  have hde : dirsAll (valsL l ccN) = dirsE l := rfl
  rw [hde] at hli
  have hlf : firstI (((rulesF (ctlE l dev) (dirsE l) Y l got).drop 0).flatMap pairs) = lifeI Y l got dev := rfl
  obtain ⟨fA, fc, rfl⟩ := h.fl.form
  have HCT := Lib.hid hct; have HVA := Lib.hid hva; have HLI := Lib.hid hli; have HLF := Lib.hid hlf; have HX := Lib.hid hx; have HD := Lib.hid hd; have HEC := Lib.hid (h.bel hx)
  clear hx hd h hct hva hli hde hlf hf1 hf2
  generalize ctlE l dev = c at *
  generalize lifeI Y l got dev = N at *
  generalize valsL l ccN = L at *
  go_enter Tryz.func45, Tryz.ntmps45
  go_wp2_with fail
  go_step3
  go_wp2_with fail
  generalize w.alloc (.cells #[.int .i64 st, .string re, .int .i64 mi, .slice fA l.length fc, .string bo, .int .i64 asked, .int .i64 got, .slice vA vn vc] 28) = C at *
  apply wp_meetV (fun g v ua uc W => dbk W g #[.int .i64 st, .string re, .int .i64 mi, .slice fA l.length fc, .string bo, .int .i64 asked, .int .i64 got, .slice vA vn vc, .bool c.1, .bool c.2.1, .bool c.2.2.1, .bool c.2.2.2.1, .int .i64 c.2.2.2.2.1, .int .i64 c.2.2.2.2.2, .slice ua (dirsE l).length uc] ∧ DL W (.slice ua (dirsE l).length uc) (dirsE l) ∧ Below C.heap.size C W)
  case h1 =>
    refine wp_region_growS (.one 0 false (.one 1 false (.one 2 false (.one 4 false (.one 5 false (.one 6 false (.two 3 10 (.two 7 10 (.two 8 10 (.one 9 false (.one 10 true (.one 11 true .done))) (.one 8 true (.one 9 false (.one 11 true .done)))) (.one 7 true (.one 8 true (.one 9 false (.one 11 true .done))))) (.one 3 true (.one 7 true (.one 8 true (.one 9 false (.one 11 true .done))))))))))))
      (fun W => Below C.heap.size C W) (by kernel_rfl) (by kernel_rfl) rfl (by kernel_rfl) (by kernel_rfl) ((Below.refl _ _).drew) (fun ops hops => ?_)
    simp only [GT.ins, List.getD_cons_zero, List.getD_cons_succ]
    clear hops
    iterate 6
      refine growS_take (by rfl) ?_
      apply Exists.intro
      refine ⟨fun w' hE => ?_, ?_⟩
      · obtain ⟨y0, y1, y2, y3, y4, y5, y6, y7⟩ := (HD.out.below hE).eight
        go_simp
        try with_reducible rfl
      simp only [Act.put, List.setIfInBounds_toArray, List.set_cons_zero, List.set_cons_succ]
    refine growS_two (by rfl) (by rfl) (fun K hK => ?_) (fun K hK => ?_)
    · go_simp
      refine (HCT.out _ (HEC.out.bel ((Below.refl _ _).drew : Below C.heap.size C C.drew))).mono ?_
      rintro en z1 ⟨rfl, hb2⟩
      have hE2 : Below C.heap.size C z1 := ((Below.refl _ _).drew : Below C.heap.size C C.drew).trans (hb2.mono ((Below.refl _ _).drew : Below C.heap.size C C.drew).size)
      refine hK.out _ _ hE2 ?_
      have HE1 := Lib.hid hE2
      clear hK K hb2 hE2
      refine growS_two (by rfl) (by rfl) (fun K hK => ?_) (fun K hK => ?_)
      · go_simp
        refine (HVA.out _ (HEC.out.bel HE1.out)).mono ?_
        rintro en z2 ⟨v9, rfl, ho2, hb2⟩
        have hov := ho2.sl
        have hE2 : Below C.heap.size C z2 := HE1.out.trans (hb2.mono HE1.out.size)
        refine hK.out _ _ hE2 ?_
        have HE2 := Lib.hid hE2
        have HV2 := Lib.hid hov; clear hov ho2
        clear hK K hb2 hE2
        refine growS_two (by rfl) (by rfl) (fun K hK => ?_) (fun K hK => ?_)
        · go_simp
          refine (HLI.out _ _ (HEC.out.bel HE2.out).mx HV2.out).mono ?_
          rintro en z3 ⟨u9, rfl, ho2, hb2⟩
          have hou := ho2.dl
          clear ho2
          obtain ⟨ua, uc, rfl⟩ := hou.form
          have hE2 : Below C.heap.size C z3 := HE2.out.trans (hb2.mono HE2.out.size)
          refine hK.out _ _ hE2 ?_
          have HE3 := Lib.hid hE2
          have HV3 := Lib.hid (HV2.out.bel hb2)
          have HU3 := Lib.hid hou; clear hou
          clear hK K hb2 hE2
          iterate 1
            refine growS_take (by rfl) ?_
            apply Exists.intro
            refine ⟨fun w' hE => ?_, ?_⟩
            · obtain ⟨y0, y1, y2, y3, y4, y5, y6, y7⟩ := (HD.out.below hE).eight
              go_simp
              try with_reducible rfl
            simp only [Act.put, List.setIfInBounds_toArray, List.set_cons_zero, List.set_cons_succ]
          refine growS_call (by rfl) (fun K hK => ?_)
          go_simp
          have hd1 : Below z3.heap.size z3 (z3.alloc (.cells #[.int .i64 0, .string ⟨#[]⟩, .int .i64 0, .slice none 0 0, .string ⟨#[]⟩, .int .i64 0, .int .i64 0, .slice none 0 0, .bool false, .bool false, .bool false, .bool false, .int .i64 0, .int .i64 0, .slice none 0 0] 119)) := (Below.refl _ _).alloc (Nat.le_refl _) _
          have hE2 : Below C.heap.size C (z3.alloc (.cells #[.int .i64 0, .string ⟨#[]⟩, .int .i64 0, .slice none 0 0, .string ⟨#[]⟩, .int .i64 0, .int .i64 0, .slice none 0 0, .bool false, .bool false, .bool false, .bool false, .int .i64 0, .int .i64 0, .slice none 0 0] 119)) := HE3.out.trans (hd1.mono HE3.out.size)
          have hz1 := dbk.new z3 #[.int .i64 0, .string ⟨#[]⟩, .int .i64 0, .slice none 0 0, .string ⟨#[]⟩, .int .i64 0, .int .i64 0, .slice none 0 0, .bool false, .bool false, .bool false, .bool false, .int .i64 0, .int .i64 0, .slice none 0 0] 119
          have hgl := HE3.out.size
          refine hK.out _ _ hE2 ?_
          have HE4 := Lib.hid hE2; have HZ4 := Lib.hid hz1; have HGL := Lib.hid hgl
          have HV4 := Lib.hid (HV3.out.bel hd1)
          have HU4 := Lib.hid (HU3.out.bel hd1)
          clear hK K hd1 hz1 hE2 hgl
          generalize (z3.alloc (.cells #[.int .i64 0, .string ⟨#[]⟩, .int .i64 0, .slice none 0 0, .string ⟨#[]⟩, .int .i64 0, .int .i64 0, .slice none 0 0, .bool false, .bool false, .bool false, .bool false, .int .i64 0, .int .i64 0, .slice none 0 0] 119)) = z4 at *
          generalize z3.heap.size = g at HZ4 HGL ⊢
          have nc0 := HZ4.out.cell 0 (.int .i64 0) rfl
          have nf0 := HZ4.out.free 0
          have nc1 := HZ4.out.cell 1 (.string ⟨#[]⟩) rfl
          have nf1 := HZ4.out.free 1
          have nc2 := HZ4.out.cell 2 (.int .i64 0) rfl
          have nf2 := HZ4.out.free 2
          have nc3 := HZ4.out.cell 3 (.slice none 0 0) rfl
          have nf3 := HZ4.out.free 3
          have nc4 := HZ4.out.cell 4 (.string ⟨#[]⟩) rfl
          have nf4 := HZ4.out.free 4
          have nc5 := HZ4.out.cell 5 (.int .i64 0) rfl
          have nf5 := HZ4.out.free 5
          have nc6 := HZ4.out.cell 6 (.int .i64 0) rfl
          have nf6 := HZ4.out.free 6
          have nc7 := HZ4.out.cell 7 (.slice none 0 0) rfl
          have nf7 := HZ4.out.free 7
          have nc8 := HZ4.out.cell 8 (.bool false) rfl
          have nf8 := HZ4.out.free 8
          have nc9 := HZ4.out.cell 9 (.bool false) rfl
          have nf9 := HZ4.out.free 9
          have nc10 := HZ4.out.cell 10 (.bool false) rfl
          have nf10 := HZ4.out.free 10
          have nc11 := HZ4.out.cell 11 (.bool false) rfl
          have nf11 := HZ4.out.free 11
          have nc12 := HZ4.out.cell 12 (.int .i64 0) rfl
          have nf12 := HZ4.out.free 12
          have nc13 := HZ4.out.cell 13 (.int .i64 0) rfl
          have nf13 := HZ4.out.free 13
          have nc14 := HZ4.out.cell 14 (.slice none 0 0) rfl
          have nf14 := HZ4.out.free 14
          have hq0 := (((((((((((((((HZ4.out.set 0 (.int .i64 st)).set 1 (.string re)).set 2 (.int .i64 mi)).set 3 (.slice fA l.length fc)).set 4 (.string bo)).set 5 (.int .i64 asked)).set 6 (.int .i64 got)).set 7 (.slice vA vn vc)).set 8 (.bool c.1)).set 9 (.bool c.2.1)).set 10 (.bool c.2.2.1)).set 11 (.bool c.2.2.2.1)).set 12 (.int .i64 c.2.2.2.2.1)).set 13 (.int .i64 c.2.2.2.2.2)).set 14 (.slice ua (dirsE l).length uc))
          simp only [List.setIfInBounds_toArray, List.set_cons_zero, List.set_cons_succ] at hq0
          have HQ0 := Lib.hid hq0; clear hq0
          have hE9 := (((((((((((((((HE4.out.setCell (p := ⟨g, 0, none⟩) HGL.out (.int .i64 st)).setCell (p := ⟨g, 1, none⟩) HGL.out (.string re)).setCell (p := ⟨g, 2, none⟩) HGL.out (.int .i64 mi)).setCell (p := ⟨g, 3, none⟩) HGL.out (.slice fA l.length fc)).setCell (p := ⟨g, 4, none⟩) HGL.out (.string bo)).setCell (p := ⟨g, 5, none⟩) HGL.out (.int .i64 asked)).setCell (p := ⟨g, 6, none⟩) HGL.out (.int .i64 got)).setCell (p := ⟨g, 7, none⟩) HGL.out (.slice vA vn vc)).setCell (p := ⟨g, 8, none⟩) HGL.out (.bool c.1)).setCell (p := ⟨g, 9, none⟩) HGL.out (.bool c.2.1)).setCell (p := ⟨g, 10, none⟩) HGL.out (.bool c.2.2.1)).setCell (p := ⟨g, 11, none⟩) HGL.out (.bool c.2.2.2.1)).setCell (p := ⟨g, 12, none⟩) HGL.out (.int .i64 c.2.2.2.2.1)).setCell (p := ⟨g, 13, none⟩) HGL.out (.int .i64 c.2.2.2.2.2)).setCell (p := ⟨g, 14, none⟩) HGL.out (.slice ua (dirsE l).length uc))
          have HE9 := Lib.hid hE9; clear hE9
          have HU9 : Hid (DL (((((((((((((((z4.setCell ⟨g, 0, none⟩ (.int .i64 st)).setCell ⟨g, 1, none⟩ (.string re)).setCell ⟨g, 2, none⟩ (.int .i64 mi)).setCell ⟨g, 3, none⟩ (.slice fA l.length fc)).setCell ⟨g, 4, none⟩ (.string bo)).setCell ⟨g, 5, none⟩ (.int .i64 asked)).setCell ⟨g, 6, none⟩ (.int .i64 got)).setCell ⟨g, 7, none⟩ (.slice vA vn vc)).setCell ⟨g, 8, none⟩ (.bool c.1)).setCell ⟨g, 9, none⟩ (.bool c.2.1)).setCell ⟨g, 10, none⟩ (.bool c.2.2.1)).setCell ⟨g, 11, none⟩ (.bool c.2.2.2.1)).setCell ⟨g, 12, none⟩ (.int .i64 c.2.2.2.2.1)).setCell ⟨g, 13, none⟩ (.int .i64 c.2.2.2.2.2)).setCell ⟨g, 14, none⟩ (.slice ua (dirsE l).length uc)) (.slice ua (dirsE l).length uc) (dirsE l)) := HU4.out.apart HZ4.out (by simp [World.setCell]) (fun b hb => by repeat rw [Below.heap_setCell _ _ _ _ (by simpa using hb)])
          refine growS_call (by rfl) (fun K hK => ?_)
          go_simp
          refine hK.out _ _ HE9.out ?_
          clear hK K
          refine growS_done (NoPanic.normal ?_)
          exact ⟨g, v9, ua, uc, rfl, rfl, HQ0.out, HU9.out, HE9.out⟩
        · go_simp
          have hd1 : Below z2.heap.size z2 (z2.alloc (.cells #[.int .i64 0, .string ⟨#[]⟩, .int .i64 0, .slice none 0 0, .string ⟨#[]⟩, .int .i64 0, .int .i64 0, .slice none 0 0, .bool false, .bool false, .bool false, .bool false, .int .i64 0, .int .i64 0, .slice none 0 0] 119)) := (Below.refl _ _).alloc (Nat.le_refl _) _
          have hE2 : Below C.heap.size C (z2.alloc (.cells #[.int .i64 0, .string ⟨#[]⟩, .int .i64 0, .slice none 0 0, .string ⟨#[]⟩, .int .i64 0, .int .i64 0, .slice none 0 0, .bool false, .bool false, .bool false, .bool false, .int .i64 0, .int .i64 0, .slice none 0 0] 119)) := HE2.out.trans (hd1.mono HE2.out.size)
          have hz1 := dbk.new z2 #[.int .i64 0, .string ⟨#[]⟩, .int .i64 0, .slice none 0 0, .string ⟨#[]⟩, .int .i64 0, .int .i64 0, .slice none 0 0, .bool false, .bool false, .bool false, .bool false, .int .i64 0, .int .i64 0, .slice none 0 0] 119
          have hgl := HE2.out.size
          refine hK.out _ _ hE2 ?_
          have HE5 := Lib.hid hE2; have HZ5 := Lib.hid hz1; have HGL := Lib.hid hgl
          have HV5 := Lib.hid (HV2.out.bel hd1)
          clear hK K hd1 hz1 hE2 hgl
          generalize (z2.alloc (.cells #[.int .i64 0, .string ⟨#[]⟩, .int .i64 0, .slice none 0 0, .string ⟨#[]⟩, .int .i64 0, .int .i64 0, .slice none 0 0, .bool false, .bool false, .bool false, .bool false, .int .i64 0, .int .i64 0, .slice none 0 0] 119)) = z5 at *
          generalize z2.heap.size = g at HZ5 HGL ⊢
          refine growS_call (by rfl) (fun K hK => ?_)
          go_simp
          refine (HLI.out _ _ (HEC.out.bel HE5.out).mx HV5.out).mono ?_
          rintro en z6 ⟨u9, rfl, ho2, hb2⟩
          have hou := ho2.dl
          clear ho2
          obtain ⟨ua, uc, rfl⟩ := hou.form
          have hE2 : Below C.heap.size C z6 := HE5.out.trans (hb2.mono HE5.out.size)
          refine hK.out _ _ hE2 ?_
          have HE6 := Lib.hid hE2
          have HZ6 := Lib.hid (HZ5.out.below hb2)
          have HV6 := Lib.hid (HV5.out.bel hb2)
          have HU6 := Lib.hid hou; clear hou
          clear hK K hb2 hE2
          iterate 1
            refine growS_take (by rfl) ?_
            apply Exists.intro
            refine ⟨fun w' hE => ?_, ?_⟩
            · obtain ⟨y0, y1, y2, y3, y4, y5, y6, y7⟩ := (HD.out.below hE).eight
              go_simp
              try with_reducible rfl
            simp only [Act.put, List.setIfInBounds_toArray, List.set_cons_zero, List.set_cons_succ]
          have nc0 := HZ6.out.cell 0 (.int .i64 0) rfl
          have nf0 := HZ6.out.free 0
          have nc1 := HZ6.out.cell 1 (.string ⟨#[]⟩) rfl
          have nf1 := HZ6.out.free 1
          have nc2 := HZ6.out.cell 2 (.int .i64 0) rfl
          have nf2 := HZ6.out.free 2
          have nc3 := HZ6.out.cell 3 (.slice none 0 0) rfl
          have nf3 := HZ6.out.free 3
          have nc4 := HZ6.out.cell 4 (.string ⟨#[]⟩) rfl
          have nf4 := HZ6.out.free 4
          have nc5 := HZ6.out.cell 5 (.int .i64 0) rfl
          have nf5 := HZ6.out.free 5
          have nc6 := HZ6.out.cell 6 (.int .i64 0) rfl
          have nf6 := HZ6.out.free 6
          have nc7 := HZ6.out.cell 7 (.slice none 0 0) rfl
          have nf7 := HZ6.out.free 7
          have nc8 := HZ6.out.cell 8 (.bool false) rfl
          have nf8 := HZ6.out.free 8
          have nc9 := HZ6.out.cell 9 (.bool false) rfl
          have nf9 := HZ6.out.free 9
          have nc10 := HZ6.out.cell 10 (.bool false) rfl
          have nf10 := HZ6.out.free 10
          have nc11 := HZ6.out.cell 11 (.bool false) rfl
          have nf11 := HZ6.out.free 11
          have nc12 := HZ6.out.cell 12 (.int .i64 0) rfl
          have nf12 := HZ6.out.free 12
          have nc13 := HZ6.out.cell 13 (.int .i64 0) rfl
          have nf13 := HZ6.out.free 13
          have nc14 := HZ6.out.cell 14 (.slice none 0 0) rfl
          have nf14 := HZ6.out.free 14
          have hq0 := (((((((((((((((HZ6.out.set 0 (.int .i64 st)).set 1 (.string re)).set 2 (.int .i64 mi)).set 3 (.slice fA l.length fc)).set 4 (.string bo)).set 5 (.int .i64 asked)).set 6 (.int .i64 got)).set 7 (.slice vA vn vc)).set 8 (.bool c.1)).set 9 (.bool c.2.1)).set 10 (.bool c.2.2.1)).set 11 (.bool c.2.2.2.1)).set 12 (.int .i64 c.2.2.2.2.1)).set 13 (.int .i64 c.2.2.2.2.2)).set 14 (.slice ua (dirsE l).length uc))
          simp only [List.setIfInBounds_toArray, List.set_cons_zero, List.set_cons_succ] at hq0
          have HQ0 := Lib.hid hq0; clear hq0
          have hE9 := (((((((((((((((HE6.out.setCell (p := ⟨g, 0, none⟩) HGL.out (.int .i64 st)).setCell (p := ⟨g, 1, none⟩) HGL.out (.string re)).setCell (p := ⟨g, 2, none⟩) HGL.out (.int .i64 mi)).setCell (p := ⟨g, 3, none⟩) HGL.out (.slice fA l.length fc)).setCell (p := ⟨g, 4, none⟩) HGL.out (.string bo)).setCell (p := ⟨g, 5, none⟩) HGL.out (.int .i64 asked)).setCell (p := ⟨g, 6, none⟩) HGL.out (.int .i64 got)).setCell (p := ⟨g, 7, none⟩) HGL.out (.slice vA vn vc)).setCell (p := ⟨g, 8, none⟩) HGL.out (.bool c.1)).setCell (p := ⟨g, 9, none⟩) HGL.out (.bool c.2.1)).setCell (p := ⟨g, 10, none⟩) HGL.out (.bool c.2.2.1)).setCell (p := ⟨g, 11, none⟩) HGL.out (.bool c.2.2.2.1)).setCell (p := ⟨g, 12, none⟩) HGL.out (.int .i64 c.2.2.2.2.1)).setCell (p := ⟨g, 13, none⟩) HGL.out (.int .i64 c.2.2.2.2.2)).setCell (p := ⟨g, 14, none⟩) HGL.out (.slice ua (dirsE l).length uc))
          have HE9 := Lib.hid hE9; clear hE9
          have HU9 : Hid (DL (((((((((((((((z6.setCell ⟨g, 0, none⟩ (.int .i64 st)).setCell ⟨g, 1, none⟩ (.string re)).setCell ⟨g, 2, none⟩ (.int .i64 mi)).setCell ⟨g, 3, none⟩ (.slice fA l.length fc)).setCell ⟨g, 4, none⟩ (.string bo)).setCell ⟨g, 5, none⟩ (.int .i64 asked)).setCell ⟨g, 6, none⟩ (.int .i64 got)).setCell ⟨g, 7, none⟩ (.slice vA vn vc)).setCell ⟨g, 8, none⟩ (.bool c.1)).setCell ⟨g, 9, none⟩ (.bool c.2.1)).setCell ⟨g, 10, none⟩ (.bool c.2.2.1)).setCell ⟨g, 11, none⟩ (.bool c.2.2.2.1)).setCell ⟨g, 12, none⟩ (.int .i64 c.2.2.2.2.1)).setCell ⟨g, 13, none⟩ (.int .i64 c.2.2.2.2.2)).setCell ⟨g, 14, none⟩ (.slice ua (dirsE l).length uc)) (.slice ua (dirsE l).length uc) (dirsE l)) := HU6.out.apart HZ6.out (by simp [World.setCell]) (fun b hb => by repeat rw [Below.heap_setCell _ _ _ _ (by simpa using hb)])
          refine growS_call (by rfl) (fun K hK => ?_)
          go_simp
          refine hK.out _ _ HE9.out ?_
          clear hK K
          refine growS_done (NoPanic.normal ?_)
          exact ⟨g, v9, ua, uc, rfl, rfl, HQ0.out, HU9.out, HE9.out⟩
      · go_simp
        have hd1 : Below z1.heap.size z1 (z1.alloc (.cells #[.int .i64 0, .string ⟨#[]⟩, .int .i64 0, .slice none 0 0, .string ⟨#[]⟩, .int .i64 0, .int .i64 0, .slice none 0 0, .bool false, .bool false, .bool false, .bool false, .int .i64 0, .int .i64 0, .slice none 0 0] 119)) := (Below.refl _ _).alloc (Nat.le_refl _) _
        have hE2 : Below C.heap.size C (z1.alloc (.cells #[.int .i64 0, .string ⟨#[]⟩, .int .i64 0, .slice none 0 0, .string ⟨#[]⟩, .int .i64 0, .int .i64 0, .slice none 0 0, .bool false, .bool false, .bool false, .bool false, .int .i64 0, .int .i64 0, .slice none 0 0] 119)) := HE1.out.trans (hd1.mono HE1.out.size)
        have hz1 := dbk.new z1 #[.int .i64 0, .string ⟨#[]⟩, .int .i64 0, .slice none 0 0, .string ⟨#[]⟩, .int .i64 0, .int .i64 0, .slice none 0 0, .bool false, .bool false, .bool false, .bool false, .int .i64 0, .int .i64 0, .slice none 0 0] 119
        have hgl := HE1.out.size
        refine hK.out _ _ hE2 ?_
        have HE7 := Lib.hid hE2; have HZ7 := Lib.hid hz1; have HGL := Lib.hid hgl
        clear hK K hd1 hz1 hE2 hgl
        generalize (z1.alloc (.cells #[.int .i64 0, .string ⟨#[]⟩, .int .i64 0, .slice none 0 0, .string ⟨#[]⟩, .int .i64 0, .int .i64 0, .slice none 0 0, .bool false, .bool false, .bool false, .bool false, .int .i64 0, .int .i64 0, .slice none 0 0] 119)) = z7 at *
        generalize z1.heap.size = g at HZ7 HGL ⊢
        refine growS_call (by rfl) (fun K hK => ?_)
        go_simp
        refine (HVA.out _ (HEC.out.bel HE7.out)).mono ?_
        rintro en z8 ⟨v9, rfl, ho2, hb2⟩
        have hov := ho2.sl
        have hE2 : Below C.heap.size C z8 := HE7.out.trans (hb2.mono HE7.out.size)
        refine hK.out _ _ hE2 ?_
        have HE8 := Lib.hid hE2
        have HZ8 := Lib.hid (HZ7.out.below hb2)
        have HV8 := Lib.hid hov; clear hov ho2
        clear hK K hb2 hE2
        refine growS_call (by rfl) (fun K hK => ?_)
        go_simp
        refine (HLI.out _ _ (HEC.out.bel HE8.out).mx HV8.out).mono ?_
        rintro en z9 ⟨u9, rfl, ho2, hb2⟩
        have hou := ho2.dl
        clear ho2
        obtain ⟨ua, uc, rfl⟩ := hou.form
        have hE2 : Below C.heap.size C z9 := HE8.out.trans (hb2.mono HE8.out.size)
        refine hK.out _ _ hE2 ?_
        have HE9 := Lib.hid hE2
        have HZ9 := Lib.hid (HZ8.out.below hb2)
        have HV9 := Lib.hid (HV8.out.bel hb2)
        have HU9 := Lib.hid hou; clear hou
        clear hK K hb2 hE2
        iterate 1
          refine growS_take (by rfl) ?_
          apply Exists.intro
          refine ⟨fun w' hE => ?_, ?_⟩
          · obtain ⟨y0, y1, y2, y3, y4, y5, y6, y7⟩ := (HD.out.below hE).eight
            go_simp
            try with_reducible rfl
          simp only [Act.put, List.setIfInBounds_toArray, List.set_cons_zero, List.set_cons_succ]
        have nc0 := HZ9.out.cell 0 (.int .i64 0) rfl
        have nf0 := HZ9.out.free 0
        have nc1 := HZ9.out.cell 1 (.string ⟨#[]⟩) rfl
        have nf1 := HZ9.out.free 1
        have nc2 := HZ9.out.cell 2 (.int .i64 0) rfl
        have nf2 := HZ9.out.free 2
        have nc3 := HZ9.out.cell 3 (.slice none 0 0) rfl
        have nf3 := HZ9.out.free 3
        have nc4 := HZ9.out.cell 4 (.string ⟨#[]⟩) rfl
        have nf4 := HZ9.out.free 4
        have nc5 := HZ9.out.cell 5 (.int .i64 0) rfl
        have nf5 := HZ9.out.free 5
        have nc6 := HZ9.out.cell 6 (.int .i64 0) rfl
        have nf6 := HZ9.out.free 6
        have nc7 := HZ9.out.cell 7 (.slice none 0 0) rfl
        have nf7 := HZ9.out.free 7
        have nc8 := HZ9.out.cell 8 (.bool false) rfl
        have nf8 := HZ9.out.free 8
        have nc9 := HZ9.out.cell 9 (.bool false) rfl
        have nf9 := HZ9.out.free 9
        have nc10 := HZ9.out.cell 10 (.bool false) rfl
        have nf10 := HZ9.out.free 10
        have nc11 := HZ9.out.cell 11 (.bool false) rfl
        have nf11 := HZ9.out.free 11
        have nc12 := HZ9.out.cell 12 (.int .i64 0) rfl
        have nf12 := HZ9.out.free 12
        have nc13 := HZ9.out.cell 13 (.int .i64 0) rfl
        have nf13 := HZ9.out.free 13
        have nc14 := HZ9.out.cell 14 (.slice none 0 0) rfl
        have nf14 := HZ9.out.free 14
        have hq0 := (((((((((((((((HZ9.out.set 0 (.int .i64 st)).set 1 (.string re)).set 2 (.int .i64 mi)).set 3 (.slice fA l.length fc)).set 4 (.string bo)).set 5 (.int .i64 asked)).set 6 (.int .i64 got)).set 7 (.slice vA vn vc)).set 8 (.bool c.1)).set 9 (.bool c.2.1)).set 10 (.bool c.2.2.1)).set 11 (.bool c.2.2.2.1)).set 12 (.int .i64 c.2.2.2.2.1)).set 13 (.int .i64 c.2.2.2.2.2)).set 14 (.slice ua (dirsE l).length uc))
        simp only [List.setIfInBounds_toArray, List.set_cons_zero, List.set_cons_succ] at hq0
        have HQ0 := Lib.hid hq0; clear hq0
        have hE9 := (((((((((((((((HE9.out.setCell (p := ⟨g, 0, none⟩) HGL.out (.int .i64 st)).setCell (p := ⟨g, 1, none⟩) HGL.out (.string re)).setCell (p := ⟨g, 2, none⟩) HGL.out (.int .i64 mi)).setCell (p := ⟨g, 3, none⟩) HGL.out (.slice fA l.length fc)).setCell (p := ⟨g, 4, none⟩) HGL.out (.string bo)).setCell (p := ⟨g, 5, none⟩) HGL.out (.int .i64 asked)).setCell (p := ⟨g, 6, none⟩) HGL.out (.int .i64 got)).setCell (p := ⟨g, 7, none⟩) HGL.out (.slice vA vn vc)).setCell (p := ⟨g, 8, none⟩) HGL.out (.bool c.1)).setCell (p := ⟨g, 9, none⟩) HGL.out (.bool c.2.1)).setCell (p := ⟨g, 10, none⟩) HGL.out (.bool c.2.2.1)).setCell (p := ⟨g, 11, none⟩) HGL.out (.bool c.2.2.2.1)).setCell (p := ⟨g, 12, none⟩) HGL.out (.int .i64 c.2.2.2.2.1)).setCell (p := ⟨g, 13, none⟩) HGL.out (.int .i64 c.2.2.2.2.2)).setCell (p := ⟨g, 14, none⟩) HGL.out (.slice ua (dirsE l).length uc))
        have HE9 := Lib.hid hE9; clear hE9
        have HU9 : Hid (DL (((((((((((((((z9.setCell ⟨g, 0, none⟩ (.int .i64 st)).setCell ⟨g, 1, none⟩ (.string re)).setCell ⟨g, 2, none⟩ (.int .i64 mi)).setCell ⟨g, 3, none⟩ (.slice fA l.length fc)).setCell ⟨g, 4, none⟩ (.string bo)).setCell ⟨g, 5, none⟩ (.int .i64 asked)).setCell ⟨g, 6, none⟩ (.int .i64 got)).setCell ⟨g, 7, none⟩ (.slice vA vn vc)).setCell ⟨g, 8, none⟩ (.bool c.1)).setCell ⟨g, 9, none⟩ (.bool c.2.1)).setCell ⟨g, 10, none⟩ (.bool c.2.2.1)).setCell ⟨g, 11, none⟩ (.bool c.2.2.2.1)).setCell ⟨g, 12, none⟩ (.int .i64 c.2.2.2.2.1)).setCell ⟨g, 13, none⟩ (.int .i64 c.2.2.2.2.2)).setCell ⟨g, 14, none⟩ (.slice ua (dirsE l).length uc)) (.slice ua (dirsE l).length uc) (dirsE l)) := HU9.out.apart HZ9.out (by simp [World.setCell]) (fun b hb => by repeat rw [Below.heap_setCell _ _ _ _ (by simpa using hb)])
        refine growS_call (by rfl) (fun K hK => ?_)
        go_simp
        refine hK.out _ _ HE9.out ?_
        clear hK K
        refine growS_done (NoPanic.normal ?_)
        exact ⟨g, v9, ua, uc, rfl, rfl, HQ0.out, HU9.out, HE9.out⟩
    · go_simp
      have hd1 : Below C.heap.size C (C.alloc (.cells #[.int .i64 0, .string ⟨#[]⟩, .int .i64 0, .slice none 0 0, .string ⟨#[]⟩, .int .i64 0, .int .i64 0, .slice none 0 0, .bool false, .bool false, .bool false, .bool false, .int .i64 0, .int .i64 0, .slice none 0 0] 119)).drew := ((Below.refl _ _).alloc (Nat.le_refl _) _).drew
      have hz1 := (dbk.new C #[.int .i64 0, .string ⟨#[]⟩, .int .i64 0, .slice none 0 0, .string ⟨#[]⟩, .int .i64 0, .int .i64 0, .slice none 0 0, .bool false, .bool false, .bool false, .bool false, .int .i64 0, .int .i64 0, .slice none 0 0] 119).below ((Below.refl _ _).drew : Below (C.alloc (.cells #[.int .i64 0, .string ⟨#[]⟩, .int .i64 0, .slice none 0 0, .string ⟨#[]⟩, .int .i64 0, .int .i64 0, .slice none 0 0, .bool false, .bool false, .bool false, .bool false, .int .i64 0, .int .i64 0, .slice none 0 0] 119)).heap.size (C.alloc (.cells #[.int .i64 0, .string ⟨#[]⟩, .int .i64 0, .slice none 0 0, .string ⟨#[]⟩, .int .i64 0, .int .i64 0, .slice none 0 0, .bool false, .bool false, .bool false, .bool false, .int .i64 0, .int .i64 0, .slice none 0 0] 119)) (C.alloc (.cells #[.int .i64 0, .string ⟨#[]⟩, .int .i64 0, .slice none 0 0, .string ⟨#[]⟩, .int .i64 0, .int .i64 0, .slice none 0 0, .bool false, .bool false, .bool false, .bool false, .int .i64 0, .int .i64 0, .slice none 0 0] 119)).drew)
      refine hK.out _ _ hd1 ?_
      have HE10 := Lib.hid hd1; have HZ10 := Lib.hid hz1; clear hK K hd1 hz1
      generalize (C.alloc (.cells #[.int .i64 0, .string ⟨#[]⟩, .int .i64 0, .slice none 0 0, .string ⟨#[]⟩, .int .i64 0, .int .i64 0, .slice none 0 0, .bool false, .bool false, .bool false, .bool false, .int .i64 0, .int .i64 0, .slice none 0 0] 119)).drew = z10 at *
      refine growS_call (by rfl) (fun K hK => ?_)
      go_simp
      refine (HCT.out _ (HEC.out.bel HE10.out)).mono ?_
      rintro en z11 ⟨rfl, hb2⟩
      have hE2 : Below C.heap.size C z11 := HE10.out.trans (hb2.mono HE10.out.size)
      refine hK.out _ _ hE2 ?_
      have HE11 := Lib.hid hE2
      have HZ11 := Lib.hid (HZ10.out.below hb2)
      clear hK K hb2 hE2
      refine growS_call (by rfl) (fun K hK => ?_)
      go_simp
      refine (HVA.out _ (HEC.out.bel HE11.out)).mono ?_
      rintro en z12 ⟨v9, rfl, ho2, hb2⟩
      have hov := ho2.sl
      have hE2 : Below C.heap.size C z12 := HE11.out.trans (hb2.mono HE11.out.size)
      refine hK.out _ _ hE2 ?_
      have HE12 := Lib.hid hE2
      have HZ12 := Lib.hid (HZ11.out.below hb2)
      have HV12 := Lib.hid hov; clear hov ho2
      clear hK K hb2 hE2
      refine growS_call (by rfl) (fun K hK => ?_)
      go_simp
      refine (HLI.out _ _ (HEC.out.bel HE12.out).mx HV12.out).mono ?_
      rintro en z13 ⟨u9, rfl, ho2, hb2⟩
      have hou := ho2.dl
      clear ho2
      obtain ⟨ua, uc, rfl⟩ := hou.form
      have hE2 : Below C.heap.size C z13 := HE12.out.trans (hb2.mono HE12.out.size)
      refine hK.out _ _ hE2 ?_
      have HE13 := Lib.hid hE2
      have HZ13 := Lib.hid (HZ12.out.below hb2)
      have HV13 := Lib.hid (HV12.out.bel hb2)
      have HU13 := Lib.hid hou; clear hou
      clear hK K hb2 hE2
      iterate 1
        refine growS_take (by rfl) ?_
        apply Exists.intro
        refine ⟨fun w' hE => ?_, ?_⟩
        · obtain ⟨y0, y1, y2, y3, y4, y5, y6, y7⟩ := (HD.out.below hE).eight
          go_simp
          try with_reducible rfl
        simp only [Act.put, List.setIfInBounds_toArray, List.set_cons_zero, List.set_cons_succ]
      generalize C.heap.size = g at *
      have nc0 := HZ13.out.cell 0 (.int .i64 0) rfl
      have nf0 := HZ13.out.free 0
      have nc1 := HZ13.out.cell 1 (.string ⟨#[]⟩) rfl
      have nf1 := HZ13.out.free 1
      have nc2 := HZ13.out.cell 2 (.int .i64 0) rfl
      have nf2 := HZ13.out.free 2
      have nc3 := HZ13.out.cell 3 (.slice none 0 0) rfl
      have nf3 := HZ13.out.free 3
      have nc4 := HZ13.out.cell 4 (.string ⟨#[]⟩) rfl
      have nf4 := HZ13.out.free 4
      have nc5 := HZ13.out.cell 5 (.int .i64 0) rfl
      have nf5 := HZ13.out.free 5
      have nc6 := HZ13.out.cell 6 (.int .i64 0) rfl
      have nf6 := HZ13.out.free 6
      have nc7 := HZ13.out.cell 7 (.slice none 0 0) rfl
      have nf7 := HZ13.out.free 7
      have nc8 := HZ13.out.cell 8 (.bool false) rfl
      have nf8 := HZ13.out.free 8
      have nc9 := HZ13.out.cell 9 (.bool false) rfl
      have nf9 := HZ13.out.free 9
      have nc10 := HZ13.out.cell 10 (.bool false) rfl
      have nf10 := HZ13.out.free 10
      have nc11 := HZ13.out.cell 11 (.bool false) rfl
      have nf11 := HZ13.out.free 11
      have nc12 := HZ13.out.cell 12 (.int .i64 0) rfl
      have nf12 := HZ13.out.free 12
      have nc13 := HZ13.out.cell 13 (.int .i64 0) rfl
      have nf13 := HZ13.out.free 13
      have nc14 := HZ13.out.cell 14 (.slice none 0 0) rfl
      have nf14 := HZ13.out.free 14
      have hq0 := (((((((((((((((HZ13.out.set 0 (.int .i64 st)).set 1 (.string re)).set 2 (.int .i64 mi)).set 3 (.slice fA l.length fc)).set 4 (.string bo)).set 5 (.int .i64 asked)).set 6 (.int .i64 got)).set 7 (.slice vA vn vc)).set 8 (.bool c.1)).set 9 (.bool c.2.1)).set 10 (.bool c.2.2.1)).set 11 (.bool c.2.2.2.1)).set 12 (.int .i64 c.2.2.2.2.1)).set 13 (.int .i64 c.2.2.2.2.2)).set 14 (.slice ua (dirsE l).length uc))
      simp only [List.setIfInBounds_toArray, List.set_cons_zero, List.set_cons_succ] at hq0
      have HQ0 := Lib.hid hq0; clear hq0
      have hE9 := (((((((((((((((HE13.out.setCell (p := ⟨g, 0, none⟩) (Nat.le_refl _) (.int .i64 st)).setCell (p := ⟨g, 1, none⟩) (Nat.le_refl _) (.string re)).setCell (p := ⟨g, 2, none⟩) (Nat.le_refl _) (.int .i64 mi)).setCell (p := ⟨g, 3, none⟩) (Nat.le_refl _) (.slice fA l.length fc)).setCell (p := ⟨g, 4, none⟩) (Nat.le_refl _) (.string bo)).setCell (p := ⟨g, 5, none⟩) (Nat.le_refl _) (.int .i64 asked)).setCell (p := ⟨g, 6, none⟩) (Nat.le_refl _) (.int .i64 got)).setCell (p := ⟨g, 7, none⟩) (Nat.le_refl _) (.slice vA vn vc)).setCell (p := ⟨g, 8, none⟩) (Nat.le_refl _) (.bool c.1)).setCell (p := ⟨g, 9, none⟩) (Nat.le_refl _) (.bool c.2.1)).setCell (p := ⟨g, 10, none⟩) (Nat.le_refl _) (.bool c.2.2.1)).setCell (p := ⟨g, 11, none⟩) (Nat.le_refl _) (.bool c.2.2.2.1)).setCell (p := ⟨g, 12, none⟩) (Nat.le_refl _) (.int .i64 c.2.2.2.2.1)).setCell (p := ⟨g, 13, none⟩) (Nat.le_refl _) (.int .i64 c.2.2.2.2.2)).setCell (p := ⟨g, 14, none⟩) (Nat.le_refl _) (.slice ua (dirsE l).length uc))
      have HE9 := Lib.hid hE9; clear hE9
      have HU9 : Hid (DL (((((((((((((((z13.setCell ⟨g, 0, none⟩ (.int .i64 st)).setCell ⟨g, 1, none⟩ (.string re)).setCell ⟨g, 2, none⟩ (.int .i64 mi)).setCell ⟨g, 3, none⟩ (.slice fA l.length fc)).setCell ⟨g, 4, none⟩ (.string bo)).setCell ⟨g, 5, none⟩ (.int .i64 asked)).setCell ⟨g, 6, none⟩ (.int .i64 got)).setCell ⟨g, 7, none⟩ (.slice vA vn vc)).setCell ⟨g, 8, none⟩ (.bool c.1)).setCell ⟨g, 9, none⟩ (.bool c.2.1)).setCell ⟨g, 10, none⟩ (.bool c.2.2.1)).setCell ⟨g, 11, none⟩ (.bool c.2.2.2.1)).setCell ⟨g, 12, none⟩ (.int .i64 c.2.2.2.2.1)).setCell ⟨g, 13, none⟩ (.int .i64 c.2.2.2.2.2)).setCell ⟨g, 14, none⟩ (.slice ua (dirsE l).length uc)) (.slice ua (dirsE l).length uc) (dirsE l)) := HU13.out.apart HZ13.out (by simp [World.setCell]) (fun b hb => by repeat rw [Below.heap_setCell _ _ _ _ (by simpa using hb)])
      refine growS_call (by rfl) (fun K hK => ?_)
      go_simp
      refine hK.out _ _ HE9.out ?_
      clear hK K
      refine growS_done (NoPanic.normal ?_)
      exact ⟨g, v9, ua, uc, rfl, rfl, HQ0.out, HU9.out, HE9.out⟩
  case h2 =>
    rintro g v9 ua uc w1 ⟨hg, hu, hb1⟩
    have HG := Lib.hid hg; have HSW := Lib.hid (show StW (.slice ua (dirsE l).length uc) (.slice fA l.length fc) l asked got Y w1 from ⟨HEC.out.bel hb1, hu⟩); have HB1 := Lib.hid (HX.out.trans (hb1.mono HX.out.size))
    clear hg hu hb1 HCT HVA HLI HEC HX HD
    go_wp2_with fail
    go_step3
    go_wp2_with fail
    refine (frules_any _).mono ?_
    rintro e w2 ⟨rb, rfl, hra, hb2⟩
    have HR2 := Lib.hid hra; have HG2 := Lib.hid (HG.out.below hb2); have HS2 := Lib.hid (HSW.out.bel hb2); have HB2 := Lib.hid (HB1.out.trans (hb2.mono HB1.out.size))
    clear hra hb2 HG HSW HB1
    go_wp2_with fail
    go_loopg [25, 6] 4 (fun k i n wr => ∃ j : Nat, j + k = 4 ∧ i = .int .i64 j ∧ n = .int .i64 0 ∧ Hid (Below w.heap.size w wr ∧ dbk wr g #[.int .i64 st, .string re, .int .i64 mi, .slice fA l.length fc, .string bo, .int .i64 asked, .int .i64 got, .slice vA vn vc, .bool c.1, .bool c.2.1, .bool c.2.2.1, .bool c.2.2.2.1, .int .i64 c.2.2.2.2.1, .int .i64 c.2.2.2.2.2, .slice ua (dirsE l).length uc] ∧ StW (.slice ua (dirsE l).length uc) (.slice fA l.length fc) l asked got Y wr ∧ RulesAt wr rb ∧ firstI (((rulesF c (dirsE l) Y l got).drop j).flatMap pairs) = N))
    case atStart => exact ⟨0, rfl, rfl, rfl, HB2.out, HG2.out, HS2.out, HR2.out, HLF.out⟩
    case round =>
      obtain ⟨j, hj, rfl, rfl, HO⟩ := hrel
      obtain ⟨wo, rfl⟩ : ∃ wo : World, wo = wr := ⟨_, rfl⟩
      obtain ⟨ko, rfl⟩ : ∃ ko : Nat, ko = gk := ⟨_, rfl⟩
      clear HB2 HG2 HS2 HR2 HLF
      rcases Nat.eq_zero_or_pos ko with hz | hz
      · subst hz
        obtain rfl : j = 4 := by omega
        have HL : Hid (N = 0) := HO.out.2.2.2.2.symm
        go_wp2_with fail
        try rw [Exit.noGoto_ret]
        go_ret
        exact ⟨by rw [HL.out]; rfl, HO.out.1⟩
      · have hj4 : j < 4 := by omega
        have hji : (j : Int) < 4 := by omega
        obtain ⟨ns, up, f, A, cp, hru, hr, q0, q1, hsl, hn, hn2, he⟩ := rule_atF (c := c) (u := .slice ua (dirsE l).length uc) (st := st) (mi := mi) (re := re) (bo := bo) (vA := vA) (vn := vn) (vc := vc) (fs := .slice fA l.length fc) (l := l) (asked := asked) (got := got) (Y := Y) HO.out.2.2.2.1 hj4
        have hst : firstI (ns.map up ++ ((rulesF c (dirsE l) Y l got).drop (j + 1)).flatMap pairs) = N := by
          rw [← HO.out.2.2.2.2, List.drop_eq_getElem_cons (l := rulesF c (dirsE l) Y l got) (i := j) hj4, List.flatMap_cons]
          have hg : (rulesF c (dirsE l) Y l got)[j]'hj4 = (ns, up) := by
            rw [List.getElem?_eq_getElem hj4] at hru
            exact Option.some.inj hru
          rw [hg]
          rfl
        have HRU := Lib.hid hr; have HSL := Lib.hid hsl; have HN := Lib.hid hn; have HST := Lib.hid hst
        clear hru hr hsl hn hst
        have hq : Below wo.heap.size wo (wo.alloc (.cells #[.slice A ns.length cp, .func (.func f) #[] #[]] 124)) := (Below.refl _ _).alloc (Nat.le_refl _) _
        have HQ := Lib.hid hq; have HRB := Lib.hid (dbk.new wo #[.slice A ns.length cp, .func (.func f) #[] #[]] 124)
        clear hq
        obtain ⟨RR, hRR⟩ : ∃ RR, RR = ((rulesF c (dirsE l) Y l got).drop (j + 1)).flatMap pairs := ⟨_, rfl⟩
        rw [← hRR] at HST
        have HRR := Lib.hid hRR; clear hRR
        go_wp2_with fail
        go_loopg [32, 6] ns.length (fun k i n wr => ∃ t : Nat, t + k = ns.length ∧ i = .int .i64 t ∧ n = .int .i64 0 ∧ Hid (Below w.heap.size w wr ∧ dbk wr g #[.int .i64 st, .string re, .int .i64 mi, .slice fA l.length fc, .string bo, .int .i64 asked, .int .i64 got, .slice vA vn vc, .bool c.1, .bool c.2.1, .bool c.2.2.1, .bool c.2.2.2.1, .int .i64 c.2.2.2.2.1, .int .i64 c.2.2.2.2.2, .slice ua (dirsE l).length uc] ∧ StW (.slice ua (dirsE l).length uc) (.slice fA l.length fc) l asked got Y wr ∧ RulesAt wr rb ∧ dbk wr wo.heap.size #[.slice A ns.length cp, .func (.func f) #[] #[]] ∧ SL wr (.slice A ns.length cp) ns ∧ firstI ((ns.drop t).map up ++ RR) = N))
        case atStart =>
          have h := HO.out
          exact ⟨0, Nat.zero_add _, rfl, rfl, h.1.trans (HQ.out.mono h.1.size), h.2.1.below HQ.out, h.2.2.1.bel HQ.out, h.2.2.2.1.bel HQ.out, HRB.out, HSL.out.bel HQ.out, HST.out⟩
        case round =>
          obtain ⟨t, ht, rfl, rfl, HI⟩ := hrel
          obtain ⟨wi, rfl⟩ : ∃ wi : World, wi = wr := ⟨_, rfl⟩
          clear HST HSL HQ HRB q0 q1
          rcases Nat.eq_zero_or_pos gk with hz2 | hz2
          · subst hz2
            obtain rfl : t = ns.length := by omega
            have HE2 : Hid (firstI RR = N) := by
              have h := HI.out.2.2.2.2.2.2
              rw [List.drop_length] at h
              exact h
            go_wp2_with fail
            go_roundg (ko - 1)
            case rel =>
              have h := HI.out
              exact ⟨j + 1, by omega, by go_num, rfl, h.1, h.2.1, h.2.2.1, h.2.2.2.1, by rw [← HRR.out]; exact HE2.out⟩
            case measure => omega
          · have hlt : t < ns.length := by omega
            have hti : (t : Int) < (ns.length : Int) := by omega
            obtain ⟨b, off, rfl, hbl, hcell⟩ := HI.out.2.2.2.2.2.1.get t hlt
            have p0 := HI.out.2.2.2.2.1.cell 0 _ rfl
            have p1 := HI.out.2.2.2.2.1.cell 1 _ rfl
            obtain ⟨k0, k1, k2, k3, k4, k5, k6, k7, k8, k9, k10, k11, k12, k13, k14⟩ := HI.out.2.1.fifteen
            have hcall := HRU.out ns[t] wi (HN.out _ (List.getElem_mem hlt)) HI.out.2.2.1
            have hfi : (if (up ns[t]).2 then (up ns[t]).1 else firstI ((ns.drop (t + 1)).map up ++ RR)) = N := by
              have h := HI.out.2.2.2.2.2.2
              rw [List.drop_eq_getElem_cons hlt] at h
              exact h
            generalize hup : up ns[t] = pp at hcall hfi
            clear hup
            generalize ns[t] = nn at *
            obtain ⟨pn, pb⟩ := pp
            have HCALL := Lib.hid hcall; have HFI := Lib.hid hfi
            clear hcall hfi
            simp only at HCALL HFI
            cases pb
            · have HF2 : Hid (firstI ((ns.drop (t + 1)).map up ++ RR) = N) := HFI.out
              clear HFI
              go_wp2_with (go_at_fn f; refine HCALL.out.mono ?_; rintro e w3 ⟨rfl, hb3⟩; have HB3 := Lib.hid hb3; clear hb3)
              go_roundg (gk - 1)
              case rel =>
                have h := HI.out
                have hb3 := HB3.out
                exact ⟨t + 1, by omega, by go_num, rfl, h.1.trans (hb3.mono h.1.size), h.2.1.below hb3, h.2.2.1.bel hb3, h.2.2.2.1.bel hb3, h.2.2.2.2.1.below hb3, h.2.2.2.2.2.1.bel hb3, HF2.out⟩
              case measure => omega
            · have HF2 : Hid (N = pn) := HFI.out.symm
              clear HFI
              go_wp2_with (go_at_fn f; refine HCALL.out.mono ?_; rintro e w3 ⟨rfl, hb3⟩; have HB3 := Lib.hid hb3; clear hb3)
              try rw [Exit.noGoto_ret]
              go_ret
              exact ⟨by rw [HF2.out]; rfl, HI.out.1.trans (HB3.out.mono HI.out.1.size)⟩
end Go.Proofs.YtfobjaccpnondaaGreatDoor
