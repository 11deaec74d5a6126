/- A URI's own text means its normal form, nothing means the base, what is meant means itself: the statement's own walk. -/
import Derived.Test.YtekaiafhnnpkgaaGreatDoorResE
import Derived.Test.YtekaiafhnnpkgaaGreatDoorGrow3
namespace Go.Proofs.YtekaiafhnnpkgaaGreatDoor
open Go.RowKit

theorem wp_meetG {P : Program} {c : Code} {Q : Exit → Act → World → Prop} {a : Act} {w : World} {act : Nat → Act} (Good : Nat → World → Prop)
    (h1 : c.wp P (fun e a' w' => ∃ g, e = .normal ∧ a' = act g ∧ Good g w') a w)
    (h2 : ∀ g w', Good g w' → Q .normal (act g) w') : c.wp P Q a w :=
  Code.wp_mono (by rintro e a' w' ⟨g, rfl, rfl, h⟩; exact h2 g w' h) h1
set_option maxHeartbeats 16000000 in
set_option maxRecDepth 100000 in
theorem resolveWhole_law (a b : Ur) (s : ByteArray) (w : World) (ha : a.sized) (hb : b.sized) (_ : s.size ≤ maxLen) (hm : MaxU w) (hl0 : Env w) :
    Calls Tryz.prog 4 #[.agg #[.string (bs a.sc), .string (bs a.ho), .int .i64 a.po, .string (bs a.pa), .string (bs a.qu), .bool a.hq], .agg #[.string (bs b.sc), .string (bs b.ho), .int .i64 b.po, .string (bs b.pa), .string (bs b.qu), .bool b.hq], .string s] w fun e w' => e = .returned (.bool true) ∧ Below w.heap.size w w' := by
  have HE : Hid (EnvU w) := ⟨hm, hl0⟩
  clear hm hl0
  have HFA := Lib.hid (fun W => fewU_any a W ha)
  have HFB := Lib.hid (fun W => fewU_any b W hb)
  cases hfa : fewU a
  · rw [hfa] at HFA
    clear hfa HFB ha hb
    obtain ⟨asc, aho, apo, apa, aqu, ahq⟩ := a
    obtain ⟨bsc, bho, bpo, bpa, bqu, bhq⟩ := b
    simp only at HFA ⊢
    have hal : Below w.heap.size w (w.alloc (.cells #[.string (bs asc), .string (bs aho), .int .i64 apo, .string (bs apa), .string (bs aqu), .bool ahq] 23)) := (Below.refl _ _).alloc (Nat.le_refl _) _
    have HB1 := Lib.hid hal
    have hn := ubk.new w #[.string (bs asc), .string (bs aho), .int .i64 apo, .string (bs apa), .string (bs aqu), .bool ahq] 23
    have HA1 := Lib.hid hn; clear hn
    clear hal
    have hal : Below (w.alloc (.cells #[.string (bs asc), .string (bs aho), .int .i64 apo, .string (bs apa), .string (bs aqu), .bool ahq] 23)).heap.size (w.alloc (.cells #[.string (bs asc), .string (bs aho), .int .i64 apo, .string (bs apa), .string (bs aqu), .bool ahq] 23)) ((w.alloc (.cells #[.string (bs asc), .string (bs aho), .int .i64 apo, .string (bs apa), .string (bs aqu), .bool ahq] 23)).alloc (.cells #[.string (bs bsc), .string (bs bho), .int .i64 bpo, .string (bs bpa), .string (bs bqu), .bool bhq] 23)) := (Below.refl _ _).alloc (Nat.le_refl _) _
    have HB2 := Lib.hid (HB1.out.trans (hal.mono HB1.out.size))
    have HA2 := Lib.hid (HA1.out.alloc (.cells #[.string (bs bsc), .string (bs bho), .int .i64 bpo, .string (bs bpa), .string (bs bqu), .bool bhq] 23))
    have hn := ubk.new (w.alloc (.cells #[.string (bs asc), .string (bs aho), .int .i64 apo, .string (bs apa), .string (bs aqu), .bool ahq] 23)) #[.string (bs bsc), .string (bs bho), .int .i64 bpo, .string (bs bpa), .string (bs bqu), .bool bhq] 23
    rw [World.size_alloc] at hn
    have HP2 := Lib.hid hn; clear hn
    clear hal HB1 HA1
    have ac0 := HA2.out.cell 0 (.string (bs asc)) rfl
    have ac1 := HA2.out.cell 1 (.string (bs aho)) rfl
    have ac2 := HA2.out.cell 2 (.int .i64 apo) rfl
    have ac3 := HA2.out.cell 3 (.string (bs apa)) rfl
    have ac4 := HA2.out.cell 4 (.string (bs aqu)) rfl
    have ac5 := HA2.out.cell 5 (.bool ahq) rfl
    go_enter Tryz.func4, Tryz.ntmps4
    go_wp2_with fail
    refine (HFA.out _).mono ?_
    rintro r w3 ⟨rfl, hb⟩
    have HB3 := Lib.hid (HB2.out.trans (hb.mono HB2.out.size))
    have HA3 := Lib.hid (HA2.out.below hb)
    have HP3 := Lib.hid (HP2.out.below hb)
    clear hb HB2 HA2 HP2
    clear ac0 ac1 ac2 ac3 ac4 ac5
    go_wp2_with fail
    refine (works_any _ (HE.out.bel HB3.out)).mono ?_
    rintro r w4 ⟨rfl, hb⟩
    have HB4 := Lib.hid (HB3.out.trans (hb.mono HB3.out.size))
    have HA4 := Lib.hid (HA3.out.below hb)
    have HP4 := Lib.hid (HP3.out.below hb)
    clear hb HB3 HA3 HP3
    go_wp2_with fail
    go_ret
    exact ⟨rfl, HB4.out⟩
  · rw [hfa] at HFA
    cases hfb : fewU b
    · rw [hfb] at HFB
      clear hfa hfb ha hb
      obtain ⟨asc, aho, apo, apa, aqu, ahq⟩ := a
      obtain ⟨bsc, bho, bpo, bpa, bqu, bhq⟩ := b
      simp only at HFA HFB ⊢
      have hal : Below w.heap.size w (w.alloc (.cells #[.string (bs asc), .string (bs aho), .int .i64 apo, .string (bs apa), .string (bs aqu), .bool ahq] 23)) := (Below.refl _ _).alloc (Nat.le_refl _) _
      have HB1 := Lib.hid hal
      have hn := ubk.new w #[.string (bs asc), .string (bs aho), .int .i64 apo, .string (bs apa), .string (bs aqu), .bool ahq] 23
      have HA1 := Lib.hid hn; clear hn
      clear hal
      have hal : Below (w.alloc (.cells #[.string (bs asc), .string (bs aho), .int .i64 apo, .string (bs apa), .string (bs aqu), .bool ahq] 23)).heap.size (w.alloc (.cells #[.string (bs asc), .string (bs aho), .int .i64 apo, .string (bs apa), .string (bs aqu), .bool ahq] 23)) ((w.alloc (.cells #[.string (bs asc), .string (bs aho), .int .i64 apo, .string (bs apa), .string (bs aqu), .bool ahq] 23)).alloc (.cells #[.string (bs bsc), .string (bs bho), .int .i64 bpo, .string (bs bpa), .string (bs bqu), .bool bhq] 23)) := (Below.refl _ _).alloc (Nat.le_refl _) _
      have HB2 := Lib.hid (HB1.out.trans (hal.mono HB1.out.size))
      have HA2 := Lib.hid (HA1.out.alloc (.cells #[.string (bs bsc), .string (bs bho), .int .i64 bpo, .string (bs bpa), .string (bs bqu), .bool bhq] 23))
      have hn := ubk.new (w.alloc (.cells #[.string (bs asc), .string (bs aho), .int .i64 apo, .string (bs apa), .string (bs aqu), .bool ahq] 23)) #[.string (bs bsc), .string (bs bho), .int .i64 bpo, .string (bs bpa), .string (bs bqu), .bool bhq] 23
      rw [World.size_alloc] at hn
      have HP2 := Lib.hid hn; clear hn
      clear hal HB1 HA1
      have ac0 := HA2.out.cell 0 (.string (bs asc)) rfl
      have ac1 := HA2.out.cell 1 (.string (bs aho)) rfl
      have ac2 := HA2.out.cell 2 (.int .i64 apo) rfl
      have ac3 := HA2.out.cell 3 (.string (bs apa)) rfl
      have ac4 := HA2.out.cell 4 (.string (bs aqu)) rfl
      have ac5 := HA2.out.cell 5 (.bool ahq) rfl
      go_enter Tryz.func4, Tryz.ntmps4
      go_wp2_with fail
      refine (HFA.out _).mono ?_
      rintro r w3 ⟨rfl, hb⟩
      have HB3 := Lib.hid (HB2.out.trans (hb.mono HB2.out.size))
      have HA3 := Lib.hid (HA2.out.below hb)
      have HP3 := Lib.hid (HP2.out.below hb)
      clear hb HB2 HA2 HP2
      clear ac0 ac1 ac2 ac3 ac4 ac5
      have pc0 := HP3.out.cell 0 (.string (bs bsc)) rfl
      have pc1 := HP3.out.cell 1 (.string (bs bho)) rfl
      have pc2 := HP3.out.cell 2 (.int .i64 bpo) rfl
      have pc3 := HP3.out.cell 3 (.string (bs bpa)) rfl
      have pc4 := HP3.out.cell 4 (.string (bs bqu)) rfl
      have pc5 := HP3.out.cell 5 (.bool bhq) rfl
      go_wp2_with fail
      refine (HFB.out _).mono ?_
      rintro r w4 ⟨rfl, hb⟩
      have HB4 := Lib.hid (HB3.out.trans (hb.mono HB3.out.size))
      have HA4 := Lib.hid (HA3.out.below hb)
      have HP4 := Lib.hid (HP3.out.below hb)
      clear hb HB3 HA3 HP3
      clear pc0 pc1 pc2 pc3 pc4 pc5
      go_wp2_with fail
      refine (works_any _ (HE.out.bel HB4.out)).mono ?_
      rintro r w5 ⟨rfl, hb⟩
      have HB5 := Lib.hid (HB4.out.trans (hb.mono HB4.out.size))
      have HA5 := Lib.hid (HA4.out.below hb)
      have HP5 := Lib.hid (HP4.out.below hb)
      clear hb HB4 HA4 HP4
      go_wp2_with fail
      go_ret
      exact ⟨rfl, HB5.out⟩
    · rw [hfb] at HFB
      by_cases hl : 3000 < s.size
      · have hl2 : (3000 : Int) < (s.size : Int) := by omega
        clear hl hfa hfb ha hb
        obtain ⟨asc, aho, apo, apa, aqu, ahq⟩ := a
        obtain ⟨bsc, bho, bpo, bpa, bqu, bhq⟩ := b
        simp only at HFA HFB ⊢
        have hal : Below w.heap.size w (w.alloc (.cells #[.string (bs asc), .string (bs aho), .int .i64 apo, .string (bs apa), .string (bs aqu), .bool ahq] 23)) := (Below.refl _ _).alloc (Nat.le_refl _) _
        have HB1 := Lib.hid hal
        have hn := ubk.new w #[.string (bs asc), .string (bs aho), .int .i64 apo, .string (bs apa), .string (bs aqu), .bool ahq] 23
        have HA1 := Lib.hid hn; clear hn
        clear hal
        have hal : Below (w.alloc (.cells #[.string (bs asc), .string (bs aho), .int .i64 apo, .string (bs apa), .string (bs aqu), .bool ahq] 23)).heap.size (w.alloc (.cells #[.string (bs asc), .string (bs aho), .int .i64 apo, .string (bs apa), .string (bs aqu), .bool ahq] 23)) ((w.alloc (.cells #[.string (bs asc), .string (bs aho), .int .i64 apo, .string (bs apa), .string (bs aqu), .bool ahq] 23)).alloc (.cells #[.string (bs bsc), .string (bs bho), .int .i64 bpo, .string (bs bpa), .string (bs bqu), .bool bhq] 23)) := (Below.refl _ _).alloc (Nat.le_refl _) _
        have HB2 := Lib.hid (HB1.out.trans (hal.mono HB1.out.size))
        have HA2 := Lib.hid (HA1.out.alloc (.cells #[.string (bs bsc), .string (bs bho), .int .i64 bpo, .string (bs bpa), .string (bs bqu), .bool bhq] 23))
        have hn := ubk.new (w.alloc (.cells #[.string (bs asc), .string (bs aho), .int .i64 apo, .string (bs apa), .string (bs aqu), .bool ahq] 23)) #[.string (bs bsc), .string (bs bho), .int .i64 bpo, .string (bs bpa), .string (bs bqu), .bool bhq] 23
        rw [World.size_alloc] at hn
        have HP2 := Lib.hid hn; clear hn
        clear hal HB1 HA1
        have ac0 := HA2.out.cell 0 (.string (bs asc)) rfl
        have ac1 := HA2.out.cell 1 (.string (bs aho)) rfl
        have ac2 := HA2.out.cell 2 (.int .i64 apo) rfl
        have ac3 := HA2.out.cell 3 (.string (bs apa)) rfl
        have ac4 := HA2.out.cell 4 (.string (bs aqu)) rfl
        have ac5 := HA2.out.cell 5 (.bool ahq) rfl
        go_enter Tryz.func4, Tryz.ntmps4
        go_wp2_with fail
        refine (HFA.out _).mono ?_
        rintro r w3 ⟨rfl, hb⟩
        have HB3 := Lib.hid (HB2.out.trans (hb.mono HB2.out.size))
        have HA3 := Lib.hid (HA2.out.below hb)
        have HP3 := Lib.hid (HP2.out.below hb)
        clear hb HB2 HA2 HP2
        clear ac0 ac1 ac2 ac3 ac4 ac5
        have pc0 := HP3.out.cell 0 (.string (bs bsc)) rfl
        have pc1 := HP3.out.cell 1 (.string (bs bho)) rfl
        have pc2 := HP3.out.cell 2 (.int .i64 bpo) rfl
        have pc3 := HP3.out.cell 3 (.string (bs bpa)) rfl
        have pc4 := HP3.out.cell 4 (.string (bs bqu)) rfl
        have pc5 := HP3.out.cell 5 (.bool bhq) rfl
        go_wp2_with fail
        refine (HFB.out _).mono ?_
        rintro r w4 ⟨rfl, hb⟩
        have HB4 := Lib.hid (HB3.out.trans (hb.mono HB3.out.size))
        have HA4 := Lib.hid (HA3.out.below hb)
        have HP4 := Lib.hid (HP3.out.below hb)
        clear hb HB3 HA3 HP3
        clear pc0 pc1 pc2 pc3 pc4 pc5
        go_wp2_with fail
        refine (works_any _ (HE.out.bel HB4.out)).mono ?_
        rintro r w5 ⟨rfl, hb⟩
        have HB5 := Lib.hid (HB4.out.trans (hb.mono HB4.out.size))
        have HA5 := Lib.hid (HA4.out.below hb)
        have HP5 := Lib.hid (HP4.out.below hb)
        clear hb HB4 HA4 HP4
        go_wp2_with fail
        go_ret
        exact ⟨rfl, HB5.out⟩
      · have hl2 : ¬ (3000 : Int) < (s.size : Int) := by omega
        clear hl
        have oa := few_okW ha hfa
        have ob := few_okW hb hfb
        clear ha hb hfa hfb
        have HCA := Lib.hid (fun W (he : EnvU W) => uriCheck_any a W he oa)
        have HR0 : Hid (∀ W, EnvU W → Calls Tryz.prog 8 #[.agg #[.string (bs a.sc), .string (bs a.ho), .int .i64 a.po, .string (bs a.pa), .string (bs a.qu), .bool a.hq], .string ⟨#[]⟩] W (RetU W (refU a []))) := fun W he => ref_any a [] W he oa
        by_cases hka : a.check ≠ 0
        · rw [ref_bad hka (by simp)] at HR0
          have hkb : (a.check != 0) = true := bne_iff_ne.2 hka
          clear hka oa ob
          generalize a.check = ka at *
          obtain ⟨asc, aho, apo, apa, aqu, ahq⟩ := a
          obtain ⟨bsc, bho, bpo, bpa, bqu, bhq⟩ := b
          unfold RetU at HR0
          simp only at HFA HFB HCA HR0 ⊢
          have HR1 : Hid (∀ W, EnvU W → Calls Tryz.prog 8 #[.agg #[.string (bs asc), .string (bs aho), .int .i64 apo, .string (bs apa), .string (bs aqu), .bool ahq], .string ⟨#[]⟩] W fun e w' => e = .returned (.tuple #[.agg #[.string ⟨#[]⟩, .string ⟨#[]⟩, .int .i64 0, .string ⟨#[]⟩, .string ⟨#[]⟩, .bool false], .int .i64 2]) ∧ Below W.heap.size W w') := HR0.out
          clear HR0
          have hal : Below w.heap.size w (w.alloc (.cells #[.string (bs asc), .string (bs aho), .int .i64 apo, .string (bs apa), .string (bs aqu), .bool ahq] 23)) := (Below.refl _ _).alloc (Nat.le_refl _) _
          have HB1 := Lib.hid hal
          have hn := ubk.new w #[.string (bs asc), .string (bs aho), .int .i64 apo, .string (bs apa), .string (bs aqu), .bool ahq] 23
          have HA1 := Lib.hid hn; clear hn
          clear hal
          have hal : Below (w.alloc (.cells #[.string (bs asc), .string (bs aho), .int .i64 apo, .string (bs apa), .string (bs aqu), .bool ahq] 23)).heap.size (w.alloc (.cells #[.string (bs asc), .string (bs aho), .int .i64 apo, .string (bs apa), .string (bs aqu), .bool ahq] 23)) ((w.alloc (.cells #[.string (bs asc), .string (bs aho), .int .i64 apo, .string (bs apa), .string (bs aqu), .bool ahq] 23)).alloc (.cells #[.string (bs bsc), .string (bs bho), .int .i64 bpo, .string (bs bpa), .string (bs bqu), .bool bhq] 23)) := (Below.refl _ _).alloc (Nat.le_refl _) _
          have HB2 := Lib.hid (HB1.out.trans (hal.mono HB1.out.size))
          have HA2 := Lib.hid (HA1.out.alloc (.cells #[.string (bs bsc), .string (bs bho), .int .i64 bpo, .string (bs bpa), .string (bs bqu), .bool bhq] 23))
          have hn := ubk.new (w.alloc (.cells #[.string (bs asc), .string (bs aho), .int .i64 apo, .string (bs apa), .string (bs aqu), .bool ahq] 23)) #[.string (bs bsc), .string (bs bho), .int .i64 bpo, .string (bs bpa), .string (bs bqu), .bool bhq] 23
          rw [World.size_alloc] at hn
          have HP2 := Lib.hid hn; clear hn
          clear hal HB1 HA1
          have ac0 := HA2.out.cell 0 (.string (bs asc)) rfl
          have ac1 := HA2.out.cell 1 (.string (bs aho)) rfl
          have ac2 := HA2.out.cell 2 (.int .i64 apo) rfl
          have ac3 := HA2.out.cell 3 (.string (bs apa)) rfl
          have ac4 := HA2.out.cell 4 (.string (bs aqu)) rfl
          have ac5 := HA2.out.cell 5 (.bool ahq) rfl
          go_enter Tryz.func4, Tryz.ntmps4
          go_wp2_with fail
          refine (HFA.out _).mono ?_
          rintro r w3 ⟨rfl, hb⟩
          have HB3 := Lib.hid (HB2.out.trans (hb.mono HB2.out.size))
          have HA3 := Lib.hid (HA2.out.below hb)
          have HP3 := Lib.hid (HP2.out.below hb)
          clear hb HB2 HA2 HP2
          clear ac0 ac1 ac2 ac3 ac4 ac5
          have pc0 := HP3.out.cell 0 (.string (bs bsc)) rfl
          have pc1 := HP3.out.cell 1 (.string (bs bho)) rfl
          have pc2 := HP3.out.cell 2 (.int .i64 bpo) rfl
          have pc3 := HP3.out.cell 3 (.string (bs bpa)) rfl
          have pc4 := HP3.out.cell 4 (.string (bs bqu)) rfl
          have pc5 := HP3.out.cell 5 (.bool bhq) rfl
          go_wp2_with fail
          refine (HFB.out _).mono ?_
          rintro r w4 ⟨rfl, hb⟩
          have HB4 := Lib.hid (HB3.out.trans (hb.mono HB3.out.size))
          have HA4 := Lib.hid (HA3.out.below hb)
          have HP4 := Lib.hid (HP3.out.below hb)
          clear hb HB3 HA3 HP3
          clear pc0 pc1 pc2 pc3 pc4 pc5
          have ac0 := HA4.out.cell 0 (.string (bs asc)) rfl
          have ac1 := HA4.out.cell 1 (.string (bs aho)) rfl
          have ac2 := HA4.out.cell 2 (.int .i64 apo) rfl
          have ac3 := HA4.out.cell 3 (.string (bs apa)) rfl
          have ac4 := HA4.out.cell 4 (.string (bs aqu)) rfl
          have ac5 := HA4.out.cell 5 (.bool ahq) rfl
          go_wp2_with fail
          refine (HCA.out _ (HE.out.bel HB4.out)).mono ?_
          rintro r w5 ⟨rfl, hb⟩
          have HB5 := Lib.hid (HB4.out.trans (hb.mono HB4.out.size))
          have HA5 := Lib.hid (HA4.out.below hb)
          have HP5 := Lib.hid (HP4.out.below hb)
          clear hb HB4 HA4 HP4
          clear ac0 ac1 ac2 ac3 ac4 ac5
          have ac0 := HA5.out.cell 0 (.string (bs asc)) rfl
          have ac1 := HA5.out.cell 1 (.string (bs aho)) rfl
          have ac2 := HA5.out.cell 2 (.int .i64 apo) rfl
          have ac3 := HA5.out.cell 3 (.string (bs apa)) rfl
          have ac4 := HA5.out.cell 4 (.string (bs aqu)) rfl
          have ac5 := HA5.out.cell 5 (.bool ahq) rfl
          go_wp2_with fail
          refine (HR1.out _ (HE.out.bel HB5.out)).mono ?_
          rintro r w6 ⟨rfl, hb⟩
          have HB6 := Lib.hid (HB5.out.trans (hb.mono HB5.out.size))
          have HA6 := Lib.hid (HA5.out.below hb)
          have HP6 := Lib.hid (HP5.out.below hb)
          clear hb HB5 HA5 HP5
          clear ac0 ac1 ac2 ac3 ac4 ac5
          have hal : Below w6.heap.size w6 (w6.alloc (.cells #[.string ⟨#[]⟩, .string ⟨#[]⟩, .int .i64 0, .string ⟨#[]⟩, .string ⟨#[]⟩, .bool false] 23)) := (Below.refl _ _).alloc (Nat.le_refl _) _
          have HB7 := Lib.hid (HB6.out.trans (hal.mono HB6.out.size))
          have HA7 := Lib.hid (HA6.out.alloc (.cells #[.string ⟨#[]⟩, .string ⟨#[]⟩, .int .i64 0, .string ⟨#[]⟩, .string ⟨#[]⟩, .bool false] 23))
          have HP7 := Lib.hid (HP6.out.alloc (.cells #[.string ⟨#[]⟩, .string ⟨#[]⟩, .int .i64 0, .string ⟨#[]⟩, .string ⟨#[]⟩, .bool false] 23))
          have hn := ubk.new w6 #[.string ⟨#[]⟩, .string ⟨#[]⟩, .int .i64 0, .string ⟨#[]⟩, .string ⟨#[]⟩, .bool false] 23
          have HU7 := Lib.hid hn; clear hn
          clear hal HB6 HA6 HP6
          go_wp2_with fail
          refine (works_any _ (HE.out.bel HB7.out)).mono ?_
          rintro r w8 ⟨rfl, hb⟩
          have HB8 := Lib.hid (HB7.out.trans (hb.mono HB7.out.size))
          have HA8 := Lib.hid (HA7.out.below hb)
          have HP8 := Lib.hid (HP7.out.below hb)
          have HU8 := Lib.hid (HU7.out.below hb)
          clear hb HB7 HA7 HP7 HU7
          go_wp2_with fail
          go_ret
          exact ⟨rfl, HB8.out⟩
        · have hka0 : a.check = 0 := Classical.not_not.1 hka
          clear hka
          rw [ref_nil hka0] at HR0
          have HNA := Lib.hid (fun W (he : EnvU W) => normal_any a W he oa)
          have HRS := Lib.hid (fun W (he : EnvU W) => ref_any a s.data.toList W he oa)
          rw [bs_self] at HRS
          have HRB : Hid (b.check = 0 → ∀ W, EnvU W → Calls Tryz.prog 8 #[.agg #[.string (bs a.sc), .string (bs a.ho), .int .i64 a.po, .string (bs a.pa), .string (bs a.qu), .bool a.hq], .string (bs b.put)] W (RetU W (b.normal, 0))) := fun h W he => by have h2 := ref_any a b.put W he oa; rwa [ref_put hka0 h] at h2
          have HCB := Lib.hid (fun W (he : EnvU W) => uriCheck_any b W he ob)
          have HPB := Lib.hid (fun W (he : EnvU W) => uriPut_any b W he ob)
          have HNB := Lib.hid (fun W (he : EnvU W) => normal_any b W he ob)
          rw [hka0] at HCA
          have hok := Lib.hid (@ref_ok a s.data.toList)
          have hno := Lib.hid (@ref_no a s.data.toList)
          clear hka0 oa ob
          generalize a.normal = an at *
          generalize b.normal = bn at *
          generalize b.put = bp at *
          generalize b.check = kb at *
          generalize refU a s.data.toList = X at *
          obtain ⟨nsc, nho, npo, npa, nqu, nhq⟩ := an
          obtain ⟨msc, mho, mpo, mpa, mqu, mhq⟩ := bn
          obtain ⟨X1, g⟩ := X
          obtain ⟨asc, aho, apo, apa, aqu, ahq⟩ := a
          obtain ⟨bsc, bho, bpo, bpa, bqu, bhq⟩ := b
          unfold RetU at HR0 HRS
          simp only at HFA HFB HCA HR0 HNA HRS HCB HPB HNB hok hno ⊢
          by_cases hkb : kb = 0
          · subst hkb
            have HRB2 := Lib.hid (HRB.out rfl)
            unfold RetU at HRB2
            simp only at HRB2
            clear HRB
            by_cases hg : g ≠ 0
            · have h0 : X1 = ur0 := hno.out hg
              subst h0
              have HRS2 : Hid (∀ W, EnvU W → Calls Tryz.prog 8 #[.agg #[.string (bs asc), .string (bs aho), .int .i64 apo, .string (bs apa), .string (bs aqu), .bool ahq], .string s] W fun e w' => e = .returned (.tuple #[.agg #[.string ⟨#[]⟩, .string ⟨#[]⟩, .int .i64 0, .string ⟨#[]⟩, .string ⟨#[]⟩, .bool false], .int .i64 g]) ∧ Below W.heap.size W w') := HRS.out
              have hgn : (g != 0) = true := bne_iff_ne.2 hg
              clear hg HRS hok hno
              have hal : Below w.heap.size w (w.alloc (.cells #[.string (bs asc), .string (bs aho), .int .i64 apo, .string (bs apa), .string (bs aqu), .bool ahq] 23)) := (Below.refl _ _).alloc (Nat.le_refl _) _
              have HB1 := Lib.hid hal
              have hn := ubk.new w #[.string (bs asc), .string (bs aho), .int .i64 apo, .string (bs apa), .string (bs aqu), .bool ahq] 23
              have HA1 := Lib.hid hn; clear hn
              clear hal
              have hal : Below (w.alloc (.cells #[.string (bs asc), .string (bs aho), .int .i64 apo, .string (bs apa), .string (bs aqu), .bool ahq] 23)).heap.size (w.alloc (.cells #[.string (bs asc), .string (bs aho), .int .i64 apo, .string (bs apa), .string (bs aqu), .bool ahq] 23)) ((w.alloc (.cells #[.string (bs asc), .string (bs aho), .int .i64 apo, .string (bs apa), .string (bs aqu), .bool ahq] 23)).alloc (.cells #[.string (bs bsc), .string (bs bho), .int .i64 bpo, .string (bs bpa), .string (bs bqu), .bool bhq] 23)) := (Below.refl _ _).alloc (Nat.le_refl _) _
              have HB2 := Lib.hid (HB1.out.trans (hal.mono HB1.out.size))
              have HA2 := Lib.hid (HA1.out.alloc (.cells #[.string (bs bsc), .string (bs bho), .int .i64 bpo, .string (bs bpa), .string (bs bqu), .bool bhq] 23))
              have hn := ubk.new (w.alloc (.cells #[.string (bs asc), .string (bs aho), .int .i64 apo, .string (bs apa), .string (bs aqu), .bool ahq] 23)) #[.string (bs bsc), .string (bs bho), .int .i64 bpo, .string (bs bpa), .string (bs bqu), .bool bhq] 23
              rw [World.size_alloc] at hn
              have HP2 := Lib.hid hn; clear hn
              clear hal HB1 HA1
              have ac0 := HA2.out.cell 0 (.string (bs asc)) rfl
              have ac1 := HA2.out.cell 1 (.string (bs aho)) rfl
              have ac2 := HA2.out.cell 2 (.int .i64 apo) rfl
              have ac3 := HA2.out.cell 3 (.string (bs apa)) rfl
              have ac4 := HA2.out.cell 4 (.string (bs aqu)) rfl
              have ac5 := HA2.out.cell 5 (.bool ahq) rfl
              go_enter Tryz.func4, Tryz.ntmps4
              go_wp2_with fail
              refine (HFA.out _).mono ?_
              rintro r w3 ⟨rfl, hb⟩
              have HB3 := Lib.hid (HB2.out.trans (hb.mono HB2.out.size))
              have HA3 := Lib.hid (HA2.out.below hb)
              have HP3 := Lib.hid (HP2.out.below hb)
              clear hb HB2 HA2 HP2
              clear ac0 ac1 ac2 ac3 ac4 ac5
              have pc0 := HP3.out.cell 0 (.string (bs bsc)) rfl
              have pc1 := HP3.out.cell 1 (.string (bs bho)) rfl
              have pc2 := HP3.out.cell 2 (.int .i64 bpo) rfl
              have pc3 := HP3.out.cell 3 (.string (bs bpa)) rfl
              have pc4 := HP3.out.cell 4 (.string (bs bqu)) rfl
              have pc5 := HP3.out.cell 5 (.bool bhq) rfl
              go_wp2_with fail
              refine (HFB.out _).mono ?_
              rintro r w4 ⟨rfl, hb⟩
              have HB4 := Lib.hid (HB3.out.trans (hb.mono HB3.out.size))
              have HA4 := Lib.hid (HA3.out.below hb)
              have HP4 := Lib.hid (HP3.out.below hb)
              clear hb HB3 HA3 HP3
              clear pc0 pc1 pc2 pc3 pc4 pc5
              have ac0 := HA4.out.cell 0 (.string (bs asc)) rfl
              have ac1 := HA4.out.cell 1 (.string (bs aho)) rfl
              have ac2 := HA4.out.cell 2 (.int .i64 apo) rfl
              have ac3 := HA4.out.cell 3 (.string (bs apa)) rfl
              have ac4 := HA4.out.cell 4 (.string (bs aqu)) rfl
              have ac5 := HA4.out.cell 5 (.bool ahq) rfl
              go_wp2_with fail
              refine (HCA.out _ (HE.out.bel HB4.out)).mono ?_
              rintro r w5 ⟨rfl, hb⟩
              have HB5 := Lib.hid (HB4.out.trans (hb.mono HB4.out.size))
              have HA5 := Lib.hid (HA4.out.below hb)
              have HP5 := Lib.hid (HP4.out.below hb)
              clear hb HB4 HA4 HP4
              clear ac0 ac1 ac2 ac3 ac4 ac5
              have ac0 := HA5.out.cell 0 (.string (bs asc)) rfl
              have ac1 := HA5.out.cell 1 (.string (bs aho)) rfl
              have ac2 := HA5.out.cell 2 (.int .i64 apo) rfl
              have ac3 := HA5.out.cell 3 (.string (bs apa)) rfl
              have ac4 := HA5.out.cell 4 (.string (bs aqu)) rfl
              have ac5 := HA5.out.cell 5 (.bool ahq) rfl
              go_wp2_with fail
              refine (HR0.out _ (HE.out.bel HB5.out)).mono ?_
              rintro r w6 ⟨rfl, hb⟩
              have HB6 := Lib.hid (HB5.out.trans (hb.mono HB5.out.size))
              have HA6 := Lib.hid (HA5.out.below hb)
              have HP6 := Lib.hid (HP5.out.below hb)
              clear hb HB5 HA5 HP5
              clear ac0 ac1 ac2 ac3 ac4 ac5
              have hal : Below w6.heap.size w6 (w6.alloc (.cells #[.string (bs nsc), .string (bs nho), .int .i64 npo, .string (bs npa), .string (bs nqu), .bool nhq] 23)) := (Below.refl _ _).alloc (Nat.le_refl _) _
              have HB7 := Lib.hid (HB6.out.trans (hal.mono HB6.out.size))
              have HA7 := Lib.hid (HA6.out.alloc (.cells #[.string (bs nsc), .string (bs nho), .int .i64 npo, .string (bs npa), .string (bs nqu), .bool nhq] 23))
              have HP7 := Lib.hid (HP6.out.alloc (.cells #[.string (bs nsc), .string (bs nho), .int .i64 npo, .string (bs npa), .string (bs nqu), .bool nhq] 23))
              have hn := ubk.new w6 #[.string (bs nsc), .string (bs nho), .int .i64 npo, .string (bs npa), .string (bs nqu), .bool nhq] 23
              have HU7 := Lib.hid hn; clear hn
              clear hal HB6 HA6 HP6
              go_wp2_with fail
              have hz : Below (w6.alloc (.cells #[.string (bs nsc), .string (bs nho), .int .i64 npo, .string (bs npa), .string (bs nqu), .bool nhq] 23)).heap.size (w6.alloc (.cells #[.string (bs nsc), .string (bs nho), .int .i64 npo, .string (bs npa), .string (bs nqu), .bool nhq] 23)) (w6.alloc (.cells #[.string (bs nsc), .string (bs nho), .int .i64 npo, .string (bs npa), .string (bs nqu), .bool nhq] 23)).drew := (Below.refl _ _).drew
              have HZ1_0 := Lib.hid hz; clear hz
              refine wp_region_growS (.one 0 false (.one 1 false (.one 2 false (.one 3 false (.one 4 false (.one 5 true (.one 6 false (.one 7 false .done))))))))
                (fun W => Below (w6.alloc (.cells #[.string (bs nsc), .string (bs nho), .int .i64 npo, .string (bs npa), .string (bs nqu), .bool nhq] 23)).heap.size (w6.alloc (.cells #[.string (bs nsc), .string (bs nho), .int .i64 npo, .string (bs npa), .string (bs nqu), .bool nhq] 23)) W) (by kernel_rfl) (by kernel_rfl) rfl (by kernel_rfl) (by kernel_rfl) HZ1_0.out (fun ops hops => ?_)
              simp only [GT.ins, List.getD_cons_zero, List.getD_cons_succ]
              have g2 : (ops[2]?).bind (·.dst) = some 51 := by rw [hops.out]; rfl
              have G2 := Lib.hid g2
              clear hops g2
              iterate 3
                refine growS_take (by rfl) ?_
                apply Exists.intro
                refine ⟨fun w' hE => ?_, ?_⟩
                · have yc0 := (HU7.out.below hE).cell 0 (.string (bs nsc)) rfl; have yc1 := (HU7.out.below hE).cell 1 (.string (bs nho)) rfl; have yc2 := (HU7.out.below hE).cell 2 (.int .i64 npo) rfl; have yc3 := (HU7.out.below hE).cell 3 (.string (bs npa)) rfl; have yc4 := (HU7.out.below hE).cell 4 (.string (bs nqu)) rfl; have yc5 := (HU7.out.below hE).cell 5 (.bool nhq) rfl; have zc0 := (HA7.out.below hE).cell 0 (.string (bs asc)) rfl; have zc1 := (HA7.out.below hE).cell 1 (.string (bs aho)) rfl; have zc2 := (HA7.out.below hE).cell 2 (.int .i64 apo) rfl; have zc3 := (HA7.out.below hE).cell 3 (.string (bs apa)) rfl; have zc4 := (HA7.out.below hE).cell 4 (.string (bs aqu)) rfl; have zc5 := (HA7.out.below hE).cell 5 (.bool ahq) rfl
                  go_simp
                  try with_reducible rfl
                simp only [Act.put, List.setIfInBounds_toArray, List.set_cons_zero, List.set_cons_succ]
              iterate 2
                refine growS_take (wantedS G2.out rfl rfl) ?_
                apply Exists.intro
                refine ⟨fun w' hE => ?_, ?_⟩
                · have yc0 := (HU7.out.below hE).cell 0 (.string (bs nsc)) rfl; have yc1 := (HU7.out.below hE).cell 1 (.string (bs nho)) rfl; have yc2 := (HU7.out.below hE).cell 2 (.int .i64 npo) rfl; have yc3 := (HU7.out.below hE).cell 3 (.string (bs npa)) rfl; have yc4 := (HU7.out.below hE).cell 4 (.string (bs nqu)) rfl; have yc5 := (HU7.out.below hE).cell 5 (.bool nhq) rfl; have zc0 := (HA7.out.below hE).cell 0 (.string (bs asc)) rfl; have zc1 := (HA7.out.below hE).cell 1 (.string (bs aho)) rfl; have zc2 := (HA7.out.below hE).cell 2 (.int .i64 apo) rfl; have zc3 := (HA7.out.below hE).cell 3 (.string (bs apa)) rfl; have zc4 := (HA7.out.below hE).cell 4 (.string (bs aqu)) rfl; have zc5 := (HA7.out.below hE).cell 5 (.bool ahq) rfl
                  go_simp
                  try with_reducible rfl
                simp only [Act.put, List.setIfInBounds_toArray, List.set_cons_zero, List.set_cons_succ]
              refine growS_call (wantedS G2.out rfl rfl) (fun K hK => ?_)
              go_simp
              refine (HNA.out _ (HE.out.bel (HB7.out.trans (HZ1_0.out.mono HB7.out.size)))).mono ?_
              rintro r z1_1 ⟨rfl, hb⟩
              have hz := HZ1_0.out.trans (hb.mono HZ1_0.out.size)
              refine hK.out _ _ hz ?_
              have HZ1_1 := Lib.hid hz
              clear hK K hb hz
              iterate 1
                refine growS_take (wantedS G2.out rfl rfl) ?_
                apply Exists.intro
                refine ⟨fun w' hE => ?_, ?_⟩
                · have yc0 := (HU7.out.below hE).cell 0 (.string (bs nsc)) rfl; have yc1 := (HU7.out.below hE).cell 1 (.string (bs nho)) rfl; have yc2 := (HU7.out.below hE).cell 2 (.int .i64 npo) rfl; have yc3 := (HU7.out.below hE).cell 3 (.string (bs npa)) rfl; have yc4 := (HU7.out.below hE).cell 4 (.string (bs nqu)) rfl; have yc5 := (HU7.out.below hE).cell 5 (.bool nhq) rfl; have zc0 := (HA7.out.below hE).cell 0 (.string (bs asc)) rfl; have zc1 := (HA7.out.below hE).cell 1 (.string (bs aho)) rfl; have zc2 := (HA7.out.below hE).cell 2 (.int .i64 apo) rfl; have zc3 := (HA7.out.below hE).cell 3 (.string (bs apa)) rfl; have zc4 := (HA7.out.below hE).cell 4 (.string (bs aqu)) rfl; have zc5 := (HA7.out.below hE).cell 5 (.bool ahq) rfl
                  go_simp
                  try with_reducible rfl
                simp only [Act.put, List.setIfInBounds_toArray, List.set_cons_zero, List.set_cons_succ]
              iterate 1
                refine growS_take (by rfl) ?_
                apply Exists.intro
                refine ⟨fun w' hE => ?_, ?_⟩
                · have yc0 := (HU7.out.below hE).cell 0 (.string (bs nsc)) rfl; have yc1 := (HU7.out.below hE).cell 1 (.string (bs nho)) rfl; have yc2 := (HU7.out.below hE).cell 2 (.int .i64 npo) rfl; have yc3 := (HU7.out.below hE).cell 3 (.string (bs npa)) rfl; have yc4 := (HU7.out.below hE).cell 4 (.string (bs nqu)) rfl; have yc5 := (HU7.out.below hE).cell 5 (.bool nhq) rfl; have zc0 := (HA7.out.below hE).cell 0 (.string (bs asc)) rfl; have zc1 := (HA7.out.below hE).cell 1 (.string (bs aho)) rfl; have zc2 := (HA7.out.below hE).cell 2 (.int .i64 apo) rfl; have zc3 := (HA7.out.below hE).cell 3 (.string (bs apa)) rfl; have zc4 := (HA7.out.below hE).cell 4 (.string (bs aqu)) rfl; have zc5 := (HA7.out.below hE).cell 5 (.bool ahq) rfl
                  go_simp
                  try with_reducible rfl
                simp only [Act.put, List.setIfInBounds_toArray, List.set_cons_zero, List.set_cons_succ]
              refine growS_done (NoPanic.normal ?_)
              have HB8 := Lib.hid (HB7.out.trans (HZ1_1.out.mono HB7.out.size))
              have HA8 := Lib.hid (HA7.out.below HZ1_1.out)
              have HP8 := Lib.hid (HP7.out.below HZ1_1.out)
              have HU8 := Lib.hid (HU7.out.below HZ1_1.out)
              clear HB7 HA7 HP7 HU7 HZ1_0 HZ1_1
              have pc0 := HP8.out.cell 0 (.string (bs bsc)) rfl
              have pc1 := HP8.out.cell 1 (.string (bs bho)) rfl
              have pc2 := HP8.out.cell 2 (.int .i64 bpo) rfl
              have pc3 := HP8.out.cell 3 (.string (bs bpa)) rfl
              have pc4 := HP8.out.cell 4 (.string (bs bqu)) rfl
              have pc5 := HP8.out.cell 5 (.bool bhq) rfl
              go_wp2_with fail
              refine (HCB.out _ (HE.out.bel HB8.out)).mono ?_
              rintro r w9 ⟨rfl, hb⟩
              have HB9 := Lib.hid (HB8.out.trans (hb.mono HB8.out.size))
              have HA9 := Lib.hid (HA8.out.below hb)
              have HP9 := Lib.hid (HP8.out.below hb)
              have HU9 := Lib.hid (HU8.out.below hb)
              clear hb HB8 HA8 HP8 HU8
              clear pc0 pc1 pc2 pc3 pc4 pc5
              go_wp2_with fail
              apply wp_meetG (fun g10 W => ubk W g10 #[.string (bs msc), .string (bs mho), .int .i64 mpo, .string (bs mpa), .string (bs mqu), .bool mhq] ∧ Below w9.heap.size w9 W)
              case h1 =>
                refine wp_region_growS (.one 0 false (.one 1 false (.two 2 7 (.two 3 7 (.one 4 false (.one 5 false (.one 6 false (.one 7 true (.one 8 true (.one 9 false .done)))))) (.one 3 true (.one 4 false (.one 5 false (.one 6 false (.one 8 true (.one 9 false .done))))))) (.one 2 true (.one 3 true (.one 4 false (.one 5 false (.one 6 false (.one 8 true (.one 9 false .done))))))))))
                  (fun W => Below w9.heap.size w9 W) (by kernel_rfl) (by kernel_rfl) rfl (by kernel_rfl) (by kernel_rfl) ((Below.refl _ _).drew) (fun ops hops => ?_)
                simp only [GT.ins, List.getD_cons_zero, List.getD_cons_succ]
                clear hops
                iterate 2
                  refine growS_take (by rfl) ?_
                  apply Exists.intro
                  refine ⟨fun w' hE => ?_, ?_⟩
                  · have yc0 := (HA9.out.below hE).cell 0 (.string (bs asc)) rfl; have yc1 := (HA9.out.below hE).cell 1 (.string (bs aho)) rfl; have yc2 := (HA9.out.below hE).cell 2 (.int .i64 apo) rfl; have yc3 := (HA9.out.below hE).cell 3 (.string (bs apa)) rfl; have yc4 := (HA9.out.below hE).cell 4 (.string (bs aqu)) rfl; have yc5 := (HA9.out.below hE).cell 5 (.bool ahq) rfl; have zc0 := (HP9.out.below hE).cell 0 (.string (bs bsc)) rfl; have zc1 := (HP9.out.below hE).cell 1 (.string (bs bho)) rfl; have zc2 := (HP9.out.below hE).cell 2 (.int .i64 bpo) rfl; have zc3 := (HP9.out.below hE).cell 3 (.string (bs bpa)) rfl; have zc4 := (HP9.out.below hE).cell 4 (.string (bs bqu)) rfl; have zc5 := (HP9.out.below hE).cell 5 (.bool bhq) rfl
                    go_simp
                    try with_reducible rfl
                  simp only [Act.put, List.setIfInBounds_toArray, List.set_cons_zero, List.set_cons_succ]
                refine growS_two (by rfl) (by rfl) (fun K hK => ?_) (fun K hK => ?_)
                · go_simp
                  refine (HPB.out _ (HE.out.bel (HB9.out.trans (((Below.refl _ _).drew : Below w9.heap.size w9 w9.drew).mono HB9.out.size)))).mono ?_
                  rintro r x1 ⟨rfl, hb⟩
                  have hz := ((Below.refl _ _).drew : Below w9.heap.size w9 w9.drew).trans (hb.mono ((Below.refl _ _).drew : Below w9.heap.size w9 w9.drew).size)
                  refine hK.out _ _ hz ?_
                  have HX1 := Lib.hid hz
                  clear hK K hb hz
                  refine growS_two (by rfl) (by rfl) (fun K hK => ?_) (fun K hK => ?_)
                  · go_simp
                    refine (HRB2.out _ (HE.out.bel (HB9.out.trans (HX1.out.mono HB9.out.size)))).mono ?_
                    rintro r x2 ⟨rfl, hb⟩
                    have hz := HX1.out.trans (hb.mono HX1.out.size)
                    refine hK.out _ _ hz ?_
                    have HX2 := Lib.hid hz
                    clear hK K hb hz
                    iterate 3
                      refine growS_take (by rfl) ?_
                      apply Exists.intro
                      refine ⟨fun w' hE => ?_, ?_⟩
                      · skip
                        go_simp
                        try with_reducible rfl
                      simp only [Act.put, List.setIfInBounds_toArray, List.set_cons_zero, List.set_cons_succ]
                    refine growS_call (by rfl) (fun K hK => ?_)
                    go_simp
                    have hd1 : Below w9.heap.size w9 (x2.alloc (.cells #[.string ⟨#[]⟩, .string ⟨#[]⟩, .int .i64 0, .string ⟨#[]⟩, .string ⟨#[]⟩, .bool false] 23)) := HX2.out.trans (((Below.refl _ _).alloc (Nat.le_refl _) _).mono HX2.out.size)
                    have hz1 := ubk.new x2 #[.string ⟨#[]⟩, .string ⟨#[]⟩, .int .i64 0, .string ⟨#[]⟩, .string ⟨#[]⟩, .bool false] 23
                    have hgl := HX2.out.size
                    refine hK.out _ _ hd1 ?_
                    have HX3 := Lib.hid hd1; have HG3 := Lib.hid hz1; have HGL := Lib.hid hgl; clear hK K hd1 hz1 hgl
                    generalize (x2.alloc (.cells #[.string ⟨#[]⟩, .string ⟨#[]⟩, .int .i64 0, .string ⟨#[]⟩, .string ⟨#[]⟩, .bool false] 23)) = x3 at *
                    generalize x2.heap.size = g10 at HG3 HGL ⊢
                    have nc0 := HG3.out.cell 0 (.string ⟨#[]⟩) rfl
                    have nc1 := HG3.out.cell 1 (.string ⟨#[]⟩) rfl
                    have nc2 := HG3.out.cell 2 (.int .i64 0) rfl
                    have nc3 := HG3.out.cell 3 (.string ⟨#[]⟩) rfl
                    have nc4 := HG3.out.cell 4 (.string ⟨#[]⟩) rfl
                    have nc5 := HG3.out.cell 5 (.bool false) rfl
                    have nf0 := HG3.out.free 0
                    have nf1 := HG3.out.free 1
                    have nf2 := HG3.out.free 2
                    have nf3 := HG3.out.free 3
                    have nf4 := HG3.out.free 4
                    have nf5 := HG3.out.free 5
                    have hq0 := ((((((HG3.out.set 0 (.string (bs msc))).set 1 (.string (bs mho))).set 2 (.int .i64 mpo)).set 3 (.string (bs mpa))).set 4 (.string (bs mqu))).set 5 (.bool mhq))
                    simp only [List.setIfInBounds_toArray, List.set_cons_zero, List.set_cons_succ] at hq0
                    have HQ0 := Lib.hid hq0; clear hq0
                    have hE9 := ((((((HX3.out.setCell (p := ⟨g10, 0, none⟩) HGL.out (.string (bs msc))).setCell (p := ⟨g10, 1, none⟩) HGL.out (.string (bs mho))).setCell (p := ⟨g10, 2, none⟩) HGL.out (.int .i64 mpo)).setCell (p := ⟨g10, 3, none⟩) HGL.out (.string (bs mpa))).setCell (p := ⟨g10, 4, none⟩) HGL.out (.string (bs mqu))).setCell (p := ⟨g10, 5, none⟩) HGL.out (.bool mhq))
                    have HE9 := Lib.hid hE9; clear hE9
                    refine growS_call (by rfl) (fun K hK => ?_)
                    go_simp
                    refine hK.out _ _ HE9.out ?_
                    clear hK K
                    iterate 1
                      refine growS_take (by rfl) ?_
                      apply Exists.intro
                      refine ⟨fun w' hE => ?_, ?_⟩
                      · skip
                        go_simp
                        try with_reducible rfl
                      simp only [Act.put, List.setIfInBounds_toArray, List.set_cons_zero, List.set_cons_succ]
                    refine growS_done (NoPanic.normal ?_)
                    exact ⟨g10, rfl, rfl, HQ0.out, HE9.out⟩
                  · go_simp
                    have hd1 : Below w9.heap.size w9 (x1.alloc (.cells #[.string ⟨#[]⟩, .string ⟨#[]⟩, .int .i64 0, .string ⟨#[]⟩, .string ⟨#[]⟩, .bool false] 23)) := HX1.out.trans (((Below.refl _ _).alloc (Nat.le_refl _) _).mono HX1.out.size)
                    have hz1 := ubk.new x1 #[.string ⟨#[]⟩, .string ⟨#[]⟩, .int .i64 0, .string ⟨#[]⟩, .string ⟨#[]⟩, .bool false] 23
                    have hgl := HX1.out.size
                    refine hK.out _ _ hd1 ?_
                    have HX4 := Lib.hid hd1; have HG4 := Lib.hid hz1; have HGL := Lib.hid hgl; clear hK K hd1 hz1 hgl
                    generalize (x1.alloc (.cells #[.string ⟨#[]⟩, .string ⟨#[]⟩, .int .i64 0, .string ⟨#[]⟩, .string ⟨#[]⟩, .bool false] 23)) = x4 at *
                    generalize x1.heap.size = g10 at HG4 HGL ⊢
                    refine growS_call (by rfl) (fun K hK => ?_)
                    go_simp
                    refine (HRB2.out _ (HE.out.bel (HB9.out.trans (HX4.out.mono HB9.out.size)))).mono ?_
                    rintro r x5 ⟨rfl, hb⟩
                    have hz := HX4.out.trans (hb.mono HX4.out.size)
                    refine hK.out _ _ hz ?_
                    have HX5 := Lib.hid hz
                    have HG5 := Lib.hid (HG4.out.below hb)
                    clear hK K hb hz
                    iterate 3
                      refine growS_take (by rfl) ?_
                      apply Exists.intro
                      refine ⟨fun w' hE => ?_, ?_⟩
                      · skip
                        go_simp
                        try with_reducible rfl
                      simp only [Act.put, List.setIfInBounds_toArray, List.set_cons_zero, List.set_cons_succ]
                    have nc0 := HG5.out.cell 0 (.string ⟨#[]⟩) rfl
                    have nc1 := HG5.out.cell 1 (.string ⟨#[]⟩) rfl
                    have nc2 := HG5.out.cell 2 (.int .i64 0) rfl
                    have nc3 := HG5.out.cell 3 (.string ⟨#[]⟩) rfl
                    have nc4 := HG5.out.cell 4 (.string ⟨#[]⟩) rfl
                    have nc5 := HG5.out.cell 5 (.bool false) rfl
                    have nf0 := HG5.out.free 0
                    have nf1 := HG5.out.free 1
                    have nf2 := HG5.out.free 2
                    have nf3 := HG5.out.free 3
                    have nf4 := HG5.out.free 4
                    have nf5 := HG5.out.free 5
                    have hq0 := ((((((HG5.out.set 0 (.string (bs msc))).set 1 (.string (bs mho))).set 2 (.int .i64 mpo)).set 3 (.string (bs mpa))).set 4 (.string (bs mqu))).set 5 (.bool mhq))
                    simp only [List.setIfInBounds_toArray, List.set_cons_zero, List.set_cons_succ] at hq0
                    have HQ0 := Lib.hid hq0; clear hq0
                    have hE9 := ((((((HX5.out.setCell (p := ⟨g10, 0, none⟩) HGL.out (.string (bs msc))).setCell (p := ⟨g10, 1, none⟩) HGL.out (.string (bs mho))).setCell (p := ⟨g10, 2, none⟩) HGL.out (.int .i64 mpo)).setCell (p := ⟨g10, 3, none⟩) HGL.out (.string (bs mpa))).setCell (p := ⟨g10, 4, none⟩) HGL.out (.string (bs mqu))).setCell (p := ⟨g10, 5, none⟩) HGL.out (.bool mhq))
                    have HE9 := Lib.hid hE9; clear hE9
                    refine growS_call (by rfl) (fun K hK => ?_)
                    go_simp
                    refine hK.out _ _ HE9.out ?_
                    clear hK K
                    iterate 1
                      refine growS_take (by rfl) ?_
                      apply Exists.intro
                      refine ⟨fun w' hE => ?_, ?_⟩
                      · skip
                        go_simp
                        try with_reducible rfl
                      simp only [Act.put, List.setIfInBounds_toArray, List.set_cons_zero, List.set_cons_succ]
                    refine growS_done (NoPanic.normal ?_)
                    exact ⟨g10, rfl, rfl, HQ0.out, HE9.out⟩
                · go_simp
                  have hd1 : Below w9.heap.size w9 (w9.alloc (.cells #[.string ⟨#[]⟩, .string ⟨#[]⟩, .int .i64 0, .string ⟨#[]⟩, .string ⟨#[]⟩, .bool false] 23)).drew := ((Below.refl _ _).alloc (Nat.le_refl _) _).drew
                  have hz1 := (ubk.new w9 #[.string ⟨#[]⟩, .string ⟨#[]⟩, .int .i64 0, .string ⟨#[]⟩, .string ⟨#[]⟩, .bool false] 23).below (drewU (w9.alloc (.cells #[.string ⟨#[]⟩, .string ⟨#[]⟩, .int .i64 0, .string ⟨#[]⟩, .string ⟨#[]⟩, .bool false] 23)))
                  refine hK.out _ _ hd1 ?_
                  have HX6 := Lib.hid hd1; have HG6 := Lib.hid hz1; clear hK K hd1 hz1
                  generalize (w9.alloc (.cells #[.string ⟨#[]⟩, .string ⟨#[]⟩, .int .i64 0, .string ⟨#[]⟩, .string ⟨#[]⟩, .bool false] 23)).drew = x6 at *
                  refine growS_call (by rfl) (fun K hK => ?_)
                  go_simp
                  refine (HPB.out _ (HE.out.bel (HB9.out.trans (HX6.out.mono HB9.out.size)))).mono ?_
                  rintro r x7 ⟨rfl, hb⟩
                  have hz := HX6.out.trans (hb.mono HX6.out.size)
                  refine hK.out _ _ hz ?_
                  have HX7 := Lib.hid hz
                  have HG7 := Lib.hid (HG6.out.below hb)
                  clear hK K hb hz
                  refine growS_call (by rfl) (fun K hK => ?_)
                  go_simp
                  refine (HRB2.out _ (HE.out.bel (HB9.out.trans (HX7.out.mono HB9.out.size)))).mono ?_
                  rintro r x8 ⟨rfl, hb⟩
                  have hz := HX7.out.trans (hb.mono HX7.out.size)
                  refine hK.out _ _ hz ?_
                  have HX8 := Lib.hid hz
                  have HG8 := Lib.hid (HG7.out.below hb)
                  clear hK K hb hz
                  iterate 3
                    refine growS_take (by rfl) ?_
                    apply Exists.intro
                    refine ⟨fun w' hE => ?_, ?_⟩
                    · skip
                      go_simp
                      try with_reducible rfl
                    simp only [Act.put, List.setIfInBounds_toArray, List.set_cons_zero, List.set_cons_succ]
                  generalize hgg : w9.heap.size = g10 at *
                  clear hgg
                  have nc0 := HG8.out.cell 0 (.string ⟨#[]⟩) rfl
                  have nc1 := HG8.out.cell 1 (.string ⟨#[]⟩) rfl
                  have nc2 := HG8.out.cell 2 (.int .i64 0) rfl
                  have nc3 := HG8.out.cell 3 (.string ⟨#[]⟩) rfl
                  have nc4 := HG8.out.cell 4 (.string ⟨#[]⟩) rfl
                  have nc5 := HG8.out.cell 5 (.bool false) rfl
                  have nf0 := HG8.out.free 0
                  have nf1 := HG8.out.free 1
                  have nf2 := HG8.out.free 2
                  have nf3 := HG8.out.free 3
                  have nf4 := HG8.out.free 4
                  have nf5 := HG8.out.free 5
                  have hq0 := ((((((HG8.out.set 0 (.string (bs msc))).set 1 (.string (bs mho))).set 2 (.int .i64 mpo)).set 3 (.string (bs mpa))).set 4 (.string (bs mqu))).set 5 (.bool mhq))
                  simp only [List.setIfInBounds_toArray, List.set_cons_zero, List.set_cons_succ] at hq0
                  have HQ0 := Lib.hid hq0; clear hq0
                  have hE9 := ((((((HX8.out.setCell (p := ⟨g10, 0, none⟩) (Nat.le_refl _) (.string (bs msc))).setCell (p := ⟨g10, 1, none⟩) (Nat.le_refl _) (.string (bs mho))).setCell (p := ⟨g10, 2, none⟩) (Nat.le_refl _) (.int .i64 mpo)).setCell (p := ⟨g10, 3, none⟩) (Nat.le_refl _) (.string (bs mpa))).setCell (p := ⟨g10, 4, none⟩) (Nat.le_refl _) (.string (bs mqu))).setCell (p := ⟨g10, 5, none⟩) (Nat.le_refl _) (.bool mhq))
                  have HE9 := Lib.hid hE9; clear hE9
                  refine growS_call (by rfl) (fun K hK => ?_)
                  go_simp
                  refine hK.out _ _ HE9.out ?_
                  clear hK K
                  iterate 1
                    refine growS_take (by rfl) ?_
                    apply Exists.intro
                    refine ⟨fun w' hE => ?_, ?_⟩
                    · skip
                      go_simp
                      try with_reducible rfl
                    simp only [Act.put, List.setIfInBounds_toArray, List.set_cons_zero, List.set_cons_succ]
                  refine growS_done (NoPanic.normal ?_)
                  exact ⟨g10, rfl, rfl, HQ0.out, HE9.out⟩
              case h2 =>
              rintro gV wV ⟨hv, hz⟩
              have HV10 := Lib.hid hv
              have HB10 := Lib.hid (HB9.out.trans (hz.mono HB9.out.size))
              have HA10 := Lib.hid (HA9.out.below hz)
              have HP10 := Lib.hid (HP9.out.below hz)
              have HU10 := Lib.hid (HU9.out.below hz)
              clear hz hv HB9 HA9 HP9 HU9
              go_wp2_with fail
              have hz : Below wV.heap.size wV wV.drew := (Below.refl _ _).drew
              have HZ2_0 := Lib.hid hz; clear hz
              refine wp_region_growS (.one 0 false (.one 1 false (.one 2 false (.one 3 false (.one 4 false (.one 5 true (.one 6 false (.one 7 false .done))))))))
                (fun W => Below wV.heap.size wV W) (by kernel_rfl) (by kernel_rfl) rfl (by kernel_rfl) (by kernel_rfl) HZ2_0.out (fun ops hops => ?_)
              simp only [GT.ins, List.getD_cons_zero, List.getD_cons_succ]
              have g2 : (ops[2]?).bind (·.dst) = some 69 := by rw [hops.out]; rfl
              have G2 := Lib.hid g2
              clear hops g2
              iterate 3
                refine growS_take (by rfl) ?_
                apply Exists.intro
                refine ⟨fun w' hE => ?_, ?_⟩
                · have yc0 := (HV10.out.below hE).cell 0 (.string (bs msc)) rfl; have yc1 := (HV10.out.below hE).cell 1 (.string (bs mho)) rfl; have yc2 := (HV10.out.below hE).cell 2 (.int .i64 mpo) rfl; have yc3 := (HV10.out.below hE).cell 3 (.string (bs mpa)) rfl; have yc4 := (HV10.out.below hE).cell 4 (.string (bs mqu)) rfl; have yc5 := (HV10.out.below hE).cell 5 (.bool mhq) rfl; have zc0 := (HP10.out.below hE).cell 0 (.string (bs bsc)) rfl; have zc1 := (HP10.out.below hE).cell 1 (.string (bs bho)) rfl; have zc2 := (HP10.out.below hE).cell 2 (.int .i64 bpo) rfl; have zc3 := (HP10.out.below hE).cell 3 (.string (bs bpa)) rfl; have zc4 := (HP10.out.below hE).cell 4 (.string (bs bqu)) rfl; have zc5 := (HP10.out.below hE).cell 5 (.bool bhq) rfl
                  go_simp
                  try with_reducible rfl
                simp only [Act.put, List.setIfInBounds_toArray, List.set_cons_zero, List.set_cons_succ]
              iterate 2
                refine growS_take (wantedS G2.out rfl rfl) ?_
                apply Exists.intro
                refine ⟨fun w' hE => ?_, ?_⟩
                · have yc0 := (HV10.out.below hE).cell 0 (.string (bs msc)) rfl; have yc1 := (HV10.out.below hE).cell 1 (.string (bs mho)) rfl; have yc2 := (HV10.out.below hE).cell 2 (.int .i64 mpo) rfl; have yc3 := (HV10.out.below hE).cell 3 (.string (bs mpa)) rfl; have yc4 := (HV10.out.below hE).cell 4 (.string (bs mqu)) rfl; have yc5 := (HV10.out.below hE).cell 5 (.bool mhq) rfl; have zc0 := (HP10.out.below hE).cell 0 (.string (bs bsc)) rfl; have zc1 := (HP10.out.below hE).cell 1 (.string (bs bho)) rfl; have zc2 := (HP10.out.below hE).cell 2 (.int .i64 bpo) rfl; have zc3 := (HP10.out.below hE).cell 3 (.string (bs bpa)) rfl; have zc4 := (HP10.out.below hE).cell 4 (.string (bs bqu)) rfl; have zc5 := (HP10.out.below hE).cell 5 (.bool bhq) rfl
                  go_simp
                  try with_reducible rfl
                simp only [Act.put, List.setIfInBounds_toArray, List.set_cons_zero, List.set_cons_succ]
              refine growS_call (wantedS G2.out rfl rfl) (fun K hK => ?_)
              go_simp
              refine (HNB.out _ (HE.out.bel (HB10.out.trans (HZ2_0.out.mono HB10.out.size)))).mono ?_
              rintro r z2_1 ⟨rfl, hb⟩
              have hz := HZ2_0.out.trans (hb.mono HZ2_0.out.size)
              refine hK.out _ _ hz ?_
              have HZ2_1 := Lib.hid hz
              clear hK K hb hz
              iterate 1
                refine growS_take (wantedS G2.out rfl rfl) ?_
                apply Exists.intro
                refine ⟨fun w' hE => ?_, ?_⟩
                · have yc0 := (HV10.out.below hE).cell 0 (.string (bs msc)) rfl; have yc1 := (HV10.out.below hE).cell 1 (.string (bs mho)) rfl; have yc2 := (HV10.out.below hE).cell 2 (.int .i64 mpo) rfl; have yc3 := (HV10.out.below hE).cell 3 (.string (bs mpa)) rfl; have yc4 := (HV10.out.below hE).cell 4 (.string (bs mqu)) rfl; have yc5 := (HV10.out.below hE).cell 5 (.bool mhq) rfl; have zc0 := (HP10.out.below hE).cell 0 (.string (bs bsc)) rfl; have zc1 := (HP10.out.below hE).cell 1 (.string (bs bho)) rfl; have zc2 := (HP10.out.below hE).cell 2 (.int .i64 bpo) rfl; have zc3 := (HP10.out.below hE).cell 3 (.string (bs bpa)) rfl; have zc4 := (HP10.out.below hE).cell 4 (.string (bs bqu)) rfl; have zc5 := (HP10.out.below hE).cell 5 (.bool bhq) rfl
                  go_simp
                  try with_reducible rfl
                simp only [Act.put, List.setIfInBounds_toArray, List.set_cons_zero, List.set_cons_succ]
              iterate 1
                refine growS_take (by rfl) ?_
                apply Exists.intro
                refine ⟨fun w' hE => ?_, ?_⟩
                · have yc0 := (HV10.out.below hE).cell 0 (.string (bs msc)) rfl; have yc1 := (HV10.out.below hE).cell 1 (.string (bs mho)) rfl; have yc2 := (HV10.out.below hE).cell 2 (.int .i64 mpo) rfl; have yc3 := (HV10.out.below hE).cell 3 (.string (bs mpa)) rfl; have yc4 := (HV10.out.below hE).cell 4 (.string (bs mqu)) rfl; have yc5 := (HV10.out.below hE).cell 5 (.bool mhq) rfl; have zc0 := (HP10.out.below hE).cell 0 (.string (bs bsc)) rfl; have zc1 := (HP10.out.below hE).cell 1 (.string (bs bho)) rfl; have zc2 := (HP10.out.below hE).cell 2 (.int .i64 bpo) rfl; have zc3 := (HP10.out.below hE).cell 3 (.string (bs bpa)) rfl; have zc4 := (HP10.out.below hE).cell 4 (.string (bs bqu)) rfl; have zc5 := (HP10.out.below hE).cell 5 (.bool bhq) rfl
                  go_simp
                  try with_reducible rfl
                simp only [Act.put, List.setIfInBounds_toArray, List.set_cons_zero, List.set_cons_succ]
              refine growS_done (NoPanic.normal ?_)
              have HB11 := Lib.hid (HB10.out.trans (HZ2_1.out.mono HB10.out.size))
              have HA11 := Lib.hid (HA10.out.below HZ2_1.out)
              have HP11 := Lib.hid (HP10.out.below HZ2_1.out)
              have HU11 := Lib.hid (HU10.out.below HZ2_1.out)
              have HV11 := Lib.hid (HV10.out.below HZ2_1.out)
              clear HB10 HA10 HP10 HU10 HV10 HZ2_0 HZ2_1
              have ac0 := HA11.out.cell 0 (.string (bs asc)) rfl
              have ac1 := HA11.out.cell 1 (.string (bs aho)) rfl
              have ac2 := HA11.out.cell 2 (.int .i64 apo) rfl
              have ac3 := HA11.out.cell 3 (.string (bs apa)) rfl
              have ac4 := HA11.out.cell 4 (.string (bs aqu)) rfl
              have ac5 := HA11.out.cell 5 (.bool ahq) rfl
              go_wp2_with fail
              refine (HRS2.out _ (HE.out.bel HB11.out)).mono ?_
              rintro r w12 ⟨rfl, hb⟩
              have HB12 := Lib.hid (HB11.out.trans (hb.mono HB11.out.size))
              have HA12 := Lib.hid (HA11.out.below hb)
              have HP12 := Lib.hid (HP11.out.below hb)
              have HU12 := Lib.hid (HU11.out.below hb)
              have HV12 := Lib.hid (HV11.out.below hb)
              clear hb HB11 HA11 HP11 HU11 HV11
              clear ac0 ac1 ac2 ac3 ac4 ac5
              have hal : Below w12.heap.size w12 (w12.alloc (.cells #[.string ⟨#[]⟩, .string ⟨#[]⟩, .int .i64 0, .string ⟨#[]⟩, .string ⟨#[]⟩, .bool false] 23)) := (Below.refl _ _).alloc (Nat.le_refl _) _
              have HB13 := Lib.hid (HB12.out.trans (hal.mono HB12.out.size))
              have HA13 := Lib.hid (HA12.out.alloc (.cells #[.string ⟨#[]⟩, .string ⟨#[]⟩, .int .i64 0, .string ⟨#[]⟩, .string ⟨#[]⟩, .bool false] 23))
              have HP13 := Lib.hid (HP12.out.alloc (.cells #[.string ⟨#[]⟩, .string ⟨#[]⟩, .int .i64 0, .string ⟨#[]⟩, .string ⟨#[]⟩, .bool false] 23))
              have HU13 := Lib.hid (HU12.out.alloc (.cells #[.string ⟨#[]⟩, .string ⟨#[]⟩, .int .i64 0, .string ⟨#[]⟩, .string ⟨#[]⟩, .bool false] 23))
              have HV13 := Lib.hid (HV12.out.alloc (.cells #[.string ⟨#[]⟩, .string ⟨#[]⟩, .int .i64 0, .string ⟨#[]⟩, .string ⟨#[]⟩, .bool false] 23))
              have hn := ubk.new w12 #[.string ⟨#[]⟩, .string ⟨#[]⟩, .int .i64 0, .string ⟨#[]⟩, .string ⟨#[]⟩, .bool false] 23
              have HW13 := Lib.hid hn; clear hn
              clear hal HB12 HA12 HP12 HU12 HV12
              have wc0 := HW13.out.cell 0 (.string ⟨#[]⟩) rfl
              have wc1 := HW13.out.cell 1 (.string ⟨#[]⟩) rfl
              have wc2 := HW13.out.cell 2 (.int .i64 0) rfl
              have wc3 := HW13.out.cell 3 (.string ⟨#[]⟩) rfl
              have wc4 := HW13.out.cell 4 (.string ⟨#[]⟩) rfl
              have wc5 := HW13.out.cell 5 (.bool false) rfl
              go_wp2_with fail
              refine (works_any _ (HE.out.bel HB13.out)).mono ?_
              rintro r w14 ⟨rfl, hb⟩
              have HB14 := Lib.hid (HB13.out.trans (hb.mono HB13.out.size))
              have HA14 := Lib.hid (HA13.out.below hb)
              have HP14 := Lib.hid (HP13.out.below hb)
              have HU14 := Lib.hid (HU13.out.below hb)
              have HV14 := Lib.hid (HV13.out.below hb)
              have HW14 := Lib.hid (HW13.out.below hb)
              clear hb HB13 HA13 HP13 HU13 HV13 HW13
              clear wc0 wc1 wc2 wc3 wc4 wc5
              go_wp2_with fail
              go_ret
              exact ⟨rfl, HB14.out⟩
            · obtain rfl : g = 0 := Classical.not_not.1 hg
              obtain ⟨hc, hn⟩ := hok.out rfl
              obtain ⟨⟨l1, l2, l3, l4⟩, l5, l6⟩ := lens_of hc
              have ow : X1.okW := ⟨by omega, by omega, by omega⟩
              have HCW := Lib.hid (fun W (he : EnvU W) => uriCheck_any X1 W he ow)
              have HNW := Lib.hid (fun W (he : EnvU W) => normal_any X1 W he ow)
              have HRW : Hid (∀ W, EnvU W → Calls Tryz.prog 8 #[.agg #[.string (bs X1.sc), .string (bs X1.ho), .int .i64 X1.po, .string (bs X1.pa), .string (bs X1.qu), .bool X1.hq], .string ⟨#[]⟩] W (RetU W (refU X1 []))) := fun W he => ref_any X1 [] W he ow
              rw [ref_nil hc] at HRW
              rw [hn] at HNW HRW
              rw [hc] at HCW
              clear hc hn ow l1 l2 l3 l4 l5 l6 hg hok hno
              obtain ⟨xsc, xho, xpo, xpa, xqu, xhq⟩ := X1
              unfold RetU at HRW
              simp only at HRS HCW HNW HRW
              have hal : Below w.heap.size w (w.alloc (.cells #[.string (bs asc), .string (bs aho), .int .i64 apo, .string (bs apa), .string (bs aqu), .bool ahq] 23)) := (Below.refl _ _).alloc (Nat.le_refl _) _
              have HB1 := Lib.hid hal
              have hn := ubk.new w #[.string (bs asc), .string (bs aho), .int .i64 apo, .string (bs apa), .string (bs aqu), .bool ahq] 23
              have HA1 := Lib.hid hn; clear hn
              clear hal
              have hal : Below (w.alloc (.cells #[.string (bs asc), .string (bs aho), .int .i64 apo, .string (bs apa), .string (bs aqu), .bool ahq] 23)).heap.size (w.alloc (.cells #[.string (bs asc), .string (bs aho), .int .i64 apo, .string (bs apa), .string (bs aqu), .bool ahq] 23)) ((w.alloc (.cells #[.string (bs asc), .string (bs aho), .int .i64 apo, .string (bs apa), .string (bs aqu), .bool ahq] 23)).alloc (.cells #[.string (bs bsc), .string (bs bho), .int .i64 bpo, .string (bs bpa), .string (bs bqu), .bool bhq] 23)) := (Below.refl _ _).alloc (Nat.le_refl _) _
              have HB2 := Lib.hid (HB1.out.trans (hal.mono HB1.out.size))
              have HA2 := Lib.hid (HA1.out.alloc (.cells #[.string (bs bsc), .string (bs bho), .int .i64 bpo, .string (bs bpa), .string (bs bqu), .bool bhq] 23))
              have hn := ubk.new (w.alloc (.cells #[.string (bs asc), .string (bs aho), .int .i64 apo, .string (bs apa), .string (bs aqu), .bool ahq] 23)) #[.string (bs bsc), .string (bs bho), .int .i64 bpo, .string (bs bpa), .string (bs bqu), .bool bhq] 23
              rw [World.size_alloc] at hn
              have HP2 := Lib.hid hn; clear hn
              clear hal HB1 HA1
              have ac0 := HA2.out.cell 0 (.string (bs asc)) rfl
              have ac1 := HA2.out.cell 1 (.string (bs aho)) rfl
              have ac2 := HA2.out.cell 2 (.int .i64 apo) rfl
              have ac3 := HA2.out.cell 3 (.string (bs apa)) rfl
              have ac4 := HA2.out.cell 4 (.string (bs aqu)) rfl
              have ac5 := HA2.out.cell 5 (.bool ahq) rfl
              go_enter Tryz.func4, Tryz.ntmps4
              go_wp2_with fail
              refine (HFA.out _).mono ?_
              rintro r w3 ⟨rfl, hb⟩
              have HB3 := Lib.hid (HB2.out.trans (hb.mono HB2.out.size))
              have HA3 := Lib.hid (HA2.out.below hb)
              have HP3 := Lib.hid (HP2.out.below hb)
              clear hb HB2 HA2 HP2
              clear ac0 ac1 ac2 ac3 ac4 ac5
              have pc0 := HP3.out.cell 0 (.string (bs bsc)) rfl
              have pc1 := HP3.out.cell 1 (.string (bs bho)) rfl
              have pc2 := HP3.out.cell 2 (.int .i64 bpo) rfl
              have pc3 := HP3.out.cell 3 (.string (bs bpa)) rfl
              have pc4 := HP3.out.cell 4 (.string (bs bqu)) rfl
              have pc5 := HP3.out.cell 5 (.bool bhq) rfl
              go_wp2_with fail
              refine (HFB.out _).mono ?_
              rintro r w4 ⟨rfl, hb⟩
              have HB4 := Lib.hid (HB3.out.trans (hb.mono HB3.out.size))
              have HA4 := Lib.hid (HA3.out.below hb)
              have HP4 := Lib.hid (HP3.out.below hb)
              clear hb HB3 HA3 HP3
              clear pc0 pc1 pc2 pc3 pc4 pc5
              have ac0 := HA4.out.cell 0 (.string (bs asc)) rfl
              have ac1 := HA4.out.cell 1 (.string (bs aho)) rfl
              have ac2 := HA4.out.cell 2 (.int .i64 apo) rfl
              have ac3 := HA4.out.cell 3 (.string (bs apa)) rfl
              have ac4 := HA4.out.cell 4 (.string (bs aqu)) rfl
              have ac5 := HA4.out.cell 5 (.bool ahq) rfl
              go_wp2_with fail
              refine (HCA.out _ (HE.out.bel HB4.out)).mono ?_
              rintro r w5 ⟨rfl, hb⟩
              have HB5 := Lib.hid (HB4.out.trans (hb.mono HB4.out.size))
              have HA5 := Lib.hid (HA4.out.below hb)
              have HP5 := Lib.hid (HP4.out.below hb)
              clear hb HB4 HA4 HP4
              clear ac0 ac1 ac2 ac3 ac4 ac5
              have ac0 := HA5.out.cell 0 (.string (bs asc)) rfl
              have ac1 := HA5.out.cell 1 (.string (bs aho)) rfl
              have ac2 := HA5.out.cell 2 (.int .i64 apo) rfl
              have ac3 := HA5.out.cell 3 (.string (bs apa)) rfl
              have ac4 := HA5.out.cell 4 (.string (bs aqu)) rfl
              have ac5 := HA5.out.cell 5 (.bool ahq) rfl
              go_wp2_with fail
              refine (HR0.out _ (HE.out.bel HB5.out)).mono ?_
              rintro r w6 ⟨rfl, hb⟩
              have HB6 := Lib.hid (HB5.out.trans (hb.mono HB5.out.size))
              have HA6 := Lib.hid (HA5.out.below hb)
              have HP6 := Lib.hid (HP5.out.below hb)
              clear hb HB5 HA5 HP5
              clear ac0 ac1 ac2 ac3 ac4 ac5
              have hal : Below w6.heap.size w6 (w6.alloc (.cells #[.string (bs nsc), .string (bs nho), .int .i64 npo, .string (bs npa), .string (bs nqu), .bool nhq] 23)) := (Below.refl _ _).alloc (Nat.le_refl _) _
              have HB7 := Lib.hid (HB6.out.trans (hal.mono HB6.out.size))
              have HA7 := Lib.hid (HA6.out.alloc (.cells #[.string (bs nsc), .string (bs nho), .int .i64 npo, .string (bs npa), .string (bs nqu), .bool nhq] 23))
              have HP7 := Lib.hid (HP6.out.alloc (.cells #[.string (bs nsc), .string (bs nho), .int .i64 npo, .string (bs npa), .string (bs nqu), .bool nhq] 23))
              have hn := ubk.new w6 #[.string (bs nsc), .string (bs nho), .int .i64 npo, .string (bs npa), .string (bs nqu), .bool nhq] 23
              have HU7 := Lib.hid hn; clear hn
              clear hal HB6 HA6 HP6
              go_wp2_with fail
              have hz : Below (w6.alloc (.cells #[.string (bs nsc), .string (bs nho), .int .i64 npo, .string (bs npa), .string (bs nqu), .bool nhq] 23)).heap.size (w6.alloc (.cells #[.string (bs nsc), .string (bs nho), .int .i64 npo, .string (bs npa), .string (bs nqu), .bool nhq] 23)) (w6.alloc (.cells #[.string (bs nsc), .string (bs nho), .int .i64 npo, .string (bs npa), .string (bs nqu), .bool nhq] 23)).drew := (Below.refl _ _).drew
              have HZ3_0 := Lib.hid hz; clear hz
              refine wp_region_growS (.one 0 false (.one 1 false (.one 2 false (.one 3 false (.one 4 false (.one 5 true (.one 6 false (.one 7 false .done))))))))
                (fun W => Below (w6.alloc (.cells #[.string (bs nsc), .string (bs nho), .int .i64 npo, .string (bs npa), .string (bs nqu), .bool nhq] 23)).heap.size (w6.alloc (.cells #[.string (bs nsc), .string (bs nho), .int .i64 npo, .string (bs npa), .string (bs nqu), .bool nhq] 23)) W) (by kernel_rfl) (by kernel_rfl) rfl (by kernel_rfl) (by kernel_rfl) HZ3_0.out (fun ops hops => ?_)
              simp only [GT.ins, List.getD_cons_zero, List.getD_cons_succ]
              have g2 : (ops[2]?).bind (·.dst) = some 51 := by rw [hops.out]; rfl
              have G2 := Lib.hid g2
              clear hops g2
              iterate 3
                refine growS_take (by rfl) ?_
                apply Exists.intro
                refine ⟨fun w' hE => ?_, ?_⟩
                · have yc0 := (HU7.out.below hE).cell 0 (.string (bs nsc)) rfl; have yc1 := (HU7.out.below hE).cell 1 (.string (bs nho)) rfl; have yc2 := (HU7.out.below hE).cell 2 (.int .i64 npo) rfl; have yc3 := (HU7.out.below hE).cell 3 (.string (bs npa)) rfl; have yc4 := (HU7.out.below hE).cell 4 (.string (bs nqu)) rfl; have yc5 := (HU7.out.below hE).cell 5 (.bool nhq) rfl; have zc0 := (HA7.out.below hE).cell 0 (.string (bs asc)) rfl; have zc1 := (HA7.out.below hE).cell 1 (.string (bs aho)) rfl; have zc2 := (HA7.out.below hE).cell 2 (.int .i64 apo) rfl; have zc3 := (HA7.out.below hE).cell 3 (.string (bs apa)) rfl; have zc4 := (HA7.out.below hE).cell 4 (.string (bs aqu)) rfl; have zc5 := (HA7.out.below hE).cell 5 (.bool ahq) rfl
                  go_simp
                  try with_reducible rfl
                simp only [Act.put, List.setIfInBounds_toArray, List.set_cons_zero, List.set_cons_succ]
              iterate 2
                refine growS_take (wantedS G2.out rfl rfl) ?_
                apply Exists.intro
                refine ⟨fun w' hE => ?_, ?_⟩
                · have yc0 := (HU7.out.below hE).cell 0 (.string (bs nsc)) rfl; have yc1 := (HU7.out.below hE).cell 1 (.string (bs nho)) rfl; have yc2 := (HU7.out.below hE).cell 2 (.int .i64 npo) rfl; have yc3 := (HU7.out.below hE).cell 3 (.string (bs npa)) rfl; have yc4 := (HU7.out.below hE).cell 4 (.string (bs nqu)) rfl; have yc5 := (HU7.out.below hE).cell 5 (.bool nhq) rfl; have zc0 := (HA7.out.below hE).cell 0 (.string (bs asc)) rfl; have zc1 := (HA7.out.below hE).cell 1 (.string (bs aho)) rfl; have zc2 := (HA7.out.below hE).cell 2 (.int .i64 apo) rfl; have zc3 := (HA7.out.below hE).cell 3 (.string (bs apa)) rfl; have zc4 := (HA7.out.below hE).cell 4 (.string (bs aqu)) rfl; have zc5 := (HA7.out.below hE).cell 5 (.bool ahq) rfl
                  go_simp
                  try with_reducible rfl
                simp only [Act.put, List.setIfInBounds_toArray, List.set_cons_zero, List.set_cons_succ]
              refine growS_call (wantedS G2.out rfl rfl) (fun K hK => ?_)
              go_simp
              refine (HNA.out _ (HE.out.bel (HB7.out.trans (HZ3_0.out.mono HB7.out.size)))).mono ?_
              rintro r z3_1 ⟨rfl, hb⟩
              have hz := HZ3_0.out.trans (hb.mono HZ3_0.out.size)
              refine hK.out _ _ hz ?_
              have HZ3_1 := Lib.hid hz
              clear hK K hb hz
              iterate 1
                refine growS_take (wantedS G2.out rfl rfl) ?_
                apply Exists.intro
                refine ⟨fun w' hE => ?_, ?_⟩
                · have yc0 := (HU7.out.below hE).cell 0 (.string (bs nsc)) rfl; have yc1 := (HU7.out.below hE).cell 1 (.string (bs nho)) rfl; have yc2 := (HU7.out.below hE).cell 2 (.int .i64 npo) rfl; have yc3 := (HU7.out.below hE).cell 3 (.string (bs npa)) rfl; have yc4 := (HU7.out.below hE).cell 4 (.string (bs nqu)) rfl; have yc5 := (HU7.out.below hE).cell 5 (.bool nhq) rfl; have zc0 := (HA7.out.below hE).cell 0 (.string (bs asc)) rfl; have zc1 := (HA7.out.below hE).cell 1 (.string (bs aho)) rfl; have zc2 := (HA7.out.below hE).cell 2 (.int .i64 apo) rfl; have zc3 := (HA7.out.below hE).cell 3 (.string (bs apa)) rfl; have zc4 := (HA7.out.below hE).cell 4 (.string (bs aqu)) rfl; have zc5 := (HA7.out.below hE).cell 5 (.bool ahq) rfl
                  go_simp
                  try with_reducible rfl
                simp only [Act.put, List.setIfInBounds_toArray, List.set_cons_zero, List.set_cons_succ]
              iterate 1
                refine growS_take (by rfl) ?_
                apply Exists.intro
                refine ⟨fun w' hE => ?_, ?_⟩
                · have yc0 := (HU7.out.below hE).cell 0 (.string (bs nsc)) rfl; have yc1 := (HU7.out.below hE).cell 1 (.string (bs nho)) rfl; have yc2 := (HU7.out.below hE).cell 2 (.int .i64 npo) rfl; have yc3 := (HU7.out.below hE).cell 3 (.string (bs npa)) rfl; have yc4 := (HU7.out.below hE).cell 4 (.string (bs nqu)) rfl; have yc5 := (HU7.out.below hE).cell 5 (.bool nhq) rfl; have zc0 := (HA7.out.below hE).cell 0 (.string (bs asc)) rfl; have zc1 := (HA7.out.below hE).cell 1 (.string (bs aho)) rfl; have zc2 := (HA7.out.below hE).cell 2 (.int .i64 apo) rfl; have zc3 := (HA7.out.below hE).cell 3 (.string (bs apa)) rfl; have zc4 := (HA7.out.below hE).cell 4 (.string (bs aqu)) rfl; have zc5 := (HA7.out.below hE).cell 5 (.bool ahq) rfl
                  go_simp
                  try with_reducible rfl
                simp only [Act.put, List.setIfInBounds_toArray, List.set_cons_zero, List.set_cons_succ]
              refine growS_done (NoPanic.normal ?_)
              have HB8 := Lib.hid (HB7.out.trans (HZ3_1.out.mono HB7.out.size))
              have HA8 := Lib.hid (HA7.out.below HZ3_1.out)
              have HP8 := Lib.hid (HP7.out.below HZ3_1.out)
              have HU8 := Lib.hid (HU7.out.below HZ3_1.out)
              clear HB7 HA7 HP7 HU7 HZ3_0 HZ3_1
              have pc0 := HP8.out.cell 0 (.string (bs bsc)) rfl
              have pc1 := HP8.out.cell 1 (.string (bs bho)) rfl
              have pc2 := HP8.out.cell 2 (.int .i64 bpo) rfl
              have pc3 := HP8.out.cell 3 (.string (bs bpa)) rfl
              have pc4 := HP8.out.cell 4 (.string (bs bqu)) rfl
              have pc5 := HP8.out.cell 5 (.bool bhq) rfl
              go_wp2_with fail
              refine (HCB.out _ (HE.out.bel HB8.out)).mono ?_
              rintro r w9 ⟨rfl, hb⟩
              have HB9 := Lib.hid (HB8.out.trans (hb.mono HB8.out.size))
              have HA9 := Lib.hid (HA8.out.below hb)
              have HP9 := Lib.hid (HP8.out.below hb)
              have HU9 := Lib.hid (HU8.out.below hb)
              clear hb HB8 HA8 HP8 HU8
              clear pc0 pc1 pc2 pc3 pc4 pc5
              go_wp2_with fail
              apply wp_meetG (fun g10 W => ubk W g10 #[.string (bs msc), .string (bs mho), .int .i64 mpo, .string (bs mpa), .string (bs mqu), .bool mhq] ∧ Below w9.heap.size w9 W)
              case h1 =>
                refine wp_region_growS (.one 0 false (.one 1 false (.two 2 7 (.two 3 7 (.one 4 false (.one 5 false (.one 6 false (.one 7 true (.one 8 true (.one 9 false .done)))))) (.one 3 true (.one 4 false (.one 5 false (.one 6 false (.one 8 true (.one 9 false .done))))))) (.one 2 true (.one 3 true (.one 4 false (.one 5 false (.one 6 false (.one 8 true (.one 9 false .done))))))))))
                  (fun W => Below w9.heap.size w9 W) (by kernel_rfl) (by kernel_rfl) rfl (by kernel_rfl) (by kernel_rfl) ((Below.refl _ _).drew) (fun ops hops => ?_)
                simp only [GT.ins, List.getD_cons_zero, List.getD_cons_succ]
                clear hops
                iterate 2
                  refine growS_take (by rfl) ?_
                  apply Exists.intro
                  refine ⟨fun w' hE => ?_, ?_⟩
                  · have yc0 := (HA9.out.below hE).cell 0 (.string (bs asc)) rfl; have yc1 := (HA9.out.below hE).cell 1 (.string (bs aho)) rfl; have yc2 := (HA9.out.below hE).cell 2 (.int .i64 apo) rfl; have yc3 := (HA9.out.below hE).cell 3 (.string (bs apa)) rfl; have yc4 := (HA9.out.below hE).cell 4 (.string (bs aqu)) rfl; have yc5 := (HA9.out.below hE).cell 5 (.bool ahq) rfl; have zc0 := (HP9.out.below hE).cell 0 (.string (bs bsc)) rfl; have zc1 := (HP9.out.below hE).cell 1 (.string (bs bho)) rfl; have zc2 := (HP9.out.below hE).cell 2 (.int .i64 bpo) rfl; have zc3 := (HP9.out.below hE).cell 3 (.string (bs bpa)) rfl; have zc4 := (HP9.out.below hE).cell 4 (.string (bs bqu)) rfl; have zc5 := (HP9.out.below hE).cell 5 (.bool bhq) rfl
                    go_simp
                    try with_reducible rfl
                  simp only [Act.put, List.setIfInBounds_toArray, List.set_cons_zero, List.set_cons_succ]
                refine growS_two (by rfl) (by rfl) (fun K hK => ?_) (fun K hK => ?_)
                · go_simp
                  refine (HPB.out _ (HE.out.bel (HB9.out.trans (((Below.refl _ _).drew : Below w9.heap.size w9 w9.drew).mono HB9.out.size)))).mono ?_
                  rintro r x1 ⟨rfl, hb⟩
                  have hz := ((Below.refl _ _).drew : Below w9.heap.size w9 w9.drew).trans (hb.mono ((Below.refl _ _).drew : Below w9.heap.size w9 w9.drew).size)
                  refine hK.out _ _ hz ?_
                  have HX1 := Lib.hid hz
                  clear hK K hb hz
                  refine growS_two (by rfl) (by rfl) (fun K hK => ?_) (fun K hK => ?_)
                  · go_simp
                    refine (HRB2.out _ (HE.out.bel (HB9.out.trans (HX1.out.mono HB9.out.size)))).mono ?_
                    rintro r x2 ⟨rfl, hb⟩
                    have hz := HX1.out.trans (hb.mono HX1.out.size)
                    refine hK.out _ _ hz ?_
                    have HX2 := Lib.hid hz
                    clear hK K hb hz
                    iterate 3
                      refine growS_take (by rfl) ?_
                      apply Exists.intro
                      refine ⟨fun w' hE => ?_, ?_⟩
                      · skip
                        go_simp
                        try with_reducible rfl
                      simp only [Act.put, List.setIfInBounds_toArray, List.set_cons_zero, List.set_cons_succ]
                    refine growS_call (by rfl) (fun K hK => ?_)
                    go_simp
                    have hd1 : Below w9.heap.size w9 (x2.alloc (.cells #[.string ⟨#[]⟩, .string ⟨#[]⟩, .int .i64 0, .string ⟨#[]⟩, .string ⟨#[]⟩, .bool false] 23)) := HX2.out.trans (((Below.refl _ _).alloc (Nat.le_refl _) _).mono HX2.out.size)
                    have hz1 := ubk.new x2 #[.string ⟨#[]⟩, .string ⟨#[]⟩, .int .i64 0, .string ⟨#[]⟩, .string ⟨#[]⟩, .bool false] 23
                    have hgl := HX2.out.size
                    refine hK.out _ _ hd1 ?_
                    have HX3 := Lib.hid hd1; have HG3 := Lib.hid hz1; have HGL := Lib.hid hgl; clear hK K hd1 hz1 hgl
                    generalize (x2.alloc (.cells #[.string ⟨#[]⟩, .string ⟨#[]⟩, .int .i64 0, .string ⟨#[]⟩, .string ⟨#[]⟩, .bool false] 23)) = x3 at *
                    generalize x2.heap.size = g10 at HG3 HGL ⊢
                    have nc0 := HG3.out.cell 0 (.string ⟨#[]⟩) rfl
                    have nc1 := HG3.out.cell 1 (.string ⟨#[]⟩) rfl
                    have nc2 := HG3.out.cell 2 (.int .i64 0) rfl
                    have nc3 := HG3.out.cell 3 (.string ⟨#[]⟩) rfl
                    have nc4 := HG3.out.cell 4 (.string ⟨#[]⟩) rfl
                    have nc5 := HG3.out.cell 5 (.bool false) rfl
                    have nf0 := HG3.out.free 0
                    have nf1 := HG3.out.free 1
                    have nf2 := HG3.out.free 2
                    have nf3 := HG3.out.free 3
                    have nf4 := HG3.out.free 4
                    have nf5 := HG3.out.free 5
                    have hq0 := ((((((HG3.out.set 0 (.string (bs msc))).set 1 (.string (bs mho))).set 2 (.int .i64 mpo)).set 3 (.string (bs mpa))).set 4 (.string (bs mqu))).set 5 (.bool mhq))
                    simp only [List.setIfInBounds_toArray, List.set_cons_zero, List.set_cons_succ] at hq0
                    have HQ0 := Lib.hid hq0; clear hq0
                    have hE9 := ((((((HX3.out.setCell (p := ⟨g10, 0, none⟩) HGL.out (.string (bs msc))).setCell (p := ⟨g10, 1, none⟩) HGL.out (.string (bs mho))).setCell (p := ⟨g10, 2, none⟩) HGL.out (.int .i64 mpo)).setCell (p := ⟨g10, 3, none⟩) HGL.out (.string (bs mpa))).setCell (p := ⟨g10, 4, none⟩) HGL.out (.string (bs mqu))).setCell (p := ⟨g10, 5, none⟩) HGL.out (.bool mhq))
                    have HE9 := Lib.hid hE9; clear hE9
                    refine growS_call (by rfl) (fun K hK => ?_)
                    go_simp
                    refine hK.out _ _ HE9.out ?_
                    clear hK K
                    iterate 1
                      refine growS_take (by rfl) ?_
                      apply Exists.intro
                      refine ⟨fun w' hE => ?_, ?_⟩
                      · skip
                        go_simp
                        try with_reducible rfl
                      simp only [Act.put, List.setIfInBounds_toArray, List.set_cons_zero, List.set_cons_succ]
                    refine growS_done (NoPanic.normal ?_)
                    exact ⟨g10, rfl, rfl, HQ0.out, HE9.out⟩
                  · go_simp
                    have hd1 : Below w9.heap.size w9 (x1.alloc (.cells #[.string ⟨#[]⟩, .string ⟨#[]⟩, .int .i64 0, .string ⟨#[]⟩, .string ⟨#[]⟩, .bool false] 23)) := HX1.out.trans (((Below.refl _ _).alloc (Nat.le_refl _) _).mono HX1.out.size)
                    have hz1 := ubk.new x1 #[.string ⟨#[]⟩, .string ⟨#[]⟩, .int .i64 0, .string ⟨#[]⟩, .string ⟨#[]⟩, .bool false] 23
                    have hgl := HX1.out.size
                    refine hK.out _ _ hd1 ?_
                    have HX4 := Lib.hid hd1; have HG4 := Lib.hid hz1; have HGL := Lib.hid hgl; clear hK K hd1 hz1 hgl
                    generalize (x1.alloc (.cells #[.string ⟨#[]⟩, .string ⟨#[]⟩, .int .i64 0, .string ⟨#[]⟩, .string ⟨#[]⟩, .bool false] 23)) = x4 at *
                    generalize x1.heap.size = g10 at HG4 HGL ⊢
                    refine growS_call (by rfl) (fun K hK => ?_)
                    go_simp
                    refine (HRB2.out _ (HE.out.bel (HB9.out.trans (HX4.out.mono HB9.out.size)))).mono ?_
                    rintro r x5 ⟨rfl, hb⟩
                    have hz := HX4.out.trans (hb.mono HX4.out.size)
                    refine hK.out _ _ hz ?_
                    have HX5 := Lib.hid hz
                    have HG5 := Lib.hid (HG4.out.below hb)
                    clear hK K hb hz
                    iterate 3
                      refine growS_take (by rfl) ?_
                      apply Exists.intro
                      refine ⟨fun w' hE => ?_, ?_⟩
                      · skip
                        go_simp
                        try with_reducible rfl
                      simp only [Act.put, List.setIfInBounds_toArray, List.set_cons_zero, List.set_cons_succ]
                    have nc0 := HG5.out.cell 0 (.string ⟨#[]⟩) rfl
                    have nc1 := HG5.out.cell 1 (.string ⟨#[]⟩) rfl
                    have nc2 := HG5.out.cell 2 (.int .i64 0) rfl
                    have nc3 := HG5.out.cell 3 (.string ⟨#[]⟩) rfl
                    have nc4 := HG5.out.cell 4 (.string ⟨#[]⟩) rfl
                    have nc5 := HG5.out.cell 5 (.bool false) rfl
                    have nf0 := HG5.out.free 0
                    have nf1 := HG5.out.free 1
                    have nf2 := HG5.out.free 2
                    have nf3 := HG5.out.free 3
                    have nf4 := HG5.out.free 4
                    have nf5 := HG5.out.free 5
                    have hq0 := ((((((HG5.out.set 0 (.string (bs msc))).set 1 (.string (bs mho))).set 2 (.int .i64 mpo)).set 3 (.string (bs mpa))).set 4 (.string (bs mqu))).set 5 (.bool mhq))
                    simp only [List.setIfInBounds_toArray, List.set_cons_zero, List.set_cons_succ] at hq0
                    have HQ0 := Lib.hid hq0; clear hq0
                    have hE9 := ((((((HX5.out.setCell (p := ⟨g10, 0, none⟩) HGL.out (.string (bs msc))).setCell (p := ⟨g10, 1, none⟩) HGL.out (.string (bs mho))).setCell (p := ⟨g10, 2, none⟩) HGL.out (.int .i64 mpo)).setCell (p := ⟨g10, 3, none⟩) HGL.out (.string (bs mpa))).setCell (p := ⟨g10, 4, none⟩) HGL.out (.string (bs mqu))).setCell (p := ⟨g10, 5, none⟩) HGL.out (.bool mhq))
                    have HE9 := Lib.hid hE9; clear hE9
                    refine growS_call (by rfl) (fun K hK => ?_)
                    go_simp
                    refine hK.out _ _ HE9.out ?_
                    clear hK K
                    iterate 1
                      refine growS_take (by rfl) ?_
                      apply Exists.intro
                      refine ⟨fun w' hE => ?_, ?_⟩
                      · skip
                        go_simp
                        try with_reducible rfl
                      simp only [Act.put, List.setIfInBounds_toArray, List.set_cons_zero, List.set_cons_succ]
                    refine growS_done (NoPanic.normal ?_)
                    exact ⟨g10, rfl, rfl, HQ0.out, HE9.out⟩
                · go_simp
                  have hd1 : Below w9.heap.size w9 (w9.alloc (.cells #[.string ⟨#[]⟩, .string ⟨#[]⟩, .int .i64 0, .string ⟨#[]⟩, .string ⟨#[]⟩, .bool false] 23)).drew := ((Below.refl _ _).alloc (Nat.le_refl _) _).drew
                  have hz1 := (ubk.new w9 #[.string ⟨#[]⟩, .string ⟨#[]⟩, .int .i64 0, .string ⟨#[]⟩, .string ⟨#[]⟩, .bool false] 23).below (drewU (w9.alloc (.cells #[.string ⟨#[]⟩, .string ⟨#[]⟩, .int .i64 0, .string ⟨#[]⟩, .string ⟨#[]⟩, .bool false] 23)))
                  refine hK.out _ _ hd1 ?_
                  have HX6 := Lib.hid hd1; have HG6 := Lib.hid hz1; clear hK K hd1 hz1
                  generalize (w9.alloc (.cells #[.string ⟨#[]⟩, .string ⟨#[]⟩, .int .i64 0, .string ⟨#[]⟩, .string ⟨#[]⟩, .bool false] 23)).drew = x6 at *
                  refine growS_call (by rfl) (fun K hK => ?_)
                  go_simp
                  refine (HPB.out _ (HE.out.bel (HB9.out.trans (HX6.out.mono HB9.out.size)))).mono ?_
                  rintro r x7 ⟨rfl, hb⟩
                  have hz := HX6.out.trans (hb.mono HX6.out.size)
                  refine hK.out _ _ hz ?_
                  have HX7 := Lib.hid hz
                  have HG7 := Lib.hid (HG6.out.below hb)
                  clear hK K hb hz
                  refine growS_call (by rfl) (fun K hK => ?_)
                  go_simp
                  refine (HRB2.out _ (HE.out.bel (HB9.out.trans (HX7.out.mono HB9.out.size)))).mono ?_
                  rintro r x8 ⟨rfl, hb⟩
                  have hz := HX7.out.trans (hb.mono HX7.out.size)
                  refine hK.out _ _ hz ?_
                  have HX8 := Lib.hid hz
                  have HG8 := Lib.hid (HG7.out.below hb)
                  clear hK K hb hz
                  iterate 3
                    refine growS_take (by rfl) ?_
                    apply Exists.intro
                    refine ⟨fun w' hE => ?_, ?_⟩
                    · skip
                      go_simp
                      try with_reducible rfl
                    simp only [Act.put, List.setIfInBounds_toArray, List.set_cons_zero, List.set_cons_succ]
                  generalize hgg : w9.heap.size = g10 at *
                  clear hgg
                  have nc0 := HG8.out.cell 0 (.string ⟨#[]⟩) rfl
                  have nc1 := HG8.out.cell 1 (.string ⟨#[]⟩) rfl
                  have nc2 := HG8.out.cell 2 (.int .i64 0) rfl
                  have nc3 := HG8.out.cell 3 (.string ⟨#[]⟩) rfl
                  have nc4 := HG8.out.cell 4 (.string ⟨#[]⟩) rfl
                  have nc5 := HG8.out.cell 5 (.bool false) rfl
                  have nf0 := HG8.out.free 0
                  have nf1 := HG8.out.free 1
                  have nf2 := HG8.out.free 2
                  have nf3 := HG8.out.free 3
                  have nf4 := HG8.out.free 4
                  have nf5 := HG8.out.free 5
                  have hq0 := ((((((HG8.out.set 0 (.string (bs msc))).set 1 (.string (bs mho))).set 2 (.int .i64 mpo)).set 3 (.string (bs mpa))).set 4 (.string (bs mqu))).set 5 (.bool mhq))
                  simp only [List.setIfInBounds_toArray, List.set_cons_zero, List.set_cons_succ] at hq0
                  have HQ0 := Lib.hid hq0; clear hq0
                  have hE9 := ((((((HX8.out.setCell (p := ⟨g10, 0, none⟩) (Nat.le_refl _) (.string (bs msc))).setCell (p := ⟨g10, 1, none⟩) (Nat.le_refl _) (.string (bs mho))).setCell (p := ⟨g10, 2, none⟩) (Nat.le_refl _) (.int .i64 mpo)).setCell (p := ⟨g10, 3, none⟩) (Nat.le_refl _) (.string (bs mpa))).setCell (p := ⟨g10, 4, none⟩) (Nat.le_refl _) (.string (bs mqu))).setCell (p := ⟨g10, 5, none⟩) (Nat.le_refl _) (.bool mhq))
                  have HE9 := Lib.hid hE9; clear hE9
                  refine growS_call (by rfl) (fun K hK => ?_)
                  go_simp
                  refine hK.out _ _ HE9.out ?_
                  clear hK K
                  iterate 1
                    refine growS_take (by rfl) ?_
                    apply Exists.intro
                    refine ⟨fun w' hE => ?_, ?_⟩
                    · skip
                      go_simp
                      try with_reducible rfl
                    simp only [Act.put, List.setIfInBounds_toArray, List.set_cons_zero, List.set_cons_succ]
                  refine growS_done (NoPanic.normal ?_)
                  exact ⟨g10, rfl, rfl, HQ0.out, HE9.out⟩
              case h2 =>
              rintro gV wV ⟨hv, hz⟩
              have HV10 := Lib.hid hv
              have HB10 := Lib.hid (HB9.out.trans (hz.mono HB9.out.size))
              have HA10 := Lib.hid (HA9.out.below hz)
              have HP10 := Lib.hid (HP9.out.below hz)
              have HU10 := Lib.hid (HU9.out.below hz)
              clear hz hv HB9 HA9 HP9 HU9
              go_wp2_with fail
              have hz : Below wV.heap.size wV wV.drew := (Below.refl _ _).drew
              have HZ4_0 := Lib.hid hz; clear hz
              refine wp_region_growS (.one 0 false (.one 1 false (.one 2 false (.one 3 false (.one 4 false (.one 5 true (.one 6 false (.one 7 false .done))))))))
                (fun W => Below wV.heap.size wV W) (by kernel_rfl) (by kernel_rfl) rfl (by kernel_rfl) (by kernel_rfl) HZ4_0.out (fun ops hops => ?_)
              simp only [GT.ins, List.getD_cons_zero, List.getD_cons_succ]
              have g2 : (ops[2]?).bind (·.dst) = some 69 := by rw [hops.out]; rfl
              have G2 := Lib.hid g2
              clear hops g2
              iterate 3
                refine growS_take (by rfl) ?_
                apply Exists.intro
                refine ⟨fun w' hE => ?_, ?_⟩
                · have yc0 := (HV10.out.below hE).cell 0 (.string (bs msc)) rfl; have yc1 := (HV10.out.below hE).cell 1 (.string (bs mho)) rfl; have yc2 := (HV10.out.below hE).cell 2 (.int .i64 mpo) rfl; have yc3 := (HV10.out.below hE).cell 3 (.string (bs mpa)) rfl; have yc4 := (HV10.out.below hE).cell 4 (.string (bs mqu)) rfl; have yc5 := (HV10.out.below hE).cell 5 (.bool mhq) rfl; have zc0 := (HP10.out.below hE).cell 0 (.string (bs bsc)) rfl; have zc1 := (HP10.out.below hE).cell 1 (.string (bs bho)) rfl; have zc2 := (HP10.out.below hE).cell 2 (.int .i64 bpo) rfl; have zc3 := (HP10.out.below hE).cell 3 (.string (bs bpa)) rfl; have zc4 := (HP10.out.below hE).cell 4 (.string (bs bqu)) rfl; have zc5 := (HP10.out.below hE).cell 5 (.bool bhq) rfl
                  go_simp
                  try with_reducible rfl
                simp only [Act.put, List.setIfInBounds_toArray, List.set_cons_zero, List.set_cons_succ]
              iterate 2
                refine growS_take (wantedS G2.out rfl rfl) ?_
                apply Exists.intro
                refine ⟨fun w' hE => ?_, ?_⟩
                · have yc0 := (HV10.out.below hE).cell 0 (.string (bs msc)) rfl; have yc1 := (HV10.out.below hE).cell 1 (.string (bs mho)) rfl; have yc2 := (HV10.out.below hE).cell 2 (.int .i64 mpo) rfl; have yc3 := (HV10.out.below hE).cell 3 (.string (bs mpa)) rfl; have yc4 := (HV10.out.below hE).cell 4 (.string (bs mqu)) rfl; have yc5 := (HV10.out.below hE).cell 5 (.bool mhq) rfl; have zc0 := (HP10.out.below hE).cell 0 (.string (bs bsc)) rfl; have zc1 := (HP10.out.below hE).cell 1 (.string (bs bho)) rfl; have zc2 := (HP10.out.below hE).cell 2 (.int .i64 bpo) rfl; have zc3 := (HP10.out.below hE).cell 3 (.string (bs bpa)) rfl; have zc4 := (HP10.out.below hE).cell 4 (.string (bs bqu)) rfl; have zc5 := (HP10.out.below hE).cell 5 (.bool bhq) rfl
                  go_simp
                  try with_reducible rfl
                simp only [Act.put, List.setIfInBounds_toArray, List.set_cons_zero, List.set_cons_succ]
              refine growS_call (wantedS G2.out rfl rfl) (fun K hK => ?_)
              go_simp
              refine (HNB.out _ (HE.out.bel (HB10.out.trans (HZ4_0.out.mono HB10.out.size)))).mono ?_
              rintro r z4_1 ⟨rfl, hb⟩
              have hz := HZ4_0.out.trans (hb.mono HZ4_0.out.size)
              refine hK.out _ _ hz ?_
              have HZ4_1 := Lib.hid hz
              clear hK K hb hz
              iterate 1
                refine growS_take (wantedS G2.out rfl rfl) ?_
                apply Exists.intro
                refine ⟨fun w' hE => ?_, ?_⟩
                · have yc0 := (HV10.out.below hE).cell 0 (.string (bs msc)) rfl; have yc1 := (HV10.out.below hE).cell 1 (.string (bs mho)) rfl; have yc2 := (HV10.out.below hE).cell 2 (.int .i64 mpo) rfl; have yc3 := (HV10.out.below hE).cell 3 (.string (bs mpa)) rfl; have yc4 := (HV10.out.below hE).cell 4 (.string (bs mqu)) rfl; have yc5 := (HV10.out.below hE).cell 5 (.bool mhq) rfl; have zc0 := (HP10.out.below hE).cell 0 (.string (bs bsc)) rfl; have zc1 := (HP10.out.below hE).cell 1 (.string (bs bho)) rfl; have zc2 := (HP10.out.below hE).cell 2 (.int .i64 bpo) rfl; have zc3 := (HP10.out.below hE).cell 3 (.string (bs bpa)) rfl; have zc4 := (HP10.out.below hE).cell 4 (.string (bs bqu)) rfl; have zc5 := (HP10.out.below hE).cell 5 (.bool bhq) rfl
                  go_simp
                  try with_reducible rfl
                simp only [Act.put, List.setIfInBounds_toArray, List.set_cons_zero, List.set_cons_succ]
              iterate 1
                refine growS_take (by rfl) ?_
                apply Exists.intro
                refine ⟨fun w' hE => ?_, ?_⟩
                · have yc0 := (HV10.out.below hE).cell 0 (.string (bs msc)) rfl; have yc1 := (HV10.out.below hE).cell 1 (.string (bs mho)) rfl; have yc2 := (HV10.out.below hE).cell 2 (.int .i64 mpo) rfl; have yc3 := (HV10.out.below hE).cell 3 (.string (bs mpa)) rfl; have yc4 := (HV10.out.below hE).cell 4 (.string (bs mqu)) rfl; have yc5 := (HV10.out.below hE).cell 5 (.bool mhq) rfl; have zc0 := (HP10.out.below hE).cell 0 (.string (bs bsc)) rfl; have zc1 := (HP10.out.below hE).cell 1 (.string (bs bho)) rfl; have zc2 := (HP10.out.below hE).cell 2 (.int .i64 bpo) rfl; have zc3 := (HP10.out.below hE).cell 3 (.string (bs bpa)) rfl; have zc4 := (HP10.out.below hE).cell 4 (.string (bs bqu)) rfl; have zc5 := (HP10.out.below hE).cell 5 (.bool bhq) rfl
                  go_simp
                  try with_reducible rfl
                simp only [Act.put, List.setIfInBounds_toArray, List.set_cons_zero, List.set_cons_succ]
              refine growS_done (NoPanic.normal ?_)
              have HB11 := Lib.hid (HB10.out.trans (HZ4_1.out.mono HB10.out.size))
              have HA11 := Lib.hid (HA10.out.below HZ4_1.out)
              have HP11 := Lib.hid (HP10.out.below HZ4_1.out)
              have HU11 := Lib.hid (HU10.out.below HZ4_1.out)
              have HV11 := Lib.hid (HV10.out.below HZ4_1.out)
              clear HB10 HA10 HP10 HU10 HV10 HZ4_0 HZ4_1
              have ac0 := HA11.out.cell 0 (.string (bs asc)) rfl
              have ac1 := HA11.out.cell 1 (.string (bs aho)) rfl
              have ac2 := HA11.out.cell 2 (.int .i64 apo) rfl
              have ac3 := HA11.out.cell 3 (.string (bs apa)) rfl
              have ac4 := HA11.out.cell 4 (.string (bs aqu)) rfl
              have ac5 := HA11.out.cell 5 (.bool ahq) rfl
              go_wp2_with fail
              refine (HRS.out _ (HE.out.bel HB11.out)).mono ?_
              rintro r w12 ⟨rfl, hb⟩
              have HB12 := Lib.hid (HB11.out.trans (hb.mono HB11.out.size))
              have HA12 := Lib.hid (HA11.out.below hb)
              have HP12 := Lib.hid (HP11.out.below hb)
              have HU12 := Lib.hid (HU11.out.below hb)
              have HV12 := Lib.hid (HV11.out.below hb)
              clear hb HB11 HA11 HP11 HU11 HV11
              clear ac0 ac1 ac2 ac3 ac4 ac5
              have hal : Below w12.heap.size w12 (w12.alloc (.cells #[.string (bs xsc), .string (bs xho), .int .i64 xpo, .string (bs xpa), .string (bs xqu), .bool xhq] 23)) := (Below.refl _ _).alloc (Nat.le_refl _) _
              have HB13 := Lib.hid (HB12.out.trans (hal.mono HB12.out.size))
              have HA13 := Lib.hid (HA12.out.alloc (.cells #[.string (bs xsc), .string (bs xho), .int .i64 xpo, .string (bs xpa), .string (bs xqu), .bool xhq] 23))
              have HP13 := Lib.hid (HP12.out.alloc (.cells #[.string (bs xsc), .string (bs xho), .int .i64 xpo, .string (bs xpa), .string (bs xqu), .bool xhq] 23))
              have HU13 := Lib.hid (HU12.out.alloc (.cells #[.string (bs xsc), .string (bs xho), .int .i64 xpo, .string (bs xpa), .string (bs xqu), .bool xhq] 23))
              have HV13 := Lib.hid (HV12.out.alloc (.cells #[.string (bs xsc), .string (bs xho), .int .i64 xpo, .string (bs xpa), .string (bs xqu), .bool xhq] 23))
              have hn := ubk.new w12 #[.string (bs xsc), .string (bs xho), .int .i64 xpo, .string (bs xpa), .string (bs xqu), .bool xhq] 23
              have HW13 := Lib.hid hn; clear hn
              clear hal HB12 HA12 HP12 HU12 HV12
              have wc0 := HW13.out.cell 0 (.string (bs xsc)) rfl
              have wc1 := HW13.out.cell 1 (.string (bs xho)) rfl
              have wc2 := HW13.out.cell 2 (.int .i64 xpo) rfl
              have wc3 := HW13.out.cell 3 (.string (bs xpa)) rfl
              have wc4 := HW13.out.cell 4 (.string (bs xqu)) rfl
              have wc5 := HW13.out.cell 5 (.bool xhq) rfl
              go_wp2_with fail
              refine (HRW.out _ (HE.out.bel HB13.out)).mono ?_
              rintro r w14 ⟨rfl, hb⟩
              have HB14 := Lib.hid (HB13.out.trans (hb.mono HB13.out.size))
              have HA14 := Lib.hid (HA13.out.below hb)
              have HP14 := Lib.hid (HP13.out.below hb)
              have HU14 := Lib.hid (HU13.out.below hb)
              have HV14 := Lib.hid (HV13.out.below hb)
              have HW14 := Lib.hid (HW13.out.below hb)
              clear hb HB13 HA13 HP13 HU13 HV13 HW13
              clear wc0 wc1 wc2 wc3 wc4 wc5
              have hal : Below w14.heap.size w14 (w14.alloc (.cells #[.string (bs xsc), .string (bs xho), .int .i64 xpo, .string (bs xpa), .string (bs xqu), .bool xhq] 23)) := (Below.refl _ _).alloc (Nat.le_refl _) _
              have HB15 := Lib.hid (HB14.out.trans (hal.mono HB14.out.size))
              have HA15 := Lib.hid (HA14.out.alloc (.cells #[.string (bs xsc), .string (bs xho), .int .i64 xpo, .string (bs xpa), .string (bs xqu), .bool xhq] 23))
              have HP15 := Lib.hid (HP14.out.alloc (.cells #[.string (bs xsc), .string (bs xho), .int .i64 xpo, .string (bs xpa), .string (bs xqu), .bool xhq] 23))
              have HU15 := Lib.hid (HU14.out.alloc (.cells #[.string (bs xsc), .string (bs xho), .int .i64 xpo, .string (bs xpa), .string (bs xqu), .bool xhq] 23))
              have HV15 := Lib.hid (HV14.out.alloc (.cells #[.string (bs xsc), .string (bs xho), .int .i64 xpo, .string (bs xpa), .string (bs xqu), .bool xhq] 23))
              have HW15 := Lib.hid (HW14.out.alloc (.cells #[.string (bs xsc), .string (bs xho), .int .i64 xpo, .string (bs xpa), .string (bs xqu), .bool xhq] 23))
              have hn := ubk.new w14 #[.string (bs xsc), .string (bs xho), .int .i64 xpo, .string (bs xpa), .string (bs xqu), .bool xhq] 23
              have HX15 := Lib.hid hn; clear hn
              clear hal HB14 HA14 HP14 HU14 HV14 HW14
              go_wp2_with fail
              have hz : Below (w14.alloc (.cells #[.string (bs xsc), .string (bs xho), .int .i64 xpo, .string (bs xpa), .string (bs xqu), .bool xhq] 23)).heap.size (w14.alloc (.cells #[.string (bs xsc), .string (bs xho), .int .i64 xpo, .string (bs xpa), .string (bs xqu), .bool xhq] 23)) (w14.alloc (.cells #[.string (bs xsc), .string (bs xho), .int .i64 xpo, .string (bs xpa), .string (bs xqu), .bool xhq] 23)).drew := (Below.refl _ _).drew
              have HZ5_0 := Lib.hid hz; clear hz
              refine wp_region_growS (.one 0 false (.one 1 true (.one 2 false (.one 3 false (.one 4 false (.one 6 false (.one 5 true (.one 7 false (.one 8 false (.one 9 false (.one 10 false (.one 11 false (.one 12 false (.one 13 false (.one 14 false (.one 15 false (.one 16 false (.one 17 false (.one 18 false (.one 19 true (.one 20 false (.one 21 false .done))))))))))))))))))))))
                (fun W => Below (w14.alloc (.cells #[.string (bs xsc), .string (bs xho), .int .i64 xpo, .string (bs xpa), .string (bs xqu), .bool xhq] 23)).heap.size (w14.alloc (.cells #[.string (bs xsc), .string (bs xho), .int .i64 xpo, .string (bs xpa), .string (bs xqu), .bool xhq] 23)) W) (by kernel_rfl) (by kernel_rfl) rfl (by kernel_rfl) (by kernel_rfl) HZ5_0.out (fun ops hops => ?_)
              simp only [GT.ins, List.getD_cons_zero, List.getD_cons_succ]
              have g3 : (ops[3]?).bind (·.dst) = some 97 := by rw [hops.out]; rfl
              have g9 : (ops[9]?).bind (·.dst) = some 103 := by rw [hops.out]; rfl
              have g13 : (ops[13]?).bind (·.dst) = some 107 := by rw [hops.out]; rfl
              have g18 : (ops[18]?).bind (·.dst) = some 112 := by rw [hops.out]; rfl
              have G3 := Lib.hid g3
              have G9 := Lib.hid g9
              have G13 := Lib.hid g13
              have G18 := Lib.hid g18
              clear hops g3 g9 g13 g18
              iterate 1
                refine growS_take (by rfl) ?_
                apply Exists.intro
                refine ⟨fun w' hE => ?_, ?_⟩
                · have yc0 := (HW15.out.below hE).cell 0 (.string (bs xsc)) rfl; have yc1 := (HW15.out.below hE).cell 1 (.string (bs xho)) rfl; have yc2 := (HW15.out.below hE).cell 2 (.int .i64 xpo) rfl; have yc3 := (HW15.out.below hE).cell 3 (.string (bs xpa)) rfl; have yc4 := (HW15.out.below hE).cell 4 (.string (bs xqu)) rfl; have yc5 := (HW15.out.below hE).cell 5 (.bool xhq) rfl; have zc0 := (HX15.out.below hE).cell 0 (.string (bs xsc)) rfl; have zc1 := (HX15.out.below hE).cell 1 (.string (bs xho)) rfl; have zc2 := (HX15.out.below hE).cell 2 (.int .i64 xpo) rfl; have zc3 := (HX15.out.below hE).cell 3 (.string (bs xpa)) rfl; have zc4 := (HX15.out.below hE).cell 4 (.string (bs xqu)) rfl; have zc5 := (HX15.out.below hE).cell 5 (.bool xhq) rfl
                  go_simp
                  try with_reducible rfl
                simp only [Act.put, List.setIfInBounds_toArray, List.set_cons_zero, List.set_cons_succ]
              refine growS_call (by rfl) (fun K hK => ?_)
              go_simp
              refine (HCW.out _ (HE.out.bel (HB15.out.trans (HZ5_0.out.mono HB15.out.size)))).mono ?_
              rintro r z5_1 ⟨rfl, hb⟩
              have hz := HZ5_0.out.trans (hb.mono HZ5_0.out.size)
              refine hK.out _ _ hz ?_
              have HZ5_1 := Lib.hid hz
              clear hK K hb hz
              iterate 2
                refine growS_take (by rfl) ?_
                apply Exists.intro
                refine ⟨fun w' hE => ?_, ?_⟩
                · have yc0 := (HW15.out.below hE).cell 0 (.string (bs xsc)) rfl; have yc1 := (HW15.out.below hE).cell 1 (.string (bs xho)) rfl; have yc2 := (HW15.out.below hE).cell 2 (.int .i64 xpo) rfl; have yc3 := (HW15.out.below hE).cell 3 (.string (bs xpa)) rfl; have yc4 := (HW15.out.below hE).cell 4 (.string (bs xqu)) rfl; have yc5 := (HW15.out.below hE).cell 5 (.bool xhq) rfl; have zc0 := (HX15.out.below hE).cell 0 (.string (bs xsc)) rfl; have zc1 := (HX15.out.below hE).cell 1 (.string (bs xho)) rfl; have zc2 := (HX15.out.below hE).cell 2 (.int .i64 xpo) rfl; have zc3 := (HX15.out.below hE).cell 3 (.string (bs xpa)) rfl; have zc4 := (HX15.out.below hE).cell 4 (.string (bs xqu)) rfl; have zc5 := (HX15.out.below hE).cell 5 (.bool xhq) rfl
                  go_simp
                  try with_reducible rfl
                simp only [Act.put, List.setIfInBounds_toArray, List.set_cons_zero, List.set_cons_succ]
              iterate 2
                refine growS_take (wantedS G3.out rfl rfl) ?_
                apply Exists.intro
                refine ⟨fun w' hE => ?_, ?_⟩
                · have yc0 := (HW15.out.below hE).cell 0 (.string (bs xsc)) rfl; have yc1 := (HW15.out.below hE).cell 1 (.string (bs xho)) rfl; have yc2 := (HW15.out.below hE).cell 2 (.int .i64 xpo) rfl; have yc3 := (HW15.out.below hE).cell 3 (.string (bs xpa)) rfl; have yc4 := (HW15.out.below hE).cell 4 (.string (bs xqu)) rfl; have yc5 := (HW15.out.below hE).cell 5 (.bool xhq) rfl; have zc0 := (HX15.out.below hE).cell 0 (.string (bs xsc)) rfl; have zc1 := (HX15.out.below hE).cell 1 (.string (bs xho)) rfl; have zc2 := (HX15.out.below hE).cell 2 (.int .i64 xpo) rfl; have zc3 := (HX15.out.below hE).cell 3 (.string (bs xpa)) rfl; have zc4 := (HX15.out.below hE).cell 4 (.string (bs xqu)) rfl; have zc5 := (HX15.out.below hE).cell 5 (.bool xhq) rfl
                  go_simp
                  try with_reducible rfl
                simp only [Act.put, List.setIfInBounds_toArray, List.set_cons_zero, List.set_cons_succ]
              refine growS_call (wantedS G3.out rfl rfl) (fun K hK => ?_)
              go_simp
              refine (HNW.out _ (HE.out.bel (HB15.out.trans (HZ5_1.out.mono HB15.out.size)))).mono ?_
              rintro r z5_2 ⟨rfl, hb⟩
              have hz := HZ5_1.out.trans (hb.mono HZ5_1.out.size)
              refine hK.out _ _ hz ?_
              have HZ5_2 := Lib.hid hz
              clear hK K hb hz
              iterate 1
                refine growS_take (wantedS G3.out rfl rfl) ?_
                apply Exists.intro
                refine ⟨fun w' hE => ?_, ?_⟩
                · have yc0 := (HW15.out.below hE).cell 0 (.string (bs xsc)) rfl; have yc1 := (HW15.out.below hE).cell 1 (.string (bs xho)) rfl; have yc2 := (HW15.out.below hE).cell 2 (.int .i64 xpo) rfl; have yc3 := (HW15.out.below hE).cell 3 (.string (bs xpa)) rfl; have yc4 := (HW15.out.below hE).cell 4 (.string (bs xqu)) rfl; have yc5 := (HW15.out.below hE).cell 5 (.bool xhq) rfl; have zc0 := (HX15.out.below hE).cell 0 (.string (bs xsc)) rfl; have zc1 := (HX15.out.below hE).cell 1 (.string (bs xho)) rfl; have zc2 := (HX15.out.below hE).cell 2 (.int .i64 xpo) rfl; have zc3 := (HX15.out.below hE).cell 3 (.string (bs xpa)) rfl; have zc4 := (HX15.out.below hE).cell 4 (.string (bs xqu)) rfl; have zc5 := (HX15.out.below hE).cell 5 (.bool xhq) rfl
                  go_simp
                  try with_reducible rfl
                simp only [Act.put, List.setIfInBounds_toArray, List.set_cons_zero, List.set_cons_succ]
              iterate 2
                refine growS_take (by rfl) ?_
                apply Exists.intro
                refine ⟨fun w' hE => ?_, ?_⟩
                · have yc0 := (HW15.out.below hE).cell 0 (.string (bs xsc)) rfl; have yc1 := (HW15.out.below hE).cell 1 (.string (bs xho)) rfl; have yc2 := (HW15.out.below hE).cell 2 (.int .i64 xpo) rfl; have yc3 := (HW15.out.below hE).cell 3 (.string (bs xpa)) rfl; have yc4 := (HW15.out.below hE).cell 4 (.string (bs xqu)) rfl; have yc5 := (HW15.out.below hE).cell 5 (.bool xhq) rfl; have zc0 := (HX15.out.below hE).cell 0 (.string (bs xsc)) rfl; have zc1 := (HX15.out.below hE).cell 1 (.string (bs xho)) rfl; have zc2 := (HX15.out.below hE).cell 2 (.int .i64 xpo) rfl; have zc3 := (HX15.out.below hE).cell 3 (.string (bs xpa)) rfl; have zc4 := (HX15.out.below hE).cell 4 (.string (bs xqu)) rfl; have zc5 := (HX15.out.below hE).cell 5 (.bool xhq) rfl
                  go_simp
                  try with_reducible rfl
                simp only [Act.put, List.setIfInBounds_toArray, List.set_cons_zero, List.set_cons_succ]
              iterate 2
                refine growS_take (wantedS G9.out rfl rfl) ?_
                apply Exists.intro
                refine ⟨fun w' hE => ?_, ?_⟩
                · have yc0 := (HW15.out.below hE).cell 0 (.string (bs xsc)) rfl; have yc1 := (HW15.out.below hE).cell 1 (.string (bs xho)) rfl; have yc2 := (HW15.out.below hE).cell 2 (.int .i64 xpo) rfl; have yc3 := (HW15.out.below hE).cell 3 (.string (bs xpa)) rfl; have yc4 := (HW15.out.below hE).cell 4 (.string (bs xqu)) rfl; have yc5 := (HW15.out.below hE).cell 5 (.bool xhq) rfl; have zc0 := (HX15.out.below hE).cell 0 (.string (bs xsc)) rfl; have zc1 := (HX15.out.below hE).cell 1 (.string (bs xho)) rfl; have zc2 := (HX15.out.below hE).cell 2 (.int .i64 xpo) rfl; have zc3 := (HX15.out.below hE).cell 3 (.string (bs xpa)) rfl; have zc4 := (HX15.out.below hE).cell 4 (.string (bs xqu)) rfl; have zc5 := (HX15.out.below hE).cell 5 (.bool xhq) rfl
                  go_simp
                  try with_reducible rfl
                simp only [Act.put, List.setIfInBounds_toArray, List.set_cons_zero, List.set_cons_succ]
              iterate 2
                refine growS_take (by rfl) ?_
                apply Exists.intro
                refine ⟨fun w' hE => ?_, ?_⟩
                · have yc0 := (HW15.out.below hE).cell 0 (.string (bs xsc)) rfl; have yc1 := (HW15.out.below hE).cell 1 (.string (bs xho)) rfl; have yc2 := (HW15.out.below hE).cell 2 (.int .i64 xpo) rfl; have yc3 := (HW15.out.below hE).cell 3 (.string (bs xpa)) rfl; have yc4 := (HW15.out.below hE).cell 4 (.string (bs xqu)) rfl; have yc5 := (HW15.out.below hE).cell 5 (.bool xhq) rfl; have zc0 := (HX15.out.below hE).cell 0 (.string (bs xsc)) rfl; have zc1 := (HX15.out.below hE).cell 1 (.string (bs xho)) rfl; have zc2 := (HX15.out.below hE).cell 2 (.int .i64 xpo) rfl; have zc3 := (HX15.out.below hE).cell 3 (.string (bs xpa)) rfl; have zc4 := (HX15.out.below hE).cell 4 (.string (bs xqu)) rfl; have zc5 := (HX15.out.below hE).cell 5 (.bool xhq) rfl
                  go_simp
                  try with_reducible rfl
                simp only [Act.put, List.setIfInBounds_toArray, List.set_cons_zero, List.set_cons_succ]
              iterate 3
                refine growS_take (wantedS G13.out rfl rfl) ?_
                apply Exists.intro
                refine ⟨fun w' hE => ?_, ?_⟩
                · have yc0 := (HW15.out.below hE).cell 0 (.string (bs xsc)) rfl; have yc1 := (HW15.out.below hE).cell 1 (.string (bs xho)) rfl; have yc2 := (HW15.out.below hE).cell 2 (.int .i64 xpo) rfl; have yc3 := (HW15.out.below hE).cell 3 (.string (bs xpa)) rfl; have yc4 := (HW15.out.below hE).cell 4 (.string (bs xqu)) rfl; have yc5 := (HW15.out.below hE).cell 5 (.bool xhq) rfl; have zc0 := (HX15.out.below hE).cell 0 (.string (bs xsc)) rfl; have zc1 := (HX15.out.below hE).cell 1 (.string (bs xho)) rfl; have zc2 := (HX15.out.below hE).cell 2 (.int .i64 xpo) rfl; have zc3 := (HX15.out.below hE).cell 3 (.string (bs xpa)) rfl; have zc4 := (HX15.out.below hE).cell 4 (.string (bs xqu)) rfl; have zc5 := (HX15.out.below hE).cell 5 (.bool xhq) rfl
                  go_simp
                  try with_reducible rfl
                simp only [Act.put, List.setIfInBounds_toArray, List.set_cons_zero, List.set_cons_succ]
              iterate 2
                refine growS_take (by rfl) ?_
                apply Exists.intro
                refine ⟨fun w' hE => ?_, ?_⟩
                · have yc0 := (HW15.out.below hE).cell 0 (.string (bs xsc)) rfl; have yc1 := (HW15.out.below hE).cell 1 (.string (bs xho)) rfl; have yc2 := (HW15.out.below hE).cell 2 (.int .i64 xpo) rfl; have yc3 := (HW15.out.below hE).cell 3 (.string (bs xpa)) rfl; have yc4 := (HW15.out.below hE).cell 4 (.string (bs xqu)) rfl; have yc5 := (HW15.out.below hE).cell 5 (.bool xhq) rfl; have zc0 := (HX15.out.below hE).cell 0 (.string (bs xsc)) rfl; have zc1 := (HX15.out.below hE).cell 1 (.string (bs xho)) rfl; have zc2 := (HX15.out.below hE).cell 2 (.int .i64 xpo) rfl; have zc3 := (HX15.out.below hE).cell 3 (.string (bs xpa)) rfl; have zc4 := (HX15.out.below hE).cell 4 (.string (bs xqu)) rfl; have zc5 := (HX15.out.below hE).cell 5 (.bool xhq) rfl
                  go_simp
                  try with_reducible rfl
                simp only [Act.put, List.setIfInBounds_toArray, List.set_cons_zero, List.set_cons_succ]
              refine growS_call (wantedS G18.out rfl rfl) (fun K hK => ?_)
              go_simp
              refine (works_any _ (HE.out.bel (HB15.out.trans (HZ5_2.out.mono HB15.out.size)))).mono ?_
              rintro r z5_3 ⟨rfl, hb⟩
              have hz := HZ5_2.out.trans (hb.mono HZ5_2.out.size)
              refine hK.out _ _ hz ?_
              have HZ5_3 := Lib.hid hz
              clear hK K hb hz
              iterate 2
                refine growS_take (by rfl) ?_
                apply Exists.intro
                refine ⟨fun w' hE => ?_, ?_⟩
                · have yc0 := (HW15.out.below hE).cell 0 (.string (bs xsc)) rfl; have yc1 := (HW15.out.below hE).cell 1 (.string (bs xho)) rfl; have yc2 := (HW15.out.below hE).cell 2 (.int .i64 xpo) rfl; have yc3 := (HW15.out.below hE).cell 3 (.string (bs xpa)) rfl; have yc4 := (HW15.out.below hE).cell 4 (.string (bs xqu)) rfl; have yc5 := (HW15.out.below hE).cell 5 (.bool xhq) rfl; have zc0 := (HX15.out.below hE).cell 0 (.string (bs xsc)) rfl; have zc1 := (HX15.out.below hE).cell 1 (.string (bs xho)) rfl; have zc2 := (HX15.out.below hE).cell 2 (.int .i64 xpo) rfl; have zc3 := (HX15.out.below hE).cell 3 (.string (bs xpa)) rfl; have zc4 := (HX15.out.below hE).cell 4 (.string (bs xqu)) rfl; have zc5 := (HX15.out.below hE).cell 5 (.bool xhq) rfl
                  go_simp
                  try with_reducible rfl
                simp only [Act.put, List.setIfInBounds_toArray, List.set_cons_zero, List.set_cons_succ]
              refine growS_done (NoPanic.normal ?_)
              have HB16 := Lib.hid (HB15.out.trans (HZ5_3.out.mono HB15.out.size))
              have HA16 := Lib.hid (HA15.out.below HZ5_3.out)
              have HP16 := Lib.hid (HP15.out.below HZ5_3.out)
              have HU16 := Lib.hid (HU15.out.below HZ5_3.out)
              have HV16 := Lib.hid (HV15.out.below HZ5_3.out)
              have HW16 := Lib.hid (HW15.out.below HZ5_3.out)
              have HX16 := Lib.hid (HX15.out.below HZ5_3.out)
              clear HB15 HA15 HP15 HU15 HV15 HW15 HX15 HZ5_0 HZ5_1 HZ5_2 HZ5_3
              go_wp2_with fail
              go_ret
              exact ⟨rfl, HB16.out⟩
          · have hkn : (kb == 0) = false := beq_eq_false_iff_ne.2 hkb
            clear hkb HRB HPB HNB
            by_cases hg : g ≠ 0
            · have h0 : X1 = ur0 := hno.out hg
              subst h0
              have HRS2 : Hid (∀ W, EnvU W → Calls Tryz.prog 8 #[.agg #[.string (bs asc), .string (bs aho), .int .i64 apo, .string (bs apa), .string (bs aqu), .bool ahq], .string s] W fun e w' => e = .returned (.tuple #[.agg #[.string ⟨#[]⟩, .string ⟨#[]⟩, .int .i64 0, .string ⟨#[]⟩, .string ⟨#[]⟩, .bool false], .int .i64 g]) ∧ Below W.heap.size W w') := HRS.out
              have hgn : (g != 0) = true := bne_iff_ne.2 hg
              clear hg HRS hok hno
              have hal : Below w.heap.size w (w.alloc (.cells #[.string (bs asc), .string (bs aho), .int .i64 apo, .string (bs apa), .string (bs aqu), .bool ahq] 23)) := (Below.refl _ _).alloc (Nat.le_refl _) _
              have HB1 := Lib.hid hal
              have hn := ubk.new w #[.string (bs asc), .string (bs aho), .int .i64 apo, .string (bs apa), .string (bs aqu), .bool ahq] 23
              have HA1 := Lib.hid hn; clear hn
              clear hal
              have hal : Below (w.alloc (.cells #[.string (bs asc), .string (bs aho), .int .i64 apo, .string (bs apa), .string (bs aqu), .bool ahq] 23)).heap.size (w.alloc (.cells #[.string (bs asc), .string (bs aho), .int .i64 apo, .string (bs apa), .string (bs aqu), .bool ahq] 23)) ((w.alloc (.cells #[.string (bs asc), .string (bs aho), .int .i64 apo, .string (bs apa), .string (bs aqu), .bool ahq] 23)).alloc (.cells #[.string (bs bsc), .string (bs bho), .int .i64 bpo, .string (bs bpa), .string (bs bqu), .bool bhq] 23)) := (Below.refl _ _).alloc (Nat.le_refl _) _
              have HB2 := Lib.hid (HB1.out.trans (hal.mono HB1.out.size))
              have HA2 := Lib.hid (HA1.out.alloc (.cells #[.string (bs bsc), .string (bs bho), .int .i64 bpo, .string (bs bpa), .string (bs bqu), .bool bhq] 23))
              have hn := ubk.new (w.alloc (.cells #[.string (bs asc), .string (bs aho), .int .i64 apo, .string (bs apa), .string (bs aqu), .bool ahq] 23)) #[.string (bs bsc), .string (bs bho), .int .i64 bpo, .string (bs bpa), .string (bs bqu), .bool bhq] 23
              rw [World.size_alloc] at hn
              have HP2 := Lib.hid hn; clear hn
              clear hal HB1 HA1
              have ac0 := HA2.out.cell 0 (.string (bs asc)) rfl
              have ac1 := HA2.out.cell 1 (.string (bs aho)) rfl
              have ac2 := HA2.out.cell 2 (.int .i64 apo) rfl
              have ac3 := HA2.out.cell 3 (.string (bs apa)) rfl
              have ac4 := HA2.out.cell 4 (.string (bs aqu)) rfl
              have ac5 := HA2.out.cell 5 (.bool ahq) rfl
              go_enter Tryz.func4, Tryz.ntmps4
              go_wp2_with fail
              refine (HFA.out _).mono ?_
              rintro r w3 ⟨rfl, hb⟩
              have HB3 := Lib.hid (HB2.out.trans (hb.mono HB2.out.size))
              have HA3 := Lib.hid (HA2.out.below hb)
              have HP3 := Lib.hid (HP2.out.below hb)
              clear hb HB2 HA2 HP2
              clear ac0 ac1 ac2 ac3 ac4 ac5
              have pc0 := HP3.out.cell 0 (.string (bs bsc)) rfl
              have pc1 := HP3.out.cell 1 (.string (bs bho)) rfl
              have pc2 := HP3.out.cell 2 (.int .i64 bpo) rfl
              have pc3 := HP3.out.cell 3 (.string (bs bpa)) rfl
              have pc4 := HP3.out.cell 4 (.string (bs bqu)) rfl
              have pc5 := HP3.out.cell 5 (.bool bhq) rfl
              go_wp2_with fail
              refine (HFB.out _).mono ?_
              rintro r w4 ⟨rfl, hb⟩
              have HB4 := Lib.hid (HB3.out.trans (hb.mono HB3.out.size))
              have HA4 := Lib.hid (HA3.out.below hb)
              have HP4 := Lib.hid (HP3.out.below hb)
              clear hb HB3 HA3 HP3
              clear pc0 pc1 pc2 pc3 pc4 pc5
              have ac0 := HA4.out.cell 0 (.string (bs asc)) rfl
              have ac1 := HA4.out.cell 1 (.string (bs aho)) rfl
              have ac2 := HA4.out.cell 2 (.int .i64 apo) rfl
              have ac3 := HA4.out.cell 3 (.string (bs apa)) rfl
              have ac4 := HA4.out.cell 4 (.string (bs aqu)) rfl
              have ac5 := HA4.out.cell 5 (.bool ahq) rfl
              go_wp2_with fail
              refine (HCA.out _ (HE.out.bel HB4.out)).mono ?_
              rintro r w5 ⟨rfl, hb⟩
              have HB5 := Lib.hid (HB4.out.trans (hb.mono HB4.out.size))
              have HA5 := Lib.hid (HA4.out.below hb)
              have HP5 := Lib.hid (HP4.out.below hb)
              clear hb HB4 HA4 HP4
              clear ac0 ac1 ac2 ac3 ac4 ac5
              have ac0 := HA5.out.cell 0 (.string (bs asc)) rfl
              have ac1 := HA5.out.cell 1 (.string (bs aho)) rfl
              have ac2 := HA5.out.cell 2 (.int .i64 apo) rfl
              have ac3 := HA5.out.cell 3 (.string (bs apa)) rfl
              have ac4 := HA5.out.cell 4 (.string (bs aqu)) rfl
              have ac5 := HA5.out.cell 5 (.bool ahq) rfl
              go_wp2_with fail
              refine (HR0.out _ (HE.out.bel HB5.out)).mono ?_
              rintro r w6 ⟨rfl, hb⟩
              have HB6 := Lib.hid (HB5.out.trans (hb.mono HB5.out.size))
              have HA6 := Lib.hid (HA5.out.below hb)
              have HP6 := Lib.hid (HP5.out.below hb)
              clear hb HB5 HA5 HP5
              clear ac0 ac1 ac2 ac3 ac4 ac5
              have hal : Below w6.heap.size w6 (w6.alloc (.cells #[.string (bs nsc), .string (bs nho), .int .i64 npo, .string (bs npa), .string (bs nqu), .bool nhq] 23)) := (Below.refl _ _).alloc (Nat.le_refl _) _
              have HB7 := Lib.hid (HB6.out.trans (hal.mono HB6.out.size))
              have HA7 := Lib.hid (HA6.out.alloc (.cells #[.string (bs nsc), .string (bs nho), .int .i64 npo, .string (bs npa), .string (bs nqu), .bool nhq] 23))
              have HP7 := Lib.hid (HP6.out.alloc (.cells #[.string (bs nsc), .string (bs nho), .int .i64 npo, .string (bs npa), .string (bs nqu), .bool nhq] 23))
              have hn := ubk.new w6 #[.string (bs nsc), .string (bs nho), .int .i64 npo, .string (bs npa), .string (bs nqu), .bool nhq] 23
              have HU7 := Lib.hid hn; clear hn
              clear hal HB6 HA6 HP6
              go_wp2_with fail
              have hz : Below (w6.alloc (.cells #[.string (bs nsc), .string (bs nho), .int .i64 npo, .string (bs npa), .string (bs nqu), .bool nhq] 23)).heap.size (w6.alloc (.cells #[.string (bs nsc), .string (bs nho), .int .i64 npo, .string (bs npa), .string (bs nqu), .bool nhq] 23)) (w6.alloc (.cells #[.string (bs nsc), .string (bs nho), .int .i64 npo, .string (bs npa), .string (bs nqu), .bool nhq] 23)).drew := (Below.refl _ _).drew
              have HZ6_0 := Lib.hid hz; clear hz
              refine wp_region_growS (.one 0 false (.one 1 false (.one 2 false (.one 3 false (.one 4 false (.one 5 true (.one 6 false (.one 7 false .done))))))))
                (fun W => Below (w6.alloc (.cells #[.string (bs nsc), .string (bs nho), .int .i64 npo, .string (bs npa), .string (bs nqu), .bool nhq] 23)).heap.size (w6.alloc (.cells #[.string (bs nsc), .string (bs nho), .int .i64 npo, .string (bs npa), .string (bs nqu), .bool nhq] 23)) W) (by kernel_rfl) (by kernel_rfl) rfl (by kernel_rfl) (by kernel_rfl) HZ6_0.out (fun ops hops => ?_)
              simp only [GT.ins, List.getD_cons_zero, List.getD_cons_succ]
              have g2 : (ops[2]?).bind (·.dst) = some 51 := by rw [hops.out]; rfl
              have G2 := Lib.hid g2
              clear hops g2
              iterate 3
                refine growS_take (by rfl) ?_
                apply Exists.intro
                refine ⟨fun w' hE => ?_, ?_⟩
                · have yc0 := (HU7.out.below hE).cell 0 (.string (bs nsc)) rfl; have yc1 := (HU7.out.below hE).cell 1 (.string (bs nho)) rfl; have yc2 := (HU7.out.below hE).cell 2 (.int .i64 npo) rfl; have yc3 := (HU7.out.below hE).cell 3 (.string (bs npa)) rfl; have yc4 := (HU7.out.below hE).cell 4 (.string (bs nqu)) rfl; have yc5 := (HU7.out.below hE).cell 5 (.bool nhq) rfl; have zc0 := (HA7.out.below hE).cell 0 (.string (bs asc)) rfl; have zc1 := (HA7.out.below hE).cell 1 (.string (bs aho)) rfl; have zc2 := (HA7.out.below hE).cell 2 (.int .i64 apo) rfl; have zc3 := (HA7.out.below hE).cell 3 (.string (bs apa)) rfl; have zc4 := (HA7.out.below hE).cell 4 (.string (bs aqu)) rfl; have zc5 := (HA7.out.below hE).cell 5 (.bool ahq) rfl
                  go_simp
                  try with_reducible rfl
                simp only [Act.put, List.setIfInBounds_toArray, List.set_cons_zero, List.set_cons_succ]
              iterate 2
                refine growS_take (wantedS G2.out rfl rfl) ?_
                apply Exists.intro
                refine ⟨fun w' hE => ?_, ?_⟩
                · have yc0 := (HU7.out.below hE).cell 0 (.string (bs nsc)) rfl; have yc1 := (HU7.out.below hE).cell 1 (.string (bs nho)) rfl; have yc2 := (HU7.out.below hE).cell 2 (.int .i64 npo) rfl; have yc3 := (HU7.out.below hE).cell 3 (.string (bs npa)) rfl; have yc4 := (HU7.out.below hE).cell 4 (.string (bs nqu)) rfl; have yc5 := (HU7.out.below hE).cell 5 (.bool nhq) rfl; have zc0 := (HA7.out.below hE).cell 0 (.string (bs asc)) rfl; have zc1 := (HA7.out.below hE).cell 1 (.string (bs aho)) rfl; have zc2 := (HA7.out.below hE).cell 2 (.int .i64 apo) rfl; have zc3 := (HA7.out.below hE).cell 3 (.string (bs apa)) rfl; have zc4 := (HA7.out.below hE).cell 4 (.string (bs aqu)) rfl; have zc5 := (HA7.out.below hE).cell 5 (.bool ahq) rfl
                  go_simp
                  try with_reducible rfl
                simp only [Act.put, List.setIfInBounds_toArray, List.set_cons_zero, List.set_cons_succ]
              refine growS_call (wantedS G2.out rfl rfl) (fun K hK => ?_)
              go_simp
              refine (HNA.out _ (HE.out.bel (HB7.out.trans (HZ6_0.out.mono HB7.out.size)))).mono ?_
              rintro r z6_1 ⟨rfl, hb⟩
              have hz := HZ6_0.out.trans (hb.mono HZ6_0.out.size)
              refine hK.out _ _ hz ?_
              have HZ6_1 := Lib.hid hz
              clear hK K hb hz
              iterate 1
                refine growS_take (wantedS G2.out rfl rfl) ?_
                apply Exists.intro
                refine ⟨fun w' hE => ?_, ?_⟩
                · have yc0 := (HU7.out.below hE).cell 0 (.string (bs nsc)) rfl; have yc1 := (HU7.out.below hE).cell 1 (.string (bs nho)) rfl; have yc2 := (HU7.out.below hE).cell 2 (.int .i64 npo) rfl; have yc3 := (HU7.out.below hE).cell 3 (.string (bs npa)) rfl; have yc4 := (HU7.out.below hE).cell 4 (.string (bs nqu)) rfl; have yc5 := (HU7.out.below hE).cell 5 (.bool nhq) rfl; have zc0 := (HA7.out.below hE).cell 0 (.string (bs asc)) rfl; have zc1 := (HA7.out.below hE).cell 1 (.string (bs aho)) rfl; have zc2 := (HA7.out.below hE).cell 2 (.int .i64 apo) rfl; have zc3 := (HA7.out.below hE).cell 3 (.string (bs apa)) rfl; have zc4 := (HA7.out.below hE).cell 4 (.string (bs aqu)) rfl; have zc5 := (HA7.out.below hE).cell 5 (.bool ahq) rfl
                  go_simp
                  try with_reducible rfl
                simp only [Act.put, List.setIfInBounds_toArray, List.set_cons_zero, List.set_cons_succ]
              iterate 1
                refine growS_take (by rfl) ?_
                apply Exists.intro
                refine ⟨fun w' hE => ?_, ?_⟩
                · have yc0 := (HU7.out.below hE).cell 0 (.string (bs nsc)) rfl; have yc1 := (HU7.out.below hE).cell 1 (.string (bs nho)) rfl; have yc2 := (HU7.out.below hE).cell 2 (.int .i64 npo) rfl; have yc3 := (HU7.out.below hE).cell 3 (.string (bs npa)) rfl; have yc4 := (HU7.out.below hE).cell 4 (.string (bs nqu)) rfl; have yc5 := (HU7.out.below hE).cell 5 (.bool nhq) rfl; have zc0 := (HA7.out.below hE).cell 0 (.string (bs asc)) rfl; have zc1 := (HA7.out.below hE).cell 1 (.string (bs aho)) rfl; have zc2 := (HA7.out.below hE).cell 2 (.int .i64 apo) rfl; have zc3 := (HA7.out.below hE).cell 3 (.string (bs apa)) rfl; have zc4 := (HA7.out.below hE).cell 4 (.string (bs aqu)) rfl; have zc5 := (HA7.out.below hE).cell 5 (.bool ahq) rfl
                  go_simp
                  try with_reducible rfl
                simp only [Act.put, List.setIfInBounds_toArray, List.set_cons_zero, List.set_cons_succ]
              refine growS_done (NoPanic.normal ?_)
              have HB8 := Lib.hid (HB7.out.trans (HZ6_1.out.mono HB7.out.size))
              have HA8 := Lib.hid (HA7.out.below HZ6_1.out)
              have HP8 := Lib.hid (HP7.out.below HZ6_1.out)
              have HU8 := Lib.hid (HU7.out.below HZ6_1.out)
              clear HB7 HA7 HP7 HU7 HZ6_0 HZ6_1
              have pc0 := HP8.out.cell 0 (.string (bs bsc)) rfl
              have pc1 := HP8.out.cell 1 (.string (bs bho)) rfl
              have pc2 := HP8.out.cell 2 (.int .i64 bpo) rfl
              have pc3 := HP8.out.cell 3 (.string (bs bpa)) rfl
              have pc4 := HP8.out.cell 4 (.string (bs bqu)) rfl
              have pc5 := HP8.out.cell 5 (.bool bhq) rfl
              go_wp2_with fail
              refine (HCB.out _ (HE.out.bel HB8.out)).mono ?_
              rintro r w9 ⟨rfl, hb⟩
              have HB9 := Lib.hid (HB8.out.trans (hb.mono HB8.out.size))
              have HA9 := Lib.hid (HA8.out.below hb)
              have HP9 := Lib.hid (HP8.out.below hb)
              have HU9 := Lib.hid (HU8.out.below hb)
              clear hb HB8 HA8 HP8 HU8
              clear pc0 pc1 pc2 pc3 pc4 pc5
              have ac0 := HA9.out.cell 0 (.string (bs asc)) rfl
              have ac1 := HA9.out.cell 1 (.string (bs aho)) rfl
              have ac2 := HA9.out.cell 2 (.int .i64 apo) rfl
              have ac3 := HA9.out.cell 3 (.string (bs apa)) rfl
              have ac4 := HA9.out.cell 4 (.string (bs aqu)) rfl
              have ac5 := HA9.out.cell 5 (.bool ahq) rfl
              go_wp2_with fail
              refine (HRS2.out _ (HE.out.bel HB9.out)).mono ?_
              rintro r w10 ⟨rfl, hb⟩
              have HB10 := Lib.hid (HB9.out.trans (hb.mono HB9.out.size))
              have HA10 := Lib.hid (HA9.out.below hb)
              have HP10 := Lib.hid (HP9.out.below hb)
              have HU10 := Lib.hid (HU9.out.below hb)
              clear hb HB9 HA9 HP9 HU9
              clear ac0 ac1 ac2 ac3 ac4 ac5
              have hal : Below w10.heap.size w10 (w10.alloc (.cells #[.string ⟨#[]⟩, .string ⟨#[]⟩, .int .i64 0, .string ⟨#[]⟩, .string ⟨#[]⟩, .bool false] 23)) := (Below.refl _ _).alloc (Nat.le_refl _) _
              have HB11 := Lib.hid (HB10.out.trans (hal.mono HB10.out.size))
              have HA11 := Lib.hid (HA10.out.alloc (.cells #[.string ⟨#[]⟩, .string ⟨#[]⟩, .int .i64 0, .string ⟨#[]⟩, .string ⟨#[]⟩, .bool false] 23))
              have HP11 := Lib.hid (HP10.out.alloc (.cells #[.string ⟨#[]⟩, .string ⟨#[]⟩, .int .i64 0, .string ⟨#[]⟩, .string ⟨#[]⟩, .bool false] 23))
              have HU11 := Lib.hid (HU10.out.alloc (.cells #[.string ⟨#[]⟩, .string ⟨#[]⟩, .int .i64 0, .string ⟨#[]⟩, .string ⟨#[]⟩, .bool false] 23))
              have hn := ubk.new w10 #[.string ⟨#[]⟩, .string ⟨#[]⟩, .int .i64 0, .string ⟨#[]⟩, .string ⟨#[]⟩, .bool false] 23
              have HW11 := Lib.hid hn; clear hn
              clear hal HB10 HA10 HP10 HU10
              have wc0 := HW11.out.cell 0 (.string ⟨#[]⟩) rfl
              have wc1 := HW11.out.cell 1 (.string ⟨#[]⟩) rfl
              have wc2 := HW11.out.cell 2 (.int .i64 0) rfl
              have wc3 := HW11.out.cell 3 (.string ⟨#[]⟩) rfl
              have wc4 := HW11.out.cell 4 (.string ⟨#[]⟩) rfl
              have wc5 := HW11.out.cell 5 (.bool false) rfl
              go_wp2_with fail
              refine (works_any _ (HE.out.bel HB11.out)).mono ?_
              rintro r w12 ⟨rfl, hb⟩
              have HB12 := Lib.hid (HB11.out.trans (hb.mono HB11.out.size))
              have HA12 := Lib.hid (HA11.out.below hb)
              have HP12 := Lib.hid (HP11.out.below hb)
              have HU12 := Lib.hid (HU11.out.below hb)
              have HW12 := Lib.hid (HW11.out.below hb)
              clear hb HB11 HA11 HP11 HU11 HW11
              clear wc0 wc1 wc2 wc3 wc4 wc5
              go_wp2_with fail
              go_ret
              exact ⟨rfl, HB12.out⟩
            · obtain rfl : g = 0 := Classical.not_not.1 hg
              obtain ⟨hc, hn⟩ := hok.out rfl
              obtain ⟨⟨l1, l2, l3, l4⟩, l5, l6⟩ := lens_of hc
              have ow : X1.okW := ⟨by omega, by omega, by omega⟩
              have HCW := Lib.hid (fun W (he : EnvU W) => uriCheck_any X1 W he ow)
              have HNW := Lib.hid (fun W (he : EnvU W) => normal_any X1 W he ow)
              have HRW : Hid (∀ W, EnvU W → Calls Tryz.prog 8 #[.agg #[.string (bs X1.sc), .string (bs X1.ho), .int .i64 X1.po, .string (bs X1.pa), .string (bs X1.qu), .bool X1.hq], .string ⟨#[]⟩] W (RetU W (refU X1 []))) := fun W he => ref_any X1 [] W he ow
              rw [ref_nil hc] at HRW
              rw [hn] at HNW HRW
              rw [hc] at HCW
              clear hc hn ow l1 l2 l3 l4 l5 l6 hg hok hno
              obtain ⟨xsc, xho, xpo, xpa, xqu, xhq⟩ := X1
              unfold RetU at HRW
              simp only at HRS HCW HNW HRW
              have hal : Below w.heap.size w (w.alloc (.cells #[.string (bs asc), .string (bs aho), .int .i64 apo, .string (bs apa), .string (bs aqu), .bool ahq] 23)) := (Below.refl _ _).alloc (Nat.le_refl _) _
              have HB1 := Lib.hid hal
              have hn := ubk.new w #[.string (bs asc), .string (bs aho), .int .i64 apo, .string (bs apa), .string (bs aqu), .bool ahq] 23
              have HA1 := Lib.hid hn; clear hn
              clear hal
              have hal : Below (w.alloc (.cells #[.string (bs asc), .string (bs aho), .int .i64 apo, .string (bs apa), .string (bs aqu), .bool ahq] 23)).heap.size (w.alloc (.cells #[.string (bs asc), .string (bs aho), .int .i64 apo, .string (bs apa), .string (bs aqu), .bool ahq] 23)) ((w.alloc (.cells #[.string (bs asc), .string (bs aho), .int .i64 apo, .string (bs apa), .string (bs aqu), .bool ahq] 23)).alloc (.cells #[.string (bs bsc), .string (bs bho), .int .i64 bpo, .string (bs bpa), .string (bs bqu), .bool bhq] 23)) := (Below.refl _ _).alloc (Nat.le_refl _) _
              have HB2 := Lib.hid (HB1.out.trans (hal.mono HB1.out.size))
              have HA2 := Lib.hid (HA1.out.alloc (.cells #[.string (bs bsc), .string (bs bho), .int .i64 bpo, .string (bs bpa), .string (bs bqu), .bool bhq] 23))
              have hn := ubk.new (w.alloc (.cells #[.string (bs asc), .string (bs aho), .int .i64 apo, .string (bs apa), .string (bs aqu), .bool ahq] 23)) #[.string (bs bsc), .string (bs bho), .int .i64 bpo, .string (bs bpa), .string (bs bqu), .bool bhq] 23
              rw [World.size_alloc] at hn
              have HP2 := Lib.hid hn; clear hn
              clear hal HB1 HA1
              have ac0 := HA2.out.cell 0 (.string (bs asc)) rfl
              have ac1 := HA2.out.cell 1 (.string (bs aho)) rfl
              have ac2 := HA2.out.cell 2 (.int .i64 apo) rfl
              have ac3 := HA2.out.cell 3 (.string (bs apa)) rfl
              have ac4 := HA2.out.cell 4 (.string (bs aqu)) rfl
              have ac5 := HA2.out.cell 5 (.bool ahq) rfl
              go_enter Tryz.func4, Tryz.ntmps4
              go_wp2_with fail
              refine (HFA.out _).mono ?_
              rintro r w3 ⟨rfl, hb⟩
              have HB3 := Lib.hid (HB2.out.trans (hb.mono HB2.out.size))
              have HA3 := Lib.hid (HA2.out.below hb)
              have HP3 := Lib.hid (HP2.out.below hb)
              clear hb HB2 HA2 HP2
              clear ac0 ac1 ac2 ac3 ac4 ac5
              have pc0 := HP3.out.cell 0 (.string (bs bsc)) rfl
              have pc1 := HP3.out.cell 1 (.string (bs bho)) rfl
              have pc2 := HP3.out.cell 2 (.int .i64 bpo) rfl
              have pc3 := HP3.out.cell 3 (.string (bs bpa)) rfl
              have pc4 := HP3.out.cell 4 (.string (bs bqu)) rfl
              have pc5 := HP3.out.cell 5 (.bool bhq) rfl
              go_wp2_with fail
              refine (HFB.out _).mono ?_
              rintro r w4 ⟨rfl, hb⟩
              have HB4 := Lib.hid (HB3.out.trans (hb.mono HB3.out.size))
              have HA4 := Lib.hid (HA3.out.below hb)
              have HP4 := Lib.hid (HP3.out.below hb)
              clear hb HB3 HA3 HP3
              clear pc0 pc1 pc2 pc3 pc4 pc5
              have ac0 := HA4.out.cell 0 (.string (bs asc)) rfl
              have ac1 := HA4.out.cell 1 (.string (bs aho)) rfl
              have ac2 := HA4.out.cell 2 (.int .i64 apo) rfl
              have ac3 := HA4.out.cell 3 (.string (bs apa)) rfl
              have ac4 := HA4.out.cell 4 (.string (bs aqu)) rfl
              have ac5 := HA4.out.cell 5 (.bool ahq) rfl
              go_wp2_with fail
              refine (HCA.out _ (HE.out.bel HB4.out)).mono ?_
              rintro r w5 ⟨rfl, hb⟩
              have HB5 := Lib.hid (HB4.out.trans (hb.mono HB4.out.size))
              have HA5 := Lib.hid (HA4.out.below hb)
              have HP5 := Lib.hid (HP4.out.below hb)
              clear hb HB4 HA4 HP4
              clear ac0 ac1 ac2 ac3 ac4 ac5
              have ac0 := HA5.out.cell 0 (.string (bs asc)) rfl
              have ac1 := HA5.out.cell 1 (.string (bs aho)) rfl
              have ac2 := HA5.out.cell 2 (.int .i64 apo) rfl
              have ac3 := HA5.out.cell 3 (.string (bs apa)) rfl
              have ac4 := HA5.out.cell 4 (.string (bs aqu)) rfl
              have ac5 := HA5.out.cell 5 (.bool ahq) rfl
              go_wp2_with fail
              refine (HR0.out _ (HE.out.bel HB5.out)).mono ?_
              rintro r w6 ⟨rfl, hb⟩
              have HB6 := Lib.hid (HB5.out.trans (hb.mono HB5.out.size))
              have HA6 := Lib.hid (HA5.out.below hb)
              have HP6 := Lib.hid (HP5.out.below hb)
              clear hb HB5 HA5 HP5
              clear ac0 ac1 ac2 ac3 ac4 ac5
              have hal : Below w6.heap.size w6 (w6.alloc (.cells #[.string (bs nsc), .string (bs nho), .int .i64 npo, .string (bs npa), .string (bs nqu), .bool nhq] 23)) := (Below.refl _ _).alloc (Nat.le_refl _) _
              have HB7 := Lib.hid (HB6.out.trans (hal.mono HB6.out.size))
              have HA7 := Lib.hid (HA6.out.alloc (.cells #[.string (bs nsc), .string (bs nho), .int .i64 npo, .string (bs npa), .string (bs nqu), .bool nhq] 23))
              have HP7 := Lib.hid (HP6.out.alloc (.cells #[.string (bs nsc), .string (bs nho), .int .i64 npo, .string (bs npa), .string (bs nqu), .bool nhq] 23))
              have hn := ubk.new w6 #[.string (bs nsc), .string (bs nho), .int .i64 npo, .string (bs npa), .string (bs nqu), .bool nhq] 23
              have HU7 := Lib.hid hn; clear hn
              clear hal HB6 HA6 HP6
              go_wp2_with fail
              have hz : Below (w6.alloc (.cells #[.string (bs nsc), .string (bs nho), .int .i64 npo, .string (bs npa), .string (bs nqu), .bool nhq] 23)).heap.size (w6.alloc (.cells #[.string (bs nsc), .string (bs nho), .int .i64 npo, .string (bs npa), .string (bs nqu), .bool nhq] 23)) (w6.alloc (.cells #[.string (bs nsc), .string (bs nho), .int .i64 npo, .string (bs npa), .string (bs nqu), .bool nhq] 23)).drew := (Below.refl _ _).drew
              have HZ7_0 := Lib.hid hz; clear hz
              refine wp_region_growS (.one 0 false (.one 1 false (.one 2 false (.one 3 false (.one 4 false (.one 5 true (.one 6 false (.one 7 false .done))))))))
                (fun W => Below (w6.alloc (.cells #[.string (bs nsc), .string (bs nho), .int .i64 npo, .string (bs npa), .string (bs nqu), .bool nhq] 23)).heap.size (w6.alloc (.cells #[.string (bs nsc), .string (bs nho), .int .i64 npo, .string (bs npa), .string (bs nqu), .bool nhq] 23)) W) (by kernel_rfl) (by kernel_rfl) rfl (by kernel_rfl) (by kernel_rfl) HZ7_0.out (fun ops hops => ?_)
              simp only [GT.ins, List.getD_cons_zero, List.getD_cons_succ]
              have g2 : (ops[2]?).bind (·.dst) = some 51 := by rw [hops.out]; rfl
              have G2 := Lib.hid g2
              clear hops g2
              iterate 3
                refine growS_take (by rfl) ?_
                apply Exists.intro
                refine ⟨fun w' hE => ?_, ?_⟩
                · have yc0 := (HU7.out.below hE).cell 0 (.string (bs nsc)) rfl; have yc1 := (HU7.out.below hE).cell 1 (.string (bs nho)) rfl; have yc2 := (HU7.out.below hE).cell 2 (.int .i64 npo) rfl; have yc3 := (HU7.out.below hE).cell 3 (.string (bs npa)) rfl; have yc4 := (HU7.out.below hE).cell 4 (.string (bs nqu)) rfl; have yc5 := (HU7.out.below hE).cell 5 (.bool nhq) rfl; have zc0 := (HA7.out.below hE).cell 0 (.string (bs asc)) rfl; have zc1 := (HA7.out.below hE).cell 1 (.string (bs aho)) rfl; have zc2 := (HA7.out.below hE).cell 2 (.int .i64 apo) rfl; have zc3 := (HA7.out.below hE).cell 3 (.string (bs apa)) rfl; have zc4 := (HA7.out.below hE).cell 4 (.string (bs aqu)) rfl; have zc5 := (HA7.out.below hE).cell 5 (.bool ahq) rfl
                  go_simp
                  try with_reducible rfl
                simp only [Act.put, List.setIfInBounds_toArray, List.set_cons_zero, List.set_cons_succ]
              iterate 2
                refine growS_take (wantedS G2.out rfl rfl) ?_
                apply Exists.intro
                refine ⟨fun w' hE => ?_, ?_⟩
                · have yc0 := (HU7.out.below hE).cell 0 (.string (bs nsc)) rfl; have yc1 := (HU7.out.below hE).cell 1 (.string (bs nho)) rfl; have yc2 := (HU7.out.below hE).cell 2 (.int .i64 npo) rfl; have yc3 := (HU7.out.below hE).cell 3 (.string (bs npa)) rfl; have yc4 := (HU7.out.below hE).cell 4 (.string (bs nqu)) rfl; have yc5 := (HU7.out.below hE).cell 5 (.bool nhq) rfl; have zc0 := (HA7.out.below hE).cell 0 (.string (bs asc)) rfl; have zc1 := (HA7.out.below hE).cell 1 (.string (bs aho)) rfl; have zc2 := (HA7.out.below hE).cell 2 (.int .i64 apo) rfl; have zc3 := (HA7.out.below hE).cell 3 (.string (bs apa)) rfl; have zc4 := (HA7.out.below hE).cell 4 (.string (bs aqu)) rfl; have zc5 := (HA7.out.below hE).cell 5 (.bool ahq) rfl
                  go_simp
                  try with_reducible rfl
                simp only [Act.put, List.setIfInBounds_toArray, List.set_cons_zero, List.set_cons_succ]
              refine growS_call (wantedS G2.out rfl rfl) (fun K hK => ?_)
              go_simp
              refine (HNA.out _ (HE.out.bel (HB7.out.trans (HZ7_0.out.mono HB7.out.size)))).mono ?_
              rintro r z7_1 ⟨rfl, hb⟩
              have hz := HZ7_0.out.trans (hb.mono HZ7_0.out.size)
              refine hK.out _ _ hz ?_
              have HZ7_1 := Lib.hid hz
              clear hK K hb hz
              iterate 1
                refine growS_take (wantedS G2.out rfl rfl) ?_
                apply Exists.intro
                refine ⟨fun w' hE => ?_, ?_⟩
                · have yc0 := (HU7.out.below hE).cell 0 (.string (bs nsc)) rfl; have yc1 := (HU7.out.below hE).cell 1 (.string (bs nho)) rfl; have yc2 := (HU7.out.below hE).cell 2 (.int .i64 npo) rfl; have yc3 := (HU7.out.below hE).cell 3 (.string (bs npa)) rfl; have yc4 := (HU7.out.below hE).cell 4 (.string (bs nqu)) rfl; have yc5 := (HU7.out.below hE).cell 5 (.bool nhq) rfl; have zc0 := (HA7.out.below hE).cell 0 (.string (bs asc)) rfl; have zc1 := (HA7.out.below hE).cell 1 (.string (bs aho)) rfl; have zc2 := (HA7.out.below hE).cell 2 (.int .i64 apo) rfl; have zc3 := (HA7.out.below hE).cell 3 (.string (bs apa)) rfl; have zc4 := (HA7.out.below hE).cell 4 (.string (bs aqu)) rfl; have zc5 := (HA7.out.below hE).cell 5 (.bool ahq) rfl
                  go_simp
                  try with_reducible rfl
                simp only [Act.put, List.setIfInBounds_toArray, List.set_cons_zero, List.set_cons_succ]
              iterate 1
                refine growS_take (by rfl) ?_
                apply Exists.intro
                refine ⟨fun w' hE => ?_, ?_⟩
                · have yc0 := (HU7.out.below hE).cell 0 (.string (bs nsc)) rfl; have yc1 := (HU7.out.below hE).cell 1 (.string (bs nho)) rfl; have yc2 := (HU7.out.below hE).cell 2 (.int .i64 npo) rfl; have yc3 := (HU7.out.below hE).cell 3 (.string (bs npa)) rfl; have yc4 := (HU7.out.below hE).cell 4 (.string (bs nqu)) rfl; have yc5 := (HU7.out.below hE).cell 5 (.bool nhq) rfl; have zc0 := (HA7.out.below hE).cell 0 (.string (bs asc)) rfl; have zc1 := (HA7.out.below hE).cell 1 (.string (bs aho)) rfl; have zc2 := (HA7.out.below hE).cell 2 (.int .i64 apo) rfl; have zc3 := (HA7.out.below hE).cell 3 (.string (bs apa)) rfl; have zc4 := (HA7.out.below hE).cell 4 (.string (bs aqu)) rfl; have zc5 := (HA7.out.below hE).cell 5 (.bool ahq) rfl
                  go_simp
                  try with_reducible rfl
                simp only [Act.put, List.setIfInBounds_toArray, List.set_cons_zero, List.set_cons_succ]
              refine growS_done (NoPanic.normal ?_)
              have HB8 := Lib.hid (HB7.out.trans (HZ7_1.out.mono HB7.out.size))
              have HA8 := Lib.hid (HA7.out.below HZ7_1.out)
              have HP8 := Lib.hid (HP7.out.below HZ7_1.out)
              have HU8 := Lib.hid (HU7.out.below HZ7_1.out)
              clear HB7 HA7 HP7 HU7 HZ7_0 HZ7_1
              have pc0 := HP8.out.cell 0 (.string (bs bsc)) rfl
              have pc1 := HP8.out.cell 1 (.string (bs bho)) rfl
              have pc2 := HP8.out.cell 2 (.int .i64 bpo) rfl
              have pc3 := HP8.out.cell 3 (.string (bs bpa)) rfl
              have pc4 := HP8.out.cell 4 (.string (bs bqu)) rfl
              have pc5 := HP8.out.cell 5 (.bool bhq) rfl
              go_wp2_with fail
              refine (HCB.out _ (HE.out.bel HB8.out)).mono ?_
              rintro r w9 ⟨rfl, hb⟩
              have HB9 := Lib.hid (HB8.out.trans (hb.mono HB8.out.size))
              have HA9 := Lib.hid (HA8.out.below hb)
              have HP9 := Lib.hid (HP8.out.below hb)
              have HU9 := Lib.hid (HU8.out.below hb)
              clear hb HB8 HA8 HP8 HU8
              clear pc0 pc1 pc2 pc3 pc4 pc5
              have ac0 := HA9.out.cell 0 (.string (bs asc)) rfl
              have ac1 := HA9.out.cell 1 (.string (bs aho)) rfl
              have ac2 := HA9.out.cell 2 (.int .i64 apo) rfl
              have ac3 := HA9.out.cell 3 (.string (bs apa)) rfl
              have ac4 := HA9.out.cell 4 (.string (bs aqu)) rfl
              have ac5 := HA9.out.cell 5 (.bool ahq) rfl
              go_wp2_with fail
              refine (HRS.out _ (HE.out.bel HB9.out)).mono ?_
              rintro r w10 ⟨rfl, hb⟩
              have HB10 := Lib.hid (HB9.out.trans (hb.mono HB9.out.size))
              have HA10 := Lib.hid (HA9.out.below hb)
              have HP10 := Lib.hid (HP9.out.below hb)
              have HU10 := Lib.hid (HU9.out.below hb)
              clear hb HB9 HA9 HP9 HU9
              clear ac0 ac1 ac2 ac3 ac4 ac5
              have hal : Below w10.heap.size w10 (w10.alloc (.cells #[.string (bs xsc), .string (bs xho), .int .i64 xpo, .string (bs xpa), .string (bs xqu), .bool xhq] 23)) := (Below.refl _ _).alloc (Nat.le_refl _) _
              have HB11 := Lib.hid (HB10.out.trans (hal.mono HB10.out.size))
              have HA11 := Lib.hid (HA10.out.alloc (.cells #[.string (bs xsc), .string (bs xho), .int .i64 xpo, .string (bs xpa), .string (bs xqu), .bool xhq] 23))
              have HP11 := Lib.hid (HP10.out.alloc (.cells #[.string (bs xsc), .string (bs xho), .int .i64 xpo, .string (bs xpa), .string (bs xqu), .bool xhq] 23))
              have HU11 := Lib.hid (HU10.out.alloc (.cells #[.string (bs xsc), .string (bs xho), .int .i64 xpo, .string (bs xpa), .string (bs xqu), .bool xhq] 23))
              have hn := ubk.new w10 #[.string (bs xsc), .string (bs xho), .int .i64 xpo, .string (bs xpa), .string (bs xqu), .bool xhq] 23
              have HW11 := Lib.hid hn; clear hn
              clear hal HB10 HA10 HP10 HU10
              have wc0 := HW11.out.cell 0 (.string (bs xsc)) rfl
              have wc1 := HW11.out.cell 1 (.string (bs xho)) rfl
              have wc2 := HW11.out.cell 2 (.int .i64 xpo) rfl
              have wc3 := HW11.out.cell 3 (.string (bs xpa)) rfl
              have wc4 := HW11.out.cell 4 (.string (bs xqu)) rfl
              have wc5 := HW11.out.cell 5 (.bool xhq) rfl
              go_wp2_with fail
              refine (HRW.out _ (HE.out.bel HB11.out)).mono ?_
              rintro r w12 ⟨rfl, hb⟩
              have HB12 := Lib.hid (HB11.out.trans (hb.mono HB11.out.size))
              have HA12 := Lib.hid (HA11.out.below hb)
              have HP12 := Lib.hid (HP11.out.below hb)
              have HU12 := Lib.hid (HU11.out.below hb)
              have HW12 := Lib.hid (HW11.out.below hb)
              clear hb HB11 HA11 HP11 HU11 HW11
              clear wc0 wc1 wc2 wc3 wc4 wc5
              have hal : Below w12.heap.size w12 (w12.alloc (.cells #[.string (bs xsc), .string (bs xho), .int .i64 xpo, .string (bs xpa), .string (bs xqu), .bool xhq] 23)) := (Below.refl _ _).alloc (Nat.le_refl _) _
              have HB13 := Lib.hid (HB12.out.trans (hal.mono HB12.out.size))
              have HA13 := Lib.hid (HA12.out.alloc (.cells #[.string (bs xsc), .string (bs xho), .int .i64 xpo, .string (bs xpa), .string (bs xqu), .bool xhq] 23))
              have HP13 := Lib.hid (HP12.out.alloc (.cells #[.string (bs xsc), .string (bs xho), .int .i64 xpo, .string (bs xpa), .string (bs xqu), .bool xhq] 23))
              have HU13 := Lib.hid (HU12.out.alloc (.cells #[.string (bs xsc), .string (bs xho), .int .i64 xpo, .string (bs xpa), .string (bs xqu), .bool xhq] 23))
              have HW13 := Lib.hid (HW12.out.alloc (.cells #[.string (bs xsc), .string (bs xho), .int .i64 xpo, .string (bs xpa), .string (bs xqu), .bool xhq] 23))
              have hn := ubk.new w12 #[.string (bs xsc), .string (bs xho), .int .i64 xpo, .string (bs xpa), .string (bs xqu), .bool xhq] 23
              have HX13 := Lib.hid hn; clear hn
              clear hal HB12 HA12 HP12 HU12 HW12
              go_wp2_with fail
              have hz : Below (w12.alloc (.cells #[.string (bs xsc), .string (bs xho), .int .i64 xpo, .string (bs xpa), .string (bs xqu), .bool xhq] 23)).heap.size (w12.alloc (.cells #[.string (bs xsc), .string (bs xho), .int .i64 xpo, .string (bs xpa), .string (bs xqu), .bool xhq] 23)) (w12.alloc (.cells #[.string (bs xsc), .string (bs xho), .int .i64 xpo, .string (bs xpa), .string (bs xqu), .bool xhq] 23)).drew := (Below.refl _ _).drew
              have HZ8_0 := Lib.hid hz; clear hz
              refine wp_region_growS (.one 0 false (.one 1 true (.one 2 false (.one 3 false (.one 4 false (.one 6 false (.one 5 true (.one 7 false (.one 8 false (.one 9 false (.one 10 false (.one 11 false (.one 12 false (.one 13 false (.one 14 false (.one 15 false (.one 16 false (.one 17 false (.one 18 false (.one 19 true (.one 20 false (.one 21 false .done))))))))))))))))))))))
                (fun W => Below (w12.alloc (.cells #[.string (bs xsc), .string (bs xho), .int .i64 xpo, .string (bs xpa), .string (bs xqu), .bool xhq] 23)).heap.size (w12.alloc (.cells #[.string (bs xsc), .string (bs xho), .int .i64 xpo, .string (bs xpa), .string (bs xqu), .bool xhq] 23)) W) (by kernel_rfl) (by kernel_rfl) rfl (by kernel_rfl) (by kernel_rfl) HZ8_0.out (fun ops hops => ?_)
              simp only [GT.ins, List.getD_cons_zero, List.getD_cons_succ]
              have g3 : (ops[3]?).bind (·.dst) = some 97 := by rw [hops.out]; rfl
              have g9 : (ops[9]?).bind (·.dst) = some 103 := by rw [hops.out]; rfl
              have g13 : (ops[13]?).bind (·.dst) = some 107 := by rw [hops.out]; rfl
              have g18 : (ops[18]?).bind (·.dst) = some 112 := by rw [hops.out]; rfl
              have G3 := Lib.hid g3
              have G9 := Lib.hid g9
              have G13 := Lib.hid g13
              have G18 := Lib.hid g18
              clear hops g3 g9 g13 g18
              iterate 1
                refine growS_take (by rfl) ?_
                apply Exists.intro
                refine ⟨fun w' hE => ?_, ?_⟩
                · have yc0 := (HW13.out.below hE).cell 0 (.string (bs xsc)) rfl; have yc1 := (HW13.out.below hE).cell 1 (.string (bs xho)) rfl; have yc2 := (HW13.out.below hE).cell 2 (.int .i64 xpo) rfl; have yc3 := (HW13.out.below hE).cell 3 (.string (bs xpa)) rfl; have yc4 := (HW13.out.below hE).cell 4 (.string (bs xqu)) rfl; have yc5 := (HW13.out.below hE).cell 5 (.bool xhq) rfl; have zc0 := (HX13.out.below hE).cell 0 (.string (bs xsc)) rfl; have zc1 := (HX13.out.below hE).cell 1 (.string (bs xho)) rfl; have zc2 := (HX13.out.below hE).cell 2 (.int .i64 xpo) rfl; have zc3 := (HX13.out.below hE).cell 3 (.string (bs xpa)) rfl; have zc4 := (HX13.out.below hE).cell 4 (.string (bs xqu)) rfl; have zc5 := (HX13.out.below hE).cell 5 (.bool xhq) rfl
                  go_simp
                  try with_reducible rfl
                simp only [Act.put, List.setIfInBounds_toArray, List.set_cons_zero, List.set_cons_succ]
              refine growS_call (by rfl) (fun K hK => ?_)
              go_simp
              refine (HCW.out _ (HE.out.bel (HB13.out.trans (HZ8_0.out.mono HB13.out.size)))).mono ?_
              rintro r z8_1 ⟨rfl, hb⟩
              have hz := HZ8_0.out.trans (hb.mono HZ8_0.out.size)
              refine hK.out _ _ hz ?_
              have HZ8_1 := Lib.hid hz
              clear hK K hb hz
              iterate 2
                refine growS_take (by rfl) ?_
                apply Exists.intro
                refine ⟨fun w' hE => ?_, ?_⟩
                · have yc0 := (HW13.out.below hE).cell 0 (.string (bs xsc)) rfl; have yc1 := (HW13.out.below hE).cell 1 (.string (bs xho)) rfl; have yc2 := (HW13.out.below hE).cell 2 (.int .i64 xpo) rfl; have yc3 := (HW13.out.below hE).cell 3 (.string (bs xpa)) rfl; have yc4 := (HW13.out.below hE).cell 4 (.string (bs xqu)) rfl; have yc5 := (HW13.out.below hE).cell 5 (.bool xhq) rfl; have zc0 := (HX13.out.below hE).cell 0 (.string (bs xsc)) rfl; have zc1 := (HX13.out.below hE).cell 1 (.string (bs xho)) rfl; have zc2 := (HX13.out.below hE).cell 2 (.int .i64 xpo) rfl; have zc3 := (HX13.out.below hE).cell 3 (.string (bs xpa)) rfl; have zc4 := (HX13.out.below hE).cell 4 (.string (bs xqu)) rfl; have zc5 := (HX13.out.below hE).cell 5 (.bool xhq) rfl
                  go_simp
                  try with_reducible rfl
                simp only [Act.put, List.setIfInBounds_toArray, List.set_cons_zero, List.set_cons_succ]
              iterate 2
                refine growS_take (wantedS G3.out rfl rfl) ?_
                apply Exists.intro
                refine ⟨fun w' hE => ?_, ?_⟩
                · have yc0 := (HW13.out.below hE).cell 0 (.string (bs xsc)) rfl; have yc1 := (HW13.out.below hE).cell 1 (.string (bs xho)) rfl; have yc2 := (HW13.out.below hE).cell 2 (.int .i64 xpo) rfl; have yc3 := (HW13.out.below hE).cell 3 (.string (bs xpa)) rfl; have yc4 := (HW13.out.below hE).cell 4 (.string (bs xqu)) rfl; have yc5 := (HW13.out.below hE).cell 5 (.bool xhq) rfl; have zc0 := (HX13.out.below hE).cell 0 (.string (bs xsc)) rfl; have zc1 := (HX13.out.below hE).cell 1 (.string (bs xho)) rfl; have zc2 := (HX13.out.below hE).cell 2 (.int .i64 xpo) rfl; have zc3 := (HX13.out.below hE).cell 3 (.string (bs xpa)) rfl; have zc4 := (HX13.out.below hE).cell 4 (.string (bs xqu)) rfl; have zc5 := (HX13.out.below hE).cell 5 (.bool xhq) rfl
                  go_simp
                  try with_reducible rfl
                simp only [Act.put, List.setIfInBounds_toArray, List.set_cons_zero, List.set_cons_succ]
              refine growS_call (wantedS G3.out rfl rfl) (fun K hK => ?_)
              go_simp
              refine (HNW.out _ (HE.out.bel (HB13.out.trans (HZ8_1.out.mono HB13.out.size)))).mono ?_
              rintro r z8_2 ⟨rfl, hb⟩
              have hz := HZ8_1.out.trans (hb.mono HZ8_1.out.size)
              refine hK.out _ _ hz ?_
              have HZ8_2 := Lib.hid hz
              clear hK K hb hz
              iterate 1
                refine growS_take (wantedS G3.out rfl rfl) ?_
                apply Exists.intro
                refine ⟨fun w' hE => ?_, ?_⟩
                · have yc0 := (HW13.out.below hE).cell 0 (.string (bs xsc)) rfl; have yc1 := (HW13.out.below hE).cell 1 (.string (bs xho)) rfl; have yc2 := (HW13.out.below hE).cell 2 (.int .i64 xpo) rfl; have yc3 := (HW13.out.below hE).cell 3 (.string (bs xpa)) rfl; have yc4 := (HW13.out.below hE).cell 4 (.string (bs xqu)) rfl; have yc5 := (HW13.out.below hE).cell 5 (.bool xhq) rfl; have zc0 := (HX13.out.below hE).cell 0 (.string (bs xsc)) rfl; have zc1 := (HX13.out.below hE).cell 1 (.string (bs xho)) rfl; have zc2 := (HX13.out.below hE).cell 2 (.int .i64 xpo) rfl; have zc3 := (HX13.out.below hE).cell 3 (.string (bs xpa)) rfl; have zc4 := (HX13.out.below hE).cell 4 (.string (bs xqu)) rfl; have zc5 := (HX13.out.below hE).cell 5 (.bool xhq) rfl
                  go_simp
                  try with_reducible rfl
                simp only [Act.put, List.setIfInBounds_toArray, List.set_cons_zero, List.set_cons_succ]
              iterate 2
                refine growS_take (by rfl) ?_
                apply Exists.intro
                refine ⟨fun w' hE => ?_, ?_⟩
                · have yc0 := (HW13.out.below hE).cell 0 (.string (bs xsc)) rfl; have yc1 := (HW13.out.below hE).cell 1 (.string (bs xho)) rfl; have yc2 := (HW13.out.below hE).cell 2 (.int .i64 xpo) rfl; have yc3 := (HW13.out.below hE).cell 3 (.string (bs xpa)) rfl; have yc4 := (HW13.out.below hE).cell 4 (.string (bs xqu)) rfl; have yc5 := (HW13.out.below hE).cell 5 (.bool xhq) rfl; have zc0 := (HX13.out.below hE).cell 0 (.string (bs xsc)) rfl; have zc1 := (HX13.out.below hE).cell 1 (.string (bs xho)) rfl; have zc2 := (HX13.out.below hE).cell 2 (.int .i64 xpo) rfl; have zc3 := (HX13.out.below hE).cell 3 (.string (bs xpa)) rfl; have zc4 := (HX13.out.below hE).cell 4 (.string (bs xqu)) rfl; have zc5 := (HX13.out.below hE).cell 5 (.bool xhq) rfl
                  go_simp
                  try with_reducible rfl
                simp only [Act.put, List.setIfInBounds_toArray, List.set_cons_zero, List.set_cons_succ]
              iterate 2
                refine growS_take (wantedS G9.out rfl rfl) ?_
                apply Exists.intro
                refine ⟨fun w' hE => ?_, ?_⟩
                · have yc0 := (HW13.out.below hE).cell 0 (.string (bs xsc)) rfl; have yc1 := (HW13.out.below hE).cell 1 (.string (bs xho)) rfl; have yc2 := (HW13.out.below hE).cell 2 (.int .i64 xpo) rfl; have yc3 := (HW13.out.below hE).cell 3 (.string (bs xpa)) rfl; have yc4 := (HW13.out.below hE).cell 4 (.string (bs xqu)) rfl; have yc5 := (HW13.out.below hE).cell 5 (.bool xhq) rfl; have zc0 := (HX13.out.below hE).cell 0 (.string (bs xsc)) rfl; have zc1 := (HX13.out.below hE).cell 1 (.string (bs xho)) rfl; have zc2 := (HX13.out.below hE).cell 2 (.int .i64 xpo) rfl; have zc3 := (HX13.out.below hE).cell 3 (.string (bs xpa)) rfl; have zc4 := (HX13.out.below hE).cell 4 (.string (bs xqu)) rfl; have zc5 := (HX13.out.below hE).cell 5 (.bool xhq) rfl
                  go_simp
                  try with_reducible rfl
                simp only [Act.put, List.setIfInBounds_toArray, List.set_cons_zero, List.set_cons_succ]
              iterate 2
                refine growS_take (by rfl) ?_
                apply Exists.intro
                refine ⟨fun w' hE => ?_, ?_⟩
                · have yc0 := (HW13.out.below hE).cell 0 (.string (bs xsc)) rfl; have yc1 := (HW13.out.below hE).cell 1 (.string (bs xho)) rfl; have yc2 := (HW13.out.below hE).cell 2 (.int .i64 xpo) rfl; have yc3 := (HW13.out.below hE).cell 3 (.string (bs xpa)) rfl; have yc4 := (HW13.out.below hE).cell 4 (.string (bs xqu)) rfl; have yc5 := (HW13.out.below hE).cell 5 (.bool xhq) rfl; have zc0 := (HX13.out.below hE).cell 0 (.string (bs xsc)) rfl; have zc1 := (HX13.out.below hE).cell 1 (.string (bs xho)) rfl; have zc2 := (HX13.out.below hE).cell 2 (.int .i64 xpo) rfl; have zc3 := (HX13.out.below hE).cell 3 (.string (bs xpa)) rfl; have zc4 := (HX13.out.below hE).cell 4 (.string (bs xqu)) rfl; have zc5 := (HX13.out.below hE).cell 5 (.bool xhq) rfl
                  go_simp
                  try with_reducible rfl
                simp only [Act.put, List.setIfInBounds_toArray, List.set_cons_zero, List.set_cons_succ]
              iterate 3
                refine growS_take (wantedS G13.out rfl rfl) ?_
                apply Exists.intro
                refine ⟨fun w' hE => ?_, ?_⟩
                · have yc0 := (HW13.out.below hE).cell 0 (.string (bs xsc)) rfl; have yc1 := (HW13.out.below hE).cell 1 (.string (bs xho)) rfl; have yc2 := (HW13.out.below hE).cell 2 (.int .i64 xpo) rfl; have yc3 := (HW13.out.below hE).cell 3 (.string (bs xpa)) rfl; have yc4 := (HW13.out.below hE).cell 4 (.string (bs xqu)) rfl; have yc5 := (HW13.out.below hE).cell 5 (.bool xhq) rfl; have zc0 := (HX13.out.below hE).cell 0 (.string (bs xsc)) rfl; have zc1 := (HX13.out.below hE).cell 1 (.string (bs xho)) rfl; have zc2 := (HX13.out.below hE).cell 2 (.int .i64 xpo) rfl; have zc3 := (HX13.out.below hE).cell 3 (.string (bs xpa)) rfl; have zc4 := (HX13.out.below hE).cell 4 (.string (bs xqu)) rfl; have zc5 := (HX13.out.below hE).cell 5 (.bool xhq) rfl
                  go_simp
                  try with_reducible rfl
                simp only [Act.put, List.setIfInBounds_toArray, List.set_cons_zero, List.set_cons_succ]
              iterate 2
                refine growS_take (by rfl) ?_
                apply Exists.intro
                refine ⟨fun w' hE => ?_, ?_⟩
                · have yc0 := (HW13.out.below hE).cell 0 (.string (bs xsc)) rfl; have yc1 := (HW13.out.below hE).cell 1 (.string (bs xho)) rfl; have yc2 := (HW13.out.below hE).cell 2 (.int .i64 xpo) rfl; have yc3 := (HW13.out.below hE).cell 3 (.string (bs xpa)) rfl; have yc4 := (HW13.out.below hE).cell 4 (.string (bs xqu)) rfl; have yc5 := (HW13.out.below hE).cell 5 (.bool xhq) rfl; have zc0 := (HX13.out.below hE).cell 0 (.string (bs xsc)) rfl; have zc1 := (HX13.out.below hE).cell 1 (.string (bs xho)) rfl; have zc2 := (HX13.out.below hE).cell 2 (.int .i64 xpo) rfl; have zc3 := (HX13.out.below hE).cell 3 (.string (bs xpa)) rfl; have zc4 := (HX13.out.below hE).cell 4 (.string (bs xqu)) rfl; have zc5 := (HX13.out.below hE).cell 5 (.bool xhq) rfl
                  go_simp
                  try with_reducible rfl
                simp only [Act.put, List.setIfInBounds_toArray, List.set_cons_zero, List.set_cons_succ]
              refine growS_call (wantedS G18.out rfl rfl) (fun K hK => ?_)
              go_simp
              refine (works_any _ (HE.out.bel (HB13.out.trans (HZ8_2.out.mono HB13.out.size)))).mono ?_
              rintro r z8_3 ⟨rfl, hb⟩
              have hz := HZ8_2.out.trans (hb.mono HZ8_2.out.size)
              refine hK.out _ _ hz ?_
              have HZ8_3 := Lib.hid hz
              clear hK K hb hz
              iterate 2
                refine growS_take (by rfl) ?_
                apply Exists.intro
                refine ⟨fun w' hE => ?_, ?_⟩
                · have yc0 := (HW13.out.below hE).cell 0 (.string (bs xsc)) rfl; have yc1 := (HW13.out.below hE).cell 1 (.string (bs xho)) rfl; have yc2 := (HW13.out.below hE).cell 2 (.int .i64 xpo) rfl; have yc3 := (HW13.out.below hE).cell 3 (.string (bs xpa)) rfl; have yc4 := (HW13.out.below hE).cell 4 (.string (bs xqu)) rfl; have yc5 := (HW13.out.below hE).cell 5 (.bool xhq) rfl; have zc0 := (HX13.out.below hE).cell 0 (.string (bs xsc)) rfl; have zc1 := (HX13.out.below hE).cell 1 (.string (bs xho)) rfl; have zc2 := (HX13.out.below hE).cell 2 (.int .i64 xpo) rfl; have zc3 := (HX13.out.below hE).cell 3 (.string (bs xpa)) rfl; have zc4 := (HX13.out.below hE).cell 4 (.string (bs xqu)) rfl; have zc5 := (HX13.out.below hE).cell 5 (.bool xhq) rfl
                  go_simp
                  try with_reducible rfl
                simp only [Act.put, List.setIfInBounds_toArray, List.set_cons_zero, List.set_cons_succ]
              refine growS_done (NoPanic.normal ?_)
              have HB14 := Lib.hid (HB13.out.trans (HZ8_3.out.mono HB13.out.size))
              have HA14 := Lib.hid (HA13.out.below HZ8_3.out)
              have HP14 := Lib.hid (HP13.out.below HZ8_3.out)
              have HU14 := Lib.hid (HU13.out.below HZ8_3.out)
              have HW14 := Lib.hid (HW13.out.below HZ8_3.out)
              have HX14 := Lib.hid (HX13.out.below HZ8_3.out)
              clear HB13 HA13 HP13 HU13 HW13 HX13 HZ8_0 HZ8_1 HZ8_2 HZ8_3
              go_wp2_with fail
              go_ret
              exact ⟨rfl, HB14.out⟩
end Go.Proofs.YtekaiafhnnpkgaaGreatDoor
