/- Which replies may be kept, by the document's steps. -/
import Derived.Test.YtfobjaccpnondaaGreatDoorSto0
import Derived.Test.YtfobjaccpnondaaGreatDoorKFreB
import Derived.Test.YtfobjaccpnondaaGreatDoorKVary
import Derived.Test.YtfobjaccpnondaaGreatDoorKEtag
namespace Go.Proofs.YtfobjaccpnondaaGreatDoor
open Go.RowKit Go.Shelf

theorem Fe.vfd {l : List Fld} (h : Fe l) : VfB l := ⟨by have := h.1; omega, fun f hf => by have := h.2 f hf; omega⟩
theorem dirsE_lend {l : List Fld} (h : Fe l) : (dirsE l).length ≤ 6400 := by
  have := dirsAll_len (valsL l ccN)
  have h2 := (h.vals ccN).1
  show (dirsAll (valsL l ccN)).length ≤ _
  omega
theorem dirsE_wd {l : List Fld} (hf : Fe l) : ∀ j (hj : j < (dirsE l).length), DvW (dirsE l)[j] := fun j hj => by
  obtain ⟨a, b, c⟩ := dirsE_at hf (List.getElem_mem hj)
  exact ⟨by omega, by omega, by rw [c]; exact Nat.zero_le _⟩
theorem ret_fin {a b : Bool} (h : b = a) : Ending.returned (.bool a) = .returned (.bool b) := by rw [h]

variable {st mi asked got Y : Int} {re bo : ByteArray} {fs : Value} {vA : Option Addr} {vn vc : Nat} {l : List Fld}
set_option maxRecDepth 100000 in
set_option maxHeartbeats 1000000 in
theorem rhas_any {v : Value} (n : List UInt8) (w : World) (hv : FL w v l) (hs : Fe l) (hn : n.length ≤ 1000) :
    Calls Tryz.prog 18 #[v, .string (bs n)] w fun e w' => e = .returned (.bool (dirB l n)) ∧ Below w.heap.size w w' := by
  have hva := rvalues_any v l ccN w hv hs.small (by have := hs.1; omega) (by decide)
  obtain ⟨hf1, hf2⟩ := hs.vals ccN
  have hli := fun W u (hv : SL W u (valsL l ccN)) => rlistD_any u (valsL l ccN) W hv (fun x hx => by have := hf2 x hx; omega) (by omega)
  have hde : dirsAll (valsL l ccN) = dirsE l := rfl
  rw [hde] at hli
  have hfi := fun W v (hv : DL W v (dirsE l)) => rfindD_any v (dirsE l) n W hv (dirsE_wd hs) (by omega) (by have := dirsE_lend hs; omega)
  unfold RetR at hfi
  have hdb : dirB l n = (findD (dirsE l) n).isSome := rfl
  rw [hdb]
  have HV := Lib.hid hva; have HL := Lib.hid hli; have HF := Lib.hid hfi
  clear hva hli hde hf1 hf2 hv hs hfi hn hdb
  generalize findD (dirsE l) n = o at *
  generalize dirsE l = D at *
  generalize valsL l ccN = N at *
  generalize o.getD dv0 = d at *
  generalize o.isSome = x at *
  go_enter Tryz.func18, Tryz.ntmps18
  go_wp2_with fail
  refine HV.out.mono ?_
  rintro e w1 ⟨u, rfl, ho, hb⟩
  have HO := Lib.hid ho.sl; have HB := Lib.hid hb
  clear ho hb HV
  go_wp2_with fail
  refine (HL.out _ _ HO.out).mono ?_
  rintro e w2 ⟨u2, rfl, ho, hb⟩
  have HO2 := Lib.hid ho.dl; have HB2 := Lib.hid (HB.out.trans (hb.mono HB.out.size))
  clear ho hb HB HO HL
  go_wp2_with fail
  refine (HF.out _ _ HO2.out).mono ?_
  rintro e w3 ⟨rfl, hb⟩
  have hb3 := HB2.out.trans (hb.mono HB2.out.size)
  have hal : Below w3.heap.size w3 (w3.alloc (.cells #[.string (bs d.1), .string (bs d.2.1), .bool d.2.2.1, .string (bs d.2.2.2)] 79)) := (Below.refl _ _).alloc (Nat.le_refl _) _
  have HB3 := Lib.hid (hb3.trans (hal.mono hb3.size))
  clear hb hb3 HB2 HO2 HF hal
  go_wp2_with fail
  go_ret
  exact ⟨rfl, HB3.out⟩

set_option maxRecDepth 100000 in
set_option maxHeartbeats 8000000 in
theorem rsto_any (m dev : List UInt8) {vq : Value} {q : List Fld} (w : World) (hq : FL w vq q) (hfq : Fe q) (h : EnW w fs l asked got Y) :
    Calls Tryz.prog 9 #[.string (bs m), vq, .agg #[.int .i64 st, .string re, .int .i64 mi, fs, .string bo, .int .i64 asked, .int .i64 got, .slice vA vn vc], .string (bs dev)] w
      fun e w' => e = .returned (.bool (stoB m st q l Y got dev)) ∧ Below w.heap.size w w' := by
  have hx : Below w.heap.size w (w.alloc (.cells #[.int .i64 st, .string re, .int .i64 mi, fs, .string bo, .int .i64 asked, .int .i64 got, .slice vA vn vc] 28)) := (Below.refl _ _).alloc (Nat.le_refl _) _
  have hd := dbk.new w #[.int .i64 st, .string re, .int .i64 mi, fs, .string bo, .int .i64 asked, .int .i64 got, .slice vA vn vc] 28
  have hfe := h.fe
  have hct := fun W (hb : Below w.heap.size w W) => rctl_any (st := st) (mi := mi) (re := re) (bo := bo) (vA := vA) (vn := vn) (vc := vc) dev W (h.bel hb)
  have hh1 := fun W (hb : Below w.heap.size w W) => rhas_any nosN W (hq.bel hb) hfq (by decide)
  have hh2 := fun W (hb : Below w.heap.size w W) => rhas_any nosN W (h.bel hb).fl hfe (by decide)
  have hh3 := fun W (hb : Below w.heap.size w W) => rhas_any prvN W (h.bel hb).fl hfe (by decide)
  have hh4 := fun W (hb : Below w.heap.size w W) => rhas_any pubN W (h.bel hb).fl hfe (by decide)
  have hh5 := fun W (hb : Below w.heap.size w W) => rhas_any smN W (h.bel hb).fl hfe (by decide)
  have hh6 := fun W (hb : Below w.heap.size w W) => rhas_any musN W (h.bel hb).fl hfe (by decide)
  have hvn := fun W (hb : Below w.heap.size w W) => rvnames_any (st := st) (mi := mi) (re := re) (bo := bo) W (h.bel hb).fl hfe.vfd
  unfold RetN at hvn
  have hva := fun W (hb : Below w.heap.size w W) => rvalues_any vq q autN W (hq.bel hb) hfq.small (by have := hfq.1; omega) (by decide)
  unfold RetS at hva
  have hli := fun W (hb : Below w.heap.size w W) => rlife_any (st := st) (mi := mi) (re := re) (bo := bo) (vA := vA) (vn := vn) (vc := vc) dev W (h.bel hb)
  have hg1 := fun W (hb : Below w.heap.size w W) => rget_any fs l etgN W (h.bel hb).fl hfe.small (by have := hfe.1; omega) (by have := hfe.size; omega) (by decide)
  have hg2 := fun W (hb : Below w.heap.size w W) => rget_any fs l lmdN W (h.bel hb).fl hfe.small (by have := hfe.1; omega) (by have := hfe.size; omega) (by decide)
  have hpe := fun W => reparseL_any (getL l etgN) W (by have := hfe.getLen etgN; omega)
  obtain ⟨m0, d0, h0, i0, s0, HY⟩ := h.ny
  have hpd := fun W => rparse_any (bs (getL l lmdN)) got Y m0 d0 h0 i0 s0 W (by rw [bs_size]; have := hfe.getLen lmdN; omega) HY
  rw [bs_data, rparse_eq] at hpd
  have hd0 : dateO Y l lmdN = parseDL (Y + 50) (getL l lmdN) := rfl
  rw [← hd0] at hpd
  clear hd0 HY h hq
  have hbe : (m == getM) = ((bs m).toList == [71, 69, 84]) := (beqV m [71, 69, 84]).symm
  obtain ⟨N, hN⟩ : ∃ N, N = stoB m st q l Y got dev := ⟨_, rfl⟩
  rw [← hN]
  unfold stoB openB useB secB at hN
  rw [hbe] at hN
  have hX := Lib.hid hx; have HD0 := Lib.hid hd
  clear hbe hx hd hfe hfq
  generalize ctlE l dev = c at *
  generalize dirB q nosN = x1 at *
  generalize dirB l nosN = x2 at *
  generalize dirB l prvN = x3 at *
  generalize dirB l pubN = x4 at *
  generalize dirB l smN = x5 at *
  generalize dirB l musN = x6 at *
  generalize allB (valsL l varyN) = x7 at *
  generalize namesA (valsL l varyN) = NL at *
  generalize valsL q autN = AU at *
  generalize lifeI Y l got dev = li at *
  generalize dateO Y l lmdN = od at *
  generalize getL l lmdN = tl at *
  generalize getL l etgN = te at *
  generalize hasF l lmdN = hl at *
  generalize hasF l etgN = ht at *
  have HN := Lib.hid hN; clear hN
  have HCT := Lib.hid hct; have HH1 := Lib.hid hh1; have HH2 := Lib.hid hh2; have HH3 := Lib.hid hh3; have HH4 := Lib.hid hh4; have HH5 := Lib.hid hh5; have HH6 := Lib.hid hh6; have HVN := Lib.hid hvn; have HVA := Lib.hid hva; have HLI := Lib.hid hli; have HG1 := Lib.hid hg1; have HG2 := Lib.hid hg2; have HPE := Lib.hid hpe; have HPD := Lib.hid hpd
  clear hct hh1 hh2 hh3 hh4 hh5 hh6 hvn hva hli hg1 hg2 hpe hpd
  obtain ⟨y0, y1, y2, y3, y4, y5, y6, y7⟩ := dbk.eight HD0.out
  generalize bs m = sm at *
  go_enter Tryz.func9, Tryz.ntmps9
  cases hm : (sm.toList == [71, 69, 84])
  · rw [hm] at HN
    have HF := Lib.hid (show N = false by rw [HN.out]; rfl)
    clear HN
    go_wp2_with fail
    go_ret
    exact ⟨ret_fin HF.out, hX.out⟩
  rw [hm] at HN
  go_upto_region 3 with fail
  generalize hC0 : w.alloc (.cells #[.int .i64 st, .string re, .int .i64 mi, fs, .string bo, .int .i64 asked, .int .i64 got, .slice vA vn vc] 28) = C0 at *
  clear hC0
  go_cut [47] (fun v wx => v = .bool (!lastS st) ∧ wx = C0)
  case first =>
    by_cases h0 : st = 200
    · subst h0
      go_wp2_with fail
      go_meet
      exact ⟨rfl, rfl⟩
    by_cases h1 : st = 301
    · subst h1
      go_wp2_with fail
      go_meet
      exact ⟨rfl, rfl⟩
    by_cases h2 : st = 404
    · subst h2
      go_wp2_with fail
      go_meet
      exact ⟨rfl, rfl⟩
    by_cases h3 : st = 410
    · subst h3
      go_wp2_with fail
      go_meet
      exact ⟨rfl, rfl⟩
    have e0 : decide (st = 200) = false := decide_eq_false h0
    have e1 : decide (st = 301) = false := decide_eq_false h1
    have e2 : decide (st = 404) = false := decide_eq_false h2
    have e3 : decide (st = 410) = false := decide_eq_false h3
    have hl : lastS st = false := by unfold lastS; rw [e0, e1, e2, e3]; rfl
    have b0 : (st != 200) = true := by simpa using h0
    have b1 : (st != 301) = true := by simpa using h1
    have b2 : (st != 404) = true := by simpa using h2
    have b3 : (st != 410) = true := by simpa using h3
    clear e0 e1 e2 e3 h0 h1 h2 h3
    go_wp2_with fail
    go_meet
    exact ⟨by rw [hl]; rfl, rfl⟩
  case rest =>
    obtain ⟨rfl, rfl⟩ := hcut
    cases hls : lastS st
    · rw [hls] at HN
      have HF := Lib.hid (show N = false by rw [HN.out]; rfl)
      clear HN
      go_wp2_with fail
      go_ret
      exact ⟨ret_fin HF.out, hX.out⟩
    · rw [hls] at HN
      go_wp2_with fail
      refine (HCT.out _ hX.out).mono ?_
      rintro e w1 ⟨rfl, hb⟩
      have hal : Below w1.heap.size w1 (w1.alloc (.cells #[.bool c.1, .bool c.2.1, .bool c.2.2.1, .bool c.2.2.2.1, .int .i64 c.2.2.2.2.1, .int .i64 c.2.2.2.2.2] 48)) := (Below.refl _ _).alloc (Nat.le_refl _) _
      have hb2 := hb.trans (hal.mono hb.size)
      have HB := Lib.hid (hX.out.trans (hb2.mono hX.out.size))
      have HD := Lib.hid (HD0.out.below hb2)
      have HC := Lib.hid (dbk.new w1 #[.bool c.1, .bool c.2.1, .bool c.2.2.1, .bool c.2.2.2.1, .int .i64 c.2.2.2.2.1, .int .i64 c.2.2.2.2.2] 48)
      clear hb hal hb2 HD0 hX HCT y0 y1 y2 y3 y4 y5 y6 y7 hm
      go_upto_region 6 with fail
      generalize w1.alloc (.cells #[.bool c.1, .bool c.2.1, .bool c.2.2.1, .bool c.2.2.2.1, .int .i64 c.2.2.2.2.1, .int .i64 c.2.2.2.2.2] 48) = C at *
      generalize w1.heap.size = g at *
      go_cut [64] (fun v wx => v = .bool (x1 || (x2 || (x3 || c.1))) ∧ Below C.heap.size C wx)
      case first =>
        have cg0 := HC.out.cell 0 (.bool c.1) rfl
        go_wp2_with fail
        refine (HH1.out _ HB.out).mono ?_
        rintro e z1 ⟨rfl, hb1⟩
        have cg1 := (HC.out.below hb1).cell 0 (.bool c.1) rfl
        cases x1
        · go_wp2_with fail
          refine (HH2.out _ (HB.out.trans (hb1.mono HB.out.size))).mono ?_
          rintro e z2 ⟨rfl, hb⟩
          replace hb1 := hb1.trans (hb.mono hb1.size)
          clear cg1
          have cg1 := (HC.out.below hb1).cell 0 (.bool c.1) rfl
          cases x2
          · go_wp2_with fail
            refine (HH3.out _ (HB.out.trans (hb1.mono HB.out.size))).mono ?_
            rintro e z3 ⟨rfl, hb⟩
            replace hb1 := hb1.trans (hb.mono hb1.size)
            clear cg1
            have cg1 := (HC.out.below hb1).cell 0 (.bool c.1) rfl
            generalize c.1 = c1 at *
            cases x3
            · go_wp2_with fail
              go_meet
              exact ⟨rfl, hb1⟩
            · go_wp2_with fail
              go_meet
              exact ⟨rfl, hb1⟩
          · go_wp2_with fail
            go_meet
            exact ⟨rfl, hb1⟩
        · go_wp2_with fail
          go_meet
          exact ⟨rfl, hb1⟩
      case rest =>
        obtain ⟨rfl, hb⟩ := hcut
        replace HB := Lib.hid (HB.out.trans (hb.mono HB.out.size)); replace HD := Lib.hid (HD.out.below hb); replace HC := Lib.hid (HC.out.below hb)
        clear hb
        clear C
        clear HH1 HH2 HH3
        cases hx1 : (x1 || (x2 || (x3 || c.1)))
        · have hNr : Hid (N = (!x7 && ((AU.isEmpty || (x4 || (x5 || (x6 || c.2.2.2.1)))) && (decide (0 < li) || (isE te || od.isSome))))) := by
            simp only [Bool.or_eq_false_iff] at hx1
            obtain ⟨a1, a2, a3, a4⟩ := hx1
            show N = _
            rw [HN.out, a1, a2, a3, a4]
            rfl
          clear HN hx1
          obtain ⟨y0, y1, y2, y3, y4, y5, y6, y7⟩ := dbk.eight HD.out
          go_wp2_with fail
          refine (HVN.out _ HB.out).mono ?_
          rintro e z1 ⟨un, rfl, ho, hb⟩
          obtain ⟨nA, nc, rfl⟩ := ho.sl.form
          replace HB := Lib.hid (HB.out.trans (hb.mono HB.out.size)); replace HD := Lib.hid (HD.out.below hb); replace HC := Lib.hid (HC.out.below hb)
          clear hb ho HVN y0 y1 y2 y3 y4 y5 y6 y7
          cases x7
          · go_wp2_with fail
            refine (HVA.out _ HB.out).mono ?_
            rintro e z2 ⟨ua, rfl, ho, hb⟩
            obtain ⟨aA, ac, rfl⟩ := ho.sl.form
            replace HB := Lib.hid (HB.out.trans (hb.mono HB.out.size)); replace HD := Lib.hid (HD.out.below hb); replace HC := Lib.hid (HC.out.below hb)
            clear hb ho HVA
            go_upto_region 12 with fail
            obtain ⟨C, hC⟩ : ∃ C, C = z2 := ⟨_, rfl⟩
            subst hC
            go_cut [97] (fun v wx => v = .bool (!(AU.isEmpty || (x4 || (x5 || (x6 || c.2.2.2.1))))) ∧ Below C.heap.size C wx)
            case first =>
              cases AU with
              | nil =>
                go_wp2_with fail
                go_meet
                exact ⟨rfl, Below.refl _ _⟩
              | cons a0 ar =>
                have hgt : (0 : Int) < ((a0 :: ar).length : Int) := by simp only [List.length_cons]; omega
                generalize (a0 :: ar).length = na at *
                go_wp2_with fail
                refine (HH4.out _ HB.out).mono ?_
                rintro e z3 ⟨rfl, hb1⟩
                cases x4
                · go_wp2_with fail
                  refine (HH5.out _ (HB.out.trans (hb1.mono HB.out.size))).mono ?_
                  rintro e z4 ⟨rfl, hb⟩
                  replace hb1 := hb1.trans (hb.mono hb1.size)
                  cases x5
                  · go_wp2_with fail
                    refine (HH6.out _ (HB.out.trans (hb1.mono HB.out.size))).mono ?_
                    rintro e z5 ⟨rfl, hb⟩
                    replace hb1 := hb1.trans (hb.mono hb1.size)
                    have cg1 := (HC.out.below hb1).cell 3 (.bool c.2.2.2.1) rfl
                    generalize c.2.2.2.1 = c3 at *
                    cases x6
                    · go_wp2_with fail
                      go_meet
                      exact ⟨rfl, hb1⟩
                    · go_wp2_with fail
                      go_meet
                      exact ⟨rfl, hb1⟩
                  · go_wp2_with fail
                    go_meet
                    exact ⟨rfl, hb1⟩
                · go_wp2_with fail
                  go_meet
                  exact ⟨rfl, hb1⟩
            case rest =>
              obtain ⟨rfl, hb⟩ := hcut
              replace HB := Lib.hid (HB.out.trans (hb.mono HB.out.size)); replace HD := Lib.hid (HD.out.below hb)
              clear hb HC
              clear C
              clear HH4 HH5 HH6
              cases hx2 : (AU.isEmpty || (x4 || (x5 || (x6 || c.2.2.2.1))))
              · rw [hx2] at hNr
                have HF := Lib.hid (show N = false by rw [hNr.out]; rfl)
                clear hNr hx2
                go_wp2_with fail
                go_ret
                exact ⟨ret_fin HF.out, HB.out⟩
              · rw [hx2] at hNr
                have hNs : Hid (N = (decide (0 < li) || (isE te || od.isSome))) := hNr.out
                clear hNr hx2
                obtain ⟨y0, y1, y2, y3, y4, y5, y6, y7⟩ := dbk.eight HD.out
                go_wp2_with fail
                refine (HLI.out _ HB.out).mono ?_
                rintro e z6 ⟨rfl, hb⟩
                replace HB := Lib.hid (HB.out.trans (hb.mono HB.out.size)); replace HD := Lib.hid (HD.out.below hb)
                clear hb HLI y0 y1 y2 y3 y4 y5 y6 y7
                by_cases hli : 0 < li
                · have HF := Lib.hid (show N = true by rw [hNs.out, decide_eq_true hli]; rfl)
                  clear hNs
                  go_wp2_with fail
                  go_ret
                  exact ⟨ret_fin HF.out, HB.out⟩
                · have HF := Lib.hid (show N = (isE te || od.isSome) by rw [hNs.out, decide_eq_false hli]; rfl)
                  clear hNs
                  go_wp2_with fail
                  refine (HG1.out _ HB.out).mono ?_
                  rintro e z7 ⟨rfl, hb⟩
                  replace HB := Lib.hid (HB.out.trans (hb.mono HB.out.size)); replace HD := Lib.hid (HD.out.below hb)
                  clear hb HG1
                  go_wp2_with fail
                  refine (HPE.out _).mono ?_
                  rintro e z8 ⟨rfl, hb⟩
                  replace HB := Lib.hid (HB.out.trans (hb.mono HB.out.size)); replace HD := Lib.hid (HD.out.below hb)
                  clear hb HPE
                  go_wp2_with fail
                  refine (HG2.out _ HB.out).mono ?_
                  rintro e z9 ⟨rfl, hb⟩
                  replace HB := Lib.hid (HB.out.trans (hb.mono HB.out.size)); replace HD := Lib.hid (HD.out.below hb)
                  clear hb HG2
                  have y6 := HD.out.cell 6 (.int .i64 got) rfl
                  go_wp2_with fail
                  refine (HPD.out _).mono ?_
                  unfold erE
                  cases hie : isE te
                  · rw [hie] at HF
                    rw [if_neg (by decide)]
                    cases od with
                    | none =>
                      unfold ansV
                      rintro e z10 ⟨rfl, hb⟩
                      replace HB := Lib.hid (HB.out.trans (hb.mono HB.out.size))
                      clear hb HPD y6
                      go_wp2_with fail
                      go_ret
                      exact ⟨ret_fin HF.out, HB.out⟩
                    | some t =>
                      unfold ansV
                      rintro e z10 ⟨rfl, hb⟩
                      replace HB := Lib.hid (HB.out.trans (hb.mono HB.out.size))
                      clear hb HPD y6
                      go_wp2_with fail
                      go_ret
                      exact ⟨ret_fin HF.out, HB.out⟩
                  · rw [hie] at HF
                    rw [if_pos rfl]
                    cases od with
                    | none =>
                      unfold ansV
                      rintro e z10 ⟨rfl, hb⟩
                      replace HB := Lib.hid (HB.out.trans (hb.mono HB.out.size))
                      clear hb HPD y6
                      go_wp2_with fail
                      go_ret
                      exact ⟨ret_fin HF.out, HB.out⟩
                    | some t =>
                      unfold ansV
                      rintro e z10 ⟨rfl, hb⟩
                      replace HB := Lib.hid (HB.out.trans (hb.mono HB.out.size))
                      clear hb HPD y6
                      go_wp2_with fail
                      go_ret
                      exact ⟨ret_fin HF.out, HB.out⟩
          · have HF := Lib.hid (show N = false by rw [hNr.out]; rfl)
            clear hNr
            go_wp2_with fail
            go_ret
            exact ⟨ret_fin HF.out, HB.out⟩
        · have HF := Lib.hid (show N = false by
            rw [HN.out]
            revert hx1
            generalize c.1 = c1
            cases x1 <;> cases x2 <;> cases x3 <;> cases c1 <;> simp)
          clear HN
          go_wp2_with fail
          go_ret
          exact ⟨ret_fin HF.out, HB.out⟩
end Go.Proofs.YtfobjaccpnondaaGreatDoor
