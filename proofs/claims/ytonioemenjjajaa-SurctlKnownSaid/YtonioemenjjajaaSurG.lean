/- The closure that goes through the rules; the surctl layer's Of. -/
import Derived.Test.YtonioemenjjajaaSurF
import Derived.Test.YtonioemenjjajaaSurC
namespace Go.Proofs.Ytonioemenjjajaa
open Go.RowKit Go.Shelf

/-- the rules' cells -/
def rulesA : Array Value := #[.string (bs nosN), .func (.func 42) #[] #[], .string (bs remN), .func (.func 43) #[] #[], .string (bs conN), .func (.func 44) #[] #[], .string (bs maxN), .func (.func 47) #[] #[]]
theorem rule_at (k : Nat) (hk : k < rulesL.length) : ∃ (n : List UInt8) (f : FuncId), rulesA[k * 2]? = some (.string (bs n)) ∧ rulesA[k * 2 + 1]? = some (.func (.func f) #[] #[]) ∧ n.length ≤ 20 ∧ rulesL[k].1 = n ∧ Ruling f rulesL[k].2 ∧
    (∀ args w, (callFunc f args).run Try.prog w = .ok (.enter f args) w) := by
  have h4 : k < 4 := hk
  rcases (by omega : k = 0 ∨ k = 1 ∨ k = 2 ∨ k = 3) with rfl | rfl | rfl | rfl
  · exact ⟨nosN, 42, rfl, rfl, by decide, rfl, rule1, enters_of Try.func42 (by kernel_rfl) rfl⟩
  · exact ⟨remN, 43, rfl, rfl, by decide, rfl, rule2, enters_of Try.func43 (by kernel_rfl) rfl⟩
  · exact ⟨conN, 44, rfl, rfl, by decide, rfl, rule3, enters_of Try.func44 (by kernel_rfl) rfl⟩
  · exact ⟨maxN, 47, rfl, rfl, by decide, rfl, rule4, enters_of Try.func47 (by kernel_rfl) rfl⟩
theorem srules_any (w : World) :
    Calls Try.prog 27 #[] w fun e w' => e = .returned (.slice (some ⟨w.heap.size, 0, none⟩) 4 4) ∧ w' = w.alloc (.cells rulesA 71) := by
  go_enter Try.func27, Try.ntmps27
  go_wp2_with fail
  go_ret
  exact ⟨rfl, rfl⟩
theorem sreader_any (rs : Nat) (w : World) :
    Calls Try.prog 26 #[.slice (some ⟨rs, 0, none⟩) 4 4] w fun e w' => e = .returned (.func (.func 40) #[] #[.pointer (some ⟨w.heap.size, 0, none⟩)]) ∧ w' = w.alloc (.cells #[.slice (some ⟨rs, 0, none⟩) 4 4] 52) := by
  go_enter Try.func26, Try.ntmps26
  go_wp2_with fail
  go_ret
  exact ⟨rfl, rfl⟩
theorem res6_new (w : World) : dbk (w.alloc (.cells #[.bool false, .bool false, .bool false, .bool false, .int .i64 0, .int .i64 0] 32)) w.heap.size (ctA ctl0) := dbk.new w _ _
theorem findD_mem {l : List Dv} {n : List UInt8} {d : Dv} (h : findD l n = some d) : d ∈ l := List.mem_of_find?_eq_some h

set_option maxRecDepth 100000 in
set_option maxHeartbeats 4000000 in
theorem reader1_any (v : Value) (l : List Dv) (rb rs : Nat) (w : World) (hm : MaxD w) (hv : DL w v l) (hl : ∀ j (hj : j < l.length), DvW l[j]) (hz : ∀ d ∈ l, d.2.1.length ≤ 4294967200) (hlow : ∀ d ∈ l, lower d.1 = d.1) (hlen : l.length ≤ 4294967295)
    (h1 : dbk w rb #[.slice (some ⟨rs, 0, none⟩) 4 4]) (h2 : dbk w rs rulesA) :
    Calls Try.prog 40 #[v, .pointer (some ⟨rb, 0, none⟩)] w fun e w' => e = .returned (.agg (ctA (ctlOf l))) ∧ Below w.heap.size w w' := by
  obtain ⟨A, c, rfl⟩ := hv.form
  have HALL := Lib.hid (run_all hlow)
  have hal1 : Below w.heap.size w (w.alloc (.cells #[.bool false, .bool false, .bool false, .bool false, .int .i64 0, .int .i64 0] 32)) := (Below.refl _ _).alloc (Nat.le_refl _) _
  have hal : Below w.heap.size w ((w.alloc (.cells #[.bool false, .bool false, .bool false, .bool false, .int .i64 0, .int .i64 0] 32)).alloc (.cells #[.bool false, .bool false, .bool false, .bool false, .int .i64 0, .int .i64 0] 32)) := hal1.alloc hal1.size _
  have hr1 := (res6_new w).alloc (.cells #[.bool false, .bool false, .bool false, .bool false, .int .i64 0, .int .i64 0] 32)
  have hr2 := res6_new (w.alloc (.cells #[.bool false, .bool false, .bool false, .bool false, .int .i64 0, .int .i64 0] 32))
  rw [World.size_alloc] at hr2
  have k0 := (h1.below hal).cell 0 _ rfl
  have HM := Lib.hid hm; have HV := Lib.hid hv; have HL := Lib.hid hl; have HZ := Lib.hid hz; have H2 := Lib.hid h2; have HAL := Lib.hid hal; have HR1 := Lib.hid hr1; have HR2 := Lib.hid hr2
  clear hm hv hl hz hlow h1 h2 hal1 hal hr1 hr2
  go_enter Try.func40, Try.ntmps40
  go_wp2_with fail
  clear k0
  go_loopw [11] (fun i wr => ∃ k : Nat, k ≤ 4 ∧ i = .int .i64 k ∧ dbk wr w.heap.size (ctA ctl0) ∧ dbk wr (w.heap.size + 1) (ctA (runR l k)) ∧ Below w.heap.size w wr) (fun i _ => 4 - (intOf i).toNat)
  case atStart => exact ⟨0, Nat.zero_le _, rfl, HR1.out, HR2.out, HAL.out⟩
  case round =>
    obtain ⟨k, hk, rfl, ha, hc, hb⟩ := hrel
    have HA := Lib.hid ha; have HC := Lib.hid hc; have HB := Lib.hid hb
    clear ha hc hb HR1 HR2 HAL
    by_cases hlt : k < 4
    · obtain ⟨n, f, e0, e1, en, en2, er, he⟩ := rule_at k hlt
      have q0 := (H2.out.below HB.out).cell _ _ e0
      have q1 := (H2.out.below HB.out).cell _ _ e1
      have hst := runR_step l k hlt
      have hru : ruled l (runR l k) rulesL[k] = match findD l n with | some d => rulesL[k].2 (runR l k) d.2.1 | none => runR l k := by unfold ruled; rw [en2]; cases findD l n <;> rfl
      rw [hru] at hst
      generalize rulesL[k].2 = up at *
      generalize runR l k = cc at *
      have hx : Below wr.heap.size wr (wr.alloc (.cells #[.string (bs n), .func (.func f) #[] #[]] 71)) := (Below.refl _ _).alloc (Nat.le_refl _) _
      have hd := dbk.new wr #[.string (bs n), .func (.func f) #[] #[]] 71
      have p0 := hd.cell 0 _ rfl
      have p1 := hd.cell 1 _ rfl
      have hfd := findD_any _ l n (wr.alloc (.cells #[.string (bs n), .func (.func f) #[] #[]] 71)) ((HV.out.bel HB.out).bel hx) HL.out (by omega) (by omega)
      have HST := Lib.hid hst; have HER := Lib.hid er; have HD := Lib.hid hd; have HX := Lib.hid hx; have HFD := Lib.hid hfd
      clear e0 e1 en en2 er hst hru hx hd hfd
      cases hf : findD l n with
      | none =>
        have hr2 : RetR (wr.alloc (.cells #[.string (bs n), .func (.func f) #[] #[]] 71)) none = fun e w' => e = .returned (.tuple #[.agg #[.string ⟨#[]⟩, .string ⟨#[]⟩, .bool false, .string ⟨#[]⟩], .bool false]) ∧ Below (wr.alloc (.cells #[.string (bs n), .func (.func f) #[] #[]] 71)).heap.size (wr.alloc (.cells #[.string (bs n), .func (.func f) #[] #[]] 71)) w' := rfl
        rw [hf, hr2] at HFD
        rw [hf] at HST
        have HST2 : Hid (runR l (k + 1) = cc) := HST.out
        clear hr2 hf HST
        go_wp2_with fail
        refine HFD.out.mono ?_
        rintro e w2 ⟨rfl, hb2⟩
        have hq : Below w2.heap.size w2 (w2.alloc (.cells #[.string ⟨#[]⟩, .string ⟨#[]⟩, .bool false, .string ⟨#[]⟩] 39)) := (Below.refl _ _).alloc (Nat.le_refl _) _
        have hb3 := HX.out.trans ((hb2.trans (hq.mono hb2.size)).mono HX.out.size)
        have HB3 := Lib.hid (HB.out.trans (hb3.mono HB.out.size))
        have HA3 := Lib.hid (HA.out.below hb3); have HC3 := Lib.hid (HC.out.below hb3)
        clear hb2 hq hb3 HFD p0 p1 q0 q1 HD
        go_wp2_with fail
        go_roundw
        case rel => exact ⟨k + 1, by omega, by go_num, HA3.out, by rw [HST2.out]; exact HC3.out, HB3.out⟩
        case measure => simp [intOf]; omega
      | some d =>
        have hr2 : RetR (wr.alloc (.cells #[.string (bs n), .func (.func f) #[] #[]] 71)) (some d) = fun e w' => e = .returned (.tuple #[.agg #[.string (bs d.1), .string (bs d.2.1), .bool d.2.2.1, .string (bs d.2.2.2)], .bool true]) ∧ Below (wr.alloc (.cells #[.string (bs n), .func (.func f) #[] #[]] 71)).heap.size (wr.alloc (.cells #[.string (bs n), .func (.func f) #[] #[]] 71)) w' := rfl
        rw [hf, hr2] at HFD
        rw [hf] at HST
        have HST2 : Hid (runR l (k + 1) = up cc d.2.1) := HST.out
        have HDZ := Lib.hid (HZ.out d (findD_mem hf))
        clear hr2 hf HST
        go_wp2_with fail
        refine HFD.out.mono ?_
        rintro e w2 ⟨rfl, hb2⟩
        have hdx : dbk (w2.alloc (.cells #[.string (bs d.1), .string (bs d.2.1), .bool d.2.2.1, .string (bs d.2.2.2)] 39)) w2.heap.size (dvA d) := dbk.new w2 _ _
        obtain ⟨r0, r1, r2, r3⟩ := hdx.four
        have hq : Below w2.heap.size w2 (w2.alloc (.cells #[.string (bs d.1), .string (bs d.2.1), .bool d.2.2.1, .string (bs d.2.2.2)] 39)) := (Below.refl _ _).alloc (Nat.le_refl _) _
        have hb4 := hb2.trans (hq.mono hb2.size)
        have hb3 := HX.out.trans (hb4.mono HX.out.size)
        have s0 := (HD.out.below hb4).cell 0 _ rfl
        have s1 := (HD.out.below hb4).cell 1 _ rfl
        have HB3 := Lib.hid (HB.out.trans (hb3.mono HB.out.size))
        have HA3 := Lib.hid (HA.out.below hb3); have HC3 := Lib.hid (HC.out.below hb3)
        have HCALL := Lib.hid (HER.out (w.heap.size + 1) cc d.2.1 _ HC3.out (HM.out.bel HB3.out) HDZ.out)
        clear hb2 hq hb3 hb4 HFD p0 p1 q0 q1 HD hdx
        go_wp2_with (go_at_fn f; refine HCALL.out.mono ?_; rintro e w3 ⟨rfl, hc3, hg3⟩; have HC4 := Lib.hid hc3; have HB4 := Lib.hid (HB3.out.grown hg3 HB3.out.size (fun k hk => by cases hk; exact Nat.le_succ _)); have HA4 := Lib.hid (HA3.out.keep (hg3.block _ HA3.out.lt (by simp))); clear hc3 hg3)
        go_roundw
        case rel => exact ⟨k + 1, by omega, by go_num, HA4.out, by rw [HST2.out]; exact HC4.out, HB4.out⟩
        case measure => simp [intOf]; omega
    · obtain rfl : k = 4 := by omega
      obtain ⟨cc, hcc⟩ : ∃ cc, cc = ctlOf l := ⟨_, rfl⟩
      rw [HALL.out, ← hcc] at HC
      have HCC := Lib.hid hcc
      clear hcc
      obtain ⟨c0, c1, c2, c3, c4, c5⟩ := HC.out.six
      obtain ⟨a0, b0, a1, b1, a2, b2, a3, b3, a4, b4, a5, b5⟩ := HA.out.asks6 (.bool cc.1) (.bool cc.2.1) (.bool cc.2.2.1) (.bool cc.2.2.2.1) (.int .i64 cc.2.2.2.2.1)
      obtain ⟨g0, g1, g2, g3, g4, g5⟩ := (HA.out.putc cc).six
      have hq := putC_below (b := w.heap.size) HB.out (Nat.le_refl _) cc
      simp only [putC, ctl0] at a0 a1 a2 a3 a4 a5 b0 b1 b2 b3 b4 b5 g0 g1 g2 g3 g4 g5 hq
      have HQ := Lib.hid hq; have HG := Lib.hid (And.intro g0 (And.intro g1 (And.intro g2 (And.intro g3 (And.intro g4 g5))))); clear hq g0 g1 g2 g3 g4 g5
      go_wp2_with fail
      obtain ⟨g0, g1, g2, g3, g4, g5⟩ := HG.out
      refine bodyPost_ret (v := .agg (ctA cc)) (by simp [results, Try.results40, go_sem, ctA, g0, g1, g2, g3, g4, g5]) rfl ?_
      exact ⟨by rw [← HCC.out], HQ.out⟩

set_option maxRecDepth 100000 in
set_option maxHeartbeats 4000000 in
theorem sof_any (v : Value) (L : List (List UInt8)) (dev : List UInt8) (w : World) (hm : MaxD w) (hv : SL w v L) (hs : ∀ x ∈ L, x.length ≤ 3000) (hl : L.length ≤ 100000) :
    Calls Try.prog 16 #[v, .string (bs dev)] w fun e w' => e = .returned (.agg (ctA (ofC L dev))) ∧ Below w.heap.size w w' := by
  have hat : ∀ d ∈ listS L, DvN 3000 d := fun d hd => listS_at hs hd
  have hnm : ∀ d ∈ listS L, lower d.1 = d.1 := fun d hd => listS_name hd
  have hln := listS_len L
  have hmd : mineS (listS L) dev = mineS (listS L) dev := rfl
  have hoc : ofC L dev = ctlOf (mineS (listS L) dev) := rfl
  rw [hoc]
  have hLS := fun W (h : SL W v L) (hm : MaxD W) => slist_any v L W hm h (fun x hx => by have := hs x hx; omega) (by omega)
  generalize listS L = l at *
  have hml := mineS_len l dev
  have hmm : ∀ d ∈ mineS l dev, d ∈ l := fun d hd => mineS_mem hd
  have HMN := Lib.hid (fun (W : World) (v : Value) (h : DL W v l) => smine_any v l dev W h (fun j hj => by have h := hat _ (List.getElem_mem hj); obtain ⟨a, b, c⟩ := h; exact ⟨by omega, by omega, by omega⟩) (by omega))
  generalize mineS l dev = m at *
  have HRD := Lib.hid (fun (W : World) (v : Value) (rb rs : Nat) (h0 : MaxD W) (h : DL W v m) (h1 : dbk W rb #[.slice (some ⟨rs, 0, none⟩) 4 4]) (h2 : dbk W rs rulesA) => reader1_any v m rb rs W h0 h
    (fun j hj => by have h := hat _ (hmm _ (List.getElem_mem hj)); obtain ⟨a, b, c⟩ := h; exact ⟨by omega, by omega, by omega⟩) (fun d hd => by have h := (hat _ (hmm _ hd)).2.1; omega) (fun d hd => hnm _ (hmm _ hd)) (by omega) h1 h2)
  have HLS := Lib.hid hLS
  generalize ctlOf m = cc at *
  have HV := Lib.hid hv; have HM := Lib.hid hm
  clear hat hnm hln hmd hoc hLS hml hmm hv hm hs hl
  have hal : Below w.heap.size w (w.alloc (.cells #[.bool false, .bool false, .bool false, .bool false, .int .i64 0, .int .i64 0] 32)) := (Below.refl _ _).alloc (Nat.le_refl _) _
  have HR := Lib.hid (res6_new w)
  have HAL := Lib.hid hal
  clear hal
  have HRU := Lib.hid srules_any
  have HRE := Lib.hid sreader_any
  go_enter Try.func16, Try.ntmps16
  go_wp2_with fail
  refine (HRU.out _).mono ?_
  rintro e w1 ⟨rfl, hw1⟩
  have hb1 : Below (w.alloc (.cells #[.bool false, .bool false, .bool false, .bool false, .int .i64 0, .int .i64 0] 32)).heap.size (w.alloc (.cells #[.bool false, .bool false, .bool false, .bool false, .int .i64 0, .int .i64 0] 32)) w1 := by rw [hw1]; exact (Below.refl _ _).alloc (Nat.le_refl _) _
  have hrs : dbk w1 (w.heap.size + 1) rulesA := by rw [hw1, ← World.size_alloc w (.cells #[.bool false, .bool false, .bool false, .bool false, .int .i64 0, .int .i64 0] 32)]; exact dbk.new _ _ _
  have hre := HRE.out (w.heap.size + 1) w1
  have HRE2 := Lib.hid hre
  have HRS := Lib.hid hrs
  have HB1 := Lib.hid (HAL.out.trans (hb1.mono HAL.out.size)); have HR1 := Lib.hid (HR.out.below hb1)
  clear hw1 hb1 hrs hre HRE HRU HR HAL
  simp only [World.size_alloc]
  go_wp2_with fail
  refine HRE2.out.mono ?_
  rintro e w2 ⟨rfl, hw2⟩
  have hb2 : Below w1.heap.size w1 w2 := by rw [hw2]; exact (Below.refl _ _).alloc (Nat.le_refl _) _
  have hrb : dbk w2 w1.heap.size #[.slice (some ⟨w.heap.size + 1, 0, none⟩) 4 4] := by rw [hw2]; exact dbk.new _ _ _
  have HRB := Lib.hid hrb
  have HRS2 := Lib.hid (HRS.out.below hb2)
  have HB2 := Lib.hid (HB1.out.trans (hb2.mono HB1.out.size)); have HR2 := Lib.hid (HR1.out.below hb2)
  clear hw2 hb2 hrb HRE2 HRS HB1 HR1
  go_wp2_with fail
  refine (HLS.out _ (HV.out.bel HB2.out) (HM.out.bel HB2.out)).mono ?_
  rintro e w3 ⟨u, rfl, ho, hb3⟩
  have HO3 := Lib.hid ho.dl
  have HB3 := Lib.hid (HB2.out.trans (hb3.mono HB2.out.size)); have HR3 := Lib.hid (HR2.out.below hb3); have HRB3 := Lib.hid (HRB.out.below hb3); have HRS3 := Lib.hid (HRS2.out.below hb3)
  clear ho hb3 HB2 HR2 HRB HRS2 HLS
  go_wp2_with fail
  refine (HMN.out _ _ HO3.out).mono ?_
  rintro e w4 ⟨u2, rfl, ho, hb4⟩
  have HO4 := Lib.hid ho.dl
  have HB4 := Lib.hid (HB3.out.trans (hb4.mono HB3.out.size)); have HR4 := Lib.hid (HR3.out.below hb4); have HRB4 := Lib.hid (HRB3.out.below hb4); have HRS4 := Lib.hid (HRS3.out.below hb4)
  clear ho hb4 HB3 HR3 HRB3 HRS3 HMN HO3
  have he := enters_of Try.func40 (by kernel_rfl) rfl
  go_wp2_with fail
  refine (HRD.out _ _ _ _ (HM.out.bel HB4.out) HO4.out HRB4.out HRS4.out).mono ?_
  rintro e w5 ⟨rfl, hb5⟩
  have HB := Lib.hid (HB4.out.trans (hb5.mono HB4.out.size)); have HA := Lib.hid (HR4.out.below hb5)
  clear hb5 HB4 HR4 HRB4 HRS4 HRD he
  have hct : (Value.agg (ctA cc)) = .agg #[.bool cc.1, .bool cc.2.1, .bool cc.2.2.1, .bool cc.2.2.2.1, .int .i64 cc.2.2.2.2.1, .int .i64 cc.2.2.2.2.2] := rfl
  rw [hct]
  clear hct
  obtain ⟨a0, b0, a1, b1, a2, b2, a3, b3, a4, b4, a5, b5⟩ := HA.out.asks6 (.bool cc.1) (.bool cc.2.1) (.bool cc.2.2.1) (.bool cc.2.2.2.1) (.int .i64 cc.2.2.2.2.1)
  obtain ⟨g0, g1, g2, g3, g4, g5⟩ := (HA.out.putc cc).six
  have hq := putC_below (b := w.heap.size) HB.out (Nat.le_refl _) cc
  simp only [putC, ctl0] at a0 a1 a2 a3 a4 a5 b0 b1 b2 b3 b4 b5 g0 g1 g2 g3 g4 g5 hq
  have HQ := Lib.hid hq; have HG := Lib.hid (And.intro g0 (And.intro g1 (And.intro g2 (And.intro g3 (And.intro g4 g5))))); clear hq g0 g1 g2 g3 g4 g5
  go_wp2_with fail
  obtain ⟨g0, g1, g2, g3, g4, g5⟩ := HG.out
  refine bodyPost_ret (v := .agg (ctA cc)) (by simp [results, Try.results16, go_sem, ctA, g0, g1, g2, g3, g4, g5]) rfl ?_
  exact ⟨rfl, HQ.out⟩
end Go.Proofs.Ytonioemenjjajaa
