/- The reader's steps: a fixed text, a run of bytes, a number, a version; what is amiss at the end. -/
import Derived.Test.YtinfflceglgneaaDoorLineA
import Derived.Test.YtinfflceglgneaaDoorTextB
import Derived.Shelf.Abstract
import Derived.Test.YtinfflceglgneaaDoorEnv
namespace Go.Proofs.YtinfflceglgneaaDoor
open Go.RowKit

section
variable (b : Nat) (whole : List UInt8) (r : Rs) (w : World)
set_option maxRecDepth 100000 in
set_option maxHeartbeats 400000 in
theorem fixed_any (p : ByteArray) (h : Rd w b whole r) :
    Calls Tryd.prog 28 #[.pointer (some ⟨b, 0, none⟩), .string p] w fun e w' => e = .returned (.tuple #[]) ∧ Rd w' b whole (r.fixed p.data.toList) ∧ w.grownBy w' (some b) := by
  have h1 := h.cell.2.1
  have HR := Lib.hid h; clear h
  go_enter Tryd.func28, Tryd.ntmps28
  go_wp2_with fail
  refine (Tryd.strings_CutPrefix _ _ _).mono ?_
  rintro e w' ⟨rfl, rfl⟩
  go_wp2_with fail
  refine (expect_any b whole r _ _ HR.out).mono ?_
  rintro e w1 ⟨rfl, hr1, hg1⟩
  have h3 := hr1.cell.2.1
  have h4 := hr1.free 1
  have HR1 := Lib.hid hr1; clear hr1
  have HG1 := Lib.hid hg1; clear hg1
  go_wp2_with fail
  go_end0
  exact ⟨rfl, HR1.out.setRest _, grown_trans HG1.out (grown_set _ _ _ _)⟩

set_option maxRecDepth 100000 in
set_option maxHeartbeats 1000000 in
theorem run_any (f : FuncId) (p : UInt8 → Bool) (he : ∀ args w, (callFunc f args).run Tryd.prog w = .ok (.enter f args) w) (hf : ∀ (c : UInt8) (w : World), Calls Tryd.prog f #[.int .u8 (c.toNat : Int)] w fun e w' => e = .returned (.bool (p c)) ∧ w = w')
    (h : Rd w b whole r) (hlen : r.rest.length ≤ 281474976710656) :
    Calls Tryd.prog 24 #[.pointer (some ⟨b, 0, none⟩), .func (.func f) #[] #[]] w fun e w' => e = .returned (.string (bs (r.got p))) ∧ Rd w' b whole (r.skip p) ∧ w.grownBy w' (some b) := by
  have HF := Lib.hid hf; clear hf
  have h1 := h.cell.2.1
  have hf1 := h.free 1
  have hb := h.lt
  obtain ⟨s, hse, hsl⟩ : ∃ s : ByteArray, s = bs r.rest ∧ s.data.toList = r.rest := ⟨_, rfl, bs_data _⟩
  rw [← hse] at h1
  have hs : s.size ≤ 281474976710656 := by rw [size_len, hsl]; exact hlen
  have HR := Lib.hid h; clear h
  have HL := Lib.hid hsl; clear hsl hse hlen
  go_enter Tryd.func24, Tryd.ntmps24
  go_wp2_with fail
  go_loop [5] (fun i => ∃ k : Nat, k ≤ s.size ∧ i = .int .i64 k ∧ Hid ((s.data.toList.take k).all p = true)) (fun i => s.size - (intOf i).toNat)
  case atStart => exact ⟨0, Nat.zero_le _, rfl, rfl⟩
  case round =>
    obtain ⟨k, hk, rfl, HT⟩ := hrel
    by_cases hlt : k < s.size
    · cases hp : p s[k]
      · have HC := Lib.hid (take_end s p k (by omega) HT.out (.inr ⟨hlt, hp⟩))
        have HP := Lib.hid hp; clear hp
        go_wp2_with (go_at_fn f; refine (HF.out _ _).mono ?_; rw [HP.out]; rintro e w' ⟨rfl, rfl⟩)
        refine (clone_any _ _ (by simp; omega)).mono ?_
        rintro e w1 ⟨rfl, hb1⟩
        have h2 : w1.cell? ⟨b, 1, none⟩ = some (.string s) := (hb1.cell (p := ⟨b, 1, none⟩) hb).trans h1
        have hf2 : w1.frozen? ⟨b, 1, none⟩ = false := (hb1.frozen (p := ⟨b, 1, none⟩) hb).trans hf1
        have HB := Lib.hid hb1; clear hb1 h1 hf1
        go_wp2_with fail
        go_ret
        refine ⟨ret_str (bs_of ?_), ?_, grown_trans (grown_below HB.out _) (grown_set _ _ _ _)⟩
        · rw [Lib.extract_from_zero]; exact (congrArg (List.takeWhile p) HL.out).symm.trans HC.out.1 |>.symm
        · have h3 := (HR.out.keep (HB.out.block b hb)).setRest (r.skip p).rest
          rwa [show bs (r.skip p).rest = s.extract k s.size from (bs_of (by rw [Lib.extract_to_end]; exact (HC.out.2.symm.trans (congrArg (List.dropWhile p) HL.out)))).symm] at h3
      · have HP := Lib.hid hp; clear hp
        go_wp2_with (go_at_fn f; refine (HF.out _ _).mono ?_; rw [HP.out]; rintro e w' ⟨rfl, rfl⟩)
        go_round
        case rel => exact ⟨k + 1, by omega, by go_num, all_snoc s p k hlt HT.out HP.out⟩
        case measure => simp [intOf]; omega
    · have HC := Lib.hid (take_end s p k (by omega) HT.out (.inl hlt))
      go_wp2_with fail
      refine (clone_any _ _ (by simp; omega)).mono ?_
      rintro e w1 ⟨rfl, hb1⟩
      have h2 : w1.cell? ⟨b, 1, none⟩ = some (.string s) := (hb1.cell (p := ⟨b, 1, none⟩) hb).trans h1
      have hf2 : w1.frozen? ⟨b, 1, none⟩ = false := (hb1.frozen (p := ⟨b, 1, none⟩) hb).trans hf1
      have HB := Lib.hid hb1; clear hb1 h1 hf1
      go_wp2_with fail
      go_ret
      refine ⟨ret_str (bs_of ?_), ?_, grown_trans (grown_below HB.out _) (grown_set _ _ _ _)⟩
      · rw [Lib.extract_from_zero]; exact (congrArg (List.takeWhile p) HL.out).symm.trans HC.out.1 |>.symm
      · have h3 := (HR.out.keep (HB.out.block b hb)).setRest (r.skip p).rest
        rwa [show bs (r.skip p).rest = s.extract k s.size from (bs_of (by rw [Lib.extract_to_end]; exact (HC.out.2.symm.trans (congrArg (List.dropWhile p) HL.out)))).symm] at h3

theorem eDigit : ∀ args w, (callFunc 50 args).run Tryd.prog w = .ok (.enter 50 args) w := enters_of Tryd.func50 (by kernel_rfl) rfl
theorem eVisible : ∀ args w, (callFunc 25 args).run Tryd.prog w = .ok (.enter 25 args) w := enters_of Tryd.func25 (by kernel_rfl) rfl
theorem eReason : ∀ args w, (callFunc 37 args).run Tryd.prog w = .ok (.enter 37 args) w := enters_of Tryd.func37 (by kernel_rfl) rfl
theorem runDigit (h : Rd w b whole r) (hlen : r.rest.length ≤ 281474976710656) :
    Calls Tryd.prog 24 #[.pointer (some ⟨b, 0, none⟩), .func (.func 50) #[] #[]] w fun e w' => e = .returned (.string (bs (r.got digB))) ∧ Rd w' b whole (r.skip digB) ∧ w.grownBy w' (some b) :=
  run_any b whole r w _ digB eDigit (fun _ w => digit_any _ w) h hlen
theorem runVisible (h : Rd w b whole r) (hlen : r.rest.length ≤ 281474976710656) :
    Calls Tryd.prog 24 #[.pointer (some ⟨b, 0, none⟩), .func (.func 25) #[] #[]] w fun e w' => e = .returned (.string (bs (r.got visB))) ∧ Rd w' b whole (r.skip visB) ∧ w.grownBy w' (some b) :=
  run_any b whole r w _ visB eVisible (fun _ w => visible_any _ w) h hlen
theorem runReason (h : Rd w b whole r) (hlen : r.rest.length ≤ 281474976710656) :
    Calls Tryd.prog 24 #[.pointer (some ⟨b, 0, none⟩), .func (.func 37) #[] #[]] w fun e w' => e = .returned (.string (bs (r.got mayB))) ∧ Rd w' b whole (r.skip mayB) ∧ w.grownBy w' (some b) :=
  run_any b whole r w _ mayB eReason (fun _ w => reason_any _ w) h hlen
theorem Env.rd {w' : World} (he : Env w) (h : Rd w b whole r) (hg : w.grownBy w' (some b)) : Env w' := by
  obtain ⟨h1, ⟨t2, p2, h2⟩, ⟨t3, p3, h3⟩⟩ := he
  have key : ∀ (n : String) (cs : Array Value) (g : Nat), w.var? Tryd.prog n = some cs → Tryd.prog.globalNamed n = some g → cs.size ≠ 4 → g ≠ b := by
    rintro n cs g hv hgn hs rfl
    unfold World.var? at hv
    rw [hgn] at hv
    simp only [Option.bind_some] at hv
    unfold Rd at h
    rw [h] at hv
    exact hs (by rw [← Option.some.inj hv]; rfl)
  have low : ∀ (n : String) (cs : Array Value), w.var? Tryd.prog n = some cs → cs.size ≠ 4 → w'.var? Tryd.prog n = some cs := fun n cs hv hs =>
    var_keep hv fun g hgn hl => hg.block g hl (by simpa using key n cs g hv hgn hs)
  refine ⟨?_, ⟨t2, p2, low _ _ h2 (by simp)⟩, ⟨t3, p3, low _ _ h3 (by simp)⟩⟩
  unfold Lib.TabIs at *
  exact low _ _ h1 (by simp [Lib.pow10Tab])

set_option maxRecDepth 100000 in
set_option maxHeartbeats 400000 in
theorem number_any (k : Int) (he : Env w) (h : Rd w b whole r) (hlen : r.rest.length ≤ 281474976710656) :
    Calls Tryd.prog 35 #[.pointer (some ⟨b, 0, none⟩), .int .i64 k] w fun e w' => e = .returned (.int .i64 r.numV) ∧ Rd w' b whole (r.num k) ∧ w.grownBy w' (some b) := by
  have hgl : (r.got digB).length ≤ 281474976710656 := Nat.le_trans (List.takeWhile_sublist _).length_le hlen
  have HE := Lib.hid he; clear he
  have HR := Lib.hid h; clear h
  go_enter Tryd.func35, Tryd.ntmps35
  go_wp2_with fail
  refine (runDigit b whole r _ HR.out hlen).mono ?_
  rintro e w1 ⟨rfl, hr1, hg1⟩
  have HR1 := Lib.hid hr1; clear hr1
  have HG1 := Lib.hid hg1; clear hg1
  go_wp2_with fail
  refine (expect_any b whole (r.skip digB) _ _ HR1.out).mono ?_
  rintro e w2 ⟨rfl, hr2, hg2⟩
  have HR2 := Lib.hid hr2; clear hr2
  have HG2 := Lib.hid hg2; clear hg2
  have HE2 : Hid (Env w2) := (HE.out.rd _ _ _ _ HR.out HG1.out).rd _ _ _ _ HR1.out HG2.out
  go_wp2_with fail
  refine (atoi_any _ _ (by rw [bs_size]; exact hgl) HE2.out).mono ?_
  rintro e w3 ⟨v, rfl, hb3⟩
  go_wp2_with fail
  go_ret
  refine ⟨rfl, ?_, grown_trans (grown_trans HG1.out HG2.out) (grown_below hb3 _)⟩
  have h4 := HR2.out.keep (hb3.block b HR2.out.lt)
  simpa [Rs.num] using h4

theorem Rs.fixed_le (p : List UInt8) : (r.fixed p).rest.length ≤ r.rest.length := by
  unfold Rs.fixed Lib.trimPrefix; simp only; split
  · simp
  · exact Nat.le_refl _
theorem Rs.skip_le (p : UInt8 → Bool) : (r.skip p).rest.length ≤ r.rest.length := dropWhile_le _ _
theorem Rs.num_le (k : Int) : (r.num k).rest.length ≤ r.rest.length := dropWhile_le _ _
theorem Rs.ver3_le : r.ver3.rest.length ≤ r.rest.length := by
  unfold Rs.ver3
  exact Nat.le_trans (Rs.fixed_le _ _) (Nat.le_trans (Rs.num_le (r.fixed httpL) 1) (Rs.fixed_le _ _))
theorem Rs.ver_le : r.ver.rest.length ≤ r.rest.length := Nat.le_trans (Rs.num_le r.ver3 1) (Rs.ver3_le r)
theorem Rs.expect_le (x : Bool) : (r.expect x).rest.length ≤ r.rest.length := Nat.le_refl _

set_option maxRecDepth 100000 in
set_option maxHeartbeats 400000 in
theorem version_any (he : Env w) (h : Rd w b whole r) (hlen : r.rest.length ≤ 281474976710656) :
    Calls Tryd.prog 29 #[.pointer (some ⟨b, 0, none⟩)] w fun e w' => e = .returned (.int .i64 r.verV) ∧ Rd w' b whole r.ver ∧ w.grownBy w' (some b) := by
  have l1 := Nat.le_trans (Rs.fixed_le r httpL) hlen
  have l3 := Nat.le_trans (Rs.ver3_le r) hlen
  have HE := Lib.hid he; clear he
  have HR := Lib.hid h; clear h
  go_enter Tryd.func29, Tryd.ntmps29
  go_wp2_with fail
  refine (fixed_any b whole r _ _ HR.out).mono ?_
  rintro e w1 ⟨rfl, hr1, hg1⟩
  have HR1 : Hid (Rd w1 b whole (r.fixed httpL)) := hr1
  clear hr1
  have HG1 := Lib.hid hg1; clear hg1
  have HE1 : Hid (Env w1) := HE.out.rd _ _ _ _ HR.out HG1.out
  go_wp2_with fail
  refine (number_any b whole (r.fixed httpL) _ 1 HE1.out HR1.out l1).mono ?_
  rintro e w2 ⟨rfl, hr2, hg2⟩
  have HG2 := Lib.hid hg2; clear hg2
  have HE2 : Hid (Env w2) := HE1.out.rd _ _ _ _ HR1.out HG2.out
  have h3 := hr2.cell.2.2.2
  have h4 := hr2.free 3
  have HR2 := Lib.hid hr2; clear hr2
  go_wp2_with fail
  have HR3 : Hid (Rd (w2.setCell ⟨b, 3, none⟩ (.int .i64 (r.fixed httpL).numV)) b whole (((r.fixed httpL).num 1).setMajor (r.fixed httpL).numV)) := HR2.out.setMajor _
  have HE3 : Hid (Env (w2.setCell ⟨b, 3, none⟩ (.int .i64 (r.fixed httpL).numV))) := HE2.out.rd _ _ _ _ HR2.out (grown_set _ _ _ _)
  refine (fixed_any b whole _ _ _ HR3.out).mono ?_
  rintro e w4 ⟨rfl, hr4, hg4⟩
  have HR4 : Hid (Rd w4 b whole r.ver3) := hr4
  clear hr4
  have HG4 := Lib.hid hg4; clear hg4
  have HE4 : Hid (Env w4) := HE3.out.rd _ _ _ _ HR3.out HG4.out
  go_wp2_with fail
  refine (number_any b whole r.ver3 _ 1 HE4.out HR4.out l3).mono ?_
  rintro e w5 ⟨rfl, hr5, hg5⟩
  have HR5 := Lib.hid hr5; clear hr5
  have HG5 := Lib.hid hg5; clear hg5
  go_wp2_with fail
  go_ret
  exact ⟨rfl, HR5.out, grown_trans (grown_trans (grown_trans (grown_trans HG1.out HG2.out) (grown_set _ _ _ _)) HG4.out) HG5.out⟩

set_option maxRecDepth 100000 in
set_option maxHeartbeats 400000 in
theorem fault_any (h : Rd w b whole r) (hw : whole.length ≤ 281474976710656) :
    Calls Tryd.prog 23 #[.pointer (some ⟨b, 0, none⟩)] w fun e w' => e = .returned (.int .i64 (r.fault whole)) ∧ w = w' := by
  obtain ⟨h0, h1, h2, h3⟩ := h.cell
  have hs : (bs whole).size ≤ 281474976710656 := by rw [bs_size]; exact hw
  have HF : Hid (∀ n : Int, n = r.fault whole → Ending.returned (.int .i64 n) = .returned (.int .i64 (r.fault whole))) := fun n hn => by rw [hn]
  clear h
  by_cases g0 : 2048 < whole.length
  · have hd : decide (2048 < whole.length) = true := by simpa using g0
    have hf : 3 = r.fault whole := by unfold Rs.fault; rw [if_pos g0]
    have HH := Lib.hid hf; clear hf h1 h2 h3
    go_enter Tryd.func23, Tryd.ntmps23
    go_wp2
    go_ret
    exact ⟨HF.out _ HH.out, rfl⟩
  · cases g1 : r.amiss
    · rw [g1] at h2
      cases g2 : r.rest.isEmpty
      · have hf : 4 = r.fault whole := by unfold Rs.fault; rw [if_neg g0, g1, g2]; rfl
        have HH := Lib.hid hf; clear hf h3 g1
        have g3 : (bs r.rest).toList.isEmpty = false := by rw [Lib.toList_data, bs_data, g2]
        clear g2
        go_enter Tryd.func23, Tryd.ntmps23
        go_wp2
        go_ret
        exact ⟨HF.out _ HH.out, rfl⟩
      · by_cases g4 : r.major = 1
        · have hf : 0 = r.fault whole := by unfold Rs.fault; rw [if_neg g0, g1, g2, if_pos g4]; rfl
          have HH := Lib.hid hf; clear hf g1
          have g3 : (bs r.rest).toList.isEmpty = true := by rw [Lib.toList_data, bs_data, g2]
          rw [g4] at h3
          clear g2 g4
          go_enter Tryd.func23, Tryd.ntmps23
          go_wp2
          go_ret
          exact ⟨HF.out _ HH.out, rfl⟩
        · have hf : 9 = r.fault whole := by unfold Rs.fault; rw [if_neg g0, g1, g2, if_neg g4]; rfl
          have HH := Lib.hid hf; clear hf g1
          have g3 : (bs r.rest).toList.isEmpty = true := by rw [Lib.toList_data, bs_data, g2]
          have g5 : (r.major != 1) = true := by simpa using g4
          clear g2
          go_enter Tryd.func23, Tryd.ntmps23
          go_wp2
          go_ret
          exact ⟨HF.out _ HH.out, rfl⟩
    · rw [g1] at h2
      have hf : 4 = r.fault whole := by unfold Rs.fault; rw [if_neg g0, g1]; rfl
      have HH := Lib.hid hf; clear hf h3 g1
      go_enter Tryd.func23, Tryd.ntmps23
      go_wp2
      go_ret
      exact ⟨HF.out _ HH.out, rfl⟩
end
end Go.Proofs.YtinfflceglgneaaDoor
