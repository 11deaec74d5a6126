/- What the lines' small functions answer; a reader's struct in memory, and its steps that change it. -/
import Derived.Test.YtgkjjmcjlobbpaaGreatDoorKBytes
import Derived.Test.YtgkjjmcjlobbpaaGreatDoorKPlain
import Derived.Deep.QuietTactic
import Derived.BigQuiet
import Derived.Outline
import Derived.Test.YtgkjjmcjlobbpaaGreatDoorShelf
import Derived.LaidSub
import Derived.MakeChecks
import Derived.Lib.AppendIntMem
import Derived.Lib.AtoiErrMem
import Derived.Stop.LaidErr
import Derived.Shelf.Abstract
namespace Go.Proofs.YtgkjjmcjlobbpaaGreatDoor
open Go.RowKit

set_option maxRecDepth 100000 in
set_option maxHeartbeats 400000 in
theorem visible_any (n : Int) (w : World) :
    Calls Tryz.prog 75 #[.int .u8 n] w fun e w' => e = .returned (.bool (visI n)) ∧ w = w' := by
  go_enter Tryz.func75, Tryz.ntmps75
  go_wp2
  all_goals go_ret
  all_goals refine ⟨ret_bool ?_, rfl⟩
  all_goals rw [Bool.eq_iff_iff]
  all_goals simp_all [visI]
  all_goals omega

set_option maxRecDepth 100000 in
set_option maxHeartbeats 400000 in
theorem digit_any (n : Int) (w : World) :
    Calls Tryz.prog 155 #[.int .u8 n] w fun e w' => e = .returned (.bool (digI n)) ∧ w = w' := by
  go_enter Tryz.func155, Tryz.ntmps155
  go_wp2
  all_goals go_ret
  all_goals refine ⟨ret_bool ?_, rfl⟩
  all_goals rw [Bool.eq_iff_iff]
  all_goals simp_all [digI]
  all_goals omega

set_option maxRecDepth 100000 in
set_option maxHeartbeats 400000 in
theorem reason_any (n : Int) (w : World) :
    Calls Tryz.prog 87 #[.int .u8 n] w fun e w' => e = .returned (.bool (mayI n)) ∧ w = w' := by
  go_enter Tryz.func87, Tryz.ntmps87
  go_wp2
  all_goals go_ret
  all_goals refine ⟨ret_bool ?_, rfl⟩
  all_goals rw [Bool.eq_iff_iff]
  all_goals simp_all [mayI]
  all_goals omega

set_option maxRecDepth 100000 in
set_option maxHeartbeats 400000 in
theorem rdigit_any (n : Int) (w : World) :
    Calls Tryz.prog 71 #[.int .u8 n] w fun e w' => e = .returned (.bool (digI n)) ∧ w = w' := by
  go_enter Tryz.func71, Tryz.ntmps71
  go_wp2
  all_goals go_ret
  all_goals refine ⟨ret_bool ?_, rfl⟩
  all_goals rw [Bool.eq_iff_iff]
  all_goals simp_all [digI]
  all_goals omega

set_option maxRecDepth 100000 in
set_option maxHeartbeats 400000 in
theorem validStatus_any (n : Int) (w : World) :
    Calls Tryz.prog 86 #[.int .i64 n] w fun e w' => e = .returned (.bool (validS n)) ∧ w = w' := by
  go_enter Tryz.func86, Tryz.ntmps86
  go_wp2
  all_goals go_ret
  all_goals refine ⟨ret_bool ?_, rfl⟩
  all_goals rw [Bool.eq_iff_iff]
  all_goals simp_all [validS]
  all_goals omega


set_option maxRecDepth 100000 in
set_option maxHeartbeats 400000 in
theorem validMinor_any (n : Int) (w : World) :
    Calls Tryz.prog 76 #[.int .i64 n] w fun e w' => e = .returned (.bool (validM n)) ∧ w = w' := by
  go_enter Tryz.func76, Tryz.ntmps76
  go_wp2
  all_goals go_ret
  all_goals refine ⟨ret_bool ?_, rfl⟩
  all_goals rw [Bool.eq_iff_iff]
  all_goals simp_all [validM]

/-- block b holds a reader -/
def Rd (w : World) (b : Nat) (whole : List UInt8) (r : Rs) : Prop :=
  w.heap[b]? = some (.cells #[.string (bs whole), .string (bs r.rest), .bool r.amiss, .int .i64 r.major] 184 (0, 0))
theorem Rd.lt {w : World} {b : Nat} {whole : List UInt8} {r : Rs} (h : Rd w b whole r) : b < w.heap.size := lt_of_block h
theorem Rd.cell {w : World} {b : Nat} {whole : List UInt8} {r : Rs} (h : Rd w b whole r) :
    w.cell? ⟨b, 0, none⟩ = some (.string (bs whole)) ∧ w.cell? ⟨b, 1, none⟩ = some (.string (bs r.rest)) ∧ w.cell? ⟨b, 2, none⟩ = some (.bool r.amiss) ∧ w.cell? ⟨b, 3, none⟩ = some (.int .i64 r.major) := by
  unfold Rd at h
  refine ⟨?_, ?_, ?_, ?_⟩ <;> · rw [World.cell?, h]; rfl
theorem Rd.free {w : World} {b : Nat} {whole : List UInt8} {r : Rs} (h : Rd w b whole r) (j : Nat) : w.frozen? ⟨b, j, none⟩ = false := by
  unfold Rd at h
  rw [World.frozen?, h]; simp
theorem Rd.keep {w w' : World} {b : Nat} {whole : List UInt8} {r : Rs} (h : Rd w b whole r) (hk : w'.heap[b]? = w.heap[b]?) : Rd w' b whole r := hk.trans h
theorem Rd.setRest {w : World} {b : Nat} {whole : List UInt8} {r : Rs} (h : Rd w b whole r) (l : List UInt8) : Rd (w.setCell ⟨b, 1, none⟩ (.string (bs l))) b whole ⟨l, r.amiss, r.major⟩ := by
  unfold Rd at h ⊢
  rw [Lib.heap_setCell_same h]; rfl
theorem Rd.setAmiss {w : World} {b : Nat} {whole : List UInt8} {r : Rs} (h : Rd w b whole r) (x : Bool) : Rd (w.setCell ⟨b, 2, none⟩ (.bool x)) b whole ⟨r.rest, x, r.major⟩ := by
  unfold Rd at h ⊢
  rw [Lib.heap_setCell_same h]; rfl
theorem Rd.setMajor {w : World} {b : Nat} {whole : List UInt8} {r : Rs} (h : Rd w b whole r) (n : Int) : Rd (w.setCell ⟨b, 3, none⟩ (.int .i64 n)) b whole ⟨r.rest, r.amiss, n⟩ := by
  unfold Rd at h ⊢
  rw [Lib.heap_setCell_same h]; rfl
theorem grown_set (w : World) (b j : Nat) (v : Value) : w.grownBy (w.setCell ⟨b, j, none⟩ v) (some b) :=
  ⟨rfl, rfl, rfl, by simp [World.setCell], fun k _ hk => Below.heap_setCell _ _ _ _ (by simpa using hk)⟩
theorem grown_refl (w : World) (r : Option Nat) : w.grownBy w r := ⟨rfl, rfl, rfl, Nat.le_refl _, fun _ _ _ => rfl⟩
theorem grown_trans {a b c : World} {r : Option Nat} (h : a.grownBy b r) (k : b.grownBy c r) : a.grownBy c r :=
  ⟨k.os.trans h.os, k.tape.trans h.tape, k.output.trans h.output, Nat.le_trans h.size k.size, fun i hi hr => (k.block i (Nat.lt_of_lt_of_le hi h.size) hr).trans (h.block i hi hr)⟩
theorem grown_below {a b : World} (h : Below a.heap.size a b) (r : Option Nat) : a.grownBy b r := ⟨h.os, h.tape, h.output, h.size, fun k hk _ => h.block k hk⟩

set_option maxRecDepth 100000 in
set_option maxHeartbeats 400000 in
theorem begin_any (s : ByteArray) (w : World) :
    Calls Tryz.prog 102 #[.string s] w fun e w' => e = .returned (.pointer (some ⟨w.heap.size, 0, none⟩)) ∧ Rd w' w.heap.size s.data.toList (rs0 s.data.toList) ∧ w.grownBy w' none := by
  go_enter Tryz.func102, Tryz.ntmps102
  go_wp2
  go_ret
  exact ⟨rfl, heap_alloc_new w _, World.grownBy_alloc _ _ _⟩

set_option maxRecDepth 100000 in
set_option maxHeartbeats 400000 in
theorem begin_eq (s : ByteArray) (w : World) :
    Calls Tryz.prog 102 #[.string s] w fun e w' => e = .returned (.pointer (some ⟨w.heap.size, 0, none⟩)) ∧ w' = w.alloc (.cells #[.string s, .string s, .bool false, .int .i64 0] 184) := by
  go_enter Tryz.func102, Tryz.ntmps102
  go_wp2
  go_ret
  exact ⟨rfl, rfl⟩

section
variable (b : Nat) (whole : List UInt8) (r : Rs) (w : World)
set_option maxRecDepth 100000 in
set_option maxHeartbeats 400000 in
theorem expect_any (ok : Bool) (h : Rd w b whole r) :
    Calls Tryz.prog 106 #[.pointer (some ⟨b, 0, none⟩), .bool ok] w fun e w' => e = .returned (.tuple #[]) ∧ Rd w' b whole (r.expect ok) ∧ w.grownBy w' (some b) := by
  have h1 := h.cell.2.2.1
  have h2 := h.free 2
  have h3 := h.cell.2.2.1
  have HR : Hid (∀ x, Rd (w.setCell ⟨b, 2, none⟩ (.bool x)) b whole ⟨r.rest, x, r.major⟩) := h.setAmiss
  clear h
  cases hx : r.amiss
  · rw [hx] at h1
    have HX := Lib.hid hx; clear hx h3
    go_enter Tryz.func106, Tryz.ntmps106
    go_wp2
    go_end0
    exact ⟨rfl, by have := HR.out (!ok); unfold Rs.expect; rw [HX.out, Bool.false_or]; exact this, grown_set _ _ _ _⟩
  · rw [hx] at h1
    have HX := Lib.hid hx; clear hx h3
    go_enter Tryz.func106, Tryz.ntmps106
    go_wp2
    go_end0
    exact ⟨rfl, by have := HR.out true; unfold Rs.expect; rw [HX.out, Bool.true_or]; exact this, grown_set _ _ _ _⟩
end
end Go.Proofs.YtgkjjmcjlobbpaaGreatDoor

/- What the walks ask of Go's library: its table of powers of ten stands as it was laid, two of its errors hold something; from what a row lists to that; numbers as texts and back. -/
namespace Go.Proofs.YtgkjjmcjlobbpaaGreatDoor
open Go.RowKit
def Env (w : World) : Prop := Lib.TabIs Tryz.prog w "internal/strconv.uint64pow10" .u64 Lib.pow10Tab ∧ Sen w "strconv.ErrSyntax" ∧ Sen w "strconv.ErrRange"
theorem gTab : Tryz.prog.globalNamed "internal/strconv.uint64pow10" = some 3 := by kernel_rfl
theorem gTabType : (Tryz.prog.globals[3]?).map (·.type) = some 243 := by kernel_rfl
theorem cellsTab : Tryz.prog.cellsOf 243 = 20 := by kernel_rfl
theorem cellsU64 : Tryz.prog.cellsOf 149 = 1 := by kernel_rfl
theorem env_of {W : World} {l : List (String × DataW Unit)} (h : laidMetH Tryz.prog l W)
    (hf : (l.filter (fun x => x.1 == "internal/strconv.uint64pow10"), l.filter (fun x => x.1 == "strconv.ErrSyntax"), l.filter (fun x => x.1 == "strconv.ErrRange")) =
      ([("internal/strconv.uint64pow10", Lib.tabData .u64 Lib.pow10Tab)], [("strconv.ErrSyntax", senData [105, 110, 118, 97, 108, 105, 100, 32, 115, 121, 110, 116, 97, 120])], [("strconv.ErrRange", senData [118, 97, 108, 117, 101, 32, 111, 117, 116, 32, 111, 102, 32, 114, 97, 110, 103, 101])])) : Env W := by
  obtain ⟨f1, f23⟩ := Prod.mk.inj hf
  obtain ⟨f2, f3⟩ := Prod.mk.inj f23
  have h1 := laidMetH.filter (fun x => x.1 == "internal/strconv.uint64pow10") h
  rw [f1, MakeChecks.laidMetH_plain _ _ _ (by rfl)] at h1
  have h2 := laidMetH.filter (fun x => x.1 == "strconv.ErrSyntax") h
  rw [f2, MakeChecks.laidMetH_plain _ _ _ (by rfl)] at h2
  have h3 := laidMetH.filter (fun x => x.1 == "strconv.ErrRange") h
  rw [f3, MakeChecks.laidMetH_plain _ _ _ (by rfl)] at h3
  unfold senData at h2 h3
  obtain ⟨a2, s2, v2, _, _, _⟩ := laid_sentinel h2 gES gESType Tryz.underlying104 rowES Tryz.underlying251 Tryz.underlying253 rfl rfl Tryz.underlying9 cellsES cellsStr
  obtain ⟨a3, s3, v3, _, _, _⟩ := laid_sentinel h3 gER gERType Tryz.underlying104 rowES Tryz.underlying251 Tryz.underlying253 rfl rfl Tryz.underlying9 cellsES cellsStr
  exact ⟨Lib.tabIs_of_head (rest := []) gTab gTabType Tryz.underlying243 Tryz.underlying149 cellsU64 cellsTab h1, ⟨_, _, v2⟩, ⟨_, _, v3⟩⟩

theorem Env.keep {w w' : World} (h : Env w) (hb : ∀ g, g < w.heap.size → g ≤ 64 → w'.heap[g]? = w.heap[g]?) : Env w' := by
  obtain ⟨h1, ⟨t2, p2, h2⟩, ⟨t3, p3, h3⟩⟩ := h
  refine ⟨?_, ⟨t2, p2, var_keep h2 fun g hg hl => hb g hl ?_⟩, ⟨t3, p3, var_keep h3 fun g hg hl => hb g hl ?_⟩⟩
  · unfold Lib.TabIs at *
    exact var_keep h1 fun g hg hl => hb g hl (by rw [gTab] at hg; cases hg; decide)
  · rw [gES] at hg; cases hg; decide
  · rw [gER] at hg; cases hg; decide
theorem Env.below {B : Nat} {w w' : World} (h : Env w) (hb : Below B w w') (hB : w.heap.size ≤ B) : Env w' := h.keep fun g hg _ => hb.block g (by omega)
theorem Env.alloc {w : World} (h : Env w) (o : Obj) : Env (w.alloc o) := h.below ((Below.refl w.heap.size _).alloc (Nat.le_refl _) _) (Nat.le_refl _)

theorem itoa_any (n : Int) (w : World) (h0 : -9223372036854775808 ≤ n) (h1 : n ≤ 9223372036854775807) (ht : Env w) :
    Calls Tryz.prog 78 #[.int .i64 n] w fun e w' => e = .returned (.string (bs (Lib.itoa n))) ∧ Below w.heap.size w w' := by
  refine (Tryz.strconv_Itoa n h0 h1 w ht.1).mono ?_
  rintro e w' ⟨rfl, k, os, rfl⟩
  exact ⟨rfl, Lib.below_grow _ w (Nat.le_refl _) k os⟩
theorem itoa_small (n : Int) (w : World) (h0 : 0 ≤ n) (h1 : n < 100) :
    Calls Tryz.prog 78 #[.int .i64 n] w fun e w' => e = .returned (.string (bs (Lib.decDigits n.toNat))) ∧ w = w' := by
  obtain ⟨k, rfl⟩ : ∃ k : Nat, n = k := ⟨n.toNat, by omega⟩
  refine (Tryz.strconv_Itoa_small k (by omega) w).mono ?_
  rintro e w' ⟨rfl, rfl⟩
  exact ⟨rfl, rfl⟩
/-- 'strconv.Atoi': the number, and some error or none. -/
theorem atoi_any (s : ByteArray) (w : World) (hlim : s.size ≤ 281474976710656) (ht : Env w) :
    Calls Tryz.prog 156 #[.string s] w fun e w' => ∃ v, e = .returned (.tuple #[.int .i64 (atoiV s.data.toList), v]) ∧ Below w.heap.size w w' := by
  obtain ⟨-, ⟨t2, p2, h2⟩, ⟨t3, p3, h3⟩⟩ := ht
  by_cases hr : Lib.atoiAll s.data.toList = .range
  · refine (Tryz.strconv_Atoi_range_var s hlim hr t3 p3 w h3).mono ?_
    rintro e w' ⟨N, rfl, -, -, hb⟩
    exact ⟨_, by unfold atoiV; rw [hr], hb⟩
  · by_cases hk : ∃ v, Lib.atoiAll s.data.toList = .ok v
    · obtain ⟨v, hv⟩ := hk
      refine (Tryz.strconv_Atoi_ok s (by omega) v hv w).mono ?_
      rintro e w' ⟨rfl, hw⟩
      refine ⟨_, by unfold atoiV; rw [hv], ?_⟩
      rcases hw with rfl | ⟨t, rfl⟩
      · exact Below.refl _ _
      · exact Lib.bytesWorld_below _ _ _
    · refine (Tryz.strconv_Atoi_bad_var s hlim (fun v hv => hk ⟨v, hv⟩) hr t2 p2 w h2).mono ?_
      rintro e w' ⟨N, rfl, -, -, hb⟩
      have hz : atoiV s.data.toList = 0 := by
        unfold atoiV
        split
        · rename_i v hv; exact absurd ⟨v, hv⟩ hk
        · rename_i hv; exact absurd hv hr
        · rfl
      exact ⟨_, by rw [hz], hb⟩
end Go.Proofs.YtgkjjmcjlobbpaaGreatDoor

/- The reader's steps: a fixed text, a run of bytes, a number, a version; what is amiss at the end. -/
namespace Go.Proofs.YtgkjjmcjlobbpaaGreatDoor
open Go.RowKit

section
variable (b : Nat) (whole : List UInt8) (r : Rs) (w : World)
set_option maxRecDepth 100000 in
set_option maxHeartbeats 400000 in
theorem fixed_any (p : ByteArray) (h : Rd w b whole r) :
    Calls Tryz.prog 107 #[.pointer (some ⟨b, 0, none⟩), .string p] w fun e w' => e = .returned (.tuple #[]) ∧ Rd w' b whole (r.fixed p.data.toList) ∧ w.grownBy w' (some b) := by
  have h1 := h.cell.2.1
  have HR := Lib.hid h; clear h
  go_enter Tryz.func107, Tryz.ntmps107
  go_wp2_with fail
  refine (Tryz.strings_CutPrefix _ _ _).mono ?_
  rintro e w' ⟨rfl, rfl⟩
  go_wp2_with fail
  refine (expect_any b whole r _ _ HR.out).mono ?_
  rintro e w1 ⟨rfl, hr1, hg1⟩
  have h3 := hr1.cell.2.1
  have h4 := hr1.free 1
  have HR1 := Lib.hid hr1; clear hr1
  have HG1 := Lib.hid hg1; clear hg1
  go_wp2_with fail
  go_end0
  exact ⟨rfl, HR1.out.setRest _, grown_trans HG1.out (grown_set _ _ _ _)⟩

set_option maxRecDepth 100000 in
set_option maxHeartbeats 1000000 in
theorem run_any (f : FuncId) (p : UInt8 → Bool) (he : ∀ args w, (callFunc f args).run Tryz.prog w = .ok (.enter f args) w) (hf : ∀ (c : UInt8) (w : World), Calls Tryz.prog f #[.int .u8 (c.toNat : Int)] w fun e w' => e = .returned (.bool (p c)) ∧ w = w')
    (h : Rd w b whole r) (hlen : r.rest.length ≤ 281474976710656) :
    Calls Tryz.prog 105 #[.pointer (some ⟨b, 0, none⟩), .func (.func f) #[] #[]] w fun e w' => e = .returned (.string (bs (r.got p))) ∧ Rd w' b whole (r.skip p) ∧ w.grownBy w' (some b) := by
  have HF := Lib.hid hf; clear hf
  have h1 := h.cell.2.1
  have hf1 := h.free 1
  have hb := h.lt
  obtain ⟨s, hse, hsl⟩ : ∃ s : ByteArray, s = bs r.rest ∧ s.data.toList = r.rest := ⟨_, rfl, bs_data _⟩
  rw [← hse] at h1
  have hs : s.size ≤ 281474976710656 := by rw [size_len, hsl]; exact hlen
  have HR := Lib.hid h; clear h
  have HL := Lib.hid hsl; clear hsl hse hlen
  go_enter Tryz.func105, Tryz.ntmps105
  go_wp2_with fail
  go_loop [5] (fun i => ∃ k : Nat, k ≤ s.size ∧ i = .int .i64 k ∧ Hid ((s.data.toList.take k).all p = true)) (fun i => s.size - (intOf i).toNat)
  case atStart => exact ⟨0, Nat.zero_le _, rfl, rfl⟩
  case round =>
    obtain ⟨k, hk, rfl, HT⟩ := hrel
    by_cases hlt : k < s.size
    · cases hp : p s[k]
      · have HC := Lib.hid (take_end s p k (by omega) HT.out (.inr ⟨hlt, hp⟩))
        have HP := Lib.hid hp; clear hp
        go_wp2_with (go_at_fn f; refine (HF.out _ _).mono ?_; rw [HP.out]; rintro e w' ⟨rfl, rfl⟩)
        refine (clone_any _ _ (by simp; omega)).mono ?_
        rintro e w1 ⟨rfl, hb1⟩
        have h2 : w1.cell? ⟨b, 1, none⟩ = some (.string s) := (hb1.cell (p := ⟨b, 1, none⟩) hb).trans h1
        have hf2 : w1.frozen? ⟨b, 1, none⟩ = false := (hb1.frozen (p := ⟨b, 1, none⟩) hb).trans hf1
        have HB := Lib.hid hb1; clear hb1 h1 hf1
        go_wp2_with fail
        go_ret
        refine ⟨ret_str (bs_of ?_), ?_, grown_trans (grown_below HB.out _) (grown_set _ _ _ _)⟩
        · rw [Lib.extract_from_zero]; exact (congrArg (List.takeWhile p) HL.out).symm.trans HC.out.1 |>.symm
        · have h3 := (HR.out.keep (HB.out.block b hb)).setRest (r.skip p).rest
          rwa [show bs (r.skip p).rest = s.extract k s.size from (bs_of (by rw [Lib.extract_to_end]; exact (HC.out.2.symm.trans (congrArg (List.dropWhile p) HL.out)))).symm] at h3
      · have HP := Lib.hid hp; clear hp
        go_wp2_with (go_at_fn f; refine (HF.out _ _).mono ?_; rw [HP.out]; rintro e w' ⟨rfl, rfl⟩)
        go_round
        case rel => exact ⟨k + 1, by omega, by go_num, all_snoc s p k hlt HT.out HP.out⟩
        case measure => simp [intOf]; omega
    · have HC := Lib.hid (take_end s p k (by omega) HT.out (.inl hlt))
      go_wp2_with fail
      refine (clone_any _ _ (by simp; omega)).mono ?_
      rintro e w1 ⟨rfl, hb1⟩
      have h2 : w1.cell? ⟨b, 1, none⟩ = some (.string s) := (hb1.cell (p := ⟨b, 1, none⟩) hb).trans h1
      have hf2 : w1.frozen? ⟨b, 1, none⟩ = false := (hb1.frozen (p := ⟨b, 1, none⟩) hb).trans hf1
      have HB := Lib.hid hb1; clear hb1 h1 hf1
      go_wp2_with fail
      go_ret
      refine ⟨ret_str (bs_of ?_), ?_, grown_trans (grown_below HB.out _) (grown_set _ _ _ _)⟩
      · rw [Lib.extract_from_zero]; exact (congrArg (List.takeWhile p) HL.out).symm.trans HC.out.1 |>.symm
      · have h3 := (HR.out.keep (HB.out.block b hb)).setRest (r.skip p).rest
        rwa [show bs (r.skip p).rest = s.extract k s.size from (bs_of (by rw [Lib.extract_to_end]; exact (HC.out.2.symm.trans (congrArg (List.dropWhile p) HL.out)))).symm] at h3

theorem eDigit : ∀ args w, (callFunc 155 args).run Tryz.prog w = .ok (.enter 155 args) w := enters_of Tryz.func155 (by kernel_rfl) rfl
theorem eVisible : ∀ args w, (callFunc 75 args).run Tryz.prog w = .ok (.enter 75 args) w := enters_of Tryz.func75 (by kernel_rfl) rfl
theorem eReason : ∀ args w, (callFunc 87 args).run Tryz.prog w = .ok (.enter 87 args) w := enters_of Tryz.func87 (by kernel_rfl) rfl
theorem runDigit (h : Rd w b whole r) (hlen : r.rest.length ≤ 281474976710656) :
    Calls Tryz.prog 105 #[.pointer (some ⟨b, 0, none⟩), .func (.func 155) #[] #[]] w fun e w' => e = .returned (.string (bs (r.got digB))) ∧ Rd w' b whole (r.skip digB) ∧ w.grownBy w' (some b) :=
  run_any b whole r w _ digB eDigit (fun _ w => digit_any _ w) h hlen
theorem runVisible (h : Rd w b whole r) (hlen : r.rest.length ≤ 281474976710656) :
    Calls Tryz.prog 105 #[.pointer (some ⟨b, 0, none⟩), .func (.func 75) #[] #[]] w fun e w' => e = .returned (.string (bs (r.got visB))) ∧ Rd w' b whole (r.skip visB) ∧ w.grownBy w' (some b) :=
  run_any b whole r w _ visB eVisible (fun _ w => visible_any _ w) h hlen
theorem runReason (h : Rd w b whole r) (hlen : r.rest.length ≤ 281474976710656) :
    Calls Tryz.prog 105 #[.pointer (some ⟨b, 0, none⟩), .func (.func 87) #[] #[]] w fun e w' => e = .returned (.string (bs (r.got mayB))) ∧ Rd w' b whole (r.skip mayB) ∧ w.grownBy w' (some b) :=
  run_any b whole r w _ mayB eReason (fun _ w => reason_any _ w) h hlen
theorem Env.rd {w' : World} (he : Env w) (h : Rd w b whole r) (hg : w.grownBy w' (some b)) : Env w' := by
  obtain ⟨h1, ⟨t2, p2, h2⟩, ⟨t3, p3, h3⟩⟩ := he
  have key : ∀ (n : String) (cs : Array Value) (g : Nat), w.var? Tryz.prog n = some cs → Tryz.prog.globalNamed n = some g → cs.size ≠ 4 → g ≠ b := by
    rintro n cs g hv hgn hs rfl
    unfold World.var? at hv
    rw [hgn] at hv
    simp only [Option.bind_some] at hv
    unfold Rd at h
    rw [h] at hv
    exact hs (by rw [← Option.some.inj hv]; rfl)
  have low : ∀ (n : String) (cs : Array Value), w.var? Tryz.prog n = some cs → cs.size ≠ 4 → w'.var? Tryz.prog n = some cs := fun n cs hv hs =>
    var_keep hv fun g hgn hl => hg.block g hl (by simpa using key n cs g hv hgn hs)
  refine ⟨?_, ⟨t2, p2, low _ _ h2 (by simp)⟩, ⟨t3, p3, low _ _ h3 (by simp)⟩⟩
  unfold Lib.TabIs at *
  exact low _ _ h1 (by simp [Lib.pow10Tab])

set_option maxRecDepth 100000 in
set_option maxHeartbeats 400000 in
theorem number_any (k : Int) (he : Env w) (h : Rd w b whole r) (hlen : r.rest.length ≤ 281474976710656) :
    Calls Tryz.prog 125 #[.pointer (some ⟨b, 0, none⟩), .int .i64 k] w fun e w' => e = .returned (.int .i64 r.numV) ∧ Rd w' b whole (r.num k) ∧ w.grownBy w' (some b) := by
  have hgl : (r.got digB).length ≤ 281474976710656 := Nat.le_trans (List.takeWhile_sublist _).length_le hlen
  have HE := Lib.hid he; clear he
  have HR := Lib.hid h; clear h
  go_enter Tryz.func125, Tryz.ntmps125
  go_wp2_with fail
  refine (runDigit b whole r _ HR.out hlen).mono ?_
  rintro e w1 ⟨rfl, hr1, hg1⟩
  have HR1 := Lib.hid hr1; clear hr1
  have HG1 := Lib.hid hg1; clear hg1
  go_wp2_with fail
  refine (expect_any b whole (r.skip digB) _ _ HR1.out).mono ?_
  rintro e w2 ⟨rfl, hr2, hg2⟩
  have HR2 := Lib.hid hr2; clear hr2
  have HG2 := Lib.hid hg2; clear hg2
  have HE2 : Hid (Env w2) := (HE.out.rd _ _ _ _ HR.out HG1.out).rd _ _ _ _ HR1.out HG2.out
  go_wp2_with fail
  refine (atoi_any _ _ (by rw [bs_size]; exact hgl) HE2.out).mono ?_
  rintro e w3 ⟨v, rfl, hb3⟩
  go_wp2_with fail
  go_ret
  refine ⟨rfl, ?_, grown_trans (grown_trans HG1.out HG2.out) (grown_below hb3 _)⟩
  have h4 := HR2.out.keep (hb3.block b HR2.out.lt)
  simpa [Rs.num] using h4

theorem Rs.fixed_le (p : List UInt8) : (r.fixed p).rest.length ≤ r.rest.length := by
  unfold Rs.fixed Lib.trimPrefix; simp only; split
  · simp
  · exact Nat.le_refl _
theorem Rs.skip_le (p : UInt8 → Bool) : (r.skip p).rest.length ≤ r.rest.length := dropWhile_le _ _
theorem Rs.num_le (k : Int) : (r.num k).rest.length ≤ r.rest.length := dropWhile_le _ _
theorem Rs.ver3_le : r.ver3.rest.length ≤ r.rest.length := by
  unfold Rs.ver3
  exact Nat.le_trans (Rs.fixed_le _ _) (Nat.le_trans (Rs.num_le (r.fixed httpL) 1) (Rs.fixed_le _ _))
theorem Rs.ver_le : r.ver.rest.length ≤ r.rest.length := Nat.le_trans (Rs.num_le r.ver3 1) (Rs.ver3_le r)
theorem Rs.expect_le (x : Bool) : (r.expect x).rest.length ≤ r.rest.length := Nat.le_refl _

set_option maxRecDepth 100000 in
set_option maxHeartbeats 400000 in
theorem version_any (he : Env w) (h : Rd w b whole r) (hlen : r.rest.length ≤ 281474976710656) :
    Calls Tryz.prog 108 #[.pointer (some ⟨b, 0, none⟩)] w fun e w' => e = .returned (.int .i64 r.verV) ∧ Rd w' b whole r.ver ∧ w.grownBy w' (some b) := by
  have l1 := Nat.le_trans (Rs.fixed_le r httpL) hlen
  have l3 := Nat.le_trans (Rs.ver3_le r) hlen
  have HE := Lib.hid he; clear he
  have HR := Lib.hid h; clear h
  go_enter Tryz.func108, Tryz.ntmps108
  go_wp2_with fail
  refine (fixed_any b whole r _ _ HR.out).mono ?_
  rintro e w1 ⟨rfl, hr1, hg1⟩
  have HR1 : Hid (Rd w1 b whole (r.fixed httpL)) := hr1
  clear hr1
  have HG1 := Lib.hid hg1; clear hg1
  have HE1 : Hid (Env w1) := HE.out.rd _ _ _ _ HR.out HG1.out
  go_wp2_with fail
  refine (number_any b whole (r.fixed httpL) _ 1 HE1.out HR1.out l1).mono ?_
  rintro e w2 ⟨rfl, hr2, hg2⟩
  have HG2 := Lib.hid hg2; clear hg2
  have HE2 : Hid (Env w2) := HE1.out.rd _ _ _ _ HR1.out HG2.out
  have h3 := hr2.cell.2.2.2
  have h4 := hr2.free 3
  have HR2 := Lib.hid hr2; clear hr2
  go_wp2_with fail
  have HR3 : Hid (Rd (w2.setCell ⟨b, 3, none⟩ (.int .i64 (r.fixed httpL).numV)) b whole (((r.fixed httpL).num 1).setMajor (r.fixed httpL).numV)) := HR2.out.setMajor _
  have HE3 : Hid (Env (w2.setCell ⟨b, 3, none⟩ (.int .i64 (r.fixed httpL).numV))) := HE2.out.rd _ _ _ _ HR2.out (grown_set _ _ _ _)
  refine (fixed_any b whole _ _ _ HR3.out).mono ?_
  rintro e w4 ⟨rfl, hr4, hg4⟩
  have HR4 : Hid (Rd w4 b whole r.ver3) := hr4
  clear hr4
  have HG4 := Lib.hid hg4; clear hg4
  have HE4 : Hid (Env w4) := HE3.out.rd _ _ _ _ HR3.out HG4.out
  go_wp2_with fail
  refine (number_any b whole r.ver3 _ 1 HE4.out HR4.out l3).mono ?_
  rintro e w5 ⟨rfl, hr5, hg5⟩
  have HR5 := Lib.hid hr5; clear hr5
  have HG5 := Lib.hid hg5; clear hg5
  go_wp2_with fail
  go_ret
  exact ⟨rfl, HR5.out, grown_trans (grown_trans (grown_trans (grown_trans HG1.out HG2.out) (grown_set _ _ _ _)) HG4.out) HG5.out⟩

set_option maxRecDepth 100000 in
set_option maxHeartbeats 400000 in
theorem fault_any (h : Rd w b whole r) (hw : whole.length ≤ 281474976710656) :
    Calls Tryz.prog 104 #[.pointer (some ⟨b, 0, none⟩)] w fun e w' => e = .returned (.int .i64 (r.fault whole)) ∧ w = w' := by
  obtain ⟨h0, h1, h2, h3⟩ := h.cell
  have hs : (bs whole).size ≤ 281474976710656 := by rw [bs_size]; exact hw
  have HF : Hid (∀ n : Int, n = r.fault whole → Ending.returned (.int .i64 n) = .returned (.int .i64 (r.fault whole))) := fun n hn => by rw [hn]
  clear h
  by_cases g0 : 2048 < whole.length
  · have hd : decide (2048 < whole.length) = true := by simpa using g0
    have hf : 3 = r.fault whole := by unfold Rs.fault; rw [if_pos g0]
    have HH := Lib.hid hf; clear hf h1 h2 h3
    go_enter Tryz.func104, Tryz.ntmps104
    go_wp2
    go_ret
    exact ⟨HF.out _ HH.out, rfl⟩
  · cases g1 : r.amiss
    · rw [g1] at h2
      cases g2 : r.rest.isEmpty
      · have hf : 4 = r.fault whole := by unfold Rs.fault; rw [if_neg g0, g1, g2]; rfl
        have HH := Lib.hid hf; clear hf h3 g1
        have g3 : (bs r.rest).toList.isEmpty = false := by rw [Lib.toList_data, bs_data, g2]
        clear g2
        go_enter Tryz.func104, Tryz.ntmps104
        go_wp2
        go_ret
        exact ⟨HF.out _ HH.out, rfl⟩
      · by_cases g4 : r.major = 1
        · have hf : 0 = r.fault whole := by unfold Rs.fault; rw [if_neg g0, g1, g2, if_pos g4]; rfl
          have HH := Lib.hid hf; clear hf g1
          have g3 : (bs r.rest).toList.isEmpty = true := by rw [Lib.toList_data, bs_data, g2]
          rw [g4] at h3
          clear g2 g4
          go_enter Tryz.func104, Tryz.ntmps104
          go_wp2
          go_ret
          exact ⟨HF.out _ HH.out, rfl⟩
        · have hf : 9 = r.fault whole := by unfold Rs.fault; rw [if_neg g0, g1, g2, if_neg g4]; rfl
          have HH := Lib.hid hf; clear hf g1
          have g3 : (bs r.rest).toList.isEmpty = true := by rw [Lib.toList_data, bs_data, g2]
          have g5 : (r.major != 1) = true := by simpa using g4
          clear g2
          go_enter Tryz.func104, Tryz.ntmps104
          go_wp2
          go_ret
          exact ⟨HF.out _ HH.out, rfl⟩
    · rw [g1] at h2
      have hf : 4 = r.fault whole := by unfold Rs.fault; rw [if_neg g0, g1]; rfl
      have HH := Lib.hid hf; clear hf h3 g1
      go_enter Tryz.func104, Tryz.ntmps104
      go_wp2
      go_ret
      exact ⟨HF.out _ HH.out, rfl⟩
end
end Go.Proofs.YtgkjjmcjlobbpaaGreatDoor

/- Lines that are put. -/
namespace Go.Proofs.YtgkjjmcjlobbpaaGreatDoor
open Go.RowKit

theorem drop_txt {p : UInt8 → Bool} {l : List UInt8} {x : Bool} (h : l.all p = x) : ((bs (l.dropWhile p)).toList.isEmpty) = x := by
  rw [Lib.toList_data, bs_data, drop_all, h]

section
variable (f : FuncId) (p : UInt8 → Bool) (he : ∀ args w, (callFunc f args).run Tryz.prog w = .ok (.enter f args) w) (hf : ∀ (c : UInt8) (w : World), Calls Tryz.prog f #[.int .u8 (c.toNat : Int)] w fun e w' => e = .returned (.bool (p c)) ∧ w = w')
include he hf
set_option maxRecDepth 100000 in
set_option maxHeartbeats 400000 in
theorem consists_any (s : ByteArray) (w : World) (hlen : s.size ≤ 281474976710656) :
    Calls Tryz.prog 74 #[.string s, .func (.func f) #[] #[]] w fun e w' => e = .returned (.bool (s.data.toList.all p)) ∧ Below w.heap.size w w' := by
  have HE := Lib.hid he; clear he
  have HF := Lib.hid hf; clear hf
  go_enter Tryz.func74, Tryz.ntmps74
  go_wp2_with fail
  refine (begin_any _ _).mono ?_
  rintro e w1 ⟨rfl, hr1, hg1⟩
  have HR1 := Lib.hid hr1; clear hr1
  have HG1 := Lib.hid hg1; clear hg1
  go_wp2_with fail
  refine (run_any _ _ _ _ f p HE.out HF.out HR1.out (by rw [size_len] at hlen; exact hlen)).mono ?_
  rintro e w2 ⟨rfl, hr2, hg2⟩
  have h2 := hr2.cell.2.1
  have HR2 := Lib.hid hr2; clear hr2
  have HG2 := Lib.hid hg2; clear hg2
  have HB : Hid (Below w.heap.size w w2) := ((Below.refl _ _).grown HG1.out (Nat.le_refl _) (by simp)).grown HG2.out HG1.out.size (by simp)
  cases hx : s.data.toList.all p
  · have h3 : (bs ((rs0 s.data.toList).skip p).rest).toList.isEmpty = false := drop_txt hx
    have HX := Lib.hid hx; clear hx
    go_wp2_with fail
    go_ret
    exact ⟨ret_bool HX.out.symm, HB.out⟩
  · have h3 : (bs ((rs0 s.data.toList).skip p).rest).toList.isEmpty = true := drop_txt hx
    have HX := Lib.hid hx; clear hx
    go_wp2_with fail
    go_ret
    exact ⟨ret_bool HX.out.symm, HB.out⟩
end

theorem consVisible (s : ByteArray) (w : World) (hlen : s.size ≤ 281474976710656) :
    Calls Tryz.prog 74 #[.string s, .func (.func 75) #[] #[]] w fun e w' => e = .returned (.bool (s.data.toList.all visB)) ∧ Below w.heap.size w w' :=
  consists_any _ visB eVisible (fun _ w => visible_any _ w) s w hlen
theorem consReason (s : ByteArray) (w : World) (hlen : s.size ≤ 281474976710656) :
    Calls Tryz.prog 74 #[.string s, .func (.func 87) #[] #[]] w fun e w' => e = .returned (.bool (s.data.toList.all mayB)) ∧ Below w.heap.size w w' :=
  consists_any _ mayB eReason (fun _ w => reason_any _ w) s w hlen

theorem itoa_bit (n : Int) (w : World) (h : n = 0 ∨ n = 1) :
    Calls Tryz.prog 78 #[.int .i64 n] w fun e w' => e = .returned (.string (bs [bitB n])) ∧ w = w' := by
  have d0 : Lib.decDigits 0 = [48] := by rw [Lib.decDigits]; rfl
  have d1 : Lib.decDigits 1 = [49] := by rw [Lib.decDigits]; rfl
  refine (itoa_small n w (by omega) (by omega)).mono ?_
  rintro e w' ⟨rfl, rfl⟩
  rcases h with rfl | rfl
  · exact ⟨by rw [show (0 : Int).toNat = 0 from rfl, d0]; rfl, rfl⟩
  · exact ⟨by rw [show (1 : Int).toNat = 1 from rfl, d1]; rfl, rfl⟩
set_option maxRecDepth 100000 in
set_option maxHeartbeats 400000 in
theorem versionOf_any (n : Int) (w : World) (h : validM n = true) :
    Calls Tryz.prog 77 #[.int .i64 n] w fun e w' => e = .returned (.string (bs (verN n))) ∧ w = w' := by
  unfold validM at h
  simp at h
  have H := Lib.hid h; clear h
  go_enter Tryz.func77, Tryz.ntmps77
  go_wp2_with fail
  refine (itoa_bit 1 _ (by omega)).mono ?_
  rintro e w' ⟨rfl, rfl⟩
  go_wp2_with fail
  refine (itoa_bit n _ H.out).mono ?_
  rintro e w' ⟨rfl, rfl⟩
  go_wp2_with fail
  go_ret
  exact ⟨rfl, rfl⟩

theorem bs_appL (a b : List UInt8) : bs a ++ bs b = bs (a ++ b) := by
  unfold bs
  apply ByteArray.ext
  rw [ByteArray.data_append]; simp

theorem verN_len (n : Int) : (verN n).length = 8 := rfl
theorem ret_put {a b : ByteArray} {x y : Int} (h : a = b) (k : x = y) : Ending.returned (.tuple #[.string a, .int .i64 x]) = .returned (.tuple #[.string b, .int .i64 y]) := by rw [h, k]
section
variable (m t : ByteArray) (n : Int) (w : World) (hm : m.size ≤ 1048576) (ht : t.size ≤ 1048576)
include hm ht
set_option maxRecDepth 100000 in
set_option maxHeartbeats 400000 in
theorem putRequest_bad (h : (token m.data.toList && target t.data.toList && validM n) = false) :
    Calls Tryz.prog 40 #[.string m, .string t, .int .i64 n] w fun e w' => e = .returned (.tuple #[.string ⟨#[]⟩, .int .i64 4]) ∧ Below w.heap.size w w' := by
  cases h1 : token m.data.toList
  · have H1 := Lib.hid h1; clear h1 h
    go_enter Tryz.func40, Tryz.ntmps40
    go_wp2_with fail
    refine (token_any m _ (by unfold maxLen; omega)).mono ?_
    rw [H1.out]
    rintro e w1 ⟨rfl, rfl⟩
    go_wp2_with fail
    go_ret2
    exact ⟨rfl, Below.refl _ _⟩
  · cases h2 : t.data.toList.isEmpty
    · have g2 : t.toList.isEmpty = false := by rw [Lib.toList_data, h2]
      cases h3 : t.data.toList.all visB
      · have H1 := Lib.hid h1
        have H3 := Lib.hid h3
        clear h1 h2 h3 h
        go_enter Tryz.func40, Tryz.ntmps40
        go_wp2_with fail
        refine (token_any m _ (by unfold maxLen; omega)).mono ?_
        rw [H1.out]
        rintro e w1 ⟨rfl, rfl⟩
        go_wp2_with fail
        refine (consVisible t _ (by omega)).mono ?_
        rw [H3.out]
        rintro e w2 ⟨rfl, hb2⟩
        go_wp2_with fail
        go_ret2
        exact ⟨rfl, hb2⟩
      · have h4 : validM n = false := by rw [h1] at h; unfold target at h; rw [h2, h3] at h; simpa using h
        have H1 := Lib.hid h1
        have H3 := Lib.hid h3
        have H4 := Lib.hid h4
        clear h1 h2 h3 h4 h
        go_enter Tryz.func40, Tryz.ntmps40
        go_wp2_with fail
        refine (token_any m _ (by unfold maxLen; omega)).mono ?_
        rw [H1.out]
        rintro e w1 ⟨rfl, rfl⟩
        go_wp2_with fail
        refine (consVisible t _ (by omega)).mono ?_
        rw [H3.out]
        rintro e w2 ⟨rfl, hb2⟩
        go_wp2_with fail
        refine (validMinor_any n _).mono ?_
        rw [H4.out]
        rintro e w3 ⟨rfl, rfl⟩
        go_wp2_with fail
        go_ret2
        exact ⟨rfl, hb2⟩
    · have g2 : t.toList.isEmpty = true := by rw [Lib.toList_data, h2]
      have H1 := Lib.hid h1
      clear h1 h2 h
      go_enter Tryz.func40, Tryz.ntmps40
      go_wp2_with fail
      refine (token_any m _ (by unfold maxLen; omega)).mono ?_
      rw [H1.out]
      rintro e w1 ⟨rfl, rfl⟩
      go_wp2_with fail
      go_ret2
      exact ⟨rfl, Below.refl _ _⟩

omit hm ht in
theorem line_txt : m ++ ⟨#[32]⟩ ++ t ++ ⟨#[32]⟩ ++ bs (verN n) = bs (reqLine m.data.toList t.data.toList n) := by
  unfold reqLine
  rw [← bs_appL, ← bs_appL, ← bs_appL, ← bs_appL]
  rfl
omit hm ht in
theorem reqLine_len : (reqLine m.data.toList t.data.toList n).length = m.size + 1 + t.size + 1 + 8 := by
  unfold reqLine; rw [size_len, size_len]; simp [verN_len]; omega
set_option maxRecDepth 100000 in
set_option maxHeartbeats 400000 in
theorem putRequest_good (h : (token m.data.toList && target t.data.toList && validM n) = true) :
    Calls Tryz.prog 40 #[.string m, .string t, .int .i64 n] w fun e w' => e = .returned (.tuple #[.string (bs (putRL m.data.toList t.data.toList n)), .int .i64 (putRQ m.data.toList t.data.toList n)]) ∧ Below w.heap.size w w' := by
  have HQ : Hid (putRQ m.data.toList t.data.toList n = if 1024 < t.data.toList.length ∨ 2048 < (reqLine m.data.toList t.data.toList n).length then 3 else 0) := by
    show putRQ _ _ _ = _
    unfold putRQ; rw [if_pos h]
  rw [Bool.and_eq_true, Bool.and_eq_true] at h
  obtain ⟨⟨h1, h2⟩, h3⟩ := h
  unfold target at h2
  rw [Bool.and_eq_true] at h2
  obtain ⟨h4, h5⟩ := h2
  have g2 : t.toList.isEmpty = false := by rw [Lib.toList_data]; simpa using h5
  have H1 := Lib.hid h1
  have H3 := Lib.hid h3
  have H4 := Lib.hid h4
  clear h1 h3 h4 h5
  go_enter Tryz.func40, Tryz.ntmps40
  go_wp2_with fail
  refine (token_any m _ (by unfold maxLen; omega)).mono ?_
  rw [H1.out]
  rintro e w1 ⟨rfl, rfl⟩
  go_wp2_with fail
  refine (consVisible t _ (by omega)).mono ?_
  rw [H4.out]
  rintro e w2 ⟨rfl, hb2⟩
  have HB := Lib.hid hb2; clear hb2
  go_wp2_with fail
  refine (validMinor_any n _).mono ?_
  rw [H3.out]
  rintro e w3 ⟨rfl, rfl⟩
  go_wp2_with fail
  refine (versionOf_any n _ H3.out).mono ?_
  rintro e w3 ⟨rfl, rfl⟩
  have hv := verN_len n
  have hl := Lib.hid (reqLine_len m t n)
  have hT := Lib.hid (size_len t)
  by_cases c1 : 1024 < t.size
  · have HQ1 : Hid (putRQ m.data.toList t.data.toList n = 3) := by show _ = _; rw [HQ.out, if_pos (.inl (by rw [← hT.out]; exact c1))]
    go_wp2_with fail
    go_ret2
    exact ⟨ret_put (by unfold putRL; rw [HQ1.out]; rfl) HQ1.out.symm, HB.out⟩
  · by_cases c2 : 2048 < m.size + 1 + t.size + 1 + 8
    · have HQ1 : Hid (putRQ m.data.toList t.data.toList n = 3) := by show _ = _; rw [HQ.out, if_pos (.inr (by rw [hl.out]; exact c2))]
      have c3 : (2048 : Int) < (m.size : Int) + 1 + t.size + 1 + 8 := by omega
      go_wp2_with fail
      go_ret2
      exact ⟨ret_put (by unfold putRL; rw [HQ1.out]; rfl) HQ1.out.symm, HB.out⟩
    · have HQ1 : Hid (putRQ m.data.toList t.data.toList n = 0) := by show _ = _; rw [HQ.out, if_neg (by rw [hl.out, ← hT.out]; omega)]
      have c3 : ¬ (2048 : Int) < (m.size : Int) + 1 + t.size + 1 + 8 := by omega
      go_wp2_with fail
      go_ret2
      exact ⟨ret_put (by unfold putRL; rw [HQ1.out]; exact line_txt m t n) HQ1.out.symm, HB.out⟩
end
end Go.Proofs.YtgkjjmcjlobbpaaGreatDoor

/- Lines that are put, whole: requests' and replies'. -/
namespace Go.Proofs.YtgkjjmcjlobbpaaGreatDoor
open Go.RowKit

theorem putRequest_any (m t : ByteArray) (n : Int) (w : World) (hm : m.size ≤ 1048576) (ht : t.size ≤ 1048576) :
    Calls Tryz.prog 40 #[.string m, .string t, .int .i64 n] w fun e w' => e = .returned (.tuple #[.string (bs (putRL m.data.toList t.data.toList n)), .int .i64 (putRQ m.data.toList t.data.toList n)]) ∧ Below w.heap.size w w' := by
  cases h : (token m.data.toList && target t.data.toList && validM n)
  · have hq : putRQ m.data.toList t.data.toList n = 4 := by unfold putRQ; rw [if_neg (by rw [h]; simp)]
    have hl : putRL m.data.toList t.data.toList n = [] := by unfold putRL; rw [hq]; rfl
    rw [hq, hl]
    exact putRequest_bad m t n w hm ht h
  · exact putRequest_good m t n w hm ht h

section
variable (c : Int) (r : ByteArray) (n : Int) (w : World) (hr : r.size ≤ 1048576)
theorem staLine_txt : bs (verN n) ++ ⟨#[32]⟩ ++ bs (code3 c) ++ ⟨#[32]⟩ ++ r = bs (staLine c r.data.toList n) := by
  unfold staLine
  rw [← bs_appL, ← bs_appL, ← bs_appL, ← bs_appL]
  rfl
theorem code3_len (c : Int) : (code3 c).length = 3 := rfl
theorem staLine_len : (staLine c r.data.toList n).length = 8 + 1 + 3 + 1 + r.size := by
  unfold staLine; rw [size_len]; simp [verN_len, code3_len]; omega
include hr
set_option maxRecDepth 100000 in
set_option maxHeartbeats 400000 in
theorem putStatus_bad (h : (validS c && r.data.toList.all mayB && validM n) = false) :
    Calls Tryz.prog 45 #[.int .i64 c, .string r, .int .i64 n] w fun e w' => e = .returned (.tuple #[.string ⟨#[]⟩, .int .i64 4]) ∧ Below w.heap.size w w' := by
  cases h1 : validS c
  · have H1 := Lib.hid h1; clear h1 h
    go_enter Tryz.func45, Tryz.ntmps45
    go_wp2_with fail
    refine (validStatus_any c _).mono ?_
    rw [H1.out]
    rintro e w1 ⟨rfl, rfl⟩
    go_wp2_with fail
    go_ret2
    exact ⟨rfl, Below.refl _ _⟩
  · cases h3 : r.data.toList.all mayB
    · have H1 := Lib.hid h1
      have H3 := Lib.hid h3
      clear h1 h3 h
      go_enter Tryz.func45, Tryz.ntmps45
      go_wp2_with fail
      refine (validStatus_any c _).mono ?_
      rw [H1.out]
      rintro e w1 ⟨rfl, rfl⟩
      go_wp2_with fail
      refine (consReason r _ (by omega)).mono ?_
      rw [H3.out]
      rintro e w2 ⟨rfl, hb2⟩
      go_wp2_with fail
      go_ret2
      exact ⟨rfl, hb2⟩
    · have h4 : validM n = false := by rw [h1, h3] at h; simpa using h
      have H1 := Lib.hid h1
      have H3 := Lib.hid h3
      have H4 := Lib.hid h4
      clear h1 h3 h4 h
      go_enter Tryz.func45, Tryz.ntmps45
      go_wp2_with fail
      refine (validStatus_any c _).mono ?_
      rw [H1.out]
      rintro e w1 ⟨rfl, rfl⟩
      go_wp2_with fail
      refine (consReason r _ (by omega)).mono ?_
      rw [H3.out]
      rintro e w2 ⟨rfl, hb2⟩
      go_wp2_with fail
      refine (validMinor_any n _).mono ?_
      rw [H4.out]
      rintro e w3 ⟨rfl, rfl⟩
      go_wp2_with fail
      go_ret2
      exact ⟨rfl, hb2⟩

set_option maxRecDepth 100000 in
set_option maxHeartbeats 400000 in
theorem putStatus_good (he : Env w) (h : (validS c && r.data.toList.all mayB && validM n) = true) :
    Calls Tryz.prog 45 #[.int .i64 c, .string r, .int .i64 n] w fun e w' => e = .returned (.tuple #[.string (bs (putSL c r.data.toList n)), .int .i64 (putSQ c r.data.toList n)]) ∧ Below w.heap.size w w' := by
  have HQ : Hid (putSQ c r.data.toList n = if 2048 < (staLine c r.data.toList n).length then 3 else 0) := by
    show putSQ _ _ _ = _
    unfold putSQ; rw [if_pos h]
  have HE := Lib.hid he; clear he
  rw [Bool.and_eq_true, Bool.and_eq_true] at h
  obtain ⟨⟨h1, h4⟩, h3⟩ := h
  have hc : 100 ≤ c ∧ c ≤ 599 := by unfold validS at h1; simpa using h1
  have H1 := Lib.hid h1
  have H3 := Lib.hid h3
  have H4 := Lib.hid h4
  have HC := Lib.hid hc
  clear h1 h3 h4 hc
  go_enter Tryz.func45, Tryz.ntmps45
  go_wp2_with fail
  refine (validStatus_any c _).mono ?_
  rw [H1.out]
  rintro e w1 ⟨rfl, rfl⟩
  go_wp2_with fail
  refine (consReason r _ (by omega)).mono ?_
  rw [H4.out]
  rintro e w2 ⟨rfl, hb2⟩
  have HB := Lib.hid hb2; clear hb2
  have HE2 : Hid (Env w2) := HE.out.below HB.out (Nat.le_refl _)
  go_wp2_with fail
  refine (validMinor_any n _).mono ?_
  rw [H3.out]
  rintro e w3 ⟨rfl, rfl⟩
  go_wp2_with fail
  refine (versionOf_any n _ H3.out).mono ?_
  rintro e w3 ⟨rfl, rfl⟩
  have hv := verN_len n
  go_wp2_with fail
  refine (itoa_any c _ (by have := HC.out; omega) (by have := HC.out; omega) HE2.out).mono ?_
  rw [itoa3 HC.out.1 HC.out.2]
  rintro e w4 ⟨rfl, hb4⟩
  have HB4 : Hid (Below w.heap.size w w4) := HB.out.trans (hb4.mono HB.out.size)
  clear hb4
  have hv2 := code3_len c
  have hl := Lib.hid (staLine_len c r n)
  by_cases c2 : 2048 < 8 + 1 + 3 + 1 + r.size
  · have HQ1 : Hid (putSQ c r.data.toList n = 3) := by show _ = _; rw [HQ.out, if_pos (by rw [hl.out]; exact c2)]
    have c3 : (2048 : Int) < 13 + r.size := by omega
    go_wp2_with fail
    go_ret2
    exact ⟨ret_put (by unfold putSL; rw [HQ1.out]; rfl) HQ1.out.symm, HB4.out⟩
  · have HQ1 : Hid (putSQ c r.data.toList n = 0) := by show _ = _; rw [HQ.out, if_neg (by rw [hl.out]; omega)]
    have c3 : ¬ (2048 : Int) < 13 + r.size := by omega
    go_wp2_with fail
    go_ret2
    exact ⟨ret_put (by unfold putSL; rw [HQ1.out]; exact staLine_txt c r n) HQ1.out.symm, HB4.out⟩

theorem putStatus_any (he : Env w) :
    Calls Tryz.prog 45 #[.int .i64 c, .string r, .int .i64 n] w fun e w' => e = .returned (.tuple #[.string (bs (putSL c r.data.toList n)), .int .i64 (putSQ c r.data.toList n)]) ∧ Below w.heap.size w w' := by
  cases h : (validS c && r.data.toList.all mayB && validM n)
  · have hq : putSQ c r.data.toList n = 4 := by unfold putSQ; rw [if_neg (by rw [h]; simp)]
    have hl : putSL c r.data.toList n = [] := by unfold putSL; rw [hq]; rfl
    rw [hq, hl]
    exact putStatus_bad c r n w hr h
  · exact putStatus_good c r n w hr he h
end
end Go.Proofs.YtgkjjmcjlobbpaaGreatDoor
