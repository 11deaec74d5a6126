/- What the statements on messages ask of their lists, the texts that they read, and whether two messages are the same. -/
import Derived.Test.YtgkjjmcjlobbpaaGreatDoorKFieldsG
import Derived.Test.YtgkjjmcjlobbpaaGreatDoorKLineE
import Derived.Test.YtgkjjmcjlobbpaaGreatDoorKMsgA
import Derived.Test.YtgkjjmcjlobbpaaGreatDoorKMsgD
import Derived.Lib.Replace
namespace Go.Proofs.YtgkjjmcjlobbpaaGreatDoor
open Go.RowKit

theorem sizeL_step {l : List Fld} {k : Nat} (h : k < l.length) : sizeL (l.take (k + 1)) = sizeL (l.take k) + (l[k].1.length + l[k].2.length) := by
  rw [List.take_succ_eq_append_getElem h, sizeL_append]; simp [sizeL]
theorem sizeL_take (l : List Fld) (k : Nat) : sizeL (l.take k) ≤ sizeL l := by
  have h : sizeL l = sizeL (l.take k) + sizeL (l.drop k) := by rw [← sizeL_append, List.take_append_drop]
  omega

def fewM (l : List Fld) (n : Nat) : Bool := fewB l && decide (n ≤ 3000)
set_option maxHeartbeats 2000000 in
set_option maxRecDepth 100000 in
theorem few_any (v : Value) (l : List Fld) (body : ByteArray) (w : World) (h : FL w v l) (hs : ∀ j (hj : j < l.length), l[j].1.length ≤ 9223372036854775807 ∧ l[j].2.length ≤ 9223372036854775807) (hl : l.length ≤ 9223372036854775807) :
    Calls Tryz.prog 17 #[v, .string body] w fun e w' => e = .returned (.bool (fewM l body.size)) ∧ Below w.heap.size w w' := by
  obtain ⟨A, c, rfl⟩ := h.form
  have HF := Lib.hid h; clear h
  by_cases h80 : 80 < l.length
  · have HR : Hid (fewM l body.size = false) := by show _ = _; unfold fewM fewB; rw [decide_eq_false (by omega)]; rfl
    have h80' : (80 : Int) < (l.length : Int) := by omega
    go_enter Tryz.func17, Tryz.ntmps17
    go_wp2_with fail
    go_ret
    exact ⟨ret_bool HR.out.symm, Below.refl _ _⟩
  · have h80' : ¬ (80 : Int) < (l.length : Int) := by omega
    by_cases h3 : 3000 < body.size
    · have HR : Hid (fewM l body.size = false) := by show _ = _; unfold fewM; rw [decide_eq_false (p := body.size ≤ 3000) (by omega), Bool.and_false]
      go_enter Tryz.func17, Tryz.ntmps17
      go_wp2_with fail
      go_ret
      exact ⟨ret_bool HR.out.symm, Below.refl _ _⟩
    · go_enter Tryz.func17, Tryz.ntmps17
      go_wp2_with fail
      go_loopw [5, 6] (fun a i wr => ∃ (k : Nat) (L : Int), k ≤ l.length ∧ i = .int .i64 k ∧ a = .int .i64 L ∧ 0 ≤ L ∧ L ≤ 12000 ∧ L + (sizeL (l.take k) : Int) = 12000 ∧ Below w.heap.size w wr) (fun _ i _ => l.length - (intOf i).toNat)
      case atStart => exact ⟨0, 12000, Nat.zero_le _, rfl, rfl, by omega, by omega, rfl, Below.refl _ _⟩
      case round =>
        obtain ⟨k, L, hk, rfl, rfl, hL0, hL1, hsum, hb⟩ := hrel
        have HB := Lib.hid hb; have HSum := Lib.hid hsum; clear hb hsum
        by_cases hlt : k < l.length
        · have hki : (k : Int) < (l.length : Int) := by omega
          obtain ⟨b, off, rfl, hbb, hc1, hc2⟩ := (HF.out.bel HB.out).get k hlt
          obtain ⟨s1, s2⟩ := hs k hlt
          have hst := sizeL_step hlt
          have hle := sizeL_take l (k + 1)
          rw [hst] at hle
          have HST := Lib.hid hst; have HLE := Lib.hid hle; clear hst hle
          generalize l[k] = f at *
          obtain ⟨n, x⟩ := f; simp only at s1 s2 hc1 hc2
          have HST2 : Hid (sizeL (l.take (k + 1)) = sizeL (l.take k) + (n.length + x.length)) := HST.out
          have HLE2 : Hid (sizeL (l.take k) + (n.length + x.length) ≤ sizeL l) := HLE.out
          clear HST HLE
          have hsz1 : (bs n).size = n.length := bs_size n
          have hsz2 : (bs x).size = x.length := bs_size x
          have HZ1 := Lib.hid hsz1; have HZ2 := Lib.hid hsz2; clear hsz1 hsz2
          by_cases h1 : L < (n.length : Int)
          · have HR : Hid (fewM l body.size = false) := by
              show _ = _; unfold fewM fewB
              rw [decide_eq_false (p := sizeL l ≤ 12000) (by have := HLE2.out; have := HSum.out; omega), Bool.and_false]; rfl
            have hd : decide (L < (n.length : Int)) = true := decide_eq_true h1
            clear h1
            go_wp2_with fail
            go_quiet (fail)
            go_wp2_with fail
            go_ret
            exact ⟨ret_bool HR.out.symm, below_dn HB.out _⟩
          · have hd : decide (L < (n.length : Int)) = false := decide_eq_false h1
            have hge : (n.length : Int) ≤ L := by omega
            by_cases h2 : L - (n.length : Int) < (x.length : Int)
            · have HR : Hid (fewM l body.size = false) := by
                show _ = _; unfold fewM fewB
                rw [decide_eq_false (p := sizeL l ≤ 12000) (by have := HLE2.out; have := HSum.out; omega), Bool.and_false]; rfl
              have hd2 : decide (L - (n.length : Int) < (x.length : Int)) = true := decide_eq_true h2
              clear h1
              go_wp2_with fail
              go_quiet (fail)
              go_wp2_with fail
              go_ret
              exact ⟨ret_bool HR.out.symm, below_dn HB.out _⟩
            · have hd2 : decide (L - (n.length : Int) < (x.length : Int)) = false := decide_eq_false h2
              have hge2 : (x.length : Int) ≤ L - (n.length : Int) := by omega
              have HS2 : Hid (L - (n.length : Int) - (x.length : Int) + (sizeL (l.take (k + 1)) : Int) = 12000) := by have h3 := HST2.out; have h4 := HSum.out; show _ = _; omega
              clear h1 h2
              go_wp2_with fail
              go_quiet (fail)
              go_wp2_with fail
              go_quiet (fail)
              go_wp2_with fail
              go_roundw
              case rel => exact ⟨k + 1, L - (n.length : Int) - (x.length : Int), by omega, by go_num, rfl, by omega, by omega, HS2.out, below_dn HB.out _⟩
              case measure => simp [intOf]; omega
        · have HR : Hid (fewM l body.size = true) := by
            have h3 := HSum.out
            rw [List.take_of_length_le (by omega)] at h3
            show _ = _; unfold fewM fewB
            rw [decide_eq_true (p := l.length ≤ 80) (by omega), decide_eq_true (p := sizeL l ≤ 12000) (by omega), decide_eq_true (p := body.size ≤ 3000) (by omega)]; rfl
          go_wp2_with fail
          go_ret
          exact ⟨ret_bool HR.out.symm, HB.out⟩
theorem few_small {l : List Fld} (h : fewB l = true) : l.length ≤ 80 ∧ sizeL l ≤ 12000 ∧ smallF l := by
  unfold fewB at h
  rw [Bool.and_eq_true, decide_eq_true_eq, decide_eq_true_eq] at h
  refine ⟨h.1, h.2, fun j hj => ?_⟩
  have := sizeL_mem (List.getElem_mem hj)
  omega


set_option maxHeartbeats 2000000 in
set_option maxRecDepth 100000 in
theorem sameQ_any (m t b : List UInt8) (n : Int) (v1 v2 : Value) (l : List Fld) (w : World) (h1 : FL w v1 l) (h2 : FL w v2 l) (hl : l.length ≤ 4294967296) :
    Calls Tryz.prog 15 #[.agg #[.string (bs m), .string (bs t), .int .i64 n, v1, .string (bs b)], .agg #[.string (bs m), .string (bs t), .int .i64 n, v2, .string (bs b)]] w fun e w' => e = .returned (.bool true) ∧ Below w.heap.size w w' := by
  obtain ⟨A1, c1, rfl⟩ := h1.form
  obtain ⟨A2, c2, rfl⟩ := h2.form
  have hal : Below w.heap.size w ((w.alloc (.cells #[.string (bs m), .string (bs t), .int .i64 n, .slice A1 l.length c1, .string (bs b)] 25)).alloc (.cells #[.string (bs m), .string (bs t), .int .i64 n, .slice A2 l.length c2, .string (bs b)] 25)) := ((Below.refl _ _).alloc (Nat.le_refl _) _).alloc (by simp) _
  have hp1 := (blk.new w #[.string (bs m), .string (bs t), .int .i64 n, .slice A1 l.length c1, .string (bs b)] 25).alloc (.cells #[.string (bs m), .string (bs t), .int .i64 n, .slice A2 l.length c2, .string (bs b)] 25)
  have hp2 := blk.new (w.alloc (.cells #[.string (bs m), .string (bs t), .int .i64 n, .slice A1 l.length c1, .string (bs b)] 25)) #[.string (bs m), .string (bs t), .int .i64 n, .slice A2 l.length c2, .string (bs b)] 25
  rw [World.size_alloc] at hp2
  have a0 := hp1.cell 0 _ rfl
  have a1 := hp1.cell 1 _ rfl
  have a2 := hp1.cell 2 _ rfl
  have a3 := hp1.cell 3 _ rfl
  have a4 := hp1.cell 4 _ rfl
  have b0 := hp2.cell 0 _ rfl
  have b1 := hp2.cell 1 _ rfl
  have b2 := hp2.cell 2 _ rfl
  have b3 := hp2.cell 3 _ rfl
  have b4 := hp2.cell 4 _ rfl
  have hsm := sameF_any _ _ l l _ (h1.bel hal) (h2.bel hal) hl
  rw [show (l == l) = true from by simp] at hsm
  have HSM := Lib.hid hsm; have HAL := Lib.hid hal
  clear hp1 hp2 hsm hal h1 h2
  go_enter Tryz.func15, Tryz.ntmps15
  go_wp2_with fail
  refine HSM.out.mono ?_
  rintro e w2 ⟨rfl, hb2⟩
  have HB2 := Lib.hid (HAL.out.trans (hb2.mono HAL.out.size))
  clear hb2
  go_wp2_with fail
  go_ret
  exact ⟨rfl, HB2.out⟩

set_option maxHeartbeats 2000000 in
set_option maxRecDepth 100000 in
theorem sameP_any (m b : List UInt8) (k n : Int) (v1 v2 : Value) (l : List Fld) (w : World) (h1 : FL w v1 l) (h2 : FL w v2 l) (hl : l.length ≤ 4294967296) :
    Calls Tryz.prog 16 #[.agg #[.int .i64 k, .string (bs m), .int .i64 n, v1, .string (bs b)], .agg #[.int .i64 k, .string (bs m), .int .i64 n, v2, .string (bs b)]] w fun e w' => e = .returned (.bool true) ∧ Below w.heap.size w w' := by
  obtain ⟨A1, c1, rfl⟩ := h1.form
  obtain ⟨A2, c2, rfl⟩ := h2.form
  have hal : Below w.heap.size w ((w.alloc (.cells #[.int .i64 k, .string (bs m), .int .i64 n, .slice A1 l.length c1, .string (bs b)] 32)).alloc (.cells #[.int .i64 k, .string (bs m), .int .i64 n, .slice A2 l.length c2, .string (bs b)] 32)) := ((Below.refl _ _).alloc (Nat.le_refl _) _).alloc (by simp) _
  have hp1 := (blk.new w #[.int .i64 k, .string (bs m), .int .i64 n, .slice A1 l.length c1, .string (bs b)] 32).alloc (.cells #[.int .i64 k, .string (bs m), .int .i64 n, .slice A2 l.length c2, .string (bs b)] 32)
  have hp2 := blk.new (w.alloc (.cells #[.int .i64 k, .string (bs m), .int .i64 n, .slice A1 l.length c1, .string (bs b)] 32)) #[.int .i64 k, .string (bs m), .int .i64 n, .slice A2 l.length c2, .string (bs b)] 32
  rw [World.size_alloc] at hp2
  have a0 := hp1.cell 0 _ rfl
  have a1 := hp1.cell 1 _ rfl
  have a2 := hp1.cell 2 _ rfl
  have a3 := hp1.cell 3 _ rfl
  have a4 := hp1.cell 4 _ rfl
  have b0 := hp2.cell 0 _ rfl
  have b1 := hp2.cell 1 _ rfl
  have b2 := hp2.cell 2 _ rfl
  have b3 := hp2.cell 3 _ rfl
  have b4 := hp2.cell 4 _ rfl
  have hsm := sameF_any _ _ l l _ (h1.bel hal) (h2.bel hal) hl
  rw [show (l == l) = true from by simp] at hsm
  have HSM := Lib.hid hsm; have HAL := Lib.hid hal
  clear hp1 hp2 hsm hal h1 h2
  go_enter Tryz.func16, Tryz.ntmps16
  go_wp2_with fail
  refine HSM.out.mono ?_
  rintro e w2 ⟨rfl, hb2⟩
  have HB2 := Lib.hid (HAL.out.trans (hb2.mono HAL.out.size))
  clear hb2
  go_wp2_with fail
  go_ret
  exact ⟨rfl, HB2.out⟩

set_option maxHeartbeats 1000000 in
set_option maxRecDepth 100000 in
theorem plain_any (v : Value) (l : List Fld) (w : World) (h : FL w v l) (hs : smallF l) (hl : l.length ≤ 100000) :
    Calls Tryz.prog 23 #[v] w (RetF w (delL l [clN, teN])) := by
  obtain ⟨A, c, rfl⟩ := h.form
  have hd1 : Below w.heap.size w (w.alloc (.cells #[.string (bs clN), .string (bs teN)] 9)) := (Below.refl _ _).alloc (by simp) _
  have hsl : SL (w.alloc (.cells #[.string (bs clN), .string (bs teN)] 9)) (.slice (some ⟨w.heap.size, 0, none⟩) 2 2) [clN, teN] := SL_two w clN teN
  have hlen : bs clN = ⟨#[99, 111, 110, 116, 101, 110, 116, 45, 108, 101, 110, 103, 116, 104]⟩ := rfl
  have hcod : bs teN = ⟨#[116, 114, 97, 110, 115, 102, 101, 114, 45, 101, 110, 99, 111, 100, 105, 110, 103]⟩ := rfl
  have hde := del_any _ _ l [clN, teN] _ (h.bel hd1) hsl hs (Nat.le_trans hl (by decide)) (by simp [clN, teN]) (by simp)
  have HD1 := Lib.hid hd1; have HDE := Lib.hid hde
  rw [hlen, hcod] at HDE HD1
  clear hd1 hsl hlen hcod hde h hs
  go_enter Tryz.func23, Tryz.ntmps23
  go_wp2_with fail
  refine HDE.out.mono ?_
  rintro e w2 ⟨v2, rfl, ho2, hb2⟩
  have HO := Lib.hid (ho2.mono (show w.heap.size ≤ _ from HD1.out.size)); have HB := Lib.hid (HD1.out.trans (hb2.mono HD1.out.size))
  obtain ⟨A2, c2, rfl⟩ := ho2.form
  clear ho2 hb2
  go_wp2_with fail
  go_ret
  exact ⟨_, rfl, HO.out, HB.out⟩
end Go.Proofs.YtgkjjmcjlobbpaaGreatDoor

/- The texts that the statements on messages read, with a slash for a line's end; the two that each statement asks. -/
namespace Go.Proofs.YtgkjjmcjlobbpaaGreatDoor
open Go.RowKit

def slash (s : List UInt8) : List UInt8 := Lib.replaceAll s [32, 47, 32] [13, 10]
theorem lines_any (s : ByteArray) (w : World) (hm : MaxL w) (hs : s.size ≤ 100000) :
    Calls Tryz.prog 26 #[.string s] w fun e w' => e = .returned (.string (bs (slash s.data.toList))) ∧ Below w.heap.size w w' := by
  obtain ⟨m, hm⟩ := hm
  have hc := Lib.countB_le ⟨#[32, 47, 32]⟩ (by decide) s.size s (Nat.le_refl _)
  have hq := Tryz.strings_ReplaceAll s ⟨#[32, 47, 32]⟩ ⟨#[13, 10]⟩ m w (by omega) hm (by decide) (by
    have h2 : (⟨#[13, 10]⟩ : ByteArray).size = 2 := rfl
    rw [h2]; omega)
  have HQ := Lib.hid hq
  clear hq hm hc
  go_enter Tryz.func26, Tryz.ntmps26
  go_wp2_with fail
  refine HQ.out.mono ?_
  rintro e w2 ⟨rfl, hb2⟩
  have HB := Lib.hid hb2; clear hb2
  go_wp2_with fail
  go_ret
  exact ⟨rfl, HB.out⟩

set_option maxHeartbeats 2000000 in
set_option maxRecDepth 100000 in
theorem asks_any (x : ByteArray) (w : World) (he : EnvM w) (hx : x.size ≤ 100000) (hs : (slash x.data.toList).length ≤ 1048576) :
    Calls Tryz.prog 24 #[.string x, .string (bs (mM (slash x.data.toList))), .string (bs (tM (slash x.data.toList))), .string (bs (askM (slash x.data.toList)).2.1), .int .i64 (askM (slash x.data.toList)).2.2.1, .int .i64 (askM (slash x.data.toList)).2.2.2] w fun e w' =>
      e = .returned (.bool true) ∧ Below w.heap.size w w' := by
  have hln := lines_any x w he.1.1 hx
  have HRQ : Hid (∀ W, Below w.heap.size w W → Calls Tryz.prog 11 #[.string (bs (slash x.data.toList))] W (RetQ W (slash x.data.toList))) := fun W hb => msgRequest_any _ W (he.bel hb) hs
  have HLN := Lib.hid hln
  have hR : ∀ W, RetQ W (slash x.data.toList) = fun e w' => ∃ v, e = .returned (.tuple #[.agg #[.string (bs (mM (slash x.data.toList))), .string (bs (tM (slash x.data.toList))), .int .i64 (nM (slash x.data.toList)), v, .string (bs (askM (slash x.data.toList)).2.1)], .int .i64 (askM (slash x.data.toList)).2.2.1, .int .i64 (askM (slash x.data.toList)).2.2.2]) ∧ ownF w' W.heap.size v (askM (slash x.data.toList)).1 ∧ Below W.heap.size W w' := fun W => rfl
  simp only [hR] at HRQ
  clear hln he hs hR
  generalize slash x.data.toList = S at *
  generalize mM S = m at *
  generalize tM S = t at *
  generalize nM S = n at *
  generalize askM S = M at *
  obtain ⟨l, b, u, er⟩ := M
  simp only at HRQ ⊢
  go_enter Tryz.func24, Tryz.ntmps24
  go_wp2_with fail
  refine HLN.out.mono ?_
  rintro e w2 ⟨rfl, hb2⟩
  have HB2 := Lib.hid hb2
  clear hb2
  go_wp2_with fail
  refine (HRQ.out _ HB2.out).mono ?_
  rintro e w3 ⟨v, rfl, ho, hb3⟩
  obtain ⟨A, c, rfl⟩ := ho.form
  have HB3 := Lib.hid (HB2.out.trans (hb3.mono HB2.out.size))
  have hn := blk.new w3 #[.string (bs m), .string (bs t), .int .i64 n, .slice A l.length c, .string (bs b)] 25
  have c0 := hn.cell 0 _ rfl
  have c1 := hn.cell 1 _ rfl
  have c4 := hn.cell 4 _ rfl
  have q1 : ((bs m).toList == (bs m).toList) = true := by simp
  have q2 : ((bs t).toList == (bs t).toList) = true := by simp
  have q3 : ((bs b).toList == (bs b).toList) = true := by simp
  have HB4 := Lib.hid (HB3.out.alloc HB3.out.size (.cells #[.string (bs m), .string (bs t), .int .i64 n, .slice A l.length c, .string (bs b)] 25))
  clear hn ho hb3
  go_wp2_with fail
  go_ret
  exact ⟨by simp, HB4.out⟩

def work1 : ByteArray := ⟨#[71, 69, 84, 32, 47, 97, 32, 72, 84, 84, 80, 47, 49, 46, 49, 32, 47, 32, 72, 111, 115, 116, 58, 32, 104, 32, 47, 32, 32, 47, 32, 120, 121]⟩
def work2 : ByteArray := ⟨#[80, 79, 83, 84, 32, 47, 98, 32, 72, 84, 84, 80, 47, 49, 46, 49, 32, 47, 32, 67, 111, 110, 116, 101, 110, 116, 45, 76, 101, 110, 103, 116, 104, 58, 32, 50, 32, 47, 32, 32, 47, 32, 97]⟩
theorem slash1 : slash work1.data.toList = [71, 69, 84, 32, 47, 97, 32, 72, 84, 84, 80, 47, 49, 46, 49, 13, 10, 72, 111, 115, 116, 58, 32, 104, 13, 10, 13, 10, 120, 121] := by kernel_rfl
theorem slash2 : slash work2.data.toList = [80, 79, 83, 84, 32, 47, 98, 32, 72, 84, 84, 80, 47, 49, 46, 49, 13, 10, 67, 111, 110, 116, 101, 110, 116, 45, 76, 101, 110, 103, 116, 104, 58, 32, 50, 13, 10, 13, 10, 97] := by kernel_rfl
theorem top1 : headF [71, 69, 84, 32, 47, 97, 32, 72, 84, 84, 80, 47, 49, 46, 49, 13, 10, 72, 111, 115, 116, 58, 32, 104, 13, 10, 13, 10, 120, 121] = (24, 0) ∧ startM [71, 69, 84, 32, 47, 97, 32, 72, 84, 84, 80, 47, 49, 46, 49, 13, 10, 72, 111, 115, 116, 58, 32, 104, 13, 10, 13, 10, 120, 121] = [71, 69, 84, 32, 47, 97, 32, 72, 84, 84, 80, 47, 49, 46, 49] ∧ fieldM [71, 69, 84, 32, 47, 97, 32, 72, 84, 84, 80, 47, 49, 46, 49, 13, 10, 72, 111, 115, 116, 58, 32, 104, 13, 10, 13, 10, 120, 121] = [72, 111, 115, 116, 58, 32, 104, 13, 10] ∧ restM [71, 69, 84, 32, 47, 97, 32, 72, 84, 84, 80, 47, 49, 46, 49, 13, 10, 72, 111, 115, 116, 58, 32, 104, 13, 10, 13, 10, 120, 121] = [120, 121] := by
  refine ⟨?_, ?_, ?_, ?_⟩ <;> kernel_rfl
theorem top2 : headF [80, 79, 83, 84, 32, 47, 98, 32, 72, 84, 84, 80, 47, 49, 46, 49, 13, 10, 67, 111, 110, 116, 101, 110, 116, 45, 76, 101, 110, 103, 116, 104, 58, 32, 50, 13, 10, 13, 10, 97] = (35, 0) ∧ startM [80, 79, 83, 84, 32, 47, 98, 32, 72, 84, 84, 80, 47, 49, 46, 49, 13, 10, 67, 111, 110, 116, 101, 110, 116, 45, 76, 101, 110, 103, 116, 104, 58, 32, 50, 13, 10, 13, 10, 97] = [80, 79, 83, 84, 32, 47, 98, 32, 72, 84, 84, 80, 47, 49, 46, 49] ∧ fieldM [80, 79, 83, 84, 32, 47, 98, 32, 72, 84, 84, 80, 47, 49, 46, 49, 13, 10, 67, 111, 110, 116, 101, 110, 116, 45, 76, 101, 110, 103, 116, 104, 58, 32, 50, 13, 10, 13, 10, 97] = [67, 111, 110, 116, 101, 110, 116, 45, 76, 101, 110, 103, 116, 104, 58, 32, 50, 13, 10] ∧ restM [80, 79, 83, 84, 32, 47, 98, 32, 72, 84, 84, 80, 47, 49, 46, 49, 13, 10, 67, 111, 110, 116, 101, 110, 116, 45, 76, 101, 110, 103, 116, 104, 58, 32, 50, 13, 10, 13, 10, 97] = [97] := by
  refine ⟨?_, ?_, ?_, ?_⟩ <;> kernel_rfl
theorem line1 : reqE [71, 69, 84, 32, 47, 97, 32, 72, 84, 84, 80, 47, 49, 46, 49] = 0 ∧ reqM [71, 69, 84, 32, 47, 97, 32, 72, 84, 84, 80, 47, 49, 46, 49] = [71, 69, 84] ∧ reqT [71, 69, 84, 32, 47, 97, 32, 72, 84, 84, 80, 47, 49, 46, 49] = [47, 97] ∧ reqN [71, 69, 84, 32, 47, 97, 32, 72, 84, 84, 80, 47, 49, 46, 49] = 1 := by
  have h := (back_req (m := [71, 69, 84]) (t := [47, 97]) (n := 1) (by decide)).1
  rwa [show putRL [71, 69, 84] [47, 97] 1 = [71, 69, 84, 32, 47, 97, 32, 72, 84, 84, 80, 47, 49, 46, 49] from by decide] at h
theorem line2 : reqE [80, 79, 83, 84, 32, 47, 98, 32, 72, 84, 84, 80, 47, 49, 46, 49] = 0 := by
  have h := (back_req (m := [80, 79, 83, 84]) (t := [47, 98]) (n := 1) (by decide)).1.1
  rwa [show putRL [80, 79, 83, 84] [47, 98] 1 = [80, 79, 83, 84, 32, 47, 98, 32, 72, 84, 84, 80, 47, 49, 46, 49] from by decide] at h
theorem field1 : parseL [72, 111, 115, 116, 58, 32, 104, 13, 10] = ([([72, 111, 115, 116], [104])], 0) := by
  have h := parse_put (l := [([72, 111, 115, 116], [104])]) (by decide)
  rwa [show putL [([72, 111, 115, 116], [104])] = [72, 111, 115, 116, 58, 32, 104, 13, 10] from by decide] at h
theorem field2 : parseL [67, 111, 110, 116, 101, 110, 116, 45, 76, 101, 110, 103, 116, 104, 58, 32, 50, 13, 10] = ([(lenN, [50])], 0) := by
  have h := parse_put (l := [(lenN, [50])]) (by decide)
  rwa [show putL [(lenN, [50])] = [67, 111, 110, 116, 101, 110, 116, 45, 76, 101, 110, 103, 116, 104, 58, 32, 50, 13, 10] from by decide] at h
theorem ask1 : askM [71, 69, 84, 32, 47, 97, 32, 72, 84, 84, 80, 47, 49, 46, 49, 13, 10, 72, 111, 115, 116, 58, 32, 104, 13, 10, 13, 10, 120, 121] = ([([72, 111, 115, 116], [104])], [], 28, 0) := by
  obtain ⟨h1, h2, h3, h4⟩ := top1
  have hb := behind_all (fr := askR) (most := 65536) (s := [71, 69, 84, 32, 47, 97, 32, 72, 84, 84, 80, 47, 49, 46, 49, 13, 10, 72, 111, 115, 116, 58, 32, 104, 13, 10, 13, 10, 120, 121]) (l := [([72, 111, 115, 116], [104])]) (k := 0) (n := 0) (B := ([], 0, 0)) (by rw [h3]; exact field1) (by kernel_rfl) (by rw [h4]; rfl) rfl
  unfold askM msgL
  rw [h1, if_neg (by decide), h2, if_neg (by rw [line1.1]; decide), hb]
  unfold headN
  rw [h1]; rfl
theorem ask2 : askM [80, 79, 83, 84, 32, 47, 98, 32, 72, 84, 84, 80, 47, 49, 46, 49, 13, 10, 67, 111, 110, 116, 101, 110, 116, 45, 76, 101, 110, 103, 116, 104, 58, 32, 50, 13, 10, 13, 10, 97] = badM 6 := by
  obtain ⟨h1, h2, h3, h4⟩ := top2
  have hb := behind_body (fr := askR) (most := 65536) (s := [80, 79, 83, 84, 32, 47, 98, 32, 72, 84, 84, 80, 47, 49, 46, 49, 13, 10, 67, 111, 110, 116, 101, 110, 116, 45, 76, 101, 110, 103, 116, 104, 58, 32, 50, 13, 10, 13, 10, 97]) (l := [(lenN, [50])]) (k := 1) (n := 2) (B := ([], 0, 6)) (by rw [h3]; exact field2) (by kernel_rfl) (by rw [h4]; decide) (by decide)
  unfold askM msgL
  rw [h1, if_neg (by decide), h2, if_neg (by rw [line2]; decide), hb]
theorem works_any (w : World) (he : EnvM w) :
    Calls Tryz.prog 10 #[] w fun e w' => e = .returned (.bool true) ∧ Below w.heap.size w w' := by
  have h1 := fun W (h : EnvM W) => asks_any work1 W h (by decide) (by rw [slash1]; decide)
  have h2 := fun W (h : EnvM W) => asks_any work2 W h (by decide) (by rw [slash2]; decide)
  have e1 : mM [71, 69, 84, 32, 47, 97, 32, 72, 84, 84, 80, 47, 49, 46, 49, 13, 10, 72, 111, 115, 116, 58, 32, 104, 13, 10, 13, 10, 120, 121] = [71, 69, 84] ∧ tM [71, 69, 84, 32, 47, 97, 32, 72, 84, 84, 80, 47, 49, 46, 49, 13, 10, 72, 111, 115, 116, 58, 32, 104, 13, 10, 13, 10, 120, 121] = [47, 97] := by
    unfold mM tM
    rw [ask1, if_pos rfl, if_pos rfl, top1.2.1]
    exact ⟨line1.2.1, line1.2.2.1⟩
  have e2 : mM [80, 79, 83, 84, 32, 47, 98, 32, 72, 84, 84, 80, 47, 49, 46, 49, 13, 10, 67, 111, 110, 116, 101, 110, 116, 45, 76, 101, 110, 103, 116, 104, 58, 32, 50, 13, 10, 13, 10, 97] = [] ∧ tM [80, 79, 83, 84, 32, 47, 98, 32, 72, 84, 84, 80, 47, 49, 46, 49, 13, 10, 67, 111, 110, 116, 101, 110, 116, 45, 76, 101, 110, 103, 116, 104, 58, 32, 50, 13, 10, 13, 10, 97] = [] := by
    unfold mM tM
    rw [ask2]
    exact ⟨if_neg (by decide), if_neg (by decide)⟩
  rw [slash1, e1.1, e1.2, ask1] at h1
  rw [slash2, e2.1, e2.2, ask2] at h2
  have HE := Lib.hid he
  have H1 : Hid (∀ W, EnvM W → Calls Tryz.prog 24 #[.string ⟨#[71, 69, 84, 32, 47, 97, 32, 72, 84, 84, 80, 47, 49, 46, 49, 32, 47, 32, 72, 111, 115, 116, 58, 32, 104, 32, 47, 32, 32, 47, 32, 120, 121]⟩, .string ⟨#[71, 69, 84]⟩, .string ⟨#[47, 97]⟩, .string ⟨#[]⟩, .int .i64 28, .int .i64 0] W fun e w' => e = .returned (.bool true) ∧ Below W.heap.size W w') := h1
  have H2 : Hid (∀ W, EnvM W → Calls Tryz.prog 24 #[.string ⟨#[80, 79, 83, 84, 32, 47, 98, 32, 72, 84, 84, 80, 47, 49, 46, 49, 32, 47, 32, 67, 111, 110, 116, 101, 110, 116, 45, 76, 101, 110, 103, 116, 104, 58, 32, 50, 32, 47, 32, 32, 47, 32, 97]⟩, .string ⟨#[]⟩, .string ⟨#[]⟩, .string ⟨#[]⟩, .int .i64 0, .int .i64 6] W fun e w' => e = .returned (.bool true) ∧ Below W.heap.size W w') := h2
  clear h1 h2 e1 e2 he
  go_enter Tryz.func10, Tryz.ntmps10
  go_wp2_with fail
  refine (H1.out _ HE.out).mono ?_
  rintro e w2 ⟨rfl, hb2⟩
  have HB2 := Lib.hid hb2; clear hb2
  go_wp2_with fail
  refine (H2.out _ (HE.out.bel HB2.out)).mono ?_
  rintro e w3 ⟨rfl, hb3⟩
  have HB3 := Lib.hid (HB2.out.trans (hb3.mono HB2.out.size)); clear hb3
  go_wp2_with fail
  go_ret
  exact ⟨rfl, HB3.out⟩
end Go.Proofs.YtgkjjmcjlobbpaaGreatDoor
