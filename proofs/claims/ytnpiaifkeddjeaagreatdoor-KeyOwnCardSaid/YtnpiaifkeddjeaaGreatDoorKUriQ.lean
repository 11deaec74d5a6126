/- The document's own answer: a port's digits, and what a text is as a URI. -/
import Derived.Test.YtnpiaifkeddjeaaGreatDoorKPlainU
import Derived.Test.YtnpiaifkeddjeaaGreatDoorKUriG
import Derived.Test.YtnpiaifkeddjeaaGreatDoorKUriN
import Derived.Deep.DeepCutAuto
import Derived.Deep.CutBlock
namespace Go.Proofs.YtnpiaifkeddjeaaGreatDoor
open Go.RowKit

theorem decU_pow (l : List UInt8) (h : l.all digB = true) : decV l < 10 ^ l.length := by
  induction hn : l.length using Nat.strongRecOn generalizing l with
  | _ n ih =>
    by_cases hl : l = []
    · subst hl hn; decide
    · obtain ⟨m, c, rfl⟩ : ∃ m c, l = m ++ [c] := ⟨_, _, (List.dropLast_concat_getLast hl).symm⟩
      rw [List.all_append, Bool.and_eq_true] at h
      have hc := digB_iff.1 (show digB c = true by simpa using h.2)
      have h2 := ih m.length (by subst hn; simp) m h.1 rfl
      subst hn
      rw [decU_snoc, List.length_append, List.length_cons, List.length_nil, Nat.pow_succ]
      omega
theorem digU_no {n : Int} (h : digI n = false) : n < 48 ∨ (¬ n < 48 ∧ 57 < n) := by unfold digI at h; simp at h; omega
theorem digU_yes {n : Int} (h : digI n = true) : ¬ n < 48 ∧ ¬ 57 < n := by unfold digI at h; simp at h; omega
theorem headU {s : ByteArray} (h : 0 < s.size) : s.data.toList.head? = some s[0] := by rw [cons_of h]; rfl
set_option maxRecDepth 100000 in
set_option maxHeartbeats 1000000 in
theorem unumber_any (s : ByteArray) (w : World) (hs : s.size ≤ 4294967296) :
    Calls Tryz.prog 105 #[.string s] w fun e w' => e = .returned (.int .i64 (numU s.data.toList)) ∧ w = w' := by
  have HZ := Lib.hid (size_len s)
  by_cases h0 : s.size = 0
  · have HR : Hid (numU s.data.toList = 0) := by show _ = _; rw [nil_of h0]; rfl
    go_enter Tryz.func105, Tryz.ntmps105
    go_wp2_with fail
    go_ret
    exact ⟨ret_i64U HR.out.symm, rfl⟩
  · have h0' : ((s.size : Int) == 0) = false := by rw [beq_eq_false_iff_ne]; omega
    by_cases h5 : 5 < (s.size : Int)
    · have HR : Hid (numU s.data.toList = 0) := by show _ = _; unfold numU; rw [if_pos (.inr (.inl (by have := HZ.out; omega)))]
      go_enter Tryz.func105, Tryz.ntmps105
      go_wp2_with fail
      go_ret
      exact ⟨ret_i64U HR.out.symm, rfl⟩
    · have hpos : 0 < s.size := by omega
      by_cases h48 : s[0] = 48
      · have hb : ((s[0].toNat : Int) == 48) = true := by rw [h48]; rfl
        have HR : Hid (numU s.data.toList = 0) := by show _ = _; unfold numU; rw [if_pos (.inr (.inr (by rw [headU hpos, h48])))]
        clear h48
        go_enter Tryz.func105, Tryz.ntmps105
        go_wp2_with fail
        go_ret
        exact ⟨ret_i64U HR.out.symm, rfl⟩
      · have hb : ((s[0].toNat : Int) == 48) = false := by rw [beq_eq_false_iff_ne]; intro h; exact h48 (UInt8.toNat_inj.1 (by simpa using (by omega : s[0].toNat = 48)))
        have HU : Hid (numU s.data.toList = if s.data.toList.all digB then (decV s.data.toList : Int) else 0) := by
          show _ = _
          unfold numU
          rw [if_neg]
          intro h
          rcases h with h | h | h
          · rw [size_len, h] at h0; exact h0 rfl
          · have := HZ.out; omega
          · rw [headU hpos] at h; exact h48 (Option.some.inj h)
        have hsz : s.size ≤ 5 := by omega
        clear h48
        go_enter Tryz.func105, Tryz.ntmps105
        go_wp2_with fail
        go_loop [3, 4] (fun n i => ∃ k : Nat, k ≤ s.size ∧ i = .int .i64 k ∧ n = .int .i64 (decV (s.data.toList.take k)) ∧ (s.data.toList.take k).all digB = true) (fun _ i => s.size - (intOf i).toNat)
        case atStart => exact ⟨0, Nat.zero_le _, rfl, rfl, rfl⟩
        case round =>
          obtain ⟨k, hk, rfl, rfl, ht⟩ := hrel
          have HT := Lib.hid ht; clear ht
          by_cases hlt : k < s.size
          · cases hm : digI (s[k].toNat : Int)
            · have HA : Hid (s.data.toList.all digB = false) := all_not s digB k hlt hm
              rcases digU_no hm with h1 | ⟨h1, h2⟩
              all_goals
                clear hm
                go_wp2_with fail
                go_ret
                exact ⟨ret_i64U (by rw [HU.out, HA.out]; rfl), rfl⟩
            · have HA := Lib.hid (all_snoc s digB k hlt HT.out hm)
              have HD : Hid (decV (s.data.toList.take (k + 1)) = 10 * decV (s.data.toList.take k) + (s[k].toNat - 48)) := by show _ = _; rw [take_snoc s k hlt, decU_snoc]
              have hb2 : decV (s.data.toList.take k) < 100000 := by
                have h1 := decU_pow _ HT.out
                have h2 : (s.data.toList.take k).length ≤ 5 := Nat.le_trans (List.length_take_le _ _) (by omega)
                exact Nat.lt_of_lt_of_le h1 (Nat.pow_le_pow_right (by decide) h2)
              obtain ⟨h1, h2⟩ := digU_yes hm
              have hc1 : 48 ≤ (s[k].toNat : Int) := by omega
              have hc2 : (s[k].toNat : Int) ≤ 57 := by omega
              clear hm
              generalize decV (s.data.toList.take k) = N at *
              go_wp2_with fail
              go_round
              case rel => exact ⟨k + 1, by omega, by go_num, by rw [HD.out]; simp only [Value.int.injEq, true_and]; omega, HA.out⟩
              case measure => simp [intOf]; omega
          · have HA : Hid (s.data.toList.all digB = true) := by
              have h := HT.out
              rw [take_all hlt] at h
              exact h
            have HE : Hid (s.data.toList.take k = s.data.toList) := take_all hlt
            go_wp2_with fail
            go_ret
            exact ⟨ret_i64U (by rw [HU.out, HA.out, HE.out, if_pos rfl]), rfl⟩

/-- the document's Parse: the cells of what is handed back and of the URI that it makes -/
structure PIn (w : World) (sc ho : ByteArray) (po : Int) (pa qu : ByteArray) (hq : Bool) (W : World) : Prop where
  res : ubk W w.heap.size #[.string ⟨#[]⟩, .string ⟨#[]⟩, .int .i64 0, .string ⟨#[]⟩, .string ⟨#[]⟩, .bool false]
  u : ubk W (w.heap.size + 1) #[.string sc, .string ho, .int .i64 po, .string pa, .string qu, .bool hq]
  bel : Below w.heap.size w W
theorem PIn.sc {w W : World} {sc ho pa qu : ByteArray} {po : Int} {hq : Bool} (h : PIn w sc ho po pa qu hq W) (v : ByteArray) : PIn w v ho po pa qu hq (W.setCell ⟨w.heap.size + 1, 0, none⟩ (.string v)) :=
  ⟨h.res.other (a := ⟨w.heap.size + 1, 0, none⟩) (Nat.ne_of_lt (Nat.lt_succ_self _)) _, h.u.set 0 _, h.bel.setCell (p := ⟨w.heap.size + 1, 0, none⟩) (Nat.le_succ _) _⟩
theorem PIn.ho {w W : World} {sc ho pa qu : ByteArray} {po : Int} {hq : Bool} (h : PIn w sc ho po pa qu hq W) (v : ByteArray) : PIn w sc v po pa qu hq (W.setCell ⟨w.heap.size + 1, 1, none⟩ (.string v)) :=
  ⟨h.res.other (a := ⟨w.heap.size + 1, 1, none⟩) (Nat.ne_of_lt (Nat.lt_succ_self _)) _, h.u.set 1 _, h.bel.setCell (p := ⟨w.heap.size + 1, 1, none⟩) (Nat.le_succ _) _⟩
theorem PIn.po {w W : World} {sc ho pa qu : ByteArray} {po : Int} {hq : Bool} (h : PIn w sc ho po pa qu hq W) (v : Int) : PIn w sc ho v pa qu hq (W.setCell ⟨w.heap.size + 1, 2, none⟩ (.int .i64 v)) :=
  ⟨h.res.other (a := ⟨w.heap.size + 1, 2, none⟩) (Nat.ne_of_lt (Nat.lt_succ_self _)) _, h.u.set 2 _, h.bel.setCell (p := ⟨w.heap.size + 1, 2, none⟩) (Nat.le_succ _) _⟩
theorem PIn.pa {w W : World} {sc ho pa qu : ByteArray} {po : Int} {hq : Bool} (h : PIn w sc ho po pa qu hq W) (v : ByteArray) : PIn w sc ho po v qu hq (W.setCell ⟨w.heap.size + 1, 3, none⟩ (.string v)) :=
  ⟨h.res.other (a := ⟨w.heap.size + 1, 3, none⟩) (Nat.ne_of_lt (Nat.lt_succ_self _)) _, h.u.set 3 _, h.bel.setCell (p := ⟨w.heap.size + 1, 3, none⟩) (Nat.le_succ _) _⟩
theorem PIn.qu {w W : World} {sc ho pa qu : ByteArray} {po : Int} {hq : Bool} (h : PIn w sc ho po pa qu hq W) (v : ByteArray) : PIn w sc ho po pa v hq (W.setCell ⟨w.heap.size + 1, 4, none⟩ (.string v)) :=
  ⟨h.res.other (a := ⟨w.heap.size + 1, 4, none⟩) (Nat.ne_of_lt (Nat.lt_succ_self _)) _, h.u.set 4 _, h.bel.setCell (p := ⟨w.heap.size + 1, 4, none⟩) (Nat.le_succ _) _⟩
theorem PIn.hq {w W : World} {sc ho pa qu : ByteArray} {po : Int} {hq : Bool} (h : PIn w sc ho po pa qu hq W) (v : Bool) : PIn w sc ho po pa qu v (W.setCell ⟨w.heap.size + 1, 5, none⟩ (.bool v)) :=
  ⟨h.res.other (a := ⟨w.heap.size + 1, 5, none⟩) (Nat.ne_of_lt (Nat.lt_succ_self _)) _, h.u.set 5 _, h.bel.setCell (p := ⟨w.heap.size + 1, 5, none⟩) (Nat.le_succ _) _⟩
theorem PIn.start (w : World) : PIn w ⟨#[]⟩ ⟨#[]⟩ 0 ⟨#[]⟩ ⟨#[]⟩ false ((w.alloc (.cells #[.string ⟨#[]⟩, .string ⟨#[]⟩, .int .i64 0, .string ⟨#[]⟩, .string ⟨#[]⟩, .bool false] 23)).alloc (.cells #[.string ⟨#[]⟩, .string ⟨#[]⟩, .int .i64 0, .string ⟨#[]⟩, .string ⟨#[]⟩, .bool false] 23)) := by
  have h1 := ubk.new (w.alloc (.cells #[.string ⟨#[]⟩, .string ⟨#[]⟩, .int .i64 0, .string ⟨#[]⟩, .string ⟨#[]⟩, .bool false] 23)) #[.string ⟨#[]⟩, .string ⟨#[]⟩, .int .i64 0, .string ⟨#[]⟩, .string ⟨#[]⟩, .bool false] 23
  have hz : (w.alloc (.cells #[.string ⟨#[]⟩, .string ⟨#[]⟩, .int .i64 0, .string ⟨#[]⟩, .string ⟨#[]⟩, .bool false] 23)).heap.size = w.heap.size + 1 := World.size_alloc _ _
  rw [hz] at h1
  exact ⟨(ubk.new w #[.string ⟨#[]⟩, .string ⟨#[]⟩, .int .i64 0, .string ⟨#[]⟩, .string ⟨#[]⟩, .bool false] 23).alloc _, h1, ((Below.refl _ _).alloc (Nat.le_refl _) _).alloc (by omega) _⟩
theorem occ3 {s : ByteArray} {k : Nat} (h : k + 3 ≤ s.size) : ((s.extract k (k + 3)).toList == [58, 47, 47]) = Lib.occAt s.data.toList [58, 47, 47] k := by
  have h2 := (Lib.occ_of_piece s ⟨#[58, 47, 47]⟩ k h).symm
  rw [Lib.toList_data (⟨#[58, 47, 47]⟩ : ByteArray)] at h2
  exact h2
theorem occ3_no {s : ByteArray} {k : Nat} (h : s.size < k + 3) : Lib.occAt s.data.toList [58, 47, 47] k = false := by
  cases ho : Lib.occAt s.data.toList [58, 47, 47] k
  · rfl
  · have h2 : [58, 47, 47].isPrefixOf (s.data.toList.drop k) = true := ho
    have h3 := (List.isPrefixOf_iff_prefix.1 h2).length_le
    rw [List.length_drop, ← size_len] at h3
    simp at h3
    omega
theorem cut_at1 {R : List UInt8} {c : UInt8} {k : Nat} (hk : k ≤ R.length) (h3 : ∀ j (h : j < R.length), j < k → R[j] ≠ c) (h4 : ∀ h : k < R.length, R[k] = c) : Lib.cut R [c] = (R.take k, R.drop (k + 1), decide (k < R.length)) := by
  have hn : ∀ j, j < k → Lib.occAt R [c] j = false := fun j hj => by
    cases ho : Lib.occAt R [c] j
    · rfl
    · have h := (occ_one R j c).1 ho
      rw [List.getElem?_eq_getElem (by omega)] at h
      exact absurd (Option.some.inj h) (h3 j (by omega) hj)
  rcases Nat.lt_or_ge k R.length with h | h
  · rw [decide_eq_true h]
    exact cut_hit hk ((occ_one R k c).2 (by rw [List.getElem?_eq_getElem h, h4 h])) hn
  · rw [decide_eq_false (by omega), List.take_of_length_le h, List.drop_of_length_le (by omega)]
    refine cut_miss fun j hj => ?_
    rcases Nat.lt_or_ge j k with h2 | h2
    · exact hn j h2
    · cases ho : Lib.occAt R [c] j
      · rfl
      · have h := (occ_one R j c).1 ho
        rw [List.getElem?_eq_none (by omega)] at h
        cases h
/-- places of the parts of what stands behind the scheme -/
theorem parts_at {R : List UInt8} {i k : Nat} (hik : i ≤ k) (hk : k ≤ R.length) (h1 : ∀ j (h : j < R.length), j < i → R[j] ≠ 47 ∧ R[j] ≠ 63) (h2 : ∀ h : i < R.length, R[i] = 47 ∨ R[i] = 63) (h3 : ∀ j (h : j < R.length), j < k → R[j] ≠ 63) (h4 : ∀ h : k < R.length, R[k] = 63) :
    Lib.cut R [63] = (R.take k, R.drop (k + 1), decide (k < R.length)) ∧ Lib.cut (R.take k) [47] = (R.take i, (R.take k).drop (i + 1), decide (i < k)) ∧ (R.take k).drop i = (if decide (i < k) then 47 :: (R.take k).drop (i + 1) else []) := by
  have hl : (R.take k).length = k := by rw [List.length_take]; omega
  have h47 : ∀ h : i < (R.take k).length, (R.take k)[i] = 47 := fun h => by
    rw [List.getElem_take]
    rcases h2 (by omega) with h5 | h5
    · exact h5
    · exact absurd h5 (h3 i (by omega) (by omega))
  refine ⟨cut_at1 hk h3 h4, ?_, ?_⟩
  · have h := cut_at1 (R := R.take k) (c := 47) (k := i) (by omega) (fun j hj hji => by rw [List.getElem_take]; exact (h1 j (by omega) hji).1) h47
    rw [h, hl, List.take_take, Nat.min_eq_left hik]
  · rcases Nat.lt_or_ge i k with h | h
    · rw [decide_eq_true h, if_pos rfl, List.drop_eq_getElem_cons (by omega), h47 (by omega)]
    · rw [decide_eq_false (by omega), List.drop_of_length_le (by omega)]; rfl
end Go.Proofs.YtnpiaifkeddjeaaGreatDoor

/- The document's own answer: what a text is as a URI. -/
namespace Go.Proofs.YtnpiaifkeddjeaaGreatDoor
open Go.RowKit

theorem numU_bd (l : List UInt8) : 0 ≤ numU l ∧ numU l ≤ 100000 := by
  unfold numU
  by_cases h1 : l = [] ∨ 5 < l.length ∨ l.head? = some 48
  · rw [if_pos h1]; omega
  · rw [if_neg h1]
    cases h2 : l.all digB
    · simp
    · rw [if_pos rfl]
      have h3 := decU_pow l h2
      have h4 : l.length ≤ 5 := by
        rcases Nat.lt_or_ge 5 l.length with h | h
        · exact absurd (.inr (.inl h)) h1
        · exact h
      have h5 : decV l < 10 ^ 5 := Nat.lt_of_lt_of_le h3 (Nat.pow_le_pow_right (by decide) h4)
      omega
theorem docParts_ok (s : List UInt8) (hl : s.length ≤ 1024) : (docParts s).okW := by
  have l0 := cut_leU s [58, 47, 47]
  have l1 := cut_leU (Lib.cut s [58, 47, 47]).2.1 [63]
  have l2 := cut_leU (Lib.cut (Lib.cut s [58, 47, 47]).2.1 [63]).1 [47]
  have l3 := cut_leU (Lib.cut (Lib.cut (Lib.cut s [58, 47, 47]).2.1 [63]).1 [47]).1 [58]
  have hn := numU_bd (Lib.cut (Lib.cut (Lib.cut (Lib.cut s [58, 47, 47]).2.1 [63]).1 [47]).1 [58]).2.1
  unfold docParts
  refine ⟨?_, ?_, ?_⟩
  · simp only
    split
    · simp only [List.length_cons]; omega
    · simp only [List.length_cons, List.length_nil]; omega
  · simp only
    split <;> omega
  · simp only
    split <;> omega
theorem lstU (R : ByteArray) (j : Nat) (h : j < R.data.toList.length) : R.data.toList[j] = R[j]'(by rw [size_len]; exact h) := by
  rw [ByteArray.getElem_eq_getElem_data, ← Array.getElem_toList]
theorem neU {c : UInt8} {n : Nat} (hn : n < 256) (h : c ≠ UInt8.ofNat n) : ((c.toNat : Int) != (n : Int)) = true := by
  rw [bne_iff_ne]
  intro h2
  exact h (UInt8.toNat_inj.1 (by rw [UInt8.toNat_ofNat']; omega))
theorem PIn.below {w W W' : World} {sc ho pa qu : ByteArray} {po : Int} {hq : Bool} (h : PIn w sc ho po pa qu hq W) (hb : Below W.heap.size W W') : PIn w sc ho po pa qu hq W' :=
  ⟨h.res.below hb, h.u.below hb, h.bel.trans (hb.mono h.bel.size)⟩
/-- what the document's Parse has found of the host and the port: nothing yet, or all -/
def HoIn (H : List UInt8) (HB hb : ByteArray) (j : Nat) (p : Int) : Prop :=
  (hb = HB ∧ p = 0 ∧ ∀ i (h : i < H.length), i < j → H[i] ≠ 58) ∨ (hb.size < j ∧ ∃ X, Lib.cut H [58] = (hb.data.toList, X, true) ∧ p = numU X ∧ p ≠ 0)
theorem HoIn.fin {H : List UInt8} {HB hb : ByteArray} {j : Nat} {p : Int} (h : HoIn H HB hb j p) (hHB : HB.data.toList = H) (hj : ¬ j < hb.size) :
    hb = bs (Lib.cut H [58]).1 ∧ p = (if (Lib.cut H [58]).2.2 then numU (Lib.cut H [58]).2.1 else 0) ∧ ((Lib.cut H [58]).2.2 && decide (numU (Lib.cut H [58]).2.1 = 0)) = false := by
  rcases h with ⟨rfl, rfl, h⟩ | ⟨-, X, h, rfl, h0⟩
  · have hl : H.length ≤ j := by rw [size_len, hHB] at hj; omega
    have hc := cut_at1 (R := H) (c := 58) (k := H.length) (Nat.le_refl _) (fun i hi _ => h i hi (by omega)) (fun h => absurd h (Nat.lt_irrefl _))
    rw [hc, decide_eq_false (Nat.lt_irrefl _), List.take_length]
    exact ⟨bs_of hHB, rfl, rfl⟩
  · rw [h]
    exact ⟨bs_of rfl, rfl, by simpa using h0⟩

set_option maxHeartbeats 4000000 in
set_option maxRecDepth 100000 in
theorem uparse_any (s : ByteArray) (w : World) :
    Calls Tryz.prog 84 #[.string s] w (RetU w (docU s.data.toList)) := by
  by_cases hl : 1024 < s.size
  · have hp : docU s.data.toList = (ur0, 3) := if_pos (by rw [← size_len]; exact hl)
    rw [hp]
    clear hp
    have hsz : (1024 : Int) < (s.size : Int) := by omega
    have hal : Below w.heap.size w (w.alloc (.cells #[.string ⟨#[]⟩, .string ⟨#[]⟩, .int .i64 0, .string ⟨#[]⟩, .string ⟨#[]⟩, .bool false] 23)) := (Below.refl _ _).alloc (Nat.le_refl _) _
    have HP : Hid (ubk (w.alloc (.cells #[.string ⟨#[]⟩, .string ⟨#[]⟩, .int .i64 0, .string ⟨#[]⟩, .string ⟨#[]⟩, .bool false] 23)) w.heap.size #[.string ⟨#[]⟩, .string ⟨#[]⟩, .int .i64 0, .string ⟨#[]⟩, .string ⟨#[]⟩, .bool false]) := ubk.new w #[.string ⟨#[]⟩, .string ⟨#[]⟩, .int .i64 0, .string ⟨#[]⟩, .string ⟨#[]⟩, .bool false] 23
    have HAL := Lib.hid hal; clear hal
    show Calls Tryz.prog 84 #[.string s] w fun e w' => e = .returned (.tuple #[.agg #[.string ⟨#[]⟩, .string ⟨#[]⟩, .int .i64 0, .string ⟨#[]⟩, .string ⟨#[]⟩, .bool false], .int .i64 3]) ∧ Below w.heap.size w w'
    go_enter Tryz.func84, Tryz.ntmps84
    go_wp2_with fail
    have m0 := HP.out.cell 0 (.string ⟨#[]⟩) rfl
    have m1 := HP.out.cell 1 (.string ⟨#[]⟩) rfl
    have m2 := HP.out.cell 2 (.int .i64 0) rfl
    have m3 := HP.out.cell 3 (.string ⟨#[]⟩) rfl
    have m4 := HP.out.cell 4 (.string ⟨#[]⟩) rfl
    have m5 := HP.out.cell 5 (.bool false) rfl
    refine bodyPost_ret (v := .tuple #[.agg #[.string ⟨#[]⟩, .string ⟨#[]⟩, .int .i64 0, .string ⟨#[]⟩, .string ⟨#[]⟩, .bool false], .int .i64 3]) (by simp [results, Tryz.results84, go_sem, m0, m1, m2, m3, m4, m5]) rfl ⟨?_, HAL.out⟩
    rfl
  · have hp : docU s.data.toList = if (Lib.cut s.data.toList [58, 47, 47]).2.2 = false then (ur0, 4) else if portBad s.data.toList then (ur0, 4) else if (docParts s.data.toList).check = 0 then (docParts s.data.toList, 0) else (ur0, (docParts s.data.toList).check) := if_neg (by rw [← size_len]; exact hl)
    have HD := Lib.hid hp; clear hp
    generalize docU s.data.toList = P at *
    have hsz : ¬ (1024 : Int) < (s.size : Int) := by omega
    have hs : s.size ≤ 1024 := by omega
    have HP := Lib.hid (PIn.start w)
    clear hl
    go_enter Tryz.func84, Tryz.ntmps84
    have hz1 : (w.alloc (.cells #[.string ⟨#[]⟩, .string ⟨#[]⟩, .int .i64 0, .string ⟨#[]⟩, .string ⟨#[]⟩, .bool false] 23)).heap.size = w.heap.size + 1 := World.size_alloc _ _
    have uc0 := HP.out.u.cell 0 (.string ⟨#[]⟩) rfl
    have uf0 := HP.out.u.free 0
    have uc1 := HP.out.u.cell 1 (.string ⟨#[]⟩) rfl
    have uf1 := HP.out.u.free 1
    have uc2 := HP.out.u.cell 2 (.int .i64 0) rfl
    have uf2 := HP.out.u.free 2
    have uc3 := HP.out.u.cell 3 (.string ⟨#[]⟩) rfl
    have uf3 := HP.out.u.free 3
    have uc4 := HP.out.u.cell 4 (.string ⟨#[]⟩) rfl
    have uf4 := HP.out.u.free 4
    have uc5 := HP.out.u.cell 5 (.bool false) rfl
    have uf5 := HP.out.u.free 5
    have hwz : w.heap.size < ((w.alloc (.cells #[.string ⟨#[]⟩, .string ⟨#[]⟩, .int .i64 0, .string ⟨#[]⟩, .string ⟨#[]⟩, .bool false] 23)).alloc (.cells #[.string ⟨#[]⟩, .string ⟨#[]⟩, .int .i64 0, .string ⟨#[]⟩, .string ⟨#[]⟩, .bool false] 23)).heap.size := by simp; omega
    go_wp2_with fail
    generalize (w.alloc (.cells #[.string ⟨#[]⟩, .string ⟨#[]⟩, .int .i64 0, .string ⟨#[]⟩, .string ⟨#[]⟩, .bool false] 23)).alloc (.cells #[.string ⟨#[]⟩, .string ⟨#[]⟩, .int .i64 0, .string ⟨#[]⟩, .string ⟨#[]⟩, .bool false] 23) = W0 at *
    clear hwz hz1
    go_loop [5] (fun i => ∃ k : Nat, k ≤ s.size ∧ i = .int .i64 k ∧ Hid (∀ j, j < k → Lib.occAt s.data.toList [58, 47, 47] j = false)) (fun i => s.size - (intOf i).toNat)
    case atStart => exact ⟨0, Nat.zero_le _, rfl, fun j hj => by omega⟩
    case round =>
      obtain ⟨k, hk, rfl, HNO⟩ := hrel
      by_cases h3 : k + 3 ≤ s.size
      · have ho3 := occ3 h3
        cases hoc : Lib.occAt s.data.toList [58, 47, 47] k
        · have HN2 : Hid (∀ j, j < k + 1 → Lib.occAt s.data.toList [58, 47, 47] j = false) := fun j hj => by
            rcases Nat.lt_or_ge j k with h | h
            · exact HNO.out j h
            · obtain rfl : j = k := by omega
              exact hoc
          rw [hoc] at ho3
          clear hoc
          go_wp2_with fail
          go_round
          case rel => exact ⟨k + 1, by omega, by go_num, HN2⟩
          case measure => simp [intOf]; omega
        · rw [hoc] at ho3
          have HC := Lib.hid (cut_hit (show k ≤ s.data.toList.length by rw [← size_len]; omega) hoc HNO.out)
          clear hoc
          have hRt : (s.extract (k + 3) s.size).data.toList = (Lib.cut s.data.toList [58, 47, 47]).2.1 := by rw [HC.out, Lib.extract_to_end]; rfl
          have hSt : s.extract 0 k = bs (Lib.cut s.data.toList [58, 47, 47]).1 := by rw [HC.out]; exact bs_of (Lib.extract_from_zero _ _)
          have hRz : (s.extract (k + 3) s.size).size ≤ 1024 := by rw [ByteArray.size_extract]; omega
          have HRT := Lib.hid hRt; have HST := Lib.hid hSt; have HRZ := Lib.hid hRz; clear hRt hSt hRz
          have HF : Hid ((Lib.cut s.data.toList [58, 47, 47]).2.2 = true) := by show _ = _; rw [HC.out]
          have HP1 := Lib.hid (HP.out.sc (s.extract 0 k))
          go_upto_block 2 with fail
          clear uc0 uf0 uc1 uf1 uc2 uf2 uc3 uf3 uc4 uf4 uc5 uf5 ho3 h3 HC HNO hk
          generalize W0.setCell ⟨w.heap.size + 1, 0, none⟩ (.string (s.extract 0 k)) = W1 at *
          generalize s.extract (k + 3) s.size = R at *
          generalize s.extract 0 k = SC at *
          clear HP
          have hRz := HRZ.out
          go_cut [6] (fun v wx => ∃ i : Nat, v = .int .i64 i ∧ i ≤ R.size ∧ Hid (∀ j (h : j < R.data.toList.length), j < i → R.data.toList[j] ≠ 47 ∧ R.data.toList[j] ≠ 63) ∧ Hid (∀ h : i < R.data.toList.length, R.data.toList[i] = 47 ∨ R.data.toList[i] = 63) ∧ W1 = wx)
          case first =>
            go_wp2_with fail
            go_loop [6] (fun v => ∃ i : Nat, i ≤ R.size ∧ v = .int .i64 i ∧ Hid (∀ j (h : j < R.data.toList.length), j < i → R.data.toList[j] ≠ 47 ∧ R.data.toList[j] ≠ 63)) (fun v => R.size - (intOf v).toNat)
            case atStart => exact ⟨0, Nat.zero_le _, rfl, fun j h hj => by omega⟩
            case round =>
              obtain ⟨i, hi, rfl, HN⟩ := hrel
              by_cases hlt : i < R.size
              · by_cases h47 : R[i] = 47
                · have q1 : ((R[i].toNat : Int) != 47) = false := by rw [h47]; rfl
                  have HE : Hid (∀ h : i < R.data.toList.length, R.data.toList[i] = 47 ∨ R.data.toList[i] = 63) := fun h => .inl (by rw [lstU]; exact h47)
                  clear h47
                  go_wp2_with fail
                  go_meet
                  exact ⟨i, rfl, hi, HN, HE, rfl⟩
                · have q1 : ((R[i].toNat : Int) != 47) = true := neU (n := 47) (by decide) h47
                  by_cases h63 : R[i] = 63
                  · have q2 : ((R[i].toNat : Int) != 63) = false := by rw [h63]; rfl
                    have HE : Hid (∀ h : i < R.data.toList.length, R.data.toList[i] = 47 ∨ R.data.toList[i] = 63) := fun h => .inr (by rw [lstU]; exact h63)
                    clear h47 h63
                    go_wp2_with fail
                    go_meet
                    exact ⟨i, rfl, hi, HN, HE, rfl⟩
                  · have q2 : ((R[i].toNat : Int) != 63) = true := neU (n := 63) (by decide) h63
                    have HN2 : Hid (∀ j (h : j < R.data.toList.length), j < i + 1 → R.data.toList[j] ≠ 47 ∧ R.data.toList[j] ≠ 63) := fun j h hj => by
                      rcases Nat.lt_or_ge j i with h2 | h2
                      · exact HN.out j h h2
                      · obtain rfl : j = i := by omega
                        rw [lstU]; exact ⟨h47, h63⟩
                    clear h47 h63
                    go_wp2_with fail
                    go_round
                    case rel => exact ⟨i + 1, by omega, by go_num, HN2⟩
                    case measure => simp [intOf]; omega
              · have HE : Hid (∀ h : i < R.data.toList.length, R.data.toList[i] = 47 ∨ R.data.toList[i] = 63) := fun h => absurd (by rw [size_len]; exact h) hlt
                go_wp2_with fail
                go_meet
                exact ⟨i, rfl, hi, HN, HE, rfl⟩
          case rest =>
            obtain ⟨i, rfl, hi, HN, HE, rfl⟩ := hcut
            have HP2 := Lib.hid (HP1.out.ho (R.extract 0 i))
            have c1 := HP1.out.u.cell 1 (.string ⟨#[]⟩) rfl
            have f1 := HP1.out.u.free 1
            go_upto_block 4 with fail
            generalize W1.setCell ⟨w.heap.size + 1, 1, none⟩ (.string (R.extract 0 i)) = W2 at *
            clear HP1 c1 f1
            go_cut [7] (fun v wx => ∃ k2 : Nat, v = .int .i64 k2 ∧ i ≤ k2 ∧ k2 ≤ R.size ∧ Hid (∀ j (h : j < R.data.toList.length), j < k2 → R.data.toList[j] ≠ 63) ∧ Hid (∀ h : k2 < R.data.toList.length, R.data.toList[k2] = 63) ∧ W2 = wx)
            case first =>
              go_wp2_with fail
              go_loop [7] (fun v => ∃ k2 : Nat, i ≤ k2 ∧ k2 ≤ R.size ∧ v = .int .i64 k2 ∧ Hid (∀ j (h : j < R.data.toList.length), j < k2 → R.data.toList[j] ≠ 63)) (fun v => R.size - (intOf v).toNat)
              case atStart => exact ⟨i, Nat.le_refl _, hi, rfl, fun j h hj => (HN.out j h hj).2⟩
              case round =>
                obtain ⟨k2, hik, hi2, rfl, HM⟩ := hrel
                by_cases hlt : k2 < R.size
                · by_cases h63 : R[k2] = 63
                  · have q2 : ((R[k2].toNat : Int) != 63) = false := by rw [h63]; rfl
                    have HE2 : Hid (∀ h : k2 < R.data.toList.length, R.data.toList[k2] = 63) := fun h => by rw [lstU]; exact h63
                    clear h63
                    go_wp2_with fail
                    go_meet
                    exact ⟨k2, rfl, hik, hi2, HM, HE2, rfl⟩
                  · have q2 : ((R[k2].toNat : Int) != 63) = true := neU (n := 63) (by decide) h63
                    have HN2 : Hid (∀ j (h : j < R.data.toList.length), j < k2 + 1 → R.data.toList[j] ≠ 63) := fun j h hj => by
                      rcases Nat.lt_or_ge j k2 with h2 | h2
                      · exact HM.out j h h2
                      · obtain rfl : j = k2 := by omega
                        rw [lstU]; exact h63
                    clear h63
                    go_wp2_with fail
                    go_round
                    case rel => exact ⟨k2 + 1, by omega, by omega, by go_num, HN2⟩
                    case measure => simp [intOf]; omega
                · have HE2 : Hid (∀ h : k2 < R.data.toList.length, R.data.toList[k2] = 63) := fun h => absurd (by rw [size_len]; exact h) hlt
                  go_wp2_with fail
                  go_meet
                  exact ⟨k2, rfl, hik, hi2, HM, HE2, rfl⟩
            case rest =>
              obtain ⟨k2, rfl, hik, hi2, HM, HE2, rfl⟩ := hcut
              obtain ⟨p1, p2, p3⟩ := parts_at hik (by rw [← size_len]; exact hi2) HN.out HE.out HM.out HE2.out
              have HHO : Hid ((R.extract 0 i).data.toList = (Lib.cut (Lib.cut R.data.toList [63]).1 [47]).1) := by show _ = _; rw [p1]; simp only; rw [p2]; exact Lib.extract_from_zero _ _
              have HPA : Hid (R.extract i k2 = bs (if (Lib.cut (Lib.cut R.data.toList [63]).1 [47]).2.2 then 47 :: (Lib.cut (Lib.cut R.data.toList [63]).1 [47]).2.1 else [])) := by
                refine bs_of ?_
                rw [p1]; simp only; rw [p2]; simp only; rw [← p3, List.drop_take]
                exact Lib.extract_data _ _ _
              have HQU : Hid (R.extract (k2 + 1) R.size = bs (Lib.cut R.data.toList [63]).2.1) := by rw [p1]; exact bs_of (Lib.extract_to_end _ _)
              have HHQ : Hid ((Lib.cut R.data.toList [63]).2.2 = decide (k2 < R.size)) := by show _ = _; rw [p1, size_len]
              have HQE : Hid (¬ k2 < R.size → (Lib.cut R.data.toList [63]).2.1 = []) := fun h => by rw [p1]; exact List.drop_of_length_le (by rw [← size_len]; omega)
              clear p1 p2 p3 HN HE HM HE2
              have c3 := HP2.out.u.cell 3 (.string ⟨#[]⟩) rfl
              have f3 := HP2.out.u.free 3
              have HP3 := Lib.hid (HP2.out.pa (R.extract i k2))
              go_upto_if 87 with fail
              generalize W2.setCell ⟨w.heap.size + 1, 3, none⟩ (.string (R.extract i k2)) = W3 at *
              clear HP2 c3 f3
              generalize R.extract i k2 = PA at *
              generalize R.extract 0 i = HB at *
              have HRZ2 := HRZ
              go_cut [] (fun wx => PIn w SC HB 0 PA (bs (Lib.cut R.data.toList [63]).2.1) (Lib.cut R.data.toList [63]).2.2 wx)
              case first =>
                by_cases hk2 : k2 < R.size
                · have c4 := HP3.out.u.cell 4 (.string ⟨#[]⟩) rfl
                  have f4 := HP3.out.u.free 4
                  have c5 := HP3.out.u.cell 5 (.bool false) rfl
                  have f5 := HP3.out.u.free 5
                  have hkz : (k2 : Int) + 1 ≤ (R.size : Int) := by omega
                  have HQ2 : Hid (PIn w SC HB 0 PA (R.extract (k2 + 1) R.size) true ((W3.setCell ⟨w.heap.size + 1, 5, none⟩ (.bool true)).setCell ⟨w.heap.size + 1, 4, none⟩ (.string (R.extract (k2 + 1) R.size)))) := (HP3.out.hq true).qu _
                  go_wp2_with fail
                  go_meet
                  rw [HHQ.out, decide_eq_true hk2, ← HQU.out]
                  exact HQ2.out
                · go_wp2_with fail
                  go_meet
                  rw [HHQ.out, decide_eq_false hk2, HQE.out hk2]
                  exact HP3.out
              case rest =>
                have HP4 := Lib.hid hcut; clear hcut HP3 HQU HHQ HQE
                have hQUg : (docParts s.data.toList).qu = (Lib.cut R.data.toList [63]).2.1 := by rw [HRT.out]; rfl
                have hHQg : (docParts s.data.toList).hq = (Lib.cut R.data.toList [63]).2.2 := by rw [HRT.out]; rfl
                rw [← hQUg, ← hHQg] at HP4
                have hPAg : (docParts s.data.toList).pa = (if (Lib.cut (Lib.cut R.data.toList [63]).1 [47]).2.2 then 47 :: (Lib.cut (Lib.cut R.data.toList [63]).1 [47]).2.1 else [47]) := by rw [HRT.out]; rfl
                have HPg := Lib.hid hPAg
                have HDP := Lib.hid (docParts_ok s.data.toList (by rw [← size_len]; exact hs))
                have hSCg : (docParts s.data.toList).sc = (Lib.cut s.data.toList [58, 47, 47]).1 := rfl
                have hHOg : (docParts s.data.toList).ho = (Lib.cut HB.data.toList [58]).1 := by rw [HHO.out, HRT.out]; rfl
                have hPOg : (docParts s.data.toList).po = (if (Lib.cut HB.data.toList [58]).2.2 then numU (Lib.cut HB.data.toList [58]).2.1 else 0) := by rw [HHO.out, HRT.out]; rfl
                have hPBg : portBad s.data.toList = ((Lib.cut HB.data.toList [58]).2.2 && decide (numU (Lib.cut HB.data.toList [58]).2.1 = 0)) := by rw [HHO.out, HRT.out]; rfl
                have HSCg := Lib.hid hSCg; have HHOg := Lib.hid hHOg; have HPOg := Lib.hid hPOg; have HPBg := Lib.hid hPBg
                have hhz : HB.size ≤ 1024 := by have := HRZ2.out; rw [size_len, HHO.out]; have h1 := (cut_leU R.data.toList [63]).1; have h2 := (cut_leU (Lib.cut R.data.toList [63]).1 [47]).1; have h3 := size_len R; omega
                rw [hSCg.symm] at HST
                clear hQUg hHQg hPAg hSCg hHOg hPOg hPBg
                generalize docParts s.data.toList = D at *
                obtain ⟨dsc, dho, dpo, dpa, dqu, dhq⟩ := D
                have c3 := HP4.out.u.cell 3 (.string PA) rfl
                have f3 := HP4.out.u.free 3
                go_upto_if 96 with fail
                go_cut [] (fun wx => PIn w SC HB 0 (bs dpa) (bs dqu) dhq wx)
                case first =>
                  cases hc3 : (Lib.cut (Lib.cut R.data.toList [63]).1 [47]).2.2
                  · have hpa : PA = ⟨#[]⟩ := by have h := HPA.out; rw [hc3] at h; exact h
                    have hdp : dpa = [47] := by have h := HPg.out; rw [hc3] at h; exact h
                    have q2 : PA.toList.isEmpty = true := by rw [hpa, Lib.toList_data]; rfl
                    clear hpa
                    subst hdp
                    have HP5 : Hid (PIn w SC HB 0 (bs [47]) (bs dqu) dhq (wc.setCell ⟨w.heap.size + 1, 3, none⟩ (.string ⟨#[47]⟩))) := HP4.out.pa _
                    go_wp2_with fail
                    · go_meet
                      exact HP5.out
                    · rename_i h _
                      rw [q2] at h; cases h
                  · have q2 : PA.toList.isEmpty = false := by have h := HPA.out; rw [hc3] at h; rw [h, Lib.toList_data, bs_data]; rfl
                    have hdp : PA = bs dpa := by have h := HPA.out; rw [hc3] at h; have h2 := HPg.out; rw [hc3] at h2; simp only [if_true] at h h2; rw [h, ← h2]
                    have HP5 : Hid (PIn w SC HB 0 (bs dpa) (bs dqu) dhq wc) := by show PIn _ _ _ _ _ _ _ _; rw [← hdp]; exact HP4.out
                    clear hdp
                    go_wp2_with fail
                    · rename_i h _
                      rw [q2] at h; cases h
                    · go_meet
                      exact HP5.out
                case rest =>
                  clear HP4 c3 f3 HPA HPg
                  have HP5 := Lib.hid hcut; clear hcut
                  go_wp2_with fail
                  go_loopw [8] (fun v wx => ∃ (j : Nat) (hb : ByteArray) (p : Int), v = .int .i64 j ∧ PIn w SC hb p (bs dpa) (bs dqu) dhq wx ∧ j ≤ HB.size ∧ Hid (HoIn HB.data.toList HB hb j p)) (fun v _ => HB.size - (intOf v).toNat)
                  case atStart => exact ⟨0, HB, 0, rfl, HP5.out, Nat.zero_le _, .inl ⟨rfl, rfl, fun i h hj => by omega⟩⟩
                  case round =>
                    obtain ⟨j, hb, p, rfl, hp, hjz, HI⟩ := hrel
                    have HP6 := Lib.hid hp; clear hp HP5
                    have c1 := HP6.out.u.cell 1 (.string hb) rfl
                    have f1 := HP6.out.u.free 1
                    by_cases hj : j < hb.size
                    · have hI := HI.out
                      rcases hI with ⟨rfl, rfl, hno⟩ | ⟨h, -⟩
                      · have HNC := Lib.hid hno; clear hno
                        by_cases h58 : hb[j] = 58
                        · have q1 : ((hb[j].toNat : Int) == 58) = true := by rw [h58]; rfl
                          have HC : Hid (Lib.cut hb.data.toList [58] = (hb.data.toList.take j, hb.data.toList.drop (j + 1), true)) := by
                            have h := cut_at1 (R := hb.data.toList) (c := 58) (k := j) (by rw [← size_len]; omega) HNC.out (fun h => by rw [lstU]; exact h58)
                            rw [decide_eq_true (by rw [← size_len]; exact hj)] at h
                            exact h
                          clear h58 HI
                          have HX := Lib.hid (Lib.extract_to_end hb (j + 1))
                          have HY := Lib.hid (Lib.extract_from_zero hb j)
                          have HYZ : Hid ((hb.extract 0 j).size = j) := by show _ = _; rw [ByteArray.size_extract]; omega
                          have HNM := Lib.hid (fun W => unumber_any (hb.extract (j + 1) hb.size) W (by rw [ByteArray.size_extract]; omega))
                          rw [HX.out] at HNM
                          have c2 := HP6.out.u.cell 2 (.int .i64 0) rfl
                          have f2 := HP6.out.u.free 2
                          have HP7 := Lib.hid ((HP6.out.po (numU (hb.data.toList.drop (j + 1)))).ho (hb.extract 0 j))
                          have hc3 := HP7.out.u.cell 2 (.int .i64 (numU (hb.data.toList.drop (j + 1)))) rfl
                          have hf3 := HP7.out.u.free 2
                          generalize hnn : numU (hb.data.toList.drop (j + 1)) = nn at *
                          by_cases hn0 : nn = 0
                          · have q0 : (nn == 0) = true := by rw [hn0]; rfl
                            have HB2 : Hid (portBad s.data.toList = true) := by
                              show _ = _
                              rw [HPBg.out, HC.out]
                              simp only [Bool.true_and]
                              rw [hnn, hn0]; rfl
                            clear hn0 hnn
                            have nc0 := HP7.out.res.cell 0 (.string ⟨#[]⟩) rfl
                            have nf0 := HP7.out.res.free 0
                            have nc1 := HP7.out.res.cell 1 (.string ⟨#[]⟩) rfl
                            have nf1 := HP7.out.res.free 1
                            have nc2 := HP7.out.res.cell 2 (.int .i64 0) rfl
                            have nf2 := HP7.out.res.free 2
                            have nc3 := HP7.out.res.cell 3 (.string ⟨#[]⟩) rfl
                            have nf3 := HP7.out.res.free 3
                            have nc4 := HP7.out.res.cell 4 (.string ⟨#[]⟩) rfl
                            have nf4 := HP7.out.res.free 4
                            have nc5 := HP7.out.res.cell 5 (.bool false) rfl
                            have nf5 := HP7.out.res.free 5
                            have hq0 := ((((((HP7.out.res.set 0 (.string ⟨#[]⟩)).set 1 (.string ⟨#[]⟩)).set 2 (.int .i64 0)).set 3 (.string ⟨#[]⟩)).set 4 (.string ⟨#[]⟩)).set 5 (.bool false))
                            simp only [List.setIfInBounds_toArray, List.set_cons_zero, List.set_cons_succ] at hq0
                            have HQ0 := Lib.hid hq0; clear hq0
                            have HBF : Hid (Below w.heap.size w ((((((((wr.setCell ⟨w.heap.size + 1, 2, none⟩ (.int .i64 nn)).setCell ⟨w.heap.size + 1, 1, none⟩ (.string (hb.extract 0 j))).setCell ⟨w.heap.size, 0, none⟩ (.string ⟨#[]⟩)).setCell ⟨w.heap.size, 1, none⟩ (.string ⟨#[]⟩)).setCell ⟨w.heap.size, 2, none⟩ (.int .i64 0)).setCell ⟨w.heap.size, 3, none⟩ (.string ⟨#[]⟩)).setCell ⟨w.heap.size, 4, none⟩ (.string ⟨#[]⟩)).setCell ⟨w.heap.size, 5, none⟩ (.bool false))) := ((((((HP7.out.bel.setCell (p := ⟨w.heap.size, 0, none⟩) (Nat.le_refl _) (.string ⟨#[]⟩)).setCell (p := ⟨w.heap.size, 1, none⟩) (Nat.le_refl _) (.string ⟨#[]⟩)).setCell (p := ⟨w.heap.size, 2, none⟩) (Nat.le_refl _) (.int .i64 0)).setCell (p := ⟨w.heap.size, 3, none⟩) (Nat.le_refl _) (.string ⟨#[]⟩)).setCell (p := ⟨w.heap.size, 4, none⟩) (Nat.le_refl _) (.string ⟨#[]⟩)).setCell (p := ⟨w.heap.size, 5, none⟩) (Nat.le_refl _) (.bool false))
                            go_wp2_with (go_at_call 105; refine (HNM.out _).mono ?_; rintro e w' ⟨rfl, rfl⟩)
                            have m0 := HQ0.out.cell 0 (.string ⟨#[]⟩) rfl
                            have m1 := HQ0.out.cell 1 (.string ⟨#[]⟩) rfl
                            have m2 := HQ0.out.cell 2 (.int .i64 0) rfl
                            have m3 := HQ0.out.cell 3 (.string ⟨#[]⟩) rfl
                            have m4 := HQ0.out.cell 4 (.string ⟨#[]⟩) rfl
                            have m5 := HQ0.out.cell 5 (.bool false) rfl
                            refine bodyPost_ret (v := .tuple #[.agg #[.string ⟨#[]⟩, .string ⟨#[]⟩, .int .i64 0, .string ⟨#[]⟩, .string ⟨#[]⟩, .bool false], .int .i64 4]) (by simp [results, Tryz.results84, go_sem, m0, m1, m2, m3, m4, m5]) rfl ⟨?_, HBF.out⟩
                            have hPe : P = (ur0, 4) := by rw [HD.out, HF.out, HB2.out]; rfl
                            rw [hPe]; rfl
                          · have q0 : (nn == 0) = false := beq_eq_false_iff_ne.2 hn0
                            have HI2 : Hid (HoIn hb.data.toList hb (hb.extract 0 j) (j + 1) nn) := .inr ⟨by rw [HYZ.out]; omega, hb.data.toList.drop (j + 1), by rw [HC.out, HY.out], hnn.symm, hn0⟩
                            clear hn0 hnn
                            go_wp2_with (go_at_call 105; refine (HNM.out _).mono ?_; rintro e w' ⟨rfl, rfl⟩)
                            go_roundw
                            case rel => exact ⟨j + 1, hb.extract 0 j, nn, by go_num, HP7.out, by omega, HI2⟩
                            case measure => simp [intOf]; omega
                        · have q1 : ((hb[j].toNat : Int) == 58) = false := by rw [beq_eq_false_iff_ne]; intro h; exact h58 (UInt8.toNat_inj.1 (by simpa using (by omega : hb[j].toNat = 58)))
                          have HI2 : Hid (HoIn hb.data.toList hb hb (j + 1) 0) := .inl ⟨rfl, rfl, fun i h hi => by
                            rcases Nat.lt_or_ge i j with h2 | h2
                            · exact HNC.out i h h2
                            · obtain rfl : i = j := by omega
                              rw [lstU]; exact h58⟩
                          clear h58 HI
                          go_wp2_with fail
                          go_roundw
                          case rel => exact ⟨j + 1, hb, 0, by go_num, HP6.out, by omega, HI2⟩
                          case measure => simp [intOf]; omega
                      · omega
                    · obtain ⟨g1, g2, g3⟩ := HI.out.fin rfl hj
                      rw [← HHOg.out] at g1
                      rw [← HPOg.out] at g2
                      have g1 : hb = bs dho := g1
                      have g2 : p = dpo := g2
                      have HB2 : Hid (portBad s.data.toList = false) := by show _ = _; rw [HPBg.out]; exact g3
                      clear g3
                      subst g1
                      have g3 := g2.symm
                      subst g3
                      have hsc : SC = bs dsc := HST.out
                      subst hsc
                      have hF2 : ¬ (Lib.cut s.data.toList [58, 47, 47]).2.2 = false := by rw [HF.out]; decide
                      have HP8 : Hid (P = if Ur.check ⟨dsc, dho, dpo, dpa, dqu, dhq⟩ = 0 then (⟨dsc, dho, dpo, dpa, dqu, dhq⟩, 0) else (ur0, Ur.check ⟨dsc, dho, dpo, dpa, dqu, dhq⟩)) := by show _ = _; rw [HD.out, if_neg hF2, HB2.out, if_neg Bool.false_ne_true]
                      have HCK := Lib.hid (fun W => ucheck_any ⟨dsc, dho, dpo, dpa, dqu, dhq⟩ W HDP.out)
                      clear hF2 HD HF HB2 HPBg HPOg HHOg HSCg HST HI c1 f1 HDP
                      generalize Ur.check ⟨dsc, dho, dpo, dpa, dqu, dhq⟩ = ck at *
                      have vc0 := HP6.out.u.cell 0 (.string (bs dsc)) rfl
                      have vf0 := HP6.out.u.free 0
                      have vc1 := HP6.out.u.cell 1 (.string (bs dho)) rfl
                      have vf1 := HP6.out.u.free 1
                      have vc2 := HP6.out.u.cell 2 (.int .i64 dpo) rfl
                      have vf2 := HP6.out.u.free 2
                      have vc3 := HP6.out.u.cell 3 (.string (bs dpa)) rfl
                      have vf3 := HP6.out.u.free 3
                      have vc4 := HP6.out.u.cell 4 (.string (bs dqu)) rfl
                      have vf4 := HP6.out.u.free 4
                      have vc5 := HP6.out.u.cell 5 (.bool dhq) rfl
                      have vf5 := HP6.out.u.free 5
                      go_wp2_with fail
                      refine (HCK.out _).mono ?_
                      rintro r w6 ⟨rfl, hb6⟩
                      have HP9 := Lib.hid (HP6.out.below hb6); clear hb6 vc0 vf0 vc1 vf1 vc2 vf2 vc3 vf3 vc4 vf4 vc5 vf5
                      by_cases hk0 : ck = 0
                      · have q0 : (ck != 0) = false := by rw [hk0]; rfl
                        have hPe : P = (⟨dsc, dho, dpo, dpa, dqu, dhq⟩, 0) := by rw [HP8.out, if_pos hk0]
                        clear hk0 HP8
                        have HPE := Lib.hid hPe; clear hPe
                        have vc0 := HP9.out.u.cell 0 (.string (bs dsc)) rfl
                        have vf0 := HP9.out.u.free 0
                        have vc1 := HP9.out.u.cell 1 (.string (bs dho)) rfl
                        have vf1 := HP9.out.u.free 1
                        have vc2 := HP9.out.u.cell 2 (.int .i64 dpo) rfl
                        have vf2 := HP9.out.u.free 2
                        have vc3 := HP9.out.u.cell 3 (.string (bs dpa)) rfl
                        have vf3 := HP9.out.u.free 3
                        have vc4 := HP9.out.u.cell 4 (.string (bs dqu)) rfl
                        have vf4 := HP9.out.u.free 4
                        have vc5 := HP9.out.u.cell 5 (.bool dhq) rfl
                        have vf5 := HP9.out.u.free 5
                        have nc0 := HP9.out.res.cell 0 (.string ⟨#[]⟩) rfl
                        have nf0 := HP9.out.res.free 0
                        have nc1 := HP9.out.res.cell 1 (.string ⟨#[]⟩) rfl
                        have nf1 := HP9.out.res.free 1
                        have nc2 := HP9.out.res.cell 2 (.int .i64 0) rfl
                        have nf2 := HP9.out.res.free 2
                        have nc3 := HP9.out.res.cell 3 (.string ⟨#[]⟩) rfl
                        have nf3 := HP9.out.res.free 3
                        have nc4 := HP9.out.res.cell 4 (.string ⟨#[]⟩) rfl
                        have nf4 := HP9.out.res.free 4
                        have nc5 := HP9.out.res.cell 5 (.bool false) rfl
                        have nf5 := HP9.out.res.free 5
                        have hq0 := ((((((HP9.out.res.set 0 (.string (bs dsc))).set 1 (.string (bs dho))).set 2 (.int .i64 dpo)).set 3 (.string (bs dpa))).set 4 (.string (bs dqu))).set 5 (.bool dhq))
                        simp only [List.setIfInBounds_toArray, List.set_cons_zero, List.set_cons_succ] at hq0
                        have HQ0 := Lib.hid hq0; clear hq0
                        have HBF : Hid (Below w.heap.size w ((((((w6.setCell ⟨w.heap.size, 0, none⟩ (.string (bs dsc))).setCell ⟨w.heap.size, 1, none⟩ (.string (bs dho))).setCell ⟨w.heap.size, 2, none⟩ (.int .i64 dpo)).setCell ⟨w.heap.size, 3, none⟩ (.string (bs dpa))).setCell ⟨w.heap.size, 4, none⟩ (.string (bs dqu))).setCell ⟨w.heap.size, 5, none⟩ (.bool dhq))) := ((((((HP9.out.bel.setCell (p := ⟨w.heap.size, 0, none⟩) (Nat.le_refl _) (.string (bs dsc))).setCell (p := ⟨w.heap.size, 1, none⟩) (Nat.le_refl _) (.string (bs dho))).setCell (p := ⟨w.heap.size, 2, none⟩) (Nat.le_refl _) (.int .i64 dpo)).setCell (p := ⟨w.heap.size, 3, none⟩) (Nat.le_refl _) (.string (bs dpa))).setCell (p := ⟨w.heap.size, 4, none⟩) (Nat.le_refl _) (.string (bs dqu))).setCell (p := ⟨w.heap.size, 5, none⟩) (Nat.le_refl _) (.bool dhq))
                        go_wp2_with fail
                        have m0 := HQ0.out.cell 0 (.string (bs dsc)) rfl
                        have m1 := HQ0.out.cell 1 (.string (bs dho)) rfl
                        have m2 := HQ0.out.cell 2 (.int .i64 dpo) rfl
                        have m3 := HQ0.out.cell 3 (.string (bs dpa)) rfl
                        have m4 := HQ0.out.cell 4 (.string (bs dqu)) rfl
                        have m5 := HQ0.out.cell 5 (.bool dhq) rfl
                        refine bodyPost_ret (v := .tuple #[.agg #[.string (bs dsc), .string (bs dho), .int .i64 dpo, .string (bs dpa), .string (bs dqu), .bool dhq], .int .i64 0]) (by simp [results, Tryz.results84, go_sem, m0, m1, m2, m3, m4, m5]) rfl ⟨?_, HBF.out⟩
                        rw [HPE.out]
                      · have q0 : (ck != 0) = true := bne_iff_ne.2 hk0
                        have hPe : P = (ur0, ck) := by rw [HP8.out, if_neg hk0]
                        clear hk0 HP8
                        have HPE := Lib.hid hPe; clear hPe
                        have nc0 := HP9.out.res.cell 0 (.string ⟨#[]⟩) rfl
                        have nf0 := HP9.out.res.free 0
                        have nc1 := HP9.out.res.cell 1 (.string ⟨#[]⟩) rfl
                        have nf1 := HP9.out.res.free 1
                        have nc2 := HP9.out.res.cell 2 (.int .i64 0) rfl
                        have nf2 := HP9.out.res.free 2
                        have nc3 := HP9.out.res.cell 3 (.string ⟨#[]⟩) rfl
                        have nf3 := HP9.out.res.free 3
                        have nc4 := HP9.out.res.cell 4 (.string ⟨#[]⟩) rfl
                        have nf4 := HP9.out.res.free 4
                        have nc5 := HP9.out.res.cell 5 (.bool false) rfl
                        have nf5 := HP9.out.res.free 5
                        have hq0 := ((((((HP9.out.res.set 0 (.string ⟨#[]⟩)).set 1 (.string ⟨#[]⟩)).set 2 (.int .i64 0)).set 3 (.string ⟨#[]⟩)).set 4 (.string ⟨#[]⟩)).set 5 (.bool false))
                        simp only [List.setIfInBounds_toArray, List.set_cons_zero, List.set_cons_succ] at hq0
                        have HQ0 := Lib.hid hq0; clear hq0
                        have HBF : Hid (Below w.heap.size w ((((((w6.setCell ⟨w.heap.size, 0, none⟩ (.string ⟨#[]⟩)).setCell ⟨w.heap.size, 1, none⟩ (.string ⟨#[]⟩)).setCell ⟨w.heap.size, 2, none⟩ (.int .i64 0)).setCell ⟨w.heap.size, 3, none⟩ (.string ⟨#[]⟩)).setCell ⟨w.heap.size, 4, none⟩ (.string ⟨#[]⟩)).setCell ⟨w.heap.size, 5, none⟩ (.bool false))) := ((((((HP9.out.bel.setCell (p := ⟨w.heap.size, 0, none⟩) (Nat.le_refl _) (.string ⟨#[]⟩)).setCell (p := ⟨w.heap.size, 1, none⟩) (Nat.le_refl _) (.string ⟨#[]⟩)).setCell (p := ⟨w.heap.size, 2, none⟩) (Nat.le_refl _) (.int .i64 0)).setCell (p := ⟨w.heap.size, 3, none⟩) (Nat.le_refl _) (.string ⟨#[]⟩)).setCell (p := ⟨w.heap.size, 4, none⟩) (Nat.le_refl _) (.string ⟨#[]⟩)).setCell (p := ⟨w.heap.size, 5, none⟩) (Nat.le_refl _) (.bool false))
                        go_wp2_with fail
                        have m0 := HQ0.out.cell 0 (.string ⟨#[]⟩) rfl
                        have m1 := HQ0.out.cell 1 (.string ⟨#[]⟩) rfl
                        have m2 := HQ0.out.cell 2 (.int .i64 0) rfl
                        have m3 := HQ0.out.cell 3 (.string ⟨#[]⟩) rfl
                        have m4 := HQ0.out.cell 4 (.string ⟨#[]⟩) rfl
                        have m5 := HQ0.out.cell 5 (.bool false) rfl
                        refine bodyPost_ret (v := .tuple #[.agg #[.string ⟨#[]⟩, .string ⟨#[]⟩, .int .i64 0, .string ⟨#[]⟩, .string ⟨#[]⟩, .bool false], .int .i64 ck]) (by simp [results, Tryz.results84, go_sem, m0, m1, m2, m3, m4, m5]) rfl ⟨?_, HBF.out⟩
                        rw [HPE.out]; rfl
      · have HF : Hid ((Lib.cut s.data.toList [58, 47, 47]).2.2 = false) := by
          have h : Lib.cut s.data.toList [58, 47, 47] = (s.data.toList, [], false) := cut_miss fun j hj => by
            rcases Nat.lt_or_ge j k with h | h
            · exact HNO.out j h
            · exact occ3_no (by omega)
          show _ = _
          rw [h]
        have nc0 := HP.out.res.cell 0 (.string ⟨#[]⟩) rfl
        have nf0 := HP.out.res.free 0
        have nc1 := HP.out.res.cell 1 (.string ⟨#[]⟩) rfl
        have nf1 := HP.out.res.free 1
        have nc2 := HP.out.res.cell 2 (.int .i64 0) rfl
        have nf2 := HP.out.res.free 2
        have nc3 := HP.out.res.cell 3 (.string ⟨#[]⟩) rfl
        have nf3 := HP.out.res.free 3
        have nc4 := HP.out.res.cell 4 (.string ⟨#[]⟩) rfl
        have nf4 := HP.out.res.free 4
        have nc5 := HP.out.res.cell 5 (.bool false) rfl
        have nf5 := HP.out.res.free 5
        have hq0 := ((((((HP.out.res.set 0 (.string ⟨#[]⟩)).set 1 (.string ⟨#[]⟩)).set 2 (.int .i64 0)).set 3 (.string ⟨#[]⟩)).set 4 (.string ⟨#[]⟩)).set 5 (.bool false))
        simp only [List.setIfInBounds_toArray, List.set_cons_zero, List.set_cons_succ] at hq0
        have HQ0 := Lib.hid hq0; clear hq0
        have HBF : Hid (Below w.heap.size w ((((((W0.setCell ⟨w.heap.size, 0, none⟩ (.string ⟨#[]⟩)).setCell ⟨w.heap.size, 1, none⟩ (.string ⟨#[]⟩)).setCell ⟨w.heap.size, 2, none⟩ (.int .i64 0)).setCell ⟨w.heap.size, 3, none⟩ (.string ⟨#[]⟩)).setCell ⟨w.heap.size, 4, none⟩ (.string ⟨#[]⟩)).setCell ⟨w.heap.size, 5, none⟩ (.bool false))) := ((((((HP.out.bel.setCell (p := ⟨w.heap.size, 0, none⟩) (Nat.le_refl _) (.string ⟨#[]⟩)).setCell (p := ⟨w.heap.size, 1, none⟩) (Nat.le_refl _) (.string ⟨#[]⟩)).setCell (p := ⟨w.heap.size, 2, none⟩) (Nat.le_refl _) (.int .i64 0)).setCell (p := ⟨w.heap.size, 3, none⟩) (Nat.le_refl _) (.string ⟨#[]⟩)).setCell (p := ⟨w.heap.size, 4, none⟩) (Nat.le_refl _) (.string ⟨#[]⟩)).setCell (p := ⟨w.heap.size, 5, none⟩) (Nat.le_refl _) (.bool false))
        go_wp2_with fail
        have m0 := HQ0.out.cell 0 (.string ⟨#[]⟩) rfl
        have m1 := HQ0.out.cell 1 (.string ⟨#[]⟩) rfl
        have m2 := HQ0.out.cell 2 (.int .i64 0) rfl
        have m3 := HQ0.out.cell 3 (.string ⟨#[]⟩) rfl
        have m4 := HQ0.out.cell 4 (.string ⟨#[]⟩) rfl
        have m5 := HQ0.out.cell 5 (.bool false) rfl
        refine bodyPost_ret (v := .tuple #[.agg #[.string ⟨#[]⟩, .string ⟨#[]⟩, .int .i64 0, .string ⟨#[]⟩, .string ⟨#[]⟩, .bool false], .int .i64 4]) (by simp [results, Tryz.results84, go_sem, m0, m1, m2, m3, m4, m5]) rfl ⟨?_, HBF.out⟩
        have hPe : P = (ur0, 4) := by rw [HD.out, HF.out]; rfl
        rw [hPe]; rfl
end Go.Proofs.YtnpiaifkeddjeaaGreatDoor
