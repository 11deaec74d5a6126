/- The document's own answer: a port's digits, and what a text is as a URI. -/
import Derived.Test.YtekaiafhnnpkgaaGreatDoorUriN
import Derived.Test.YtekaiafhnnpkgaaGreatDoorUri3
import Derived.Test.YtekaiafhnnpkgaaGreatDoorUriI
namespace Go.Proofs.YtekaiafhnnpkgaaGreatDoor
open Go.RowKit

theorem decU_pow (l : List UInt8) (h : l.all digB = true) : decV l < 10 ^ l.length := by
  induction hn : l.length using Nat.strongRecOn generalizing l with
  | _ n ih =>
    by_cases hl : l = []
    · subst hl hn; decide
    · obtain ⟨m, c, rfl⟩ : ∃ m c, l = m ++ [c] := ⟨_, _, (List.dropLast_concat_getLast hl).symm⟩
      rw [List.all_append, Bool.and_eq_true] at h
      have hc := digB_iff.1 (show digB c = true by simpa using h.2)
      have h2 := ih m.length (by subst hn; simp) m h.1 rfl
      subst hn
      rw [decU_snoc, List.length_append, List.length_cons, List.length_nil, Nat.pow_succ]
      omega
theorem digU_no {n : Int} (h : digI n = false) : n < 48 ∨ (¬ n < 48 ∧ 57 < n) := by unfold digI at h; simp at h; omega
theorem digU_yes {n : Int} (h : digI n = true) : ¬ n < 48 ∧ ¬ 57 < n := by unfold digI at h; simp at h; omega
theorem headU {s : ByteArray} (h : 0 < s.size) : s.data.toList.head? = some s[0] := by rw [cons_of h]; rfl
set_option maxRecDepth 100000 in
set_option maxHeartbeats 1000000 in
theorem unumber_any (s : ByteArray) (w : World) (hs : s.size ≤ 4294967296) :
    Calls Tryz.prog 64 #[.string s] w fun e w' => e = .returned (.int .i64 (numU s.data.toList)) ∧ w = w' := by
  have HZ := Lib.hid (size_len s)
  by_cases h0 : s.size = 0
  · have HR : Hid (numU s.data.toList = 0) := by show _ = _; rw [nil_of h0]; rfl
    go_enter Tryz.func64, Tryz.ntmps64
    go_wp2_with fail
    go_ret
    exact ⟨ret_i64 HR.out.symm, rfl⟩
  · have h0' : ((s.size : Int) == 0) = false := by rw [beq_eq_false_iff_ne]; omega
    by_cases h5 : 5 < (s.size : Int)
    · have HR : Hid (numU s.data.toList = 0) := by show _ = _; unfold numU; rw [if_pos (.inr (.inl (by have := HZ.out; omega)))]
      go_enter Tryz.func64, Tryz.ntmps64
      go_wp2_with fail
      go_ret
      exact ⟨ret_i64 HR.out.symm, rfl⟩
    · have hpos : 0 < s.size := by omega
      by_cases h48 : s[0] = 48
      · have hb : ((s[0].toNat : Int) == 48) = true := by rw [h48]; rfl
        have HR : Hid (numU s.data.toList = 0) := by show _ = _; unfold numU; rw [if_pos (.inr (.inr (by rw [headU hpos, h48])))]
        clear h48
        go_enter Tryz.func64, Tryz.ntmps64
        go_wp2_with fail
        go_ret
        exact ⟨ret_i64 HR.out.symm, rfl⟩
      · have hb : ((s[0].toNat : Int) == 48) = false := by rw [beq_eq_false_iff_ne]; intro h; exact h48 (UInt8.toNat_inj.1 (by simpa using (by omega : s[0].toNat = 48)))
        have HU : Hid (numU s.data.toList = if s.data.toList.all digB then (decV s.data.toList : Int) else 0) := by
          show _ = _
          unfold numU
          rw [if_neg]
          intro h
          rcases h with h | h | h
          · rw [size_len, h] at h0; exact h0 rfl
          · have := HZ.out; omega
          · rw [headU hpos] at h; exact h48 (Option.some.inj h)
        have hsz : s.size ≤ 5 := by omega
        clear h48
        go_enter Tryz.func64, Tryz.ntmps64
        go_wp2_with fail
        go_loop [3, 4] (fun n i => ∃ k : Nat, k ≤ s.size ∧ i = .int .i64 k ∧ n = .int .i64 (decV (s.data.toList.take k)) ∧ (s.data.toList.take k).all digB = true) (fun _ i => s.size - (intOf i).toNat)
        case atStart => exact ⟨0, Nat.zero_le _, rfl, rfl, rfl⟩
        case round =>
          obtain ⟨k, hk, rfl, rfl, ht⟩ := hrel
          have HT := Lib.hid ht; clear ht
          by_cases hlt : k < s.size
          · cases hm : digI (s[k].toNat : Int)
            · have HA : Hid (s.data.toList.all digB = false) := all_not s digB k hlt hm
              rcases digU_no hm with h1 | ⟨h1, h2⟩
              all_goals
                clear hm
                go_wp2_with fail
                go_ret
                exact ⟨ret_i64 (by rw [HU.out, HA.out]; rfl), rfl⟩
            · have HA := Lib.hid (all_snoc s digB k hlt HT.out hm)
              have HD : Hid (decV (s.data.toList.take (k + 1)) = 10 * decV (s.data.toList.take k) + (s[k].toNat - 48)) := by show _ = _; rw [take_snoc s k hlt, decU_snoc]
              have hb2 : decV (s.data.toList.take k) < 100000 := by
                have h1 := decU_pow _ HT.out
                have h2 : (s.data.toList.take k).length ≤ 5 := Nat.le_trans (List.length_take_le _ _) (by omega)
                exact Nat.lt_of_lt_of_le h1 (Nat.pow_le_pow_right (by decide) h2)
              obtain ⟨h1, h2⟩ := digU_yes hm
              have hc1 : 48 ≤ (s[k].toNat : Int) := by omega
              have hc2 : (s[k].toNat : Int) ≤ 57 := by omega
              clear hm
              generalize decV (s.data.toList.take k) = N at *
              go_wp2_with fail
              go_round
              case rel => exact ⟨k + 1, by omega, by go_num, by rw [HD.out]; simp only [Value.int.injEq, true_and]; omega, HA.out⟩
              case measure => simp [intOf]; omega
          · have HA : Hid (s.data.toList.all digB = true) := by
              have h := HT.out
              rw [take_all hlt] at h
              exact h
            have HE : Hid (s.data.toList.take k = s.data.toList) := take_all hlt
            go_wp2_with fail
            go_ret
            exact ⟨ret_i64 (by rw [HU.out, HA.out, HE.out, if_pos rfl]), rfl⟩

/-- the document's Parse: the cells of what is handed back and of the URI that it makes -/
structure PIn (w : World) (sc ho : ByteArray) (po : Int) (pa qu : ByteArray) (hq : Bool) (W : World) : Prop where
  res : ubk W w.heap.size #[.string ⟨#[]⟩, .string ⟨#[]⟩, .int .i64 0, .string ⟨#[]⟩, .string ⟨#[]⟩, .bool false]
  u : ubk W (w.heap.size + 1) #[.string sc, .string ho, .int .i64 po, .string pa, .string qu, .bool hq]
  bel : Below w.heap.size w W
theorem PIn.sc {w W : World} {sc ho pa qu : ByteArray} {po : Int} {hq : Bool} (h : PIn w sc ho po pa qu hq W) (v : ByteArray) : PIn w v ho po pa qu hq (W.setCell ⟨w.heap.size + 1, 0, none⟩ (.string v)) :=
  ⟨h.res.other (a := ⟨w.heap.size + 1, 0, none⟩) (Nat.ne_of_lt (Nat.lt_succ_self _)) _, h.u.set 0 _, h.bel.setCell (p := ⟨w.heap.size + 1, 0, none⟩) (Nat.le_succ _) _⟩
theorem PIn.ho {w W : World} {sc ho pa qu : ByteArray} {po : Int} {hq : Bool} (h : PIn w sc ho po pa qu hq W) (v : ByteArray) : PIn w sc v po pa qu hq (W.setCell ⟨w.heap.size + 1, 1, none⟩ (.string v)) :=
  ⟨h.res.other (a := ⟨w.heap.size + 1, 1, none⟩) (Nat.ne_of_lt (Nat.lt_succ_self _)) _, h.u.set 1 _, h.bel.setCell (p := ⟨w.heap.size + 1, 1, none⟩) (Nat.le_succ _) _⟩
theorem PIn.po {w W : World} {sc ho pa qu : ByteArray} {po : Int} {hq : Bool} (h : PIn w sc ho po pa qu hq W) (v : Int) : PIn w sc ho v pa qu hq (W.setCell ⟨w.heap.size + 1, 2, none⟩ (.int .i64 v)) :=
  ⟨h.res.other (a := ⟨w.heap.size + 1, 2, none⟩) (Nat.ne_of_lt (Nat.lt_succ_self _)) _, h.u.set 2 _, h.bel.setCell (p := ⟨w.heap.size + 1, 2, none⟩) (Nat.le_succ _) _⟩
theorem PIn.pa {w W : World} {sc ho pa qu : ByteArray} {po : Int} {hq : Bool} (h : PIn w sc ho po pa qu hq W) (v : ByteArray) : PIn w sc ho po v qu hq (W.setCell ⟨w.heap.size + 1, 3, none⟩ (.string v)) :=
  ⟨h.res.other (a := ⟨w.heap.size + 1, 3, none⟩) (Nat.ne_of_lt (Nat.lt_succ_self _)) _, h.u.set 3 _, h.bel.setCell (p := ⟨w.heap.size + 1, 3, none⟩) (Nat.le_succ _) _⟩
theorem PIn.qu {w W : World} {sc ho pa qu : ByteArray} {po : Int} {hq : Bool} (h : PIn w sc ho po pa qu hq W) (v : ByteArray) : PIn w sc ho po pa v hq (W.setCell ⟨w.heap.size + 1, 4, none⟩ (.string v)) :=
  ⟨h.res.other (a := ⟨w.heap.size + 1, 4, none⟩) (Nat.ne_of_lt (Nat.lt_succ_self _)) _, h.u.set 4 _, h.bel.setCell (p := ⟨w.heap.size + 1, 4, none⟩) (Nat.le_succ _) _⟩
theorem PIn.hq {w W : World} {sc ho pa qu : ByteArray} {po : Int} {hq : Bool} (h : PIn w sc ho po pa qu hq W) (v : Bool) : PIn w sc ho po pa qu v (W.setCell ⟨w.heap.size + 1, 5, none⟩ (.bool v)) :=
  ⟨h.res.other (a := ⟨w.heap.size + 1, 5, none⟩) (Nat.ne_of_lt (Nat.lt_succ_self _)) _, h.u.set 5 _, h.bel.setCell (p := ⟨w.heap.size + 1, 5, none⟩) (Nat.le_succ _) _⟩
theorem PIn.start (w : World) : PIn w ⟨#[]⟩ ⟨#[]⟩ 0 ⟨#[]⟩ ⟨#[]⟩ false ((w.alloc (.cells #[.string ⟨#[]⟩, .string ⟨#[]⟩, .int .i64 0, .string ⟨#[]⟩, .string ⟨#[]⟩, .bool false] 23)).alloc (.cells #[.string ⟨#[]⟩, .string ⟨#[]⟩, .int .i64 0, .string ⟨#[]⟩, .string ⟨#[]⟩, .bool false] 23)) := by
  have h1 := ubk.new (w.alloc (.cells #[.string ⟨#[]⟩, .string ⟨#[]⟩, .int .i64 0, .string ⟨#[]⟩, .string ⟨#[]⟩, .bool false] 23)) #[.string ⟨#[]⟩, .string ⟨#[]⟩, .int .i64 0, .string ⟨#[]⟩, .string ⟨#[]⟩, .bool false] 23
  have hz : (w.alloc (.cells #[.string ⟨#[]⟩, .string ⟨#[]⟩, .int .i64 0, .string ⟨#[]⟩, .string ⟨#[]⟩, .bool false] 23)).heap.size = w.heap.size + 1 := World.size_alloc _ _
  rw [hz] at h1
  exact ⟨(ubk.new w #[.string ⟨#[]⟩, .string ⟨#[]⟩, .int .i64 0, .string ⟨#[]⟩, .string ⟨#[]⟩, .bool false] 23).alloc _, h1, ((Below.refl _ _).alloc (Nat.le_refl _) _).alloc (by omega) _⟩
theorem occ3 {s : ByteArray} {k : Nat} (h : k + 3 ≤ s.size) : ((s.extract k (k + 3)).toList == [58, 47, 47]) = Lib.occAt s.data.toList [58, 47, 47] k := by
  have h2 := (Lib.occ_of_piece s ⟨#[58, 47, 47]⟩ k h).symm
  rw [Lib.toList_data (⟨#[58, 47, 47]⟩ : ByteArray)] at h2
  exact h2
theorem occ3_no {s : ByteArray} {k : Nat} (h : s.size < k + 3) : Lib.occAt s.data.toList [58, 47, 47] k = false := by
  cases ho : Lib.occAt s.data.toList [58, 47, 47] k
  · rfl
  · have h2 : [58, 47, 47].isPrefixOf (s.data.toList.drop k) = true := ho
    have h3 := (List.isPrefixOf_iff_prefix.1 h2).length_le
    rw [List.length_drop, ← size_len] at h3
    simp at h3
    omega
theorem cut_at1 {R : List UInt8} {c : UInt8} {k : Nat} (hk : k ≤ R.length) (h3 : ∀ j (h : j < R.length), j < k → R[j] ≠ c) (h4 : ∀ h : k < R.length, R[k] = c) : Lib.cut R [c] = (R.take k, R.drop (k + 1), decide (k < R.length)) := by
  have hn : ∀ j, j < k → Lib.occAt R [c] j = false := fun j hj => by
    cases ho : Lib.occAt R [c] j
    · rfl
    · have h := (occ_one R j c).1 ho
      rw [List.getElem?_eq_getElem (by omega)] at h
      exact absurd (Option.some.inj h) (h3 j (by omega) hj)
  rcases Nat.lt_or_ge k R.length with h | h
  · rw [decide_eq_true h]
    exact cut_hit hk ((occ_one R k c).2 (by rw [List.getElem?_eq_getElem h, h4 h])) hn
  · rw [decide_eq_false (by omega), List.take_of_length_le h, List.drop_of_length_le (by omega)]
    refine cut_miss fun j hj => ?_
    rcases Nat.lt_or_ge j k with h2 | h2
    · exact hn j h2
    · cases ho : Lib.occAt R [c] j
      · rfl
      · have h := (occ_one R j c).1 ho
        rw [List.getElem?_eq_none (by omega)] at h
        cases h
/-- places of the parts of what stands behind the scheme -/
theorem parts_at {R : List UInt8} {i k : Nat} (hik : i ≤ k) (hk : k ≤ R.length) (h1 : ∀ j (h : j < R.length), j < i → R[j] ≠ 47 ∧ R[j] ≠ 63) (h2 : ∀ h : i < R.length, R[i] = 47 ∨ R[i] = 63) (h3 : ∀ j (h : j < R.length), j < k → R[j] ≠ 63) (h4 : ∀ h : k < R.length, R[k] = 63) :
    Lib.cut R [63] = (R.take k, R.drop (k + 1), decide (k < R.length)) ∧ Lib.cut (R.take k) [47] = (R.take i, (R.take k).drop (i + 1), decide (i < k)) ∧ (R.take k).drop i = (if decide (i < k) then 47 :: (R.take k).drop (i + 1) else []) := by
  have hl : (R.take k).length = k := by rw [List.length_take]; omega
  have h47 : ∀ h : i < (R.take k).length, (R.take k)[i] = 47 := fun h => by
    rw [List.getElem_take]
    rcases h2 (by omega) with h5 | h5
    · exact h5
    · exact absurd h5 (h3 i (by omega) (by omega))
  refine ⟨cut_at1 hk h3 h4, ?_, ?_⟩
  · have h := cut_at1 (R := R.take k) (c := 47) (k := i) (by omega) (fun j hj hji => by rw [List.getElem_take]; exact (h1 j (by omega) hji).1) h47
    rw [h, hl, List.take_take, Nat.min_eq_left hik]
  · rcases Nat.lt_or_ge i k with h | h
    · rw [decide_eq_true h, if_pos rfl, List.drop_eq_getElem_cons (by omega), h47 (by omega)]
    · rw [decide_eq_false (by omega), List.drop_of_length_le (by omega)]; rfl
end Go.Proofs.YtekaiafhnnpkgaaGreatDoor
