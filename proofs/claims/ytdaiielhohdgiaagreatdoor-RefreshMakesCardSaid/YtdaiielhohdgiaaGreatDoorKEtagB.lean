/- The document's answers on entity tags: Parse, Weak, Strong, List. -/
import Derived.Test.YtdaiielhohdgiaaGreatDoorKEtagA
import Derived.BigQuiet
import Derived.Deep.Cut
namespace Go.Proofs.YtdaiielhohdgiaaGreatDoor
open Go.RowKit

/-- how a text begins, byte by byte -/
theorem wk_at (s : ByteArray) :
    (∃ h0 : 0 < s.size, ∃ h1 : 1 < s.size, ((s[0].toNat : Int) == 87) = true ∧ ((s[1].toNat : Int) == 47) = true ∧ wkE s.data.toList = true ∧ bdE s.data.toList = s.data.toList.drop 2) ∨
    (s.size < 2 ∧ wkE s.data.toList = false ∧ bdE s.data.toList = s.data.toList) ∨
    (∃ _ : 1 < s.size, ∃ h0 : 0 < s.size, ((s[0].toNat : Int) == 87) = false ∧ wkE s.data.toList = false ∧ bdE s.data.toList = s.data.toList) ∨
    (∃ h1 : 1 < s.size, ∃ h0 : 0 < s.size, ((s[0].toNat : Int) == 87) = true ∧ ((s[1].toNat : Int) == 47) = false ∧ wkE s.data.toList = false ∧ bdE s.data.toList = s.data.toList) := by
  by_cases h1 : 1 < s.size
  · have h0 : 0 < s.size := by omega
    have g0 : 0 < s.data.toList.length := h0
    have g1 : 1 < s.data.toList.length := h1
    have e0 : s.data.toList[0] = s[0] := rfl
    have e1 : s.data.toList[1] = s[1] := rfl
    have byte : ∀ (c d : UInt8), ((c.toNat : Int) == (d.toNat : Int)) = (c == d) := fun c d => by
      rw [Bool.eq_iff_iff, beq_iff_eq, beq_iff_eq]
      exact ⟨fun h => UInt8.toNat_inj.1 (by omega), fun h => by rw [h]⟩
    have b0 := byte s[0] 87
    have b1 := byte s[1] 47
    rw [show ((87 : UInt8).toNat : Int) = 87 from rfl] at b0
    rw [show ((47 : UInt8).toNat : Int) = 47 from rfl] at b1
    cases k0 : s[0] == 87
    · have hw : wkE s.data.toList = false := wkE_no fun _ _ h => by
        rw [e0] at h
        rw [h.1] at k0
        cases k0
      exact .inr (.inr (.inl ⟨h1, h0, b0.trans k0, hw, bdE_no hw⟩))
    · cases k1 : s[1] == 47
      · have hw : wkE s.data.toList = false := wkE_no fun _ _ h => by
          rw [e1] at h
          rw [h.2] at k1
          cases k1
        exact .inr (.inr (.inr ⟨h1, h0, b0.trans k0, b1.trans k1, hw, bdE_no hw⟩))
      · refine .inl ⟨h0, h1, b0.trans k0, b1.trans k1, ?_⟩
        have f0 : s[0] = 87 := beq_iff_eq.1 k0
        have f1 : s[1] = 47 := beq_iff_eq.1 k1
        rw [← e0] at f0
        rw [← e1] at f1
        have hl : s.data.toList = 87 :: 47 :: s.data.toList.drop 2 := by
          match hm : s.data.toList, g0, g1 with
          | a :: b :: r, _, _ =>
            simp only [hm, List.getElem_cons_zero, List.getElem_cons_succ] at f0 f1
            rw [f0, f1]; rfl
        refine ⟨(wkE_iff _).2 ⟨_, hl⟩, ?_⟩
        generalize s.data.toList.drop 2 = r at hl
        rw [hl]; rfl
  · have hw : wkE s.data.toList = false := wkE_no fun _ h => absurd h h1
    exact .inr (.inl ⟨by omega, hw, bdE_no hw⟩)
theorem okC_tests {n k : Nat} {c : UInt8} :
    (okC n k c = true → (k = 0 ∨ k + 1 = n) ∧ ((c.toNat : Int) != 34) = false ∨ ¬ (k = 0 ∨ k + 1 = n) ∧ decide ((c.toNat : Int) < 33) = false ∧ ((c.toNat : Int) == 34) = false ∧ ((c.toNat : Int) == 127) = false) ∧
    (okC n k c = false → (k = 0 ∨ k + 1 = n) ∧ ((c.toNat : Int) != 34) = true ∨ ¬ (k = 0 ∨ k + 1 = n) ∧ (decide ((c.toNat : Int) < 33) = true ∨ decide ((c.toNat : Int) < 33) = false ∧ (((c.toNat : Int) == 34) = true ∨ ((c.toNat : Int) == 34) = false ∧ ((c.toNat : Int) == 127) = true))) := by
  have byte : (c == 34) = ((c.toNat : Int) == 34) := by
    rw [Bool.eq_iff_iff, beq_iff_eq, beq_iff_eq]
    exact ⟨fun h => by rw [h]; rfl, fun h => UInt8.toNat_inj.1 (by show c.toNat = 34; omega)⟩
  unfold okC
  by_cases hk : k = 0 ∨ k + 1 = n
  · rw [if_pos hk, byte]
    exact ⟨fun h => .inl ⟨hk, by rw [bne, h]; rfl⟩, fun h => .inl ⟨hk, by rw [bne, h]; rfl⟩⟩
  · rw [if_neg hk]
    unfold tgB tgI
    constructor
    · intro h
      have h := of_decide_eq_true h
      refine .inr ⟨hk, decide_eq_false (by omega), ?_, ?_⟩ <;> rw [beq_eq_false_iff_ne] <;> omega
    · intro h
      have h := of_decide_eq_false h
      refine .inr ⟨hk, ?_⟩
      by_cases h1 : (c.toNat : Int) < 33
      · exact .inl (decide_eq_true h1)
      · refine .inr ⟨decide_eq_false h1, ?_⟩
        by_cases h2 : (c.toNat : Int) = 34
        · exact .inl (beq_iff_eq.2 h2)
        · exact .inr ⟨beq_eq_false_iff_ne.2 h2, beq_iff_eq.2 (by omega)⟩
/-- the bytes ahead of k are as they must be -/
def UpE (S : ByteArray) (k : Nat) : Prop := ∀ i (hi : i < S.data.toList.length), i < k → okC S.data.toList.length i S.data.toList[i] = true
theorem UpE.next {S : ByteArray} {k : Nat} (h : UpE S k) (hk : k < S.size) (ho : okC S.size k S[k] = true) : UpE S (k + 1) := by
  intro i hi hl
  by_cases he : i = k
  · subst he; exact ho
  · exact h i hi (by omega)
theorem below_drewE (w : World) (n : Nat) : Below w.heap.size w (w.drewN n) := by
  have h := Below.refl w.heap.size w
  exact ⟨h.os, h.tape, h.output, h.size, h.block⟩
/-- what Parse hands back -/
def outE (q k : Bool) (t : List UInt8) : Value := .tuple #[.bool (q && k), .string (bs (if q then t else [])), .int .i64 (if q then 0 else 4)]
theorem outE_eq (l : List UInt8) : (Value.tuple #[.bool (weE l), .string (bs (tagE l)), .int .i64 (erE l)]) = outE (qtE (bdE l)) (wkE l) (tgE (bdE l)) := rfl
set_option maxRecDepth 100000 in
set_option maxHeartbeats 4000000 in
theorem reparse_any (s : ByteArray) (w : World) (hs : s.size ≤ 4294967290) :
    Calls Tryz.prog 21 #[.string s] w fun e w' => e = .returned (.tuple #[.bool (weE s.data.toList), .string (bs (tagE s.data.toList)), .int .i64 (erE s.data.toList)]) ∧ Below w.heap.size w w' := by
  rw [outE_eq]
  have hwk := wk_at s
  generalize bdE s.data.toList = B at *
  generalize wkE s.data.toList = K at *
  rcases hwk with ⟨h0, h1, i0, i1, hk, hb⟩ | ⟨h1, hk, hb⟩ | ⟨h1, h0, i0, hk, hb⟩ | ⟨h1, h0, i0, i1, hk, hb⟩
  case' inl =>
    rw [hk]
    have e1 : (s.extract 2 s.size).data.toList = B := by rw [Lib.extract_to_end, hb]
    have HB := Lib.hid e1; clear hk hb e1
    have e2 : (s.extract 2 s.size).size ≤ 4294967290 := by simp; omega
    go_enter Tryz.func21, Tryz.ntmps21
    go_upto_region 4 with fail
    generalize s.extract 2 s.size = S at *
    clear i0 i1
  case inr.inl =>
    have HQ : Hid (qtE B = false) := by show _ = _; rw [hb]; exact qtE_short h1
    rw [hk]
    clear hk hb
    go_enter Tryz.func21, Tryz.ntmps21
    go_wp2_with fail
    go_ret3
    exact ⟨by rw [HQ.out]; rfl, Below.refl _ _⟩
  case' inr.inr.inl =>
    rw [hk]
    have HB := Lib.hid hb.symm; clear hk hb
    have e2 := hs
    go_enter Tryz.func21, Tryz.ntmps21
    go_upto_region 4 with fail
    obtain ⟨S, rfl⟩ : ∃ S, S = s := ⟨_, rfl⟩
    clear i0
  case' inr.inr.inr =>
    rw [hk]
    have HB := Lib.hid hb.symm; clear hk hb
    have e2 := hs
    go_enter Tryz.func21, Tryz.ntmps21
    go_upto_region 4 with fail
    obtain ⟨S, rfl⟩ : ∃ S, S = s := ⟨_, rfl⟩
    clear i0 i1
  all_goals
    by_cases h2 : S.size < 2
    · have HQ : Hid (qtE B = false) := by show _ = _; rw [← HB.out]; exact qtE_short h2
      go_wp2_with fail
      all_goals
        go_ret3
        exact ⟨by rw [HQ.out]; rfl, Below.refl _ _⟩
    · have h3 : 2 ≤ S.size := by omega
      have h4 : 2 ≤ S.data.toList.length := h3
      clear h2
      go_wp2_with fail
      go_loop [6] (fun i => ∃ k : Nat, k ≤ S.size ∧ i = .int .i64 k ∧ Hid (UpE S k)) (fun i => S.size - (intOf i).toNat)
      case atStart => exact ⟨0, Nat.zero_le _, rfl, fun i _ h => by omega⟩
      case round =>
        obtain ⟨k, hk, rfl, HU⟩ := hrel
        by_cases hlt : k < S.size
        · cases ho : okC S.size k S[k]
          · have HQ : Hid (qtE B = false) := by show _ = _; rw [← HB.out]; exact qtE_no h4 hlt ho
            rcases okC_tests.2 ho with ⟨h5 | h5, h6⟩ | ⟨h5, h6 | ⟨h6, h7 | ⟨h7, h8⟩⟩⟩
            · have h9 : ((k : Int) == 0) = true := by rw [beq_iff_eq]; omega
              clear ho h5
              go_wp2_with fail
              go_ret3
              exact ⟨by rw [HQ.out]; rfl, Below.refl _ _⟩
            · have h9 : ((k : Int) == 0) = false := by rw [beq_eq_false_iff_ne]; omega
              have h10 : ((k : Int) == (S.size : Int) - 1) = true := by rw [beq_iff_eq]; omega
              clear ho h5
              go_wp2_with fail
              go_ret3
              exact ⟨by rw [HQ.out]; rfl, Below.refl _ _⟩
            all_goals
              have h9 : ((k : Int) == 0) = false := by rw [beq_eq_false_iff_ne]; omega
              have h10 : ((k : Int) == (S.size : Int) - 1) = false := by rw [beq_eq_false_iff_ne]; omega
              clear ho h5
              go_wp2_with fail
              go_ret3
              exact ⟨by rw [HQ.out]; rfl, Below.refl _ _⟩
          · have HN := Lib.hid (HU.out.next hlt ho)
            rcases okC_tests.1 ho with ⟨h5 | h5, h6⟩ | ⟨h5, h6, h7, h8⟩
            · have h9 : ((k : Int) == 0) = true := by rw [beq_iff_eq]; omega
              clear ho h5
              go_wp2_with fail
              go_round
              case rel => exact ⟨k + 1, by omega, by go_num, HN.out⟩
              case measure => simp [intOf]; omega
            · have h9 : ((k : Int) == 0) = false := by rw [beq_eq_false_iff_ne]; omega
              have h10 : ((k : Int) == (S.size : Int) - 1) = true := by rw [beq_iff_eq]; omega
              clear ho h5
              go_wp2_with fail
              go_round
              case rel => exact ⟨k + 1, by omega, by go_num, HN.out⟩
              case measure => simp [intOf]; omega
            · have h9 : ((k : Int) == 0) = false := by rw [beq_eq_false_iff_ne]; omega
              have h10 : ((k : Int) == (S.size : Int) - 1) = false := by rw [beq_eq_false_iff_ne]; omega
              clear ho h5
              go_wp2_with fail
              go_round
              case rel => exact ⟨k + 1, by omega, by go_num, HN.out⟩
              case measure => simp [intOf]; omega
        · have hq : qtE S.data.toList = true := (qtE_iff h4).2 fun i hi => HU.out i hi (by have : i < S.size := hi; omega)
          have HT : Hid (S.extract 1 (S.size - 1) = bs (tgE B)) := bs_of (by rw [← HB.out, Lib.extract_data]; exact tgE_mid h4 hq)
          have HQ : Hid (qtE B = true) := by show _ = _; rw [← HB.out]; exact hq
          have HO : Hid (∀ c, outE (qtE B) c (tgE B) = .tuple #[.bool c, .string (S.extract 1 (S.size - 1)), .int .i64 0]) := fun c => by rw [HQ.out, HT.out]; rfl
          clear hq
          have h5 : (1 : Int) ≤ (S.size : Int) - 1 := by omega
          have h6 : (S.size : Int) - 1 ≤ (S.size : Int) := by omega
          have h7 : ((S.size : Int) - 1).toNat = S.size - 1 := by omega
          go_wp2_with fail
          go_quiet (fail)
          go_wp2_with fail
          go_ret3
          exact ⟨by rw [HO.out]; rfl, below_drewE _ _⟩
theorem reparseL_any (l : List UInt8) (w : World) (hl : l.length ≤ 4294967290) :
    Calls Tryz.prog 21 #[.string (bs l)] w fun e w' => e = .returned (.tuple #[.bool (weE l), .string (bs (tagE l)), .int .i64 (erE l)]) ∧ Below w.heap.size w w' := by
  have h := reparse_any (bs l) w (by rw [bs_size]; exact hl)
  rw [bs_data] at h
  exact h
end Go.Proofs.YtdaiielhohdgiaaGreatDoor
