/- Lists cut at a byte: the document's Split; lists of texts that are the same. -/
import Derived.Test.YtjbkjmceabilaaaTextU
namespace Go.Proofs.Ytjbkjmceabilaaa
open Go.RowKit

/-- where the document's Split stands ahead of byte k -/
def CInv (s : ByteArray) (sep : UInt8) (F : List Bool) (k f : Nat) (A : List (List UInt8)) : Prop :=
  (k ≤ s.size ∧ f ≤ k ∧ ∃ o e, At s F false k o e ∧ cutAt sep (s.data.toList.drop k) o e ((s.data.toList.drop f).take (k - f)) A = cutAt sep s.data.toList false false [] []) ∨
  (s.size < k ∧ cutAt sep s.data.toList false false [] [] = some A)

theorem CInv.cases {s : ByteArray} {sep : UInt8} {F : List Bool} {k f : Nat} {A : List (List UInt8)} (hs34 : ((sep.toNat : Int) == 34) = false) (h : CInv s sep F k f A) (hk : k < s.size) :
    (f ≤ k ∧ ((s[k].toNat : Int) != (sep.toNat : Int)) = true ∧ CInv s sep F (k + 1) f A) ∨
    (f ≤ k ∧ ((s[k].toNat : Int) != (sep.toNat : Int)) = false ∧ F.getD k false = true ∧ CInv s sep F (k + 1) f A) ∨
    (f ≤ k ∧ ((s[k].toNat : Int) != (sep.toNat : Int)) = false ∧ F.getD k false = false ∧ CInv s sep F (k + 1) (k + 1) (addP A ((s.data.toList.drop f).take (k - f)))) := by
  rcases h with ⟨_, hf, o, e, hat, hc⟩ | ⟨h, _⟩
  · have hst := hat.step (f := (o || (s[k].toNat : Int) == 34)) (o' := (qnext o e s[k]).1) (e' := (qnext o e s[k]).2) hk rfl rfl
    have hg : F.getD k false = (o || (s[k].toNat : Int) == 34) := by
      have := congrArg List.head? hst.1
      rw [List.head?_drop] at this
      simp [List.getD, this]
    by_cases hsep : s[k] = sep
    · have h1 : ((s[k].toNat : Int) != (sep.toNat : Int)) = false := by rw [bne_eq_false_iff_eq, hsep]
      have h34 : ((s[k].toNat : Int) == 34) = false := by rw [hsep]; exact hs34
      rw [h34, Bool.or_false] at hg
      cases ho : o
      · refine .inr (.inr ⟨hf, h1, by rw [hg, ho], .inl ⟨hk, Nat.le_refl _, false, false, ?_, ?_⟩⟩)
        · have := hst.2
          rw [ho] at this
          have hq := qn_out e (c := s[k]) (bne_iff_ne.2 (beq_eq_false_iff_ne.1 h34))
          rw [hq] at this
          exact this
        · rw [← hc, ho]; exact (cut_sep hk hsep).symm
      · refine .inr (.inl ⟨hf, h1, by rw [hg, ho], .inl ⟨hk, by omega, _, _, hst.2, ?_⟩⟩)
        rw [← hc]; exact (cut_step hk hf (by rintro ⟨h, _⟩; rw [ho] at h; cases h)).symm
    · refine .inl ⟨hf, bne_iff_ne.2 (fun h => hsep (UInt8.toNat_inj.1 (by omega))), .inl ⟨hk, by omega, _, _, hst.2, ?_⟩⟩
      rw [← hc]; exact (cut_step hk hf (fun h => hsep h.2)).symm
  · omega
theorem CInv.last {s : ByteArray} {sep : UInt8} {F : List Bool} {f : Nat} {A : List (List UInt8)} (h : CInv s sep F s.size f A) :
    f ≤ s.size ∧ CInv s sep F (s.size + 1) (s.size + 1) (addP A ((s.data.toList.drop f).take (s.size - f))) := by
  rcases h with ⟨_, hf, o, e, hat, hc⟩ | ⟨h, _⟩
  · refine ⟨hf, .inr ⟨by omega, ?_⟩⟩
    have ho : o = false := by have := hat.2; rw [drop_nil (Nat.le_refl _)] at this; exact this
    rw [← hc, cut_end (by omega), ho]; rfl
  · omega
theorem cut_none {sep : UInt8} : ∀ (l : List UInt8) (o e : Bool) (cur : List UInt8) (A : List (List UInt8)), (o = false → e = false) → ((sep.toNat : Int) == 34) = false → qend l o e = true → cutAt sep l o e cur A = none
  | [], o, e, cur, A, _, _, h => by simp only [qend] at h; simp [cutAt, h]
  | c :: r, o, e, cur, A, hoe, hs, h => by
    simp only [qend] at h
    unfold cutAt
    by_cases hc : o = false ∧ c = sep
    · rw [if_pos hc]
      obtain ⟨rfl, rfl⟩ := hc
      have hq := qn_out e (c := c) (bne_iff_ne.2 (beq_eq_false_iff_ne.1 hs))
      rw [hq] at h
      exact cut_none r false false [] _ (fun _ => rfl) hs h
    · rw [if_neg hc]
      refine cut_none r _ _ _ _ ?_ hs h
      unfold qnext
      cases o <;> cases e <;> simp <;> (repeat' split) <;> simp

theorem addP_len (A : List (List UInt8)) (cur : List UInt8) : (addP A cur).length ≤ A.length + 1 := by unfold addP; split <;> simp

set_option maxHeartbeats 4000000 in
set_option maxRecDepth 100000 in
theorem rsplit_any (s : ByteArray) (sep : UInt8) (w : World) (hs : s.size ≤ 4294967290) :
    Calls Try.prog 24 #[.string s, .int .u8 (sep.toNat : Int)] w (SplitPost s.data.toList sep w) := by
  by_cases hbad : (sep.toNat : Int) = 34 ∨ (sep.toNat : Int) = 92
  · have hb : badSep sep = true := by
      unfold badSep
      rcases hbad with h | h
      · rw [show sep = 34 from UInt8.toNat_inj.1 (by simpa using (by omega : sep.toNat = 34))]; rfl
      · rw [show sep = 92 from UInt8.toNat_inj.1 (by simpa using (by omega : sep.toNat = 92))]; rfl
    obtain ⟨hE, hL⟩ := split_bad (l := s.data.toList) hb
    have HE := Lib.hid hE; have HL := Lib.hid hL
    clear hE hL hb
    have hq : ((sep.toNat : Int) == 34) = true ∨ (((sep.toNat : Int) == 34) = false ∧ ((sep.toNat : Int) == 92) = true) := by simp; omega
    clear hbad
    rcases hq with hq | ⟨hq, hq2⟩
    all_goals
      go_enter Try.func24, Try.ntmps24
      go_wp2_with fail
      go_ret2
      exact ⟨.slice none 0 0, by rw [HE.out]; rfl, by rw [HL.out]; exact ownS_nil _ _, Below.refl _ _⟩
  · have hq : ((sep.toNat : Int) == 34) = false ∧ ((sep.toNat : Int) == 92) = false := by simp; omega
    have hb : badSep sep = false := by
      unfold badSep
      rw [Bool.or_eq_false_iff]; refine ⟨beq_eq_false_iff_ne.2 ?_, beq_eq_false_iff_ne.2 ?_⟩ <;> (rintro rfl; simp at hbad)
    have HX := Lib.hid hb
    clear hbad hb
    obtain ⟨hq, hq2⟩ := hq
    have HQ := Lib.hid (quoted_any s w (by omega))
    cases hend : qend s.data.toList false false
    · have hqd := HQ.out
      rw [hend] at hqd
      have HQ := Lib.hid hqd; clear hqd
      have h0 : CInv s sep (qf s.data.toList false false) 0 0 [] := .inl ⟨Nat.zero_le _, Nat.le_refl _, false, false, ⟨rfl, hend⟩, by simp⟩
      have hFl : (qf s.data.toList false false).length = s.size := qf_len _ _ _
      generalize qf s.data.toList false false = F at *
      have H0 := Lib.hid h0; have HFL := Lib.hid hFl
      clear h0 hFl hend
      go_enter Try.func24, Try.ntmps24
      go_wp2_with (go_at_call 32; refine HQ.out.mono ?_; rintro e w1 ⟨rfl, hr1, hb1⟩; have HR1 := Lib.hid (hr1 rfl); have HB1 := Lib.hid hb1; clear hr1 hb1)
      go_loopw [8, 9, 10] (fun v f i wr => ∃ (k n : Nat) (A : List (List UInt8)), k ≤ s.size + 1 ∧ i = .int .i64 k ∧ f = .int .i64 n ∧ A.length ≤ k ∧ CInv s sep F k n A ∧ ownS wr (w.heap.size + 1) v A ∧ rowT wr w.heap.size F ∧ Below w.heap.size w wr)
        (fun _ _ i _ => s.size + 1 - (intOf i).toNat)
      case atStart => exact ⟨0, 0, [], by omega, rfl, rfl, Nat.le_refl _, H0.out, ownS_nil _ _, HR1.out, HB1.out⟩
      case round =>
        obtain ⟨k, n, A, hk, rfl, rfl, hAl, hinv, hown, hrow, hbel⟩ := hrel
        have HO := Lib.hid hown; clear hown
        have HR := Lib.hid hrow; clear hrow
        have HB := Lib.hid hbel; clear hbel
        have HZ : Hid (w.heap.size + 1 ≤ wr.heap.size) := by have := lt_of_block HR.out; show _ ≤ _; omega
        by_cases hlt : k < s.size
        · have hcell := HR.out.cell k (by rw [HFL.out]; exact hlt)
          rcases hinv.cases hq hlt with ⟨hf, h1, hi⟩ | ⟨hf, h1, h2, hi⟩ | ⟨hf, h1, h2, hi⟩
          · have HI := Lib.hid hi; clear hi hinv
            go_wp2_with fail
            go_roundw
            case rel => exact ⟨k + 1, n, A, by omega, by go_num, rfl, by omega, HI.out, HO.out, HR.out, HB.out⟩
            case measure => simp [intOf]; omega
          · rw [h2] at hcell
            have HI := Lib.hid hi; clear hi hinv h2
            go_wp2_with fail
            go_roundw
            case rel => exact ⟨k + 1, n, A, by omega, by go_num, rfl, by omega, HI.out, HO.out, HR.out, HB.out⟩
            case measure => simp [intOf]; omega
          · rw [h2] at hcell
            have hi2 := hi
            clear hi h2
            have hsz : (s.extract n k).size ≤ maxLen := by unfold maxLen; simp; omega
            have hal := addP_len A ((s.data.toList.drop n).take (k - n))
            have hadd : addP A ((s.data.toList.drop n).take (k - n)) = if (trim ((s.data.toList.drop n).take (k - n))).isEmpty then A else A ++ [trim ((s.data.toList.drop n).take (k - n))] := rfl
            generalize hcur : (s.data.toList.drop n).take (k - n) = cur at *
            have HC := Lib.hid hcur; clear hcur
            generalize hR : addP A cur = R at *
            clear hR
            have HI := Lib.hid hi2; clear hi2
            cases hE : (trim cur).isEmpty
            · have hne : (bs (trim cur)).toList.isEmpty = false := by rw [Lib.toList_data, bs_data]; exact hE
              rw [hE] at hadd
              have HD : Hid (R = A ++ [trim cur]) := hadd
              clear hadd hE hinv
              go_wp2_with (first | (go_at_call 33; refine (rtrim_any _ _ hsz).mono ?_; rw [Lib.extract_data, HC.out]; rintro e w' ⟨rfl, rfl⟩) | (at_builtin; refine wpList_appS rfl (.tmp 55) (.tmp 57) rfl (w.heap.size + 1) w.heap.size _ _ (trim cur) rfl HO.out HB.out (Nat.le_succ _) HZ.out rfl (by omega) ?_; intro v' w' HO2 HB2 HK2))
              go_roundw
              case rel => exact ⟨k + 1, k + 1, R, by omega, by go_num, by go_num, by omega, HI.out, by rw [HD.out]; exact HO2.out, HR.out.keep (HK2.out _ (by omega)), HB2.out⟩
              case measure => simp [intOf]; omega
            · have hne : (bs (trim cur)).toList.isEmpty = true := by rw [Lib.toList_data, bs_data]; exact hE
              rw [hE] at hadd
              have HD : Hid (R = A) := hadd
              clear hadd hE hinv
              go_wp2_with (go_at_call 33; refine (rtrim_any _ _ hsz).mono ?_; rw [Lib.extract_data, HC.out]; rintro e w' ⟨rfl, rfl⟩)
              go_roundw
              case rel => exact ⟨k + 1, k + 1, R, by omega, by go_num, by go_num, by omega, HI.out, by rw [HD.out]; exact HO.out, HR.out, HB.out⟩
              case measure => simp [intOf]; omega
        · by_cases hle : k ≤ s.size
          · obtain ⟨hf, hi2⟩ := CInv.last (f := n) (A := A) (by rw [show s.size = k from by omega]; exact hinv)
            rw [show s.size = k from by omega] at hi2
            have hsz : (s.extract n k).size ≤ maxLen := by unfold maxLen; simp; omega
            have hal := addP_len A ((s.data.toList.drop n).take (k - n))
            have hadd : addP A ((s.data.toList.drop n).take (k - n)) = if (trim ((s.data.toList.drop n).take (k - n))).isEmpty then A else A ++ [trim ((s.data.toList.drop n).take (k - n))] := rfl
            generalize hcur : (s.data.toList.drop n).take (k - n) = cur at *
            have HC := Lib.hid hcur; clear hcur
            generalize hR : addP A cur = R at *
            clear hR
            have HI := Lib.hid hi2; clear hi2
            cases hE : (trim cur).isEmpty
            · have hne : (bs (trim cur)).toList.isEmpty = false := by rw [Lib.toList_data, bs_data]; exact hE
              rw [hE] at hadd
              have HD : Hid (R = A ++ [trim cur]) := hadd
              clear hadd hE hinv
              go_wp2_with (first | (go_at_call 33; refine (rtrim_any _ _ hsz).mono ?_; rw [Lib.extract_data, HC.out]; rintro e w' ⟨rfl, rfl⟩) | (at_builtin; refine wpList_appS rfl (.tmp 55) (.tmp 57) rfl (w.heap.size + 1) w.heap.size _ _ (trim cur) rfl HO.out HB.out (Nat.le_succ _) HZ.out rfl (by omega) ?_; intro v' w' HO2 HB2 HK2))
              go_roundw
              case rel => exact ⟨k + 1, k + 1, R, by omega, by go_num, by go_num, by omega, HI.out, by rw [HD.out]; exact HO2.out, HR.out.keep (HK2.out _ (by omega)), HB2.out⟩
              case measure => simp [intOf]; omega
            · have hne : (bs (trim cur)).toList.isEmpty = true := by rw [Lib.toList_data, bs_data]; exact hE
              rw [hE] at hadd
              have HD : Hid (R = A) := hadd
              clear hadd hE hinv
              go_wp2_with (go_at_call 33; refine (rtrim_any _ _ hsz).mono ?_; rw [Lib.extract_data, HC.out]; rintro e w' ⟨rfl, rfl⟩)
              go_roundw
              case rel => exact ⟨k + 1, k + 1, R, by omega, by go_num, by go_num, by omega, HI.out, by rw [HD.out]; exact HO.out, HR.out, HB.out⟩
              case measure => simp [intOf]; omega
          · have hfin : Hid (cutAt sep s.data.toList false false [] [] = some A) := by
              rcases hinv with ⟨h, _⟩ | ⟨_, h⟩
              · omega
              · exact h
            clear hinv
            obtain ⟨va, vc, rfl⟩ := HO.out.form
            by_cases h64 : 64 < A.length
            · have HL : Hid (splitE s.data.toList sep = 3 ∧ splitL s.data.toList sep = []) := by
                refine ⟨?_, ?_⟩ <;> simp [splitE, splitL, HX.out, hfin.out, h64]
              go_wp2_with fail
              go_ret2
              exact ⟨.slice none 0 0, by rw [HL.out.1]; rfl, by rw [HL.out.2]; exact ownS_nil _ _, HB.out⟩
            · have HL : Hid (splitE s.data.toList sep = 0 ∧ splitL s.data.toList sep = A) := by
                refine ⟨?_, ?_⟩ <;> simp [splitE, splitL, HX.out, hfin.out, h64]
              go_wp2_with fail
              go_ret2
              exact ⟨.slice va A.length vc, by rw [HL.out.1]; rfl, by rw [HL.out.2]; exact HO.out.mono (by omega), HB.out⟩
    · have hqd := HQ.out
      rw [hend] at hqd
      have HQ := Lib.hid hqd; clear hqd
      have hcn := cut_none s.data.toList false false [] [] (fun _ => rfl) hq hend
      have HL : Hid (splitE s.data.toList sep = 4 ∧ splitL s.data.toList sep = []) := by
        refine ⟨?_, ?_⟩ <;> simp [splitE, splitL, HX.out, hcn]
      clear hcn hend
      go_enter Try.func24, Try.ntmps24
      go_wp2_with (go_at_call 32; refine HQ.out.mono ?_; rintro e w1 ⟨rfl, _, hb1⟩; have HB1 := Lib.hid hb1; clear hb1)
      go_ret2
      exact ⟨.slice none 0 0, by rw [HL.out.1]; rfl, by rw [HL.out.2]; exact ownS_nil _ _, HB1.out⟩
end Go.Proofs.Ytjbkjmceabilaaa
