/- The document's Parse. -/
import Derived.Test.YtoengnefdndgfaaDoorFieldsO
namespace Go.Proofs.YtoengnefdndgfaaDoor
open Go.RowKit

theorem rparse_step {s : ByteArray} {f k : Nat} {acc : List Fld} (hn : noEnd s f k) (hf : f ≤ k) (hk : k + 1 < s.size) (h1 : s[k] = 13) (h2 : s[k + 1] = 10) :
    parseW (s.data.toList.drop f) acc = if acc.length = 64 then ([], 3) else if roneE ((s.data.toList.drop f).take (k - f)) = 0 then parseW (s.data.toList.drop (k + 2)) (acc ++ [oneF ((s.data.toList.drop f).take (k - f))]) else ([], roneE ((s.data.toList.drop f).take (k - f))) := by
  have hc := cut_line hn hf hk h1 h2
  rw [parseW_step acc (by rw [hc]), hc]
  exact parse_one acc _ _ fun _ => rfl
theorem rparse_last {s : ByteArray} {f k : Nat} {acc : List Fld} (hn : noEnd s f k) (hk : s.size ≤ k + 1) : parseW (s.data.toList.drop f) acc = if s.size ≤ f then (acc, 0) else ([], 4) := by
  obtain ⟨h1, h2⟩ := cut_last hn hk
  rw [parseW_end acc h1, h2]
  have hz := size_len s
  by_cases h : s.size ≤ f
  · rw [if_pos h, if_pos (List.drop_of_length_le (by omega))]
  · rw [if_neg h, if_neg (fun e => by have := congrArg List.length e; rw [List.length_drop, List.length_nil] at this; omega)]

set_option maxHeartbeats 4000000 in
set_option maxRecDepth 100000 in
theorem rparse_s (s : ByteArray) (w : World) (hs : s.size ≤ 1048576) :
    Calls Tryd.prog 27 #[.string s] w (RetP w (parseL s.data.toList)) := by
  go_enter Tryd.func27, Tryd.ntmps27
  go_wp2_with fail
  go_loopw [4, 5, 6] (fun o fr i wr => ∃ (k f : Nat) (acc : List Fld), i = .int .i64 k ∧ fr = .int .i64 f ∧ k ≤ s.size ∧ f ≤ s.size ∧ ownF wr w.heap.size o acc ∧ acc.length ≤ 64 ∧ noEnd s f k ∧ parseW (s.data.toList.drop f) acc = parseL s.data.toList ∧ Below w.heap.size w wr)
    (fun _ _ i _ => s.size - (intOf i).toNat)
  case atStart => exact ⟨0, 0, [], rfl, rfl, Nat.zero_le _, Nat.zero_le _, ownF_nil _ _, by simp, noEnd_fresh s 0 0 (Nat.le_refl _), rfl, Below.refl _ _⟩
  case round =>
    obtain ⟨k, f, acc, rfl, rfl, hk, hf, ho, hl, hn, hp, hb⟩ := hrel
    obtain ⟨Ao, co, rfl⟩ := ho.form
    have HO := Lib.hid ho; have HB := Lib.hid hb; have HN := Lib.hid hn; have HP := Lib.hid hp; clear ho hb hn hp
    by_cases hlt : k + 1 < s.size
    · have hlt' : (k : Int) + 1 < (s.size : Int) := by omega
      have hk0 : k < s.size := by omega
      by_cases hkf : k < f
      · have hkf' : (k : Int) < (f : Int) := by omega
        go_wp2_with fail
        go_roundw
        case rel => exact ⟨k + 1, f, acc, by go_num, rfl, by omega, hf, HO.out, hl, noEnd_fresh s f (k + 1) (by omega), HP.out, HB.out⟩
        case measure => simp [intOf]; omega
      · have hkf' : ¬ (k : Int) < (f : Int) := by omega
        by_cases h13 : s[k] = 13
        · have hq1 : ((s[k].toNat : Int) != 13) = false := by rw [h13]; rfl
          by_cases h10 : s[k + 1] = 10
          · have hq2 : ((s[k + 1].toNat : Int) != 10) = false := by rw [h10]; rfl
            have hst := rparse_step (acc := acc) HN.out (by omega) hlt h13 h10
            rw [HP.out] at hst
            clear h13 h10
            by_cases h64 : acc.length = 64
            · have HR : Hid (parseL s.data.toList = ([], 3)) := by rw [if_pos h64] at hst; exact hst
              have hq : ((acc.length : Int) == 64) = true := by simp; omega
              clear h64 hst
              go_wp2_with fail
              go_ret2
              exact retP_none HR.out HB.out
            · have hq : ((acc.length : Int) == 64) = false := by simp; omega
              rw [if_neg h64] at hst
              have hex : s.extract f k = bs ((s.data.toList.drop f).take (k - f)) := bs_of (by rw [Lib.extract_data])
              have hll : ((s.data.toList.drop f).take (k - f)).length ≤ s.size := by rw [List.length_take]; omega
              have hone := fun w' => rone_any ((s.data.toList.drop f).take (k - f)) w' (by omega)
              obtain ⟨hR1, hR2⟩ := roneR_cases ((s.data.toList.drop f).take (k - f))
              generalize (s.data.toList.drop f).take (k - f) = L at *
              generalize roneE L = E at *
              generalize roneR L = R at *
              generalize oneF L = F at *
              have HEX := Lib.hid hex; clear hex
              obtain ⟨x, y⟩ := R
              unfold fv at hone; simp only at hone
              rw [← HEX.out] at hone
              have HONE := Lib.hid hone; clear hone
              by_cases hz : E = 0
              · have hRF := hR1 hz
                have HE3 : Hid (parseL s.data.toList = parseW (s.data.toList.drop (k + 2)) (acc ++ [(x, y)])) := by rw [if_pos hz, ← hRF] at hst; exact hst
                subst hz
                have hl2 : acc.length < 64 := by omega
                clear hR1 hR2 hst h64 hRF
                go_wp2_with fail
                refine (HONE.out _).mono ?_; rintro e w2 ⟨rfl, hb2⟩
                have hal : Below w2.heap.size w2 (w2.alloc (.cells #[.string (bs x), .string (bs y)] 64)) := (Below.refl _ _).alloc (Nat.le_refl _) _
                have hb3 := hb2.trans (hal.mono hb2.size)
                have HO3 := Lib.hid (HO.out.bel hb3); have HB3 := Lib.hid (HB.out.trans (hb3.mono HB.out.size))
                clear hb2 hal hb3
                go_wp2_with (at_builtin; refine wpList_appF rfl (.tmp 46) (.tmp 48) rfl w.heap.size w.heap.size _ _ x y rfl HO3.out HB3.out (Nat.le_refl _) HB3.out.size rfl (by omega) ?_; intro v4 w4 HO4 HB4 _)
                go_roundw
                case rel => exact ⟨k + 1, k + 2, acc ++ [(x, y)], by go_num, by go_num, by omega, by omega, HO4.out, by simp; omega, noEnd_fresh s (k + 2) (k + 1) (by omega), HE3.out.symm, HB4.out⟩
                case measure => simp [intOf]; omega
              · have HE3 : Hid (parseL s.data.toList = ([], E)) := by rw [if_neg hz] at hst; exact hst
                have hz2 : (E != 0) = true := by simp [hz]
                clear hR1 hR2 hst hz h64
                go_wp2_with fail
                refine (HONE.out _).mono ?_; rintro e w2 ⟨rfl, hb2⟩
                have HB2 := Lib.hid ((HB.out.trans (hb2.mono HB.out.size)).alloc (Nat.le_trans HB.out.size hb2.size) (.cells #[.string (bs x), .string (bs y)] 64)); clear hb2
                go_wp2_with fail
                go_ret2
                exact retP_none HE3.out HB2.out
          · have hq2 : ((s[k + 1].toNat : Int) != 10) = true := by rw [bne_iff_ne]; intro e; exact h10 (UInt8.toNat_inj.1 (by simpa using (by omega : s[k + 1].toNat = 10)))
            have HNN := Lib.hid (noEnd_next HN.out hlt (fun h => h10 h.2.2))
            clear h13 h10
            go_wp2_with fail
            go_roundw
            case rel => exact ⟨k + 1, f, acc, by go_num, rfl, by omega, hf, HO.out, hl, HNN.out, HP.out, HB.out⟩
            case measure => simp [intOf]; omega
        · have hq1 : ((s[k].toNat : Int) != 13) = true := by rw [bne_iff_ne]; intro e; exact h13 (UInt8.toNat_inj.1 (by simpa using (by omega : s[k].toNat = 13)))
          have HNN := Lib.hid (noEnd_next HN.out hlt (fun h => h13 h.2.1))
          clear h13
          go_wp2_with fail
          go_roundw
          case rel => exact ⟨k + 1, f, acc, by go_num, rfl, by omega, hf, HO.out, hl, HNN.out, HP.out, HB.out⟩
          case measure => simp [intOf]; omega
    · have hlt' : ¬ (k : Int) + 1 < (s.size : Int) := by omega
      have hst := rparse_last (acc := acc) HN.out (by omega)
      rw [HP.out] at hst
      by_cases hsf : s.size ≤ f
      · have HR : Hid (parseL s.data.toList = (acc, 0)) := by rw [if_pos hsf] at hst; exact hst
        have hq : ¬ (f : Int) < (s.size : Int) := by omega
        clear hst
        go_wp2_with fail
        go_ret2
        exact retP_of HR.out HO.out HB.out
      · have HR : Hid (parseL s.data.toList = ([], 4)) := by rw [if_neg hsf] at hst; exact hst
        have hq : (f : Int) < (s.size : Int) := by omega
        clear hst
        go_wp2_with fail
        go_ret2
        exact retP_none HR.out HB.out

theorem rparse_any (s : List UInt8) (w : World) (hs : s.length ≤ 1048576) : Calls Tryd.prog 27 #[.string (bs s)] w (RetP w (parseL s)) := by
  have := rparse_s (bs s) w (by rw [bs_size]; exact hs)
  rwa [bs_data] at this
end Go.Proofs.YtoengnefdndgfaaDoor
