/- TextStays: what Lower and Trim make stays so; tokens are neither split nor trimmed, and no quoted texts. -/
import Derived.Test.YthoaogcndchjjaaTextX
import Derived.Test.YthoaogcndchjjaaText3
namespace Go.Proofs.Ythoaogcndchjjaa
open Go.RowKit

set_option maxHeartbeats 4000000 in
theorem textStays_any (s : ByteArray) (p : Int) (w : World) (_hs : s.size ≤ maxLen) (hp : (Lit.int .u8 p).wf = true) (m : Int) (hm : w.cell? ⟨0, 0, none⟩ = some (.int .i64 m)) :
    Calls Try.prog 8 #[.string s, .int .u8 p] w fun e w' => e = .returned (.bool true) ∧ Below w.heap.size w w' := by
  have hpr : 0 ≤ p ∧ p ≤ 255 := by simpa [Lit.wf, IntKind.min, IntKind.max, IntKind.signed, IntKind.bits] using hp
  clear hp
  have hb0 := Bel.refl w
  by_cases hla : 4000 < (s.size : Int)
  · go_enter Try.func8, Try.ntmps8
    go_wp2_with (first | (go_at_call 10; refine (long_any _ _).mono ?_; rintro e w' ⟨rfl, rfl⟩) | (go_at_call 11; refine (carry (by assumption) (awake_any _)).mono ?_; rintro e w' ⟨rfl, hb1⟩))
    go_ret
    exact ⟨rfl, by assumption⟩
  · have hlt : 0 < w.heap.size := World.block_lt_of_cell? w _ hm
    have HM : Hid (∀ w', Bel w w' → w'.cell? ⟨0, 0, none⟩ = some (.int .i64 m)) := fun w' h => (h.cell (p := ⟨0, 0, none⟩) hlt).trans hm
    clear hm hlt
    have hL1 := fun w1 => lower_any s w1 (by unfold maxLen; omega)
    have hT1 := fun w1 => trim_any s w1 (by omega)
    have hL2 := fun w1 => lower_any (bs (lower s.data.toList)) w1 (by unfold maxLen; rw [bs_size, lower_len, ← size_len]; omega)
    have hS := fun w1 => same_any (bs (lower s.data.toList)) s w1 (by unfold maxLen; rw [bs_size, lower_len, ← size_len]; omega) (by unfold maxLen; omega)
    have hT2 := fun w1 => trim_any (bs (trim s.data.toList)) w1 (by rw [bs_size]; have := trim_le s.data.toList; rw [← size_len] at this; omega)
    have hC := fun w1 (h : Bel w w1) => Try.strings_Contains s (bs (trim s.data.toList)) m w1 (by omega) (HM.out w1 h)
    rw [bs_data] at hL2 hS hT2
    simp only [bs_data, lower_idem, trim_idem, contains_trim, beq_self_eq_true] at hL2 hS hT2 hC
    have hsz : (bs (lower s.data.toList)).size = s.size := by rw [bs_size, lower_len]; rfl
    have HL1 := Lib.hid hL1; have HT1 := Lib.hid hT1; have HL2 := Lib.hid hL2; have HS := Lib.hid hS; have HT2 := Lib.hid hT2; have HC := Lib.hid hC
    have hK := fun w1 => token_any s w1 (by unfold maxLen; omega)
    clear hL1 hT1 hL2 hS hT2 hC HM
    cases htok : token s.data.toList
    · rw [htok] at hK
      have HK := Lib.hid hK; clear hK htok
      go_enter Try.func8, Try.ntmps8
      go_wp2_with fail
      refine (long_any _ _).mono ?_; rintro e w' ⟨rfl, rfl⟩
      go_wp2_with fail
      refine (carry (by assumption) (HL1.out _)).mono ?_; rintro e w1 ⟨rfl, hb1⟩
      go_wp2_with fail
      refine (carry (by assumption) (HT1.out _)).mono ?_; rintro e w2 ⟨rfl, hb2⟩
      go_wp2_with fail
      refine (carry (by assumption) (HL2.out _)).mono ?_; rintro e w3 ⟨rfl, hb3⟩
      go_wp2_with fail
      refine (carry (by assumption) (HS.out _)).mono ?_; rintro e w4 ⟨rfl, hb4⟩
      go_wp2_with fail
      refine (carry (by assumption) (HT2.out _)).mono ?_; rintro e w5 ⟨rfl, hb5⟩
      go_wp2_with fail
      refine (HC.out _ hb5).mono ?_; rintro e w6 ⟨rfl, rfl⟩
      go_wp2_with fail
      refine (HK.out _).mono ?_; rintro e w7 ⟨rfl, rfl⟩
      go_wp2_with fail
      refine (carry (by assumption) (awake_any _)).mono ?_; rintro e w8 ⟨rfl, hb8⟩
      go_wp2_with fail
      go_ret
      exact ⟨rfl, hb8⟩
    · rw [htok] at hK
      have HK := Lib.hid hK; clear hK
      have htr := trim_token htok
      have hu := fun w1 => unquote_any s w1 (by omega)
      rw [show unqS s.data.toList = [] from by rw [unqS, unq_token htok]; rfl, show unqE s.data.toList = 4 from by rw [unqE, unq_token htok]; rfl] at hu
      have hT1 := HT1.out
      have hC := HC.out
      rw [htr, bs_self] at hT1 hC
      have hi := fun w1 => Try.strings_IndexByte s p w1
      clear HT1 HT2 HC
      have HT1 := Lib.hid hT1; have HC := Lib.hid hC; have HU := Lib.hid hu; have HI := Lib.hid hi
      clear hT1 hC hu hi
      by_cases hix : 0 ≤ Lib.indexByte s.data.toList p.toNat.toUInt8
      · clear htok htr
        generalize Lib.indexByte s.data.toList p.toNat.toUInt8 = ix at *
        go_enter Try.func8, Try.ntmps8
        go_wp2_with fail
        refine (long_any _ _).mono ?_; rintro e w' ⟨rfl, rfl⟩
        go_wp2_with fail
        refine (carry (by assumption) (HL1.out _)).mono ?_; rintro e w1 ⟨rfl, hb1⟩
        go_wp2_with fail
        refine (carry (by assumption) (HT1.out _)).mono ?_; rintro e w2 ⟨rfl, hb2⟩
        go_wp2_with fail
        refine (carry (by assumption) (HL2.out _)).mono ?_; rintro e w3 ⟨rfl, hb3⟩
        go_wp2_with fail
        refine (carry (by assumption) (HS.out _)).mono ?_; rintro e w4 ⟨rfl, hb4⟩
        go_wp2_with fail
        refine (carry (by assumption) (HT1.out _)).mono ?_; rintro e w5 ⟨rfl, hb5⟩
        go_wp2_with fail
        refine (HC.out _ hb5).mono ?_; rintro e w6 ⟨rfl, rfl⟩
        go_wp2_with fail
        refine (HK.out _).mono ?_; rintro e w7 ⟨rfl, rfl⟩
        go_wp2_with fail
        refine (carry (by assumption) (HU.out _)).mono ?_; rintro e w8 ⟨rfl, hb8⟩
        go_wp2_with fail
        refine (HI.out _).mono ?_; rintro e w9 ⟨rfl, rfl⟩
        go_wp2_with fail
        refine (carry (by assumption) (awake_any _)).mono ?_; rintro e w10 ⟨rfl, hb10⟩
        go_wp2_with fail
        go_ret
        exact ⟨rfl, hb10⟩
      · have hnone : ∀ c ∈ s.data.toList, c ≠ p.toNat.toUInt8 := by
          have h1 : Lib.indexByte s.data.toList p.toNat.toUInt8 = -1 := by have := Lib.indexByte_ge s.data.toList p.toNat.toUInt8; omega
          rintro c hc rfl
          obtain ⟨k, hk⟩ := List.getElem?_of_mem hc
          exact Lib.indexByte_none h1 k hk
        by_cases hbad : p = 34 ∨ p = 92
        · have hq : (p == 34) = true ∨ ((p == 34) = false ∧ (p == 92) = true) := by simp; omega
          clear htok htr hnone hbad
          generalize Lib.indexByte s.data.toList p.toNat.toUInt8 = ix at *
          rcases hq with hq | ⟨hq, hq2⟩
          all_goals
            go_enter Try.func8, Try.ntmps8
            go_wp2_with fail
            refine (long_any _ _).mono ?_; rintro e w' ⟨rfl, rfl⟩
            go_wp2_with fail
            refine (carry (by assumption) (HL1.out _)).mono ?_; rintro e w1 ⟨rfl, hb1⟩
            go_wp2_with fail
            refine (carry (by assumption) (HT1.out _)).mono ?_; rintro e w2 ⟨rfl, hb2⟩
            go_wp2_with fail
            refine (carry (by assumption) (HL2.out _)).mono ?_; rintro e w3 ⟨rfl, hb3⟩
            go_wp2_with fail
            refine (carry (by assumption) (HS.out _)).mono ?_; rintro e w4 ⟨rfl, hb4⟩
            go_wp2_with fail
            refine (carry (by assumption) (HT1.out _)).mono ?_; rintro e w5 ⟨rfl, hb5⟩
            go_wp2_with fail
            refine (HC.out _ hb5).mono ?_; rintro e w6 ⟨rfl, rfl⟩
            go_wp2_with fail
            refine (HK.out _).mono ?_; rintro e w7 ⟨rfl, rfl⟩
            go_wp2_with fail
            refine (carry (by assumption) (HU.out _)).mono ?_; rintro e w8 ⟨rfl, hb8⟩
            go_wp2_with fail
            refine (HI.out _).mono ?_; rintro e w9 ⟨rfl, rfl⟩
            go_wp2_with fail
            refine (carry (by assumption) (awake_any _)).mono ?_; rintro e w10 ⟨rfl, hb10⟩
            go_wp2_with fail
            go_ret
            exact ⟨rfl, hb10⟩
        · have hq : (p == 34) = false ∧ (p == 92) = false := by simp; omega
          have hb : badSep p.toNat.toUInt8 = false := by
            have e : ((p.toNat.toUInt8).toNat : Int) = p := by simp; omega
            unfold badSep
            rw [Bool.or_eq_false_iff]; refine ⟨beq_eq_false_iff_ne.2 fun h => hbad ?_, beq_eq_false_iff_ne.2 fun h => hbad ?_⟩
            · rw [h] at e; left; rw [← e]; rfl
            · rw [h] at e; right; rw [← e]; rfl
          obtain ⟨hE, hL⟩ := split_token htok hb hnone
          have hp := fun w1 => pieces_any s p w1 (by omega) hpr.1 hpr.2
          rw [show pieceI s.data.toList p = s.data.toList from by
            unfold pieceI pieceT
            rw [show UInt8.ofNat p.toNat = p.toNat.toUInt8 from rfl, hE, hL, if_pos rfl]
            simp [Lib.join, List.intercalate], bs_self] at hp
          have HP := Lib.hid hp
          clear htok htr hnone hbad hb hE hL hp
          generalize Lib.indexByte s.data.toList p.toNat.toUInt8 = ix at *
          obtain ⟨hq, hq2⟩ := hq
          go_enter Try.func8, Try.ntmps8
          go_wp2_with fail
          refine (long_any _ _).mono ?_; rintro e w' ⟨rfl, rfl⟩
          go_wp2_with fail
          refine (carry (by assumption) (HL1.out _)).mono ?_; rintro e w1 ⟨rfl, hb1⟩
          go_wp2_with fail
          refine (carry (by assumption) (HT1.out _)).mono ?_; rintro e w2 ⟨rfl, hb2⟩
          go_wp2_with fail
          refine (carry (by assumption) (HL2.out _)).mono ?_; rintro e w3 ⟨rfl, hb3⟩
          go_wp2_with fail
          refine (carry (by assumption) (HS.out _)).mono ?_; rintro e w4 ⟨rfl, hb4⟩
          go_wp2_with fail
          refine (carry (by assumption) (HT1.out _)).mono ?_; rintro e w5 ⟨rfl, hb5⟩
          go_wp2_with fail
          refine (HC.out _ hb5).mono ?_; rintro e w6 ⟨rfl, rfl⟩
          go_wp2_with fail
          refine (HK.out _).mono ?_; rintro e w7 ⟨rfl, rfl⟩
          go_wp2_with fail
          refine (carry (by assumption) (HU.out _)).mono ?_; rintro e w8 ⟨rfl, hb8⟩
          go_wp2_with fail
          refine (HI.out _).mono ?_; rintro e w9 ⟨rfl, rfl⟩
          go_wp2_with fail
          refine (carry (by assumption) (HP.out _)).mono ?_; rintro e w11 ⟨rfl, hb11⟩
          go_wp2_with fail
          refine (carry (by assumption) (awake_any _)).mono ?_; rintro e w10 ⟨rfl, hb10⟩
          go_wp2_with fail
          go_ret
          exact ⟨rfl, hb10⟩
end Go.Proofs.Ythoaogcndchjjaa
