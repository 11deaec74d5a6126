/- The document's own answer: escapes of plain bytes undone. -/
import Derived.Test.YtekaiafhnnpkgaaGreatDoorUriN
import Derived.Test.YtekaiafhnnpkgaaGreatDoorUriD
import Derived.BigQuiet
namespace Go.Proofs.YtekaiafhnnpkgaaGreatDoor
open Go.RowKit

theorem undo_nil : undo [] = [] := rfl
theorem undo_esc {s : ByteArray} {i : Nat} (h : i < s.size) (he : esc3 (s.data.toList.drop i) = true) : undo (s.data.toList.drop i) = rend (fsB (s.data.toList.drop i), true) ++ undo (s.data.toList.drop (i + 3)) := by
  unfold undo
  rw [toks_step (by rw [drop_at h]; simp)]
  unfold fsN
  rw [he, if_pos rfl, List.drop_drop, List.flatMap_cons]
theorem undo_one {s : ByteArray} {i : Nat} (h : i < s.size) (he : esc3 (s.data.toList.drop i) = false) : undo (s.data.toList.drop i) = [s[i]] ++ undo (s.data.toList.drop (i + 1)) := by
  unfold undo
  rw [toks_step (by rw [drop_at h]; simp)]
  unfold fsN
  rw [he, if_neg (by decide), List.drop_drop, List.flatMap_cons]
  have h2 : fsB (s.data.toList.drop i) = s[i] := by
    rw [drop_at h] at he ⊢
    exact fsB_not he
  rw [h2]
  rfl
theorem esc_val {s : ByteArray} {i : Nat} (h : i + 2 < s.size) (he : esc3 (s.data.toList.drop i) = true) :
    0 ≤ hxI (s[i + 1].toNat : Int) ∧ 0 ≤ hxI (s[i + 2].toNat : Int) ∧ ((fsB (s.data.toList.drop i)).toNat : Int) = 16 * hxI (s[i + 1].toNat : Int) + hxI (s[i + 2].toNat : Int) := by
  have h2 := he
  rw [esc3_at h] at h2
  simp only [Bool.and_eq_true, decide_eq_true_eq] at h2
  refine ⟨h2.2.1, h2.2.2, ?_⟩
  rw [drop_at (show i < s.size by omega), drop_at (show i + 1 < s.size by omega), drop_at (show i + 1 + 1 < s.size by omega)] at he ⊢
  have h3 : (s[i] == 37 && (hxB s[i + 1] && hxB s[i + 1 + 1])) = true := he
  simp only [fsB, h3, if_true]
  have l1 := hxI_lt (s[i + 1].toNat : Int)
  have l2 := hxI_lt (s[i + 2].toNat : Int)
  have e1 : (hxD s[i + 1] : Int) = hxI (s[i + 1].toNat : Int) := by unfold hxD; omega
  have e2 : (hxD s[i + 1 + 1] : Int) = hxI (s[i + 2].toNat : Int) := by show (hxD s[i + 2] : Int) = _; unfold hxD; have := h2.2.2; omega
  unfold hx2
  rw [UInt8.toNat_ofNat']
  omega
theorem undo_len (l : List UInt8) : (undo l).length ≤ 3 * l.length := by
  have h1 := rends_len (toks l)
  have h2 := toks_len l.length l (Nat.le_refl _)
  show ((toks l).flatMap rend).length ≤ _
  omega

theorem unes_fin2 {L X : List UInt8} {w0 w w3 : World} {O : Obj} {v v' : Value} (hb : Below w0.heap.size w0 w) (hN : ∀ k, k < w0.heap.size → v.ownBlock ≠ some k)
    (hgrow : (w.drew.alloc O).grownBy w3 v.ownBlock) (hown3 : w3.ownsRow w0.heap.size 5 1 v' (L.length + X.length) (Lib.byteCells L ++ Lib.byteCells X)) : ownB w3 w0.heap.size v' (L ++ X) ∧ Below w0.heap.size w0 w3 := by
  have hz := hb.size
  have keep3 : ∀ k, k < w0.heap.size → w3.heap[k]? = w.heap[k]? := fun k hk => by
    rw [hgrow.block k (by simp; omega) (fun e => hN k hk e.symm), Below.heap_alloc _ _ _ (by simp; omega)]
    rfl
  have bel3 : Below w0.heap.size w w3 := ⟨hgrow.os, hgrow.tape, hgrow.output, by have := hgrow.size; simp at this; omega, keep3⟩
  refine ⟨?_, hb.trans bel3⟩
  show World.ownsRow _ _ _ _ _ _ _
  rw [List.length_append, Lib.byteCells_append]
  exact hown3

theorem uhex8_any (c : UInt8) (w : World) : Calls Tryz.prog 66 #[.int .u8 (c.toNat : Int)] w fun r w' => r = .returned (.int .i64 (hxI (c.toNat : Int))) ∧ w' = w :=
  (uhex_any (c.toNat : Int) w (by omega) (by have := c.toNat_lt; omega)).mono fun _ _ h => ⟨h.1, h.2.symm⟩
set_option maxHeartbeats 4000000 in
set_option maxRecDepth 100000 in
theorem uundo_any (s : ByteArray) (w : World) (hl : s.size ≤ 100000000) :
    Calls Tryz.prog 42 #[.string s] w fun r w' => r = .returned (.string (bs (undo s.data.toList))) ∧ Below w.heap.size w w' := by
  have hul : (undo s.data.toList).length ≤ 300000000 := by have := undo_len s.data.toList; rw [← size_len] at this; omega
  have HUL := Lib.hid hul; clear hul
  obtain ⟨i0, hi0, hz0, hz1, hz2⟩ := info_parts infoB
  have HI := Lib.hid hi0; clear hi0
  go_enter Tryz.func42, Tryz.ntmps42
  go_wp2_with fail
  go_loopw [3, 4] (fun v i wr => ∃ (k : Nat) (L : List UInt8), k ≤ s.size ∧ i = .int .i64 k ∧ ownB wr w.heap.size v L ∧ Hid (undo s.data.toList = L ++ undo (s.data.toList.drop k)) ∧ Below w.heap.size w wr) (fun _ i _ => s.size - (intOf i).toNat)
  case atStart => exact ⟨0, [], Nat.zero_le _, rfl, ownB_nil _ _, rfl, Below.refl _ _⟩
  case round =>
    obtain ⟨k, L, hk, rfl, ho, HT, hb⟩ := hrel
    obtain ⟨va, vc, rfl⟩ := ho.form
    have hLl : L.length ≤ 300000000 := by have h1 := HUL.out; rw [HT.out, List.length_append] at h1; omega
    have HLN : Hid (L.length + 1 ≤ 140737488355328) := by show _ ≤ _; omega
    have HO := Lib.hid ho; have HB := Lib.hid hb; clear ho hb
    by_cases hlt : k < s.size
    · have HES := Lib.hid (fun w => uesc_any s k w hk (by omega))
      cases he : esc3 (s.data.toList.drop k)
      · have HN : Hid (undo s.data.toList = (L ++ [s[k]]) ++ undo (s.data.toList.drop (k + 1))) := by show _ = _; rw [HT.out, undo_one hlt he, List.append_assoc]
        rw [he] at HES
        clear he HT
        go_wp2_with (first | (go_at_call 65; refine (HES.out _).mono ?_; rintro e w' ⟨rfl, rfl⟩) | (at_builtin; refine wpList_appB rfl (.tmp 14) (.tmp 18) rfl w.heap.size w.heap.size _ L _ s[k] rfl HO.out HB.out (Nat.le_refl _) HB.out.size rfl rfl HLN.out ?_; intro v3 w3 HO3 HB3 HK3))
        go_roundw
        case rel => exact ⟨k + 1, L ++ [s[k]], by omega, by go_num, HO3.out, HN, HB3.out⟩
        case measure => simp [intOf]; omega
      · have hroom := esc_room he
        obtain ⟨ha0, hb0, hcv⟩ := esc_val (show k + 2 < s.size by omega) he
        have hla := hxI_lt (s[k + 1].toNat : Int)
        have hlb := hxI_lt (s[k + 2].toNat : Int)
        have HN : Hid (undo s.data.toList = (L ++ rend (fsB (s.data.toList.drop k), true)) ++ undo (s.data.toList.drop (k + 3))) := by show _ = _; rw [HT.out, undo_esc hlt he, List.append_assoc]
        rw [he] at HES
        clear he HT
        generalize fsB (s.data.toList.drop k) = c at *
        have hcw : IntKind.u8.wrap (16 * hxI (s[k + 1].toNat : Int) + hxI (s[k + 2].toNat : Int)) = (c.toNat : Int) := by rw [IntKind.wrap_u8]; omega
        have hi1 : k + 1 < s.size := by omega
        have hi2 : k + 2 < s.size := by omega
        have e1 := IntWalk.i64_in ((k : Int) + 1) (by omega)
        have e2 := IntWalk.i64_in ((k : Int) + 2) (by omega)
        have e3 := IntWalk.i64_in (16 * hxI (s[k + 1].toNat : Int)) (by omega)
        have e4 := IntWalk.i64_in (16 * hxI (s[k + 1].toNat : Int) + hxI (s[k + 2].toNat : Int)) (by omega)
        have f1 : 0 ≤ (k : Int) + 1 ∧ (k : Int) + 1 < (s.size : Int) := by omega
        have f2 : 0 ≤ (k : Int) + 2 ∧ (k : Int) + 2 < (s.size : Int) := by omega
        have t1 : ((k : Int) + 1).toNat = k + 1 := by omega
        have t2 : ((k : Int) + 2).toNat = k + 2 := by omega
        have HPL := Lib.hid (fun w => uplain_any (c.toNat : Int) w)
        go_wp2_with (go_at_call 65; refine (HES.out _).mono ?_; rintro e w' ⟨rfl, rfl⟩)
        go_quiet ((go_at_call 66; exact Calls.quiet_of_same (uhex8_any _ _)))
        have hd : Below wr.heap.size wr (wr.drewN nq) := by have h := Below.refl wr.heap.size wr; exact ⟨h.os, h.tape, h.output, h.size, h.block⟩
        have HO1 := Lib.hid (HO.out.below hd (Nat.le_refl _)); have HB1 := Lib.hid (HB.out.trans (hd.mono HB.out.size))
        rw [← hcv]
        clear hd HO HB e1 e2 e3 e4 hcw ha0 hb0 hla hlb hcv HES
        generalize wr.drewN nq = x1 at *
        cases hpl : plainI (c.toNat : Int)
        · have HR : Hid (rend (c, true) = [37, hxU (c.toNat / 16), hxU (c.toNat % 16)]) := by
            have h0 : plB c = false := hpl
            show _ = _
            simp [rend, h0]
          rw [hpl] at HPL
          clear hpl
          have hlt2 : c.toNat < 256 := c.toNat_lt
          have hq : Int.tdiv (c.toNat : Int) 16 = ((c.toNat / 16 : Nat) : Int) := by rw [Int.tdiv_eq_ediv_of_nonneg (by omega)]; omega
          have hr : Int.tmod (c.toNat : Int) 16 = ((c.toNat % 16 : Nat) : Int) := by rw [Int.tmod_eq_emod_of_nonneg (by omega)]; omega
          have hq1 : c.toNat / 16 < 16 := by omega
          have hqw : IntKind.u8.wrap ((c.toNat / 16 : Nat) : Int) = ((c.toNat / 16 : Nat) : Int) := by rw [IntKind.wrap_u8]; omega
          have hr1 : c.toNat % 16 < 16 := by omega
          generalize c.toNat / 16 = q at *
          generalize c.toNat % 16 = r at *
          have hq2 : (q : Int) < 16 := by omega
          have hr2 : (r : Int) < 16 := by omega
          have hX : Lib.byteCells [37, hxU q, hxU r] = [.int .u8 37, .int .u8 ((⟨#[48, 49, 50, 51, 52, 53, 54, 55, 56, 57, 65, 66, 67, 68, 69, 70]⟩ : ByteArray)[q]'hq1).toNat, .int .u8 ((⟨#[48, 49, 50, 51, 52, 53, 54, 55, 56, 57, 65, 66, 67, 68, 69, 70]⟩ : ByteArray)[r]'hr1).toNat] := by
            rw [hexU_at q hq1, hexU_at r hr1]; rfl
          have HX := Lib.hid hX; clear hX
          have hbz := HB1.out.size
          have hi0 := HI.out
          have HN2 := Lib.hid HO1.out.noBlock
          go_wp2_with (go_at_call 67; refine (HPL.out _).mono ?_; rintro e w' ⟨rfl, rfl⟩)
          go_region_law (first | (refine step_append_lies _ (by rfl) _ _ _ (by rfl) w.heap.size 5 i0 _ 1 1 Tryz.underlying38 hi0 hz0 hz1 hz2 rfl (by omega) (.slice va L.length vc) L.length (Lib.byteCells L) (by rfl) (HO1.out.drew.alloc _) ⟨x1.heap.size, 0, none⟩ 3 3 _ (by rfl) (by rfl) (World.news_of_block (t := 5) (fr := (0, 0)) (heap_alloc_new x1.drew _)) (by simp [Value.oneCell']) (by omega) (by unfold maxLen; omega) (by omega) (by simp; omega) (x1.heap.size + 1) (by simp) ?_; intro gg cap w3 hown3 hgrow hat hlt3))
          all_goals rw [← HX.out] at hown3
          all_goals have HUP := Lib.hid (unes_fin2 (X := [37, hxU q, hxU r]) HB1.out HN2.out hgrow hown3)
          all_goals clear hown3 hgrow
          all_goals go_wp2_with fail
          all_goals go_roundw
          all_goals first | exact ⟨k + 3, L ++ rend (c, true), by omega, by go_num, by rw [HR.out]; exact HUP.out.1, HN, HUP.out.2⟩ | (simp [intOf]; omega)
        · have HR : Hid (rend (c, true) = [c]) := by
            have h0 : plB c = true := hpl
            show _ = _
            simp [rend, h0]
          rw [hpl] at HPL
          clear hpl
          go_wp2_with (first | (go_at_call 67; refine (HPL.out _).mono ?_; rintro e w' ⟨rfl, rfl⟩) | (at_builtin; refine wpList_appB rfl (.tmp 37) (.tmp 39) rfl w.heap.size w.heap.size _ L _ c rfl HO1.out HB1.out (Nat.le_refl _) HB1.out.size rfl rfl HLN.out ?_; intro v3 w3 HO3 HB3 HK3))
          go_roundw
          case rel => exact ⟨k + 3, L ++ rend (c, true), by omega, by go_num, by rw [HR.out]; exact HO3.out, HN, HB3.out⟩
          case measure => simp [intOf]; omega
    · have HF : Hid (undo s.data.toList = L) := by show _ = _; rw [HT.out, drop_nil (by omega), undo_nil, List.append_nil]
      have hbk := HO.out.back
      go_wp2_with fail
      go_ret
      exact ⟨ret_str (by rw [HF.out]), HB.out⟩
end Go.Proofs.YtekaiafhnnpkgaaGreatDoor
