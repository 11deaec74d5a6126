/- The document's own answer: escapes of plain bytes undone. -/
import Derived.Test.YtnpiaifkeddjeaaGreatDoorKPlainU
import Derived.Test.YtnpiaifkeddjeaaGreatDoorKUriG
import Derived.Test.YtnpiaifkeddjeaaGreatDoorKUriJ
import Derived.Test.YtnpiaifkeddjeaaGreatDoorKUriL
import Derived.Test.YtnpiaifkeddjeaaGreatDoorKUriN
import Derived.BigQuiet
import Derived.Deep.DeepCutAuto
import Derived.Deep.CutBlock
namespace Go.Proofs.YtnpiaifkeddjeaaGreatDoor
open Go.RowKit

theorem undo_nil : undo [] = [] := rfl
theorem undo_esc {s : ByteArray} {i : Nat} (h : i < s.size) (he : esc3 (s.data.toList.drop i) = true) : undo (s.data.toList.drop i) = rend (fsB (s.data.toList.drop i), true) ++ undo (s.data.toList.drop (i + 3)) := by
  unfold undo
  rw [toks_step (by rw [drop_at h]; simp)]
  unfold fsN
  rw [he, if_pos rfl, List.drop_drop, List.flatMap_cons]
theorem undo_one {s : ByteArray} {i : Nat} (h : i < s.size) (he : esc3 (s.data.toList.drop i) = false) : undo (s.data.toList.drop i) = [s[i]] ++ undo (s.data.toList.drop (i + 1)) := by
  unfold undo
  rw [toks_step (by rw [drop_at h]; simp)]
  unfold fsN
  rw [he, if_neg (by decide), List.drop_drop, List.flatMap_cons]
  have h2 : fsB (s.data.toList.drop i) = s[i] := by
    rw [drop_at h] at he ⊢
    exact fsB_not he
  rw [h2]
  rfl
theorem esc_val {s : ByteArray} {i : Nat} (h : i + 2 < s.size) (he : esc3 (s.data.toList.drop i) = true) :
    0 ≤ hxI (s[i + 1].toNat : Int) ∧ 0 ≤ hxI (s[i + 2].toNat : Int) ∧ ((fsB (s.data.toList.drop i)).toNat : Int) = 16 * hxI (s[i + 1].toNat : Int) + hxI (s[i + 2].toNat : Int) := by
  have h2 := he
  rw [esc3_at h] at h2
  simp only [Bool.and_eq_true, decide_eq_true_eq] at h2
  refine ⟨h2.2.1, h2.2.2, ?_⟩
  rw [drop_at (show i < s.size by omega), drop_at (show i + 1 < s.size by omega), drop_at (show i + 1 + 1 < s.size by omega)] at he ⊢
  have h3 : (s[i] == 37 && (hxB s[i + 1] && hxB s[i + 1 + 1])) = true := he
  simp only [fsB, h3, if_true]
  have l1 := hxI_lt (s[i + 1].toNat : Int)
  have l2 := hxI_lt (s[i + 2].toNat : Int)
  have e1 : (hxD s[i + 1] : Int) = hxI (s[i + 1].toNat : Int) := by unfold hxD; omega
  have e2 : (hxD s[i + 1 + 1] : Int) = hxI (s[i + 2].toNat : Int) := by show (hxD s[i + 2] : Int) = _; unfold hxD; have := h2.2.2; omega
  unfold hx2
  rw [UInt8.toNat_ofNat']
  omega
theorem undo_len (l : List UInt8) : (undo l).length ≤ 3 * l.length := by
  have h1 := rends_len (toks l)
  have h2 := toks_len l.length l (Nat.le_refl _)
  show ((toks l).flatMap rend).length ≤ _
  omega

theorem unes_fin2 {L X : List UInt8} {w0 w w3 : World} {O : Obj} {v v' : Value} (hb : Below w0.heap.size w0 w) (hN : ∀ k, k < w0.heap.size → v.ownBlock ≠ some k)
    (hgrow : (w.drew.alloc O).grownBy w3 v.ownBlock) (hown3 : w3.ownsRow w0.heap.size 5 1 v' (L.length + X.length) (Lib.byteCells L ++ Lib.byteCells X)) : ownB w3 w0.heap.size v' (L ++ X) ∧ Below w0.heap.size w0 w3 := by
  have hz := hb.size
  have keep3 : ∀ k, k < w0.heap.size → w3.heap[k]? = w.heap[k]? := fun k hk => by
    rw [hgrow.block k (by simp; omega) (fun e => hN k hk e.symm), Below.heap_alloc _ _ _ (by simp; omega)]
    rfl
  have bel3 : Below w0.heap.size w w3 := ⟨hgrow.os, hgrow.tape, hgrow.output, by have := hgrow.size; simp at this; omega, keep3⟩
  refine ⟨?_, hb.trans bel3⟩
  show World.ownsRow _ _ _ _ _ _ _
  rw [List.length_append, Lib.byteCells_append]
  exact hown3

theorem uhex8_any (c : UInt8) (w : World) : Calls Tryz.prog 82 #[.int .u8 (c.toNat : Int)] w fun r w' => r = .returned (.int .i64 (hxI (c.toNat : Int))) ∧ w' = w :=
  (uhex_any (c.toNat : Int) w (by omega) (by have := c.toNat_lt; omega)).mono fun _ _ h => ⟨h.1, h.2.symm⟩
set_option maxHeartbeats 4000000 in
set_option maxRecDepth 100000 in
theorem uundo_any (s : ByteArray) (w : World) (hl : s.size ≤ 100000000) :
    Calls Tryz.prog 55 #[.string s] w fun r w' => r = .returned (.string (bs (undo s.data.toList))) ∧ Below w.heap.size w w' := by
  have hul : (undo s.data.toList).length ≤ 300000000 := by have := undo_len s.data.toList; rw [← size_len] at this; omega
  have HUL := Lib.hid hul; clear hul
  obtain ⟨i0, hi0, hz0, hz1, hz2⟩ := info_parts infoB
  have HI := Lib.hid hi0; clear hi0
  go_enter Tryz.func55, Tryz.ntmps55
  go_wp2_with fail
  go_loopw [3, 4] (fun v i wr => ∃ (k : Nat) (L : List UInt8), k ≤ s.size ∧ i = .int .i64 k ∧ ownB wr w.heap.size v L ∧ Hid (undo s.data.toList = L ++ undo (s.data.toList.drop k)) ∧ Below w.heap.size w wr) (fun _ i _ => s.size - (intOf i).toNat)
  case atStart => exact ⟨0, [], Nat.zero_le _, rfl, ownB_nil _ _, rfl, Below.refl _ _⟩
  case round =>
    obtain ⟨k, L, hk, rfl, ho, HT, hb⟩ := hrel
    obtain ⟨va, vc, rfl⟩ := ho.form
    have hLl : L.length ≤ 300000000 := by have h1 := HUL.out; rw [HT.out, List.length_append] at h1; omega
    have HLN : Hid (L.length + 1 ≤ 140737488355328) := by show _ ≤ _; omega
    have HO := Lib.hid ho; have HB := Lib.hid hb; clear ho hb
    by_cases hlt : k < s.size
    · have HES := Lib.hid (fun w => uesc_any s k w hk (by omega))
      cases he : esc3 (s.data.toList.drop k)
      · have HN : Hid (undo s.data.toList = (L ++ [s[k]]) ++ undo (s.data.toList.drop (k + 1))) := by show _ = _; rw [HT.out, undo_one hlt he, List.append_assoc]
        rw [he] at HES
        clear he HT
        go_wp2_with (first | (go_at_call 81; refine (HES.out _).mono ?_; rintro e w' ⟨rfl, rfl⟩) | (at_builtin; refine wpList_appB rfl (.tmp 14) (.tmp 18) rfl w.heap.size w.heap.size _ L _ s[k] rfl HO.out HB.out (Nat.le_refl _) HB.out.size rfl rfl HLN.out ?_; intro v3 w3 HO3 HB3 HK3))
        go_roundw
        case rel => exact ⟨k + 1, L ++ [s[k]], by omega, by go_num, HO3.out, HN, HB3.out⟩
        case measure => simp [intOf]; omega
      · have hroom := esc_room he
        obtain ⟨ha0, hb0, hcv⟩ := esc_val (show k + 2 < s.size by omega) he
        have hla := hxI_lt (s[k + 1].toNat : Int)
        have hlb := hxI_lt (s[k + 2].toNat : Int)
        have HN : Hid (undo s.data.toList = (L ++ rend (fsB (s.data.toList.drop k), true)) ++ undo (s.data.toList.drop (k + 3))) := by show _ = _; rw [HT.out, undo_esc hlt he, List.append_assoc]
        rw [he] at HES
        clear he HT
        generalize fsB (s.data.toList.drop k) = c at *
        have hcw : IntKind.u8.wrap (16 * hxI (s[k + 1].toNat : Int) + hxI (s[k + 2].toNat : Int)) = (c.toNat : Int) := by rw [IntKind.wrap_u8]; omega
        have hi1 : k + 1 < s.size := by omega
        have hi2 : k + 2 < s.size := by omega
        have e1 := IntWalk.i64_in ((k : Int) + 1) (by omega)
        have e2 := IntWalk.i64_in ((k : Int) + 2) (by omega)
        have e3 := IntWalk.i64_in (16 * hxI (s[k + 1].toNat : Int)) (by omega)
        have e4 := IntWalk.i64_in (16 * hxI (s[k + 1].toNat : Int) + hxI (s[k + 2].toNat : Int)) (by omega)
        have f1 : 0 ≤ (k : Int) + 1 ∧ (k : Int) + 1 < (s.size : Int) := by omega
        have f2 : 0 ≤ (k : Int) + 2 ∧ (k : Int) + 2 < (s.size : Int) := by omega
        have t1 : ((k : Int) + 1).toNat = k + 1 := by omega
        have t2 : ((k : Int) + 2).toNat = k + 2 := by omega
        have HPL := Lib.hid (fun w => uplain_any (c.toNat : Int) w)
        go_wp2_with (go_at_call 81; refine (HES.out _).mono ?_; rintro e w' ⟨rfl, rfl⟩)
        go_quiet ((go_at_call 82; exact Calls.quiet_of_same (uhex8_any _ _)))
        have hd : Below wr.heap.size wr (wr.drewN nq) := by have h := Below.refl wr.heap.size wr; exact ⟨h.os, h.tape, h.output, h.size, h.block⟩
        have HO1 := Lib.hid (HO.out.below hd (Nat.le_refl _)); have HB1 := Lib.hid (HB.out.trans (hd.mono HB.out.size))
        rw [← hcv]
        clear hd HO HB e1 e2 e3 e4 hcw ha0 hb0 hla hlb hcv HES
        generalize wr.drewN nq = x1 at *
        cases hpl : plainI (c.toNat : Int)
        · have HR : Hid (rend (c, true) = [37, hxU (c.toNat / 16), hxU (c.toNat % 16)]) := by
            have h0 : plB c = false := hpl
            show _ = _
            simp [rend, h0]
          rw [hpl] at HPL
          clear hpl
          have hlt2 : c.toNat < 256 := c.toNat_lt
          have hq : Int.tdiv (c.toNat : Int) 16 = ((c.toNat / 16 : Nat) : Int) := by rw [Int.tdiv_eq_ediv_of_nonneg (by omega)]; omega
          have hr : Int.tmod (c.toNat : Int) 16 = ((c.toNat % 16 : Nat) : Int) := by rw [Int.tmod_eq_emod_of_nonneg (by omega)]; omega
          have hq1 : c.toNat / 16 < 16 := by omega
          have hqw : IntKind.u8.wrap ((c.toNat / 16 : Nat) : Int) = ((c.toNat / 16 : Nat) : Int) := by rw [IntKind.wrap_u8]; omega
          have hr1 : c.toNat % 16 < 16 := by omega
          generalize c.toNat / 16 = q at *
          generalize c.toNat % 16 = r at *
          have hq2 : (q : Int) < 16 := by omega
          have hr2 : (r : Int) < 16 := by omega
          have hX : Lib.byteCells [37, hxU q, hxU r] = [.int .u8 37, .int .u8 ((⟨#[48, 49, 50, 51, 52, 53, 54, 55, 56, 57, 65, 66, 67, 68, 69, 70]⟩ : ByteArray)[q]'hq1).toNat, .int .u8 ((⟨#[48, 49, 50, 51, 52, 53, 54, 55, 56, 57, 65, 66, 67, 68, 69, 70]⟩ : ByteArray)[r]'hr1).toNat] := by
            rw [hexU_at q hq1, hexU_at r hr1]; rfl
          have HX := Lib.hid hX; clear hX
          have hbz := HB1.out.size
          have hi0 := HI.out
          have HN2 := Lib.hid HO1.out.noBlock
          go_wp2_with (go_at_call 83; refine (HPL.out _).mono ?_; rintro e w' ⟨rfl, rfl⟩)
          go_region_law (first | (refine step_append_lies _ (by rfl) _ _ _ (by rfl) w.heap.size 5 i0 _ 1 1 Tryz.underlying67 hi0 hz0 hz1 hz2 rfl (by omega) (.slice va L.length vc) L.length (Lib.byteCells L) (by rfl) (HO1.out.drew.alloc _) ⟨x1.heap.size, 0, none⟩ 3 3 _ (by rfl) (by rfl) (World.news_of_block (t := 5) (fr := (0, 0)) (heap_alloc_new x1.drew _)) (by simp [Value.oneCell']) (by omega) (by unfold maxLen; omega) (by omega) (by simp; omega) (x1.heap.size + 1) (by simp) ?_; intro gg cap w3 hown3 hgrow hat hlt3))
          all_goals rw [← HX.out] at hown3
          all_goals have HUP := Lib.hid (unes_fin2 (X := [37, hxU q, hxU r]) HB1.out HN2.out hgrow hown3)
          all_goals clear hown3 hgrow
          all_goals go_wp2_with fail
          all_goals go_roundw
          all_goals first | exact ⟨k + 3, L ++ rend (c, true), by omega, by go_num, by rw [HR.out]; exact HUP.out.1, HN, HUP.out.2⟩ | (simp [intOf]; omega)
        · have HR : Hid (rend (c, true) = [c]) := by
            have h0 : plB c = true := hpl
            show _ = _
            simp [rend, h0]
          rw [hpl] at HPL
          clear hpl
          go_wp2_with (first | (go_at_call 83; refine (HPL.out _).mono ?_; rintro e w' ⟨rfl, rfl⟩) | (at_builtin; refine wpList_appB rfl (.tmp 37) (.tmp 39) rfl w.heap.size w.heap.size _ L _ c rfl HO1.out HB1.out (Nat.le_refl _) HB1.out.size rfl rfl HLN.out ?_; intro v3 w3 HO3 HB3 HK3))
          go_roundw
          case rel => exact ⟨k + 3, L ++ rend (c, true), by omega, by go_num, by rw [HR.out]; exact HO3.out, HN, HB3.out⟩
          case measure => simp [intOf]; omega
    · have HF : Hid (undo s.data.toList = L) := by show _ = _; rw [HT.out, drop_nil (by omega), undo_nil, List.append_nil]
      have hbk := HO.out.back
      go_wp2_with fail
      go_ret
      exact ⟨ret_str (by rw [HF.out]), HB.out⟩
end Go.Proofs.YtnpiaifkeddjeaaGreatDoor

/- The document's own answer: a path without dots. -/
namespace Go.Proofs.YtnpiaifkeddjeaaGreatDoor
open Go.RowKit

theorem in_at {s t : List UInt8} {I : ByteArray} (hI : I.data.toList = 47 :: (s ++ t)) (hs : ∀ c ∈ s, c ≠ 47) {k : Nat} (hk : 1 ≤ k) (hk2 : k ≤ s.length) : ∃ h : k < I.size, ((I[k].toNat : Int) != 47) = true := by
  have hz : I.size = 1 + (s.length + t.length) := by rw [size_len, hI]; simp; omega
  refine ⟨by omega, ?_⟩
  have h1 : I[k]'(by omega) = s[k - 1]'(by omega) := by
    rw [ByteArray.getElem_eq_getElem_data, ← Array.getElem_toList, List.getElem_of_eq hI]
    obtain ⟨j, rfl⟩ : ∃ j, k = j + 1 := ⟨k - 1, by omega⟩
    simp only [List.getElem_cons_succ, Nat.add_sub_cancel]
    rw [List.getElem_append_left (show j < s.length by omega)]
  rw [h1, bne_iff_ne]
  intro h2
  have h3 : s[k - 1]'(by omega) = 47 := UInt8.toNat_inj.1 (by simpa using (by omega : (s[k - 1]'(by omega)).toNat = 47))
  exact hs _ (List.getElem_mem (show k - 1 < s.length by omega)) h3
theorem in_end {s : List UInt8} {L : List (List UInt8)} {I : ByteArray} (hI : I.data.toList = 47 :: (s ++ outD L)) (h : 1 + s.length < I.size) : ((I[1 + s.length].toNat : Int) != 47) = false := by
  have h1 : I[1 + s.length] = 47 := by
    rw [ByteArray.getElem_eq_getElem_data, ← Array.getElem_toList, List.getElem_of_eq hI]
    match L with
    | [] => rw [size_len, hI] at h; simp [outD] at h; omega
    | x :: L =>
      have : 1 + s.length = s.length + 1 := by omega
      simp only [this, List.getElem_cons_succ]
      rw [List.getElem_append_right (by omega)]
      simp [outD]
  rw [h1]; rfl
theorem clean_more {K : List (List UInt8)} {x : List UInt8} (h : ∀ y ∈ K, ∀ c ∈ y, c ≠ 47) (hx : ∀ c ∈ x, c ≠ 47) : ∀ y ∈ K ++ [x], ∀ c ∈ y, c ≠ (47 : UInt8) := fun y hy => by
  rcases List.mem_append.1 hy with h1 | h1
  · exact h y h1
  · rw [List.mem_singleton.1 h1]; exact hx
theorem out_at {A y : List UInt8} {O : ByteArray} (hO : O.data.toList = A ++ 47 :: y) (hy : ∀ c ∈ y, c ≠ 47) {j : Nat} (h1 : A.length < j) (h2 : j < O.size) : ((O[j].toNat : Int) != 47) = true := by
  have hz : O.size = A.length + (y.length + 1) := by rw [size_len, hO]; simp
  have e : O[j] = y[j - A.length - 1]'(by omega) := by
    rw [ByteArray.getElem_eq_getElem_data, ← Array.getElem_toList, List.getElem_of_eq hO, List.getElem_append_right (by omega)]
    obtain ⟨i, hi⟩ : ∃ i, j - A.length = i + 1 := ⟨j - A.length - 1, by omega⟩
    simp only [hi, List.getElem_cons_succ, Nat.add_sub_cancel]
  rw [e, bne_iff_ne]
  intro h3
  have h4 : y[j - A.length - 1]'(by omega) = 47 := UInt8.toNat_inj.1 (by simpa using (by omega : (y[j - A.length - 1]'(by omega)).toNat = 47))
  exact hy _ (List.getElem_mem (show j - A.length - 1 < y.length by omega)) h4
theorem out_end {A y : List UInt8} {O : ByteArray} (hO : O.data.toList = A ++ 47 :: y) : ∃ h : A.length < O.size, ((O[A.length].toNat : Int) != 47) = false := by
  have hz : O.size = A.length + (y.length + 1) := by rw [size_len, hO]; simp
  refine ⟨by omega, ?_⟩
  have e : O[A.length]'(by omega) = 47 := by
    rw [ByteArray.getElem_eq_getElem_data, ← Array.getElem_toList, List.getElem_of_eq hO, List.getElem_append_right (Nat.le_refl _)]
    simp
  rw [e]; rfl
def strZ : Value → Nat | .string s => s.size | _ => 0
set_option maxHeartbeats 1000000 in
set_option maxRecDepth 100000 in
theorem udots_any (s : ByteArray) (w : World) (hl : s.size ≤ 100000000) :
    Calls Tryz.prog 54 #[.string s] w fun r w' => r = .returned (.string (bs (dotsL s.data.toList))) ∧ w = w' := by
  rcases Nat.eq_zero_or_pos s.size with h0 | h0
  · have hn := nil_of h0
    have he : s = ⟨#[]⟩ := bs_of hn
    subst he
    clear hn h0
    go_enter Tryz.func54, Tryz.ntmps54
    go_wp2_with fail
    go_ret
    exact ⟨ret_str rfl, rfl⟩
  · have hc := cons_of h0
    have hnz : (s.toList == []) = false := by rw [Lib.toList_data, hc]; rfl
    by_cases h47 : s[0] = 47
    · obtain ⟨p, hp⟩ : ∃ p, s.data.toList = 47 :: p := ⟨_, by rw [hc, h47]⟩
      have hb : ((s[0].toNat : Int) != 47) = false := by rw [h47]; rfl
      have hlp : p.length ≤ 99999999 := by rw [size_len, hp, List.length_cons] at hl; omega
      have hs2 : Hid (s = bs (outD (segs p))) := bs_of (by rw [hp, outD_join (segs_ne p), segs_join])
      have hD : Hid (dotsL s.data.toList = outD (endD [] (segs p))) := by show _ = _; rw [hp, dots_out]
      have HC := Lib.hid (segs_clean p)
      have HJ : Hid (jl (segs p) ≤ 100000000) := by show _ ≤ _; rw [jl_segs]; omega
      generalize dotsL s.data.toList = F at *
      generalize hS0 : segs p = S0 at *
      clear hc h47 hp hS0 hlp
      go_enter Tryz.func54, Tryz.ntmps54
      go_wp2_with fail
      have hs3 := hs2.out
      clear hs2
      subst hs3
      clear hl hnz hb
      go_loop [3, 4] (fun i o => ∃ (K S : List (List UInt8)), i = .string (bs (outD S)) ∧ o = .string (bs (outD K)) ∧ Hid (∀ x ∈ K, ∀ c ∈ x, c ≠ 47) ∧ Hid (∀ x ∈ S, ∀ c ∈ x, c ≠ 47) ∧ Hid (F = outD (endD K S)) ∧ Hid (jl S ≤ 100000000 ∧ jl K + jl S ≤ 100000000)) (fun i _ => strZ i)
      case atStart => exact ⟨[], S0, rfl, rfl, fun x hx => by (cases hx), HC, hD, Lib.hid ⟨HJ.out, by have := HJ.out; simpa [jl] using this⟩⟩
      case round =>
        obtain ⟨K, S, rfl, rfl, HK, HC, HD, HJ⟩ := hrel
        match S, HC, HD, HJ with
        | [], HC, HD, HJ =>
          have HF : Hid (F = outD K) := HD.out
          clear HD HC HJ
          rw [outD_nil]
          go_wp2_with fail
          go_ret
          exact ⟨ret_str (by rw [HF.out]), rfl⟩
        | x :: L, HC, HD, HJ =>
          have hx : ∀ c ∈ x, c ≠ 47 := HC.out x (by simp)
          have HC2 : Hid (∀ y ∈ L, ∀ c ∈ y, c ≠ 47) := fun y hy => HC.out y (by simp [hy])
          have hI : (bs (outD (x :: L))).data.toList = 47 :: (x ++ outD L) := by rw [bs_data]; rfl
          have hz : (bs (outD (x :: L))).size = 1 + (x.length + (outD L).length) := by rw [size_len, hI]; simp; omega
          have HZ := Lib.hid hz
          have HAT := Lib.hid (fun k => in_at hI hx (k := k))
          have HCX := Lib.hid hx
          have HEN := Lib.hid (in_end (s := x) (L := L) hI)
          have HI := Lib.hid hI
          have hbd : (outD L).length + x.length ≤ 100000000 := by have := HJ.out.1; rw [jl_cons] at this; rw [outD_len]; omega
          generalize hIn : bs (outD (x :: L)) = I at *
          clear hIn hI hx
          go_wp2_with fail
          go_loop [5] (fun i => ∃ k : Nat, 1 ≤ k ∧ k ≤ 1 + x.length ∧ i = .int .i64 k) (fun i => I.size - (intOf i).toNat)
          case atStart => exact ⟨1, by omega, by omega, rfl⟩
          case round =>
            obtain ⟨k, hk1, hk2, rfl⟩ := hrel
            by_cases hlt : k ≤ x.length
            · obtain ⟨h1, h2⟩ := HAT.out k hk1 hlt
              go_wp2_with fail
              go_round
              case rel => exact ⟨k + 1, by omega, by omega, by go_num⟩
              case measure => simp [intOf]; omega
            · obtain rfl : k = 1 + x.length := by omega
              have hP : I.extract 0 (1 + x.length) = bs (47 :: x) := by
                refine bs_of ?_
                rw [Lib.extract_from_zero, HI.out, Nat.add_comm]; simp
              have hR : I.extract (1 + x.length) I.size = bs (outD L) := by
                refine bs_of ?_
                rw [Lib.extract_to_end, HI.out, Nat.add_comm]; simp
              have hpe : ∀ l, ((I.extract 0 (1 + x.length)).toList == l) = ((47 :: x) == l) := fun l => by rw [hP, beq_lit]
              have hre : ((I.extract (1 + x.length) I.size).toList == []) = decide (L = []) := by
                rw [hR, beq_lit]
                match L with
                | [] => rfl
                | y :: M => simp [outD]
              have HP := Lib.hid hP; have HR := Lib.hid hR; clear hP hR hz
              have hle : 1 + x.length ≤ I.size := by rw [HZ.out]; omega
              by_cases h1 : x = [46]
              · have HDS : Hid (dotS x = true) := by show _ = _; rw [h1]; rfl
                have hks : keepS K x = K := by rw [h1]; rfl
                have q1 : ((I.extract 0 (1 + x.length)).toList == [47, 46]) = true := by rw [hpe, h1]; rfl
                have HX : Hid (x.length = 1) := by show _ = _; rw [h1]; rfl
                clear h1
                by_cases hL : L = []
                · have q0 : ((I.extract (1 + x.length) I.size).toList == []) = true := by rw [hre, hL]; rfl
                  have HN : Hid (F = outD (endD K [[]])) := by show _ = _; rw [HD.out, hL, endD_dot1 HDS.out, hks]
                  have HJ2 : Hid (jl [[]] ≤ 100000000 ∧ jl K + jl [[]] ≤ 100000000) := by
                    have h := HJ.out
                    rw [jl_cons] at h
                    have e2 : jl [([] : List UInt8)] = 1 := rfl
                    exact ⟨by omega, by omega⟩
                  have HC2 : Hid (∀ y ∈ [([] : List UInt8)], ∀ c ∈ y, c ≠ 47) := fun y hy c hc => by simp at hy; subst hy; cases hc
                  have hLn : ¬ 1 + x.length < I.size := by have := HZ.out; rw [hL, outD_nil, List.length_nil] at this; omega
                  clear hpe hre hks hL
                  go_wp2_with fail
                  go_round
                  case rel =>
                    skip
                    exact ⟨K, [[]], rfl, rfl, HK, HC2, HN, HJ2⟩
                  case measure => have := HZ.out; have := HX.out; have e1 : (⟨#[47]⟩ : ByteArray).size = 1 := rfl; simp [strZ]; omega
                · have q0 : ((I.extract (1 + x.length) I.size).toList == []) = false := by rw [hre]; simpa using hL
                  have HN : Hid (F = outD (endD K L)) := by show _ = _; rw [HD.out, endD_dot _ hL, hks]
                  have HJ2 : Hid (jl L ≤ 100000000 ∧ jl K + jl L ≤ 100000000) := by
                    have h := HJ.out
                    rw [jl_cons] at h
                    exact ⟨by omega, by omega⟩
                  have hLn : 1 + x.length < I.size := by
                    have := HZ.out
                    match L with
                    | [] => exact absurd rfl hL
                    | y :: M => rw [outD_cons] at this; simp at this; omega
                  clear hpe hre hks hL
                  have hEN := HEN.out hLn
                  go_wp2_with fail
                  go_round
                  case rel =>
                    rw [HR.out]
                    exact ⟨K, L, rfl, rfl, HK, HC2, HN, HJ2⟩
                  case measure => rw [HR.out]; have := HZ.out; simp [strZ]; omega
              · by_cases h2 : x = [46, 46]
                · have HDS : Hid (dotS x = true) := by show _ = _; rw [h2]; rfl
                  have hks : keepS K x = K.dropLast := by rw [h2]; rfl
                  have q1 : ((I.extract 0 (1 + x.length)).toList == [47, 46]) = false := by rw [hpe]; simpa using h1
                  have q2 : ((I.extract 0 (1 + x.length)).toList == [47, 46, 46]) = true := by rw [hpe, h2]; rfl
                  have HX : Hid (x.length = 2) := by show _ = _; rw [h2]; rfl
                  have hjd : jl K.dropLast ≤ jl K := jl_sub (List.dropLast_sublist K)
                  clear h1 h2
                  by_cases hL : L = []
                  · have q0 : ((I.extract (1 + x.length) I.size).toList == []) = true := by rw [hre, hL]; rfl
                    have HN : Hid (F = outD (endD K.dropLast [[]])) := by show _ = _; rw [HD.out, hL, endD_dot1 HDS.out, hks]
                    have HJ2 : Hid (jl [[]] ≤ 100000000 ∧ jl K.dropLast + jl [[]] ≤ 100000000) := by
                      have h := HJ.out
                      rw [jl_cons] at h
                      have e2 : jl [([] : List UInt8)] = 1 := rfl
                      exact ⟨by omega, by omega⟩
                    have HC2 : Hid (∀ y ∈ [([] : List UInt8)], ∀ c ∈ y, c ≠ 47) := fun y hy c hc => by simp at hy; subst hy; cases hc
                    have hLn : ¬ 1 + x.length < I.size := by have := HZ.out; rw [hL, outD_nil, List.length_nil] at this; omega
                    clear hpe hre hks hL hjd
                    by_cases hK : K = []
                    · have hKe : outD K = [] := by rw [hK]; rfl
                      have HN : Hid (F = outD (endD K [[]])) := by show _ = _; rw [HN.out, hK]; rfl
                      have HJ2 : Hid (jl [[]] ≤ 100000000 ∧ jl K + jl [[]] ≤ 100000000) := by have h := HJ2.out; rw [hK] at h ⊢; exact h
                      have HK2 := HK
                      rw [hKe]
                      have HKE := Lib.hid hKe; clear hKe hK
                      go_wp2_with fail
                      go_loop [7] (fun i => i = .int .i64 0) (fun _ => 0)
                      case atStart => rfl
                      case round =>
                        obtain rfl := hrel
                        go_wp2_with fail
                        go_round
                        case rel =>
                          skip
                          exact ⟨K, [[]], rfl, by rw [HKE.out], HK2, HC2, HN, HJ2⟩
                        case measure => have := HZ.out; have := HX.out; have e1 : (⟨#[47]⟩ : ByteArray).size = 1 := rfl; simp [strZ]; omega
                    · obtain ⟨K0, y, rfl⟩ : ∃ K0 y, K = K0 ++ [y] := ⟨_, _, (List.dropLast_concat_getLast hK).symm⟩
                      have hdl : (K0 ++ [y]).dropLast = K0 := by simp
                      rw [hdl] at HN HJ2
                      have HK2 : Hid (∀ z ∈ K0, ∀ c ∈ z, c ≠ 47) := fun z hz => HK.out z (by simp [hz])
                      have hO : (bs (outD (K0 ++ [y]))).data.toList = outD K0 ++ 47 :: y := by rw [bs_data, outD_last]
                      have HAO := Lib.hid (fun j => out_at hO (HK.out y (by simp)) (j := j))
                      obtain ⟨hoz, hoe⟩ := out_end hO
                      have hoe2 := Lib.hid hoe
                      have HX2 : Hid ((bs (outD (K0 ++ [y]))).extract 0 (outD K0).length = bs (outD K0)) := by
                        refine bs_of ?_
                        rw [Lib.extract_from_zero, hO]; simp
                      have hzo : (bs (outD (K0 ++ [y]))).size ≤ 100000000 := by have h := HJ.out.2; rw [bs_size, outD_len]; omega
                      clear hK hdl hO hoe
                      generalize bs (outD (K0 ++ [y])) = O at *
                      go_wp2_with fail
                      go_loop [7] (fun i => ∃ j : Nat, (outD K0).length ≤ j ∧ j < O.size ∧ i = .int .i64 ((j : Int) + 1)) (fun i => (intOf i).toNat)
                      case atStart => exact ⟨O.size - 1, by omega, by omega, by go_num⟩
                      case round =>
                        obtain ⟨j, hj1, hj2, rfl⟩ := hrel
                        by_cases hj : (outD K0).length < j
                        · have hne := HAO.out j hj hj2
                          go_wp2_with fail
                          go_round
                          case rel => exact ⟨j - 1, by omega, by omega, by go_num⟩
                          case measure => simp [intOf]
                        · obtain rfl : j = (outD K0).length := by omega
                          have hoe3 := hoe2.out
                          go_wp2_with fail
                          go_round
                          case rel =>
                            skip
                            exact ⟨K0, [[]], rfl, by rw [HX2.out], HK2, HC2, HN, HJ2⟩
                          case measure => have := HZ.out; have := HX.out; have e1 : (⟨#[47]⟩ : ByteArray).size = 1 := rfl; simp [strZ]; omega
                  · have q0 : ((I.extract (1 + x.length) I.size).toList == []) = false := by rw [hre]; simpa using hL
                    have HN : Hid (F = outD (endD K.dropLast L)) := by show _ = _; rw [HD.out, endD_dot _ hL, hks]
                    have HJ2 : Hid (jl L ≤ 100000000 ∧ jl K.dropLast + jl L ≤ 100000000) := by
                      have h := HJ.out
                      rw [jl_cons] at h
                      exact ⟨by omega, by omega⟩
                    have hLn : 1 + x.length < I.size := by
                      have := HZ.out
                      match L with
                      | [] => exact absurd rfl hL
                      | y :: M => rw [outD_cons] at this; simp at this; omega
                    clear hpe hre hks hL hjd
                    have hEN := HEN.out hLn
                    by_cases hK : K = []
                    · have hKe : outD K = [] := by rw [hK]; rfl
                      have HN : Hid (F = outD (endD K L)) := by show _ = _; rw [HN.out, hK]; rfl
                      have HJ2 : Hid (jl L ≤ 100000000 ∧ jl K + jl L ≤ 100000000) := by have h := HJ2.out; rw [hK] at h ⊢; exact h
                      have HK2 := HK
                      rw [hKe]
                      have HKE := Lib.hid hKe; clear hKe hK
                      go_wp2_with fail
                      go_loop [7] (fun i => i = .int .i64 0) (fun _ => 0)
                      case atStart => rfl
                      case round =>
                        obtain rfl := hrel
                        go_wp2_with fail
                        go_round
                        case rel =>
                          rw [HR.out]
                          exact ⟨K, L, rfl, by rw [HKE.out], HK2, HC2, HN, HJ2⟩
                        case measure => rw [HR.out]; have := HZ.out; simp [strZ]; omega
                    · obtain ⟨K0, y, rfl⟩ : ∃ K0 y, K = K0 ++ [y] := ⟨_, _, (List.dropLast_concat_getLast hK).symm⟩
                      have hdl : (K0 ++ [y]).dropLast = K0 := by simp
                      rw [hdl] at HN HJ2
                      have HK2 : Hid (∀ z ∈ K0, ∀ c ∈ z, c ≠ 47) := fun z hz => HK.out z (by simp [hz])
                      have hO : (bs (outD (K0 ++ [y]))).data.toList = outD K0 ++ 47 :: y := by rw [bs_data, outD_last]
                      have HAO := Lib.hid (fun j => out_at hO (HK.out y (by simp)) (j := j))
                      obtain ⟨hoz, hoe⟩ := out_end hO
                      have hoe2 := Lib.hid hoe
                      have HX2 : Hid ((bs (outD (K0 ++ [y]))).extract 0 (outD K0).length = bs (outD K0)) := by
                        refine bs_of ?_
                        rw [Lib.extract_from_zero, hO]; simp
                      have hzo : (bs (outD (K0 ++ [y]))).size ≤ 100000000 := by have h := HJ.out.2; rw [bs_size, outD_len]; omega
                      clear hK hdl hO hoe
                      generalize bs (outD (K0 ++ [y])) = O at *
                      go_wp2_with fail
                      go_loop [7] (fun i => ∃ j : Nat, (outD K0).length ≤ j ∧ j < O.size ∧ i = .int .i64 ((j : Int) + 1)) (fun i => (intOf i).toNat)
                      case atStart => exact ⟨O.size - 1, by omega, by omega, by go_num⟩
                      case round =>
                        obtain ⟨j, hj1, hj2, rfl⟩ := hrel
                        by_cases hj : (outD K0).length < j
                        · have hne := HAO.out j hj hj2
                          go_wp2_with fail
                          go_round
                          case rel => exact ⟨j - 1, by omega, by omega, by go_num⟩
                          case measure => simp [intOf]
                        · obtain rfl : j = (outD K0).length := by omega
                          have hoe3 := hoe2.out
                          go_wp2_with fail
                          go_round
                          case rel =>
                            rw [HR.out]
                            exact ⟨K0, L, rfl, by rw [HX2.out], HK2, HC2, HN, HJ2⟩
                          case measure => rw [HR.out]; have := HZ.out; simp [strZ]; omega
                · have q1 : ((I.extract 0 (1 + x.length)).toList == [47, 46]) = false := by rw [hpe]; simpa using h1
                  have q2 : ((I.extract 0 (1 + x.length)).toList == [47, 46, 46]) = false := by rw [hpe]; simpa using h2
                  have HDS : Hid (dotS x = false) := by show _ = _; simp [dotS, h1, h2]
                  have hKL : (outD K).length + (outD L).length + x.length ≤ 100000000 := by have := HJ.out.2; rw [jl_cons] at this; rw [outD_len, outD_len]; omega
                  have hcat : ¬ 9223372036854775807 < (outD K).length + min (1 + x.length) I.size := by omega
                  have HK2 : Hid (∀ y ∈ K ++ [x], ∀ c ∈ y, c ≠ 47) := clean_more HK.out HCX.out
                  have HN : Hid (F = outD (endD (K ++ [x]) L)) := by show _ = _; rw [HD.out, endD_keep HDS.out]
                  have HJ2 : Hid (jl L ≤ 100000000 ∧ jl (K ++ [x]) + jl L ≤ 100000000) := by
                    have h := HJ.out
                    rw [jl_cons] at h
                    have e : jl [x] = x.length + 1 := rfl
                    exact ⟨by omega, by rw [jl_append, e]; omega⟩
                  clear hpe hre h1 h2
                  by_cases hLn : 1 + x.length < I.size
                  · have hEN := HEN.out hLn
                    go_wp2_with fail
                    go_round
                    case rel =>
                      rw [HR.out, HP.out]
                      exact ⟨K ++ [x], L, rfl, by rw [outD_last, bs_appU], HK2, HC2, HN, HJ2⟩
                    case measure => rw [HR.out]; have := HZ.out; simp [strZ]; omega
                  · go_wp2_with fail
                    go_round
                    case rel =>
                      rw [HR.out, HP.out]
                      exact ⟨K ++ [x], L, rfl, by rw [outD_last, bs_appU], HK2, HC2, HN, HJ2⟩
                    case measure => rw [HR.out]; have := HZ.out; simp [strZ]; omega
    · have hF : Hid (dotsL s.data.toList = []) := by
        show _ = _
        rw [hc]
        exact dots_no (by simp [Lib.hasPrefix, List.isPrefixOf]; exact fun h => h47 h.symm)
      have hb : ((s[0].toNat : Int) != 47) = true := by
        rw [bne_iff_ne]; intro h; exact h47 (UInt8.toNat_inj.1 (by simpa using (by omega : s[0].toNat = 47)))
      clear hc h47
      go_enter Tryz.func54, Tryz.ntmps54
      go_wp2_with fail
      go_ret
      exact ⟨ret_str (by rw [hF.out]; rfl), rfl⟩
end Go.Proofs.YtnpiaifkeddjeaaGreatDoor

/- The document's own answer: a URI's normal form. -/
namespace Go.Proofs.YtnpiaifkeddjeaaGreatDoor
open Go.RowKit

/-- the document's Normal: the cells of the URI that it changes and of what is handed back -/
structure NIn (w : World) (sc ho : ByteArray) (po : Int) (pa qu : ByteArray) (hq : Bool) (W : World) : Prop where
  res : ubk W (w.heap.size + 1) #[.string ⟨#[]⟩, .string ⟨#[]⟩, .int .i64 0, .string ⟨#[]⟩, .string ⟨#[]⟩, .bool false]
  u : ubk W w.heap.size #[.string sc, .string ho, .int .i64 po, .string pa, .string qu, .bool hq]
  bel : Below w.heap.size w W
theorem NIn.ho {w W : World} {sc ho pa qu : ByteArray} {po : Int} {hq : Bool} (h : NIn w sc ho po pa qu hq W) (v : ByteArray) : NIn w sc v po pa qu hq (W.setCell ⟨w.heap.size, 1, none⟩ (.string v)) :=
  ⟨h.res.other (a := ⟨w.heap.size, 1, none⟩) (Nat.succ_ne_self _) _, h.u.set 1 _, h.bel.setCell (p := ⟨w.heap.size, 1, none⟩) (Nat.le_refl _) _⟩
theorem NIn.po {w W : World} {sc ho pa qu : ByteArray} {po : Int} {hq : Bool} (h : NIn w sc ho po pa qu hq W) (v : Int) : NIn w sc ho v pa qu hq (W.setCell ⟨w.heap.size, 2, none⟩ (.int .i64 v)) :=
  ⟨h.res.other (a := ⟨w.heap.size, 2, none⟩) (Nat.succ_ne_self _) _, h.u.set 2 _, h.bel.setCell (p := ⟨w.heap.size, 2, none⟩) (Nat.le_refl _) _⟩
theorem NIn.pa {w W : World} {sc ho pa qu : ByteArray} {po : Int} {hq : Bool} (h : NIn w sc ho po pa qu hq W) (v : ByteArray) : NIn w sc ho po v qu hq (W.setCell ⟨w.heap.size, 3, none⟩ (.string v)) :=
  ⟨h.res.other (a := ⟨w.heap.size, 3, none⟩) (Nat.succ_ne_self _) _, h.u.set 3 _, h.bel.setCell (p := ⟨w.heap.size, 3, none⟩) (Nat.le_refl _) _⟩
theorem NIn.qu {w W : World} {sc ho pa qu : ByteArray} {po : Int} {hq : Bool} (h : NIn w sc ho po pa qu hq W) (v : ByteArray) : NIn w sc ho po pa v hq (W.setCell ⟨w.heap.size, 4, none⟩ (.string v)) :=
  ⟨h.res.other (a := ⟨w.heap.size, 4, none⟩) (Nat.succ_ne_self _) _, h.u.set 4 _, h.bel.setCell (p := ⟨w.heap.size, 4, none⟩) (Nat.le_refl _) _⟩
theorem NIn.below {w W W' : World} {sc ho pa qu : ByteArray} {po : Int} {hq : Bool} (h : NIn w sc ho po pa qu hq W) (hb : Below W.heap.size W W') : NIn w sc ho po pa qu hq W' :=
  ⟨h.res.below hb, h.u.below hb, h.bel.trans (hb.mono h.bel.size)⟩
theorem NIn.start (w : World) (sc ho : ByteArray) (po : Int) (pa qu : ByteArray) (hq : Bool) : NIn w sc ho po pa qu hq ((w.alloc (.cells #[.string sc, .string ho, .int .i64 po, .string pa, .string qu, .bool hq] 23)).alloc (.cells #[.string ⟨#[]⟩, .string ⟨#[]⟩, .int .i64 0, .string ⟨#[]⟩, .string ⟨#[]⟩, .bool false] 23)) := by
  have h1 := ubk.new (w.alloc (.cells #[.string sc, .string ho, .int .i64 po, .string pa, .string qu, .bool hq] 23)) #[.string ⟨#[]⟩, .string ⟨#[]⟩, .int .i64 0, .string ⟨#[]⟩, .string ⟨#[]⟩, .bool false] 23
  rw [World.size_alloc] at h1
  exact ⟨h1, (ubk.new w _ 23).alloc _, ((Below.refl _ _).alloc (Nat.le_refl _) _).alloc (by simp) _⟩
theorem rlowerU_any (s : List UInt8) (w : World) (hs : s.length ≤ 100000000) :
    Calls Tryz.prog 53 #[.string (bs s)] w fun e w' => e = .returned (.string (bs (lower s))) ∧ Below w.heap.size w w' := by
  have h := rlower_any (bs s) w (by rw [bs_size]; omega)
  rwa [bs_data] at h
theorem uundoL_any (s : List UInt8) (w : World) (hs : s.length ≤ 100000000) :
    Calls Tryz.prog 55 #[.string (bs s)] w fun e w' => e = .returned (.string (bs (undo s))) ∧ Below w.heap.size w w' := by
  have h := uundo_any (bs s) w (by rw [bs_size]; omega)
  rwa [bs_data] at h
theorem udotsL_any (s : List UInt8) (w : World) (hs : s.length ≤ 100000000) :
    Calls Tryz.prog 54 #[.string (bs s)] w fun e w' => e = .returned (.string (bs (dotsL s))) ∧ w = w' := by
  have h := udots_any (bs s) w (by rw [bs_size]; omega)
  rwa [bs_data] at h
set_option maxHeartbeats 4000000 in
set_option maxRecDepth 100000 in
theorem unormal_any (u : Ur) (w : World) (hu : u.okW) (hpl : u.pa.length ≤ 10000000) :
    Calls Tryz.prog 31 #[.agg #[.string (bs u.sc), .string (bs u.ho), .int .i64 u.po, .string (bs u.pa), .string (bs u.qu), .bool u.hq]] w fun r w' => r = .returned (.agg #[.string (bs u.normal.sc), .string (bs u.normal.ho), .int .i64 u.normal.po, .string (bs u.normal.pa), .string (bs u.normal.qu), .bool u.normal.hq]) ∧ Below w.heap.size w w' := by
  have hnm : u.normal = if u.check = 0 then u.norm else ur0 := rfl
  rw [hnm]
  clear hnm
  have hck := ucheck_any u ((w.alloc (.cells #[.string (bs u.sc), .string (bs u.ho), .int .i64 u.po, .string (bs u.pa), .string (bs u.qu), .bool u.hq] 23)).alloc (.cells #[.string ⟨#[]⟩, .string ⟨#[]⟩, .int .i64 0, .string ⟨#[]⟩, .string ⟨#[]⟩, .bool false] 23)) hu
  have hlen := hu.len
  have hst := NIn.start w (bs u.sc) (bs u.ho) u.po (bs u.pa) (bs u.qu) u.hq
  have hno : u.norm = ⟨u.sc, lower u.ho, if u.po = usual u.sc then 0 else u.po, dotsL (undo u.pa), undo u.qu, u.hq⟩ := rfl
  rw [hno]
  clear hno hu
  generalize u.check = k at *
  obtain ⟨sc, ho, po, pa, qu, hq⟩ := u
  simp only at hck hlen hpl hst ⊢
  have HLL : Hid (ho.length ≤ 100000000) := by show _ ≤ _; omega
  have HLP : Hid (pa.length ≤ 100000000) := by show _ ≤ _; omega
  have HLQ : Hid (qu.length ≤ 100000000) := by show _ ≤ _; omega
  have HLD : Hid ((undo pa).length ≤ 100000000) := by have := undo_len pa; show _ ≤ _; omega
  have HCK := Lib.hid hck; have HST := Lib.hid hst
  have sc0 := HST.out.u.cell 0 (.string (bs sc)) rfl
  have sc1 := HST.out.u.cell 1 (.string (bs ho)) rfl
  have sc2 := HST.out.u.cell 2 (.int .i64 po) rfl
  have sc3 := HST.out.u.cell 3 (.string (bs pa)) rfl
  have sc4 := HST.out.u.cell 4 (.string (bs qu)) rfl
  have sc5 := HST.out.u.cell 5 (.bool hq) rfl
  clear hck hlen hst hpl
  by_cases hk0 : k = 0
  · subst hk0
    rw [if_pos rfl]
    have hus : (sc = schH ∧ usual sc = 80) ∨ (sc ≠ schH ∧ sc = schS ∧ usual sc = 443) ∨ (sc ≠ schH ∧ sc ≠ schS ∧ usual sc = 0) := by
      unfold usual
      by_cases h1 : sc = schH
      · exact .inl ⟨h1, by rw [if_pos h1]⟩
      · by_cases h2 : sc = schS
        · exact .inr (.inl ⟨h1, h2, by rw [if_neg h1, if_pos h2]⟩)
        · exact .inr (.inr ⟨h1, h2, by rw [if_neg h1, if_neg h2]⟩)
    have HUS := Lib.hid hus; clear hus
    generalize usual sc = us at *
    generalize hp2 : (if po = us then 0 else po) = po2 at *
    have HP2E := Lib.hid hp2; clear hp2
    go_enter Tryz.func31, Tryz.ntmps31
    go_wp2_with fail
    refine HCK.out.mono ?_
    rintro r w1 ⟨rfl, hb1⟩
    have HP1 := Lib.hid (HST.out.below hb1); clear hb1
    have ac0 := HP1.out.u.cell 0 (.string (bs sc)) rfl
    have af0 := HP1.out.u.free 0
    have ac1 := HP1.out.u.cell 1 (.string (bs ho)) rfl
    have af1 := HP1.out.u.free 1
    have ac2 := HP1.out.u.cell 2 (.int .i64 po) rfl
    have af2 := HP1.out.u.free 2
    have ac3 := HP1.out.u.cell 3 (.string (bs pa)) rfl
    have af3 := HP1.out.u.free 3
    have ac4 := HP1.out.u.cell 4 (.string (bs qu)) rfl
    have af4 := HP1.out.u.free 4
    have ac5 := HP1.out.u.cell 5 (.bool hq) rfl
    have af5 := HP1.out.u.free 5
    go_wp2_with fail
    refine (rlowerU_any _ _ HLL.out).mono ?_
    rintro r w2 ⟨rfl, hb2⟩
    have HP2 := Lib.hid (HP1.out.below hb2); clear hb2
    clear ac0 af0 ac1 af1 ac2 af2 ac3 af3 ac4 af4 ac5 af5
    have bc0 := HP2.out.u.cell 0 (.string (bs sc)) rfl
    have bf0 := HP2.out.u.free 0
    have bc1 := HP2.out.u.cell 1 (.string (bs ho)) rfl
    have bf1 := HP2.out.u.free 1
    have bc2 := HP2.out.u.cell 2 (.int .i64 po) rfl
    have bf2 := HP2.out.u.free 2
    have bc3 := HP2.out.u.cell 3 (.string (bs pa)) rfl
    have bf3 := HP2.out.u.free 3
    have bc4 := HP2.out.u.cell 4 (.string (bs qu)) rfl
    have bf4 := HP2.out.u.free 4
    have bc5 := HP2.out.u.cell 5 (.bool hq) rfl
    have bf5 := HP2.out.u.free 5
    have HP3 := Lib.hid (HP2.out.ho (bs (lower ho)))
    have e0 := HP3.out.u.cell 0 (.string (bs sc)) rfl
    have e2 := HP3.out.u.cell 2 (.int .i64 po) rfl
    have e3 := HP3.out.u.free 2
    go_upto_region 4 with fail
    generalize w2.setCell ⟨w.heap.size, 1, none⟩ (.string (bs (lower ho))) = w3 at *
    go_cut [28] (fun v wx => ∃ b : Bool, v = .bool b ∧ w3 = wx ∧ Hid (b = true → po = us) ∧ Hid (b = false → (if po = us then 0 else po) = po))
    case first =>
      rcases HUS.out with ⟨h1, h3⟩ | ⟨h1, h2, h3⟩ | ⟨h1, h2, h3⟩
      · have q1 : ((bs sc).toList == [104, 116, 116, 112]) = true := by rw [beq_lit, h1]; rfl
        clear h1
        by_cases hpo : po = 80
        · have q2 : (po == 80) = true := beq_iff_eq.2 hpo
          have HT : Hid (po = us) := by show _ = _; rw [hpo, h3]
          clear hpo h3
          go_wp2_with fail
          go_meet
          exact ⟨true, rfl, rfl, fun _ => HT.out, (fun h => by cases h)⟩
        · have q2 : (po == 80) = false := beq_eq_false_iff_ne.2 hpo
          have q3 : ((bs sc).toList == [104, 116, 116, 112, 115]) = false := by
            rw [beq_eq_false_iff_ne]; intro h
            rw [beq_iff_eq] at q1
            rw [q1] at h; exact absurd h (by decide)
          have HT : Hid (¬ po = us) := by show ¬ _; rw [h3]; exact hpo
          clear hpo h3
          go_wp2_with fail
          go_meet
          exact ⟨false, rfl, rfl, (fun h => by cases h), fun _ => if_neg HT.out⟩
      · have q1 : ((bs sc).toList == [104, 116, 116, 112]) = false := by rw [beq_lit]; exact beq_eq_false_iff_ne.2 h1
        have q3 : ((bs sc).toList == [104, 116, 116, 112, 115]) = true := by rw [beq_lit, h2]; rfl
        clear h1 h2
        by_cases hpo : po = 443
        · have q2 : (po == 443) = true := beq_iff_eq.2 hpo
          have HT : Hid (po = us) := by show _ = _; rw [hpo, h3]
          clear hpo h3
          go_wp2_with fail
          go_meet
          exact ⟨true, rfl, rfl, fun _ => HT.out, (fun h => by cases h)⟩
        · have q2 : (po == 443) = false := beq_eq_false_iff_ne.2 hpo
          have HT : Hid (¬ po = us) := by show ¬ _; rw [h3]; exact hpo
          clear hpo h3
          go_wp2_with fail
          go_meet
          exact ⟨false, rfl, rfl, (fun h => by cases h), fun _ => if_neg HT.out⟩
      · have q1 : ((bs sc).toList == [104, 116, 116, 112]) = false := by rw [beq_lit]; exact beq_eq_false_iff_ne.2 h1
        have q3 : ((bs sc).toList == [104, 116, 116, 112, 115]) = false := by rw [beq_lit]; exact beq_eq_false_iff_ne.2 h2
        have HT : Hid ((if po = us then 0 else po) = po) := by
          show _ = _
          rw [h3]
          split
          · rename_i h; exact h.symm
          · rfl
        clear h1 h2 h3
        go_wp2_with fail
        go_meet
        exact ⟨false, rfl, rfl, (fun h => by cases h), fun _ => HT.out⟩
    case rest =>
      obtain ⟨b, rfl, rfl, HT1, HT2⟩ := hcut
      go_upto_if 28 with fail
      go_cut [] (fun wx => NIn w (bs sc) (bs (lower ho)) po2 (bs pa) (bs qu) hq wx)
      case first =>
        cases b
        · have HP4 : Hid (NIn w (bs sc) (bs (lower ho)) po2 (bs pa) (bs qu) hq w3) := by show NIn _ _ _ _ _ _ _ _; rw [← HP2E.out, HT2.out rfl]; exact HP3.out
          go_wp2_with fail
          go_meet
          exact HP4.out
        · have HP4 : Hid (NIn w (bs sc) (bs (lower ho)) po2 (bs pa) (bs qu) hq (w3.setCell ⟨w.heap.size, 2, none⟩ (.int .i64 0))) := by show NIn _ _ _ _ _ _ _ _; rw [← HP2E.out, if_pos (HT1.out rfl)]; exact HP3.out.po 0
          go_wp2_with fail
          go_meet
          exact HP4.out
      case rest =>
        have HP4 := Lib.hid hcut
        clear hcut HP3 e0 e2 e3 HT1 HT2 HUS
        have g3 := HP4.out.u.cell 3 (.string (bs pa)) rfl
        go_wp2_with fail
        refine (uundoL_any _ _ HLP.out).mono ?_
        rintro r w5 ⟨rfl, hb5⟩
        have HP5 := Lib.hid (HP4.out.below hb5); clear hb5 g3
        go_wp2_with fail
        refine (udotsL_any _ _ HLD.out).mono ?_
        rintro r w6 ⟨rfl, rfl⟩
        have pc0 := HP5.out.u.cell 0 (.string (bs sc)) rfl
        have pf0 := HP5.out.u.free 0
        have pc1 := HP5.out.u.cell 1 (.string (bs (lower ho))) rfl
        have pf1 := HP5.out.u.free 1
        have pc2 := HP5.out.u.cell 2 (.int .i64 po2) rfl
        have pf2 := HP5.out.u.free 2
        have pc3 := HP5.out.u.cell 3 (.string (bs pa)) rfl
        have pf3 := HP5.out.u.free 3
        have pc4 := HP5.out.u.cell 4 (.string (bs qu)) rfl
        have pf4 := HP5.out.u.free 4
        have pc5 := HP5.out.u.cell 5 (.bool hq) rfl
        have pf5 := HP5.out.u.free 5
        have HP6 := Lib.hid (HP5.out.pa (bs (dotsL (undo pa))))
        have g4 := HP6.out.u.cell 4 (.string (bs qu)) rfl
        go_wp2_with fail
        refine (uundoL_any _ _ HLQ.out).mono ?_
        rintro r w7 ⟨rfl, hb7⟩
        have HP7 := Lib.hid (HP6.out.below hb7); clear hb7 g4
        clear pc0 pf0 pc1 pf1 pc2 pf2 pc3 pf3 pc4 pf4 pc5 pf5
        have qc0 := HP7.out.u.cell 0 (.string (bs sc)) rfl
        have qf0 := HP7.out.u.free 0
        have qc1 := HP7.out.u.cell 1 (.string (bs (lower ho))) rfl
        have qf1 := HP7.out.u.free 1
        have qc2 := HP7.out.u.cell 2 (.int .i64 po2) rfl
        have qf2 := HP7.out.u.free 2
        have qc3 := HP7.out.u.cell 3 (.string (bs (dotsL (undo pa)))) rfl
        have qf3 := HP7.out.u.free 3
        have qc4 := HP7.out.u.cell 4 (.string (bs qu)) rfl
        have qf4 := HP7.out.u.free 4
        have qc5 := HP7.out.u.cell 5 (.bool hq) rfl
        have qf5 := HP7.out.u.free 5
        have HP8 := Lib.hid (HP7.out.qu (bs (undo qu)))
        have nc0 := HP8.out.res.cell 0 (.string ⟨#[]⟩) rfl
        have nf0 := HP8.out.res.free 0
        have nc1 := HP8.out.res.cell 1 (.string ⟨#[]⟩) rfl
        have nf1 := HP8.out.res.free 1
        have nc2 := HP8.out.res.cell 2 (.int .i64 0) rfl
        have nf2 := HP8.out.res.free 2
        have nc3 := HP8.out.res.cell 3 (.string ⟨#[]⟩) rfl
        have nf3 := HP8.out.res.free 3
        have nc4 := HP8.out.res.cell 4 (.string ⟨#[]⟩) rfl
        have nf4 := HP8.out.res.free 4
        have nc5 := HP8.out.res.cell 5 (.bool false) rfl
        have nf5 := HP8.out.res.free 5
        have hq0 := ((((((HP8.out.res.set 0 (.string (bs sc))).set 1 (.string (bs (lower ho)))).set 2 (.int .i64 po2)).set 3 (.string (bs (dotsL (undo pa))))).set 4 (.string (bs (undo qu)))).set 5 (.bool hq))
        simp only [List.setIfInBounds_toArray, List.set_cons_zero, List.set_cons_succ] at hq0
        have HQ0 := Lib.hid hq0; clear hq0
        have HBF : Hid (Below w.heap.size w (((((((w7.setCell ⟨w.heap.size, 4, none⟩ (.string (bs (undo qu)))).setCell ⟨w.heap.size + 1, 0, none⟩ (.string (bs sc))).setCell ⟨w.heap.size + 1, 1, none⟩ (.string (bs (lower ho)))).setCell ⟨w.heap.size + 1, 2, none⟩ (.int .i64 po2)).setCell ⟨w.heap.size + 1, 3, none⟩ (.string (bs (dotsL (undo pa))))).setCell ⟨w.heap.size + 1, 4, none⟩ (.string (bs (undo qu)))).setCell ⟨w.heap.size + 1, 5, none⟩ (.bool hq))) := ((((((HP8.out.bel.setCell (p := ⟨w.heap.size + 1, 0, none⟩) (Nat.le_succ _) (.string (bs sc))).setCell (p := ⟨w.heap.size + 1, 1, none⟩) (Nat.le_succ _) (.string (bs (lower ho)))).setCell (p := ⟨w.heap.size + 1, 2, none⟩) (Nat.le_succ _) (.int .i64 po2)).setCell (p := ⟨w.heap.size + 1, 3, none⟩) (Nat.le_succ _) (.string (bs (dotsL (undo pa))))).setCell (p := ⟨w.heap.size + 1, 4, none⟩) (Nat.le_succ _) (.string (bs (undo qu)))).setCell (p := ⟨w.heap.size + 1, 5, none⟩) (Nat.le_succ _) (.bool hq))
        go_wp2_with fail
        have m0 := HQ0.out.cell 0 (.string (bs sc)) rfl
        have m1 := HQ0.out.cell 1 (.string (bs (lower ho))) rfl
        have m2 := HQ0.out.cell 2 (.int .i64 po2) rfl
        have m3 := HQ0.out.cell 3 (.string (bs (dotsL (undo pa)))) rfl
        have m4 := HQ0.out.cell 4 (.string (bs (undo qu))) rfl
        have m5 := HQ0.out.cell 5 (.bool hq) rfl
        exact bodyPost_ret (v := .agg #[.string (bs sc), .string (bs (lower ho)), .int .i64 po2, .string (bs (dotsL (undo pa))), .string (bs (undo qu)), .bool hq]) (by simp [results, Tryz.results31, go_sem, m0, m1, m2, m3, m4, m5]) rfl ⟨rfl, HBF.out⟩
  · rw [if_neg hk0]
    have hkn : (k != 0) = true := bne_iff_ne.2 hk0
    clear hk0
    go_enter Tryz.func31, Tryz.ntmps31
    go_wp2_with fail
    refine HCK.out.mono ?_
    rintro r w1 ⟨rfl, hb1⟩
    have HP1 := Lib.hid (HST.out.below hb1); clear hb1
    have nc0 := HP1.out.res.cell 0 (.string ⟨#[]⟩) rfl
    have nf0 := HP1.out.res.free 0
    have nc1 := HP1.out.res.cell 1 (.string ⟨#[]⟩) rfl
    have nf1 := HP1.out.res.free 1
    have nc2 := HP1.out.res.cell 2 (.int .i64 0) rfl
    have nf2 := HP1.out.res.free 2
    have nc3 := HP1.out.res.cell 3 (.string ⟨#[]⟩) rfl
    have nf3 := HP1.out.res.free 3
    have nc4 := HP1.out.res.cell 4 (.string ⟨#[]⟩) rfl
    have nf4 := HP1.out.res.free 4
    have nc5 := HP1.out.res.cell 5 (.bool false) rfl
    have nf5 := HP1.out.res.free 5
    have hq0 := ((((((HP1.out.res.set 0 (.string ⟨#[]⟩)).set 1 (.string ⟨#[]⟩)).set 2 (.int .i64 0)).set 3 (.string ⟨#[]⟩)).set 4 (.string ⟨#[]⟩)).set 5 (.bool false))
    simp only [List.setIfInBounds_toArray, List.set_cons_zero, List.set_cons_succ] at hq0
    have HQ0 := Lib.hid hq0; clear hq0
    have HBF : Hid (Below w.heap.size w ((((((w1.setCell ⟨w.heap.size + 1, 0, none⟩ (.string ⟨#[]⟩)).setCell ⟨w.heap.size + 1, 1, none⟩ (.string ⟨#[]⟩)).setCell ⟨w.heap.size + 1, 2, none⟩ (.int .i64 0)).setCell ⟨w.heap.size + 1, 3, none⟩ (.string ⟨#[]⟩)).setCell ⟨w.heap.size + 1, 4, none⟩ (.string ⟨#[]⟩)).setCell ⟨w.heap.size + 1, 5, none⟩ (.bool false))) := ((((((HP1.out.bel.setCell (p := ⟨w.heap.size + 1, 0, none⟩) (Nat.le_succ _) (.string ⟨#[]⟩)).setCell (p := ⟨w.heap.size + 1, 1, none⟩) (Nat.le_succ _) (.string ⟨#[]⟩)).setCell (p := ⟨w.heap.size + 1, 2, none⟩) (Nat.le_succ _) (.int .i64 0)).setCell (p := ⟨w.heap.size + 1, 3, none⟩) (Nat.le_succ _) (.string ⟨#[]⟩)).setCell (p := ⟨w.heap.size + 1, 4, none⟩) (Nat.le_succ _) (.string ⟨#[]⟩)).setCell (p := ⟨w.heap.size + 1, 5, none⟩) (Nat.le_succ _) (.bool false))
    go_wp2_with fail
    have m0 := HQ0.out.cell 0 (.string ⟨#[]⟩) rfl
    have m1 := HQ0.out.cell 1 (.string ⟨#[]⟩) rfl
    have m2 := HQ0.out.cell 2 (.int .i64 0) rfl
    have m3 := HQ0.out.cell 3 (.string ⟨#[]⟩) rfl
    have m4 := HQ0.out.cell 4 (.string ⟨#[]⟩) rfl
    have m5 := HQ0.out.cell 5 (.bool false) rfl
    exact bodyPost_ret (v := .agg #[.string ⟨#[]⟩, .string ⟨#[]⟩, .int .i64 0, .string ⟨#[]⟩, .string ⟨#[]⟩, .bool false]) (by simp [results, Tryz.results31, go_sem, m0, m1, m2, m3, m4, m5]) rfl ⟨rfl, HBF.out⟩
end Go.Proofs.YtnpiaifkeddjeaaGreatDoor
