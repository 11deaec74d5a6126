/- The document's names of a reply. -/
import Derived.Test.YtmlgmpjbjbjaoaaVaryB
namespace Go.Proofs.Ytmlgmpjbjbjaoaa
open Go.RowKit

theorem anyT_snoc {E : List (List UInt8)} {p : List UInt8 → Bool} {k : Nat} (h : k < E.length) (hp : (E.take k).any p = false) (hq : p E[k] = false) : (E.take (k + 1)).any p = false := by
  rw [List.take_succ_eq_append_getElem h, List.any_append, hp]; simp [hq]
theorem anyT_is {E : List (List UInt8)} {p : List UInt8 → Bool} {k : Nat} (h : k < E.length) (hq : p E[k] = true) : E.any p = true := List.any_eq_true.2 ⟨E[k], List.getElem_mem h, hq⟩

set_option maxRecDepth 100000 in
set_option maxHeartbeats 1000000 in
theorem rin_any (v : Value) (L : List (List UInt8)) (s : List UInt8) (w : World) (h : SL w v L) (hl : L.length ≤ 4294967296) :
    Calls Try.prog 34 #[v, .string (bs s)] w fun e w' => e = .returned (.bool (L.any (· == s))) ∧ Below w.heap.size w w' := by
  obtain ⟨A, c, rfl⟩ := h.form
  have HS := Lib.hid h
  clear h
  go_enter Try.func34, Try.ntmps34
  go_wp2_with fail
  go_loopw [5] (fun i wr => ∃ k : Nat, k ≤ L.length ∧ i = .int .i64 k ∧ (L.take k).any (· == s) = false ∧ Below w.heap.size w wr) (fun i _ => L.length - (intOf i).toNat)
  case atStart => exact ⟨0, Nat.zero_le _, rfl, rfl, Below.refl _ _⟩
  case round =>
    obtain ⟨k, hk, rfl, ht, hb⟩ := hrel
    have HT := Lib.hid ht; have HB := Lib.hid hb; clear ht hb
    by_cases hlt : k < L.length
    · obtain ⟨b, off, rfl, _, hc⟩ := (HS.out.bel HB.out).get k hlt
      have HN : Hid ((L[k] == s) = false → (L.take (k + 1)).any (· == s) = false) := fun h => anyT_snoc hlt HT.out h
      have HI : Hid ((L[k] == s) = true → L.any (· == s) = true) := fun h => anyT_is (p := (· == s)) hlt h
      have hq := beqVV L[k] s
      generalize L[k] = x at *
      cases hx : x == s
      · rw [hx] at hq
        have HN2 := Lib.hid (HN.out hx)
        clear hx HN HI
        generalize bs x = xx at *
        generalize bs s = ss at *
        go_wp2_with fail
        go_roundw
        case rel => exact ⟨k + 1, by omega, by go_num, HN2.out, HB.out⟩
        case measure => simp [intOf]; omega
      · rw [hx] at hq
        have HI2 := Lib.hid (HI.out hx)
        clear hx HN HI
        generalize bs x = xx at *
        generalize bs s = ss at *
        go_wp2_with fail
        go_ret
        exact ⟨ret_bool HI2.out.symm, HB.out⟩
    · have HE : Hid (L.any (· == s) = false) := by have := HT.out; rwa [List.take_of_length_le (by omega)] at this
      go_wp2_with fail
      go_ret
      exact ⟨ret_bool HE.out.symm, HB.out⟩
theorem rtokenV (x : List UInt8) (w : World) (h : x.length ≤ maxLen) : Calls Try.prog 32 #[.string (bs x)] w fun e w' => e = .returned (.bool (token x)) ∧ w = w' := by
  have := rtoken_any (bs x) w (by rw [bs_size]; exact h)
  rwa [bs_data] at this

set_option maxRecDepth 100000 in
set_option maxHeartbeats 8000000 in
theorem rvnames_any {v : Value} {l : List Fld} {st mi : Int} {re bo : ByteArray} (w : World) (hv : FL w v l) (hs : VfB l) :
    Calls Try.prog 11 #[.agg #[.int .i64 st, .string re, .int .i64 mi, v, .string bo]] w (RetN w (valsL l varyN)) := by
  obtain ⟨A, c, rfl⟩ := hv.form
  have hb0 : Below w.heap.size w (w.alloc (.cells #[.int .i64 st, .string re, .int .i64 mi, .slice A l.length c, .string bo] 24)) := (Below.refl _ _).alloc (Nat.le_refl _) _
  have hva := rvalues_any (.slice A l.length c) l varyN _ (hv.bel hb0) hs.small (by have := hs.1; omega) (by decide)
  obtain ⟨hNl, hNs⟩ := hs.vals varyN
  have HVA := Lib.hid hva; have HB0 := Lib.hid hb0; have HNS := Lib.hid hNs; have HNL := Lib.hid hNl
  clear hva hb0 hv hs hNs hNl
  generalize valsL l varyN = N at *
  go_enter Try.func11, Try.ntmps11
  go_wp2_with fail
  refine HVA.out.mono ?_
  rintro e w1 ⟨vN, rfl, hoN, hb1⟩
  have hNR1 : NR w w1 vN N (.slice none 0 0) [] (.slice none 0 0) [] :=
    ⟨ownS_nil _ _, fun g hg => ⟨by simp [Value.ownBlock], (World.ownsRow.lt hoN g hg).2⟩, fun g hg => by simp [Value.ownBlock] at hg, hoN.sl, SL_nil _, HB0.out.trans (hb1.mono HB0.out.size)⟩
  obtain ⟨A1, c1, rfl⟩ := hoN.form
  have HNR1 := Lib.hid hNR1
  clear hNR1 hoN hb1 HVA HB0
  go_wp2_with fail
  go_loopw [4, 6] (fun o i wr => ∃ k : Nat, k ≤ N.length ∧ i = .int .i64 k ∧ allB (N.take k) = false ∧ NR w wr (.slice A1 N.length c1) N (.slice none 0 0) [] o ((N.take k).foldl putV [])) (fun _ i _ => N.length - (intOf i).toNat)
  case atStart => exact ⟨0, Nat.zero_le _, rfl, rfl, HNR1.out⟩
  case round =>
    obtain ⟨k, hk, rfl, ha, hnr⟩ := hrel
    have HA := Lib.hid ha; have HNR := Lib.hid hnr
    clear ha hnr HNR1
    have hNl := HNL.out
    by_cases hlt : k < N.length
    · obtain ⟨b, off, rfl, hbb, hc⟩ := HNR.out.sN.get k hlt
      have hxl := HNS.out N[k] (List.getElem_mem hlt)
      have HST := Lib.hid (putV_step hlt)
      have HBI : Hid (badV N[k] = true → allB N = true) := allB_is hlt
      have HBN : Hid (badV N[k] = false → allB (N.take (k + 1)) = false) := allB_next hlt HA.out
      have hfl := foldV_len (N.take k) []
      have htl : (N.take k).length ≤ N.length := List.length_take_le' _ _
      have HFL : Hid (((N.take k).foldl putV []).length ≤ 64000) := by show _ ≤ _; simp only [List.length_nil] at hfl; omega
      generalize N[k] = x at *
      generalize (N.take k).foldl putV [] = acc at *
      have hsp := fun W => rsplit44V x W (by omega)
      have HML := Lib.hid (splitL_len x 44)
      have HMS : Hid (∀ y ∈ splitL x 44, y.length ≤ 65536) := fun y hy => by have := splitL_mem hy; omega
      have HBD : Hid (badV x = (splitE x 44 != 0 || (splitL x 44).any namelessB)) := rfl
      have HSP := Lib.hid hsp
      clear hsp hxl hfl htl
      rcases (show splitE x 44 = 0 ∨ splitE x 44 ≠ 0 from Decidable.em _) with hE | hE
      · have HS2 : Hid (∀ W, Calls Try.prog 31 #[.string (bs x), .int .u8 44] W fun e w' => ∃ v, e = .returned (.tuple #[v, .int .i64 0]) ∧ ownS w' W.heap.size v (splitL x 44) ∧ Below W.heap.size W w') := fun W => by have h := HSP.out W; unfold SplitPost at h; rw [hE] at h; exact h
        rw [hE] at HBD
        clear HSP hE
        generalize splitL x 44 = M at *
        have HBT : Hid (M.any namelessB = true → allB N = true) := fun h => HBI.out (by rw [HBD.out, h]; rfl)
        have HBF : Hid (M.any namelessB = false → allB (N.take (k + 1)) = false) := fun h => HBN.out (by rw [HBD.out, h]; rfl)
        clear HBD HBI HBN
        go_wp2_with (go_at_call 31; refine (HS2.out _).mono ?_; rintro e w3 ⟨vM, rfl, hoM, hb3⟩; have HNR3 := Lib.hid (HNR.out.next hb3 hoM); obtain ⟨A3, c3, rfl⟩ := hoM.form; clear hb3 hoM HNR)
        go_loopw [4, 9] (fun o i wr => ∃ j : Nat, j ≤ M.length ∧ i = .int .i64 j ∧ (M.take j).any namelessB = false ∧ NR w wr (.slice (some ⟨b, off, none⟩) N.length c1) N (.slice A3 M.length c3) M o ((M.take j).foldl putN acc)) (fun _ i _ => M.length - (intOf i).toNat)
        case atStart => exact ⟨0, Nat.zero_le _, rfl, rfl, HNR3.out⟩
        case round =>
          obtain ⟨j, hj, rfl, hnn, hnr⟩ := hrel
          have HNN := Lib.hid hnn; have HNR := Lib.hid hnr
          clear hnn hnr HNR3
          by_cases hjt : j < M.length
          · obtain ⟨b2, off2, rfl, hbb2, hc2⟩ := HNR.out.sM.get j hjt
            have hMl := HML.out
            have hyl := HMS.out M[j] (List.getElem_mem hjt)
            have HSN := Lib.hid (putN_step (a := acc) hjt)
            have HTN : Hid (namelessB M[j] = false → (M.take (j + 1)).any namelessB = false) := fun h => anyT_snoc hjt HNN.out h
            have HTI : Hid (namelessB M[j] = true → allB N = true) := fun h => HBT.out (anyT_is hjt h)
            have hfl := foldN_len (M.take j) acc
            have htl : (M.take j).length ≤ M.length := List.length_take_le' _ _
            have HQL : Hid (((M.take j).foldl putN acc).length + 1 ≤ 100000) := by show _ ≤ _; have := HFL.out; omega
            generalize M[j] = y at *
            generalize (M.take j).foldl putN acc = cur at *
            have HDN : Hid (namelessB y = (y == [42] || !token y)) := rfl
            have htk := fun W => rtokenV y W (by unfold maxLen; omega)
            have hst := beqV y [42]
            have HB2 := Lib.hid HNR.out.bel
            cases hx : y == [42]
            · rw [hx] at hst HDN
              cases hk : token y
              · rw [hk] at htk HDN
                have HTI2 := Lib.hid (HTI.out HDN.out)
                have HTK := Lib.hid htk
                clear hx hk htk HDN HTI HTN
                generalize bs y = yy at *
                go_wp2_with (go_at_call 32; refine (HTK.out _).mono ?_; rintro e w5 ⟨rfl, rfl⟩)
                go_ret2
                exact RetN.bad HTI2.out HB2.out
              · rw [hk] at htk HDN
                have HTN2 := Lib.hid (HTN.out HDN.out)
                have HTK := Lib.hid htk
                have HLO := Lib.hid (fun W => rlower_l y W (by omega))
                have HPN : Hid (putN cur y = if cur.any (· == lower y) then cur else cur ++ [lower y]) := rfl
                generalize lower y = nm at *
                have HIN := Lib.hid fun v W (h : SL W v cur) => rin_any v cur nm W h (by have := HQL.out; omega)
                clear hx hk htk HDN HTI HTN hfl htl hyl
                generalize bs y = yy at *
                cases hh : cur.any (· == nm)
                · rw [hh] at HPN HIN
                  simp only [Bool.false_eq_true, if_false] at HPN
                  clear hh
                  go_wp2_with (first
                    | (go_at_call 32; refine (HTK.out _).mono ?_; rintro e w5 ⟨rfl, rfl⟩)
                    | (go_at_call 33; refine (HLO.out _).mono ?_; rintro e w6 ⟨rfl, hb6⟩; have HNR6 := Lib.hid (HNR.out.call hb6); clear hb6)
                    | (go_at_call 34; refine (HIN.out _ _ HNR6.out.own.sl).mono ?_; rintro e w7 ⟨rfl, hb7⟩; have HNR7 := Lib.hid (HNR6.out.call hb7); clear hb7; obtain ⟨A0, c0, rfl⟩ := HNR7.out.own.form)
                    | (at_builtin; refine wpList_appNR rfl (.tmp 58) (.tmp 60) rfl (fun _ => False) _ _ _ N M cur nm rfl HNR7.out (fun g hg => hg.elim) rfl (by have := HQL.out; omega) ?_; intro v' w8 HNR8 HG8 HK8))
                  go_roundw
                  case rel => exact ⟨j + 1, by omega, by go_num, HTN2.out, by rw [HSN.out, HPN.out]; exact HNR8.out⟩
                  case measure => simp [intOf]; omega
                · rw [hh] at HPN HIN
                  simp only [if_true] at HPN
                  clear hh
                  go_wp2_with (first
                    | (go_at_call 32; refine (HTK.out _).mono ?_; rintro e w5 ⟨rfl, rfl⟩)
                    | (go_at_call 33; refine (HLO.out _).mono ?_; rintro e w6 ⟨rfl, hb6⟩; have HNR6 := Lib.hid (HNR.out.call hb6); clear hb6)
                    | (go_at_call 34; refine (HIN.out _ _ HNR6.out.own.sl).mono ?_; rintro e w7 ⟨rfl, hb7⟩; have HNR7 := Lib.hid (HNR6.out.call hb7); clear hb7))
                  go_roundw
                  case rel => exact ⟨j + 1, by omega, by go_num, HTN2.out, by rw [HSN.out, HPN.out]; exact HNR7.out⟩
                  case measure => simp [intOf]; omega
            · rw [hx] at hst HDN
              rw [Bool.true_or] at HDN
              have HTI2 := Lib.hid (HTI.out HDN.out)
              clear hx htk HDN HTI HTN
              generalize bs y = yy at *
              go_wp2_with fail
              go_ret2
              exact RetN.bad HTI2.out HB2.out
          · have HE2 : Hid (M.take j = M) := List.take_of_length_le (by omega)
            have HBF2 : Hid (allB (N.take (k + 1)) = false) := HBF.out (by rw [← HE2.out]; exact HNN.out)
            go_wp2_with fail
            go_roundw
            case rel => exact ⟨k + 1, by omega, by go_num, HBF2.out, by rw [HST.out]; have h := HNR.out.drop; rw [HE2.out] at h; exact h⟩
            case measure => simp [intOf]; omega
      · have hne : (splitE x 44 != 0) = true := bne_iff_ne.2 hE
        have HBI2 : Hid (allB N = true) := HBI.out (by rw [HBD.out, hne]; rfl)
        clear HBD HBN HBI hE
        have HS2 := HSP
        unfold SplitPost at HS2
        clear HSP
        generalize splitE x 44 = E at *
        generalize splitL x 44 = M at *
        go_wp2_with (go_at_call 31; refine (HS2.out _).mono ?_; rintro e w3 ⟨vM, rfl, hoM, hb3⟩; have HB3 := Lib.hid (HNR.out.call hb3).bel; obtain ⟨A3, c3, rfl⟩ := hoM.form; clear hb3 hoM HNR)
        go_ret2
        exact RetN.bad HBI2.out HB3.out
    · have HE : Hid (N.take k = N) := List.take_of_length_le (by omega)
      go_wp2_with fail
      go_ret2
      exact RetN.good (by rw [← HE.out]; exact HA.out) (by rw [← HE.out]; exact HNR.out.own) HNR.out.bel
end Go.Proofs.Ytmlgmpjbjbjaoaa
