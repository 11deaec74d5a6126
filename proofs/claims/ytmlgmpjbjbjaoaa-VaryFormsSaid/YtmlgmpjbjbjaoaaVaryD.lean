/- The value of a name in a request: the program's and the document's. -/
import Derived.Test.YtmlgmpjbjbjaoaaVaryC
import Derived.Test.YtmlgmpjbjbjaoaaKOpen
namespace Go.Proofs.Ytmlgmpjbjbjaoaa
open Go.RowKit

theorem flatV_step (f : List UInt8 → List (List UInt8)) {N : List (List UInt8)} {k : Nat} (h : k < N.length) : (N.take (k + 1)).flatMap f = (N.take k).flatMap f ++ f N[k] := by
  rw [List.take_succ_eq_append_getElem h, List.flatMap_append]; simp
theorem partsV_len (v : List UInt8) : (partsV v).length ≤ 64 ∧ (partsV v).flatten.length ≤ v.length := by
  unfold partsV
  split
  · exact ⟨splitL_len v 44, splitL_flat v 44⟩
  · refine ⟨by simp, ?_⟩
    have := trim_le v
    simpa using this
theorem flatP_len : ∀ N : List (List UInt8), (∀ v ∈ N, v.length ≤ 65536) → (N.flatMap partsV).length ≤ 64 * N.length ∧ (N.flatMap partsV).flatten.length ≤ 65536 * N.length
  | [], _ => by simp
  | v :: r, h => by
    obtain ⟨h1, h2⟩ := flatP_len r fun x hx => h x (by simp [hx])
    obtain ⟨h3, h4⟩ := partsV_len v
    have h5 := h v (by simp)
    simp only [List.flatMap_cons, List.length_append, List.flatten_append, List.length_cons]
    omega
theorem joinP_len {L : List (List UInt8)} : (Lib.join L [44, 32]).length ≤ L.flatten.length + 2 * L.length := by
  have := join_len [44, 32] L
  simp only [List.length_cons, List.length_nil] at this
  omega
theorem valueL_len {l : List Fld} (h : VfB l) (n : List UInt8) : (valueL l n).length ≤ 100000000 := by
  obtain ⟨h1, h2⟩ := h.vals n
  obtain ⟨h3, h4⟩ := flatP_len _ h2
  have h5 := joinP_len (L := partsN l n)
  unfold valueL
  unfold partsN at h5 ⊢
  omega
theorem partsV_ok {x : List UInt8} (h : splitE x 44 = 0) : partsV x = splitL x 44 := if_pos h
theorem partsV_no {x : List UInt8} (h : splitE x 44 ≠ 0) : partsV x = [trim x] := if_neg h

set_option maxRecDepth 100000 in
set_option maxHeartbeats 4000000 in
theorem vvalue_any {v : Value} {l : List Fld} (n : List UInt8) (w : World) (hv : FL w v l) (hs : VfB l) (hn : n.length ≤ 4294967296) :
    Calls Try.prog 35 #[v, .string (bs n)] w fun e w' => e = .returned (.string (bs (valueL l n))) ∧ Below w.heap.size w w' := by
  obtain ⟨A, c, rfl⟩ := hv.form
  have hva := values_any (.slice A l.length c) l n w hv hs.small (by have := hs.1; omega) hn
  obtain ⟨hNl, hNs⟩ := hs.vals n
  have hlen := valueL_len hs n
  have hdef : valueL l n = Lib.join ((valsL l n).flatMap partsV) [44, 32] := rfl
  have HVA := Lib.hid hva; have HNS := Lib.hid hNs; have HNL := Lib.hid hNl; have HLE := Lib.hid hlen; have HDF := Lib.hid hdef
  clear hva hv hs hNs hNl hlen hdef hn
  generalize valueL l n = Z at *
  generalize valsL l n = N at *
  generalize bs n = nn at *
  go_enter Try.func35, Try.ntmps35
  go_wp2_with fail
  refine HVA.out.mono ?_
  rintro e w1 ⟨vN, rfl, hoN, hb1⟩
  have HSN := Lib.hid hoN.sl; have HB1 := Lib.hid hb1
  obtain ⟨A1, c1, rfl⟩ := hoN.form
  clear hoN hb1 HVA
  go_wp2_with fail
  go_loopw [5, 14] (fun o i wr => ∃ k : Nat, k ≤ N.length ∧ i = .int .i64 k ∧ ownS wr w1.heap.size o ((N.take k).flatMap partsV) ∧ Below w1.heap.size w1 wr) (fun _ i _ => N.length - (intOf i).toNat)
  case atStart => exact ⟨0, Nat.zero_le _, rfl, ownS_nil _ _, Below.refl _ _⟩
  case round =>
    obtain ⟨k, hk, rfl, ho, hb⟩ := hrel
    have HO := Lib.hid ho; have HB := Lib.hid hb
    clear ho hb
    have hNl := HNL.out
    by_cases hlt : k < N.length
    · obtain ⟨b, off, rfl, hbb, hc⟩ := (HSN.out.bel HB.out).get k hlt
      have hxl := HNS.out N[k] (List.getElem_mem hlt)
      have HST := Lib.hid (flatV_step partsV hlt)
      have hfl := (flatP_len (N.take k) fun v hv => HNS.out v (List.mem_of_mem_take hv)).1
      have htl : (N.take k).length ≤ N.length := List.length_take_le' _ _
      have hpl := (partsV_len N[k]).1
      generalize N[k] = x at *
      have HQL : Hid (((N.take k).flatMap partsV).length + (partsV x).length ≤ 4294967296) := by show _ ≤ _; omega
      generalize (N.take k).flatMap partsV = acc at *
      have HSP := Lib.hid fun W => split44 x W (by omega)
      have HTR := Lib.hid fun W => trim_l x W (by omega)
      clear hxl hfl htl hpl
      rcases (show splitE x 44 = 0 ∨ splitE x 44 ≠ 0 from Decidable.em _) with hE | hE
      · have HS2 : Hid (∀ W, Calls Try.prog 27 #[.string (bs x), .int .u8 44] W fun e w' => ∃ v, e = .returned (.tuple #[v, .int .i64 0]) ∧ ownS w' W.heap.size v (splitL x 44) ∧ Below W.heap.size W w') := fun W => by have h := HSP.out W; unfold SplitPost at h; rw [hE] at h; exact h
        rw [partsV_ok hE] at HST HQL
        clear HSP HTR hE
        generalize splitL x 44 = M at *
        generalize bs x = xx at *
        obtain ⟨A0, c0, rfl⟩ := HO.out.form
        go_wp2_with (first
          | (go_at_call 27; refine (HS2.out _).mono ?_; rintro e w3 ⟨vM, rfl, hoM, hb3⟩; have HO3 := Lib.hid (HO.out.bel hb3); have HB3 := Lib.hid (HB.out.trans (hb3.mono HB.out.size)); have HM3 := Lib.hid hoM.sl; obtain ⟨A3, c3, rfl⟩ := hoM.form; clear hb3 hoM)
          | (at_builtin; refine wpList_appSS rfl (.tmp 28) (.tmp 29) rfl w1.heap.size w1.heap.size _ _ _ M rfl HO3.out HB3.out (Nat.le_refl _) HB3.out.size rfl HM3.out HQL.out ?_; intro v' w4 HO4 HB4 _ _))
        go_roundw
        case rel => exact ⟨k + 1, by omega, by go_num, by rw [HST.out]; exact HO4.out, HB4.out⟩
        case measure => simp [intOf]; omega
      · have hne : (splitE x 44 != 0) = true := bne_iff_ne.2 hE
        rw [partsV_no hE] at HST HQL
        clear hE
        generalize trim x = tx at *
        have HS2 := HSP
        unfold SplitPost at HS2
        clear HSP
        generalize splitE x 44 = E at *
        generalize splitL x 44 = M at *
        generalize bs x = xx at *
        obtain ⟨A0, c0, rfl⟩ := HO.out.form
        go_wp2_with (first
          | (go_at_call 27; refine (HS2.out _).mono ?_; rintro e w3 ⟨vM, rfl, hoM, hb3⟩; have HO3 := Lib.hid (HO.out.bel hb3); have HB3 := Lib.hid (HB.out.trans (hb3.mono HB.out.size)); obtain ⟨A3, c3, rfl⟩ := hoM.form; clear hb3 hoM)
          | (go_at_call 55; refine (HTR.out _).mono ?_; rintro e w4 ⟨rfl, hb4⟩; have hal : Below w4.heap.size w4 (w4.alloc (.cells #[.string (bs tx)] 9)) := (Below.refl _ _).alloc (Nat.le_refl _) _; have HO4 := Lib.hid ((HO3.out.bel hb4).bel hal); have HB4 := Lib.hid ((HB3.out.trans (hb4.mono HB3.out.size)).trans (hal.mono (Nat.le_trans HB3.out.size hb4.size))); have HM4 := Lib.hid (SL_lit w4 tx); clear hb4 hal)
          | (at_builtin; refine wpList_appSS rfl (.tmp 28) (.tmp 29) rfl w1.heap.size w1.heap.size _ _ _ [tx] rfl HO4.out HB4.out (Nat.le_refl _) HB4.out.size rfl HM4.out HQL.out ?_; intro v' w5 HO5 HB5 _ _))
        go_roundw
        case rel => exact ⟨k + 1, by omega, by go_num, by rw [HST.out]; exact HO5.out, HB5.out⟩
        case measure => simp [intOf]; omega
    · have HE : Hid (N.take k = N) := List.take_of_length_le (by omega)
      have hO := HO.out
      rw [HE.out] at hO
      obtain ⟨A0, c0, hu0⟩ := hO.form
      subst hu0
      have hfl := (flatP_len N HNS.out).1
      have hj := join_any _ _ _ ⟨#[44, 32]⟩ wr hO (by omega) (by have h1 := HLE.out; have h2 := HDF.out; show (Lib.join (N.flatMap partsV) [44, 32]).length ≤ _; rw [← h2]; omega)
      have hj2 : Calls Try.prog 25 #[.slice A0 (N.flatMap partsV).length c0, .string ⟨#[44, 32]⟩] wr fun e w' => e = .returned (.string (bs Z)) ∧ Below wr.heap.size wr w' := by rw [HDF.out]; exact hj
      have HJ := Lib.hid hj2
      clear HLE HDF
      generalize N.flatMap partsV = L at *
      have HB2 : Hid (Below w.heap.size w wr) := HB1.out.trans (HB.out.mono HB1.out.size)
      clear hO hfl hj hj2
      go_wp2_with (go_at_call 25; refine HJ.out.mono ?_; rintro e w3 ⟨rfl, hb3⟩; have HB3 := Lib.hid (HB2.out.trans (hb3.mono HB2.out.size)); clear hb3)
      go_ret
      exact ⟨rfl, HB3.out⟩

theorem partsV_flat (x : List UInt8) : ∀ y ∈ partsV x, y ≠ [] := partsV_ne x
theorem rtrimV (x : List UInt8) (w : World) (h : x.length ≤ maxLen) : Calls Try.prog 52 #[.string (bs x)] w fun e w' => e = .returned (.string (bs (trim x))) ∧ w = w' := by
  have := rtrim_any (bs x) w (by rw [bs_size]; exact h)
  rwa [bs_data] at this
/-- the text so far: of what was put together, and of a value's first parts -/
theorem glue_at {P M : List (List UInt8)} {j : Nat} (hP : ∀ y ∈ P, y ≠ []) (hM : ∀ y ∈ M, y ≠ []) (hj : j < M.length) : Lib.join (P ++ M.take (j + 1)) [44, 32] = glueP (Lib.join (P ++ M.take j) [44, 32]) M[j] := by
  rw [List.take_succ_eq_append_getElem hj, ← List.append_assoc]
  refine glue_step (fun y hy => ?_) (hM _ (List.getElem_mem hj))
  rcases List.mem_append.1 hy with hy | hy
  · exact hP y hy
  · exact hM y (List.mem_of_mem_take hy)

set_option maxRecDepth 100000 in
set_option maxHeartbeats 8000000 in
theorem rvvalue_any {v : Value} {l : List Fld} (n : List UInt8) (w : World) (hv : FL w v l) (hs : VfB l) (hn : n.length ≤ 4294967296) :
    Calls Try.prog 37 #[v, .string (bs n)] w fun e w' => e = .returned (.string (bs (valueL l n))) ∧ Below w.heap.size w w' := by
  obtain ⟨A, c, rfl⟩ := hv.form
  have hva := rvalues_any (.slice A l.length c) l n w hv hs.small (by have := hs.1; omega) hn
  obtain ⟨hNl, hNs⟩ := hs.vals n
  have hdef : valueL l n = Lib.join ((valsL l n).flatMap partsV) [44, 32] := rfl
  have HVA := Lib.hid hva; have HNS := Lib.hid hNs; have HNL := Lib.hid hNl; have HDF := Lib.hid hdef
  clear hva hv hs hNs hNl hdef hn
  generalize valueL l n = Z at *
  generalize valsL l n = N at *
  generalize bs n = nn at *
  go_enter Try.func37, Try.ntmps37
  go_wp2_with fail
  refine HVA.out.mono ?_
  rintro e w1 ⟨vN, rfl, hoN, hb1⟩
  have HSN := Lib.hid hoN.sl; have HB1 := Lib.hid hb1
  obtain ⟨A1, c1, rfl⟩ := hoN.form
  clear hoN hb1 HVA
  go_wp2_with fail
  go_loopw [5, 7] (fun s i wr => ∃ k : Nat, k ≤ N.length ∧ i = .int .i64 k ∧ s = .string (bs (Lib.join ((N.take k).flatMap partsV) [44, 32])) ∧ Below w1.heap.size w1 wr) (fun _ i _ => N.length - (intOf i).toNat)
  case atStart => exact ⟨0, Nat.zero_le _, rfl, rfl, Below.refl _ _⟩
  case round =>
    obtain ⟨k, hk, rfl, rfl, hb⟩ := hrel
    have HB := Lib.hid hb
    clear hb
    have hNl := HNL.out
    by_cases hlt : k < N.length
    · obtain ⟨b, off, rfl, hbb, hc⟩ := (HSN.out.bel HB.out).get k hlt
      have hxl := HNS.out N[k] (List.getElem_mem hlt)
      have HST := Lib.hid (flatV_step partsV hlt)
      obtain ⟨hfl, hfz⟩ := flatP_len (N.take k) fun v hv => HNS.out v (List.mem_of_mem_take hv)
      have htl : (N.take k).length ≤ N.length := List.length_take_le' _ _
      obtain ⟨hpl, hpz⟩ := partsV_len N[k]
      have HPN : Hid (∀ y ∈ (N.take k).flatMap partsV, y ≠ []) := fun y hy => by
        obtain ⟨v, _, h⟩ := List.mem_flatMap.1 hy
        exact partsV_ne v y h
      have HMN := Lib.hid (partsV_ne N[k])
      generalize N[k] = x at *
      have HQL : Hid (((N.take k).flatMap partsV).length ≤ 64000 ∧ ((N.take k).flatMap partsV).flatten.length ≤ 65536000) := by show _ ∧ _; omega
      generalize (N.take k).flatMap partsV = P at *
      have HSP := Lib.hid fun W => rsplit44V x W (by omega)
      have HTR := Lib.hid fun W => rtrimV x W (by unfold maxLen; omega)
      have HPM : Hid ((partsV x).length ≤ 64 ∧ (partsV x).flatten.length ≤ 65536) := by show _ ∧ _; omega
      clear hxl hfl hfz htl hpl hpz
      -- the inner loop, whatever the list is
      rcases (show splitE x 44 = 0 ∨ splitE x 44 ≠ 0 from Decidable.em _) with hE | hE
      · have HS2 : Hid (∀ W, Calls Try.prog 31 #[.string (bs x), .int .u8 44] W fun e w' => ∃ v, e = .returned (.tuple #[v, .int .i64 0]) ∧ ownS w' W.heap.size v (splitL x 44) ∧ Below W.heap.size W w') := fun W => by have h := HSP.out W; unfold SplitPost at h; rw [hE] at h; exact h
        rw [partsV_ok hE] at HST HMN HPM
        clear HSP HTR hE
        generalize splitL x 44 = M at *
        generalize bs x = xx at *
        go_wp2_with (go_at_call 31; refine (HS2.out _).mono ?_; rintro e w3 ⟨vM, rfl, hoM, hb3⟩; have HB3 := Lib.hid (HB.out.trans (hb3.mono HB.out.size)); have HM3 := Lib.hid hoM.sl; obtain ⟨A3, c3, rfl⟩ := hoM.form; clear hb3 hoM)
        go_loopw [5, 10] (fun s i wr2 => ∃ j : Nat, j ≤ M.length ∧ i = .int .i64 j ∧ s = .string (bs (Lib.join (P ++ M.take j) [44, 32])) ∧ Below w3.heap.size w3 wr2) (fun _ i _ => M.length - (intOf i).toNat)
        case atStart => exact ⟨0, Nat.zero_le _, rfl, by rw [List.take_zero, List.append_nil], Below.refl _ _⟩
        case round =>
          obtain ⟨j, hj, rfl, rfl, hb⟩ := hrel
          have HBI := Lib.hid hb
          clear hb
          have hMl := HPM.out.1
          by_cases hjt : j < M.length
          · obtain ⟨b2, off2, hA3, hbb2, hc2⟩ := (HM3.out.bel HBI.out).get j hjt
            first | subst hA3 | cases hA3
            have HGL := Lib.hid (glue_at HPN.out HMN.out hjt)
            have hne := HMN.out _ (List.getElem_mem hjt)
            have hyl := flat_mem (List.getElem_mem hjt)
            have hjl := joinP_len (L := P ++ M.take j)
            have htk : (M.take j).flatten.length ≤ M.flatten.length := by
              have h := congrArg List.length (congrArg List.flatten (List.take_append_drop j M))
              rw [List.flatten_append, List.length_append] at h
              omega
            have htl : (M.take j).length ≤ M.length := List.length_take_le' _ _
            rw [List.flatten_append, List.length_append, List.length_append] at hjl
            have HSZ : Hid ((Lib.join (P ++ M.take j) [44, 32]).length ≤ 100000000 ∧ (M[j]'hjt).length ≤ 65536) := by
              have h1 := HQL.out; have h2 := HPM.out
              show _ ∧ _
              omega
            generalize M[j]'hjt = y at *
            generalize Lib.join (P ++ M.take j) [44, 32] = cur at *
            have hy1 : ((bs y).toList == []) = false := by rw [beqV]; simpa using hne
            have hy2 : (bs y).toList.isEmpty = false := by rw [← hy1]; cases (bs y).toList <;> rfl
            clear hne hyl hjl htk htl
            by_cases hcur : cur = []
            · have hc1 : ((bs cur).toList == []) = true := by rw [beqV, hcur]; rfl
              have hc2' : (bs cur).toList.isEmpty = true := by rw [Lib.toList_data, bs_data, hcur]; rfl
              have HGY : Hid (glueP cur y = cur ++ y) := by show _ = _; unfold glueP; rw [if_neg (fun h => h.2 hcur)]
              have s1 := fun w => add_l cur y w (by have := HSZ.out; omega)
              clear hcur
              go_wp2_with fail
              go_roundw
              case rel => exact ⟨j + 1, by omega, by go_num, by rw [HGL.out, HGY.out], HBI.out⟩
              case measure => simp [intOf]; omega
            · have hc1 : ((bs cur).toList == []) = false := by rw [beqV]; simpa using hcur
              have hc2' : (bs cur).toList.isEmpty = false := by rw [← hc1]; cases (bs cur).toList <;> rfl
              have HGY : Hid (glueP cur y = cur ++ [44, 32] ++ y) := by show _ = _; unfold glueP; rw [if_pos ⟨fun h => by rw [h] at hy1; simp [bs] at hy1, hcur⟩]
              have s1 := fun w => add_l cur [44, 32] w (by have := HSZ.out; simp only [List.length_cons, List.length_nil]; omega)
              have s2 := fun w => add_l (cur ++ [44, 32]) y w (by have := HSZ.out; simp only [List.length_append, List.length_cons, List.length_nil]; omega)
              rw [show bs [44, 32] = ⟨#[44, 32]⟩ from rfl] at s1
              clear hcur
              go_wp2_with fail
              go_roundw
              case rel => exact ⟨j + 1, by omega, by go_num, by rw [HGL.out, HGY.out, List.append_assoc]; rfl, HBI.out⟩
              case measure => simp [intOf]; omega
          · have HE2 : Hid (M.take j = M) := List.take_of_length_le (by omega)
            have HB4 : Hid (Below w1.heap.size w1 _) := HB3.out.trans (HBI.out.mono HB3.out.size)
            go_wp2_with fail
            go_roundw
            case rel => exact ⟨k + 1, by omega, by go_num, by rw [HST.out, HE2.out], HB4.out⟩
            case measure => simp [intOf]; omega
      · have hne : (splitE x 44 != 0) = true := bne_iff_ne.2 hE
        rw [partsV_no hE] at HST HMN HPM
        clear hE
        generalize trim x = tx at *
        have HS2 := HSP
        unfold SplitPost at HS2
        clear HSP
        generalize splitE x 44 = E at *
        generalize splitL x 44 = M0 at *
        generalize bs x = xx at *
        go_wp2_with (first
          | (go_at_call 31; refine (HS2.out _).mono ?_; rintro e w2 ⟨vM, rfl, hoM, hb3⟩; have HB2 := Lib.hid (HB.out.trans (hb3.mono HB.out.size)); have hc3 := (World.cell?_of_block (a := ⟨b, off + k, none⟩) (hb3.block b hbb)).trans hc; obtain ⟨A2, c2, rfl⟩ := hoM.form; clear hb3 hoM)
          | (go_at_call 52; refine (HTR.out _).mono ?_; rintro e w4 ⟨rfl, rfl⟩; have hal : Below w2.heap.size w2 (w2.alloc (.cells #[.string (bs tx)] 9)) := (Below.refl _ _).alloc (Nat.le_refl _) _; have HB3 := Lib.hid (HB2.out.trans (hal.mono HB2.out.size)); have HM3 := Lib.hid (SL_lit w2 tx); clear hal))
        generalize w2.alloc (.cells #[.string (bs tx)] 9) = w3 at *
        go_loopw [5, 10] (fun s i wr2 => ∃ j : Nat, j ≤ 1 ∧ i = .int .i64 j ∧ s = .string (bs (Lib.join (P ++ [tx].take j) [44, 32])) ∧ Below w3.heap.size w3 wr2) (fun _ i _ => 1 - (intOf i).toNat)
        case atStart => exact ⟨0, Nat.zero_le _, rfl, by rw [List.take_zero, List.append_nil], Below.refl _ _⟩
        case round =>
          obtain ⟨j, hj, rfl, rfl, hb⟩ := hrel
          have HBI := Lib.hid hb
          clear hb
          have hMl := HPM.out.1
          by_cases hjt : j < 1
          · obtain ⟨b2, off2, hA3, hbb2, hc2⟩ := (HM3.out.bel HBI.out).get j hjt
            cases hA3
            rw [Nat.zero_add] at hc2
            have HGL := Lib.hid (glue_at HPN.out HMN.out (show j < [tx].length from hjt))
            have hne := HMN.out _ (List.getElem_mem (show j < [tx].length from hjt))
            have hyl := flat_mem (List.getElem_mem (show j < [tx].length from hjt))
            have hjl := joinP_len (L := P ++ [tx].take j)
            have htk : ([tx].take j).flatten.length ≤ [tx].flatten.length := by
              have h := congrArg List.length (congrArg List.flatten (List.take_append_drop j [tx]))
              rw [List.flatten_append, List.length_append] at h
              omega
            have htl : ([tx].take j).length ≤ [tx].length := List.length_take_le' _ _
            rw [List.flatten_append, List.length_append, List.length_append] at hjl
            have HSZ : Hid ((Lib.join (P ++ [tx].take j) [44, 32]).length ≤ 100000000 ∧ ([tx][j]'hjt).length ≤ 65536) := by
              have h1 := HQL.out; have h2 := HPM.out
              show _ ∧ _
              omega
            generalize [tx][j]'hjt = y at *
            generalize Lib.join (P ++ [tx].take j) [44, 32] = cur at *
            have hy1 : ((bs y).toList == []) = false := by rw [beqV]; simpa using hne
            have hy2 : (bs y).toList.isEmpty = false := by rw [← hy1]; cases (bs y).toList <;> rfl
            clear hne hyl hjl htk htl
            by_cases hcur : cur = []
            · have hc1 : ((bs cur).toList == []) = true := by rw [beqV, hcur]; rfl
              have hc2' : (bs cur).toList.isEmpty = true := by rw [Lib.toList_data, bs_data, hcur]; rfl
              have HGY : Hid (glueP cur y = cur ++ y) := by show _ = _; unfold glueP; rw [if_neg (fun h => h.2 hcur)]
              have s1 := fun w => add_l cur y w (by have := HSZ.out; omega)
              clear hcur
              go_wp2_with fail
              go_roundw
              case rel => exact ⟨j + 1, by omega, by go_num, by rw [HGL.out, HGY.out], HBI.out⟩
              case measure => simp [intOf]; omega
            · have hc1 : ((bs cur).toList == []) = false := by rw [beqV]; simpa using hcur
              have hc2' : (bs cur).toList.isEmpty = false := by rw [← hc1]; cases (bs cur).toList <;> rfl
              have HGY : Hid (glueP cur y = cur ++ [44, 32] ++ y) := by show _ = _; unfold glueP; rw [if_pos ⟨fun h => by rw [h] at hy1; simp [bs] at hy1, hcur⟩]
              have s1 := fun w => add_l cur [44, 32] w (by have := HSZ.out; simp only [List.length_cons, List.length_nil]; omega)
              have s2 := fun w => add_l (cur ++ [44, 32]) y w (by have := HSZ.out; simp only [List.length_append, List.length_cons, List.length_nil]; omega)
              rw [show bs [44, 32] = ⟨#[44, 32]⟩ from rfl] at s1
              clear hcur
              go_wp2_with fail
              go_roundw
              case rel => exact ⟨j + 1, by omega, by go_num, by rw [HGL.out, HGY.out, List.append_assoc]; rfl, HBI.out⟩
              case measure => simp [intOf]; omega
          · have HE2 : Hid ([tx].take j = [tx]) := List.take_of_length_le (by show 1 ≤ j; omega)
            have HB4 : Hid (Below w1.heap.size w1 _) := HB3.out.trans (HBI.out.mono HB3.out.size)
            go_wp2_with fail
            go_roundw
            case rel => exact ⟨k + 1, by omega, by go_num, by rw [HST.out, HE2.out], HB4.out⟩
            case measure => simp [intOf]; omega
    · have HE : Hid (N.take k = N) := List.take_of_length_le (by omega)
      have HB2 : Hid (Below w.heap.size w wr) := HB1.out.trans (HB.out.mono HB1.out.size)
      go_wp2_with fail
      go_ret
      exact ⟨ret_str (by rw [HDF.out, HE.out]), HB2.out⟩
end Go.Proofs.Ytmlgmpjbjbjaoaa
