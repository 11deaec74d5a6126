/- The names of a reply: the vary layer's Names (a map of what is known). -/
import Derived.Test.YtmlgmpjbjbjaoaaVaryA
namespace Go.Proofs.Ytmlgmpjbjbjaoaa
open Go.RowKit

def varyN : List UInt8 := [118, 97, 114, 121]
/-- fields as long as may be -/
def VfB (l : List Fld) : Prop := l.length ≤ 1000 ∧ ∀ f ∈ l, f.1.length ≤ 65536 ∧ f.2.length ≤ 65536
theorem VfB.small {l : List Fld} (h : VfB l) : smallF l := fun j hj => by
  have := h.2 l[j] (List.getElem_mem hj); omega
theorem VfB.vals {l : List Fld} (h : VfB l) (n : List UInt8) : (valsL l n).length ≤ 1000 ∧ ∀ v ∈ valsL l n, v.length ≤ 65536 := by
  refine ⟨Nat.le_trans (vals_len l n) h.1, fun v hv => ?_⟩
  unfold valsL at hv
  obtain ⟨f, hf, rfl⟩ := List.mem_map.1 hv
  exact (h.2 f (List.mem_filter.1 hf).1).2
theorem flat_mem {x : List UInt8} : ∀ {L : List (List UInt8)}, x ∈ L → x.length ≤ L.flatten.length
  | [], h => by cases h
  | y :: r, h => by
    rw [List.flatten_cons, List.length_append]
    rcases List.mem_cons.1 h with rfl | h
    · omega
    · have := flat_mem h; omega
theorem splitL_mem {v x : List UInt8} (h : x ∈ splitL v 44) : x.length ≤ v.length := Nat.le_trans (flat_mem h) (splitL_flat v 44)
theorem foldV_len : ∀ (vs a : List (List UInt8)), (vs.foldl putV a).length ≤ a.length + 64 * vs.length
  | [], _ => by simp
  | v :: r, a => by
    have h1 := foldV_len r (putV a v)
    have h2 : (putV a v).length ≤ a.length + (splitL v 44).length := foldN_len _ _
    have h3 := splitL_len v 44
    simp only [List.foldl_cons, List.length_cons]
    omega
theorem putV_step {N : List (List UInt8)} {k : Nat} (h : k < N.length) : (N.take (k + 1)).foldl putV [] = (splitL N[k] 44).foldl putN ((N.take k).foldl putV []) := by
  rw [List.take_succ_eq_append_getElem h, List.foldl_append]; rfl
theorem putN_step {M : List (List UInt8)} {a : List (List UInt8)} {j : Nat} (h : j < M.length) : (M.take (j + 1)).foldl putN a = putN ((M.take j).foldl putN a) M[j] := by
  rw [List.take_succ_eq_append_getElem h, List.foldl_append]; rfl
theorem allB_is {N : List (List UInt8)} {k : Nat} (h : k < N.length) (hb : badV N[k] = true) : allB N = true := List.any_eq_true.2 ⟨N[k], List.getElem_mem h, hb⟩
theorem allB_next {N : List (List UInt8)} {k : Nat} (h : k < N.length) (ht : allB (N.take k) = false) (hb : badV N[k] = false) : allB (N.take (k + 1)) = false := by
  unfold allB at ht ⊢
  rw [List.take_succ_eq_append_getElem h, List.any_append, ht]
  simp [hb]
/-- names, and whether they are all -/
def RetN (w : World) (vs : List (List UInt8)) (e : Ending) (w' : World) : Prop := ∃ v', e = .returned (.tuple #[v', .bool (!allB vs)]) ∧ ownS w' w.heap.size v' (namesA vs) ∧ Below w.heap.size w w'
theorem RetN.bad {w w' : World} {N : List (List UInt8)} (h : allB N = true) (hb : Below w.heap.size w w') : RetN w N (.returned (.tuple #[.slice none 0 0, .bool false])) w' := by
  refine ⟨_, by rw [h]; rfl, ?_, hb⟩
  unfold namesA; rw [h]; exact ownS_nil _ _
theorem RetN.good {w w' : World} {N : List (List UInt8)} {v : Value} (h : allB N = false) (ho : ownS w' w.heap.size v (N.foldl putV [])) (hb : Below w.heap.size w w') : RetN w N (.returned (.tuple #[v, .bool true])) w' := by
  refine ⟨_, by rw [h]; rfl, ?_, hb⟩
  unfold namesA namesOf; rw [h]; exact ho
theorem split44 (x : List UInt8) (w : World) (h : x.length ≤ 4294967290) : Calls Try.prog 27 #[.string (bs x), .int .u8 44] w (SplitPost x 44 w) := by
  have := split_any (bs x) 44 w (by rw [bs_size]; omega)
  rwa [bs_data] at this
theorem rsplit44V (x : List UInt8) (w : World) (h : x.length ≤ 4294967290) : Calls Try.prog 31 #[.string (bs x), .int .u8 44] w (SplitPost x 44 w) := by
  have := rsplit_any (bs x) 44 w (by rw [bs_size]; omega)
  rwa [bs_data] at this

/-- a map's block, beside the lists -/
structure MN (w0 w : World) (m : Nat) (vN vM o : Value) (L : List (List UInt8)) : Prop where
  low : w0.heap.size ≤ m
  oo : o.ownBlock ≠ some m
  nN : vN.ownBlock ≠ some m
  nM : vM.ownBlock ≠ some m
  map : mapAt w m L.length L
theorem MN.call {w0 w w' : World} {m : Nat} {vN vM o : Value} {L : List (List UInt8)} (h : MN w0 w m vN vM o L) (hb : Below w.heap.size w w') : MN w0 w' m vN vM o L := ⟨h.low, h.oo, h.nN, h.nM, h.map.bel hb⟩
theorem MN.next {w0 w w' : World} {m : Nat} {vN vM o u : Value} {L U : List (List UInt8)} (h : MN w0 w m vN vM o L) (hb : Below w.heap.size w w') (hu : ownS w' w.heap.size u U) : MN w0 w' m vN u o L :=
  ⟨h.low, h.oo, h.nN, fun e => by have h1 := (World.ownsRow.lt hu m e).1; have h2 := h.map.lt; omega, h.map.bel hb⟩
theorem MN.drop {w0 w : World} {m : Nat} {vN vM o : Value} {L : List (List UInt8)} (h : MN w0 w m vN vM o L) : MN w0 w m vN (.slice none 0 0) o L := ⟨h.low, h.oo, h.nN, by simp [Value.ownBlock], h.map⟩
theorem mapAt.keepV {w w' : World} {m k : Nat} {L : List (List UInt8)} (h : mapAt w m k L) (hk : w'.heap[m]? = w.heap[m]?) : mapAt w' m k L := by
  obtain ⟨es, clock, h1, h2⟩ := h
  exact ⟨es, clock, hk.trans h1, h2⟩

set_option maxRecDepth 100000 in
set_option maxHeartbeats 8000000 in
theorem vnames_any {v : Value} {l : List Fld} {st mi : Int} {re bo : ByteArray} (w : World) (hv : FL w v l) (hs : VfB l) :
    Calls Try.prog 10 #[.agg #[.int .i64 st, .string re, .int .i64 mi, v, .string bo]] w (RetN w (valsL l varyN)) := by
  obtain ⟨A, c, rfl⟩ := hv.form
  have hmk := @run_makeMap Try.prog
  have hb0 : Below w.heap.size w ((w.alloc (.cells #[.int .i64 st, .string re, .int .i64 mi, .slice A l.length c, .string bo] 24)).alloc (.map #[] 0)) := ((Below.refl _ _).alloc (Nat.le_refl _) _).alloc (by simp) _
  have hva := values_any (.slice A l.length c) l varyN _ (hv.bel hb0) hs.small (by have := hs.1; omega) (by decide)
  obtain ⟨hNl, hNs⟩ := hs.vals varyN
  have hmp := (mapAt_new (w.alloc (.cells #[.int .i64 st, .string re, .int .i64 mi, .slice A l.length c, .string bo] 24)))
  rw [World.size_alloc] at hmp
  have hsz : ((w.alloc (.cells #[.int .i64 st, .string re, .int .i64 mi, .slice A l.length c, .string bo] 24)).alloc (.map #[] 0)).heap.size = w.heap.size + 2 := by simp
  have HVA := Lib.hid hva; have HB0 := Lib.hid hb0; have HMP := Lib.hid hmp; have HSZ := Lib.hid hsz; have HNS := Lib.hid hNs; have HNL := Lib.hid hNl
  clear hva hb0 hmp hsz hv hs hNs hNl
  generalize valsL l varyN = N at *
  go_enter Try.func10, Try.ntmps10
  go_wp2_with fail
  clear hmk
  refine HVA.out.mono ?_
  rintro e w1 ⟨vN, rfl, hoN, hb1⟩
  have hNR1 : NR w w1 vN N (.slice none 0 0) [] (.slice none 0 0) [] :=
    ⟨ownS_nil _ _, fun g hg => ⟨by simp [Value.ownBlock], (World.ownsRow.lt hoN g hg).2⟩, fun g hg => by simp [Value.ownBlock] at hg, hoN.sl, SL_nil _, HB0.out.trans (hb1.mono HB0.out.size)⟩
  have hMN1 : MN w w1 (w.heap.size + 1) vN (.slice none 0 0) (.slice none 0 0) [] :=
    ⟨Nat.le_succ _, by simp [Value.ownBlock], fun e => by have h := (World.ownsRow.lt hoN _ e).1; rw [HSZ.out] at h; omega, by simp [Value.ownBlock], HMP.out.bel hb1⟩
  obtain ⟨A1, c1, rfl⟩ := hoN.form
  have HNR1 := Lib.hid hNR1; have HMN1 := Lib.hid hMN1
  clear hNR1 hMN1 hoN hb1 HVA HB0 HMP HSZ
  go_wp2_with fail
  go_loopw [4, 20] (fun o i wr => ∃ k : Nat, k ≤ N.length ∧ i = .int .i64 k ∧ allB (N.take k) = false ∧ NR w wr (.slice A1 N.length c1) N (.slice none 0 0) [] o ((N.take k).foldl putV []) ∧ MN w wr (w.heap.size + 1) (.slice A1 N.length c1) (.slice none 0 0) o ((N.take k).foldl putV [])) (fun _ i _ => N.length - (intOf i).toNat)
  case atStart => exact ⟨0, Nat.zero_le _, rfl, rfl, HNR1.out, HMN1.out⟩
  case round =>
    obtain ⟨k, hk, rfl, ha, hnr, hmn⟩ := hrel
    have HA := Lib.hid ha; have HNR := Lib.hid hnr; have HMN := Lib.hid hmn
    clear ha hnr hmn HNR1 HMN1
    have hNl := HNL.out
    by_cases hlt : k < N.length
    · obtain ⟨b, off, rfl, hbb, hc⟩ := HNR.out.sN.get k hlt
      have hxl := HNS.out N[k] (List.getElem_mem hlt)
      have HST := Lib.hid (putV_step hlt)
      have HBI : Hid (badV N[k] = true → allB N = true) := allB_is hlt
      have HBN : Hid (badV N[k] = false → allB (N.take (k + 1)) = false) := allB_next hlt HA.out
      have hfl := foldV_len (N.take k) []
      have htl : (N.take k).length ≤ N.length := List.length_take_le' _ _
      have HFL : Hid (((N.take k).foldl putV []).length ≤ 64000) := by show _ ≤ _; simp only [List.length_nil] at hfl; omega
      generalize N[k] = x at *
      generalize (N.take k).foldl putV [] = acc at *
      have hsp := fun W => split44 x W (by omega)
      have HML := Lib.hid (splitL_len x 44)
      have HMS : Hid (∀ y ∈ splitL x 44, y.length ≤ 65536) := fun y hy => by have := splitL_mem hy; omega
      have HBD : Hid (badV x = (splitE x 44 != 0 || (splitL x 44).any namelessB)) := rfl
      have HSP := Lib.hid hsp
      clear hsp hxl hfl htl
      rcases (show splitE x 44 = 0 ∨ splitE x 44 ≠ 0 from Decidable.em _) with hE | hE
      · have HS2 : Hid (∀ W, Calls Try.prog 27 #[.string (bs x), .int .u8 44] W fun e w' => ∃ v, e = .returned (.tuple #[v, .int .i64 0]) ∧ ownS w' W.heap.size v (splitL x 44) ∧ Below W.heap.size W w') := fun W => by have h := HSP.out W; unfold SplitPost at h; rw [hE] at h; exact h
        rw [hE] at HBD
        clear HSP hE
        generalize splitL x 44 = M at *
        have HCF := Lib.hid fun v W (h : SL W v M) => containsT_any 29 eNameless namelessB 65536 (fun x w hx => nameless_any x w (by omega)) v M W h HMS.out (by have := HML.out; omega)
        cases hn : M.any namelessB
        · rw [hn] at HCF
          have HBN2 : Hid (allB (N.take (k + 1)) = false) := HBN.out (by rw [HBD.out, hn]; rfl)
          clear hn HBD HBN HBI
          go_wp2_with (go_at_call 27; refine (HS2.out _).mono ?_; rintro e w3 ⟨vM, rfl, hoM, hb3⟩; have HNR3 := Lib.hid (HNR.out.next hb3 hoM); have HMN3 := Lib.hid (HMN.out.next hb3 hoM); obtain ⟨A3, c3, rfl⟩ := hoM.form; clear hb3 hoM HNR HMN)
          go_wp2_with (go_at_call 28; refine (HCF.out _ _ HNR3.out.sM).mono ?_; rintro e w4 ⟨rfl, hb4⟩; have HNR4 := Lib.hid (HNR3.out.call hb4); have HMN4 := Lib.hid (HMN3.out.call hb4); clear hb4 HNR3 HMN3)
          go_loopw [4, 37] (fun o i wr => ∃ j : Nat, j ≤ M.length ∧ i = .int .i64 j ∧ NR w wr (.slice (some ⟨b, off, none⟩) N.length c1) N (.slice A3 M.length c3) M o ((M.take j).foldl putN acc) ∧ MN w wr (w.heap.size + 1) (.slice (some ⟨b, off, none⟩) N.length c1) (.slice A3 M.length c3) o ((M.take j).foldl putN acc)) (fun _ i _ => M.length - (intOf i).toNat)
          case atStart => exact ⟨0, Nat.zero_le _, rfl, HNR4.out, HMN4.out⟩
          case round =>
            obtain ⟨j, hj, rfl, hnr, hmn⟩ := hrel
            have HNR := Lib.hid hnr; have HMN := Lib.hid hmn
            clear hnr hmn HNR4 HMN4
            by_cases hjt : j < M.length
            · obtain ⟨b2, off2, rfl, hbb2, hc2⟩ := HNR.out.sM.get j hjt
              have hMl := HML.out
              have hyl := HMS.out M[j] (List.getElem_mem hjt)
              have HSN := Lib.hid (putN_step (a := acc) hjt)
              have hfl := foldN_len (M.take j) acc
              have htl : (M.take j).length ≤ M.length := List.length_take_le' _ _
              have HQL : Hid (((M.take j).foldl putN acc).length + 1 ≤ 100000) := by show _ ≤ _; have := HML.out; have := HFL.out; omega
              generalize M[j] = y at *
              generalize (M.take j).foldl putN acc = cur at *
              have HLO := Lib.hid (fun W => lower_l y W (by unfold maxLen; omega))
              have HPN : Hid (putN cur y = if cur.any (· == lower y) then cur else cur ++ [lower y]) := rfl
              have HLL : Hid ((lower y).length ≤ 65536) := by show _ ≤ _; rw [lower_len]; exact hyl
              generalize lower y = nm at *
              clear hfl htl hyl
              cases hh : cur.any (· == nm)
              · rw [hh] at HPN
                simp only [Bool.false_eq_true, if_false] at HPN
                go_wp2_with (first
                  | (go_at_call 22; refine (HLO.out _).mono ?_; rintro e w5 ⟨rfl, hb5⟩; have HNR5 := Lib.hid (HNR.out.call hb5); have HMN5 := Lib.hid (HMN.out.call hb5); have hlk := HMN5.out.map.look nm (by have := HLL.out; unfold maxLen; omega); rw [hh] at hlk; have hal5 : Below w5.heap.size w5 (w5.alloc (.cells #[] 56)) := (Below.refl _ _).alloc (Nat.le_refl _) _; have HNR6 := Lib.hid (HNR5.out.call hal5); have HMN6 := Lib.hid (HMN5.out.call hal5); clear hal5 HNR5 HMN5 hb5 HNR HMN; obtain ⟨w7, hrun, hm7, hg7⟩ := HMN6.out.map.put nm (by have := HLL.out; unfold maxLen; omega) (by have := HQL.out; unfold maxLen; omega); have HNR7 := Lib.hid (HNR6.out.turn hg7 HMN6.out.low HMN6.out.oo HMN6.out.nN HMN6.out.nM); have HMP7 : Hid (mapAt w7 (w.heap.size + 1) (cur ++ [nm]).length (cur ++ [nm])) := (by show mapAt _ _ _ _; rw [List.length_append]; exact hm7); have HMO := Lib.hid HMN6.out.oo; have HMQ := Lib.hid HMN6.out.nN; have HMR := Lib.hid HMN6.out.nM; have HLW := Lib.hid HMN6.out.low; clear hm7 hg7 hh HNR6 HMN6)
                  | (at_builtin; refine wpList_appNR rfl (.tmp 54) (.tmp 56) rfl (fun g => g = w.heap.size + 1) _ _ _ N M cur nm rfl HNR7.out (fun g hg => ⟨by rw [hg]; exact HMO.out, by rw [hg]; exact HMP7.out.lt⟩) rfl (by have := HQL.out; omega) ?_; intro v' w8 HNR8 HG8 HK8; have HMN8 : Hid (MN w w8 (w.heap.size + 1) _ _ v' (cur ++ [nm])) := ⟨HLW.out, HG8.out _ rfl, HMQ.out, HMR.out, HMP7.out.keepV (HK8.out _ rfl)⟩))
                go_roundw
                case rel => exact ⟨j + 1, by omega, by go_num, by rw [HSN.out, HPN.out]; exact HNR8.out, by rw [HSN.out, HPN.out]; exact HMN8.out⟩
                case measure => simp [intOf]; omega
              · rw [hh] at HPN
                simp only [if_true] at HPN
                go_wp2_with (go_at_call 22; refine (HLO.out _).mono ?_; rintro e w5 ⟨rfl, hb5⟩; have HNR5 := Lib.hid (HNR.out.call hb5); have HMN5 := Lib.hid (HMN.out.call hb5); have hlk := HMN5.out.map.look nm (by have := HLL.out; unfold maxLen; omega); rw [hh] at hlk; have hal5 : Below w5.heap.size w5 (w5.alloc (.cells #[] 56)) := (Below.refl _ _).alloc (Nat.le_refl _) _; have HNR6 := Lib.hid (HNR5.out.call hal5); have HMN6 := Lib.hid (HMN5.out.call hal5); clear hal5 HNR5 HMN5 hb5 HNR HMN; clear hh)
                go_roundw
                case rel => exact ⟨j + 1, by omega, by go_num, by rw [HSN.out, HPN.out]; exact HNR6.out, by rw [HSN.out, HPN.out]; exact HMN6.out⟩
                case measure => simp [intOf]; omega
            · have HE2 : Hid ((M.take j).foldl putN acc = M.foldl putN acc) := by show _ = _; rw [List.take_of_length_le (by omega)]
              go_wp2_with fail
              go_roundw
              case rel => exact ⟨k + 1, by omega, by go_num, HBN2.out, by rw [HST.out, ← HE2.out]; exact HNR.out.drop, by rw [HST.out, ← HE2.out]; exact HMN.out.drop⟩
              case measure => simp [intOf]; omega
        · rw [hn] at HCF
          have HBI2 : Hid (allB N = true) := HBI.out (by rw [HBD.out, hn]; rfl)
          clear hn HBD HBN HBI
          go_wp2_with (go_at_call 27; refine (HS2.out _).mono ?_; rintro e w3 ⟨vM, rfl, hoM, hb3⟩; have HNR3 := Lib.hid (HNR.out.next hb3 hoM); obtain ⟨A3, c3, rfl⟩ := hoM.form; clear hb3 hoM HNR HMN)
          go_wp2_with (go_at_call 28; refine (HCF.out _ _ HNR3.out.sM).mono ?_; rintro e w4 ⟨rfl, hb4⟩; have HB4 := Lib.hid (HNR3.out.call hb4).bel; clear hb4 HNR3)
          go_ret2
          exact RetN.bad HBI2.out HB4.out
      · have hne : (splitE x 44 != 0) = true := bne_iff_ne.2 hE
        have HBI2 : Hid (allB N = true) := HBI.out (by rw [HBD.out, hne]; rfl)
        clear HBD HBN HBI hE
        have HS2 := HSP
        unfold SplitPost at HS2
        clear HSP
        generalize splitE x 44 = E at *
        generalize splitL x 44 = M at *
        go_wp2_with (go_at_call 27; refine (HS2.out _).mono ?_; rintro e w3 ⟨vM, rfl, hoM, hb3⟩; have HB3 := Lib.hid (HNR.out.call hb3).bel; obtain ⟨A3, c3, rfl⟩ := hoM.form; clear hb3 hoM HNR HMN)
        go_ret2
        exact RetN.bad HBI2.out HB3.out
    · have HE : Hid (N.take k = N) := List.take_of_length_le (by omega)
      go_wp2_with fail
      go_ret2
      exact RetN.good (by rw [← HE.out]; exact HA.out) (by rw [← HE.out]; exact HNR.out.own) HNR.out.bel
end Go.Proofs.Ytmlgmpjbjbjaoaa
