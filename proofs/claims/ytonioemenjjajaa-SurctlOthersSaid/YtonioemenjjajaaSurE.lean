/- The document's: a device's directives, the first of a name, words, one or two deltas. -/
import Derived.Test.YtonioemenjjajaaSurD
import Derived.Test.YtonioemenjjajaaTickC
namespace Go.Proofs.Ytonioemenjjajaa
open Go.RowKit

/-- one of the first j is of this name, and a device's own -/
def ownK (l : List Dv) (dev n : List UInt8) (j : Nat) : Bool := (l.take j).any fun d => dev != [] && d.2.2.2 == dev && d.1 == n
theorem ownK_step {l : List Dv} {j : Nat} (hj : j < l.length) (dev n : List UInt8) : ownK l dev n (j + 1) = (ownK l dev n j || (dev != [] && l[j].2.2.2 == dev && l[j].1 == n)) := by
  unfold ownK
  rw [List.take_succ_eq_append_getElem hj, List.any_append]
  simp
theorem ownK_all {l : List Dv} {j : Nat} (hj : ¬ j < l.length) (dev n : List UInt8) : ownK l dev n j = ownR l dev n := by
  unfold ownK ownR
  rw [List.take_of_length_le (by omega)]

set_option maxRecDepth 100000 in
set_option maxHeartbeats 8000000 in
theorem rmine_any (v : Value) (l : List Dv) (dev : List UInt8) (w : World) (hv : DL w v l) (hlen : l.length ≤ 4294967295) :
    Calls Try.prog 15 #[v, .string (bs dev)] w (RetD w (mineS l dev)) := by
  obtain ⟨A, c, rfl⟩ := hv.form
  have HDEF := Lib.hid (mineR_eq l dev)
  have HV := Lib.hid hv; clear hv
  go_enter Try.func15, Try.ntmps15
  go_wp2_with fail
  go_loopw [5, 6] (fun u i wr => ∃ k : Nat, k ≤ l.length ∧ i = .int .i64 k ∧ ownD wr w.heap.size u ((l.take k).filter (isMine l dev)) ∧ Below w.heap.size w wr) (fun _ i _ => l.length - (intOf i).toNat)
  case atStart => exact ⟨0, Nat.zero_le _, rfl, ownD_nil _ _, Below.refl _ _⟩
  case round =>
    obtain ⟨k, hk, rfl, ho, hb⟩ := hrel
    have HO := Lib.hid ho; have HB := Lib.hid hb; clear ho hb
    by_cases hlt : k < l.length
    · obtain ⟨b, off, rfl, hbl, e0, e1, e2, e3⟩ := (HV.out.bel HB.out).get k hlt
      have hst := filter_step hlt (isMine l dev)
      have hOK := fun j (hj : j < l.length) => ownK_step hj dev l[k].1
      have hOA := fun j (hj : ¬ j < l.length) => ownK_all hj dev l[k].1
      have hpd : isMine l dev l[k] = ((dev != [] && l[k].2.2.2 == dev) || (l[k].2.2.2 == [] && !ownR l dev l[k].1)) := rfl
      have hfl := List.length_filter_le (isMine l dev) (l.take k)
      rw [List.length_take] at hfl
      have HQL : Hid (((l.take k).filter (isMine l dev)).length + 1 ≤ 4294967296) := by show _ ≤ _; omega
      have HGET := Lib.hid (fun j (hj : j < l.length) => (HV.out.bel HB.out).get j hj)
      generalize l[k] = d at *
      generalize (l.take k).filter (isMine l dev) = M at *
      have HST := Lib.hid hst; have HOK := Lib.hid hOK; have HOA := Lib.hid hOA; have HPD := Lib.hid hpd
      clear hst hOK hOA hpd hfl
      obtain ⟨A0, c0, rfl⟩ := HO.out.form
      go_wp2_with fail
      go_loopw [7, 8] (fun o i wr2 => ∃ j : Nat, j ≤ l.length ∧ i = .int .i64 j ∧ o = .bool (ownK l dev d.1 j) ∧ ∃ n, wr2 = wr.drewN n) (fun _ i _ => l.length - (intOf i).toNat)
      case atStart => exact ⟨0, Nat.zero_le _, rfl, rfl, 0, rfl⟩
      case round =>
        obtain ⟨j, hj, rfl, rfl, n, rfl⟩ := hrel
        by_cases hjt : j < l.length
        · obtain ⟨b2, off2, hbo, hbl2, f0, f1, f2, f3⟩ := HGET.out j hjt
          obtain ⟨rfl, rfl⟩ : b = b2 ∧ off = off2 := by simpa using hbo
          have hk1 := HOK.out j hjt
          generalize l[j] = x at *
          generalize ownK l dev d.1 j = o at *
          have HK1 := Lib.hid hk1
          clear hbo hk1 e1 e2 e3 f1 f2
          have g0 : (wr.drewN n).cell? ⟨b, off + k * 4, none⟩ = some (.string (bs d.1)) := e0
          have g1 : (wr.drewN n).cell? ⟨b, off + j * 4, none⟩ = some (.string (bs x.1)) := f0
          have g2 : (wr.drewN n).cell? ⟨b, off + j * 4 + 3, none⟩ = some (.string (bs x.2.2.2)) := f3
          cases o
          · cases hd : dev == []
            · have q1 : ((bs dev).toList == []) = false := by rw [beq_bl]; exact hd
              have q2 : (bs dev).toList.isEmpty = false := by rw [← q1]; cases (bs dev).toList <;> rfl
              cases hf : x.2.2.2 == dev
              · have q3 : ((bs x.2.2.2).toList == (bs dev).toList) = false := by rw [beq_bs]; exact hf
                have HV2 : Hid (ownK l dev d.1 (j + 1) = false) := by show _ = _; rw [HK1.out, hf]; simp
                clear HK1
                go_wp2_with fail
                go_quiet (fail)
                go_wp2_with fail
                go_roundw
                case rel => exact ⟨j + 1, by omega, by go_num, by rw [HV2.out], _, rfl⟩
                case measure => simp [intOf]; omega
              · have q3 : ((bs x.2.2.2).toList == (bs dev).toList) = true := by rw [beq_bs]; exact hf
                cases hn : x.1 == d.1
                · have q4 : ((bs x.1).toList == (bs d.1).toList) = false := by rw [beq_bs]; exact hn
                  have HV2 : Hid (ownK l dev d.1 (j + 1) = false) := by show _ = _; rw [HK1.out, hn]; simp
                  clear HK1
                  go_wp2_with fail
                  go_quiet (fail)
                  go_wp2_with fail
                  go_roundw
                  case rel => exact ⟨j + 1, by omega, by go_num, by rw [HV2.out], _, rfl⟩
                  case measure => simp [intOf]; omega
                · have q4 : ((bs x.1).toList == (bs d.1).toList) = true := by rw [beq_bs]; exact hn
                  have HV2 : Hid (ownK l dev d.1 (j + 1) = true) := by show _ = _; rw [HK1.out, hn, hf, bne, hd]; rfl
                  clear HK1
                  go_wp2_with fail
                  go_quiet (fail)
                  go_wp2_with fail
                  go_roundw
                  case rel => exact ⟨j + 1, by omega, by go_num, by rw [HV2.out], _, rfl⟩
                  case measure => simp [intOf]; omega
            · have q1 : ((bs dev).toList == []) = true := by rw [beq_bl]; exact hd
              have q2 : (bs dev).toList.isEmpty = true := by rw [Lib.toList_data, bs_data, beq_iff_eq.1 hd]; rfl
              have HV2 : Hid (ownK l dev d.1 (j + 1) = false) := by show _ = _; rw [HK1.out, bne, hd]; rfl
              clear HK1
              go_wp2_with fail
              go_quiet (fail)
              go_wp2_with fail
              go_roundw
              case rel => exact ⟨j + 1, by omega, by go_num, by rw [HV2.out], _, rfl⟩
              case measure => simp [intOf]; omega
          · have HV2 : Hid (ownK l dev d.1 (j + 1) = true) := by show _ = _; rw [HK1.out]; rfl
            clear HK1
            go_wp2_with fail
            go_quiet (fail)
            go_wp2_with fail
            go_roundw
            case rel => exact ⟨j + 1, by omega, by go_num, by rw [HV2.out], _, rfl⟩
            case measure => simp [intOf]; omega
        · have ha := HOA.out j hjt
          rw [ha]
          have HPD2 := Lib.hid HPD.out
          generalize ownR l dev d.1 = o at *
          clear ha HPD
          have HO2 : Hid (ownD (wr.drewN n) w.heap.size (.slice A0 M.length c0) M) := HO.out
          have HB2 : Hid (Below w.heap.size w (wr.drewN n)) := below_dnD HB.out n
          have g0 : (wr.drewN n).cell? ⟨b, off + k * 4, none⟩ = some (.string (bs d.1)) := e0
          have g1 : (wr.drewN n).cell? ⟨b, off + k * 4 + 1, none⟩ = some (.string (bs d.2.1)) := e1
          have g2 : (wr.drewN n).cell? ⟨b, off + k * 4 + 2, none⟩ = some (.bool d.2.2.1) := e2
          have g3 : (wr.drewN n).cell? ⟨b, off + k * 4 + 3, none⟩ = some (.string (bs d.2.2.2)) := e3
          clear e0 e1 e2 e3 HO HB HOK HOA HGET
          generalize wr.drewN n = W at *
          cases hd : dev == []
          · have q1 : ((bs dev).toList == []) = false := by rw [beq_bl]; exact hd
            have q2 : (bs dev).toList.isEmpty = false := by rw [← q1]; cases (bs dev).toList <;> rfl
            cases hf : d.2.2.2 == dev
            · have q3 : ((bs d.2.2.2).toList == (bs dev).toList) = false := by rw [beq_bs]; exact hf
              cases hg : d.2.2.2 == []
              · have q4 : ((bs d.2.2.2).toList == []) = false := by rw [beq_bl]; exact hg
                have q5 : (bs d.2.2.2).toList.isEmpty = false := by rw [← q4]; cases (bs d.2.2.2).toList <;> rfl
                have HPD3 : isMine l dev d = false := by rw [HPD2.out, hf, hg]; simp
                have HST2 := Lib.hid HST.out
                rw [HPD3] at HST2
                simp only [Bool.false_eq_true, if_false, List.append_nil] at HST2
                clear HPD3 HPD2 HST
                go_wp2_with fail
                go_roundw
                case rel => exact ⟨k + 1, by omega, by go_num, by rw [HST2.out]; exact HO2.out, HB2.out⟩
                case measure => simp [intOf]; omega
              · have q4 : ((bs d.2.2.2).toList == []) = true := by rw [beq_bl]; exact hg
                have q5 : (bs d.2.2.2).toList.isEmpty = true := by rw [Lib.toList_data, bs_data, beq_iff_eq.1 hg]; rfl
                cases o
                · have HPD3 : isMine l dev d = true := by rw [HPD2.out, hg]; simp
                  have HST2 := Lib.hid HST.out
                  rw [HPD3] at HST2
                  simp only [if_true] at HST2
                  clear HPD3 HPD2 HST
                  go_wp2_with (at_builtin; refine wpList_appDN rfl (.tmp 71) (.tmp 76) rfl w.heap.size w.heap.size _ _ d rfl HO2.out HB2.out (Nat.le_refl _) HB2.out.size rfl HQL.out ?_; intro v' w' HO5 HB5 HG5)
                  go_roundw
                  case rel => exact ⟨k + 1, by omega, by go_num, by rw [HST2.out]; exact HO5.out, HB5.out⟩
                  case measure => simp [intOf]; omega
                · have HPD3 : isMine l dev d = false := by rw [HPD2.out, hf]; simp
                  have HST2 := Lib.hid HST.out
                  rw [HPD3] at HST2
                  simp only [Bool.false_eq_true, if_false, List.append_nil] at HST2
                  clear HPD3 HPD2 HST
                  go_wp2_with fail
                  go_roundw
                  case rel => exact ⟨k + 1, by omega, by go_num, by rw [HST2.out]; exact HO2.out, HB2.out⟩
                  case measure => simp [intOf]; omega
            · have q3 : ((bs d.2.2.2).toList == (bs dev).toList) = true := by rw [beq_bs]; exact hf
              have HPD3 : isMine l dev d = true := by rw [HPD2.out, hf, bne, hd]; rfl
              have HST2 := Lib.hid HST.out
              rw [HPD3] at HST2
              simp only [if_true] at HST2
              clear HPD3 HPD2 HST
              go_wp2_with (at_builtin; refine wpList_appDN rfl (.tmp 71) (.tmp 76) rfl w.heap.size w.heap.size _ _ d rfl HO2.out HB2.out (Nat.le_refl _) HB2.out.size rfl HQL.out ?_; intro v' w' HO5 HB5 HG5)
              go_roundw
              case rel => exact ⟨k + 1, by omega, by go_num, by rw [HST2.out]; exact HO5.out, HB5.out⟩
              case measure => simp [intOf]; omega
          · have q1 : ((bs dev).toList == []) = true := by rw [beq_bl]; exact hd
            have q2 : (bs dev).toList.isEmpty = true := by rw [Lib.toList_data, bs_data, beq_iff_eq.1 hd]; rfl
            cases hg : d.2.2.2 == []
            · have q4 : ((bs d.2.2.2).toList == []) = false := by rw [beq_bl]; exact hg
              have q5 : (bs d.2.2.2).toList.isEmpty = false := by rw [← q4]; cases (bs d.2.2.2).toList <;> rfl
              have HPD3 : isMine l dev d = false := by rw [HPD2.out, bne, hd, hg]; simp
              have HST2 := Lib.hid HST.out
              rw [HPD3] at HST2
              simp only [Bool.false_eq_true, if_false, List.append_nil] at HST2
              clear HPD3 HPD2 HST
              go_wp2_with fail
              go_roundw
              case rel => exact ⟨k + 1, by omega, by go_num, by rw [HST2.out]; exact HO2.out, HB2.out⟩
              case measure => simp [intOf]; omega
            · have q4 : ((bs d.2.2.2).toList == []) = true := by rw [beq_bl]; exact hg
              have q5 : (bs d.2.2.2).toList.isEmpty = true := by rw [Lib.toList_data, bs_data, beq_iff_eq.1 hg]; rfl
              cases o
              · have HPD3 : isMine l dev d = true := by rw [HPD2.out, hg]; simp
                have HST2 := Lib.hid HST.out
                rw [HPD3] at HST2
                simp only [if_true] at HST2
                clear HPD3 HPD2 HST
                go_wp2_with (at_builtin; refine wpList_appDN rfl (.tmp 71) (.tmp 76) rfl w.heap.size w.heap.size _ _ d rfl HO2.out HB2.out (Nat.le_refl _) HB2.out.size rfl HQL.out ?_; intro v' w' HO5 HB5 HG5)
                go_roundw
                case rel => exact ⟨k + 1, by omega, by go_num, by rw [HST2.out]; exact HO5.out, HB5.out⟩
                case measure => simp [intOf]; omega
              · have HPD3 : isMine l dev d = false := by rw [HPD2.out, bne, hd]; simp
                have HST2 := Lib.hid HST.out
                rw [HPD3] at HST2
                simp only [Bool.false_eq_true, if_false, List.append_nil] at HST2
                clear HPD3 HPD2 HST
                go_wp2_with fail
                go_roundw
                case rel => exact ⟨k + 1, by omega, by go_num, by rw [HST2.out]; exact HO2.out, HB2.out⟩
                case measure => simp [intOf]; omega
    · have hE : (l.take k).filter (isMine l dev) = l.filter (isMine l dev) := by rw [List.take_of_length_le (by omega)]
      have HO4 := HO.out
      rw [hE] at HO4
      have HO5 := Lib.hid HO4
      clear HO4 hE
      obtain ⟨A2, c2, rfl⟩ := HO5.out.form
      go_wp2_with fail
      go_ret
      exact ⟨_, rfl, by rw [← HDEF.out]; exact HO5.out, HB.out⟩

/-! The first of a name. -/
theorem first_miss {l : List Dv} {n : List UInt8} {k : Nat} (h : k < l.length) (hf : firstS (l.drop k) n = firstS l n) (he : (l[k].1 == n) = false) : firstS (l.drop (k + 1)) n = firstS l n := by
  rw [← hf, List.drop_eq_getElem_cons h]; unfold firstS; rw [List.find?_cons, he]
theorem first_hit {l : List Dv} {n : List UInt8} {k : Nat} (h : k < l.length) (hf : firstS (l.drop k) n = firstS l n) (he : (l[k].1 == n) = true) : firstS l n = (l[k].2.1, true) := by
  rw [← hf, List.drop_eq_getElem_cons h]; unfold firstS; rw [List.find?_cons, he]
theorem first_none {l : List Dv} {n : List UInt8} {k : Nat} (h : ¬ k < l.length) (hf : firstS (l.drop k) n = firstS l n) : firstS l n = ([], false) := by
  rw [← hf, List.drop_of_length_le (by omega)]; rfl
set_option maxRecDepth 100000 in
set_option maxHeartbeats 2000000 in
theorem rfirst_any (v : Value) (l : List Dv) (n : List UInt8) (w : World) (hv : DL w v l) (hlen : l.length ≤ 4294967295) :
    Calls Try.prog 28 #[v, .string (bs n)] w fun e w' => e = .returned (.tuple #[.string (bs (firstS l n).1), .bool (firstS l n).2]) ∧ w = w' := by
  obtain ⟨A, c, rfl⟩ := hv.form
  have HV := Lib.hid hv; clear hv
  go_enter Try.func28, Try.ntmps28
  go_wp2_with fail
  go_loop [6] (fun i => ∃ k : Nat, k ≤ l.length ∧ i = .int .i64 k ∧ firstS (l.drop k) n = firstS l n) (fun i => l.length - (intOf i).toNat)
  case atStart => exact ⟨0, Nat.zero_le _, rfl, rfl⟩
  case round =>
    obtain ⟨k, hk, rfl, hf⟩ := hrel
    have HF := Lib.hid hf; clear hf
    by_cases hlt : k < l.length
    · obtain ⟨b, off, rfl, hbl, e0, e1, e2, e3⟩ := HV.out.get k hlt
      have hm := fun h => first_miss hlt HF.out h
      have hh := fun h => first_hit hlt HF.out h
      generalize l[k] = d at *
      cases he : d.1 == n
      · have q1 : ((bs d.1).toList == (bs n).toList) = false := by rw [beq_bs]; exact he
        have HM := Lib.hid (hm he)
        clear hm hh he
        go_wp2_with fail
        go_round
        case rel => exact ⟨k + 1, by omega, by go_num, HM.out⟩
        case measure => simp [intOf]; omega
      · have q1 : ((bs d.1).toList == (bs n).toList) = true := by rw [beq_bs]; exact he
        have HM := Lib.hid (hh he)
        clear hm hh he
        go_wp2_with fail
        go_ret2
        exact ⟨by rw [HM.out]; rfl, rfl⟩
    · have HM := Lib.hid (first_none hlt HF.out)
      go_wp2_with fail
      go_ret2
      exact ⟨by rw [HM.out]; rfl, rfl⟩

/-! A word. -/
theorem hasW_blank {w cur : List UInt8} {c : UInt8} {r : List UInt8} (h : blankB c = true) : hasW w cur (c :: r) = (cur == w || hasW w [] r) := by rw [hasW, if_pos h]
theorem hasW_other {w cur : List UInt8} {c : UInt8} {r : List UInt8} (h : blankB c = false) : hasW w cur (c :: r) = hasW w (cur ++ [c]) r := by rw [hasW, if_neg (by rw [h]; simp)]
theorem ex_mid (S : ByteArray) (f k : Nat) : (S.extract f k).toList = mid S f k := by rw [Lib.toList_data, Lib.extract_data]; rfl
set_option maxRecDepth 100000 in
set_option maxHeartbeats 4000000 in
theorem rword_any (S W : ByteArray) (w : World) (hs : S.size ≤ 4294967200) :
    Calls Try.prog 29 #[.string S, .string W] w fun e w' => e = .returned (.bool (hasW W.data.toList [] S.data.toList)) ∧ w = w' := by
  generalize hH : hasW W.data.toList [] S.data.toList = H
  have HH := Lib.hid hH; clear hH
  go_enter Try.func29, Try.ntmps29
  go_wp2_with fail
  go_loop [5, 6] (fun f i => ∃ a k : Nat, i = .int .i64 k ∧ f = .int .i64 a ∧ ((k ≤ S.size ∧ a ≤ k ∧ Hid (hasW W.data.toList (mid S a k) (S.data.toList.drop k) = H)) ∨ (k = S.size + 1 ∧ Hid (H = false)))) (fun _ i => S.size + 1 - (intOf i).toNat)
  case atStart => exact ⟨0, 0, rfl, rfl, .inl ⟨Nat.zero_le _, Nat.le_refl _, by show _ = _; rw [← HH.out]; rfl⟩⟩
  case round =>
    obtain ⟨a, k, rfl, rfl, h⟩ := hrel
    rcases h with ⟨hk, hak, HR⟩ | ⟨rfl, HF⟩
    · have hki : (k : Int) ≤ (S.size : Int) := by omega
      have hai : (a : Int) ≤ (k : Int) := by omega
      have hw1 : IntKind.i64.wrap ((k : Int) + 1) = (k : Int) + 1 := by rw [IntKind.wrap_i64]; omega
      have hcmp : ((S.extract a k).toList == W.toList) = (mid S a k == W.data.toList) := by rw [ex_mid, Lib.toList_data]
      by_cases hlt : k < S.size
      · have hne : ((k : Int) == (S.size : Int)) = false := by rw [beq_eq_false_iff_ne]; omega
        have hd := drop_at hlt
        have hm1 := mid_snoc S a k hak hlt
        have hm2 : mid S (k + 1) (k + 1) = [] := by unfold mid; simp
        cases hb : blankB S[k]
        · obtain ⟨b1, b2⟩ := blankI_no hb
          have HN : Hid (hasW W.data.toList (mid S a (k + 1)) (S.data.toList.drop (k + 1)) = H) := by
            show _ = _
            rw [← HR.out, hd, hasW_other hb, hm1]
          clear hb hd hm1 hm2 hcmp
          go_wp2_with fail
          go_round
          case rel => exact ⟨a, k + 1, by go_num, rfl, .inl ⟨by omega, by omega, HN⟩⟩
          case measure => simp [intOf]; omega
        · cases hc : mid S a k == W.data.toList
          · rw [hc] at hcmp
            have HN : Hid (hasW W.data.toList (mid S (k + 1) (k + 1)) (S.data.toList.drop (k + 1)) = H) := by
              show _ = _
              rw [← HR.out, hd, hasW_blank hb, hc, Bool.false_or, hm2]
            rcases blankI_or hb with b1 | ⟨b1, b2⟩
            · clear hb hd hm1 hm2 hc
              go_wp2_with fail
              go_round
              case rel => exact ⟨k + 1, k + 1, by go_num, by go_num, .inl ⟨by omega, by omega, HN⟩⟩
              case measure => simp [intOf]; omega
            · clear hb hd hm1 hm2 hc
              go_wp2_with fail
              go_round
              case rel => exact ⟨k + 1, k + 1, by go_num, by go_num, .inl ⟨by omega, by omega, HN⟩⟩
              case measure => simp [intOf]; omega
          · rw [hc] at hcmp
            have HN : Hid (H = true) := by
              show _ = _
              rw [← HR.out, hd, hasW_blank hb, hc, Bool.true_or]
            rcases blankI_or hb with b1 | ⟨b1, b2⟩
            · clear hb hd hm1 hm2 hc
              go_wp2_with fail
              go_ret
              exact ⟨ret_bool HN.out.symm, rfl⟩
            · clear hb hd hm1 hm2 hc
              go_wp2_with fail
              go_ret
              exact ⟨ret_bool HN.out.symm, rfl⟩
      · obtain rfl : k = S.size := by omega
        have hne : ((S.size : Int) == (S.size : Int)) = true := by simp
        have hd := drop_nil (s := S) (Nat.le_refl _)
        cases hc : mid S a S.size == W.data.toList
        · rw [hc] at hcmp
          have HN : Hid (H = false) := by
            show _ = _
            rw [← HR.out, hd, hasW, hc]
          clear hd hc
          go_wp2_with fail
          go_round
          case rel => exact ⟨S.size + 1, S.size + 1, by go_num, by go_num, .inr ⟨rfl, HN⟩⟩
          case measure => simp [intOf] <;> omega
        · rw [hc] at hcmp
          have HN : Hid (H = true) := by
            show _ = _
            rw [← HR.out, hd, hasW, hc]
          clear hd hc
          go_wp2_with fail
          go_ret
          exact ⟨ret_bool HN.out.symm, rfl⟩
    · have hki : ¬ ((S.size + 1 : Nat) : Int) ≤ (S.size : Int) := by omega
      go_wp2_with fail
      go_ret
      exact ⟨ret_bool HF.out.symm, rfl⟩

/-! One or two deltas. -/
theorem ret_two {a b c d : Int} (h : (a, b) = (c, d)) : Ending.returned (.tuple #[.int .i64 a, .int .i64 b]) = .returned (.tuple #[.int .i64 c, .int .i64 d]) := by
  obtain ⟨rfl, rfl⟩ := Prod.mk.inj h
  rfl
set_option maxRecDepth 100000 in
set_option maxHeartbeats 4000000 in
theorem rages_any (S : ByteArray) (w : World) (hs : S.size ≤ 4294967200) :
    Calls Try.prog 30 #[.string S] w fun e w' => e = .returned (.tuple #[.int .i64 (agesP S.data.toList).1, .int .i64 (agesP S.data.toList).2]) ∧ w = w' := by
  have HT0 := Lib.hid (fun W => rdelta_any S W (by unfold maxLen; omega))
  have hsl : S.data.toList.length = S.size := (size_len S).symm
  cases hdl : isDel S.data.toList
  · have hhit := fun k hk hc h => ages_hit (s := S.data.toList) (k := k) hk hc h
    have hnon := ages_none hdl
    generalize agesP S.data.toList = R at *
    obtain ⟨r1, r2⟩ := R
    have HHIT := Lib.hid hhit; have HNON := Lib.hid hnon
    clear hhit hnon
    have HT1 := Lib.hid (fun W => rdelta_any S W (by unfold maxLen; omega))
    rw [hdl] at HT0
    clear HT1
    go_enter Try.func30, Try.ntmps30
    go_wp2_with fail
    refine (HT0.out _).mono ?_
    rintro e w1 ⟨rfl, rfl⟩
    go_wp2_with fail
    go_loop [6] (fun i => ∃ k : Nat, i = .int .i64 k ∧ k ≤ S.size ∧ Hid (∀ j (hj : j < S.data.toList.length), j < k → S.data.toList[j] = 43 → hit43 S.data.toList j = false)) (fun i => S.size - (intOf i).toNat)
    case atStart => exact ⟨0, rfl, Nat.zero_le _, fun j _ h => absurd h (Nat.not_lt_zero _)⟩
    case round =>
      obtain ⟨k, rfl, hk, HZ⟩ := hrel
      by_cases hlt : k < S.size
      · have hlt2 : k < S.data.toList.length := by omega
        have hat : S.data.toList[k] = S[k] := by simp [ByteArray.getElem_eq_getElem_data]
        have hi1 : (k : Int) < (S.size : Int) := by omega
        by_cases hc : (S[k].toNat : Int) = 43
        · have hq : ((S[k].toNat : Int) != 43) = false := by rw [bne_eq_false_iff_eq]; exact hc
          have h43 : S.data.toList[k] = 43 := by rw [hat]; exact UInt8.toNat_inj.1 (by simp; omega)
          have hex1 : (S.extract 0 k).data.toList = S.data.toList.take k := by rw [Lib.extract_data]; simp
          have hex2 : (S.extract (k + 1) S.size).data.toList = S.data.toList.drop (k + 1) := by rw [Lib.extract_data, List.take_of_length_le (by simp)]
          have hz1 : (S.extract 0 k).size ≤ maxLen := by unfold maxLen; simp; omega
          have hz2 : (S.extract (k + 1) S.size).size ≤ maxLen := by unfold maxLen; simp; omega
          have d1 := fun W => rdelta_any (S.extract 0 k) W hz1
          have d2 := fun W => rdelta_any (S.extract (k + 1) S.size) W hz2
          rw [hex1] at d1
          rw [hex2] at d2
          have hhk := HHIT.out k hlt2 h43
          have hh0 : hit43 S.data.toList k = (isDel (S.data.toList.take k) && isDel (S.data.toList.drop (k + 1))) := rfl
          have hnx : hit43 S.data.toList k = false → ∀ j (hj : j < S.data.toList.length), j < k + 1 → S.data.toList[j] = 43 → hit43 S.data.toList j = false := by
            intro hf j hj h1 h2
            rcases Nat.lt_or_eq_of_le (Nat.le_of_lt_succ h1) with h3 | h3
            · exact HZ.out j hj h3 h2
            · subst h3; exact hf
          have hw1 : IntKind.i64.wrap ((k : Int) + 1) = (k : Int) + 1 := by rw [IntKind.wrap_i64]; omega
          have hle1 : (k : Int) + 1 ≤ (S.size : Int) := by omega
          have htn : ((k : Int) + 1).toNat = k + 1 := by omega
          have h00 : (0 : Int) ≤ (k : Int) + 1 := by omega
          have D1 := Lib.hid d1; have D2 := Lib.hid d2
          clear hex1 hex2 hz1 hz2 d1 d2 hat h43 hc HT0
          cases hA : isDel (S.data.toList.take k)
          · have HNX := Lib.hid (hnx (by rw [hh0, hA]; rfl))
            rw [hA] at D1
            cases hB : isDel (S.data.toList.drop (k + 1))
            · rw [hB] at D2
              clear hhk hh0 hnx hA hB
              generalize delI (S.data.toList.take k) = x at *
              generalize delI (S.data.toList.drop (k + 1)) = y at *
              go_wp2_with fail
              refine (D1.out _).mono ?_
              rintro e w2 ⟨rfl, rfl⟩
              go_wp2_with fail
              refine (D2.out _).mono ?_
              rintro e w2 ⟨rfl, rfl⟩
              go_wp2_with fail
              go_round
              case rel => exact ⟨k + 1, by go_num, by omega, HNX⟩
              case measure => simp [intOf]; omega
            · rw [hB] at D2
              clear hhk hh0 hnx hA hB
              generalize delI (S.data.toList.take k) = x at *
              generalize delI (S.data.toList.drop (k + 1)) = y at *
              go_wp2_with fail
              refine (D1.out _).mono ?_
              rintro e w2 ⟨rfl, rfl⟩
              go_wp2_with fail
              refine (D2.out _).mono ?_
              rintro e w2 ⟨rfl, rfl⟩
              go_wp2_with fail
              go_round
              case rel => exact ⟨k + 1, by go_num, by omega, HNX⟩
              case measure => simp [intOf]; omega
          · rw [hA] at D1
            cases hB : isDel (S.data.toList.drop (k + 1))
            · have HNX := Lib.hid (hnx (by rw [hh0, hB, Bool.and_false]))
              rw [hB] at D2
              clear hhk hh0 hnx hA hB
              generalize delI (S.data.toList.take k) = x at *
              generalize delI (S.data.toList.drop (k + 1)) = y at *
              go_wp2_with fail
              refine (D1.out _).mono ?_
              rintro e w2 ⟨rfl, rfl⟩
              go_wp2_with fail
              refine (D2.out _).mono ?_
              rintro e w2 ⟨rfl, rfl⟩
              go_wp2_with fail
              go_round
              case rel => exact ⟨k + 1, by go_num, by omega, HNX⟩
              case measure => simp [intOf]; omega
            · have HR := Lib.hid (hhk (by rw [hh0, hA, hB]; rfl))
              rw [hB] at D2
              clear hhk hh0 hnx hA hB
              generalize delI (S.data.toList.take k) = x at *
              generalize delI (S.data.toList.drop (k + 1)) = y at *
              go_wp2_with fail
              refine (D1.out _).mono ?_
              rintro e w2 ⟨rfl, rfl⟩
              go_wp2_with fail
              refine (D2.out _).mono ?_
              rintro e w2 ⟨rfl, rfl⟩
              go_wp2_with fail
              go_ret2
              exact ⟨ret_two HR.out.symm, rfl⟩
        · have hq : ((S[k].toNat : Int) != 43) = true := bne_iff_ne.2 hc
          have HNX : Hid (∀ j (hj : j < S.data.toList.length), j < k + 1 → S.data.toList[j] = 43 → hit43 S.data.toList j = false) := by
            intro j hj h1 h2
            rcases Nat.lt_or_eq_of_le (Nat.le_of_lt_succ h1) with h3 | h3
            · exact HZ.out j hj h3 h2
            · subst h3; rw [hat] at h2; rw [h2] at hc; exact absurd rfl hc
          clear hat hc HT0
          go_wp2_with fail
          go_round
          case rel => exact ⟨k + 1, by go_num, by omega, HNX⟩
          case measure => simp [intOf]; omega
      · have HR := Lib.hid (HNON.out fun j hj h => HZ.out j hj (by omega) h)
        go_wp2_with fail
        go_ret2
        exact ⟨ret_two HR.out.symm, rfl⟩
  · have HR := Lib.hid (ages_whole hdl)
    rw [hdl] at HT0
    generalize agesP S.data.toList = R at *
    obtain ⟨r1, r2⟩ := R
    generalize delI S.data.toList = x at *
    clear hdl
    go_enter Try.func30, Try.ntmps30
    go_wp2_with fail
    refine (HT0.out _).mono ?_
    rintro e w1 ⟨rfl, rfl⟩
    go_wp2_with fail
    go_ret2
    exact ⟨ret_two HR.out.symm, rfl⟩
end Go.Proofs.Ytonioemenjjajaa
