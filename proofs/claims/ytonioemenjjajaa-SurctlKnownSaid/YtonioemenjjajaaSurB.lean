/- What a value and values state: the surctl layer's List. -/
import Derived.Test.YtonioemenjjajaaSurA
namespace Go.Proofs.Ytonioemenjjajaa
open Go.RowKit

theorem flat_snoc {α β : Type} (f : α → List β) (L : List α) (k : Nat) (h : k < L.length) : (L.take (k + 1)).flatMap f = (L.take k).flatMap f ++ f L[k] := by
  rw [List.take_succ_eq_append_getElem h, List.flatMap_append]
  simp
theorem flat_all {α β : Type} (f : α → List β) (L : List α) (k : Nat) (h : ¬ k < L.length) : (L.take k).flatMap f = L.flatMap f := by rw [List.take_of_length_le (by omega)]

set_option maxRecDepth 100000 in
set_option maxHeartbeats 4000000 in
theorem ofValue_any (s : List UInt8) (w : World) (hm : MaxD w) (hs : s.length ≤ 4294967200) :
    Calls Try.prog 22 #[.string (bs s)] w (RetD w (valP s)) := by
  have hsp := fun W => split_any (bs s) 44 W (by rw [bs_size]; omega)
  rw [bs_data] at hsp
  have hat := fun x h => splitS_at (l := s) (sep := 44) (x := x) h
  have hl64 := splitS_len s 44
  have HM := Lib.hid hm; have HMW := Lib.hid hm; have HSP := Lib.hid hsp; have HAT := Lib.hid hat
  clear hm hsp hat
  by_cases hE : splitE s 44 = 0
  · have hZ : valP s = (splitL s 44).flatMap elemP := if_pos hE
    rw [hZ]
    have HS2 : Hid (∀ W, Calls Try.prog 33 #[.string (bs s), .int .u8 44] W fun e w' => ∃ v, e = .returned (.tuple #[v, .int .i64 0]) ∧ ownS w' W.heap.size v (splitL s 44) ∧ Below W.heap.size W w') := fun W => by have h := HSP.out W; unfold SplitPost at h; rw [hE] at h; exact h
    clear HSP hZ hE
    generalize splitL s 44 = N at *
    go_enter Try.func22, Try.ntmps22
    go_wp2_with fail
    refine (HS2.out _).mono ?_
    rintro e w1 ⟨vs, rfl, hos, hb1⟩
    have HM1 := Lib.hid (HM.out.bel hb1)
    have HOS := Lib.hid hos; have HB1 := Lib.hid hb1
    clear hos hb1 HS2 HM
    obtain ⟨A1, c1, rfl⟩ := HOS.out.form
    go_wp2_with fail
    go_loopw [5, 18] (fun u i wr => ∃ k : Nat, k ≤ N.length ∧ i = .int .i64 k ∧ ownD wr w.heap.size u ((N.take k).flatMap elemP) ∧ Below w.heap.size w wr ∧ ownS wr w.heap.size (.slice A1 N.length c1) N ∧ MaxD wr) (fun _ i _ => N.length - (intOf i).toNat)
    case atStart => exact ⟨0, Nat.zero_le _, rfl, ownD_nil _ _, HB1.out, HOS.out, HM1.out⟩
    case round =>
      obtain ⟨k, hk, rfl, ho, hb, hos, hmx⟩ := hrel
      have HO := Lib.hid ho; have HB := Lib.hid hb; have HN := Lib.hid hos; have HMX := Lib.hid hmx
      clear ho hb hos hmx HOS HB1 HM1
      by_cases hlt : k < N.length
      · obtain ⟨g, rfl, hce⟩ := HN.out.cell k hlt
        rw [show N.getD k [] = N[k] from by simp [List.getD, hlt]] at hce
        have hyl : N[k].length ≤ 4294967200 := Nat.le_trans (HAT.out _ (List.getElem_mem hlt)) hs
        have hel := ofElement_any N[k] wr HMX.out hyl
        have hln := elemP_len N[k]
        have hlk := flatMap_len (f := elemP) (n := 64) (L := N.take k) fun x _ => elemP_len x
        rw [List.length_take] at hlk
        have hsn := flat_snoc elemP N k hlt
        have hql : ((N.take k).flatMap elemP).length + (elemP N[k]).length ≤ 4294967296 := by omega
        generalize N[k] = y at *
        generalize elemP y = m at *
        generalize (N.take k).flatMap elemP = M at *
        have HEL := Lib.hid hel; have HSN := Lib.hid hsn; have HQL := Lib.hid hql
        clear hyl hel hln hlk hsn hql
        obtain ⟨A0, c0, rfl⟩ := HO.out.form
        go_wp2_with fail
        refine HEL.out.mono ?_
        rintro e w2 ⟨u, rfl, ho2, hb2⟩
        have HD := Lib.hid ho2.dl
        have HO2 := Lib.hid (HO.out.bel hb2); have HB2 := Lib.hid (HB.out.trans (hb2.mono HB.out.size)); have HN2 := Lib.hid (HN.out.bel hb2); have HM2 := Lib.hid (HMX.out.bel hb2)
        clear ho2 hb2 HO HB HN HMX HEL hce
        obtain ⟨A2, c2, rfl⟩ := HD.out.form
        go_wp2_with (at_builtin; refine wpList_appDD rfl (.tmp 22) (.tmp 24) rfl w.heap.size w.heap.size _ _ M m rfl HO2.out HB2.out (Nat.le_refl _) HB2.out.size rfl HD.out HQL.out ?_; intro v' w' HO4 HB4 HK4; have HN4 := Lib.hid (HN2.out.kx HK4.out))
        go_roundw
        case rel => exact ⟨k + 1, by omega, by go_num, by rw [HSN.out]; exact HO4.out, HB4.out, HN4.out, HMW.out.bel HB4.out⟩
        case measure => simp [intOf]; omega
      · have HE := Lib.hid (flat_all elemP N k hlt)
        have HO4 := HO.out
        rw [HE.out] at HO4
        have HO5 := Lib.hid HO4
        clear HO4 HE
        obtain ⟨A2, c2, rfl⟩ := HO5.out.form
        go_wp2_with fail
        go_ret
        exact ⟨_, rfl, HO5.out, HB.out⟩
  · have hZ : valP s = [noStore] := if_neg hE
    have hne : ((splitE s 44) != 0) = true := bne_iff_ne.2 hE
    rw [hZ]
    have HS2 : Hid (∀ W, Calls Try.prog 33 #[.string (bs s), .int .u8 44] W fun e w' => ∃ v, e = .returned (.tuple #[v, .int .i64 (splitE s 44)]) ∧ ownS w' W.heap.size v (splitL s 44) ∧ Below W.heap.size W w') := HSP.out
    have HU := Lib.hid unclear_any
    clear HSP HAT hZ hE hs
    generalize splitE s 44 = E at *
    generalize splitL s 44 = N at *
    go_enter Try.func22, Try.ntmps22
    go_wp2_with fail
    refine (HS2.out _).mono ?_
    rintro e w1 ⟨vs, rfl, hos, hb1⟩
    obtain ⟨A, c, rfl⟩ := hos.form
    have HB1 := Lib.hid hb1
    clear hb1 hos HS2
    go_wp2_with fail
    refine (HU.out _).mono ?_
    rintro e w2 ⟨u, rfl, ho, hb2⟩
    have HO := Lib.hid (ho.mono HB1.out.size)
    have HB2 := Lib.hid (HB1.out.trans (hb2.mono HB1.out.size))
    clear ho hb2
    obtain ⟨A2, c2, rfl⟩ := HO.out.form
    go_wp2_with fail
    go_ret
    exact ⟨_, rfl, HO.out, HB2.out⟩

set_option maxRecDepth 100000 in
set_option maxHeartbeats 4000000 in
theorem slist_any (v : Value) (L : List (List UInt8)) (w : World) (hm : MaxD w) (hv : SL w v L) (hs : ∀ x ∈ L, x.length ≤ 4294967200) (hl : L.length ≤ 1000000) :
    Calls Try.prog 11 #[v] w (RetD w (listS L)) := by
  obtain ⟨A, c, rfl⟩ := hv.form
  rw [← list_eq]
  have hdef : listP L = L.flatMap valP := rfl
  rw [hdef]
  have HV := Lib.hid hv; have HS := Lib.hid hs; have HM := Lib.hid hm; have HMW := Lib.hid hm; clear hv hs hm hdef
  go_enter Try.func11, Try.ntmps11
  go_wp2_with fail
  go_loopw [3, 8] (fun u i wr => ∃ k : Nat, k ≤ L.length ∧ i = .int .i64 k ∧ ownD wr w.heap.size u ((L.take k).flatMap valP) ∧ Below w.heap.size w wr ∧ MaxD wr) (fun _ i _ => L.length - (intOf i).toNat)
  case atStart => exact ⟨0, Nat.zero_le _, rfl, ownD_nil _ _, Below.refl _ _, HM.out⟩
  case round =>
    obtain ⟨k, hk, rfl, ho, hb, hmx⟩ := hrel
    have HO := Lib.hid ho; have HB := Lib.hid hb; have HMX := Lib.hid hmx
    clear ho hb hmx HM
    by_cases hlt : k < L.length
    · obtain ⟨b, off, rfl, hbl, hce⟩ := (HV.out.bel HB.out).get k hlt
      have hel := ofValue_any L[k] wr HMX.out (HS.out _ (List.getElem_mem hlt))
      have hln := valP_len L[k]
      have hlk := flatMap_len (f := valP) (n := 4096) (L := L.take k) fun x _ => valP_len x
      rw [List.length_take] at hlk
      have hsn := flat_snoc valP L k hlt
      have hql : ((L.take k).flatMap valP).length + (valP L[k]).length ≤ 4294967296 := by omega
      generalize L[k] = y at *
      generalize valP y = m at *
      generalize (L.take k).flatMap valP = M at *
      have HEL := Lib.hid hel; have HSN := Lib.hid hsn; have HQL := Lib.hid hql
      clear hel hln hlk hsn hql
      obtain ⟨A0, c0, rfl⟩ := HO.out.form
      go_wp2_with fail
      refine HEL.out.mono ?_
      rintro e w2 ⟨u, rfl, ho2, hb2⟩
      have HD := Lib.hid ho2.dl
      have HO2 := Lib.hid (HO.out.bel hb2); have HB2 := Lib.hid (HB.out.trans (hb2.mono HB.out.size)); have HM2 := Lib.hid (HMX.out.bel hb2)
      clear ho2 hb2 HO HB HMX HEL hce
      obtain ⟨A2, c2, rfl⟩ := HD.out.form
      go_wp2_with (at_builtin; refine wpList_appDD rfl (.tmp 12) (.tmp 14) rfl w.heap.size w.heap.size _ _ M m rfl HO2.out HB2.out (Nat.le_refl _) HB2.out.size rfl HD.out HQL.out ?_; intro v' w' HO4 HB4 HK4)
      go_roundw
      case rel => exact ⟨k + 1, by omega, by go_num, by rw [HSN.out]; exact HO4.out, HB4.out, HMW.out.bel HB4.out⟩
      case measure => simp [intOf]; omega
    · have HE := Lib.hid (flat_all valP L k hlt)
      have HO4 := HO.out
      rw [HE.out] at HO4
      have HO5 := Lib.hid HO4
      clear HO4 HE
      obtain ⟨A2, c2, rfl⟩ := HO5.out.form
      go_wp2_with fail
      go_ret
      exact ⟨_, rfl, HO5.out, HB.out⟩
end Go.Proofs.Ytonioemenjjajaa
