/- The document's Set. -/
import Derived.Test.YtilaalfehnngcaaFieldsW
namespace Go.Proofs.Ytilaalfehnngcaa
open Go.RowKit

set_option maxHeartbeats 2000000 in
theorem rset_any (v : Value) (l : List Fld) (n y : List UInt8) (w : World) (h : FL w v l) (hs : smallF l) (hl : l.length ≤ 1048576) (hn : n.length ≤ 4294967296) :
    Calls Try.prog 24 #[v, .string (bs n), .string (bs y)] w (RetF w (setL l n y)) := by
  obtain ⟨A, c, rfl⟩ := h.form
  have HF := Lib.hid h; clear h
  have HN : Hid (LowR n (lower n)) := lowR n hn
  go_enter Try.func24, Try.ntmps24
  go_wp2_with fail
  go_loopw [7, 8, 9] (fun o th i wr => ∃ (k : Nat) (t : Bool), k ≤ l.length ∧ i = .int .i64 k ∧ th = .bool t ∧ anyN (l.take k) n = t ∧ ownF wr w.heap.size o (setT (l.take k) n y) ∧ Below w.heap.size w wr) (fun _ _ i _ => l.length - (intOf i).toNat)
  case atStart => exact ⟨0, false, Nat.zero_le _, rfl, rfl, rfl, ownF_nil _ _, Below.refl _ _⟩
  case round =>
    obtain ⟨k, t, hk, rfl, rfl, ha, ho, hb⟩ := hrel
    have HA := Lib.hid ha; have HO := Lib.hid ho; have HB := Lib.hid hb; clear ha ho hb
    by_cases hlt : k < l.length
    · obtain ⟨b, off, rfl, hbb, hcw1, hcw2⟩ := HF.out.get k hlt
      have hc1 := (HB.out.cell (p := ⟨b, off + k * 2, none⟩) hbb).trans hcw1
      obtain ⟨s1, s2⟩ := hs k hlt
      have HTk : Hid (l.take (k + 1) = l.take k ++ [l[k]]) := List.take_succ_eq_append_getElem hlt
      have HLn : Hid ((setT (l.take k) n y).length + 1 ≤ 4294967296) := by
        have h1 := setT_len (l.take k) n y
        have h2 : (l.take k).length ≤ l.length := List.length_take_le' _ _
        show _ ≤ _; omega
      have HCW1 := Lib.hid hcw1; have HCW2 := Lib.hid hcw2; clear hcw1 hcw2
      generalize l[k] = f at *
      obtain ⟨x, z⟩ := f; simp only at s1 s2 hc1
      have HX : Hid (LowR x (lower x)) := lowR x s1
      have HCX : Hid (w.cell? ⟨b, off + k * 2, none⟩ = some (.string (bs x))) := HCW1.out
      have HCY : Hid (w.cell? ⟨b, off + k * 2 + 1, none⟩ = some (.string (bs z))) := HCW2.out
      have HS0 : Hid (∀ B, (lower x == lower n) = B → sameN x n = B) := fun B h => h
      clear HCW2 HCW1
      have HT3 : Hid ((sameN x n = false → setT (l.take (k + 1)) n y = setT (l.take k) n y ++ [(x, z)]) ∧ (sameN x n = true → t = false → setT (l.take (k + 1)) n y = setT (l.take k) n y ++ [(x, y)]) ∧ (sameN x n = true → t = true → setT (l.take (k + 1)) n y = setT (l.take k) n y) ∧ ∀ B, sameN x n = B → anyN (l.take (k + 1)) n = (t || B)) := by
        rw [HTk.out]
        refine ⟨fun h => setT_other (f := (x, z)) h, fun h ht => setT_first (f := (x, z)) h (HA.out.trans ht), fun h ht => setT_again (f := (x, z)) h (HA.out.trans ht), fun B h => ?_⟩
        rw [anyN_snoc, HA.out, ← h]
      clear HTk
      generalize lower x = lx at *
      generalize lower n = ln at *
      generalize setT (l.take k) n y = acc at *
      cases hq : (lx == ln)
      · have hq2 : ((bs lx).toList == (bs ln).toList) = false := by rw [beq_bs]; exact hq
        have hsn := HS0.out _ hq
        have HR := Lib.hid (HT3.out.1 hsn)
        have HR2 : Hid (anyN (l.take (k + 1)) n = t) := by have h := HT3.out.2.2.2 _ hsn; rw [Bool.or_false] at h; exact h
        clear hq hsn HT3 HS0
        go_wp2_with fail
        refine (HX.out _).mono ?_; rintro e w1 ⟨rfl, hb1⟩
        have HB1 := Lib.hid (HB.out.trans (hb1.mono HB.out.size)); have HO1 := Lib.hid (HO.out.bel hb1); clear hb1
        go_wp2_with fail
        refine (HN.out _).mono ?_; rintro e w2 ⟨rfl, hb2⟩
        have HB2 := Lib.hid (HB1.out.trans (hb2.mono HB1.out.size)); have HO2 := Lib.hid (HO1.out.bel hb2); clear hb2
        have hd1 := (HB2.out.cell (p := ⟨b, off + k * 2, none⟩) hbb).trans HCX.out
        have hd2 := (HB2.out.cell (p := ⟨b, off + k * 2 + 1, none⟩) hbb).trans HCY.out
        go_wp2_with (at_builtin; refine wpList_appF rfl (.tmp 25) (.tmp 30) rfl w.heap.size w.heap.size _ _ x z rfl HO2.out HB2.out (Nat.le_refl _) HB2.out.size rfl HLn.out ?_; intro v' w' HO3 HB3 _)
        go_roundw
        case rel => exact ⟨k + 1, t, by omega, by go_num, rfl, HR2.out, by rw [HR.out]; exact HO3.out, HB3.out⟩
        case measure => simp [intOf]; omega
      · have hq2 : ((bs lx).toList == (bs ln).toList) = true := by rw [beq_bs]; exact hq
        have hsn := HS0.out _ hq
        have HR2 : Hid (anyN (l.take (k + 1)) n = true) := by have h := HT3.out.2.2.2 _ hsn; rw [Bool.or_true] at h; exact h
        cases t
        · have HR := Lib.hid (HT3.out.2.1 hsn rfl)
          clear hq hsn HT3 HS0
          go_wp2_with fail
          refine (HX.out _).mono ?_; rintro e w1 ⟨rfl, hb1⟩
          have HB1 := Lib.hid (HB.out.trans (hb1.mono HB.out.size)); have HO1 := Lib.hid (HO.out.bel hb1); clear hb1
          go_wp2_with fail
          refine (HN.out _).mono ?_; rintro e w2 ⟨rfl, hb2⟩
          have HB2 := Lib.hid (HB1.out.trans (hb2.mono HB1.out.size)); have HO2 := Lib.hid (HO1.out.bel hb2); clear hb2
          have hd1 := (HB2.out.cell (p := ⟨b, off + k * 2, none⟩) hbb).trans HCX.out
          go_wp2_with (at_builtin; refine wpList_appF rfl (.tmp 34) (.tmp 42) rfl w.heap.size w.heap.size _ _ x y rfl HO2.out HB2.out (Nat.le_refl _) HB2.out.size rfl HLn.out ?_; intro v' w' HO3 HB3 _)
          go_roundw
          case rel => exact ⟨k + 1, true, by omega, by go_num, rfl, HR2.out, by rw [HR.out]; exact HO3.out, HB3.out⟩
          case measure => simp [intOf]; omega
        · have HR := Lib.hid (HT3.out.2.2.1 hsn rfl)
          clear hq hsn HT3 HS0
          go_wp2_with fail
          refine (HX.out _).mono ?_; rintro e w1 ⟨rfl, hb1⟩
          have HB1 := Lib.hid (HB.out.trans (hb1.mono HB.out.size)); have HO1 := Lib.hid (HO.out.bel hb1); clear hb1
          go_wp2_with fail
          refine (HN.out _).mono ?_; rintro e w2 ⟨rfl, hb2⟩
          have HB2 := Lib.hid (HB1.out.trans (hb2.mono HB1.out.size)); have HO2 := Lib.hid (HO1.out.bel hb2); clear hb2
          go_wp2_with fail
          go_roundw
          case rel => exact ⟨k + 1, true, by omega, by go_num, rfl, HR2.out, by rw [HR.out]; exact HO2.out, HB2.out⟩
          case measure => simp [intOf]; omega
    · have HTk : Hid (l.take k = l) := List.take_of_length_le (by omega)
      rw [HTk.out] at HA HO
      have HLn : Hid ((setT l n y).length + 1 ≤ 4294967296) := by
        have h1 := setT_len l n y
        show _ ≤ _; omega
      cases t
      · have HR := Lib.hid ((setT_all (v := y)).2 HA.out)
        go_wp2_with (at_builtin; refine wpList_appF rfl (.tmp 46) (.tmp 50) rfl w.heap.size w.heap.size _ _ n y rfl HO.out HB.out (Nat.le_refl _) HB.out.size rfl HLn.out ?_; intro v' w' HO3 HB3 _)
        go_ret
        exact ⟨_, rfl, by rw [← HR.out]; exact HO3.out, HB3.out⟩
      · have HR := Lib.hid ((setT_all (v := y)).1 HA.out)
        go_wp2_with fail
        go_ret
        exact ⟨_, rfl, by rw [← HR.out]; exact HO.out, HB.out⟩
end Go.Proofs.Ytilaalfehnngcaa
