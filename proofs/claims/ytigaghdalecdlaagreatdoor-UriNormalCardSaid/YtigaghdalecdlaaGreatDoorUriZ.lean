/- A text with its escapes in other forms, and plain bytes as escapes: the statement's own helper. -/
import Derived.Test.YtigaghdalecdlaaGreatDoorUri7
import Derived.Test.YtigaghdalecdlaaGreatDoorUriLo
import Derived.Test.YtigaghdalecdlaaGreatDoorUriM
import Derived.Deep.DeepCutAuto
import Derived.Deep.CutBlock
namespace Go.Proofs.YtigaghdalecdlaaGreatDoor
open Go.RowKit

/-- numbers that came in -/
def BL (w : World) (v : Value) : Prop := (∃ a c, v = .slice a 0 c) ∨ ∃ b off len cap, 0 < len ∧ len ≤ 9223372036854775807 ∧ v = .slice (some ⟨b, off, none⟩) len cap ∧ b < w.heap.size ∧ ∀ j, j < len → ∃ x : Nat, x < 256 ∧ w.cell? ⟨b, off + j, none⟩ = some (.int .u8 (x : Int))
theorem BL.below {w w' : World} {v : Value} (h : BL w v) (hb : Below w.heap.size w w') : BL w' v := by
  rcases h with h | ⟨b, off, len, cap, h0, h1, h2, h3, h4⟩
  · exact .inl h
  · refine .inr ⟨b, off, len, cap, h0, h1, h2, Nat.lt_of_lt_of_le h3 hb.size, fun j hj => ?_⟩
    obtain ⟨x, hx, hc⟩ := h4 j hj
    exact ⟨x, hx, (hb.cell (p := ⟨b, off + j, none⟩) h3).trans hc⟩
theorem BL.form {w : World} {v : Value} (h : BL w v) : ∃ a len cap, v = .slice a len cap := by
  rcases h with ⟨a, c, rfl⟩ | ⟨b, off, len, cap, _, _, rfl, _⟩
  · exact ⟨_, _, _, rfl⟩
  · exact ⟨_, _, _, rfl⟩
theorem toLower_asc (s : ByteArray) (w : World) (hs : s.size ≤ 1000) (h : ∀ b ∈ s.data.toList, b.toNat < 128) :
    Calls Tryz.prog 37 #[.string s] w fun e w' => e = .returned (.string (bs (Lib.toLowerA s.data.toList))) ∧ Below w.heap.size w w' :=
  Tryz.strings_ToLower_ascii s w (by omega) fun _ b hb => h b (List.mem_of_getElem? hb)
theorem lstZ {S : ByteArray} {k : Nat} (h : k < S.size) : S.data.toList[k]? = some S[k] := by
  rw [List.getElem?_eq_getElem (by rw [← size_len]; exact h), ByteArray.getElem_eq_getElem_data, ← Array.getElem_toList]
theorem neZ {c : UInt8} (h : c ≠ 37) : ((c.toNat : Int) != 37) = true := by
  rw [bne_iff_ne]
  intro h2
  exact h (UInt8.toNat_inj.1 (by simpa using (by omega : c.toNat = 37)))
theorem piece_twD : ∀ p : Nat, p < 32 → ((⟨#[48, 49, 50, 51, 52, 53, 54, 55, 56, 57, 97, 98, 99, 100, 101, 102, 48, 49, 50, 51, 52, 53, 54, 55, 56, 57, 65, 66, 67, 68, 69, 70]⟩ : ByteArray).extract p 32).extract 0 1 = bs [twD.getD p 0] := by decide
theorem ext2 {S : ByteArray} {k : Nat} {a b : UInt8} (ha : S.data.toList[k + 1]? = some a) (hb : S.data.toList[k + 2]? = some b) : (S.extract (k + 1) (k + 3)).data.toList = [a, b] := by
  rw [Lib.extract_data]
  obtain ⟨h1, h2⟩ := List.getElem?_eq_some_iff.1 ha
  obtain ⟨h3, h4⟩ := List.getElem?_eq_some_iff.1 hb
  rw [List.drop_eq_getElem_cons h1, h2, List.drop_eq_getElem_cons h3, h4, show k + 3 - (k + 1) = 2 by omega]
  rfl
set_option maxHeartbeats 4000000 in
set_option maxRecDepth 100000 in
theorem twist_any (S : ByteArray) (v : Value) (w : World) (hw : Wn S.data.toList) (hl : S.size ≤ 100000) (hv : BL w v) :
    Calls Tryz.prog 14 #[.string S, v] w fun e w' => ∃ tp, e = .returned (.string (bs tp)) ∧ Below w.heap.size w w' ∧ TW S.data.toList tp ∧ tp.length ≤ 3 * S.size := by
  obtain ⟨va, vlen, vcap, rfl⟩ := hv.form
  have HV := Lib.hid hv; clear hv
  have HW := Lib.hid hw; clear hw
  go_enter Tryz.func14, Tryz.ntmps14
  go_wp2_with fail
  go_loopw [6, 7] (fun o i wr => ∃ (k : Nat) (out : List UInt8), o = .string (bs out) ∧ i = .int .i64 k ∧ k ≤ S.size ∧ Hid (St S.data.toList k out) ∧ Hid (out.length ≤ 3 * k) ∧ Below w.heap.size w wr) (fun _ i _ => S.size - (intOf i).toNat)
  case atStart => exact ⟨0, [], rfl, rfl, Nat.zero_le _, St.start _, Nat.zero_le _, Below.refl _ _⟩
  case round =>
    obtain ⟨k, out, rfl, rfl, hk, HS, HZ, hb⟩ := hrel
    have HB := Lib.hid hb; clear hb
    by_cases hlt : k < S.size
    · have hv := HV.out.below HB.out
      go_upto_if 18 with fail
      go_cut [8] (fun v wx => ∃ x : Nat, v = .int .u8 (x : Int) ∧ x < 256 ∧ wr = wx)
      case first =>
        rcases hv with ⟨a, c, he⟩ | ⟨b, off, len, cap, h0, h1, he, h3, h4⟩
        · simp only [Value.slice.injEq] at he
          obtain ⟨rfl, rfl, rfl⟩ := he
          go_wp2_with fail
          go_meet
          exact ⟨0, rfl, by decide, rfl⟩
        · simp only [Value.slice.injEq] at he
          obtain ⟨rfl, rfl, rfl⟩ := he
          have hm : Int.tmod (k : Int) (vlen : Int) = ((k % vlen : Nat) : Int) := by rw [Int.tmod_eq_emod_of_nonneg (by omega)]; omega
          have hml : k % vlen < vlen := Nat.mod_lt _ h0
          obtain ⟨x, hx, hc⟩ := h4 (k % vlen) hml
          generalize k % vlen = j at *
          go_wp2_with fail
          go_meet
          exact ⟨x, rfl, hx, rfl⟩
      case rest =>
        obtain ⟨x, rfl, hx, rfl⟩ := hcut
        clear hv
        have HC := Lib.hid (lstZ hlt)
        have HNX := Lib.hid (HS.out.next HW.out HC.out)
        have HO : Hid (out.length ≤ 300000) := by show _ ≤ _; have := HZ.out; omega
        have ho1 : ¬ 9223372036854775807 < out.length + 1 := by have := HO.out; omega
        have hcv := one_backU wr (S[k].toNat : Int) (by omega) (by have := S[k].toNat_lt; omega)
        have hcc : UInt8.ofNat ((S[k].toNat : Int)).toNat = S[k] := by simp
        rw [hcc] at hcv
        have hap := bs_appU out [S[k]]
        clear hcc
        by_cases h37 : S[k] = 37
        · have q37 : ((S[k].toNat : Int) == 37) = true := by rw [h37]; rfl
          have hc37 := HC.out
          rw [h37] at hc37
          obtain ⟨a, b, g1, g2, la, lb, hst⟩ := HS.out.low HW.out hc37
          have hk2 : k + 2 < S.size := by have := (List.getElem?_eq_some_iff.1 g2).1; rw [size_len]; exact this
          have hx2 := ext2 g1 g2
          have HST := Lib.hid hst
          have HEX := Lib.hid hx2
          have HLA : Hid (∀ y ∈ (S.extract (k + 1) (k + 3)).data.toList, y.toNat < 128) := by show ∀ y ∈ _, _; rw [hx2]; intro y hy; rcases List.mem_cons.1 hy with rfl | hy; (exact la); (rw [List.mem_singleton.1 hy]; exact lb)
          clear g1 g2 la lb hst hc37 hx2
          have n37 : (S[k].toNat : Int) = 37 := by rw [h37]; rfl
          have HN37 := Lib.hid n37
          clear h37
          by_cases hxo : x % 2 = 1
          · have m2 : Int.tmod (x : Int) 2 = 1 := by rw [Int.tmod_eq_emod_of_nonneg (by omega)]; omega
            have HTL := Lib.hid (fun W => toLower_asc (S.extract (k + 1) (k + 3)) W (by rw [ByteArray.size_extract]; omega) HLA.out)
            rw [HEX.out] at HTL
            have e1 : (k : Int) + 1 ≤ (k : Int) + 3 := by omega
            have e2 : (k : Int) + 3 ≤ (S.size : Int) := by omega
            have hap2 : bs out ++ (⟨#[37]⟩ : ByteArray) = bs (out ++ [37]) := bs_appU out [37]
            have hap3 := bs_appU (out ++ [37]) (Lib.toLowerA [a, b])
            have ho2 : ¬ 9223372036854775807 < out.length + 1 + 2 := by have := HO.out; omega
            clear hcv hap hxo n37 HN37 HLA
            go_wp2_with fail
            refine (HTL.out _).mono ?_
            rintro r w5 ⟨rfl, hb5⟩
            have HB5 := Lib.hid (HB.out.trans (hb5.mono HB.out.size)); clear hb5
            have hlz : (Lib.toLowerA [a, b]).length = 2 := rfl
            go_wp2_with fail
            go_roundw
            case rel => exact ⟨k + 3, out ++ 37 :: Lib.toLowerA [a, b], rfl, by go_num, by omega, by have h := HST.out; show St _ _ _; simpa [Lib.toLowerA] using h, by have := HZ.out; show _ ≤ _; simp [Lib.toLowerA]; omega, HB5.out⟩
            case measure => simp [intOf]; omega
          · have m2 : Int.tmod (x : Int) 2 = 0 := by rw [Int.tmod_eq_emod_of_nonneg (by omega)]; omega
            have r1 : ¬ 97 ≤ (S[k].toNat : Int) := by omega
            have r2 : ¬ 48 ≤ (S[k].toNat : Int) := by omega
            have r3 : ((S[k].toNat : Int) == 126) = false := by rw [beq_eq_false_iff_ne]; omega
            have r4 : ((S[k].toNat : Int) == 46) = false := by rw [beq_eq_false_iff_ne]; omega
            clear hxo n37 HN37 HLA HST HEX
            go_wp2_with fail
            go_roundw
            case rel => exact ⟨k + 1, out ++ [S[k]], rfl, by go_num, by omega, HNX.out, by have := HZ.out; show _ ≤ _; simp; omega, HB.out.alloc HB.out.size _⟩
            case measure => simp [intOf]; omega
        · have q37 : ((S[k].toNat : Int) == 37) = false := by rw [beq_eq_false_iff_ne]; intro h; exact h37 (UInt8.toNat_inj.1 (by simpa using (by omega : S[k].toNat = 37)))
          clear h37
          go_upto_region 14 with fail
          go_cut [61] (fun v wx => ∃ b : Bool, v = .bool b ∧ wr = wx ∧ Hid (b = true → plB S[k] = true ∧ (∀ j, k = j + 1 → S.data.toList[j]? ≠ some 37) ∧ (∀ j, k = j + 2 → S.data.toList[j]? ≠ some 37)))
          case first =>
            clear hcv hap ho1 HNX HO
            have hcs : (97 ≤ (S[k].toNat : Int) ∧ (S[k].toNat : Int) ≤ 122) ∨ (¬ 97 ≤ (S[k].toNat : Int) ∧ 48 ≤ (S[k].toNat : Int) ∧ (S[k].toNat : Int) ≤ 57) ∨ ((97 ≤ (S[k].toNat : Int) ∧ ¬ (S[k].toNat : Int) ≤ 122 ∧ 48 ≤ (S[k].toNat : Int) ∧ ¬ (S[k].toNat : Int) ≤ 57) ∧ (S[k].toNat : Int) = 126) ∨ ((¬ 97 ≤ (S[k].toNat : Int) ∧ ¬ 48 ≤ (S[k].toNat : Int)) ∧ (S[k].toNat : Int) = 46) ∨
                (((97 ≤ (S[k].toNat : Int) ∧ ¬ (S[k].toNat : Int) ≤ 122 ∧ 48 ≤ (S[k].toNat : Int) ∧ ¬ (S[k].toNat : Int) ≤ 57) ∨ (¬ 97 ≤ (S[k].toNat : Int) ∧ 48 ≤ (S[k].toNat : Int) ∧ ¬ (S[k].toNat : Int) ≤ 57) ∨ (¬ 97 ≤ (S[k].toNat : Int) ∧ ¬ 48 ≤ (S[k].toNat : Int))) ∧ (S[k].toNat : Int) ≠ 126 ∧ (S[k].toNat : Int) ≠ 46) := by omega
            have hpl : (97 ≤ (S[k].toNat : Int) ∧ (S[k].toNat : Int) ≤ 122) ∨ (48 ≤ (S[k].toNat : Int) ∧ (S[k].toNat : Int) ≤ 57) ∨ (S[k].toNat : Int) = 126 ∨ (S[k].toNat : Int) = 46 → plB S[k] = true := fun h => by
              unfold plB plainI lettI
              simp only [Bool.or_eq_true, decide_eq_true_eq]
              omega
            have HPL := Lib.hid hpl; clear hpl
            rcases hcs with ⟨r1, r2⟩ | ⟨r1, r2, r3⟩ | ⟨⟨r1, r2, r3, r4⟩, r5⟩ | ⟨⟨r1, r2⟩, r3⟩ | ⟨hr, r6, r7⟩
            · as_aux_lemma =>
                have HP := Lib.hid (HPL.out (.inl ⟨r1, r2⟩))
                clear HPL
                by_cases hx4 : x % 4 = 3
                · have m4 : Int.tmod (x : Int) 4 = 3 := by rw [Int.tmod_eq_emod_of_nonneg (by omega)]; omega
                  clear hx4
                  have hcut : (k = 0) ∨ (k = 1) ∨ (2 ≤ k) := by omega
                  rcases hcut with hk0 | hk0 | hk0
                  · have k1 : (k : Int) < 2 := by omega
                    have k2 : (k : Int) < 1 := by omega
                    have HK0 := Lib.hid hk0; clear hk0
                    go_wp2_with fail
                    go_meet
                    exact ⟨true, rfl, rfl, fun _ => ⟨HP.out, fun j hj => by have := HK0.out; omega, fun j hj => by have := HK0.out; omega⟩⟩
                  · have k1 : (k : Int) < 2 := by omega
                    have k2 : ¬ (k : Int) < 1 := by omega
                    obtain ⟨j1, hj1⟩ : ∃ j1 : Nat, k = j1 + 1 := ⟨k - 1, by omega⟩
                    have e1 : (k : Int) - 1 = (j1 : Int) := by omega
                    have l1 : j1 < S.size := by omega
                    have HK0 := Lib.hid hk0; have HJ1 := Lib.hid hj1; clear hk0 hj1
                    have hz1 := lstZ l1
                    by_cases hs : S[j1] = 37
                    · have s1 : ((S[j1].toNat : Int) != 37) = false := by rw [hs]; rfl
                      clear hs hz1
                      go_wp2_with fail
                      go_meet
                      exact ⟨false, rfl, rfl, fun h => by cases h⟩
                    · have s1 : ((S[j1].toNat : Int) != 37) = true := neZ hs
                      have HN1 : Hid (∀ j, k = j + 1 → S.data.toList[j]? ≠ some 37) := fun j hj => by
                        obtain rfl : j = j1 := by have := HJ1.out; omega
                        rw [hz1]; intro e; exact hs (Option.some.inj e)
                      clear hs hz1
                      go_wp2_with fail
                      go_meet
                      exact ⟨true, rfl, rfl, fun _ => ⟨HP.out, HN1.out, fun j hj => by have := HK0.out; omega⟩⟩
                  · have k1 : ¬ (k : Int) < 2 := by omega
                    have k2 : ¬ (k : Int) < 1 := by omega
                    obtain ⟨j2, hj2⟩ : ∃ j2 : Nat, k = j2 + 2 := ⟨k - 2, by omega⟩
                    obtain ⟨j1, hj1⟩ : ∃ j1 : Nat, j1 = j2 + 1 := ⟨_, rfl⟩
                    have e1 : (k : Int) - 1 = (j1 : Int) := by omega
                    have e2 : (k : Int) - 2 = (j2 : Int) := by omega
                    have l1 : j1 < S.size := by omega
                    have l2 : j2 < S.size := by omega
                    have HJ1 := Lib.hid hj1; have HJ2 := Lib.hid hj2; clear hk0 hj1 hj2
                    have hz1 := lstZ l1
                    have hz2 := lstZ l2
                    by_cases hs : S[j1] = 37
                    · have s1 : ((S[j1].toNat : Int) != 37) = false := by rw [hs]; rfl
                      clear hs hz1 hz2
                      go_wp2_with fail
                      go_meet
                      exact ⟨false, rfl, rfl, fun h => by cases h⟩
                    · have s1 : ((S[j1].toNat : Int) != 37) = true := neZ hs
                      by_cases ht : S[j2] = 37
                      · have s2 : ((S[j2].toNat : Int) != 37) = false := by rw [ht]; rfl
                        clear hs ht hz1 hz2
                        go_wp2_with fail
                        go_meet
                        exact ⟨false, rfl, rfl, fun h => by cases h⟩
                      · have s2 : ((S[j2].toNat : Int) != 37) = true := neZ ht
                        have HN1 : Hid (∀ j, k = j + 1 → S.data.toList[j]? ≠ some 37) := fun j hj => by
                          obtain rfl : j = j1 := by have h1 := HJ1.out; have h2 := HJ2.out; omega
                          rw [hz1]; intro e; exact hs (Option.some.inj e)
                        have HN2 : Hid (∀ j, k = j + 2 → S.data.toList[j]? ≠ some 37) := fun j hj => by
                          obtain rfl : j = j2 := by have h2 := HJ2.out; omega
                          rw [hz2]; intro e; exact ht (Option.some.inj e)
                        clear hs ht hz1 hz2
                        go_wp2_with fail
                        go_meet
                        exact ⟨true, rfl, rfl, fun _ => ⟨HP.out, HN1.out, HN2.out⟩⟩
                · obtain ⟨y, hy, m4⟩ : ∃ y : Int, (y == 3) = false ∧ Int.tmod (x : Int) 4 = y := ⟨Int.tmod (x : Int) 4, by rw [Int.tmod_eq_emod_of_nonneg (by omega), beq_eq_false_iff_ne]; omega, rfl⟩
                  clear hx4
                  go_wp2_with fail
                  go_meet
                  exact ⟨false, rfl, rfl, fun h => by cases h⟩
            · as_aux_lemma =>
                have HP := Lib.hid (HPL.out (.inr (.inl ⟨r2, r3⟩)))
                clear HPL
                by_cases hx4 : x % 4 = 3
                · have m4 : Int.tmod (x : Int) 4 = 3 := by rw [Int.tmod_eq_emod_of_nonneg (by omega)]; omega
                  clear hx4
                  have hcut : (k = 0) ∨ (k = 1) ∨ (2 ≤ k) := by omega
                  rcases hcut with hk0 | hk0 | hk0
                  · have k1 : (k : Int) < 2 := by omega
                    have k2 : (k : Int) < 1 := by omega
                    have HK0 := Lib.hid hk0; clear hk0
                    go_wp2_with fail
                    go_meet
                    exact ⟨true, rfl, rfl, fun _ => ⟨HP.out, fun j hj => by have := HK0.out; omega, fun j hj => by have := HK0.out; omega⟩⟩
                  · have k1 : (k : Int) < 2 := by omega
                    have k2 : ¬ (k : Int) < 1 := by omega
                    obtain ⟨j1, hj1⟩ : ∃ j1 : Nat, k = j1 + 1 := ⟨k - 1, by omega⟩
                    have e1 : (k : Int) - 1 = (j1 : Int) := by omega
                    have l1 : j1 < S.size := by omega
                    have HK0 := Lib.hid hk0; have HJ1 := Lib.hid hj1; clear hk0 hj1
                    have hz1 := lstZ l1
                    by_cases hs : S[j1] = 37
                    · have s1 : ((S[j1].toNat : Int) != 37) = false := by rw [hs]; rfl
                      clear hs hz1
                      go_wp2_with fail
                      go_meet
                      exact ⟨false, rfl, rfl, fun h => by cases h⟩
                    · have s1 : ((S[j1].toNat : Int) != 37) = true := neZ hs
                      have HN1 : Hid (∀ j, k = j + 1 → S.data.toList[j]? ≠ some 37) := fun j hj => by
                        obtain rfl : j = j1 := by have := HJ1.out; omega
                        rw [hz1]; intro e; exact hs (Option.some.inj e)
                      clear hs hz1
                      go_wp2_with fail
                      go_meet
                      exact ⟨true, rfl, rfl, fun _ => ⟨HP.out, HN1.out, fun j hj => by have := HK0.out; omega⟩⟩
                  · have k1 : ¬ (k : Int) < 2 := by omega
                    have k2 : ¬ (k : Int) < 1 := by omega
                    obtain ⟨j2, hj2⟩ : ∃ j2 : Nat, k = j2 + 2 := ⟨k - 2, by omega⟩
                    obtain ⟨j1, hj1⟩ : ∃ j1 : Nat, j1 = j2 + 1 := ⟨_, rfl⟩
                    have e1 : (k : Int) - 1 = (j1 : Int) := by omega
                    have e2 : (k : Int) - 2 = (j2 : Int) := by omega
                    have l1 : j1 < S.size := by omega
                    have l2 : j2 < S.size := by omega
                    have HJ1 := Lib.hid hj1; have HJ2 := Lib.hid hj2; clear hk0 hj1 hj2
                    have hz1 := lstZ l1
                    have hz2 := lstZ l2
                    by_cases hs : S[j1] = 37
                    · have s1 : ((S[j1].toNat : Int) != 37) = false := by rw [hs]; rfl
                      clear hs hz1 hz2
                      go_wp2_with fail
                      go_meet
                      exact ⟨false, rfl, rfl, fun h => by cases h⟩
                    · have s1 : ((S[j1].toNat : Int) != 37) = true := neZ hs
                      by_cases ht : S[j2] = 37
                      · have s2 : ((S[j2].toNat : Int) != 37) = false := by rw [ht]; rfl
                        clear hs ht hz1 hz2
                        go_wp2_with fail
                        go_meet
                        exact ⟨false, rfl, rfl, fun h => by cases h⟩
                      · have s2 : ((S[j2].toNat : Int) != 37) = true := neZ ht
                        have HN1 : Hid (∀ j, k = j + 1 → S.data.toList[j]? ≠ some 37) := fun j hj => by
                          obtain rfl : j = j1 := by have h1 := HJ1.out; have h2 := HJ2.out; omega
                          rw [hz1]; intro e; exact hs (Option.some.inj e)
                        have HN2 : Hid (∀ j, k = j + 2 → S.data.toList[j]? ≠ some 37) := fun j hj => by
                          obtain rfl : j = j2 := by have h2 := HJ2.out; omega
                          rw [hz2]; intro e; exact ht (Option.some.inj e)
                        clear hs ht hz1 hz2
                        go_wp2_with fail
                        go_meet
                        exact ⟨true, rfl, rfl, fun _ => ⟨HP.out, HN1.out, HN2.out⟩⟩
                · obtain ⟨y, hy, m4⟩ : ∃ y : Int, (y == 3) = false ∧ Int.tmod (x : Int) 4 = y := ⟨Int.tmod (x : Int) 4, by rw [Int.tmod_eq_emod_of_nonneg (by omega), beq_eq_false_iff_ne]; omega, rfl⟩
                  clear hx4
                  go_wp2_with fail
                  go_meet
                  exact ⟨false, rfl, rfl, fun h => by cases h⟩
            · as_aux_lemma =>
                have HP := Lib.hid (HPL.out (.inr (.inr (.inl r5))))
                have r6 : ((S[k].toNat : Int) == 126) = true := beq_iff_eq.2 r5
                clear HPL r5
                by_cases hx4 : x % 4 = 3
                · have m4 : Int.tmod (x : Int) 4 = 3 := by rw [Int.tmod_eq_emod_of_nonneg (by omega)]; omega
                  clear hx4
                  have hcut : (k = 0) ∨ (k = 1) ∨ (2 ≤ k) := by omega
                  rcases hcut with hk0 | hk0 | hk0
                  · have k1 : (k : Int) < 2 := by omega
                    have k2 : (k : Int) < 1 := by omega
                    have HK0 := Lib.hid hk0; clear hk0
                    go_wp2_with fail
                    go_meet
                    exact ⟨true, rfl, rfl, fun _ => ⟨HP.out, fun j hj => by have := HK0.out; omega, fun j hj => by have := HK0.out; omega⟩⟩
                  · have k1 : (k : Int) < 2 := by omega
                    have k2 : ¬ (k : Int) < 1 := by omega
                    obtain ⟨j1, hj1⟩ : ∃ j1 : Nat, k = j1 + 1 := ⟨k - 1, by omega⟩
                    have e1 : (k : Int) - 1 = (j1 : Int) := by omega
                    have l1 : j1 < S.size := by omega
                    have HK0 := Lib.hid hk0; have HJ1 := Lib.hid hj1; clear hk0 hj1
                    have hz1 := lstZ l1
                    by_cases hs : S[j1] = 37
                    · have s1 : ((S[j1].toNat : Int) != 37) = false := by rw [hs]; rfl
                      clear hs hz1
                      go_wp2_with fail
                      go_meet
                      exact ⟨false, rfl, rfl, fun h => by cases h⟩
                    · have s1 : ((S[j1].toNat : Int) != 37) = true := neZ hs
                      have HN1 : Hid (∀ j, k = j + 1 → S.data.toList[j]? ≠ some 37) := fun j hj => by
                        obtain rfl : j = j1 := by have := HJ1.out; omega
                        rw [hz1]; intro e; exact hs (Option.some.inj e)
                      clear hs hz1
                      go_wp2_with fail
                      go_meet
                      exact ⟨true, rfl, rfl, fun _ => ⟨HP.out, HN1.out, fun j hj => by have := HK0.out; omega⟩⟩
                  · have k1 : ¬ (k : Int) < 2 := by omega
                    have k2 : ¬ (k : Int) < 1 := by omega
                    obtain ⟨j2, hj2⟩ : ∃ j2 : Nat, k = j2 + 2 := ⟨k - 2, by omega⟩
                    obtain ⟨j1, hj1⟩ : ∃ j1 : Nat, j1 = j2 + 1 := ⟨_, rfl⟩
                    have e1 : (k : Int) - 1 = (j1 : Int) := by omega
                    have e2 : (k : Int) - 2 = (j2 : Int) := by omega
                    have l1 : j1 < S.size := by omega
                    have l2 : j2 < S.size := by omega
                    have HJ1 := Lib.hid hj1; have HJ2 := Lib.hid hj2; clear hk0 hj1 hj2
                    have hz1 := lstZ l1
                    have hz2 := lstZ l2
                    by_cases hs : S[j1] = 37
                    · have s1 : ((S[j1].toNat : Int) != 37) = false := by rw [hs]; rfl
                      clear hs hz1 hz2
                      go_wp2_with fail
                      go_meet
                      exact ⟨false, rfl, rfl, fun h => by cases h⟩
                    · have s1 : ((S[j1].toNat : Int) != 37) = true := neZ hs
                      by_cases ht : S[j2] = 37
                      · have s2 : ((S[j2].toNat : Int) != 37) = false := by rw [ht]; rfl
                        clear hs ht hz1 hz2
                        go_wp2_with fail
                        go_meet
                        exact ⟨false, rfl, rfl, fun h => by cases h⟩
                      · have s2 : ((S[j2].toNat : Int) != 37) = true := neZ ht
                        have HN1 : Hid (∀ j, k = j + 1 → S.data.toList[j]? ≠ some 37) := fun j hj => by
                          obtain rfl : j = j1 := by have h1 := HJ1.out; have h2 := HJ2.out; omega
                          rw [hz1]; intro e; exact hs (Option.some.inj e)
                        have HN2 : Hid (∀ j, k = j + 2 → S.data.toList[j]? ≠ some 37) := fun j hj => by
                          obtain rfl : j = j2 := by have h2 := HJ2.out; omega
                          rw [hz2]; intro e; exact ht (Option.some.inj e)
                        clear hs ht hz1 hz2
                        go_wp2_with fail
                        go_meet
                        exact ⟨true, rfl, rfl, fun _ => ⟨HP.out, HN1.out, HN2.out⟩⟩
                · obtain ⟨y, hy, m4⟩ : ∃ y : Int, (y == 3) = false ∧ Int.tmod (x : Int) 4 = y := ⟨Int.tmod (x : Int) 4, by rw [Int.tmod_eq_emod_of_nonneg (by omega), beq_eq_false_iff_ne]; omega, rfl⟩
                  clear hx4
                  go_wp2_with fail
                  go_meet
                  exact ⟨false, rfl, rfl, fun h => by cases h⟩
            · as_aux_lemma =>
                have HP := Lib.hid (HPL.out (.inr (.inr (.inr r3))))
                have r6 : ((S[k].toNat : Int) == 46) = true := beq_iff_eq.2 r3
                have r8 : ((S[k].toNat : Int) == 126) = false := by rw [beq_eq_false_iff_ne]; omega
                clear HPL r3
                by_cases hx4 : x % 4 = 3
                · have m4 : Int.tmod (x : Int) 4 = 3 := by rw [Int.tmod_eq_emod_of_nonneg (by omega)]; omega
                  clear hx4
                  have hcut : (k = 0) ∨ (k = 1) ∨ (2 ≤ k) := by omega
                  rcases hcut with hk0 | hk0 | hk0
                  · have k1 : (k : Int) < 2 := by omega
                    have k2 : (k : Int) < 1 := by omega
                    have HK0 := Lib.hid hk0; clear hk0
                    go_wp2_with fail
                    go_meet
                    exact ⟨true, rfl, rfl, fun _ => ⟨HP.out, fun j hj => by have := HK0.out; omega, fun j hj => by have := HK0.out; omega⟩⟩
                  · have k1 : (k : Int) < 2 := by omega
                    have k2 : ¬ (k : Int) < 1 := by omega
                    obtain ⟨j1, hj1⟩ : ∃ j1 : Nat, k = j1 + 1 := ⟨k - 1, by omega⟩
                    have e1 : (k : Int) - 1 = (j1 : Int) := by omega
                    have l1 : j1 < S.size := by omega
                    have HK0 := Lib.hid hk0; have HJ1 := Lib.hid hj1; clear hk0 hj1
                    have hz1 := lstZ l1
                    by_cases hs : S[j1] = 37
                    · have s1 : ((S[j1].toNat : Int) != 37) = false := by rw [hs]; rfl
                      clear hs hz1
                      go_wp2_with fail
                      go_meet
                      exact ⟨false, rfl, rfl, fun h => by cases h⟩
                    · have s1 : ((S[j1].toNat : Int) != 37) = true := neZ hs
                      have HN1 : Hid (∀ j, k = j + 1 → S.data.toList[j]? ≠ some 37) := fun j hj => by
                        obtain rfl : j = j1 := by have := HJ1.out; omega
                        rw [hz1]; intro e; exact hs (Option.some.inj e)
                      clear hs hz1
                      go_wp2_with fail
                      go_meet
                      exact ⟨true, rfl, rfl, fun _ => ⟨HP.out, HN1.out, fun j hj => by have := HK0.out; omega⟩⟩
                  · have k1 : ¬ (k : Int) < 2 := by omega
                    have k2 : ¬ (k : Int) < 1 := by omega
                    obtain ⟨j2, hj2⟩ : ∃ j2 : Nat, k = j2 + 2 := ⟨k - 2, by omega⟩
                    obtain ⟨j1, hj1⟩ : ∃ j1 : Nat, j1 = j2 + 1 := ⟨_, rfl⟩
                    have e1 : (k : Int) - 1 = (j1 : Int) := by omega
                    have e2 : (k : Int) - 2 = (j2 : Int) := by omega
                    have l1 : j1 < S.size := by omega
                    have l2 : j2 < S.size := by omega
                    have HJ1 := Lib.hid hj1; have HJ2 := Lib.hid hj2; clear hk0 hj1 hj2
                    have hz1 := lstZ l1
                    have hz2 := lstZ l2
                    by_cases hs : S[j1] = 37
                    · have s1 : ((S[j1].toNat : Int) != 37) = false := by rw [hs]; rfl
                      clear hs hz1 hz2
                      go_wp2_with fail
                      go_meet
                      exact ⟨false, rfl, rfl, fun h => by cases h⟩
                    · have s1 : ((S[j1].toNat : Int) != 37) = true := neZ hs
                      by_cases ht : S[j2] = 37
                      · have s2 : ((S[j2].toNat : Int) != 37) = false := by rw [ht]; rfl
                        clear hs ht hz1 hz2
                        go_wp2_with fail
                        go_meet
                        exact ⟨false, rfl, rfl, fun h => by cases h⟩
                      · have s2 : ((S[j2].toNat : Int) != 37) = true := neZ ht
                        have HN1 : Hid (∀ j, k = j + 1 → S.data.toList[j]? ≠ some 37) := fun j hj => by
                          obtain rfl : j = j1 := by have h1 := HJ1.out; have h2 := HJ2.out; omega
                          rw [hz1]; intro e; exact hs (Option.some.inj e)
                        have HN2 : Hid (∀ j, k = j + 2 → S.data.toList[j]? ≠ some 37) := fun j hj => by
                          obtain rfl : j = j2 := by have h2 := HJ2.out; omega
                          rw [hz2]; intro e; exact ht (Option.some.inj e)
                        clear hs ht hz1 hz2
                        go_wp2_with fail
                        go_meet
                        exact ⟨true, rfl, rfl, fun _ => ⟨HP.out, HN1.out, HN2.out⟩⟩
                · obtain ⟨y, hy, m4⟩ : ∃ y : Int, (y == 3) = false ∧ Int.tmod (x : Int) 4 = y := ⟨Int.tmod (x : Int) 4, by rw [Int.tmod_eq_emod_of_nonneg (by omega), beq_eq_false_iff_ne]; omega, rfl⟩
                  clear hx4
                  go_wp2_with fail
                  go_meet
                  exact ⟨false, rfl, rfl, fun h => by cases h⟩
            · have r8 : ((S[k].toNat : Int) == 126) = false := beq_eq_false_iff_ne.2 r6
              have r9 : ((S[k].toNat : Int) == 46) = false := beq_eq_false_iff_ne.2 r7
              clear r6 r7 HPL
              rcases hr with ⟨r1, r2, r3, r4⟩ | ⟨r1, r2, r3⟩ | ⟨r1, r2⟩
              all_goals
                go_wp2_with fail
                go_meet
                exact ⟨false, rfl, rfl, fun h => by cases h⟩
          case rest =>
            obtain ⟨b, rfl, rfl, HEN⟩ := hcut
            cases b
            · clear HEN
              go_wp2_with fail
              go_roundw
              case rel => exact ⟨k + 1, out ++ [S[k]], rfl, by go_num, by omega, HNX.out, by have := HZ.out; show _ ≤ _; simp; omega, HB.out.alloc HB.out.size _⟩
              case measure => simp [intOf]; omega
            · obtain ⟨hp, hn1, hn2⟩ := HEN.out rfl
              have hen := fun d1 d2 => HS.out.enc (d1 := d1) (d2 := d2) HW.out HC.out hp hn1 hn2
              have HENC := Lib.hid hen
              clear HEN hp hn1 hn2 hen hcv hap HNX
              have hnl := S[k].toNat_lt
              have hcn : UInt8.ofNat S[k].toNat = S[k] := by simp
              rw [← hcn] at HENC
              clear hcn q37
              generalize S[k].toNat = n at *
              obtain ⟨g1, g2, g3⟩ := twD_hex n hnl (x / 4 % 2) (by omega) (x / 8 % 2) (by omega)
              have HR := Lib.hid (HENC.out _ _ g1 g2 g3)
              clear g1 g2 g3 HENC
              have a1 : Int.tdiv (n : Int) 16 = ((n / 16 : Nat) : Int) := by rw [Int.tdiv_eq_ediv_of_nonneg (by omega)]; omega
              have a2 : Int.tmod (n : Int) 16 = ((n % 16 : Nat) : Int) := by rw [Int.tmod_eq_emod_of_nonneg (by omega)]; omega
              have a3 : Int.tdiv (x : Int) 4 = ((x / 4 : Nat) : Int) := by rw [Int.tdiv_eq_ediv_of_nonneg (by omega)]; omega
              have a4 : Int.tdiv (x : Int) 8 = ((x / 8 : Nat) : Int) := by rw [Int.tdiv_eq_ediv_of_nonneg (by omega)]; omega
              have a5 : Int.tmod ((x / 4 : Nat) : Int) 2 = ((x / 4 % 2 : Nat) : Int) := by rw [Int.tmod_eq_emod_of_nonneg (by omega)]; omega
              have a6 : Int.tmod ((x / 8 : Nat) : Int) 2 = ((x / 8 % 2 : Nat) : Int) := by rw [Int.tmod_eq_emod_of_nonneg (by omega)]; omega
              have b1 : n / 16 < 16 := by omega
              have b2 : n % 16 < 16 := by omega
              have b3 : x / 4 % 2 < 2 := by omega
              have b4 : x / 8 % 2 < 2 := by omega
              have b5 : x / 4 < 64 := by omega
              have b6 : x / 8 < 32 := by omega
              have w1 : IntKind.u8.wrap ((n / 16 : Nat) : Int) = ((n / 16 : Nat) : Int) := by rw [IntKind.wrap_u8]; omega
              have w2 : IntKind.u8.wrap ((n % 16 : Nat) : Int) = ((n % 16 : Nat) : Int) := by rw [IntKind.wrap_u8]; omega
              have w3 : IntKind.u8.wrap ((x / 4 : Nat) : Int) = ((x / 4 : Nat) : Int) := by rw [IntKind.wrap_u8]; omega
              have w4 : IntKind.u8.wrap ((x / 8 : Nat) : Int) = ((x / 8 : Nat) : Int) := by rw [IntKind.wrap_u8]; omega
              have w5 : IntKind.u8.wrap ((x / 4 % 2 : Nat) : Int) = ((x / 4 % 2 : Nat) : Int) := by rw [IntKind.wrap_u8]; omega
              have w6 : IntKind.u8.wrap ((x / 8 % 2 : Nat) : Int) = ((x / 8 % 2 : Nat) : Int) := by rw [IntKind.wrap_u8]; omega
              generalize n / 16 = na at *
              generalize n % 16 = nb at *
              generalize x / 4 % 2 = xa at *
              generalize x / 8 % 2 = xb at *
              generalize x / 4 = x4 at *
              generalize x / 8 = x8 at *
              have v1 : IntKind.i64.wrap (na : Int) = (na : Int) := IntWalk.i64_in _ (by omega)
              have v2 : IntKind.i64.wrap (nb : Int) = (nb : Int) := IntWalk.i64_in _ (by omega)
              have v3 : IntKind.i64.wrap (xa : Int) = (xa : Int) := IntWalk.i64_in _ (by omega)
              have v4 : IntKind.i64.wrap (xb : Int) = (xb : Int) := IntWalk.i64_in _ (by omega)
              have m1 : IntKind.i64.wrap (16 * (xa : Int)) = ((16 * xa : Nat) : Int) := by rw [IntWalk.i64_in _ (by omega)]; omega
              have m2 : IntKind.i64.wrap (16 * (xb : Int)) = ((16 * xb : Nat) : Int) := by rw [IntWalk.i64_in _ (by omega)]; omega
              have s1 : IntKind.i64.wrap ((na : Int) + ((16 * xa : Nat) : Int)) = ((na + 16 * xa : Nat) : Int) := by rw [IntWalk.i64_in _ (by omega)]; omega
              have s2 : IntKind.i64.wrap ((nb : Int) + ((16 * xb : Nat) : Int)) = ((nb + 16 * xb : Nat) : Int) := by rw [IntWalk.i64_in _ (by omega)]; omega
              have p1 : na + 16 * xa < 32 := by omega
              have p2 : nb + 16 * xb < 32 := by omega
              have x1 := piece_twD _ p1
              have x2 := piece_twD _ p2
              generalize na + 16 * xa = pa at *
              generalize nb + 16 * xb = pb at *
              have p3 : (pa : Int) ≤ 32 := by omega
              have p4 : (pb : Int) ≤ 32 := by omega
              have p5 : (1 : Int) ≤ ((32 - pa : Nat) : Int) := by omega
              have p6 : (1 : Int) ≤ ((32 - pb : Nat) : Int) := by omega
              have p7 : 1 ≤ 32 - pa := by omega
              have p8 : 1 ≤ 32 - pb := by omega
              generalize 16 * xa = sa at *
              generalize 16 * xb = sb at *
              generalize twD.getD pa 0 = d1 at *
              generalize twD.getD pb 0 = d2 at *
              have hap2 : bs out ++ (⟨#[37]⟩ : ByteArray) = bs (out ++ [37]) := bs_appU out [37]
              have hap3 : bs (out ++ [37]) ++ bs [d1] = bs (out ++ [37, d1]) := bs_of (by simp)
              have hap4 : bs (out ++ [37, d1]) ++ bs [d2] = bs (out ++ [37, d1, d2]) := bs_of (by simp)
              have ho2 : ¬ 9223372036854775807 < out.length + 1 + 1 := by have := HO.out; omega
              have ho3 : ¬ 9223372036854775807 < out.length + 2 + 1 := by have := HO.out; omega
              go_wp2_with fail
              refine wp_region_growS (.one 0 false (.one 1 false (.one 2 false (.one 3 false (.one 4 false (.one 5 false (.one 6 false (.one 7 false (.one 8 false (.one 9 false (.one 10 false (.one 11 false (.one 12 false (.one 13 false (.one 14 false (.one 15 false (.one 16 false (.one 17 false (.one 18 false (.one 19 false (.one 20 false (.one 21 false (.one 22 false (.one 23 false (.one 24 false (.one 25 false (.one 26 false (.one 27 false (.one 28 false .done)))))))))))))))))))))))))))))
                (fun _ => True) (by kernel_rfl) (by kernel_rfl) rfl (by kernel_rfl) (by kernel_rfl) trivial (fun ops hops => ?_)
              simp only [GT.ins, List.getD_cons_zero, List.getD_cons_succ]
              clear hops
              iterate 29
                refine growS_take (by rfl) ?_
                apply Exists.intro
                refine ⟨fun w' hE => ?_, ?_⟩
                · skip
                  go_simp
                  try with_reducible rfl
                simp only [Act.put, List.setIfInBounds_toArray, List.set_cons_zero, List.set_cons_succ]
              refine growS_done (NoPanic.normal ?_)
              go_wp2_with fail
              go_roundw
              case rel => exact ⟨k + 1, out ++ [37, d1, d2], rfl, by go_num, by omega, HR.out, by have := HZ.out; show _ ≤ _; simp; omega, HB.out.trans ((drewU wr).mono HB.out.size)⟩
              case measure => simp [intOf]; omega
    · have HF := Lib.hid (HS.out.fin (show k = S.data.toList.length by rw [← size_len]; omega))
      go_wp2_with fail
      go_ret
      exact ⟨out, rfl, HB.out, HF.out, by have := HZ.out; omega⟩
end Go.Proofs.YtigaghdalecdlaaGreatDoor
