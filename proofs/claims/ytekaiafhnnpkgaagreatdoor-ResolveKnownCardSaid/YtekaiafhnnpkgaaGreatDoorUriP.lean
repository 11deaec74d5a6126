/- The document's own answer: a path without dots. -/
import Derived.Test.YtekaiafhnnpkgaaGreatDoorUriM
import Derived.Test.YtekaiafhnnpkgaaGreatDoorUri2
import Derived.Test.YtekaiafhnnpkgaaGreatDoorUriJ
namespace Go.Proofs.YtekaiafhnnpkgaaGreatDoor
open Go.RowKit

theorem in_at {s t : List UInt8} {I : ByteArray} (hI : I.data.toList = 47 :: (s ++ t)) (hs : ∀ c ∈ s, c ≠ 47) {k : Nat} (hk : 1 ≤ k) (hk2 : k ≤ s.length) : ∃ h : k < I.size, ((I[k].toNat : Int) != 47) = true := by
  have hz : I.size = 1 + (s.length + t.length) := by rw [size_len, hI]; simp; omega
  refine ⟨by omega, ?_⟩
  have h1 : I[k]'(by omega) = s[k - 1]'(by omega) := by
    rw [ByteArray.getElem_eq_getElem_data, ← Array.getElem_toList, List.getElem_of_eq hI]
    obtain ⟨j, rfl⟩ : ∃ j, k = j + 1 := ⟨k - 1, by omega⟩
    simp only [List.getElem_cons_succ, Nat.add_sub_cancel]
    rw [List.getElem_append_left (show j < s.length by omega)]
  rw [h1, bne_iff_ne]
  intro h2
  have h3 : s[k - 1]'(by omega) = 47 := UInt8.toNat_inj.1 (by simpa using (by omega : (s[k - 1]'(by omega)).toNat = 47))
  exact hs _ (List.getElem_mem (show k - 1 < s.length by omega)) h3
theorem in_end {s : List UInt8} {L : List (List UInt8)} {I : ByteArray} (hI : I.data.toList = 47 :: (s ++ outD L)) (h : 1 + s.length < I.size) : ((I[1 + s.length].toNat : Int) != 47) = false := by
  have h1 : I[1 + s.length] = 47 := by
    rw [ByteArray.getElem_eq_getElem_data, ← Array.getElem_toList, List.getElem_of_eq hI]
    match L with
    | [] => rw [size_len, hI] at h; simp [outD] at h; omega
    | x :: L =>
      have : 1 + s.length = s.length + 1 := by omega
      simp only [this, List.getElem_cons_succ]
      rw [List.getElem_append_right (by omega)]
      simp [outD]
  rw [h1]; rfl
theorem clean_more {K : List (List UInt8)} {x : List UInt8} (h : ∀ y ∈ K, ∀ c ∈ y, c ≠ 47) (hx : ∀ c ∈ x, c ≠ 47) : ∀ y ∈ K ++ [x], ∀ c ∈ y, c ≠ (47 : UInt8) := fun y hy => by
  rcases List.mem_append.1 hy with h1 | h1
  · exact h y h1
  · rw [List.mem_singleton.1 h1]; exact hx
theorem out_at {A y : List UInt8} {O : ByteArray} (hO : O.data.toList = A ++ 47 :: y) (hy : ∀ c ∈ y, c ≠ 47) {j : Nat} (h1 : A.length < j) (h2 : j < O.size) : ((O[j].toNat : Int) != 47) = true := by
  have hz : O.size = A.length + (y.length + 1) := by rw [size_len, hO]; simp
  have e : O[j] = y[j - A.length - 1]'(by omega) := by
    rw [ByteArray.getElem_eq_getElem_data, ← Array.getElem_toList, List.getElem_of_eq hO, List.getElem_append_right (by omega)]
    obtain ⟨i, hi⟩ : ∃ i, j - A.length = i + 1 := ⟨j - A.length - 1, by omega⟩
    simp only [hi, List.getElem_cons_succ, Nat.add_sub_cancel]
  rw [e, bne_iff_ne]
  intro h3
  have h4 : y[j - A.length - 1]'(by omega) = 47 := UInt8.toNat_inj.1 (by simpa using (by omega : (y[j - A.length - 1]'(by omega)).toNat = 47))
  exact hy _ (List.getElem_mem (show j - A.length - 1 < y.length by omega)) h4
theorem out_end {A y : List UInt8} {O : ByteArray} (hO : O.data.toList = A ++ 47 :: y) : ∃ h : A.length < O.size, ((O[A.length].toNat : Int) != 47) = false := by
  have hz : O.size = A.length + (y.length + 1) := by rw [size_len, hO]; simp
  refine ⟨by omega, ?_⟩
  have e : O[A.length]'(by omega) = 47 := by
    rw [ByteArray.getElem_eq_getElem_data, ← Array.getElem_toList, List.getElem_of_eq hO, List.getElem_append_right (Nat.le_refl _)]
    simp
  rw [e]; rfl
def strZ : Value → Nat | .string s => s.size | _ => 0
set_option maxHeartbeats 1000000 in
set_option maxRecDepth 100000 in
theorem udots_any (s : ByteArray) (w : World) (hl : s.size ≤ 100000000) :
    Calls Tryz.prog 41 #[.string s] w fun r w' => r = .returned (.string (bs (dotsL s.data.toList))) ∧ w = w' := by
  rcases Nat.eq_zero_or_pos s.size with h0 | h0
  · have hn := nil_of h0
    have he : s = ⟨#[]⟩ := bs_of hn
    subst he
    clear hn h0
    go_enter Tryz.func41, Tryz.ntmps41
    go_wp2_with fail
    go_ret
    exact ⟨ret_str rfl, rfl⟩
  · have hc := cons_of h0
    have hnz : (s.toList == []) = false := by rw [Lib.toList_data, hc]; rfl
    by_cases h47 : s[0] = 47
    · obtain ⟨p, hp⟩ : ∃ p, s.data.toList = 47 :: p := ⟨_, by rw [hc, h47]⟩
      have hb : ((s[0].toNat : Int) != 47) = false := by rw [h47]; rfl
      have hlp : p.length ≤ 99999999 := by rw [size_len, hp, List.length_cons] at hl; omega
      have hs2 : Hid (s = bs (outD (segs p))) := bs_of (by rw [hp, outD_join (segs_ne p), segs_join])
      have hD : Hid (dotsL s.data.toList = outD (endD [] (segs p))) := by show _ = _; rw [hp, dots_out]
      have HC := Lib.hid (segs_clean p)
      have HJ : Hid (jl (segs p) ≤ 100000000) := by show _ ≤ _; rw [jl_segs]; omega
      generalize dotsL s.data.toList = F at *
      generalize hS0 : segs p = S0 at *
      clear hc h47 hp hS0 hlp
      go_enter Tryz.func41, Tryz.ntmps41
      go_wp2_with fail
      have hs3 := hs2.out
      clear hs2
      subst hs3
      clear hl hnz hb
      go_loop [3, 4] (fun i o => ∃ (K S : List (List UInt8)), i = .string (bs (outD S)) ∧ o = .string (bs (outD K)) ∧ Hid (∀ x ∈ K, ∀ c ∈ x, c ≠ 47) ∧ Hid (∀ x ∈ S, ∀ c ∈ x, c ≠ 47) ∧ Hid (F = outD (endD K S)) ∧ Hid (jl S ≤ 100000000 ∧ jl K + jl S ≤ 100000000)) (fun i _ => strZ i)
      case atStart => exact ⟨[], S0, rfl, rfl, fun x hx => by (cases hx), HC, hD, Lib.hid ⟨HJ.out, by have := HJ.out; simpa [jl] using this⟩⟩
      case round =>
        obtain ⟨K, S, rfl, rfl, HK, HC, HD, HJ⟩ := hrel
        match S, HC, HD, HJ with
        | [], HC, HD, HJ =>
          have HF : Hid (F = outD K) := HD.out
          clear HD HC HJ
          rw [outD_nil]
          go_wp2_with fail
          go_ret
          exact ⟨ret_str (by rw [HF.out]), rfl⟩
        | x :: L, HC, HD, HJ =>
          have hx : ∀ c ∈ x, c ≠ 47 := HC.out x (by simp)
          have HC2 : Hid (∀ y ∈ L, ∀ c ∈ y, c ≠ 47) := fun y hy => HC.out y (by simp [hy])
          have hI : (bs (outD (x :: L))).data.toList = 47 :: (x ++ outD L) := by rw [bs_data]; rfl
          have hz : (bs (outD (x :: L))).size = 1 + (x.length + (outD L).length) := by rw [size_len, hI]; simp; omega
          have HZ := Lib.hid hz
          have HAT := Lib.hid (fun k => in_at hI hx (k := k))
          have HCX := Lib.hid hx
          have HEN := Lib.hid (in_end (s := x) (L := L) hI)
          have HI := Lib.hid hI
          have hbd : (outD L).length + x.length ≤ 100000000 := by have := HJ.out.1; rw [jl_cons] at this; rw [outD_len]; omega
          generalize hIn : bs (outD (x :: L)) = I at *
          clear hIn hI hx
          go_wp2_with fail
          go_loop [5] (fun i => ∃ k : Nat, 1 ≤ k ∧ k ≤ 1 + x.length ∧ i = .int .i64 k) (fun i => I.size - (intOf i).toNat)
          case atStart => exact ⟨1, by omega, by omega, rfl⟩
          case round =>
            obtain ⟨k, hk1, hk2, rfl⟩ := hrel
            by_cases hlt : k ≤ x.length
            · obtain ⟨h1, h2⟩ := HAT.out k hk1 hlt
              go_wp2_with fail
              go_round
              case rel => exact ⟨k + 1, by omega, by omega, by go_num⟩
              case measure => simp [intOf]; omega
            · obtain rfl : k = 1 + x.length := by omega
              have hP : I.extract 0 (1 + x.length) = bs (47 :: x) := by
                refine bs_of ?_
                rw [Lib.extract_from_zero, HI.out, Nat.add_comm]; simp
              have hR : I.extract (1 + x.length) I.size = bs (outD L) := by
                refine bs_of ?_
                rw [Lib.extract_to_end, HI.out, Nat.add_comm]; simp
              have hpe : ∀ l, ((I.extract 0 (1 + x.length)).toList == l) = ((47 :: x) == l) := fun l => by rw [hP, beq_lit]
              have hre : ((I.extract (1 + x.length) I.size).toList == []) = decide (L = []) := by
                rw [hR, beq_lit]
                match L with
                | [] => rfl
                | y :: M => simp [outD]
              have HP := Lib.hid hP; have HR := Lib.hid hR; clear hP hR hz
              have hle : 1 + x.length ≤ I.size := by rw [HZ.out]; omega
              by_cases h1 : x = [46]
              · have HDS : Hid (dotS x = true) := by show _ = _; rw [h1]; rfl
                have hks : keepS K x = K := by rw [h1]; rfl
                have q1 : ((I.extract 0 (1 + x.length)).toList == [47, 46]) = true := by rw [hpe, h1]; rfl
                have HX : Hid (x.length = 1) := by show _ = _; rw [h1]; rfl
                clear h1
                by_cases hL : L = []
                · have q0 : ((I.extract (1 + x.length) I.size).toList == []) = true := by rw [hre, hL]; rfl
                  have HN : Hid (F = outD (endD K [[]])) := by show _ = _; rw [HD.out, hL, endD_dot1 HDS.out, hks]
                  have HJ2 : Hid (jl [[]] ≤ 100000000 ∧ jl K + jl [[]] ≤ 100000000) := by
                    have h := HJ.out
                    rw [jl_cons] at h
                    have e2 : jl [([] : List UInt8)] = 1 := rfl
                    exact ⟨by omega, by omega⟩
                  have HC2 : Hid (∀ y ∈ [([] : List UInt8)], ∀ c ∈ y, c ≠ 47) := fun y hy c hc => by simp at hy; subst hy; cases hc
                  have hLn : ¬ 1 + x.length < I.size := by have := HZ.out; rw [hL, outD_nil, List.length_nil] at this; omega
                  clear hpe hre hks hL
                  go_wp2_with fail
                  go_round
                  case rel =>
                    skip
                    exact ⟨K, [[]], rfl, rfl, HK, HC2, HN, HJ2⟩
                  case measure => have := HZ.out; have := HX.out; have e1 : (⟨#[47]⟩ : ByteArray).size = 1 := rfl; simp [strZ]; omega
                · have q0 : ((I.extract (1 + x.length) I.size).toList == []) = false := by rw [hre]; simpa using hL
                  have HN : Hid (F = outD (endD K L)) := by show _ = _; rw [HD.out, endD_dot _ hL, hks]
                  have HJ2 : Hid (jl L ≤ 100000000 ∧ jl K + jl L ≤ 100000000) := by
                    have h := HJ.out
                    rw [jl_cons] at h
                    exact ⟨by omega, by omega⟩
                  have hLn : 1 + x.length < I.size := by
                    have := HZ.out
                    match L with
                    | [] => exact absurd rfl hL
                    | y :: M => rw [outD_cons] at this; simp at this; omega
                  clear hpe hre hks hL
                  have hEN := HEN.out hLn
                  go_wp2_with fail
                  go_round
                  case rel =>
                    rw [HR.out]
                    exact ⟨K, L, rfl, rfl, HK, HC2, HN, HJ2⟩
                  case measure => rw [HR.out]; have := HZ.out; simp [strZ]; omega
              · by_cases h2 : x = [46, 46]
                · have HDS : Hid (dotS x = true) := by show _ = _; rw [h2]; rfl
                  have hks : keepS K x = K.dropLast := by rw [h2]; rfl
                  have q1 : ((I.extract 0 (1 + x.length)).toList == [47, 46]) = false := by rw [hpe]; simpa using h1
                  have q2 : ((I.extract 0 (1 + x.length)).toList == [47, 46, 46]) = true := by rw [hpe, h2]; rfl
                  have HX : Hid (x.length = 2) := by show _ = _; rw [h2]; rfl
                  have hjd : jl K.dropLast ≤ jl K := jl_sub (List.dropLast_sublist K)
                  clear h1 h2
                  by_cases hL : L = []
                  · have q0 : ((I.extract (1 + x.length) I.size).toList == []) = true := by rw [hre, hL]; rfl
                    have HN : Hid (F = outD (endD K.dropLast [[]])) := by show _ = _; rw [HD.out, hL, endD_dot1 HDS.out, hks]
                    have HJ2 : Hid (jl [[]] ≤ 100000000 ∧ jl K.dropLast + jl [[]] ≤ 100000000) := by
                      have h := HJ.out
                      rw [jl_cons] at h
                      have e2 : jl [([] : List UInt8)] = 1 := rfl
                      exact ⟨by omega, by omega⟩
                    have HC2 : Hid (∀ y ∈ [([] : List UInt8)], ∀ c ∈ y, c ≠ 47) := fun y hy c hc => by simp at hy; subst hy; cases hc
                    have hLn : ¬ 1 + x.length < I.size := by have := HZ.out; rw [hL, outD_nil, List.length_nil] at this; omega
                    clear hpe hre hks hL hjd
                    by_cases hK : K = []
                    · have hKe : outD K = [] := by rw [hK]; rfl
                      have HN : Hid (F = outD (endD K [[]])) := by show _ = _; rw [HN.out, hK]; rfl
                      have HJ2 : Hid (jl [[]] ≤ 100000000 ∧ jl K + jl [[]] ≤ 100000000) := by have h := HJ2.out; rw [hK] at h ⊢; exact h
                      have HK2 := HK
                      rw [hKe]
                      have HKE := Lib.hid hKe; clear hKe hK
                      go_wp2_with fail
                      go_loop [7] (fun i => i = .int .i64 0) (fun _ => 0)
                      case atStart => rfl
                      case round =>
                        obtain rfl := hrel
                        go_wp2_with fail
                        go_round
                        case rel =>
                          skip
                          exact ⟨K, [[]], rfl, by rw [HKE.out], HK2, HC2, HN, HJ2⟩
                        case measure => have := HZ.out; have := HX.out; have e1 : (⟨#[47]⟩ : ByteArray).size = 1 := rfl; simp [strZ]; omega
                    · obtain ⟨K0, y, rfl⟩ : ∃ K0 y, K = K0 ++ [y] := ⟨_, _, (List.dropLast_concat_getLast hK).symm⟩
                      have hdl : (K0 ++ [y]).dropLast = K0 := by simp
                      rw [hdl] at HN HJ2
                      have HK2 : Hid (∀ z ∈ K0, ∀ c ∈ z, c ≠ 47) := fun z hz => HK.out z (by simp [hz])
                      have hO : (bs (outD (K0 ++ [y]))).data.toList = outD K0 ++ 47 :: y := by rw [bs_data, outD_last]
                      have HAO := Lib.hid (fun j => out_at hO (HK.out y (by simp)) (j := j))
                      obtain ⟨hoz, hoe⟩ := out_end hO
                      have hoe2 := Lib.hid hoe
                      have HX2 : Hid ((bs (outD (K0 ++ [y]))).extract 0 (outD K0).length = bs (outD K0)) := by
                        refine bs_of ?_
                        rw [Lib.extract_from_zero, hO]; simp
                      have hzo : (bs (outD (K0 ++ [y]))).size ≤ 100000000 := by have h := HJ.out.2; rw [bs_size, outD_len]; omega
                      clear hK hdl hO hoe
                      generalize bs (outD (K0 ++ [y])) = O at *
                      go_wp2_with fail
                      go_loop [7] (fun i => ∃ j : Nat, (outD K0).length ≤ j ∧ j < O.size ∧ i = .int .i64 ((j : Int) + 1)) (fun i => (intOf i).toNat)
                      case atStart => exact ⟨O.size - 1, by omega, by omega, by go_num⟩
                      case round =>
                        obtain ⟨j, hj1, hj2, rfl⟩ := hrel
                        by_cases hj : (outD K0).length < j
                        · have hne := HAO.out j hj hj2
                          go_wp2_with fail
                          go_round
                          case rel => exact ⟨j - 1, by omega, by omega, by go_num⟩
                          case measure => simp [intOf]
                        · obtain rfl : j = (outD K0).length := by omega
                          have hoe3 := hoe2.out
                          go_wp2_with fail
                          go_round
                          case rel =>
                            skip
                            exact ⟨K0, [[]], rfl, by rw [HX2.out], HK2, HC2, HN, HJ2⟩
                          case measure => have := HZ.out; have := HX.out; have e1 : (⟨#[47]⟩ : ByteArray).size = 1 := rfl; simp [strZ]; omega
                  · have q0 : ((I.extract (1 + x.length) I.size).toList == []) = false := by rw [hre]; simpa using hL
                    have HN : Hid (F = outD (endD K.dropLast L)) := by show _ = _; rw [HD.out, endD_dot _ hL, hks]
                    have HJ2 : Hid (jl L ≤ 100000000 ∧ jl K.dropLast + jl L ≤ 100000000) := by
                      have h := HJ.out
                      rw [jl_cons] at h
                      exact ⟨by omega, by omega⟩
                    have hLn : 1 + x.length < I.size := by
                      have := HZ.out
                      match L with
                      | [] => exact absurd rfl hL
                      | y :: M => rw [outD_cons] at this; simp at this; omega
                    clear hpe hre hks hL hjd
                    have hEN := HEN.out hLn
                    by_cases hK : K = []
                    · have hKe : outD K = [] := by rw [hK]; rfl
                      have HN : Hid (F = outD (endD K L)) := by show _ = _; rw [HN.out, hK]; rfl
                      have HJ2 : Hid (jl L ≤ 100000000 ∧ jl K + jl L ≤ 100000000) := by have h := HJ2.out; rw [hK] at h ⊢; exact h
                      have HK2 := HK
                      rw [hKe]
                      have HKE := Lib.hid hKe; clear hKe hK
                      go_wp2_with fail
                      go_loop [7] (fun i => i = .int .i64 0) (fun _ => 0)
                      case atStart => rfl
                      case round =>
                        obtain rfl := hrel
                        go_wp2_with fail
                        go_round
                        case rel =>
                          rw [HR.out]
                          exact ⟨K, L, rfl, by rw [HKE.out], HK2, HC2, HN, HJ2⟩
                        case measure => rw [HR.out]; have := HZ.out; simp [strZ]; omega
                    · obtain ⟨K0, y, rfl⟩ : ∃ K0 y, K = K0 ++ [y] := ⟨_, _, (List.dropLast_concat_getLast hK).symm⟩
                      have hdl : (K0 ++ [y]).dropLast = K0 := by simp
                      rw [hdl] at HN HJ2
                      have HK2 : Hid (∀ z ∈ K0, ∀ c ∈ z, c ≠ 47) := fun z hz => HK.out z (by simp [hz])
                      have hO : (bs (outD (K0 ++ [y]))).data.toList = outD K0 ++ 47 :: y := by rw [bs_data, outD_last]
                      have HAO := Lib.hid (fun j => out_at hO (HK.out y (by simp)) (j := j))
                      obtain ⟨hoz, hoe⟩ := out_end hO
                      have hoe2 := Lib.hid hoe
                      have HX2 : Hid ((bs (outD (K0 ++ [y]))).extract 0 (outD K0).length = bs (outD K0)) := by
                        refine bs_of ?_
                        rw [Lib.extract_from_zero, hO]; simp
                      have hzo : (bs (outD (K0 ++ [y]))).size ≤ 100000000 := by have h := HJ.out.2; rw [bs_size, outD_len]; omega
                      clear hK hdl hO hoe
                      generalize bs (outD (K0 ++ [y])) = O at *
                      go_wp2_with fail
                      go_loop [7] (fun i => ∃ j : Nat, (outD K0).length ≤ j ∧ j < O.size ∧ i = .int .i64 ((j : Int) + 1)) (fun i => (intOf i).toNat)
                      case atStart => exact ⟨O.size - 1, by omega, by omega, by go_num⟩
                      case round =>
                        obtain ⟨j, hj1, hj2, rfl⟩ := hrel
                        by_cases hj : (outD K0).length < j
                        · have hne := HAO.out j hj hj2
                          go_wp2_with fail
                          go_round
                          case rel => exact ⟨j - 1, by omega, by omega, by go_num⟩
                          case measure => simp [intOf]
                        · obtain rfl : j = (outD K0).length := by omega
                          have hoe3 := hoe2.out
                          go_wp2_with fail
                          go_round
                          case rel =>
                            rw [HR.out]
                            exact ⟨K0, L, rfl, by rw [HX2.out], HK2, HC2, HN, HJ2⟩
                          case measure => rw [HR.out]; have := HZ.out; simp [strZ]; omega
                · have q1 : ((I.extract 0 (1 + x.length)).toList == [47, 46]) = false := by rw [hpe]; simpa using h1
                  have q2 : ((I.extract 0 (1 + x.length)).toList == [47, 46, 46]) = false := by rw [hpe]; simpa using h2
                  have HDS : Hid (dotS x = false) := by show _ = _; simp [dotS, h1, h2]
                  have hKL : (outD K).length + (outD L).length + x.length ≤ 100000000 := by have := HJ.out.2; rw [jl_cons] at this; rw [outD_len, outD_len]; omega
                  have hcat : ¬ 9223372036854775807 < (outD K).length + min (1 + x.length) I.size := by omega
                  have HK2 : Hid (∀ y ∈ K ++ [x], ∀ c ∈ y, c ≠ 47) := clean_more HK.out HCX.out
                  have HN : Hid (F = outD (endD (K ++ [x]) L)) := by show _ = _; rw [HD.out, endD_keep HDS.out]
                  have HJ2 : Hid (jl L ≤ 100000000 ∧ jl (K ++ [x]) + jl L ≤ 100000000) := by
                    have h := HJ.out
                    rw [jl_cons] at h
                    have e : jl [x] = x.length + 1 := rfl
                    exact ⟨by omega, by rw [jl_append, e]; omega⟩
                  clear hpe hre h1 h2
                  by_cases hLn : 1 + x.length < I.size
                  · have hEN := HEN.out hLn
                    go_wp2_with fail
                    go_round
                    case rel =>
                      rw [HR.out, HP.out]
                      exact ⟨K ++ [x], L, rfl, by rw [outD_last, bs_appU], HK2, HC2, HN, HJ2⟩
                    case measure => rw [HR.out]; have := HZ.out; simp [strZ]; omega
                  · go_wp2_with fail
                    go_round
                    case rel =>
                      rw [HR.out, HP.out]
                      exact ⟨K ++ [x], L, rfl, by rw [outD_last, bs_appU], HK2, HC2, HN, HJ2⟩
                    case measure => rw [HR.out]; have := HZ.out; simp [strZ]; omega
    · have hF : Hid (dotsL s.data.toList = []) := by
        show _ = _
        rw [hc]
        exact dots_no (by simp [Lib.hasPrefix, List.isPrefixOf]; exact fun h => h47 h.symm)
      have hb : ((s[0].toNat : Int) != 47) = true := by
        rw [bne_iff_ne]; intro h; exact h47 (UInt8.toNat_inj.1 (by simpa using (by omega : s[0].toNat = 47)))
      clear hc h47
      go_enter Tryz.func41, Tryz.ntmps41
      go_wp2_with fail
      go_ret
      exact ⟨ret_str (by rw [hF.out]; rfl), rfl⟩
end Go.Proofs.YtekaiafhnnpkgaaGreatDoor
