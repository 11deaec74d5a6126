/- Two lists of texts held against each other; the statement TextSplits' walk. -/
import Derived.Test.YtjbkjmceabilaaaTextV
import Derived.Test.YtjbkjmceabilaaaTextH
namespace Go.Proofs.Ytjbkjmceabilaaa
open Go.RowKit

theorem ownS.heap {w w' : World} {base : Nat} {v : Value} {l : List (List UInt8)} (h : ownS w base v l) (hh : w'.heap = w.heap) : ownS w' base v l := by
  refine ⟨h.1, ?_⟩
  rw [hh]; exact h.2

theorem take_eq_snoc {L1 L2 : List (List UInt8)} {k : Nat} (h1 : k < L1.length) (h2 : k < L2.length) (h : L1.take k = L2.take k) (he : L1.getD k [] = L2.getD k []) : L1.take (k + 1) = L2.take (k + 1) := by
  rw [List.take_succ_eq_append_getElem h1, List.take_succ_eq_append_getElem h2, h]
  simp [List.getD, h1, h2] at he
  rw [he]

set_option maxHeartbeats 1000000 in
theorem texts_any (B1 B2 : Nat) (v1 v2 : Value) (L1 L2 : List (List UInt8)) (w : World) (h1 : ownS w B1 v1 L1) (h2 : ownS w B2 v2 L2) (hl : L1.length ≤ 4294967296) :
    Calls Try.prog 10 #[v1, v2] w fun e w' => e = .returned (.bool (L1 == L2)) ∧ Below w.heap.size w w' := by
  obtain ⟨a1, c1, rfl⟩ := h1.form
  obtain ⟨a2, c2, rfl⟩ := h2.form
  have H1 := Lib.hid h1; have H2 := Lib.hid h2
  clear h1 h2
  by_cases hlen : L1.length = L2.length
  · have hne : ((L1.length : Int) != (L2.length : Int)) = false := by rw [bne_eq_false_iff_eq]; omega
    have HLen := Lib.hid hlen; clear hlen
    go_enter Try.func10, Try.ntmps10
    go_wp2_with fail
    go_loopw [5] (fun i wr => ∃ k : Nat, k ≤ L1.length ∧ i = .int .i64 k ∧ L1.take k = L2.take k ∧ wr.heap = w.heap ∧ Below w.heap.size w wr) (fun i _ => L1.length - (intOf i).toNat)
    case atStart => exact ⟨0, Nat.zero_le _, rfl, rfl, rfl, Below.refl _ _⟩
    case round =>
      obtain ⟨k, hk, rfl, ht, hh, hb⟩ := hrel
      have HT := Lib.hid ht; clear ht
      have HH := Lib.hid hh; clear hh
      have HB := Lib.hid hb; clear hb
      by_cases hlt : k < L1.length
      · have hlt2 : k < L2.length := by have := HLen.out; omega
        have hi1 : (k : Int) < (L1.length : Int) := by omega
        have hi2 : (k : Int) < (L2.length : Int) := by omega
        obtain ⟨g1, rfl, hc1⟩ := (H1.out.heap HH.out).cell k hlt
        obtain ⟨g2, rfl, hc2⟩ := (H2.out.heap HH.out).cell k hlt2
        by_cases he : L1.getD k [] = L2.getD k []
        · have HS := Lib.hid (take_eq_snoc hlt hlt2 HT.out he)
          rw [he] at hc1
          clear he
          generalize bs (L2.getD k []) = x at *
          go_wp2_with fail
          go_quiet (fail)
          go_wp2_with fail
          go_roundw
          case rel => exact ⟨k + 1, by omega, by go_num, HS.out, HH.out, below_drewN HB.out _⟩
          case measure => simp [intOf]; omega
        · have hx : ((bs (L1.getD k [])).toList == (bs (L2.getD k [])).toList) = false := by rw [beq_eq_false_iff_ne, Lib.toList_data, Lib.toList_data, bs_data, bs_data]; exact he
          have HN : Hid (¬ L1 = L2) := fun e => he (by rw [e])
          clear he
          generalize bs (L1.getD k []) = x at *
          generalize bs (L2.getD k []) = y at *
          go_wp2_with fail
          go_quiet (fail)
          go_wp2_with fail
          go_ret
          exact ⟨ret_bool (beq_eq_false_iff_ne.2 HN.out).symm, below_drewN HB.out _⟩
      · have HE : Hid (L1 = L2) := by
          have h := HT.out
          have h3 := HLen.out
          rwa [List.take_of_length_le (by omega), List.take_of_length_le (by omega)] at h
        go_wp2_with fail
        go_ret
        exact ⟨ret_bool (beq_iff_eq.2 HE.out).symm, HB.out⟩
  · have hne : ((L1.length : Int) != (L2.length : Int)) = true := bne_iff_ne.2 (by omega)
    have HN : Hid (¬ L1 = L2) := fun e => hlen (by rw [e])
    clear hlen
    go_enter Try.func10, Try.ntmps10
    go_wp2_with fail
    go_ret
    exact ⟨ret_bool (beq_eq_false_iff_ne.2 HN.out).symm, Below.refl _ _⟩

end Go.Proofs.Ytjbkjmceabilaaa
