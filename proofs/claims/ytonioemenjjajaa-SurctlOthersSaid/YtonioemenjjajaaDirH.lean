/- Lists of directives held against each other; the document's directives of values. -/
import Derived.Test.YtonioemenjjajaaDirG
import Derived.Test.YtonioemenjjajaaDirF
import Derived.Test.YtonioemenjjajaaTextV
import Derived.Test.YtonioemenjjajaaTextX
import Derived.Test.YtonioemenjjajaaDirD
import Derived.Laws.StructEq
namespace Go.Proofs.Ytonioemenjjajaa
open Go.RowKit

theorem below_dnD {B : Nat} {w0 w : World} (h : Below B w0 w) (n : Nat) : Below B w0 (w.drewN n) := ⟨h.os, h.tape, h.output, h.size, h.block⟩
theorem take_growD {α : Type} {L1 L2 : List α} {k : Nat} (h1 : k < L1.length) (h2 : k < L2.length) (h : L1.take k = L2.take k) (he : L1[k] = L2[k]) : L1.take (k + 1) = L2.take (k + 1) := by
  rw [List.take_succ_eq_append_getElem h1, List.take_succ_eq_append_getElem h2, h, he]
/-- two directives held against each other -/
theorem run_neqD (x y : Dv) (w : World) : (binOp .neq 39 (.agg #[.string (bs x.1), .string (bs x.2.1), .bool x.2.2.1, .string (bs x.2.2.2)]) (.agg #[.string (bs y.1), .string (bs y.2.1), .bool y.2.2.1, .string (bs y.2.2.2)])).run Try.prog w = .ok (.bool (!(x == y))) w := by
  have e : (x == y) = ((x.1 == y.1) && ((x.2.1 == y.2.1) && ((x.2.2.1 == y.2.2.1) && (x.2.2.2 == y.2.2.2)))) := rfl
  have u9 := Try.underlying9
  have a9 := Try.isAgg9
  have z9 := Try.sizeOf9
  have u4 := Try.underlying4
  have a4 := Try.isAgg4
  have z4 := Try.sizeOf4
  have hS : Try.prog.underlying 39 = some (.struct (Try.prog.fieldsOf 39)) := by kernel_rfl
  have hp : Try.prog.stoodInHeld 39 = false := by kernel_rfl
  rw [e, run_neq_struct, show (10000 : Nat) = 9999 + 1 from rfl, run_equalIn_agg w 9999 39 _ _ hS hp]
  simp only [Program.fieldsOf, Try.underlying39]
  go_simp
  by_cases h1 : x.1 = y.1 <;> by_cases h2 : x.2.1 = y.2.1 <;> by_cases h3 : x.2.2.1 = y.2.2.1 <;> by_cases h4 : x.2.2.2 = y.2.2.2 <;> simp [h1, h2, h3, h4, Lib.toList_data]
set_option maxHeartbeats 1000000 in
set_option maxRecDepth 100000 in
theorem rsameD_any (v1 v2 : Value) (L1 L2 : List Dv) (w : World) (h1 : DL w v1 L1) (h2 : DL w v2 L2) (hl : L1.length ≤ 4294967296) :
    Calls Try.prog 10 #[v1, v2] w fun e w' => e = .returned (.bool (L1 == L2)) ∧ Below w.heap.size w w' := by
  obtain ⟨a1, c1, rfl⟩ := h1.form
  obtain ⟨a2, c2, rfl⟩ := h2.form
  have H1 := Lib.hid h1; have H2 := Lib.hid h2
  clear h1 h2
  by_cases hlen : L1.length = L2.length
  · have hne : ((L1.length : Int) != (L2.length : Int)) = false := by rw [bne_eq_false_iff_eq]; omega
    have HLen := Lib.hid hlen; clear hlen
    go_enter Try.func10, Try.ntmps10
    go_wp2_with fail
    go_loopw [5] (fun i wr => ∃ k : Nat, k ≤ L1.length ∧ i = .int .i64 k ∧ L1.take k = L2.take k ∧ Below w.heap.size w wr) (fun i _ => L1.length - (intOf i).toNat)
    case atStart => exact ⟨0, Nat.zero_le _, rfl, rfl, Below.refl _ _⟩
    case round =>
      obtain ⟨k, hk, rfl, ht, hb⟩ := hrel
      have HT := Lib.hid ht; clear ht
      have HB := Lib.hid hb; clear hb
      by_cases hlt : k < L1.length
      · have hlt2 : k < L2.length := by have := HLen.out; omega
        have hi1 : (k : Int) < (L1.length : Int) := by omega
        have hi2 : (k : Int) < (L2.length : Int) := by omega
        obtain ⟨g1, o1, rfl, _, e0, e1, e2, e3⟩ := (H1.out.bel HB.out).get k hlt
        obtain ⟨g2, o2, rfl, _, f0, f1, f2, f3⟩ := (H2.out.bel HB.out).get k hlt2
        have hcmp := fun w => run_neqD L1[k] L2[k] w
        by_cases he : L1[k] = L2[k]
        · have HS := Lib.hid (take_growD hlt hlt2 HT.out he)
          rw [show (!(L1[k] == L2[k])) = false from by rw [he]; simp] at hcmp
          clear he
          generalize L1[k] = x at *
          generalize L2[k] = y at *
          generalize bs x.1 = x1 at *
          generalize bs x.2.1 = x2 at *
          generalize bs x.2.2.2 = x4 at *
          generalize bs y.1 = y1 at *
          generalize bs y.2.1 = y2 at *
          generalize bs y.2.2.2 = y4 at *
          generalize x.2.2.1 = x3 at *
          generalize y.2.2.1 = y3 at *
          go_wp2_with fail
          go_quiet (fail)
          go_wp2_with fail
          go_roundw
          case rel => exact ⟨k + 1, by omega, by go_num, HS.out, below_dnD HB.out _⟩
          case measure => simp [intOf]; omega
        · have HN : Hid (¬ L1 = L2) := fun e => he (by subst e; rfl)
          rw [show (!(L1[k] == L2[k])) = true from by rw [beq_eq_false_iff_ne.2 he]; rfl] at hcmp
          clear he
          generalize L1[k] = x at *
          generalize L2[k] = y at *
          generalize bs x.1 = x1 at *
          generalize bs x.2.1 = x2 at *
          generalize bs x.2.2.2 = x4 at *
          generalize bs y.1 = y1 at *
          generalize bs y.2.1 = y2 at *
          generalize bs y.2.2.2 = y4 at *
          generalize x.2.2.1 = x3 at *
          generalize y.2.2.1 = y3 at *
          go_wp2_with fail
          go_quiet (fail)
          go_wp2_with fail
          go_ret
          exact ⟨ret_bool (beq_eq_false_iff_ne.2 HN.out).symm, below_dnD HB.out _⟩
      · have HE : Hid (L1 = L2) := by
          have h := HT.out
          have h3 := HLen.out
          rwa [List.take_of_length_le (by omega), List.take_of_length_le (by omega)] at h
        go_wp2_with fail
        go_ret
        exact ⟨ret_bool (beq_iff_eq.2 HE.out).symm, HB.out⟩
  · have hne : ((L1.length : Int) != (L2.length : Int)) = true := bne_iff_ne.2 (by omega)
    have HN : Hid (¬ L1 = L2) := fun e => hlen (by rw [e])
    clear hlen
    go_enter Try.func10, Try.ntmps10
    go_wp2_with fail
    go_ret
    exact ⟨ret_bool (beq_eq_false_iff_ne.2 HN.out).symm, Below.refl _ _⟩
end Go.Proofs.Ytonioemenjjajaa
