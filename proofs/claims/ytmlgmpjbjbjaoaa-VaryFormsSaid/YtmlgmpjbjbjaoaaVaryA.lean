/- Which elements name no field: the vary layer's nameless; the first element of which a function holds. -/
import Derived.Test.YtmlgmpjbjbjaoaaVary0
import Derived.Test.YtmlgmpjbjbjaoaaAppSG
import Derived.Test.YtmlgmpjbjbjaoaaKFieldsG
import Derived.Test.YtmlgmpjbjbjaoaaKTextT
import Derived.Shelf.Abstract
namespace Go.Proofs.Ytmlgmpjbjbjaoaa
open Go.RowKit Go.Shelf

theorem beqV (a b : List UInt8) : ((bs a).toList == b) = (a == b) := by rw [Lib.toList_data, bs_data]
theorem beqVV (a b : List UInt8) : ((bs a).toList == (bs b).toList) = (a == b) := by rw [Lib.toList_data, Lib.toList_data, bs_data, bs_data]

theorem nameless_any (x : List UInt8) (w : World) (h : x.length ≤ 281474976710656) : Calls Try.prog 29 #[.string (bs x)] w fun e w' => e = .returned (.bool (namelessB x)) ∧ Below w.heap.size w w' := by
  have ht := fun W => token_l x W (by unfold maxLen; omega)
  have HD : Hid (namelessB x = (x == [42] || !token x)) := rfl
  cases hx : x == [42]
  · have hq : ((bs x).toList == [42]) = false := by rw [beqV]; exact hx
    cases hk : token x
    all_goals
      rw [hk] at ht
      rw [hx, hk] at HD
      have HT := Lib.hid ht; clear ht hx hk
      generalize bs x = s at *
      go_enter Try.func29, Try.ntmps29
      go_wp2_with (go_at_call 21; refine (HT.out _).mono ?_; rintro e w1 ⟨rfl, rfl⟩)
      go_ret
      exact ⟨ret_bool HD.out.symm, Below.refl _ _⟩
  · have hq : ((bs x).toList == [42]) = true := by rw [beqV]; exact hx
    rw [hx, Bool.true_or] at HD
    clear ht hx
    generalize bs x = s at *
    go_enter Try.func29, Try.ntmps29
    go_wp2_with fail
    go_ret
    exact ⟨ret_bool HD.out.symm, Below.refl _ _⟩
theorem eNameless : ∀ args w, (callFunc 29 args).run Try.prog w = .ok (.enter 29 args) w := enters_of Try.func29 (by kernel_rfl) rfl

/-- the place of the first text of which p holds -/
def placeT (L : List (List UInt8)) (p : List UInt8 → Bool) : Int := match L.findIdx? p with | some k => (k : Int) | none => -1
theorem placeT_any (L : List (List UInt8)) (p : List UInt8 → Bool) : decide (0 ≤ placeT L p) = L.any p := by
  unfold placeT
  cases h : L.findIdx? p with
  | some k =>
    obtain ⟨hk, hp, _⟩ := List.findIdx?_eq_some_iff_getElem.1 h
    rw [show L.any p = true from List.any_eq_true.2 ⟨L[k], List.getElem_mem hk, hp⟩]
    exact decide_eq_true (Int.natCast_nonneg k)
  | none =>
    rw [List.findIdx?_eq_none_iff] at h
    rw [show L.any p = false from List.any_eq_false.2 fun x hx => by rw [h x hx]; simp]
    rfl

set_option maxRecDepth 100000 in
set_option maxHeartbeats 2000000 in
theorem indexT_any (g : Nat) (eg : ∀ args w, (callFunc g args).run Try.prog w = .ok (.enter g args) w) (p : List UInt8 → Bool) (B : Nat)
    (hp : ∀ (x : List UInt8) (w : World), x.length ≤ B → Calls Try.prog g #[.string (bs x)] w fun e w' => e = .returned (.bool (p x)) ∧ Below w.heap.size w w')
    (v : Value) (L : List (List UInt8)) (w : World) (h : SL w v L) (hL : ∀ x ∈ L, x.length ≤ B) (hl : L.length ≤ 1048576) :
    Calls Try.prog 50 #[v, .func (.func g) #[] #[]] w fun e w' => e = .returned (.int .i64 (placeT L p)) ∧ Below w.heap.size w w' := by
  obtain ⟨A, c, rfl⟩ := h.form
  have HF := Lib.hid h; clear h
  have HP := Lib.hid hp; clear hp
  have HS := Lib.hid hL; clear hL
  go_enter Try.func50, Try.ntmps50
  go_wp2_with fail
  go_loopw [8] (fun i wr => ∃ k : Nat, k ≤ L.length ∧ i = .int .i64 k ∧ (∀ j (hj : j < k) (hk : k ≤ L.length), p (L[j]'(by omega)) = false) ∧ Below w.heap.size w wr) (fun i _ => L.length - (intOf i).toNat)
  case atStart => exact ⟨0, Nat.zero_le _, rfl, fun j hj => absurd hj (by omega), Below.refl _ _⟩
  case round =>
    obtain ⟨k, hk, rfl, hn, hb⟩ := hrel
    have HNo := Lib.hid hn; have HB := Lib.hid hb; clear hn hb
    by_cases hlt : k < L.length
    · obtain ⟨b, off, rfl, hbb, hc1⟩ := (HF.out.bel HB.out).get k hlt
      have hcall := HP.out L[k] wr (HS.out _ (List.getElem_mem hlt))
      cases hq : p L[k]
      · rw [hq] at hcall
        have HNN : Hid (∀ j (hj : j < k + 1) (hk : k + 1 ≤ L.length), p (L[j]'(by omega)) = false) := by
          intro j hj hk2
          rcases Nat.lt_or_eq_of_le (Nat.le_of_lt_succ hj) with h1 | h1
          · exact HNo.out j h1 (by omega)
          · subst h1; exact hq
        clear hq
        generalize L[k] = f at *
        have HCA := Lib.hid hcall; clear hcall
        go_wp2_with (go_at_fn g; refine HCA.out.mono ?_; rintro e w1 ⟨rfl, hb1⟩; have HB1 := Lib.hid (HB.out.trans (hb1.mono HB.out.size)); clear hb1)
        go_roundw
        case rel => exact ⟨k + 1, by omega, by go_num, HNN.out, HB1.out⟩
        case measure => simp [intOf]; omega
      · rw [hq] at hcall
        have HNN : Hid (placeT L p = (k : Int)) := by
          show _ = _
          unfold placeT
          rw [show L.findIdx? p = some k from List.findIdx?_eq_some_iff_getElem.2 ⟨hlt, hq, fun j hj => by rw [HNo.out j hj (by omega)]; simp⟩]
        clear hq
        generalize L[k] = f at *
        have HCA := Lib.hid hcall; clear hcall
        go_wp2_with (go_at_fn g; refine HCA.out.mono ?_; rintro e w1 ⟨rfl, hb1⟩; have HB1 := Lib.hid (HB.out.trans (hb1.mono HB.out.size)); clear hb1)
        go_ret
        exact ⟨ret_i64 HNN.out.symm, HB1.out⟩
    · have HNN : Hid (placeT L p = -1) := by
        show _ = _
        unfold placeT
        rw [show L.findIdx? p = none from List.findIdx?_eq_none_iff.2 fun x hx => by
          obtain ⟨j, hj, rfl⟩ := List.getElem_of_mem hx
          exact HNo.out j (by omega) (by omega)]
      go_wp2_with fail
      go_ret
      exact ⟨ret_i64 HNN.out.symm, HB.out⟩

theorem containsT_any (g : Nat) (eg : ∀ args w, (callFunc g args).run Try.prog w = .ok (.enter g args) w) (p : List UInt8 → Bool) (B : Nat)
    (hp : ∀ (x : List UInt8) (w : World), x.length ≤ B → Calls Try.prog g #[.string (bs x)] w fun e w' => e = .returned (.bool (p x)) ∧ Below w.heap.size w w')
    (v : Value) (L : List (List UInt8)) (w : World) (h : SL w v L) (hL : ∀ x ∈ L, x.length ≤ B) (hl : L.length ≤ 1048576) :
    Calls Try.prog 28 #[v, .func (.func g) #[] #[]] w fun e w' => e = .returned (.bool (L.any p)) ∧ Below w.heap.size w w' := by
  have HI := Lib.hid (indexT_any g eg p B hp v L w h hL hl)
  have HA := Lib.hid (placeT_any L p)
  obtain ⟨A, c, rfl⟩ := h.form
  clear h hL hp
  generalize placeT L p = q at *
  generalize L.any p = z at *
  go_enter Try.func28, Try.ntmps28
  go_wp2_with (go_at_call 50; refine HI.out.mono ?_; rintro e w1 ⟨rfl, hb1⟩; have HB1 := Lib.hid hb1; clear hb1)
  go_ret
  exact ⟨ret_bool HA.out, HB1.out⟩
end Go.Proofs.Ytmlgmpjbjbjaoaa
