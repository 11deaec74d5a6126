/- The document's budget: where a key stands, what is told, what is dropped. -/
import Derived.Test.YtfjdfdobeiblhaaBudR
import Derived.Test.YtfjdfdobeiblhaaTxts
import Derived.BigQuiet
import Derived.Deep.QuietTactic
import Derived.Deep.LoopGhost
import Derived.WalkMore
namespace Go.Proofs.Ytfjdfdobeiblhaa
open Go.RowKit
def atK (k : List UInt8) : List (It Int) → Int
  | [] => -1
  | y :: r => if y.1 = k then 0 else if atK k r < 0 then -1 else atK k r + 1
theorem atK_found {k : List UInt8} {y : It Int} {zs : List (It Int)} (hy : y.1 = k) : ∀ {xs : List (It Int)}, k ∉ keysK xs → atK k (xs ++ y :: zs) = xs.length
  | [], _ => by show (if y.1 = k then (0 : Int) else _) = _; rw [if_pos hy]; rfl
  | x :: r, h => by
    rw [show keysK (x :: r) = x.1 :: keysK r from rfl, List.mem_cons, not_or] at h
    show (if x.1 = k then (0 : Int) else if atK k (r ++ y :: zs) < 0 then -1 else atK k (r ++ y :: zs) + 1) = _
    rw [if_neg (Ne.symm h.1), atK_found hy h.2, if_neg (by omega)]
    simp
theorem atK_none {k : List UInt8} : ∀ {l : List (It Int)}, k ∉ keysK l → atK k l = -1
  | [], _ => rfl
  | x :: r, h => by
    rw [show keysK (x :: r) = x.1 :: keysK r from rfl, List.mem_cons, not_or] at h
    show (if x.1 = k then (0 : Int) else if atK k r < 0 then -1 else atK k r + 1) = _
    rw [if_neg (Ne.symm h.1), atK_none h.2]
    rfl
theorem take_keys {l : List (It Int)} {j : Nat} (hj : j < l.length) {k : List UInt8} (h : k ∉ keysK (l.take j)) (hn : l[j].1 ≠ k) : k ∉ keysK (l.take (j + 1)) := by
  rw [List.take_succ_eq_append_getElem hj, keysK_append, List.mem_append, not_or]
  exact ⟨h, by simp [keysK]; exact fun e => hn e.symm⟩
theorem totK_take {l : List (It Int)} {j : Nat} (hj : j < l.length) : totK (l.take (j + 1)) = totK (l.take j) + l[j].2.1 := by
  rw [List.take_succ_eq_append_getElem hj, totK_append]; rfl
section
variable {w : World} {rb n m : Nat} {v : Value} {l : List (It Int)}
set_option maxRecDepth 100000 in
set_option maxHeartbeats 1000000 in
theorem rat_any (k : List UInt8) (hr : bk w rb #[.int .i64 n, .int .i64 m, v]) (hv : OL w v l) (hl : l.length ≤ 1000000) :
    Calls Try.prog 50 #[.pointer (some ⟨rb, 0, none⟩), .string (bs k)] w fun e w' => e = .returned (.int .i64 (atK k l)) ∧ w = w' := by
  obtain ⟨A, c, rfl⟩ := hv.form
  have c2 := hr.cell 2 (.slice A l.length c) rfl
  have HV := Lib.hid hv
  clear hr hv
  go_enter Try.func50, Try.ntmps50
  go_wp2_with fail
  go_loopw [5] (fun i wr => ∃ j : Nat, j ≤ l.length ∧ i = .int .i64 j ∧ wr = w ∧ Hid (k ∉ keysK (l.take j))) (fun i _ => l.length - (intOf i).toNat)
  case atStart => exact ⟨0, Nat.zero_le _, rfl, rfl, by show _ ∉ _; simp [keysK]⟩
  case round =>
    obtain ⟨j, hj, rfl, rfl, HK⟩ := hrel
    by_cases hlt : j < l.length
    · have hji : (j : Int) < (l.length : Int) := by omega
      obtain ⟨g, off, rfl, -, d0, -, -⟩ := HV.out.get j hlt
      by_cases he : l[j].1 = k
      · have HA : Hid (atK k l = (j : Int)) := by
          have e : l = l.take j ++ l[j] :: l.drop (j + 1) := by conv => lhs; rw [← List.take_append_drop j l, List.drop_eq_getElem_cons hlt]
          show _ = _
          conv => lhs; rw [e]
          rw [atK_found he HK.out, List.length_take, Nat.min_eq_left (by omega)]
        have hq : ((bs l[j].1).toList == (bs k).toList) = true := by rw [he]; simp
        clear he
        generalize bs l[j].1 = xa at *
        generalize bs k = xb at *
        go_wp2_with fail
        go_ret
        rw [HA.out]; exact ⟨rfl, rfl⟩
      · have hq : ((bs l[j].1).toList == (bs k).toList) = false := by rw [beq_eq_false_iff_ne, Lib.toList_data, Lib.toList_data, bs_data, bs_data]; exact he
        have HK2 := Lib.hid (take_keys hlt HK.out he)
        clear he
        generalize bs l[j].1 = xa at *
        generalize bs k = xb at *
        go_wp2_with fail
        go_roundw
        case rel => exact ⟨j + 1, by omega, by go_num, trivial, HK2.out⟩
        case measure => simp [intOf]; omega
    · have hji : ¬ (j : Int) < (l.length : Int) := by omega
      have HA : Hid (atK k l = -1) := atK_none (by have := HK.out; rwa [List.take_of_length_le (by omega)] at this)
      go_wp2_with fail
      go_ret
      rw [HA.out]; exact ⟨rfl, rfl⟩
set_option maxRecDepth 100000 in
set_option maxHeartbeats 1000000 in
theorem rbytes_any (hr : bk w rb #[.int .i64 n, .int .i64 m, v]) (hv : OL w v l) (hl : l.length ≤ 1000000) (ht : totK l ≤ 4294967296) :
    Calls Try.prog 12 #[.pointer (some ⟨rb, 0, none⟩)] w fun e w' => e = .returned (.int .i64 (totK l : Int)) ∧ w = w' := by
  obtain ⟨A, c, rfl⟩ := hv.form
  have c2 := hr.cell 2 (.slice A l.length c) rfl
  have HV := Lib.hid hv
  have HT := Lib.hid ht
  clear hr hv ht
  go_enter Try.func12, Try.ntmps12
  go_wp2_with fail
  go_loopw [4, 3] (fun i s wr => ∃ j : Nat, j ≤ l.length ∧ i = .int .i64 j ∧ wr = w ∧ s = .int .i64 (totK (l.take j) : Int)) (fun i _ _ => l.length - (intOf i).toNat)
  case atStart => exact ⟨0, Nat.zero_le _, rfl, rfl, rfl⟩
  case round =>
    obtain ⟨j, hj, rfl, rfl, rfl⟩ := hrel
    by_cases hlt : j < l.length
    · have hji : (j : Int) < (l.length : Int) := by omega
      obtain ⟨g, off, rfl, -, -, d1, -⟩ := HV.out.get j hlt
      have HS : Hid (totK (l.take (j + 1)) = totK (l.take j) + l[j].2.1) := totK_take hlt
      have hw : IntKind.i64.wrap ((totK (l.take j) : Int) + (l[j].2.1 : Int)) = ((totK (l.take j) + l[j].2.1 : Nat) : Int) := by
        have h1 := totK_sub (List.take_sublist (j + 1) l)
        have h2 := HT.out
        rw [HS.out] at h1
        rw [IntKind.wrap_i64]; omega
      rw [← HS.out] at hw
      generalize HT2 : (totK (l.take (j + 1)) : Int) = t2 at *
      have HT2 := HT2.symm
      generalize (totK (l.take j) : Int) = t1 at *
      generalize (l[j].2.1 : Int) = t0 at *
      clear HS
      have HH : Hid (t2 = (totK (l.take (j + 1)) : Int)) := HT2
      clear HT2
      go_wp2_with fail
      go_roundw
      case rel => exact ⟨j + 1, by omega, by go_num, trivial, by rw [HH.out]⟩
      case measure => simp [intOf]; omega
    · have hji : ¬ (j : Int) < (l.length : Int) := by omega
      have HE : Hid (l.take j = l) := List.take_of_length_le (by omega)
      go_wp2_with fail
      go_ret
      rw [HE.out]; exact ⟨rfl, rfl⟩
/-- the document's keys -/
theorem rkeys_any {X : Nat → Prop} (h : RB w rb X n m l) (hl : l.length ≤ 1000000) :
    Calls Try.prog 15 #[.pointer (some ⟨rb, 0, none⟩)] w fun e w' => ∃ v, e = .returned v ∧ ownS w' w.heap.size v (keysK l) ∧ Below w.heap.size w w' := by
  obtain ⟨v, hr, hv, -, -⟩ := h
  obtain ⟨A, c, rfl⟩ := hv.form
  have c2 := hr.cell 2 (.slice A l.length c) rfl
  have HV := Lib.hid hv; have HR := Lib.hid hr
  clear hr hv
  go_enter Try.func15, Try.ntmps15
  go_wp2_with fail
  clear c2
  go_loopw [4, 3] (fun i o wr => ∃ j : Nat, j ≤ l.length ∧ i = .int .i64 j ∧ Hid (ownS wr w.heap.size o (keysK (l.take j)) ∧ Below w.heap.size w wr)) (fun i _ _ => l.length - (intOf i).toNat)
  case atStart => exact ⟨0, Nat.zero_le _, rfl, ownS_nil _ _, Below.refl _ _⟩
  case round =>
    obtain ⟨j, hj, rfl, hq⟩ := hrel
    have HO := Lib.hid hq.out.1; have HB := Lib.hid hq.out.2
    have c2 := (HR.out.below HB.out).cell 2 (.slice A l.length c) rfl
    clear hq
    by_cases hlt : j < l.length
    · have hji : (j : Int) < (l.length : Int) := by omega
      obtain ⟨g, off, rfl, -, d0, -, -⟩ := (HV.out.keep (fun g hg => HB.out.block g (HV.out.lt g hg))).get j hlt
      have HKS : Hid (keysK (l.take (j + 1)) = keysK (l.take j) ++ [l[j].1]) := by show _ = _; rw [List.take_succ_eq_append_getElem hlt, keysK_append]; rfl
      have HAX : Hid ((keysK (l.take j)).length + 1 ≤ 4294967296) := by show _ ≤ _; simp [keysK]; omega
      generalize keysK (l.take j) = acc at *
      generalize l[j].1 = key at *
      obtain ⟨Ao, co, rfl⟩ := HO.out.form
      go_wp2_with (at_builtin; refine wpList_appS (w0 := w) rfl (.tmp 14) (.tmp 23) rfl w.heap.size w.heap.size _ acc key rfl HO.out HB.out (Nat.le_refl _) HB.out.size rfl HAX.out ?_; intro v' w3 HO3 HB3 HK3; clear HK3)
      go_roundw
      case rel => exact ⟨j + 1, by omega, by go_num, by rw [HKS.out]; exact HO3.out, HB3.out⟩
      case measure => simp [intOf]; omega
    · have hji : ¬ (j : Int) < (l.length : Int) := by omega
      have HE : Hid (l.take j = l) := List.take_of_length_le (by omega)
      go_wp2_with fail
      go_ret
      exact ⟨_, rfl, by have := HO.out; rwa [HE.out] at this, HB.out⟩
end
end Go.Proofs.Ytfjdfdobeiblhaa
