/- What the statements ask of their lists, and the small thing that one knows: few, copied, some, reads, fails, works. -/
import Derived.Test.YtilaalfehnngcaaDoorFieldsU
import Derived.Test.YtilaalfehnngcaaDoorFieldsW
import Derived.Lib.AppendZeros
namespace Go.Proofs.YtilaalfehnngcaaDoor
open Go.RowKit

theorem sizeL_step {l : List Fld} {k : Nat} (h : k < l.length) : sizeL (l.take (k + 1)) = sizeL (l.take k) + (l[k].1.length + l[k].2.length) := by
  rw [List.take_succ_eq_append_getElem h, sizeL_append]; simp [sizeL]
theorem sizeL_take (l : List Fld) (k : Nat) : sizeL (l.take k) ≤ sizeL l := by
  have h : sizeL l = sizeL (l.take k) + sizeL (l.drop k) := by rw [← sizeL_append, List.take_append_drop]
  omega

set_option maxHeartbeats 2000000 in
set_option maxRecDepth 100000 in
theorem few_any (v : Value) (l : List Fld) (w : World) (h : FL w v l) (hs : ∀ j (hj : j < l.length), l[j].1.length ≤ 9223372036854775807 ∧ l[j].2.length ≤ 9223372036854775807) (hl : l.length ≤ 9223372036854775807) :
    Calls Tryd.prog 6 #[v] w fun e w' => e = .returned (.bool (fewB l)) ∧ Below w.heap.size w w' := by
  obtain ⟨A, c, rfl⟩ := h.form
  have HF := Lib.hid h; clear h
  by_cases h80 : 80 < l.length
  · have HR : Hid (fewB l = false) := by show _ = _; unfold fewB; rw [decide_eq_false (by omega)]; rfl
    have h80' : (80 : Int) < (l.length : Int) := by omega
    go_enter Tryd.func6, Tryd.ntmps6
    go_wp2_with fail
    go_ret
    exact ⟨ret_bool HR.out.symm, Below.refl _ _⟩
  · have h80' : ¬ (80 : Int) < (l.length : Int) := by omega
    go_enter Tryd.func6, Tryd.ntmps6
    go_wp2_with fail
    go_loopw [3, 4] (fun a i wr => ∃ (k : Nat) (L : Int), k ≤ l.length ∧ i = .int .i64 k ∧ a = .int .i64 L ∧ 0 ≤ L ∧ L ≤ 12000 ∧ L + (sizeL (l.take k) : Int) = 12000 ∧ Below w.heap.size w wr) (fun _ i _ => l.length - (intOf i).toNat)
    case atStart => exact ⟨0, 12000, Nat.zero_le _, rfl, rfl, by omega, by omega, rfl, Below.refl _ _⟩
    case round =>
      obtain ⟨k, L, hk, rfl, rfl, hL0, hL1, hsum, hb⟩ := hrel
      have HB := Lib.hid hb; have HSum := Lib.hid hsum; clear hb hsum
      by_cases hlt : k < l.length
      · have hki : (k : Int) < (l.length : Int) := by omega
        obtain ⟨b, off, rfl, hbb, hc1, hc2⟩ := (HF.out.bel HB.out).get k hlt
        obtain ⟨s1, s2⟩ := hs k hlt
        have hst := sizeL_step hlt
        have hle := sizeL_take l (k + 1)
        rw [hst] at hle
        have HST := Lib.hid hst; have HLE := Lib.hid hle; clear hst hle
        generalize l[k] = f at *
        obtain ⟨n, x⟩ := f; simp only at s1 s2 hc1 hc2
        have HST2 : Hid (sizeL (l.take (k + 1)) = sizeL (l.take k) + (n.length + x.length)) := HST.out
        have HLE2 : Hid (sizeL (l.take k) + (n.length + x.length) ≤ sizeL l) := HLE.out
        clear HST HLE
        have hsz1 : (bs n).size = n.length := bs_size n
        have hsz2 : (bs x).size = x.length := bs_size x
        have HZ1 := Lib.hid hsz1; have HZ2 := Lib.hid hsz2; clear hsz1 hsz2
        by_cases h1 : L < (n.length : Int)
        · have HR : Hid (fewB l = false) := by
            show _ = _; unfold fewB
            rw [decide_eq_false (p := sizeL l ≤ 12000) (by have := HLE2.out; have := HSum.out; omega), Bool.and_false]
          have hd : decide (L < (n.length : Int)) = true := decide_eq_true h1
          clear h1
          go_wp2_with fail
          go_quiet (fail)
          go_wp2_with fail
          go_ret
          exact ⟨ret_bool HR.out.symm, below_dn HB.out _⟩
        · have hd : decide (L < (n.length : Int)) = false := decide_eq_false h1
          have hge : (n.length : Int) ≤ L := by omega
          by_cases h2 : L - (n.length : Int) < (x.length : Int)
          · have HR : Hid (fewB l = false) := by
              show _ = _; unfold fewB
              rw [decide_eq_false (p := sizeL l ≤ 12000) (by have := HLE2.out; have := HSum.out; omega), Bool.and_false]
            have hd2 : decide (L - (n.length : Int) < (x.length : Int)) = true := decide_eq_true h2
            clear h1
            go_wp2_with fail
            go_quiet (fail)
            go_wp2_with fail
            go_ret
            exact ⟨ret_bool HR.out.symm, below_dn HB.out _⟩
          · have hd2 : decide (L - (n.length : Int) < (x.length : Int)) = false := decide_eq_false h2
            have hge2 : (x.length : Int) ≤ L - (n.length : Int) := by omega
            have HS2 : Hid (L - (n.length : Int) - (x.length : Int) + (sizeL (l.take (k + 1)) : Int) = 12000) := by have h3 := HST2.out; have h4 := HSum.out; show _ = _; omega
            clear h1 h2
            go_wp2_with fail
            go_quiet (fail)
            go_wp2_with fail
            go_quiet (fail)
            go_wp2_with fail
            go_roundw
            case rel => exact ⟨k + 1, L - (n.length : Int) - (x.length : Int), by omega, by go_num, rfl, by omega, by omega, HS2.out, below_dn HB.out _⟩
            case measure => simp [intOf]; omega
      · have HR : Hid (fewB l = true) := by
          have h3 := HSum.out
          rw [List.take_of_length_le (by omega)] at h3
          show _ = _; unfold fewB
          rw [decide_eq_true (p := l.length ≤ 80) (by omega), decide_eq_true (p := sizeL l ≤ 12000) (by omega)]; rfl
        go_wp2_with fail
        go_ret
        exact ⟨ret_bool HR.out.symm, HB.out⟩
theorem few_small {l : List Fld} (h : fewB l = true) : l.length ≤ 80 ∧ sizeL l ≤ 12000 ∧ smallF l := by
  unfold fewB at h
  rw [Bool.and_eq_true, decide_eq_true_eq, decide_eq_true_eq] at h
  refine ⟨h.1, h.2, fun j hj => ?_⟩
  have := sizeL_mem (List.getElem_mem hj)
  omega

theorem FL.src {w : World} {ad : Addr} {n c : Nat} {l : List Fld} (h : FL w (.slice (some ad) n c) l) : ∀ j u, (fcs l)[j]? = some u → w.cell? (ad.add j) = some u := by
  intro j u hu
  have hj : j < l.length * 2 := by have := (List.getElem?_eq_some_iff.1 hu).1; rw [fcs_len] at this; exact this
  obtain ⟨b, off, he, _, h1, h2⟩ := h.get (j / 2) (by omega)
  obtain rfl := Option.some.inj he
  obtain ⟨f1, f2⟩ := fcs_at l (j / 2) (by omega)
  rw [Addr.add_lit]
  rcases Nat.mod_two_eq_zero_or_one j with hm | hm
  · have e : j = j / 2 * 2 := by omega
    rw [e] at hu ⊢
    rw [f1] at hu
    rw [h1]; exact hu
  · have e : j = j / 2 * 2 + 1 := by omega
    rw [e] at hu ⊢
    rw [f2] at hu
    rw [← Nat.add_assoc, h2]; exact hu
theorem app_none (ty : TypeId) (c : Nat) (w : World) : (Builtin.append_ #[22, 22] ty #[.slice none 0 0, .slice none 0 c]).run Tryd.prog w = .ok (.slice none 0 0) w := by
  obtain ⟨i0, hi, hz0, hz1, hz2⟩ := info_parts infoF
  simp [Builtin.append_, run_underlying Tryd.underlying22, sizeOf, typeInfo, hi, Builtin.lenOf, Builtin.firstCells]

set_option maxHeartbeats 1000000 in
set_option maxRecDepth 100000 in
theorem copiedL_any (v : Value) (l : List Fld) (w : World) (h : FL w v l) (hl : l.length ≤ 1048576) :
    Calls Tryd.prog 8 #[v] w (RetF w l) := by
  obtain ⟨i0, hi, hz0, hz1, hz2⟩ := info_parts infoF
  obtain ⟨A, c, rfl⟩ := h.form
  cases A with
  | none =>
    have h0 : l = [] := by
      rcases h with ⟨h0, _⟩ | ⟨b, off, c', hv, _⟩
      · exact h0
      · simp at hv
    subst h0
    have hr := fun ty => app_none ty c w
    go_enter Tryd.func8, Tryd.ntmps8
    go_wp2_with (at_builtin; refine Lib.wpList_append_run _ rfl (.tmp 4) (.tmp 5) 22 22 rfl _ _ rfl rfl _ _ (hr _) ?_)
    go_ret
    exact ⟨_, rfl, ownF_nil _ _, Below.refl _ _⟩
  | some ad =>
    have HS := Lib.hid h.src; clear h
    go_enter Tryd.func8, Tryd.ntmps8
    go_wp2_with (at_builtin; refine wpList_append_own _ rfl (.tmp 4) (.tmp 5) 22 rfl w.heap.size 44 i0 (.agg #[.string ⟨#[]⟩, .string ⟨#[]⟩]) 2 32 Tryd.underlying22 hi hz0 hz1 hz2 rfl (by decide) _ 0 [] rfl (World.ownsRow_nil _ _ _ _) ad l.length c (fcs l) rfl (fcs_len l) HS.out (fcs_one l) (by unfold maxLen; omega) (by omega) (Nat.le_refl _) ?_; intro v' w' h1 h2 _)
    go_ret
    rw [Nat.zero_add, List.nil_append] at h1
    exact ⟨_, rfl, h1, (Below.refl _ _).grown h2 (Nat.le_refl _) (fun k hk => by cases (show (none : Option Nat) = some k from hk))⟩

def someL : List Fld := [([65], [98]), ([120], [121]), ([97], [99])]
set_option maxRecDepth 100000 in
theorem some_any (w : World) : Calls Tryd.prog 21 #[] w fun e w' => ∃ v', e = .returned v' ∧ FL w' v' someL ∧ Below w.heap.size w w' := by
  go_enter Tryd.func21, Tryd.ntmps21
  go_wp2_with fail
  go_ret
  refine ⟨_, rfl, ?_, (Below.refl _ _).alloc (Nat.le_refl _) _⟩
  refine .inr ⟨w.heap.size, 0, 3, rfl, by simp, fun j hj => ?_⟩
  have hh := heap_alloc_new w (.cells (fcs someL).toArray 44)
  rw [Nat.zero_add]
  obtain ⟨f1, f2⟩ := fcs_at someL j hj
  have e1 := cell_of_row _ w.heap.size (j * 2) _ _ _ hh
  have e2 := cell_of_row _ w.heap.size (j * 2 + 1) _ _ _ hh
  rw [List.getElem?_toArray] at e1 e2
  exact ⟨e1.trans f1, e2.trans f2⟩
end Go.Proofs.YtilaalfehnngcaaDoor
