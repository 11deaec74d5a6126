/- What the document's own functions tell of names: has, Values, Del, Set; lists held against each other. -/
import Derived.Test.YtnhkebbmgiokbaaDoorFieldsG
import Derived.Test.YtnhkebbmgiokbaaDoorFieldsP
namespace Go.Proofs.YtnhkebbmgiokbaaDoor
open Go.RowKit

theorem beq_bs (a b : List UInt8) : ((bs a).toList == (bs b).toList) = (a == b) := by rw [Lib.toList_data, Lib.toList_data, bs_data, bs_data]
def LowR (x lx : List UInt8) : Prop := ∀ w : World, Calls Tryd.prog 38 #[.string (bs x)] w fun e w' => e = .returned (.string (bs lx)) ∧ Below w.heap.size w w'
theorem lowR (x : List UInt8) (h : x.length ≤ 4294967296) : LowR x (lower x) := fun w => rlower_l x w (by omega)


theorem vals_step {l : List Fld} {n : List UInt8} {k : Nat} (h : k < l.length) : valsL (l.take (k + 1)) n = if (lower l[k].1 == lower n) then valsL (l.take k) n ++ [l[k].2] else valsL (l.take k) n := by
  rw [List.take_succ_eq_append_getElem h]
  unfold valsL
  rw [List.filter_append, List.map_append]
  cases hs : (lower l[k].1 == lower n) <;> simp [sameN, hs]

set_option maxHeartbeats 1000000 in
set_option maxRecDepth 100000 in
theorem rvalues_any (v : Value) (l : List Fld) (n : List UInt8) (w : World) (h : FL w v l) (hs : smallF l) (hl : l.length ≤ 1048576) (hn : n.length ≤ 4294967296) :
    Calls Tryd.prog 36 #[v, .string (bs n)] w (RetS w (valsL l n)) := by
  obtain ⟨A, c, rfl⟩ := h.form
  have HF := Lib.hid h; clear h
  have HN : Hid (LowR n (lower n)) := lowR n hn
  go_enter Tryd.func36, Tryd.ntmps36
  go_wp2_with fail
  go_loopw [5, 6] (fun o i wr => ∃ k : Nat, k ≤ l.length ∧ i = .int .i64 k ∧ ownS wr w.heap.size o (valsL (l.take k) n) ∧ Below w.heap.size w wr) (fun _ i _ => l.length - (intOf i).toNat)
  case atStart => exact ⟨0, Nat.zero_le _, rfl, ownS_nil _ _, Below.refl _ _⟩
  case round =>
    obtain ⟨k, hk, rfl, ho, hb⟩ := hrel
    have HO := Lib.hid ho; have HB := Lib.hid hb; clear ho hb
    by_cases hlt : k < l.length
    · obtain ⟨b, off, rfl, hbb, hcw1, hcw2⟩ := HF.out.get k hlt
      have hc1 := (HB.out.cell (p := ⟨b, off + k * 2, none⟩) hbb).trans hcw1
      obtain ⟨s1, s2⟩ := hs k hlt
      have HT := Lib.hid (vals_step (n := n) hlt)
      have HLn : Hid ((valsL (l.take k) n).length + 1 ≤ 4294967296) := by
        have h1 := vals_len (l.take k) n
        have h2 : (l.take k).length ≤ l.length := List.length_take_le' _ _
        show _ ≤ _; omega
      clear hcw1
      have HCW2 := Lib.hid hcw2; clear hcw2
      generalize l[k] = f at *
      obtain ⟨x, y⟩ := f; simp only at s1 s2 hc1
      have HX : Hid (LowR x (lower x)) := lowR x s1
      have HCY : Hid (w.cell? ⟨b, off + k * 2 + 1, none⟩ = some (.string (bs y))) := HCW2.out
      have HTT : Hid (valsL (l.take (k + 1)) n = if (lower x == lower n) then valsL (l.take k) n ++ [y] else valsL (l.take k) n) := HT.out
      clear HT HCW2
      generalize lower x = lx at *
      generalize lower n = ln at *
      generalize valsL (l.take k) n = acc at *
      cases hq : (lx == ln)
      · have hq2 : ((bs lx).toList == (bs ln).toList) = false := by rw [beq_bs]; exact hq
        have HR : Hid (valsL (l.take (k + 1)) n = acc) := by have h := HTT.out; rw [hq] at h; exact h
        clear hq HTT
        go_wp2_with fail
        refine (HX.out _).mono ?_; rintro e w1 ⟨rfl, hb1⟩
        have HB1 := Lib.hid (HB.out.trans (hb1.mono HB.out.size)); have HO1 := Lib.hid (HO.out.bel hb1); clear hb1
        go_wp2_with fail
        refine (HN.out _).mono ?_; rintro e w2 ⟨rfl, hb2⟩
        have HB2 := Lib.hid (HB1.out.trans (hb2.mono HB1.out.size)); have HO2 := Lib.hid (HO1.out.bel hb2); clear hb2
        go_wp2_with fail
        go_roundw
        case rel => exact ⟨k + 1, by omega, by go_num, by rw [HR.out]; exact HO2.out, HB2.out⟩
        case measure => simp [intOf]; omega
      · have hq2 : ((bs lx).toList == (bs ln).toList) = true := by rw [beq_bs]; exact hq
        have HR : Hid (valsL (l.take (k + 1)) n = acc ++ [y]) := by have h := HTT.out; rw [hq] at h; exact h
        clear hq HTT
        go_wp2_with fail
        refine (HX.out _).mono ?_; rintro e w1 ⟨rfl, hb1⟩
        have HB1 := Lib.hid (HB.out.trans (hb1.mono HB.out.size)); have HO1 := Lib.hid (HO.out.bel hb1); clear hb1
        go_wp2_with fail
        refine (HN.out _).mono ?_; rintro e w2 ⟨rfl, hb2⟩
        have HB2 := Lib.hid (HB1.out.trans (hb2.mono HB1.out.size)); have HO2 := Lib.hid (HO1.out.bel hb2); clear hb2
        have hc2 := (HB2.out.cell (p := ⟨b, off + k * 2 + 1, none⟩) hbb).trans HCY.out
        go_wp2_with (at_builtin; refine wpList_appS rfl (.tmp 22) (.tmp 28) rfl w.heap.size w.heap.size _ _ y rfl HO2.out HB2.out (Nat.le_refl _) HB2.out.size rfl HLn.out ?_; intro v' w' HO3 HB3 _)
        go_roundw
        case rel => exact ⟨k + 1, by omega, by go_num, by rw [HR.out]; exact HO3.out, HB3.out⟩
        case measure => simp [intOf]; omega
    · have HR : Hid (valsL (l.take k) n = valsL l n) := by show _ = _; rw [List.take_of_length_le (by omega)]
      go_wp2_with fail
      go_ret
      exact ⟨_, rfl, by rw [← HR.out]; exact HO.out, HB.out⟩

theorem del_step {l : List Fld} {L : List (List UInt8)} {k : Nat} (h : k < l.length) : delL (l.take (k + 1)) L = if hasN L l[k].1 then delL (l.take k) L else delL (l.take k) L ++ [l[k]] := by
  rw [List.take_succ_eq_append_getElem h]
  unfold delL
  rw [List.filter_append]
  cases hs : hasN L l[k].1 <;> simp [hs]

end Go.Proofs.YtnhkebbmgiokbaaDoor
