/- The etag layer's functions: what a text is as an entity tag, and which are the same. -/
import Derived.Test.YtjbkjmceabilaaaDoorKTextT
import Derived.Test.YtjbkjmceabilaaaDoorKFieldsA
import Derived.Test.YtjbkjmceabilaaaDoorKEtag0
import Derived.Test.YtjbkjmceabilaaaDoorShelf
import Derived.Shelf.Abstract
import Derived.OwnWalk
namespace Go.Proofs.YtjbkjmceabilaaaDoor
open Go.RowKit Go.Shelf

theorem cutPreE_any (s p : List UInt8) (w : World) :
    Calls Tryd.prog 47 #[.string (bs s), .string (bs p)] w fun e w' => e = .returned (.tuple #[.string (bs (Lib.trimPrefix s p)), .bool (Lib.hasPrefix s p)]) ∧ w = w' := by
  refine (Tryd.strings_CutPrefix (bs s) (bs p) w).mono ?_
  rw [bs_data, bs_data]
  rintro e w' ⟨he, hw⟩
  exact ⟨he, hw.symm⟩
theorem cutSufE_any (s p : List UInt8) (w : World) (hs : s.length ≤ 9223372036854775807) :
    Calls Tryd.prog 48 #[.string (bs s), .string (bs p)] w fun e w' => e = .returned (.tuple #[.string (bs (Lib.trimSuffix s p)), .bool (Lib.hasSuffix s p)]) ∧ w = w' := by
  refine (Tryd.strings_CutSuffix (bs s) (bs p) w (by rw [bs_size]; exact hs)).mono ?_
  rw [bs_data, bs_data]
  rintro e w' ⟨he, hw⟩
  exact ⟨he, hw.symm⟩

theorem tgI_tests {n : Int} : (tgI n = true → decide (n ≤ 32) = false ∧ (n == 34) = false ∧ (n == 127) = false) ∧ (tgI n = false → decide (n ≤ 32) = true ∨ decide (n ≤ 32) = false ∧ ((n == 34) = true ∨ (n == 34) = false ∧ (n == 127) = true)) := by
  unfold tgI
  constructor
  · intro h
    have h := of_decide_eq_true h
    refine ⟨decide_eq_false (by omega), ?_, ?_⟩ <;> rw [beq_eq_false_iff_ne] <;> omega
  · intro h
    have h := of_decide_eq_false h
    by_cases h1 : n ≤ 32
    · exact .inl (decide_eq_true h1)
    · refine .inr ⟨decide_eq_false h1, ?_⟩
      by_cases h2 : n = 34
      · exact .inl (beq_iff_eq.2 h2)
      · exact .inr ⟨beq_eq_false_iff_ne.2 h2, beq_iff_eq.2 (by omega)⟩
def alE (l : List UInt8) : Bool := l.all tgB
theorem alE_def (l : List UInt8) : l.all tgB = alE l := rfl
set_option maxHeartbeats 400000 in
theorem tagBytes_any (s : ByteArray) (w : World) (hs : s.size ≤ 281474976710656) :
    Calls Tryd.prog 49 #[.string s] w fun e w' => e = .returned (.bool (alE s.data.toList)) ∧ w = w' := by
  go_enter Tryd.func49, Tryd.ntmps49
  go_wp2_with fail
  go_loop [7] (fun i => ∃ k : Nat, k ≤ s.size ∧ i = .int .i64 k ∧ Hid ((s.data.toList.take k).all tgB = true)) (fun i => s.size - (intOf i).toNat)
  case atStart => exact ⟨0, Nat.zero_le _, rfl, rfl⟩
  case round =>
    obtain ⟨k, hk, rfl, HT⟩ := hrel
    by_cases hlt : k < s.size
    · cases hb : tgB s[k]
      · have HA : Hid (alE s.data.toList = false) := all_not s tgB k hlt hb
        have hb' : tgI (s[k].toNat : Int) = false := hb
        rcases tgI_tests.2 hb' with h1 | ⟨h1, h2 | ⟨h2, h3⟩⟩
        all_goals
          clear hb hb'
          go_wp2_with fail
          go_ret
          exact ⟨ret_bool (by rw [HA.out]), rfl⟩
      · have HA : Hid ((s.data.toList.take (k + 1)).all tgB = true) := all_snoc s tgB k hlt HT.out hb
        have hb' : tgI (s[k].toNat : Int) = true := hb
        obtain ⟨h1, h2, h3⟩ := tgI_tests.1 hb'
        clear hb hb'
        go_wp2_with fail
        go_round
        case rel => exact ⟨k + 1, by omega, by go_num, HA.out⟩
        case measure => simp [intOf]; omega
    · have HA : Hid (alE s.data.toList = true) := by have h := HT.out; rw [take_all hlt] at h; exact h
      go_wp2_with fail
      go_ret
      exact ⟨ret_bool (by rw [HA.out]), rfl⟩

theorem ret_tagE {a b : Bool} {x y : List UInt8} {m n : Int} (h1 : a = b) (h2 : x = y) (h3 : m = n) : Ending.returned (.tuple #[.bool a, .string (bs x), .int .i64 m]) = .returned (.tuple #[.bool b, .string (bs y), .int .i64 n]) := by rw [h1, h2, h3]
set_option maxHeartbeats 1000000 in
theorem eparse_any (s : List UInt8) (w : World) (hs : s.length ≤ 281474976710656) :
    Calls Tryd.prog 23 #[.string (bs s)] w fun e w' => e = .returned (.tuple #[.bool (weE s), .string (bs (tagE s)), .int .i64 (erE s)]) ∧ Below w.heap.size w w' := by
  have l1 := bdE_len s
  have l2 := tgE_len (bdE s)
  have l3 : (rsE (bdE s)).length ≤ (bdE s).length := by unfold rsE Lib.trimPrefix; split <;> simp
  have c1 : ∀ w, Calls Tryd.prog 47 #[.string (bs s), .string ⟨#[87, 47]⟩] w fun e w' => e = .returned (.tuple #[.string (bs (bdE s)), .bool (wkE s)]) ∧ w = w' := fun w => cutPreE_any s [87, 47] w
  have c2 : ∀ w, Calls Tryd.prog 47 #[.string (bs (bdE s)), .string ⟨#[34]⟩] w fun e w' => e = .returned (.tuple #[.string (bs (rsE (bdE s))), .bool (Lib.hasPrefix (bdE s) [34])]) ∧ w = w' := fun w => cutPreE_any (bdE s) [34] w
  have c3 : ∀ w, Calls Tryd.prog 48 #[.string (bs (rsE (bdE s))), .string ⟨#[34]⟩] w fun e w' => e = .returned (.tuple #[.string (bs (tgE (bdE s))), .bool (Lib.hasSuffix (rsE (bdE s)) [34])]) ∧ w = w' := fun w => cutSufE_any (rsE (bdE s)) [34] w (by omega)
  have c4 := fun w => tagBytes_any (bs (tgE (bdE s))) w (by rw [bs_size]; omega)
  rw [bs_data] at c4
  have c5 := fun w => clone_any (bs (tgE (bdE s))) w (by rw [bs_size]; omega)
  have hq : isE s = (Lib.hasPrefix (bdE s) [34] && (Lib.hasSuffix (rsE (bdE s)) [34] && alE (tgE (bdE s)))) := rfl
  have ht : tagE s = if isE s then tgE (bdE s) else [] := rfl
  have hw : weE s = (isE s && wkE s) := rfl
  have hr : erE s = if isE s then 0 else 4 := rfl
  rw [ht, hw, hr, hq]
  clear ht hw hr hq l1 l2 l3 hs
  have C1 := Lib.hid c1; have C2 := Lib.hid c2; have C3 := Lib.hid c3; have C4 := Lib.hid c4; have C5 := Lib.hid c5
  clear c1 c2 c3 c4 c5
  generalize alE (tgE (bdE s)) = m at *
  generalize tgE (bdE s) = t at *
  generalize Lib.hasSuffix (rsE (bdE s)) [34] = c at *
  generalize rsE (bdE s) = r at *
  generalize Lib.hasPrefix (bdE s) [34] = o at *
  generalize bdE s = q at *
  generalize wkE s = k at *
  cases o
  · go_enter Tryd.func23, Tryd.ntmps23
    go_wp2_with fail
    refine (C1.out _).mono ?_
    rintro e w' ⟨rfl, rfl⟩
    go_wp2_with fail
    refine (C2.out _).mono ?_
    rintro e w' ⟨rfl, rfl⟩
    go_wp2_with fail
    refine (C3.out _).mono ?_
    rintro e w' ⟨rfl, rfl⟩
    go_wp2_with fail
    go_ret3
    exact ⟨rfl, Below.refl _ _⟩
  · cases c
    · go_enter Tryd.func23, Tryd.ntmps23
      go_wp2_with fail
      refine (C1.out _).mono ?_
      rintro e w' ⟨rfl, rfl⟩
      go_wp2_with fail
      refine (C2.out _).mono ?_
      rintro e w' ⟨rfl, rfl⟩
      go_wp2_with fail
      refine (C3.out _).mono ?_
      rintro e w' ⟨rfl, rfl⟩
      go_wp2_with fail
      go_ret3
      exact ⟨rfl, Below.refl _ _⟩
    · cases m
      · go_enter Tryd.func23, Tryd.ntmps23
        go_wp2_with fail
        refine (C1.out _).mono ?_
        rintro e w' ⟨rfl, rfl⟩
        go_wp2_with fail
        refine (C2.out _).mono ?_
        rintro e w' ⟨rfl, rfl⟩
        go_wp2_with fail
        refine (C3.out _).mono ?_
        rintro e w' ⟨rfl, rfl⟩
        go_wp2_with fail
        refine (C4.out _).mono ?_
        rintro e w' ⟨rfl, rfl⟩
        go_wp2_with fail
        go_ret3
        exact ⟨rfl, Below.refl _ _⟩
      · go_enter Tryd.func23, Tryd.ntmps23
        go_wp2_with fail
        refine (C1.out _).mono ?_
        rintro e w' ⟨rfl, rfl⟩
        go_wp2_with fail
        refine (C2.out _).mono ?_
        rintro e w' ⟨rfl, rfl⟩
        go_wp2_with fail
        refine (C3.out _).mono ?_
        rintro e w' ⟨rfl, rfl⟩
        go_wp2_with fail
        refine (C4.out _).mono ?_
        rintro e w' ⟨rfl, rfl⟩
        go_wp2_with fail
        refine (C5.out _).mono ?_
        rintro e w' ⟨rfl, hb⟩
        go_wp2_with fail
        go_ret3
        exact ⟨rfl, hb⟩

theorem weE_no {l : List UInt8} (h : isE l = false) : weE l = false := by unfold weE; rw [h]; rfl
theorem erE_eq (l : List UInt8) : (erE l == 0) = isE l ∧ (erE l != 0) = !isE l := by
  unfold erE
  cases isE l <;> exact ⟨rfl, rfl⟩
set_option maxHeartbeats 1000000 in
theorem ealike_any (a b : List UInt8) (w : World) (ha : a.length ≤ 281474976710656) (hb : b.length ≤ 281474976710656) :
    Calls Tryd.prog 24 #[.string (bs a), .string (bs b)] w fun e w' => e = .returned (.bool (weakE a b)) ∧ Below w.heap.size w w' := by
  have C1 := Lib.hid (fun w => eparse_any a w ha)
  have C2 := Lib.hid (fun w => eparse_any b w hb)
  have hq : weakE a b = (isE a && (isE b && (tagE a == tagE b))) := rfl
  rw [hq]
  obtain ⟨e1, -⟩ := erE_eq a
  obtain ⟨e2, -⟩ := erE_eq b
  clear hq ha hb
  generalize weE a = k1 at *
  generalize weE b = k2 at *
  generalize tagE a = t1 at *
  generalize tagE b = t2 at *
  generalize erE a = n1 at *
  generalize erE b = n2 at *
  generalize isE a = i1 at *
  generalize isE b = i2 at *
  have heq : ((bs t1).toList == (bs t2).toList) = (t1 == t2) := by rw [Lib.toList_data, Lib.toList_data, bs_data, bs_data]
  cases i1
  · go_enter Tryd.func24, Tryd.ntmps24
    go_wp2_with fail
    refine (C1.out _).mono ?_
    rintro e w1 ⟨rfl, hb⟩
    have HB1 := Lib.hid hb; clear hb
    go_wp2_with fail
    refine (C2.out _).mono ?_
    rintro e w2 ⟨rfl, hb⟩
    have HB2 := Lib.hid (HB1.out.trans (hb.mono HB1.out.size)); clear hb
    go_wp2_with fail
    go_ret
    exact ⟨rfl, HB2.out⟩
  · cases i2
    · go_enter Tryd.func24, Tryd.ntmps24
      go_wp2_with fail
      refine (C1.out _).mono ?_
      rintro e w1 ⟨rfl, hb⟩
      have HB1 := Lib.hid hb; clear hb
      go_wp2_with fail
      refine (C2.out _).mono ?_
      rintro e w2 ⟨rfl, hb⟩
      have HB2 := Lib.hid (HB1.out.trans (hb.mono HB1.out.size)); clear hb
      go_wp2_with fail
      go_ret
      exact ⟨rfl, HB2.out⟩
    · go_enter Tryd.func24, Tryd.ntmps24
      go_wp2_with fail
      refine (C1.out _).mono ?_
      rintro e w1 ⟨rfl, hb⟩
      have HB1 := Lib.hid hb; clear hb
      go_wp2_with fail
      refine (C2.out _).mono ?_
      rintro e w2 ⟨rfl, hb⟩
      have HB2 := Lib.hid (HB1.out.trans (hb.mono HB1.out.size)); clear hb
      go_wp2_with fail
      go_ret
      exact ⟨ret_bool (by rw [← heq]; simp), HB2.out⟩
theorem eweak_any (a b : List UInt8) (w : World) (ha : a.length ≤ 281474976710656) (hb : b.length ≤ 281474976710656) :
    Calls Tryd.prog 12 #[.string (bs a), .string (bs b)] w fun e w' => e = .returned (.bool (weakE a b)) ∧ Below w.heap.size w w' := by
  have C1 := Lib.hid (fun w => ealike_any a b w ha hb)
  go_enter Tryd.func12, Tryd.ntmps12
  go_wp2_with fail
  refine (C1.out _).mono ?_
  rintro e w1 ⟨rfl, hb⟩
  go_wp2_with fail
  go_ret
  exact ⟨rfl, hb⟩
set_option maxHeartbeats 1000000 in
theorem estrong_any (a b : List UInt8) (w : World) (ha : a.length ≤ 281474976710656) (hb : b.length ≤ 281474976710656) :
    Calls Tryd.prog 11 #[.string (bs a), .string (bs b)] w fun e w' => e = .returned (.bool (strongE a b)) ∧ Below w.heap.size w w' := by
  have C1 := Lib.hid (fun w => eparse_any a w ha)
  have C2 := Lib.hid (fun w => eparse_any b w hb)
  have C3 := Lib.hid (fun w => eweak_any a b w ha hb)
  have hq : strongE a b = (weakE a b && (!weE a && !weE b)) := rfl
  rw [hq]
  clear hq ha hb
  generalize weakE a b = q at *
  generalize weE a = k1 at *
  generalize weE b = k2 at *
  generalize tagE a = t1 at *
  generalize tagE b = t2 at *
  generalize erE a = n1 at *
  generalize erE b = n2 at *
  cases q
  · go_enter Tryd.func11, Tryd.ntmps11
    go_wp2_with fail
    refine (C1.out _).mono ?_
    rintro e w1 ⟨rfl, hb⟩
    have HB1 := Lib.hid hb; clear hb
    go_wp2_with fail
    refine (C2.out _).mono ?_
    rintro e w2 ⟨rfl, hb⟩
    have HB2 := Lib.hid (HB1.out.trans (hb.mono HB1.out.size)); clear hb
    go_wp2_with fail
    refine (C3.out _).mono ?_
    rintro e w3 ⟨rfl, hb⟩
    have HB3 := Lib.hid (HB2.out.trans (hb.mono HB2.out.size)); clear hb
    go_wp2_with fail
    go_ret
    exact ⟨rfl, HB3.out⟩
  · cases k1
    · go_enter Tryd.func11, Tryd.ntmps11
      go_wp2_with fail
      refine (C1.out _).mono ?_
      rintro e w1 ⟨rfl, hb⟩
      have HB1 := Lib.hid hb; clear hb
      go_wp2_with fail
      refine (C2.out _).mono ?_
      rintro e w2 ⟨rfl, hb⟩
      have HB2 := Lib.hid (HB1.out.trans (hb.mono HB1.out.size)); clear hb
      go_wp2_with fail
      refine (C3.out _).mono ?_
      rintro e w3 ⟨rfl, hb⟩
      have HB3 := Lib.hid (HB2.out.trans (hb.mono HB2.out.size)); clear hb
      go_wp2_with fail
      go_ret
      exact ⟨rfl, HB3.out⟩
    · go_enter Tryd.func11, Tryd.ntmps11
      go_wp2_with fail
      refine (C1.out _).mono ?_
      rintro e w1 ⟨rfl, hb⟩
      have HB1 := Lib.hid hb; clear hb
      go_wp2_with fail
      refine (C2.out _).mono ?_
      rintro e w2 ⟨rfl, hb⟩
      have HB2 := Lib.hid (HB1.out.trans (hb.mono HB1.out.size)); clear hb
      go_wp2_with fail
      refine (C3.out _).mono ?_
      rintro e w3 ⟨rfl, hb⟩
      have HB3 := Lib.hid (HB2.out.trans (hb.mono HB2.out.size)); clear hb
      go_wp2_with fail
      go_ret
      exact ⟨rfl, HB3.out⟩
theorem emalf_any (a : List UInt8) (w : World) (ha : a.length ≤ 281474976710656) :
    Calls Tryd.prog 27 #[.string (bs a)] w fun e w' => e = .returned (.bool (!isE a)) ∧ Below w.heap.size w w' := by
  have C1 := Lib.hid (fun w => eparse_any a w ha)
  obtain ⟨-, e2⟩ := erE_eq a
  clear ha
  generalize weE a = k1 at *
  generalize tagE a = t1 at *
  generalize erE a = n1 at *
  generalize isE a = i1 at *
  go_enter Tryd.func27, Tryd.ntmps27
  go_wp2_with fail
  refine (C1.out _).mono ?_
  rintro e w1 ⟨rfl, hb⟩
  have HB1 := Lib.hid hb; clear hb
  go_wp2_with fail
  go_ret
  exact ⟨ret_bool rfl, HB1.out⟩

theorem any_snocL {E : List (List UInt8)} {p : List UInt8 → Bool} {k : Nat} (h : k < E.length) (hp : (E.take k).any p = false) (hq : p E[k] = false) : (E.take (k + 1)).any p = false := by
  rw [List.take_succ_eq_append_getElem h, List.any_append, hp]; simp [hq]
theorem any_isL {E : List (List UInt8)} {p : List UInt8 → Bool} {k : Nat} (h : k < E.length) (hq : p E[k] = true) : E.any p = true := by
  rw [List.any_eq_true]
  exact ⟨E[k], List.getElem_mem h, hq⟩
theorem eMalf : ∀ args w, (callFunc 27 args).run Tryd.prog w = .ok (.enter 27 args) w := enters_of Tryd.func27 (by kernel_rfl) rfl
def anyE (E : List (List UInt8)) (p : List UInt8 → Bool) : Bool := E.any p
set_option maxRecDepth 100000 in
set_option maxHeartbeats 1000000 in
theorem someM_any (f : FuncId) (p : List UInt8 → Bool) (he : ∀ args w, (callFunc f args).run Tryd.prog w = .ok (.enter f args) w)
    (hp : ∀ (x : List UInt8) (w : World), x.length ≤ 281474976710656 → Calls Tryd.prog f #[.string (bs x)] w fun e w' => e = .returned (.bool (p x)) ∧ Below w.heap.size w w') (v : Value) (E : List (List UInt8)) (w : World)
    (h : SL w v E) (hE : ∀ s ∈ E, s.length ≤ 281474976710656) (hl : E.length ≤ 4294967296) :
    Calls Tryd.prog 26 #[v, .func (.func f) #[] #[]] w fun e w' => e = .returned (.bool (anyE E p)) ∧ Below w.heap.size w w' := by
  obtain ⟨A, c, rfl⟩ := h.form
  have HS := Lib.hid h; have HE := Lib.hid hE; have HP := Lib.hid hp
  clear h hE hp
  go_enter Tryd.func26, Tryd.ntmps26
  go_wp2_with fail
  go_loopw [9] (fun i wr => ∃ k : Nat, k ≤ E.length ∧ i = .int .i64 k ∧ (E.take k).any p = false ∧ Below w.heap.size w wr) (fun i _ => E.length - (intOf i).toNat)
  case atStart => exact ⟨0, Nat.zero_le _, rfl, rfl, Below.refl _ _⟩
  case round =>
    obtain ⟨k, hk, rfl, ht, hb⟩ := hrel
    have HT := Lib.hid ht; have HB := Lib.hid hb; clear ht hb
    by_cases hlt : k < E.length
    · obtain ⟨b, off, rfl, _, hc⟩ := (HS.out.bel HB.out).get k hlt
      have hf := HP.out E[k] wr (HE.out _ (List.getElem_mem hlt))
      cases hq : p E[k]
      · rw [hq] at hf
        have HR := Lib.hid (any_snocL hlt HT.out hq)
        have HF := Lib.hid hf; clear hf hq
        go_wp2_with (go_at_fn f; refine HF.out.mono ?_; rintro e w2 ⟨rfl, hb2⟩; have HB2 := Lib.hid (HB.out.trans (hb2.mono HB.out.size)); clear hb2)
        go_roundw
        case rel => exact ⟨k + 1, by omega, by go_num, HR.out, HB2.out⟩
        case measure => simp [intOf]; omega
      · rw [hq] at hf
        have HR : Hid (anyE E p = true) := any_isL hlt hq
        have HF := Lib.hid hf; clear hf hq
        go_wp2_with (go_at_fn f; refine HF.out.mono ?_; rintro e w2 ⟨rfl, hb2⟩; have HB2 := Lib.hid (HB.out.trans (hb2.mono HB.out.size)); clear hb2)
        go_ret
        exact ⟨ret_bool HR.out.symm, HB2.out⟩
    · have HR : Hid (anyE E p = false) := by
        have h := HT.out
        rw [List.take_of_length_le (by omega)] at h
        exact h
      go_wp2_with fail
      go_ret
      exact ⟨ret_bool HR.out.symm, HB.out⟩

theorem lsB_of {l : List UInt8} : (splitE l 44 ≠ 0 → lsB l = false) ∧ (splitL l 44 = [] → lsB l = false) ∧ (splitE l 44 = 0 → splitL l 44 ≠ [] → lsB l = !anyE (splitL l 44) (fun x => !isE x)) := by
  unfold lsB
  refine ⟨fun h => by rw [decide_eq_false h]; rfl, fun h => by rw [h]; simp, fun h h2 => ?_⟩
  rw [decide_eq_true h]
  have : (splitL l 44).isEmpty = false := by
    cases hs : splitL l 44 with
    | nil => exact absurd hs h2
    | cons x r => rfl
  rw [this]
  unfold anyE
  rw [List.not_any_eq_all_not]
  simp
/-- what is handed back by List -/
def ListPostE (l : List UInt8) (w : World) (e : Ending) (w' : World) : Prop :=
  ∃ v, e = .returned (.tuple #[v, .int .i64 (lsE l)]) ∧ ownS w' w.heap.size v (lsL l) ∧ Below w.heap.size w w'
theorem flat_memE {L : List (List UInt8)} {x : List UInt8} (h : x ∈ L) : x.length ≤ L.flatten.length := by
  induction L with
  | nil => cases h
  | cons y r ih =>
    rw [List.flatten_cons, List.length_append]
    rcases List.mem_cons.1 h with rfl | h
    · omega
    · have := ih h; omega
theorem split_flat (l : List UInt8) (sep : UInt8) : ∀ s ∈ splitL l sep, s.length ≤ l.length := fun _ hs => Nat.le_trans (flat_memE hs) (splitL_flat l sep)
set_option maxRecDepth 100000 in
set_option maxHeartbeats 1000000 in
theorem elist_any (l : List UInt8) (w : World) (hl : l.length ≤ 4294967296) :
    Calls Tryd.prog 13 #[.string (bs l)] w (ListPostE l w) := by
  have hs := split_any (bs l) 44 w (by rw [bs_size]; exact hl)
  unfold SplitPost at hs
  rw [bs_data] at hs
  obtain ⟨b1, b2, b3⟩ := lsB_of (l := l)
  have HF : Hid (∀ s ∈ splitL l 44, s.length ≤ 281474976710656) := fun s hs => by have := split_flat l 44 s hs; omega
  have HL : Hid ((splitL l 44).length ≤ 4294967296) := by have := splitL_len l 44; show _ ≤ _; omega
  have HS := Lib.hid hs; clear hs
  have hr : ∀ B, lsB l = B → lsE l = (if B then 0 else 4) ∧ lsL l = (if B then splitL l 44 else []) := fun B h => by unfold lsE lsL; rw [h]; exact ⟨rfl, rfl⟩
  have HR := Lib.hid hr; clear hr hl
  unfold ListPostE
  by_cases hE : splitE l 44 = 0
  · by_cases hN : splitL l 44 = []
    · obtain ⟨r1, r2⟩ := HR.out _ (b2 hN)
      rw [r1, r2]
      rw [hN, hE] at HS
      clear b1 b2 b3 r1 r2 hE hN HR HF HL
      go_enter Tryd.func13, Tryd.ntmps13
      go_wp2_with fail
      refine HS.out.mono ?_
      rintro e w1 ⟨v, rfl, ho, hb⟩
      obtain ⟨A, c, rfl⟩ := ho.form
      have HB1 := Lib.hid hb; clear hb ho
      go_wp2_with fail
      go_ret2
      exact ⟨_, rfl, ownS_nil _ _, HB1.out⟩
    · have b := b3 hE hN
      have hlen : ((splitL l 44).length == 0) = false := by rw [beq_eq_false_iff_ne]; intro h; exact hN (List.eq_nil_of_length_eq_zero h)
      have hlen2 : (((splitL l 44).length : Int) == 0) = false := by rw [beq_eq_false_iff_ne] at hlen ⊢; omega
      rw [hE] at HS
      have HM := Lib.hid (fun w v h => someM_any 27 (fun x => !isE x) eMalf (fun x w hx => emalf_any x w hx) v (splitL l 44) w h HF.out HL.out)
      obtain ⟨r1, r2⟩ := HR.out _ b
      rw [r1, r2]
      clear b1 b2 b3 b r1 r2 hE hN HR HF HL hlen
      generalize anyE (splitL l 44) (fun x => !isE x) = m at *
      generalize splitL l 44 = L at *
      go_enter Tryd.func13, Tryd.ntmps13
      go_wp2_with fail
      refine HS.out.mono ?_
      rintro e w1 ⟨v, rfl, ho, hb⟩
      obtain ⟨A, c, rfl⟩ := ho.form
      have HB1 := Lib.hid hb; have HO1 := Lib.hid ho; clear hb ho
      go_wp2_with fail
      refine (HM.out _ _ HO1.out.sl).mono ?_
      cases m
      · rintro e w2 ⟨rfl, hb⟩
        have HB2 := Lib.hid (HB1.out.trans (hb.mono HB1.out.size)); have HO2 := Lib.hid (HO1.out.bel hb); clear hb HO1 HB1
        go_wp2_with fail
        go_ret2
        exact ⟨_, rfl, HO2.out, HB2.out⟩
      · rintro e w2 ⟨rfl, hb⟩
        have HB2 := Lib.hid (HB1.out.trans (hb.mono HB1.out.size)); clear hb HO1 HB1
        go_wp2_with fail
        go_ret2
        exact ⟨_, rfl, ownS_nil _ _, HB2.out⟩
  · obtain ⟨r1, r2⟩ := HR.out _ (b1 hE)
    rw [r1, r2]
    have hne : (splitE l 44 == 0) = false := beq_eq_false_iff_ne.2 hE
    have hne2 : (splitE l 44 != 0) = true := by rw [bne, hne]; rfl
    clear b1 b2 b3 r1 r2 hE HR HF HL
    generalize splitE l 44 = n at *
    generalize splitL l 44 = L at *
    go_enter Tryd.func13, Tryd.ntmps13
    go_wp2_with fail
    refine HS.out.mono ?_
    rintro e w1 ⟨v, rfl, ho, hb⟩
    obtain ⟨A, c, rfl⟩ := ho.form
    have HB1 := Lib.hid hb; clear hb ho
    go_wp2_with fail
    go_ret2
    exact ⟨_, rfl, ownS_nil _ _, HB1.out⟩
end Go.Proofs.YtjbkjmceabilaaaDoor
