/- Entity tags, plainly: what a text is as one, by the program's steps and by the document's; which are the same; lists of them. Nothing of the program is read here. -/
import Derived.Test.YtfobjaccpnondaaGreatDoorCuts
import Derived.Test.YtfobjaccpnondaaGreatDoorKFieldsA
import Derived.Test.YtfobjaccpnondaaGreatDoorKPlain
import Derived.Test.YtfobjaccpnondaaGreatDoorKTextT
import Derived.Test.YtfobjaccpnondaaGreatDoorShelf
import Derived.Shelf.Abstract
import Derived.OwnWalk
import Derived.BigQuiet
import Derived.Deep.Cut
namespace Go.Proofs.YtfobjaccpnondaaGreatDoor

/-- may a byte stand in a tag -/
def tgI (n : Int) : Bool := decide (32 < n ∧ n ≠ 34 ∧ n ≠ 127)
def tgB (c : UInt8) : Bool := tgI (c.toNat : Int)
def wkE (l : List UInt8) : Bool := Lib.hasPrefix l [87, 47]
def bdE (l : List UInt8) : List UInt8 := Lib.trimPrefix l [87, 47]
def rsE (l : List UInt8) : List UInt8 := Lib.trimPrefix l [34]
def tgE (l : List UInt8) : List UInt8 := Lib.trimSuffix (rsE l) [34]
def qtE (l : List UInt8) : Bool := Lib.hasPrefix l [34] && (Lib.hasSuffix (rsE l) [34] && (tgE l).all tgB)
/-- is it an entity tag; its tag; is it weak; the error -/
def isE (l : List UInt8) : Bool := qtE (bdE l)
def tagE (l : List UInt8) : List UInt8 := if isE l then tgE (bdE l) else []
def weE (l : List UInt8) : Bool := isE l && wkE l
def erE (l : List UInt8) : Int := if isE l then 0 else 4
def weakE (a b : List UInt8) : Bool := isE a && (isE b && (tagE a == tagE b))
def strongE (a b : List UInt8) : Bool := weakE a b && (!weE a && !weE b)
/-- the list of tags that a text is; the error -/
def lsB (l : List UInt8) : Bool := decide (splitE l 44 = 0) && (!(splitL l 44).isEmpty && (splitL l 44).all isE)
def lsL (l : List UInt8) : List (List UInt8) := if lsB l then splitL l 44 else []
def lsE (l : List UInt8) : Int := if lsB l then 0 else 4

theorem pre1 (a : UInt8) (r : List UInt8) : Lib.hasPrefix (a :: r) [34] = (a == 34) := by
  unfold Lib.hasPrefix
  simp only [List.isPrefixOf, Bool.and_true]
  exact BEq.comm
theorem suf1 (m : List UInt8) (z : UInt8) : Lib.hasSuffix (m ++ [z]) [34] = (z == 34) := by
  unfold Lib.hasSuffix
  simp only [List.isSuffixOf, List.reverse_append, List.reverse_cons, List.reverse_nil, List.nil_append, List.cons_append, List.isPrefixOf, Bool.and_true]
  exact BEq.comm
theorem qtE_mk (a z : UInt8) (m : List UInt8) : qtE (a :: (m ++ [z])) = (a == 34 && (z == 34 && m.all tgB)) := by
  unfold qtE tgE rsE Lib.trimPrefix Lib.trimSuffix
  rw [pre1]
  cases ha : a == 34
  · rfl
  · simp only [if_true, List.length_cons, List.length_nil, List.drop_succ_cons, List.drop_zero, Bool.true_and]
    rw [suf1]
    cases hz : z == 34
    · rfl
    · simp
theorem tgE_mk (m : List UInt8) : tgE (34 :: (m ++ [34])) = m := by
  unfold tgE rsE Lib.trimPrefix Lib.trimSuffix
  rw [pre1]
  simp only [beq_self_eq_true, if_true, List.length_cons, List.length_nil, List.drop_succ_cons, List.drop_zero]
  rw [suf1]
  simp
theorem qtE_short {l : List UInt8} (h : l.length < 2) : qtE l = false := by
  match l, h with
  | [], _ => rfl
  | [a], _ =>
    unfold qtE rsE Lib.trimPrefix
    rw [pre1]
    cases ha : a == 34
    · rfl
    · rfl
theorem two_ends {l : List UInt8} (h : 2 ≤ l.length) : ∃ a m z, l = a :: (m ++ [z]) := by
  match l, h with
  | a :: b :: r, _ =>
    refine ⟨a, (b :: r).dropLast, (b :: r).getLast (by simp), ?_⟩
    rw [List.dropLast_concat_getLast]
/-- what the document asks of each byte -/
def okC (n k : Nat) (c : UInt8) : Bool := if k = 0 ∨ k + 1 = n then c == 34 else tgB c
theorem qtE_iff {l : List UInt8} (h : 2 ≤ l.length) : qtE l = true ↔ ∀ i (hi : i < l.length), okC l.length i l[i] = true := by
  obtain ⟨a, m, z, rfl⟩ := two_ends h
  rw [qtE_mk]
  have hlen : (a :: (m ++ [z])).length = m.length + 2 := by simp
  constructor
  · intro hq i hi
    simp only [Bool.and_eq_true, beq_iff_eq, List.all_eq_true] at hq
    obtain ⟨rfl, rfl, hm⟩ := hq
    unfold okC
    cases i with
    | zero => rw [if_pos (.inl rfl)]; rfl
    | succ i =>
      rw [List.getElem_cons_succ]
      by_cases he : i = m.length
      · subst he
        rw [if_pos (.inr (by rw [hlen]))]
        simp
      · have hi2 : i < m.length := by rw [hlen] at hi; omega
        rw [if_neg (by rw [hlen]; omega), List.getElem_append_left hi2]
        exact hm _ (List.getElem_mem hi2)
  · intro hq
    have h0 := hq 0 (by rw [hlen]; omega)
    have hz := hq (m.length + 1) (by rw [hlen]; omega)
    unfold okC at h0 hz
    rw [if_pos (.inl rfl)] at h0
    rw [if_pos (.inr (by rw [hlen]))] at hz
    simp only [List.getElem_cons_zero] at h0
    rw [List.getElem_cons_succ, List.getElem_append_right (Nat.le_refl _)] at hz
    simp only [Nat.sub_self, List.getElem_cons_zero] at hz
    rw [h0, hz]
    simp only [Bool.true_and, List.all_eq_true]
    intro x hx
    obtain ⟨i, hi, rfl⟩ := List.getElem_of_mem hx
    have hm := hq (i + 1) (by rw [hlen]; omega)
    unfold okC at hm
    rw [if_neg (by rw [hlen]; omega), List.getElem_cons_succ, List.getElem_append_left hi] at hm
    exact hm
theorem qtE_no {l : List UInt8} (h : 2 ≤ l.length) {k : Nat} (hk : k < l.length) (hn : okC l.length k l[k] = false) : qtE l = false := by
  rw [← Bool.not_eq_true, qtE_iff h]
  intro H
  have := H k hk
  rw [hn] at this
  cases this
theorem tgE_mid {l : List UInt8} (h : 2 ≤ l.length) (hq : qtE l = true) : (l.drop 1).take (l.length - 1 - 1) = tgE l := by
  obtain ⟨a, m, z, rfl⟩ := two_ends h
  rw [qtE_mk] at hq
  simp only [Bool.and_eq_true, beq_iff_eq] at hq
  obtain ⟨rfl, rfl, -⟩ := hq
  rw [tgE_mk]
  simp
theorem tgE_len (l : List UInt8) : (tgE l).length ≤ l.length := by
  unfold tgE rsE Lib.trimPrefix Lib.trimSuffix
  split <;> split <;> simp <;> omega
theorem bdE_len (l : List UInt8) : (bdE l).length ≤ l.length := by
  unfold bdE Lib.trimPrefix
  split <;> simp
theorem tagE_len (l : List UInt8) : (tagE l).length ≤ l.length := by
  unfold tagE
  have h1 := tgE_len (bdE l); have h2 := bdE_len l
  split
  · omega
  · simp
/-- the document's test for W/ ahead -/
theorem wkE_iff (l : List UInt8) : wkE l = true ↔ ∃ r, l = 87 :: 47 :: r := by
  unfold wkE Lib.hasPrefix
  match l with
  | [] => simp [List.isPrefixOf]
  | [a] => simp [List.isPrefixOf]
  | a :: b :: r =>
    simp only [List.isPrefixOf, Bool.and_true, Bool.and_eq_true, beq_iff_eq]
    constructor
    · rintro ⟨h1, h2⟩; exact ⟨r, by rw [← h1, ← h2]⟩
    · rintro ⟨s, hs⟩
      simp only [List.cons.injEq] at hs
      exact ⟨hs.1.symm, hs.2.1.symm⟩
theorem bdE_wk (r : List UInt8) : bdE (87 :: 47 :: r) = r := rfl
theorem bdE_no {l : List UInt8} (h : wkE l = false) : bdE l = l := by
  unfold wkE at h
  unfold bdE Lib.trimPrefix
  rw [h]; rfl
theorem wkE_no {l : List UInt8} (h : ∀ (h0 : 0 < l.length) (h1 : 1 < l.length), ¬ (l[0] = 87 ∧ l[1] = 47)) : wkE l = false := by
  rw [← Bool.not_eq_true, wkE_iff]
  rintro ⟨r, rfl⟩
  exact h (by simp) (by simp) ⟨rfl, rfl⟩

theorem weakE_comm (a b : List UInt8) : weakE a b = weakE b a := by
  unfold weakE
  rw [show (tagE a == tagE b) = (tagE b == tagE a) from BEq.comm]
  cases isE a <;> cases isE b <;> rfl
theorem strongE_comm (a b : List UInt8) : strongE a b = strongE b a := by
  unfold strongE
  rw [weakE_comm a b]
  cases weE a <;> cases weE b <;> rfl
theorem weakE_trans {a b c : List UInt8} (h1 : weakE a b = true) (h2 : weakE b c = true) : weakE a c = true := by
  unfold weakE at *
  simp only [Bool.and_eq_true, beq_iff_eq] at *
  exact ⟨h1.1, h2.2.1, h1.2.2.trans h2.2.2⟩
theorem strongE_trans {a b c : List UInt8} (h1 : strongE a b = true) (h2 : strongE b c = true) : strongE a c = true := by
  unfold strongE at *
  simp only [Bool.and_eq_true] at *
  exact ⟨weakE_trans h1.1 h2.1, h1.2.1, h2.2.2⟩
theorem strongE_weak {a b : List UInt8} (h : strongE a b = true) : weakE a b = true := by
  unfold strongE at h
  simp only [Bool.and_eq_true] at h
  exact h.1
theorem weakE_self (a : List UInt8) : weakE a a = isE a := by
  unfold weakE
  rw [beq_self_eq_true]
  cases isE a <;> rfl
theorem strongE_self {a : List UInt8} (h : isE a = true) : strongE a a = !weE a := by
  unfold strongE
  rw [weakE_self, h]
  cases weE a <;> rfl
/-- W/ ahead of what is not weak -/
theorem ahead_wk {a : List UInt8} (h : isE a = true) (hw : weE a = false) : isE (87 :: 47 :: a) = true ∧ weE (87 :: 47 :: a) = true ∧ tagE (87 :: 47 :: a) = tagE a := by
  have hk : wkE a = false := by unfold weE at hw; rw [h] at hw; exact hw
  have hi : isE (87 :: 47 :: a) = true := by
    unfold isE at h ⊢
    rw [bdE_wk]
    rw [bdE_no hk] at h
    exact h
  refine ⟨hi, ?_, ?_⟩
  · unfold weE; rw [hi]; rfl
  · unfold tagE
    rw [hi, h, bdE_wk, bdE_no hk]
theorem ahead_weak {a : List UInt8} (h : isE a = true) (hw : weE a = false) (b : List UInt8) : weakE (87 :: 47 :: a) b = weakE a b := by
  obtain ⟨h1, -, h3⟩ := ahead_wk h hw
  unfold weakE
  rw [h1, h, h3]
theorem ahead_strong {a : List UInt8} (h : isE a = true) (hw : weE a = false) : strongE (87 :: 47 :: a) a = false := by
  obtain ⟨-, h2, -⟩ := ahead_wk h hw
  unfold strongE
  rw [h2]
  simp
end Go.Proofs.YtfobjaccpnondaaGreatDoor

/- The etag layer's functions: what a text is as an entity tag, and which are the same. -/
namespace Go.Proofs.YtfobjaccpnondaaGreatDoor
open Go.RowKit Go.Shelf

theorem cutPreE_any (s p : List UInt8) (w : World) :
    Calls Tryz.prog 143 #[.string (bs s), .string (bs p)] w fun e w' => e = .returned (.tuple #[.string (bs (Lib.trimPrefix s p)), .bool (Lib.hasPrefix s p)]) ∧ w = w' := by
  refine (Tryz.strings_CutPrefix (bs s) (bs p) w).mono ?_
  rw [bs_data, bs_data]
  rintro e w' ⟨he, hw⟩
  exact ⟨he, hw.symm⟩
theorem cutSufE_any (s p : List UInt8) (w : World) (hs : s.length ≤ 9223372036854775807) :
    Calls Tryz.prog 144 #[.string (bs s), .string (bs p)] w fun e w' => e = .returned (.tuple #[.string (bs (Lib.trimSuffix s p)), .bool (Lib.hasSuffix s p)]) ∧ w = w' := by
  refine (Tryz.strings_CutSuffix (bs s) (bs p) w (by rw [bs_size]; exact hs)).mono ?_
  rw [bs_data, bs_data]
  rintro e w' ⟨he, hw⟩
  exact ⟨he, hw.symm⟩

theorem tgI_tests {n : Int} : (tgI n = true → decide (n ≤ 32) = false ∧ (n == 34) = false ∧ (n == 127) = false) ∧ (tgI n = false → decide (n ≤ 32) = true ∨ decide (n ≤ 32) = false ∧ ((n == 34) = true ∨ (n == 34) = false ∧ (n == 127) = true)) := by
  unfold tgI
  constructor
  · intro h
    have h := of_decide_eq_true h
    refine ⟨decide_eq_false (by omega), ?_, ?_⟩ <;> rw [beq_eq_false_iff_ne] <;> omega
  · intro h
    have h := of_decide_eq_false h
    by_cases h1 : n ≤ 32
    · exact .inl (decide_eq_true h1)
    · refine .inr ⟨decide_eq_false h1, ?_⟩
      by_cases h2 : n = 34
      · exact .inl (beq_iff_eq.2 h2)
      · exact .inr ⟨beq_eq_false_iff_ne.2 h2, beq_iff_eq.2 (by omega)⟩
def alE (l : List UInt8) : Bool := l.all tgB
theorem alE_def (l : List UInt8) : l.all tgB = alE l := rfl
set_option maxHeartbeats 400000 in
theorem tagBytes_any (s : ByteArray) (w : World) (hs : s.size ≤ 281474976710656) :
    Calls Tryz.prog 145 #[.string s] w fun e w' => e = .returned (.bool (alE s.data.toList)) ∧ w = w' := by
  go_enter Tryz.func145, Tryz.ntmps145
  go_wp2_with fail
  go_loop [7] (fun i => ∃ k : Nat, k ≤ s.size ∧ i = .int .i64 k ∧ Hid ((s.data.toList.take k).all tgB = true)) (fun i => s.size - (intOf i).toNat)
  case atStart => exact ⟨0, Nat.zero_le _, rfl, rfl⟩
  case round =>
    obtain ⟨k, hk, rfl, HT⟩ := hrel
    by_cases hlt : k < s.size
    · cases hb : tgB s[k]
      · have HA : Hid (alE s.data.toList = false) := all_not s tgB k hlt hb
        have hb' : tgI (s[k].toNat : Int) = false := hb
        rcases tgI_tests.2 hb' with h1 | ⟨h1, h2 | ⟨h2, h3⟩⟩
        all_goals
          clear hb hb'
          go_wp2_with fail
          go_ret
          exact ⟨ret_bool (by rw [HA.out]), rfl⟩
      · have HA : Hid ((s.data.toList.take (k + 1)).all tgB = true) := all_snoc s tgB k hlt HT.out hb
        have hb' : tgI (s[k].toNat : Int) = true := hb
        obtain ⟨h1, h2, h3⟩ := tgI_tests.1 hb'
        clear hb hb'
        go_wp2_with fail
        go_round
        case rel => exact ⟨k + 1, by omega, by go_num, HA.out⟩
        case measure => simp [intOf]; omega
    · have HA : Hid (alE s.data.toList = true) := by have h := HT.out; rw [take_all hlt] at h; exact h
      go_wp2_with fail
      go_ret
      exact ⟨ret_bool (by rw [HA.out]), rfl⟩

theorem ret_tagE {a b : Bool} {x y : List UInt8} {m n : Int} (h1 : a = b) (h2 : x = y) (h3 : m = n) : Ending.returned (.tuple #[.bool a, .string (bs x), .int .i64 m]) = .returned (.tuple #[.bool b, .string (bs y), .int .i64 n]) := by rw [h1, h2, h3]
set_option maxHeartbeats 1000000 in
theorem eparse_any (s : List UInt8) (w : World) (hs : s.length ≤ 281474976710656) :
    Calls Tryz.prog 92 #[.string (bs s)] w fun e w' => e = .returned (.tuple #[.bool (weE s), .string (bs (tagE s)), .int .i64 (erE s)]) ∧ Below w.heap.size w w' := by
  have l1 := bdE_len s
  have l2 := tgE_len (bdE s)
  have l3 : (rsE (bdE s)).length ≤ (bdE s).length := by unfold rsE Lib.trimPrefix; split <;> simp
  have c1 : ∀ w, Calls Tryz.prog 143 #[.string (bs s), .string ⟨#[87, 47]⟩] w fun e w' => e = .returned (.tuple #[.string (bs (bdE s)), .bool (wkE s)]) ∧ w = w' := fun w => cutPreE_any s [87, 47] w
  have c2 : ∀ w, Calls Tryz.prog 143 #[.string (bs (bdE s)), .string ⟨#[34]⟩] w fun e w' => e = .returned (.tuple #[.string (bs (rsE (bdE s))), .bool (Lib.hasPrefix (bdE s) [34])]) ∧ w = w' := fun w => cutPreE_any (bdE s) [34] w
  have c3 : ∀ w, Calls Tryz.prog 144 #[.string (bs (rsE (bdE s))), .string ⟨#[34]⟩] w fun e w' => e = .returned (.tuple #[.string (bs (tgE (bdE s))), .bool (Lib.hasSuffix (rsE (bdE s)) [34])]) ∧ w = w' := fun w => cutSufE_any (rsE (bdE s)) [34] w (by omega)
  have c4 := fun w => tagBytes_any (bs (tgE (bdE s))) w (by rw [bs_size]; omega)
  rw [bs_data] at c4
  have c5 := fun w => clone_any (bs (tgE (bdE s))) w (by rw [bs_size]; omega)
  have hq : isE s = (Lib.hasPrefix (bdE s) [34] && (Lib.hasSuffix (rsE (bdE s)) [34] && alE (tgE (bdE s)))) := rfl
  have ht : tagE s = if isE s then tgE (bdE s) else [] := rfl
  have hw : weE s = (isE s && wkE s) := rfl
  have hr : erE s = if isE s then 0 else 4 := rfl
  rw [ht, hw, hr, hq]
  clear ht hw hr hq l1 l2 l3 hs
  have C1 := Lib.hid c1; have C2 := Lib.hid c2; have C3 := Lib.hid c3; have C4 := Lib.hid c4; have C5 := Lib.hid c5
  clear c1 c2 c3 c4 c5
  generalize alE (tgE (bdE s)) = m at *
  generalize tgE (bdE s) = t at *
  generalize Lib.hasSuffix (rsE (bdE s)) [34] = c at *
  generalize rsE (bdE s) = r at *
  generalize Lib.hasPrefix (bdE s) [34] = o at *
  generalize bdE s = q at *
  generalize wkE s = k at *
  cases o
  · go_enter Tryz.func92, Tryz.ntmps92
    go_wp2_with fail
    refine (C1.out _).mono ?_
    rintro e w' ⟨rfl, rfl⟩
    go_wp2_with fail
    refine (C2.out _).mono ?_
    rintro e w' ⟨rfl, rfl⟩
    go_wp2_with fail
    refine (C3.out _).mono ?_
    rintro e w' ⟨rfl, rfl⟩
    go_wp2_with fail
    go_ret3
    exact ⟨rfl, Below.refl _ _⟩
  · cases c
    · go_enter Tryz.func92, Tryz.ntmps92
      go_wp2_with fail
      refine (C1.out _).mono ?_
      rintro e w' ⟨rfl, rfl⟩
      go_wp2_with fail
      refine (C2.out _).mono ?_
      rintro e w' ⟨rfl, rfl⟩
      go_wp2_with fail
      refine (C3.out _).mono ?_
      rintro e w' ⟨rfl, rfl⟩
      go_wp2_with fail
      go_ret3
      exact ⟨rfl, Below.refl _ _⟩
    · cases m
      · go_enter Tryz.func92, Tryz.ntmps92
        go_wp2_with fail
        refine (C1.out _).mono ?_
        rintro e w' ⟨rfl, rfl⟩
        go_wp2_with fail
        refine (C2.out _).mono ?_
        rintro e w' ⟨rfl, rfl⟩
        go_wp2_with fail
        refine (C3.out _).mono ?_
        rintro e w' ⟨rfl, rfl⟩
        go_wp2_with fail
        refine (C4.out _).mono ?_
        rintro e w' ⟨rfl, rfl⟩
        go_wp2_with fail
        go_ret3
        exact ⟨rfl, Below.refl _ _⟩
      · go_enter Tryz.func92, Tryz.ntmps92
        go_wp2_with fail
        refine (C1.out _).mono ?_
        rintro e w' ⟨rfl, rfl⟩
        go_wp2_with fail
        refine (C2.out _).mono ?_
        rintro e w' ⟨rfl, rfl⟩
        go_wp2_with fail
        refine (C3.out _).mono ?_
        rintro e w' ⟨rfl, rfl⟩
        go_wp2_with fail
        refine (C4.out _).mono ?_
        rintro e w' ⟨rfl, rfl⟩
        go_wp2_with fail
        refine (C5.out _).mono ?_
        rintro e w' ⟨rfl, hb⟩
        go_wp2_with fail
        go_ret3
        exact ⟨rfl, hb⟩

theorem weE_no {l : List UInt8} (h : isE l = false) : weE l = false := by unfold weE; rw [h]; rfl
theorem erE_eq (l : List UInt8) : (erE l == 0) = isE l ∧ (erE l != 0) = !isE l := by
  unfold erE
  cases isE l <;> exact ⟨rfl, rfl⟩

theorem any_snocL {E : List (List UInt8)} {p : List UInt8 → Bool} {k : Nat} (h : k < E.length) (hp : (E.take k).any p = false) (hq : p E[k] = false) : (E.take (k + 1)).any p = false := by
  rw [List.take_succ_eq_append_getElem h, List.any_append, hp]; simp [hq]
theorem any_isL {E : List (List UInt8)} {p : List UInt8 → Bool} {k : Nat} (h : k < E.length) (hq : p E[k] = true) : E.any p = true := by
  rw [List.any_eq_true]
  exact ⟨E[k], List.getElem_mem h, hq⟩
def anyE (E : List (List UInt8)) (p : List UInt8 → Bool) : Bool := E.any p

theorem lsB_of {l : List UInt8} : (splitE l 44 ≠ 0 → lsB l = false) ∧ (splitL l 44 = [] → lsB l = false) ∧ (splitE l 44 = 0 → splitL l 44 ≠ [] → lsB l = !anyE (splitL l 44) (fun x => !isE x)) := by
  unfold lsB
  refine ⟨fun h => by rw [decide_eq_false h]; rfl, fun h => by rw [h]; simp, fun h h2 => ?_⟩
  rw [decide_eq_true h]
  have : (splitL l 44).isEmpty = false := by
    cases hs : splitL l 44 with
    | nil => exact absurd hs h2
    | cons x r => rfl
  rw [this]
  unfold anyE
  rw [List.not_any_eq_all_not]
  simp
/-- what is handed back by List -/
def ListPostE (l : List UInt8) (w : World) (e : Ending) (w' : World) : Prop :=
  ∃ v, e = .returned (.tuple #[v, .int .i64 (lsE l)]) ∧ ownS w' w.heap.size v (lsL l) ∧ Below w.heap.size w w'
theorem flat_memE {L : List (List UInt8)} {x : List UInt8} (h : x ∈ L) : x.length ≤ L.flatten.length := by
  induction L with
  | nil => cases h
  | cons y r ih =>
    rw [List.flatten_cons, List.length_append]
    rcases List.mem_cons.1 h with rfl | h
    · omega
    · have := ih h; omega
theorem split_flat (l : List UInt8) (sep : UInt8) : ∀ s ∈ splitL l sep, s.length ≤ l.length := fun _ hs => Nat.le_trans (flat_memE hs) (splitL_flat l sep)
end Go.Proofs.YtfobjaccpnondaaGreatDoor

/- The document's answers on entity tags: Parse, Weak, Strong, List. -/
namespace Go.Proofs.YtfobjaccpnondaaGreatDoor
open Go.RowKit

/-- how a text begins, byte by byte -/
theorem wk_at (s : ByteArray) :
    (∃ h0 : 0 < s.size, ∃ h1 : 1 < s.size, ((s[0].toNat : Int) == 87) = true ∧ ((s[1].toNat : Int) == 47) = true ∧ wkE s.data.toList = true ∧ bdE s.data.toList = s.data.toList.drop 2) ∨
    (s.size < 2 ∧ wkE s.data.toList = false ∧ bdE s.data.toList = s.data.toList) ∨
    (∃ _ : 1 < s.size, ∃ h0 : 0 < s.size, ((s[0].toNat : Int) == 87) = false ∧ wkE s.data.toList = false ∧ bdE s.data.toList = s.data.toList) ∨
    (∃ h1 : 1 < s.size, ∃ h0 : 0 < s.size, ((s[0].toNat : Int) == 87) = true ∧ ((s[1].toNat : Int) == 47) = false ∧ wkE s.data.toList = false ∧ bdE s.data.toList = s.data.toList) := by
  by_cases h1 : 1 < s.size
  · have h0 : 0 < s.size := by omega
    have g0 : 0 < s.data.toList.length := h0
    have g1 : 1 < s.data.toList.length := h1
    have e0 : s.data.toList[0] = s[0] := rfl
    have e1 : s.data.toList[1] = s[1] := rfl
    have byte : ∀ (c d : UInt8), ((c.toNat : Int) == (d.toNat : Int)) = (c == d) := fun c d => by
      rw [Bool.eq_iff_iff, beq_iff_eq, beq_iff_eq]
      exact ⟨fun h => UInt8.toNat_inj.1 (by omega), fun h => by rw [h]⟩
    have b0 := byte s[0] 87
    have b1 := byte s[1] 47
    rw [show ((87 : UInt8).toNat : Int) = 87 from rfl] at b0
    rw [show ((47 : UInt8).toNat : Int) = 47 from rfl] at b1
    cases k0 : s[0] == 87
    · have hw : wkE s.data.toList = false := wkE_no fun _ _ h => by
        rw [e0] at h
        rw [h.1] at k0
        cases k0
      exact .inr (.inr (.inl ⟨h1, h0, b0.trans k0, hw, bdE_no hw⟩))
    · cases k1 : s[1] == 47
      · have hw : wkE s.data.toList = false := wkE_no fun _ _ h => by
          rw [e1] at h
          rw [h.2] at k1
          cases k1
        exact .inr (.inr (.inr ⟨h1, h0, b0.trans k0, b1.trans k1, hw, bdE_no hw⟩))
      · refine .inl ⟨h0, h1, b0.trans k0, b1.trans k1, ?_⟩
        have f0 : s[0] = 87 := beq_iff_eq.1 k0
        have f1 : s[1] = 47 := beq_iff_eq.1 k1
        rw [← e0] at f0
        rw [← e1] at f1
        have hl : s.data.toList = 87 :: 47 :: s.data.toList.drop 2 := by
          match hm : s.data.toList, g0, g1 with
          | a :: b :: r, _, _ =>
            simp only [hm, List.getElem_cons_zero, List.getElem_cons_succ] at f0 f1
            rw [f0, f1]; rfl
        refine ⟨(wkE_iff _).2 ⟨_, hl⟩, ?_⟩
        generalize s.data.toList.drop 2 = r at hl
        rw [hl]; rfl
  · have hw : wkE s.data.toList = false := wkE_no fun _ h => absurd h h1
    exact .inr (.inl ⟨by omega, hw, bdE_no hw⟩)
theorem okC_tests {n k : Nat} {c : UInt8} :
    (okC n k c = true → (k = 0 ∨ k + 1 = n) ∧ ((c.toNat : Int) != 34) = false ∨ ¬ (k = 0 ∨ k + 1 = n) ∧ decide ((c.toNat : Int) < 33) = false ∧ ((c.toNat : Int) == 34) = false ∧ ((c.toNat : Int) == 127) = false) ∧
    (okC n k c = false → (k = 0 ∨ k + 1 = n) ∧ ((c.toNat : Int) != 34) = true ∨ ¬ (k = 0 ∨ k + 1 = n) ∧ (decide ((c.toNat : Int) < 33) = true ∨ decide ((c.toNat : Int) < 33) = false ∧ (((c.toNat : Int) == 34) = true ∨ ((c.toNat : Int) == 34) = false ∧ ((c.toNat : Int) == 127) = true))) := by
  have byte : (c == 34) = ((c.toNat : Int) == 34) := by
    rw [Bool.eq_iff_iff, beq_iff_eq, beq_iff_eq]
    exact ⟨fun h => by rw [h]; rfl, fun h => UInt8.toNat_inj.1 (by show c.toNat = 34; omega)⟩
  unfold okC
  by_cases hk : k = 0 ∨ k + 1 = n
  · rw [if_pos hk, byte]
    exact ⟨fun h => .inl ⟨hk, by rw [bne, h]; rfl⟩, fun h => .inl ⟨hk, by rw [bne, h]; rfl⟩⟩
  · rw [if_neg hk]
    unfold tgB tgI
    constructor
    · intro h
      have h := of_decide_eq_true h
      refine .inr ⟨hk, decide_eq_false (by omega), ?_, ?_⟩ <;> rw [beq_eq_false_iff_ne] <;> omega
    · intro h
      have h := of_decide_eq_false h
      refine .inr ⟨hk, ?_⟩
      by_cases h1 : (c.toNat : Int) < 33
      · exact .inl (decide_eq_true h1)
      · refine .inr ⟨decide_eq_false h1, ?_⟩
        by_cases h2 : (c.toNat : Int) = 34
        · exact .inl (beq_iff_eq.2 h2)
        · exact .inr ⟨beq_eq_false_iff_ne.2 h2, beq_iff_eq.2 (by omega)⟩
/-- the bytes ahead of k are as they must be -/
def UpE (S : ByteArray) (k : Nat) : Prop := ∀ i (hi : i < S.data.toList.length), i < k → okC S.data.toList.length i S.data.toList[i] = true
theorem UpE.next {S : ByteArray} {k : Nat} (h : UpE S k) (hk : k < S.size) (ho : okC S.size k S[k] = true) : UpE S (k + 1) := by
  intro i hi hl
  by_cases he : i = k
  · subst he; exact ho
  · exact h i hi (by omega)
theorem below_drewE (w : World) (n : Nat) : Below w.heap.size w (w.drewN n) := by
  have h := Below.refl w.heap.size w
  exact ⟨h.os, h.tape, h.output, h.size, h.block⟩
/-- what Parse hands back -/
def outE (q k : Bool) (t : List UInt8) : Value := .tuple #[.bool (q && k), .string (bs (if q then t else [])), .int .i64 (if q then 0 else 4)]
theorem outE_eq (l : List UInt8) : (Value.tuple #[.bool (weE l), .string (bs (tagE l)), .int .i64 (erE l)]) = outE (qtE (bdE l)) (wkE l) (tgE (bdE l)) := rfl
set_option maxRecDepth 100000 in
set_option maxHeartbeats 4000000 in
theorem reparse_any (s : ByteArray) (w : World) (hs : s.size ≤ 4294967290) :
    Calls Tryz.prog 23 #[.string s] w fun e w' => e = .returned (.tuple #[.bool (weE s.data.toList), .string (bs (tagE s.data.toList)), .int .i64 (erE s.data.toList)]) ∧ Below w.heap.size w w' := by
  rw [outE_eq]
  have hwk := wk_at s
  generalize bdE s.data.toList = B at *
  generalize wkE s.data.toList = K at *
  rcases hwk with ⟨h0, h1, i0, i1, hk, hb⟩ | ⟨h1, hk, hb⟩ | ⟨h1, h0, i0, hk, hb⟩ | ⟨h1, h0, i0, i1, hk, hb⟩
  case' inl =>
    rw [hk]
    have e1 : (s.extract 2 s.size).data.toList = B := by rw [Lib.extract_to_end, hb]
    have HB := Lib.hid e1; clear hk hb e1
    have e2 : (s.extract 2 s.size).size ≤ 4294967290 := by simp; omega
    go_enter Tryz.func23, Tryz.ntmps23
    go_upto_region 4 with fail
    generalize s.extract 2 s.size = S at *
    clear i0 i1
  case inr.inl =>
    have HQ : Hid (qtE B = false) := by show _ = _; rw [hb]; exact qtE_short h1
    rw [hk]
    clear hk hb
    go_enter Tryz.func23, Tryz.ntmps23
    go_wp2_with fail
    go_ret3
    exact ⟨by rw [HQ.out]; rfl, Below.refl _ _⟩
  case' inr.inr.inl =>
    rw [hk]
    have HB := Lib.hid hb.symm; clear hk hb
    have e2 := hs
    go_enter Tryz.func23, Tryz.ntmps23
    go_upto_region 4 with fail
    obtain ⟨S, rfl⟩ : ∃ S, S = s := ⟨_, rfl⟩
    clear i0
  case' inr.inr.inr =>
    rw [hk]
    have HB := Lib.hid hb.symm; clear hk hb
    have e2 := hs
    go_enter Tryz.func23, Tryz.ntmps23
    go_upto_region 4 with fail
    obtain ⟨S, rfl⟩ : ∃ S, S = s := ⟨_, rfl⟩
    clear i0 i1
  all_goals
    by_cases h2 : S.size < 2
    · have HQ : Hid (qtE B = false) := by show _ = _; rw [← HB.out]; exact qtE_short h2
      go_wp2_with fail
      all_goals
        go_ret3
        exact ⟨by rw [HQ.out]; rfl, Below.refl _ _⟩
    · have h3 : 2 ≤ S.size := by omega
      have h4 : 2 ≤ S.data.toList.length := h3
      clear h2
      go_wp2_with fail
      go_loop [6] (fun i => ∃ k : Nat, k ≤ S.size ∧ i = .int .i64 k ∧ Hid (UpE S k)) (fun i => S.size - (intOf i).toNat)
      case atStart => exact ⟨0, Nat.zero_le _, rfl, fun i _ h => by omega⟩
      case round =>
        obtain ⟨k, hk, rfl, HU⟩ := hrel
        by_cases hlt : k < S.size
        · cases ho : okC S.size k S[k]
          · have HQ : Hid (qtE B = false) := by show _ = _; rw [← HB.out]; exact qtE_no h4 hlt ho
            rcases okC_tests.2 ho with ⟨h5 | h5, h6⟩ | ⟨h5, h6 | ⟨h6, h7 | ⟨h7, h8⟩⟩⟩
            · have h9 : ((k : Int) == 0) = true := by rw [beq_iff_eq]; omega
              clear ho h5
              go_wp2_with fail
              go_ret3
              exact ⟨by rw [HQ.out]; rfl, Below.refl _ _⟩
            · have h9 : ((k : Int) == 0) = false := by rw [beq_eq_false_iff_ne]; omega
              have h10 : ((k : Int) == (S.size : Int) - 1) = true := by rw [beq_iff_eq]; omega
              clear ho h5
              go_wp2_with fail
              go_ret3
              exact ⟨by rw [HQ.out]; rfl, Below.refl _ _⟩
            all_goals
              have h9 : ((k : Int) == 0) = false := by rw [beq_eq_false_iff_ne]; omega
              have h10 : ((k : Int) == (S.size : Int) - 1) = false := by rw [beq_eq_false_iff_ne]; omega
              clear ho h5
              go_wp2_with fail
              go_ret3
              exact ⟨by rw [HQ.out]; rfl, Below.refl _ _⟩
          · have HN := Lib.hid (HU.out.next hlt ho)
            rcases okC_tests.1 ho with ⟨h5 | h5, h6⟩ | ⟨h5, h6, h7, h8⟩
            · have h9 : ((k : Int) == 0) = true := by rw [beq_iff_eq]; omega
              clear ho h5
              go_wp2_with fail
              go_round
              case rel => exact ⟨k + 1, by omega, by go_num, HN.out⟩
              case measure => simp [intOf]; omega
            · have h9 : ((k : Int) == 0) = false := by rw [beq_eq_false_iff_ne]; omega
              have h10 : ((k : Int) == (S.size : Int) - 1) = true := by rw [beq_iff_eq]; omega
              clear ho h5
              go_wp2_with fail
              go_round
              case rel => exact ⟨k + 1, by omega, by go_num, HN.out⟩
              case measure => simp [intOf]; omega
            · have h9 : ((k : Int) == 0) = false := by rw [beq_eq_false_iff_ne]; omega
              have h10 : ((k : Int) == (S.size : Int) - 1) = false := by rw [beq_eq_false_iff_ne]; omega
              clear ho h5
              go_wp2_with fail
              go_round
              case rel => exact ⟨k + 1, by omega, by go_num, HN.out⟩
              case measure => simp [intOf]; omega
        · have hq : qtE S.data.toList = true := (qtE_iff h4).2 fun i hi => HU.out i hi (by have : i < S.size := hi; omega)
          have HT : Hid (S.extract 1 (S.size - 1) = bs (tgE B)) := bs_of (by rw [← HB.out, Lib.extract_data]; exact tgE_mid h4 hq)
          have HQ : Hid (qtE B = true) := by show _ = _; rw [← HB.out]; exact hq
          have HO : Hid (∀ c, outE (qtE B) c (tgE B) = .tuple #[.bool c, .string (S.extract 1 (S.size - 1)), .int .i64 0]) := fun c => by rw [HQ.out, HT.out]; rfl
          clear hq
          have h5 : (1 : Int) ≤ (S.size : Int) - 1 := by omega
          have h6 : (S.size : Int) - 1 ≤ (S.size : Int) := by omega
          have h7 : ((S.size : Int) - 1).toNat = S.size - 1 := by omega
          go_wp2_with fail
          go_quiet (fail)
          go_wp2_with fail
          go_ret3
          exact ⟨by rw [HO.out]; rfl, below_drewE _ _⟩
theorem reparseL_any (l : List UInt8) (w : World) (hl : l.length ≤ 4294967290) :
    Calls Tryz.prog 23 #[.string (bs l)] w fun e w' => e = .returned (.tuple #[.bool (weE l), .string (bs (tagE l)), .int .i64 (erE l)]) ∧ Below w.heap.size w w' := by
  have h := reparse_any (bs l) w (by rw [bs_size]; exact hl)
  rw [bs_data] at h
  exact h
end Go.Proofs.YtfobjaccpnondaaGreatDoor
