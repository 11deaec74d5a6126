/- The etag layer's functions: what a text is as an entity tag, and which are the same. -/
import Derived.Test.YtdaiielhohdgiaaDoorKEtag0
import Derived.Test.YtdaiielhohdgiaaDoorKFieldsA
import Derived.Test.YtdaiielhohdgiaaDoorKTextT
import Derived.Test.YtdaiielhohdgiaaDoorShelf
import Derived.Shelf.Abstract
import Derived.OwnWalk
namespace Go.Proofs.YtdaiielhohdgiaaDoor
open Go.RowKit Go.Shelf

theorem cutPreE_any (s p : List UInt8) (w : World) :
    Calls Tryd.prog 42 #[.string (bs s), .string (bs p)] w fun e w' => e = .returned (.tuple #[.string (bs (Lib.trimPrefix s p)), .bool (Lib.hasPrefix s p)]) ∧ w = w' := by
  refine (Tryd.strings_CutPrefix (bs s) (bs p) w).mono ?_
  rw [bs_data, bs_data]
  rintro e w' ⟨he, hw⟩
  exact ⟨he, hw.symm⟩
theorem cutSufE_any (s p : List UInt8) (w : World) (hs : s.length ≤ 9223372036854775807) :
    Calls Tryd.prog 43 #[.string (bs s), .string (bs p)] w fun e w' => e = .returned (.tuple #[.string (bs (Lib.trimSuffix s p)), .bool (Lib.hasSuffix s p)]) ∧ w = w' := by
  refine (Tryd.strings_CutSuffix (bs s) (bs p) w (by rw [bs_size]; exact hs)).mono ?_
  rw [bs_data, bs_data]
  rintro e w' ⟨he, hw⟩
  exact ⟨he, hw.symm⟩

theorem tgI_tests {n : Int} : (tgI n = true → decide (n ≤ 32) = false ∧ (n == 34) = false ∧ (n == 127) = false) ∧ (tgI n = false → decide (n ≤ 32) = true ∨ decide (n ≤ 32) = false ∧ ((n == 34) = true ∨ (n == 34) = false ∧ (n == 127) = true)) := by
  unfold tgI
  constructor
  · intro h
    have h := of_decide_eq_true h
    refine ⟨decide_eq_false (by omega), ?_, ?_⟩ <;> rw [beq_eq_false_iff_ne] <;> omega
  · intro h
    have h := of_decide_eq_false h
    by_cases h1 : n ≤ 32
    · exact .inl (decide_eq_true h1)
    · refine .inr ⟨decide_eq_false h1, ?_⟩
      by_cases h2 : n = 34
      · exact .inl (beq_iff_eq.2 h2)
      · exact .inr ⟨beq_eq_false_iff_ne.2 h2, beq_iff_eq.2 (by omega)⟩
def alE (l : List UInt8) : Bool := l.all tgB
theorem alE_def (l : List UInt8) : l.all tgB = alE l := rfl
set_option maxHeartbeats 400000 in
theorem tagBytes_any (s : ByteArray) (w : World) (hs : s.size ≤ 281474976710656) :
    Calls Tryd.prog 44 #[.string s] w fun e w' => e = .returned (.bool (alE s.data.toList)) ∧ w = w' := by
  go_enter Tryd.func44, Tryd.ntmps44
  go_wp2_with fail
  go_loop [7] (fun i => ∃ k : Nat, k ≤ s.size ∧ i = .int .i64 k ∧ Hid ((s.data.toList.take k).all tgB = true)) (fun i => s.size - (intOf i).toNat)
  case atStart => exact ⟨0, Nat.zero_le _, rfl, rfl⟩
  case round =>
    obtain ⟨k, hk, rfl, HT⟩ := hrel
    by_cases hlt : k < s.size
    · cases hb : tgB s[k]
      · have HA : Hid (alE s.data.toList = false) := all_not s tgB k hlt hb
        have hb' : tgI (s[k].toNat : Int) = false := hb
        rcases tgI_tests.2 hb' with h1 | ⟨h1, h2 | ⟨h2, h3⟩⟩
        all_goals
          clear hb hb'
          go_wp2_with fail
          go_ret
          exact ⟨ret_bool (by rw [HA.out]), rfl⟩
      · have HA : Hid ((s.data.toList.take (k + 1)).all tgB = true) := all_snoc s tgB k hlt HT.out hb
        have hb' : tgI (s[k].toNat : Int) = true := hb
        obtain ⟨h1, h2, h3⟩ := tgI_tests.1 hb'
        clear hb hb'
        go_wp2_with fail
        go_round
        case rel => exact ⟨k + 1, by omega, by go_num, HA.out⟩
        case measure => simp [intOf]; omega
    · have HA : Hid (alE s.data.toList = true) := by have h := HT.out; rw [take_all hlt] at h; exact h
      go_wp2_with fail
      go_ret
      exact ⟨ret_bool (by rw [HA.out]), rfl⟩

theorem ret_tagE {a b : Bool} {x y : List UInt8} {m n : Int} (h1 : a = b) (h2 : x = y) (h3 : m = n) : Ending.returned (.tuple #[.bool a, .string (bs x), .int .i64 m]) = .returned (.tuple #[.bool b, .string (bs y), .int .i64 n]) := by rw [h1, h2, h3]
set_option maxHeartbeats 1000000 in
theorem eparse_any (s : List UInt8) (w : World) (hs : s.length ≤ 281474976710656) :
    Calls Tryd.prog 25 #[.string (bs s)] w fun e w' => e = .returned (.tuple #[.bool (weE s), .string (bs (tagE s)), .int .i64 (erE s)]) ∧ Below w.heap.size w w' := by
  have l1 := bdE_len s
  have l2 := tgE_len (bdE s)
  have l3 : (rsE (bdE s)).length ≤ (bdE s).length := by unfold rsE Lib.trimPrefix; split <;> simp
  have c1 : ∀ w, Calls Tryd.prog 42 #[.string (bs s), .string ⟨#[87, 47]⟩] w fun e w' => e = .returned (.tuple #[.string (bs (bdE s)), .bool (wkE s)]) ∧ w = w' := fun w => cutPreE_any s [87, 47] w
  have c2 : ∀ w, Calls Tryd.prog 42 #[.string (bs (bdE s)), .string ⟨#[34]⟩] w fun e w' => e = .returned (.tuple #[.string (bs (rsE (bdE s))), .bool (Lib.hasPrefix (bdE s) [34])]) ∧ w = w' := fun w => cutPreE_any (bdE s) [34] w
  have c3 : ∀ w, Calls Tryd.prog 43 #[.string (bs (rsE (bdE s))), .string ⟨#[34]⟩] w fun e w' => e = .returned (.tuple #[.string (bs (tgE (bdE s))), .bool (Lib.hasSuffix (rsE (bdE s)) [34])]) ∧ w = w' := fun w => cutSufE_any (rsE (bdE s)) [34] w (by omega)
  have c4 := fun w => tagBytes_any (bs (tgE (bdE s))) w (by rw [bs_size]; omega)
  rw [bs_data] at c4
  have c5 := fun w => clone_any (bs (tgE (bdE s))) w (by rw [bs_size]; omega)
  have hq : isE s = (Lib.hasPrefix (bdE s) [34] && (Lib.hasSuffix (rsE (bdE s)) [34] && alE (tgE (bdE s)))) := rfl
  have ht : tagE s = if isE s then tgE (bdE s) else [] := rfl
  have hw : weE s = (isE s && wkE s) := rfl
  have hr : erE s = if isE s then 0 else 4 := rfl
  rw [ht, hw, hr, hq]
  clear ht hw hr hq l1 l2 l3 hs
  have C1 := Lib.hid c1; have C2 := Lib.hid c2; have C3 := Lib.hid c3; have C4 := Lib.hid c4; have C5 := Lib.hid c5
  clear c1 c2 c3 c4 c5
  generalize alE (tgE (bdE s)) = m at *
  generalize tgE (bdE s) = t at *
  generalize Lib.hasSuffix (rsE (bdE s)) [34] = c at *
  generalize rsE (bdE s) = r at *
  generalize Lib.hasPrefix (bdE s) [34] = o at *
  generalize bdE s = q at *
  generalize wkE s = k at *
  cases o
  · go_enter Tryd.func25, Tryd.ntmps25
    go_wp2_with fail
    refine (C1.out _).mono ?_
    rintro e w' ⟨rfl, rfl⟩
    go_wp2_with fail
    refine (C2.out _).mono ?_
    rintro e w' ⟨rfl, rfl⟩
    go_wp2_with fail
    refine (C3.out _).mono ?_
    rintro e w' ⟨rfl, rfl⟩
    go_wp2_with fail
    go_ret3
    exact ⟨rfl, Below.refl _ _⟩
  · cases c
    · go_enter Tryd.func25, Tryd.ntmps25
      go_wp2_with fail
      refine (C1.out _).mono ?_
      rintro e w' ⟨rfl, rfl⟩
      go_wp2_with fail
      refine (C2.out _).mono ?_
      rintro e w' ⟨rfl, rfl⟩
      go_wp2_with fail
      refine (C3.out _).mono ?_
      rintro e w' ⟨rfl, rfl⟩
      go_wp2_with fail
      go_ret3
      exact ⟨rfl, Below.refl _ _⟩
    · cases m
      · go_enter Tryd.func25, Tryd.ntmps25
        go_wp2_with fail
        refine (C1.out _).mono ?_
        rintro e w' ⟨rfl, rfl⟩
        go_wp2_with fail
        refine (C2.out _).mono ?_
        rintro e w' ⟨rfl, rfl⟩
        go_wp2_with fail
        refine (C3.out _).mono ?_
        rintro e w' ⟨rfl, rfl⟩
        go_wp2_with fail
        refine (C4.out _).mono ?_
        rintro e w' ⟨rfl, rfl⟩
        go_wp2_with fail
        go_ret3
        exact ⟨rfl, Below.refl _ _⟩
      · go_enter Tryd.func25, Tryd.ntmps25
        go_wp2_with fail
        refine (C1.out _).mono ?_
        rintro e w' ⟨rfl, rfl⟩
        go_wp2_with fail
        refine (C2.out _).mono ?_
        rintro e w' ⟨rfl, rfl⟩
        go_wp2_with fail
        refine (C3.out _).mono ?_
        rintro e w' ⟨rfl, rfl⟩
        go_wp2_with fail
        refine (C4.out _).mono ?_
        rintro e w' ⟨rfl, rfl⟩
        go_wp2_with fail
        refine (C5.out _).mono ?_
        rintro e w' ⟨rfl, hb⟩
        go_wp2_with fail
        go_ret3
        exact ⟨rfl, hb⟩

theorem weE_no {l : List UInt8} (h : isE l = false) : weE l = false := by unfold weE; rw [h]; rfl
theorem erE_eq (l : List UInt8) : (erE l == 0) = isE l ∧ (erE l != 0) = !isE l := by
  unfold erE
  cases isE l <;> exact ⟨rfl, rfl⟩

theorem any_snocL {E : List (List UInt8)} {p : List UInt8 → Bool} {k : Nat} (h : k < E.length) (hp : (E.take k).any p = false) (hq : p E[k] = false) : (E.take (k + 1)).any p = false := by
  rw [List.take_succ_eq_append_getElem h, List.any_append, hp]; simp [hq]
theorem any_isL {E : List (List UInt8)} {p : List UInt8 → Bool} {k : Nat} (h : k < E.length) (hq : p E[k] = true) : E.any p = true := by
  rw [List.any_eq_true]
  exact ⟨E[k], List.getElem_mem h, hq⟩
def anyE (E : List (List UInt8)) (p : List UInt8 → Bool) : Bool := E.any p

theorem lsB_of {l : List UInt8} : (splitE l 44 ≠ 0 → lsB l = false) ∧ (splitL l 44 = [] → lsB l = false) ∧ (splitE l 44 = 0 → splitL l 44 ≠ [] → lsB l = !anyE (splitL l 44) (fun x => !isE x)) := by
  unfold lsB
  refine ⟨fun h => by rw [decide_eq_false h]; rfl, fun h => by rw [h]; simp, fun h h2 => ?_⟩
  rw [decide_eq_true h]
  have : (splitL l 44).isEmpty = false := by
    cases hs : splitL l 44 with
    | nil => exact absurd hs h2
    | cons x r => rfl
  rw [this]
  unfold anyE
  rw [List.not_any_eq_all_not]
  simp
/-- what is handed back by List -/
def ListPostE (l : List UInt8) (w : World) (e : Ending) (w' : World) : Prop :=
  ∃ v, e = .returned (.tuple #[v, .int .i64 (lsE l)]) ∧ ownS w' w.heap.size v (lsL l) ∧ Below w.heap.size w w'
theorem flat_memE {L : List (List UInt8)} {x : List UInt8} (h : x ∈ L) : x.length ≤ L.flatten.length := by
  induction L with
  | nil => cases h
  | cons y r ih =>
    rw [List.flatten_cons, List.length_append]
    rcases List.mem_cons.1 h with rfl | h
    · omega
    · have := ih h; omega
theorem split_flat (l : List UInt8) (sep : UInt8) : ∀ s ∈ splitL l sep, s.length ≤ l.length := fun _ hs => Nat.le_trans (flat_memE hs) (splitL_flat l sep)
end Go.Proofs.YtdaiielhohdgiaaDoor
