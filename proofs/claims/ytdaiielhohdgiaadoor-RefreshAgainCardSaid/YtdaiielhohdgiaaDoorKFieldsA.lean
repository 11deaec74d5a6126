/- Slices of fields and of texts: what is read of them, those that a call has made, one more appended to them. -/
import Derived.Test.YtdaiielhohdgiaaDoorKBytes
import Derived.Test.YtdaiielhohdgiaaDoorKPlain
import Derived.OneCell
import Derived.Maps.AppendAt
import Derived.Deep.QuietTactic
import Derived.BigQuiet
import Derived.OrdersHeld
import Derived.Deep.RegionHeld3
import Derived.Below
import Derived.Lib.Hide
import Derived.Maps.OwnSet
import Derived.Maps.OwnOps
import Derived.WalkKit
import Derived.StringKeys
import Derived.Shelf.GgClosure.Gives
namespace Go.Proofs.YtdaiielhohdgiaaDoor
open Go.RowKit

theorem infoF : (Tryd.prog.info? 42).map (fun i => (i.zero, i.size, i.bytes)) = some (some (.agg #[.string ⟨#[]⟩, .string ⟨#[]⟩]), 2, 32) := by kernel_rfl
/-- a field as a value, and a list's fields as cells -/
def fv (f : Fld) : Value := .agg #[.string (bs f.1), .string (bs f.2)]
def fcs (l : List Fld) : List Value := l.flatMap fun f => [.string (bs f.1), .string (bs f.2)]
theorem fcs_len (l : List Fld) : (fcs l).length = l.length * 2 := by
  induction l with
  | nil => rfl
  | cons f r ih => simp [fcs] at ih ⊢; omega
theorem fcs_append (a b : List Fld) : fcs (a ++ b) = fcs a ++ fcs b := by simp [fcs]
theorem fcs_at (l : List Fld) (j : Nat) (hj : j < l.length) : (fcs l)[j * 2]? = some (.string (bs l[j].1)) ∧ (fcs l)[j * 2 + 1]? = some (.string (bs l[j].2)) := by
  induction l generalizing j with
  | nil => exact absurd hj (by simp)
  | cons f r ih =>
    have e : fcs (f :: r) = .string (bs f.1) :: .string (bs f.2) :: fcs r := by simp [fcs]
    rw [e]
    cases j with
    | zero => exact ⟨rfl, rfl⟩
    | succ k =>
      obtain ⟨h1, h2⟩ := ih k (by simpa using hj)
      rw [show (k + 1) * 2 = k * 2 + 2 from by omega]
      exact ⟨h1, h2⟩
theorem fcs_one (l : List Fld) : ∀ v ∈ fcs l, v.oneCell' = true := by
  intro v hv
  simp only [fcs, List.mem_flatMap] at hv
  obtain ⟨f, _, h⟩ := hv
  simp at h
  rcases h with rfl | rfl <;> rfl

/-- the slice v reads as the fields l -/
def FL (w : World) (v : Value) (l : List Fld) : Prop :=
  (l = [] ∧ ∃ A c, v = .slice A 0 c) ∨ ∃ b off c, v = .slice (some ⟨b, off, none⟩) l.length c ∧ b < w.heap.size ∧
    ∀ j (hj : j < l.length), w.cell? ⟨b, off + j * 2, none⟩ = some (.string (bs l[j].1)) ∧ w.cell? ⟨b, off + j * 2 + 1, none⟩ = some (.string (bs l[j].2))
theorem FL.form {w : World} {v : Value} {l : List Fld} (h : FL w v l) : ∃ A c, v = .slice A l.length c := by
  rcases h with ⟨rfl, A, c, rfl⟩ | ⟨b, off, c, rfl, _⟩
  · exact ⟨A, c, rfl⟩
  · exact ⟨_, _, rfl⟩
theorem FL.bel {w w' : World} {v : Value} {l : List Fld} (h : FL w v l) (hb : Below w.heap.size w w') : FL w' v l := by
  rcases h with h | ⟨b, off, c, hv, hlt, hc⟩
  · exact .inl h
  · exact .inr ⟨b, off, c, hv, Nat.lt_of_lt_of_le hlt hb.size, fun j hj => ⟨(hb.cell (p := ⟨b, off + j * 2, none⟩) hlt).trans (hc j hj).1, (hb.cell (p := ⟨b, off + j * 2 + 1, none⟩) hlt).trans (hc j hj).2⟩⟩
theorem FL.get {w : World} {A : Option Addr} {n c : Nat} {l : List Fld} (h : FL w (.slice A n c) l) (j : Nat) (hj : j < l.length) :
    ∃ b off, A = some ⟨b, off, none⟩ ∧ b < w.heap.size ∧ w.cell? ⟨b, off + j * 2, none⟩ = some (.string (bs l[j].1)) ∧ w.cell? ⟨b, off + j * 2 + 1, none⟩ = some (.string (bs l[j].2)) := by
  rcases h with ⟨rfl, _⟩ | ⟨b, off, c, hv, hlt, hc⟩
  · exact absurd hj (by simp)
  · simp only [Value.slice.injEq] at hv
    exact ⟨b, off, hv.1, hlt, (hc j hj).1, (hc j hj).2⟩
theorem FL_nil (w : World) : FL w (.slice none 0 0) [] := .inl ⟨rfl, _, _, rfl⟩

/-- the slice v reads as the texts L -/
def SL (w : World) (v : Value) (L : List (List UInt8)) : Prop :=
  (L = [] ∧ ∃ A c, v = .slice A 0 c) ∨ ∃ b off c, v = .slice (some ⟨b, off, none⟩) L.length c ∧ b < w.heap.size ∧ ∀ j (hj : j < L.length), w.cell? ⟨b, off + j, none⟩ = some (.string (bs L[j]))
theorem SL.form {w : World} {v : Value} {L : List (List UInt8)} (h : SL w v L) : ∃ A c, v = .slice A L.length c := by
  rcases h with ⟨rfl, A, c, rfl⟩ | ⟨b, off, c, rfl, _⟩
  · exact ⟨A, c, rfl⟩
  · exact ⟨_, _, rfl⟩
theorem SL.bel {w w' : World} {v : Value} {L : List (List UInt8)} (h : SL w v L) (hb : Below w.heap.size w w') : SL w' v L := by
  rcases h with h | ⟨b, off, c, hv, hlt, hc⟩
  · exact .inl h
  · exact .inr ⟨b, off, c, hv, Nat.lt_of_lt_of_le hlt hb.size, fun j hj => (hb.cell (p := ⟨b, off + j, none⟩) hlt).trans (hc j hj)⟩
theorem SL.get {w : World} {A : Option Addr} {n c : Nat} {L : List (List UInt8)} (h : SL w (.slice A n c) L) (j : Nat) (hj : j < L.length) :
    ∃ b off, A = some ⟨b, off, none⟩ ∧ b < w.heap.size ∧ w.cell? ⟨b, off + j, none⟩ = some (.string (bs L[j])) := by
  rcases h with ⟨rfl, _⟩ | ⟨b, off, c, hv, hlt, hc⟩
  · exact absurd hj (by simp)
  · simp only [Value.slice.injEq] at hv
    exact ⟨b, off, hv.1, hlt, hc j hj⟩
theorem SL_nil (w : World) : SL w (.slice none 0 0) [] := .inl ⟨rfl, _, _, rfl⟩
/-- a slice literal of one text -/
theorem SL_lit (w : World) (x : List UInt8) : SL (w.alloc (.cells #[.string (bs x)] 9)) (.slice (some ⟨w.heap.size, 0, none⟩) 1 1) [x] := by
  refine .inr ⟨w.heap.size, 0, 1, rfl, by simp, fun j hj => ?_⟩
  have : j = 0 := by simpa using hj
  subst this
  exact cell_of_one (heap_alloc_new w (.cells #[.string (bs x)] 9))
theorem ownS.sl {w : World} {base : Nat} {v : Value} {L : List (List UInt8)} (h : ownS w base v L) : SL w v L := by
  rcases h.2 with ⟨rfl, hn⟩ | ⟨g, cap, cur, rfl, hb, hg, hnc, hcm, hcs, ht⟩
  · exact .inl ⟨List.eq_nil_of_length_eq_zero hn, _, _, rfl⟩
  · refine .inr ⟨g, 0, cap, rfl, (Array.getElem?_eq_some_iff.1 hg).1, fun j hj => ?_⟩
    obtain ⟨g', e, hc⟩ := ownS.cell h j hj
    simp only [Option.some.injEq, Addr.mk.injEq, and_true] at e
    subst e
    rw [Nat.zero_add, hc]
    simp [List.getD, hj]
theorem ownS.bel {w w' : World} {base : Nat} {v : Value} {L : List (List UInt8)} (h : ownS w base v L) (hb : Below w.heap.size w w') : ownS w' base v L := h.below hb (Nat.le_refl _)

/-- a slice of the call's own that holds the fields l -/
def ownF (w : World) (base : Nat) (v : Value) (l : List Fld) : Prop := w.ownsRow base 42 2 v l.length (fcs l)
theorem ownF_nil (w : World) (base : Nat) : ownF w base (.slice none 0 0) [] := World.ownsRow_nil _ _ _ _
theorem ownF.alloc {w : World} {base : Nat} {v : Value} {l : List Fld} (h : ownF w base v l) (o : Obj) : ownF (w.alloc o) base v l := World.ownsRow.alloc h o
theorem ownF.bel {w w' : World} {base : Nat} {v : Value} {l : List Fld} (h : ownF w base v l) (hb : Below w.heap.size w w') : ownF w' base v l := by
  refine ⟨h.1, ?_⟩
  rcases h.2 with hn | ⟨g, cap, cur, hv, hbg, hg, r⟩
  · exact .inl hn
  · exact .inr ⟨g, cap, cur, hv, hbg, by rw [hb.block g (Array.getElem?_eq_some_iff.1 hg).1]; exact hg, r⟩
theorem ownF.mono {w : World} {base base' : Nat} {v : Value} {l : List Fld} (h : ownF w base v l) (hb : base' ≤ base) : ownF w base' v l := by
  refine ⟨h.1, ?_⟩
  rcases h.2 with hn | ⟨g, cap, cur, hv, hbg, r⟩
  · exact .inl hn
  · exact .inr ⟨g, cap, cur, hv, by omega, r⟩
theorem ownF.fl {w : World} {base : Nat} {v : Value} {l : List Fld} (h : ownF w base v l) : FL w v l := by
  rcases h.2 with ⟨rfl, hn⟩ | ⟨g, cap, cur, rfl, hb, hg, hnc, hcm, hcs, ht⟩
  · exact .inl ⟨List.eq_nil_of_length_eq_zero hn, _, _, rfl⟩
  · refine .inr ⟨g, 0, cap, rfl, (Array.getElem?_eq_some_iff.1 hg).1, fun j hj => ?_⟩
    obtain ⟨h1, h2⟩ := fcs_at l j hj
    have hh : w.ownsRow base 42 2 (.slice (some ⟨g, 0, none⟩) l.length cap) l.length (fcs l) := h
    rw [Nat.zero_add, hh.cellAt (j * 2) (by omega), hh.cellAt (j * 2 + 1) (by omega)]
    exact ⟨h1, h2⟩
theorem ownF.form {w : World} {base : Nat} {v : Value} {l : List Fld} (h : ownF w base v l) : ∃ A c, v = .slice A l.length c := h.fl.form
/-- 'append(l, f)': the fields, and f. (The new one lies in a block of its own, laid just ahead.) -/
theorem wpList_appF {w0 w : World} {ops : Array Oper} {rest : List Oper} {o : Oper} {a : Act} {Q : Exit → Act → World → Prop} (hgd : o.guard = none) (s x : Operand)
    (ho : o.op = .call { callee := .builtin .append, args := #[s, x], argTypes := #[22, 22] })
    (base B : Nat) (v : Value) (l : List Fld) (f1 f2 : List UInt8) (hs : a.eval s = v) (hown : ownF w base v l) (hb : Below B w0 w) (hBb : B ≤ base) (hbase : base ≤ w.heap.size)
    {g : Nat} (hx : a.eval x = .slice (some ⟨g, 0, none⟩) 1 1) (hlen : l.length + 1 ≤ 4294967296)
    (h : ∀ v' w', Hid (ownF w' base v' (l ++ [(f1, f2)])) → Hid (Below B w0 w') → Hid (∀ b, b < base → w'.heap[b]? = w.heap[b]?) → wpList Tryd.prog ops Q rest (a.put o.dst v') w') (hg : g = w.heap.size := by simp) :
    wpList Tryd.prog ops Q (o :: rest) a (w.alloc (.cells #[.string (bs f1), .string (bs f2)] 42)) := by
  obtain ⟨i0, hi, hz0, hz1, hz2⟩ := info_parts infoF
  subst hg
  refine wpList_append_own _ hgd s x 22 ho base 42 i0 (.agg #[.string ⟨#[]⟩, .string ⟨#[]⟩]) 2 32 Tryd.underlying22 hi hz0 hz1 hz2 rfl (by decide) v l.length _ hs (hown.alloc _) ⟨w.heap.size, 0, none⟩ 1 1 [.string (bs f1), .string (bs f2)] hx rfl ?_ ?_ ?_ ?_ ?_ ?_
  · exact World.news_of_block (heap_alloc_new w _)
  · intro v hv; simp at hv; rcases hv with rfl | rfl <;> rfl
  · unfold maxLen; omega
  · omega
  · simp; omega
  · intro v' w' h1 h2 _
    have hge : ∀ k, v.ownBlock = some k → base ≤ k := fun k hk => (World.ownsRow.lt hown k hk).1
    refine h v' w' ?_ ?_ ?_
    · have : (l ++ [(f1, f2)]).length = l.length + 1 := by simp
      show ownF _ _ _ _
      unfold ownF
      rw [this, fcs_append]
      exact h1
    · exact (hb.alloc (by omega) _).grown h2 (by simp; omega) (fun k hk => Nat.le_trans hBb (hge k hk))
    · intro b hb
      rw [h2.block b (by simp; omega) (fun e => by have := hge b e.symm; omega)]
      exact Below.heap_alloc _ _ _ (by omega)
end Go.Proofs.YtdaiielhohdgiaaDoor

/- Which fields may be: the fields layer's functions and the document's own. -/
namespace Go.Proofs.YtdaiielhohdgiaaDoor
open Go.RowKit

theorem ret_i64 {a b : Int} (h : a = b) : Ending.returned (.int .i64 a) = .returned (.int .i64 b) := by rw [h]
theorem token_l (n : List UInt8) (w : World) (h : n.length ≤ maxLen) : Calls Tryd.prog 65 #[.string (bs n)] w fun e w' => e = .returned (.bool (token n)) ∧ w = w' := by
  have := token_any (bs n) w (by rw [bs_size]; exact h)
  rwa [bs_data] at this
theorem lower_l (n : List UInt8) (w : World) (h : n.length ≤ maxLen) : Calls Tryd.prog 38 #[.string (bs n)] w fun e w' => e = .returned (.string (bs (lower n))) ∧ Below w.heap.size w w' := by
  have := lower_any (bs n) w (by rw [bs_size]; exact h)
  rwa [bs_data] at this
theorem rlower_l (n : List UInt8) (w : World) (h : n.length ≤ 140737488351232) : Calls Tryd.prog 13 #[.string (bs n)] w fun e w' => e = .returned (.string (bs (lower n))) ∧ Below w.heap.size w w' := by
  have := rlower_any (bs n) w (by rw [bs_size]; exact h)
  rwa [bs_data] at this
theorem trim_l (n : List UInt8) (w : World) (h : n.length ≤ 281474976710656) : Calls Tryd.prog 78 #[.string (bs n)] w fun e w' => e = .returned (.string (bs (trim n))) ∧ Below w.heap.size w w' := by
  have := trim_any (bs n) w (by rw [bs_size]; exact h)
  rwa [bs_data] at this
theorem clone_l (n : List UInt8) (w : World) (h : n.length ≤ 281474976710656) : Calls Tryd.prog 19 #[.string (bs n)] w fun e w' => e = .returned (.string (bs n)) ∧ Below w.heap.size w w' :=
  clone_any (bs n) w (by rw [bs_size]; exact h)
theorem bs_append (x y : List UInt8) : bs x ++ bs y = bs (x ++ y) := by
  apply ByteArray.ext
  rw [ByteArray.data_append]
  simp [bs]
theorem add_l (x y : List UInt8) (w : World) (h : x.length + y.length ≤ 9223372036854775807) : (Op.stringOp .add (bs x) (bs y)).run Tryd.prog w = .ok (.string (bs (x ++ y))) w := by
  rw [← bs_append]
  simp [Op.stringOp]
  omega

set_option maxHeartbeats 400000 in
theorem lineOf_any (f : Fld) (w : World) (h1 : f.1.length ≤ 4294967296) (h2 : f.2.length ≤ 4294967296) :
    Calls Tryd.prog 29 #[fv f] w fun e w' => e = .returned (.string (bs (lineL f))) ∧ Below w.heap.size w w' := by
  obtain ⟨n, v⟩ := f; simp only at h1 h2
  have s1 := fun w => add_l n [58, 32] w (by simp only [List.length_cons, List.length_nil]; omega)
  have s2 := fun w => add_l (n ++ [58, 32]) v w (by simp only [List.length_append, List.length_cons, List.length_nil]; omega)
  rw [show bs [58, 32] = ⟨#[58, 32]⟩ from rfl] at s1
  unfold fv lineL
  go_enter Tryd.func29, Tryd.ntmps29
  go_wp2_with fail
  go_ret
  exact ⟨ret_str (by simp), (Below.refl _ _).alloc (Nat.le_refl _) _⟩

set_option maxHeartbeats 400000 in
theorem validValue_any (s : ByteArray) (w : World) (hs : s.size ≤ 4294967296) :
    Calls Tryd.prog 66 #[.string s] w fun e w' => e = .returned (.bool (valV s.data.toList)) ∧ Below w.heap.size w w' := by
  go_enter Tryd.func66, Tryd.ntmps66
  go_wp2_with fail
  go_loop [7] (fun i => ∃ k : Nat, k ≤ s.size ∧ i = .int .i64 k ∧ (s.data.toList.take k).all mayB = true) (fun i => s.size - (intOf i).toNat)
  case atStart => exact ⟨0, Nat.zero_le _, rfl, rfl⟩
  case round =>
    obtain ⟨k, hk, rfl, ht⟩ := hrel
    have HT := Lib.hid ht; clear ht
    by_cases hlt : k < s.size
    · cases hm : mayI (s[k].toNat : Int)
      · have HA := Lib.hid (valV_byte hlt hm)
        rcases bad_byte hm with ⟨h1, h2⟩ | ⟨h1, h2⟩
        all_goals
          clear hm
          go_wp2_with fail
          go_ret
          exact ⟨ret_bool HA.out.symm, Below.refl _ _⟩
      · have HA := Lib.hid (all_snoc s mayB k hlt HT.out hm)
        rcases good_byte hm with ⟨h1, h2, h3⟩ | ⟨h1, h2⟩
        all_goals
          clear hm
          go_wp2_with fail
          go_round
          case rel => exact ⟨k + 1, by omega, by go_num, HA.out⟩
          case measure => simp [intOf]; omega
    · have HA : Hid (valV s.data.toList = (trim s.data.toList == s.data.toList)) := by
        have h := HT.out
        rw [take_all hlt] at h
        show _ = _
        unfold valV; rw [h, Bool.true_and]
      go_wp2_with (go_at_call 78; refine (trim_any _ _ (by omega)).mono ?_; rintro e w' ⟨rfl, hb⟩)
      go_ret
      exact ⟨ret_bool (by rw [HA.out]; simp only [Lib.toList_data, bs_data]), hb⟩

theorem valid_l (n : List UInt8) (w : World) (h : n.length ≤ 4294967296) : Calls Tryd.prog 66 #[.string (bs n)] w fun e w' => e = .returned (.bool (valV n)) ∧ Below w.heap.size w w' := by
  have := validValue_any (bs n) w (by rw [bs_size]; exact h)
  rwa [bs_data] at this

set_option maxHeartbeats 800000 in
theorem checkField_any (f : Fld) (w : World) (h1 : f.1.length ≤ 4294967296) (h2 : f.2.length ≤ 4294967296) :
    Calls Tryd.prog 49 #[fv f] w fun e w' => e = .returned (.int .i64 (chkF f)) ∧ Below w.heap.size w w' := by
  have hl := line_len f
  obtain ⟨n, v⟩ := f; simp only at h1 h2
  have ht := fun w => token_l n w (by unfold maxLen; omega)
  have hv := fun w => valid_l v w h2
  have ho := fun w => lineOf_any (n, v) w h1 h2
  have hc : (mayF (n, v) = (token n && valV v)) := rfl
  have hg : longF (n, v) = decide ((2048 : Int) < ((lineL (n, v)).length : Int)) := by rw [hl]; unfold longF; rw [decide_eq_decide]; omega
  unfold fv at ho ⊢
  cases h3 : token n
  · rw [h3] at ht hc
    have HC : Hid (chkF (n, v) = 4) := by show _ = _; unfold chkF; rw [hc]; rfl
    have HT := Lib.hid ht
    clear ht hv ho hc hg hl h3
    go_enter Tryd.func49, Tryd.ntmps49
    go_wp2_with (go_at_call 65; refine (HT.out _).mono ?_; rintro e w' ⟨rfl, rfl⟩)
    go_ret
    exact ⟨by rw [HC.out]; rfl, (Below.refl _ _).alloc (Nat.le_refl _) _⟩
  · cases h4 : valV v
    · rw [h3] at ht hc; rw [h4] at hv hc
      have HC : Hid (chkF (n, v) = 4) := by show _ = _; unfold chkF; rw [hc]; rfl
      have HT := Lib.hid ht; have HV := Lib.hid hv
      clear ht hv ho hc hg hl h3 h4
      go_enter Tryd.func49, Tryd.ntmps49
      go_wp2_with (first | (go_at_call 65; refine (HT.out _).mono ?_; rintro e w' ⟨rfl, rfl⟩) | (go_at_call 66; refine (HV.out _).mono ?_; rintro e w' ⟨rfl, hb⟩))
      go_ret
      exact ⟨by rw [HC.out]; rfl, ((Below.refl _ _).alloc (Nat.le_refl _) _).trans (hb.mono (by simp))⟩
    · rw [h3] at ht hc; rw [h4] at hv hc
      have HT := Lib.hid ht; have HV := Lib.hid hv; have HO := Lib.hid ho
      have hlen : ¬ 9223372036854775807 < (lineL (n, v)).length := by rw [hl]; unfold lenF; simp only; omega
      cases h5 : longF (n, v)
      · have HC : Hid (chkF (n, v) = 0) := by show _ = _; unfold chkF; rw [hc, h5]; rfl
        rw [h5] at hg
        clear ht hv ho hc hl h3 h4 h5
        generalize lineL (n, v) = L at *
        have hg2 := hg.symm; clear hg
        go_enter Tryd.func49, Tryd.ntmps49
        go_wp2_with (first | (go_at_call 65; refine (HT.out _).mono ?_; rintro e w' ⟨rfl, rfl⟩) | (go_at_call 66; refine (HV.out _).mono ?_; rintro e w1 ⟨rfl, hb1⟩; have hc1 := hb1.cell (p := ⟨w.heap.size, 0, none⟩) (by simp); have hc2 := hb1.cell (p := ⟨w.heap.size, 1, none⟩) (by simp)) | (go_at_call 29; refine (HO.out _).mono ?_; rintro e w2 ⟨rfl, hb2⟩))
        go_ret
        exact ⟨by rw [HC.out]; rfl, (((Below.refl _ _).alloc (Nat.le_refl _) _).trans (hb1.mono (by simp))).trans (hb2.mono (by have := hb1.size; simp at this; omega))⟩
      · have HC : Hid (chkF (n, v) = 3) := by show _ = _; unfold chkF; rw [hc, h5]; rfl
        rw [h5] at hg
        clear ht hv ho hc hl h3 h4 h5
        generalize lineL (n, v) = L at *
        have hg2 := hg.symm; clear hg
        go_enter Tryd.func49, Tryd.ntmps49
        go_wp2_with (first | (go_at_call 65; refine (HT.out _).mono ?_; rintro e w' ⟨rfl, rfl⟩) | (go_at_call 66; refine (HV.out _).mono ?_; rintro e w1 ⟨rfl, hb1⟩; have hc1 := hb1.cell (p := ⟨w.heap.size, 0, none⟩) (by simp); have hc2 := hb1.cell (p := ⟨w.heap.size, 1, none⟩) (by simp)) | (go_at_call 29; refine (HO.out _).mono ?_; rintro e w2 ⟨rfl, hb2⟩))
        go_ret
        exact ⟨by rw [HC.out]; rfl, (((Below.refl _ _).alloc (Nat.le_refl _) _).trans (hb1.mono (by simp))).trans (hb2.mono (by have := hb1.size; simp at this; omega))⟩
end Go.Proofs.YtdaiielhohdgiaaDoor

/- A region that draws its order, walked once under ONE condition on the world that every step keeps; where two steps that make memory may come up, both ways. No program is read here. -/
namespace Go.Proofs.YtdaiielhohdgiaaDoor
open Go.RowKit

/-- an order: one step (true: it makes memory or writes, and is the only one that may come up), or one of two that may come up -/
inductive GT where
  | done
  | one (i : Nat) (c : Bool) (t : GT)
  | two (i j : Nat) (t u : GT)
def GT.depth : GT → Nat
  | .done => 0
  | .one _ _ t => t.depth + 1
  | .two _ _ t _ => t.depth + 1
inductive GTo where
  | done
  | one (o : Oper) (c : Bool) (t : GTo)
  | two (o p : Oper) (t u : GTo)
def noOp : Oper := { dst := none, op := .assign (.const undef), type := 0, pos := "", after := #[], guard := none }
def GT.ins (l : List Oper) : GT → GTo
  | .done => .done
  | .one i c t => .one (l.getD i noOp) c (t.ins l)
  | .two i j t u => .two (l.getD i noOp) (l.getD j noOp) (t.ins l) (u.ins l)
def GT.within (n : Nat) : GT → Bool
  | .done => true
  | .one i _ t => decide (i < n) && t.within n
  | .two i j t u => decide (i < n) && decide (j < n) && t.within n && u.within n

section
variable {P : Program} {ops : Array Oper} {Q : Exit → Act → World → Prop} {md : Region.Mode} {S : World → Prop}

def okT (md : Region.Mode) (ops : Array Oper) : GT → Array Bool → Bool
  | .done, listed => (Region.ready md ops listed).isEmpty
  | .one i c t, listed => (if c then decide (Region.ready md ops listed = [i]) else Region.free md ops listed i && (Region.ready md ops listed).contains i) && okT md ops t (listed.setIfInBounds i true)
  | .two i j t u, listed => decide (Region.ready md ops listed = [i, j]) && decide (t.depth = u.depth) && okT md ops t (listed.setIfInBounds i true) && okT md ops u (listed.setIfInBounds j true)

def wpTo (P : Program) (ops : Array Oper) (Q : Exit → Act → World → Prop) (S : World → Prop) : GTo → Act → World → Prop
  | .done, a, w => Q .normal a w
  | .one o c t, a, w =>
    (Region.wanted o (yielded ops a.tmps) = false ∧ wpTo P ops Q S t (a.put o.dst undef) w) ∨
    (Region.wanted o (yielded ops a.tmps) = true ∧ c = true ∧ Oper.wp P o a w (fun a' w' => S w' ∧ wpTo P ops Q S t a' w') Q) ∨
    (Region.wanted o (yielded ops a.tmps) = true ∧ c = false ∧ ∃ v, (∀ w', S w' → (execOp a.eval o).run P w' = .ok (.value v) w') ∧ wpTo P ops Q S t (a.put o.dst v) w)
  | .two o p t u, a, w =>
    Region.wanted o (yielded ops a.tmps) = true ∧ Region.wanted p (yielded ops a.tmps) = true ∧
    Oper.wp P o a w (fun a' w' => S w' ∧ wpTo P ops Q S t a' w') Q ∧ Oper.wp P p a w (fun a' w' => S w' ∧ wpTo P ops Q S u a' w') Q

theorem growS_sound {l : List Oper} (hs : Region.noSelect l.toArray = true) (hQ : ∀ c a d v w, Q (.panic c) (Act.put a d v) w → Q (.panic c) a w) : ∀ (t : GT) (listed : Array Bool) (a : Act) (w : World),
    okT md l.toArray t listed = true → t.within l.length = true → S w → wpTo P l.toArray Q S (t.ins l) a w → wpAnyH P md l.toArray Q S t.depth listed a w
  | .done, listed, a, w, hk, _, _, h => wpAnyH_done (by simpa [okT] using hk) h _
  | .one i c t, listed, a, w, hk, hin, hS, h => by
    rw [okT, Bool.and_eq_true] at hk
    rw [GT.within, Bool.and_eq_true] at hin
    obtain ⟨hk1, hk2⟩ := hk
    have hi : i < l.length := of_decide_eq_true hin.1
    have ho : l.toArray[i]? = some (l.getD i noOp) := by simp [List.getD_eq_getElem?_getD, hi]
    rw [GT.ins] at h
    rcases h with ⟨hw, h⟩ | ⟨hw, rfl, h⟩ | ⟨hw, rfl, v, hv, h⟩
    · cases c
      · simp only [Bool.false_eq_true, if_false, Bool.and_eq_true] at hk1
        exact wpAnyH_take ho hs hk1.1 hk1.2 (fun c a w => hQ c a _ _ w) (.inr ⟨hw, rfl⟩) hS (growS_sound hs hQ t _ _ _ hk2 hin.2 hS h)
      · simp only [if_true] at hk1
        refine wpAnyH_all (of_decide_eq_true hk1) (by simp) fun j hj => ?_
        obtain rfl : j = i := by simpa using hj
        unfold wpOp
        simp only [ho, hw, Bool.false_eq_true, if_false]
        exact ⟨hS, growS_sound hs hQ t _ _ _ hk2 hin.2 hS h⟩
    · simp only [if_true] at hk1
      refine wpAnyH_all (of_decide_eq_true hk1) (by simp) fun j hj => ?_
      obtain rfl : j = i := by simpa using hj
      unfold wpOp
      simp only [ho, hw, if_true]
      exact .inl (Oper.wp_mono (fun a' w' k => ⟨k.1, growS_sound hs hQ t _ _ _ hk2 hin.2 k.1 k.2⟩) h)
    · simp only [Bool.false_eq_true, if_false, Bool.and_eq_true] at hk1
      exact wpAnyH_take ho hs hk1.1 hk1.2 (fun c a w => hQ c a _ _ w) (.inl ⟨hw, hv⟩) hS (growS_sound hs hQ t _ _ _ hk2 hin.2 hS h)
  | .two i j t u, listed, a, w, hk, hin, hS, h => by
    simp only [okT, Bool.and_eq_true, decide_eq_true_eq] at hk
    simp only [GT.within, Bool.and_eq_true, decide_eq_true_eq] at hin
    obtain ⟨⟨⟨hk1, hd⟩, hk2⟩, hk3⟩ := hk
    obtain ⟨⟨⟨hi, hj⟩, hin1⟩, hin2⟩ := hin
    have ho : l.toArray[i]? = some (l.getD i noOp) := by simp [List.getD_eq_getElem?_getD, hi]
    have hp : l.toArray[j]? = some (l.getD j noOp) := by simp [List.getD_eq_getElem?_getD, hj]
    rw [GT.ins] at h
    obtain ⟨hw1, hw2, h1, h2⟩ := h
    rw [GT.depth]
    refine wpAnyH_all hk1 (by simp) fun k hk => ?_
    rcases List.mem_cons.1 hk with rfl | hk
    · unfold wpOp
      simp only [ho, hw1, if_true]
      exact .inl (Oper.wp_mono (fun a' w' k => ⟨k.1, growS_sound hs hQ t _ _ _ hk2 hin1 k.1 k.2⟩) h1)
    · obtain rfl : k = j := by simpa using hk
      unfold wpOp
      simp only [hp, hw2, if_true]
      refine .inl (Oper.wp_mono (fun a' w' k => ⟨k.1, ?_⟩) h2)
      rw [hd]
      exact growS_sound hs hQ u _ _ _ hk3 hin2 k.1 k.2

/-- The region by a tree of orders, under the condition S. -/
theorem wp_region_growS {id : Nat} {a : Act} {w : World} {l : List Oper} (t : GT) (S : World → Prop) (hm : P.follows .mixedOrders = true) (hs : Region.noSelect l.toArray = true) (hl : t.depth = l.toArray.size)
    (hk : okT .any l.toArray t (Array.replicate l.toArray.size false) = true) (hb : t.within l.length = true) (hS : S w.drew)
    (h : ∀ ops, Hid (ops = l.toArray) → wpTo P ops (NoPanic Q) S (t.ins l) a w.drew) : (Code.region id l.toArray true).wp P Q a w := by
  refine wp_region_noPanic (wp_region_held (S := S) hm ?_)
  rw [← hl] at hk ⊢
  exact growS_sound hs (fun _ _ _ _ _ h => h) t _ _ _ hk hb hS (h _ rfl)

theorem growS_call {o : Oper} {t : GTo} {a : Act} {w : World} (hw : Region.wanted o (yielded ops a.tmps) = true)
    (h : ∀ K : Act → World → Prop, Hid (∀ a' w', S w' → wpTo P ops Q S t a' w' → K a' w') → Oper.wp P o a w K Q) : wpTo P ops Q S (.one o true t) a w :=
  .inr (.inl ⟨hw, rfl, h _ (fun _ _ h1 h2 => ⟨h1, h2⟩)⟩)
theorem growS_take {o : Oper} {t : GTo} {a : Act} {w : World} (hw : Region.wanted o (yielded ops a.tmps) = true)
    (h : ∃ v, (∀ w', S w' → (execOp a.eval o).run P w' = .ok (.value v) w') ∧ wpTo P ops Q S t (a.put o.dst v) w) : wpTo P ops Q S (.one o false t) a w :=
  .inr (.inr ⟨hw, rfl, h⟩)
theorem growS_skip {o : Oper} {c : Bool} {t : GTo} {a : Act} {w : World} (hw : Region.wanted o (yielded ops a.tmps) = false) (h : wpTo P ops Q S t (a.put o.dst undef) w) : wpTo P ops Q S (.one o c t) a w :=
  .inl ⟨hw, h⟩
theorem growS_done {a : Act} {w : World} (h : Q .normal a w) : wpTo P ops Q S .done a w := h
theorem growS_two {o p : Oper} {t u : GTo} {a : Act} {w : World} (hw : Region.wanted o (yielded ops a.tmps) = true) (hw2 : Region.wanted p (yielded ops a.tmps) = true)
    (h1 : ∀ K : Act → World → Prop, Hid (∀ a' w', S w' → wpTo P ops Q S t a' w' → K a' w') → Oper.wp P o a w K Q)
    (h2 : ∀ K : Act → World → Prop, Hid (∀ a' w', S w' → wpTo P ops Q S u a' w' → K a' w') → Oper.wp P p a w K Q) : wpTo P ops Q S (.two o p t u) a w :=
  ⟨hw, hw2, h1 _ (fun _ _ h1 h2 => ⟨h1, h2⟩), h2 _ (fun _ _ h1 h2 => ⟨h1, h2⟩)⟩
end
end Go.Proofs.YtdaiielhohdgiaaDoor

/- Copies of fields; a set of names, and the closures that ask it; the fields that stay. -/
namespace Go.Proofs.YtdaiielhohdgiaaDoor
open Go.RowKit

/-- block b is a field's two cells -/
def oneF2 (w : World) (b : Nat) (x y : Value) : Prop := w.heap[b]? = some (.cells #[x, y] 42 (0, 0))
theorem oneF2.cells {w : World} {b : Nat} {x y : Value} (h : oneF2 w b x y) : w.cell? ⟨b, 0, none⟩ = some x ∧ w.cell? ⟨b, 1, none⟩ = some y ∧ w.frozen? ⟨b, 0, none⟩ = false ∧ w.frozen? ⟨b, 1, none⟩ = false := by
  unfold oneF2 at h
  simp [World.cell?, World.frozen?, h]
theorem oneF2.bel {w w' : World} {b : Nat} {x y : Value} (h : oneF2 w b x y) (hb : Below w.heap.size w w') : oneF2 w' b x y :=
  (hb.block b (Array.getElem?_eq_some_iff.1 h).1).trans h
theorem oneF2.new (w : World) (x y : Value) : oneF2 (w.alloc (.cells #[x, y] 42)) w.heap.size x y := heap_alloc_new w _

set_option maxHeartbeats 1000000 in
set_option maxRecDepth 100000 in
theorem copied_any (f : Fld) (w : World) (h1 : f.1.length ≤ 281474976710656) (h2 : f.2.length ≤ 281474976710656) :
    Calls Tryd.prog 40 #[fv f] w fun e w' => e = .returned (fv f) ∧ Below w.heap.size w w' := by
  obtain ⟨n, v⟩ := f; simp only at h1 h2
  unfold fv; simp only
  have HP : Hid (oneF2 ((w.alloc (.cells #[.string (bs n), .string (bs v)] 42)).alloc (.cells #[.string ⟨#[]⟩, .string ⟨#[]⟩] 42)) w.heap.size (.string (bs n)) (.string (bs v))) :=
    (oneF2.new _ _ _).bel ((Below.refl _ _).alloc (Nat.le_refl _) _)
  have HR : Hid (oneF2 ((w.alloc (.cells #[.string (bs n), .string (bs v)] 42)).alloc (.cells #[.string ⟨#[]⟩, .string ⟨#[]⟩] 42)) (w.heap.size + 1) (.string ⟨#[]⟩) (.string ⟨#[]⟩)) := by
    have h := oneF2.new (w.alloc (.cells #[.string (bs n), .string (bs v)] 42)) (.string ⟨#[]⟩) (.string ⟨#[]⟩)
    rw [World.size_alloc] at h
    exact h
  have HB : Hid (Below w.heap.size w ((w.alloc (.cells #[.string (bs n), .string (bs v)] 42)).alloc (.cells #[.string ⟨#[]⟩, .string ⟨#[]⟩] 42))) := ((Below.refl _ _).alloc (Nat.le_refl _) _).alloc (by simp) _
  have HZ : Hid (w.heap.size + 2 = ((w.alloc (.cells #[.string (bs n), .string (bs v)] 42)).alloc (.cells #[.string ⟨#[]⟩, .string ⟨#[]⟩] 42)).heap.size) := by show _ = _; simp
  go_enter Tryd.func40, Tryd.ntmps40
  go_wp2_with fail
  generalize (w.alloc (.cells #[.string (bs n), .string (bs v)] 42)).alloc (.cells #[.string ⟨#[]⟩, .string ⟨#[]⟩] 42) = W at *
  refine wp_region_growS (.one 0 false (.one 1 false (.one 3 false (.one 4 false (.one 2 true (.one 5 true (.one 6 false (.one 7 true .done)))))))) (fun x => Below (w.heap.size + 1) W x) (by kernel_rfl) (by kernel_rfl) rfl (by kernel_rfl) (by kernel_rfl) (Below.refl _ _).drew (fun ops hops => ?_)
  simp only [GT.ins, List.getD_cons_zero, List.getD_cons_succ]
  clear hops
  iterate 4
    refine growS_take (by rfl) ?_
    apply Exists.intro
    refine ⟨fun w' hE => ?_, ?_⟩
    · have k1 := (hE.cell (p := ⟨w.heap.size, 0, none⟩) (by simp)).trans HP.out.cells.1
      have k2 := (hE.cell (p := ⟨w.heap.size, 1, none⟩) (by simp)).trans HP.out.cells.2.1
      go_simp
      try with_reducible rfl
    simp only [Act.put, List.setIfInBounds_toArray, List.set_cons_zero, List.set_cons_succ]
  refine growS_call (by rfl) (fun K hK => ?_)
  go_simp
  refine (clone_l n _ h1).mono ?_
  rintro e w1 ⟨rfl, hb1⟩
  have HS1 : Hid (Below (w.heap.size + 1) W w1) := (Below.refl _ _).drew.trans (hb1.mono (by have := HZ.out; show _ ≤ W.heap.size; omega))
  have HR1 := Lib.hid (HR.out.bel (w' := w1) ((Below.refl _ _).drew.trans hb1))
  have HB1 : Hid (Below w.heap.size w w1) := HB.out.trans (((Below.refl _ _).drew.trans hb1).mono HB.out.size)
  have HZ1 : Hid (w.heap.size + 2 ≤ w1.heap.size) := by have h3 := HZ.out; have h4 := hb1.size; show _ ≤ _; rw [h3]; exact h4
  clear hb1
  refine hK.out _ _ HS1.out ?_
  clear hK K
  refine growS_call (by rfl) (fun K hK => ?_)
  go_simp
  refine (clone_l v _ h2).mono ?_
  rintro e w2 ⟨rfl, hb2⟩
  have HS2 : Hid (Below (w.heap.size + 1) W w2) := HS1.out.trans (hb2.mono (by have := HZ1.out; omega))
  have HR2 := Lib.hid (HR1.out.bel hb2)
  have HB2 : Hid (Below w.heap.size w w2) := HB1.out.trans (hb2.mono HB1.out.size)
  clear hb2
  refine hK.out _ _ HS2.out ?_
  clear hK K
  refine growS_take (by rfl) ?_
  apply Exists.intro
  refine ⟨fun w' hE => ?_, ?_⟩
  · go_simp
    try with_reducible rfl
  simp only [Act.put, List.setIfInBounds_toArray, List.set_cons_zero, List.set_cons_succ]
  refine growS_call (by rfl) (fun K hK => ?_)
  obtain ⟨c1, c2, c3, c4⟩ := HR2.out.cells
  go_simp
  have HC : Hid (oneF2 ((w2.setCell ⟨w.heap.size + 1, 0, none⟩ (.string (bs n))).setCell ⟨w.heap.size + 1, 1, none⟩ (.string (bs v))) (w.heap.size + 1) (.string (bs n)) (.string (bs v))) := by
    have h := HR2.out
    show oneF2 _ _ _ _
    unfold oneF2 at h ⊢
    rw [Lib.heap_setCell_same (Lib.heap_setCell_same h _) _]
    simp
  refine hK.out _ _ ((HS2.out.setCell (Nat.le_refl _) _).setCell (Nat.le_refl _) _) ?_
  have HB3 : Hid (Below w.heap.size w ((w2.setCell ⟨w.heap.size + 1, 0, none⟩ (.string (bs n))).setCell ⟨w.heap.size + 1, 1, none⟩ (.string (bs v)))) := (HB2.out.setCell (Nat.le_succ _) _).setCell (Nat.le_succ _) _
  clear hK K c1 c2 c3 c4
  generalize (w2.setCell ⟨w.heap.size + 1, 0, none⟩ (.string (bs n))).setCell ⟨w.heap.size + 1, 1, none⟩ (.string (bs v)) = w3 at *
  refine growS_done (NoPanic.normal ?_)
  simp only [Exit.then]
  obtain ⟨c1, c2, c3, c4⟩ := HC.out.cells
  go_wp2_with fail
  exact bodyPost_ret (v := .agg #[.string (bs n), .string (bs v)]) (by simp [results, Tryd.results40, go_sem, c1, c2]) rfl ⟨rfl, HB3.out⟩
end Go.Proofs.YtdaiielhohdgiaaDoor

/- A set of names in a map, and the closures that ask it. -/
namespace Go.Proofs.YtdaiielhohdgiaaDoor
open Go.RowKit

theorem lawS : Go.Maps.Keyed Tryd.prog 9 := Go.Maps.string_keyed Tryd.underlying9
theorem zeroU (w : World) : (zeroValue 75).run Tryd.prog w = .ok (.agg #[]) w := by kernel_rfl
/-- block m is a map whose keys are the texts L -/
def mapAt (w : World) (m k : Nat) (L : List (List UInt8)) : Prop := w.ownsMap (H := Unit) Tryd.prog 9 unitElem m k (Go.Maps.setOf (.agg []) (L.map Lit.string))
theorem below_grown {w w' : World} (hb : Below w.heap.size w w') : w.grownBy w' none := ⟨hb.os, hb.tape, hb.output, hb.size, fun k hk _ => hb.block k hk⟩
theorem mapAt.bel {w w' : World} {m k : Nat} {L : List (List UInt8)} (h : mapAt w m k L) (hb : Below w.heap.size w w') : mapAt w' m k L := World.ownsMap.kept h (below_grown hb) (by simp)
theorem mapAt.lt {w : World} {m k : Nat} {L : List (List UInt8)} (h : mapAt w m k L) : m < w.heap.size := World.ownsMap.lt h
theorem mapAt_new (w : World) : mapAt (w.alloc (.map #[] 0)) w.heap.size 0 [] := World.ownsMap_made w _ _ _
theorem keyLits (L : List (List UInt8)) : ∀ x ∈ L.map Lit.string, WideAt.IsKeyLit x := by
  intro x hx
  obtain ⟨y, _, rfl⟩ := List.mem_map.1 hx
  trivial
theorem has_lits (L : List (List UInt8)) (n : List UInt8) : Go.Maps.has (Go.Maps.setOf (.agg [] : DataW Unit) (L.map Lit.string)) (.string n) = L.any (· == n) := by
  rw [Go.Maps.has_setOf _ _ _ (keyLits L), List.any_map]
  rfl
theorem key_l (n : List UInt8) (h : n.length ≤ maxLen) : keyOf Tryd.prog 9 (.string (bs n)) = some (.string n) := by
  have := Go.WideMaps.keyOf_string_mk (P := Tryd.prog) (k := 9) Tryd.underlying9 (s := bs n) (by rw [bs_size]; exact h)
  rwa [bs_data] at this
theorem mapAt.look {w : World} {m k : Nat} {L : List (List UInt8)} (h : mapAt w m k L) (n : List UInt8) (hn : n.length ≤ maxLen) :
    (Instr.lookup 74 (.map (some m)) (.string (bs n)) true).run Tryd.prog w = .ok (.tuple #[.agg #[], .bool (L.any (· == n))]) w := by
  obtain ⟨v, ps, hrun, hv⟩ := World.ownsMap.look_ok (t := 74) h lawS Tryd.underlying74 (zeroU w) (zd := .agg []) (zp := []) unitElem_mk (key_l n hn)
  obtain ⟨rfl, _⟩ := unitElem_inv hv
  rw [has_lits] at hrun
  exact hrun
theorem mapAt.put {w : World} {m k : Nat} {L : List (List UInt8)} (h : mapAt w m k L) (n : List UInt8) (hn : n.length ≤ maxLen) (hk : k < maxLen) :
    ∃ w', (Instr.mapUpdate 74 (.map (some m)) (.string (bs n)) (.agg #[])).run Tryd.prog w = .ok () w' ∧ mapAt w' m (k + 1) (L ++ [n]) ∧ w.grownBy w' (some m) := by
  obtain ⟨w', hrun, h1, h2⟩ := World.ownsMap.update (t := 74) h lawS Tryd.underlying74 hk (key_l n hn) (unitElem_mk (H := Unit))
  refine ⟨w', hrun, ?_, h2⟩
  unfold mapAt
  rw [List.map_append, List.map_cons, List.map_nil, Go.Maps.setOf_snoc]
  exact h1
theorem make_map (w : World) (n : Int) : (Instr.makeMap 74 (some (.int .i64 n))).run Tryd.prog w = .ok (.map (some w.heap.size)) (w.alloc (.map #[] 0)) := by
  simp [Instr.makeMap, run_underlying Tryd.underlying74, asInt, asIntOf, Result.andThen]

/-- block b holds a map whose keys are the texts L -/
def knows (w : World) (b : Nat) (L : List (List UInt8)) : Prop := ∃ m k, w.heap[b]? = some (.cells #[.map (some m)] 74 (0, 0)) ∧ mapAt w m k L
theorem knows.bel {w w' : World} {b : Nat} {L : List (List UInt8)} (h : knows w b L) (hb : Below w.heap.size w w') : knows w' b L := by
  obtain ⟨m, k, h1, h2⟩ := h
  exact ⟨m, k, (hb.block b (Array.getElem?_eq_some_iff.1 h1).1).trans h1, h2.bel hb⟩
theorem knows.lt {w : World} {b : Nat} {L : List (List UInt8)} (h : knows w b L) : b < w.heap.size := by
  obtain ⟨m, k, h1, _⟩ := h; exact (Array.getElem?_eq_some_iff.1 h1).1

/-- the small letters of names -/
def lowsOf (L : List (List UInt8)) : List (List UInt8) := L.map lower
theorem lowsOf_any (L : List (List UInt8)) (n : List UInt8) : (lowsOf L).any (· == lower n) = hasN L n := by
  unfold lowsOf hasN; rw [List.any_map]; rfl

set_option maxHeartbeats 2000000 in
set_option maxRecDepth 100000 in
theorem named_any (v : Value) (L : List (List UInt8)) (w : World) (h : SL w v L) (hs : ∀ x ∈ L, x.length ≤ 4294967296) (hl : L.length ≤ 4294967296) :
    Calls Tryd.prog 21 #[v] w fun e w' => e = .returned (.func (.func 39) #[] #[.pointer (some ⟨w.heap.size + 1, 0, none⟩)]) ∧ knows w' (w.heap.size + 1) (lowsOf L) ∧ Below w.heap.size w w' := by
  obtain ⟨A, c, rfl⟩ := h.form
  have HF := Lib.hid h; clear h
  have hmk := make_map
  have HS := Lib.hid hs; clear hs
  go_enter Tryd.func21, Tryd.ntmps21
  go_wp2_with fail
  clear hmk
  go_loopw [11] (fun i wr => ∃ k : Nat, k ≤ L.length ∧ i = .int .i64 k ∧ wr.heap[w.heap.size + 1]? = some (.cells #[.map (some w.heap.size)] 74 (0, 0)) ∧ mapAt wr w.heap.size k (lowsOf (L.take k)) ∧ Below w.heap.size w wr) (fun i _ => L.length - (intOf i).toNat)
  case atStart =>
    refine ⟨0, Nat.zero_le _, rfl, ?_, (mapAt_new w).bel ((Below.refl _ _).alloc (Nat.le_refl _) _), ((Below.refl _ _).alloc (Nat.le_refl _) _).alloc (by simp) _⟩
    have h := heap_alloc_new (w.alloc (.map #[] 0)) (.cells #[.map (some w.heap.size)] 74)
    rw [World.size_alloc] at h
    exact h
  case round =>
    obtain ⟨k, hk, rfl, hh, hm, hb⟩ := hrel
    have HH := Lib.hid hh; have HM := Lib.hid hm; have HB := Lib.hid hb; clear hh hm hb
    by_cases hlt : k < L.length
    · obtain ⟨b, off, rfl, hbb, hc⟩ := (HF.out.bel HB.out).get k hlt
      have hx := HS.out L[k] (List.getElem_mem hlt)
      have HT : Hid (lowsOf (L.take (k + 1)) = lowsOf (L.take k) ++ [lower L[k]]) := by show _ = _; unfold lowsOf; rw [List.take_succ_eq_append_getElem hlt, List.map_append]; rfl
      generalize L[k] = x at *
      have hlow := fun w => lower_l x w (by unfold maxLen; omega)
      have hlen := lower_len x
      have HLen : Hid ((lower x).length ≤ maxLen) := by show _ ≤ _; rw [hlen]; unfold maxLen; omega
      clear hlen
      have HL := Lib.hid hlow; clear hlow
      go_wp2_with fail
      refine wp_region_growS (.one 0 false (.one 1 false (.one 3 false (.one 2 true (.one 4 true .done))))) (fun x => x.cell? ⟨w.heap.size + 1, 0, none⟩ = some (.map (some w.heap.size))) (by kernel_rfl) (by kernel_rfl) rfl (by kernel_rfl) (by kernel_rfl) (cell_of_one HH.out) (fun ops hops => ?_)
      simp only [GT.ins, List.getD_cons_zero, List.getD_cons_succ]
      clear hops
      iterate 3
        refine growS_take (by rfl) ?_
        apply Exists.intro
        refine ⟨fun w' hE => ?_, ?_⟩
        · go_simp
          try with_reducible rfl
        simp only [Act.put, List.setIfInBounds_toArray, List.set_cons_zero, List.set_cons_succ]
      refine growS_call (by rfl) (fun K hK => ?_)
      go_simp
      refine (HL.out _).mono ?_
      rintro e w1 ⟨rfl, hb1⟩
      have hb2 : Below wr.heap.size wr w1 := (Below.refl _ _).drew.trans hb1
      have HH1 : Hid (w1.heap[w.heap.size + 1]? = some (.cells #[.map (some w.heap.size)] 74 (0, 0))) := (hb2.block _ (Array.getElem?_eq_some_iff.1 HH.out).1).trans HH.out
      have HM1 := Lib.hid (HM.out.bel hb2)
      have HB1 := Lib.hid (HB.out.trans (hb2.mono HB.out.size))
      clear hb1 hb2
      refine hK.out _ _ (cell_of_one HH1.out) ?_
      clear hK K
      refine growS_call (by rfl) (fun K hK => ?_)
      obtain ⟨w2, hrun, hm2, hg2⟩ := HM1.out.put (lower x) HLen.out (by unfold maxLen; omega)
      have HH2 : Hid (w2.heap[w.heap.size + 1]? = some (.cells #[.map (some w.heap.size)] 74 (0, 0))) := (hg2.block _ (Array.getElem?_eq_some_iff.1 HH1.out).1 (by simp)).trans HH1.out
      have HB2 : Hid (Below w.heap.size w w2) := HB1.out.grown hg2 HB1.out.size (fun k hk => by cases hk; exact Nat.le_refl _)
      have HM2 := Lib.hid hm2; clear hm2 hg2
      go_simp
      refine hK.out _ _ (cell_of_one HH2.out) ?_
      clear hK K hrun
      refine growS_done (NoPanic.normal ?_)
      try simp only [Exit.then]
      go_wp2_with fail
      go_roundw
      case rel => exact ⟨k + 1, by omega, by go_num, HH2.out, by rw [HT.out]; exact HM2.out, HB2.out⟩
      case measure => simp [intOf]; omega
    · have HT : Hid (lowsOf (L.take k) = lowsOf L) := by show _ = _; rw [List.take_of_length_le (by omega)]
      go_wp2_with fail
      go_ret
      exact ⟨rfl, ⟨w.heap.size, k, HH.out, by rw [← HT.out]; exact HM.out⟩, HB.out⟩

set_option maxHeartbeats 2000000 in
set_option maxRecDepth 100000 in
theorem named1_any (f : Fld) (b : Nat) (L : List (List UInt8)) (w : World) (h : knows w b L) (h1 : f.1.length ≤ 4294967296) :
    Calls Tryd.prog 39 #[fv f, .pointer (some ⟨b, 0, none⟩)] w fun e w' => e = .returned (.bool (L.any (· == lower f.1))) ∧ Below w.heap.size w w' := by
  obtain ⟨n, v⟩ := f; simp only at h1
  obtain ⟨m, k, hh, hm⟩ := h
  have hbl : b < w.heap.size := (Array.getElem?_eq_some_iff.1 hh).1
  have hml := hm.lt
  unfold fv; simp only
  have hlow := fun w => lower_l n w (by unfold maxLen; omega)
  have hlen := lower_len n
  have HLen : Hid ((lower n).length ≤ maxLen) := by show _ ≤ _; rw [hlen]; unfold maxLen; omega
  clear hlen
  generalize lower n = ln at *
  have HL := Lib.hid hlow; clear hlow
  have hal : Below w.heap.size w (w.alloc (.cells #[.string (bs n), .string (bs v)] 42)) := (Below.refl _ _).alloc (Nat.le_refl _) _
  have HH : Hid ((w.alloc (.cells #[.string (bs n), .string (bs v)] 42)).heap[b]? = some (.cells #[.map (some m)] 74 (0, 0))) := (hal.block b hbl).trans hh
  have HM : Hid (mapAt (w.alloc (.cells #[.string (bs n), .string (bs v)] 42)) m k L) := hm.bel hal
  have HP : Hid (oneF2 (w.alloc (.cells #[.string (bs n), .string (bs v)] 42)) w.heap.size (.string (bs n)) (.string (bs v))) := oneF2.new _ _ _
  have HB : Hid (Below w.heap.size w (w.alloc (.cells #[.string (bs n), .string (bs v)] 42))) := hal
  have HZ : Hid (w.heap.size + 1 = (w.alloc (.cells #[.string (bs n), .string (bs v)] 42)).heap.size) := by show _ = _; simp
  clear hal hh hm
  go_enter Tryd.func39, Tryd.ntmps39
  go_wp2_with fail
  generalize w.alloc (.cells #[.string (bs n), .string (bs v)] 42) = W at *
  have hS : ∀ x, Below W.heap.size W x → x.cell? ⟨b, 0, none⟩ = some (.map (some m)) ∧ x.cell? ⟨w.heap.size, 0, none⟩ = some (.string (bs n)) ∧ (Instr.lookup 74 (.map (some m)) (.string (bs ln)) true).run Tryd.prog x = .ok (.tuple #[.agg #[], .bool (L.any (· == ln))]) x :=
    fun x hx => ⟨cell_of_one ((hx.block b (Array.getElem?_eq_some_iff.1 HH.out).1).trans HH.out), (HP.out.bel hx).cells.1, (HM.out.bel hx).look ln HLen.out⟩
  have HS := Lib.hid hS; clear hS
  refine wp_region_growS (.one 0 false (.one 1 false (.one 2 false (.two 3 8 (.one 4 false (.one 5 false (.one 6 false (.one 7 false (.one 8 true (.one 9 true (.one 10 false .done))))))) (.one 3 true (.one 4 false (.one 5 false (.one 6 false (.one 7 false (.one 9 true (.one 10 false .done)))))))))))
    (fun x => Below W.heap.size W x) (by kernel_rfl) (by kernel_rfl) rfl (by kernel_rfl) (by kernel_rfl) (Below.refl _ _).drew (fun ops hops => ?_)
  simp only [GT.ins, List.getD_cons_zero, List.getD_cons_succ]
  clear hops
  iterate 3
    refine growS_take (by rfl) ?_
    apply Exists.intro
    refine ⟨fun w' hE => ?_, ?_⟩
    · obtain ⟨k1, k2, k3⟩ := HS.out w' hE
      go_simp
      try with_reducible rfl
    simp only [Act.put, List.setIfInBounds_toArray, List.set_cons_zero, List.set_cons_succ]
  refine growS_two (by rfl) (by rfl) (fun K hK => ?_) (fun K hK => ?_)
  · go_simp
    refine (HL.out _).mono ?_
    rintro e w1 ⟨rfl, hb1⟩
    have HB1 : Hid (Below W.heap.size W w1) := (Below.refl _ _).drew.trans hb1
    clear hb1
    refine hK.out _ _ HB1.out ?_
    clear hK K
    iterate 4
      refine growS_take (by rfl) ?_
      apply Exists.intro
      refine ⟨fun w' hE => ?_, ?_⟩
      · obtain ⟨k1, k2, k3⟩ := HS.out w' hE
        go_simp
        try with_reducible rfl
      simp only [Act.put, List.setIfInBounds_toArray, List.set_cons_zero, List.set_cons_succ]
    refine growS_call (by rfl) (fun K hK => ?_)
    go_simp
    refine hK.out _ _ (HB1.out.alloc HB1.out.size _) ?_
    clear hK K
    refine growS_call (by rfl) (fun K hK => ?_)
    go_simp
    refine hK.out _ _ (HB1.out.alloc HB1.out.size _) ?_
    clear hK K
    refine growS_take (by rfl) ?_
    apply Exists.intro
    refine ⟨fun w' hE => ?_, ?_⟩
    · go_simp
      try with_reducible rfl
    simp only [Act.put, List.setIfInBounds_toArray, List.set_cons_zero, List.set_cons_succ]
    refine growS_done (NoPanic.normal ?_)
    simp only [Exit.then]
    go_wp2_with fail
    go_ret
    exact ⟨rfl, HB.out.trans ((HB1.out.alloc HB1.out.size _).mono HB.out.size)⟩
  · go_simp
    have HB0 : Hid (Below W.heap.size W (W.drew.alloc (.cells #[] 75))) := (Below.refl _ _).drew.alloc (Nat.le_refl _) _
    refine hK.out _ _ HB0.out ?_
    clear hK K
    refine growS_call (by rfl) (fun K hK => ?_)
    go_simp
    refine (HL.out _).mono ?_
    rintro e w1 ⟨rfl, hb1⟩
    have HB1 : Hid (Below W.heap.size W w1) := HB0.out.trans (hb1.mono (by simp))
    clear hb1
    refine hK.out _ _ HB1.out ?_
    clear hK K
    iterate 4
      refine growS_take (by rfl) ?_
      apply Exists.intro
      refine ⟨fun w' hE => ?_, ?_⟩
      · obtain ⟨k1, k2, k3⟩ := HS.out w' hE
        go_simp
        try with_reducible rfl
      simp only [Act.put, List.setIfInBounds_toArray, List.set_cons_zero, List.set_cons_succ]
    refine growS_call (by rfl) (fun K hK => ?_)
    go_simp
    refine hK.out _ _ HB1.out ?_
    clear hK K
    refine growS_take (by rfl) ?_
    apply Exists.intro
    refine ⟨fun w' hE => ?_, ?_⟩
    · go_simp
      try with_reducible rfl
    simp only [Act.put, List.setIfInBounds_toArray, List.set_cons_zero, List.set_cons_succ]
    refine growS_done (NoPanic.normal ?_)
    simp only [Exit.then]
    go_wp2_with fail
    go_ret
    exact ⟨rfl, HB.out.trans (HB1.out.mono HB.out.size)⟩
end Go.Proofs.YtdaiielhohdgiaaDoor

/- Which lists of fields may be: the fields layer's Check, and the document's own. -/
namespace Go.Proofs.YtdaiielhohdgiaaDoor
open Go.RowKit

/-- no field of a list is too long to be read -/
def smallF (l : List Fld) : Prop := ∀ j (hj : j < l.length), l[j].1.length ≤ 4294967296 ∧ l[j].2.length ≤ 4294967296

set_option maxHeartbeats 800000 in
theorem check_any (v : Value) (l : List Fld) (w : World) (h : FL w v l) (hs : smallF l) (hl : l.length ≤ 4294967296) :
    Calls Tryd.prog 27 #[v] w fun e w' => e = .returned (.int .i64 (checkL l)) ∧ Below w.heap.size w w' := by
  obtain ⟨A, c, rfl⟩ := h.form
  have HF := Lib.hid h; clear h
  by_cases h64 : 64 < l.length
  · have HC : Hid (checkL l = 3) := by show _ = _; unfold checkL; rw [if_pos h64]
    have h64' : (64 : Int) < (l.length : Int) := by omega
    go_enter Tryd.func27, Tryd.ntmps27
    go_wp2_with fail
    go_ret
    exact ⟨by rw [HC.out]; rfl, Below.refl _ _⟩
  · have HC : Hid (checkL l = firstE l) := by show _ = _; unfold checkL; rw [if_neg h64]
    have h64' : ¬ (64 : Int) < (l.length : Int) := by omega
    go_enter Tryd.func27, Tryd.ntmps27
    go_wp2_with fail
    go_loopw [11] (fun i wr => ∃ k : Nat, k ≤ l.length ∧ i = .int .i64 k ∧ firstE (l.drop k) = firstE l ∧ Below w.heap.size w wr) (fun i _ => l.length - (intOf i).toNat)
    case atStart => exact ⟨0, Nat.zero_le _, rfl, rfl, Below.refl _ _⟩
    case round =>
      obtain ⟨k, hk, rfl, hq, hb⟩ := hrel
      have HQ := Lib.hid hq; have HB := Lib.hid hb; clear hq hb
      by_cases hlt : k < l.length
      · obtain ⟨b, off, rfl, hbb, hc1, hc2⟩ := (HF.out.bel HB.out).get k hlt
        obtain ⟨s1, s2⟩ := hs k hlt
        have hcf := fun w => checkField_any l[k] w s1 s2
        have HG : Hid (chkF l[k] = 0 → firstE (l.drop (k + 1)) = firstE l) := fun hz => by rw [← HQ.out, firstE_step hlt hz]
        have HS : Hid (¬ chkF l[k] = 0 → chkF l[k] = firstE l) := fun hz => by rw [← HQ.out, firstE_stop hlt hz]
        generalize l[k] = f at *
        unfold fv at hcf
        generalize chkF f = E at *
        have HCF := Lib.hid hcf; clear hcf
        by_cases hz : E = 0
        · have hz2 : (E != 0) = false := by simp [hz]
          have HN := Lib.hid (HG.out hz); clear hz
          go_wp2_with (go_at_call 49; refine (HCF.out _).mono ?_; rintro e w1 ⟨rfl, hb1⟩)
          go_roundw
          case rel => exact ⟨k + 1, by omega, by go_num, HN.out, (HB.out.alloc HB.out.size _).trans (hb1.mono (by have := HB.out.size; simp; omega))⟩
          case measure => simp [intOf]; omega
        · have hz2 : (E != 0) = true := by simp [hz]
          have HN := Lib.hid (HS.out hz); clear hz
          go_wp2_with (go_at_call 49; refine (HCF.out _).mono ?_; rintro e w1 ⟨rfl, hb1⟩)
          go_ret
          exact ⟨ret_i64 (by rw [HC.out, ← HN.out]), (HB.out.alloc HB.out.size _).trans (hb1.mono (by have := HB.out.size; simp; omega))⟩
      · have HN : Hid (firstE l = 0) := by rw [← HQ.out, List.drop_of_length_le (by omega)]; rfl
        go_wp2_with fail
        go_ret
        exact ⟨by rw [HC.out, HN.out]; rfl, HB.out⟩



end Go.Proofs.YtdaiielhohdgiaaDoor

/- The fields that stay, and the place of the first one, by whatever closure tells; Del, Values. -/
namespace Go.Proofs.YtdaiielhohdgiaaDoor
open Go.RowKit Go.Shelf

/-- a function value that tells p of fields, in every later world -/
def PredF (w : World) (g : Nat) (lb : Array Value) (p : Fld → Bool) : Prop :=
  ∀ (W : World) (f : Fld), Below w.heap.size w W → f.1.length ≤ 4294967296 → Calls Tryd.prog g (#[fv f] ++ lb) W fun e w' => e = .returned (.bool (p f)) ∧ Below W.heap.size W w'
/-- a new slice of fields is handed back -/
def RetF (w : World) (l : List Fld) (e : Ending) (w' : World) : Prop := ∃ v', e = .returned v' ∧ ownF w' w.heap.size v' l ∧ Below w.heap.size w w'
/-- a new slice of texts is handed back -/
def RetS (w : World) (l : List (List UInt8)) (e : Ending) (w' : World) : Prop := ∃ v', e = .returned v' ∧ ownS w' w.heap.size v' l ∧ Below w.heap.size w w'

theorem filter_step {l : List Fld} {p : Fld → Bool} {k : Nat} (h : k < l.length) : (l.take (k + 1)).filter p = if p l[k] then (l.take k).filter p ++ [l[k]] else (l.take k).filter p := by
  rw [List.take_succ_eq_append_getElem h, List.filter_append]
  cases hp : p l[k] <;> simp [hp]
theorem filter_len {l : List Fld} {p : Fld → Bool} (k : Nat) : ((l.take k).filter p).length ≤ l.length := Nat.le_trans (List.length_filter_le _ _) (List.length_take_le' _ _)

set_option maxHeartbeats 2000000 in
set_option maxRecDepth 100000 in
theorem kept_any (g : Nat) (lb : Array Value) (eg : ∀ args w, (callFunc g args).run Tryd.prog w = .ok (.enter g args) w) (p : Fld → Bool) (v : Value) (l : List Fld) (w : World) (hp : PredF w g lb p) (h : FL w v l) (hs : smallF l) (hl : l.length ≤ 1048576) :
    Calls Tryd.prog 22 #[v, .func (.func g) #[] lb] w (RetF w (l.filter p)) := by
  obtain ⟨A, c, rfl⟩ := h.form
  have HF := Lib.hid h; clear h
  have HP := Lib.hid hp; clear hp
  have HL : Hid (l.length ≤ 1048576) := hl
  go_enter Tryd.func22, Tryd.ntmps22
  go_wp2_with fail
  go_loopw [5, 10] (fun o i wr => ∃ k : Nat, k ≤ l.length ∧ i = .int .i64 k ∧ ownF wr w.heap.size o ((l.take k).filter p) ∧ Below w.heap.size w wr) (fun _ i _ => l.length - (intOf i).toNat)
  case atStart => exact ⟨0, Nat.zero_le _, rfl, ownF_nil _ _, Below.refl _ _⟩
  case round =>
    obtain ⟨k, hk, rfl, ho, hb⟩ := hrel
    have HO := Lib.hid ho; have HB := Lib.hid hb; clear ho hb
    by_cases hlt : k < l.length
    · obtain ⟨b, off, rfl, hbb, hc1, hc2⟩ := (HF.out.bel HB.out).get k hlt
      obtain ⟨s1, s2⟩ := hs k hlt
      have HT : Hid ((l.take (k + 1)).filter p = if p l[k] then (l.take k).filter p ++ [l[k]] else (l.take k).filter p) := filter_step hlt
      have HN : Hid (((l.take k).filter p).length ≤ l.length) := filter_len k
      generalize l[k] = f at *
      obtain ⟨n, x⟩ := f; simp only at s1 s2 hc1 hc2
      generalize (l.take k).filter p = acc at *
      have hal : Below wr.heap.size wr (wr.alloc (.cells #[.string (bs n), .string (bs x)] 42)) := (Below.refl _ _).alloc (Nat.le_refl _) _
      have HBa := Lib.hid (HB.out.trans (hal.mono HB.out.size))
      have HOa := Lib.hid (HO.out.bel hal)
      have HPa := Lib.hid (oneF2.new wr (.string (bs n)) (.string (bs x)))
      clear hal
      have hcall := HP.out _ (n, x) HBa.out s1
      unfold fv at hcall
      have hcp := fun w => copied_any (n, x) w (by simp only; omega) (by simp only; omega)
      unfold fv at hcp; simp only at hcp
      have HCP := Lib.hid hcp; clear hcp
      simp only at hcall
      cases hq : p (n, x)
      · rw [hq] at HT hcall
        have HTT : Hid ((l.take (k + 1)).filter p = acc) := HT.out
        have HCA := Lib.hid hcall; clear hcall HT hq
        go_wp2_with (go_at_fn g; refine HCA.out.mono ?_; rintro e w1 ⟨rfl, hb1⟩; have HO1 := Lib.hid (HOa.out.bel hb1); have HB1 := Lib.hid (HBa.out.trans (hb1.mono HBa.out.size)); clear hb1)
        go_roundw
        case rel => exact ⟨k + 1, by omega, by go_num, by rw [HTT.out]; exact HO1.out, HB1.out⟩
        case measure => simp [intOf]; omega
      · rw [hq] at HT hcall
        have HTT : Hid ((l.take (k + 1)).filter p = acc ++ [(n, x)]) := HT.out
        have HCA := Lib.hid hcall; clear hcall HT hq
        go_wp2_with (first
          | (go_at_fn g; refine HCA.out.mono ?_; rintro e w1 ⟨rfl, hb1⟩; have HO1 := Lib.hid (HOa.out.bel hb1); have HB1 := Lib.hid (HBa.out.trans (hb1.mono HBa.out.size)); obtain ⟨d1, d2, d3, d4⟩ := (HPa.out.bel hb1).cells; clear hb1)
          | (go_at_call 40; refine (HCP.out _).mono ?_; rintro e w2 ⟨rfl, hb2⟩; have HO2 := Lib.hid (HO1.out.bel hb2); have HB2 := Lib.hid (HB1.out.trans (hb2.mono HB1.out.size)); clear hb2)
          | (at_builtin; refine wpList_appF rfl (.tmp 17) (.tmp 20) rfl w.heap.size w.heap.size _ _ n x rfl HO2.out HB2.out (Nat.le_refl _) HB2.out.size rfl (by have := HN.out; have := HL.out; omega) ?_; intro v' w' HO3 HB3 _))
        go_roundw
        case rel => exact ⟨k + 1, by omega, by go_num, by rw [HTT.out]; exact HO3.out, HB3.out⟩
        case measure => simp [intOf]; omega
    · have HTT : Hid ((l.take k).filter p = l.filter p) := by show _ = _; rw [List.take_of_length_le (by omega)]
      go_wp2_with fail
      go_ret
      exact ⟨_, rfl, by rw [← HTT.out]; exact HO.out, HB.out⟩

/-- the place of the first field of which p holds -/
def placeOf (l : List Fld) (p : Fld → Bool) : Int := match l.findIdx? p with | some k => (k : Int) | none => -1

end Go.Proofs.YtdaiielhohdgiaaDoor
