/- Small letters, texts that are the same, texts without blanks at their ends: the text layer's functions and the document's own. -/
import Derived.Test.YtjbkjmceabilaaaTextA
import Derived.Laws.MakeOwn
import Derived.Lib.BufferWrite
import Derived.Lib.Walk
namespace Go.Proofs.Ytjbkjmceabilaaa
open Go.RowKit





set_option maxHeartbeats 400000 in
theorem blank_any (n : Int) (w : World) :
    Calls Try.prog 36 #[.int .u8 n] w fun e w' => e = .returned (.bool (blankI n)) ∧ w = w' := by
  go_enter Try.func36, Try.ntmps36
  go_wp2
  all_goals go_ret
  all_goals refine ⟨ret_bool ?_, rfl⟩
  all_goals rw [Bool.eq_iff_iff]
  all_goals simp_all [blankI]

set_option maxHeartbeats 400000 in
theorem trimmed_any (s : ByteArray) (w : World) (hs : s.size ≤ maxLen) :
    Calls Try.prog 30 #[.string s] w fun e w' => e = .returned (.string (bs (trim s.data.toList))) ∧ w = w' := by
  unfold maxLen at hs
  go_enter Try.func30, Try.ntmps30
  go_upto_block 0 with fail
  go_cut [0] (fun v wx => ∃ t : ByteArray, v = .string t ∧ t.size ≤ s.size ∧ t.data.toList = ltrim s.data.toList ∧ wx = w)
  case first =>
    go_wp2_with fail
    go_loop [0] (fun v => ∃ t : ByteArray, v = .string t ∧ t.size ≤ s.size ∧ ltrim t.data.toList = ltrim s.data.toList) (fun v => match v with | .string t => t.size | _ => 0)
    case atStart => exact ⟨s, rfl, Nat.le_refl _, rfl⟩
    case round =>
      obtain ⟨t, rfl, ht, hl⟩ := hrel
      have HL := Lib.hid hl; clear hl
      rcases ltrim_cases t with ⟨h0, hb, hst⟩ | ⟨h0, hb, hst⟩ | ⟨h0, hst⟩
      · have hne : t.toList.isEmpty = false := by rw [Lib.toList_data, cons_of h0]; rfl
        have HS := Lib.hid hst; clear hst
        go_wp2_with (go_at_call 36; refine (blank_any _ _).mono ?_; rintro e w' ⟨rfl, rfl⟩)
        go_round
        case rel => exact ⟨_, rfl, by simp; omega, by rw [Lib.extract_to_end, HS.out, HL.out]⟩
        case measure => simp; omega
      · have hne : t.toList.isEmpty = false := by rw [Lib.toList_data, cons_of h0]; rfl
        have HS := Lib.hid hst; clear hst
        go_wp2_with (go_at_call 36; refine (blank_any _ _).mono ?_; rintro e w' ⟨rfl, rfl⟩)
        go_meet
        exact ⟨t, rfl, ht, by rw [← HS.out, HL.out], rfl⟩
      · have hne : t.toList.isEmpty = true := by rw [Lib.toList_data, nil_of h0]; rfl
        have HS := Lib.hid hst; clear hst
        go_wp2_with fail
        go_meet
        exact ⟨t, rfl, ht, by rw [← HS.out, HL.out], rfl⟩
  case rest =>
    obtain ⟨t, rfl, ht, htl, rfl⟩ := hcut
    have HT := Lib.hid htl; clear htl
    go_wp2_with fail
    go_loop [0] (fun v => ∃ u : ByteArray, v = .string u ∧ u.size ≤ s.size ∧ rtrim u.data.toList = rtrim t.data.toList) (fun v => match v with | .string t => t.size | _ => 0)
    case atStart => exact ⟨t, rfl, ht, rfl⟩
    case round =>
      obtain ⟨u, rfl, hu, hl⟩ := hrel
      have HL := Lib.hid hl; clear hl
      rcases rtrim_cases u with ⟨h0, hb, hst⟩ | ⟨h0, hb, hst⟩ | ⟨h0, hst⟩
      · have hne : u.toList.isEmpty = false := by rw [Lib.toList_data, cons_of h0]; rfl
        have HS := Lib.hid hst; clear hst
        go_wp2_with (go_at_call 36; refine (blank_any _ _).mono ?_; rintro e w' ⟨rfl, rfl⟩)
        go_round
        case rel => exact ⟨_, rfl, by simp; omega, by rw [Lib.extract_from_zero, HS.out, HL.out]⟩
        case measure => simp; omega
      · have hne : u.toList.isEmpty = false := by rw [Lib.toList_data, cons_of h0]; rfl
        have HS := Lib.hid hst; clear hst
        go_wp2_with (go_at_call 36; refine (blank_any _ _).mono ?_; rintro e w' ⟨rfl, rfl⟩)
        go_ret
        exact ⟨ret_str (bs_of (by rw [← HS.out, HL.out, HT.out]; rfl)), rfl⟩
      · have hne : u.toList.isEmpty = true := by rw [Lib.toList_data, nil_of h0]; rfl
        have HS := Lib.hid hst; clear hst
        go_wp2_with fail
        go_ret
        exact ⟨ret_str (bs_of (by rw [← HS.out, HL.out, HT.out]; rfl)), rfl⟩

set_option maxHeartbeats 1000000 in
set_option maxRecDepth 100000 in
/-- 'strings.Clone' beneath: the same bytes; a new row, frozen, where the text is not empty. -/
theorem sclone_any (s : ByteArray) (w : World) (hlim : s.size ≤ 281474976710656) :
    Calls Try.prog 28 #[.string s] w fun e w' => e = .returned (.string s) ∧ Below w.heap.size w w' := by
  by_cases h0 : s.size = 0
  · have hs : s = ⟨#[]⟩ := by
      apply ByteArray.ext
      exact Array.eq_empty_of_size_eq_zero h0
    subst hs
    go_enter Try.func28, Try.ntmps28
    go_wp2
    go_ret
    exact ⟨rfl, Below.refl _ _⟩
  · obtain ⟨i0, hi, hz0, hz1, hz2⟩ := info_parts infoB
    have hinfo : (Try.prog.info? 5).map (·.size) = some 1 := by rw [hi]; simp [hz1]
    have hco : Try.prog.cellsOf 5 = 1 := by simp [Program.cellsOf, hi, hz1]
    obtain ⟨M, hM⟩ : ∃ M, M = madeCells (Value.int .u8 0).cells (((s.size : Nat) : Int).toNat * i0.size) := ⟨_, rfl⟩
    have hMs : M.size = s.size := by rw [hM, size_madeCells, hz1]; simp
    have hmk : ∀ W : World, (Instr.makeSlice 53 (.int .i64 (s.size : Int)) (.int .i64 (s.size : Int))).run Try.prog W = .ok (.slice (some ⟨W.heap.size, 0, none⟩) s.size s.size) (W.alloc (.cells M 5)) := fun W => by
      have h := run_make (P := Try.prog) W 53 5 i0 (.int .u8 0) Try.underlying53 hi hz0 .i64 .i64 (s.size : Int) (s.size : Int) (by omega) (by omega) (by rw [hz2]; omega) (by omega)
      rw [← hM] at h
      simpa using h
    clear hM
    have hcp := Lib.run_copy_row_string (P := Try.prog) (w.alloc (.cells M 5)) 53 9 3 5 w.heap.size 0 s.size s.size s M 5 Try.underlying53 hinfo (heap_alloc_new w _) (Nat.le_refl _) (by omega)
    obtain ⟨Y, hY⟩ : ∃ Y, Y = (M.toList.take 0 ++ Lib.byteCells s.data.toList ++ M.toList.drop (0 + s.size)).toArray := ⟨_, rfl⟩
    rw [← hY] at hcp
    have hYl : Y.toList = Lib.byteCells s.data.toList := by
      rw [hY, List.toList_toArray, List.take_zero, List.nil_append, List.drop_of_length_le (by rw [Array.length_toList]; omega), List.append_nil]
    have hYs : Y.size = s.size := by rw [← Array.length_toList, hYl, Lib.byteCells_length, ← Lib.size_eq]
    have hgY : ((w.alloc (.cells M 5)).setRow w.heap.size Y).heap[w.heap.size]? = some (.cells Y 5 (0, 0)) := setRow_heap _ _ M _ 5 (0, 0) (heap_alloc_new w _)
    have hne : s.data.toList ≠ [] := fun e => h0 (by rw [Lib.size_eq, e]; rfl)
    have hUS := Lib.run_unsafeString_row (P := Try.prog) ((w.alloc (.cells M 5)).setRow w.heap.size Y) 54 3 9 5 Try.underlying54 hco w.heap.size Y.size (by unfold World.shape?; rw [hgY]) s.data.toList hne (by rw [← Lib.size_eq]; omega) (by rw [← Lib.size_eq]; omega)
      (fun j x hx => Lib.cells_of_row hgY Y.size j _ (by rw [List.take_of_length_le (by rw [Array.length_toList]; exact Nat.le_refl _), hYl]; simp [Lib.byteCells, hx]))
    rw [← Lib.size_eq] at hUS
    clear hY
    go_enter Try.func28, Try.ntmps28
    go_wp2
    go_ret
    have hb1 : Below w.heap.size w (w.alloc (.cells M 5)) := (Below.refl _ w).alloc (Nat.le_refl _) _
    have hb2 : Below w.heap.size (w.alloc (.cells M 5)) ((w.alloc (.cells M 5)).setRow w.heap.size Y) := ⟨rfl, rfl, rfl, by simp, fun k hk => setRow_other _ _ _ _ (by omega)⟩
    exact ⟨rfl, Lib.below_freeze (hb1.trans hb2) (p := ⟨w.heap.size, 0, none⟩) (Nat.le_refl _) _⟩

set_option maxHeartbeats 400000 in
theorem clone_any (s : ByteArray) (w : World) (hlim : s.size ≤ 281474976710656) :
    Calls Try.prog 20 #[.string s] w fun e w' => e = .returned (.string s) ∧ Below w.heap.size w w' := by
  go_enter Try.func20, Try.ntmps20
  go_wp2_with (go_at_call 28; refine (sclone_any _ _ hlim).mono ?_; rintro e w' ⟨rfl, hb⟩)
  go_ret
  exact ⟨rfl, hb⟩

end Go.Proofs.Ytjbkjmceabilaaa
