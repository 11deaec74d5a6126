/- Examples of bodies in chunks, plainly: from the head to the whole. -/
import Derived.Test.YtoengnefdndgfaaDoorChunk1
import Derived.KernelRfl
namespace Go.Proofs.YtoengnefdndgfaaDoor
theorem ex_bad {s : List UInt8} {room : Nat} {n k : Nat} {e : Int} (h : headL s room = (n, k, e)) (he : e ≠ 0) : decL s room = bad e := by
  rw [decL_eq, h, if_neg he]
theorem ex_chunk {s t : List UInt8} {room n k m : Nat} {c : List UInt8} (h : headL s room = (n, k, 0)) (hn : n ≠ 0) (ht : s.drop k = t) (hc : chunkL t n = (c, m, 0)) : decL s room = behind c (k + m) (decL (t.drop m) (room - n)) := by
  rw [decL_eq, h, if_pos rfl, if_neg hn, ht]
  unfold bytesD
  rw [hc, if_pos rfl, behind_behind, List.nil_append]
theorem ex_chunkBad {s t : List UInt8} {room n k m : Nat} {c : List UInt8} {e : Int} (h : headL s room = (n, k, 0)) (hn : n ≠ 0) (ht : s.drop k = t) (hc : chunkL t n = (c, m, e)) (he : e ≠ 0) : decL s room = bad e := by
  rw [decL_eq, h, if_pos rfl, if_neg hn, ht]
  unfold bytesD
  rw [hc, if_neg he, behind_bad he]
theorem ex_last {s t : List UInt8} {room k m : Nat} {l : List Fld} (h : headL s room = (0, k, 0)) (ht : s.drop k = t) (hl : lastsL t = (l, m, 0)) : decL s room = ([], k + m, l, 0) := by
  rw [decL_eq, h, if_pos rfl, if_pos rfl, ht]
  unfold lastsD
  rw [hl, if_pos rfl]
  unfold behind
  simp
theorem ex_lastBad {s t : List UInt8} {room k m : Nat} {l : List Fld} {e : Int} (h : headL s room = (0, k, 0)) (ht : s.drop k = t) (hl : lastsL t = (l, m, e)) (he : e ≠ 0) : decL s room = bad e := by
  rw [decL_eq, h, if_pos rfl, if_pos rfl, ht]
  unfold lastsD
  rw [hl, if_neg he, behind_bad he]
theorem lasts_at {t : List UInt8} {n : Nat} {l : List Fld} {e : Int} (hf : findL (13 :: 10 :: t) [13, 10, 13, 10] 8194 = (n, 0)) (hp : parseL (t.take n) = (l, e)) : lastsL t = if e = 0 then (l, n + 2, 0) else ([], 0, e) := by
  unfold lastsL
  rw [hf]
  simp only [if_true]
  rw [hp]
theorem parse_none : parseL [] = ([], 0) := parse_nil []
theorem lasts_zero {t : List UInt8} (hf : findL (13 :: 10 :: t) [13, 10, 13, 10] 8194 = (0, 0)) : lastsL t = ([], 2, 0) := by
  rw [lasts_at (l := []) (e := 0) hf (by rw [List.take_zero]; exact parse_none)]; rfl
theorem lasts_none {t : List UInt8} {e : Int} (hf : findL (13 :: 10 :: t) [13, 10, 13, 10] 8194 = (0, e)) (he : e ≠ 0) : lastsL t = ([], 0, e) := by
  unfold lastsL
  rw [hf]
  simp only [if_neg he]

theorem dec_abcx : decodeL [51, 13, 10, 97, 98, 99, 13, 10, 48, 13, 10, 13, 10, 120] 100 = ([97, 98, 99], 13, [], 0) := by
  show decL _ 100 = _
  rw [ex_chunk (t := [97, 98, 99, 13, 10, 48, 13, 10, 13, 10, 120]) (n := 3) (k := 3) (m := 5) (c := [97, 98, 99]) (by kernel_rfl) (by decide) rfl (by kernel_rfl),
    show List.drop 5 ([97, 98, 99, 13, 10, 48, 13, 10, 13, 10, 120] : List UInt8) = [48, 13, 10, 13, 10, 120] from rfl,
    ex_last (t := [13, 10, 120]) (k := 3) (m := 2) (l := []) (by kernel_rfl) rfl (lasts_zero (by kernel_rfl))]
  rfl
theorem dec_ab : decodeL [51, 13, 10, 97, 98] 100 = bad 6 := by
  show decL _ 100 = _
  exact ex_chunkBad (n := 3) (k := 3) (m := 0) (c := []) (by kernel_rfl) (by decide) rfl (by kernel_rfl) (by decide)
theorem dig3 : hexL 3 = [51] := by rw [hexL_small (by decide)]; rfl
theorem enc_abc : encodeL [97, 98, 99] [] = [51, 13, 10, 97, 98, 99, 13, 10, 48, 13, 10, 13, 10] := by
  show tailE [3] 0 [97, 98, 99] = _
  rw [tailE_step ⟨by decide, by decide⟩ 0 (by decide), show List.drop (szAt [3] 0) [97, 98, 99] = ([] : List UInt8) from rfl, tailE_nil, show List.take (szAt [3] 0) [97, 98, 99] = [(97 : UInt8), 98, 99] from rfl]
  unfold chunkT
  rw [show ([97, 98, 99] : List UInt8).length = 3 from rfl, dig3]
  rfl

theorem behind_few {c : List UInt8} {k : Nat} {d : Dec} (h : d.2.2.1.length ≤ 64) : (behind c k d).2.2.1.length ≤ 64 := by
  unfold behind; split
  · exact h
  · simp [bad]
theorem lasts_few (t : List UInt8) : (lastsL t).1.length ≤ 64 := by
  unfold lastsL
  split
  · split
    · exact (check_zero (parse_check _).1).1
    · simp
  · simp
theorem decF_few : ∀ (k : Nat) (r : List UInt8) (room : Nat), (decF k r room).2.2.1.length ≤ 64 := by
  intro k
  induction k with
  | zero => intro r room; simp [decF, bad]
  | succ k ih =>
    intro r room
    unfold decF
    split
    · split
      · refine behind_few ?_
        unfold lastsD
        split
        · exact lasts_few _
        · simp [bad]
      · refine behind_few ?_
        split
        · exact behind_few (ih _ _)
        · simp [bad]
    · simp [bad]
theorem dec_few (s : List UInt8) (most : Int) : (decodeL s most).2.2.1.length ≤ 64 := decF_few _ _ _
end Go.Proofs.YtoengnefdndgfaaDoor
