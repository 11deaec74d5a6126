/- strconv.ParseUint at base 16, with its errors. -/
import Derived.Test.YtoengnefdndgfaaDoorChunkB
namespace Go.Proofs.YtoengnefdndgfaaDoor
open Go.RowKit

/-- is a text a number in hexadecimal digits, its value -/
def puR (l : List UInt8) : Nat × Nat := if l = [] then (0, 2) else pu l 0
set_option maxHeartbeats 4000000 in
set_option maxRecDepth 100000 in
theorem puS_any (t : ByteArray) (w : World) (hmax : t.size ≤ 1048576) (he : EnvC w) :
    Calls Tryd.prog 44 #[.string t, .int .i64 16, .int .i64 64] w fun e w' => ∃ v, e = .returned (.tuple #[.int .u64 (puR t.data.toList).1, v]) ∧ ((puR t.data.toList).2 = 0 → v = .nilIface) ∧ ((puR t.data.toList).2 ≠ 0 → ∃ N, v = .iface 105 (.pointer (some ⟨N, 0, none⟩))) ∧ Below w.heap.size w w' := by
  obtain ⟨-, ⟨e1, e2⟩, -⟩ := he
  obtain ⟨tp1, p1, v1⟩ := sen_cell gES e1
  obtain ⟨tp2, p2, v2⟩ := sen_cell gER e2
  have l1 := Lib.lt_of_cell v1
  have l2 := Lib.lt_of_cell v2
  clear e1 e2
  have hI : Calls Tryd.prog 56 #[.string t, .int .i64 16, .int .i64 64] w fun e w' => e = .returned (puV (puR t.data.toList)) ∧ Below w.heap.size w w' := by
    by_cases h0 : t.size = 0
    · have ht : t = ⟨#[]⟩ := ByteArray.ext (Array.eq_empty_of_size_eq_zero h0)
      subst ht
      go_enter Tryd.func56, Tryd.ntmps56
      go_wp2
      go_ret2
      exact ⟨rfl, Below.refl _ _⟩
    · refine (puI_any t w h0 hmax).mono ?_
      rintro e w' ⟨rfl, hb⟩
      refine ⟨?_, hb⟩
      unfold puR
      rw [if_neg]
      intro h
      exact h0 (by rw [size_len, h]; rfl)
  have hk : (puR t.data.toList).2 = 0 ∨ (puR t.data.toList).2 = 1 ∨ (puR t.data.toList).2 = 2 := by
    have key : ∀ (l : List UInt8) (n : Nat), (pu l n).2 = 0 ∨ (pu l n).2 = 1 ∨ (pu l n).2 = 2 := by
      intro l
      induction l with
      | nil => intro n; exact .inl rfl
      | cons c r ih =>
        intro n
        unfold pu
        split
        · split
          · exact .inr (.inl rfl)
          · exact ih _
        · exact .inr (.inr rfl)
    unfold puR
    split
    · exact .inr (.inr rfl)
    · exact key _ _
  generalize hP : puR t.data.toList = P at hI hk ⊢
  obtain ⟨n, q⟩ := P
  clear hP
  simp only at hk ⊢
  have HI := Lib.hid hI; clear hI
  rcases hk with rfl | rfl | rfl
  · go_enter Tryd.func44, Tryd.ntmps44
    go_wp2_with (go_at_call 56; refine HI.out.mono ?_; rintro e w1 ⟨rfl, hb1⟩; simp only [puV, if_true])
    go_wp2
    go_ret2
    exact ⟨_, rfl, rfl, hb1⟩
  · go_enter Tryd.func44, Tryd.ntmps44
    go_wp2_with (go_at_call 56; refine HI.out.mono ?_; rintro e w1 ⟨rfl, hb1⟩; simp only [puV, Nat.one_ne_zero, if_false])
    have hv := (hb1.cell (show (⟨2, 0, none⟩ : Addr).block < w.heap.size from l2)).trans v2
    go_wp2_with (go_at_call 57; refine (Tryd.strconv_toError_range _ t 16 64 _ _ (by omega) hv (.inr ⟨_, _, rfl⟩)).mono ?_)
    rintro e w2 ⟨N, rfl, -, -, hb2⟩
    go_wp2
    go_ret2
    exact ⟨_, rfl, fun h => absurd h (by decide), fun _ => ⟨N, rfl⟩, hb1.trans (hb2.mono hb1.size)⟩
  · go_enter Tryd.func44, Tryd.ntmps44
    go_wp2_with (go_at_call 56; refine HI.out.mono ?_; rintro e w1 ⟨rfl, hb1⟩; simp only [puV])
    have hv := (hb1.cell (show (⟨1, 0, none⟩ : Addr).block < w.heap.size from l1)).trans v1
    go_wp2_with (go_at_call 57; refine (Tryd.strconv_toError_syntax _ t 16 64 _ _ (by omega) hv (.inr ⟨_, _, rfl⟩)).mono ?_)
    rintro e w2 ⟨N, rfl, -, -, hb2⟩
    go_wp2
    go_ret2
    exact ⟨_, rfl, fun h => absurd h (by decide), fun _ => ⟨N, rfl⟩, hb1.trans (hb2.mono hb1.size)⟩
end Go.Proofs.YtoengnefdndgfaaDoor
