/- A URI's parts, its text, whether it may be: the uri layer's functions. -/
import Derived.Test.YtekaiafhnnpkgaaGreatDoorUriC
import Derived.Lib.ItoaLen
import Derived.BigQuiet
import Derived.Deep.QuietTactic
namespace Go.Proofs.YtekaiafhnnpkgaaGreatDoor
open Go.RowKit

/-- block b holds just these cells -/
def ubk (w : World) (b : Nat) (cs : Array Value) : Prop := ∃ T, w.heap[b]? = some (.cells cs T (0, 0))
theorem ubk.cell {w : World} {b : Nat} {cs : Array Value} (h : ubk w b cs) (j : Nat) (u : Value) (hj : cs[j]? = some u) : w.cell? ⟨b, j, none⟩ = some u := by
  obtain ⟨T, h⟩ := h
  exact (cell_of_row w b j cs T _ h).trans hj
theorem ubk.free {w : World} {b : Nat} {cs : Array Value} (h : ubk w b cs) (j : Nat) : w.frozen? ⟨b, j, none⟩ = false := by
  obtain ⟨T, h⟩ := h
  simp [World.frozen?, h]
theorem ubk.set {w : World} {b : Nat} {cs : Array Value} (h : ubk w b cs) (j : Nat) (u : Value) : ubk (w.setCell ⟨b, j, none⟩ u) b (cs.setIfInBounds j u) := by
  obtain ⟨T, h⟩ := h
  exact ⟨T, Lib.heap_setCell_same h u⟩
theorem ubk.other {w : World} {b : Nat} {cs : Array Value} (h : ubk w b cs) {a : Addr} (ha : b ≠ a.block) (u : Value) : ubk (w.setCell a u) b cs := by
  obtain ⟨T, h⟩ := h
  exact ⟨T, by rw [Below.heap_setCell _ _ _ _ ha]; exact h⟩
theorem ubk.keep {w w' : World} {b : Nat} {cs : Array Value} (h : ubk w b cs) (hk : w'.heap[b]? = w.heap[b]?) : ubk w' b cs := by
  obtain ⟨T, h⟩ := h
  exact ⟨T, hk.trans h⟩
theorem ubk.lt {w : World} {b : Nat} {cs : Array Value} (h : ubk w b cs) : b < w.heap.size := by
  obtain ⟨T, h⟩ := h
  exact (Array.getElem?_eq_some_iff.1 h).1
theorem ubk.below {w w' : World} {b : Nat} {cs : Array Value} (h : ubk w b cs) (hb : Below w.heap.size w w') : ubk w' b cs := h.keep (hb.block b h.lt)
theorem ubk.new (w : World) (cs : Array Value) (T : TypeId) : ubk (w.alloc (.cells cs T)) w.heap.size cs := ⟨T, heap_alloc_new w _⟩
theorem ubk.alloc {w : World} {b : Nat} {cs : Array Value} (h : ubk w b cs) (o : Obj) : ubk (w.alloc o) b cs := h.keep (Below.heap_alloc _ _ _ h.lt)
theorem beq_lit (a b : List UInt8) : ((bs a).toList == b) = (a == b) := by rw [Lib.toList_data, bs_data]

set_option maxHeartbeats 400000 in
set_option maxRecDepth 100000 in
theorem usualPort_any (s : List UInt8) (w : World) :
    Calls Tryz.prog 25 #[.string (bs s)] w fun r w' => r = .returned (.int .i64 (usual s)) ∧ w = w' := by
  by_cases h1 : s = schH
  · have e1 : ((bs s).toList == [104, 116, 116, 112]) = true := by rw [beq_lit, h1]; rfl
    have hu : usual s = 80 := if_pos h1
    rw [hu]
    clear h1 hu
    go_enter Tryz.func25, Tryz.ntmps25
    go_wp2_with fail
    go_ret
    exact ⟨rfl, rfl⟩
  · have e1 : ((bs s).toList == [104, 116, 116, 112]) = false := by rw [beq_lit]; exact beq_eq_false_iff_ne.2 h1
    by_cases h2 : s = schS
    · have e2 : ((bs s).toList == [104, 116, 116, 112, 115]) = true := by rw [beq_lit, h2]; rfl
      have hu : usual s = 443 := by unfold usual; rw [if_neg h1, if_pos h2]
      rw [hu]
      clear h1 h2 hu
      go_enter Tryz.func25, Tryz.ntmps25
      go_wp2_with fail
      go_ret
      exact ⟨rfl, rfl⟩
    · have e2 : ((bs s).toList == [104, 116, 116, 112, 115]) = false := by rw [beq_lit]; exact beq_eq_false_iff_ne.2 h2
      have hu : usual s = 0 := by unfold usual; rw [if_neg h1, if_neg h2]
      rw [hu]
      clear h1 h2 hu
      go_enter Tryz.func25, Tryz.ntmps25
      go_wp2_with fail
      go_ret
      exact ⟨rfl, rfl⟩

/-- a URI's texts are not too long for the walk; its number is one -/
structure Ur.okW (u : Ur) : Prop where
  len : u.sc.length + u.ho.length + u.pa.length + u.qu.length ≤ 100000000
  lo : -9223372036854775808 ≤ u.po
  hi : u.po ≤ 9223372036854775807

theorem text_eqP (s h n p : List UInt8) : bs s ++ ⟨#[58, 47, 47]⟩ ++ bs h ++ (⟨#[58]⟩ ++ bs n) ++ bs p = bs (s ++ ([58, 47, 47] ++ (h ++ (58 :: n ++ (p ++ []))))) := bs_of (by simp)
theorem text_eqPQ (s h n p q : List UInt8) : bs s ++ ⟨#[58, 47, 47]⟩ ++ bs h ++ (⟨#[58]⟩ ++ bs n) ++ bs p ++ (⟨#[63]⟩ ++ bs q) = bs (s ++ ([58, 47, 47] ++ (h ++ (58 :: n ++ (p ++ 63 :: q))))) := bs_of (by simp)
theorem text_eqN (s h p : List UInt8) : bs s ++ ⟨#[58, 47, 47]⟩ ++ bs h ++ bs p = bs (s ++ ([58, 47, 47] ++ (h ++ ([] ++ (p ++ []))))) := bs_of (by simp)
theorem text_eqQ (s h p q : List UInt8) : bs s ++ ⟨#[58, 47, 47]⟩ ++ bs h ++ bs p ++ (⟨#[63]⟩ ++ bs q) = bs (s ++ ([58, 47, 47] ++ (h ++ ([] ++ (p ++ 63 :: q))))) := bs_of (by simp)

set_option maxHeartbeats 1000000 in
set_option maxRecDepth 100000 in
theorem written_any (u : Ur) (w : World) (he : EnvU w) (hu : u.okW) :
    Calls Tryz.prog 24 #[.agg #[.string (bs u.sc), .string (bs u.ho), .int .i64 u.po, .string (bs u.pa), .string (bs u.qu), .bool u.hq]] w fun r w' => r = .returned (.string (bs u.text)) ∧ Below w.heap.size w w' := by
  obtain ⟨sc, ho, po, pa, qu, hq⟩ := u
  obtain ⟨hlen, hlo, hhi⟩ := hu
  simp only at hlen hlo hhi ⊢
  have hT : Ur.text ⟨sc, ho, po, pa, qu, hq⟩ = sc ++ ([58, 47, 47] ++ (ho ++ ((if po = 0 then [] else 58 :: Lib.itoa po) ++ (pa ++ if hq then 63 :: qu else [])))) := rfl
  rw [hT]
  clear hT
  have hal : Below w.heap.size w (w.alloc (.cells #[.string (bs sc), .string (bs ho), .int .i64 po, .string (bs pa), .string (bs qu), .bool hq] 23)) := (Below.refl _ _).alloc (Nat.le_refl _) _
  by_cases h0 : po = 0
  · subst h0
    simp only [if_true]
    have HAL := Lib.hid hal; clear hal
    cases hq
    · go_enter Tryz.func24, Tryz.ntmps24
      go_wp2_with fail
      go_ret
      exact ⟨ret_str (by rw [text_eqN]; simp), HAL.out⟩
    · go_enter Tryz.func24, Tryz.ntmps24
      go_wp2_with fail
      go_ret
      exact ⟨ret_str (by rw [text_eqQ]; simp), HAL.out⟩
  · have hpo : (po != 0) = true := bne_iff_ne.2 h0
    rw [if_neg h0]
    clear h0
    have hit := itoaU_any po _ hlo hhi (he.alloc (.cells #[.string (bs sc), .string (bs ho), .int .i64 po, .string (bs pa), .string (bs qu), .bool hq] 23))
    have hbk := ubk.new w #[.string (bs sc), .string (bs ho), .int .i64 po, .string (bs pa), .string (bs qu), .bool hq] 23
    have hil : (Lib.itoa po).length ≤ 21 := Lib.itoa_length_le po hlo hhi
    generalize Lib.itoa po = n at *
    have HIT := Lib.hid hit; have HBK := Lib.hid hbk; have HAL := Lib.hid hal; clear hit hbk hal
    cases hq
    · go_enter Tryz.func24, Tryz.ntmps24
      go_wp2_with fail
      refine HIT.out.mono ?_
      rintro r w1 ⟨rfl, hb1⟩
      have hbk1 := HBK.out.below hb1
      have c3 := hbk1.cell 3 _ rfl
      have c5 := hbk1.cell 5 _ rfl
      have HB := Lib.hid (HAL.out.trans (hb1.mono HAL.out.size)); clear hb1 hbk1
      go_wp2_with fail
      go_ret
      exact ⟨ret_str (by rw [text_eqP]; simp), HB.out⟩
    · go_enter Tryz.func24, Tryz.ntmps24
      go_wp2_with fail
      refine HIT.out.mono ?_
      rintro r w1 ⟨rfl, hb1⟩
      have hbk1 := HBK.out.below hb1
      have c3 := hbk1.cell 3 _ rfl
      have c4 := hbk1.cell 4 _ rfl
      have c5 := hbk1.cell 5 _ rfl
      have HB := Lib.hid (HAL.out.trans (hb1.mono HAL.out.size)); clear hb1 hbk1
      go_wp2_with fail
      go_ret
      exact ⟨ret_str (by rw [text_eqPQ]; simp), HB.out⟩
end Go.Proofs.YtekaiafhnnpkgaaGreatDoor
