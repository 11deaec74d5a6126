/- The statement EtagKnown. -/
import Derived.Test.YtjbkjmceabilaaaDoorEtagD
import Derived.Test.YtjbkjmceabilaaaDoorKDateH
namespace Go.Proofs.YtjbkjmceabilaaaDoor
open Go.RowKit Go.Shelf

theorem FL_litE (w : World) (fs : List Fld) : FL (w.alloc (.cells (fcs fs).toArray 37)) (.slice (some ⟨w.heap.size, 0, none⟩) fs.length fs.length) fs := by
  refine .inr ⟨w.heap.size, 0, fs.length, rfl, by simp, fun j hj => ?_⟩
  have hh := heap_alloc_new w (.cells (fcs fs).toArray 37)
  rw [Nat.zero_add]
  obtain ⟨f1, f2⟩ := fcs_at fs j hj
  have e1 := cell_of_row _ w.heap.size (j * 2) _ _ _ hh
  have e2 := cell_of_row _ w.heap.size (j * 2 + 1) _ _ _ hh
  rw [List.getElem?_toArray] at e1 e2
  exact ⟨e1.trans f1, e2.trans f2⟩
theorem now_isT : ∃ m d h i s, IsT (clampI 5000) 1970 m d h i s := ⟨0, 1, 1, 23, 20, by unfold IsT IsD clampI; decide⟩
theorem put999 (w : World) (ht : TabsP w) : Calls Tryd.prog 15 #[.int .i64 999] w fun e w' => e = .returned (.string ⟨#[84, 104, 117, 44, 32, 48, 49, 32, 74, 97, 110, 32, 49, 57, 55, 48, 32, 48, 48, 58, 49, 54, 58, 51, 57, 32, 71, 77, 84]⟩) ∧ Below w.heap.size w w' := by
  have h := put_ok 999 1970 (0 : Nat) 1 0 16 39 w (by unfold IsT IsD; decide) ht
  rw [show bs (fixT (wdN 1970 0 1) 0 1 1970 0 16 39) = ⟨#[84, 104, 117, 44, 32, 48, 49, 32, 74, 97, 110, 32, 49, 57, 55, 48, 32, 48, 48, 58, 49, 54, 58, 51, 57, 32, 71, 77, 84]⟩ from by kernel_rfl] at h
  exact h
theorem put1000 (w : World) (ht : TabsP w) : Calls Tryd.prog 15 #[.int .i64 1000] w fun e w' => e = .returned (.string ⟨#[84, 104, 117, 44, 32, 48, 49, 32, 74, 97, 110, 32, 49, 57, 55, 48, 32, 48, 48, 58, 49, 54, 58, 52, 48, 32, 71, 77, 84]⟩) ∧ Below w.heap.size w w' := by
  have h := put_ok 1000 1970 (0 : Nat) 1 0 16 40 w (by unfold IsT IsD; decide) ht
  rw [show bs (fixT (wdN 1970 0 1) 0 1 1970 0 16 40) = ⟨#[84, 104, 117, 44, 32, 48, 49, 32, 74, 97, 110, 32, 49, 57, 55, 48, 32, 48, 48, 58, 49, 54, 58, 52, 48, 32, 71, 77, 84]⟩ from by kernel_rfl] at h
  exact h
theorem put2000 (w : World) (ht : TabsP w) : Calls Tryd.prog 15 #[.int .i64 2000] w fun e w' => e = .returned (.string ⟨#[84, 104, 117, 44, 32, 48, 49, 32, 74, 97, 110, 32, 49, 57, 55, 48, 32, 48, 48, 58, 51, 51, 58, 50, 48, 32, 71, 77, 84]⟩) ∧ Below w.heap.size w w' := by
  have h := put_ok 2000 1970 (0 : Nat) 1 0 33 20 w (by unfold IsT IsD; decide) ht
  rw [show bs (fixT (wdN 1970 0 1) 0 1 1970 0 33 20) = ⟨#[84, 104, 117, 44, 32, 48, 49, 32, 74, 97, 110, 32, 49, 57, 55, 48, 32, 48, 48, 58, 51, 51, 58, 50, 48, 32, 71, 77, 84]⟩ from by kernel_rfl] at h
  exact h
theorem put253402300799 (w : World) (ht : TabsP w) : Calls Tryd.prog 15 #[.int .i64 253402300799] w fun e w' => e = .returned (.string ⟨#[70, 114, 105, 44, 32, 51, 49, 32, 68, 101, 99, 32, 57, 57, 57, 57, 32, 50, 51, 58, 53, 57, 58, 53, 57, 32, 71, 77, 84]⟩) ∧ Below w.heap.size w w' := by
  have h := put_ok 253402300799 9999 (11 : Nat) 31 23 59 59 w (by unfold IsT IsD; decide) ht
  rw [show bs (fixT (wdN 9999 11 31) 11 31 9999 23 59 59) = ⟨#[70, 114, 105, 44, 32, 51, 49, 32, 68, 101, 99, 32, 57, 57, 57, 57, 32, 50, 51, 58, 53, 57, 58, 53, 57, 32, 71, 77, 84]⟩ from by kernel_rfl] at h
  exact h
def repE : List Fld := [([69, 84, 97, 103], [34, 97, 34]), ([76, 97, 115, 116, 45, 77, 111, 100, 105, 102, 105, 101, 100], [84, 104, 117, 44, 32, 48, 49, 32, 74, 97, 110, 32, 49, 57, 55, 48, 32, 48, 48, 58, 49, 54, 58, 52, 48, 32, 71, 77, 84])]
set_option maxRecDepth 100000 in
set_option maxHeartbeats 2000000 in
theorem asksE_any (n v : List UInt8) (K : Bool) (w : World) (ht : TabsP w) (hs : n.length + v.length ≤ 5900) (hK : nmB 1970 [(n, v)] repE = K) :
    Calls Tryd.prog 14 #[.string (bs n), .string (bs v)] w fun e w' => e = .returned (.bool K) ∧ Below w.heap.size w w' := by
  have hn : ∀ W, TabsP W → Below w.heap.size w W → Calls Tryd.prog 7 #[.slice (some ⟨W.heap.size + 1 + 1, 0, none⟩) 1 1, .agg #[.int .i64 200, .string ⟨#[]⟩, .int .i64 0, .slice (some ⟨W.heap.size, 0, none⟩) 2 2, .string ⟨#[]⟩], .int .i64 5000] (((W.alloc (.cells #[.string ⟨#[69, 84, 97, 103]⟩, .string ⟨#[34, 97, 34]⟩, .string ⟨#[76, 97, 115, 116, 45, 77, 111, 100, 105, 102, 105, 101, 100]⟩, .string ⟨#[84, 104, 117, 44, 32, 48, 49, 32, 74, 97, 110, 32, 49, 57, 55, 48, 32, 48, 48, 58, 49, 54, 58, 52, 48, 32, 71, 77, 84]⟩] 37)).alloc (.cells #[.int .i64 200, .string ⟨#[]⟩, .int .i64 0, .slice (some ⟨W.heap.size, 0, none⟩) 2 2, .string ⟨#[]⟩] 26)).alloc (.cells #[.string (bs n), .string (bs v)] 37)) fun e w' => e = .returned (.bool K) ∧ Below w.heap.size w w' := by
    intro W htW hb
    have b1 : Below W.heap.size W (W.alloc (.cells #[.string ⟨#[69, 84, 97, 103]⟩, .string ⟨#[34, 97, 34]⟩, .string ⟨#[76, 97, 115, 116, 45, 77, 111, 100, 105, 102, 105, 101, 100]⟩, .string ⟨#[84, 104, 117, 44, 32, 48, 49, 32, 74, 97, 110, 32, 49, 57, 55, 48, 32, 48, 48, 58, 49, 54, 58, 52, 48, 32, 71, 77, 84]⟩] 37)) := (Below.refl _ _).alloc (Nat.le_refl _) _
    have b2 : Below W.heap.size W ((W.alloc (.cells #[.string ⟨#[69, 84, 97, 103]⟩, .string ⟨#[34, 97, 34]⟩, .string ⟨#[76, 97, 115, 116, 45, 77, 111, 100, 105, 102, 105, 101, 100]⟩, .string ⟨#[84, 104, 117, 44, 32, 48, 49, 32, 74, 97, 110, 32, 49, 57, 55, 48, 32, 48, 48, 58, 49, 54, 58, 52, 48, 32, 71, 77, 84]⟩] 37)).alloc (.cells #[.int .i64 200, .string ⟨#[]⟩, .int .i64 0, .slice (some ⟨W.heap.size, 0, none⟩) 2 2, .string ⟨#[]⟩] 26)) := b1.alloc b1.size _
    have b3 : Below W.heap.size W (((W.alloc (.cells #[.string ⟨#[69, 84, 97, 103]⟩, .string ⟨#[34, 97, 34]⟩, .string ⟨#[76, 97, 115, 116, 45, 77, 111, 100, 105, 102, 105, 101, 100]⟩, .string ⟨#[84, 104, 117, 44, 32, 48, 49, 32, 74, 97, 110, 32, 49, 57, 55, 48, 32, 48, 48, 58, 49, 54, 58, 52, 48, 32, 71, 77, 84]⟩] 37)).alloc (.cells #[.int .i64 200, .string ⟨#[]⟩, .int .i64 0, .slice (some ⟨W.heap.size, 0, none⟩) 2 2, .string ⟨#[]⟩] 26)).alloc (.cells #[.string (bs n), .string (bs v)] 37)) := b2.alloc b2.size _
    have hR : FL (W.alloc (.cells #[.string ⟨#[69, 84, 97, 103]⟩, .string ⟨#[34, 97, 34]⟩, .string ⟨#[76, 97, 115, 116, 45, 77, 111, 100, 105, 102, 105, 101, 100]⟩, .string ⟨#[84, 104, 117, 44, 32, 48, 49, 32, 74, 97, 110, 32, 49, 57, 55, 48, 32, 48, 48, 58, 49, 54, 58, 52, 48, 32, 71, 77, 84]⟩] 37)) (.slice (some ⟨W.heap.size, 0, none⟩) 2 2) repE := FL_litE W repE
    have hQ : FL (((W.alloc (.cells #[.string ⟨#[69, 84, 97, 103]⟩, .string ⟨#[34, 97, 34]⟩, .string ⟨#[76, 97, 115, 116, 45, 77, 111, 100, 105, 102, 105, 101, 100]⟩, .string ⟨#[84, 104, 117, 44, 32, 48, 49, 32, 74, 97, 110, 32, 49, 57, 55, 48, 32, 48, 48, 58, 49, 54, 58, 52, 48, 32, 71, 77, 84]⟩] 37)).alloc (.cells #[.int .i64 200, .string ⟨#[]⟩, .int .i64 0, .slice (some ⟨W.heap.size, 0, none⟩) 2 2, .string ⟨#[]⟩] 26)).alloc (.cells #[.string (bs n), .string (bs v)] 37)) (.slice (some ⟨((W.alloc (.cells #[.string ⟨#[69, 84, 97, 103]⟩, .string ⟨#[34, 97, 34]⟩, .string ⟨#[76, 97, 115, 116, 45, 77, 111, 100, 105, 102, 105, 101, 100]⟩, .string ⟨#[84, 104, 117, 44, 32, 48, 49, 32, 74, 97, 110, 32, 49, 57, 55, 48, 32, 48, 48, 58, 49, 54, 58, 52, 48, 32, 71, 77, 84]⟩] 37)).alloc (.cells #[.int .i64 200, .string ⟨#[]⟩, .int .i64 0, .slice (some ⟨W.heap.size, 0, none⟩) 2 2, .string ⟨#[]⟩] 26)).heap.size, 0, none⟩) 1 1) [(n, v)] := FL_litE _ [(n, v)]
    simp only [World.size_alloc] at hQ
    have hR2 := (hR.bel ((Below.refl _ _).alloc (Nat.le_refl _) (.cells #[.int .i64 200, .string ⟨#[]⟩, .int .i64 0, .slice (some ⟨W.heap.size, 0, none⟩) 2 2, .string ⟨#[]⟩] 26))).bel ((Below.refl _ _).alloc (Nat.le_refl _) (.cells #[.string (bs n), .string (bs v)] 37))
    have h := enm_any (Y := 1970) (now := 5000) (st := 200) (mi := 0) (re := ⟨#[]⟩) (bo := ⟨#[]⟩) _ ⟨hQ, ⟨by simp, by simp [sizeL]; omega⟩, (htW.below b3).2⟩ ⟨hR2, ⟨by decide, by decide⟩, (htW.below b3).2⟩ now_isT
    rw [hK] at h
    refine h.mono ?_
    rintro e w' ⟨he, h2⟩
    exact ⟨he, hb.trans ((b3.trans (h2.mono b3.size)).mono hb.size)⟩
  have hy : ∀ W : World, ebk (((W.alloc (.cells #[.string ⟨#[69, 84, 97, 103]⟩, .string ⟨#[34, 97, 34]⟩, .string ⟨#[76, 97, 115, 116, 45, 77, 111, 100, 105, 102, 105, 101, 100]⟩, .string ⟨#[84, 104, 117, 44, 32, 48, 49, 32, 74, 97, 110, 32, 49, 57, 55, 48, 32, 48, 48, 58, 49, 54, 58, 52, 48, 32, 71, 77, 84]⟩] 37)).alloc (.cells #[.int .i64 200, .string ⟨#[]⟩, .int .i64 0, .slice (some ⟨W.heap.size, 0, none⟩) 2 2, .string ⟨#[]⟩] 26)).alloc (.cells #[.string (bs n), .string (bs v)] 37)) (W.heap.size + 1) #[.int .i64 200, .string ⟨#[]⟩, .int .i64 0, .slice (some ⟨W.heap.size, 0, none⟩) 2 2, .string ⟨#[]⟩] := by
    intro W
    have h := (ebk.new (W.alloc (.cells #[.string ⟨#[69, 84, 97, 103]⟩, .string ⟨#[34, 97, 34]⟩, .string ⟨#[76, 97, 115, 116, 45, 77, 111, 100, 105, 102, 105, 101, 100]⟩, .string ⟨#[84, 104, 117, 44, 32, 48, 49, 32, 74, 97, 110, 32, 49, 57, 55, 48, 32, 48, 48, 58, 49, 54, 58, 52, 48, 32, 71, 77, 84]⟩] 37)) #[.int .i64 200, .string ⟨#[]⟩, .int .i64 0, .slice (some ⟨W.heap.size, 0, none⟩) 2 2, .string ⟨#[]⟩] 26).below ((Below.refl _ _).alloc (Nat.le_refl _) (.cells #[.string (bs n), .string (bs v)] 37))
    rw [World.size_alloc] at h
    exact h
  have HN := Lib.hid hn; have HY := Lib.hid hy; have HP := Lib.hid (put1000 w ht); have HT := Lib.hid ht
  clear hn hy ht hs hK
  go_enter Tryd.func14, Tryd.ntmps14
  go_wp2_with fail
  refine HP.out.mono ?_
  rintro e w1 ⟨rfl, hb⟩
  have HB := Lib.hid hb; clear hb
  obtain ⟨y0, y1, y2, y3, y4⟩ := (HY.out w1).five
  go_wp2_with fail
  refine (HN.out w1 (HT.out.below HB.out) HB.out).mono ?_
  rintro e w2 ⟨rfl, hb⟩
  clear y0 y1 y2 y3 y4
  go_wp2_with fail
  go_ret
  exact ⟨rfl, hb⟩

theorem ke1 (w : World) : Calls Tryd.prog 9 #[.string ⟨#[34, 97, 34]⟩, .bool false, .string ⟨#[97]⟩] w fun e w' => e = .returned (.bool true) ∧ Below w.heap.size w w' :=
  readsE_any [34, 97, 34] false [97] w (by decide) (by kernel_rfl) (by kernel_rfl) (by kernel_rfl)
theorem ke2 (w : World) : Calls Tryd.prog 9 #[.string ⟨#[34, 34]⟩, .bool false, .string ⟨#[]⟩] w fun e w' => e = .returned (.bool true) ∧ Below w.heap.size w w' :=
  readsE_any [34, 34] false [] w (by decide) (by kernel_rfl) (by kernel_rfl) (by kernel_rfl)
theorem ke3 (w : World) : Calls Tryd.prog 10 #[.string ⟨#[119, 47, 34, 97, 34]⟩] w fun e w' => e = .returned (.bool true) ∧ Below w.heap.size w w' :=
  noE_any [119, 47, 34, 97, 34] w (by decide) (by kernel_rfl)
theorem ke4 (w : World) : Calls Tryd.prog 10 #[.string ⟨#[34, 97, 34, 34]⟩] w fun e w' => e = .returned (.bool true) ∧ Below w.heap.size w w' :=
  noE_any [34, 97, 34, 34] w (by decide) (by kernel_rfl)
theorem ke5 (w : World) : Calls Tryd.prog 10 #[.string ⟨#[34, 97, 32, 98, 34]⟩] w fun e w' => e = .returned (.bool true) ∧ Below w.heap.size w w' :=
  noE_any [34, 97, 32, 98, 34] w (by decide) (by kernel_rfl)
theorem ke6 (w : World) : Calls Tryd.prog 10 #[.string ⟨#[]⟩] w fun e w' => e = .returned (.bool true) ∧ Below w.heap.size w w' :=
  noE_any [] w (by decide) (by kernel_rfl)
theorem ke7 (w : World) : Calls Tryd.prog 10 #[.string ⟨#[34]⟩] w fun e w' => e = .returned (.bool true) ∧ Below w.heap.size w w' :=
  noE_any [34] w (by decide) (by kernel_rfl)
theorem ke8 (w : World) : Calls Tryd.prog 10 #[.string ⟨#[87, 47]⟩] w fun e w' => e = .returned (.bool true) ∧ Below w.heap.size w w' :=
  noE_any [87, 47] w (by decide) (by kernel_rfl)
theorem ke9 (w : World) : Calls Tryd.prog 10 #[.string ⟨#[34, 127, 34]⟩] w fun e w' => e = .returned (.bool true) ∧ Below w.heap.size w w' :=
  noE_any [34, 127, 34] w (by decide) (by kernel_rfl)
theorem ke10 (w : World) : Calls Tryd.prog 9 #[.string ⟨#[34, 128, 39, 34]⟩, .bool false, .string ⟨#[128, 39]⟩] w fun e w' => e = .returned (.bool true) ∧ Below w.heap.size w w' :=
  readsE_any [34, 128, 39, 34] false [128, 39] w (by decide) (by kernel_rfl) (by kernel_rfl) (by kernel_rfl)
theorem ke11 (w : World) : Calls Tryd.prog 11 #[.string ⟨#[34, 97, 34]⟩, .string ⟨#[34, 98, 34]⟩] w fun e w' => e = .returned (.bool false) ∧ Below w.heap.size w w' :=
  wk_s [34, 97, 34] [34, 98, 34] false w (by kernel_rfl) (by decide) (by decide)
theorem ke12 (w : World) : Calls Tryd.prog 12 #[.string ⟨#[34, 97, 34]⟩, .string ⟨#[34, 98, 34]⟩] w fun e w' => e = .returned (.bool false) ∧ Below w.heap.size w w' :=
  wk_w [34, 97, 34] [34, 98, 34] false w (by kernel_rfl) (by decide) (by decide)
theorem ke13 (w : World) : Calls Tryd.prog 11 #[.string ⟨#[97]⟩, .string ⟨#[97]⟩] w fun e w' => e = .returned (.bool false) ∧ Below w.heap.size w w' :=
  wk_s [97] [97] false w (by kernel_rfl) (by decide) (by decide)
theorem ke14 (w : World) : Calls Tryd.prog 12 #[.string ⟨#[97]⟩, .string ⟨#[97]⟩] w fun e w' => e = .returned (.bool false) ∧ Below w.heap.size w w' :=
  wk_w [97] [97] false w (by kernel_rfl) (by decide) (by decide)
theorem ke15 (w : World) : Calls Tryd.prog 13 #[.string ⟨#[34, 97, 34, 44, 32, 87, 47, 34, 98, 44, 99, 34]⟩] w fun e w' => ∃ v, e = .returned (.tuple #[v, .int .i64 0]) ∧ ownS w' w.heap.size v [[34, 97, 34], [87, 47, 34, 98, 44, 99, 34]] ∧ Below w.heap.size w w' := by
  have h := elist_any [34, 97, 34, 44, 32, 87, 47, 34, 98, 44, 99, 34] w (by decide)
  unfold ListPostE at h
  rw [show lsE [34, 97, 34, 44, 32, 87, 47, 34, 98, 44, 99, 34] = 0 from by kernel_rfl, show lsL [34, 97, 34, 44, 32, 87, 47, 34, 98, 44, 99, 34] = [[34, 97, 34], [87, 47, 34, 98, 44, 99, 34]] from by kernel_rfl] at h
  exact h
theorem ke16 (w : World) : Calls Tryd.prog 13 #[.string ⟨#[]⟩] w fun e w' => ∃ v, e = .returned (.tuple #[v, .int .i64 4]) ∧ ownS w' w.heap.size v [] ∧ Below w.heap.size w w' := by
  have h := elist_any [] w (by decide)
  unfold ListPostE at h
  rw [show lsE [] = 4 from by kernel_rfl, show lsL [] = [] from by kernel_rfl] at h
  exact h
theorem ke17 (w : World) : Calls Tryd.prog 13 #[.string ⟨#[42]⟩] w fun e w' => ∃ v, e = .returned (.tuple #[v, .int .i64 4]) ∧ ownS w' w.heap.size v [] ∧ Below w.heap.size w w' := by
  have h := elist_any [42] w (by decide)
  unfold ListPostE at h
  rw [show lsE [42] = 4 from by kernel_rfl, show lsL [42] = [] from by kernel_rfl] at h
  exact h
theorem ke18 (w : World) : Calls Tryd.prog 13 #[.string ⟨#[34, 97, 34, 32, 98]⟩] w fun e w' => ∃ v, e = .returned (.tuple #[v, .int .i64 4]) ∧ ownS w' w.heap.size v [] ∧ Below w.heap.size w w' := by
  have h := elist_any [34, 97, 34, 32, 98] w (by decide)
  unfold ListPostE at h
  rw [show lsE [34, 97, 34, 32, 98] = 4 from by kernel_rfl, show lsL [34, 97, 34, 32, 98] = [] from by kernel_rfl] at h
  exact h
set_option maxRecDepth 100000 in
theorem ke19 (w : World) (ht : TabsP w) : Calls Tryd.prog 14 #[.string ⟨#[73, 102, 45, 78, 111, 110, 101, 45, 77, 97, 116, 99, 104]⟩, .string ⟨#[42]⟩] w fun e w' => e = .returned (.bool true) ∧ Below w.heap.size w w' :=
  asksE_any [73, 102, 45, 78, 111, 110, 101, 45, 77, 97, 116, 99, 104] [42] true w ht (by decide) (by kernel_rfl)
set_option maxRecDepth 100000 in
theorem ke20 (w : World) (ht : TabsP w) : Calls Tryd.prog 14 #[.string ⟨#[105, 102, 45, 110, 111, 110, 101, 45, 109, 97, 116, 99, 104]⟩, .string ⟨#[87, 47, 34, 97, 34, 44, 32, 34, 98, 34]⟩] w fun e w' => e = .returned (.bool true) ∧ Below w.heap.size w w' :=
  asksE_any [105, 102, 45, 110, 111, 110, 101, 45, 109, 97, 116, 99, 104] [87, 47, 34, 97, 34, 44, 32, 34, 98, 34] true w ht (by decide) (by kernel_rfl)
set_option maxRecDepth 100000 in
theorem ke21 (w : World) (ht : TabsP w) : Calls Tryd.prog 14 #[.string ⟨#[73, 102, 45, 78, 111, 110, 101, 45, 77, 97, 116, 99, 104]⟩, .string ⟨#[34, 98, 34]⟩] w fun e w' => e = .returned (.bool false) ∧ Below w.heap.size w w' :=
  asksE_any [73, 102, 45, 78, 111, 110, 101, 45, 77, 97, 116, 99, 104] [34, 98, 34] false w ht (by decide) (by kernel_rfl)
set_option maxRecDepth 100000 in
theorem ke22 (w : World) (ht : TabsP w) : Calls Tryd.prog 14 #[.string ⟨#[73, 102, 45, 78, 111, 110, 101, 45, 77, 97, 116, 99, 104]⟩, .string ⟨#[34, 97, 34, 44, 32, 98]⟩] w fun e w' => e = .returned (.bool false) ∧ Below w.heap.size w w' :=
  asksE_any [73, 102, 45, 78, 111, 110, 101, 45, 77, 97, 116, 99, 104] [34, 97, 34, 44, 32, 98] false w ht (by decide) (by kernel_rfl)
set_option maxRecDepth 100000 in
theorem ke23 (w : World) (ht : TabsP w) : Calls Tryd.prog 14 #[.string ⟨#[73, 102, 45, 78, 111, 110, 101, 45, 77, 97, 116, 99, 104]⟩, .string ⟨#[]⟩] w fun e w' => e = .returned (.bool false) ∧ Below w.heap.size w w' :=
  asksE_any [73, 102, 45, 78, 111, 110, 101, 45, 77, 97, 116, 99, 104] [] false w ht (by decide) (by kernel_rfl)
set_option maxRecDepth 100000 in
theorem ke24 (w : World) (ht : TabsP w) : Calls Tryd.prog 14 #[.string ⟨#[73, 102, 45, 77, 111, 100, 105, 102, 105, 101, 100, 45, 83, 105, 110, 99, 101]⟩, .string ⟨#[84, 104, 117, 44, 32, 48, 49, 32, 74, 97, 110, 32, 49, 57, 55, 48, 32, 48, 48, 58, 49, 54, 58, 52, 48, 32, 71, 77, 84]⟩] w fun e w' => e = .returned (.bool true) ∧ Below w.heap.size w w' :=
  asksE_any [73, 102, 45, 77, 111, 100, 105, 102, 105, 101, 100, 45, 83, 105, 110, 99, 101] [84, 104, 117, 44, 32, 48, 49, 32, 74, 97, 110, 32, 49, 57, 55, 48, 32, 48, 48, 58, 49, 54, 58, 52, 48, 32, 71, 77, 84] true w ht (by decide) (by kernel_rfl)
set_option maxRecDepth 100000 in
theorem ke25 (w : World) (ht : TabsP w) : Calls Tryd.prog 14 #[.string ⟨#[73, 102, 45, 77, 111, 100, 105, 102, 105, 101, 100, 45, 83, 105, 110, 99, 101]⟩, .string ⟨#[84, 104, 117, 44, 32, 48, 49, 32, 74, 97, 110, 32, 49, 57, 55, 48, 32, 48, 48, 58, 49, 54, 58, 51, 57, 32, 71, 77, 84]⟩] w fun e w' => e = .returned (.bool false) ∧ Below w.heap.size w w' :=
  asksE_any [73, 102, 45, 77, 111, 100, 105, 102, 105, 101, 100, 45, 83, 105, 110, 99, 101] [84, 104, 117, 44, 32, 48, 49, 32, 74, 97, 110, 32, 49, 57, 55, 48, 32, 48, 48, 58, 49, 54, 58, 51, 57, 32, 71, 77, 84] false w ht (by decide) (by kernel_rfl)
set_option maxRecDepth 100000 in
theorem ke26 (w : World) (ht : TabsP w) : Calls Tryd.prog 14 #[.string ⟨#[73, 102, 45, 77, 111, 100, 105, 102, 105, 101, 100, 45, 83, 105, 110, 99, 101]⟩, .string ⟨#[70, 114, 105, 44, 32, 51, 49, 32, 68, 101, 99, 32, 57, 57, 57, 57, 32, 50, 51, 58, 53, 57, 58, 53, 57, 32, 71, 77, 84]⟩] w fun e w' => e = .returned (.bool true) ∧ Below w.heap.size w w' :=
  asksE_any [73, 102, 45, 77, 111, 100, 105, 102, 105, 101, 100, 45, 83, 105, 110, 99, 101] [70, 114, 105, 44, 32, 51, 49, 32, 68, 101, 99, 32, 57, 57, 57, 57, 32, 50, 51, 58, 53, 57, 58, 53, 57, 32, 71, 77, 84] true w ht (by decide) (by kernel_rfl)
set_option maxRecDepth 100000 in
theorem ke27 (w : World) (ht : TabsP w) : Calls Tryd.prog 14 #[.string ⟨#[73, 102, 45, 77, 111, 100, 105, 102, 105, 101, 100, 45, 83, 105, 110, 99, 101]⟩, .string ⟨#[120]⟩] w fun e w' => e = .returned (.bool false) ∧ Below w.heap.size w w' :=
  asksE_any [73, 102, 45, 77, 111, 100, 105, 102, 105, 101, 100, 45, 83, 105, 110, 99, 101] [120] false w ht (by decide) (by kernel_rfl)
set_option maxRecDepth 100000 in
theorem ke28 (w : World) (ht : TabsP w) : Calls Tryd.prog 14 #[.string ⟨#[88]⟩, .string ⟨#[42]⟩] w fun e w' => e = .returned (.bool false) ∧ Below w.heap.size w w' :=
  asksE_any [88] [42] false w ht (by decide) (by kernel_rfl)
def bothE : List Fld := [([73, 102, 45, 78, 111, 110, 101, 45, 77, 97, 116, 99, 104], [34, 98, 34]), ([73, 102, 45, 77, 111, 100, 105, 102, 105, 101, 100, 45, 83, 105, 110, 99, 101], [84, 104, 117, 44, 32, 48, 49, 32, 74, 97, 110, 32, 49, 57, 55, 48, 32, 48, 48, 58, 51, 51, 58, 50, 48, 32, 71, 77, 84])]
set_option maxRecDepth 100000 in
theorem bothE_nm : nmB 1970 bothE repE = false := by kernel_rfl
set_option maxRecDepth 100000 in
set_option maxHeartbeats 8000000 in
theorem etagKnown_law (w : World) (ht : TabsP w) :
    Calls Tryd.prog 4 #[] w fun e w' => e = .returned (.bool true) ∧ Below w.heap.size w w' := by
  have HT := Lib.hid ht; clear ht
  have HB0 := Lib.hid (Below.refl w.heap.size w)
  go_enter Tryd.func4, Tryd.ntmps4
  go_wp2_with fail
  refine (worksE_any _).mono ?_
  rintro e w1 ⟨rfl, hb⟩
  have HB1 := Lib.hid (HB0.out.trans (hb.mono HB0.out.size)); clear hb
  go_wp2_with fail
  refine (ke1 _).mono ?_
  rintro e w2 ⟨rfl, hb⟩
  have HB2 := Lib.hid (HB1.out.trans (hb.mono HB1.out.size)); clear hb
  go_wp2_with fail
  refine (ke2 _).mono ?_
  rintro e w3 ⟨rfl, hb⟩
  have HB3 := Lib.hid (HB2.out.trans (hb.mono HB2.out.size)); clear hb
  go_wp2_with fail
  refine (ke3 _).mono ?_
  rintro e w4 ⟨rfl, hb⟩
  have HB4 := Lib.hid (HB3.out.trans (hb.mono HB3.out.size)); clear hb
  go_wp2_with fail
  refine (ke4 _).mono ?_
  rintro e w5 ⟨rfl, hb⟩
  have HB5 := Lib.hid (HB4.out.trans (hb.mono HB4.out.size)); clear hb
  go_wp2_with fail
  refine (ke5 _).mono ?_
  rintro e w6 ⟨rfl, hb⟩
  have HB6 := Lib.hid (HB5.out.trans (hb.mono HB5.out.size)); clear hb
  go_wp2_with fail
  refine (ke6 _).mono ?_
  rintro e w7 ⟨rfl, hb⟩
  have HB7 := Lib.hid (HB6.out.trans (hb.mono HB6.out.size)); clear hb
  go_wp2_with fail
  refine (ke7 _).mono ?_
  rintro e w8 ⟨rfl, hb⟩
  have HB8 := Lib.hid (HB7.out.trans (hb.mono HB7.out.size)); clear hb
  go_wp2_with fail
  refine (ke8 _).mono ?_
  rintro e w9 ⟨rfl, hb⟩
  have HB9 := Lib.hid (HB8.out.trans (hb.mono HB8.out.size)); clear hb
  go_wp2_with fail
  refine (ke9 _).mono ?_
  rintro e w10 ⟨rfl, hb⟩
  have HB10 := Lib.hid (HB9.out.trans (hb.mono HB9.out.size)); clear hb
  go_wp2_with fail
  refine (ke10 _).mono ?_
  rintro e w11 ⟨rfl, hb⟩
  have HB11 := Lib.hid (HB10.out.trans (hb.mono HB10.out.size)); clear hb
  go_wp2_with fail
  refine (ke11 _).mono ?_
  rintro e w12 ⟨rfl, hb⟩
  have HB12 := Lib.hid (HB11.out.trans (hb.mono HB11.out.size)); clear hb
  go_wp2_with fail
  refine (ke12 _).mono ?_
  rintro e w13 ⟨rfl, hb⟩
  have HB13 := Lib.hid (HB12.out.trans (hb.mono HB12.out.size)); clear hb
  go_wp2_with fail
  refine (ke13 _).mono ?_
  rintro e w14 ⟨rfl, hb⟩
  have HB14 := Lib.hid (HB13.out.trans (hb.mono HB13.out.size)); clear hb
  go_wp2_with fail
  refine (ke14 _).mono ?_
  rintro e w15 ⟨rfl, hb⟩
  have HB15 := Lib.hid (HB14.out.trans (hb.mono HB14.out.size)); clear hb
  go_wp2_with fail
  refine (ke15 _).mono ?_
  rintro e w16 ⟨v15, rfl, ho, hb⟩
  obtain ⟨A15, c15, rfl⟩ := ho.form
  have HO := Lib.hid ho
  have HB16 := Lib.hid (HB15.out.trans (hb.mono HB15.out.size)); clear hb ho
  go_wp2_with fail
  refine (ke16 _).mono ?_
  rintro e w17 ⟨v16, rfl, ho, hb⟩
  obtain ⟨A16, c16, rfl⟩ := ho.form
  have HO := Lib.hid (HO.out.bel hb)
  have HB17 := Lib.hid (HB16.out.trans (hb.mono HB16.out.size)); clear hb ho
  go_wp2_with fail
  refine (ke17 _).mono ?_
  rintro e w18 ⟨v17, rfl, ho, hb⟩
  obtain ⟨A17, c17, rfl⟩ := ho.form
  have HO := Lib.hid (HO.out.bel hb)
  have HB18 := Lib.hid (HB17.out.trans (hb.mono HB17.out.size)); clear hb ho
  go_wp2_with fail
  refine (ke18 _).mono ?_
  rintro e w19 ⟨v18, rfl, ho, hb⟩
  obtain ⟨A18, c18, rfl⟩ := ho.form
  have HO := Lib.hid (HO.out.bel hb)
  have HB19 := Lib.hid (HB18.out.trans (hb.mono HB18.out.size)); clear hb ho
  obtain ⟨bl, off, he, _, hc⟩ := HO.out.sl.get 1 (by decide)
  subst he
  rw [show bs (([[34, 97, 34], [87, 47, 34, 98, 44, 99, 34]] : List (List UInt8))[1]) = ⟨#[87, 47, 34, 98, 44, 99, 34]⟩ from rfl] at hc
  clear HO
  go_wp2_with fail
  refine (ke19 _ (HT.out.below HB19.out)).mono ?_
  rintro e w20 ⟨rfl, hb⟩
  have HB20 := Lib.hid (HB19.out.trans (hb.mono HB19.out.size)); clear hb
  clear hc
  go_wp2_with fail
  refine (ke20 _ (HT.out.below HB20.out)).mono ?_
  rintro e w21 ⟨rfl, hb⟩
  have HB21 := Lib.hid (HB20.out.trans (hb.mono HB20.out.size)); clear hb
  go_wp2_with fail
  refine (ke21 _ (HT.out.below HB21.out)).mono ?_
  rintro e w22 ⟨rfl, hb⟩
  have HB22 := Lib.hid (HB21.out.trans (hb.mono HB21.out.size)); clear hb
  go_wp2_with fail
  refine (ke22 _ (HT.out.below HB22.out)).mono ?_
  rintro e w23 ⟨rfl, hb⟩
  have HB23 := Lib.hid (HB22.out.trans (hb.mono HB22.out.size)); clear hb
  go_wp2_with fail
  refine (ke23 _ (HT.out.below HB23.out)).mono ?_
  rintro e w24 ⟨rfl, hb⟩
  have HB24 := Lib.hid (HB23.out.trans (hb.mono HB23.out.size)); clear hb
  go_wp2_with fail
  refine (put2000 _ (HT.out.below HB24.out)).mono ?_
  rintro e w25 ⟨rfl, hb⟩
  have HB25 := Lib.hid (HB24.out.trans (hb.mono HB24.out.size)); clear hb
  have hq25 : Below w25.heap.size w25 (w25.alloc (.cells #[.string ⟨#[73, 102, 45, 78, 111, 110, 101, 45, 77, 97, 116, 99, 104]⟩, .string ⟨#[34, 98, 34]⟩, .string ⟨#[73, 102, 45, 77, 111, 100, 105, 102, 105, 101, 100, 45, 83, 105, 110, 99, 101]⟩, .string ⟨#[84, 104, 117, 44, 32, 48, 49, 32, 74, 97, 110, 32, 49, 57, 55, 48, 32, 48, 48, 58, 51, 51, 58, 50, 48, 32, 71, 77, 84]⟩] 37)) := (Below.refl _ _).alloc (Nat.le_refl _) _
  have hQ0 : FL (w25.alloc (.cells #[.string ⟨#[73, 102, 45, 78, 111, 110, 101, 45, 77, 97, 116, 99, 104]⟩, .string ⟨#[34, 98, 34]⟩, .string ⟨#[73, 102, 45, 77, 111, 100, 105, 102, 105, 101, 100, 45, 83, 105, 110, 99, 101]⟩, .string ⟨#[84, 104, 117, 44, 32, 48, 49, 32, 74, 97, 110, 32, 49, 57, 55, 48, 32, 48, 48, 58, 51, 51, 58, 50, 48, 32, 71, 77, 84]⟩] 37)) (.slice (some ⟨w25.heap.size, 0, none⟩) 2 2) bothE := FL_litE w25 bothE
  have HQ := Lib.hid hQ0; clear hQ0
  have HBq := Lib.hid (HB25.out.trans (hq25.mono HB25.out.size)); clear hq25
  go_wp2_with fail
  generalize hsz : w25.heap.size = qb at *
  generalize w25.alloc (.cells #[.string ⟨#[73, 102, 45, 78, 111, 110, 101, 45, 77, 97, 116, 99, 104]⟩, .string ⟨#[34, 98, 34]⟩, .string ⟨#[73, 102, 45, 77, 111, 100, 105, 102, 105, 101, 100, 45, 83, 105, 110, 99, 101]⟩, .string ⟨#[84, 104, 117, 44, 32, 48, 49, 32, 74, 97, 110, 32, 49, 57, 55, 48, 32, 48, 48, 58, 51, 51, 58, 50, 48, 32, 71, 77, 84]⟩] 37) = q0 at *
  refine (put1000 _ (HT.out.below HBq.out)).mono ?_
  rintro e r0 ⟨rfl, hb⟩
  have HBr := Lib.hid (HBq.out.trans (hb.mono HBq.out.size)); have HQ := Lib.hid (HQ.out.bel hb); clear hb hsz
  have b1 : Below r0.heap.size r0 (r0.alloc (.cells #[.string ⟨#[69, 84, 97, 103]⟩, .string ⟨#[34, 97, 34]⟩, .string ⟨#[76, 97, 115, 116, 45, 77, 111, 100, 105, 102, 105, 101, 100]⟩, .string ⟨#[84, 104, 117, 44, 32, 48, 49, 32, 74, 97, 110, 32, 49, 57, 55, 48, 32, 48, 48, 58, 49, 54, 58, 52, 48, 32, 71, 77, 84]⟩] 37)) := (Below.refl _ _).alloc (Nat.le_refl _) _
  have b2 : Below r0.heap.size r0 ((r0.alloc (.cells #[.string ⟨#[69, 84, 97, 103]⟩, .string ⟨#[34, 97, 34]⟩, .string ⟨#[76, 97, 115, 116, 45, 77, 111, 100, 105, 102, 105, 101, 100]⟩, .string ⟨#[84, 104, 117, 44, 32, 48, 49, 32, 74, 97, 110, 32, 49, 57, 55, 48, 32, 48, 48, 58, 49, 54, 58, 52, 48, 32, 71, 77, 84]⟩] 37)).alloc (.cells #[.int .i64 200, .string ⟨#[]⟩, .int .i64 0, .slice (some ⟨r0.heap.size, 0, none⟩) 2 2, .string ⟨#[]⟩] 26)) := b1.alloc b1.size _
  have hR : FL (r0.alloc (.cells #[.string ⟨#[69, 84, 97, 103]⟩, .string ⟨#[34, 97, 34]⟩, .string ⟨#[76, 97, 115, 116, 45, 77, 111, 100, 105, 102, 105, 101, 100]⟩, .string ⟨#[84, 104, 117, 44, 32, 48, 49, 32, 74, 97, 110, 32, 49, 57, 55, 48, 32, 48, 48, 58, 49, 54, 58, 52, 48, 32, 71, 77, 84]⟩] 37)) (.slice (some ⟨r0.heap.size, 0, none⟩) 2 2) repE := FL_litE r0 repE
  have HR := Lib.hid (hR.bel ((Below.refl _ _).alloc (Nat.le_refl _) (.cells #[.int .i64 200, .string ⟨#[]⟩, .int .i64 0, .slice (some ⟨r0.heap.size, 0, none⟩) 2 2, .string ⟨#[]⟩] 26)))
  have hY := ebk.new (r0.alloc (.cells #[.string ⟨#[69, 84, 97, 103]⟩, .string ⟨#[34, 97, 34]⟩, .string ⟨#[76, 97, 115, 116, 45, 77, 111, 100, 105, 102, 105, 101, 100]⟩, .string ⟨#[84, 104, 117, 44, 32, 48, 49, 32, 74, 97, 110, 32, 49, 57, 55, 48, 32, 48, 48, 58, 49, 54, 58, 52, 48, 32, 71, 77, 84]⟩] 37)) #[.int .i64 200, .string ⟨#[]⟩, .int .i64 0, .slice (some ⟨r0.heap.size, 0, none⟩) 2 2, .string ⟨#[]⟩] 26
  rw [World.size_alloc] at hY
  have HY := Lib.hid hY
  have HQ := Lib.hid (HQ.out.bel b2)
  have HBs := Lib.hid (HBr.out.trans (b2.mono HBr.out.size)); clear b1 b2 hR hY
  obtain ⟨y0, y1, y2, y3, y4⟩ := HY.out.five
  go_wp2_with fail
  clear y0 y1 y2 y3 y4 HY
  have h := enm_any (Y := 1970) (now := 5000) (st := 200) (mi := 0) (re := ⟨#[]⟩) (bo := ⟨#[]⟩) _ ⟨HQ.out, ⟨by decide, by decide⟩, (HT.out.below HBs.out).2⟩ ⟨HR.out, ⟨by decide, by decide⟩, (HT.out.below HBs.out).2⟩ now_isT
  rw [bothE_nm] at h
  have HNM := Lib.hid h; clear h HQ HR
  refine HNM.out.mono ?_
  rintro e w26 ⟨rfl, hb⟩
  have HB26 := Lib.hid (HBs.out.trans (hb.mono HBs.out.size)); clear hb HNM HBs HBr HBq
  go_wp2_with fail
  refine (put1000 _ (HT.out.below HB26.out)).mono ?_
  rintro e w27 ⟨rfl, hb⟩
  have HB27 := Lib.hid (HB26.out.trans (hb.mono HB26.out.size)); clear hb
  go_wp2_with fail
  refine (ke24 _ (HT.out.below HB27.out)).mono ?_
  rintro e w28 ⟨rfl, hb⟩
  have HB28 := Lib.hid (HB27.out.trans (hb.mono HB27.out.size)); clear hb
  go_wp2_with fail
  refine (put999 _ (HT.out.below HB28.out)).mono ?_
  rintro e w29 ⟨rfl, hb⟩
  have HB29 := Lib.hid (HB28.out.trans (hb.mono HB28.out.size)); clear hb
  go_wp2_with fail
  refine (ke25 _ (HT.out.below HB29.out)).mono ?_
  rintro e w30 ⟨rfl, hb⟩
  have HB30 := Lib.hid (HB29.out.trans (hb.mono HB29.out.size)); clear hb
  go_wp2_with fail
  refine (put253402300799 _ (HT.out.below HB30.out)).mono ?_
  rintro e w31 ⟨rfl, hb⟩
  have HB31 := Lib.hid (HB30.out.trans (hb.mono HB30.out.size)); clear hb
  go_wp2_with fail
  refine (ke26 _ (HT.out.below HB31.out)).mono ?_
  rintro e w32 ⟨rfl, hb⟩
  have HB32 := Lib.hid (HB31.out.trans (hb.mono HB31.out.size)); clear hb
  go_wp2_with fail
  refine (ke27 _ (HT.out.below HB32.out)).mono ?_
  rintro e w33 ⟨rfl, hb⟩
  have HB33 := Lib.hid (HB32.out.trans (hb.mono HB32.out.size)); clear hb
  go_wp2_with fail
  refine (ke28 _ (HT.out.below HB33.out)).mono ?_
  rintro e w34 ⟨rfl, hb⟩
  have HB34 := Lib.hid (HB33.out.trans (hb.mono HB33.out.size)); clear hb
  go_wp2_with fail
  refine (worksE_any _).mono ?_
  rintro e w35 ⟨rfl, hb⟩
  have HB35 := Lib.hid (HB34.out.trans (hb.mono HB34.out.size)); clear hb
  go_wp2_with fail
  go_ret
  exact ⟨rfl, HB35.out⟩
end Go.Proofs.YtjbkjmceabilaaaDoor
