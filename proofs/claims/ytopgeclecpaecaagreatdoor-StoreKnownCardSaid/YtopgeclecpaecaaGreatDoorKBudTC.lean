/- What is asked for, dropped, told of a budget (values: inlay/store.item). -/
import Derived.Test.YtopgeclecpaecaaGreatDoorKBkMid
import Derived.Test.YtopgeclecpaecaaGreatDoorKBudTB
namespace Go.Proofs.YtopgeclecpaecaaGreatDoor.BT
open Go.RowKit
theorem Did.thenBelow {X X' : Nat → Prop} {a b c : World} (h : Did X X' a b) (k : Below a.heap.size b c) : Did X X' a c :=
  ⟨k.os.trans h.os, k.tape.trans h.tape, k.output.trans h.output, Nat.le_trans h.size k.size, fun i hi hx => (k.block i hi).trans (h.keep i hi hx), h.new⟩
theorem infoT : Hid ((Tryz.prog.info? 61).map (·.size) = some 9) := by
  have : (Tryz.prog.info? 61).map (fun i => i.size) = some 9 := by kernel_rfl
  exact this
theorem nine_at (a b v0 v1 v2 v3 v4 v5 v6 v7 v8 c d : Value) : ∀ j v, [v0, v1, v2, v3, v4, v5, v6, v7, v8][j]? = some v → #[a, b, v0, v1, v2, v3, v4, v5, v6, v7, v8, c, d][2 + j]? = some v := by
  intro j v h
  match j, h with
  | 0, h => exact h
  | 1, h => exact h
  | 2, h => exact h
  | 3, h => exact h
  | 4, h => exact h
  | 5, h => exact h
  | 6, h => exact h
  | 7, h => exact h
  | 8, h => exact h
  | j + 9, h => simp at h
/-- no budget of New's -/
def Un (w : World) (v : Value) : Prop := v = .pointer none ∨ ∃ b, v = .pointer (some ⟨b, 0, none⟩) ∧ bk w b #[.pointer none]
theorem made_un {w : World} {v : Value} (h : Un w v) : Calls Tryz.prog 57 #[v] w fun e w' => e = .returned (.bool false) ∧ w = w' := by
  rcases h with rfl | ⟨b, rfl, h⟩
  · exact made_nil w
  · exact made_zero b w h
section
variable {w : World} {v : Value}
theorem find_un (h : Un w v) (k : ByteArray) : Calls Tryz.prog 63 #[v, .string k] w fun e w' => e = .returned (.pointer none) ∧ w = w' := by
  have HM := Lib.hid (made_un h)
  clear h
  go_enter Tryz.func63, Tryz.ntmps63
  go_wp2_with fail
  refine HM.out.mono ?_
  rintro e wx ⟨rfl, rfl⟩
  go_wp2_with fail
  go_ret
  exact ⟨rfl, rfl⟩
theorem Un.bel {w w' : World} {v : Value} (h : Un w v) (hb : Below w.heap.size w w') : Un w' v := by
  rcases h with h | ⟨b, h, hk⟩
  · exact .inl h
  · exact .inr ⟨b, h, hk.below hb⟩
set_option maxRecDepth 100000 in
set_option maxHeartbeats 1000000 in
theorem peek_un (h : Un w v) (k : ByteArray) : Calls Tryz.prog 34 #[v, .string k] w fun e w' => e = .returned (.tuple #[.agg #[.int .i64 0, .string ⟨#[]⟩, .int .i64 0, .slice none 0 0, .string ⟨#[]⟩, .int .i64 0, .int .i64 0, .slice none 0 0, .int .i64 0], .bool false]) ∧ Below w.heap.size w w' := by
  have hal : Below w.heap.size w (w.alloc (.cells #[.int .i64 0, .string ⟨#[]⟩, .int .i64 0, .slice none 0 0, .string ⟨#[]⟩, .int .i64 0, .int .i64 0, .slice none 0 0, .int .i64 0] 61)) := (Below.refl _ _).alloc (Nat.le_refl _) _
  have HM := Lib.hid (find_un (h.bel hal) k)
  have HB := Lib.hid hal
  have hn := bk.new w #[.int .i64 0, .string ⟨#[]⟩, .int .i64 0, .slice none 0 0, .string ⟨#[]⟩, .int .i64 0, .int .i64 0, .slice none 0 0, .int .i64 0] 61
  have HLD0 := hn
  clear h hal
  have HST : Hid (World.there (w.alloc (.cells #[.int .i64 0, .string ⟨#[]⟩, .int .i64 0, .slice none 0 0, .string ⟨#[]⟩, .int .i64 0, .int .i64 0, .slice none 0 0, .int .i64 0] 61)) w.heap.size 0 9) := hn.there 0 9 (by decide)
  have HLD : Hid (World.rangeAt (w.alloc (.cells #[.int .i64 0, .string ⟨#[]⟩, .int .i64 0, .slice none 0 0, .string ⟨#[]⟩, .int .i64 0, .int .i64 0, .slice none 0 0, .int .i64 0] 61)) w.heap.size 0 [.int .i64 0, .string ⟨#[]⟩, .int .i64 0, .slice none 0 0, .string ⟨#[]⟩, .int .i64 0, .int .i64 0, .slice none 0 0, .int .i64 0]) := HLD0.range0 (l := [.int .i64 0, .string ⟨#[]⟩, .int .i64 0, .slice none 0 0, .string ⟨#[]⟩, .int .i64 0, .int .i64 0, .slice none 0 0, .int .i64 0])
  have HQ := Lib.hid (hn.setAll [.int .i64 0, .string ⟨#[]⟩, .int .i64 0, .slice none 0 0, .string ⟨#[]⟩, .int .i64 0, .int .i64 0, .slice none 0 0, .int .i64 0] rfl)
  have HBF : Hid (Below w.heap.size w (World.setCells (w.alloc (.cells #[.int .i64 0, .string ⟨#[]⟩, .int .i64 0, .slice none 0 0, .string ⟨#[]⟩, .int .i64 0, .int .i64 0, .slice none 0 0, .int .i64 0] 61)) w.heap.size 0 [.int .i64 0, .string ⟨#[]⟩, .int .i64 0, .slice none 0 0, .string ⟨#[]⟩, .int .i64 0, .int .i64 0, .slice none 0 0, .int .i64 0])) := Below.cells HB.out _ (Nat.le_refl _) [.int .i64 0, .string ⟨#[]⟩, .int .i64 0, .slice none 0 0, .string ⟨#[]⟩, .int .i64 0, .int .i64 0, .slice none 0 0, .int .i64 0] 0
  clear hn
  go_enter Tryz.func34, Tryz.ntmps34
  go_wp2_with fail
  refine HM.out.mono ?_
  rintro e wx ⟨rfl, rfl⟩
  go_wp2_with (first | (refine wpList_load_mid rfl 61 (.tmp 4) rfl _ 0 rfl [.int .i64 0, .string ⟨#[]⟩, .int .i64 0, .slice none 0 0, .string ⟨#[]⟩, .int .i64 0, .int .i64 0, .slice none 0 0, .int .i64 0] _ HLD.out Tryz.underlying61 rfl infoT.out ?_; clear HLD) | (refine wpList_store_mid rfl 61 (.tmp 4) (.tmp 12) rfl _ 0 #[.int .i64 0, .string ⟨#[]⟩, .int .i64 0, .slice none 0 0, .string ⟨#[]⟩, .int .i64 0, .int .i64 0, .slice none 0 0, .int .i64 0] rfl rfl HST.out infoT.out zero_one ?_; clear HST))
  have m0 := HQ.out.cell 0 (.int .i64 0) rfl
  have m1 := HQ.out.cell 1 (.string ⟨#[]⟩) rfl
  have m2 := HQ.out.cell 2 (.int .i64 0) rfl
  have m3 := HQ.out.cell 3 (.slice none 0 0) rfl
  have m4 := HQ.out.cell 4 (.string ⟨#[]⟩) rfl
  have m5 := HQ.out.cell 5 (.int .i64 0) rfl
  have m6 := HQ.out.cell 6 (.int .i64 0) rfl
  have m7 := HQ.out.cell 7 (.slice none 0 0) rfl
  have m8 := HQ.out.cell 8 (.int .i64 0) rfl
  refine bodyPost_ret (v := .tuple #[.agg #[.int .i64 0, .string ⟨#[]⟩, .int .i64 0, .slice none 0 0, .string ⟨#[]⟩, .int .i64 0, .int .i64 0, .slice none 0 0, .int .i64 0], .bool false]) (by simp [results, Tryz.results34, go_sem, m0, m1, m2, m3, m4, m5, m6, m7, m8]) rfl ?_
  exact ⟨rfl, HBF.out⟩
set_option maxRecDepth 100000 in
set_option maxHeartbeats 1000000 in
theorem get_un (h : Un w v) (k : ByteArray) : Calls Tryz.prog 50 #[v, .string k] w fun e w' => e = .returned (.tuple #[.agg #[.int .i64 0, .string ⟨#[]⟩, .int .i64 0, .slice none 0 0, .string ⟨#[]⟩, .int .i64 0, .int .i64 0, .slice none 0 0, .int .i64 0], .bool false]) ∧ Below w.heap.size w w' := by
  have hal : Below w.heap.size w (w.alloc (.cells #[.int .i64 0, .string ⟨#[]⟩, .int .i64 0, .slice none 0 0, .string ⟨#[]⟩, .int .i64 0, .int .i64 0, .slice none 0 0, .int .i64 0] 61)) := (Below.refl _ _).alloc (Nat.le_refl _) _
  have HM := Lib.hid (find_un (h.bel hal) k)
  have HB := Lib.hid hal
  have hn := bk.new w #[.int .i64 0, .string ⟨#[]⟩, .int .i64 0, .slice none 0 0, .string ⟨#[]⟩, .int .i64 0, .int .i64 0, .slice none 0 0, .int .i64 0] 61
  have HLD0 := hn
  clear h hal
  have HST : Hid (World.there (w.alloc (.cells #[.int .i64 0, .string ⟨#[]⟩, .int .i64 0, .slice none 0 0, .string ⟨#[]⟩, .int .i64 0, .int .i64 0, .slice none 0 0, .int .i64 0] 61)) w.heap.size 0 9) := hn.there 0 9 (by decide)
  have HLD : Hid (World.rangeAt (w.alloc (.cells #[.int .i64 0, .string ⟨#[]⟩, .int .i64 0, .slice none 0 0, .string ⟨#[]⟩, .int .i64 0, .int .i64 0, .slice none 0 0, .int .i64 0] 61)) w.heap.size 0 [.int .i64 0, .string ⟨#[]⟩, .int .i64 0, .slice none 0 0, .string ⟨#[]⟩, .int .i64 0, .int .i64 0, .slice none 0 0, .int .i64 0]) := HLD0.range0 (l := [.int .i64 0, .string ⟨#[]⟩, .int .i64 0, .slice none 0 0, .string ⟨#[]⟩, .int .i64 0, .int .i64 0, .slice none 0 0, .int .i64 0])
  have HQ := Lib.hid (hn.setAll [.int .i64 0, .string ⟨#[]⟩, .int .i64 0, .slice none 0 0, .string ⟨#[]⟩, .int .i64 0, .int .i64 0, .slice none 0 0, .int .i64 0] rfl)
  have HBF : Hid (Below w.heap.size w (World.setCells (w.alloc (.cells #[.int .i64 0, .string ⟨#[]⟩, .int .i64 0, .slice none 0 0, .string ⟨#[]⟩, .int .i64 0, .int .i64 0, .slice none 0 0, .int .i64 0] 61)) w.heap.size 0 [.int .i64 0, .string ⟨#[]⟩, .int .i64 0, .slice none 0 0, .string ⟨#[]⟩, .int .i64 0, .int .i64 0, .slice none 0 0, .int .i64 0])) := Below.cells HB.out _ (Nat.le_refl _) [.int .i64 0, .string ⟨#[]⟩, .int .i64 0, .slice none 0 0, .string ⟨#[]⟩, .int .i64 0, .int .i64 0, .slice none 0 0, .int .i64 0] 0
  clear hn
  go_enter Tryz.func50, Tryz.ntmps50
  go_wp2_with fail
  refine HM.out.mono ?_
  rintro e wx ⟨rfl, rfl⟩
  go_wp2_with (first | (refine wpList_load_mid rfl 61 (.tmp 4) rfl _ 0 rfl [.int .i64 0, .string ⟨#[]⟩, .int .i64 0, .slice none 0 0, .string ⟨#[]⟩, .int .i64 0, .int .i64 0, .slice none 0 0, .int .i64 0] _ HLD.out Tryz.underlying61 rfl infoT.out ?_; clear HLD) | (refine wpList_store_mid rfl 61 (.tmp 4) (.tmp 12) rfl _ 0 #[.int .i64 0, .string ⟨#[]⟩, .int .i64 0, .slice none 0 0, .string ⟨#[]⟩, .int .i64 0, .int .i64 0, .slice none 0 0, .int .i64 0] rfl rfl HST.out infoT.out zero_one ?_; clear HST))
  have m0 := HQ.out.cell 0 (.int .i64 0) rfl
  have m1 := HQ.out.cell 1 (.string ⟨#[]⟩) rfl
  have m2 := HQ.out.cell 2 (.int .i64 0) rfl
  have m3 := HQ.out.cell 3 (.slice none 0 0) rfl
  have m4 := HQ.out.cell 4 (.string ⟨#[]⟩) rfl
  have m5 := HQ.out.cell 5 (.int .i64 0) rfl
  have m6 := HQ.out.cell 6 (.int .i64 0) rfl
  have m7 := HQ.out.cell 7 (.slice none 0 0) rfl
  have m8 := HQ.out.cell 8 (.int .i64 0) rfl
  refine bodyPost_ret (v := .tuple #[.agg #[.int .i64 0, .string ⟨#[]⟩, .int .i64 0, .slice none 0 0, .string ⟨#[]⟩, .int .i64 0, .int .i64 0, .slice none 0 0, .int .i64 0], .bool false]) (by simp [results, Tryz.results50, go_sem, m0, m1, m2, m3, m4, m5, m6, m7, m8]) rfl ?_
  exact ⟨rfl, HBF.out⟩
theorem drop_un (h : Un w v) (k : ByteArray) : Calls Tryz.prog 48 #[v, .string k] w fun e w' => e = .returned (.bool false) ∧ w = w' := by
  have HM := Lib.hid (find_un h k)
  clear h
  go_enter Tryz.func48, Tryz.ntmps48
  go_wp2_with fail
  refine HM.out.mono ?_
  rintro e wx ⟨rfl, rfl⟩
  go_wp2_with fail
  go_ret
  exact ⟨rfl, rfl⟩
theorem len_un (h : Un w v) : Calls Tryz.prog 36 #[v] w fun e w' => e = .returned (.int .i64 0) ∧ w = w' := by
  have HM := Lib.hid (made_un h)
  clear h
  go_enter Tryz.func36, Tryz.ntmps36
  go_wp2_with fail
  refine HM.out.mono ?_
  rintro e wx ⟨rfl, rfl⟩
  go_wp2_with fail
  go_ret
  exact ⟨rfl, rfl⟩
theorem bytes_un (h : Un w v) : Calls Tryz.prog 37 #[v] w fun e w' => e = .returned (.int .i64 0) ∧ w = w' := by
  have HM := Lib.hid (made_un h)
  clear h
  go_enter Tryz.func37, Tryz.ntmps37
  go_wp2_with fail
  refine HM.out.mono ?_
  rintro e wx ⟨rfl, rfl⟩
  go_wp2_with fail
  go_ret
  exact ⟨rfl, rfl⟩
end
section
variable {w : World} {b n m : Nat} {X : Nat → Prop} {l : List (It Iv)}
theorem len_any (h : Bd w b X n m l) : Calls Tryz.prog 36 #[.pointer (some ⟨b, 0, none⟩)] w fun e w' => e = .returned (.int .i64 (l.length : Int)) ∧ w = w' := by
  obtain ⟨sb, mb, ns, rfl, -, h⟩ := h
  have HM := Lib.hid (made_any b sb w h.top)
  have c0 := h.top.cell 0 (.pointer (some ⟨sb, 0, none⟩)) rfl
  have s3 := h.ring.st.cell 3 (.map (some mb)) rfl
  have hrun := h.map.len Tryz.underlying100 3
  rw [its_len]
  clear h
  generalize (ns.length : Int) = q at *
  go_enter Tryz.func36, Tryz.ntmps36
  go_wp2_with fail
  refine HM.out.mono ?_
  rintro e wx ⟨rfl, rfl⟩
  go_wp2_with fail
  go_ret
  exact ⟨rfl, rfl⟩
theorem bytes_any (h : Bd w b X n m l) : Calls Tryz.prog 37 #[.pointer (some ⟨b, 0, none⟩)] w fun e w' => e = .returned (.int .i64 (totK l : Int)) ∧ w = w' := by
  obtain ⟨sb, mb, ns, rfl, -, h⟩ := h
  have HM := Lib.hid (made_any b sb w h.top)
  have c0 := h.top.cell 0 (.pointer (some ⟨sb, 0, none⟩)) rfl
  have s2 := h.ring.st.cell 2 (.int .i64 (totK (its ns) : Int)) rfl
  clear h
  generalize (totK (its ns) : Int) = q at *
  go_enter Tryz.func37, Tryz.ntmps37
  go_wp2_with fail
  refine HM.out.mono ?_
  rintro e wx ⟨rfl, rfl⟩
  go_wp2_with fail
  go_ret
  exact ⟨rfl, rfl⟩
set_option maxRecDepth 100000 in
set_option maxHeartbeats 1000000 in
theorem peek_any (h : Bd w b X n m l) (k : List UInt8) (hl : k.length ≤ KL) :
    Calls Tryz.prog 34 #[.pointer (some ⟨b, 0, none⟩), .string (bs k)] w fun e w' => e = .returned (.tuple #[(valK zero (findK k l)).agg, .bool (findK k l).isSome]) ∧ Below w.heap.size w w' := by
  obtain ⟨sb, mb, ns, rfl, -, h⟩ := h
  have hal : Below w.heap.size w (w.alloc (.cells #[.int .i64 0, .string ⟨#[]⟩, .int .i64 0, .slice none 0 0, .string ⟨#[]⟩, .int .i64 0, .int .i64 0, .slice none 0 0, .int .i64 0] 61)) := (Below.refl _ _).alloc (Nat.le_refl _) _
  have h : Ful (w.alloc (.cells #[.int .i64 0, .string ⟨#[]⟩, .int .i64 0, .slice none 0 0, .string ⟨#[]⟩, .int .i64 0, .int .i64 0, .slice none 0 0, .int .i64 0] 61)) b sb mb n m ns := h.keep (fun k hk => hal.block k (h.lt k hk))
  have HF := Lib.hid (find_any _ k h hl)
  have HB := Lib.hid hal
  have hn := bk.new w #[.int .i64 0, .string ⟨#[]⟩, .int .i64 0, .slice none 0 0, .string ⟨#[]⟩, .int .i64 0, .int .i64 0, .slice none 0 0, .int .i64 0] 61
  clear hal
  by_cases hk : k ∈ keysK (its ns)
  · obtain ⟨xs, y, zs, rfl, hy, hb, -, hf, -⟩ := h.split hk
    rw [hf]
    rw [hb] at HF
    have HF2 : Hid (Calls Tryz.prog 63 #[.pointer (some ⟨b, 0, none⟩), .string (bs k)] (w.alloc (.cells #[.int .i64 0, .string ⟨#[]⟩, .int .i64 0, .slice none 0 0, .string ⟨#[]⟩, .int .i64 0, .int .i64 0, .slice none 0 0, .int .i64 0] 61)) fun e w' => e = .returned (.pointer (some ⟨y.1, 0, none⟩)) ∧ (w.alloc (.cells #[.int .i64 0, .string ⟨#[]⟩, .int .i64 0, .slice none 0 0, .string ⟨#[]⟩, .int .i64 0, .int .i64 0, .slice none 0 0, .int .i64 0] 61)) = w') := HF.out
    have hg := h.ring.seg.get
    clear h HF hb hf hk hl hy
    show Calls _ _ _ _ fun e w' => e = .returned (.tuple #[.agg #[y.2.2.2.c0, y.2.2.2.c1, y.2.2.2.c2, y.2.2.2.c3, y.2.2.2.c4, y.2.2.2.c5, y.2.2.2.c6, y.2.2.2.c7, y.2.2.2.c8], .bool true]) ∧ _
    have hld : World.rangeAt (w.alloc (.cells #[.int .i64 0, .string ⟨#[]⟩, .int .i64 0, .slice none 0 0, .string ⟨#[]⟩, .int .i64 0, .int .i64 0, .slice none 0 0, .int .i64 0] 61)) y.1 2 [y.2.2.2.c0, y.2.2.2.c1, y.2.2.2.c2, y.2.2.2.c3, y.2.2.2.c4, y.2.2.2.c5, y.2.2.2.c6, y.2.2.2.c7, y.2.2.2.c8] := hg.range 2 _ (nine_at _ _ _ _ _ _ _ _ _ _ _ _ _)
    have hone := y.2.2.2.one
    clear hg
    generalize y.2.2.2.c0 = q0 at *
    generalize y.2.2.2.c1 = q1 at *
    generalize y.2.2.2.c2 = q2 at *
    generalize y.2.2.2.c3 = q3 at *
    generalize y.2.2.2.c4 = q4 at *
    generalize y.2.2.2.c5 = q5 at *
    generalize y.2.2.2.c6 = q6 at *
    generalize y.2.2.2.c7 = q7 at *
    generalize y.2.2.2.c8 = q8 at *
    have HON := Lib.hid hone
    clear hone
    have HST : Hid (World.there (w.alloc (.cells #[.int .i64 0, .string ⟨#[]⟩, .int .i64 0, .slice none 0 0, .string ⟨#[]⟩, .int .i64 0, .int .i64 0, .slice none 0 0, .int .i64 0] 61)) w.heap.size 0 9) := hn.there 0 9 (by decide)
    have HLD : Hid (World.rangeAt (w.alloc (.cells #[.int .i64 0, .string ⟨#[]⟩, .int .i64 0, .slice none 0 0, .string ⟨#[]⟩, .int .i64 0, .int .i64 0, .slice none 0 0, .int .i64 0] 61)) y.1 2 [q0, q1, q2, q3, q4, q5, q6, q7, q8]) := hld
    have HQ := Lib.hid (hn.setAll [q0, q1, q2, q3, q4, q5, q6, q7, q8] rfl)
    have HBF : Hid (Below w.heap.size w (World.setCells (w.alloc (.cells #[.int .i64 0, .string ⟨#[]⟩, .int .i64 0, .slice none 0 0, .string ⟨#[]⟩, .int .i64 0, .int .i64 0, .slice none 0 0, .int .i64 0] 61)) w.heap.size 0 [q0, q1, q2, q3, q4, q5, q6, q7, q8])) := Below.cells HB.out _ (Nat.le_refl _) [q0, q1, q2, q3, q4, q5, q6, q7, q8] 0
    clear hn
    go_enter Tryz.func34, Tryz.ntmps34
    go_wp2_with fail
    refine HF2.out.mono ?_
    rintro e wx ⟨rfl, rfl⟩
    go_wp2_with (first | (refine wpList_load_mid rfl 61 (.tmp 15) rfl _ 2 rfl [q0, q1, q2, q3, q4, q5, q6, q7, q8] _ HLD.out Tryz.underlying61 rfl infoT.out ?_; clear HLD) | (refine wpList_store_mid rfl 61 (.tmp 4) (.tmp 16) rfl _ 0 #[q0, q1, q2, q3, q4, q5, q6, q7, q8] rfl rfl HST.out infoT.out HON.out ?_; clear HST))
    have m0 := HQ.out.cell 0 (q0) rfl
    have m1 := HQ.out.cell 1 (q1) rfl
    have m2 := HQ.out.cell 2 (q2) rfl
    have m3 := HQ.out.cell 3 (q3) rfl
    have m4 := HQ.out.cell 4 (q4) rfl
    have m5 := HQ.out.cell 5 (q5) rfl
    have m6 := HQ.out.cell 6 (q6) rfl
    have m7 := HQ.out.cell 7 (q7) rfl
    have m8 := HQ.out.cell 8 (q8) rfl
    refine bodyPost_ret (v := .tuple #[.agg #[q0, q1, q2, q3, q4, q5, q6, q7, q8], .bool true]) (by simp [results, Tryz.results34, go_sem, m0, m1, m2, m3, m4, m5, m6, m7, m8]) rfl ?_
    exact ⟨rfl, HBF.out⟩
  · rw [findK_none hk]
    rw [Full.miss hk] at HF
    have HF2 : Hid (Calls Tryz.prog 63 #[.pointer (some ⟨b, 0, none⟩), .string (bs k)] (w.alloc (.cells #[.int .i64 0, .string ⟨#[]⟩, .int .i64 0, .slice none 0 0, .string ⟨#[]⟩, .int .i64 0, .int .i64 0, .slice none 0 0, .int .i64 0] 61)) fun e w' => e = .returned (.pointer none) ∧ (w.alloc (.cells #[.int .i64 0, .string ⟨#[]⟩, .int .i64 0, .slice none 0 0, .string ⟨#[]⟩, .int .i64 0, .int .i64 0, .slice none 0 0, .int .i64 0] 61)) = w') := HF.out
    clear h HF hk hl
    show Calls _ _ _ _ fun e w' => e = .returned (.tuple #[.agg #[.int .i64 0, .string ⟨#[]⟩, .int .i64 0, .slice none 0 0, .string ⟨#[]⟩, .int .i64 0, .int .i64 0, .slice none 0 0, .int .i64 0], .bool false]) ∧ _
    have HST : Hid (World.there (w.alloc (.cells #[.int .i64 0, .string ⟨#[]⟩, .int .i64 0, .slice none 0 0, .string ⟨#[]⟩, .int .i64 0, .int .i64 0, .slice none 0 0, .int .i64 0] 61)) w.heap.size 0 9) := hn.there 0 9 (by decide)
    have HLD : Hid (World.rangeAt (w.alloc (.cells #[.int .i64 0, .string ⟨#[]⟩, .int .i64 0, .slice none 0 0, .string ⟨#[]⟩, .int .i64 0, .int .i64 0, .slice none 0 0, .int .i64 0] 61)) w.heap.size 0 [.int .i64 0, .string ⟨#[]⟩, .int .i64 0, .slice none 0 0, .string ⟨#[]⟩, .int .i64 0, .int .i64 0, .slice none 0 0, .int .i64 0]) := hn.range0 (l := [.int .i64 0, .string ⟨#[]⟩, .int .i64 0, .slice none 0 0, .string ⟨#[]⟩, .int .i64 0, .int .i64 0, .slice none 0 0, .int .i64 0])
    have HQ := Lib.hid (hn.setAll [.int .i64 0, .string ⟨#[]⟩, .int .i64 0, .slice none 0 0, .string ⟨#[]⟩, .int .i64 0, .int .i64 0, .slice none 0 0, .int .i64 0] rfl)
    have HBF : Hid (Below w.heap.size w (World.setCells (w.alloc (.cells #[.int .i64 0, .string ⟨#[]⟩, .int .i64 0, .slice none 0 0, .string ⟨#[]⟩, .int .i64 0, .int .i64 0, .slice none 0 0, .int .i64 0] 61)) w.heap.size 0 [.int .i64 0, .string ⟨#[]⟩, .int .i64 0, .slice none 0 0, .string ⟨#[]⟩, .int .i64 0, .int .i64 0, .slice none 0 0, .int .i64 0])) := Below.cells HB.out _ (Nat.le_refl _) [.int .i64 0, .string ⟨#[]⟩, .int .i64 0, .slice none 0 0, .string ⟨#[]⟩, .int .i64 0, .int .i64 0, .slice none 0 0, .int .i64 0] 0
    clear hn
    go_enter Tryz.func34, Tryz.ntmps34
    go_wp2_with fail
    refine HF2.out.mono ?_
    rintro e wx ⟨rfl, rfl⟩
    go_wp2_with (first | (refine wpList_load_mid rfl 61 (.tmp 4) rfl _ 0 rfl [.int .i64 0, .string ⟨#[]⟩, .int .i64 0, .slice none 0 0, .string ⟨#[]⟩, .int .i64 0, .int .i64 0, .slice none 0 0, .int .i64 0] _ HLD.out Tryz.underlying61 rfl infoT.out ?_; clear HLD) | (refine wpList_store_mid rfl 61 (.tmp 4) (.tmp 12) rfl _ 0 #[.int .i64 0, .string ⟨#[]⟩, .int .i64 0, .slice none 0 0, .string ⟨#[]⟩, .int .i64 0, .int .i64 0, .slice none 0 0, .int .i64 0] rfl rfl HST.out infoT.out zero_one ?_; clear HST))
    have m0 := HQ.out.cell 0 (.int .i64 0) rfl
    have m1 := HQ.out.cell 1 (.string ⟨#[]⟩) rfl
    have m2 := HQ.out.cell 2 (.int .i64 0) rfl
    have m3 := HQ.out.cell 3 (.slice none 0 0) rfl
    have m4 := HQ.out.cell 4 (.string ⟨#[]⟩) rfl
    have m5 := HQ.out.cell 5 (.int .i64 0) rfl
    have m6 := HQ.out.cell 6 (.int .i64 0) rfl
    have m7 := HQ.out.cell 7 (.slice none 0 0) rfl
    have m8 := HQ.out.cell 8 (.int .i64 0) rfl
    refine bodyPost_ret (v := .tuple #[.agg #[.int .i64 0, .string ⟨#[]⟩, .int .i64 0, .slice none 0 0, .string ⟨#[]⟩, .int .i64 0, .int .i64 0, .slice none 0 0, .int .i64 0], .bool false]) (by simp [results, Tryz.results34, go_sem, m0, m1, m2, m3, m4, m5, m6, m7, m8]) rfl ?_
    exact ⟨rfl, HBF.out⟩
theorem drop_any (h : Bd w b X n m l) (k : List UInt8) (hl : k.length ≤ KL) :
    Calls Tryz.prog 48 #[.pointer (some ⟨b, 0, none⟩), .string (bs k)] w fun e w' => e = .returned (.bool (hasK k l)) ∧ ∃ X', Bd w' b X' n m (dropK k l) ∧ Did X X' w w' := by
  obtain ⟨sb, mb, ns, rfl, rfl, h⟩ := h
  have HF := Lib.hid (find_any w k h hl)
  by_cases hk : k ∈ keysK (its ns)
  · obtain ⟨xs, y, zs, rfl, hy, hb, hd, hf, ht, hko⟩ := h.split hk
    rw [hasK_iff.2 hk, hd]
    rw [hb] at HF
    have HF2 : Hid (Calls Tryz.prog 63 #[.pointer (some ⟨b, 0, none⟩), .string (bs k)] w fun e w' => e = .returned (.pointer (some ⟨y.1, 0, none⟩)) ∧ w = w') := HF.out
    have c0 := h.top.cell 0 (.pointer (some ⟨sb, 0, none⟩)) rfl
    have hle := h.ok.tot
    have hm2 := h.m2
    rw [ht] at hle
    have hr := h.ring
    rw [ht] at hr
    have HRM := Lib.hid (remove_any sb mb n m (totK (its (xs ++ zs))) xs zs y w hr h.map (by rw [hy]; exact hl) (by rw [hy]; exact hko) (by omega))
    have HH := Lib.hid h
    clear h HF hb hf hk hl hy hd ht hko hle hm2 hr
    go_enter Tryz.func48, Tryz.ntmps48
    go_wp2_with fail
    refine HF2.out.mono ?_
    rintro e wx ⟨rfl, rfl⟩
    go_wp2_with fail
    refine HRM.out.mono ?_
    rintro e w1 ⟨rfl, hr1, hm1, -, hd1⟩
    have HZ := Lib.hid (HH.out.removed hr1 hm1 hd1)
    clear hr1 hm1 hd1 c0
    go_wp2_with fail
    go_ret
    exact ⟨rfl, _, ⟨sb, mb, _, rfl, rfl, HZ.out.1⟩, HZ.out.2⟩
  · rw [hasK_false.2 hk, dropK_none hk]
    rw [Full.miss hk] at HF
    have HF2 : Hid (Calls Tryz.prog 63 #[.pointer (some ⟨b, 0, none⟩), .string (bs k)] w fun e w' => e = .returned (.pointer none) ∧ w = w') := HF.out
    have HH := Lib.hid h
    clear h HF hk hl
    go_enter Tryz.func48, Tryz.ntmps48
    go_wp2_with fail
    refine HF2.out.mono ?_
    rintro e wx ⟨rfl, rfl⟩
    go_wp2_with fail
    go_ret
    exact ⟨rfl, _, ⟨sb, mb, _, rfl, rfl, HH.out⟩, Did.refl _ _⟩
set_option maxRecDepth 100000 in
set_option maxHeartbeats 3000000 in
theorem get_any (h : Bd w b X n m l) (k : List UInt8) (hl : k.length ≤ KL) :
    Calls Tryz.prog 50 #[.pointer (some ⟨b, 0, none⟩), .string (bs k)] w fun e w' => e = .returned (.tuple #[Iv.agg (valK (⟨.int .i64 0, .string ⟨#[]⟩, .int .i64 0, .slice none 0 0, .string ⟨#[]⟩, .int .i64 0, .int .i64 0, .slice none 0 0, .int .i64 0, zero_one⟩ : Iv) (findK k l)), .bool (findK k l).isSome]) ∧ ∃ X', Bd w' b X' n m (getK k l) ∧ Did X X' w w' := by
  obtain ⟨sb, mb, ns, rfl, rfl, h⟩ := h
  have hal : Below w.heap.size w (w.alloc (.cells #[.int .i64 0, .string ⟨#[]⟩, .int .i64 0, .slice none 0 0, .string ⟨#[]⟩, .int .i64 0, .int .i64 0, .slice none 0 0, .int .i64 0] 61)) := (Below.refl _ _).alloc (Nat.le_refl _) _
  have HLT : Hid (∀ k, ownX b sb mb ns k → k < w.heap.size) := fun k hk => h.lt k hk
  have h1 : Ful (w.alloc (.cells #[.int .i64 0, .string ⟨#[]⟩, .int .i64 0, .slice none 0 0, .string ⟨#[]⟩, .int .i64 0, .int .i64 0, .slice none 0 0, .int .i64 0] 61)) b sb mb n m ns := h.keep (fun k hk => hal.block k (h.lt k hk))
  have hn := bk.new w #[.int .i64 0, .string ⟨#[]⟩, .int .i64 0, .slice none 0 0, .string ⟨#[]⟩, .int .i64 0, .int .i64 0, .slice none 0 0, .int .i64 0] 61
  have hzl : (w.alloc (.cells #[.int .i64 0, .string ⟨#[]⟩, .int .i64 0, .slice none 0 0, .string ⟨#[]⟩, .int .i64 0, .int .i64 0, .slice none 0 0, .int .i64 0] 61)).heap.size = w.heap.size + 1 := by simp
  clear h
  obtain ⟨wg, hwg⟩ : ∃ wg, wg = (w.alloc (.cells #[.int .i64 0, .string ⟨#[]⟩, .int .i64 0, .slice none 0 0, .string ⟨#[]⟩, .int .i64 0, .int .i64 0, .slice none 0 0, .int .i64 0] 61)) := ⟨_, rfl⟩
  rw [← hwg] at hal h1 hn hzl
  have h := h1
  clear h1
  have HF := Lib.hid (find_any wg k h hl)
  have HB := Lib.hid hal
  have HN := Lib.hid hn
  have HZL := Lib.hid hzl
  have HWG := Lib.hid hwg
  clear hal hn hzl hwg
  by_cases hk : k ∈ keysK (its ns)
  · obtain ⟨xs, y, zs, rfl, hy, hb, hd, hf, ht, hko⟩ := h.split hk
    have hg : getK k (its (xs ++ y :: zs)) = its (xs ++ zs ++ [y]) := by rw [(getK_found hf).1, hd, its_append _ [y]]; rfl
    rw [hf, hg]
    rw [hb] at HF
    have HF2 : Hid (Calls Tryz.prog 63 #[.pointer (some ⟨b, 0, none⟩), .string (bs k)] wg fun e w' => e = .returned (.pointer (some ⟨y.1, 0, none⟩)) ∧ wg = w') := HF.out
    have hr : Rin wg sb n m (totK (its (xs ++ y :: zs))) mb (xs ++ y :: zs) := h.ring
    obtain ⟨u, cA, fA⟩ := hr.cellA
    obtain ⟨v, cB, fB⟩ := hr.cellB
    obtain ⟨n1, n2, n3, n4⟩ := nd_mid hr.nd
    have HL := Lib.hid (leave_any y.1 (la (sb, 4) xs).1 (la (sb, 4) xs).2 (na (sb, 4) zs).1 (na (sb, 4) zs).2 _ _ _ _ _ _ _ _ _ _ _ u v wg hr.seg.get cA fA cB fB hr.apart)
    have HH := Lib.hid h; have HR := Lib.hid hr; have HKO : Hid (∀ z ∈ xs ++ zs, z.2.1 ≠ y.2.1) := by rw [hy]; exact hko
    have N2 := Lib.hid n2; have N3 : Hid (y.1 ∉ blks (xs ++ zs)) := fun e => by obtain ⟨z, hz, q⟩ := List.mem_map.1 e; exact n3 z hz q
    have HLA : Hid ((la (sb, 4) xs).1 = sb ∨ (la (sb, 4) xs).1 ∈ blks (xs ++ y :: zs)) := (la_mem sb 4 xs).imp id (fun q => by rw [blks_append]; exact List.mem_append_left _ q)
    have HLB : Hid ((na (sb, 4) zs).1 = sb ∨ (na (sb, 4) zs).1 ∈ blks (xs ++ y :: zs)) := (na_mem sb 4 zs).imp id (fun q => by rw [blks_append]; exact List.mem_append_right _ (List.mem_cons_of_mem _ q))
    have HLC : Hid ((la (sb, 4) (xs ++ zs)).1 = sb ∨ (la (sb, 4) (xs ++ zs)).1 ∈ blks (xs ++ y :: zs)) := (la_mem sb 4 (xs ++ zs)).imp id (fun q => by
      rw [blks_append] at *
      rcases List.mem_append.1 q with q | q
      · exact List.mem_append_left _ q
      · exact List.mem_append_right _ (List.mem_cons_of_mem _ q))
    have HYN : Hid ((la (sb, 4) (xs ++ zs)).1 ≠ y.1) := fun e => by
      rcases la_mem sb 4 (xs ++ zs) with q | q
      · exact n2 (e.symm.trans q)
      · obtain ⟨z, hz, q⟩ := List.mem_map.1 q; exact n3 z hz (q.trans e)
    clear h HF hb hf hk hl hy hd ht hko hr cA fA cB fB n1 n2 n3 n4 hg
    show Calls _ _ _ _ fun e w' => e = .returned (.tuple #[.agg #[y.2.2.2.c0, y.2.2.2.c1, y.2.2.2.c2, y.2.2.2.c3, y.2.2.2.c4, y.2.2.2.c5, y.2.2.2.c6, y.2.2.2.c7, y.2.2.2.c8], .bool true]) ∧ _
    go_enter Tryz.func50, Tryz.ntmps50
    go_wp2_with fail
    rw [← HWG.out]
    refine HF2.out.mono ?_
    rintro e wx ⟨rfl, rfl⟩
    go_wp2_with fail
    refine HL.out.mono ?_
    rintro e w1 ⟨rfl, hT⟩
    have hr1 := (HR.out.leave rfl rfl).1.twin hT
    have hy1 : bk w1 y.1 (itC mk y.2 (la (sb, 4) xs) (na (sb, 4) zs)) := (HR.out.leave rfl rfl).2.keep (by rw [hT.heap]; rfl)
    have HD1 : Hid (Did (fun k => k = sb ∨ k ∈ blks (xs ++ y :: zs)) (fun k => k = sb ∨ k ∈ blks (xs ++ y :: zs)) wg w1) := hT.did2 HLA.out HLB.out
    have c0 : w1.cell? ⟨b, 0, none⟩ = some (.pointer (some ⟨sb, 0, none⟩)) := (HH.out.top.keep (HD1.out.keep b HH.out.top.lt (fun e => HH.out.nb b (e.elim .inl (fun q => .inr (.inr q))) rfl))).cell 0 _ rfl
    obtain ⟨x, cL, fL⟩ := hr1.cellL
    have hap : (la (sb, 4) (xs ++ zs)).1 ≠ sb ∨ (la (sb, 4) (xs ++ zs)).2 + 12 ≠ 4 + 11 := by
      right
      rcases List.eq_nil_or_concat (xs ++ zs) with e | ⟨xs', x, e⟩
      · rw [e]; show 4 + 12 ≠ 4 + 11; omega
      · rw [e, List.concat_eq_append, la_append]; show 0 + 12 ≠ 4 + 11; omega
    have HE := Lib.hid (enter_any y.1 (la (sb, 4) (xs ++ zs)).1 (la (sb, 4) (xs ++ zs)).2 sb 4 _ _ _ _ _ _ _ _ _ _ _ _ _ x w1 hy1 (hr1.st.cell 15 _ rfl) (hr1.st.free 15) cL fL (Ne.symm N2.out) HYN.out hap)
    have HR1 := Lib.hid hr1; have HY1 := Lib.hid hy1
    clear hT hr1 hy1 cL fL hap HR HL
    go_wp2_with fail
    refine HE.out.mono ?_
    rintro e w2 ⟨rfl, hT⟩
    have hr2 := (HR1.out.enter y HY1.out N2.out N3.out rfl).twin hT
    have hd2 : Did (fun k => k = sb ∨ k ∈ blks (xs ++ y :: zs)) (fun k => k = sb ∨ k ∈ blks (xs ++ y :: zs)) w1 w2 := hT.did4 (.inr (by simp [blks])) (.inr (by simp [blks])) HLC.out (.inl rfl)
    have HZ := Lib.hid (HH.out.moved hr2 HKO.out (HD1.out.trans hd2))
    have hns : ∀ k, (k = sb ∨ k ∈ blks (xs ++ y :: zs)) → k ≠ w.heap.size := fun k hk => Nat.ne_of_lt (HLT.out k (hk.elim (fun q => .inr (.inl q)) (fun q => .inr (.inr (.inr q)))))
    have hn := HN.out.keep ((hd2.keep w.heap.size (Nat.lt_of_lt_of_le (by rw [HZL.out]; omega) HD1.out.size) (fun q => hns _ q rfl)).trans (HD1.out.keep w.heap.size (by rw [HZL.out]; omega) (fun q => hns _ q rfl)))
    have HDA : Hid (Did (ownX b sb mb (xs ++ y :: zs)) (ownX b sb mb (xs ++ zs ++ [y])) w w2) := (Did.of_below HB.out).trans HZ.out.2
    have HNX : Hid (∀ k, ownX b sb mb (xs ++ zs ++ [y]) k → k ≠ w.heap.size) := fun k hk => (HZ.out.2.new k hk).elim (fun q => Nat.ne_of_lt (HLT.out k q)) (fun q => by have := HZL.out; omega)
    have hg := Seg.get (y := y) (zs := []) hr2.seg
    have hld : World.rangeAt w2 y.1 2 [y.2.2.2.c0, y.2.2.2.c1, y.2.2.2.c2, y.2.2.2.c3, y.2.2.2.c4, y.2.2.2.c5, y.2.2.2.c6, y.2.2.2.c7, y.2.2.2.c8] := hg.range 2 _ (nine_at _ _ _ _ _ _ _ _ _ _ _ _ _)
    clear hns hg hT hr2 hd2 c0 HE HR1 HY1 HH HD1
    have HON := Lib.hid y.2.2.2.one
    have HST : Hid (World.there w2 w.heap.size 0 9) := hn.there 0 9 (by decide)
    have HLD : Hid (World.rangeAt w2 y.1 2 [y.2.2.2.c0, y.2.2.2.c1, y.2.2.2.c2, y.2.2.2.c3, y.2.2.2.c4, y.2.2.2.c5, y.2.2.2.c6, y.2.2.2.c7, y.2.2.2.c8]) := hld
    have HQ := Lib.hid (hn.setAll [y.2.2.2.c0, y.2.2.2.c1, y.2.2.2.c2, y.2.2.2.c3, y.2.2.2.c4, y.2.2.2.c5, y.2.2.2.c6, y.2.2.2.c7, y.2.2.2.c8] rfl)
    have HBF : Hid (Below w.heap.size w2 (World.setCells w2 w.heap.size 0 [y.2.2.2.c0, y.2.2.2.c1, y.2.2.2.c2, y.2.2.2.c3, y.2.2.2.c4, y.2.2.2.c5, y.2.2.2.c6, y.2.2.2.c7, y.2.2.2.c8])) := Below.cells (Below.refl _ _) _ (Nat.le_refl _) [y.2.2.2.c0, y.2.2.2.c1, y.2.2.2.c2, y.2.2.2.c3, y.2.2.2.c4, y.2.2.2.c5, y.2.2.2.c6, y.2.2.2.c7, y.2.2.2.c8] 0
    clear hn
    go_wp2_with (first | (refine wpList_load_mid rfl 61 (.tmp 25) rfl _ 2 rfl [y.2.2.2.c0, y.2.2.2.c1, y.2.2.2.c2, y.2.2.2.c3, y.2.2.2.c4, y.2.2.2.c5, y.2.2.2.c6, y.2.2.2.c7, y.2.2.2.c8] _ HLD.out Tryz.underlying61 rfl infoT.out ?_; clear HLD) | (refine wpList_store_mid rfl 61 (.tmp 4) (.tmp 26) rfl _ 0 #[y.2.2.2.c0, y.2.2.2.c1, y.2.2.2.c2, y.2.2.2.c3, y.2.2.2.c4, y.2.2.2.c5, y.2.2.2.c6, y.2.2.2.c7, y.2.2.2.c8] rfl rfl HST.out infoT.out HON.out ?_; clear HST))
    have m0 := HQ.out.cell 0 (y.2.2.2.c0) rfl
    have m1 := HQ.out.cell 1 (y.2.2.2.c1) rfl
    have m2 := HQ.out.cell 2 (y.2.2.2.c2) rfl
    have m3 := HQ.out.cell 3 (y.2.2.2.c3) rfl
    have m4 := HQ.out.cell 4 (y.2.2.2.c4) rfl
    have m5 := HQ.out.cell 5 (y.2.2.2.c5) rfl
    have m6 := HQ.out.cell 6 (y.2.2.2.c6) rfl
    have m7 := HQ.out.cell 7 (y.2.2.2.c7) rfl
    have m8 := HQ.out.cell 8 (y.2.2.2.c8) rfl
    refine bodyPost_ret (v := .tuple #[.agg #[y.2.2.2.c0, y.2.2.2.c1, y.2.2.2.c2, y.2.2.2.c3, y.2.2.2.c4, y.2.2.2.c5, y.2.2.2.c6, y.2.2.2.c7, y.2.2.2.c8], .bool true]) (by simp [results, Tryz.results50, go_sem, m0, m1, m2, m3, m4, m5, m6, m7, m8]) rfl ?_
    exact ⟨rfl, _, ⟨sb, mb, _, rfl, rfl, HZ.out.1.keep (fun k hk => heap_setCells _ _ _ _ _ (HNX.out k hk))⟩, Did.thenBelow HDA.out HBF.out⟩
  · have hg : getK k (its ns) = its ns := by unfold getK; rw [findK_none hk]
    rw [findK_none hk, hg]
    rw [Full.miss hk] at HF
    have HF2 : Hid (Calls Tryz.prog 63 #[.pointer (some ⟨b, 0, none⟩), .string (bs k)] wg fun e w' => e = .returned (.pointer none) ∧ wg = w') := HF.out
    have HH := Lib.hid h
    have HNX : Hid (∀ k, ownX b sb mb ns k → k ≠ w.heap.size) := fun k hk => Nat.ne_of_lt (HLT.out k hk)
    have hn := HN.out
    clear h HF hk hl hg
    show Calls _ _ _ _ fun e w' => e = .returned (.tuple #[.agg #[.int .i64 0, .string ⟨#[]⟩, .int .i64 0, .slice none 0 0, .string ⟨#[]⟩, .int .i64 0, .int .i64 0, .slice none 0 0, .int .i64 0], .bool false]) ∧ _
    have HST : Hid (World.there wg w.heap.size 0 9) := hn.there 0 9 (by decide)
    have HLD : Hid (World.rangeAt wg w.heap.size 0 [.int .i64 0, .string ⟨#[]⟩, .int .i64 0, .slice none 0 0, .string ⟨#[]⟩, .int .i64 0, .int .i64 0, .slice none 0 0, .int .i64 0]) := hn.range0 (l := [.int .i64 0, .string ⟨#[]⟩, .int .i64 0, .slice none 0 0, .string ⟨#[]⟩, .int .i64 0, .int .i64 0, .slice none 0 0, .int .i64 0])
    have HQ := Lib.hid (hn.setAll [.int .i64 0, .string ⟨#[]⟩, .int .i64 0, .slice none 0 0, .string ⟨#[]⟩, .int .i64 0, .int .i64 0, .slice none 0 0, .int .i64 0] rfl)
    have HBF : Hid (Below w.heap.size wg (World.setCells wg w.heap.size 0 [.int .i64 0, .string ⟨#[]⟩, .int .i64 0, .slice none 0 0, .string ⟨#[]⟩, .int .i64 0, .int .i64 0, .slice none 0 0, .int .i64 0])) := Below.cells (Below.refl _ _) _ (Nat.le_refl _) [.int .i64 0, .string ⟨#[]⟩, .int .i64 0, .slice none 0 0, .string ⟨#[]⟩, .int .i64 0, .int .i64 0, .slice none 0 0, .int .i64 0] 0
    clear hn
    go_enter Tryz.func50, Tryz.ntmps50
    go_wp2_with fail
    rw [← HWG.out]
    refine HF2.out.mono ?_
    rintro e wx ⟨rfl, rfl⟩
    go_wp2_with (first | (refine wpList_load_mid rfl 61 (.tmp 4) rfl _ 0 rfl [.int .i64 0, .string ⟨#[]⟩, .int .i64 0, .slice none 0 0, .string ⟨#[]⟩, .int .i64 0, .int .i64 0, .slice none 0 0, .int .i64 0] _ HLD.out Tryz.underlying61 rfl infoT.out ?_; clear HLD) | (refine wpList_store_mid rfl 61 (.tmp 4) (.tmp 12) rfl _ 0 #[.int .i64 0, .string ⟨#[]⟩, .int .i64 0, .slice none 0 0, .string ⟨#[]⟩, .int .i64 0, .int .i64 0, .slice none 0 0, .int .i64 0] rfl rfl HST.out infoT.out zero_one ?_; clear HST))
    have m0 := HQ.out.cell 0 (.int .i64 0) rfl
    have m1 := HQ.out.cell 1 (.string ⟨#[]⟩) rfl
    have m2 := HQ.out.cell 2 (.int .i64 0) rfl
    have m3 := HQ.out.cell 3 (.slice none 0 0) rfl
    have m4 := HQ.out.cell 4 (.string ⟨#[]⟩) rfl
    have m5 := HQ.out.cell 5 (.int .i64 0) rfl
    have m6 := HQ.out.cell 6 (.int .i64 0) rfl
    have m7 := HQ.out.cell 7 (.slice none 0 0) rfl
    have m8 := HQ.out.cell 8 (.int .i64 0) rfl
    refine bodyPost_ret (v := .tuple #[.agg #[.int .i64 0, .string ⟨#[]⟩, .int .i64 0, .slice none 0 0, .string ⟨#[]⟩, .int .i64 0, .int .i64 0, .slice none 0 0, .int .i64 0], .bool false]) (by simp [results, Tryz.results50, go_sem, m0, m1, m2, m3, m4, m5, m6, m7, m8]) rfl ?_
    exact ⟨rfl, _, ⟨sb, mb, _, rfl, rfl, HH.out.keep (fun k hk => heap_setCells _ _ _ _ _ (HNX.out k hk))⟩, Did.thenBelow (Did.of_below HB.out) HBF.out⟩
end
end Go.Proofs.YtopgeclecpaecaaGreatDoor.BT
