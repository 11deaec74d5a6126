/- An entry with a field more. -/
import Derived.Test.YtfobjaccpnondaaGreatDoorStoE
namespace Go.Proofs.YtfobjaccpnondaaGreatDoor
open Go.RowKit Go.Shelf

variable {st mi asked got : Int} {re bo : ByteArray} {fs : Value} {vA : Option Addr} {vn vc : Nat} {l : List Fld}
set_option maxRecDepth 100000 in
set_option maxHeartbeats 8000000 in
theorem with_any (f : Fld) (w : World) (h : FL w fs l) (hl : l.length ≤ 100) :
    Calls Tryz.prog 10 #[.agg #[.int .i64 st, .string re, .int .i64 mi, fs, .string bo, .int .i64 asked, .int .i64 got, .slice vA vn vc], .agg #[.string (bs f.1), .string (bs f.2)]] w fun e w' => ∃ A c, e = .returned (.agg #[.int .i64 st, .string re, .int .i64 mi, .slice A (l ++ [f]).length c, .string bo, .int .i64 asked, .int .i64 got, .slice vA vn vc]) ∧ FL w' (.slice A (l ++ [f]).length c) (l ++ [f]) ∧ (∀ b, (Value.slice A (l ++ [f]).length c).ownBlock = some b → w.heap.size ≤ b ∧ b < w'.heap.size) ∧ Below w.heap.size w w' := by
  obtain ⟨fA, fc, rfl⟩ := h.form
  have x1 : Below w.heap.size w (w.alloc (.cells #[.int .i64 st, .string re, .int .i64 mi, .slice fA l.length fc, .string bo, .int .i64 asked, .int .i64 got, .slice vA vn vc] 28)) := (Below.refl _ _).alloc (Nat.le_refl _) _
  have x2 := x1.alloc x1.size (.cells #[.string (bs f.1), .string (bs f.2)] 34)
  have x3 := x2.alloc x2.size (.cells #[.int .i64 0, .string ⟨#[]⟩, .int .i64 0, .slice none 0 0, .string ⟨#[]⟩, .int .i64 0, .int .i64 0, .slice none 0 0] 28)
  have x4 := x3.alloc x3.size (.cells #[.int .i64 st, .string re, .int .i64 mi, .slice fA l.length fc, .string bo, .int .i64 asked, .int .i64 got, .slice vA vn vc] 28)
  have H0 := Lib.hid ((((dbk.new w #[.int .i64 st, .string re, .int .i64 mi, .slice fA l.length fc, .string bo, .int .i64 asked, .int .i64 got, .slice vA vn vc] 28).alloc (.cells #[.string (bs f.1), .string (bs f.2)] 34)).alloc (.cells #[.int .i64 0, .string ⟨#[]⟩, .int .i64 0, .slice none 0 0, .string ⟨#[]⟩, .int .i64 0, .int .i64 0, .slice none 0 0] 28)).alloc (.cells #[.int .i64 st, .string re, .int .i64 mi, .slice fA l.length fc, .string bo, .int .i64 asked, .int .i64 got, .slice vA vn vc] 28))
  have H1 := Lib.hid (((dbk.new (w.alloc (.cells #[.int .i64 st, .string re, .int .i64 mi, .slice fA l.length fc, .string bo, .int .i64 asked, .int .i64 got, .slice vA vn vc] 28)) #[.string (bs f.1), .string (bs f.2)] 34).alloc (.cells #[.int .i64 0, .string ⟨#[]⟩, .int .i64 0, .slice none 0 0, .string ⟨#[]⟩, .int .i64 0, .int .i64 0, .slice none 0 0] 28)).alloc (.cells #[.int .i64 st, .string re, .int .i64 mi, .slice fA l.length fc, .string bo, .int .i64 asked, .int .i64 got, .slice vA vn vc] 28))
  have H2 := Lib.hid ((dbk.new ((w.alloc (.cells #[.int .i64 st, .string re, .int .i64 mi, .slice fA l.length fc, .string bo, .int .i64 asked, .int .i64 got, .slice vA vn vc] 28)).alloc (.cells #[.string (bs f.1), .string (bs f.2)] 34)) #[.int .i64 0, .string ⟨#[]⟩, .int .i64 0, .slice none 0 0, .string ⟨#[]⟩, .int .i64 0, .int .i64 0, .slice none 0 0] 28).alloc (.cells #[.int .i64 st, .string re, .int .i64 mi, .slice fA l.length fc, .string bo, .int .i64 asked, .int .i64 got, .slice vA vn vc] 28))
  have H3 := Lib.hid (dbk.new (((w.alloc (.cells #[.int .i64 st, .string re, .int .i64 mi, .slice fA l.length fc, .string bo, .int .i64 asked, .int .i64 got, .slice vA vn vc] 28)).alloc (.cells #[.string (bs f.1), .string (bs f.2)] 34)).alloc (.cells #[.int .i64 0, .string ⟨#[]⟩, .int .i64 0, .slice none 0 0, .string ⟨#[]⟩, .int .i64 0, .int .i64 0, .slice none 0 0] 28)) #[.int .i64 st, .string re, .int .i64 mi, .slice fA l.length fc, .string bo, .int .i64 asked, .int .i64 got, .slice vA vn vc] 28)
  simp only [World.size_alloc] at H1 H2 H3
  have HX := Lib.hid x4; have HFL := Lib.hid (h.bel x4); have HF0 := Lib.hid h
  have hsz : (((((w.alloc (.cells #[.int .i64 st, .string re, .int .i64 mi, .slice fA l.length fc, .string bo, .int .i64 asked, .int .i64 got, .slice vA vn vc] 28)).alloc (.cells #[.string (bs f.1), .string (bs f.2)] 34)).alloc (.cells #[.int .i64 0, .string ⟨#[]⟩, .int .i64 0, .slice none 0 0, .string ⟨#[]⟩, .int .i64 0, .int .i64 0, .slice none 0 0] 28)).alloc (.cells #[.int .i64 st, .string re, .int .i64 mi, .slice fA l.length fc, .string bo, .int .i64 asked, .int .i64 got, .slice vA vn vc] 28))).heap.size = w.heap.size + 1 + 1 + 1 + 1 := by simp only [World.size_alloc]
  obtain ⟨M, hM⟩ : ∃ M, M = l ++ [f] := ⟨_, rfl⟩
  rw [← hM]
  have HM := Lib.hid hM; clear hM x1 x2 x3 x4 h
  obtain ⟨y0, y1, y2, y3, y4, y5, y6, y7⟩ := H0.out.eight
  go_enter Tryz.func10, Tryz.ntmps10
  go_upto_region 2 with fail
  generalize hC : ((((w.alloc (.cells #[.int .i64 st, .string re, .int .i64 mi, .slice fA l.length fc, .string bo, .int .i64 asked, .int .i64 got, .slice vA vn vc] 28)).alloc (.cells #[.string (bs f.1), .string (bs f.2)] 34)).alloc (.cells #[.int .i64 0, .string ⟨#[]⟩, .int .i64 0, .slice none 0 0, .string ⟨#[]⟩, .int .i64 0, .int .i64 0, .slice none 0 0] 28)).alloc (.cells #[.int .i64 st, .string re, .int .i64 mi, .slice fA l.length fc, .string bo, .int .i64 asked, .int .i64 got, .slice vA vn vc] 28)) = C at *
  clear hC y0 y1 y2 y3 y4 y5 y6 y7
  have n3 := H3.out.cell 3 (.slice fA l.length fc) rfl
  have m3 := H3.out.free 3
  have hq := H3.out.set 3 (.slice none 0 0)
  simp only [List.setIfInBounds_toArray, List.set_cons_zero, List.set_cons_succ] at hq
  have hb9 := HX.out.setCell (p := ⟨w.heap.size + 1 + 1 + 1, 3, none⟩) (by simp only; omega) (.slice none 0 0)
  have h0 := H0.out.keep (Below.heap_setCell C ⟨w.heap.size + 1 + 1 + 1, 3, none⟩ (.slice none 0 0) w.heap.size (by simp only; omega))
  have h1 := H1.out.keep (Below.heap_setCell C ⟨w.heap.size + 1 + 1 + 1, 3, none⟩ (.slice none 0 0) (w.heap.size + 1) (by simp only; omega))
  have h2 := H2.out.keep (Below.heap_setCell C ⟨w.heap.size + 1 + 1 + 1, 3, none⟩ (.slice none 0 0) (w.heap.size + 1 + 1) (by simp only; omega))
  have hfl : FL (C.setCell ⟨w.heap.size + 1 + 1 + 1, 3, none⟩ (.slice none 0 0)) (.slice fA l.length fc) l := HF0.out.bel hb9
  have hsz2 : (C.setCell ⟨w.heap.size + 1 + 1 + 1, 3, none⟩ (.slice none 0 0)).heap.size = w.heap.size + 1 + 1 + 1 + 1 := by rw [World.size_setCell]; exact hsz
  replace HX := Lib.hid hb9; replace H0 := Lib.hid h0; replace H1 := Lib.hid h1; replace H2 := Lib.hid h2; replace H3 := Lib.hid hq; replace HFL := Lib.hid hfl
  clear hb9 h0 h1 h2 hq hfl hsz
  go_upto_region 3 with fail
  generalize hC : C.setCell ⟨w.heap.size + 1 + 1 + 1, 3, none⟩ (.slice none 0 0) = C3 at *
  clear hC n3 m3
  obtain ⟨y0, y1, y2, y3, y4, y5, y6, y7⟩ := H0.out.eight
  obtain ⟨z0, z1, z2, z3, z4, z5, z6, z7⟩ := H3.out.eight
  have HSZ := Lib.hid hsz2; clear hsz2
  go_upto_region 4 with (at_builtin; refine wpList_appFF rfl (.tmp 11) (.tmp 14) rfl (w.heap.size + 1 + 1 + 1 + 1) w.heap.size _ _ [] l rfl (ownF_nil C3 _) HX.out (by omega) (by rw [HSZ.out]; exact Nat.le_refl _) rfl HFL.out (by simp; omega) ?_; intro v5 w5 HO5 HB5 HK5 HS5; (have HO5b : Hid (ownF w5 (w.heap.size + 1 + 1 + 1 + 1) v5 l) := HO5.out); clear HO5; (obtain ⟨A5, c5, rfl⟩ := HO5b.out.form); (have n3 := (H3.out.keep (HK5.out _ (by omega))).cell 3 _ rfl); (have m3 := (H3.out.keep (HK5.out _ (by omega))).free 3); clear z0 z1 z2 z3 z4 z5 z6 z7 y0 y1 y2 y3 y4 y5 y6 y7)
  have h0 := (H0.out.keep (HK5.out _ (by omega))).keep (Below.heap_setCell w5 ⟨w.heap.size + 1 + 1 + 1, 3, none⟩ (.slice A5 l.length c5) w.heap.size (by simp only; omega))
  have h1 := (H1.out.keep (HK5.out _ (by omega))).keep (Below.heap_setCell w5 ⟨w.heap.size + 1 + 1 + 1, 3, none⟩ (.slice A5 l.length c5) (w.heap.size + 1) (by simp only; omega))
  have h2 := (H2.out.keep (HK5.out _ (by omega))).keep (Below.heap_setCell w5 ⟨w.heap.size + 1 + 1 + 1, 3, none⟩ (.slice A5 l.length c5) (w.heap.size + 1 + 1) (by simp only; omega))
  have h3 := (H3.out.keep (HK5.out _ (by omega))).set 3 (.slice A5 l.length c5)
  simp only [List.setIfInBounds_toArray, List.set_cons_zero, List.set_cons_succ] at h3
  have hb9 := HB5.out.setCell (p := ⟨w.heap.size + 1 + 1 + 1, 3, none⟩) (by simp only; omega) (.slice A5 l.length c5)
  have ho9 : ownF (w5.setCell ⟨w.heap.size + 1 + 1 + 1, 3, none⟩ (.slice A5 l.length c5)) (w.heap.size + 1 + 1 + 1 + 1) (.slice A5 l.length c5) l := HO5b.out.stay (fun b hb => Below.heap_setCell _ _ _ _ (by simp only; omega))
  have hsz2 : w.heap.size + 1 + 1 + 1 + 1 ≤ (w5.setCell ⟨w.heap.size + 1 + 1 + 1, 3, none⟩ (.slice A5 l.length c5)).heap.size := by rw [World.size_setCell]; have := HS5.out; rw [HSZ.out] at this; exact this
  replace HX := Lib.hid hb9; replace H0 := Lib.hid h0; replace H1 := Lib.hid h1; replace H2 := Lib.hid h2; replace H3 := Lib.hid h3; have HO := Lib.hid ho9; replace HSZ := Lib.hid hsz2
  clear hb9 h0 h1 h2 h3 ho9 hsz2 HFL HO5b HB5 HK5 HS5 n3 m3
  generalize hC : w5.setCell ⟨w.heap.size + 1 + 1 + 1, 3, none⟩ (.slice A5 l.length c5) = C4 at *
  clear hC
  clear w5 C3
  have hal : Below C4.heap.size C4 (C4.alloc (.cells #[.string (bs f.1), .string (bs f.2)] 34)) := (Below.refl _ _).alloc (Nat.le_refl _) _
  have HX2 := Lib.hid (HX.out.trans (hal.mono HX.out.size)); have HO2 := Lib.hid (HO.out.bel hal); have HL2 := Lib.hid (FL_lit C4 f)
  have hsz2 : w.heap.size + 1 + 1 + 1 + 1 ≤ (C4.alloc (.cells #[.string (bs f.1), .string (bs f.2)] 34)).heap.size := by rw [World.size_alloc]; have := HSZ.out; omega
  have HSZ2 := Lib.hid hsz2
  replace H0 := Lib.hid (H0.out.below hal); replace H2 := Lib.hid (H2.out.below hal)
  have f0 := H1.out.cell 0 (.string (bs f.1)) rfl
  have f1 := H1.out.cell 1 (.string (bs f.2)) rfl
  have z3 := H3.out.cell 3 (.slice A5 l.length c5) rfl
  have HH3 := Lib.hid (H3.out.below hal)
  have z3b := HH3.out.cell 3 (.slice A5 l.length c5) rfl
  clear hal hsz2 HX H1
  go_upto_region 5 with (at_builtin; refine wpList_appFF rfl (.tmp 20) (.tmp 22) rfl (w.heap.size + 1 + 1 + 1 + 1) w.heap.size _ _ l [f] rfl HO2.out HX2.out (by omega) HSZ2.out rfl HL2.out (by simp; omega) ?_; intro v6 w6 HO6 HB6 HK6 HS6; rw [← HM.out] at HO6; (obtain ⟨A6, c6, rfl⟩ := HO6.out.form); (have n3 := (HH3.out.keep (HK6.out _ (by omega))).cell 3 _ rfl); (have m3 := (HH3.out.keep (HK6.out _ (by omega))).free 3); clear z3 z3b f0 f1)
  have h2 := (H2.out.keep (HK6.out _ (by omega))).keep (Below.heap_setCell w6 ⟨w.heap.size + 1 + 1 + 1, 3, none⟩ (.slice A6 M.length c6) (w.heap.size + 1 + 1) (by simp only; omega))
  have h3 := (HH3.out.keep (HK6.out _ (by omega))).set 3 (.slice A6 M.length c6)
  simp only [List.setIfInBounds_toArray, List.set_cons_zero, List.set_cons_succ] at h3
  have hb9 := HB6.out.setCell (p := ⟨w.heap.size + 1 + 1 + 1, 3, none⟩) (by simp only; omega) (.slice A6 M.length c6)
  have ho9 : ownF (w6.setCell ⟨w.heap.size + 1 + 1 + 1, 3, none⟩ (.slice A6 M.length c6)) (w.heap.size + 1 + 1 + 1 + 1) (.slice A6 M.length c6) M := HO6.out.stay (fun b hb => Below.heap_setCell _ _ _ _ (by simp only; omega))
  replace H2 := Lib.hid h2; replace H3 := Lib.hid h3; replace HO := Lib.hid ho9; replace HB6 := Lib.hid hb9
  clear h2 h3 ho9 hb9 HO6 HK6 HS6 HH3 n3 m3 HO2 HX2 HL2 HSZ HSZ2 H0
  generalize hC : w6.setCell ⟨w.heap.size + 1 + 1 + 1, 3, none⟩ (.slice A6 M.length c6) = W6 at *
  clear hC
  obtain ⟨k0, k1, k2, k3, k4, k5, k6, k7⟩ := H3.out.eight
  obtain ⟨n0, n1, n2, n3, n4, n5, n6, n7⟩ := H2.out.eight
  have f0 := H2.out.free 0; have f1 := H2.out.free 1; have f2 := H2.out.free 2; have f3 := H2.out.free 3; have f4 := H2.out.free 4; have f5 := H2.out.free 5; have f6 := H2.out.free 6; have f7 := H2.out.free 7
  have hq := ((((((((H2.out.set 0 (.int .i64 st)).set 1 (.string re)).set 2 (.int .i64 mi)).set 3 (.slice A6 M.length c6)).set 4 (.string bo)).set 5 (.int .i64 asked)).set 6 (.int .i64 got)).set 7 (.slice vA vn vc))
  simp only [List.setIfInBounds_toArray, List.set_cons_zero, List.set_cons_succ] at hq
  obtain ⟨g0, g1, g2, g3, g4, g5, g6, g7⟩ := hq.eight
  have hb9 := ((((((((HB6.out.setCell (p := ⟨w.heap.size + 1 + 1, 0, none⟩) (by simp only; omega) (.int .i64 st)).setCell (p := ⟨w.heap.size + 1 + 1, 1, none⟩) (by simp only; omega) (.string re)).setCell (p := ⟨w.heap.size + 1 + 1, 2, none⟩) (by simp only; omega) (.int .i64 mi)).setCell (p := ⟨w.heap.size + 1 + 1, 3, none⟩) (by simp only; omega) (.slice A6 M.length c6)).setCell (p := ⟨w.heap.size + 1 + 1, 4, none⟩) (by simp only; omega) (.string bo)).setCell (p := ⟨w.heap.size + 1 + 1, 5, none⟩) (by simp only; omega) (.int .i64 asked)).setCell (p := ⟨w.heap.size + 1 + 1, 6, none⟩) (by simp only; omega) (.int .i64 got)).setCell (p := ⟨w.heap.size + 1 + 1, 7, none⟩) (by simp only; omega) (.slice vA vn vc))
  have ho9 : FL ((((((((W6.setCell ⟨w.heap.size + 1 + 1, 0, none⟩ (.int .i64 st)).setCell ⟨w.heap.size + 1 + 1, 1, none⟩ (.string re)).setCell ⟨w.heap.size + 1 + 1, 2, none⟩ (.int .i64 mi)).setCell ⟨w.heap.size + 1 + 1, 3, none⟩ (.slice A6 M.length c6)).setCell ⟨w.heap.size + 1 + 1, 4, none⟩ (.string bo)).setCell ⟨w.heap.size + 1 + 1, 5, none⟩ (.int .i64 asked)).setCell ⟨w.heap.size + 1 + 1, 6, none⟩ (.int .i64 got)).setCell ⟨w.heap.size + 1 + 1, 7, none⟩ (.slice vA vn vc)) (.slice A6 M.length c6) M := by
    refine ownF.fl (base := w.heap.size + 1 + 1 + 1 + 1) (HO.out.stay fun b hb => ?_)
    repeat rw [Below.heap_setCell _ _ _ _ (by simp only; omega)]
  have hub : ∀ b, (Value.slice A6 M.length c6).ownBlock = some b → w.heap.size ≤ b ∧ b < ((((((((W6.setCell ⟨w.heap.size + 1 + 1, 0, none⟩ (.int .i64 st)).setCell ⟨w.heap.size + 1 + 1, 1, none⟩ (.string re)).setCell ⟨w.heap.size + 1 + 1, 2, none⟩ (.int .i64 mi)).setCell ⟨w.heap.size + 1 + 1, 3, none⟩ (.slice A6 M.length c6)).setCell ⟨w.heap.size + 1 + 1, 4, none⟩ (.string bo)).setCell ⟨w.heap.size + 1 + 1, 5, none⟩ (.int .i64 asked)).setCell ⟨w.heap.size + 1 + 1, 6, none⟩ (.int .i64 got)).setCell ⟨w.heap.size + 1 + 1, 7, none⟩ (.slice vA vn vc)).heap.size := fun b hb => by
    have h1 := World.ownsRow.lt HO.out b hb
    refine ⟨by have := h1.1; omega, ?_⟩
    simp only [World.size_setCell]
    exact h1.2
  have HUB := Lib.hid hub; clear hub
  have HG := Lib.hid (And.intro g0 (And.intro g1 (And.intro g2 (And.intro g3 (And.intro g4 (And.intro g5 (And.intro g6 g7))))))); have HB9 := Lib.hid hb9; have HO9 := Lib.hid ho9
  clear hq g0 g1 g2 g3 g4 g5 g6 g7 hb9 ho9
  go_wp2_with fail
  obtain ⟨g0, g1, g2, g3, g4, g5, g6, g7⟩ := HG.out
  refine bodyPost_ret (v := .agg #[.int .i64 st, .string re, .int .i64 mi, .slice A6 M.length c6, .string bo, .int .i64 asked, .int .i64 got, .slice vA vn vc]) (by simp [results, Tryz.results10, go_sem, g0, g1, g2, g3, g4, g5, g6, g7]) rfl ?_
  exact ⟨_, _, rfl, HO9.out, HUB.out, HB9.out⟩
end Go.Proofs.YtfobjaccpnondaaGreatDoor
