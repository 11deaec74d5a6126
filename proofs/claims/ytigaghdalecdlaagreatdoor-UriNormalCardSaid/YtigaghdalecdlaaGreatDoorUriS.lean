/- The statements' own helpers: is a text this URI; is it none; some of the chapter's answers. -/
import Derived.Test.YtigaghdalecdlaaGreatDoorUriI
import Derived.Test.YtigaghdalecdlaaGreatDoorUriJ
namespace Go.Proofs.YtigaghdalecdlaaGreatDoor
open Go.RowKit

theorem parse_okW (s : List UInt8) : (parseU s).1.okW := by
  have h0 : ur0.okW := ⟨by decide, by decide, by decide⟩
  unfold parseU
  split
  · exact h0
  · rename_i h
    split
    · split
      · exact root_ok (apart_ok s (by omega)) (apart_len s (by omega))
      · exact h0
    · exact h0
set_option maxHeartbeats 1000000 in
set_option maxRecDepth 100000 in
theorem no_yes (s : List UInt8) (w : World) (he : EnvU w) (h : parseU s = (ur0, 4)) :
    Calls Tryz.prog 17 #[.string (bs s)] w fun r w' => r = .returned (.bool true) ∧ Below w.heap.size w w' := by
  have hp := parse_any s w he
  rw [h] at hp
  have HP : Hid (Calls Tryz.prog 38 #[.string (bs s)] w fun e w' => e = .returned (.tuple #[.agg #[.string ⟨#[]⟩, .string ⟨#[]⟩, .int .i64 0, .string ⟨#[]⟩, .string ⟨#[]⟩, .bool false], .int .i64 4]) ∧ Below w.heap.size w w') := hp
  clear hp h
  go_enter Tryz.func17, Tryz.ntmps17
  go_wp2_with fail
  refine HP.out.mono ?_
  rintro r w1 ⟨rfl, hb1⟩
  have HB1 := Lib.hid hb1; clear HP
  have hal : Below w1.heap.size w1 (w1.alloc (.cells #[.string ⟨#[]⟩, .string ⟨#[]⟩, .int .i64 0, .string ⟨#[]⟩, .string ⟨#[]⟩, .bool false] 23)) := (Below.refl _ _).alloc (Nat.le_refl _) _
  have HBF := Lib.hid (hb1.trans (hal.mono hb1.size)); clear hal hb1
  have hN := ubk.new w1 #[.string ⟨#[]⟩, .string ⟨#[]⟩, .int .i64 0, .string ⟨#[]⟩, .string ⟨#[]⟩, .bool false] 23
  have c0 := hN.cell 0 (.string ⟨#[]⟩) rfl
  have c1 := hN.cell 1 (.string ⟨#[]⟩) rfl
  have c2 := hN.cell 2 (.int .i64 0) rfl
  have c3 := hN.cell 3 (.string ⟨#[]⟩) rfl
  have c4 := hN.cell 4 (.string ⟨#[]⟩) rfl
  have c5 := hN.cell 5 (.bool false) rfl
  clear hN
  go_wp2_with fail
  go_ret
  exact ⟨rfl, HBF.out⟩
set_option maxHeartbeats 1000000 in
set_option maxRecDepth 100000 in
theorem is_yes (s : List UInt8) (u : Ur) (w : World) (he : EnvU w) (h : parseU s = (u, 0)) (hp : u.put = s) :
    Calls Tryz.prog 15 #[.string (bs s), .agg #[.string (bs u.sc), .string (bs u.ho), .int .i64 u.po, .string (bs u.pa), .string (bs u.qu), .bool u.hq]] w fun r w' => r = .returned (.bool true) ∧ Below w.heap.size w w' := by
  have hk := parse_okW s
  rw [h] at hk
  have HP := Lib.hid (fun W (hb : EnvU W) => parse_any s W hb)
  rw [h] at HP
  have HPUT := Lib.hid (fun W (hb : EnvU W) => uriPut_any u W hb hk)
  rw [hp] at HPUT
  clear hk h hp
  obtain ⟨sc, ho, po, pa, qu, hq⟩ := u
  unfold RetU at HP
  simp only at HP HPUT ⊢
  have HE := Lib.hid he; clear he
  have hal0 : Below w.heap.size w (w.alloc (.cells #[.string (bs sc), .string (bs ho), .int .i64 po, .string (bs pa), .string (bs qu), .bool hq] 23)) := (Below.refl _ _).alloc (Nat.le_refl _) _
  have hbx := ubk.new w #[.string (bs sc), .string (bs ho), .int .i64 po, .string (bs pa), .string (bs qu), .bool hq] 23
  have HAL := Lib.hid hal0; have HBX := Lib.hid hbx; clear hal0 hbx
  go_enter Tryz.func15, Tryz.ntmps15
  go_wp2_with fail
  refine (HP.out _ (HE.out.bel HAL.out)).mono ?_
  rintro r w1 ⟨rfl, hb1⟩
  have HB1 := Lib.hid (HAL.out.trans (hb1.mono HAL.out.size))
  have hbx1 := (HBX.out.below hb1).alloc (.cells #[.string (bs sc), .string (bs ho), .int .i64 po, .string (bs pa), .string (bs qu), .bool hq] 23)
  clear hb1 HP
  have hal : Below w1.heap.size w1 (w1.alloc (.cells #[.string (bs sc), .string (bs ho), .int .i64 po, .string (bs pa), .string (bs qu), .bool hq] 23)) := (Below.refl _ _).alloc (Nat.le_refl _) _
  have HB2 := Lib.hid (HB1.out.trans (hal.mono HB1.out.size)); clear hal
  have hN := ubk.new w1 #[.string (bs sc), .string (bs ho), .int .i64 po, .string (bs pa), .string (bs qu), .bool hq] 23
  have c0 := hN.cell 0 (.string (bs sc)) rfl
  have c1 := hN.cell 1 (.string (bs ho)) rfl
  have c2 := hN.cell 2 (.int .i64 po) rfl
  have c3 := hN.cell 3 (.string (bs pa)) rfl
  have c4 := hN.cell 4 (.string (bs qu)) rfl
  have c5 := hN.cell 5 (.bool hq) rfl
  have xc0 := hbx1.cell 0 (.string (bs sc)) rfl
  have xc1 := hbx1.cell 1 (.string (bs ho)) rfl
  have xc2 := hbx1.cell 2 (.int .i64 po) rfl
  have xc3 := hbx1.cell 3 (.string (bs pa)) rfl
  have xc4 := hbx1.cell 4 (.string (bs qu)) rfl
  have xc5 := hbx1.cell 5 (.bool hq) rfl
  clear hN hbx1
  go_wp2_with fail
  refine (HPUT.out _ (HE.out.bel HB2.out)).mono ?_
  rintro r w3 ⟨rfl, hb3⟩
  have HB3 := Lib.hid (HB2.out.trans (hb3.mono HB2.out.size)); clear hb3
  go_wp2_with fail
  go_ret
  exact ⟨rfl, HB3.out⟩
theorem ex1 : parseU [104, 116, 116, 112, 58, 47, 47, 65, 46, 98, 58, 56, 48, 56, 48, 47, 120, 63, 121] = (⟨[104, 116, 116, 112], [65, 46, 98], 8080, [47, 120], [121], true⟩, 0) := by kernel_rfl
theorem ex1p : Ur.put ⟨[104, 116, 116, 112], [65, 46, 98], 8080, [47, 120], [121], true⟩ = [104, 116, 116, 112, 58, 47, 47, 65, 46, 98, 58, 56, 48, 56, 48, 47, 120, 63, 121] := by kernel_rfl
theorem ex2 : parseU [102, 116, 112, 58, 47, 47, 97, 47] = (ur0, 4) := by kernel_rfl
theorem ex3 : dotsL [47, 97, 47, 98, 47, 99, 47, 46, 47, 46, 46, 47, 46, 46, 47, 103] = [47, 97, 47, 103] := by kernel_rfl
set_option maxHeartbeats 1000000 in
set_option maxRecDepth 100000 in
theorem awakeU_any (w : World) (he : EnvU w) :
    Calls Tryz.prog 6 #[] w fun r w' => r = .returned (.bool true) ∧ Below w.heap.size w w' := by
  have HI := Lib.hid (fun W (hb : EnvU W) => is_yes _ _ W hb ex1 ex1p)
  have HD := Lib.hid (fun W (hb : EnvU W) => dots_any [47, 97, 47, 98, 47, 99, 47, 46, 47, 46, 46, 47, 46, 46, 47, 103] W hb (by decide))
  rw [ex3] at HD
  have HN := Lib.hid (fun W (hb : EnvU W) => no_yes _ W hb ex2)
  have HE := Lib.hid he; clear he
  go_enter Tryz.func6, Tryz.ntmps6
  go_wp2_with fail
  refine (HI.out _ HE.out).mono ?_
  rintro r w1 ⟨rfl, hb1⟩
  have HB1 := Lib.hid hb1; clear hb1
  go_wp2_with fail
  refine (HD.out _ (HE.out.bel HB1.out)).mono ?_
  rintro r w2 ⟨rfl, hb2⟩
  have HB2 := Lib.hid (HB1.out.trans (hb2.mono HB1.out.size)); clear hb2
  have q1 : ((bs [47, 97, 47, 103]).toList == [47, 97, 47, 103]) = true := by rw [beq_lit]; rfl
  go_wp2_with fail
  refine (HN.out _ (HE.out.bel HB2.out)).mono ?_
  rintro r w3 ⟨rfl, hb3⟩
  have HB3 := Lib.hid (HB2.out.trans (hb3.mono HB2.out.size)); clear hb3
  go_wp2_with fail
  go_ret
  exact ⟨rfl, HB3.out⟩
end Go.Proofs.YtigaghdalecdlaaGreatDoor
