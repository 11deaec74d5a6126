/- Stores that are none: nil, or a Store of no state. What their calls answer. -/
import Derived.Test.YtopgeclecpaecaaGreatDoorKKpM
namespace Go.Proofs.YtopgeclecpaecaaGreatDoor
open Go.RowKit
/-- no store of New's -/
def UnS (w : World) (v : Value) : Prop := v = .pointer none ∨ ∃ b, v = .pointer (some ⟨b, 0, none⟩) ∧ bk w b #[.pointer none]
theorem UnS.bel {w w' : World} {v : Value} (h : UnS w v) (hb : Below w.heap.size w w') : UnS w' v := by
  rcases h with rfl | ⟨b, rfl, h⟩
  · exact .inl rfl
  · exact .inr ⟨b, rfl, h.below hb⟩
/-- a state that holds nothing -/
def stN (w : World) : World := w.alloc (.cells #[.pointer none, .map none, .int .i64 0] 64)
theorem stN_bk (w : World) : bk (stN w) w.heap.size #[.pointer none, .map none, .int .i64 0] := bk.new w _ _
theorem stN_bel (w : World) : Below w.heap.size w (stN w) := (Below.refl _ _).alloc (Nat.le_refl _) _
section
variable {w : World} {v : Value}
set_option maxRecDepth 100000 in
theorem kept_un (h : UnS w v) : Calls Tryz.prog 28 #[v] w fun r w' => r = .returned (.pointer (some ⟨w.heap.size, 0, none⟩)) ∧ stN w = w' := by
  rcases h with rfl | ⟨b, rfl, h⟩
  · go_enter Tryz.func28, Tryz.ntmps28
    go_wp2
    go_ret
    exact ⟨rfl, rfl⟩
  · have c0 := h.cell 0 (.pointer none) rfl
    clear h
    go_enter Tryz.func28, Tryz.ntmps28
    go_wp2
    go_ret
    exact ⟨rfl, rfl⟩
theorem slen_un (h : UnS w v) : Calls Tryz.prog 13 #[v] w fun r w' => r = .returned (.int .i64 0) ∧ Below w.heap.size w w' := by
  have HK := Lib.hid (kept_un h)
  have HL := Lib.hid (BT.len_un (w := stN w) (v := .pointer none) (.inl rfl))
  have c0 := (stN_bk w).cell 0 (.pointer none) rfl
  have HB := Lib.hid (stN_bel w)
  clear h
  generalize stN w = W at *
  go_enter Tryz.func13, Tryz.ntmps13
  go_wp2_with fail
  refine HK.out.mono ?_
  rintro r wx ⟨rfl, rfl⟩
  go_wp2_with fail
  refine HL.out.mono ?_
  rintro r wx ⟨rfl, rfl⟩
  go_wp2_with fail
  go_ret
  exact ⟨rfl, HB.out⟩
theorem sbytes_un (h : UnS w v) : Calls Tryz.prog 14 #[v] w fun r w' => r = .returned (.int .i64 0) ∧ Below w.heap.size w w' := by
  have HK := Lib.hid (kept_un h)
  have HL := Lib.hid (BT.bytes_un (w := stN w) (v := .pointer none) (.inl rfl))
  have c0 := (stN_bk w).cell 0 (.pointer none) rfl
  have HB := Lib.hid (stN_bel w)
  clear h
  generalize stN w = W at *
  go_enter Tryz.func14, Tryz.ntmps14
  go_wp2_with fail
  refine HK.out.mono ?_
  rintro r wx ⟨rfl, rfl⟩
  go_wp2_with fail
  refine HL.out.mono ?_
  rintro r wx ⟨rfl, rfl⟩
  go_wp2_with fail
  go_ret
  exact ⟨rfl, HB.out⟩
theorem skeys_un (h : UnS w v) : Calls Tryz.prog 17 #[v] w fun r w' => r = .returned (.slice none 0 0) ∧ Below w.heap.size w w' := by
  have HK := Lib.hid (kept_un h)
  have HL := Lib.hid (BT.keys_un (w := stN w) (v := .pointer none) (.inl rfl))
  have c0 := (stN_bk w).cell 0 (.pointer none) rfl
  have HB := Lib.hid (stN_bel w)
  clear h
  generalize stN w = W at *
  go_enter Tryz.func17, Tryz.ntmps17
  go_wp2_with fail
  refine HK.out.mono ?_
  rintro r wx ⟨rfl, rfl⟩
  go_wp2_with fail
  refine HL.out.mono ?_
  rintro r wx ⟨rfl, rfl⟩
  go_wp2_with fail
  go_loopw [14] (fun i wr => i = .int .i64 0 ∧ wr = W) (fun _ _ => 0)
  case atStart => exact ⟨rfl, rfl⟩
  case round =>
    obtain ⟨rfl, rfl⟩ := hrel
    go_wp2_with fail
    go_ret
    exact ⟨rfl, HB.out⟩
/-- at most nothing is forgotten -/
theorem sforget_un (h : UnS w v) : Calls Tryz.prog 18 #[v, .int .i64 0] w fun r w' => r = .returned (.bool false) ∧ Below w.heap.size w w' := by
  have HK := Lib.hid (kept_un h)
  have HL := Lib.hid (BT.len_un (w := stN w) (v := .pointer none) (.inl rfl))
  have c0 := (stN_bk w).cell 0 (.pointer none) rfl
  have HB := Lib.hid (stN_bel w)
  clear h
  generalize stN w = W at *
  go_enter Tryz.func18, Tryz.ntmps18
  go_wp2_with fail
  refine HK.out.mono ?_
  rintro r wx ⟨rfl, rfl⟩
  go_wp2_with fail
  refine HL.out.mono ?_
  rintro r wx ⟨rfl, rfl⟩
  go_wp2_with fail
  go_ret
  exact ⟨rfl, HB.out⟩
/-- nothing is removed out of a state that holds nothing -/
theorem stremove_un (t : Nat) (k : List UInt8) (W : World) (hW : bk W t #[.pointer none, .map none, .int .i64 0]) : Calls Tryz.prog 30 #[.pointer (some ⟨t, 0, none⟩), .string (bs k)] W fun r w' => r = .returned (.bool false) ∧ W = w' := by
  have HL := Lib.hid (BT.drop_un (w := W) (v := .pointer none) (.inl rfl) (bs k))
  have c0 := hW.cell 0 (.pointer none) rfl
  clear hW
  go_enter Tryz.func30, Tryz.ntmps30
  go_wp2_with fail
  refine HL.out.mono ?_
  rintro r wx ⟨rfl, rfl⟩
  go_wp2_with fail
  go_ret
  exact ⟨rfl, rfl⟩
end
set_option maxRecDepth 100000 in
set_option maxHeartbeats 2000000 in
theorem sremove_un {w : World} {v : Value} (h : UnS w v) (k : List UInt8) (e : En) (Af0 Av0 : Option Addr) (cf0 cv0 : Nat) (hv : FL w (.slice Av0 e.vy.length cv0) e.vy) (hs : SmE k e) (hk : KE w) :
    Calls Tryz.prog 21 #[v, .string (bs k), entV e (.slice Af0 e.fs.length cf0) (.slice Av0 e.vy.length cv0)] w fun r w' => r = .returned (.bool false) ∧ Below w.heap.size w w' := by
  have hal : Below w.heap.size w (w.alloc (.cells #[.int .i64 e.st, .string (bs e.re), .int .i64 e.mi, .slice Af0 e.fs.length cf0, .string (bs e.bo), .int .i64 e.ak, .int .i64 e.gt, .slice Av0 e.vy.length cv0] 28)) := (Below.refl _ _).alloc (Nat.le_refl _) _
  have HU := Lib.hid (h.bel hal)
  have HPE := Lib.hid (bk.new w #[.int .i64 e.st, .string (bs e.re), .int .i64 e.mi, .slice Af0 e.fs.length cf0, .string (bs e.bo), .int .i64 e.ak, .int .i64 e.gt, .slice Av0 e.vy.length cv0] 28)
  have HFV := Lib.hid (hv.bel hal); have HKE := Lib.hid (hk.bel hal); have HAL := Lib.hid hal; have HSM := Lib.hid hs
  clear hal hv hk hs h
  unfold entV
  go_enter Tryz.func21, Tryz.ntmps21
  go_wp2_with fail
  generalize (w.alloc (.cells #[.int .i64 e.st, .string (bs e.re), .int .i64 e.mi, .slice Af0 e.fs.length cf0, .string (bs e.bo), .int .i64 e.ak, .int .i64 e.gt, .slice Av0 e.vy.length cv0] 28)) = W0 at *
  generalize hpp : w.heap.size = p at *
  have HPP := Lib.hid hpp
  clear hpp
  refine wp_region_growS (.one 0 false (.one 2 false (.one 3 false (.one 4 false (.one 1 true (.one 5 true (.one 6 true (.one 7 false .done))))))))
    (fun x => Below W0.heap.size W0 x) (by kernel_rfl) (by kernel_rfl) rfl (by kernel_rfl) (by kernel_rfl) (Below.refl _ _).drew (fun ops hops => ?_)
  simp only [GT.ins, List.getD_cons_zero, List.getD_cons_succ]
  clear hops
  iterate 4
    refine growS_take (by rfl) ?_
    apply Exists.intro
    refine ⟨fun w' hE => ?_, ?_⟩
    · have p7 : w'.cell? ⟨p, 7, none⟩ = some (.slice Av0 e.vy.length cv0) := (HPE.out.below hE).cell 7 _ rfl
      go_simp
      try with_reducible rfl
    simp only [Act.put, List.setIfInBounds_toArray, List.set_cons_zero, List.set_cons_succ]
  refine growS_call (by rfl) (fun K hK => ?_)
  go_simp
  refine (kept_un (HU.out.bel (Below.refl _ _).drew)).mono ?_
  rintro r w1 ⟨rfl, hw1⟩
  have HS1 := Lib.hid (stN_bk W0.drew)
  have HB1 : Hid (Below W0.heap.size W0 w1) := by rw [← hw1]; exact (Below.refl _ _).drew.trans ((stN_bel W0.drew).mono (Nat.le_refl _))
  rw [hw1] at HS1
  clear hw1
  refine hK.out _ _ HB1.out ?_
  clear hK K
  generalize W0.drew.heap.size = t at *
  refine growS_call (by rfl) (fun K hK => ?_)
  go_simp
  refine (identity_any k (.slice Av0 e.vy.length cv0) e.vy w1 (HFV.out.bel HB1.out) HSM.out.k HSM.out.vy (HKE.out.bel HB1.out)).mono ?_
  rintro r w2 ⟨rfl, hb⟩
  have HS2 := Lib.hid (HS1.out.below hb)
  have HB2 := Lib.hid (HB1.out.trans (hb.mono HB1.out.size))
  clear hb HS1
  refine hK.out _ _ HB2.out ?_
  clear hK K
  refine growS_call (by rfl) (fun K hK => ?_)
  go_simp
  refine (stremove_un t _ w2 HS2.out).mono ?_
  rintro r w3 ⟨rfl, rfl⟩
  refine hK.out _ _ HB2.out ?_
  clear hK K
  iterate 1
    refine growS_take (by rfl) ?_
    apply Exists.intro
    refine ⟨fun w' hE => ?_, ?_⟩
    · skip
      go_simp
      try with_reducible rfl
    simp only [Act.put, List.setIfInBounds_toArray, List.set_cons_zero, List.set_cons_succ]
  refine growS_done (NoPanic.normal ?_)
  go_wp2_with fail
  go_ret
  refine ⟨rfl, ?_⟩
  rw [HPP.out]
  exact HAL.out.trans (HB2.out.mono (by rw [← HPP.out]; exact HAL.out.size))
/-- bounds that are none -/
theorem snew_nil (e m : Int) (w : World) (h : e < 1 ∨ 4096 < e ∨ m < 1 ∨ 1073741824 < m) : Calls Tryz.prog 7 #[.int .i64 e, .int .i64 m] w fun r w' => r = .returned (.pointer none) ∧ Below w.heap.size w w' := by
  have HN := Lib.hid (BT.new_nil e m w h)
  clear h
  go_enter Tryz.func7, Tryz.ntmps7
  go_wp2_with fail
  refine HN.out.mono ?_
  rintro r w1 ⟨rfl, rfl⟩
  clear HN
  go_wp2_with fail
  go_ret
  exact ⟨rfl, Below.refl _ _⟩
def accN : List UInt8 := [97, 99, 99, 101, 112, 116]
theorem accept_any (s : List UInt8) (w : World) : Calls Tryz.prog 9 #[.string (bs s)] w fun r w' => r = .returned (.slice (some ⟨w.heap.size, 0, none⟩) 1 1) ∧ FL w' (.slice (some ⟨w.heap.size, 0, none⟩) 1 1) [(accN, s)] ∧ Below w.heap.size w w' := by
  have HF : Hid (FL (w.alloc (.cells #[.string ⟨#[97, 99, 99, 101, 112, 116]⟩, .string (bs s)] 66)) (.slice (some ⟨w.heap.size, 0, none⟩) 1 1) [(accN, s)]) := FL_lit w (accN, s)
  have HB : Hid (Below w.heap.size w (w.alloc (.cells #[.string ⟨#[97, 99, 99, 101, 112, 116]⟩, .string (bs s)] 66))) := (Below.refl _ _).alloc (Nat.le_refl _) _
  go_enter Tryz.func9, Tryz.ntmps9
  go_wp2_with fail
  go_ret
  exact ⟨rfl, HF.out, HB.out⟩
end Go.Proofs.YtopgeclecpaecaaGreatDoor
