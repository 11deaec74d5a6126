/- What the statements on lines know outright, and those that ask the document: LineReads, LinePuts. -/
import Derived.Test.YtinfflceglgneaaDoorLineF
import Derived.Test.YtinfflceglgneaaDoorLineK
import Derived.Test.YtinfflceglgneaaDoorLine4
namespace Go.Proofs.YtinfflceglgneaaDoor
open Go.RowKit

section
variable (s : ByteArray) (w : World) (he : Env w) (hs : s.size ≤ 1048576)
include he hs
set_option maxRecDepth 100000 in
set_option maxHeartbeats 400000 in
theorem asks_yes (m t : ByteArray) (n : Int) (h : reqE s.data.toList = 0 ∧ reqM s.data.toList = m.data.toList ∧ reqT s.data.toList = t.data.toList ∧ reqN s.data.toList = n) :
    Calls Tryd.prog 18 #[.string s, .string m, .string t, .int .i64 n] w fun e w' => e = .returned (.bool true) ∧ Below w.heap.size w w' := by
  have H := Lib.hid h; clear h
  have HE := Lib.hid he; clear he
  go_enter Tryd.func18, Tryd.ntmps18
  go_wp2_with fail
  refine (request_any s _ HE.out hs).mono ?_
  rw [H.out.1, H.out.2.1, H.out.2.2.1, H.out.2.2.2, bs_self, bs_self]
  rintro e w' ⟨rfl, hb⟩
  go_wp2_with fail
  go_ret
  exact ⟨rfl, hb⟩

set_option maxRecDepth 100000 in
set_option maxHeartbeats 400000 in
theorem says_yes (r : ByteArray) (c n : Int) (h : staE s.data.toList = 0 ∧ staC s.data.toList = c ∧ staR s.data.toList = r.data.toList ∧ staN s.data.toList = n) :
    Calls Tryd.prog 20 #[.string s, .int .i64 c, .string r, .int .i64 n] w fun e w' => e = .returned (.bool true) ∧ Below w.heap.size w w' := by
  have H := Lib.hid h; clear h
  have HE := Lib.hid he; clear he
  go_enter Tryd.func20, Tryd.ntmps20
  go_wp2_with fail
  refine (status_any s _ HE.out hs).mono ?_
  rw [H.out.1, H.out.2.1, H.out.2.2.1, H.out.2.2.2, bs_self]
  rintro e w' ⟨rfl, hb⟩
  go_wp2_with fail
  go_ret
  exact ⟨rfl, hb⟩

set_option maxRecDepth 100000 in
set_option maxHeartbeats 400000 in
theorem no_yes (a b : Int) (ha : a ≠ 0) (hb : b ≠ 0) (h : reqE s.data.toList = a ∧ staE s.data.toList = b) :
    Calls Tryd.prog 19 #[.string s, .int .i64 a, .int .i64 b] w fun e w' => e = .returned (.bool true) ∧ Below w.heap.size w w' := by
  obtain ⟨z1, z2, z3⟩ := req_zero (s := s.data.toList) (by rw [h.1]; exact ha)
  obtain ⟨y1, y2, y3⟩ := sta_zero (s := s.data.toList) (by rw [h.2]; exact hb)
  have H := Lib.hid h; clear h
  have HZ := Lib.hid (And.intro z1 (And.intro z2 z3)); clear z1 z2 z3
  have HY := Lib.hid (And.intro y1 (And.intro y2 y3)); clear y1 y2 y3
  have HE := Lib.hid he; clear he ha hb
  go_enter Tryd.func19, Tryd.ntmps19
  go_wp2_with fail
  refine (request_any s _ HE.out hs).mono ?_
  rw [H.out.1, HZ.out.1, HZ.out.2.1, HZ.out.2.2, show bs [] = ⟨#[]⟩ from rfl]
  rintro e w1 ⟨rfl, hb1⟩
  have HB1 := Lib.hid hb1; clear hb1
  have HE1 : Hid (Env w1) := HE.out.below HB1.out (Nat.le_refl _)
  go_wp2_with fail
  refine (status_any s _ HE1.out hs).mono ?_
  rw [H.out.2, HY.out.1, HY.out.2.1, HY.out.2.2, show bs [] = ⟨#[]⟩ from rfl]
  rintro e w2 ⟨rfl, hb2⟩
  go_wp2_with fail
  go_ret
  exact ⟨rfl, HB1.out.trans (hb2.mono HB1.out.size)⟩
end

theorem k_put : putRL [71, 69, 84] [47, 97] 1 = [71, 69, 84, 32, 47, 97, 32, 72, 84, 84, 80, 47, 49, 46, 49] ∧ putRQ [71, 69, 84] [47, 97] 1 = 0 := by decide +kernel
theorem k_ask : reqE [71, 69, 84, 32, 47, 97, 63, 98, 32, 72, 84, 84, 80, 47, 49, 46, 49] = 0 ∧ reqM [71, 69, 84, 32, 47, 97, 63, 98, 32, 72, 84, 84, 80, 47, 49, 46, 49] = [71, 69, 84] ∧ reqT [71, 69, 84, 32, 47, 97, 63, 98, 32, 72, 84, 84, 80, 47, 49, 46, 49] = [47, 97, 63, 98] ∧ reqN [71, 69, 84, 32, 47, 97, 63, 98, 32, 72, 84, 84, 80, 47, 49, 46, 49] = 1 := by decide +kernel
theorem k_say : staE [72, 84, 84, 80, 47, 49, 46, 49, 32, 50, 48, 48, 32, 79, 75] = 0 ∧ staC [72, 84, 84, 80, 47, 49, 46, 49, 32, 50, 48, 48, 32, 79, 75] = 200 ∧ staR [72, 84, 84, 80, 47, 49, 46, 49, 32, 50, 48, 48, 32, 79, 75] = [79, 75] ∧ staN [72, 84, 84, 80, 47, 49, 46, 49, 32, 50, 48, 48, 32, 79, 75] = 1 := by decide +kernel

set_option maxRecDepth 100000 in
set_option maxHeartbeats 400000 in
theorem awake_any (w : World) (he : Env w) :
    Calls Tryd.prog 9 #[] w fun e w' => e = .returned (.bool true) ∧ Below w.heap.size w w' := by
  have HE := Lib.hid he; clear he
  go_enter Tryd.func9, Tryd.ntmps9
  go_wp2_with fail
  refine (putRequest_any ⟨#[71, 69, 84]⟩ ⟨#[47, 97]⟩ 1 _ (by decide) (by decide)).mono ?_
  rw [show (⟨#[71, 69, 84]⟩ : ByteArray).data.toList = [71, 69, 84] from rfl, show (⟨#[47, 97]⟩ : ByteArray).data.toList = [47, 97] from rfl, k_put.1, k_put.2, show bs [71, 69, 84, 32, 47, 97, 32, 72, 84, 84, 80, 47, 49, 46, 49] = ⟨#[71, 69, 84, 32, 47, 97, 32, 72, 84, 84, 80, 47, 49, 46, 49]⟩ from rfl]
  rintro e w1 ⟨rfl, hb1⟩
  have HB1 := Lib.hid hb1; clear hb1
  have HE1 : Hid (Env w1) := HE.out.below HB1.out (Nat.le_refl _)
  go_wp2_with fail
  refine (asks_yes _ _ HE1.out (by decide) ⟨#[71, 69, 84]⟩ ⟨#[47, 97, 63, 98]⟩ 1 k_ask).mono ?_
  rintro e w2 ⟨rfl, hb2⟩
  have HB2 : Hid (Below w.heap.size w w2) := HB1.out.trans (hb2.mono HB1.out.size)
  clear hb2
  have HE2 : Hid (Env w2) := HE.out.below HB2.out (Nat.le_refl _)
  go_wp2_with fail
  refine (says_yes _ _ HE2.out (by decide) ⟨#[79, 75]⟩ 200 1 k_say).mono ?_
  rintro e w3 ⟨rfl, hb3⟩
  go_wp2_with fail
  go_ret
  exact ⟨rfl, HB2.out.trans (hb3.mono HB2.out.size)⟩

set_option maxRecDepth 100000 in
set_option maxHeartbeats 1000000 in
theorem lineReads_any (s : ByteArray) (w : World) (hs : s.size ≤ maxLen) (he : Env w) :
    Calls Tryd.prog 3 #[.string s] w fun e w' => e = .returned (.bool true) ∧ Below w.heap.size w w' := by
  unfold maxLen at hs
  have HE := Lib.hid he; clear he
  by_cases h5 : 5000 < s.size
  · go_enter Tryd.func3, Tryd.ntmps3
    go_wp2_with fail
    refine (awake_any _ HE.out).mono ?_
    rintro e w1 ⟨rfl, hb1⟩
    go_wp2_with fail
    go_ret
    exact ⟨rfl, hb1⟩
  · go_enter Tryd.func3, Tryd.ntmps3
    go_wp2_with fail
    refine (request_any s _ HE.out (by omega)).mono ?_
    rintro e w1 ⟨rfl, hb1⟩
    have HB1 := Lib.hid hb1; clear hb1
    have HE1 : Hid (Env w1) := HE.out.below HB1.out (Nat.le_refl _)
    go_wp2_with fail
    refine (rrequest_any s _ (by omega)).mono ?_
    rintro e w2 ⟨rfl, hb2⟩
    have HB2 : Hid (Below w.heap.size w w2) := HB1.out.trans (hb2.mono HB1.out.size)
    clear hb2
    have HE2 : Hid (Env w2) := HE.out.below HB2.out (Nat.le_refl _)
    go_wp2_with fail
    refine (status_any s _ HE2.out (by omega)).mono ?_
    rintro e w3 ⟨rfl, hb3⟩
    have HB3 : Hid (Below w.heap.size w w3) := HB2.out.trans (hb3.mono HB2.out.size)
    clear hb3
    go_wp2_with fail
    refine (rstatus_any s _ (by omega)).mono ?_
    rintro e w4 ⟨rfl, hb4⟩
    have HB4 : Hid (Below w.heap.size w w4) := HB3.out.trans (hb4.mono HB3.out.size)
    clear hb4
    have HE4 : Hid (Env w4) := HE.out.below HB4.out (Nat.le_refl _)
    go_wp2_with fail
    refine (awake_any _ HE4.out).mono ?_
    rintro e w5 ⟨rfl, hb5⟩
    go_wp2_with fail
    go_ret
    exact ⟨rfl, HB4.out.trans (hb5.mono HB4.out.size)⟩
end Go.Proofs.YtinfflceglgneaaDoor
