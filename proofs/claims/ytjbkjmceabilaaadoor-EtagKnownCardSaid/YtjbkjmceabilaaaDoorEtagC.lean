/- The statements' small sentences: reads, no, works; EtagReads, EtagSame. -/
import Derived.Test.YtjbkjmceabilaaaDoorEtagB
namespace Go.Proofs.YtjbkjmceabilaaaDoor
open Go.RowKit

/-- what lies below stands -/
def BelE (w0 w : World) : Prop := Below w0.heap.size w0 w
theorem carryE {P : Program} {f : FuncId} {args : Array Value} {w0 w : World} {v : Value} (hb : BelE w0 w) (h : Calls P f args w fun e w' => e = .returned v ∧ Below w.heap.size w w') :
    Calls P f args w fun e w' => e = .returned v ∧ BelE w0 w' :=
  h.mono fun _ _ ⟨he, h2⟩ => ⟨he, Below.trans hb (h2.mono hb.size)⟩
set_option maxHeartbeats 1000000 in
theorem readsE_any (s : List UInt8) (k : Bool) (t : List UInt8) (w : World) (hs : s.length ≤ 4294967290) (h1 : isE s = true) (h2 : weE s = k) (h3 : tagE s = t) :
    Calls Tryd.prog 9 #[.string (bs s), .bool k, .string (bs t)] w fun e w' => e = .returned (.bool true) ∧ Below w.heap.size w w' := by
  have C1 := Lib.hid (fun w => eparse_any s w (by omega))
  have h4 : erE s = 0 := by unfold erE; rw [h1]; rfl
  rw [h2, h3, h4] at C1
  have b1 : (k == k) = true := beq_self_eq_true _
  clear h1 h2 h3 h4 hs
  go_enter Tryd.func9, Tryd.ntmps9
  go_wp2_with fail
  refine (C1.out _).mono ?_
  rintro e w1 ⟨rfl, hb⟩
  have HB1 := Lib.hid hb; clear hb
  go_wp2_with fail
  go_ret
  exact ⟨rfl, HB1.out⟩
set_option maxHeartbeats 1000000 in
theorem noE_any (s : List UInt8) (w : World) (hs : s.length ≤ 4294967290) (h1 : isE s = false) :
    Calls Tryd.prog 10 #[.string (bs s)] w fun e w' => e = .returned (.bool true) ∧ Below w.heap.size w w' := by
  have C1 := Lib.hid (fun w => eparse_any s w (by omega))
  rw [weE_no h1, show tagE s = [] from by unfold tagE; rw [h1]; rfl, show erE s = 4 from by unfold erE; rw [h1]; rfl, show bs [] = ⟨#[]⟩ from rfl] at C1
  clear h1 hs
  go_enter Tryd.func10, Tryd.ntmps10
  go_wp2_with fail
  refine (C1.out _).mono ?_
  rintro e w1 ⟨rfl, hb⟩
  have HB1 := Lib.hid hb; clear hb
  go_wp2_with fail
  go_ret
  exact ⟨rfl, HB1.out⟩
theorem wk1 (w : World) : Calls Tryd.prog 9 #[.string ⟨#[87, 47, 34, 97, 34]⟩, .bool true, .string ⟨#[97]⟩] w fun e w' => e = .returned (.bool true) ∧ Below w.heap.size w w' :=
  readsE_any [87, 47, 34, 97, 34] true [97] w (by decide) (by kernel_rfl) (by kernel_rfl) (by kernel_rfl)
theorem wk2 (w : World) : Calls Tryd.prog 10 #[.string ⟨#[97]⟩] w fun e w' => e = .returned (.bool true) ∧ Below w.heap.size w w' :=
  noE_any [97] w (by decide) (by kernel_rfl)
theorem wk_w (a b : List UInt8) (k : Bool) (w : World) (h : weakE a b = k) (ha : a.length ≤ 281474976710656) (hb : b.length ≤ 281474976710656) : Calls Tryd.prog 12 #[.string (bs a), .string (bs b)] w fun e w' => e = .returned (.bool k) ∧ Below w.heap.size w w' := by
  rw [← h]; exact eweak_any a b w ha hb
theorem wk_s (a b : List UInt8) (k : Bool) (w : World) (h : strongE a b = k) (ha : a.length ≤ 281474976710656) (hb : b.length ≤ 281474976710656) : Calls Tryd.prog 11 #[.string (bs a), .string (bs b)] w fun e w' => e = .returned (.bool k) ∧ Below w.heap.size w w' := by
  rw [← h]; exact estrong_any a b w ha hb
theorem wk3 (w : World) : Calls Tryd.prog 12 #[.string ⟨#[87, 47, 34, 97, 34]⟩, .string ⟨#[34, 97, 34]⟩] w fun e w' => e = .returned (.bool true) ∧ Below w.heap.size w w' :=
  wk_w [87, 47, 34, 97, 34] [34, 97, 34] true w (by kernel_rfl) (by decide) (by decide)
theorem wk4 (w : World) : Calls Tryd.prog 11 #[.string ⟨#[87, 47, 34, 97, 34]⟩, .string ⟨#[34, 97, 34]⟩] w fun e w' => e = .returned (.bool false) ∧ Below w.heap.size w w' :=
  wk_s [87, 47, 34, 97, 34] [34, 97, 34] false w (by kernel_rfl) (by decide) (by decide)
theorem wk5 (w : World) : Calls Tryd.prog 11 #[.string ⟨#[34, 97, 34]⟩, .string ⟨#[34, 97, 34]⟩] w fun e w' => e = .returned (.bool true) ∧ Below w.heap.size w w' :=
  wk_s [34, 97, 34] [34, 97, 34] true w (by kernel_rfl) (by decide) (by decide)
set_option maxHeartbeats 1000000 in
theorem worksE_any (w : World) : Calls Tryd.prog 6 #[] w fun e w' => e = .returned (.bool true) ∧ Below w.heap.size w w' := by
  have HB0 := Lib.hid (Below.refl w.heap.size w)
  go_enter Tryd.func6, Tryd.ntmps6
  go_wp2_with fail
  refine (wk1 _).mono ?_
  rintro e w1 ⟨rfl, hb⟩
  have HB1 := Lib.hid (HB0.out.trans (hb.mono HB0.out.size)); clear hb HB0
  go_wp2_with fail
  refine (wk2 _).mono ?_
  rintro e w2 ⟨rfl, hb⟩
  have HB2 := Lib.hid (HB1.out.trans (hb.mono HB1.out.size)); clear hb HB1
  go_wp2_with fail
  refine (wk3 _).mono ?_
  rintro e w3 ⟨rfl, hb⟩
  have HB3 := Lib.hid (HB2.out.trans (hb.mono HB2.out.size)); clear hb HB2
  go_wp2_with fail
  refine (wk4 _).mono ?_
  rintro e w4 ⟨rfl, hb⟩
  have HB4 := Lib.hid (HB3.out.trans (hb.mono HB3.out.size)); clear hb HB3
  go_wp2_with fail
  refine (wk5 _).mono ?_
  rintro e w5 ⟨rfl, hb⟩
  have HB5 := Lib.hid (HB4.out.trans (hb.mono HB4.out.size)); clear hb HB4
  go_wp2_with fail
  go_ret
  exact ⟨rfl, HB5.out⟩

end Go.Proofs.YtjbkjmceabilaaaDoor
