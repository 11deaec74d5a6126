/- The statements' small sentences: reads, no, works; EtagReads, EtagSame. -/
import Derived.Test.YtjbkjmceabilaaaEtagB
namespace Go.Proofs.Ytjbkjmceabilaaa
open Go.RowKit

/-- what lies below stands -/
def BelE (w0 w : World) : Prop := Below w0.heap.size w0 w
theorem carryE {P : Program} {f : FuncId} {args : Array Value} {w0 w : World} {v : Value} (hb : BelE w0 w) (h : Calls P f args w fun e w' => e = .returned v ∧ Below w.heap.size w w') :
    Calls P f args w fun e w' => e = .returned v ∧ BelE w0 w' :=
  h.mono fun _ _ ⟨he, h2⟩ => ⟨he, Below.trans hb (h2.mono hb.size)⟩
set_option maxHeartbeats 1000000 in
theorem readsE_any (s : List UInt8) (k : Bool) (t : List UInt8) (w : World) (hs : s.length ≤ 4294967290) (h1 : isE s = true) (h2 : weE s = k) (h3 : tagE s = t) :
    Calls Try.prog 15 #[.string (bs s), .bool k, .string (bs t)] w fun e w' => e = .returned (.bool true) ∧ Below w.heap.size w w' := by
  have C1 := Lib.hid (fun w => eparse_any s w (by omega))
  have h4 : erE s = 0 := by unfold erE; rw [h1]; rfl
  rw [h2, h3, h4] at C1
  have b1 : (k == k) = true := beq_self_eq_true _
  clear h1 h2 h3 h4 hs
  go_enter Try.func15, Try.ntmps15
  go_wp2_with fail
  refine (C1.out _).mono ?_
  rintro e w1 ⟨rfl, hb⟩
  have HB1 := Lib.hid hb; clear hb
  go_wp2_with fail
  go_ret
  exact ⟨rfl, HB1.out⟩
set_option maxHeartbeats 1000000 in
theorem noE_any (s : List UInt8) (w : World) (hs : s.length ≤ 4294967290) (h1 : isE s = false) :
    Calls Try.prog 16 #[.string (bs s)] w fun e w' => e = .returned (.bool true) ∧ Below w.heap.size w w' := by
  have C1 := Lib.hid (fun w => eparse_any s w (by omega))
  rw [weE_no h1, show tagE s = [] from by unfold tagE; rw [h1]; rfl, show erE s = 4 from by unfold erE; rw [h1]; rfl, show bs [] = ⟨#[]⟩ from rfl] at C1
  clear h1 hs
  go_enter Try.func16, Try.ntmps16
  go_wp2_with fail
  refine (C1.out _).mono ?_
  rintro e w1 ⟨rfl, hb⟩
  have HB1 := Lib.hid hb; clear hb
  go_wp2_with fail
  go_ret
  exact ⟨rfl, HB1.out⟩
theorem wk1 (w : World) : Calls Try.prog 15 #[.string ⟨#[87, 47, 34, 97, 34]⟩, .bool true, .string ⟨#[97]⟩] w fun e w' => e = .returned (.bool true) ∧ Below w.heap.size w w' :=
  readsE_any [87, 47, 34, 97, 34] true [97] w (by decide) (by kernel_rfl) (by kernel_rfl) (by kernel_rfl)
theorem wk2 (w : World) : Calls Try.prog 16 #[.string ⟨#[97]⟩] w fun e w' => e = .returned (.bool true) ∧ Below w.heap.size w w' :=
  noE_any [97] w (by decide) (by kernel_rfl)
theorem wk_w (a b : List UInt8) (k : Bool) (w : World) (h : weakE a b = k) (ha : a.length ≤ 281474976710656) (hb : b.length ≤ 281474976710656) : Calls Try.prog 13 #[.string (bs a), .string (bs b)] w fun e w' => e = .returned (.bool k) ∧ Below w.heap.size w w' := by
  rw [← h]; exact eweak_any a b w ha hb
theorem wk_s (a b : List UInt8) (k : Bool) (w : World) (h : strongE a b = k) (ha : a.length ≤ 281474976710656) (hb : b.length ≤ 281474976710656) : Calls Try.prog 11 #[.string (bs a), .string (bs b)] w fun e w' => e = .returned (.bool k) ∧ Below w.heap.size w w' := by
  rw [← h]; exact estrong_any a b w ha hb
theorem wk3 (w : World) : Calls Try.prog 13 #[.string ⟨#[87, 47, 34, 97, 34]⟩, .string ⟨#[34, 97, 34]⟩] w fun e w' => e = .returned (.bool true) ∧ Below w.heap.size w w' :=
  wk_w [87, 47, 34, 97, 34] [34, 97, 34] true w (by kernel_rfl) (by decide) (by decide)
theorem wk4 (w : World) : Calls Try.prog 11 #[.string ⟨#[87, 47, 34, 97, 34]⟩, .string ⟨#[34, 97, 34]⟩] w fun e w' => e = .returned (.bool false) ∧ Below w.heap.size w w' :=
  wk_s [87, 47, 34, 97, 34] [34, 97, 34] false w (by kernel_rfl) (by decide) (by decide)
theorem wk5 (w : World) : Calls Try.prog 11 #[.string ⟨#[34, 97, 34]⟩, .string ⟨#[34, 97, 34]⟩] w fun e w' => e = .returned (.bool true) ∧ Below w.heap.size w w' :=
  wk_s [34, 97, 34] [34, 97, 34] true w (by kernel_rfl) (by decide) (by decide)
set_option maxHeartbeats 1000000 in
theorem worksE_any (w : World) : Calls Try.prog 5 #[] w fun e w' => e = .returned (.bool true) ∧ Below w.heap.size w w' := by
  have HB0 := Lib.hid (Below.refl w.heap.size w)
  go_enter Try.func5, Try.ntmps5
  go_wp2_with fail
  refine (wk1 _).mono ?_
  rintro e w1 ⟨rfl, hb⟩
  have HB1 := Lib.hid (HB0.out.trans (hb.mono HB0.out.size)); clear hb HB0
  go_wp2_with fail
  refine (wk2 _).mono ?_
  rintro e w2 ⟨rfl, hb⟩
  have HB2 := Lib.hid (HB1.out.trans (hb.mono HB1.out.size)); clear hb HB1
  go_wp2_with fail
  refine (wk3 _).mono ?_
  rintro e w3 ⟨rfl, hb⟩
  have HB3 := Lib.hid (HB2.out.trans (hb.mono HB2.out.size)); clear hb HB2
  go_wp2_with fail
  refine (wk4 _).mono ?_
  rintro e w4 ⟨rfl, hb⟩
  have HB4 := Lib.hid (HB3.out.trans (hb.mono HB3.out.size)); clear hb HB3
  go_wp2_with fail
  refine (wk5 _).mono ?_
  rintro e w5 ⟨rfl, hb⟩
  have HB5 := Lib.hid (HB4.out.trans (hb.mono HB4.out.size)); clear hb HB4
  go_wp2_with fail
  go_ret
  exact ⟨rfl, HB5.out⟩

set_option maxRecDepth 100000 in
set_option maxHeartbeats 2000000 in
theorem etagReads_any (a b : ByteArray) (w : World) :
    Calls Try.prog 3 #[.string a, .string b] w fun e w' => e = .returned (.bool true) ∧ Below w.heap.size w w' := by
  have HW := Lib.hid worksE_any
  by_cases ha : 3000 < (a.size : Int)
  · go_enter Try.func3, Try.ntmps3
    go_wp2_with fail
    refine (HW.out _).mono ?_
    rintro e w1 ⟨rfl, hb⟩
    go_wp2_with fail
    go_ret
    exact ⟨rfl, hb⟩
  · by_cases hb : 3000 < (b.size : Int)
    · go_enter Try.func3, Try.ntmps3
      go_wp2_with fail
      refine (HW.out _).mono ?_
      rintro e w1 ⟨rfl, hb⟩
      go_wp2_with fail
      go_ret
      exact ⟨rfl, hb⟩
    · have la : a.data.toList.length ≤ 3000 := by rw [← size_len]; omega
      have lb : b.data.toList.length ≤ 3000 := by rw [← size_len]; omega
      have c1 := fun w => eparse_any a.data.toList w (by omega)
      have c2 := fun w => reparseL_any a.data.toList w (by omega)
      have c3 := fun w => elist_any a.data.toList w (by omega)
      have c4 := fun w => relist_any a.data.toList w (by omega)
      have c5 := fun w => estrong_any a.data.toList b.data.toList w (by omega) (by omega)
      have c6 := fun w => restrong_any a.data.toList b.data.toList w (by omega) (by omega)
      have c7 := fun w => eweak_any a.data.toList b.data.toList w (by omega) (by omega)
      have c8 := fun w => reweak_any a.data.toList b.data.toList w (by omega) (by omega)
      have HL : Hid ((lsL a.data.toList).length ≤ 4294967296) := by
        have := splitL_len a.data.toList 44
        show _ ≤ _
        unfold lsL
        split
        · omega
        · simp
      unfold ListPostE at c3 c4
      rw [bs_self] at c1 c2 c3 c4 c5 c6 c7 c8
      rw [bs_self] at c5 c6 c7 c8
      generalize weE a.data.toList = k1 at *
      generalize tagE a.data.toList = t1 at *
      generalize erE a.data.toList = n1 at *
      generalize lsE a.data.toList = n2 at *
      generalize lsL a.data.toList = L at *
      generalize strongE a.data.toList b.data.toList = s1 at *
      generalize weakE a.data.toList b.data.toList = s2 at *
      have C1 := Lib.hid c1; have C2 := Lib.hid c2; have C3 := Lib.hid c3; have C4 := Lib.hid c4; have C5 := Lib.hid c5; have C6 := Lib.hid c6; have C7 := Lib.hid c7; have C8 := Lib.hid c8
      have HT : Hid ((L == L) = true) := beq_self_eq_true _
      clear c1 c2 c3 c4 c5 c6 c7 c8 la lb
      go_enter Try.func3, Try.ntmps3
      go_wp2_with fail
      refine (C1.out _).mono ?_
      rintro e w1 ⟨rfl, hb⟩
      have HB1 := Lib.hid hb; clear hb
      go_wp2_with fail
      refine (C2.out _).mono ?_
      rintro e w2 ⟨rfl, hb⟩
      have HB2 := Lib.hid (HB1.out.trans (hb.mono HB1.out.size)); clear hb HB1
      go_wp2_with fail
      refine (C3.out _).mono ?_
      rintro e w3 ⟨v1, rfl, ho, hb⟩
      obtain ⟨A1, d1, rfl⟩ := ho.form
      have HO1 := Lib.hid ho; have HB3 := Lib.hid (HB2.out.trans (hb.mono HB2.out.size)); clear hb ho HB2
      go_wp2_with fail
      refine (C4.out _).mono ?_
      rintro e w4 ⟨v2, rfl, ho, hb⟩
      obtain ⟨A2, d2, rfl⟩ := ho.form
      have HO2 := Lib.hid ho; have HO1 := Lib.hid (HO1.out.bel hb); have HB4 := Lib.hid (HB3.out.trans (hb.mono HB3.out.size)); clear hb ho HB3
      go_wp2_with fail
      refine (texts_any _ _ _ _ _ _ _ HO1.out HO2.out HL.out).mono ?_
      rw [HT.out]
      rintro e w5 ⟨rfl, hb⟩
      have HB5 := Lib.hid (HB4.out.trans (hb.mono HB4.out.size)); clear hb HB4
      go_wp2_with fail
      refine (C5.out _).mono ?_
      rintro e w6 ⟨rfl, hb⟩
      have HB6 := Lib.hid (HB5.out.trans (hb.mono HB5.out.size)); clear hb HB5
      go_wp2_with fail
      refine (C6.out _).mono ?_
      rintro e w7 ⟨rfl, hb⟩
      have HB7 := Lib.hid (HB6.out.trans (hb.mono HB6.out.size)); clear hb HB6
      go_wp2_with fail
      refine (C7.out _).mono ?_
      rintro e w8 ⟨rfl, hb⟩
      have HB8 := Lib.hid (HB7.out.trans (hb.mono HB7.out.size)); clear hb HB7
      go_wp2_with fail
      refine (C8.out _).mono ?_
      rintro e w9 ⟨rfl, hb⟩
      have HB9 := Lib.hid (HB8.out.trans (hb.mono HB8.out.size)); clear hb HB8
      go_wp2_with fail
      refine (HW.out _).mono ?_
      rintro e w10 ⟨rfl, hb⟩
      have HB10 := Lib.hid (HB9.out.trans (hb.mono HB9.out.size)); clear hb HB9
      go_wp2_with fail
      go_ret
      exact ⟨rfl, HB10.out⟩
theorem etagReads_law {p q : Prop} (a b : ByteArray) (w : World) (_ : p) (_ : q) :
    Calls Try.prog 3 #[.string a, .string b] w fun e w' => e = .returned (.bool true) ∧ Below w.heap.size w w' := etagReads_any a b w
end Go.Proofs.Ytjbkjmceabilaaa
