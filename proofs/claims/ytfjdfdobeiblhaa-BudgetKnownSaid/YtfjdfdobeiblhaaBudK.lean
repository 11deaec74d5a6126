/- The chapter's examples, and budgets that are none: the statement's own walk. -/
import Derived.Test.YtfjdfdobeiblhaaBudW
import Derived.Test.YtfjdfdobeiblhaaBudID
namespace Go.Proofs.Ytfjdfdobeiblhaa
open Go.RowKit Go.Shelf
set_option maxRecDepth 100000 in
set_option maxHeartbeats 4000000 in
theorem budgetKnown_law (w : World) : Calls Try.prog 6 #[] w fun e w' => e = .returned (.bool true) ∧ Below w.heap.size w w' := by
  go_enter Try.func6, Try.ntmps6
  go_wp2_with fail
  refine (works_any w).mono ?_
  rintro e wa ⟨rfl, hb⟩
  have HBA := Lib.hid hb
  clear hb
  go_wp2_with fail
  refine (BS.new_q (w0 := w) (w := wa) 2 10 (by omega) (by omega) (by omega) (by omega) HBA.out).mono ?_
  rintro e w1 ⟨b, rfl, -, hq⟩
  have HQ1 := Lib.hid hq
  clear hq
  clear HBA
  go_wp2_with fail
  have hp : putK 2 10 [97] (Int.toNat 4) [120] ([] : List (It (List UInt8))) = ([], ([([97], 4, [120])] : List (It (List UInt8)))) := by decide
  refine (BS.put_none HQ1.out [97] 4 [120] _ hp (by decide) (by omega) (by omega)).mono ?_
  rintro e w2 ⟨A2, c2, rfl, hq⟩
  have HQ2 := Lib.hid hq
  clear hq hp HQ1
  go_wp2_with fail
  have hp : putK 2 10 [99] (Int.toNat 2) [122] ([([97], 4, [120])] : List (It (List UInt8))) = ([], ([([97], 4, [120]), ([99], 2, [122])] : List (It (List UInt8)))) := by decide
  refine (BS.put_none HQ2.out [99] 2 [122] _ hp (by decide) (by omega) (by omega)).mono ?_
  rintro e w3 ⟨A3, c3, rfl, hq⟩
  have HQ3 := Lib.hid hq
  clear hq hp HQ2
  go_wp2_with fail
  have hp : putK 2 10 [97] (Int.toNat 9) [119] ([([97], 4, [120]), ([99], 2, [122])] : List (It (List UInt8))) = ([[99]], ([([97], 9, [119])] : List (It (List UInt8)))) := by decide
  refine (BS.put_one HQ3.out [97] 9 [119] [99] _ hp (by decide) (by omega) (by omega)).mono ?_
  rintro e w4 ⟨g4, c4, rfl, hc4, hq⟩
  have HQ4 := Lib.hid hq
  clear hq hp HQ3
  replace hc4 : w4.cell? ⟨g4, 0, none⟩ = some (.string ⟨#[99]⟩) := hc4
  go_wp2_with fail
  refine (are_q HQ4.out [97] (by decide) (by decide)).mono ?_
  rintro e w5 ⟨rfl, hq⟩
  have HQ5 := Lib.hid hq
  clear hq HQ4
  go_wp2_with fail
  have hp : putK 2 10 [99] (Int.toNat 11) [118] ([([97], 9, [119])] : List (It (List UInt8))) = ([], ([([97], 9, [119])] : List (It (List UInt8)))) := by decide
  refine (BS.put_none HQ5.out [99] 11 [118] _ hp (by decide) (by omega) (by omega)).mono ?_
  rintro e w6 ⟨A6, c6, rfl, hq⟩
  have HQ6 := Lib.hid hq
  clear hq hp HQ5
  go_wp2_with fail
  refine (are_q HQ6.out [97] (by decide) (by decide)).mono ?_
  rintro e w7 ⟨rfl, hq⟩
  have HQ7 := Lib.hid hq
  clear hq HQ6
  go_wp2_with fail
  have hp : putK 2 10 [97] (Int.toNat 11) [117] ([([97], 9, [119])] : List (It (List UInt8))) = ([[97]], ([] : List (It (List UInt8)))) := by decide
  refine (BS.put_one HQ7.out [97] 11 [117] [97] _ hp (by decide) (by omega) (by omega)).mono ?_
  rintro e w8 ⟨g8, c8, rfl, hc8, hq⟩
  have HQ8 := Lib.hid hq
  clear hq hp HQ7
  replace hc8 : w8.cell? ⟨g8, 0, none⟩ = some (.string ⟨#[97]⟩) := hc8
  go_wp2_with fail
  refine (BS.len_q HQ8.out).mono ?_
  rintro e wx ⟨rfl, rfl⟩
  go_wp2_with fail
  have hp : putK 2 10 [100] (Int.toNat (-5)) [116] ([] : List (It (List UInt8))) = ([], ([([100], 0, [116])] : List (It (List UInt8)))) := by decide
  refine (BS.put_none HQ8.out [100] (-5) [116] _ hp (by decide) (by omega) (by omega)).mono ?_
  rintro e w9 ⟨A9, c9, rfl, hq⟩
  have HQ9 := Lib.hid hq
  clear hq hp HQ8
  go_wp2_with fail
  have hf : findK [100] ([([100], 0, [116])] : List (It (List UInt8))) = some ([100], 0, [116]) := by decide
  have hgq := BS.peek_q HQ9.out [100] (by decide)
  rw [hf] at hgq
  replace hgq : Calls Try.prog 22 #[.pointer (some ⟨b, 0, none⟩), .string ⟨#[100]⟩] w9 fun e w' => e = .returned (.tuple #[.string ⟨#[116]⟩, .bool true]) ∧ w9 = w' := hgq
  refine hgq.mono ?_
  rintro e wx ⟨rfl, rfl⟩
  clear hf hgq
  go_wp2_with fail
  have hgq := BS.bytes_q HQ9.out
  rw [show totK ([([100], 0, [116])] : List (It (List UInt8))) = 0 from by decide] at hgq
  refine hgq.mono ?_
  rintro e wx ⟨rfl, rfl⟩
  clear hgq
  go_wp2_with fail
  have hgq := BS.drop_q HQ9.out [100] (by decide)
  rw [show hasK [100] ([([100], 0, [116])] : List (It (List UInt8))) = true from by decide, show dropK [100] ([([100], 0, [116])] : List (It (List UInt8))) = ([] : List (It (List UInt8))) from by decide] at hgq
  refine hgq.mono ?_
  rintro e w10 ⟨rfl, hq⟩
  have HQ10 := Lib.hid hq
  clear hq hgq HQ9
  go_wp2_with fail
  have hgq := BS.drop_q HQ10.out [100] (by decide)
  rw [show hasK [100] ([] : List (It (List UInt8))) = false from by decide, show dropK [100] ([] : List (It (List UInt8))) = ([] : List (It (List UInt8))) from by decide] at hgq
  refine hgq.mono ?_
  rintro e w11 ⟨rfl, hq⟩
  have HQ11 := Lib.hid hq
  clear hq hgq HQ10
  go_wp2_with fail
  refine (BI.new_nil 0 1 _ (by omega)).mono ?_
  rintro e wx ⟨rfl, rfl⟩
  go_wp2_with fail
  refine (BI.new_nil 4097 1 _ (by omega)).mono ?_
  rintro e wx ⟨rfl, rfl⟩
  go_wp2_with fail
  refine (BI.new_nil 1 0 _ (by omega)).mono ?_
  rintro e wx ⟨rfl, rfl⟩
  go_wp2_with fail
  refine (BI.new_nil 1 1073741825 _ (by omega)).mono ?_
  rintro e wx ⟨rfl, rfl⟩
  go_wp2_with fail
  refine (BI.new_any 4096 1073741824 _ (by omega) (by omega) (by omega) (by omega)).mono ?_
  rintro e wn ⟨bi, Xi, rfl, -, hb, -⟩
  have HBN := Lib.hid (HQ11.out.below.trans (hb.mono HQ11.out.below.size))
  clear hb
  have hz := bk.new wn #[.pointer none] 53
  have HU : Hid (BI.Un (wn.alloc (.cells #[.pointer none] 53)) (.pointer (some ⟨wn.heap.size, 0, none⟩))) := .inr ⟨_, rfl, hz⟩
  have HBZ := Lib.hid (HBN.out.alloc HBN.out.size (.cells #[.pointer none] 53))
  clear hz HBN
  go_wp2_with fail
  generalize wn.alloc (.cells #[.pointer none] 53) = wz at *
  generalize wn.heap.size = zb at *
  have HN : Hid (BI.Un wz (.pointer none)) := .inl rfl
  refine (BI.get_un HN.out _).mono ?_
  rintro e wx ⟨rfl, rfl⟩
  go_wp2_with fail
  refine (BI.peek_un HU.out _).mono ?_
  rintro e wx ⟨rfl, rfl⟩
  go_wp2_with fail
  refine (BI.put_un HN.out _ 1 1).mono ?_
  rintro e wx ⟨rfl, rfl⟩
  go_wp2_with fail
  refine (BI.put_un HU.out _ 1 1).mono ?_
  rintro e wx ⟨rfl, rfl⟩
  go_wp2_with fail
  refine (BI.drop_un HN.out _).mono ?_
  rintro e wx ⟨rfl, rfl⟩
  go_wp2_with fail
  refine (BI.drop_un HU.out _).mono ?_
  rintro e wx ⟨rfl, rfl⟩
  go_wp2_with fail
  refine (BI.keys_un HN.out).mono ?_
  rintro e wx ⟨rfl, rfl⟩
  go_wp2_with fail
  refine (BI.keys_un HU.out).mono ?_
  rintro e wx ⟨rfl, rfl⟩
  go_wp2_with fail
  refine (BI.bytes_un HN.out).mono ?_
  rintro e wx ⟨rfl, rfl⟩
  go_wp2_with fail
  refine (BI.len_un HU.out).mono ?_
  rintro e wx ⟨rfl, rfl⟩
  go_wp2_with fail
  refine (works_any _).mono ?_
  rintro e wy ⟨rfl, hb⟩
  have HBY := Lib.hid (HBZ.out.trans (hb.mono HBZ.out.size))
  clear hb
  go_wp2_with fail
  go_ret
  exact ⟨rfl, HBY.out⟩
end Go.Proofs.Ytfjdfdobeiblhaa
