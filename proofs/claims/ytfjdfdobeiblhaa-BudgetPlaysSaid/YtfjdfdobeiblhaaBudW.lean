/- The statements' own helpers on budgets of texts: are, works. -/
import Derived.Test.YtfjdfdobeiblhaaBudSG
namespace Go.Proofs.Ytfjdfdobeiblhaa
open Go.RowKit Go.Shelf
section
variable {w0 w w' : World} {b n m : Nat} {l : List (It (List UInt8))}
theorem are_q (h : BS.Bq w0 w b n m l) (want : List UInt8) (hj : Lib.join (keysK l) [32] = want) (hl : want.length ≤ 100) :
    Calls Try.prog 20 #[.pointer (some ⟨b, 0, none⟩), .string (bs want)] w fun e w' => e = .returned (.bool true) ∧ BS.Bq w0 w' b n m l := by
  have HK := Lib.hid (BS.keys_q h)
  have HH := Lib.hid h
  have HLN : Hid ((keysK l).length ≤ 4294967296) := by have h1 := h.ok.len; have h2 := h.bounds; simp [keysK]; show _ ≤ _; omega
  have HJ := Lib.hid hj
  have HW := Lib.hid hl
  clear h hj hl
  have hq : ((bs want).toList == (bs want).toList) = true := by simp
  go_enter Try.func20, Try.ntmps20
  go_wp2_with fail
  refine HK.out.mono ?_
  rintro e w1 ⟨v, rfl, hv, hb⟩
  have HJN := Lib.hid (join_any w.heap.size v (keysK l) ⟨#[32]⟩ w1 hv HLN.out (by show (Lib.join (keysK l) [32]).length ≤ _; rw [HJ.out]; have := HW.out; omega))
  rw [show Lib.join (keysK l) (⟨#[32]⟩ : ByteArray).data.toList = want from HJ.out] at HJN
  have HQ := Lib.hid (HH.out.bel hb)
  obtain ⟨Av, cv, rfl⟩ := hv.form
  clear hv hb HK HH
  generalize bs want = s at *
  go_wp2_with fail
  refine HJN.out.mono ?_
  rintro e w2 ⟨rfl, hb⟩
  have HQ2 := Lib.hid (HQ.out.bel hb)
  clear hb HJN HQ
  go_wp2_with fail
  go_ret
  exact ⟨rfl, HQ2.out⟩
end
set_option maxRecDepth 100000 in
set_option maxHeartbeats 2000000 in
theorem works_any (w : World) : Calls Try.prog 8 #[] w fun e w' => e = .returned (.bool true) ∧ Below w.heap.size w w' := by
  go_enter Try.func8, Try.ntmps8
  go_wp2_with fail
  refine (BS.new_q (w0 := w) (w := w) 2 10 (by omega) (by omega) (by omega) (by omega) (Below.refl _ _)).mono ?_
  rintro e w1 ⟨b, rfl, -, hq⟩
  have HQ1 := Lib.hid hq
  clear hq
  go_wp2_with fail
  have hp : putK 2 10 [97] (Int.toNat 4) [120] ([] : List (It (List UInt8))) = ([], ([([97], 4, [120])] : List (It (List UInt8)))) := by decide
  refine (BS.put_none HQ1.out [97] 4 [120] _ hp (by decide) (by omega) (by omega)).mono ?_
  rintro e w2 ⟨A2, c2, rfl, hq⟩
  have HQ2 := Lib.hid hq
  clear hq hp HQ1
  go_wp2_with fail
  have hp : putK 2 10 [98] (Int.toNat 4) [121] ([([97], 4, [120])] : List (It (List UInt8))) = ([], ([([97], 4, [120]), ([98], 4, [121])] : List (It (List UInt8)))) := by decide
  refine (BS.put_none HQ2.out [98] 4 [121] _ hp (by decide) (by omega) (by omega)).mono ?_
  rintro e w3 ⟨A3, c3, rfl, hq⟩
  have HQ3 := Lib.hid hq
  clear hq hp HQ2
  go_wp2_with fail
  have hf : findK [97] ([([97], 4, [120]), ([98], 4, [121])] : List (It (List UInt8))) = some ([97], 4, [120]) := by decide
  have hg : getK [97] ([([97], 4, [120]), ([98], 4, [121])] : List (It (List UInt8))) = ([([98], 4, [121]), ([97], 4, [120])] : List (It (List UInt8))) := by decide
  have hgq := BS.get_q HQ3.out [97] (by decide)
  rw [hf, hg] at hgq
  replace hgq : Calls Try.prog 28 #[.pointer (some ⟨b, 0, none⟩), .string ⟨#[97]⟩] w3 fun e w' => e = .returned (.tuple #[.string ⟨#[120]⟩, .bool true]) ∧ BS.Bq w w' b 2 10 ([([98], 4, [121]), ([97], 4, [120])] : List (It (List UInt8))) := hgq
  refine hgq.mono ?_
  rintro e w4 ⟨rfl, hq⟩
  have HQ4 := Lib.hid hq
  clear hq hf hg hgq HQ3
  go_wp2_with fail
  have hp : putK 2 10 [99] (Int.toNat 2) [122] ([([98], 4, [121]), ([97], 4, [120])] : List (It (List UInt8))) = ([[98]], ([([97], 4, [120]), ([99], 2, [122])] : List (It (List UInt8)))) := by decide
  refine (BS.put_one HQ4.out [99] 2 [122] [98] _ hp (by decide) (by omega) (by omega)).mono ?_
  rintro e w5 ⟨g5, c5, rfl, hc5, hq⟩
  have HQ5 := Lib.hid hq
  clear hq hp HQ4
  replace hc5 : w5.cell? ⟨g5, 0, none⟩ = some (.string ⟨#[98]⟩) := hc5
  go_wp2_with fail
  refine (are_q HQ5.out [97, 32, 99] (by decide) (by decide)).mono ?_
  rintro e w6 ⟨rfl, hq⟩
  have HQ6 := Lib.hid hq
  clear hq HQ5
  go_wp2_with fail
  have hgq := BS.bytes_q HQ6.out
  rw [show totK ([([97], 4, [120]), ([99], 2, [122])] : List (It (List UInt8))) = 6 from by decide] at hgq
  refine hgq.mono ?_
  rintro e wx ⟨rfl, rfl⟩
  clear hgq
  go_wp2_with fail
  go_ret
  exact ⟨rfl, HQ6.out.below⟩
end Go.Proofs.Ytfjdfdobeiblhaa
