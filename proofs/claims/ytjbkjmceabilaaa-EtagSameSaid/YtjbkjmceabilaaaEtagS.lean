/- The statement EtagSame. -/
import Derived.Test.YtjbkjmceabilaaaEtagC
import Derived.Deep.DeepCutAuto
namespace Go.Proofs.Ytjbkjmceabilaaa
open Go.RowKit

theorem addE_l (x y : List UInt8) (w : World) (h : x.length + y.length ≤ 9223372036854775807) : (Op.stringOp .add (bs x) (bs y)).run Try.prog w = .ok (.string (bs (x ++ y))) w := by
  have hb : bs x ++ bs y = bs (x ++ y) := by
    apply ByteArray.ext
    rw [ByteArray.data_append]
    simp [bs]
  rw [← hb]
  simp [Op.stringOp]
  omega
set_option maxRecDepth 100000 in
set_option maxHeartbeats 4000000 in
theorem etagSame_few (A B C : ByteArray) (w : World) (ha : A.size ≤ 3000) (hb : B.size ≤ 3000) (hc : C.size ≤ 3000) :
    Calls Try.prog 4 #[.string A, .string B, .string C] w fun e w' => e = .returned (.bool true) ∧ Below w.heap.size w w' := by
  obtain ⟨a, rfl⟩ : ∃ a, A = bs a := ⟨_, (bs_self A).symm⟩
  obtain ⟨b, rfl⟩ : ∃ b, B = bs b := ⟨_, (bs_self B).symm⟩
  obtain ⟨c, rfl⟩ : ∃ c, C = bs c := ⟨_, (bs_self C).symm⟩
  have hla : a.length ≤ 3000 := by rw [bs_size] at ha; exact ha
  have hlb : b.length ≤ 3000 := by rw [bs_size] at hb; exact hb
  have hlc : c.length ≤ 3000 := by rw [bs_size] at hc; exact hc
  have hW := worksE_any
  have hP := fun w => eparse_any a w (by omega)
  have hWab := fun w => eweak_any a b w (by omega) (by omega)
  have hWba := fun w => eweak_any b a w (by omega) (by omega)
  have hWbc := fun w => eweak_any b c w (by omega) (by omega)
  have hWac := fun w => eweak_any a c w (by omega) (by omega)
  have hWaa := fun w => eweak_any a a w (by omega) (by omega)
  have hSab := fun w => estrong_any a b w (by omega) (by omega)
  have hSba := fun w => estrong_any b a w (by omega) (by omega)
  have hSbc := fun w => estrong_any b c w (by omega) (by omega)
  have hSac := fun w => estrong_any a c w (by omega) (by omega)
  have hSaa := fun w => estrong_any a a w (by omega) (by omega)
  have hXab := fun w => eweak_any (87 :: 47 :: a) b w (by simp; omega) (by omega)
  have hXaa := fun w => estrong_any (87 :: 47 :: a) a w (by simp; omega) (by omega)
  have hadd := fun w => addE_l [87, 47] a w (by simp; omega)
  rw [show [87, 47] ++ a = 87 :: 47 :: a from rfl, show bs [87, 47] = ⟨#[87, 47]⟩ from rfl] at hadd
  rw [weakE_comm b a] at hWba
  rw [strongE_comm b a] at hSba
  rw [weakE_self] at hWaa
  have t1 : strongE a b = true → weakE a b = true := strongE_weak
  have t2 : weakE a b = true → weakE b c = true → weakE a c = true := weakE_trans
  have t3 : strongE a b = true → strongE b c = true → strongE a c = true := strongE_trans
  have t4 : strongE b c = true → weakE b c = true := strongE_weak
  have hss : isE a = true → strongE a a = !weE a := strongE_self
  have hx1 : isE a = true → weE a = false → weakE (87 :: 47 :: a) b = weakE a b := fun h1 h2 => ahead_weak h1 h2 b
  have hx2 : isE a = true → weE a = false → strongE (87 :: 47 :: a) a = false := ahead_strong
  have he := (erE_eq a).2
  generalize bs (87 :: 47 :: a) = XA at *
  generalize strongE (87 :: 47 :: a) a = xaa at *
  generalize weakE (87 :: 47 :: a) b = xab at *
  generalize strongE a a = saa at *
  generalize strongE a c = sac at *
  generalize strongE b c = sbc at *
  generalize strongE a b = sab at *
  generalize weakE a c = wac at *
  generalize weakE b c = wbc at *
  generalize weakE a b = wab at *
  generalize tagE a = ta at *
  generalize erE a = ea at *
  generalize weE a = ka at *
  generalize isE a = ia at *
  generalize bs a = A at *
  generalize bs b = B at *
  generalize bs c = C at *
  clear hla hlb hlc
  have HW := Lib.hid hW; have HP := Lib.hid hP; have HWab := Lib.hid hWab; have HWba := Lib.hid hWba; have HWbc := Lib.hid hWbc; have HWac := Lib.hid hWac; have HWaa := Lib.hid hWaa
  have HSab := Lib.hid hSab; have HSba := Lib.hid hSba; have HSbc := Lib.hid hSbc; have HSac := Lib.hid hSac; have HSaa := Lib.hid hSaa; have HXab := Lib.hid hXab; have HXaa := Lib.hid hXaa
  have HT1 := Lib.hid t1; have HT2 := Lib.hid t2; have HT3 := Lib.hid t3; have HT4 := Lib.hid t4; have HSS := Lib.hid hss; have HX1 := Lib.hid hx1; have HX2 := Lib.hid hx2; have HE := Lib.hid he
  clear hW hP hWab hWba hWbc hWac hWaa hSab hSba hSbc hSac hSaa hXab hXaa t1 t2 t3 t4 hss hx1 hx2 he
  have HB := Lib.hid (Below.refl w.heap.size w)
  have la : ¬ 3000 < (A.size : Int) := by omega
  have lb : ¬ 3000 < (B.size : Int) := by omega
  have lc : ¬ 3000 < (C.size : Int) := by omega
  clear ha hb hc
  go_enter Try.func4, Try.ntmps4
  go_upto_region 3 with fail
  clear la lb lc
  go_cut [50] (fun v wx => v = .bool false ∧ Below w.heap.size w wx)
  case first =>
    cases sab
    · clear HT1 HT2 HT3 HT4 HSS HX1 HX2 HE hadd
      go_wp2_with fail
      refine (HSab.out _).mono ?_
      rintro e z0 ⟨rfl, hb⟩
      have HB0 := Lib.hid (HB.out.trans (hb.mono HB.out.size)); clear hb HB
      go_wp2_with fail
      refine (HWab.out _).mono ?_
      rintro e z1 ⟨rfl, hb⟩
      have HB1 := Lib.hid (HB0.out.trans (hb.mono HB0.out.size)); clear hb HB0
      go_wp2_with fail
      refine (HWba.out _).mono ?_
      rintro e z2 ⟨rfl, hb⟩
      have HB2 := Lib.hid (HB1.out.trans (hb.mono HB1.out.size)); clear hb HB1
      go_wp2_with fail
      refine (HSab.out _).mono ?_
      rintro e z3 ⟨rfl, hb⟩
      have HB3 := Lib.hid (HB2.out.trans (hb.mono HB2.out.size)); clear hb HB2
      go_wp2_with fail
      refine (HSba.out _).mono ?_
      rintro e z4 ⟨rfl, hb⟩
      have HB4 := Lib.hid (HB3.out.trans (hb.mono HB3.out.size)); clear hb HB3
      go_wp2_with fail
      go_meet
      exact ⟨rfl, HB4.out⟩
    · obtain rfl : wab = true := HT1.out rfl
      clear HT1 HT2 HT3 HT4 HSS HX1 HX2 HE hadd
      go_wp2_with fail
      refine (HSab.out _).mono ?_
      rintro e z0 ⟨rfl, hb⟩
      have HB0 := Lib.hid (HB.out.trans (hb.mono HB.out.size)); clear hb HB
      go_wp2_with fail
      refine (HWab.out _).mono ?_
      rintro e z1 ⟨rfl, hb⟩
      have HB1 := Lib.hid (HB0.out.trans (hb.mono HB0.out.size)); clear hb HB0
      go_wp2_with fail
      refine (HWab.out _).mono ?_
      rintro e z2 ⟨rfl, hb⟩
      have HB2 := Lib.hid (HB1.out.trans (hb.mono HB1.out.size)); clear hb HB1
      go_wp2_with fail
      refine (HWba.out _).mono ?_
      rintro e z3 ⟨rfl, hb⟩
      have HB3 := Lib.hid (HB2.out.trans (hb.mono HB2.out.size)); clear hb HB2
      go_wp2_with fail
      refine (HSab.out _).mono ?_
      rintro e z4 ⟨rfl, hb⟩
      have HB4 := Lib.hid (HB3.out.trans (hb.mono HB3.out.size)); clear hb HB3
      go_wp2_with fail
      refine (HSba.out _).mono ?_
      rintro e z5 ⟨rfl, hb⟩
      have HB5 := Lib.hid (HB4.out.trans (hb.mono HB4.out.size)); clear hb HB4
      go_wp2_with fail
      go_meet
      exact ⟨rfl, HB5.out⟩
  case rest =>
    obtain ⟨rfl, hb⟩ := hcut
    have HB := Lib.hid hb; clear hb
    go_upto_region 5 with fail
    go_cut [80] (fun v wx => v = .bool false ∧ Below w.heap.size w wx)
    case first =>
      clear HSS HX1 HX2 HE hadd
      cases wab
      · obtain rfl : sab = false := by cases sab with | false => rfl | true => exact absurd (HT1.out rfl) (by simp)
        clear HT1 HT2 HT3 HT4
        go_wp2_with fail
        refine (HWab.out _).mono ?_
        rintro e z0 ⟨rfl, hb⟩
        have HB0 := Lib.hid (HB.out.trans (hb.mono HB.out.size)); clear hb HB
        go_wp2_with fail
        refine (HSab.out _).mono ?_
        rintro e z1 ⟨rfl, hb⟩
        have HB1 := Lib.hid (HB0.out.trans (hb.mono HB0.out.size)); clear hb HB0
        go_wp2_with fail
        go_meet
        exact ⟨rfl, HB1.out⟩
      · cases wbc
        · obtain rfl : sbc = false := by cases sbc with | false => rfl | true => exact absurd (HT4.out rfl) (by simp)
          clear HT1 HT2 HT3 HT4
          cases sab
          · skip
            go_wp2_with fail
            refine (HWab.out _).mono ?_
            rintro e z0 ⟨rfl, hb⟩
            have HB0 := Lib.hid (HB.out.trans (hb.mono HB.out.size)); clear hb HB
            go_wp2_with fail
            refine (HWbc.out _).mono ?_
            rintro e z1 ⟨rfl, hb⟩
            have HB1 := Lib.hid (HB0.out.trans (hb.mono HB0.out.size)); clear hb HB0
            go_wp2_with fail
            refine (HSab.out _).mono ?_
            rintro e z2 ⟨rfl, hb⟩
            have HB2 := Lib.hid (HB1.out.trans (hb.mono HB1.out.size)); clear hb HB1
            go_wp2_with fail
            go_meet
            exact ⟨rfl, HB2.out⟩
          · skip
            go_wp2_with fail
            refine (HWab.out _).mono ?_
            rintro e z0 ⟨rfl, hb⟩
            have HB0 := Lib.hid (HB.out.trans (hb.mono HB.out.size)); clear hb HB
            go_wp2_with fail
            refine (HWbc.out _).mono ?_
            rintro e z1 ⟨rfl, hb⟩
            have HB1 := Lib.hid (HB0.out.trans (hb.mono HB0.out.size)); clear hb HB0
            go_wp2_with fail
            refine (HSab.out _).mono ?_
            rintro e z2 ⟨rfl, hb⟩
            have HB2 := Lib.hid (HB1.out.trans (hb.mono HB1.out.size)); clear hb HB1
            go_wp2_with fail
            refine (HSbc.out _).mono ?_
            rintro e z3 ⟨rfl, hb⟩
            have HB3 := Lib.hid (HB2.out.trans (hb.mono HB2.out.size)); clear hb HB2
            go_wp2_with fail
            go_meet
            exact ⟨rfl, HB3.out⟩
        · obtain rfl : wac = true := HT2.out rfl rfl
          cases sab
          · clear HT1 HT2 HT3 HT4
            go_wp2_with fail
            refine (HWab.out _).mono ?_
            rintro e z0 ⟨rfl, hb⟩
            have HB0 := Lib.hid (HB.out.trans (hb.mono HB.out.size)); clear hb HB
            go_wp2_with fail
            refine (HWbc.out _).mono ?_
            rintro e z1 ⟨rfl, hb⟩
            have HB1 := Lib.hid (HB0.out.trans (hb.mono HB0.out.size)); clear hb HB0
            go_wp2_with fail
            refine (HWac.out _).mono ?_
            rintro e z2 ⟨rfl, hb⟩
            have HB2 := Lib.hid (HB1.out.trans (hb.mono HB1.out.size)); clear hb HB1
            go_wp2_with fail
            refine (HSab.out _).mono ?_
            rintro e z3 ⟨rfl, hb⟩
            have HB3 := Lib.hid (HB2.out.trans (hb.mono HB2.out.size)); clear hb HB2
            go_wp2_with fail
            go_meet
            exact ⟨rfl, HB3.out⟩
          · cases sbc
            · clear HT1 HT2 HT3 HT4
              go_wp2_with fail
              refine (HWab.out _).mono ?_
              rintro e z0 ⟨rfl, hb⟩
              have HB0 := Lib.hid (HB.out.trans (hb.mono HB.out.size)); clear hb HB
              go_wp2_with fail
              refine (HWbc.out _).mono ?_
              rintro e z1 ⟨rfl, hb⟩
              have HB1 := Lib.hid (HB0.out.trans (hb.mono HB0.out.size)); clear hb HB0
              go_wp2_with fail
              refine (HWac.out _).mono ?_
              rintro e z2 ⟨rfl, hb⟩
              have HB2 := Lib.hid (HB1.out.trans (hb.mono HB1.out.size)); clear hb HB1
              go_wp2_with fail
              refine (HSab.out _).mono ?_
              rintro e z3 ⟨rfl, hb⟩
              have HB3 := Lib.hid (HB2.out.trans (hb.mono HB2.out.size)); clear hb HB2
              go_wp2_with fail
              refine (HSbc.out _).mono ?_
              rintro e z4 ⟨rfl, hb⟩
              have HB4 := Lib.hid (HB3.out.trans (hb.mono HB3.out.size)); clear hb HB3
              go_wp2_with fail
              go_meet
              exact ⟨rfl, HB4.out⟩
            · obtain rfl : sac = true := HT3.out rfl rfl
              clear HT1 HT2 HT3 HT4
              go_wp2_with fail
              refine (HWab.out _).mono ?_
              rintro e z0 ⟨rfl, hb⟩
              have HB0 := Lib.hid (HB.out.trans (hb.mono HB.out.size)); clear hb HB
              go_wp2_with fail
              refine (HWbc.out _).mono ?_
              rintro e z1 ⟨rfl, hb⟩
              have HB1 := Lib.hid (HB0.out.trans (hb.mono HB0.out.size)); clear hb HB0
              go_wp2_with fail
              refine (HWac.out _).mono ?_
              rintro e z2 ⟨rfl, hb⟩
              have HB2 := Lib.hid (HB1.out.trans (hb.mono HB1.out.size)); clear hb HB1
              go_wp2_with fail
              refine (HSab.out _).mono ?_
              rintro e z3 ⟨rfl, hb⟩
              have HB3 := Lib.hid (HB2.out.trans (hb.mono HB2.out.size)); clear hb HB2
              go_wp2_with fail
              refine (HSbc.out _).mono ?_
              rintro e z4 ⟨rfl, hb⟩
              have HB4 := Lib.hid (HB3.out.trans (hb.mono HB3.out.size)); clear hb HB3
              go_wp2_with fail
              refine (HSac.out _).mono ?_
              rintro e z5 ⟨rfl, hb⟩
              have HB5 := Lib.hid (HB4.out.trans (hb.mono HB4.out.size)); clear hb HB4
              go_wp2_with fail
              go_meet
              exact ⟨rfl, HB5.out⟩
    case rest =>
      obtain ⟨rfl, hb⟩ := hcut
      have HB := Lib.hid hb; clear hb
      clear HT1 HT2 HT3 HT4
      cases ia
      · have he : (ea != 0) = true := HE.out
        clear HE HSS HX1 HX2 hadd
        go_wp2_with fail
        refine (HP.out _).mono ?_
        rintro e z0 ⟨rfl, hb⟩
        have HB0 := Lib.hid (HB.out.trans (hb.mono HB.out.size)); clear hb HB
        go_wp2_with fail
        refine (HWaa.out _).mono ?_
        rintro e z1 ⟨rfl, hb⟩
        have HB1 := Lib.hid (HB0.out.trans (hb.mono HB0.out.size)); clear hb HB0
        go_wp2_with fail
        refine (HW.out _).mono ?_
        rintro e z2 ⟨rfl, hb⟩
        have HB2 := Lib.hid (HB1.out.trans (hb.mono HB1.out.size)); clear hb HB1
        go_wp2_with fail
        go_ret
        exact ⟨rfl, HB2.out⟩
      · have he : (ea != 0) = false := HE.out
        obtain rfl : saa = !ka := HSS.out rfl
        cases ka
        · obtain rfl : xab = wab := HX1.out rfl rfl
          obtain rfl : xaa = false := HX2.out rfl rfl
          clear HE HSS HX1 HX2
          go_wp2_with fail
          refine (HP.out _).mono ?_
          rintro e z0 ⟨rfl, hb⟩
          have HB0 := Lib.hid (HB.out.trans (hb.mono HB.out.size)); clear hb HB
          go_wp2_with fail
          refine (HWaa.out _).mono ?_
          rintro e z1 ⟨rfl, hb⟩
          have HB1 := Lib.hid (HB0.out.trans (hb.mono HB0.out.size)); clear hb HB0
          go_wp2_with fail
          refine (HSaa.out _).mono ?_
          rintro e z2 ⟨rfl, hb⟩
          have HB2 := Lib.hid (HB1.out.trans (hb.mono HB1.out.size)); clear hb HB1
          go_wp2_with fail
          refine (HXab.out _).mono ?_
          rintro e z3 ⟨rfl, hb⟩
          have HB3 := Lib.hid (HB2.out.trans (hb.mono HB2.out.size)); clear hb HB2
          go_wp2_with fail
          refine (HWab.out _).mono ?_
          rintro e z4 ⟨rfl, hb⟩
          have HB4 := Lib.hid (HB3.out.trans (hb.mono HB3.out.size)); clear hb HB3
          go_wp2_with fail
          refine (HXaa.out _).mono ?_
          rintro e z5 ⟨rfl, hb⟩
          have HB5 := Lib.hid (HB4.out.trans (hb.mono HB4.out.size)); clear hb HB4
          go_wp2_with fail
          refine (HW.out _).mono ?_
          rintro e z6 ⟨rfl, hb⟩
          have HB6 := Lib.hid (HB5.out.trans (hb.mono HB5.out.size)); clear hb HB5
          go_wp2_with fail
          go_ret
          exact ⟨rfl, HB6.out⟩
        · clear HE HSS HX1 HX2 hadd
          go_wp2_with fail
          refine (HP.out _).mono ?_
          rintro e z0 ⟨rfl, hb⟩
          have HB0 := Lib.hid (HB.out.trans (hb.mono HB.out.size)); clear hb HB
          go_wp2_with fail
          refine (HWaa.out _).mono ?_
          rintro e z1 ⟨rfl, hb⟩
          have HB1 := Lib.hid (HB0.out.trans (hb.mono HB0.out.size)); clear hb HB0
          go_wp2_with fail
          refine (HSaa.out _).mono ?_
          rintro e z2 ⟨rfl, hb⟩
          have HB2 := Lib.hid (HB1.out.trans (hb.mono HB1.out.size)); clear hb HB1
          go_wp2_with fail
          refine (HW.out _).mono ?_
          rintro e z3 ⟨rfl, hb⟩
          have HB3 := Lib.hid (HB2.out.trans (hb.mono HB2.out.size)); clear hb HB2
          go_wp2_with fail
          go_ret
          exact ⟨rfl, HB3.out⟩
set_option maxRecDepth 100000 in
set_option maxHeartbeats 1000000 in
theorem etagSame_any (A B C : ByteArray) (w : World) :
    Calls Try.prog 4 #[.string A, .string B, .string C] w fun e w' => e = .returned (.bool true) ∧ Below w.heap.size w w' := by
  by_cases h : A.size ≤ 3000 ∧ B.size ≤ 3000 ∧ C.size ≤ 3000
  · exact etagSame_few A B C w h.1 h.2.1 h.2.2
  · have HW := Lib.hid worksE_any
    by_cases ha : 3000 < (A.size : Int)
    · clear h
      go_enter Try.func4, Try.ntmps4
      go_wp2_with fail
      refine (HW.out _).mono ?_
      rintro e w1 ⟨rfl, hb⟩
      go_wp2_with fail
      go_ret
      exact ⟨rfl, hb⟩
    · by_cases hb : 3000 < (B.size : Int)
      · clear h
        go_enter Try.func4, Try.ntmps4
        go_wp2_with fail
        refine (HW.out _).mono ?_
        rintro e w1 ⟨rfl, hb⟩
        go_wp2_with fail
        go_ret
        exact ⟨rfl, hb⟩
      · have hc : 3000 < (C.size : Int) := by omega
        clear h
        go_enter Try.func4, Try.ntmps4
        go_wp2_with fail
        refine (HW.out _).mono ?_
        rintro e w1 ⟨rfl, hb⟩
        go_wp2_with fail
        go_ret
        exact ⟨rfl, hb⟩
theorem etagSame_law {p q r : Prop} (A B C : ByteArray) (w : World) (_ : p) (_ : q) (_ : r) :
    Calls Try.prog 4 #[.string A, .string B, .string C] w fun e w' => e = .returned (.bool true) ∧ Below w.heap.size w w' := etagSame_any A B C w
end Go.Proofs.Ytjbkjmceabilaaa
