/- A call of a budget, and what must be so behind it: the statements' own do. -/
import Derived.Test.YtfjdfdobeiblhaaBudIG
import Derived.Test.YtfjdfdobeiblhaaOpenA
import Derived.BigQuiet
namespace Go.Proofs.Ytfjdfdobeiblhaa
open Go.RowKit
/-- what a call makes of what is kept -/
def actK (n m : Nat) (a : Ac) (l : List (It Int)) : List (It Int) :=
  if a.wh % 4 = 0 then (putK n m a.key a.sz.toNat a.x l).2 else if a.wh % 4 = 1 then getK a.key l else if a.wh % 4 = 2 then l else dropK a.key l
theorem actK_ok {n m : Nat} (a : Ac) {l : List (It Int)} (h : OkK n m l) (hn : 1 ≤ n) : OkK n m (actK n m a l) := by
  unfold actK
  split
  · exact h.put hn _ _ _
  · split
    · exact h.get _
    · split
      · exact h
      · exact h.drop _
theorem Did.dn {X X' : Nat → Prop} {w w' : World} {k : Nat} (h : Did X X' w w') : Did X X' w (w'.drewN k) := ⟨h.os, h.tape, h.output, h.size, h.keep, h.new⟩
theorem last_at (q : List (It Int)) (y : It Int) : (keysK (q ++ [y])).getD q.length [] = y.1 := by
  have : q.length = (keysK q).length := by simp [keysK]
  rw [keysK_append, this]
  simp [keysK]
section
variable {w : World} {b n m : Nat} {X : Nat → Prop} {l : List (It Int)}
set_option maxRecDepth 100000 in
set_option maxHeartbeats 4000000 in
theorem do_any (h : BI.Bd w b X n m l) (a : Ac) (ha : a.Ok) (hk : a.key.length ≤ KL) :
    Calls Try.prog 16 #[.pointer (some ⟨b, 0, none⟩), a.val, .int .i64 m] w fun e w' => e = .returned (.bool true) ∧ ∃ X', BI.Bd w' b X' n m (actK n m a l) ∧ Did X X' w w' := by
  obtain ⟨wh, key, sz, x⟩ := a
  obtain ⟨w1, w2, s1, s2, x1, x2⟩ := ha
  simp only at w1 w2 s1 s2 x1 x2 hk
  show Calls _ _ #[_, .agg #[.int .u8 wh, .string (bs key), .int .i64 sz, .int .i64 x], _] _ _
  have hal : Below w.heap.size w (w.alloc (.cells #[.int .u8 wh, .string (bs key), .int .i64 sz, .int .i64 x] 32)) := (Below.refl _ _).alloc (Nat.le_refl _) _
  have hA := bk.new w #[.int .u8 wh, .string (bs key), .int .i64 sz, .int .i64 x] 32
  have HB := Lib.hid (h.bel hal)
  have HD := Lib.hid (Did.of_below (X := X) hal)
  have HX : Hid (¬ X w.heap.size) := fun e => by have := h.lt _ e; omega
  have HM : Hid (m ≤ 1073741824) := h.bounds.2.2.2
  have HLN : Hid (∀ l' : List (It Int), OkK n m l' → l'.length ≤ 4096) := fun l' h' => by have h1 := h'.len; have h2 := h.bounds; omega
  have HOK := Lib.hid h.ok; have HN1 := Lib.hid h.bounds.1
  have HA := Lib.hid hA
  have a0 := HA.out.cell 0 (.int .u8 wh) rfl
  clear h hal hA
  have HK := Lib.hid hk
  clear hk
  have hcase : wh % 4 = 0 ∨ wh % 4 = 1 ∨ wh % 4 = 2 ∨ wh % 4 = 3 := by omega
  have ht : Int.tmod wh 4 = wh % 4 := Int.tmod_eq_emod_of_nonneg w1
  have hu : IntKind.u8.wrap (wh % 4) = wh % 4 := by rw [IntKind.wrap_u8]; omega
  have HACT2 : Hid (actK n m ⟨wh, key, sz, x⟩ l = if wh % 4 = 0 then (putK n m key sz.toNat x l).2 else if wh % 4 = 1 then getK key l else if wh % 4 = 2 then l else dropK key l) := rfl
  clear w1 w2
  generalize wh % 4 = r at *
  generalize actK n m ⟨wh, key, sz, x⟩ l = L' at *
  have hab : Hid (w.heap.size < (w.alloc (.cells #[.int .u8 wh, .string (bs key), .int .i64 sz, .int .i64 x] 32)).heap.size) := by show _ < _; simp
  rcases hcase with rfl | rfl | rfl | rfl
  · have HL' : Hid (L' = (putK n m key sz.toNat x l).2) := HACT2.out
    have HO := Lib.hid (HOK.out.put HN1.out key sz.toNat x)
    have a1 := HA.out.cell 1 (.string (bs key)) rfl
    have a2 := HA.out.cell 2 (.int .i64 sz) rfl
    have a3 := HA.out.cell 3 (.int .i64 x) rfl
    have HPU := Lib.hid (BI.put_any HB.out key HK.out sz s1 s2 x)
    clear HACT2 HB HOK
    go_enter Try.func16, Try.ntmps16
    go_wp2_with fail
    refine HPU.out.mono ?_
    rintro e z1 ⟨v, rfl, hv, X', hB1, hd1⟩
    rw [← HL'.out] at HO hB1
    obtain ⟨Av, cv, rfl⟩ := hv.form
    have HB1 := Lib.hid hB1; have HD1 := Lib.hid (HD.out.trans hd1)
    have HA1 := Lib.hid (HA.out.keep (hd1.keep _ hab.out HX.out))
    have HKE := Lib.hid (BI.keys_any hB1)
    generalize (putK n m key sz.toNat x l).1.length = nv at *
    clear hv hB1 hd1 a0 a1 a2 a3 HPU HA HD hab
    generalize w.heap.size = ab at *
    go_wp2_with fail
    refine HKE.out.mono ?_
    rintro e z2 ⟨u, rfl, hu2, hb2⟩
    have HB2 := Lib.hid (HB1.out.bel hb2); have HD2 := Lib.hid (HD1.out.trans (Did.of_below hb2)); have HA2 := Lib.hid (HA1.out.below hb2)
    have HU := Lib.hid hu2
    have b1 := HA2.out.cell 1 (.string (bs key)) rfl
    have b2 := HA2.out.cell 2 (.int .i64 sz) rfl
    have b3 := HA2.out.cell 3 (.int .i64 x) rfl
    have HPK := Lib.hid (BI.peek_any HB2.out key HK.out)
    obtain ⟨Au, cu, rfl⟩ := hu2.form
    clear hb2 hu2 HB1 HD1 HA1 HKE
    by_cases hms : (m : Int) < sz
    · have hf : findK key L' = none := by rw [HL'.out]; exact put_none key x l (by omega)
      rw [hf] at HPK
      have HPK2 : Hid (Calls Try.prog 17 #[.pointer (some ⟨b, 0, none⟩), .string (bs key)] z2 fun e w' => e = .returned (.tuple #[.int .i64 0, .bool false]) ∧ z2 = w') := HPK.out
      clear HPK hf
      generalize (keysK L').length = nk at *
      go_wp2_with fail
      refine HPK2.out.mono ?_
      rintro e wx ⟨rfl, rfl⟩
      go_wp2_with fail
      go_ret
      exact ⟨rfl, _, HB2.out, HD2.out⟩
    · obtain ⟨hf, q, hq⟩ := put_finds (n := n) (m := m) (s := sz.toNat) key x l (by omega)
      rw [← HL'.out] at hf hq
      rw [hf] at HPK
      have HPK2 : Hid (Calls Try.prog 17 #[.pointer (some ⟨b, 0, none⟩), .string (bs key)] z2 fun e w' => e = .returned (.tuple #[.int .i64 x, .bool true]) ∧ z2 = w') := HPK.out
      have hkl : (keysK L').length = q.length + 1 := by rw [hq]; simp [keysK]
      have hlast : (keysK L').getD q.length [] = key := by rw [hq]; exact last_at q _
      have hql : q.length ≤ 4096 := by have h1 := HLN.out L' HO.out; rw [hq] at h1; simp at h1; omega
      obtain ⟨g, rfl, hcg⟩ := HU.out.cell q.length (by rw [hkl]; omega)
      rw [hlast] at hcg
      rw [hkl]
      clear HPK hf hq hkl hlast HU
      generalize q.length = N at *
      have hw : IntKind.i64.wrap ((N : Int) + 1 - 1) = (N : Int) := by rw [IntKind.wrap_i64]; omega
      have hp0 : (0 : Int) < (N : Int) + 1 := by omega
      have hp1 : (N : Int) < (N : Int) + 1 := by omega
      have hp2 : (0 : Int) ≤ (N : Int) := by omega
      have hxx : ((bs key).toList == (bs key).toList) = true := by simp
      generalize bs key = kb at *
      go_wp2_with fail
      refine HPK2.out.mono ?_
      rintro e wx ⟨rfl, rfl⟩
      go_wp2_with fail
      go_quiet (fail)
      go_wp2_with fail
      go_ret
      exact ⟨rfl, _, HB2.out.bel (below_dnX (Below.refl _ _) _), HD2.out.dn⟩
  · have HL' : Hid (L' = getK key l) := HACT2.out
    have HO := Lib.hid (HOK.out.get key)
    have a1 := HA.out.cell 1 (.string (bs key)) rfl
    have HGE := Lib.hid (BI.get_any HB.out key HK.out)
    clear HACT2 HB HOK
    cases hf : findK key l with
    | none =>
      rw [hf] at HGE
      have HGE2 : Hid (Calls Try.prog 25 #[.pointer (some ⟨b, 0, none⟩), .string (bs key)] (w.alloc (.cells #[.int .u8 wh, .string (bs key), .int .i64 sz, .int .i64 x] 32)) fun e w' => e = .returned (.tuple #[.int .i64 0, .bool false]) ∧ ∃ X', BI.Bd w' b X' n m (getK key l) ∧ Did X X' (w.alloc (.cells #[.int .u8 wh, .string (bs key), .int .i64 sz, .int .i64 x] 32)) w') := HGE.out
      clear HGE hf
      go_enter Try.func16, Try.ntmps16
      go_wp2_with fail
      refine HGE2.out.mono ?_
      rintro e z1 ⟨rfl, X', hB1, hd1⟩
      rw [← HL'.out] at HO hB1
      have HB1 := Lib.hid hB1; have HD1 := Lib.hid (HD.out.trans hd1)
      have HA1 := Lib.hid (HA.out.keep (hd1.keep _ hab.out HX.out))
      have HKE := Lib.hid (BI.keys_any hB1)
      clear hB1 hd1 a0 a1 HGE2 HA HD hab
      generalize w.heap.size = ab at *
      go_wp2_with fail
      refine HKE.out.mono ?_
      rintro e z2 ⟨u, rfl, hu2, hb2⟩
      have HB2 := Lib.hid (HB1.out.bel hb2); have HD2 := Lib.hid (HD1.out.trans (Did.of_below hb2)); have HA2 := Lib.hid (HA1.out.below hb2)
      have HU := Lib.hid hu2
      obtain ⟨Au, cu, rfl⟩ := hu2.form
      clear hb2 hu2 HB1 HD1 HA1 HKE
      clear HU
      generalize (keysK L').length = nk at *
      go_wp2_with fail
      go_quiet (fail)
      go_wp2_with fail
      go_ret
      exact ⟨rfl, _, HB2.out.bel (below_dnX (Below.refl _ _) _), HD2.out.dn⟩
    | some y =>
      rw [hf] at HGE
      have HFN := Lib.hid (getK_found hf)
      have HGE2 : Hid (Calls Try.prog 25 #[.pointer (some ⟨b, 0, none⟩), .string (bs key)] (w.alloc (.cells #[.int .u8 wh, .string (bs key), .int .i64 sz, .int .i64 x] 32)) fun e w' => e = .returned (.tuple #[.int .i64 y.2.2, .bool true]) ∧ ∃ X', BI.Bd w' b X' n m (getK key l) ∧ Did X X' (w.alloc (.cells #[.int .u8 wh, .string (bs key), .int .i64 sz, .int .i64 x] 32)) w') := HGE.out
      clear HGE hf
      go_enter Try.func16, Try.ntmps16
      go_wp2_with fail
      refine HGE2.out.mono ?_
      rintro e z1 ⟨rfl, X', hB1, hd1⟩
      rw [← HL'.out] at HO hB1
      have HB1 := Lib.hid hB1; have HD1 := Lib.hid (HD.out.trans hd1)
      have HA1 := Lib.hid (HA.out.keep (hd1.keep _ hab.out HX.out))
      have HKE := Lib.hid (BI.keys_any hB1)
      clear hB1 hd1 a0 a1 HGE2 HA HD hab
      generalize w.heap.size = ab at *
      go_wp2_with fail
      refine HKE.out.mono ?_
      rintro e z2 ⟨u, rfl, hu2, hb2⟩
      have HB2 := Lib.hid (HB1.out.bel hb2); have HD2 := Lib.hid (HD1.out.trans (Did.of_below hb2)); have HA2 := Lib.hid (HA1.out.below hb2)
      have HU := Lib.hid hu2
      obtain ⟨Au, cu, rfl⟩ := hu2.form
      clear hb2 hu2 HB1 HD1 HA1 HKE
      have b1 := HA2.out.cell 1 (.string (bs key)) rfl
      have hq : L' = dropK key l ++ [y] := HL'.out.trans HFN.out.1
      have hkl : (keysK L').length = (dropK key l).length + 1 := by rw [hq]; simp [keysK]
      have hlast : (keysK L').getD (dropK key l).length [] = key := by rw [hq, last_at]; exact HFN.out.2.1
      have hql : (dropK key l).length ≤ 4096 := by have h1 := HLN.out L' HO.out; rw [hq] at h1; simp at h1; omega
      obtain ⟨g, rfl, hcg⟩ := HU.out.cell (dropK key l).length (by rw [hkl]; omega)
      rw [hlast] at hcg
      rw [hkl]
      clear hq hkl hlast HU HFN
      generalize (dropK key l).length = N at *
      have hw : IntKind.i64.wrap ((N : Int) + 1 - 1) = (N : Int) := by rw [IntKind.wrap_i64]; omega
      have hp0 : (0 : Int) < (N : Int) + 1 := by omega
      have hp1 : (N : Int) < (N : Int) + 1 := by omega
      have hp2 : (0 : Int) ≤ (N : Int) := by omega
      have hxx : ((bs key).toList == (bs key).toList) = true := by simp
      generalize bs key = kb at *
      go_wp2_with fail
      go_quiet (fail)
      go_wp2_with fail
      go_ret
      exact ⟨rfl, _, HB2.out.bel (below_dnX (Below.refl _ _) _), HD2.out.dn⟩
  · have HL' : Hid (L' = l) := HACT2.out
    have a1 := HA.out.cell 1 (.string (bs key)) rfl
    have HPK := Lib.hid (BI.peek_any HB.out key HK.out)
    clear HACT2 HOK
    generalize valK 0 (findK key l) = pv at *
    generalize (findK key l).isSome = po at *
    go_enter Try.func16, Try.ntmps16
    go_wp2_with fail
    refine HPK.out.mono ?_
    rintro e wx ⟨rfl, rfl⟩
    go_wp2_with fail
    go_ret
    exact ⟨rfl, _, by rw [HL'.out]; exact HB.out, HD.out⟩
  · have HL' : Hid (L' = dropK key l) := HACT2.out
    have a1 := HA.out.cell 1 (.string (bs key)) rfl
    have HDR := Lib.hid (BI.drop_any HB.out key HK.out)
    have HF : Hid (findK key L' = none) := by show _ = _; rw [HL'.out]; exact drop_none key l
    clear HACT2 HOK HB
    generalize hasK key l = had at *
    go_enter Try.func16, Try.ntmps16
    go_wp2_with fail
    refine HDR.out.mono ?_
    rintro e z1 ⟨rfl, X', hB1, hd1⟩
    rw [← HL'.out] at hB1
    have HB1 := Lib.hid hB1; have HD1 := Lib.hid (HD.out.trans hd1)
    have HA1 := Lib.hid (HA.out.keep (hd1.keep _ hab.out HX.out))
    have b1 := HA1.out.cell 1 (.string (bs key)) rfl
    have HPK := Lib.hid (BI.peek_any hB1 key HK.out)
    rw [HF.out] at HPK
    have HPK2 : Hid (Calls Try.prog 17 #[.pointer (some ⟨b, 0, none⟩), .string (bs key)] z1 fun e w' => e = .returned (.tuple #[.int .i64 0, .bool false]) ∧ z1 = w') := HPK.out
    clear hB1 hd1 a0 a1 HDR HA HD hab HPK
    generalize w.heap.size = ab at *
    go_wp2_with fail
    refine HPK2.out.mono ?_
    rintro e wx ⟨rfl, rfl⟩
    go_wp2_with fail
    go_ret
    exact ⟨rfl, _, HB1.out, HD1.out⟩
end
end Go.Proofs.Ytfjdfdobeiblhaa
