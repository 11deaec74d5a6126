/- A call of both budgets, the program's and the document's: are they answered the same? -/
import Derived.Test.YtfjdfdobeiblhaaBudX
import Derived.Test.YtfjdfdobeiblhaaBudY
namespace Go.Proofs.Ytfjdfdobeiblhaa
open Go.RowKit
/-- both budgets, made since w0, none of whose blocks the other one has -/
structure Pair (w0 w : World) (b rb n m : Nat) (lb lr : List (It Int)) (Xb Xr : Nat → Prop) : Prop where
  bd : BI.Bd w b Xb n m lb
  rd : RB w rb Xr n m lr
  bel : Below w0.heap.size w0 w
  lb : ∀ k, Xb k → w0.heap.size ≤ k
  lr : ∀ k, Xr k → w0.heap.size ≤ k
  ap : ∀ k, Xb k → ¬ Xr k
section
variable {w0 w w' : World} {b rb n m : Nat} {lb lr lb' lr' : List (It Int)} {Xb Xr Xb' Xr' : Nat → Prop}
theorem Pair.call (h : Pair w0 w b rb n m lb lr Xb Xr) (hb : Below w.heap.size w w') : Pair w0 w' b rb n m lb lr Xb Xr :=
  ⟨h.bd.bel hb, h.rd.bel hb, h.bel.trans (hb.mono h.bel.size), h.lb, h.lr, h.ap⟩
theorem Pair.stepB (h : Pair w0 w b rb n m lb lr Xb Xr) (h1 : BI.Bd w' b Xb' n m lb') (hd : Did Xb Xb' w w') : Pair w0 w' b rb n m lb' lr Xb' Xr :=
  ⟨h1, h.rd.keep (fun k hk => hd.keep k (h.rd.lt k hk) (fun e => h.ap k e hk)), h.bel.trans (hd.below h.bel.size h.lb), fun k hk => (hd.new k hk).elim (h.lb k) (fun e => Nat.le_trans h.bel.size e), h.lr,
    fun k hk hg => (hd.new k hk).elim (fun e => h.ap k e hg) (fun e => by have := h.rd.lt k hg; omega)⟩
theorem Pair.stepR (h : Pair w0 w b rb n m lb lr Xb Xr) (h1 : RB w' rb Xr' n m lr') (hd : Did Xr Xr' w w') : Pair w0 w' b rb n m lb lr' Xb Xr' :=
  ⟨h.bd.did hd (fun k hk e => h.ap k hk e), h1, h.bel.trans (hd.below h.bel.size h.lr), h.lb, fun k hk => (hd.new k hk).elim (h.lr k) (fun e => Nat.le_trans h.bel.size e),
    fun k hk hg => (hd.new k hg).elim (fun e => h.ap k hk e) (fun e => by have := h.bd.lt k hk; omega)⟩
end
section
variable {w0 w : World} {b rb n m : Nat} {l : List (It Int)} {Xb Xr : Nat → Prop}
set_option maxRecDepth 100000 in
set_option maxHeartbeats 4000000 in
theorem step_any (h : Pair w0 w b rb n m l l Xb Xr) (a : Ac) (ha : a.Ok) (hk : a.key.length ≤ KL) :
    Calls Try.prog 9 #[.pointer (some ⟨b, 0, none⟩), .pointer (some ⟨rb, 0, none⟩), .agg #[.int .u8 a.wh, .string (bs a.key), .int .i64 a.sz, .int .i64 a.x]] w
      fun e w' => e = .returned (.bool true) ∧ ∃ Xb' Xr', Pair w0 w' b rb n m (actK n m a l) (actK n m a l) Xb' Xr' ∧ Did (fun k => Xb k ∨ Xr k) (fun k => Xb' k ∨ Xr' k) w w' := by
  obtain ⟨wh, key, sz, x⟩ := a
  obtain ⟨w1, w2, s1, s2, x1, x2⟩ := ha
  simp only at w1 w2 s1 s2 x1 x2 hk ⊢
  have hal : Below w.heap.size w (w.alloc (.cells #[.int .u8 wh, .string (bs key), .int .i64 sz, .int .i64 x] 32)) := (Below.refl _ _).alloc (Nat.le_refl _) _
  have hA := bk.new w #[.int .u8 wh, .string (bs key), .int .i64 sz, .int .i64 x] 32
  have HP := Lib.hid (h.call hal)
  have HAL := Lib.hid hal
  have HX : Hid (¬ Xb w.heap.size ∧ ¬ Xr w.heap.size) := ⟨fun e => by have := h.bd.lt _ e; omega, fun e => by have := h.rd.lt _ e; omega⟩
  have HOK := Lib.hid h.bd.ok; have HBO := Lib.hid h.bd.bounds
  have HLL : Hid (l.length ≤ 100000) := by have h1 := h.bd.ok.len; have h2 := h.bd.bounds; show _ ≤ _; omega
  have HA := Lib.hid hA
  have a0 := HA.out.cell 0 (.int .u8 wh) rfl
  have hcase : wh % 4 = 0 ∨ wh % 4 = 1 ∨ wh % 4 = 2 ∨ wh % 4 = 3 := by omega
  have ht : Int.tmod wh 4 = wh % 4 := Int.tmod_eq_emod_of_nonneg w1
  have hu : IntKind.u8.wrap (wh % 4) = wh % 4 := by rw [IntKind.wrap_u8]; omega
  have HACT2 : Hid (actK n m ⟨wh, key, sz, x⟩ l = if wh % 4 = 0 then (putK n m key sz.toNat x l).2 else if wh % 4 = 1 then getK key l else if wh % 4 = 2 then l else dropK key l) := rfl
  have hab : Hid (w.heap.size < (w.alloc (.cells #[.int .u8 wh, .string (bs key), .int .i64 sz, .int .i64 x] 32)).heap.size) := by show _ < _; simp
  have HK := Lib.hid hk
  clear h hal hA w1 w2 hk
  generalize wh % 4 = r at *
  generalize actK n m ⟨wh, key, sz, x⟩ l = L' at *
  rcases hcase with rfl | rfl | rfl | rfl
  · have HL' : Hid (L' = (putK n m key sz.toNat x l).2) := HACT2.out
    have a1 := HA.out.cell 1 (.string (bs key)) rfl
    have a2 := HA.out.cell 2 (.int .i64 sz) rfl
    have a3 := HA.out.cell 3 (.int .i64 x) rfl
    have HPU := Lib.hid (BI.put_any HP.out.bd key HK.out sz s1 s2 x)
    have HRP : Hid (∀ W Z, RB W rb Z n m l → Calls Try.prog 29 #[.pointer (some ⟨rb, 0, none⟩), .string (bs key), .int .i64 sz, .int .i64 x] W fun e w' => ∃ v, e = .returned v ∧ ownS w' W.heap.size v (putK n m key sz.toNat x l).1 ∧ ∃ X', RB w' rb X' n m (putK n m key sz.toNat x l).2 ∧ Did Z X' W w') :=
      fun W Z hZ => rput_any hZ HOK.out HBO.out.1 HBO.out.2.1 HBO.out.2.2.2 key sz s1 s2 x
    have HGL : Hid ((putK n m key sz.toNat x l).1.length ≤ 4294967296) := by
      have h1 := HLL.out
      have h2 := (dropK_sub key l).length_le
      show _ ≤ _
      unfold putK
      split
      · split <;> simp
      · obtain ⟨xs, e1, e2⟩ := roomK_suffix n m sz.toNat (dropK key l)
        have h3 := congrArg List.length e1
        rw [List.length_append] at h3
        show (roomK n m sz.toNat (dropK key l)).1.length ≤ _
        rw [e2]
        simp [keysK]
        omega
    clear HACT2 HOK s1 s2 x1 x2
    generalize (putK n m key sz.toNat x l).1 = G at *
    generalize (putK n m key sz.toNat x l).2 = L2 at *
    have hL := HL'.out
    subst hL
    go_enter Try.func9, Try.ntmps9
    go_wp2_with fail
    refine HPU.out.mono ?_
    rintro e z1 ⟨v, rfl, hv, X', hB1, hd1⟩
    have HP1 := Lib.hid (HP.out.stepB hB1 hd1)
    have HA1 := Lib.hid (HA.out.keep (hd1.keep _ hab.out HX.out.1))
    have HD1 : Hid (Did (fun k => Xb k ∨ Xr k) (fun k => X' k ∨ Xr k) w z1) := ⟨hd1.os.trans HAL.out.os, hd1.tape.trans HAL.out.tape, hd1.output.trans HAL.out.output, Nat.le_trans HAL.out.size hd1.size, fun k hk hx => (hd1.keep k (Nat.lt_of_lt_of_le hk HAL.out.size) (fun e => hx (.inl e))).trans (HAL.out.block k hk), fun k hk => hk.elim (fun e => (hd1.new k e).elim (fun q => .inl (.inl q)) (fun q => .inr (Nat.le_trans HAL.out.size q))) (fun e => .inl (.inr e))⟩
    have HVN : Hid (∀ g, v.ownBlock = some g → ¬ Xr g) := fun g hg e => by have h1 := (World.ownsRow.lt hv g hg).1; have h2 := HP.out.rd.lt g e; omega
    have HV := Lib.hid hv
    have HRP1 := Lib.hid (HRP.out z1 Xr HP1.out.rd)
    have b1 := HA1.out.cell 1 (.string (bs key)) rfl
    have b2 := HA1.out.cell 2 (.int .i64 sz) rfl
    have b3 := HA1.out.cell 3 (.int .i64 x) rfl
    obtain ⟨Av, kv, hvf⟩ := hv.form
    obtain ⟨ng, hng⟩ : ∃ ng, G.length = ng := ⟨_, rfl⟩
    rw [hng] at hvf
    subst hvf
    clear hv hB1 hd1 a0 a1 a2 a3 HPU HA HP HRP hab HX
    generalize w.heap.size = ab at *
    go_wp2_with fail
    refine HRP1.out.mono ?_
    rintro e z2 ⟨u, rfl, hu2, Xr', hR2, hd2⟩
    have HP2 := Lib.hid (HP1.out.stepR hR2 hd2)
    have HD2 : Hid (Did (fun k => Xb k ∨ Xr k) (fun k => X' k ∨ Xr' k) w z2) := ⟨hd2.os.trans HD1.out.os, hd2.tape.trans HD1.out.tape, hd2.output.trans HD1.out.output, Nat.le_trans HD1.out.size hd2.size, fun k hk hx => (hd2.keep k (Nat.lt_of_lt_of_le hk HD1.out.size) (fun e => hx (.inr e))).trans (HD1.out.keep k hk hx), fun k hk => hk.elim (fun e => HD1.out.new k (.inl e)) (fun e => (hd2.new k e).elim (fun q => HD1.out.new k (.inr q)) (fun q => .inr (Nat.le_trans HD1.out.size q)))⟩
    have HSM := Lib.hid (rsame_any _ _ _ u G G z2 (BI.ownS.keepG HV.out (fun g hg => hd2.keep g (World.ownsRow.lt HV.out g hg).2 (HVN.out g hg))) hu2 HGL.out)
    obtain ⟨Au, ku, huf⟩ := hu2.form
    rw [hng] at huf
    subst huf
    clear hR2 hd2 hu2 b1 b2 b3 HP1 HA1 HD1 HVN HV HRP1
    go_wp2_with fail
    refine HSM.out.mono ?_
    rintro e z3 ⟨rfl, hb3⟩
    have HP3 := Lib.hid (HP2.out.call hb3); have HD3 := Lib.hid (HD2.out.trans (Did.of_below hb3))
    have hGG : (G == G) = true := by simp
    clear hb3 HP2 HD2 HSM
    rw [hGG]
    go_wp2_with fail
    go_ret
    exact ⟨rfl, _, _, HP3.out, HD3.out⟩
  · have HL' : Hid (L' = getK key l) := HACT2.out
    have a1 := HA.out.cell 1 (.string (bs key)) rfl
    have HPU := Lib.hid (BI.get_any HP.out.bd key HK.out)
    have HRP := Lib.hid (fun W Z (hZ : RB W rb Z n m l) => rget_any hZ HLL.out HOK.out.nd key)
    clear HACT2 s1 s2 x1 x2
    generalize valK 0 (findK key l) = gv at *
    generalize (findK key l).isSome = po at *
    have hL := HL'.out
    rw [← hL] at HPU HRP
    clear hL
    go_enter Try.func9, Try.ntmps9
    go_wp2_with fail
    refine HPU.out.mono ?_
    rintro e z1 ⟨rfl, X', hB1, hd1⟩
    have HP1 := Lib.hid (HP.out.stepB hB1 hd1)
    have HA1 := Lib.hid (HA.out.keep (hd1.keep _ hab.out HX.out.1))
    have HD1 : Hid (Did (fun k => Xb k ∨ Xr k) (fun k => X' k ∨ Xr k) w z1) := ⟨hd1.os.trans HAL.out.os, hd1.tape.trans HAL.out.tape, hd1.output.trans HAL.out.output, Nat.le_trans HAL.out.size hd1.size, fun k hk hx => (hd1.keep k (Nat.lt_of_lt_of_le hk HAL.out.size) (fun e => hx (.inl e))).trans (HAL.out.block k hk), fun k hk => hk.elim (fun e => (hd1.new k e).elim (fun q => .inl (.inl q)) (fun q => .inr (Nat.le_trans HAL.out.size q))) (fun e => .inl (.inr e))⟩
    have HRP1 := Lib.hid (HRP.out z1 Xr HP1.out.rd)
    have b1 := HA1.out.cell 1 (.string (bs key)) rfl
    clear hB1 hd1 a0 a1 HPU HA HP HRP hab HX
    generalize w.heap.size = ab at *
    go_wp2_with fail
    refine HRP1.out.mono ?_
    rintro e z2 ⟨rfl, Xr', hR2, hd2⟩
    have HP2 := Lib.hid (HP1.out.stepR hR2 hd2)
    have HD2 : Hid (Did (fun k => Xb k ∨ Xr k) (fun k => X' k ∨ Xr' k) w z2) := ⟨hd2.os.trans HD1.out.os, hd2.tape.trans HD1.out.tape, hd2.output.trans HD1.out.output, Nat.le_trans HD1.out.size hd2.size, fun k hk hx => (hd2.keep k (Nat.lt_of_lt_of_le hk HD1.out.size) (fun e => hx (.inr e))).trans (HD1.out.keep k hk hx), fun k hk => hk.elim (fun e => HD1.out.new k (.inl e)) (fun e => (hd2.new k e).elim (fun q => HD1.out.new k (.inr q)) (fun q => .inr (Nat.le_trans HD1.out.size q)))⟩
    clear hR2 hd2 b1 HP1 HA1 HD1 HRP1
    go_wp2_with fail
    go_ret
    exact ⟨rfl, _, _, HP2.out, HD2.out⟩
  · have HL' : Hid (L' = l) := HACT2.out
    have a1 := HA.out.cell 1 (.string (bs key)) rfl
    have HPU := Lib.hid (BI.peek_any HP.out.bd key HK.out)
    have HRP := Lib.hid (rpeek_any HP.out.rd (by have := HLL.out; omega) key)
    clear HACT2 s1 s2 x1 x2
    generalize valK 0 (findK key l) = gv at *
    generalize (findK key l).isSome = po at *
    go_enter Try.func9, Try.ntmps9
    go_wp2_with fail
    refine HPU.out.mono ?_
    rintro e wx ⟨rfl, rfl⟩
    go_wp2_with fail
    refine HRP.out.mono ?_
    rintro e wx ⟨rfl, rfl⟩
    go_wp2_with fail
    go_ret
    exact ⟨rfl, Xb, Xr, by rw [HL'.out]; exact HP.out, Did.of_below HAL.out⟩
  · have HL' : Hid (L' = dropK key l) := HACT2.out
    have a1 := HA.out.cell 1 (.string (bs key)) rfl
    have HPU := Lib.hid (BI.drop_any HP.out.bd key HK.out)
    have HRP := Lib.hid (fun W Z (hZ : RB W rb Z n m l) => rdrop_any hZ HLL.out HOK.out.nd key)
    clear HACT2 s1 s2 x1 x2
    generalize hasK key l = had at *
    have hL := HL'.out
    rw [← hL] at HPU HRP
    clear hL
    go_enter Try.func9, Try.ntmps9
    go_wp2_with fail
    refine HPU.out.mono ?_
    rintro e z1 ⟨rfl, X', hB1, hd1⟩
    have HP1 := Lib.hid (HP.out.stepB hB1 hd1)
    have HA1 := Lib.hid (HA.out.keep (hd1.keep _ hab.out HX.out.1))
    have HD1 : Hid (Did (fun k => Xb k ∨ Xr k) (fun k => X' k ∨ Xr k) w z1) := ⟨hd1.os.trans HAL.out.os, hd1.tape.trans HAL.out.tape, hd1.output.trans HAL.out.output, Nat.le_trans HAL.out.size hd1.size, fun k hk hx => (hd1.keep k (Nat.lt_of_lt_of_le hk HAL.out.size) (fun e => hx (.inl e))).trans (HAL.out.block k hk), fun k hk => hk.elim (fun e => (hd1.new k e).elim (fun q => .inl (.inl q)) (fun q => .inr (Nat.le_trans HAL.out.size q))) (fun e => .inl (.inr e))⟩
    have HRP1 := Lib.hid (HRP.out z1 Xr HP1.out.rd)
    have b1 := HA1.out.cell 1 (.string (bs key)) rfl
    clear hB1 hd1 a0 a1 HPU HA HP HRP hab HX
    generalize w.heap.size = ab at *
    go_wp2_with fail
    refine HRP1.out.mono ?_
    rintro e z2 ⟨rfl, Xr', hR2, hd2⟩
    have HP2 := Lib.hid (HP1.out.stepR hR2 hd2)
    have HD2 : Hid (Did (fun k => Xb k ∨ Xr k) (fun k => X' k ∨ Xr' k) w z2) := ⟨hd2.os.trans HD1.out.os, hd2.tape.trans HD1.out.tape, hd2.output.trans HD1.out.output, Nat.le_trans HD1.out.size hd2.size, fun k hk hx => (hd2.keep k (Nat.lt_of_lt_of_le hk HD1.out.size) (fun e => hx (.inr e))).trans (HD1.out.keep k hk hx), fun k hk => hk.elim (fun e => HD1.out.new k (.inl e)) (fun e => (hd2.new k e).elim (fun q => HD1.out.new k (.inr q)) (fun q => .inr (Nat.le_trans HD1.out.size q)))⟩
    clear hR2 hd2 b1 HP1 HA1 HD1 HRP1
    go_wp2_with fail
    go_ret
    exact ⟨rfl, _, _, HP2.out, HD2.out⟩
end
end Go.Proofs.Ytfjdfdobeiblhaa
