/- May fields be gone through; where else something was changed: the key layer's changed. -/
import Derived.Test.YtnpiaifkeddjeaaGreatDoorKeyA
import Derived.Test.YtnpiaifkeddjeaaGreatDoorKResA
import Derived.Test.YtnpiaifkeddjeaaGreatDoorKUrs
import Derived.Test.YtnpiaifkeddjeaaGreatDoorKFieldsG
import Derived.Test.YtnpiaifkeddjeaaGreatDoorKApp
import Derived.Test.YtnpiaifkeddjeaaGreatDoorKOpen
namespace Go.Proofs.YtnpiaifkeddjeaaGreatDoor
open Go.RowKit Go.Shelf

/-- fields as long as may be -/
def KfB (l : List Fld) : Prop := l.length ≤ 1000 ∧ ∀ f ∈ l, f.1.length ≤ 65536 ∧ f.2.length ≤ 65536
theorem KfB.small {l : List Fld} (h : KfB l) : smallF l := fun j hj => by
  have := h.2 l[j] (List.getElem_mem hj); omega
theorem KfB.vals {l : List Fld} (h : KfB l) (n : List UInt8) : (valsL l n).length ≤ 1000 ∧ ∀ v ∈ valsL l n, v.length ≤ 65536 := by
  refine ⟨Nat.le_trans (vals_len l n) h.1, fun v hv => ?_⟩
  unfold valsL at hv
  obtain ⟨f, hf, rfl⟩ := List.mem_map.1 hv
  exact (h.2 f (List.mem_filter.1 hf).1).2
def fewK (l : List Fld) : Bool := (l.take 50).all (fun f => decide (f.1.length + f.2.length ≤ 3000)) && decide (l.length ≤ 40)
theorem fewK_small {l : List Fld} (h : fewK l = true) : l.length ≤ 40 ∧ ∀ f ∈ l, f.1.length ≤ 3000 ∧ f.2.length ≤ 3000 := by
  unfold fewK at h
  simp only [Bool.and_eq_true, decide_eq_true_eq, List.all_eq_true] at h
  refine ⟨h.2, fun x hx => ?_⟩
  rw [List.take_of_length_le (by omega)] at h
  have := h.1 x hx
  omega
set_option maxRecDepth 300000 in
set_option maxHeartbeats 2000000 in
theorem fewK_any (v : Value) (l : List Fld) (w : World) (hv : FL w v l) (hs : ∀ j (hj : j < l.length), l[j].1.length ≤ 140737488351232 ∧ l[j].2.length ≤ 140737488351232) (hl : l.length ≤ 9223372036854775807) :
    Calls Tryz.prog 14 #[v] w fun e w' => e = .returned (.bool (fewK l)) ∧ Below w.heap.size w w' := by
  obtain ⟨A, cf, rfl⟩ := hv.form
  have HV := Lib.hid hv
  clear hv
  go_enter Tryz.func14, Tryz.ntmps14
  go_wp2_with fail
  go_loopw [3] (fun i wr => ∃ k : Nat, k ≤ l.length ∧ k ≤ 50 ∧ i = .int .i64 k ∧ Hid (Below w.heap.size w wr) ∧ (l.take k).all (fun f => decide (f.1.length + f.2.length ≤ 3000)) = true) (fun i _ => l.length - (intOf i).toNat)
  case atStart => exact ⟨0, Nat.zero_le _, Nat.zero_le _, rfl, Below.refl _ _, rfl⟩
  case round =>
    obtain ⟨k, hk, hk3, rfl, HB, ha⟩ := hrel
    have HA := Lib.hid ha; clear ha
    by_cases hlt : k < l.length
    · by_cases h30 : k < 50
      · have hki : (k : Int) < (l.length : Int) := by omega
        obtain ⟨b, off, rfl, hbl, c0, c1⟩ := (HV.out.bel HB.out).get k hlt
        obtain ⟨z0, z1⟩ := hs k hlt
        have hst : l.take (k + 1) = l.take k ++ [l[k]] := List.take_succ_eq_append_getElem hlt
        have hin : l[k] ∈ l.take 50 := by
          rw [List.mem_take_iff_getElem]
          exact ⟨k, by omega, rfl⟩
        have hno : ¬ (l[k].1.length + l[k].2.length ≤ 3000) → fewK l = false := by
          intro h
          unfold fewK
          rw [Bool.and_eq_false_iff]
          left
          rw [List.all_eq_false]
          exact ⟨l[k], hin, by simpa using h⟩
        have hyes : l[k].1.length + l[k].2.length ≤ 3000 → (l.take (k + 1)).all (fun f => decide (f.1.length + f.2.length ≤ 3000)) = true := by
          intro h1
          rw [hst, List.all_append, HA.out]
          simp [h1]
        generalize l[k] = f at *
        obtain ⟨n, x⟩ := f
        simp only at hno hyes c0 c1 z0 z1
        clear hst hin
        have hw : IntKind.i64.wrap ((n.length : Int) + (x.length : Int)) = (n.length : Int) + (x.length : Int) := IntWalk.i64_in _ (by omega)
        by_cases hb1 : 3000 < n.length + x.length
        · have HNO := Lib.hid (hno (by omega))
          have hd : (3000 : Int) < (n.length : Int) + (x.length : Int) := by omega
          clear hno hyes hb1
          go_wp2_with fail
          go_quiet (fail)
          go_wp2_with fail
          go_ret
          exact ⟨ret_bool HNO.out.symm, below_dnX HB.out _⟩
        · have hd : ¬ (3000 : Int) < (n.length : Int) + (x.length : Int) := by omega
          have HS2 := Lib.hid (hyes (by omega))
          clear hno hyes hb1
          go_wp2_with fail
          go_quiet (fail)
          go_wp2_with fail
          go_roundw
          case rel => exact ⟨k + 1, by omega, by omega, by go_num, below_dnX HB.out _, HS2.out⟩
          case measure => simp [intOf]; omega
      · have hE : fewK l = false := by
          unfold fewK
          rw [Bool.and_eq_false_iff]
          right
          exact decide_eq_false (by omega)
        have HE := Lib.hid hE; clear hE
        have hd : ¬ (k : Int) < 50 := by omega
        have hbig : ¬ (l.length : Int) ≤ 40 := by omega
        go_wp2_with fail
        go_ret
        exact ⟨ret_bool HE.out.symm, HB.out⟩
    · have hE : fewK l = decide ((l.length : Int) ≤ 40) := by
        unfold fewK
        have h := HA.out
        rw [List.take_of_length_le (by omega)] at h
        rw [List.take_of_length_le (by omega), h, Bool.true_and]
        congr 1
        simp; omega
      have HE := Lib.hid hE; clear hE
      by_cases h12 : (l.length : Int) ≤ 40
      · go_wp2_with fail
        go_ret
        exact ⟨ret_bool (by rw [HE.out]; simp [h12]), HB.out⟩
      · go_wp2_with fail
        go_ret
        exact ⟨ret_bool (by rw [HE.out]; simp [h12]), HB.out⟩

/-! ### of: fields of names and values -/
theorem fewK_kf {l : List Fld} (h : fewK l = true) : KfB l := by
  obtain ⟨a, b⟩ := fewK_small h
  exact ⟨by omega, fun f hf => by have := b f hf; omega⟩
/-- the names by which something else is told -/
def namesK : List (List UInt8) := [locN, cloN]
def refsN (l : List Fld) (k : Nat) : List (List UInt8) := (namesK.take k).flatMap (valsL l)
theorem refsN_step (l : List Fld) {k : Nat} (h : k < namesK.length) : refsN l (k + 1) = refsN l k ++ valsL l namesK[k] := by
  unfold refsN
  rw [List.take_succ_eq_append_getElem h, List.flatMap_append]
  simp
theorem refsN_all (l : List Fld) : refsN l 2 = refsK l := by simp [refsN, namesK, refsK]
theorem changedK_step (u : Ur) (R N : List (List UInt8)) {j : Nat} (h : j < N.length) :
    changedK u R ++ (N.take (j + 1)).filterMap (leadK u) = if (refU u N[j]).2 = 0 then (changedK u R ++ (N.take j).filterMap (leadK u)) ++ [(refU u N[j]).1] else changedK u R ++ (N.take j).filterMap (leadK u) := by
  rw [List.take_succ_eq_append_getElem h, List.filterMap_append]
  by_cases hr : (refU u N[j]).2 = 0
  · rw [if_pos hr, List.filterMap_cons_some (show leadK u N[j] = some (refU u N[j]).1 from if_pos hr), List.filterMap_nil, List.append_assoc]
  · rw [if_neg hr, List.filterMap_cons_none (show leadK u N[j] = none from if_neg hr), List.filterMap_nil, List.append_nil]
theorem changedK_app (u : Ur) (R N : List (List UInt8)) : changedK u R ++ N.filterMap (leadK u) = changedK u (R ++ N) := by
  unfold changedK
  rw [List.filterMap_append, List.cons_append]
theorem changedK_len (u : Ur) (R : List (List UInt8)) : (changedK u R).length ≤ R.length + 1 := by
  unfold changedK
  rw [List.length_cons]
  have := List.length_filterMap_le (leadK u) R
  omega
/-- what stands while the list of URIs is made: the base, both names, the values that are gone through -/
structure CK (w0 : World) (U : Array Value) (nb : Nat) (vN : Value) (N : List (List UInt8)) (w : World) (o : Value) (us : List Ur) : Prop where
  own : ownU w w0.heap.size o us
  bel : Below w0.heap.size w0 w
  hu : ubk w w0.heap.size U
  ou : o.ownBlock ≠ some w0.heap.size
  hn : ubk w nb #[.string ⟨#[108, 111, 99, 97, 116, 105, 111, 110]⟩, .string ⟨#[99, 111, 110, 116, 101, 110, 116, 45, 108, 111, 99, 97, 116, 105, 111, 110]⟩]
  on : o.ownBlock ≠ some nb
  sN : SL w vN N
  oN : ∀ g, vN.ownBlock = some g → o.ownBlock ≠ some g ∧ g < w.heap.size
theorem CK.call {w0 w w' : World} {U : Array Value} {nb : Nat} {vN o : Value} {N : List (List UInt8)} {us : List Ur} (h : CK w0 U nb vN N w o us) (hb : Below w.heap.size w w') : CK w0 U nb vN N w' o us :=
  ⟨h.own.bel hb, h.bel.trans (hb.mono h.bel.size), h.hu.below hb, h.ou, h.hn.below hb, h.on, h.sN.bel hb, fun g hg => ⟨(h.oN g hg).1, Nat.lt_of_lt_of_le (h.oN g hg).2 hb.size⟩⟩
theorem CK.next {w0 w w' : World} {U : Array Value} {nb : Nat} {vN vM o : Value} {N M : List (List UInt8)} {us : List Ur} (h : CK w0 U nb vN N w o us) (hb : Below w.heap.size w w') (hM : ownS w' w.heap.size vM M) : CK w0 U nb vM M w' o us := by
  have h' := h.call hb
  refine ⟨h'.own, h'.bel, h'.hu, h'.ou, h'.hn, h'.on, hM.sl, fun g hg => ⟨fun e => ?_, (World.ownsRow.lt hM g hg).2⟩⟩
  have h1 := (World.ownsRow.lt h.own g e).2
  have h2 := (World.ownsRow.lt hM g hg).1
  omega
theorem CK.drop {w0 w : World} {U : Array Value} {nb : Nat} {vN o : Value} {N : List (List UInt8)} {us : List Ur} (h : CK w0 U nb vN N w o us) : CK w0 U nb (.slice none 0 0) [] w o us :=
  ⟨h.own, h.bel, h.hu, h.ou, h.hn, h.on, SL_nil _, fun g hg => by simp [Value.ownBlock] at hg⟩
theorem CK.put {w0 w w' : World} {U : Array Value} {nb : Nat} {vN o o' : Value} {N : List (List UInt8)} {us us' : List Ur} (h : CK w0 U nb vN N w o us) (ho : ownU w' w0.heap.size o' us') (hb : Below w0.heap.size w0 w')
    (hk : ∀ k, o.ownBlock ≠ some k → k < w.heap.size → o'.ownBlock ≠ some k ∧ w'.heap[k]? = w.heap[k]?) (hz : w.heap.size ≤ w'.heap.size) : CK w0 U nb vN N w' o' us' := by
  have k1 := hk _ h.ou h.hu.lt
  have k2 := hk _ h.on h.hn.lt
  exact ⟨ho, hb, h.hu.keep k1.2, k1.1, h.hn.keep k2.2, k2.1, h.sN.keepG (fun g hg => (hk g (h.oN g hg).1 (h.oN g hg).2).2) hz, fun g hg => ⟨(hk g (h.oN g hg).1 (h.oN g hg).2).1, Nat.lt_of_lt_of_le (h.oN g hg).2 hz⟩⟩
set_option maxHeartbeats 8000000 in
set_option maxRecDepth 100000 in
theorem changed_any (u : Ur) (v : Value) (l : List Fld) (w : World) (he : EnvU w) (hu : u.okW) (hv : FL w v l) (hs : KfB l) :
    Calls Tryz.prog 29 #[.agg #[.string (bs u.sc), .string (bs u.ho), .int .i64 u.po, .string (bs u.pa), .string (bs u.qu), .bool u.hq], v] w fun e w' => ∃ v', e = .returned v' ∧ ownU w' w.heap.size v' (changedK u (refsK l)) ∧ Below w.heap.size w w' := by
  obtain ⟨A, c, rfl⟩ := hv.form
  have HVA := Lib.hid (fun n W (h : FL W (.slice A l.length c) l) (hn : n.length ≤ 100) => values_any (.slice A l.length c) l n W h hs.small (by have := hs.1; omega) (by omega))
  have HVL := Lib.hid (fun n => (hs.vals n).1)
  have HRF := Lib.hid (fun r W (h : EnvU W) => ref_any u r W h hu)
  have HST := Lib.hid (fun (k : Nat) (h : k < namesK.length) => refsN_step l h)
  have HAL := Lib.hid (refsN_all l)
  have HCS := Lib.hid (fun R N (j : Nat) (h : j < N.length) => changedK_step u R N h)
  have HCA := Lib.hid (changedK_app u)
  have HCL := Lib.hid (changedK_len u)
  have HC0 : Hid (changedK u (refsN l 0) = [u]) := rfl
  have HRL : Hid (∀ k, k ≤ 2 → (refsN l k).length ≤ 2000) := fun k hk => by
    have h1 := (hs.vals locN).1
    have h2 := (hs.vals cloN).1
    rcases (show k = 0 ∨ k = 1 ∨ k = 2 by omega) with rfl | rfl | rfl
    · simp [refsN]
    · simp [refsN, namesK]; omega
    · rw [refsN_all]; unfold refsK; rw [List.length_append]; omega
  rw [← HAL.out]
  have HE := Lib.hid he
  clear he hu hs HAL
  obtain ⟨sc, ho, po, pa, qu, hq⟩ := u
  simp only at HRF HC0 ⊢
  have hL0 := ownU_lit (w := (w.alloc (.cells #[.string (bs sc), .string (bs ho), .int .i64 po, .string (bs pa), .string (bs qu), .bool hq] 23))) (base := w.heap.size) ⟨sc, ho, po, pa, qu, hq⟩ (by simp)
  have hb2 : Below w.heap.size w (((w.alloc (.cells #[.string (bs sc), .string (bs ho), .int .i64 po, .string (bs pa), .string (bs qu), .bool hq] 23)).alloc (.cells #[.string (bs sc), .string (bs ho), .int .i64 po, .string (bs pa), .string (bs qu), .bool hq] 23)).alloc (.cells #[.string ⟨#[108, 111, 99, 97, 116, 105, 111, 110]⟩, .string ⟨#[99, 111, 110, 116, 101, 110, 116, 45, 108, 111, 99, 97, 116, 105, 111, 110]⟩] 9)) := (((Below.refl _ _).alloc (Nat.le_refl _) _).alloc (by simp) _).alloc (by rw [World.size_alloc, World.size_alloc]; omega) _
  have hu0 := (ubk.new w #[.string (bs sc), .string (bs ho), .int .i64 po, .string (bs pa), .string (bs qu), .bool hq] 23).alloc (.cells #[.string (bs sc), .string (bs ho), .int .i64 po, .string (bs pa), .string (bs qu), .bool hq] 23)
  have hn0 := ubk.new ((w.alloc (.cells #[.string (bs sc), .string (bs ho), .int .i64 po, .string (bs pa), .string (bs qu), .bool hq] 23)).alloc (.cells #[.string (bs sc), .string (bs ho), .int .i64 po, .string (bs pa), .string (bs qu), .bool hq] 23)) #[.string ⟨#[108, 111, 99, 97, 116, 105, 111, 110]⟩, .string ⟨#[99, 111, 110, 116, 101, 110, 116, 45, 108, 111, 99, 97, 116, 105, 111, 110]⟩] 9
  rw [World.size_alloc, World.size_alloc] at hn0
  rw [World.size_alloc] at hL0
  have hCK : CK w #[.string (bs sc), .string (bs ho), .int .i64 po, .string (bs pa), .string (bs qu), .bool hq] (w.heap.size + 1 + 1) (.slice none 0 0) [] (((w.alloc (.cells #[.string (bs sc), .string (bs ho), .int .i64 po, .string (bs pa), .string (bs qu), .bool hq] 23)).alloc (.cells #[.string (bs sc), .string (bs ho), .int .i64 po, .string (bs pa), .string (bs qu), .bool hq] 23)).alloc (.cells #[.string ⟨#[108, 111, 99, 97, 116, 105, 111, 110]⟩, .string ⟨#[99, 111, 110, 116, 101, 110, 116, 45, 108, 111, 99, 97, 116, 105, 111, 110]⟩] 9)) (.slice (some ⟨w.heap.size + 1, 0, none⟩) 1 1) [⟨sc, ho, po, pa, qu, hq⟩] :=
    ⟨hL0.alloc _, hb2, hu0.alloc _, by simp [Value.ownBlock], hn0, by simp [Value.ownBlock], SL_nil _, fun g hg => by simp [Value.ownBlock] at hg⟩
  have uc := ubk.new w #[.string (bs sc), .string (bs ho), .int .i64 po, .string (bs pa), .string (bs qu), .bool hq] 23
  have uc0 := uc.cell 0 (.string (bs sc)) rfl
  have uc1 := uc.cell 1 (.string (bs ho)) rfl
  have uc2 := uc.cell 2 (.int .i64 po) rfl
  have uc3 := uc.cell 3 (.string (bs pa)) rfl
  have uc4 := uc.cell 4 (.string (bs qu)) rfl
  have uc5 := uc.cell 5 (.bool hq) rfl
  have HCK := Lib.hid hCK; have HFL := Lib.hid hv
  clear hb2 hu0 hn0 hL0 hCK uc hv
  go_enter Tryz.func29, Tryz.ntmps29
  go_wp2_with fail
  clear uc0 uc1 uc2 uc3 uc4 uc5
  go_loopw [5, 16] (fun o i wr => ∃ k : Nat, k ≤ 2 ∧ i = .int .i64 k ∧ CK w #[.string (bs sc), .string (bs ho), .int .i64 po, .string (bs pa), .string (bs qu), .bool hq] (w.heap.size + 1 + 1) (.slice none 0 0) [] wr o (changedK ⟨sc, ho, po, pa, qu, hq⟩ (refsN l k))) (fun _ i _ => 2 - (intOf i).toNat)
  case atStart => exact ⟨0, by omega, rfl, by rw [HC0.out]; exact HCK.out⟩
  case round =>
    obtain ⟨k, hk, rfl, hck⟩ := hrel
    have HK := Lib.hid hck
    clear hck HCK HC0
    by_cases hlt : k < 2
    · have hk2 : k < namesK.length := hlt
      have hcell : wr.cell? ⟨w.heap.size + 1 + 1, k, none⟩ = some (.string (bs namesK[k])) := HK.out.hn.cell k _ (by rcases (show k = 0 ∨ k = 1 by omega) with rfl | rfl <;> rfl)
      have hnl : (namesK[k]).length ≤ 100 := by
        rcases (show k = 0 ∨ k = 1 by omega) with rfl | rfl
        · show locN.length ≤ 100; decide
        · show cloN.length ≤ 100; decide
      have HVN := Lib.hid (fun W h => HVA.out namesK[k] W h hnl)
      have HSK := Lib.hid (HST.out k hk2)
      have HNL := Lib.hid (HVL.out namesK[k])
      have HRK := Lib.hid (HRL.out k hk)
      clear hnl
      generalize hR : refsN l k = R at *
      generalize hN : valsL l namesK[k] = N at *
      generalize namesK[k] = nm at *
      generalize hR1 : refsN l (k + 1) = R1 at *
      have HR1 := Lib.hid hR1
      clear hR hN hk2 hR1
      have hki : (k : Int) < 2 := by omega
      go_wp2_with (go_at_call 47; refine (HVN.out _ (HFL.out.bel (HK.out.bel))).mono ?_; rintro e w3 ⟨vM, rfl, hoM, hb3⟩; have HK3 := Lib.hid (HK.out.next hb3 hoM); obtain ⟨A3, c3, rfl⟩ := hoM.form; clear hb3 hoM HK)
      clear hcell HVN
      go_loopw [5, 24] (fun o i wr => ∃ j : Nat, j ≤ N.length ∧ i = .int .i64 j ∧ CK w #[.string (bs sc), .string (bs ho), .int .i64 po, .string (bs pa), .string (bs qu), .bool hq] (w.heap.size + 1 + 1) (.slice A3 N.length c3) N wr o (changedK ⟨sc, ho, po, pa, qu, hq⟩ R ++ (N.take j).filterMap (leadK ⟨sc, ho, po, pa, qu, hq⟩))) (fun _ i _ => N.length - (intOf i).toNat)
      case atStart => exact ⟨0, Nat.zero_le _, rfl, by rw [List.take_zero, List.filterMap_nil, List.append_nil]; exact HK3.out⟩
      case round =>
        obtain ⟨j, hj, rfl, hck⟩ := hrel
        have HK := Lib.hid hck
        clear hck HK3
        by_cases hjt : j < N.length
        · obtain ⟨b2, off2, rfl, hbb2, hc2⟩ := HK.out.sN.get j hjt
          have HSJ := Lib.hid (HCS.out R N j hjt)
          have HRJ := Lib.hid (fun W h => HRF.out N[j] W h)
          have hlen : (changedK ⟨sc, ho, po, pa, qu, hq⟩ R ++ (N.take j).filterMap (leadK ⟨sc, ho, po, pa, qu, hq⟩)).length ≤ 4000 := by
            rw [List.length_append]
            have h1 := HCL.out R
            have h2 := List.length_filterMap_le (leadK ⟨sc, ho, po, pa, qu, hq⟩) (N.take j)
            have h3 : (N.take j).length ≤ N.length := List.length_take_le' _ _
            have h4 := HRK.out
            have h5 := HNL.out
            omega
          have HQL : Hid ((changedK ⟨sc, ho, po, pa, qu, hq⟩ R ++ (N.take j).filterMap (leadK ⟨sc, ho, po, pa, qu, hq⟩)).length ≤ 4000) := hlen
          clear hlen
          generalize changedK ⟨sc, ho, po, pa, qu, hq⟩ R ++ (N.take j).filterMap (leadK ⟨sc, ho, po, pa, qu, hq⟩) = cur at *
          generalize refU ⟨sc, ho, po, pa, qu, hq⟩ N[j] = XX at *
          generalize N[j] = rr at *
          obtain ⟨x, qe⟩ := XX
          obtain ⟨xsc, xho, xpo, xpa, xqu, xhq⟩ := x
          unfold RetU at HRJ
          simp only at HRJ HSJ
          have yc0 := HK.out.hu.cell 0 (.string (bs sc)) rfl
          have yc1 := HK.out.hu.cell 1 (.string (bs ho)) rfl
          have yc2 := HK.out.hu.cell 2 (.int .i64 po) rfl
          have yc3 := HK.out.hu.cell 3 (.string (bs pa)) rfl
          have yc4 := HK.out.hu.cell 4 (.string (bs qu)) rfl
          have yc5 := HK.out.hu.cell 5 (.bool hq) rfl
          have HER := Lib.hid (HE.out.bel HK.out.bel)
          have hNo := HNL.out
          by_cases hqe : qe = 0
          · subst hqe
            rw [if_pos rfl] at HSJ
            go_wp2_with (first
              | (go_at_call 48; refine (HRJ.out _ HER.out).mono ?_; rintro e w5 ⟨rfl, hb5⟩; have HK5 := Lib.hid (HK.out.call hb5); have hal5 : Below w5.heap.size w5 (w5.alloc (.cells #[.string (bs xsc), .string (bs xho), .int .i64 xpo, .string (bs xpa), .string (bs xqu), .bool xhq] 23)) := (Below.refl _ _).alloc (Nat.le_refl _) _; have HK6 := Lib.hid (HK5.out.call hal5); have xn := ubk.new w5 #[.string (bs xsc), .string (bs xho), .int .i64 xpo, .string (bs xpa), .string (bs xqu), .bool xhq] 23; have xc0 := xn.cell 0 (.string (bs xsc)) rfl; have xc1 := xn.cell 1 (.string (bs xho)) rfl; have xc2 := xn.cell 2 (.int .i64 xpo) rfl; have xc3 := xn.cell 3 (.string (bs xpa)) rfl; have xc4 := xn.cell 4 (.string (bs xqu)) rfl; have xc5 := xn.cell 5 (.bool xhq) rfl; clear xn hal5 hb5 HK5 HK yc0 yc1 yc2 yc3 yc4 yc5)
              | (at_builtin; refine wpList_appU rfl (.tmp 36) (.tmp 38) rfl w.heap.size w.heap.size _ cur ⟨xsc, xho, xpo, xpa, xqu, xhq⟩ rfl HK6.out.own HK6.out.bel (Nat.le_refl _) HK6.out.bel.size rfl (by have := HQL.out; omega) ?_; intro v' w8 HO8 HB8 HG8 HZ8; have HK8 := Lib.hid (HK6.out.put HO8.out HB8.out HG8.out HZ8.out); clear HO8 HB8 HG8 HZ8 HK6))
            go_roundw
            case rel => exact ⟨j + 1, by omega, by go_num, by rw [HSJ.out]; exact HK8.out⟩
            case measure => simp [intOf]; omega
          · rw [if_neg hqe] at HSJ
            have hqn : (qe == 0) = false := beq_eq_false_iff_ne.2 hqe
            clear hqe
            go_wp2_with (go_at_call 48; refine (HRJ.out _ HER.out).mono ?_; rintro e w5 ⟨rfl, hb5⟩; have HK5 := Lib.hid (HK.out.call hb5); have hal5 : Below w5.heap.size w5 (w5.alloc (.cells #[.string (bs xsc), .string (bs xho), .int .i64 xpo, .string (bs xpa), .string (bs xqu), .bool xhq] 23)) := (Below.refl _ _).alloc (Nat.le_refl _) _; have HK6 := Lib.hid (HK5.out.call hal5); clear hal5 hb5 HK5 HK yc0 yc1 yc2 yc3 yc4 yc5)
            go_roundw
            case rel => exact ⟨j + 1, by omega, by go_num, by rw [HSJ.out]; exact HK6.out⟩
            case measure => simp [intOf]; omega
        · have HE2 : Hid ((N.take j) = N) := List.take_of_length_le (by omega)
          rw [HE2.out, HCA.out, ← HSK.out] at HK
          go_wp2_with fail
          go_roundw
          case rel => exact ⟨k + 1, by omega, by go_num, by rw [HR1.out]; exact HK.out.drop⟩
          case measure => simp [intOf]; omega
    · obtain rfl : k = 2 := by omega
      go_wp2_with fail
      go_ret
      exact ⟨_, rfl, HK.out.own, HK.out.bel⟩
end Go.Proofs.YtnpiaifkeddjeaaGreatDoor
