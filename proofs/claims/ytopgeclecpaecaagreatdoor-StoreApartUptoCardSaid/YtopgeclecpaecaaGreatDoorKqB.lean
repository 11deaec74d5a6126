/- Keys do not touch each other: the statement StoreApart. -/
import Derived.Test.YtopgeclecpaecaaGreatDoorKqA
namespace Go.Proofs.YtopgeclecpaecaaGreatDoor
open Go.RowKit
def sj (sa sb j : Nat) : Nat := if j = 0 then sa else sb
theorem sj_cell {sa sb : Nat} : ∀ j, j < 2 → (#[Value.pointer (some ⟨sa, 0, none⟩), .pointer (some ⟨sb, 0, none⟩)] : Array Value)[j]? = some (.pointer (some ⟨sj sa sb j, 0, none⟩))
  | 0, _ => rfl
  | 1, _ => rfl
  | j + 2, h => by omega
/-- how far both are: none, the first, both have been called -/
def TB (w0 : World) (sa sb : Nat) (A B A' B' : List (It He)) (pa pb pa' pb' p : Nat) (cs : Array Value) (j : Nat) (W : World) : Prop := match j with
  | 0 => TwoB w0 W sa sb 4096 1073741824 A B pa pb p cs
  | 1 => TwoB w0 W sa sb 4096 1073741824 A' B pa' pb p cs
  | _ => TwoB w0 W sa sb 4096 1073741824 A' B' pa' pb' p cs
section
variable {w0 W W' : World} {sa sb n m pa pb pa' pb' p j : Nat} {A B A' B' : List (It He)} {cs : Array Value}
theorem TB.bel (h : TB w0 sa sb A B A' B' pa pb pa' pb' p cs j W) (hb : Below W.heap.size W W') : TB w0 sa sb A B A' B' pa pb pa' pb' p cs j W' :=
  match j, h with
  | 0, h => TwoB.bel h hb
  | 1, h => TwoB.bel h hb
  | _ + 2, h => TwoB.bel h hb
theorem TB.blk (h : TB w0 sa sb A B A' B' pa pb pa' pb' p cs j W) : bk W p cs :=
  match j, h with
  | 0, h => TwoB.blk h
  | 1, h => TwoB.blk h
  | _ + 2, h => TwoB.blk h
theorem TB.below (h : TB w0 sa sb A B A' B' pa pb pa' pb' p cs j W) : Below w0.heap.size w0 W :=
  match j, h with
  | 0, h => (TwoB.two h).low
  | 1, h => (TwoB.two h).low
  | _ + 2, h => (TwoB.two h).low
theorem TB.same (h : TB w0 sa sb A B A B pa pb pa pb p cs j W) : TB w0 sa sb A B A B pa pb pa pb p cs (j + 1) W :=
  match j, h with
  | 0, h => h
  | 1, h => h
  | _ + 2, h => h
theorem Two.factsB (h : Two w0 W sa sb n m A B pa pb) : Of B ∧ (∀ a ∈ B, SmE a.2.2.key a.2.2.e) ∧ ∀ a ∈ B, 1 ≤ a.2.2.n ∧ a.2.2.n ≤ pb := by
  obtain ⟨Xa, Xb, h⟩ := h
  obtain ⟨tb, bb, umb, nF, XB, F, l, hw⟩ := h.b.sto
  exact ⟨hw.of, hw.sm, hw.num⟩
end
theorem ac_ent {w : World} {b o : Nat} {a : Ac} (h : w.rangeAt b o (acC a)) : w.rangeAt b (o + 3) [.int .i64 a.e.st, .string (bs a.e.re), .int .i64 a.e.mi, .slice a.fA a.e.fs.length a.fC, .string (bs a.e.bo), .int .i64 a.e.ak, .int .i64 a.e.gt, .slice a.vA a.e.vy.length a.vC] := fun j v hj => by
  have h1 : (acC a)[3 + j]? = some v := by
    match j, hj with
    | 0, hj => exact hj
    | 1, hj => exact hj
    | 2, hj => exact hj
    | 3, hj => exact hj
    | 4, hj => exact hj
    | 5, hj => exact hj
    | 6, hj => exact hj
    | 7, hj => exact hj
    | j + 8, hj => cases hj
  have h2 := h (3 + j) v h1
  rw [← Nat.add_assoc] at h2
  exact h2
section
variable {w0 : World} {sa sb pa pb p : Nat} {A B : List (It He)} {cs : Array Value} {a : Ac}
theorem tb_put (hf : FL w0 a.fv a.e.fs) (hv : FL w0 a.vv a.e.vy) (hs : SmE a.key a.e) (hp : pa < 1000000) (hq : pb < 1000000) : ∀ W, ∀ j < 2, TB w0 sa sb A B (putS 4096 1073741824 A ⟨a.key, a.e, pa + 1⟩).2 (putS 4096 1073741824 B ⟨a.key, a.e, pb + 1⟩).2 pa pb (pa + 1) (pb + 1) p cs j W →
    Calls Tryz.prog 11 #[.pointer (some ⟨sj sa sb j, 0, none⟩), .string (bs a.key), .agg #[.int .i64 a.e.st, .string (bs a.e.re), .int .i64 a.e.mi, .slice a.fA a.e.fs.length a.fC, .string (bs a.e.bo), .int .i64 a.e.ak, .int .i64 a.e.gt, .slice a.vA a.e.vy.length a.vC]] W fun r w' => r = .returned (.bool true) ∧ TB w0 sa sb A B (putS 4096 1073741824 A ⟨a.key, a.e, pa + 1⟩).2 (putS 4096 1073741824 B ⟨a.key, a.e, pb + 1⟩).2 pa pb (pa + 1) (pb + 1) p cs (j + 1) w' := fun W j hj h => by
  have hd : decide (sizeE a.key a.e ≤ 1073741824) = true := decide_eq_true (by have := sizeE_le hs; omega)
  match j, hj, h with
  | 0, _, h =>
    have h1 := twoB_put (show TwoB w0 W sa sb 4096 1073741824 A B pa pb p cs from h) a.key a.e a.fv a.vv hf hv hs hp
    rw [hd] at h1
    exact h1
  | 1, _, h =>
    have h1 := twoB_put (TwoB.swap (show TwoB w0 W sa sb 4096 1073741824 _ B (pa + 1) pb p cs from h)) a.key a.e a.fv a.vv hf hv hs hq
    rw [hd] at h1
    exact h1.mono fun r w' q => ⟨q.1, q.2.swap⟩
theorem tb_remove (hf : FL w0 a.fv a.e.fs) (hv : FL w0 a.vv a.e.vy) (hs : SmE a.key a.e) (hp : pa < 1000000) (hq : pb < 1000000) : ∀ W, ∀ j < 2, TB w0 sa sb A B (dropK (idT a.key a.e.vy) A) (dropK (idT a.key a.e.vy) B) pa pb pa pb p cs j W →
    Calls Tryz.prog 21 #[.pointer (some ⟨sj sa sb j, 0, none⟩), .string (bs a.key), .agg #[.int .i64 a.e.st, .string (bs a.e.re), .int .i64 a.e.mi, .slice a.fA a.e.fs.length a.fC, .string (bs a.e.bo), .int .i64 a.e.ak, .int .i64 a.e.gt, .slice a.vA a.e.vy.length a.vC]] W fun r w' => (∃ b, r = .returned (.bool b)) ∧ TB w0 sa sb A B (dropK (idT a.key a.e.vy) A) (dropK (idT a.key a.e.vy) B) pa pb pa pb p cs (j + 1) w' := fun W j hj h => by
  match j, hj, h with
  | 0, _, h => exact twoB_remove (show TwoB w0 W sa sb 4096 1073741824 A B pa pb p cs from h) a.key a.e a.fv a.vv hf hv hs hp
  | 1, _, h => exact (twoB_remove (TwoB.swap (show TwoB w0 W sa sb 4096 1073741824 _ B pa pb p cs from h)) a.key a.e a.fv a.vv hf hv hs hq).mono fun r w' q => ⟨q.1, q.2.swap⟩
theorem tb_drop (hk : a.key.length ≤ 300) : ∀ W, ∀ j < 2, TB w0 sa sb A B (dropS A a.key) (dropS B a.key) pa pb pa pb p cs j W →
    Calls Tryz.prog 20 #[.pointer (some ⟨sj sa sb j, 0, none⟩), .string (bs a.key)] W fun r w' => (∃ z, r = .returned (.int .i64 z)) ∧ TB w0 sa sb A B (dropS A a.key) (dropS B a.key) pa pb pa pb p cs (j + 1) w' := fun W j hj h => by
  match j, hj, h with
  | 0, _, h => exact twoB_drop (show TwoB w0 W sa sb 4096 1073741824 A B pa pb p cs from h) a.key hk
  | 1, _, h => exact (twoB_drop (TwoB.swap (show TwoB w0 W sa sb 4096 1073741824 _ B pa pb p cs from h)) a.key hk).mono fun r w' q => ⟨q.1, q.2.swap⟩
end
/-- what both have in common -/
structure ApI (key : List UInt8) (A B : List (It He)) (pa pb k : Nat) : Prop where
  kept : keptK key A = keptK key B
  sA : sortN A
  sB : sortN B
  lA : A.length ≤ k
  lB : B.length ≤ k
  pA : pa ≤ k
  pB : pb ≤ k
def KnF (A : List (It He)) (pu : Nat) : Prop := Of A ∧ (∀ a ∈ A, SmE a.2.2.key a.2.2.e) ∧ ∀ a ∈ A, 1 ≤ a.2.2.n ∧ a.2.2.n ≤ pu
section
variable {key : List UInt8} {A B : List (It He)} {pa pb k : Nat} {kk : List UInt8} {e : En} {vy : List Fld}
theorem ApI.zero (key : List UInt8) : ApI key [] [] 0 0 0 := ⟨rfl, List.Pairwise.nil, List.Pairwise.nil, Nat.le_refl _, Nat.le_refl _, Nat.le_refl _, Nat.le_refl _⟩
theorem ApI.next (h : ApI key A B pa pb k) : ApI key A B pa pb (k + 1) := ⟨h.kept, h.sA, h.sB, by have := h.lA; omega, by have := h.lB; omega, by have := h.pA; omega, by have := h.pB; omega⟩
theorem put_is (hA : KnF A pa) (hl : A.length ≤ k) (hk : k < 60) (hs : SmE kk e) : (putS 4096 1073741824 A ⟨kk, e, pa + 1⟩).2 = dropK (idT kk e.vy) A ++ [itH ⟨kk, e, pa + 1⟩] := (putS_room (h := ⟨kk, e, pa + 1⟩) hA.1 hA.2.1 hs (by omega) (by omega)).1
theorem put_sort (hA : KnF A pa) (hs : sortN A) : sortN (dropK (idT kk e.vy) A ++ [itH ⟨kk, e, pa + 1⟩]) := sortN_put (h := ⟨kk, e, pa + 1⟩) hs (fun a ha => by have := (hA.2.2 a ha).2; show _ < pa + 1; omega)
theorem put_lenA (k0 : List UInt8) (x : It He) (hl : A.length ≤ k) : (dropK k0 A ++ [x]).length ≤ k + 1 := by
  have := (dropK_sub k0 A).length_le
  simp
  omega
theorem ApI.put_own (h : ApI key A B pa pb k) (hA : KnF A pa) (hB : KnF B pb) (hs : SmE kk e) (hk : k < 60) (hke : kk = key) : ApI key (putS 4096 1073741824 A ⟨kk, e, pa + 1⟩).2 (putS 4096 1073741824 B ⟨kk, e, pb + 1⟩).2 (pa + 1) (pb + 1) (k + 1) := by
  rw [put_is hA h.lA hk hs, put_is hB h.lB hk hs]
  subst hke
  exact ⟨kept_put_own hA.1 hB.1 h.kept, put_sort hA h.sA, put_sort hB h.sB, put_lenA _ _ h.lA, put_lenA _ _ h.lB, by have := h.pA; omega, by have := h.pB; omega⟩
theorem ApI.put_other (h : ApI key A B pa pb k) (hA : KnF A pa) (hs : SmE kk e) (hk : k < 60) (hke : ¬ kk = key) : ApI key (putS 4096 1073741824 A ⟨kk, e, pa + 1⟩).2 B (pa + 1) pb (k + 1) := by
  rw [put_is hA h.lA hk hs]
  exact ⟨(kept_put_other hA.1 hke).trans h.kept, put_sort hA h.sA, h.sB, put_lenA _ _ h.lA, by have := h.lB; omega, by have := h.pA; omega, by have := h.pB; omega⟩
theorem ApI.rem_own (h : ApI key A B pa pb k) (hA : KnF A pa) (hB : KnF B pb) (hke : kk = key) : ApI key (dropK (idT kk vy) A) (dropK (idT kk vy) B) pa pb (k + 1) := by
  subst hke
  have h1 := (dropK_sub (idT kk vy) A).length_le
  have h2 := (dropK_sub (idT kk vy) B).length_le
  exact ⟨kept_rem_own hA.1 hB.1 h.kept, h.sA.sub (dropK_sub _ _), h.sB.sub (dropK_sub _ _), by have := h.lA; omega, by have := h.lB; omega, by have := h.pA; omega, by have := h.pB; omega⟩
theorem ApI.rem_other (h : ApI key A B pa pb k) (hA : KnF A pa) (hke : ¬ kk = key) : ApI key (dropK (idT kk vy) A) B pa pb (k + 1) := by
  have h1 := (dropK_sub (idT kk vy) A).length_le
  exact ⟨(kept_other hA.1 hke).trans h.kept, h.sA.sub (dropK_sub _ _), h.sB, by have := h.lA; omega, by have := h.lB; omega, by have := h.pA; omega, by have := h.pB; omega⟩
theorem dropS_le (A : List (It He)) (kk : List UInt8) : (dropS A kk).Sublist A := List.filter_sublist
theorem ApI.drop_own (h : ApI key A B pa pb k) (hke : kk = key) : ApI key (dropS A kk) (dropS B kk) pa pb (k + 1) := by
  subst hke
  have h1 := (dropS_le A kk).length_le
  have h2 := (dropS_le B kk).length_le
  exact ⟨kept_drop_own, h.sA.sub (dropS_le _ _), h.sB.sub (dropS_le _ _), by have := h.lA; omega, by have := h.lB; omega, by have := h.pA; omega, by have := h.pB; omega⟩
theorem ApI.drop_other (h : ApI key A B pa pb k) (hke : ¬ kk = key) : ApI key (dropS A kk) B pa pb (k + 1) := by
  have h1 := (dropS_le A kk).length_le
  exact ⟨(kept_drop_other hke).trans h.kept, h.sA.sub (dropS_le _ _), h.sB, by have := h.lA; omega, by have := h.lB; omega, by have := h.pA; omega, by have := h.pB; omega⟩
end
set_option maxRecDepth 100000 in
set_option maxHeartbeats 16000000 in
theorem storeApart_law (v : Value) (L : List Ac) (key : List UInt8) (vr : Value) (req : List Fld) (w : World) (hv : AL w v L) (hL : ∀ j (hj : j < L.length), AcOk w L[j]) (hl : L.length ≤ 9223372036854775807) (hr : FL w vr req) (hrl : req.length ≤ 9223372036854775807) (hrs : ∀ f ∈ req, f.1.length ≤ 2097152 ∧ f.2.length ≤ 2097152) (hkl : key.length ≤ 9223372036854775807) (hke : KE w) :
    Calls Tryz.prog 5 #[v, .string (bs key), vr] w fun e w' => e = .returned (.bool true) ∧ Below w.heap.size w w' := by
  have HFW := Lib.hid (fewK_any hv hL hl)
  have HAW := Lib.hid (fun W (hk : KE W) => sawake_any W hk)
  have HV := Lib.hid hv; have HL := Lib.hid hL; have HKE := Lib.hid hke; have HR := Lib.hid hr; have HRS := Lib.hid hrs
  obtain ⟨Av, cv, rfl⟩ := hv.form
  obtain ⟨Ar, cr, hvr⟩ := hr.form
  subst hvr
  have HAL := Lib.hid (Below.refl w.heap.size w)
  clear hv hL hke hr hrs
  go_enter Tryz.func5, Tryz.ntmps5
  go_wp2_with fail
  refine HFW.out.mono ?_
  rintro r w2 ⟨bb, rfl, hfew, hb⟩
  have HB2 := Lib.hid hb
  clear hb HFW
  cases bb with
  | false =>
    clear hfew
    go_wp2_with fail
    refine (HAW.out _ (HKE.out.bel HB2.out)).mono ?_
    rintro r w3 ⟨rfl, hb⟩
    have HB3 := Lib.hid (HB2.out.trans (hb.mono HB2.out.size))
    clear hb
    go_wp2_with fail
    go_ret
    exact ⟨rfl, HB3.out⟩
  | true =>
    obtain ⟨h60, hsm⟩ := hfew rfl
    have HSM := Lib.hid hsm; have H60 : Hid (L.length ≤ 60) := h60
    clear hfew hsm h60
    by_cases c1 : 10 < req.length
    · have d1 : (10 : Int) < (req.length : Int) := by omega
      go_wp2_with fail
      refine (HAW.out _ (HKE.out.bel HB2.out)).mono ?_
      rintro r w3 ⟨rfl, hb⟩
      have HB3 := Lib.hid (HB2.out.trans (hb.mono HB2.out.size))
      clear hb
      go_wp2_with fail
      go_ret
      exact ⟨rfl, HB3.out⟩
    have d1 : ¬ (10 : Int) < (req.length : Int) := by omega
    by_cases c2 : 300 < key.length
    · have d2 : (300 : Int) < (key.length : Int) := by omega
      go_wp2_with fail
      refine (HAW.out _ (HKE.out.bel HB2.out)).mono ?_
      rintro r w3 ⟨rfl, hb⟩
      have HB3 := Lib.hid (HB2.out.trans (hb.mono HB2.out.size))
      clear hb
      go_wp2_with fail
      go_ret
      exact ⟨rfl, HB3.out⟩
    have d2 : ¬ (300 : Int) < (key.length : Int) := by omega
    have HRV : Hid (VfB req) := ⟨by omega, HRS.out⟩
    have HKL : Hid (key.length ≤ 300) := by show _ ≤ _; omega
    have HNA : Hid (∀ W, Below w.heap.size w W → Calls Tryz.prog 7 #[.int .i64 4096, .int .i64 1073741824] W fun r w' => ∃ s, r = .returned (.pointer (some ⟨s, 0, none⟩)) ∧ Sq w w' s 4096 1073741824 [] 0) := fun W hb => (sq_new 4096 1073741824 W (by decide) (by decide) (by decide) (by decide) (HKE.out.bel hb)).mono fun r w' ⟨s, hr, hs⟩ => ⟨s, hr, hs.from HKE.out hb⟩
    have HNB : Hid (∀ W, Calls Tryz.prog 7 #[.int .i64 4096, .int .i64 1073741824] W fun r w' => ∃ s X, r = .returned (.pointer (some ⟨s, 0, none⟩)) ∧ Sto w' s X 4096 1073741824 [] 0 ∧ Below W.heap.size W w' ∧ (∀ b, X b → W.heap.size ≤ b)) := fun W => snew_any 4096 1073741824 W (by decide) (by decide) (by decide) (by decide)
    go_wp2_with fail
    refine (HNA.out _ HB2.out).mono ?_
    rintro r w3 ⟨sa, rfl, hsa⟩
    have HSA3 := Lib.hid hsa
    clear hsa c1 c2 d1 d2
    go_wp2_with fail
    refine (HNB.out _).mono ?_
    rintro r w4 ⟨sb, X, rfl, hsb, hb, hX⟩
    have HTW0 := Lib.hid (two_new HSA3.out ⟨X, hsb, hb, hX⟩)
    clear hsb hb hX HSA3 HNA HNB
    go_wp2_with fail
    go_loopw [9] (fun i wr => ∃ k : Nat, k ≤ L.length ∧ i = .int .i64 k ∧ ∃ A B pa pb, Hid (Two w wr sa sb 4096 1073741824 A B pa pb) ∧ Hid (ApI key A B pa pb k)) (fun i _ => L.length - (intOf i).toNat)
    case atStart => exact ⟨0, Nat.zero_le _, rfl, [], [], 0, 0, HTW0.out, ApI.zero key⟩
    case round =>
      obtain ⟨k, hk, rfl, A, B, pa, pb, HTW, HAP⟩ := hrel
      by_cases hlt : k < L.length
      · have hki : (k : Int) < (L.length : Int) := by omega
        have hk60 : k < 60 := by have := H60.out; omega
        have hpa : pa < 1000000 := by have := HAP.out.pA; omega
        have hpb : pb < 1000000 := by have := HAP.out.pB; omega
        obtain ⟨b, off, rfl, hr, hcl⟩ := HV.out.at_ (HTW.out.low) k hlt
        have HRG : Hid (∀ W, Below w.heap.size w W → W.rangeAt b (off + k * 12) (acC L[k])) := fun W hb => by
          obtain ⟨b', off', e, hr', -⟩ := HV.out.at_ hb k hlt
          cases e
          exact hr'
        have hak := HL.out k hlt
        have hsa := HSM.out _ (List.getElem_mem hlt)
        generalize L[k] = a at *
        have HAK := Lib.hid hak; have HSA := Lib.hid hsa
        clear hr hak hsa HTW0
        have hw1 := HAK.out.w1; have hw2 := HAK.out.w2
        have h5 := tm5 a.wh
        have hw5 : IntKind.i64.wrap (Int.tmod a.wh 5) = Int.tmod a.wh 5 := IntWalk.i64_in _ (by omega)
        have HOF := Lib.hid HTW.out.facts; have HOG := Lib.hid HTW.out.factsB
        have hal : Below wr.heap.size wr (wr.alloc (.cells #[.pointer (some ⟨sa, 0, none⟩), .pointer (some ⟨sb, 0, none⟩)] 22)) := (Below.refl _ _).alloc (Nat.le_refl _) _
        have HQB := Lib.hid (HTW.out.held hal (bk.new wr #[.pointer (some ⟨sa, 0, none⟩), .pointer (some ⟨sb, 0, none⟩)] 22))
        have q2 : (wr.alloc (.cells #[.pointer (some ⟨sa, 0, none⟩), .pointer (some ⟨sb, 0, none⟩)] 22)).cell? ⟨b, off + k * 12 + 2, none⟩ = some (.string (bs a.key)) := HRG.out _ (HTW.out.low.trans (hal.mono HTW.out.low.size)) 2 _ rfl
        clear hal HTW
        by_cases hke : a.key = key
        · have hkq : ((bs a.key).toList == (bs key).toList) = true := by rw [beq_bsF]; exact beq_iff_eq.2 hke
          have HKY := Lib.hid hke
          clear hke
          go_wp2_with fail
          generalize (wr.alloc (.cells #[.pointer (some ⟨sa, 0, none⟩), .pointer (some ⟨sb, 0, none⟩)] 22)) = W1 at *
          generalize wr.heap.size = p at *
          clear hkq q2
          by_cases e0 : a.wh.tmod 5 = 0
          · have HAP' : Hid (ApI key (putS 4096 1073741824 A ⟨a.key, a.e, pa + 1⟩).2 (putS 4096 1073741824 B ⟨a.key, a.e, pb + 1⟩).2 (pa + 1) (pb + 1) (k + 1)) := HAP.out.put_own HOF.out HOG.out HSA.out.e hk60 HKY.out
            have HC : Hid (∀ W, ∀ j < 2, TB w sa sb A B (putS 4096 1073741824 A ⟨a.key, a.e, pa + 1⟩).2 (putS 4096 1073741824 B ⟨a.key, a.e, pb + 1⟩).2 pa pb (pa + 1) (pb + 1) p #[.pointer (some ⟨sa, 0, none⟩), .pointer (some ⟨sb, 0, none⟩)] j W → Calls Tryz.prog 11 #[.pointer (some ⟨sj sa sb j, 0, none⟩), .string (bs a.key), .agg #[.int .i64 a.e.st, .string (bs a.e.re), .int .i64 a.e.mi, .slice a.fA a.e.fs.length a.fC, .string (bs a.e.bo), .int .i64 a.e.ak, .int .i64 a.e.gt, .slice a.vA a.e.vy.length a.vC]] W fun r w' => r = .returned (.bool true) ∧ TB w sa sb A B (putS 4096 1073741824 A ⟨a.key, a.e, pa + 1⟩).2 (putS 4096 1073741824 B ⟨a.key, a.e, pb + 1⟩).2 pa pb (pa + 1) (pb + 1) p #[.pointer (some ⟨sa, 0, none⟩), .pointer (some ⟨sb, 0, none⟩)] (j + 1) w') := tb_put HAK.out.ff HAK.out.fv HSA.out.e hpa hpb
            go_loopw [11] (fun i wr => ∃ j : Nat, j ≤ 2 ∧ i = .int .i64 j ∧ Hid (TB w sa sb A B (putS 4096 1073741824 A ⟨a.key, a.e, pa + 1⟩).2 (putS 4096 1073741824 B ⟨a.key, a.e, pb + 1⟩).2 pa pb (pa + 1) (pb + 1) p #[.pointer (some ⟨sa, 0, none⟩), .pointer (some ⟨sb, 0, none⟩)] j wr)) (fun i _ => 2 - (intOf i).toNat)
            case atStart => exact ⟨0, Nat.zero_le _, rfl, HQB.out⟩
            case round =>
              obtain ⟨j, hj, rfl, HTB⟩ := hrel
              by_cases hjl : j < 2
              · have hji : (j : Int) < 2 := by omega
                have hr := HRG.out _ HTB.out.below
                have q0 := hr 0 _ rfl
                rw [Nat.add_zero] at q0
                have HRR := Lib.hid hr; have HBK := Lib.hid HTB.out.blk
                have hjt : Hid (j < 2) := by show j < 2; omega
                have HKI : Hid ((k : Int) < (L.length : Int)) := hki
                have HJI : Hid ((j : Int) < 2) := hji
                have HKN : Hid (k < L.length) := hlt
                have HJN : Hid (j < 2) := hjl
                clear hr
                go_wp2_with fail
                refine wp_region_growS (.one 0 false (.one 1 false (.one 2 false (.one 3 false (.one 4 false (.one 5 false (.one 6 false (.one 7 false (.one 8 false (.one 9 false (.one 10 false (.one 11 false (.one 12 false (.one 13 false (.one 14 true (.one 15 false .done))))))))))))))))
                  (fun W => bk W p #[.pointer (some ⟨sa, 0, none⟩), .pointer (some ⟨sb, 0, none⟩)] ∧ W.rangeAt b (off + k * 12) (acC a)) (by kernel_rfl) (by kernel_rfl) rfl (by kernel_rfl) (by kernel_rfl) ⟨HBK.out, HRR.out⟩ (fun ops hops => ?_)
                simp only [GT.ins, List.getD_cons_zero, List.getD_cons_succ]
                clear hops
                iterate 14
                  refine growS_take (by rfl) ?_
                  apply Exists.intro
                  refine ⟨fun w' hE => ?_, ?_⟩
                  · have f1 := hE.1.cell j (.pointer (some ⟨sj sa sb j, 0, none⟩)) (sj_cell j hjt.out); have q2 : w'.cell? ⟨b, off + k * 12 + 2, none⟩ = some (.string (bs a.key)) := hE.2 2 _ rfl; have hkx : (k : Int) < (L.length : Int) := HKI.out; have hjx : (j : Int) < 2 := HJI.out; have hkn : k < L.length := HKN.out; have hjn : j < 2 := HJN.out
                    first | (exact exec_load_mid 28 _ rfl b (off + k * 12 + 3) rfl [.int .i64 a.e.st, .string (bs a.e.re), .int .i64 a.e.mi, .slice a.fA a.e.fs.length a.fC, .string (bs a.e.bo), .int .i64 a.e.ak, .int .i64 a.e.gt, .slice a.vA a.e.vy.length a.vC] _ (ac_ent hE.2) Tryz.underlying28 rfl infoEn.out) | (go_simp; try with_reducible rfl)
                  simp only [Act.put, List.setIfInBounds_toArray, List.set_cons_zero, List.set_cons_succ]
                refine growS_call (by rfl) (fun K hK => ?_)
                go_simp
                refine (HC.out _ j hjt.out (HTB.out.bel (Below.refl _ _).drew)).mono ?_
                rintro r w5 ⟨rfl, hb5⟩
                have HTB5 := Lib.hid hb5
                refine hK.out _ _ ⟨HTB5.out.blk, HRG.out _ HTB5.out.below⟩ ?_
                clear hK K hb5
                iterate 1
                  refine growS_take (by rfl) ?_
                  apply Exists.intro
                  refine ⟨fun w' hE => ?_, ?_⟩
                  · have f1 := hE.1.cell j (.pointer (some ⟨sj sa sb j, 0, none⟩)) (sj_cell j hjt.out); have q2 : w'.cell? ⟨b, off + k * 12 + 2, none⟩ = some (.string (bs a.key)) := hE.2 2 _ rfl; have hkx : (k : Int) < (L.length : Int) := HKI.out; have hjx : (j : Int) < 2 := HJI.out; have hkn : k < L.length := HKN.out; have hjn : j < 2 := HJN.out
                    first | (exact exec_load_mid 28 _ rfl b (off + k * 12 + 3) rfl [.int .i64 a.e.st, .string (bs a.e.re), .int .i64 a.e.mi, .slice a.fA a.e.fs.length a.fC, .string (bs a.e.bo), .int .i64 a.e.ak, .int .i64 a.e.gt, .slice a.vA a.e.vy.length a.vC] _ (ac_ent hE.2) Tryz.underlying28 rfl infoEn.out) | (go_simp; try with_reducible rfl)
                  simp only [Act.put, List.setIfInBounds_toArray, List.set_cons_zero, List.set_cons_succ]
                refine growS_done (NoPanic.normal ?_)
                go_wp2_with fail
                go_roundw
                case rel => exact ⟨j + 1, by omega, by go_num, HTB5.out⟩
                case measure => simp [intOf] <;> omega
              · have hji : ¬ (j : Int) < 2 := by omega
                have hjN : j = 2 := by omega
                subst hjN
                have HTW : Hid (Two w _ sa sb 4096 1073741824 (putS 4096 1073741824 A ⟨a.key, a.e, pa + 1⟩).2 (putS 4096 1073741824 B ⟨a.key, a.e, pb + 1⟩).2 (pa + 1) (pb + 1)) := HTB.out.two
                go_wp2_with fail
                go_roundw
                case rel => exact ⟨k + 1, by omega, by go_num, _, _, _, _, HTW.out, HAP'.out⟩
                case measure => simp [intOf] <;> omega
          by_cases e2 : a.wh.tmod 5 = 2
          · have HAP' : Hid (ApI key (dropK (idT a.key a.e.vy) A) (dropK (idT a.key a.e.vy) B) pa pb (k + 1)) := HAP.out.rem_own HOF.out HOG.out HKY.out
            have HC : Hid (∀ W, ∀ j < 2, TB w sa sb A B (dropK (idT a.key a.e.vy) A) (dropK (idT a.key a.e.vy) B) pa pb pa pb p #[.pointer (some ⟨sa, 0, none⟩), .pointer (some ⟨sb, 0, none⟩)] j W → Calls Tryz.prog 21 #[.pointer (some ⟨sj sa sb j, 0, none⟩), .string (bs a.key), .agg #[.int .i64 a.e.st, .string (bs a.e.re), .int .i64 a.e.mi, .slice a.fA a.e.fs.length a.fC, .string (bs a.e.bo), .int .i64 a.e.ak, .int .i64 a.e.gt, .slice a.vA a.e.vy.length a.vC]] W fun r w' => (∃ b, r = .returned (.bool b)) ∧ TB w sa sb A B (dropK (idT a.key a.e.vy) A) (dropK (idT a.key a.e.vy) B) pa pb pa pb p #[.pointer (some ⟨sa, 0, none⟩), .pointer (some ⟨sb, 0, none⟩)] (j + 1) w') := tb_remove HAK.out.ff HAK.out.fv HSA.out.e hpa hpb
            go_loopw [11] (fun i wr => ∃ j : Nat, j ≤ 2 ∧ i = .int .i64 j ∧ Hid (TB w sa sb A B (dropK (idT a.key a.e.vy) A) (dropK (idT a.key a.e.vy) B) pa pb pa pb p #[.pointer (some ⟨sa, 0, none⟩), .pointer (some ⟨sb, 0, none⟩)] j wr)) (fun i _ => 2 - (intOf i).toNat)
            case atStart => exact ⟨0, Nat.zero_le _, rfl, HQB.out⟩
            case round =>
              obtain ⟨j, hj, rfl, HTB⟩ := hrel
              by_cases hjl : j < 2
              · have hji : (j : Int) < 2 := by omega
                have hr := HRG.out _ HTB.out.below
                have q0 := hr 0 _ rfl
                rw [Nat.add_zero] at q0
                have HRR := Lib.hid hr; have HBK := Lib.hid HTB.out.blk
                have hjt : Hid (j < 2) := by show j < 2; omega
                have HKI : Hid ((k : Int) < (L.length : Int)) := hki
                have HJI : Hid ((j : Int) < 2) := hji
                have HKN : Hid (k < L.length) := hlt
                have HJN : Hid (j < 2) := hjl
                clear hr
                go_wp2_with fail
                refine wp_region_growS (.one 0 false (.one 1 false (.one 2 false (.one 3 false (.one 4 false (.one 5 false (.one 6 false (.one 7 false (.one 8 false (.one 9 false (.one 10 false (.one 11 false (.one 12 false (.one 13 false (.one 14 true .done)))))))))))))))
                  (fun W => bk W p #[.pointer (some ⟨sa, 0, none⟩), .pointer (some ⟨sb, 0, none⟩)] ∧ W.rangeAt b (off + k * 12) (acC a)) (by kernel_rfl) (by kernel_rfl) rfl (by kernel_rfl) (by kernel_rfl) ⟨HBK.out, HRR.out⟩ (fun ops hops => ?_)
                simp only [GT.ins, List.getD_cons_zero, List.getD_cons_succ]
                clear hops
                iterate 14
                  refine growS_take (by rfl) ?_
                  apply Exists.intro
                  refine ⟨fun w' hE => ?_, ?_⟩
                  · have f1 := hE.1.cell j (.pointer (some ⟨sj sa sb j, 0, none⟩)) (sj_cell j hjt.out); have q2 : w'.cell? ⟨b, off + k * 12 + 2, none⟩ = some (.string (bs a.key)) := hE.2 2 _ rfl; have hkx : (k : Int) < (L.length : Int) := HKI.out; have hjx : (j : Int) < 2 := HJI.out; have hkn : k < L.length := HKN.out; have hjn : j < 2 := HJN.out
                    first | (exact exec_load_mid 28 _ rfl b (off + k * 12 + 3) rfl [.int .i64 a.e.st, .string (bs a.e.re), .int .i64 a.e.mi, .slice a.fA a.e.fs.length a.fC, .string (bs a.e.bo), .int .i64 a.e.ak, .int .i64 a.e.gt, .slice a.vA a.e.vy.length a.vC] _ (ac_ent hE.2) Tryz.underlying28 rfl infoEn.out) | (go_simp; try with_reducible rfl)
                  simp only [Act.put, List.setIfInBounds_toArray, List.set_cons_zero, List.set_cons_succ]
                refine growS_call (by rfl) (fun K hK => ?_)
                go_simp
                refine (HC.out _ j hjt.out (HTB.out.bel (Below.refl _ _).drew)).mono ?_
                rintro r w5 ⟨⟨bx, rfl⟩, hb5⟩
                have HTB5 := Lib.hid hb5
                refine hK.out _ _ ⟨HTB5.out.blk, HRG.out _ HTB5.out.below⟩ ?_
                clear hK K hb5
                refine growS_done (NoPanic.normal ?_)
                go_wp2_with fail
                go_roundw
                case rel => exact ⟨j + 1, by omega, by go_num, HTB5.out⟩
                case measure => simp [intOf] <;> omega
              · have hji : ¬ (j : Int) < 2 := by omega
                have hjN : j = 2 := by omega
                subst hjN
                have HTW : Hid (Two w _ sa sb 4096 1073741824 (dropK (idT a.key a.e.vy) A) (dropK (idT a.key a.e.vy) B) pa pb) := HTB.out.two
                go_wp2_with fail
                go_roundw
                case rel => exact ⟨k + 1, by omega, by go_num, _, _, _, _, HTW.out, HAP'.out⟩
                case measure => simp [intOf] <;> omega
          by_cases e3 : a.wh.tmod 5 = 3
          · have HAP' : Hid (ApI key (dropS A a.key) (dropS B a.key) pa pb (k + 1)) := HAP.out.drop_own HKY.out
            have HC : Hid (∀ W, ∀ j < 2, TB w sa sb A B (dropS A a.key) (dropS B a.key) pa pb pa pb p #[.pointer (some ⟨sa, 0, none⟩), .pointer (some ⟨sb, 0, none⟩)] j W → Calls Tryz.prog 20 #[.pointer (some ⟨sj sa sb j, 0, none⟩), .string (bs a.key)] W fun r w' => (∃ z, r = .returned (.int .i64 z)) ∧ TB w sa sb A B (dropS A a.key) (dropS B a.key) pa pb pa pb p #[.pointer (some ⟨sa, 0, none⟩), .pointer (some ⟨sb, 0, none⟩)] (j + 1) w') := tb_drop HSA.out.k
            go_loopw [11] (fun i wr => ∃ j : Nat, j ≤ 2 ∧ i = .int .i64 j ∧ Hid (TB w sa sb A B (dropS A a.key) (dropS B a.key) pa pb pa pb p #[.pointer (some ⟨sa, 0, none⟩), .pointer (some ⟨sb, 0, none⟩)] j wr)) (fun i _ => 2 - (intOf i).toNat)
            case atStart => exact ⟨0, Nat.zero_le _, rfl, HQB.out⟩
            case round =>
              obtain ⟨j, hj, rfl, HTB⟩ := hrel
              by_cases hjl : j < 2
              · have hji : (j : Int) < 2 := by omega
                have hr := HRG.out _ HTB.out.below
                have q0 := hr 0 _ rfl
                rw [Nat.add_zero] at q0
                have HRR := Lib.hid hr; have HBK := Lib.hid HTB.out.blk
                have hjt : Hid (j < 2) := by show j < 2; omega
                have HKI : Hid ((k : Int) < (L.length : Int)) := hki
                have HJI : Hid ((j : Int) < 2) := hji
                have HKN : Hid (k < L.length) := hlt
                have HJN : Hid (j < 2) := hjl
                clear hr
                go_wp2_with fail
                refine wp_region_growS (.one 0 false (.one 1 false (.one 2 false (.one 3 false (.one 4 false (.one 5 false (.one 6 false (.one 7 false (.one 8 false (.one 9 true .done))))))))))
                  (fun W => bk W p #[.pointer (some ⟨sa, 0, none⟩), .pointer (some ⟨sb, 0, none⟩)] ∧ W.rangeAt b (off + k * 12) (acC a)) (by kernel_rfl) (by kernel_rfl) rfl (by kernel_rfl) (by kernel_rfl) ⟨HBK.out, HRR.out⟩ (fun ops hops => ?_)
                simp only [GT.ins, List.getD_cons_zero, List.getD_cons_succ]
                clear hops
                iterate 9
                  refine growS_take (by rfl) ?_
                  apply Exists.intro
                  refine ⟨fun w' hE => ?_, ?_⟩
                  · have f1 := hE.1.cell j (.pointer (some ⟨sj sa sb j, 0, none⟩)) (sj_cell j hjt.out); have q2 : w'.cell? ⟨b, off + k * 12 + 2, none⟩ = some (.string (bs a.key)) := hE.2 2 _ rfl; have hkx : (k : Int) < (L.length : Int) := HKI.out; have hjx : (j : Int) < 2 := HJI.out; have hkn : k < L.length := HKN.out; have hjn : j < 2 := HJN.out
                    go_simp
                    try with_reducible rfl
                  simp only [Act.put, List.setIfInBounds_toArray, List.set_cons_zero, List.set_cons_succ]
                refine growS_call (by rfl) (fun K hK => ?_)
                go_simp
                refine (HC.out _ j hjt.out (HTB.out.bel (Below.refl _ _).drew)).mono ?_
                rintro r w5 ⟨⟨bx, rfl⟩, hb5⟩
                have HTB5 := Lib.hid hb5
                refine hK.out _ _ ⟨HTB5.out.blk, HRG.out _ HTB5.out.below⟩ ?_
                clear hK K hb5
                refine growS_done (NoPanic.normal ?_)
                go_wp2_with fail
                go_roundw
                case rel => exact ⟨j + 1, by omega, by go_num, HTB5.out⟩
                case measure => simp [intOf] <;> omega
              · have hji : ¬ (j : Int) < 2 := by omega
                have hjN : j = 2 := by omega
                subst hjN
                have HTW : Hid (Two w _ sa sb 4096 1073741824 (dropS A a.key) (dropS B a.key) pa pb) := HTB.out.two
                go_wp2_with fail
                go_roundw
                case rel => exact ⟨k + 1, by omega, by go_num, _, _, _, _, HTW.out, HAP'.out⟩
                case measure => simp [intOf] <;> omega
          have HAP' : Hid (ApI key A B pa pb (k + 1)) := HAP.out.next
          go_loopw [11] (fun i wr => ∃ j : Nat, j ≤ 2 ∧ i = .int .i64 j ∧ Hid (TB w sa sb A B A B pa pb pa pb p #[.pointer (some ⟨sa, 0, none⟩), .pointer (some ⟨sb, 0, none⟩)] j wr)) (fun i _ => 2 - (intOf i).toNat)
          case atStart => exact ⟨0, Nat.zero_le _, rfl, HQB.out⟩
          case round =>
            obtain ⟨j, hj, rfl, HTB⟩ := hrel
            by_cases hjl : j < 2
            · have hji : (j : Int) < 2 := by omega
              have hr := HRG.out _ HTB.out.below
              have q0 := hr 0 _ rfl
              rw [Nat.add_zero] at q0
              have HRR := Lib.hid hr; have HBK := Lib.hid HTB.out.blk
              have hjt : Hid (j < 2) := by show j < 2; omega
              have HKI : Hid ((k : Int) < (L.length : Int)) := hki
              have HJI : Hid ((j : Int) < 2) := hji
              have HKN : Hid (k < L.length) := hlt
              have HJN : Hid (j < 2) := hjl
              clear hr
              go_wp2_with fail
              skip
              go_wp2_with fail
              go_roundw
              case rel => exact ⟨j + 1, by omega, by go_num, HTB.out.same⟩
              case measure => simp [intOf] <;> omega
            · have hji : ¬ (j : Int) < 2 := by omega
              have hjN : j = 2 := by omega
              subst hjN
              have HTW : Hid (Two w _ sa sb 4096 1073741824 A B pa pb) := HTB.out.two
              go_wp2_with fail
              go_roundw
              case rel => exact ⟨k + 1, by omega, by go_num, _, _, _, _, HTW.out, HAP'.out⟩
              case measure => simp [intOf] <;> omega
        · have hkq : ((bs a.key).toList == (bs key).toList) = false := by rw [beq_bsF]; exact beq_eq_false_iff_ne.2 hke
          have HKY := Lib.hid hke
          clear hke
          go_wp2_with fail
          generalize (wr.alloc (.cells #[.pointer (some ⟨sa, 0, none⟩), .pointer (some ⟨sb, 0, none⟩)] 22)) = W1 at *
          generalize wr.heap.size = p at *
          clear hkq q2
          by_cases e0 : a.wh.tmod 5 = 0
          · have HAP' : Hid (ApI key (putS 4096 1073741824 A ⟨a.key, a.e, pa + 1⟩).2 B (pa + 1) pb (k + 1)) := HAP.out.put_other HOF.out HSA.out.e hk60 HKY.out
            have HC : Hid (∀ W, ∀ j < 2, TB w sa sb A B (putS 4096 1073741824 A ⟨a.key, a.e, pa + 1⟩).2 (putS 4096 1073741824 B ⟨a.key, a.e, pb + 1⟩).2 pa pb (pa + 1) (pb + 1) p #[.pointer (some ⟨sa, 0, none⟩), .pointer (some ⟨sb, 0, none⟩)] j W → Calls Tryz.prog 11 #[.pointer (some ⟨sj sa sb j, 0, none⟩), .string (bs a.key), .agg #[.int .i64 a.e.st, .string (bs a.e.re), .int .i64 a.e.mi, .slice a.fA a.e.fs.length a.fC, .string (bs a.e.bo), .int .i64 a.e.ak, .int .i64 a.e.gt, .slice a.vA a.e.vy.length a.vC]] W fun r w' => r = .returned (.bool true) ∧ TB w sa sb A B (putS 4096 1073741824 A ⟨a.key, a.e, pa + 1⟩).2 (putS 4096 1073741824 B ⟨a.key, a.e, pb + 1⟩).2 pa pb (pa + 1) (pb + 1) p #[.pointer (some ⟨sa, 0, none⟩), .pointer (some ⟨sb, 0, none⟩)] (j + 1) w') := tb_put HAK.out.ff HAK.out.fv HSA.out.e hpa hpb
            go_loopw [11] (fun i wr => ∃ j : Nat, j ≤ 1 ∧ i = .int .i64 j ∧ Hid (TB w sa sb A B (putS 4096 1073741824 A ⟨a.key, a.e, pa + 1⟩).2 (putS 4096 1073741824 B ⟨a.key, a.e, pb + 1⟩).2 pa pb (pa + 1) (pb + 1) p #[.pointer (some ⟨sa, 0, none⟩), .pointer (some ⟨sb, 0, none⟩)] j wr)) (fun i _ => 1 - (intOf i).toNat)
            case atStart => exact ⟨0, Nat.zero_le _, rfl, HQB.out⟩
            case round =>
              obtain ⟨j, hj, rfl, HTB⟩ := hrel
              by_cases hjl : j < 1
              · have hji : (j : Int) < 1 := by omega
                have hr := HRG.out _ HTB.out.below
                have q0 := hr 0 _ rfl
                rw [Nat.add_zero] at q0
                have HRR := Lib.hid hr; have HBK := Lib.hid HTB.out.blk
                have hjt : Hid (j < 2) := by show j < 2; omega
                have HKI : Hid ((k : Int) < (L.length : Int)) := hki
                have HJI : Hid ((j : Int) < 1) := hji
                have HKN : Hid (k < L.length) := hlt
                have HJN : Hid (j < 1) := hjl
                clear hr
                go_wp2_with fail
                refine wp_region_growS (.one 0 false (.one 1 false (.one 2 false (.one 3 false (.one 4 false (.one 5 false (.one 6 false (.one 7 false (.one 8 false (.one 9 false (.one 10 false (.one 11 false (.one 12 false (.one 13 false (.one 14 true (.one 15 false .done))))))))))))))))
                  (fun W => bk W p #[.pointer (some ⟨sa, 0, none⟩), .pointer (some ⟨sb, 0, none⟩)] ∧ W.rangeAt b (off + k * 12) (acC a)) (by kernel_rfl) (by kernel_rfl) rfl (by kernel_rfl) (by kernel_rfl) ⟨HBK.out, HRR.out⟩ (fun ops hops => ?_)
                simp only [GT.ins, List.getD_cons_zero, List.getD_cons_succ]
                clear hops
                iterate 14
                  refine growS_take (by rfl) ?_
                  apply Exists.intro
                  refine ⟨fun w' hE => ?_, ?_⟩
                  · have f1 := hE.1.cell j (.pointer (some ⟨sj sa sb j, 0, none⟩)) (sj_cell j hjt.out); have q2 : w'.cell? ⟨b, off + k * 12 + 2, none⟩ = some (.string (bs a.key)) := hE.2 2 _ rfl; have hkx : (k : Int) < (L.length : Int) := HKI.out; have hjx : (j : Int) < 1 := HJI.out; have hkn : k < L.length := HKN.out; have hjn : j < 1 := HJN.out
                    first | (exact exec_load_mid 28 _ rfl b (off + k * 12 + 3) rfl [.int .i64 a.e.st, .string (bs a.e.re), .int .i64 a.e.mi, .slice a.fA a.e.fs.length a.fC, .string (bs a.e.bo), .int .i64 a.e.ak, .int .i64 a.e.gt, .slice a.vA a.e.vy.length a.vC] _ (ac_ent hE.2) Tryz.underlying28 rfl infoEn.out) | (go_simp; try with_reducible rfl)
                  simp only [Act.put, List.setIfInBounds_toArray, List.set_cons_zero, List.set_cons_succ]
                refine growS_call (by rfl) (fun K hK => ?_)
                go_simp
                refine (HC.out _ j hjt.out (HTB.out.bel (Below.refl _ _).drew)).mono ?_
                rintro r w5 ⟨rfl, hb5⟩
                have HTB5 := Lib.hid hb5
                refine hK.out _ _ ⟨HTB5.out.blk, HRG.out _ HTB5.out.below⟩ ?_
                clear hK K hb5
                iterate 1
                  refine growS_take (by rfl) ?_
                  apply Exists.intro
                  refine ⟨fun w' hE => ?_, ?_⟩
                  · have f1 := hE.1.cell j (.pointer (some ⟨sj sa sb j, 0, none⟩)) (sj_cell j hjt.out); have q2 : w'.cell? ⟨b, off + k * 12 + 2, none⟩ = some (.string (bs a.key)) := hE.2 2 _ rfl; have hkx : (k : Int) < (L.length : Int) := HKI.out; have hjx : (j : Int) < 1 := HJI.out; have hkn : k < L.length := HKN.out; have hjn : j < 1 := HJN.out
                    first | (exact exec_load_mid 28 _ rfl b (off + k * 12 + 3) rfl [.int .i64 a.e.st, .string (bs a.e.re), .int .i64 a.e.mi, .slice a.fA a.e.fs.length a.fC, .string (bs a.e.bo), .int .i64 a.e.ak, .int .i64 a.e.gt, .slice a.vA a.e.vy.length a.vC] _ (ac_ent hE.2) Tryz.underlying28 rfl infoEn.out) | (go_simp; try with_reducible rfl)
                  simp only [Act.put, List.setIfInBounds_toArray, List.set_cons_zero, List.set_cons_succ]
                refine growS_done (NoPanic.normal ?_)
                go_wp2_with fail
                go_roundw
                case rel => exact ⟨j + 1, by omega, by go_num, HTB5.out⟩
                case measure => simp [intOf] <;> omega
              · have hji : ¬ (j : Int) < 1 := by omega
                have hjN : j = 1 := by omega
                subst hjN
                have HTW : Hid (Two w _ sa sb 4096 1073741824 (putS 4096 1073741824 A ⟨a.key, a.e, pa + 1⟩).2 B (pa + 1) pb) := HTB.out.two
                go_wp2_with fail
                go_roundw
                case rel => exact ⟨k + 1, by omega, by go_num, _, _, _, _, HTW.out, HAP'.out⟩
                case measure => simp [intOf] <;> omega
          by_cases e2 : a.wh.tmod 5 = 2
          · have HAP' : Hid (ApI key (dropK (idT a.key a.e.vy) A) B pa pb (k + 1)) := HAP.out.rem_other HOF.out HKY.out
            have HC : Hid (∀ W, ∀ j < 2, TB w sa sb A B (dropK (idT a.key a.e.vy) A) (dropK (idT a.key a.e.vy) B) pa pb pa pb p #[.pointer (some ⟨sa, 0, none⟩), .pointer (some ⟨sb, 0, none⟩)] j W → Calls Tryz.prog 21 #[.pointer (some ⟨sj sa sb j, 0, none⟩), .string (bs a.key), .agg #[.int .i64 a.e.st, .string (bs a.e.re), .int .i64 a.e.mi, .slice a.fA a.e.fs.length a.fC, .string (bs a.e.bo), .int .i64 a.e.ak, .int .i64 a.e.gt, .slice a.vA a.e.vy.length a.vC]] W fun r w' => (∃ b, r = .returned (.bool b)) ∧ TB w sa sb A B (dropK (idT a.key a.e.vy) A) (dropK (idT a.key a.e.vy) B) pa pb pa pb p #[.pointer (some ⟨sa, 0, none⟩), .pointer (some ⟨sb, 0, none⟩)] (j + 1) w') := tb_remove HAK.out.ff HAK.out.fv HSA.out.e hpa hpb
            go_loopw [11] (fun i wr => ∃ j : Nat, j ≤ 1 ∧ i = .int .i64 j ∧ Hid (TB w sa sb A B (dropK (idT a.key a.e.vy) A) (dropK (idT a.key a.e.vy) B) pa pb pa pb p #[.pointer (some ⟨sa, 0, none⟩), .pointer (some ⟨sb, 0, none⟩)] j wr)) (fun i _ => 1 - (intOf i).toNat)
            case atStart => exact ⟨0, Nat.zero_le _, rfl, HQB.out⟩
            case round =>
              obtain ⟨j, hj, rfl, HTB⟩ := hrel
              by_cases hjl : j < 1
              · have hji : (j : Int) < 1 := by omega
                have hr := HRG.out _ HTB.out.below
                have q0 := hr 0 _ rfl
                rw [Nat.add_zero] at q0
                have HRR := Lib.hid hr; have HBK := Lib.hid HTB.out.blk
                have hjt : Hid (j < 2) := by show j < 2; omega
                have HKI : Hid ((k : Int) < (L.length : Int)) := hki
                have HJI : Hid ((j : Int) < 1) := hji
                have HKN : Hid (k < L.length) := hlt
                have HJN : Hid (j < 1) := hjl
                clear hr
                go_wp2_with fail
                refine wp_region_growS (.one 0 false (.one 1 false (.one 2 false (.one 3 false (.one 4 false (.one 5 false (.one 6 false (.one 7 false (.one 8 false (.one 9 false (.one 10 false (.one 11 false (.one 12 false (.one 13 false (.one 14 true .done)))))))))))))))
                  (fun W => bk W p #[.pointer (some ⟨sa, 0, none⟩), .pointer (some ⟨sb, 0, none⟩)] ∧ W.rangeAt b (off + k * 12) (acC a)) (by kernel_rfl) (by kernel_rfl) rfl (by kernel_rfl) (by kernel_rfl) ⟨HBK.out, HRR.out⟩ (fun ops hops => ?_)
                simp only [GT.ins, List.getD_cons_zero, List.getD_cons_succ]
                clear hops
                iterate 14
                  refine growS_take (by rfl) ?_
                  apply Exists.intro
                  refine ⟨fun w' hE => ?_, ?_⟩
                  · have f1 := hE.1.cell j (.pointer (some ⟨sj sa sb j, 0, none⟩)) (sj_cell j hjt.out); have q2 : w'.cell? ⟨b, off + k * 12 + 2, none⟩ = some (.string (bs a.key)) := hE.2 2 _ rfl; have hkx : (k : Int) < (L.length : Int) := HKI.out; have hjx : (j : Int) < 1 := HJI.out; have hkn : k < L.length := HKN.out; have hjn : j < 1 := HJN.out
                    first | (exact exec_load_mid 28 _ rfl b (off + k * 12 + 3) rfl [.int .i64 a.e.st, .string (bs a.e.re), .int .i64 a.e.mi, .slice a.fA a.e.fs.length a.fC, .string (bs a.e.bo), .int .i64 a.e.ak, .int .i64 a.e.gt, .slice a.vA a.e.vy.length a.vC] _ (ac_ent hE.2) Tryz.underlying28 rfl infoEn.out) | (go_simp; try with_reducible rfl)
                  simp only [Act.put, List.setIfInBounds_toArray, List.set_cons_zero, List.set_cons_succ]
                refine growS_call (by rfl) (fun K hK => ?_)
                go_simp
                refine (HC.out _ j hjt.out (HTB.out.bel (Below.refl _ _).drew)).mono ?_
                rintro r w5 ⟨⟨bx, rfl⟩, hb5⟩
                have HTB5 := Lib.hid hb5
                refine hK.out _ _ ⟨HTB5.out.blk, HRG.out _ HTB5.out.below⟩ ?_
                clear hK K hb5
                refine growS_done (NoPanic.normal ?_)
                go_wp2_with fail
                go_roundw
                case rel => exact ⟨j + 1, by omega, by go_num, HTB5.out⟩
                case measure => simp [intOf] <;> omega
              · have hji : ¬ (j : Int) < 1 := by omega
                have hjN : j = 1 := by omega
                subst hjN
                have HTW : Hid (Two w _ sa sb 4096 1073741824 (dropK (idT a.key a.e.vy) A) B pa pb) := HTB.out.two
                go_wp2_with fail
                go_roundw
                case rel => exact ⟨k + 1, by omega, by go_num, _, _, _, _, HTW.out, HAP'.out⟩
                case measure => simp [intOf] <;> omega
          by_cases e3 : a.wh.tmod 5 = 3
          · have HAP' : Hid (ApI key (dropS A a.key) B pa pb (k + 1)) := HAP.out.drop_other HKY.out
            have HC : Hid (∀ W, ∀ j < 2, TB w sa sb A B (dropS A a.key) (dropS B a.key) pa pb pa pb p #[.pointer (some ⟨sa, 0, none⟩), .pointer (some ⟨sb, 0, none⟩)] j W → Calls Tryz.prog 20 #[.pointer (some ⟨sj sa sb j, 0, none⟩), .string (bs a.key)] W fun r w' => (∃ z, r = .returned (.int .i64 z)) ∧ TB w sa sb A B (dropS A a.key) (dropS B a.key) pa pb pa pb p #[.pointer (some ⟨sa, 0, none⟩), .pointer (some ⟨sb, 0, none⟩)] (j + 1) w') := tb_drop HSA.out.k
            go_loopw [11] (fun i wr => ∃ j : Nat, j ≤ 1 ∧ i = .int .i64 j ∧ Hid (TB w sa sb A B (dropS A a.key) (dropS B a.key) pa pb pa pb p #[.pointer (some ⟨sa, 0, none⟩), .pointer (some ⟨sb, 0, none⟩)] j wr)) (fun i _ => 1 - (intOf i).toNat)
            case atStart => exact ⟨0, Nat.zero_le _, rfl, HQB.out⟩
            case round =>
              obtain ⟨j, hj, rfl, HTB⟩ := hrel
              by_cases hjl : j < 1
              · have hji : (j : Int) < 1 := by omega
                have hr := HRG.out _ HTB.out.below
                have q0 := hr 0 _ rfl
                rw [Nat.add_zero] at q0
                have HRR := Lib.hid hr; have HBK := Lib.hid HTB.out.blk
                have hjt : Hid (j < 2) := by show j < 2; omega
                have HKI : Hid ((k : Int) < (L.length : Int)) := hki
                have HJI : Hid ((j : Int) < 1) := hji
                have HKN : Hid (k < L.length) := hlt
                have HJN : Hid (j < 1) := hjl
                clear hr
                go_wp2_with fail
                refine wp_region_growS (.one 0 false (.one 1 false (.one 2 false (.one 3 false (.one 4 false (.one 5 false (.one 6 false (.one 7 false (.one 8 false (.one 9 true .done))))))))))
                  (fun W => bk W p #[.pointer (some ⟨sa, 0, none⟩), .pointer (some ⟨sb, 0, none⟩)] ∧ W.rangeAt b (off + k * 12) (acC a)) (by kernel_rfl) (by kernel_rfl) rfl (by kernel_rfl) (by kernel_rfl) ⟨HBK.out, HRR.out⟩ (fun ops hops => ?_)
                simp only [GT.ins, List.getD_cons_zero, List.getD_cons_succ]
                clear hops
                iterate 9
                  refine growS_take (by rfl) ?_
                  apply Exists.intro
                  refine ⟨fun w' hE => ?_, ?_⟩
                  · have f1 := hE.1.cell j (.pointer (some ⟨sj sa sb j, 0, none⟩)) (sj_cell j hjt.out); have q2 : w'.cell? ⟨b, off + k * 12 + 2, none⟩ = some (.string (bs a.key)) := hE.2 2 _ rfl; have hkx : (k : Int) < (L.length : Int) := HKI.out; have hjx : (j : Int) < 1 := HJI.out; have hkn : k < L.length := HKN.out; have hjn : j < 1 := HJN.out
                    go_simp
                    try with_reducible rfl
                  simp only [Act.put, List.setIfInBounds_toArray, List.set_cons_zero, List.set_cons_succ]
                refine growS_call (by rfl) (fun K hK => ?_)
                go_simp
                refine (HC.out _ j hjt.out (HTB.out.bel (Below.refl _ _).drew)).mono ?_
                rintro r w5 ⟨⟨bx, rfl⟩, hb5⟩
                have HTB5 := Lib.hid hb5
                refine hK.out _ _ ⟨HTB5.out.blk, HRG.out _ HTB5.out.below⟩ ?_
                clear hK K hb5
                refine growS_done (NoPanic.normal ?_)
                go_wp2_with fail
                go_roundw
                case rel => exact ⟨j + 1, by omega, by go_num, HTB5.out⟩
                case measure => simp [intOf] <;> omega
              · have hji : ¬ (j : Int) < 1 := by omega
                have hjN : j = 1 := by omega
                subst hjN
                have HTW : Hid (Two w _ sa sb 4096 1073741824 (dropS A a.key) B pa pb) := HTB.out.two
                go_wp2_with fail
                go_roundw
                case rel => exact ⟨k + 1, by omega, by go_num, _, _, _, _, HTW.out, HAP'.out⟩
                case measure => simp [intOf] <;> omega
          have HAP' : Hid (ApI key A B pa pb (k + 1)) := HAP.out.next
          go_loopw [11] (fun i wr => ∃ j : Nat, j ≤ 1 ∧ i = .int .i64 j ∧ Hid (TB w sa sb A B A B pa pb pa pb p #[.pointer (some ⟨sa, 0, none⟩), .pointer (some ⟨sb, 0, none⟩)] j wr)) (fun i _ => 1 - (intOf i).toNat)
          case atStart => exact ⟨0, Nat.zero_le _, rfl, HQB.out⟩
          case round =>
            obtain ⟨j, hj, rfl, HTB⟩ := hrel
            by_cases hjl : j < 1
            · have hji : (j : Int) < 1 := by omega
              have hr := HRG.out _ HTB.out.below
              have q0 := hr 0 _ rfl
              rw [Nat.add_zero] at q0
              have HRR := Lib.hid hr; have HBK := Lib.hid HTB.out.blk
              have hjt : Hid (j < 2) := by show j < 2; omega
              have HKI : Hid ((k : Int) < (L.length : Int)) := hki
              have HJI : Hid ((j : Int) < 1) := hji
              have HKN : Hid (k < L.length) := hlt
              have HJN : Hid (j < 1) := hjl
              clear hr
              go_wp2_with fail
              skip
              go_wp2_with fail
              go_roundw
              case rel => exact ⟨j + 1, by omega, by go_num, HTB.out.same⟩
              case measure => simp [intOf] <;> omega
            · have hji : ¬ (j : Int) < 1 := by omega
              have hjN : j = 1 := by omega
              subst hjN
              have HTW : Hid (Two w _ sa sb 4096 1073741824 A B pa pb) := HTB.out.two
              go_wp2_with fail
              go_roundw
              case rel => exact ⟨k + 1, by omega, by go_num, _, _, _, _, HTW.out, HAP'.out⟩
              case measure => simp [intOf] <;> omega
      · have hki : ¬ (k : Int) < (L.length : Int) := by omega
        have HF1 := Lib.hid (two_finds HTW.out key HKL.out (.slice Ar req.length cr) req HR.out HRV.out (by have := HAP.out.pA; have := H60.out; omega))
        have HFB : Hid (∀ W, Sq w W sb 4096 1073741824 B pb → Calls Tryz.prog 12 #[.pointer (some ⟨sb, 0, none⟩), .string (bs key), .slice Ar req.length cr] W fun r w' => r = .returned (.string (bs (bodyS (foundS A key req)))) ∧ Below w.heap.size w w' ∧ KE w') := fun W h => by
          have h1 := sq_findsV h key HKL.out (.slice Ar req.length cr) req HR.out HRV.out (by have := HAP.out.pB; have := H60.out; omega)
          rw [← body_same req HAP.out.kept HAP.out.sA HAP.out.sB (fun a ha => (HTW.out.facts.2.2 a ha).1) (fun a ha => (HTW.out.factsB.2.2 a ha).1)] at h1
          exact h1.mono fun r w' q => ⟨q.1, q.2.below, q.2.ke⟩
        generalize bodyS (foundS A key req) = z at *
        have hz : ((bs z).toList == (bs z).toList) = true := beq_self_eq_true _
        clear HTW HAP
        go_wp2_with fail
        refine HF1.out.mono ?_
        rintro r w5 ⟨rfl, hs⟩
        have HS5 := Lib.hid hs
        clear hs HF1
        go_wp2_with fail
        refine (HFB.out _ HS5.out).mono ?_
        rintro r w6 ⟨rfl, hb, hk6⟩
        have HB6 := Lib.hid hb; have HK6 := Lib.hid hk6
        clear hb hk6 HFB HS5
        go_wp2_with fail
        refine (HAW.out _ HK6.out).mono ?_
        rintro r w7 ⟨rfl, hb⟩
        have HB7 := Lib.hid (HB6.out.trans (hb.mono HB6.out.size))
        clear hb
        go_wp2_with fail
        go_ret
        exact ⟨rfl, HB7.out⟩
end Go.Proofs.YtopgeclecpaecaaGreatDoor
