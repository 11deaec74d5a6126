/- A store beside a block that is held; the statement StoreBound. -/
import Derived.Test.YtopgeclecpaecaaGreatDoorKKpM
namespace Go.Proofs.YtopgeclecpaecaaGreatDoor
open Go.RowKit
/-- a store, and a block that is not one of its own -/
def SqB (w0 w : World) (s n m : Nat) (A : List (It He)) (pu p : Nat) (cs : Array Value) : Prop := ∃ X, Sto w s X n m A pu ∧ Base w0 w X ∧ bk w p cs ∧ ¬ X p
section
variable {w0 w w' : World} {s n m pu p : Nat} {A : List (It He)} {cs : Array Value}
theorem SqB.sq (h : SqB w0 w s n m A pu p cs) : Sq w0 w s n m A pu := by
  obtain ⟨X, hs, hb, -⟩ := h
  exact ⟨X, hs, hb⟩
theorem SqB.blk (h : SqB w0 w s n m A pu p cs) : bk w p cs := by
  obtain ⟨X, -, -, hb, -⟩ := h
  exact hb
theorem SqB.bel (h : SqB w0 w s n m A pu p cs) (hb : Below w.heap.size w w') : SqB w0 w' s n m A pu p cs := by
  obtain ⟨X, hs, hba, hbk, hx⟩ := h
  exact ⟨X, hs.bel hb, hba.down hb, hbk.below hb, hx⟩
/-- a block that is made -/
theorem Sq.held (h : Sq w0 w s n m A pu) (hb : Below w.heap.size w w') (hk : bk w' w.heap.size cs) : SqB w0 w' s n m A pu w.heap.size cs := by
  obtain ⟨X, hs, hba⟩ := h
  refine ⟨X, hs.bel hb, hba.down hb, hk, fun e => ?_⟩
  obtain ⟨tb, bb, umb, nF, XB, F, l, hw⟩ := hs
  exact Nat.lt_irrefl _ (hw.lt _ e)
theorem sqb_put (h : SqB w0 w s n m A pu p cs) (k : List UInt8) (e : En) (vf vv : Value) (hf : FL w0 vf e.fs) (hv : FL w0 vv e.vy) (hs : SmE k e) (hp : pu < 1000000) :
    Calls Tryz.prog 11 #[.pointer (some ⟨s, 0, none⟩), .string (bs k), entV e vf vv] w fun r w' => r = .returned (.bool (decide (sizeE k e ≤ m))) ∧ SqB w0 w' s n m (putS n m A ⟨k, e, pu + 1⟩).2 (pu + 1) p cs := by
  obtain ⟨X, hsto, hb, hbk, hx⟩ := h
  refine (sput_any hsto k e vf vv (flx_low hf hb) (flx_low hv hb) hs hp hb).mono ?_
  rintro r w' ⟨rfl, X', hs', hd⟩
  exact ⟨rfl, X', hs', hb.did hd, hbk.keep (hd.keep p hbk.lt hx), fun q => (hd.new p q).elim hx (fun q => absurd hbk.lt (Nat.not_lt.2 q))⟩
theorem sqb_find (h : SqB w0 w s n m A pu p cs) (k : List UInt8) (hk : k.length ≤ 300) (vr : Value) (req : List Fld) (hr : FL w0 vr req) (hreq : SmF req) (hp : pu ≤ 1000000) :
    Calls Tryz.prog 22 #[.pointer (some ⟨s, 0, none⟩), .string (bs k), vr] w fun r w' => FoundV (foundS A k req) w.heap.size r w' ∧ SqB w0 w' s n m (findA A k req) pu p cs := by
  obtain ⟨X, hsto, hb, hbk, hx⟩ := h
  refine (sfind_any hsto k hk vr req (flx_low hr hb).fl hreq.vfb hp).mono ?_
  rintro r w' ⟨v, b, rfl, ⟨X', hs', hd⟩, hf⟩
  exact ⟨⟨v, b, rfl, hf⟩, X', hs', hb.did hd, hbk.keep (hd.keep p hbk.lt hx), fun q => (hd.new p q).elim hx (fun q => absurd hbk.lt (Nat.not_lt.2 q))⟩
theorem Sq.bound (h : Sq w0 w s n m A pu) : A.length ≤ n ∧ totK A ≤ m := by
  obtain ⟨X, ⟨tb, bb, umb, nF, XB, F, l, hw⟩, -⟩ := h
  exact ⟨by rw [hw.sim.len]; exact hw.st.bud.ok.len, by rw [hw.sim.tot]; exact hw.st.bud.ok.tot⟩
end
theorem keysS_len (A : List (It He)) : (keysS A).length = A.length := List.length_map ..
/-- what was put lies at the end -/
theorem put_last {n m : Nat} {A : List (It He)} {h : He} (hs : sizeE h.key h.e ≤ m) : ∃ B, keysS (putS n m A h).2 = B ++ [h.key] := by
  unfold putS putK
  rw [if_neg (by omega)]
  exact ⟨keysS (roomK n m (sizeE h.key h.e) (dropK (idH h) A)).2, by unfold keysS; rw [List.map_append]; rfl⟩
theorem AcOk.at_ {w w' : World} {L : List Ac} (h : ∀ j (hj : j < L.length), AcOk w L[j]) (hb : Below w.heap.size w w') : ∀ j (hj : j < L.length), AcOk w' L[j] := fun j hj => (h j hj).bel hb
theorem SmA.e {a : Ac} (h : SmA a) : SmE a.key a.e := by
  refine ⟨h.k, ⟨by have := h.n; omega, fun f hf => ?_⟩, ⟨by have := h.n; omega, fun f hf => ?_⟩, h.bo, h.re⟩
  · have := h.f f (by simp [hf]); omega
  · have := h.f f (by simp [hf]); omega
theorem SmA.r {a : Ac} (h : SmA a) : SmF a.req := ⟨by have := h.n; omega, fun f hf => by have := h.f f (by simp [hf]); omega⟩
theorem Sq.from {W0 W w : World} {s n m pu : Nat} {A : List (It He)} (h : Sq W w s n m A pu) (hk : KE W0) (hb : Below W0.heap.size W0 W) : Sq W0 w s n m A pu := by
  obtain ⟨X, hs, hba⟩ := h
  exact ⟨X, hs, hk, hb.trans (hba.bel.mono hb.size), fun b q => Nat.le_trans hb.size (hba.low b q)⟩
theorem Sq.fin {w W0 wr w' : World} {s n m pu : Nat} {A : List (It He)} (h : Sq W0 wr s n m A pu) (hal : Below w.heap.size w W0) (hb : Below wr.heap.size wr w') : Below w.heap.size w w' := hal.trans ((h.below.trans (hb.mono h.below.size)).mono hal.size)
theorem tm5 (x : Int) : -5 < x.tmod 5 ∧ x.tmod 5 < 5 := by rw [Int.tmod_eq_emod]; split <;> omega
theorem ent_range {w : World} {p : Nat} {a : Ac} (h : bk w p (acC a).toArray) : w.rangeAt p 3 [.int .i64 a.e.st, .string (bs a.e.re), .int .i64 a.e.mi, .slice a.fA a.e.fs.length a.fC, .string (bs a.e.bo), .int .i64 a.e.ak, .int .i64 a.e.gt, .slice a.vA a.e.vy.length a.vC] := h.range 3 _ fun j v hj => by
  match j, hj with
  | 0, hj => exact hj
  | 1, hj => exact hj
  | 2, hj => exact hj
  | 3, hj => exact hj
  | 4, hj => exact hj
  | 5, hj => exact hj
  | 6, hj => exact hj
  | 7, hj => exact hj
  | j + 8, hj => cases hj
set_option maxRecDepth 100000 in
set_option maxHeartbeats 16000000 in
theorem storeBound_law (b0 m0 : Int) (v : Value) (L : List Ac) (w : World) (he : (Lit.int .u16 b0).wf = true) (hm : (Lit.int .u16 m0).wf = true) (hv : AL w v L) (hL : ∀ j (hj : j < L.length), AcOk w L[j]) (hl : L.length ≤ 9223372036854775807) (hke : KE w) :
    Calls Tryz.prog 6 #[.agg #[.int .u16 b0, .int .u16 m0], v] w fun e w' => e = .returned (.bool true) ∧ Below w.heap.size w w' := by
  have he : 0 ≤ b0 ∧ b0 ≤ 65535 := by
    rw [Lit.wf, Bool.and_eq_true, decide_eq_true_eq, decide_eq_true_eq] at he; exact he
  have hm : 0 ≤ m0 ∧ m0 ≤ 65535 := by
    rw [Lit.wf, Bool.and_eq_true, decide_eq_true_eq, decide_eq_true_eq] at hm; exact hm
  obtain ⟨n, hn⟩ : ∃ n : Nat, (n : Int) = 1 + b0 % 8 := ⟨(1 + b0 % 8).toNat, by omega⟩
  obtain ⟨m, hmm⟩ : ∃ m : Nat, (m : Int) = 100 + m0 % 5000 := ⟨(100 + m0 % 5000).toNat, by omega⟩
  have t1 : Int.tmod b0 8 = b0 % 8 := Int.tmod_eq_emod_of_nonneg he.1
  have t2 : IntKind.u16.wrap (b0 % 8) = b0 % 8 := by rw [IntKind.wrap_u16]; omega
  have t3 : IntKind.i64.wrap (b0 % 8) = b0 % 8 := by rw [IntKind.wrap_i64]; omega
  have t4 : IntKind.i64.wrap (1 + b0 % 8) = (n : Int) := by rw [IntKind.wrap_i64]; omega
  have t5 : Int.tmod m0 5000 = m0 % 5000 := Int.tmod_eq_emod_of_nonneg hm.1
  have t6 : IntKind.u16.wrap (m0 % 5000) = m0 % 5000 := by rw [IntKind.wrap_u16]; omega
  have t7 : IntKind.i64.wrap (m0 % 5000) = m0 % 5000 := by rw [IntKind.wrap_i64]; omega
  have t8 : IntKind.i64.wrap (100 + m0 % 5000) = (m : Int) := by rw [IntKind.wrap_i64]; omega
  have b1 : 1 ≤ n := by omega
  have b2 : n ≤ 4096 := by omega
  have b3 : 1 ≤ m := by omega
  have b4 : m ≤ 1073741824 := by omega
  have hal : Below w.heap.size w (w.alloc (.cells #[.int .u16 b0, .int .u16 m0] 49)) := (Below.refl _ _).alloc (Nat.le_refl _) _
  have hq := bk.new w #[.int .u16 b0, .int .u16 m0] 49
  have q0 := hq.cell 0 (.int .u16 b0) rfl
  have q1 := hq.cell 1 (.int .u16 m0) rfl
  have HV := Lib.hid (hv.bel hal); have HL := Lib.hid (AcOk.at_ hL hal); have HKE := Lib.hid (hke.bel hal); have HAL := Lib.hid hal
  have HLL : Hid (L.length ≤ 9223372036854775807) := hl
  obtain ⟨Av, cv, rfl⟩ := hv.form
  clear hv hL hn hmm he hm hq hal hke
  generalize b0 % 8 = b8 at *
  generalize m0 % 5000 = m5 at *
  go_enter Tryz.func6, Tryz.ntmps6
  go_wp2_with fail
  generalize (w.alloc (.cells #[.int .u16 b0, .int .u16 m0] 49)) = W0 at *
  have HNEW : Hid (∀ W, Below W0.heap.size W0 W → Calls Tryz.prog 7 #[.int .i64 n, .int .i64 m] W fun r w' => ∃ s, r = .returned (.pointer (some ⟨s, 0, none⟩)) ∧ Sq W0 w' s n m [] 0) := fun W hb => (sq_new n m W b1 b2 b3 b4 (HKE.out.bel hb)).mono fun r w' ⟨s, hr, hs⟩ => ⟨s, hr, hs.from HKE.out hb⟩
  have HFW := Lib.hid (fun W (hb : Below W0.heap.size W0 W) => fewK_any (HV.out.bel hb) (AcOk.at_ HL.out hb) HLL.out)
  have HN8 : Hid (n ≤ 4096) := b2
  have HAW := Lib.hid (fun W (hk : KE W) => sawake_any W hk)
  clear b1 b2 b3 b4
  go_quiet (fail)
  go_wp2_with fail
  refine (HNEW.out _ (below_dn (Below.refl _ _) _)).mono ?_
  rintro r w1 ⟨s, rfl, hs⟩
  have HS1 := Lib.hid hs
  clear hs HNEW t1 t2 t3 t4 t5 t6 t7 t8 q0 q1
  go_wp2_with fail
  refine (HFW.out _ HS1.out.below).mono ?_
  rintro r w2 ⟨bb, rfl, hfew, hb⟩
  have HS2 := Lib.hid (HS1.out.bel hb)
  clear HS1 hb HFW
  cases bb with
  | false =>
    clear hfew
    go_wp2_with fail
    refine (HAW.out _ HS2.out.ke).mono ?_
    rintro r w3 ⟨rfl, hb⟩
    have HB3 := Lib.hid (HS2.out.fin HAL.out hb)
    clear hb
    go_wp2_with fail
    go_ret
    exact ⟨rfl, HB3.out⟩
  | true =>
    obtain ⟨h60, hsm⟩ := hfew rfl
    have HSM := Lib.hid hsm
    clear hfew hsm
    go_wp2_with fail
    go_loopw [8] (fun i wr => ∃ k : Nat, k ≤ L.length ∧ i = .int .i64 k ∧ ∃ A pu, Hid (Sq W0 wr s n m A pu ∧ pu ≤ k)) (fun i _ => L.length - (intOf i).toNat)
    case atStart => exact ⟨0, Nat.zero_le _, rfl, [], 0, HS2.out, Nat.le_refl _⟩
    case round =>
      obtain ⟨k, hk, rfl, A, pu, HQ⟩ := hrel
      by_cases hlt : k < L.length
      · have hki : (k : Int) < (L.length : Int) := by omega
        have hpu : pu < 1000000 := by have := HQ.out.2; omega
        obtain ⟨b, off, rfl, hr, hcl⟩ := HV.out.at_ HQ.out.1.below k hlt
        have hak := HL.out k hlt
        have hsa := HSM.out _ (List.getElem_mem hlt)
        generalize L[k] = a at *
        have HR := Lib.hid hr; have HAK := Lib.hid hak; have HSA := Lib.hid hsa
        clear hr hak hsa
        have hw1 := HAK.out.w1; have hw2 := HAK.out.w2
        have h5 := tm5 a.wh
        have hw5 : IntKind.i64.wrap (Int.tmod a.wh 5) = Int.tmod a.wh 5 := IntWalk.i64_in _ (by omega)
        have HTK := Lib.hid (ac_taken (w := wr) a); have HTH := Lib.hid (ac_there (w := wr))
        have HON := Lib.hid (ac_one a)
        have HQB := Lib.hid (HQ.out.1.held HTK.out.2 HTK.out.1)
        have HPU : Hid (pu ≤ k) := HQ.out.2
        clear HTK HQ HS2
        by_cases e0 : a.wh.tmod 5 = 0
        · by_cases hsz : sizeE a.key a.e ≤ m
          · have HP : Hid (∀ W, SqB W0 W s n m A pu wr.heap.size (acC a).toArray → Calls Tryz.prog 11 #[.pointer (some ⟨s, 0, none⟩), .string (bs a.key), .agg #[.int .i64 a.e.st, .string (bs a.e.re), .int .i64 a.e.mi, .slice a.fA a.e.fs.length a.fC, .string (bs a.e.bo), .int .i64 a.e.ak, .int .i64 a.e.gt, .slice a.vA a.e.vy.length a.vC]] W fun r w' => r = .returned (.bool true) ∧ SqB W0 w' s n m (putS n m A ⟨a.key, a.e, pu + 1⟩).2 (pu + 1) wr.heap.size (acC a).toArray) := fun W h => by
              have h1 := sqb_put h a.key a.e a.fv a.vv HAK.out.ff HAK.out.fv HSA.out.e hpu
              rw [show decide (sizeE a.key a.e ≤ m) = true from decide_eq_true hsz] at h1
              exact h1
            have HZ : Hid (∀ W A2 pu2, Sq W0 W s n m A2 pu2 → Calls Tryz.prog 10 #[.string (bs a.key), .agg #[.int .i64 a.e.st, .string (bs a.e.re), .int .i64 a.e.mi, .slice a.fA a.e.fs.length a.fC, .string (bs a.e.bo), .int .i64 a.e.ak, .int .i64 a.e.gt, .slice a.vA a.e.vy.length a.vC]] W fun r w' => r = .returned (.int .i64 (sizeE a.key a.e : Int)) ∧ Below W.heap.size W w') := fun W A2 pu2 h => size_any a.key a.e a.fv a.vv W (HAK.out.ff.bel h.below) (HAK.out.fv.bel h.below) HSA.out.e
            have hszi : (sizeE a.key a.e : Int) ≤ (m : Int) := by omega
            go_wp2_with (first | (refine wpList_load_mid rfl 53 (.tmp 39) rfl b (off + k * 12) rfl [.int .i64 a.wh, .int .i64 a.n, .string (bs a.key), .int .i64 a.e.st, .string (bs a.e.re), .int .i64 a.e.mi, .slice a.fA a.e.fs.length a.fC, .string (bs a.e.bo), .int .i64 a.e.ak, .int .i64 a.e.gt, .slice a.vA a.e.vy.length a.vC, .slice a.rA a.req.length a.rC] _ HR.out Tryz.underlying53 rfl infoAc ?_; clear HR) | (refine wpList_store_mid rfl 53 (.tmp 9) (.tmp 40) rfl _ 0 #[.int .i64 a.wh, .int .i64 a.n, .string (bs a.key), .int .i64 a.e.st, .string (bs a.e.re), .int .i64 a.e.mi, .slice a.fA a.e.fs.length a.fC, .string (bs a.e.bo), .int .i64 a.e.ak, .int .i64 a.e.gt, .slice a.vA a.e.vy.length a.vC, .slice a.rA a.req.length a.rC] rfl rfl HTH.out infoAc HON.out ?_; clear HTH HON; generalize (World.setCells (wr.alloc (.cells #[.int .i64 0, .int .i64 0, .string ⟨#[]⟩, .int .i64 0, .string ⟨#[]⟩, .int .i64 0, .slice none 0 0, .string ⟨#[]⟩, .int .i64 0, .int .i64 0, .slice none 0 0, .slice none 0 0] 53)) wr.heap.size 0 [.int .i64 a.wh, .int .i64 a.n, .string (bs a.key), .int .i64 a.e.st, .string (bs a.e.re), .int .i64 a.e.mi, .slice a.fA a.e.fs.length a.fC, .string (bs a.e.bo), .int .i64 a.e.ak, .int .i64 a.e.gt, .slice a.vA a.e.vy.length a.vC, .slice a.rA a.req.length a.rC]) = W1 at *; generalize wr.heap.size = p at *; have q0 := HQB.out.blk.cell 0 (.int .i64 a.wh) rfl; have q1 := HQB.out.blk.cell 1 (.int .i64 a.n) rfl; have q2 := HQB.out.blk.cell 2 (.string (bs a.key)) rfl; have q11 := HQB.out.blk.cell 11 (.slice a.rA a.req.length a.rC) rfl; have HLD := Lib.hid (ent_range HQB.out.blk)) | (refine wpList_load_mid rfl 28 (.tmp 53) rfl p 3 rfl [.int .i64 a.e.st, .string (bs a.e.re), .int .i64 a.e.mi, .slice a.fA a.e.fs.length a.fC, .string (bs a.e.bo), .int .i64 a.e.ak, .int .i64 a.e.gt, .slice a.vA a.e.vy.length a.vC] _ HLD.out Tryz.underlying28 rfl infoEn.out ?_; clear HLD))
            refine (HP.out _ HQB.out).mono ?_
            rintro r w3 ⟨rfl, hs3⟩
            have HS3 := Lib.hid hs3
            clear hs3 HQB HP q0 q1 q2 q11
            have q2 := HS3.out.blk.cell 2 (.string (bs a.key)) rfl
            have HLD := Lib.hid (ent_range HS3.out.blk)
            go_wp2_with (refine wpList_load_mid rfl 28 (.tmp 59) rfl p 3 rfl [.int .i64 a.e.st, .string (bs a.e.re), .int .i64 a.e.mi, .slice a.fA a.e.fs.length a.fC, .string (bs a.e.bo), .int .i64 a.e.ak, .int .i64 a.e.gt, .slice a.vA a.e.vy.length a.vC] _ HLD.out Tryz.underlying28 rfl infoEn.out ?_; clear HLD)
            refine (HZ.out _ _ _ HS3.out.sq).mono ?_
            rintro r w4 ⟨rfl, hb4⟩
            have HS4 := Lib.hid (HS3.out.bel hb4)
            clear HS3 HZ hb4 q2
            go_wp2_with fail
            refine (sq_keys HS4.out.sq).mono ?_
            rintro r w5 ⟨⟨v5, rfl, ho⟩, -, hb5⟩
            have HS5 := Lib.hid (HS4.out.bel hb5)
            clear HS4 hb5
            have HPX : Hid (pu + 1 ≤ k + 1) := by have := HPU.out; show _ ≤ _; omega
            have HSX := Lib.hid HS5.out.sq
            obtain ⟨B, hB⟩ := put_last (n := n) (A := A) (h := ⟨a.key, a.e, pu + 1⟩) hsz
            rw [hB] at ho
            obtain ⟨A5, c5, hv5⟩ := ho.sl.form
            subst hv5
            obtain ⟨g, o, rfl, hgl, hc5⟩ := ho.sl.get B.length (by simp)
            have q2 := HS5.out.blk.cell 2 (.string (bs a.key)) rfl
            have hlB : (B ++ [a.key]).length = B.length + 1 := by simp
            simp only [List.getElem_concat_length] at hc5
            rw [hlB]
            have hN : B.length + 1 ≤ 4096 := by
              have h1 := HSX.out.bound.1
              have h2 := HN8.out
              have h3 := keysS_len (putS n m A ⟨a.key, a.e, pu + 1⟩).2
              rw [hB, hlB] at h3
              omega
            clear hB ho hlB HS5
            generalize hM : B.length + 1 = M at *
            generalize B.length = N at *
            generalize (putS n m A ⟨a.key, a.e, pu + 1⟩).2 = A2 at *
            have u1 : IntKind.i64.wrap ((M : Int) - 1) = (N : Int) := by rw [IntKind.wrap_i64]; omega
            have u4 : (N : Int) < (M : Int) := by omega
            have u5 : N < M := by omega
            have u2 : ((M : Int) == 0) = false := by rw [beq_eq_false_iff_ne]; omega
            have u3 : ¬ (M : Int) = 0 := by omega
            have HMM := Lib.hid hM
            clear hM
            go_wp2_with fail
            go_quiet (fail)
            go_wp2_with fail
            have y1 : ¬ (n : Int) < (A2.length : Int) := by have := HSX.out.bound.1; omega
            have y2 : ¬ (m : Int) < (totK A2 : Int) := by have := HSX.out.bound.2; omega
            refine (sq_len (HSX.out.bel (below_dn (Below.refl _ _) _))).mono ?_
            rintro r w6 ⟨rfl, rfl⟩
            go_wp2_with fail
            refine (sq_bytes (HSX.out.bel (below_dn (Below.refl _ _) _))).mono ?_
            rintro r w6 ⟨rfl, rfl⟩
            go_wp2_with fail
            refine (sq_len (HSX.out.bel (below_dn (Below.refl _ _) _))).mono ?_
            rintro r w6 ⟨rfl, rfl⟩
            go_wp2_with fail
            refine (sq_keys (HSX.out.bel (below_dn (Below.refl _ _) _))).mono ?_
            rintro r w7 ⟨⟨v7, rfl, ho7⟩, hs7, -⟩
            obtain ⟨A7, c7, rfl⟩ := ho7.sl.form
            rw [keysS_len]
            have HS7 := Lib.hid hs7
            clear hs7 ho7
            go_wp2_with fail
            go_roundw
            case rel => exact ⟨k + 1, by omega, by go_num, A2, (pu + 1), HS7.out, HPX.out⟩
            case measure => simp [intOf]; omega
          · have HP : Hid (∀ W, SqB W0 W s n m A pu wr.heap.size (acC a).toArray → Calls Tryz.prog 11 #[.pointer (some ⟨s, 0, none⟩), .string (bs a.key), .agg #[.int .i64 a.e.st, .string (bs a.e.re), .int .i64 a.e.mi, .slice a.fA a.e.fs.length a.fC, .string (bs a.e.bo), .int .i64 a.e.ak, .int .i64 a.e.gt, .slice a.vA a.e.vy.length a.vC]] W fun r w' => r = .returned (.bool false) ∧ SqB W0 w' s n m (putS n m A ⟨a.key, a.e, pu + 1⟩).2 (pu + 1) wr.heap.size (acC a).toArray) := fun W h => by
              have h1 := sqb_put h a.key a.e a.fv a.vv HAK.out.ff HAK.out.fv HSA.out.e hpu
              rw [show decide (sizeE a.key a.e ≤ m) = false from decide_eq_false hsz] at h1
              exact h1
            have HZ : Hid (∀ W A2 pu2, Sq W0 W s n m A2 pu2 → Calls Tryz.prog 10 #[.string (bs a.key), .agg #[.int .i64 a.e.st, .string (bs a.e.re), .int .i64 a.e.mi, .slice a.fA a.e.fs.length a.fC, .string (bs a.e.bo), .int .i64 a.e.ak, .int .i64 a.e.gt, .slice a.vA a.e.vy.length a.vC]] W fun r w' => r = .returned (.int .i64 (sizeE a.key a.e : Int)) ∧ Below W.heap.size W w') := fun W A2 pu2 h => size_any a.key a.e a.fv a.vv W (HAK.out.ff.bel h.below) (HAK.out.fv.bel h.below) HSA.out.e
            have hszi : ¬ (sizeE a.key a.e : Int) ≤ (m : Int) := by omega
            go_wp2_with (first | (refine wpList_load_mid rfl 53 (.tmp 39) rfl b (off + k * 12) rfl [.int .i64 a.wh, .int .i64 a.n, .string (bs a.key), .int .i64 a.e.st, .string (bs a.e.re), .int .i64 a.e.mi, .slice a.fA a.e.fs.length a.fC, .string (bs a.e.bo), .int .i64 a.e.ak, .int .i64 a.e.gt, .slice a.vA a.e.vy.length a.vC, .slice a.rA a.req.length a.rC] _ HR.out Tryz.underlying53 rfl infoAc ?_; clear HR) | (refine wpList_store_mid rfl 53 (.tmp 9) (.tmp 40) rfl _ 0 #[.int .i64 a.wh, .int .i64 a.n, .string (bs a.key), .int .i64 a.e.st, .string (bs a.e.re), .int .i64 a.e.mi, .slice a.fA a.e.fs.length a.fC, .string (bs a.e.bo), .int .i64 a.e.ak, .int .i64 a.e.gt, .slice a.vA a.e.vy.length a.vC, .slice a.rA a.req.length a.rC] rfl rfl HTH.out infoAc HON.out ?_; clear HTH HON; generalize (World.setCells (wr.alloc (.cells #[.int .i64 0, .int .i64 0, .string ⟨#[]⟩, .int .i64 0, .string ⟨#[]⟩, .int .i64 0, .slice none 0 0, .string ⟨#[]⟩, .int .i64 0, .int .i64 0, .slice none 0 0, .slice none 0 0] 53)) wr.heap.size 0 [.int .i64 a.wh, .int .i64 a.n, .string (bs a.key), .int .i64 a.e.st, .string (bs a.e.re), .int .i64 a.e.mi, .slice a.fA a.e.fs.length a.fC, .string (bs a.e.bo), .int .i64 a.e.ak, .int .i64 a.e.gt, .slice a.vA a.e.vy.length a.vC, .slice a.rA a.req.length a.rC]) = W1 at *; generalize wr.heap.size = p at *; have q0 := HQB.out.blk.cell 0 (.int .i64 a.wh) rfl; have q1 := HQB.out.blk.cell 1 (.int .i64 a.n) rfl; have q2 := HQB.out.blk.cell 2 (.string (bs a.key)) rfl; have q11 := HQB.out.blk.cell 11 (.slice a.rA a.req.length a.rC) rfl; have HLD := Lib.hid (ent_range HQB.out.blk)) | (refine wpList_load_mid rfl 28 (.tmp 53) rfl p 3 rfl [.int .i64 a.e.st, .string (bs a.e.re), .int .i64 a.e.mi, .slice a.fA a.e.fs.length a.fC, .string (bs a.e.bo), .int .i64 a.e.ak, .int .i64 a.e.gt, .slice a.vA a.e.vy.length a.vC] _ HLD.out Tryz.underlying28 rfl infoEn.out ?_; clear HLD))
            refine (HP.out _ HQB.out).mono ?_
            rintro r w3 ⟨rfl, hs3⟩
            have HS3 := Lib.hid hs3
            clear hs3 HQB HP q0 q1 q2 q11
            have q2 := HS3.out.blk.cell 2 (.string (bs a.key)) rfl
            have HLD := Lib.hid (ent_range HS3.out.blk)
            go_wp2_with (refine wpList_load_mid rfl 28 (.tmp 59) rfl p 3 rfl [.int .i64 a.e.st, .string (bs a.e.re), .int .i64 a.e.mi, .slice a.fA a.e.fs.length a.fC, .string (bs a.e.bo), .int .i64 a.e.ak, .int .i64 a.e.gt, .slice a.vA a.e.vy.length a.vC] _ HLD.out Tryz.underlying28 rfl infoEn.out ?_; clear HLD)
            refine (HZ.out _ _ _ HS3.out.sq).mono ?_
            rintro r w4 ⟨rfl, hb4⟩
            have HS4 := Lib.hid (HS3.out.bel hb4)
            clear HS3 HZ hb4 q2
            go_wp2_with fail
            refine (sq_keys HS4.out.sq).mono ?_
            rintro r w5 ⟨⟨v5, rfl, ho⟩, -, hb5⟩
            have HS5 := Lib.hid (HS4.out.bel hb5)
            clear HS4 hb5
            have HPX : Hid (pu + 1 ≤ k + 1) := by have := HPU.out; show _ ≤ _; omega
            have HSX := Lib.hid HS5.out.sq
            obtain ⟨A5, c5, hv5⟩ := ho.sl.form
            subst hv5
            clear ho HS5
            generalize (putS n m A ⟨a.key, a.e, pu + 1⟩).2 = A2 at *
            go_wp2_with fail
            go_quiet (fail)
            go_wp2_with fail
            have y1 : ¬ (n : Int) < (A2.length : Int) := by have := HSX.out.bound.1; omega
            have y2 : ¬ (m : Int) < (totK A2 : Int) := by have := HSX.out.bound.2; omega
            refine (sq_len (HSX.out.bel (below_dn (Below.refl _ _) _))).mono ?_
            rintro r w6 ⟨rfl, rfl⟩
            go_wp2_with fail
            refine (sq_bytes (HSX.out.bel (below_dn (Below.refl _ _) _))).mono ?_
            rintro r w6 ⟨rfl, rfl⟩
            go_wp2_with fail
            refine (sq_len (HSX.out.bel (below_dn (Below.refl _ _) _))).mono ?_
            rintro r w6 ⟨rfl, rfl⟩
            go_wp2_with fail
            refine (sq_keys (HSX.out.bel (below_dn (Below.refl _ _) _))).mono ?_
            rintro r w7 ⟨⟨v7, rfl, ho7⟩, hs7, -⟩
            obtain ⟨A7, c7, rfl⟩ := ho7.sl.form
            rw [keysS_len]
            have HS7 := Lib.hid hs7
            clear hs7 ho7
            go_wp2_with fail
            go_roundw
            case rel => exact ⟨k + 1, by omega, by go_num, A2, (pu + 1), HS7.out, HPX.out⟩
            case measure => simp [intOf]; omega
        by_cases e1 : a.wh.tmod 5 = 1
        · have HC : Hid (∀ W, Sq W0 W s n m A pu → Calls Tryz.prog 22 #[.pointer (some ⟨s, 0, none⟩), .string (bs a.key), .slice a.rA a.req.length a.rC] W fun r w' => FoundV (foundS A a.key a.req) W.heap.size r w' ∧ Sq W0 w' s n m (findA A a.key a.req) pu) := fun W h => sq_find h a.key HSA.out.k a.rv a.req HAK.out.fr HSA.out.r (by omega)
          
          go_wp2_with (first | (refine wpList_load_mid rfl 53 (.tmp 39) rfl b (off + k * 12) rfl [.int .i64 a.wh, .int .i64 a.n, .string (bs a.key), .int .i64 a.e.st, .string (bs a.e.re), .int .i64 a.e.mi, .slice a.fA a.e.fs.length a.fC, .string (bs a.e.bo), .int .i64 a.e.ak, .int .i64 a.e.gt, .slice a.vA a.e.vy.length a.vC, .slice a.rA a.req.length a.rC] _ HR.out Tryz.underlying53 rfl infoAc ?_; clear HR) | (refine wpList_store_mid rfl 53 (.tmp 9) (.tmp 40) rfl _ 0 #[.int .i64 a.wh, .int .i64 a.n, .string (bs a.key), .int .i64 a.e.st, .string (bs a.e.re), .int .i64 a.e.mi, .slice a.fA a.e.fs.length a.fC, .string (bs a.e.bo), .int .i64 a.e.ak, .int .i64 a.e.gt, .slice a.vA a.e.vy.length a.vC, .slice a.rA a.req.length a.rC] rfl rfl HTH.out infoAc HON.out ?_; clear HTH HON; generalize (World.setCells (wr.alloc (.cells #[.int .i64 0, .int .i64 0, .string ⟨#[]⟩, .int .i64 0, .string ⟨#[]⟩, .int .i64 0, .slice none 0 0, .string ⟨#[]⟩, .int .i64 0, .int .i64 0, .slice none 0 0, .slice none 0 0] 53)) wr.heap.size 0 [.int .i64 a.wh, .int .i64 a.n, .string (bs a.key), .int .i64 a.e.st, .string (bs a.e.re), .int .i64 a.e.mi, .slice a.fA a.e.fs.length a.fC, .string (bs a.e.bo), .int .i64 a.e.ak, .int .i64 a.e.gt, .slice a.vA a.e.vy.length a.vC, .slice a.rA a.req.length a.rC]) = W1 at *; generalize wr.heap.size = p at *; have q0 := HQB.out.blk.cell 0 (.int .i64 a.wh) rfl; have q1 := HQB.out.blk.cell 1 (.int .i64 a.n) rfl; have q2 := HQB.out.blk.cell 2 (.string (bs a.key)) rfl; have q11 := HQB.out.blk.cell 11 (.slice a.rA a.req.length a.rC) rfl; have HLD := Lib.hid (ent_range HQB.out.blk)))
          refine (HC.out _ HQB.out.sq).mono ?_
          rintro r w3 ⟨⟨v3, b3, rfl, -⟩, hs⟩
          have HSX := Lib.hid hs
          have HPX : Hid (pu ≤ k + 1) := by have := HPU.out; show _ ≤ _; omega
          clear hs HQB q0 q1 q2 q11 HLD
          generalize (findA A a.key a.req) = A2 at *
          go_wp2_with fail
          have y1 : ¬ (n : Int) < (A2.length : Int) := by have := HSX.out.bound.1; omega
          have y2 : ¬ (m : Int) < (totK A2 : Int) := by have := HSX.out.bound.2; omega
          refine (sq_len HSX.out).mono ?_
          rintro r w6 ⟨rfl, rfl⟩
          go_wp2_with fail
          refine (sq_bytes HSX.out).mono ?_
          rintro r w6 ⟨rfl, rfl⟩
          go_wp2_with fail
          refine (sq_len HSX.out).mono ?_
          rintro r w6 ⟨rfl, rfl⟩
          go_wp2_with fail
          refine (sq_keys HSX.out).mono ?_
          rintro r w7 ⟨⟨v7, rfl, ho7⟩, hs7, -⟩
          obtain ⟨A7, c7, rfl⟩ := ho7.sl.form
          rw [keysS_len]
          have HS7 := Lib.hid hs7
          clear hs7 ho7
          go_wp2_with fail
          go_roundw
          case rel => exact ⟨k + 1, by omega, by go_num, A2, pu, HS7.out, HPX.out⟩
          case measure => simp [intOf]; omega
        by_cases e2 : a.wh.tmod 5 = 2
        · have HC : Hid (∀ W, Sq W0 W s n m A pu → Calls Tryz.prog 21 #[.pointer (some ⟨s, 0, none⟩), .string (bs a.key), .agg #[.int .i64 a.e.st, .string (bs a.e.re), .int .i64 a.e.mi, .slice a.fA a.e.fs.length a.fC, .string (bs a.e.bo), .int .i64 a.e.ak, .int .i64 a.e.gt, .slice a.vA a.e.vy.length a.vC]] W fun r w' => r = .returned (.bool (hasK (idT a.key a.e.vy) A)) ∧ Sq W0 w' s n m (dropK (idT a.key a.e.vy) A) pu) := fun W h => sq_remove h a.key a.e a.fv a.vv HAK.out.ff HAK.out.fv HSA.out.e hpu
          
          go_wp2_with (first | (refine wpList_load_mid rfl 53 (.tmp 39) rfl b (off + k * 12) rfl [.int .i64 a.wh, .int .i64 a.n, .string (bs a.key), .int .i64 a.e.st, .string (bs a.e.re), .int .i64 a.e.mi, .slice a.fA a.e.fs.length a.fC, .string (bs a.e.bo), .int .i64 a.e.ak, .int .i64 a.e.gt, .slice a.vA a.e.vy.length a.vC, .slice a.rA a.req.length a.rC] _ HR.out Tryz.underlying53 rfl infoAc ?_; clear HR) | (refine wpList_store_mid rfl 53 (.tmp 9) (.tmp 40) rfl _ 0 #[.int .i64 a.wh, .int .i64 a.n, .string (bs a.key), .int .i64 a.e.st, .string (bs a.e.re), .int .i64 a.e.mi, .slice a.fA a.e.fs.length a.fC, .string (bs a.e.bo), .int .i64 a.e.ak, .int .i64 a.e.gt, .slice a.vA a.e.vy.length a.vC, .slice a.rA a.req.length a.rC] rfl rfl HTH.out infoAc HON.out ?_; clear HTH HON; generalize (World.setCells (wr.alloc (.cells #[.int .i64 0, .int .i64 0, .string ⟨#[]⟩, .int .i64 0, .string ⟨#[]⟩, .int .i64 0, .slice none 0 0, .string ⟨#[]⟩, .int .i64 0, .int .i64 0, .slice none 0 0, .slice none 0 0] 53)) wr.heap.size 0 [.int .i64 a.wh, .int .i64 a.n, .string (bs a.key), .int .i64 a.e.st, .string (bs a.e.re), .int .i64 a.e.mi, .slice a.fA a.e.fs.length a.fC, .string (bs a.e.bo), .int .i64 a.e.ak, .int .i64 a.e.gt, .slice a.vA a.e.vy.length a.vC, .slice a.rA a.req.length a.rC]) = W1 at *; generalize wr.heap.size = p at *; have q0 := HQB.out.blk.cell 0 (.int .i64 a.wh) rfl; have q1 := HQB.out.blk.cell 1 (.int .i64 a.n) rfl; have q2 := HQB.out.blk.cell 2 (.string (bs a.key)) rfl; have q11 := HQB.out.blk.cell 11 (.slice a.rA a.req.length a.rC) rfl; have HLD := Lib.hid (ent_range HQB.out.blk)) | (refine wpList_load_mid rfl 28 (.tmp 97) rfl p 3 rfl [.int .i64 a.e.st, .string (bs a.e.re), .int .i64 a.e.mi, .slice a.fA a.e.fs.length a.fC, .string (bs a.e.bo), .int .i64 a.e.ak, .int .i64 a.e.gt, .slice a.vA a.e.vy.length a.vC] _ HLD.out Tryz.underlying28 rfl infoEn.out ?_; clear HLD))
          refine (HC.out _ HQB.out.sq).mono ?_
          rintro r w3 ⟨rfl, hs⟩
          have HSX := Lib.hid hs
          have HPX : Hid (pu ≤ k + 1) := by have := HPU.out; show _ ≤ _; omega
          clear hs HQB q0 q1 q2 q11
          generalize (dropK (idT a.key a.e.vy) A) = A2 at *
          go_wp2_with fail
          have y1 : ¬ (n : Int) < (A2.length : Int) := by have := HSX.out.bound.1; omega
          have y2 : ¬ (m : Int) < (totK A2 : Int) := by have := HSX.out.bound.2; omega
          refine (sq_len HSX.out).mono ?_
          rintro r w6 ⟨rfl, rfl⟩
          go_wp2_with fail
          refine (sq_bytes HSX.out).mono ?_
          rintro r w6 ⟨rfl, rfl⟩
          go_wp2_with fail
          refine (sq_len HSX.out).mono ?_
          rintro r w6 ⟨rfl, rfl⟩
          go_wp2_with fail
          refine (sq_keys HSX.out).mono ?_
          rintro r w7 ⟨⟨v7, rfl, ho7⟩, hs7, -⟩
          obtain ⟨A7, c7, rfl⟩ := ho7.sl.form
          rw [keysS_len]
          have HS7 := Lib.hid hs7
          clear hs7 ho7
          go_wp2_with fail
          go_roundw
          case rel => exact ⟨k + 1, by omega, by go_num, A2, pu, HS7.out, HPX.out⟩
          case measure => simp [intOf]; omega
        by_cases e3 : a.wh.tmod 5 = 3
        · have HC : Hid (∀ W, Sq W0 W s n m A pu → Calls Tryz.prog 20 #[.pointer (some ⟨s, 0, none⟩), .string (bs a.key)] W fun r w' => r = .returned (.int .i64 ((rowS A a.key).length : Int)) ∧ Sq W0 w' s n m (dropS A a.key) pu) := fun W h => sq_drop h a.key HSA.out.k
          
          go_wp2_with (first | (refine wpList_load_mid rfl 53 (.tmp 39) rfl b (off + k * 12) rfl [.int .i64 a.wh, .int .i64 a.n, .string (bs a.key), .int .i64 a.e.st, .string (bs a.e.re), .int .i64 a.e.mi, .slice a.fA a.e.fs.length a.fC, .string (bs a.e.bo), .int .i64 a.e.ak, .int .i64 a.e.gt, .slice a.vA a.e.vy.length a.vC, .slice a.rA a.req.length a.rC] _ HR.out Tryz.underlying53 rfl infoAc ?_; clear HR) | (refine wpList_store_mid rfl 53 (.tmp 9) (.tmp 40) rfl _ 0 #[.int .i64 a.wh, .int .i64 a.n, .string (bs a.key), .int .i64 a.e.st, .string (bs a.e.re), .int .i64 a.e.mi, .slice a.fA a.e.fs.length a.fC, .string (bs a.e.bo), .int .i64 a.e.ak, .int .i64 a.e.gt, .slice a.vA a.e.vy.length a.vC, .slice a.rA a.req.length a.rC] rfl rfl HTH.out infoAc HON.out ?_; clear HTH HON; generalize (World.setCells (wr.alloc (.cells #[.int .i64 0, .int .i64 0, .string ⟨#[]⟩, .int .i64 0, .string ⟨#[]⟩, .int .i64 0, .slice none 0 0, .string ⟨#[]⟩, .int .i64 0, .int .i64 0, .slice none 0 0, .slice none 0 0] 53)) wr.heap.size 0 [.int .i64 a.wh, .int .i64 a.n, .string (bs a.key), .int .i64 a.e.st, .string (bs a.e.re), .int .i64 a.e.mi, .slice a.fA a.e.fs.length a.fC, .string (bs a.e.bo), .int .i64 a.e.ak, .int .i64 a.e.gt, .slice a.vA a.e.vy.length a.vC, .slice a.rA a.req.length a.rC]) = W1 at *; generalize wr.heap.size = p at *; have q0 := HQB.out.blk.cell 0 (.int .i64 a.wh) rfl; have q1 := HQB.out.blk.cell 1 (.int .i64 a.n) rfl; have q2 := HQB.out.blk.cell 2 (.string (bs a.key)) rfl; have q11 := HQB.out.blk.cell 11 (.slice a.rA a.req.length a.rC) rfl; have HLD := Lib.hid (ent_range HQB.out.blk)))
          refine (HC.out _ HQB.out.sq).mono ?_
          rintro r w3 ⟨rfl, hs⟩
          have HSX := Lib.hid hs
          have HPX : Hid (pu ≤ k + 1) := by have := HPU.out; show _ ≤ _; omega
          clear hs HQB q0 q1 q2 q11 HLD
          generalize (dropS A a.key) = A2 at *
          go_wp2_with fail
          have y1 : ¬ (n : Int) < (A2.length : Int) := by have := HSX.out.bound.1; omega
          have y2 : ¬ (m : Int) < (totK A2 : Int) := by have := HSX.out.bound.2; omega
          refine (sq_len HSX.out).mono ?_
          rintro r w6 ⟨rfl, rfl⟩
          go_wp2_with fail
          refine (sq_bytes HSX.out).mono ?_
          rintro r w6 ⟨rfl, rfl⟩
          go_wp2_with fail
          refine (sq_len HSX.out).mono ?_
          rintro r w6 ⟨rfl, rfl⟩
          go_wp2_with fail
          refine (sq_keys HSX.out).mono ?_
          rintro r w7 ⟨⟨v7, rfl, ho7⟩, hs7, -⟩
          obtain ⟨A7, c7, rfl⟩ := ho7.sl.form
          rw [keysS_len]
          have HS7 := Lib.hid hs7
          clear hs7 ho7
          go_wp2_with fail
          go_roundw
          case rel => exact ⟨k + 1, by omega, by go_num, A2, pu, HS7.out, HPX.out⟩
          case measure => simp [intOf]; omega
        have HC : Hid (∀ W, Sq W0 W s n m A pu → Calls Tryz.prog 18 #[.pointer (some ⟨s, 0, none⟩), .int .i64 a.n] W fun r w' => r = .returned (.bool (forgetB A a.n)) ∧ Sq W0 w' s n m (forgetS A a.n) pu) := fun W h => sq_forget h a.n hpu

        go_wp2_with (first | (refine wpList_load_mid rfl 53 (.tmp 39) rfl b (off + k * 12) rfl [.int .i64 a.wh, .int .i64 a.n, .string (bs a.key), .int .i64 a.e.st, .string (bs a.e.re), .int .i64 a.e.mi, .slice a.fA a.e.fs.length a.fC, .string (bs a.e.bo), .int .i64 a.e.ak, .int .i64 a.e.gt, .slice a.vA a.e.vy.length a.vC, .slice a.rA a.req.length a.rC] _ HR.out Tryz.underlying53 rfl infoAc ?_; clear HR) | (refine wpList_store_mid rfl 53 (.tmp 9) (.tmp 40) rfl _ 0 #[.int .i64 a.wh, .int .i64 a.n, .string (bs a.key), .int .i64 a.e.st, .string (bs a.e.re), .int .i64 a.e.mi, .slice a.fA a.e.fs.length a.fC, .string (bs a.e.bo), .int .i64 a.e.ak, .int .i64 a.e.gt, .slice a.vA a.e.vy.length a.vC, .slice a.rA a.req.length a.rC] rfl rfl HTH.out infoAc HON.out ?_; clear HTH HON; generalize (World.setCells (wr.alloc (.cells #[.int .i64 0, .int .i64 0, .string ⟨#[]⟩, .int .i64 0, .string ⟨#[]⟩, .int .i64 0, .slice none 0 0, .string ⟨#[]⟩, .int .i64 0, .int .i64 0, .slice none 0 0, .slice none 0 0] 53)) wr.heap.size 0 [.int .i64 a.wh, .int .i64 a.n, .string (bs a.key), .int .i64 a.e.st, .string (bs a.e.re), .int .i64 a.e.mi, .slice a.fA a.e.fs.length a.fC, .string (bs a.e.bo), .int .i64 a.e.ak, .int .i64 a.e.gt, .slice a.vA a.e.vy.length a.vC, .slice a.rA a.req.length a.rC]) = W1 at *; generalize wr.heap.size = p at *; have q0 := HQB.out.blk.cell 0 (.int .i64 a.wh) rfl; have q1 := HQB.out.blk.cell 1 (.int .i64 a.n) rfl; have q2 := HQB.out.blk.cell 2 (.string (bs a.key)) rfl; have q11 := HQB.out.blk.cell 11 (.slice a.rA a.req.length a.rC) rfl; have HLD := Lib.hid (ent_range HQB.out.blk)))
        refine (HC.out _ HQB.out.sq).mono ?_
        rintro r w3 ⟨rfl, hs⟩
        have HSX := Lib.hid hs
        have HPX : Hid (pu ≤ k + 1) := by have := HPU.out; show _ ≤ _; omega
        clear hs HQB q0 q1 q2 q11 HLD
        generalize (forgetS A a.n) = A2 at *
        go_wp2_with fail
        have y1 : ¬ (n : Int) < (A2.length : Int) := by have := HSX.out.bound.1; omega
        have y2 : ¬ (m : Int) < (totK A2 : Int) := by have := HSX.out.bound.2; omega
        refine (sq_len HSX.out).mono ?_
        rintro r w6 ⟨rfl, rfl⟩
        go_wp2_with fail
        refine (sq_bytes HSX.out).mono ?_
        rintro r w6 ⟨rfl, rfl⟩
        go_wp2_with fail
        refine (sq_len HSX.out).mono ?_
        rintro r w6 ⟨rfl, rfl⟩
        go_wp2_with fail
        refine (sq_keys HSX.out).mono ?_
        rintro r w7 ⟨⟨v7, rfl, ho7⟩, hs7, -⟩
        obtain ⟨A7, c7, rfl⟩ := ho7.sl.form
        rw [keysS_len]
        have HS7 := Lib.hid hs7
        clear hs7 ho7
        go_wp2_with fail
        go_roundw
        case rel => exact ⟨k + 1, by omega, by go_num, A2, pu, HS7.out, HPX.out⟩
        case measure => simp [intOf]; omega
      · have hki : ¬ (k : Int) < (L.length : Int) := by omega
        go_wp2_with fail
        refine (HAW.out _ HQ.out.1.ke).mono ?_
        rintro r w3 ⟨rfl, hb⟩
        have HB3 := Lib.hid (HQ.out.1.fin HAL.out hb)
        clear hb
        go_wp2_with fail
        go_ret
        exact ⟨rfl, HB3.out⟩
end Go.Proofs.YtopgeclecpaecaaGreatDoor
