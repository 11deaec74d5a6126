/- The statement StoreHonest's own way: same, honest. -/
import Derived.Test.YtopgeclecpaecaaGreatDoorKKpN
import Derived.Test.YtopgeclecpaecaaGreatDoorKVary
namespace Go.Proofs.YtopgeclecpaecaaGreatDoor
open Go.RowKit
set_option maxHeartbeats 1000000 in
set_option maxRecDepth 100000 in
theorem ksame_any (v1 v2 : Value) (L1 L2 : List Fld) (w : World) (h1 : FL w v1 L1) (h2 : FL w v2 L2) (hl : L1.length ≤ 4294967296) :
    Calls Tryz.prog 53 #[v1, v2] w fun e w' => e = .returned (.bool (L1 == L2)) ∧ Below w.heap.size w w' := by
  obtain ⟨a1, c1, rfl⟩ := h1.form
  obtain ⟨a2, c2, rfl⟩ := h2.form
  have H1 := Lib.hid h1; have H2 := Lib.hid h2
  clear h1 h2
  by_cases hlen : L1.length = L2.length
  · have hne : ((L1.length : Int) != (L2.length : Int)) = false := by rw [bne_eq_false_iff_eq]; omega
    have HLen := Lib.hid hlen; clear hlen
    go_enter Tryz.func53, Tryz.ntmps53
    go_wp2_with fail
    go_loopw [5] (fun i wr => ∃ k : Nat, k ≤ L1.length ∧ i = .int .i64 k ∧ L1.take k = L2.take k ∧ Below w.heap.size w wr) (fun i _ => L1.length - (intOf i).toNat)
    case atStart => exact ⟨0, Nat.zero_le _, rfl, rfl, Below.refl _ _⟩
    case round =>
      obtain ⟨k, hk, rfl, ht, hb⟩ := hrel
      have HT := Lib.hid ht; clear ht
      have HB := Lib.hid hb; clear hb
      by_cases hlt : k < L1.length
      · have hlt2 : k < L2.length := by have := HLen.out; omega
        have hi1 : (k : Int) < (L1.length : Int) := by omega
        have hi2 : (k : Int) < (L2.length : Int) := by omega
        obtain ⟨g1, o1, rfl, _, hc1, hc3⟩ := (H1.out.bel HB.out).get k hlt
        obtain ⟨g2, o2, rfl, _, hc2, hc4⟩ := (H2.out.bel HB.out).get k hlt2
        have hcmp := fun w => run_neqF L1[k] L2[k] w
        by_cases he : L1[k] = L2[k]
        · have HS := Lib.hid (take_grow hlt hlt2 HT.out he)
          rw [show (!(L1[k] == L2[k])) = false from by rw [he]; simp] at hcmp
          clear he
          generalize L1[k] = x at *
          generalize L2[k] = y at *
          generalize bs x.1 = x1 at *
          generalize bs x.2 = x2 at *
          generalize bs y.1 = y1 at *
          generalize bs y.2 = y2 at *
          go_wp2_with fail
          go_quiet (fail)
          go_wp2_with fail
          go_roundw
          case rel => exact ⟨k + 1, by omega, by go_num, HS.out, below_dn HB.out _⟩
          case measure => simp [intOf]; omega
        · have HN : Hid (¬ L1 = L2) := fun e => he (by subst e; rfl)
          rw [show (!(L1[k] == L2[k])) = true from by rw [beq_eq_false_iff_ne.2 he]; rfl] at hcmp
          clear he
          generalize L1[k] = x at *
          generalize L2[k] = y at *
          generalize bs x.1 = x1 at *
          generalize bs x.2 = x2 at *
          generalize bs y.1 = y1 at *
          generalize bs y.2 = y2 at *
          go_wp2_with fail
          go_quiet (fail)
          go_wp2_with fail
          go_ret
          exact ⟨ret_bool (beq_eq_false_iff_ne.2 HN.out).symm, below_dn HB.out _⟩
      · have HE : Hid (L1 = L2) := by
          have h := HT.out
          have h3 := HLen.out
          rwa [List.take_of_length_le (by omega), List.take_of_length_le (by omega)] at h
        go_wp2_with fail
        go_ret
        exact ⟨ret_bool (beq_iff_eq.2 HE.out).symm, HB.out⟩
  · have hne : ((L1.length : Int) != (L2.length : Int)) = true := bne_iff_ne.2 (by omega)
    have HN : Hid (¬ L1 = L2) := fun e => hlen (by rw [e])
    clear hlen
    go_enter Tryz.func53, Tryz.ntmps53
    go_wp2_with fail
    go_ret
    exact ⟨ret_bool (beq_eq_false_iff_ne.2 HN.out).symm, Below.refl _ _⟩
/-- was the entry the last of its Vary that was put, and not taken away since? (the calls from the last to the first) -/
def honG (key : List UInt8) (e : En) : List Ac → Bool
  | [] => false
  | b :: r => if b.key = key then
      (if b.wh.tmod 5 = 0 then (if b.e.vy = e.vy then (decide (b.e.bo = e.bo) && decide (b.e.gt = e.gt) && (b.e.fs == e.fs)) else honG key e r)
      else if b.wh.tmod 5 = 2 then (if b.e.vy = e.vy then false else honG key e r)
      else if b.wh.tmod 5 = 3 then false
      else honG key e r)
    else honG key e r
theorem i64_eq_of {x y : Int} : ((x == y) = true) = (x = y) := by simp
theorem smallF_of {l : List Fld} (h : SmF l) : smallF l := fun j hj => ⟨Nat.le_trans (h.at_ _ (List.getElem_mem hj)).1 (by decide), Nat.le_trans (h.at_ _ (List.getElem_mem hj)).2 (by decide)⟩
theorem vfb_of {l : List Fld} (h : SmF l) : VfB l := ⟨by have := h.len; omega, fun f hf => by have := h.at_ f hf; omega⟩
set_option maxRecDepth 100000 in
set_option maxHeartbeats 16000000 in
theorem honest_any {w : World} {v : Value} {P : List Ac} (hv : AL w v P) (hok : ∀ j (hj : j < P.length), AcOk w P[j]) (hsm : ∀ c ∈ P, SmA c) (hP : P.length ≤ 60) (a : Ac) (hfr : FL w a.rv a.req) (hr : SmF a.req) (e : En) (Af Av : Option Addr) (cf cv : Nat) (hf : FL w (.slice Af e.fs.length cf) e.fs) (hvv : FL w (.slice Av e.vy.length cv) e.vy) (hsv : SmF e.vy) (hsf : SmF e.fs) :
    Calls Tryz.prog 25 #[v, .agg #[.int .i64 a.wh, .int .i64 a.n, .string (bs a.key), .int .i64 a.e.st, .string (bs a.e.re), .int .i64 a.e.mi, .slice a.fA a.e.fs.length a.fC, .string (bs a.e.bo), .int .i64 a.e.ak, .int .i64 a.e.gt, .slice a.vA a.e.vy.length a.vC, .slice a.rA a.req.length a.rC], .agg #[.int .i64 e.st, .string (bs e.re), .int .i64 e.mi, .slice Af e.fs.length cf, .string (bs e.bo), .int .i64 e.ak, .int .i64 e.gt, .slice Av e.vy.length cv]] w fun r w' => r = .returned (.bool (matchB e.vy a.req && honG a.key e P.reverse)) ∧ Below w.heap.size w w' := by
  obtain ⟨A, cP, rfl⟩ := hv.form
  have hal1 : Below w.heap.size w (w.alloc (.cells #[.int .i64 a.wh, .int .i64 a.n, .string (bs a.key), .int .i64 a.e.st, .string (bs a.e.re), .int .i64 a.e.mi, .slice a.fA a.e.fs.length a.fC, .string (bs a.e.bo), .int .i64 a.e.ak, .int .i64 a.e.gt, .slice a.vA a.e.vy.length a.vC, .slice a.rA a.req.length a.rC] 53)) := (Below.refl _ _).alloc (Nat.le_refl _) _
  have hal2 : Below (w.alloc (.cells #[.int .i64 a.wh, .int .i64 a.n, .string (bs a.key), .int .i64 a.e.st, .string (bs a.e.re), .int .i64 a.e.mi, .slice a.fA a.e.fs.length a.fC, .string (bs a.e.bo), .int .i64 a.e.ak, .int .i64 a.e.gt, .slice a.vA a.e.vy.length a.vC, .slice a.rA a.req.length a.rC] 53)).heap.size (w.alloc (.cells #[.int .i64 a.wh, .int .i64 a.n, .string (bs a.key), .int .i64 a.e.st, .string (bs a.e.re), .int .i64 a.e.mi, .slice a.fA a.e.fs.length a.fC, .string (bs a.e.bo), .int .i64 a.e.ak, .int .i64 a.e.gt, .slice a.vA a.e.vy.length a.vC, .slice a.rA a.req.length a.rC] 53)) ((w.alloc (.cells #[.int .i64 a.wh, .int .i64 a.n, .string (bs a.key), .int .i64 a.e.st, .string (bs a.e.re), .int .i64 a.e.mi, .slice a.fA a.e.fs.length a.fC, .string (bs a.e.bo), .int .i64 a.e.ak, .int .i64 a.e.gt, .slice a.vA a.e.vy.length a.vC, .slice a.rA a.req.length a.rC] 53)).alloc (.cells #[.int .i64 e.st, .string (bs e.re), .int .i64 e.mi, .slice Af e.fs.length cf, .string (bs e.bo), .int .i64 e.ak, .int .i64 e.gt, .slice Av e.vy.length cv] 28)) := (Below.refl _ _).alloc (Nat.le_refl _) _
  have hal : Below w.heap.size w ((w.alloc (.cells #[.int .i64 a.wh, .int .i64 a.n, .string (bs a.key), .int .i64 a.e.st, .string (bs a.e.re), .int .i64 a.e.mi, .slice a.fA a.e.fs.length a.fC, .string (bs a.e.bo), .int .i64 a.e.ak, .int .i64 a.e.gt, .slice a.vA a.e.vy.length a.vC, .slice a.rA a.req.length a.rC] 53)).alloc (.cells #[.int .i64 e.st, .string (bs e.re), .int .i64 e.mi, .slice Af e.fs.length cf, .string (bs e.bo), .int .i64 e.ak, .int .i64 e.gt, .slice Av e.vy.length cv] 28)) := hal1.trans (hal2.mono hal1.size)
  have HAK : Hid (bk ((w.alloc (.cells #[.int .i64 a.wh, .int .i64 a.n, .string (bs a.key), .int .i64 a.e.st, .string (bs a.e.re), .int .i64 a.e.mi, .slice a.fA a.e.fs.length a.fC, .string (bs a.e.bo), .int .i64 a.e.ak, .int .i64 a.e.gt, .slice a.vA a.e.vy.length a.vC, .slice a.rA a.req.length a.rC] 53)).alloc (.cells #[.int .i64 e.st, .string (bs e.re), .int .i64 e.mi, .slice Af e.fs.length cf, .string (bs e.bo), .int .i64 e.ak, .int .i64 e.gt, .slice Av e.vy.length cv] 28)) w.heap.size #[.int .i64 a.wh, .int .i64 a.n, .string (bs a.key), .int .i64 a.e.st, .string (bs a.e.re), .int .i64 a.e.mi, .slice a.fA a.e.fs.length a.fC, .string (bs a.e.bo), .int .i64 a.e.ak, .int .i64 a.e.gt, .slice a.vA a.e.vy.length a.vC, .slice a.rA a.req.length a.rC]) := (bk.new w #[.int .i64 a.wh, .int .i64 a.n, .string (bs a.key), .int .i64 a.e.st, .string (bs a.e.re), .int .i64 a.e.mi, .slice a.fA a.e.fs.length a.fC, .string (bs a.e.bo), .int .i64 a.e.ak, .int .i64 a.e.gt, .slice a.vA a.e.vy.length a.vC, .slice a.rA a.req.length a.rC] 53).below hal2
  have HEK : Hid (bk ((w.alloc (.cells #[.int .i64 a.wh, .int .i64 a.n, .string (bs a.key), .int .i64 a.e.st, .string (bs a.e.re), .int .i64 a.e.mi, .slice a.fA a.e.fs.length a.fC, .string (bs a.e.bo), .int .i64 a.e.ak, .int .i64 a.e.gt, .slice a.vA a.e.vy.length a.vC, .slice a.rA a.req.length a.rC] 53)).alloc (.cells #[.int .i64 e.st, .string (bs e.re), .int .i64 e.mi, .slice Af e.fs.length cf, .string (bs e.bo), .int .i64 e.ak, .int .i64 e.gt, .slice Av e.vy.length cv] 28)) (w.heap.size + 1) #[.int .i64 e.st, .string (bs e.re), .int .i64 e.mi, .slice Af e.fs.length cf, .string (bs e.bo), .int .i64 e.ak, .int .i64 e.gt, .slice Av e.vy.length cv]) := by
    have h := bk.new (w.alloc (.cells #[.int .i64 a.wh, .int .i64 a.n, .string (bs a.key), .int .i64 a.e.st, .string (bs a.e.re), .int .i64 a.e.mi, .slice a.fA a.e.fs.length a.fC, .string (bs a.e.bo), .int .i64 a.e.ak, .int .i64 a.e.gt, .slice a.vA a.e.vy.length a.vC, .slice a.rA a.req.length a.rC] 53)) #[.int .i64 e.st, .string (bs e.re), .int .i64 e.mi, .slice Af e.fs.length cf, .string (bs e.bo), .int .i64 e.ak, .int .i64 e.gt, .slice Av e.vy.length cv] 28
    rw [World.size_alloc] at h
    exact h
  have HV := Lib.hid (hv.bel hal); have HO := Lib.hid (AcOk.at_ hok hal); have HSM := Lib.hid hsm
  have HFR := Lib.hid (hfr.bel hal); have HF := Lib.hid (hf.bel hal); have HVV := Lib.hid (hvv.bel hal)
  have HAL := Lib.hid hal
  have HSV0 := Lib.hid hsv; have HSF0 := Lib.hid hsf; have HRQ := Lib.hid hr
  clear hv hok hsm hfr hf hvv hal1 hal2 hal hsv hsf hr
  generalize hmb : matchB e.vy a.req = mb at *
  have r11 := HAK.out.cell 11 (.slice a.rA a.req.length a.rC) rfl
  have HLD := Lib.hid (HEK.out.range0 (l := [.int .i64 e.st, .string (bs e.re), .int .i64 e.mi, .slice Af e.fs.length cf, .string (bs e.bo), .int .i64 e.ak, .int .i64 e.gt, .slice Av e.vy.length cv]))
  go_enter Tryz.func25, Tryz.ntmps25
  go_wp2_with (generalize ((w.alloc (.cells #[.int .i64 a.wh, .int .i64 a.n, .string (bs a.key), .int .i64 a.e.st, .string (bs a.e.re), .int .i64 a.e.mi, .slice a.fA a.e.fs.length a.fC, .string (bs a.e.bo), .int .i64 a.e.ak, .int .i64 a.e.gt, .slice a.vA a.e.vy.length a.vC, .slice a.rA a.req.length a.rC] 53)).alloc (.cells #[.int .i64 e.st, .string (bs e.re), .int .i64 e.mi, .slice Af e.fs.length cf, .string (bs e.bo), .int .i64 e.ak, .int .i64 e.gt, .slice Av e.vy.length cv] 28)) = W0 at *; refine wpList_load_mid rfl 28 (.tmp 5) rfl _ 0 rfl [.int .i64 e.st, .string (bs e.re), .int .i64 e.mi, .slice Af e.fs.length cf, .string (bs e.bo), .int .i64 e.ak, .int .i64 e.gt, .slice Av e.vy.length cv] _ HLD.out Tryz.underlying28 rfl infoEn.out ?_; clear HLD)
  refine (vmatches_any (a0 := .int .i64 e.st) (a1 := .string (bs e.re)) (a2 := .int .i64 e.mi) (a3 := .slice Af e.fs.length cf) (a4 := .string (bs e.bo)) (a5 := .int .i64 e.ak) (a6 := .int .i64 e.gt) _ HVV.out HFR.out (vfb_of HRQ.out) (smallF_of HSV0.out) (by have := HSV0.out.len; omega)).mono ?_
  rw [hmb]
  rintro r w2 ⟨rfl, hb2⟩
  have HB2 := Lib.hid hb2
  clear hb2 r11
  clear hmb
  cases mb
  · have HRES : Hid (false = (false && honG a.key e P.reverse)) := rfl
    go_wp2_with fail
    go_ret
    exact ⟨ret_bool HRES.out, HAL.out.trans (HB2.out.mono HAL.out.size)⟩
  · have hlen : IntKind.i64.wrap ((P.length : Int) - 1) = (P.length : Int) - 1 := IntWalk.i64_in _ (by omega)
    have HA2 := Lib.hid (HAK.out.below HB2.out); have HE2 := Lib.hid (HEK.out.below HB2.out)
    go_wp2_with fail
    clear hlen
    go_loopw [7] (fun i wr => ∃ (k : Nat) (z : Int), z + 1 = (k : Int) ∧ k ≤ P.length ∧ i = .int .i64 z ∧ Hid (Below W0.heap.size W0 wr) ∧ Hid (honG a.key e (P.take k).reverse = honG a.key e P.reverse)) (fun i _ => (intOf i + 1).toNat)
    case atStart => exact ⟨P.length, (P.length : Int) - 1, by omega, Nat.le_refl _, rfl, HB2.out, (by show _ = _; rw [List.take_length])⟩
    case round =>
      obtain ⟨k, z, hz, hk, rfl, HB, HG⟩ := hrel
      clear HA2 HE2
      by_cases hk0 : k = 0
      · subst hk0
        obtain rfl : z = -1 := by omega
        have HRES : Hid (false = (true && honG a.key e P.reverse)) := by rw [← HG.out]; rfl
        go_wp2_with fail
        go_ret
        exact ⟨ret_bool HRES.out, HAL.out.trans (HB.out.mono HAL.out.size)⟩
      · obtain ⟨j, rfl⟩ : ∃ j, k = j + 1 := ⟨k - 1, by omega⟩
        obtain rfl : z = (j : Int) := by omega
        have hlt : j < P.length := by omega
        have hji : (j : Int) < (P.length : Int) := by omega
        have u1 : IntKind.i64.wrap ((j : Int) - 1) = (j : Int) - 1 := IntWalk.i64_in _ (by omega)
        obtain ⟨b, off, rfl, hr, hcl⟩ := HV.out.at_ HB.out j hlt
        have hck := HO.out j hlt
        have hcs := HSM.out _ (List.getElem_mem hlt)
        have hg : honG a.key e (P[j] :: (P.take j).reverse) = honG a.key e P.reverse := by
          rw [← HG.out, List.take_succ_eq_append_getElem hlt, List.reverse_append]; rfl
        generalize P[j] = c at *
        have HR := Lib.hid hr; have HCK := Lib.hid hck; have HCS := Lib.hid hcs
        clear hr hck hcs HG
        have hw1 := HCK.out.w1; have hw2 := HCK.out.w2
        have h5 := tm5 c.wh
        have hw5 : IntKind.i64.wrap (Int.tmod c.wh 5) = Int.tmod c.wh 5 := IntWalk.i64_in _ (by omega)
        have HTK := Lib.hid (ac_taken (w := wr) c); have HTH := Lib.hid (ac_there (w := wr))
        have HON := Lib.hid (ac_one c)
        have HPB := Lib.hid HTK.out.1
        have HBW := Lib.hid (HB.out.trans (HTK.out.2.mono HB.out.size))
        have HAW := Lib.hid (HAK.out.below HBW.out); have HEW := Lib.hid (HEK.out.below HBW.out)
        have HSVF := Lib.hid (fun W (hb : Below W0.heap.size W0 W) => ksame_any (.slice c.vA c.e.vy.length c.vC) (.slice Av e.vy.length cv) c.e.vy e.vy W (HCK.out.fv.bel hb) (HVV.out.bel hb) (by have := HCS.out.n; omega))
        have HSFF := Lib.hid (fun W (hb : Below W0.heap.size W0 W) => ksame_any (.slice c.fA c.e.fs.length c.fC) (.slice Af e.fs.length cf) c.e.fs e.fs W (HCK.out.ff.bel hb) (HF.out.bel hb) (by have := HCS.out.n; omega))
        clear HTK HB2 HB
        simp only [honG] at hg
        by_cases hk1 : c.key = a.key
        rotate_left
        · have hkq : ((bs c.key).toList == (bs a.key).toList) = false := by rw [beq_bsF]; exact beq_eq_false_iff_ne.2 hk1
          rw [if_neg hk1] at hg
          go_wp2_with (first | (refine wpList_load_mid rfl 53 (.tmp 23) rfl b (off + j * 12) rfl [.int .i64 c.wh, .int .i64 c.n, .string (bs c.key), .int .i64 c.e.st, .string (bs c.e.re), .int .i64 c.e.mi, .slice c.fA c.e.fs.length c.fC, .string (bs c.e.bo), .int .i64 c.e.ak, .int .i64 c.e.gt, .slice c.vA c.e.vy.length c.vC, .slice c.rA c.req.length c.rC] _ HR.out Tryz.underlying53 rfl infoAc ?_; clear HR) | (refine wpList_store_mid rfl 53 (.tmp 8) (.tmp 24) rfl _ 0 #[.int .i64 c.wh, .int .i64 c.n, .string (bs c.key), .int .i64 c.e.st, .string (bs c.e.re), .int .i64 c.e.mi, .slice c.fA c.e.fs.length c.fC, .string (bs c.e.bo), .int .i64 c.e.ak, .int .i64 c.e.gt, .slice c.vA c.e.vy.length c.vC, .slice c.rA c.req.length c.rC] rfl rfl HTH.out infoAc HON.out ?_; clear HTH HON; generalize (World.setCells (wr.alloc (.cells #[.int .i64 0, .int .i64 0, .string ⟨#[]⟩, .int .i64 0, .string ⟨#[]⟩, .int .i64 0, .slice none 0 0, .string ⟨#[]⟩, .int .i64 0, .int .i64 0, .slice none 0 0, .slice none 0 0] 53)) wr.heap.size 0 [.int .i64 c.wh, .int .i64 c.n, .string (bs c.key), .int .i64 c.e.st, .string (bs c.e.re), .int .i64 c.e.mi, .slice c.fA c.e.fs.length c.fC, .string (bs c.e.bo), .int .i64 c.e.ak, .int .i64 c.e.gt, .slice c.vA c.e.vy.length c.vC, .slice c.rA c.req.length c.rC]) = W1 at *; generalize wr.heap.size = p at *; have q0 := HPB.out.cell 0 (.int .i64 c.wh) rfl; have q2 := HPB.out.cell 2 (.string (bs c.key)) rfl; have q6 := HPB.out.cell 6 (.slice c.fA c.e.fs.length c.fC) rfl; have q7 := HPB.out.cell 7 (.string (bs c.e.bo)) rfl; have q9 := HPB.out.cell 9 (.int .i64 c.e.gt) rfl; have q10 := HPB.out.cell 10 (.slice c.vA c.e.vy.length c.vC) rfl; have r2 := HAW.out.cell 2 (.string (bs a.key)) rfl; have s3 := HEW.out.cell 3 (.slice Af e.fs.length cf) rfl; have s4 := HEW.out.cell 4 (.string (bs e.bo)) rfl; have s6 := HEW.out.cell 6 (.int .i64 e.gt) rfl; have s7 := HEW.out.cell 7 (.slice Av e.vy.length cv) rfl))
          have HN := Lib.hid hg
          go_roundw
          case rel => exact ⟨j, (j : Int) - 1, by omega, by omega, rfl, HBW.out, HN.out⟩
          case measure => simp [intOf] <;> omega
        have hkq : ((bs c.key).toList == (bs a.key).toList) = true := by rw [beq_bsF]; exact beq_iff_eq.2 hk1
        rw [if_pos hk1] at hg
        clear hk1

        by_cases e0 : c.wh.tmod 5 = 0
        · rw [if_pos e0] at hg
          by_cases hv1 : c.e.vy = e.vy
          · have hvy : (c.e.vy == e.vy) = true := beq_iff_eq.2 hv1
            rw [if_pos hv1] at hg
            clear hv1
            go_wp2_with (first | (refine wpList_load_mid rfl 53 (.tmp 23) rfl b (off + j * 12) rfl [.int .i64 c.wh, .int .i64 c.n, .string (bs c.key), .int .i64 c.e.st, .string (bs c.e.re), .int .i64 c.e.mi, .slice c.fA c.e.fs.length c.fC, .string (bs c.e.bo), .int .i64 c.e.ak, .int .i64 c.e.gt, .slice c.vA c.e.vy.length c.vC, .slice c.rA c.req.length c.rC] _ HR.out Tryz.underlying53 rfl infoAc ?_; clear HR) | (refine wpList_store_mid rfl 53 (.tmp 8) (.tmp 24) rfl _ 0 #[.int .i64 c.wh, .int .i64 c.n, .string (bs c.key), .int .i64 c.e.st, .string (bs c.e.re), .int .i64 c.e.mi, .slice c.fA c.e.fs.length c.fC, .string (bs c.e.bo), .int .i64 c.e.ak, .int .i64 c.e.gt, .slice c.vA c.e.vy.length c.vC, .slice c.rA c.req.length c.rC] rfl rfl HTH.out infoAc HON.out ?_; clear HTH HON; generalize (World.setCells (wr.alloc (.cells #[.int .i64 0, .int .i64 0, .string ⟨#[]⟩, .int .i64 0, .string ⟨#[]⟩, .int .i64 0, .slice none 0 0, .string ⟨#[]⟩, .int .i64 0, .int .i64 0, .slice none 0 0, .slice none 0 0] 53)) wr.heap.size 0 [.int .i64 c.wh, .int .i64 c.n, .string (bs c.key), .int .i64 c.e.st, .string (bs c.e.re), .int .i64 c.e.mi, .slice c.fA c.e.fs.length c.fC, .string (bs c.e.bo), .int .i64 c.e.ak, .int .i64 c.e.gt, .slice c.vA c.e.vy.length c.vC, .slice c.rA c.req.length c.rC]) = W1 at *; generalize wr.heap.size = p at *; have q0 := HPB.out.cell 0 (.int .i64 c.wh) rfl; have q2 := HPB.out.cell 2 (.string (bs c.key)) rfl; have q6 := HPB.out.cell 6 (.slice c.fA c.e.fs.length c.fC) rfl; have q7 := HPB.out.cell 7 (.string (bs c.e.bo)) rfl; have q9 := HPB.out.cell 9 (.int .i64 c.e.gt) rfl; have q10 := HPB.out.cell 10 (.slice c.vA c.e.vy.length c.vC) rfl; have r2 := HAW.out.cell 2 (.string (bs a.key)) rfl; have s3 := HEW.out.cell 3 (.slice Af e.fs.length cf) rfl; have s4 := HEW.out.cell 4 (.string (bs e.bo)) rfl; have s6 := HEW.out.cell 6 (.int .i64 e.gt) rfl; have s7 := HEW.out.cell 7 (.slice Av e.vy.length cv) rfl))
            refine (HSVF.out _ HBW.out).mono ?_
            rw [hvy]
            rintro r w3 ⟨rfl, hb3⟩
            have HP3 := Lib.hid (HPB.out.below hb3); have HE3 := Lib.hid (HEW.out.below hb3)
            have HB3 := Lib.hid (HBW.out.trans (hb3.mono HBW.out.size))
            clear hb3 q0 q2 q6 q7 q9 q10 r2 s3 s4 s6 s7 HPB HEW HBW
            have q6 := HP3.out.cell 6 (.slice c.fA c.e.fs.length c.fC) rfl
            have q7 := HP3.out.cell 7 (.string (bs c.e.bo)) rfl
            have q9 := HP3.out.cell 9 (.int .i64 c.e.gt) rfl
            have s3 := HE3.out.cell 3 (.slice Af e.fs.length cf) rfl
            have s4 := HE3.out.cell 4 (.string (bs e.bo)) rfl
            have s6 := HE3.out.cell 6 (.int .i64 e.gt) rfl
            by_cases hbo : c.e.bo = e.bo
            · have hbq : ((bs c.e.bo).toList == (bs e.bo).toList) = true := by rw [beq_bsF]; exact beq_iff_eq.2 hbo
              by_cases hgt : c.e.gt = e.gt
              · have hgq : (c.e.gt == e.gt) = true := beq_iff_eq.2 hgt
                have HRES : Hid ((c.e.fs == e.fs) = (true && honG a.key e P.reverse)) := by
                  rw [← hg, decide_eq_true hbo, decide_eq_true hgt]; rfl
                clear hbo hgt hg
                go_wp2_with fail
                refine (HSFF.out _ HB3.out).mono ?_
                rintro r w4 ⟨rfl, hb4⟩
                have HB4 := Lib.hid (HB3.out.trans (hb4.mono HB3.out.size))
                clear hb4 q6 q7 q9 s3 s4 s6
                generalize (c.e.fs == e.fs) = fin at *
                go_wp2_with fail
                go_ret
                exact ⟨ret_bool HRES.out, HAL.out.trans (HB4.out.mono HAL.out.size)⟩
              · have hgq : (c.e.gt == e.gt) = false := beq_eq_false_iff_ne.2 hgt
                have HRES : Hid (false = (true && honG a.key e P.reverse)) := by
                  rw [← hg, decide_eq_true hbo, decide_eq_false hgt]; rfl
                clear hbo hgt hg
                go_wp2_with fail
                go_ret
                exact ⟨ret_bool HRES.out, HAL.out.trans (HB3.out.mono HAL.out.size)⟩
            · have hbq : ((bs c.e.bo).toList == (bs e.bo).toList) = false := by rw [beq_bsF]; exact beq_eq_false_iff_ne.2 hbo
              have HRES : Hid (false = (true && honG a.key e P.reverse)) := by
                rw [← hg, decide_eq_false hbo]; rfl
              clear hbo hg
              go_wp2_with fail
              go_ret
              exact ⟨ret_bool HRES.out, HAL.out.trans (HB3.out.mono HAL.out.size)⟩
          · have hvy : (c.e.vy == e.vy) = false := beq_eq_false_iff_ne.2 hv1
            rw [if_neg hv1] at hg
            go_wp2_with (first | (refine wpList_load_mid rfl 53 (.tmp 23) rfl b (off + j * 12) rfl [.int .i64 c.wh, .int .i64 c.n, .string (bs c.key), .int .i64 c.e.st, .string (bs c.e.re), .int .i64 c.e.mi, .slice c.fA c.e.fs.length c.fC, .string (bs c.e.bo), .int .i64 c.e.ak, .int .i64 c.e.gt, .slice c.vA c.e.vy.length c.vC, .slice c.rA c.req.length c.rC] _ HR.out Tryz.underlying53 rfl infoAc ?_; clear HR) | (refine wpList_store_mid rfl 53 (.tmp 8) (.tmp 24) rfl _ 0 #[.int .i64 c.wh, .int .i64 c.n, .string (bs c.key), .int .i64 c.e.st, .string (bs c.e.re), .int .i64 c.e.mi, .slice c.fA c.e.fs.length c.fC, .string (bs c.e.bo), .int .i64 c.e.ak, .int .i64 c.e.gt, .slice c.vA c.e.vy.length c.vC, .slice c.rA c.req.length c.rC] rfl rfl HTH.out infoAc HON.out ?_; clear HTH HON; generalize (World.setCells (wr.alloc (.cells #[.int .i64 0, .int .i64 0, .string ⟨#[]⟩, .int .i64 0, .string ⟨#[]⟩, .int .i64 0, .slice none 0 0, .string ⟨#[]⟩, .int .i64 0, .int .i64 0, .slice none 0 0, .slice none 0 0] 53)) wr.heap.size 0 [.int .i64 c.wh, .int .i64 c.n, .string (bs c.key), .int .i64 c.e.st, .string (bs c.e.re), .int .i64 c.e.mi, .slice c.fA c.e.fs.length c.fC, .string (bs c.e.bo), .int .i64 c.e.ak, .int .i64 c.e.gt, .slice c.vA c.e.vy.length c.vC, .slice c.rA c.req.length c.rC]) = W1 at *; generalize wr.heap.size = p at *; have q0 := HPB.out.cell 0 (.int .i64 c.wh) rfl; have q2 := HPB.out.cell 2 (.string (bs c.key)) rfl; have q6 := HPB.out.cell 6 (.slice c.fA c.e.fs.length c.fC) rfl; have q7 := HPB.out.cell 7 (.string (bs c.e.bo)) rfl; have q9 := HPB.out.cell 9 (.int .i64 c.e.gt) rfl; have q10 := HPB.out.cell 10 (.slice c.vA c.e.vy.length c.vC) rfl; have r2 := HAW.out.cell 2 (.string (bs a.key)) rfl; have s3 := HEW.out.cell 3 (.slice Af e.fs.length cf) rfl; have s4 := HEW.out.cell 4 (.string (bs e.bo)) rfl; have s6 := HEW.out.cell 6 (.int .i64 e.gt) rfl; have s7 := HEW.out.cell 7 (.slice Av e.vy.length cv) rfl))
            refine (HSVF.out _ HBW.out).mono ?_
            rw [hvy]
            rintro r w3 ⟨rfl, hb3⟩
            have HP3 := Lib.hid (HPB.out.below hb3); have HE3 := Lib.hid (HEW.out.below hb3)
            have HB3 := Lib.hid (HBW.out.trans (hb3.mono HBW.out.size))
            clear hb3 q0 q2 q6 q7 q9 q10 r2 s3 s4 s6 s7 HPB HEW HBW
            have q6 := HP3.out.cell 6 (.slice c.fA c.e.fs.length c.fC) rfl
            have q7 := HP3.out.cell 7 (.string (bs c.e.bo)) rfl
            have q9 := HP3.out.cell 9 (.int .i64 c.e.gt) rfl
            have s3 := HE3.out.cell 3 (.slice Af e.fs.length cf) rfl
            have s4 := HE3.out.cell 4 (.string (bs e.bo)) rfl
            have s6 := HE3.out.cell 6 (.int .i64 e.gt) rfl
            go_wp2_with fail
            have HN := Lib.hid hg
            go_roundw
            case rel => exact ⟨j, (j : Int) - 1, by omega, by omega, rfl, HB3.out, HN.out⟩
            case measure => simp [intOf] <;> omega
        rw [if_neg e0] at hg
        by_cases e2 : c.wh.tmod 5 = 2
        · rw [if_pos e2] at hg
          by_cases hv1 : c.e.vy = e.vy
          · have hvy : (c.e.vy == e.vy) = true := beq_iff_eq.2 hv1
            rw [if_pos hv1] at hg
            clear hv1
            have HRES : Hid (false = (true && honG a.key e P.reverse)) := by rw [← hg]; rfl
            clear hg
            go_wp2_with (first | (refine wpList_load_mid rfl 53 (.tmp 23) rfl b (off + j * 12) rfl [.int .i64 c.wh, .int .i64 c.n, .string (bs c.key), .int .i64 c.e.st, .string (bs c.e.re), .int .i64 c.e.mi, .slice c.fA c.e.fs.length c.fC, .string (bs c.e.bo), .int .i64 c.e.ak, .int .i64 c.e.gt, .slice c.vA c.e.vy.length c.vC, .slice c.rA c.req.length c.rC] _ HR.out Tryz.underlying53 rfl infoAc ?_; clear HR) | (refine wpList_store_mid rfl 53 (.tmp 8) (.tmp 24) rfl _ 0 #[.int .i64 c.wh, .int .i64 c.n, .string (bs c.key), .int .i64 c.e.st, .string (bs c.e.re), .int .i64 c.e.mi, .slice c.fA c.e.fs.length c.fC, .string (bs c.e.bo), .int .i64 c.e.ak, .int .i64 c.e.gt, .slice c.vA c.e.vy.length c.vC, .slice c.rA c.req.length c.rC] rfl rfl HTH.out infoAc HON.out ?_; clear HTH HON; generalize (World.setCells (wr.alloc (.cells #[.int .i64 0, .int .i64 0, .string ⟨#[]⟩, .int .i64 0, .string ⟨#[]⟩, .int .i64 0, .slice none 0 0, .string ⟨#[]⟩, .int .i64 0, .int .i64 0, .slice none 0 0, .slice none 0 0] 53)) wr.heap.size 0 [.int .i64 c.wh, .int .i64 c.n, .string (bs c.key), .int .i64 c.e.st, .string (bs c.e.re), .int .i64 c.e.mi, .slice c.fA c.e.fs.length c.fC, .string (bs c.e.bo), .int .i64 c.e.ak, .int .i64 c.e.gt, .slice c.vA c.e.vy.length c.vC, .slice c.rA c.req.length c.rC]) = W1 at *; generalize wr.heap.size = p at *; have q0 := HPB.out.cell 0 (.int .i64 c.wh) rfl; have q2 := HPB.out.cell 2 (.string (bs c.key)) rfl; have q6 := HPB.out.cell 6 (.slice c.fA c.e.fs.length c.fC) rfl; have q7 := HPB.out.cell 7 (.string (bs c.e.bo)) rfl; have q9 := HPB.out.cell 9 (.int .i64 c.e.gt) rfl; have q10 := HPB.out.cell 10 (.slice c.vA c.e.vy.length c.vC) rfl; have r2 := HAW.out.cell 2 (.string (bs a.key)) rfl; have s3 := HEW.out.cell 3 (.slice Af e.fs.length cf) rfl; have s4 := HEW.out.cell 4 (.string (bs e.bo)) rfl; have s6 := HEW.out.cell 6 (.int .i64 e.gt) rfl; have s7 := HEW.out.cell 7 (.slice Av e.vy.length cv) rfl))
            refine (HSVF.out _ HBW.out).mono ?_
            rw [hvy]
            rintro r w3 ⟨rfl, hb3⟩
            have HP3 := Lib.hid (HPB.out.below hb3); have HE3 := Lib.hid (HEW.out.below hb3)
            have HB3 := Lib.hid (HBW.out.trans (hb3.mono HBW.out.size))
            clear hb3 q0 q2 q6 q7 q9 q10 r2 s3 s4 s6 s7 HPB HEW HBW
            have q6 := HP3.out.cell 6 (.slice c.fA c.e.fs.length c.fC) rfl
            have q7 := HP3.out.cell 7 (.string (bs c.e.bo)) rfl
            have q9 := HP3.out.cell 9 (.int .i64 c.e.gt) rfl
            have s3 := HE3.out.cell 3 (.slice Af e.fs.length cf) rfl
            have s4 := HE3.out.cell 4 (.string (bs e.bo)) rfl
            have s6 := HE3.out.cell 6 (.int .i64 e.gt) rfl
            go_wp2_with fail
            go_ret
            exact ⟨ret_bool HRES.out, HAL.out.trans (HB3.out.mono HAL.out.size)⟩
          · have hvy : (c.e.vy == e.vy) = false := beq_eq_false_iff_ne.2 hv1
            rw [if_neg hv1] at hg
            go_wp2_with (first | (refine wpList_load_mid rfl 53 (.tmp 23) rfl b (off + j * 12) rfl [.int .i64 c.wh, .int .i64 c.n, .string (bs c.key), .int .i64 c.e.st, .string (bs c.e.re), .int .i64 c.e.mi, .slice c.fA c.e.fs.length c.fC, .string (bs c.e.bo), .int .i64 c.e.ak, .int .i64 c.e.gt, .slice c.vA c.e.vy.length c.vC, .slice c.rA c.req.length c.rC] _ HR.out Tryz.underlying53 rfl infoAc ?_; clear HR) | (refine wpList_store_mid rfl 53 (.tmp 8) (.tmp 24) rfl _ 0 #[.int .i64 c.wh, .int .i64 c.n, .string (bs c.key), .int .i64 c.e.st, .string (bs c.e.re), .int .i64 c.e.mi, .slice c.fA c.e.fs.length c.fC, .string (bs c.e.bo), .int .i64 c.e.ak, .int .i64 c.e.gt, .slice c.vA c.e.vy.length c.vC, .slice c.rA c.req.length c.rC] rfl rfl HTH.out infoAc HON.out ?_; clear HTH HON; generalize (World.setCells (wr.alloc (.cells #[.int .i64 0, .int .i64 0, .string ⟨#[]⟩, .int .i64 0, .string ⟨#[]⟩, .int .i64 0, .slice none 0 0, .string ⟨#[]⟩, .int .i64 0, .int .i64 0, .slice none 0 0, .slice none 0 0] 53)) wr.heap.size 0 [.int .i64 c.wh, .int .i64 c.n, .string (bs c.key), .int .i64 c.e.st, .string (bs c.e.re), .int .i64 c.e.mi, .slice c.fA c.e.fs.length c.fC, .string (bs c.e.bo), .int .i64 c.e.ak, .int .i64 c.e.gt, .slice c.vA c.e.vy.length c.vC, .slice c.rA c.req.length c.rC]) = W1 at *; generalize wr.heap.size = p at *; have q0 := HPB.out.cell 0 (.int .i64 c.wh) rfl; have q2 := HPB.out.cell 2 (.string (bs c.key)) rfl; have q6 := HPB.out.cell 6 (.slice c.fA c.e.fs.length c.fC) rfl; have q7 := HPB.out.cell 7 (.string (bs c.e.bo)) rfl; have q9 := HPB.out.cell 9 (.int .i64 c.e.gt) rfl; have q10 := HPB.out.cell 10 (.slice c.vA c.e.vy.length c.vC) rfl; have r2 := HAW.out.cell 2 (.string (bs a.key)) rfl; have s3 := HEW.out.cell 3 (.slice Af e.fs.length cf) rfl; have s4 := HEW.out.cell 4 (.string (bs e.bo)) rfl; have s6 := HEW.out.cell 6 (.int .i64 e.gt) rfl; have s7 := HEW.out.cell 7 (.slice Av e.vy.length cv) rfl))
            refine (HSVF.out _ HBW.out).mono ?_
            rw [hvy]
            rintro r w3 ⟨rfl, hb3⟩
            have HP3 := Lib.hid (HPB.out.below hb3); have HE3 := Lib.hid (HEW.out.below hb3)
            have HB3 := Lib.hid (HBW.out.trans (hb3.mono HBW.out.size))
            clear hb3 q0 q2 q6 q7 q9 q10 r2 s3 s4 s6 s7 HPB HEW HBW
            have q6 := HP3.out.cell 6 (.slice c.fA c.e.fs.length c.fC) rfl
            have q7 := HP3.out.cell 7 (.string (bs c.e.bo)) rfl
            have q9 := HP3.out.cell 9 (.int .i64 c.e.gt) rfl
            have s3 := HE3.out.cell 3 (.slice Af e.fs.length cf) rfl
            have s4 := HE3.out.cell 4 (.string (bs e.bo)) rfl
            have s6 := HE3.out.cell 6 (.int .i64 e.gt) rfl
            go_wp2_with fail
            have HN := Lib.hid hg
            go_roundw
            case rel => exact ⟨j, (j : Int) - 1, by omega, by omega, rfl, HB3.out, HN.out⟩
            case measure => simp [intOf] <;> omega
        rw [if_neg e2] at hg
        by_cases e3 : c.wh.tmod 5 = 3
        · rw [if_pos e3] at hg
          have HRES : Hid (false = (true && honG a.key e P.reverse)) := by rw [← hg]; rfl
          clear hg
          go_wp2_with (first | (refine wpList_load_mid rfl 53 (.tmp 23) rfl b (off + j * 12) rfl [.int .i64 c.wh, .int .i64 c.n, .string (bs c.key), .int .i64 c.e.st, .string (bs c.e.re), .int .i64 c.e.mi, .slice c.fA c.e.fs.length c.fC, .string (bs c.e.bo), .int .i64 c.e.ak, .int .i64 c.e.gt, .slice c.vA c.e.vy.length c.vC, .slice c.rA c.req.length c.rC] _ HR.out Tryz.underlying53 rfl infoAc ?_; clear HR) | (refine wpList_store_mid rfl 53 (.tmp 8) (.tmp 24) rfl _ 0 #[.int .i64 c.wh, .int .i64 c.n, .string (bs c.key), .int .i64 c.e.st, .string (bs c.e.re), .int .i64 c.e.mi, .slice c.fA c.e.fs.length c.fC, .string (bs c.e.bo), .int .i64 c.e.ak, .int .i64 c.e.gt, .slice c.vA c.e.vy.length c.vC, .slice c.rA c.req.length c.rC] rfl rfl HTH.out infoAc HON.out ?_; clear HTH HON; generalize (World.setCells (wr.alloc (.cells #[.int .i64 0, .int .i64 0, .string ⟨#[]⟩, .int .i64 0, .string ⟨#[]⟩, .int .i64 0, .slice none 0 0, .string ⟨#[]⟩, .int .i64 0, .int .i64 0, .slice none 0 0, .slice none 0 0] 53)) wr.heap.size 0 [.int .i64 c.wh, .int .i64 c.n, .string (bs c.key), .int .i64 c.e.st, .string (bs c.e.re), .int .i64 c.e.mi, .slice c.fA c.e.fs.length c.fC, .string (bs c.e.bo), .int .i64 c.e.ak, .int .i64 c.e.gt, .slice c.vA c.e.vy.length c.vC, .slice c.rA c.req.length c.rC]) = W1 at *; generalize wr.heap.size = p at *; have q0 := HPB.out.cell 0 (.int .i64 c.wh) rfl; have q2 := HPB.out.cell 2 (.string (bs c.key)) rfl; have q6 := HPB.out.cell 6 (.slice c.fA c.e.fs.length c.fC) rfl; have q7 := HPB.out.cell 7 (.string (bs c.e.bo)) rfl; have q9 := HPB.out.cell 9 (.int .i64 c.e.gt) rfl; have q10 := HPB.out.cell 10 (.slice c.vA c.e.vy.length c.vC) rfl; have r2 := HAW.out.cell 2 (.string (bs a.key)) rfl; have s3 := HEW.out.cell 3 (.slice Af e.fs.length cf) rfl; have s4 := HEW.out.cell 4 (.string (bs e.bo)) rfl; have s6 := HEW.out.cell 6 (.int .i64 e.gt) rfl; have s7 := HEW.out.cell 7 (.slice Av e.vy.length cv) rfl))
          go_ret
          exact ⟨ret_bool HRES.out, HAL.out.trans (HBW.out.mono HAL.out.size)⟩
        rw [if_neg e3] at hg
        go_wp2_with (first | (refine wpList_load_mid rfl 53 (.tmp 23) rfl b (off + j * 12) rfl [.int .i64 c.wh, .int .i64 c.n, .string (bs c.key), .int .i64 c.e.st, .string (bs c.e.re), .int .i64 c.e.mi, .slice c.fA c.e.fs.length c.fC, .string (bs c.e.bo), .int .i64 c.e.ak, .int .i64 c.e.gt, .slice c.vA c.e.vy.length c.vC, .slice c.rA c.req.length c.rC] _ HR.out Tryz.underlying53 rfl infoAc ?_; clear HR) | (refine wpList_store_mid rfl 53 (.tmp 8) (.tmp 24) rfl _ 0 #[.int .i64 c.wh, .int .i64 c.n, .string (bs c.key), .int .i64 c.e.st, .string (bs c.e.re), .int .i64 c.e.mi, .slice c.fA c.e.fs.length c.fC, .string (bs c.e.bo), .int .i64 c.e.ak, .int .i64 c.e.gt, .slice c.vA c.e.vy.length c.vC, .slice c.rA c.req.length c.rC] rfl rfl HTH.out infoAc HON.out ?_; clear HTH HON; generalize (World.setCells (wr.alloc (.cells #[.int .i64 0, .int .i64 0, .string ⟨#[]⟩, .int .i64 0, .string ⟨#[]⟩, .int .i64 0, .slice none 0 0, .string ⟨#[]⟩, .int .i64 0, .int .i64 0, .slice none 0 0, .slice none 0 0] 53)) wr.heap.size 0 [.int .i64 c.wh, .int .i64 c.n, .string (bs c.key), .int .i64 c.e.st, .string (bs c.e.re), .int .i64 c.e.mi, .slice c.fA c.e.fs.length c.fC, .string (bs c.e.bo), .int .i64 c.e.ak, .int .i64 c.e.gt, .slice c.vA c.e.vy.length c.vC, .slice c.rA c.req.length c.rC]) = W1 at *; generalize wr.heap.size = p at *; have q0 := HPB.out.cell 0 (.int .i64 c.wh) rfl; have q2 := HPB.out.cell 2 (.string (bs c.key)) rfl; have q6 := HPB.out.cell 6 (.slice c.fA c.e.fs.length c.fC) rfl; have q7 := HPB.out.cell 7 (.string (bs c.e.bo)) rfl; have q9 := HPB.out.cell 9 (.int .i64 c.e.gt) rfl; have q10 := HPB.out.cell 10 (.slice c.vA c.e.vy.length c.vC) rfl; have r2 := HAW.out.cell 2 (.string (bs a.key)) rfl; have s3 := HEW.out.cell 3 (.slice Af e.fs.length cf) rfl; have s4 := HEW.out.cell 4 (.string (bs e.bo)) rfl; have s6 := HEW.out.cell 6 (.int .i64 e.gt) rfl; have s7 := HEW.out.cell 7 (.slice Av e.vy.length cv) rfl))
        have HN := Lib.hid hg
        go_roundw
        case rel => exact ⟨j, (j : Int) - 1, by omega, by omega, rfl, HBW.out, HN.out⟩
        case measure => simp [intOf] <;> omega
end Go.Proofs.YtopgeclecpaecaaGreatDoor
