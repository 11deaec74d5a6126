/- What is found was put, and was not taken away since; the statement StoreHonest. -/
import Derived.Test.YtopgeclecpaecaaGreatDoorKKpO
namespace Go.Proofs.YtopgeclecpaecaaGreatDoor
open Go.RowKit
/-- each entry that is kept is the last of its Vary that was put (the calls from the last to the first) -/
def HonI (R : List Ac) (A : List (It He)) : Prop := ∀ x ∈ A, honG x.2.2.key x.2.2.e R = true
theorem mem_dropK {k : List UInt8} {A : List (It He)} {x : It He} (h : x ∈ dropK k A) : x ∈ A ∧ x.1 ≠ k := by
  unfold dropK at h
  rw [List.mem_filter] at h
  exact ⟨h.1, by simpa using h.2⟩
theorem of_at {A : List (It He)} (h : Of A) {x : It He} (hx : x ∈ A) : x.1 = idT x.2.2.key x.2.2.e.vy := by rw [h x hx]; rfl
section
variable {R : List Ac} {A A' : List (It He)} {c : Ac} {n m q : Nat}
theorem hon_old {x : It He} (h : honG x.2.2.key x.2.2.e R = true) (hn : c.key = x.2.2.key → ¬ c.e.vy = x.2.2.e.vy) (h3 : c.key = x.2.2.key → ¬ c.wh.tmod 5 = 3) : honG x.2.2.key x.2.2.e (c :: R) = true := by
  unfold honG
  by_cases hk : c.key = x.2.2.key
  · rw [if_pos hk, if_neg (hn hk), if_neg (hn hk), if_neg (h3 hk)]
    simp [h]
  · rw [if_neg hk]; exact h
theorem id_vy {x : It He} (hO : Of A) (hx : x ∈ A) (hne : x.1 ≠ idT c.key c.e.vy) : c.key = x.2.2.key → ¬ c.e.vy = x.2.2.e.vy := fun hk hv => hne (by rw [of_at hO hx, hk, hv])
theorem hon_put (h : HonI R A) (hO : Of A) (h0 : c.wh.tmod 5 = 0) : HonI (c :: R) (putS n m A ⟨c.key, c.e, q⟩).2 := by
  have key : ∀ x ∈ dropK (idT c.key c.e.vy) A, honG x.2.2.key x.2.2.e (c :: R) = true := fun x hx => by
    obtain ⟨hx, hne⟩ := mem_dropK hx
    exact hon_old (h x hx) (id_vy hO hx hne) (fun _ => by omega)
  intro x hx
  unfold putS putK at hx
  split at hx
  · exact key x hx
  · rcases List.mem_append.1 hx with hx | hx
    · refine key x ?_
      obtain ⟨xs, e, -⟩ := roomK_suffix n m (sizeE c.key c.e) (dropK (idT c.key c.e.vy) A)
      have hx' : x ∈ (roomK n m (sizeE c.key c.e) (dropK (idT c.key c.e.vy) A)).2 := hx
      rw [e]
      exact List.mem_append_right _ hx'
    · rw [List.mem_singleton.1 hx]
      show honG c.key c.e (c :: R) = true
      unfold honG
      rw [if_pos rfl, if_pos h0, if_pos rfl]
      simp
theorem hon_remove (h : HonI R A) (hO : Of A) (_h0 : ¬ c.wh.tmod 5 = 0) (h2 : c.wh.tmod 5 = 2) : HonI (c :: R) (dropK (idT c.key c.e.vy) A) := fun x hx => by
  obtain ⟨hx, hne⟩ := mem_dropK hx
  exact hon_old (h x hx) (id_vy hO hx hne) (fun _ => by omega)
theorem hon_drop (h : HonI R A) : HonI (c :: R) (dropS A c.key) := fun x hx => by
  unfold dropS at hx
  rw [List.mem_filter] at hx
  have hne : ¬ x.2.2.key = c.key := by simpa using hx.2
  unfold honG
  rw [if_neg (fun e => hne e.symm)]
  exact h x hx.1
theorem hon_other (h : HonI R A) (h0 : ¬ c.wh.tmod 5 = 0) (h2 : ¬ c.wh.tmod 5 = 2) (h3 : ¬ c.wh.tmod 5 = 3) (hs : ∀ x ∈ A', x ∈ A) : HonI (c :: R) A' := fun x hx => by
  unfold honG
  rw [if_neg h0, if_neg h2, if_neg h3, ite_self]
  exact h x (hs x hx)
theorem find_sub {k : List UInt8} {req : List Fld} (hnd : (keysK A).Nodup) {x : It He} (h : x ∈ findA A k req) : x ∈ A := by
  unfold findA at h
  split at h
  · exact h
  · exact (getK_perm hnd).subset h
end
theorem latG_match (req : List Fld) : ∀ (l : List He) (i : Nat) (p : Int) (m : Nat), latG req l i p m = p ∨ ∃ j, ∃ h : j < l.length, latG req l i p m = ((i + j : Nat) : Int) ∧ matchB l[j].e.vy req = true
  | [], _, _, _ => .inl rfl
  | h :: r, i, p, m => by
    unfold latG
    by_cases hc : m < h.n ∧ matchB h.e.vy req = true
    · rw [if_pos hc]
      rcases latG_match req r (i + 1) i h.n with e | ⟨j, hj, e, hm⟩
      · exact .inr ⟨0, by simp, by rw [e]; simp, hc.2⟩
      · exact .inr ⟨j + 1, by simpa using hj, by rw [e]; congr 1; omega, by simpa using hm⟩
    · rw [if_neg hc]
      rcases latG_match req r (i + 1) p m with e | ⟨j, hj, e, hm⟩
      · exact .inl e
      · exact .inr ⟨j + 1, by simpa using hj, by rw [e]; congr 1; omega, by simpa using hm⟩
theorem found_is {A : List (It He)} {k : List UInt8} {req : List Fld} {x : It He} (h : foundS A k req = some x) : x ∈ A ∧ x.2.2.key = k ∧ matchB x.2.2.e.vy req = true := by
  unfold foundS at h
  split at h
  · cases h
  · rename_i hn
    have hm := List.mem_of_getElem? h
    rw [List.mem_filter] at hm
    refine ⟨hm.1, by simpa using hm.2, ?_⟩
    rcases latG_match req (helds A k) 0 (-1) 0 with e | ⟨j, hj, e, hmm⟩
    · exact absurd (show latS A k req < 0 from by unfold latS; rw [e]; decide) hn
    · have e2 : latS A k req = (j : Int) := by unfold latS; rw [e]; simp
      rw [e2, Int.toNat_natCast] at h
      have h5 : (helds A k)[j]? = some x.2.2 := by unfold helds; rw [List.getElem?_map, h]; rfl
      have h4 : (helds A k)[j] = x.2.2 := by
        rw [List.getElem?_eq_getElem hj] at h5
        exact Option.some.inj h5
      rw [h4] at hmm
      exact hmm
theorem Sq.facts {w0 w : World} {s n m pu : Nat} {A : List (It He)} (h : Sq w0 w s n m A pu) : Of A ∧ (keysK A).Nodup ∧ ∀ a ∈ A, SmE a.2.2.key a.2.2.e := by
  obtain ⟨X, ⟨tb, bb, umb, nF, XB, F, l, hw⟩, -⟩ := h
  exact ⟨hw.of, hw.nd2, hw.sm⟩
theorem AL.take {w : World} {A : Option Addr} {n c : Nat} {l : List Ac} (h : AL w (.slice A n c) l) {k : Nat} (hk : k ≤ l.length) : AL w (.slice A k c) (l.take k) := by
  rcases h with ⟨rfl, A', c', e⟩ | ⟨b, off, c', e, hc, hlt, hr⟩
  · cases e
    obtain rfl : k = 0 := by simpa using hk
    exact .inl ⟨rfl, _, _, rfl⟩
  · cases e
    refine .inr ⟨b, off, c, by rw [List.length_take, Nat.min_eq_left hk], by rw [List.length_take]; omega, hlt, fun j hj => ?_⟩
    rw [List.getElem_take]
    exact hr j (by rw [List.length_take] at hj; omega)
theorem exec_load_mid {o : Oper} {a : Act} {w : World} (ty : TypeId) (x : Operand) (ho : o.op = .load ty x) (b off : Nat) (hx : a.eval x = .pointer (some ⟨b, off, none⟩)) (cs : List Value) (d : TypeDesc) (hc : w.rangeAt b off cs)
    (hu : Tryz.prog.underlying ty = some d) (hd : d.isRow = true) (hi : (Tryz.prog.info? ty).map (·.size) = some cs.length) : (execOp a.eval o).run Tryz.prog w = .ok (.value (.agg cs.toArray)) w := by
  unfold execOp
  simp only [ho, hx, Instr.loadAt, Instr.sureAddr, Sem.run_bind, Sem.run_pure, Result.andThen_ok, run_loadVar_mid w b off ty cs d hc hu hd hi]
set_option maxRecDepth 100000 in
set_option maxHeartbeats 16000000 in
theorem storeHonest_law (b0 m0 : Int) (v : Value) (L : List Ac) (w : World) (he : (Lit.int .u16 b0).wf = true) (hm : (Lit.int .u16 m0).wf = true) (hv : AL w v L) (hL : ∀ j (hj : j < L.length), AcOk w L[j]) (hl : L.length ≤ 9223372036854775807) (hke : KE w) :
    Calls Tryz.prog 4 #[.agg #[.int .u16 b0, .int .u16 m0], v] w fun e w' => e = .returned (.bool true) ∧ Below w.heap.size w w' := by
  have he : 0 ≤ b0 ∧ b0 ≤ 65535 := by
    rw [Lit.wf, Bool.and_eq_true, decide_eq_true_eq, decide_eq_true_eq] at he; exact he
  have hm : 0 ≤ m0 ∧ m0 ≤ 65535 := by
    rw [Lit.wf, Bool.and_eq_true, decide_eq_true_eq, decide_eq_true_eq] at hm; exact hm
  obtain ⟨n, hn⟩ : ∃ n : Nat, (n : Int) = 1 + b0 % 8 := ⟨(1 + b0 % 8).toNat, by omega⟩
  obtain ⟨m, hmm⟩ : ∃ m : Nat, (m : Int) = 100 + m0 % 5000 := ⟨(100 + m0 % 5000).toNat, by omega⟩
  have t1 : Int.tmod b0 8 = b0 % 8 := Int.tmod_eq_emod_of_nonneg he.1
  have t2 : IntKind.u16.wrap (b0 % 8) = b0 % 8 := by rw [IntKind.wrap_u16]; omega
  have t3 : IntKind.i64.wrap (b0 % 8) = b0 % 8 := by rw [IntKind.wrap_i64]; omega
  have t4 : IntKind.i64.wrap (1 + b0 % 8) = (n : Int) := by rw [IntKind.wrap_i64]; omega
  have t5 : Int.tmod m0 5000 = m0 % 5000 := Int.tmod_eq_emod_of_nonneg hm.1
  have t6 : IntKind.u16.wrap (m0 % 5000) = m0 % 5000 := by rw [IntKind.wrap_u16]; omega
  have t7 : IntKind.i64.wrap (m0 % 5000) = m0 % 5000 := by rw [IntKind.wrap_i64]; omega
  have t8 : IntKind.i64.wrap (100 + m0 % 5000) = (m : Int) := by rw [IntKind.wrap_i64]; omega
  have b1 : 1 ≤ n := by omega
  have b2 : n ≤ 4096 := by omega
  have b3 : 1 ≤ m := by omega
  have b4 : m ≤ 1073741824 := by omega
  have hal : Below w.heap.size w (w.alloc (.cells #[.int .u16 b0, .int .u16 m0] 49)) := (Below.refl _ _).alloc (Nat.le_refl _) _
  have hq := bk.new w #[.int .u16 b0, .int .u16 m0] 49
  have q0 := hq.cell 0 (.int .u16 b0) rfl
  have q1 := hq.cell 1 (.int .u16 m0) rfl
  have HV := Lib.hid (hv.bel hal); have HL := Lib.hid (AcOk.at_ hL hal); have HKE := Lib.hid (hke.bel hal); have HAL := Lib.hid hal
  have HLL : Hid (L.length ≤ 9223372036854775807) := hl
  obtain ⟨Av, cv, rfl⟩ := hv.form
  clear hv hL hn hmm he hm hq hal hke
  generalize b0 % 8 = b8 at *
  generalize m0 % 5000 = m5 at *
  go_enter Tryz.func4, Tryz.ntmps4
  go_wp2_with fail
  generalize (w.alloc (.cells #[.int .u16 b0, .int .u16 m0] 49)) = W0 at *
  have HNEW : Hid (∀ W, Below W0.heap.size W0 W → Calls Tryz.prog 7 #[.int .i64 n, .int .i64 m] W fun r w' => ∃ s, r = .returned (.pointer (some ⟨s, 0, none⟩)) ∧ Sq W0 w' s n m [] 0) := fun W hb => (sq_new n m W b1 b2 b3 b4 (HKE.out.bel hb)).mono fun r w' ⟨s, hr, hs⟩ => ⟨s, hr, hs.from HKE.out hb⟩
  have HFW := Lib.hid (fun W (hb : Below W0.heap.size W0 W) => fewK_any (HV.out.bel hb) (AcOk.at_ HL.out hb) HLL.out)
  have HN8 : Hid (n ≤ 4096) := b2
  have HAW := Lib.hid (fun W (hk : KE W) => sawake_any W hk)
  clear b1 b2 b3 b4
  refine (HNEW.out _ (Below.refl _ _)).mono ?_
  rintro r w1 ⟨s, rfl, hs⟩
  have HS1 := Lib.hid hs
  clear hs HNEW t1 t2 t3 t4 t5 t6 t7 t8 q0 q1
  go_wp2_with fail
  refine (HFW.out _ HS1.out.below).mono ?_
  rintro r w2 ⟨bb, rfl, hfew, hb⟩
  have HS2 := Lib.hid (HS1.out.bel hb)
  clear HS1 hb HFW
  cases bb with
  | false =>
    clear hfew
    go_wp2_with fail
    refine (HAW.out _ HS2.out.ke).mono ?_
    rintro r w3 ⟨rfl, hb⟩
    have HB3 := Lib.hid (HS2.out.fin HAL.out hb)
    clear hb
    go_wp2_with fail
    go_ret
    exact ⟨rfl, HB3.out⟩
  | true =>
    obtain ⟨h60, hsm⟩ := hfew rfl
    have HSM := Lib.hid hsm
    clear hfew hsm
    go_wp2_with fail
    go_loopw [6] (fun i wr => ∃ k : Nat, k ≤ L.length ∧ i = .int .i64 k ∧ ∃ A pu, Hid (Sq W0 wr s n m A pu) ∧ Hid (pu ≤ k) ∧ Hid (HonI (L.take k).reverse A)) (fun i _ => L.length - (intOf i).toNat)
    case atStart => exact ⟨0, Nat.zero_le _, rfl, [], 0, HS2.out, Nat.le_refl _, fun x hx => by cases hx⟩
    case round =>
      obtain ⟨k, hk, rfl, A, pu, HQ, HPU, HH⟩ := hrel
      by_cases hlt : k < L.length
      · have hki : (k : Int) < (L.length : Int) := by omega
        have hpu : pu < 1000000 := by have := HPU.out; omega
        obtain ⟨b, off, rfl, hr, hcl⟩ := HV.out.at_ HQ.out.below k hlt
        have hak := HL.out k hlt
        have hsa := HSM.out _ (List.getElem_mem hlt)
        have HTR : Hid ((L.take (k + 1)).reverse = L[k] :: (L.take k).reverse) := by
          show _ = _
          rw [List.take_succ_eq_append_getElem hlt, List.reverse_append]; rfl
        have HOF := Lib.hid HQ.out.facts
        generalize L[k] = a at *
        have HR := Lib.hid hr; have HAK := Lib.hid hak; have HSA := Lib.hid hsa
        clear hr hak hsa
        have hw1 := HAK.out.w1; have hw2 := HAK.out.w2
        have h5 := tm5 a.wh
        have hw5 : IntKind.i64.wrap (Int.tmod a.wh 5) = Int.tmod a.wh 5 := IntWalk.i64_in _ (by omega)
        have HTK := Lib.hid (ac_taken (w := wr) a); have HTH := Lib.hid (ac_there (w := wr))
        have HON := Lib.hid (ac_one a)
        have HQB := Lib.hid (HQ.out.held HTK.out.2 HTK.out.1)
        clear HTK HQ HS2
        by_cases e0 : a.wh.tmod 5 = 0
        · have HC : Hid (∀ W, Sq W0 W s n m A pu → Calls Tryz.prog 11 #[.pointer (some ⟨s, 0, none⟩), .string (bs a.key), .agg #[.int .i64 a.e.st, .string (bs a.e.re), .int .i64 a.e.mi, .slice a.fA a.e.fs.length a.fC, .string (bs a.e.bo), .int .i64 a.e.ak, .int .i64 a.e.gt, .slice a.vA a.e.vy.length a.vC]] W fun r w' => r = .returned (.bool (decide (sizeE a.key a.e ≤ m))) ∧ Sq W0 w' s n m (putS n m A ⟨a.key, a.e, pu + 1⟩).2 (pu + 1)) := fun W h => sq_put h a.key a.e a.fv a.vv HAK.out.ff HAK.out.fv HSA.out.e hpu
          have HH3 : Hid (HonI (L.take (k + 1)).reverse (putS n m A ⟨a.key, a.e, pu + 1⟩).2) := by
            show HonI _ _
            rw [HTR.out]
            exact hon_put HH.out HOF.out.1 e0
          go_wp2_with (first | (refine wpList_load_mid rfl 53 (.tmp 35) rfl b (off + k * 12) rfl [.int .i64 a.wh, .int .i64 a.n, .string (bs a.key), .int .i64 a.e.st, .string (bs a.e.re), .int .i64 a.e.mi, .slice a.fA a.e.fs.length a.fC, .string (bs a.e.bo), .int .i64 a.e.ak, .int .i64 a.e.gt, .slice a.vA a.e.vy.length a.vC, .slice a.rA a.req.length a.rC] _ HR.out Tryz.underlying53 rfl infoAc ?_; clear HR) | (refine wpList_store_mid rfl 53 (.tmp 7) (.tmp 36) rfl _ 0 #[.int .i64 a.wh, .int .i64 a.n, .string (bs a.key), .int .i64 a.e.st, .string (bs a.e.re), .int .i64 a.e.mi, .slice a.fA a.e.fs.length a.fC, .string (bs a.e.bo), .int .i64 a.e.ak, .int .i64 a.e.gt, .slice a.vA a.e.vy.length a.vC, .slice a.rA a.req.length a.rC] rfl rfl HTH.out infoAc HON.out ?_; clear HTH HON; generalize (World.setCells (wr.alloc (.cells #[.int .i64 0, .int .i64 0, .string ⟨#[]⟩, .int .i64 0, .string ⟨#[]⟩, .int .i64 0, .slice none 0 0, .string ⟨#[]⟩, .int .i64 0, .int .i64 0, .slice none 0 0, .slice none 0 0] 53)) wr.heap.size 0 [.int .i64 a.wh, .int .i64 a.n, .string (bs a.key), .int .i64 a.e.st, .string (bs a.e.re), .int .i64 a.e.mi, .slice a.fA a.e.fs.length a.fC, .string (bs a.e.bo), .int .i64 a.e.ak, .int .i64 a.e.gt, .slice a.vA a.e.vy.length a.vC, .slice a.rA a.req.length a.rC]) = W1 at *; generalize wr.heap.size = p at *; have q0 := HQB.out.blk.cell 0 (.int .i64 a.wh) rfl; have q1 := HQB.out.blk.cell 1 (.int .i64 a.n) rfl; have q2 := HQB.out.blk.cell 2 (.string (bs a.key)) rfl; have q11 := HQB.out.blk.cell 11 (.slice a.rA a.req.length a.rC) rfl; have HLD := Lib.hid (ent_range HQB.out.blk)) | (refine wpList_load_mid rfl 28 (.tmp 49) rfl p 3 rfl [.int .i64 a.e.st, .string (bs a.e.re), .int .i64 a.e.mi, .slice a.fA a.e.fs.length a.fC, .string (bs a.e.bo), .int .i64 a.e.ak, .int .i64 a.e.gt, .slice a.vA a.e.vy.length a.vC] _ HLD.out Tryz.underlying28 rfl infoEn.out ?_; clear HLD))
          refine (HC.out _ HQB.out.sq).mono ?_
          rintro r w3 ⟨rfl, hs⟩
          have HS3 := Lib.hid hs
          have HPX : Hid ((pu + 1) ≤ k + 1) := by have := HPU.out; show _ ≤ _; omega
          clear hs HQB q0 q1 q2 q11
          generalize (putS n m A ⟨a.key, a.e, pu + 1⟩).2 = A2 at *
          go_wp2_with fail
          go_roundw
          case rel => exact ⟨k + 1, by omega, by go_num, A2, (pu + 1), HS3.out, HPX.out, HH3.out⟩
          case measure => simp [intOf] <;> omega
        by_cases e2 : a.wh.tmod 5 = 2
        · have HC : Hid (∀ W, Sq W0 W s n m A pu → Calls Tryz.prog 21 #[.pointer (some ⟨s, 0, none⟩), .string (bs a.key), .agg #[.int .i64 a.e.st, .string (bs a.e.re), .int .i64 a.e.mi, .slice a.fA a.e.fs.length a.fC, .string (bs a.e.bo), .int .i64 a.e.ak, .int .i64 a.e.gt, .slice a.vA a.e.vy.length a.vC]] W fun r w' => r = .returned (.bool (hasK (idT a.key a.e.vy) A)) ∧ Sq W0 w' s n m (dropK (idT a.key a.e.vy) A) pu) := fun W h => sq_remove h a.key a.e a.fv a.vv HAK.out.ff HAK.out.fv HSA.out.e hpu
          have HH3 : Hid (HonI (L.take (k + 1)).reverse (dropK (idT a.key a.e.vy) A)) := by
            show HonI _ _
            rw [HTR.out]
            exact hon_remove HH.out HOF.out.1 e0 e2
          go_wp2_with (first | (refine wpList_load_mid rfl 53 (.tmp 35) rfl b (off + k * 12) rfl [.int .i64 a.wh, .int .i64 a.n, .string (bs a.key), .int .i64 a.e.st, .string (bs a.e.re), .int .i64 a.e.mi, .slice a.fA a.e.fs.length a.fC, .string (bs a.e.bo), .int .i64 a.e.ak, .int .i64 a.e.gt, .slice a.vA a.e.vy.length a.vC, .slice a.rA a.req.length a.rC] _ HR.out Tryz.underlying53 rfl infoAc ?_; clear HR) | (refine wpList_store_mid rfl 53 (.tmp 7) (.tmp 36) rfl _ 0 #[.int .i64 a.wh, .int .i64 a.n, .string (bs a.key), .int .i64 a.e.st, .string (bs a.e.re), .int .i64 a.e.mi, .slice a.fA a.e.fs.length a.fC, .string (bs a.e.bo), .int .i64 a.e.ak, .int .i64 a.e.gt, .slice a.vA a.e.vy.length a.vC, .slice a.rA a.req.length a.rC] rfl rfl HTH.out infoAc HON.out ?_; clear HTH HON; generalize (World.setCells (wr.alloc (.cells #[.int .i64 0, .int .i64 0, .string ⟨#[]⟩, .int .i64 0, .string ⟨#[]⟩, .int .i64 0, .slice none 0 0, .string ⟨#[]⟩, .int .i64 0, .int .i64 0, .slice none 0 0, .slice none 0 0] 53)) wr.heap.size 0 [.int .i64 a.wh, .int .i64 a.n, .string (bs a.key), .int .i64 a.e.st, .string (bs a.e.re), .int .i64 a.e.mi, .slice a.fA a.e.fs.length a.fC, .string (bs a.e.bo), .int .i64 a.e.ak, .int .i64 a.e.gt, .slice a.vA a.e.vy.length a.vC, .slice a.rA a.req.length a.rC]) = W1 at *; generalize wr.heap.size = p at *; have q0 := HQB.out.blk.cell 0 (.int .i64 a.wh) rfl; have q1 := HQB.out.blk.cell 1 (.int .i64 a.n) rfl; have q2 := HQB.out.blk.cell 2 (.string (bs a.key)) rfl; have q11 := HQB.out.blk.cell 11 (.slice a.rA a.req.length a.rC) rfl; have HLD := Lib.hid (ent_range HQB.out.blk)) | (refine wpList_load_mid rfl 28 (.tmp 57) rfl p 3 rfl [.int .i64 a.e.st, .string (bs a.e.re), .int .i64 a.e.mi, .slice a.fA a.e.fs.length a.fC, .string (bs a.e.bo), .int .i64 a.e.ak, .int .i64 a.e.gt, .slice a.vA a.e.vy.length a.vC] _ HLD.out Tryz.underlying28 rfl infoEn.out ?_; clear HLD))
          refine (HC.out _ HQB.out.sq).mono ?_
          rintro r w3 ⟨rfl, hs⟩
          have HS3 := Lib.hid hs
          have HPX : Hid (pu ≤ k + 1) := by have := HPU.out; show _ ≤ _; omega
          clear hs HQB q0 q1 q2 q11
          generalize (dropK (idT a.key a.e.vy) A) = A2 at *
          go_wp2_with fail
          go_roundw
          case rel => exact ⟨k + 1, by omega, by go_num, A2, pu, HS3.out, HPX.out, HH3.out⟩
          case measure => simp [intOf] <;> omega
        by_cases e3 : a.wh.tmod 5 = 3
        · have HC : Hid (∀ W, Sq W0 W s n m A pu → Calls Tryz.prog 20 #[.pointer (some ⟨s, 0, none⟩), .string (bs a.key)] W fun r w' => r = .returned (.int .i64 ((rowS A a.key).length : Int)) ∧ Sq W0 w' s n m (dropS A a.key) pu) := fun W h => sq_drop h a.key HSA.out.k
          have HH3 : Hid (HonI (L.take (k + 1)).reverse (dropS A a.key)) := by
            show HonI _ _
            rw [HTR.out]
            exact hon_drop HH.out
          go_wp2_with (first | (refine wpList_load_mid rfl 53 (.tmp 35) rfl b (off + k * 12) rfl [.int .i64 a.wh, .int .i64 a.n, .string (bs a.key), .int .i64 a.e.st, .string (bs a.e.re), .int .i64 a.e.mi, .slice a.fA a.e.fs.length a.fC, .string (bs a.e.bo), .int .i64 a.e.ak, .int .i64 a.e.gt, .slice a.vA a.e.vy.length a.vC, .slice a.rA a.req.length a.rC] _ HR.out Tryz.underlying53 rfl infoAc ?_; clear HR) | (refine wpList_store_mid rfl 53 (.tmp 7) (.tmp 36) rfl _ 0 #[.int .i64 a.wh, .int .i64 a.n, .string (bs a.key), .int .i64 a.e.st, .string (bs a.e.re), .int .i64 a.e.mi, .slice a.fA a.e.fs.length a.fC, .string (bs a.e.bo), .int .i64 a.e.ak, .int .i64 a.e.gt, .slice a.vA a.e.vy.length a.vC, .slice a.rA a.req.length a.rC] rfl rfl HTH.out infoAc HON.out ?_; clear HTH HON; generalize (World.setCells (wr.alloc (.cells #[.int .i64 0, .int .i64 0, .string ⟨#[]⟩, .int .i64 0, .string ⟨#[]⟩, .int .i64 0, .slice none 0 0, .string ⟨#[]⟩, .int .i64 0, .int .i64 0, .slice none 0 0, .slice none 0 0] 53)) wr.heap.size 0 [.int .i64 a.wh, .int .i64 a.n, .string (bs a.key), .int .i64 a.e.st, .string (bs a.e.re), .int .i64 a.e.mi, .slice a.fA a.e.fs.length a.fC, .string (bs a.e.bo), .int .i64 a.e.ak, .int .i64 a.e.gt, .slice a.vA a.e.vy.length a.vC, .slice a.rA a.req.length a.rC]) = W1 at *; generalize wr.heap.size = p at *; have q0 := HQB.out.blk.cell 0 (.int .i64 a.wh) rfl; have q1 := HQB.out.blk.cell 1 (.int .i64 a.n) rfl; have q2 := HQB.out.blk.cell 2 (.string (bs a.key)) rfl; have q11 := HQB.out.blk.cell 11 (.slice a.rA a.req.length a.rC) rfl; have HLD := Lib.hid (ent_range HQB.out.blk)))
          refine (HC.out _ HQB.out.sq).mono ?_
          rintro r w3 ⟨rfl, hs⟩
          have HS3 := Lib.hid hs
          have HPX : Hid (pu ≤ k + 1) := by have := HPU.out; show _ ≤ _; omega
          clear hs HQB q0 q1 q2 q11 HLD
          generalize (dropS A a.key) = A2 at *
          go_wp2_with fail
          go_roundw
          case rel => exact ⟨k + 1, by omega, by go_num, A2, pu, HS3.out, HPX.out, HH3.out⟩
          case measure => simp [intOf] <;> omega
        by_cases e1 : a.wh.tmod 5 = 1
        · have HC : Hid (∀ W, SqB W0 W s n m A pu wr.heap.size (acC a).toArray → Calls Tryz.prog 22 #[.pointer (some ⟨s, 0, none⟩), .string (bs a.key), .slice a.rA a.req.length a.rC] W fun r w' => FoundV (foundS A a.key a.req) W.heap.size r w' ∧ SqB W0 w' s n m (findA A a.key a.req) pu wr.heap.size (acC a).toArray) := fun W h => sqb_find h a.key HSA.out.k a.rv a.req HAK.out.fr HSA.out.r (by omega)
          have HH3 : Hid (HonI (L.take (k + 1)).reverse (findA A a.key a.req)) := by
            show HonI _ _
            rw [HTR.out]
            exact hon_other HH.out e0 e2 e3 (fun x hx => find_sub HOF.out.2.1 hx)
          go_wp2_with (first | (refine wpList_load_mid rfl 53 (.tmp 35) rfl b (off + k * 12) rfl [.int .i64 a.wh, .int .i64 a.n, .string (bs a.key), .int .i64 a.e.st, .string (bs a.e.re), .int .i64 a.e.mi, .slice a.fA a.e.fs.length a.fC, .string (bs a.e.bo), .int .i64 a.e.ak, .int .i64 a.e.gt, .slice a.vA a.e.vy.length a.vC, .slice a.rA a.req.length a.rC] _ HR.out Tryz.underlying53 rfl infoAc ?_; clear HR) | (refine wpList_store_mid rfl 53 (.tmp 7) (.tmp 36) rfl _ 0 #[.int .i64 a.wh, .int .i64 a.n, .string (bs a.key), .int .i64 a.e.st, .string (bs a.e.re), .int .i64 a.e.mi, .slice a.fA a.e.fs.length a.fC, .string (bs a.e.bo), .int .i64 a.e.ak, .int .i64 a.e.gt, .slice a.vA a.e.vy.length a.vC, .slice a.rA a.req.length a.rC] rfl rfl HTH.out infoAc HON.out ?_; clear HTH HON; generalize (World.setCells (wr.alloc (.cells #[.int .i64 0, .int .i64 0, .string ⟨#[]⟩, .int .i64 0, .string ⟨#[]⟩, .int .i64 0, .slice none 0 0, .string ⟨#[]⟩, .int .i64 0, .int .i64 0, .slice none 0 0, .slice none 0 0] 53)) wr.heap.size 0 [.int .i64 a.wh, .int .i64 a.n, .string (bs a.key), .int .i64 a.e.st, .string (bs a.e.re), .int .i64 a.e.mi, .slice a.fA a.e.fs.length a.fC, .string (bs a.e.bo), .int .i64 a.e.ak, .int .i64 a.e.gt, .slice a.vA a.e.vy.length a.vC, .slice a.rA a.req.length a.rC]) = W1 at *; generalize wr.heap.size = p at *; have q0 := HQB.out.blk.cell 0 (.int .i64 a.wh) rfl; have q1 := HQB.out.blk.cell 1 (.int .i64 a.n) rfl; have q2 := HQB.out.blk.cell 2 (.string (bs a.key)) rfl; have q11 := HQB.out.blk.cell 11 (.slice a.rA a.req.length a.rC) rfl; have HLD := Lib.hid (ent_range HQB.out.blk)))
          refine (HC.out _ HQB.out).mono ?_
          rintro r w3 ⟨⟨v3, b3, rfl, hf⟩, hs⟩
          have HSB := Lib.hid hs
          have HPX : Hid (pu ≤ k + 1) := by have := HPU.out; show _ ≤ _; omega
          clear hs HQB q0 q1 q2 q11 HLD HC
          generalize findA A a.key a.req = A2 at *
          have hbz := bk.new w3 #[.int .i64 0, .string ⟨#[]⟩, .int .i64 0, .slice none 0 0, .string ⟨#[]⟩, .int .i64 0, .int .i64 0, .slice none 0 0] 28
          have HST : Hid (World.there (w3.alloc (.cells #[.int .i64 0, .string ⟨#[]⟩, .int .i64 0, .slice none 0 0, .string ⟨#[]⟩, .int .i64 0, .int .i64 0, .slice none 0 0] 28)) w3.heap.size 0 8) := hbz.there 0 8 (by decide)
          cases hfo : foundS A a.key a.req with
          | none =>
            rw [hfo] at hf
            obtain ⟨rfl, rfl⟩ := hf
            have HON2 : Hid ((#[.int .i64 0, .string ⟨#[]⟩, .int .i64 0, .slice none 0 0, .string ⟨#[]⟩, .int .i64 0, .int .i64 0, .slice none 0 0] : Array Value).all (·.oneCell') = true) := by show _ = true; kernel_rfl
            have HBZ : Hid (Below w3.heap.size w3 (World.setCells (w3.alloc (.cells #[.int .i64 0, .string ⟨#[]⟩, .int .i64 0, .slice none 0 0, .string ⟨#[]⟩, .int .i64 0, .int .i64 0, .slice none 0 0] 28)) w3.heap.size 0 [.int .i64 0, .string ⟨#[]⟩, .int .i64 0, .slice none 0 0, .string ⟨#[]⟩, .int .i64 0, .int .i64 0, .slice none 0 0])) := Below.cells ((Below.refl _ _).alloc (Nat.le_refl _) _) _ (Nat.le_refl _) _ 0
            have HS3 := Lib.hid (HSB.out.sq.bel HBZ.out)
            clear HBZ HSB hbz hfo
            go_wp2_with (refine wpList_store_mid rfl 28 (.tmp 8) (.tmp 75) rfl _ 0 #[.int .i64 0, .string ⟨#[]⟩, .int .i64 0, .slice none 0 0, .string ⟨#[]⟩, .int .i64 0, .int .i64 0, .slice none 0 0] rfl rfl HST.out infoEn.out HON2.out ?_; clear HST; generalize (World.setCells (w3.alloc (.cells #[.int .i64 0, .string ⟨#[]⟩, .int .i64 0, .slice none 0 0, .string ⟨#[]⟩, .int .i64 0, .int .i64 0, .slice none 0 0] 28)) w3.heap.size 0 [.int .i64 0, .string ⟨#[]⟩, .int .i64 0, .slice none 0 0, .string ⟨#[]⟩, .int .i64 0, .int .i64 0, .slice none 0 0]) = W4 at *)
            go_quiet (fail)
            go_wp2_with fail
            go_roundw
            case rel => exact ⟨k + 1, by omega, by go_num, A2, pu, HS3.out.bel (below_dn (Below.refl _ _) _), HPX.out, HH3.out⟩
            case measure => simp [intOf] <;> omega
          | some x =>
            rw [hfo] at hf
            obtain ⟨rfl, vf, vv, rfl, of, ov⟩ := hf
            obtain ⟨hxA, hxk, hxm⟩ := found_is hfo
            have hxs := HOF.out.2.2 x hxA
            have hxh := HH.out x hxA
            rw [hxk] at hxh
            obtain ⟨Af, cf, rfl⟩ := of.form
            obtain ⟨Av, cv2, rfl⟩ := ov.form
            have HON2 : Hid ((#[.int .i64 x.2.2.e.st, .string (bs x.2.2.e.re), .int .i64 x.2.2.e.mi, .slice Af x.2.2.e.fs.length cf, .string (bs x.2.2.e.bo), .int .i64 x.2.2.e.ak, .int .i64 x.2.2.e.gt, .slice Av x.2.2.e.vy.length cv2] : Array Value).all (·.oneCell') = true) := ent_one x.2.2.e _ _ of.fl ov.fl
            have HBZ : Hid (Below w3.heap.size w3 (World.setCells (w3.alloc (.cells #[.int .i64 0, .string ⟨#[]⟩, .int .i64 0, .slice none 0 0, .string ⟨#[]⟩, .int .i64 0, .int .i64 0, .slice none 0 0] 28)) w3.heap.size 0 [.int .i64 x.2.2.e.st, .string (bs x.2.2.e.re), .int .i64 x.2.2.e.mi, .slice Af x.2.2.e.fs.length cf, .string (bs x.2.2.e.bo), .int .i64 x.2.2.e.ak, .int .i64 x.2.2.e.gt, .slice Av x.2.2.e.vy.length cv2])) := Below.cells ((Below.refl _ _).alloc (Nat.le_refl _) _) _ (Nat.le_refl _) _ 0
            have HSB4 := Lib.hid (HSB.out.bel HBZ.out)
            have HPX8 := Lib.hid (hbz.setAll [.int .i64 x.2.2.e.st, .string (bs x.2.2.e.re), .int .i64 x.2.2.e.mi, .slice Af x.2.2.e.fs.length cf, .string (bs x.2.2.e.bo), .int .i64 x.2.2.e.ak, .int .i64 x.2.2.e.gt, .slice Av x.2.2.e.vy.length cv2] rfl)
            have HFF := Lib.hid (of.fl.bel HBZ.out); have HVV := Lib.hid (ov.fl.bel HBZ.out)
            have HXS := Lib.hid hxs; have HXH := Lib.hid hxh; have HXM := Lib.hid hxm
            have HKC : Hid ((k : Int) ≤ (cv : Int)) := by show _ ≤ _; omega
            clear HBZ HSB hbz hfo of ov hxs hxh hxm hxA hxk
            unfold entV
            go_wp2_with (refine wpList_store_mid rfl 28 (.tmp 8) (.tmp 75) rfl _ 0 #[.int .i64 x.2.2.e.st, .string (bs x.2.2.e.re), .int .i64 x.2.2.e.mi, .slice Af x.2.2.e.fs.length cf, .string (bs x.2.2.e.bo), .int .i64 x.2.2.e.ak, .int .i64 x.2.2.e.gt, .slice Av x.2.2.e.vy.length cv2] rfl rfl HST.out infoEn.out HON2.out ?_; clear HST; generalize (World.setCells (w3.alloc (.cells #[.int .i64 0, .string ⟨#[]⟩, .int .i64 0, .slice none 0 0, .string ⟨#[]⟩, .int .i64 0, .int .i64 0, .slice none 0 0] 28)) w3.heap.size 0 [.int .i64 x.2.2.e.st, .string (bs x.2.2.e.re), .int .i64 x.2.2.e.mi, .slice Af x.2.2.e.fs.length cf, .string (bs x.2.2.e.bo), .int .i64 x.2.2.e.ak, .int .i64 x.2.2.e.gt, .slice Av x.2.2.e.vy.length cv2]) = W4 at *)
            generalize w3.heap.size = p8 at *
            have HPK := Lib.hid HSB4.out.blk
            have HHO : Hid (∀ W, Below W4.heap.size W4 W → Calls Tryz.prog 25 #[.slice (some ⟨b, off, none⟩) k cv, .agg #[.int .i64 a.wh, .int .i64 a.n, .string (bs a.key), .int .i64 a.e.st, .string (bs a.e.re), .int .i64 a.e.mi, .slice a.fA a.e.fs.length a.fC, .string (bs a.e.bo), .int .i64 a.e.ak, .int .i64 a.e.gt, .slice a.vA a.e.vy.length a.vC, .slice a.rA a.req.length a.rC], .agg #[.int .i64 x.2.2.e.st, .string (bs x.2.2.e.re), .int .i64 x.2.2.e.mi, .slice Af x.2.2.e.fs.length cf, .string (bs x.2.2.e.bo), .int .i64 x.2.2.e.ak, .int .i64 x.2.2.e.gt, .slice Av x.2.2.e.vy.length cv2]] W fun r w' => r = .returned (.bool true) ∧ Below W4.heap.size W4 w') := fun W hb => by
              have hbw := HSB4.out.sq.below.trans (hb.mono HSB4.out.sq.below.size)
              have h1 := honest_any (w := W) (P := L.take k) ((AL.take HV.out (Nat.le_of_lt hlt)).bel hbw) (fun j hj => by rw [List.getElem_take]; exact (HL.out j (by rw [List.length_take] at hj; omega)).bel hbw) (fun c hc => HSM.out c (List.mem_of_mem_take hc)) (by rw [List.length_take]; omega) a (HAK.out.fr.bel hbw) HSA.out.r x.2.2.e Af Av cf cv2 (HFF.out.bel hb) (HVV.out.bel hb) HXS.out.vy HXS.out.fs
              rw [HXM.out, HXH.out] at h1
              exact h1.mono fun r w' q => ⟨q.1, hb.trans (q.2.mono hb.size)⟩
            refine wp_region_growS (.one 0 false (.one 1 false (.one 2 false (.one 3 false (.one 4 false (.one 5 false (.one 6 false (.one 7 true (.one 8 false (.one 9 false .done))))))))))
              (fun W => Below W4.heap.size W4 W) (by kernel_rfl) (by kernel_rfl) rfl (by kernel_rfl) (by kernel_rfl) (Below.refl _ _).drew (fun ops hops => ?_)
            simp only [GT.ins, List.getD_cons_zero, List.getD_cons_succ]
            have g1 : (ops[1]?).bind (·.dst) = some 78 := by rw [hops.out]; rfl
            have G1 := Lib.hid g1
            clear hops g1
            iterate 2
              refine growS_take (by rfl) ?_
              apply Exists.intro
              refine ⟨fun w' hE => ?_, ?_⟩
              · have hkc : (k : Int) ≤ (cv : Int) := HKC.out
                first | (exact exec_load_mid 53 _ rfl p 0 rfl [.int .i64 a.wh, .int .i64 a.n, .string (bs a.key), .int .i64 a.e.st, .string (bs a.e.re), .int .i64 a.e.mi, .slice a.fA a.e.fs.length a.fC, .string (bs a.e.bo), .int .i64 a.e.ak, .int .i64 a.e.gt, .slice a.vA a.e.vy.length a.vC, .slice a.rA a.req.length a.rC] _ (HPK.out.below hE).range0 Tryz.underlying53 rfl infoAc) | (exact exec_load_mid 28 _ rfl p8 0 rfl [.int .i64 x.2.2.e.st, .string (bs x.2.2.e.re), .int .i64 x.2.2.e.mi, .slice Af x.2.2.e.fs.length cf, .string (bs x.2.2.e.bo), .int .i64 x.2.2.e.ak, .int .i64 x.2.2.e.gt, .slice Av x.2.2.e.vy.length cv2] _ (HPX8.out.below hE).range0 Tryz.underlying28 rfl infoEn.out) | (go_simp; try with_reducible rfl)
              simp only [Act.put, List.setIfInBounds_toArray, List.set_cons_zero, List.set_cons_succ]
            iterate 5
              refine growS_take (wantedS G1.out rfl rfl) ?_
              apply Exists.intro
              refine ⟨fun w' hE => ?_, ?_⟩
              · have hkc : (k : Int) ≤ (cv : Int) := HKC.out
                first | (exact exec_load_mid 53 _ rfl p 0 rfl [.int .i64 a.wh, .int .i64 a.n, .string (bs a.key), .int .i64 a.e.st, .string (bs a.e.re), .int .i64 a.e.mi, .slice a.fA a.e.fs.length a.fC, .string (bs a.e.bo), .int .i64 a.e.ak, .int .i64 a.e.gt, .slice a.vA a.e.vy.length a.vC, .slice a.rA a.req.length a.rC] _ (HPK.out.below hE).range0 Tryz.underlying53 rfl infoAc) | (exact exec_load_mid 28 _ rfl p8 0 rfl [.int .i64 x.2.2.e.st, .string (bs x.2.2.e.re), .int .i64 x.2.2.e.mi, .slice Af x.2.2.e.fs.length cf, .string (bs x.2.2.e.bo), .int .i64 x.2.2.e.ak, .int .i64 x.2.2.e.gt, .slice Av x.2.2.e.vy.length cv2] _ (HPX8.out.below hE).range0 Tryz.underlying28 rfl infoEn.out) | (go_simp; try with_reducible rfl)
              simp only [Act.put, List.setIfInBounds_toArray, List.set_cons_zero, List.set_cons_succ]
            refine growS_call (wantedS G1.out rfl rfl) (fun K hK => ?_)
            go_simp
            refine (HHO.out _ ((Below.refl _ _).drew)).mono ?_
            rintro r w5 ⟨rfl, hb5⟩
            have HB5 : Hid (Below W4.heap.size W4 w5) := hb5
            refine hK.out _ _ HB5.out ?_
            clear hK K hb5
            iterate 1
              refine growS_take (wantedS G1.out rfl rfl) ?_
              apply Exists.intro
              refine ⟨fun w' hE => ?_, ?_⟩
              · have hkc : (k : Int) ≤ (cv : Int) := HKC.out
                first | (exact exec_load_mid 53 _ rfl p 0 rfl [.int .i64 a.wh, .int .i64 a.n, .string (bs a.key), .int .i64 a.e.st, .string (bs a.e.re), .int .i64 a.e.mi, .slice a.fA a.e.fs.length a.fC, .string (bs a.e.bo), .int .i64 a.e.ak, .int .i64 a.e.gt, .slice a.vA a.e.vy.length a.vC, .slice a.rA a.req.length a.rC] _ (HPK.out.below hE).range0 Tryz.underlying53 rfl infoAc) | (exact exec_load_mid 28 _ rfl p8 0 rfl [.int .i64 x.2.2.e.st, .string (bs x.2.2.e.re), .int .i64 x.2.2.e.mi, .slice Af x.2.2.e.fs.length cf, .string (bs x.2.2.e.bo), .int .i64 x.2.2.e.ak, .int .i64 x.2.2.e.gt, .slice Av x.2.2.e.vy.length cv2] _ (HPX8.out.below hE).range0 Tryz.underlying28 rfl infoEn.out) | (go_simp; try with_reducible rfl)
              simp only [Act.put, List.setIfInBounds_toArray, List.set_cons_zero, List.set_cons_succ]
            iterate 1
              refine growS_take (by rfl) ?_
              apply Exists.intro
              refine ⟨fun w' hE => ?_, ?_⟩
              · have hkc : (k : Int) ≤ (cv : Int) := HKC.out
                first | (exact exec_load_mid 53 _ rfl p 0 rfl [.int .i64 a.wh, .int .i64 a.n, .string (bs a.key), .int .i64 a.e.st, .string (bs a.e.re), .int .i64 a.e.mi, .slice a.fA a.e.fs.length a.fC, .string (bs a.e.bo), .int .i64 a.e.ak, .int .i64 a.e.gt, .slice a.vA a.e.vy.length a.vC, .slice a.rA a.req.length a.rC] _ (HPK.out.below hE).range0 Tryz.underlying53 rfl infoAc) | (exact exec_load_mid 28 _ rfl p8 0 rfl [.int .i64 x.2.2.e.st, .string (bs x.2.2.e.re), .int .i64 x.2.2.e.mi, .slice Af x.2.2.e.fs.length cf, .string (bs x.2.2.e.bo), .int .i64 x.2.2.e.ak, .int .i64 x.2.2.e.gt, .slice Av x.2.2.e.vy.length cv2] _ (HPX8.out.below hE).range0 Tryz.underlying28 rfl infoEn.out) | (go_simp; try with_reducible rfl)
              simp only [Act.put, List.setIfInBounds_toArray, List.set_cons_zero, List.set_cons_succ]
            refine growS_done (NoPanic.normal ?_)
            go_wp2_with fail
            go_roundw
            case rel => exact ⟨k + 1, by omega, by go_num, A2, pu, HSB4.out.sq.bel HB5.out, HPX.out, HH3.out⟩
            case measure => simp [intOf] <;> omega
        have HC : Hid (∀ W, Sq W0 W s n m A pu → Calls Tryz.prog 18 #[.pointer (some ⟨s, 0, none⟩), .int .i64 a.n] W fun r w' => r = .returned (.bool (forgetB A a.n)) ∧ Sq W0 w' s n m (forgetS A a.n) pu) := fun W h => sq_forget h a.n hpu
        have HH3 : Hid (HonI (L.take (k + 1)).reverse (forgetS A a.n)) := by
          show HonI _ _
          rw [HTR.out]
          exact hon_other HH.out e0 e2 e3 (fun x hx => (forgetS_sub A a.n).subset hx)
        go_wp2_with (first | (refine wpList_load_mid rfl 53 (.tmp 35) rfl b (off + k * 12) rfl [.int .i64 a.wh, .int .i64 a.n, .string (bs a.key), .int .i64 a.e.st, .string (bs a.e.re), .int .i64 a.e.mi, .slice a.fA a.e.fs.length a.fC, .string (bs a.e.bo), .int .i64 a.e.ak, .int .i64 a.e.gt, .slice a.vA a.e.vy.length a.vC, .slice a.rA a.req.length a.rC] _ HR.out Tryz.underlying53 rfl infoAc ?_; clear HR) | (refine wpList_store_mid rfl 53 (.tmp 7) (.tmp 36) rfl _ 0 #[.int .i64 a.wh, .int .i64 a.n, .string (bs a.key), .int .i64 a.e.st, .string (bs a.e.re), .int .i64 a.e.mi, .slice a.fA a.e.fs.length a.fC, .string (bs a.e.bo), .int .i64 a.e.ak, .int .i64 a.e.gt, .slice a.vA a.e.vy.length a.vC, .slice a.rA a.req.length a.rC] rfl rfl HTH.out infoAc HON.out ?_; clear HTH HON; generalize (World.setCells (wr.alloc (.cells #[.int .i64 0, .int .i64 0, .string ⟨#[]⟩, .int .i64 0, .string ⟨#[]⟩, .int .i64 0, .slice none 0 0, .string ⟨#[]⟩, .int .i64 0, .int .i64 0, .slice none 0 0, .slice none 0 0] 53)) wr.heap.size 0 [.int .i64 a.wh, .int .i64 a.n, .string (bs a.key), .int .i64 a.e.st, .string (bs a.e.re), .int .i64 a.e.mi, .slice a.fA a.e.fs.length a.fC, .string (bs a.e.bo), .int .i64 a.e.ak, .int .i64 a.e.gt, .slice a.vA a.e.vy.length a.vC, .slice a.rA a.req.length a.rC]) = W1 at *; generalize wr.heap.size = p at *; have q0 := HQB.out.blk.cell 0 (.int .i64 a.wh) rfl; have q1 := HQB.out.blk.cell 1 (.int .i64 a.n) rfl; have q2 := HQB.out.blk.cell 2 (.string (bs a.key)) rfl; have q11 := HQB.out.blk.cell 11 (.slice a.rA a.req.length a.rC) rfl; have HLD := Lib.hid (ent_range HQB.out.blk)))
        refine (HC.out _ HQB.out.sq).mono ?_
        rintro r w3 ⟨rfl, hs⟩
        have HS3 := Lib.hid hs
        have HPX : Hid (pu ≤ k + 1) := by have := HPU.out; show _ ≤ _; omega
        clear hs HQB q0 q1 q2 q11 HLD
        generalize (forgetS A a.n) = A2 at *
        go_wp2_with fail
        go_roundw
        case rel => exact ⟨k + 1, by omega, by go_num, A2, pu, HS3.out, HPX.out, HH3.out⟩
        case measure => simp [intOf] <;> omega
      · have hki : ¬ (k : Int) < (L.length : Int) := by omega
        go_wp2_with fail
        refine (HAW.out _ HQ.out.ke).mono ?_
        rintro r w3 ⟨rfl, hb⟩
        have HB3 := Lib.hid (HQ.out.fin HAL.out hb)
        clear hb
        go_wp2_with fail
        go_ret
        exact ⟨rfl, HB3.out⟩
end Go.Proofs.YtopgeclecpaecaaGreatDoor
