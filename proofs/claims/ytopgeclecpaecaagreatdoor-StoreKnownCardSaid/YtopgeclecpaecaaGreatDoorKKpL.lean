/- Acts taken out of their slice; fields appended to a slice cut to its length; few. -/
import Derived.Test.YtopgeclecpaecaaGreatDoorKApp
import Derived.Test.YtopgeclecpaecaaGreatDoorKBkMid
import Derived.Test.YtopgeclecpaecaaGreatDoorKOpK
import Derived.Test.YtopgeclecpaecaaGreatDoorKOpen
import Derived.ArgAppend
import Derived.BigQuiet
namespace Go.Proofs.YtopgeclecpaecaaGreatDoor
open Go.RowKit
theorem infoAc : (Tryz.prog.info? 53).map (·.size) = some 12 := by kernel_rfl
/-- a call lies in a block -/
theorem ac_taken {w : World} (a : Ac) : bk ((w.alloc (.cells #[.int .i64 0, .int .i64 0, .string ⟨#[]⟩, .int .i64 0, .string ⟨#[]⟩, .int .i64 0, .slice none 0 0, .string ⟨#[]⟩, .int .i64 0, .int .i64 0, .slice none 0 0, .slice none 0 0] 53)).setCells w.heap.size 0 [.int .i64 a.wh, .int .i64 a.n, .string (bs a.key), .int .i64 a.e.st, .string (bs a.e.re), .int .i64 a.e.mi, .slice a.fA a.e.fs.length a.fC, .string (bs a.e.bo), .int .i64 a.e.ak, .int .i64 a.e.gt, .slice a.vA a.e.vy.length a.vC, .slice a.rA a.req.length a.rC]) w.heap.size (acC a).toArray ∧ Below w.heap.size w ((w.alloc (.cells #[.int .i64 0, .int .i64 0, .string ⟨#[]⟩, .int .i64 0, .string ⟨#[]⟩, .int .i64 0, .slice none 0 0, .string ⟨#[]⟩, .int .i64 0, .int .i64 0, .slice none 0 0, .slice none 0 0] 53)).setCells w.heap.size 0 [.int .i64 a.wh, .int .i64 a.n, .string (bs a.key), .int .i64 a.e.st, .string (bs a.e.re), .int .i64 a.e.mi, .slice a.fA a.e.fs.length a.fC, .string (bs a.e.bo), .int .i64 a.e.ak, .int .i64 a.e.gt, .slice a.vA a.e.vy.length a.vC, .slice a.rA a.req.length a.rC]) := by
  have h := bk.new w #[.int .i64 0, .int .i64 0, .string ⟨#[]⟩, .int .i64 0, .string ⟨#[]⟩, .int .i64 0, .slice none 0 0, .string ⟨#[]⟩, .int .i64 0, .int .i64 0, .slice none 0 0, .slice none 0 0] 53
  exact ⟨h.setAll _ rfl, Below.cells ((Below.refl _ _).alloc (Nat.le_refl _) _) _ (Nat.le_refl _) _ 0⟩
theorem ac_there {w : World} : World.there (w.alloc (.cells #[.int .i64 0, .int .i64 0, .string ⟨#[]⟩, .int .i64 0, .string ⟨#[]⟩, .int .i64 0, .slice none 0 0, .string ⟨#[]⟩, .int .i64 0, .int .i64 0, .slice none 0 0, .slice none 0 0] 53)) w.heap.size 0 12 := (bk.new w #[.int .i64 0, .int .i64 0, .string ⟨#[]⟩, .int .i64 0, .string ⟨#[]⟩, .int .i64 0, .slice none 0 0, .string ⟨#[]⟩, .int .i64 0, .int .i64 0, .slice none 0 0, .slice none 0 0] 53).there 0 12 (Nat.le_refl _)
theorem AL.at_ {w w' : World} {A : Option Addr} {n c : Nat} {l : List Ac} (h : AL w (.slice A n c) l) (hb : Below w.heap.size w w') (j : Nat) (hj : j < l.length) : ∃ b off, A = some ⟨b, off, none⟩ ∧ w'.rangeAt b (off + j * 12) (acC l[j]) ∧ l.length ≤ c := by
  obtain ⟨b, off, e, hlt, hr, hc⟩ := h.get j hj
  exact ⟨b, off, e, rangeAt_bel hr hb hlt, hc⟩
/-- a slice of the call's own, or one cut to its length -/
def FJ (w : World) (base : Nat) (v : Value) (l : List Fld) : Prop := ownF w base v l ∨ ∃ A, v = .slice A l.length l.length ∧ (A = none → l.length = 0) ∧ FL w v l
theorem FJ.fl {w : World} {base : Nat} {v : Value} {l : List Fld} (h : FJ w base v l) : FL w v l := h.elim (fun h => h.fl) (fun ⟨_, _, _, h⟩ => h)
theorem FL.none {w : World} {n c : Nat} {l : List Fld} (h : FL w (.slice none n c) l) : l = [] := by
  rcases h with ⟨rfl, -⟩ | ⟨b, off, c', hv, -⟩
  · rfl
  · cases hv
theorem fl_cut {w : World} {A : Option Addr} {n c : Nat} {l : List Fld} (h : FL w (.slice A n c) l) : FL w (.slice A l.length l.length) l := by
  rcases h with ⟨rfl, -⟩ | ⟨b, off, c', hv, hlt, hc⟩
  · exact .inl ⟨rfl, _, _, rfl⟩
  · cases hv
    exact .inr ⟨b, off, l.length, rfl, hlt, hc⟩
theorem fj_cut {w : World} {A : Option Addr} {n c : Nat} {l : List Fld} (base : Nat) (h : FL w (.slice A n c) l) : FJ w base (.slice A l.length l.length) l :=
  .inr ⟨A, rfl, fun e => by subst e; rw [h.none]; rfl, fl_cut h⟩
theorem app_nothingJ (ty : TypeId) (A A2 : Option Addr) (n cap c : Nat) (w : World) (hA : A = none → n = 0 ∧ cap = 0) (hn : n ≤ cap) :
    (Builtin.append_ #[24, 24] ty #[.slice A n cap, .slice A2 0 c]).run Tryz.prog w = .ok (.slice A n cap) w := by
  obtain ⟨i0, hi, hz0, hz1, hz2⟩ := info_parts infoF
  cases A with
  | none =>
    obtain ⟨rfl, rfl⟩ := hA rfl
    cases A2 <;> simp [Builtin.append_, run_underlying Tryz.underlying24, sizeOf, typeInfo, hi, Builtin.lenOf, Builtin.firstCells, loadCells, loadCellsFrom]
  | some a =>
    cases A2 <;> simp [Builtin.append_, run_underlying Tryz.underlying24, sizeOf, typeInfo, hi, Builtin.lenOf, Builtin.firstCells, hn, storeCells, loadCells, loadCellsFrom]
theorem run_appJ (w : World) (ty : TypeId) (base : Nat) (hbase : base ≤ w.heap.size) (v vx : Value) (l m : List Fld) (hv : FJ w base v l) (hm : FL w vx m) (hlen : l.length + m.length ≤ 4294967296) :
    ∃ v' w', (Builtin.append_ #[24, 24] ty #[v, vx]).run Tryz.prog w = .ok v' w' ∧ FJ w' base v' (l ++ m) ∧ Below base w w' := by
  rcases hv with ho | ⟨A, rfl, hA, hf⟩
  · obtain ⟨v', w', h1, h2, h3, -⟩ := run_appFF w w ty base base v vx l m ho (Below.refl _ _) (Nat.le_refl _) hbase hm hlen
    exact ⟨v', w', h1, .inl h2, h3⟩
  · obtain ⟨A2, c2, rfl⟩ := hm.form
    by_cases hm0 : m = []
    · subst hm0
      exact ⟨_, w, app_nothingJ ty A A2 l.length l.length c2 w (fun e => ⟨hA e, hA e⟩) (Nat.le_refl _), by rw [List.append_nil]; exact .inr ⟨A, rfl, hA, hf⟩, Below.refl _ _⟩
    · have hpos : 0 < m.length := List.length_pos_iff.2 hm0
      cases A with
      | none =>
        have hl : l = [] := hf.none
        subst hl
        obtain ⟨v', w', h1, h2, h3, -⟩ := run_appFF w w ty base base (.slice none 0 0) (.slice A2 m.length c2) [] m (ownF_nil w base) (Below.refl _ _) (Nat.le_refl _) hbase hm hlen
        exact ⟨v', w', h1, .inl h2, h3⟩
      | some b0 =>
        cases A2 with
        | none => exact absurd hm.none hm0
        | some a0 =>
          obtain ⟨i0, hi, hz0, hz1, hz2⟩ := info_parts infoF
          obtain ⟨v', w', h1, h2, h3⟩ := run_append_arg_grows (P := Tryz.prog) (w := w) 24 ty 66 i0 (.agg #[.string ⟨#[]⟩, .string ⟨#[]⟩]) 2 32 Tryz.underlying24 hi hz0 hz1 hz2 rfl (by decide) b0 l.length l.length (fcs l) (fcs_len l) hf.src a0 m.length c2 (fcs m) (fcs_len m) hm.src (by omega) (by unfold maxLen; omega) (by omega)
          have h4 : ownF w' w.heap.size v' (l ++ m) := by
            unfold ownF
            rw [List.length_append, fcs_append]
            exact h2
          exact ⟨v', w', h1, .inl (h4.mono hbase), ((Below.refl _ _).grown h3 (Nat.le_refl _) (fun k e => by cases e)).mono hbase⟩
/-- a call's slices and texts are short -/
structure SmA (a : Ac) : Prop where
  n : a.e.fs.length + a.e.vy.length + a.req.length ≤ 10
  k : a.key.length ≤ 300
  bo : a.e.bo.length ≤ 3000
  re : a.e.re.length ≤ 300
  f : ∀ f ∈ a.e.fs ++ a.e.vy ++ a.req, f.1.length + f.2.length ≤ 300
/-- what few answers -/
def FewR (L : List Ac) (w : World) (r : Ending) (w' : World) : Prop := ∃ b : Bool, r = .returned (.bool b) ∧ (b = true → L.length ≤ 60 ∧ ∀ a ∈ L, SmA a) ∧ Below w.heap.size w w'
theorem no_or {a b : Bool} (h1 : a = false) (h2 : b = false) : (a || b) = false := by rw [h1, h2]; rfl
set_option maxRecDepth 100000 in
set_option maxHeartbeats 8000000 in
theorem fewK_any {w : World} {v : Value} {L : List Ac} (hv : AL w v L) (hok : ∀ j (hj : j < L.length), AcOk w L[j]) (hl : L.length ≤ 9223372036854775807) :
    Calls Tryz.prog 24 #[v] w fun r w' => FewR L w r w' := by
  obtain ⟨A, cf, rfl⟩ := hv.form
  have HV := Lib.hid hv; have HO := Lib.hid hok
  clear hv hok
  go_enter Tryz.func24, Tryz.ntmps24
  go_wp2_with fail
  go_loopw [3] (fun i wr => ∃ k : Nat, k ≤ L.length ∧ k ≤ 70 ∧ i = .int .i64 k ∧ Hid (Below w.heap.size w wr) ∧ Hid (∀ a ∈ L.take k, SmA a)) (fun i _ => L.length - (intOf i).toNat)
  case atStart => exact ⟨0, Nat.zero_le _, Nat.zero_le _, rfl, Below.refl _ _, fun a h => by cases h⟩
  case round =>
    obtain ⟨k, hk, hk7, rfl, HB, HA⟩ := hrel
    by_cases hlt : k < L.length ∧ k < 70
    · obtain ⟨hlt, h70⟩ := hlt
      have hki : (k : Int) < (L.length : Int) := by omega
      have hk70 : (k : Int) < 70 := by omega
      obtain ⟨b, off, rfl, hr, hcl⟩ := HV.out.at_ HB.out k hlt
      have hak := (HO.out k hlt).bel HB.out
      have HSTEP : Hid (SmA L[k] → ∀ x ∈ L.take (k + 1), SmA x) := fun h x hx => by
        rw [List.take_succ_eq_append_getElem hlt] at hx
        rcases List.mem_append.1 hx with hx | hx
        · exact HA.out x hx
        · rw [List.mem_singleton.1 hx]; exact h
      generalize L[k] = a at *
      have HR := Lib.hid hr; have HAK := Lib.hid hak
      have lf := hak.lf; have lv := hak.lv; have lr := hak.lr
      clear hr hak
      have HTK := Lib.hid (ac_taken (w := wr) a); have HTH := Lib.hid (ac_there (w := wr))
      have HON := Lib.hid (ac_one a)
      have HSZ : Hid (w.heap.size ≤ wr.heap.size) := HB.out.size
      have HAKF : Hid (∀ W0 : World, Below wr.heap.size wr W0 → AcOk W0 a) := fun W0 h => HAK.out.bel h
      by_cases c0 : 10 < a.e.fs.length + a.e.vy.length + a.req.length
      · have d0 : (10 : Int) < (a.e.fs.length : Int) + (a.e.vy.length : Int) + (a.req.length : Int) := by omega
        go_wp2_with (first | (refine wpList_load_mid rfl 53 (.tmp 19) rfl b (off + k * 12) rfl [.int .i64 a.wh, .int .i64 a.n, .string (bs a.key), .int .i64 a.e.st, .string (bs a.e.re), .int .i64 a.e.mi, .slice a.fA a.e.fs.length a.fC, .string (bs a.e.bo), .int .i64 a.e.ak, .int .i64 a.e.gt, .slice a.vA a.e.vy.length a.vC, .slice a.rA a.req.length a.rC] _ HR.out Tryz.underlying53 rfl infoAc ?_; clear HR) | (refine wpList_store_mid rfl 53 (.tmp 4) (.tmp 20) rfl _ 0 #[.int .i64 a.wh, .int .i64 a.n, .string (bs a.key), .int .i64 a.e.st, .string (bs a.e.re), .int .i64 a.e.mi, .slice a.fA a.e.fs.length a.fC, .string (bs a.e.bo), .int .i64 a.e.ak, .int .i64 a.e.gt, .slice a.vA a.e.vy.length a.vC, .slice a.rA a.req.length a.rC] rfl rfl HTH.out infoAc HON.out ?_; clear HTH HON; generalize (World.setCells (wr.alloc (.cells #[.int .i64 0, .int .i64 0, .string ⟨#[]⟩, .int .i64 0, .string ⟨#[]⟩, .int .i64 0, .slice none 0 0, .string ⟨#[]⟩, .int .i64 0, .int .i64 0, .slice none 0 0, .slice none 0 0] 53)) wr.heap.size 0 [.int .i64 a.wh, .int .i64 a.n, .string (bs a.key), .int .i64 a.e.st, .string (bs a.e.re), .int .i64 a.e.mi, .slice a.fA a.e.fs.length a.fC, .string (bs a.e.bo), .int .i64 a.e.ak, .int .i64 a.e.gt, .slice a.vA a.e.vy.length a.vC, .slice a.rA a.req.length a.rC]) = W0 at *; generalize wr.heap.size = p at *; have HP : Hid (bk W0 p (acC a).toArray) := HTK.out.1; have HB0 : Hid (Below w.heap.size w W0) := HB.out.trans (HTK.out.2.mono HSZ.out); have HAK0 : Hid (AcOk W0 a) := HAKF.out W0 HTK.out.2; have q2 := HP.out.cell 2 (.string (bs a.key)) rfl; have q4 := HP.out.cell 4 (.string (bs a.e.re)) rfl; have q6 := HP.out.cell 6 (.slice a.fA a.e.fs.length a.fC) rfl; have q7 := HP.out.cell 7 (.string (bs a.e.bo)) rfl; have q10 := HP.out.cell 10 (.slice a.vA a.e.vy.length a.vC) rfl; have q11 := HP.out.cell 11 (.slice a.rA a.req.length a.rC) rfl))
        go_ret
        exact ⟨false, rfl, fun h => (by cases h), HB0.out⟩
      have d0 : ¬ (10 : Int) < (a.e.fs.length : Int) + (a.e.vy.length : Int) + (a.req.length : Int) := by omega
      by_cases c1 : 300 < a.key.length
      · have d1 : (300 : Int) < (a.key.length : Int) := by omega
        go_wp2_with (first | (refine wpList_load_mid rfl 53 (.tmp 19) rfl b (off + k * 12) rfl [.int .i64 a.wh, .int .i64 a.n, .string (bs a.key), .int .i64 a.e.st, .string (bs a.e.re), .int .i64 a.e.mi, .slice a.fA a.e.fs.length a.fC, .string (bs a.e.bo), .int .i64 a.e.ak, .int .i64 a.e.gt, .slice a.vA a.e.vy.length a.vC, .slice a.rA a.req.length a.rC] _ HR.out Tryz.underlying53 rfl infoAc ?_; clear HR) | (refine wpList_store_mid rfl 53 (.tmp 4) (.tmp 20) rfl _ 0 #[.int .i64 a.wh, .int .i64 a.n, .string (bs a.key), .int .i64 a.e.st, .string (bs a.e.re), .int .i64 a.e.mi, .slice a.fA a.e.fs.length a.fC, .string (bs a.e.bo), .int .i64 a.e.ak, .int .i64 a.e.gt, .slice a.vA a.e.vy.length a.vC, .slice a.rA a.req.length a.rC] rfl rfl HTH.out infoAc HON.out ?_; clear HTH HON; generalize (World.setCells (wr.alloc (.cells #[.int .i64 0, .int .i64 0, .string ⟨#[]⟩, .int .i64 0, .string ⟨#[]⟩, .int .i64 0, .slice none 0 0, .string ⟨#[]⟩, .int .i64 0, .int .i64 0, .slice none 0 0, .slice none 0 0] 53)) wr.heap.size 0 [.int .i64 a.wh, .int .i64 a.n, .string (bs a.key), .int .i64 a.e.st, .string (bs a.e.re), .int .i64 a.e.mi, .slice a.fA a.e.fs.length a.fC, .string (bs a.e.bo), .int .i64 a.e.ak, .int .i64 a.e.gt, .slice a.vA a.e.vy.length a.vC, .slice a.rA a.req.length a.rC]) = W0 at *; generalize wr.heap.size = p at *; have HP : Hid (bk W0 p (acC a).toArray) := HTK.out.1; have HB0 : Hid (Below w.heap.size w W0) := HB.out.trans (HTK.out.2.mono HSZ.out); have HAK0 : Hid (AcOk W0 a) := HAKF.out W0 HTK.out.2; have q2 := HP.out.cell 2 (.string (bs a.key)) rfl; have q4 := HP.out.cell 4 (.string (bs a.e.re)) rfl; have q6 := HP.out.cell 6 (.slice a.fA a.e.fs.length a.fC) rfl; have q7 := HP.out.cell 7 (.string (bs a.e.bo)) rfl; have q10 := HP.out.cell 10 (.slice a.vA a.e.vy.length a.vC) rfl; have q11 := HP.out.cell 11 (.slice a.rA a.req.length a.rC) rfl))
        go_ret
        exact ⟨false, rfl, fun h => (by cases h), HB0.out⟩
      have d1 : ¬ (300 : Int) < (a.key.length : Int) := by omega
      by_cases c2 : 3000 < a.e.bo.length
      · have d2 : (3000 : Int) < (a.e.bo.length : Int) := by omega
        go_wp2_with (first | (refine wpList_load_mid rfl 53 (.tmp 19) rfl b (off + k * 12) rfl [.int .i64 a.wh, .int .i64 a.n, .string (bs a.key), .int .i64 a.e.st, .string (bs a.e.re), .int .i64 a.e.mi, .slice a.fA a.e.fs.length a.fC, .string (bs a.e.bo), .int .i64 a.e.ak, .int .i64 a.e.gt, .slice a.vA a.e.vy.length a.vC, .slice a.rA a.req.length a.rC] _ HR.out Tryz.underlying53 rfl infoAc ?_; clear HR) | (refine wpList_store_mid rfl 53 (.tmp 4) (.tmp 20) rfl _ 0 #[.int .i64 a.wh, .int .i64 a.n, .string (bs a.key), .int .i64 a.e.st, .string (bs a.e.re), .int .i64 a.e.mi, .slice a.fA a.e.fs.length a.fC, .string (bs a.e.bo), .int .i64 a.e.ak, .int .i64 a.e.gt, .slice a.vA a.e.vy.length a.vC, .slice a.rA a.req.length a.rC] rfl rfl HTH.out infoAc HON.out ?_; clear HTH HON; generalize (World.setCells (wr.alloc (.cells #[.int .i64 0, .int .i64 0, .string ⟨#[]⟩, .int .i64 0, .string ⟨#[]⟩, .int .i64 0, .slice none 0 0, .string ⟨#[]⟩, .int .i64 0, .int .i64 0, .slice none 0 0, .slice none 0 0] 53)) wr.heap.size 0 [.int .i64 a.wh, .int .i64 a.n, .string (bs a.key), .int .i64 a.e.st, .string (bs a.e.re), .int .i64 a.e.mi, .slice a.fA a.e.fs.length a.fC, .string (bs a.e.bo), .int .i64 a.e.ak, .int .i64 a.e.gt, .slice a.vA a.e.vy.length a.vC, .slice a.rA a.req.length a.rC]) = W0 at *; generalize wr.heap.size = p at *; have HP : Hid (bk W0 p (acC a).toArray) := HTK.out.1; have HB0 : Hid (Below w.heap.size w W0) := HB.out.trans (HTK.out.2.mono HSZ.out); have HAK0 : Hid (AcOk W0 a) := HAKF.out W0 HTK.out.2; have q2 := HP.out.cell 2 (.string (bs a.key)) rfl; have q4 := HP.out.cell 4 (.string (bs a.e.re)) rfl; have q6 := HP.out.cell 6 (.slice a.fA a.e.fs.length a.fC) rfl; have q7 := HP.out.cell 7 (.string (bs a.e.bo)) rfl; have q10 := HP.out.cell 10 (.slice a.vA a.e.vy.length a.vC) rfl; have q11 := HP.out.cell 11 (.slice a.rA a.req.length a.rC) rfl))
        go_ret
        exact ⟨false, rfl, fun h => (by cases h), HB0.out⟩
      have d2 : ¬ (3000 : Int) < (a.e.bo.length : Int) := by omega
      by_cases c3 : 300 < a.e.re.length
      · have d3 : (300 : Int) < (a.e.re.length : Int) := by omega
        go_wp2_with (first | (refine wpList_load_mid rfl 53 (.tmp 19) rfl b (off + k * 12) rfl [.int .i64 a.wh, .int .i64 a.n, .string (bs a.key), .int .i64 a.e.st, .string (bs a.e.re), .int .i64 a.e.mi, .slice a.fA a.e.fs.length a.fC, .string (bs a.e.bo), .int .i64 a.e.ak, .int .i64 a.e.gt, .slice a.vA a.e.vy.length a.vC, .slice a.rA a.req.length a.rC] _ HR.out Tryz.underlying53 rfl infoAc ?_; clear HR) | (refine wpList_store_mid rfl 53 (.tmp 4) (.tmp 20) rfl _ 0 #[.int .i64 a.wh, .int .i64 a.n, .string (bs a.key), .int .i64 a.e.st, .string (bs a.e.re), .int .i64 a.e.mi, .slice a.fA a.e.fs.length a.fC, .string (bs a.e.bo), .int .i64 a.e.ak, .int .i64 a.e.gt, .slice a.vA a.e.vy.length a.vC, .slice a.rA a.req.length a.rC] rfl rfl HTH.out infoAc HON.out ?_; clear HTH HON; generalize (World.setCells (wr.alloc (.cells #[.int .i64 0, .int .i64 0, .string ⟨#[]⟩, .int .i64 0, .string ⟨#[]⟩, .int .i64 0, .slice none 0 0, .string ⟨#[]⟩, .int .i64 0, .int .i64 0, .slice none 0 0, .slice none 0 0] 53)) wr.heap.size 0 [.int .i64 a.wh, .int .i64 a.n, .string (bs a.key), .int .i64 a.e.st, .string (bs a.e.re), .int .i64 a.e.mi, .slice a.fA a.e.fs.length a.fC, .string (bs a.e.bo), .int .i64 a.e.ak, .int .i64 a.e.gt, .slice a.vA a.e.vy.length a.vC, .slice a.rA a.req.length a.rC]) = W0 at *; generalize wr.heap.size = p at *; have HP : Hid (bk W0 p (acC a).toArray) := HTK.out.1; have HB0 : Hid (Below w.heap.size w W0) := HB.out.trans (HTK.out.2.mono HSZ.out); have HAK0 : Hid (AcOk W0 a) := HAKF.out W0 HTK.out.2; have q2 := HP.out.cell 2 (.string (bs a.key)) rfl; have q4 := HP.out.cell 4 (.string (bs a.e.re)) rfl; have q6 := HP.out.cell 6 (.slice a.fA a.e.fs.length a.fC) rfl; have q7 := HP.out.cell 7 (.string (bs a.e.bo)) rfl; have q10 := HP.out.cell 10 (.slice a.vA a.e.vy.length a.vC) rfl; have q11 := HP.out.cell 11 (.slice a.rA a.req.length a.rC) rfl))
        go_ret
        exact ⟨false, rfl, fun h => (by cases h), HB0.out⟩
      have d3 : ¬ (300 : Int) < (a.e.re.length : Int) := by omega
      have HFC : Hid ((a.e.fs.length : Int) ≤ (a.fC : Int)) := by have := HAK.out.fc; show _ ≤ _; omega
      have HL6 : Hid (a.e.fs.length + a.e.vy.length ≤ 4294967296) := by show _ ≤ _; omega
      have HL7 : Hid ((a.e.fs ++ a.e.vy).length + a.req.length ≤ 4294967296) := by show _ ≤ _; rw [List.length_append]; omega
      have HSM : Hid ((∀ f ∈ a.e.fs ++ a.e.vy ++ a.req, f.1.length + f.2.length ≤ 300) → SmA a) := fun h => ⟨by omega, by omega, by omega, by omega, h⟩
      go_wp2_with (first | (refine wpList_load_mid rfl 53 (.tmp 19) rfl b (off + k * 12) rfl [.int .i64 a.wh, .int .i64 a.n, .string (bs a.key), .int .i64 a.e.st, .string (bs a.e.re), .int .i64 a.e.mi, .slice a.fA a.e.fs.length a.fC, .string (bs a.e.bo), .int .i64 a.e.ak, .int .i64 a.e.gt, .slice a.vA a.e.vy.length a.vC, .slice a.rA a.req.length a.rC] _ HR.out Tryz.underlying53 rfl infoAc ?_; clear HR) | (refine wpList_store_mid rfl 53 (.tmp 4) (.tmp 20) rfl _ 0 #[.int .i64 a.wh, .int .i64 a.n, .string (bs a.key), .int .i64 a.e.st, .string (bs a.e.re), .int .i64 a.e.mi, .slice a.fA a.e.fs.length a.fC, .string (bs a.e.bo), .int .i64 a.e.ak, .int .i64 a.e.gt, .slice a.vA a.e.vy.length a.vC, .slice a.rA a.req.length a.rC] rfl rfl HTH.out infoAc HON.out ?_; clear HTH HON; generalize (World.setCells (wr.alloc (.cells #[.int .i64 0, .int .i64 0, .string ⟨#[]⟩, .int .i64 0, .string ⟨#[]⟩, .int .i64 0, .slice none 0 0, .string ⟨#[]⟩, .int .i64 0, .int .i64 0, .slice none 0 0, .slice none 0 0] 53)) wr.heap.size 0 [.int .i64 a.wh, .int .i64 a.n, .string (bs a.key), .int .i64 a.e.st, .string (bs a.e.re), .int .i64 a.e.mi, .slice a.fA a.e.fs.length a.fC, .string (bs a.e.bo), .int .i64 a.e.ak, .int .i64 a.e.gt, .slice a.vA a.e.vy.length a.vC, .slice a.rA a.req.length a.rC]) = W0 at *; generalize wr.heap.size = p at *; have HP : Hid (bk W0 p (acC a).toArray) := HTK.out.1; have HB0 : Hid (Below w.heap.size w W0) := HB.out.trans (HTK.out.2.mono HSZ.out); have HAK0 : Hid (AcOk W0 a) := HAKF.out W0 HTK.out.2; have q2 := HP.out.cell 2 (.string (bs a.key)) rfl; have q4 := HP.out.cell 4 (.string (bs a.e.re)) rfl; have q6 := HP.out.cell 6 (.slice a.fA a.e.fs.length a.fC) rfl; have q7 := HP.out.cell 7 (.string (bs a.e.bo)) rfl; have q10 := HP.out.cell 10 (.slice a.vA a.e.vy.length a.vC) rfl; have q11 := HP.out.cell 11 (.slice a.rA a.req.length a.rC) rfl))
      have HFF := Lib.hid (HAK0.out.ff); have HFV := Lib.hid (HAK0.out.fv)
      clear q2 q4 q6 q7 q10 q11
      refine wp_region_growS (.one 0 false (.one 1 false (.one 2 false (.one 3 false (.one 4 false (.one 5 false (.one 6 false (.one 7 false (.one 8 false (.one 9 false (.one 10 false (.one 11 false (.one 12 false (.one 13 false (.one 14 false (.one 15 false (.one 16 false (.one 17 false (.one 18 true (.one 19 false .done))))))))))))))))))))
        (fun W => Below W0.heap.size W0 W) (by kernel_rfl) (by kernel_rfl) rfl (by kernel_rfl) (by kernel_rfl) (Below.refl _ _).drew (fun ops hops => ?_)
      simp only [GT.ins, List.getD_cons_zero, List.getD_cons_succ]
      clear hops
      iterate 18
        refine growS_take (by rfl) ?_
        apply Exists.intro
        refine ⟨fun w' hE => ?_, ?_⟩
        · have q6 := (HP.out.below hE).cell 6 (.slice a.fA a.e.fs.length a.fC) rfl; have q10 := (HP.out.below hE).cell 10 (.slice a.vA a.e.vy.length a.vC) rfl; have hcut : (a.e.fs.length : Int) ≤ (a.fC : Int) := HFC.out
          go_simp
          try with_reducible rfl
        simp only [Act.put, List.setIfInBounds_toArray, List.set_cons_zero, List.set_cons_succ]
      refine growS_call (by rfl) (fun K hK => ?_)
      obtain ⟨v6, w6, hr6, hj6, hb6⟩ := run_appJ W0.drew 24 W0.heap.size (Nat.le_refl _) (.slice a.fA a.e.fs.length a.e.fs.length) (.slice a.vA a.e.vy.length a.vC) a.e.fs a.e.vy (fj_cut _ (HFF.out.bel (Below.refl _ _).drew)) (HFV.out.bel (Below.refl _ _).drew) HL6.out
      refine Lib.wp_append_run _ (.tmp 72) (.tmp 75) 24 24 rfl _ _ rfl rfl _ _ hr6 ?_
      have HJ6 := Lib.hid hj6; have HB6 : Hid (Below W0.heap.size W0 w6) := (Below.refl _ _).drew.trans hb6
      clear hr6 hj6 hb6
      refine hK.out _ _ HB6.out ?_
      clear hK K
      iterate 1
        refine growS_take (by rfl) ?_
        apply Exists.intro
        refine ⟨fun w' hE => ?_, ?_⟩
        · have q6 := (HP.out.below hE).cell 6 (.slice a.fA a.e.fs.length a.fC) rfl; have q10 := (HP.out.below hE).cell 10 (.slice a.vA a.e.vy.length a.vC) rfl; have hcut : (a.e.fs.length : Int) ≤ (a.fC : Int) := HFC.out
          go_simp
          try with_reducible rfl
        simp only [Act.put, List.setIfInBounds_toArray, List.set_cons_zero, List.set_cons_succ]
      refine growS_done (NoPanic.normal ?_)
      have q11 := (HP.out.below HB6.out).cell 11 (.slice a.rA a.req.length a.rC) rfl
      obtain ⟨v7, w7, hr7, hj7, hb7⟩ := run_appJ w6 24 W0.heap.size HB6.out.size v6 (.slice a.rA a.req.length a.rC) (a.e.fs ++ a.e.vy) a.req HJ6.out (HAK0.out.fr.bel HB6.out) HL7.out
      have hsf : ∀ f ∈ a.e.fs ++ a.e.vy ++ a.req, f.1.length ≤ 140737488351232 ∧ f.2.length ≤ 140737488351232 := fun f hf => by
        rcases List.mem_append.1 hf with hf | hf
        · exact (List.mem_append.1 hf).elim (HAK.out.sf f) (HAK.out.sv f)
        · exact HAK.out.sr f hf
      have hml : (a.e.fs ++ a.e.vy ++ a.req).length ≤ 10 := by rw [List.length_append, List.length_append]; omega
      have hfl := hj7.fl
      have HB7 : Hid (Below w.heap.size w w7) := HB0.out.trans ((HB6.out.trans hb7).mono HB0.out.size)
      have HR7 := Lib.hid hr7
      clear hr7 hj7 hb7
      generalize (a.e.fs ++ a.e.vy ++ a.req) = M at *
      obtain ⟨A7, c7, rfl⟩ := hfl.form
      have HF7 := Lib.hid hfl; have HSF := Lib.hid hsf
      clear hfl hsf
      go_wp2_with (at_builtin; refine Lib.wpList_append_run _ rfl (.tmp 77) (.tmp 79) 24 24 rfl _ _ rfl rfl _ _ HR7.out ?_)
      clear q11
      go_loopw [6] (fun i wq => ∃ j : Nat, j ≤ M.length ∧ i = .int .i64 j ∧ Hid (Below w7.heap.size w7 wq) ∧ Hid (∀ f ∈ M.take j, f.1.length + f.2.length ≤ 300)) (fun i _ => M.length - (intOf i).toNat)
      case atStart => exact ⟨0, Nat.zero_le _, rfl, Below.refl _ _, fun f h => by cases h⟩
      case round =>
        obtain ⟨j, hj, rfl, HBQ, HMQ⟩ := hrel
        by_cases hjl : j < M.length
        · have hji : (j : Int) < (M.length : Int) := by omega
          obtain ⟨g, o, rfl, hgl, c1, c2⟩ := (HF7.out.bel HBQ.out).get j hjl
          obtain ⟨z1, z2⟩ := HSF.out _ (List.getElem_mem hjl)
          have HST : Hid (M[j].1.length + M[j].2.length ≤ 300 → ∀ x ∈ M.take (j + 1), x.1.length + x.2.length ≤ 300) := fun h x hx => by
            rw [List.take_succ_eq_append_getElem hjl] at hx
            rcases List.mem_append.1 hx with hx | hx
            · exact HMQ.out x hx
            · rw [List.mem_singleton.1 hx]; exact h
          generalize M[j] = f at *
          obtain ⟨nm, x⟩ := f
          simp only at c1 c2 z1 z2
          have hw : IntKind.i64.wrap ((nm.length : Int) + (x.length : Int)) = (nm.length : Int) + (x.length : Int) := IntWalk.i64_in _ (by omega)
          by_cases hb : 300 < nm.length + x.length
          · have hd : (300 : Int) < (nm.length : Int) + (x.length : Int) := by omega
            go_wp2_with fail
            go_quiet (fail)
            go_wp2_with fail
            go_ret
            exact ⟨false, rfl, fun h => (by cases h), below_dn (HB7.out.trans (HBQ.out.mono HB7.out.size)) _⟩
          · have hd : ¬ (300 : Int) < (nm.length : Int) + (x.length : Int) := by omega
            have HS2 := Lib.hid (HST.out (by show nm.length + x.length ≤ 300; omega))
            go_wp2_with fail
            go_quiet (fail)
            go_wp2_with fail
            go_roundw
            case rel => exact ⟨j + 1, by omega, by go_num, below_dn HBQ.out _, HS2.out⟩
            case measure => simp [intOf]; omega
        · have hji : ¬ (j : Int) < (M.length : Int) := by omega
          have HS2 : Hid (∀ x ∈ L.take (k + 1), SmA x) := HSTEP.out (HSM.out (fun f hf => HMQ.out f (by rw [List.take_of_length_le (by omega)]; exact hf)))
          go_wp2_with fail
          go_roundw
          case rel => exact ⟨k + 1, by omega, by omega, by go_num, HB7.out.trans (HBQ.out.mono HB7.out.size), HS2.out⟩
          case measure => simp [intOf]; omega
    · by_cases hlt2 : k < L.length
      · have hki : (k : Int) < (L.length : Int) := by omega
        have hk70 : ¬ (k : Int) < 70 := by omega
        have h60 : ¬ (L.length : Int) ≤ 60 := by omega
        go_wp2_with fail
        go_ret
        refine ⟨_, rfl, fun h => ?_, HB.out⟩
        simp at h
      · have hki : ¬ (k : Int) < (L.length : Int) := by omega
        have HFIN : Hid (∀ a ∈ L, SmA a) := fun a ha => HA.out a (by rw [List.take_of_length_le (by omega)]; exact ha)
        go_wp2_with fail
        go_ret
        refine ⟨_, rfl, fun h => ⟨?_, HFIN.out⟩, HB.out⟩
        simp at h
        omega
end Go.Proofs.YtopgeclecpaecaaGreatDoor
