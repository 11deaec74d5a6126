/- A store and its calls, as the statements' walks meet them; body, finds, awake. -/
import Derived.Test.YtopgeclecpaecaaGreatDoorKKpJ
import Derived.Test.YtopgeclecpaecaaGreatDoorKKpL
namespace Go.Proofs.YtopgeclecpaecaaGreatDoor
open Go.RowKit
/-- a store; what has been done since w0 lies above it -/
def Sq (w0 w : World) (s n m : Nat) (A : List (It He)) (pu : Nat) : Prop := ∃ X, Sto w s X n m A pu ∧ Base w0 w X
section
variable {w0 w w' : World} {s n m pu : Nat} {A : List (It He)} {X : Nat → Prop}
theorem flx_low {v : Value} {l : List Fld} (h : FL w0 v l) (hb : Base w0 w X) : FLX w X v l := by
  rcases h with ⟨rfl, A, c, rfl⟩ | ⟨b, off, c, rfl, hlt, hc⟩
  · exact .inl ⟨rfl, A, c, rfl⟩
  · exact .inr ⟨b, off, c, rfl, Nat.lt_of_lt_of_le hlt hb.bel.size, fun hx => absurd (hb.low b hx) (by omega), fun j hj => ⟨(hb.bel.cell (p := ⟨b, _, none⟩) hlt).trans (hc j hj).1, (hb.bel.cell (p := ⟨b, _, none⟩) hlt).trans (hc j hj).2⟩⟩
theorem Sto.bel (h : Sto w s X n m A pu) (hb : Below w.heap.size w w') : Sto w' s X n m A pu := by
  obtain ⟨tb, bb, umb, nF, XB, F, l, hw⟩ := h
  exact ⟨tb, bb, umb, nF, XB, F, l, hw.bel hb⟩
theorem Sq.below (h : Sq w0 w s n m A pu) : Below w0.heap.size w0 w := by
  obtain ⟨X, -, hb⟩ := h
  exact hb.bel
theorem Sq.bel (h : Sq w0 w s n m A pu) (hb : Below w.heap.size w w') : Sq w0 w' s n m A pu := by
  obtain ⟨X, hs, hba⟩ := h
  exact ⟨X, hs.bel hb, hba.down hb⟩
theorem Sq.ke (h : Sq w0 w s n m A pu) : KE w := by
  obtain ⟨X, -, hb⟩ := h
  exact hb.ke
theorem sq_new (n m : Nat) (w : World) (n1 : 1 ≤ n) (n2 : n ≤ 4096) (m1 : 1 ≤ m) (m2 : m ≤ 1073741824) (hk : KE w) :
    Calls Tryz.prog 7 #[.int .i64 n, .int .i64 m] w fun r w' => ∃ s, r = .returned (.pointer (some ⟨s, 0, none⟩)) ∧ Sq w w' s n m [] 0 := by
  refine (snew_any n m w n1 n2 m1 m2).mono ?_
  rintro r w' ⟨s, X, rfl, hs, hb, hX⟩
  exact ⟨s, rfl, X, hs, hk, hb, hX⟩
theorem sq_put (h : Sq w0 w s n m A pu) (k : List UInt8) (e : En) (vf vv : Value) (hf : FL w0 vf e.fs) (hv : FL w0 vv e.vy) (hs : SmE k e) (hp : pu < 1000000) :
    Calls Tryz.prog 11 #[.pointer (some ⟨s, 0, none⟩), .string (bs k), entV e vf vv] w fun r w' => r = .returned (.bool (decide (sizeE k e ≤ m))) ∧ Sq w0 w' s n m (putS n m A ⟨k, e, pu + 1⟩).2 (pu + 1) := by
  obtain ⟨X, hsto, hb⟩ := h
  refine (sput_any hsto k e vf vv (flx_low hf hb) (flx_low hv hb) hs hp hb).mono ?_
  rintro r w' ⟨rfl, X', hs', hd⟩
  exact ⟨rfl, X', hs', hb.did hd⟩
theorem sq_remove (h : Sq w0 w s n m A pu) (k : List UInt8) (e : En) (vf vv : Value) (hf : FL w0 vf e.fs) (hv : FL w0 vv e.vy) (hs : SmE k e) (hp : pu < 1000000) :
    Calls Tryz.prog 21 #[.pointer (some ⟨s, 0, none⟩), .string (bs k), entV e vf vv] w fun r w' => r = .returned (.bool (hasK (idT k e.vy) A)) ∧ Sq w0 w' s n m (dropK (idT k e.vy) A) pu := by
  obtain ⟨X, hsto, hb⟩ := h
  refine (sremove_any hsto k e vf vv (flx_low hf hb) (flx_low hv hb) hs hp hb).mono ?_
  rintro r w' ⟨rfl, X', hs', hd⟩
  exact ⟨rfl, X', hs', hb.did hd⟩
theorem sq_drop (h : Sq w0 w s n m A pu) (k : List UInt8) (hk : k.length ≤ 300) :
    Calls Tryz.prog 20 #[.pointer (some ⟨s, 0, none⟩), .string (bs k)] w fun r w' => r = .returned (.int .i64 ((rowS A k).length : Int)) ∧ Sq w0 w' s n m (dropS A k) pu := by
  obtain ⟨X, hsto, hb⟩ := h
  refine (sdrop_any hsto k hk).mono ?_
  rintro r w' ⟨rfl, X', hs', hd⟩
  exact ⟨rfl, X', hs', hb.did hd⟩
theorem sq_forget (h : Sq w0 w s n m A pu) (N : Int) (hp : pu < 1000000) :
    Calls Tryz.prog 18 #[.pointer (some ⟨s, 0, none⟩), .int .i64 N] w fun r w' => r = .returned (.bool (forgetB A N)) ∧ Sq w0 w' s n m (forgetS A N) pu := by
  obtain ⟨X, hsto, hb⟩ := h
  refine (sforget_any hsto N hp hb).mono ?_
  rintro r w' ⟨rfl, X', hs', hd⟩
  exact ⟨rfl, X', hs', hb.did hd⟩
/-- what is found: the entry, in memory of its own -/
def FoundV (o : Option (It He)) (base : Nat) (r : Ending) (w : World) : Prop := ∃ v b, r = .returned (.tuple #[v, .bool b]) ∧ foundR o v b base w
theorem sq_find (h : Sq w0 w s n m A pu) (k : List UInt8) (hk : k.length ≤ 300) (vr : Value) (req : List Fld) (hr : FL w0 vr req) (hreq : SmF req) (hp : pu ≤ 1000000) :
    Calls Tryz.prog 22 #[.pointer (some ⟨s, 0, none⟩), .string (bs k), vr] w fun r w' => FoundV (foundS A k req) w.heap.size r w' ∧ Sq w0 w' s n m (findA A k req) pu := by
  obtain ⟨X, hsto, hb⟩ := h
  refine (sfind_any hsto k hk vr req (flx_low hr hb).fl hreq.vfb hp).mono ?_
  rintro r w' ⟨v, b, rfl, ⟨X', hs', hd⟩, hf⟩
  exact ⟨⟨v, b, rfl, hf⟩, X', hs', hb.did hd⟩
theorem sq_len (h : Sq w0 w s n m A pu) : Calls Tryz.prog 13 #[.pointer (some ⟨s, 0, none⟩)] w fun r w' => r = .returned (.int .i64 (A.length : Int)) ∧ w = w' := by
  obtain ⟨X, hsto, hb⟩ := h
  exact slen_any hsto
theorem sq_bytes (h : Sq w0 w s n m A pu) : Calls Tryz.prog 14 #[.pointer (some ⟨s, 0, none⟩)] w fun r w' => r = .returned (.int .i64 (totK A : Int)) ∧ w = w' := by
  obtain ⟨X, hsto, hb⟩ := h
  exact sbytes_any hsto
theorem sq_keys (h : Sq w0 w s n m A pu) : Calls Tryz.prog 17 #[.pointer (some ⟨s, 0, none⟩)] w fun r w' => (∃ v, r = .returned v ∧ ownS w' w.heap.size v (keysS A)) ∧ Sq w0 w' s n m A pu ∧ Below w.heap.size w w' := by
  have h1 := h
  obtain ⟨X, hsto, hb⟩ := h
  refine (skeys_any hsto hb).mono ?_
  rintro r w' ⟨v, rfl, ho, hbl⟩
  exact ⟨⟨v, rfl, ho⟩, h1.bel hbl, hbl⟩
end
/-! body, finds, awake -/
def bodyE (s : List UInt8) : En := ⟨0, [], 0, [], s, 0, 0, []⟩
theorem smE_body (k s : List UInt8) (hk : k.length ≤ 300) (hs : s.length ≤ 3000) : SmE k (bodyE s) := ⟨hk, ⟨Nat.zero_le _, fun f h => by cases h⟩, ⟨Nat.zero_le _, fun f h => by cases h⟩, hs, Nat.zero_le _⟩
theorem fl_none (w : World) : FL w (.slice none 0 0) [] := .inl ⟨rfl, _, _, rfl⟩
set_option maxRecDepth 100000 in
set_option maxHeartbeats 2000000 in
theorem body_any (s : List UInt8) (w : World) :
    Calls Tryz.prog 8 #[.string (bs s)] w fun r w' => r = .returned (entV (bodyE s) (.slice none 0 0) (.slice none 0 0)) ∧ Below w.heap.size w w' := by
  have h := bk.new w #[.int .i64 0, .string ⟨#[]⟩, .int .i64 0, .slice none 0 0, .string ⟨#[]⟩, .int .i64 0, .int .i64 0, .slice none 0 0] 28
  have HST : Hid (World.there (w.alloc (.cells #[.int .i64 0, .string ⟨#[]⟩, .int .i64 0, .slice none 0 0, .string ⟨#[]⟩, .int .i64 0, .int .i64 0, .slice none 0 0] 28)) w.heap.size 0 8) := h.there 0 8 (by decide)
  have HQ := Lib.hid (h.setAll [.int .i64 0, .string ⟨#[]⟩, .int .i64 0, .slice none 0 0, .string (bs s), .int .i64 0, .int .i64 0, .slice none 0 0] rfl)
  have HB : Hid (Below w.heap.size w _) := Below.cells (((Below.refl w.heap.size w).alloc (Nat.le_refl _) (.cells #[.int .i64 0, .string ⟨#[]⟩, .int .i64 0, .slice none 0 0, .string ⟨#[]⟩, .int .i64 0, .int .i64 0, .slice none 0 0] 28))) w.heap.size (Nat.le_refl _) [.int .i64 0, .string ⟨#[]⟩, .int .i64 0, .slice none 0 0, .string (bs s), .int .i64 0, .int .i64 0, .slice none 0 0] 0
  clear h
  go_enter Tryz.func8, Tryz.ntmps8
  go_wp2_with (refine wpList_store_mid rfl 28 (.tmp 2) (.tmp 5) rfl _ 0 #[.int .i64 0, .string ⟨#[]⟩, .int .i64 0, .slice none 0 0, .string (bs s), .int .i64 0, .int .i64 0, .slice none 0 0] rfl rfl HST.out infoEn.out (by kernel_rfl) ?_; clear HST; generalize (World.setCells (w.alloc (.cells #[.int .i64 0, .string ⟨#[]⟩, .int .i64 0, .slice none 0 0, .string ⟨#[]⟩, .int .i64 0, .int .i64 0, .slice none 0 0] 28)) w.heap.size 0 [.int .i64 0, .string ⟨#[]⟩, .int .i64 0, .slice none 0 0, .string (bs s), .int .i64 0, .int .i64 0, .slice none 0 0]) = W0 at *)
  have m0 := HQ.out.cell 0 (.int .i64 0) rfl
  have m1 := HQ.out.cell 1 (.string ⟨#[]⟩) rfl
  have m2 := HQ.out.cell 2 (.int .i64 0) rfl
  have m3 := HQ.out.cell 3 (.slice none 0 0) rfl
  have m4 := HQ.out.cell 4 (.string (bs s)) rfl
  have m5 := HQ.out.cell 5 (.int .i64 0) rfl
  have m6 := HQ.out.cell 6 (.int .i64 0) rfl
  have m7 := HQ.out.cell 7 (.slice none 0 0) rfl
  refine bodyPost_ret (v := .agg #[.int .i64 0, .string ⟨#[]⟩, .int .i64 0, .slice none 0 0, .string (bs s), .int .i64 0, .int .i64 0, .slice none 0 0]) (by simp [results, Tryz.results8, go_sem, m0, m1, m2, m3, m4, m5, m6, m7]) rfl ⟨rfl, HB.out⟩
def noneT : List UInt8 := [110, 111, 110, 101]
def bodyS (o : Option (It He)) : List UInt8 := match o with
  | none => noneT
  | some a => a.2.2.e.bo
set_option maxRecDepth 100000 in
set_option maxHeartbeats 4000000 in
theorem finds_any {w0 w : World} {s n m pu : Nat} {A : List (It He)} (h : Sq w0 w s n m A pu) (k : List UInt8) (hk : k.length ≤ 300) (vr : Value) (req : List Fld) (hr : FL w0 vr req) (hreq : SmF req) (hp : pu ≤ 1000000) :
    Calls Tryz.prog 12 #[.pointer (some ⟨s, 0, none⟩), .string (bs k), vr] w fun r w' => r = .returned (.string (bs (bodyS (foundS A k req)))) ∧ Sq w0 w' s n m (findA A k req) pu := by
  have HF := Lib.hid (sq_find h k hk vr req hr hreq hp)
  clear h
  generalize foundS A k req = o at *
  go_enter Tryz.func12, Tryz.ntmps12
  go_wp2_with fail
  refine HF.out.mono ?_
  rintro r w1 ⟨⟨v, b, rfl, hf⟩, hs⟩
  have HS := Lib.hid hs
  clear hs HF
  cases o with
  | none =>
    obtain ⟨rfl, rfl⟩ := hf
    have h := bk.new w1 #[.int .i64 0, .string ⟨#[]⟩, .int .i64 0, .slice none 0 0, .string ⟨#[]⟩, .int .i64 0, .int .i64 0, .slice none 0 0] 28
    have HST : Hid (World.there (w1.alloc (.cells #[.int .i64 0, .string ⟨#[]⟩, .int .i64 0, .slice none 0 0, .string ⟨#[]⟩, .int .i64 0, .int .i64 0, .slice none 0 0] 28)) w1.heap.size 0 8) := h.there 0 8 (by decide)
    have HB : Hid (Below w1.heap.size w1 _) := Below.cells (((Below.refl w1.heap.size w1).alloc (Nat.le_refl _) (.cells #[.int .i64 0, .string ⟨#[]⟩, .int .i64 0, .slice none 0 0, .string ⟨#[]⟩, .int .i64 0, .int .i64 0, .slice none 0 0] 28))) w1.heap.size (Nat.le_refl _) [.int .i64 0, .string ⟨#[]⟩, .int .i64 0, .slice none 0 0, .string ⟨#[]⟩, .int .i64 0, .int .i64 0, .slice none 0 0] 0
    have HS1 := Lib.hid (HS.out.bel HB.out)
    clear h HB
    go_wp2_with (refine wpList_store_mid rfl 28 (.tmp 7) (.tmp 14) rfl _ 0 #[.int .i64 0, .string ⟨#[]⟩, .int .i64 0, .slice none 0 0, .string ⟨#[]⟩, .int .i64 0, .int .i64 0, .slice none 0 0] rfl rfl HST.out infoEn.out (by kernel_rfl) ?_; clear HST; generalize (World.setCells (w1.alloc (.cells #[.int .i64 0, .string ⟨#[]⟩, .int .i64 0, .slice none 0 0, .string ⟨#[]⟩, .int .i64 0, .int .i64 0, .slice none 0 0] 28)) w1.heap.size 0 [.int .i64 0, .string ⟨#[]⟩, .int .i64 0, .slice none 0 0, .string ⟨#[]⟩, .int .i64 0, .int .i64 0, .slice none 0 0]) = W0 at *)
    go_ret
    exact ⟨rfl, HS1.out⟩
  | some a =>
    obtain ⟨rfl, vf, vv, rfl, of, ov⟩ := hf
    obtain ⟨Af, cf, rfl⟩ := of.form
    obtain ⟨Av, cv, rfl⟩ := ov.form
    have HON : Hid ((#[.int .i64 a.2.2.e.st, .string (bs a.2.2.e.re), .int .i64 a.2.2.e.mi, .slice Af a.2.2.e.fs.length cf, .string (bs a.2.2.e.bo), .int .i64 a.2.2.e.ak, .int .i64 a.2.2.e.gt, .slice Av a.2.2.e.vy.length cv] : Array Value).all (·.oneCell') = true) := ent_one a.2.2.e _ _ of.fl ov.fl
    have h := bk.new w1 #[.int .i64 0, .string ⟨#[]⟩, .int .i64 0, .slice none 0 0, .string ⟨#[]⟩, .int .i64 0, .int .i64 0, .slice none 0 0] 28
    have HST : Hid (World.there (w1.alloc (.cells #[.int .i64 0, .string ⟨#[]⟩, .int .i64 0, .slice none 0 0, .string ⟨#[]⟩, .int .i64 0, .int .i64 0, .slice none 0 0] 28)) w1.heap.size 0 8) := h.there 0 8 (by decide)
    have HB : Hid (Below w1.heap.size w1 _) := Below.cells (((Below.refl w1.heap.size w1).alloc (Nat.le_refl _) (.cells #[.int .i64 0, .string ⟨#[]⟩, .int .i64 0, .slice none 0 0, .string ⟨#[]⟩, .int .i64 0, .int .i64 0, .slice none 0 0] 28))) w1.heap.size (Nat.le_refl _) [.int .i64 a.2.2.e.st, .string (bs a.2.2.e.re), .int .i64 a.2.2.e.mi, .slice Af a.2.2.e.fs.length cf, .string (bs a.2.2.e.bo), .int .i64 a.2.2.e.ak, .int .i64 a.2.2.e.gt, .slice Av a.2.2.e.vy.length cv] 0
    have HS1 := Lib.hid (HS.out.bel HB.out)
    have HQ := Lib.hid (h.setAll [.int .i64 a.2.2.e.st, .string (bs a.2.2.e.re), .int .i64 a.2.2.e.mi, .slice Af a.2.2.e.fs.length cf, .string (bs a.2.2.e.bo), .int .i64 a.2.2.e.ak, .int .i64 a.2.2.e.gt, .slice Av a.2.2.e.vy.length cv] rfl)
    clear h HB of ov
    unfold entV
    go_wp2_with (refine wpList_store_mid rfl 28 (.tmp 7) (.tmp 14) rfl _ 0 #[.int .i64 a.2.2.e.st, .string (bs a.2.2.e.re), .int .i64 a.2.2.e.mi, .slice Af a.2.2.e.fs.length cf, .string (bs a.2.2.e.bo), .int .i64 a.2.2.e.ak, .int .i64 a.2.2.e.gt, .slice Av a.2.2.e.vy.length cv] rfl rfl HST.out infoEn.out HON.out ?_; clear HST HON; generalize (World.setCells (w1.alloc (.cells #[.int .i64 0, .string ⟨#[]⟩, .int .i64 0, .slice none 0 0, .string ⟨#[]⟩, .int .i64 0, .int .i64 0, .slice none 0 0] 28)) w1.heap.size 0 [.int .i64 a.2.2.e.st, .string (bs a.2.2.e.re), .int .i64 a.2.2.e.mi, .slice Af a.2.2.e.fs.length cf, .string (bs a.2.2.e.bo), .int .i64 a.2.2.e.ak, .int .i64 a.2.2.e.gt, .slice Av a.2.2.e.vy.length cv]) = W0 at *; have q4 := HQ.out.cell 4 (.string (bs a.2.2.e.bo)) rfl)
    go_ret
    exact ⟨rfl, HS1.out⟩
/-! awake -/
def awA : List (It He) := (putS 2 1000 [] ⟨[107], bodyE [120], 1⟩).2
theorem aw1 : decide (sizeE [107] (bodyE [120]) ≤ 1000) = true := by kernel_rfl
theorem aw2 : bodyS (foundS awA [107] []) = [120] := by kernel_rfl
theorem aw3 : findA awA [107] [] = awA := by kernel_rfl
theorem aw4 : bodyS (foundS awA [109] []) = [110, 111, 110, 101] := by kernel_rfl
theorem aw5 : findA awA [109] [] = awA := by kernel_rfl
theorem aw6 : totK awA = 66 := by kernel_rfl
theorem aw7 : forgetB awA 0 = true := by kernel_rfl
theorem aw8 : bodyS (foundS (forgetS awA 0) [107] []) = [110, 111, 110, 101] := by kernel_rfl
set_option maxRecDepth 100000 in
set_option maxHeartbeats 4000000 in
theorem sawake_any (w : World) (hk : KE w) : Calls Tryz.prog 23 #[] w fun r w' => r = .returned (.bool true) ∧ Below w.heap.size w w' := by
  have hsm : SmF [] := ⟨by decide, fun f h => by cases h⟩
  have HN := Lib.hid (sq_new 2 1000 w (by decide) (by decide) (by decide) (by decide) hk)
  have HB : Hid (∀ W, Calls Tryz.prog 8 #[.string ⟨#[120]⟩] W fun r w' => r = .returned (entV (bodyE [120]) (.slice none 0 0) (.slice none 0 0)) ∧ Below W.heap.size W w') := fun W => body_any [120] W
  have HP : Hid (∀ W s, Sq w W s 2 1000 [] 0 → Calls Tryz.prog 11 #[.pointer (some ⟨s, 0, none⟩), .string ⟨#[107]⟩, entV (bodyE [120]) (.slice none 0 0) (.slice none 0 0)] W fun r w' => r = .returned (.bool true) ∧ Sq w w' s 2 1000 awA 1) := fun W s h => by
    have h1 := sq_put h [107] (bodyE [120]) (.slice none 0 0) (.slice none 0 0) (fl_none w) (fl_none w) (smE_body _ _ (by decide) (by decide)) (by decide)
    rw [aw1] at h1
    exact h1
  have HF1 : Hid (∀ W s, Sq w W s 2 1000 awA 1 → Calls Tryz.prog 12 #[.pointer (some ⟨s, 0, none⟩), .string ⟨#[107]⟩, .slice none 0 0] W fun r w' => r = .returned (.string ⟨#[120]⟩) ∧ Sq w w' s 2 1000 awA 1) := fun W s h => by
    have h1 := finds_any h [107] (by decide) (.slice none 0 0) [] (fl_none w) hsm (by decide)
    rw [aw2, aw3] at h1
    exact h1
  have HF2 : Hid (∀ W s, Sq w W s 2 1000 awA 1 → Calls Tryz.prog 12 #[.pointer (some ⟨s, 0, none⟩), .string ⟨#[109]⟩, .slice none 0 0] W fun r w' => r = .returned (.string ⟨#[110, 111, 110, 101]⟩) ∧ Sq w w' s 2 1000 awA 1) := fun W s h => by
    have h1 := finds_any h [109] (by decide) (.slice none 0 0) [] (fl_none w) hsm (by decide)
    rw [aw4, aw5] at h1
    exact h1
  have HY : Hid (∀ W s, Sq w W s 2 1000 awA 1 → Calls Tryz.prog 14 #[.pointer (some ⟨s, 0, none⟩)] W fun r w' => r = .returned (.int .i64 66) ∧ W = w') := fun W s h => by
    have h1 := sq_bytes h
    rw [aw6] at h1
    exact h1
  have HG : Hid (∀ W s, Sq w W s 2 1000 awA 1 → Calls Tryz.prog 18 #[.pointer (some ⟨s, 0, none⟩), .int .i64 0] W fun r w' => r = .returned (.bool true) ∧ Sq w w' s 2 1000 (forgetS awA 0) 1) := fun W s h => by
    have h1 := sq_forget h 0 (by decide)
    rw [aw7] at h1
    exact h1
  have HF3 : Hid (∀ W s, Sq w W s 2 1000 (forgetS awA 0) 1 → Calls Tryz.prog 12 #[.pointer (some ⟨s, 0, none⟩), .string ⟨#[107]⟩, .slice none 0 0] W fun r w' => r = .returned (.string ⟨#[110, 111, 110, 101]⟩) ∧ Below w.heap.size w w') := fun W s h => by
    have h1 := finds_any h [107] (by decide) (.slice none 0 0) [] (fl_none w) hsm (by decide)
    rw [aw8] at h1
    exact h1.mono fun r w' q => ⟨q.1, q.2.below⟩
  clear hsm hk
  go_enter Tryz.func23, Tryz.ntmps23
  go_wp2_with fail
  refine HN.out.mono ?_
  rintro r w1 ⟨s, rfl, hs⟩
  have HS := Lib.hid hs; clear hs
  go_wp2_with fail
  refine (HB.out _).mono ?_
  rintro r w2 ⟨rfl, hb⟩
  have HS2 := Lib.hid (HS.out.bel hb); clear hb HS
  go_wp2_with fail
  refine (HP.out _ s HS2.out).mono ?_
  rintro r w3 ⟨rfl, hs⟩
  have HS3 := Lib.hid hs; clear hs HS2
  go_wp2_with fail
  refine (HF1.out _ s HS3.out).mono ?_
  rintro r w4 ⟨rfl, hs⟩
  have HS4 := Lib.hid hs; clear hs HS3
  go_wp2_with fail
  refine (HF2.out _ s HS4.out).mono ?_
  rintro r w5 ⟨rfl, hs⟩
  have HS5 := Lib.hid hs; clear hs HS4
  go_wp2_with fail
  refine (HY.out _ s HS5.out).mono ?_
  rintro r w6 ⟨rfl, rfl⟩
  go_wp2_with fail
  refine (HG.out _ s HS5.out).mono ?_
  rintro r w6 ⟨rfl, hs⟩
  have HS6 := Lib.hid hs; clear hs HS5
  go_wp2_with fail
  refine (HF3.out _ s HS6.out).mono ?_
  rintro r w7 ⟨rfl, hb⟩
  have HB7 := Lib.hid hb; clear hb
  go_wp2_with fail
  go_ret
  exact ⟨rfl, HB7.out⟩
end Go.Proofs.YtopgeclecpaecaaGreatDoor
