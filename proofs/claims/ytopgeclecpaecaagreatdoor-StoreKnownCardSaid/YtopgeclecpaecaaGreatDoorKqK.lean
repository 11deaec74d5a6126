/- The examples of the chapter: the closed statement StoreKnown. -/
import Derived.Test.YtopgeclecpaecaaGreatDoorKqU
import Derived.Test.YtopgeclecpaecaaGreatDoorKqA
import Derived.Test.YtopgeclecpaecaaGreatDoorKApp
namespace Go.Proofs.YtopgeclecpaecaaGreatDoor
open Go.RowKit
/-- finds, the request being anywhere -/
theorem sq_findsW {w0 w : World} {s n m pu : Nat} {A : List (It He)} (h : Sq w0 w s n m A pu) (k : List UInt8) (hk : k.length ≤ 300) (vr : Value) (req : List Fld) (hr : FL w vr req) (hreq : VfB req) (hp : pu ≤ 1000000) :
    Calls Tryz.prog 12 #[.pointer (some ⟨s, 0, none⟩), .string (bs k), vr] w fun r w' => r = .returned (.string (bs (bodyS (foundS A k req)))) ∧ Sq w0 w' s n m (findA A k req) pu := by
  obtain ⟨X, hsto, hb⟩ := h
  have h1 : ∀ w1 w2, Sq w0 w1 s n m (findA A k req) pu → Below w1.heap.size w1 w2 → Sq w0 w2 s n m (findA A k req) pu := fun w1 w2 h hbl => h.bel hbl
  have h2 : Calls Tryz.prog 22 #[.pointer (some ⟨s, 0, none⟩), .string (bs k), vr] w fun r w' => FoundV (foundS A k req) w.heap.size r w' ∧ Sq w0 w' s n m (findA A k req) pu := by
    refine (sfind_any hsto k hk vr req hr hreq hp).mono ?_
    rintro r w' ⟨v, b, rfl, ⟨X', hs', hd⟩, hf⟩
    exact ⟨⟨v, b, rfl, hf⟩, X', hs', hb.did hd⟩
  exact findsP_any (fun w' => Sq w0 w' s n m (findA A k req) pu) (foundS A k req) k vr (Lib.hid h1) (Lib.hid h2)
theorem sq_names {w0 w : World} {s n m pu : Nat} {A : List (It He)} (h : Sq w0 w s n m A pu) (k : List UInt8) (hk : k.length ≤ 300) (hp : pu ≤ 1000000) :
    Calls Tryz.prog 16 #[.pointer (some ⟨s, 0, none⟩), .string (bs k)] w fun r w' => (∃ v, r = .returned v ∧ ownS w' w.heap.size v (namesS A k)) ∧ Sq w0 w' s n m A pu := by
  have h0 := h
  obtain ⟨X, hsto, hb⟩ := h
  refine (snames_any hsto k hk hp).mono ?_
  rintro r w' ⟨h1, h2⟩
  exact ⟨h1, h0.bel h2⟩
/-- a store, a block that is held, fields that are none of its own -/
def SqG (w0 w : World) (s n m : Nat) (A : List (It He)) (pu p : Nat) (cs : Array Value) (v : Value) (l : List Fld) : Prop := ∃ X, Sto w s X n m A pu ∧ Base w0 w X ∧ bk w p cs ∧ ¬ X p ∧ FLX w X v l
section
variable {w0 w w' : World} {s n m pu p : Nat} {A : List (It He)} {cs : Array Value} {v : Value} {l : List Fld}
theorem SqG.bel (h : SqG w0 w s n m A pu p cs v l) (hb : Below w.heap.size w w') : SqG w0 w' s n m A pu p cs v l := by
  obtain ⟨X, hs, hba, hk, hp, hf⟩ := h
  exact ⟨X, hs.bel hb, hba.down hb, hk.below hb, hp, hf.did (Did.of_below hb)⟩
theorem SqG.sq (h : SqG w0 w s n m A pu p cs v l) : Sq w0 w s n m A pu := by
  obtain ⟨X, hs, hba, -⟩ := h
  exact ⟨X, hs, hba⟩
theorem SqG.blk (h : SqG w0 w s n m A pu p cs v l) : bk w p cs := by
  obtain ⟨X, -, -, hk, -⟩ := h
  exact hk
theorem SqG.fl (h : SqG w0 w s n m A pu p cs v l) : FL w v l := by
  obtain ⟨X, -, -, -, -, hf⟩ := h
  exact hf.fl
/-- a new store; a value is written into the block that is held -/
theorem sqg_make {w3 w4 : World} {q : Nat} (h : SqB w0 w3 s n m [] 0 p cs) (hb : Below w3.heap.size w3 w4) (hp : w0.heap.size ≤ p) (hq : q = w3.heap.size) (hf : FL w4 (.slice (some ⟨q, 0, none⟩) 1 1) l) (hl : l.length = 1) :
    SqG w0 (w4.setCell ⟨p, 7, none⟩ (.slice (some ⟨q, 0, none⟩) 1 1)) s n m [] 0 p (cs.setIfInBounds 7 (.slice (some ⟨q, 0, none⟩) 1 1)) (.slice (some ⟨q, 0, none⟩) 1 1) l := by
  obtain ⟨X, ⟨tb, bb, umb, nF, XB, F, li, hw⟩, hba, hk, hx⟩ := h
  have hli : li = [] := by cases li with
    | nil => rfl
    | cons _ _ => exact hw.sim.elim
  subst hli
  have hw4 := hw.bel hb
  have hk4 := hk.below hb
  have hd : Did (fun b => b = p) (fun b => b = p) w4 (w4.setCell ⟨p, 7, none⟩ (.slice (some ⟨q, 0, none⟩) 1 1)) := ⟨rfl, rfl, rfl, by rw [size_setCell]; exact Nat.le_refl _, fun b _ hx => Below.heap_setCell _ _ _ _ hx, fun b hb => .inl hb⟩
  have hkx : ∀ b, X b → (w4.setCell ⟨p, 7, none⟩ (.slice (some ⟨q, 0, none⟩) 1 1)).heap[b]? = w4.heap[b]? := fun b e => hd.keep b (hw4.lt b e) (fun e' => hx (by have e' : b = p := e'; rw [← e']; exact e))
  have hqp : ¬ q = p := by have := hk.lt; omega
  have hqX : ¬ X q := fun e => by have := hw.lt q e; omega
  have hb4 := hba.down hb
  refine ⟨X, ⟨tb, bb, umb, nF, XB, F, [], ⟨hw4.top.keep (hkx s (by rw [hw.eX]; exact .inl rfl)), hw4.st.keep (fun b e => hkx b (by rw [hw.eX]; exact .inr e)), trivial, hw.eX, hw.ns, hw.nF, hw.of, hw.sm, hw.num, hw.nd⟩⟩, ⟨hba.ke0, hb4.bel.trans (hd.below hb4.bel.size (fun b e => by have e : b = p := e; omega)), hba.low⟩, hk4.set 7 _, hx, ?_⟩
  rcases hf with ⟨rfl, -⟩ | ⟨b, off, c, hv, hlt, hc⟩
  · cases hl
  · simp only [Value.slice.injEq, Option.some.injEq, Addr.mk.injEq, and_true] at hv
    obtain ⟨⟨rfl, rfl⟩, -, rfl⟩ := hv
    refine .inr ⟨q, 0, 1, by rw [hl], by rw [size_setCell]; exact hlt, hqX, fun j hj => ?_⟩
    have hkq := hd.keep q hlt hqp
    exact ⟨(World.cell?_of_block (a := ⟨q, 0 + j * 2, none⟩) hkq).trans (hc j hj).1, (World.cell?_of_block (a := ⟨q, 0 + j * 2 + 1, none⟩) hkq).trans (hc j hj).2⟩
theorem sqg_put (h : SqG w0 w s n m A pu p cs v l) (k : List UInt8) (e : En) (he : e.fs = []) (vv : Value) (hv : vv = v ∧ e.vy = l ∨ vv = .slice none 0 0 ∧ e.vy = []) (hs : SmE k e) (hp : pu < 1000000) :
    Calls Tryz.prog 11 #[.pointer (some ⟨s, 0, none⟩), .string (bs k), entV e (.slice none 0 0) vv] w fun r w' => r = .returned (.bool (decide (sizeE k e ≤ m))) ∧ SqG w0 w' s n m (putS n m A ⟨k, e, pu + 1⟩).2 (pu + 1) p cs v l := by
  obtain ⟨X, hsto, hb, hbk, hx, hf⟩ := h
  have hff : FLX w X (.slice none 0 0) e.fs := .inl ⟨he, _, _, rfl⟩
  have hfv : FLX w X vv e.vy := by
    rcases hv with ⟨rfl, e2⟩ | ⟨rfl, e2⟩
    · rw [e2]; exact hf
    · exact .inl ⟨e2, _, _, rfl⟩
  refine (sput_any hsto k e (.slice none 0 0) vv hff hfv hs hp hb).mono ?_
  rintro r w' ⟨rfl, X', hs', hd⟩
  exact ⟨rfl, X', hs', hb.did hd, hbk.keep (hd.keep p hbk.lt hx), fun q => (hd.new p q).elim hx (fun q => absurd hbk.lt (Nat.not_lt.2 q)), hf.did hd⟩
end
def e1K : En := ⟨0, [], 0, [], [121], 0, 0, [(accN, [97])]⟩
def rq1 : List Fld := [(accN, [97])]
theorem rq1_ok : VfB rq1 := ⟨by decide, fun f hf => by rw [List.mem_singleton.1 hf]; exact ⟨by decide, by decide⟩⟩
theorem rq0_ok : VfB [] := ⟨by decide, fun f hf => by cases hf⟩
theorem smE_e1 : SmE [107] e1K := ⟨by decide, ⟨by decide, fun f h => by cases h⟩, ⟨by decide, fun f hf => by rw [List.mem_singleton.1 hf]; exact ⟨by decide, by decide⟩⟩, by decide, by decide⟩
def r9 (n : Nat) : List UInt8 := Lib.repeatL [120] n
def kn1 : List (It He) := (putS 2 1000 [] ⟨[107], bodyE [120], 1⟩).2
def kn2 : List (It He) := (putS 2 1000 kn1 ⟨[107], e1K, 2⟩).2
def kn3 : List (It He) := findA kn2 [107] rq1
def kn4 : List (It He) := findA kn3 [107] []
def kn5 : List (It He) := (putS 2 1000 kn4 ⟨[107], bodyE [122], 3⟩).2
def kn6 : List (It He) := findA kn5 [107] rq1
def kn7 : List (It He) := (putS 2 1000 kn6 ⟨[109], bodyE [120], 4⟩).2
def kn8 : List (It He) := forgetS kn7 0
def kn9 : List (It He) := (putS 2 1000 kn8 ⟨[107], bodyE (r9 937), 5⟩).2
def kn10 : List (It He) := dropS kn9 [109]
def kn11 : List (It He) := dropS kn10 [109]
def kn12 : List (It He) := dropK (idT [107] []) kn11
def kn13 : List (It He) := (putS 2 1000 kn12 ⟨[107], bodyE (r9 935), 6⟩).2
def kn14 : List (It He) := dropK (idT [107] []) kn13
set_option maxRecDepth 1000000
theorem kv1 : decide (sizeE [107] (bodyE [120]) ≤ 1000) = true := by kernel_rfl
theorem kv2 : decide (sizeE [107] e1K ≤ 1000) = true := by kernel_rfl
theorem kv3 : bodyS (foundS kn2 [107] rq1) = [121] := by kernel_rfl
theorem kv4 : bodyS (foundS kn3 [107] []) = [120] := by kernel_rfl
theorem kv5 : kn4.length = 2 := by kernel_rfl
theorem kv6 : totK kn4 = 139 := by kernel_rfl
theorem kv7 : Lib.join (namesS kn4 [107]) [32] = accN := by kernel_rfl
theorem kv8 : namesS kn4 [109] = [] := by kernel_rfl
theorem kv9 : decide (sizeE [107] (bodyE [122]) ≤ 1000) = true := by kernel_rfl
theorem kv10 : bodyS (foundS kn5 [107] rq1) = [122] := by kernel_rfl
theorem kv11 : Lib.join (keysS kn6) [32] = [107, 32, 107] := by kernel_rfl
theorem kv12 : decide (sizeE [109] (bodyE [120]) ≤ 1000) = true := by kernel_rfl
theorem kv13 : Lib.join (keysS kn7) [32] = [107, 32, 109] := by kernel_rfl
theorem kv14 : forgetB kn7 0 = true := by kernel_rfl
theorem kv15 : forgetB kn8 1 = false := by kernel_rfl
theorem kv16 : forgetS kn8 1 = kn8 := by kernel_rfl
theorem kv17 : forgetB kn8 (-1) = false := by kernel_rfl
theorem kv18 : forgetS kn8 (-1) = kn8 := by kernel_rfl
theorem kv19 : Lib.join (keysS kn8) [32] = [109] := by kernel_rfl
theorem kv20 : decide (sizeE [107] (bodyE (r9 937)) ≤ 1000) = false := by kernel_rfl
theorem kv21 : kn9.length = 1 := by kernel_rfl
theorem kv22 : (rowS kn9 [109]).length = 1 := by kernel_rfl
theorem kv23 : (rowS kn10 [109]).length = 0 := by kernel_rfl
theorem kv24 : hasK (idT [107] []) kn11 = false := by kernel_rfl
theorem kv25 : decide (sizeE [107] (bodyE (r9 935)) ≤ 1000) = true := by kernel_rfl
theorem kv26 : hasK (idT [107] []) kn13 = true := by kernel_rfl
theorem kv27 : totK kn14 = 0 := by kernel_rfl
theorem kv28 : sizeE [107] (bodyE [120]) = 66 := by kernel_rfl
theorem kv29 : sizeE [107] e1K = 73 := by kernel_rfl
theorem r9_len (n : Nat) : (r9 n).length = n := by
  unfold r9
  rw [Lib.repeatL_length]; simp
set_option maxHeartbeats 16000000 in
theorem storeKnown_law (w : World) (hk : KE w) : Calls Tryz.prog 3 #[] w fun r w' => r = .returned (.bool true) ∧ Below w.heap.size w w' := by
  have HBOx : Hid (∀ W, Calls Tryz.prog 8 #[.string ⟨#[120]⟩] W fun r w' => r = .returned (entV (bodyE [120]) (.slice none 0 0) (.slice none 0 0)) ∧ Below W.heap.size W w') := fun W => body_any [120] W
  have HBOy : Hid (∀ W, Calls Tryz.prog 8 #[.string ⟨#[121]⟩] W fun r w' => r = .returned (entV (bodyE [121]) (.slice none 0 0) (.slice none 0 0)) ∧ Below W.heap.size W w') := fun W => body_any [121] W
  have HBOz : Hid (∀ W, Calls Tryz.prog 8 #[.string ⟨#[122]⟩] W fun r w' => r = .returned (entV (bodyE [122]) (.slice none 0 0) (.slice none 0 0)) ∧ Below W.heap.size W w') := fun W => body_any [122] W
  have HBOe : Hid (∀ W, Calls Tryz.prog 8 #[.string ⟨#[]⟩] W fun r w' => r = .returned (entV (bodyE []) (.slice none 0 0) (.slice none 0 0)) ∧ Below W.heap.size W w') := fun W => body_any [] W
  have HBOr : Hid (∀ n W, Calls Tryz.prog 8 #[.string (bs (r9 n))] W fun r w' => r = .returned (entV (bodyE (r9 n)) (.slice none 0 0) (.slice none 0 0)) ∧ Below W.heap.size W w') := fun n W => body_any (r9 n) W
  have HRE : Hid (∀ (n : Nat) W, n ≤ 1000 → Calls Tryz.prog 19 #[.string ⟨#[120]⟩, .int .i64 (n : Int)] W fun r w' => r = .returned (.string (bs (r9 n))) ∧ Below W.heap.size W w') := fun n W hn => Tryz.strings_Repeat (⟨#[120]⟩ : ByteArray) n W (by omega) (by show 1 * n ≤ _; omega)
  have HAC : Hid (∀ W, Calls Tryz.prog 9 #[.string ⟨#[97]⟩] W fun r w' => r = .returned (.slice (some ⟨W.heap.size, 0, none⟩) 1 1) ∧ FL w' (.slice (some ⟨W.heap.size, 0, none⟩) 1 1) rq1 ∧ Below W.heap.size W w') := fun W => accept_any [97] W
  have HJO : Hid (∀ W L v (out : List UInt8) (b : ByteArray), ownS W 0 v L → L.length ≤ 10 → Lib.join L [32] = out → out.length ≤ 100 → bs out = b → Calls Tryz.prog 15 #[v, .string ⟨#[32]⟩] W fun r w' => r = .returned (.string b) ∧ Below W.heap.size W w') := fun W L v out b ho hl hj hn hb => by
    have h1 := join_any 0 v L ⟨#[32]⟩ W ho (by omega) (by show (Lib.join L [32]).length ≤ _; rw [hj]; omega)
    rw [show Lib.join L (⟨#[32]⟩ : ByteArray).data.toList = out from hj, hb] at h1
    exact h1
  have HN : Hid (Calls Tryz.prog 7 #[.int .i64 2, .int .i64 1000] w fun r w' => ∃ s, r = .returned (.pointer (some ⟨s, 0, none⟩)) ∧ Sq w w' s 2 1000 [] 0) := sq_new 2 1000 w (by decide) (by decide) (by decide) (by decide) hk
  have HZ1 : Hid (∀ W, Calls Tryz.prog 10 #[.string ⟨#[107]⟩, entV (bodyE [120]) (.slice none 0 0) (.slice none 0 0)] W fun r w' => r = .returned (.int .i64 66) ∧ Below W.heap.size W w') := fun W => by
    have h1 := size_any [107] (bodyE [120]) (.slice none 0 0) (.slice none 0 0) W (fl_none W) (fl_none W) (smE_body _ _ (by decide) (by decide))
    rw [kv28] at h1
    exact h1
  have HZ2 : Hid (∀ W q, FL W (.slice (some ⟨q, 0, none⟩) 1 1) rq1 → Calls Tryz.prog 10 #[.string ⟨#[107]⟩, .agg #[.int .i64 0, .string ⟨#[]⟩, .int .i64 0, .slice none 0 0, .string ⟨#[121]⟩, .int .i64 0, .int .i64 0, .slice (some ⟨q, 0, none⟩) 1 1]] W fun r w' => r = .returned (.int .i64 73) ∧ Below W.heap.size W w') := fun W q h => by
    have h1 := size_any [107] e1K (.slice none 0 0) (.slice (some ⟨q, 0, none⟩) 1 1) W (fl_none W) h smE_e1
    rw [kv29] at h1
    exact h1
  have HP1 : Hid (∀ W s p q cs, SqG w W s 2 1000 [] 0 p cs (.slice (some ⟨q, 0, none⟩) 1 1) rq1 → Calls Tryz.prog 11 #[.pointer (some ⟨s, 0, none⟩), .string ⟨#[107]⟩, entV (bodyE [120]) (.slice none 0 0) (.slice none 0 0)] W fun r w' => r = .returned (.bool true) ∧ SqG w w' s 2 1000 kn1 1 p cs (.slice (some ⟨q, 0, none⟩) 1 1) rq1) := fun W s p q cs h => by
    have h1 := sqg_put h [107] (bodyE [120]) rfl (.slice none 0 0) (.inr ⟨rfl, rfl⟩) (smE_body _ _ (by decide) (by decide)) (by decide)
    rw [kv1] at h1
    exact h1
  have HP2 : Hid (∀ W s p q cs, SqG w W s 2 1000 kn1 1 p cs (.slice (some ⟨q, 0, none⟩) 1 1) rq1 → Calls Tryz.prog 11 #[.pointer (some ⟨s, 0, none⟩), .string ⟨#[107]⟩, .agg #[.int .i64 0, .string ⟨#[]⟩, .int .i64 0, .slice none 0 0, .string ⟨#[121]⟩, .int .i64 0, .int .i64 0, .slice (some ⟨q, 0, none⟩) 1 1]] W fun r w' => r = .returned (.bool true) ∧ Sq w w' s 2 1000 kn2 2) := fun W s p q cs h => by
    have h1 := sqg_put h [107] e1K rfl (.slice (some ⟨q, 0, none⟩) 1 1) (.inl ⟨rfl, rfl⟩) smE_e1 (by decide)
    rw [kv2] at h1
    exact h1.mono fun r w' q => ⟨q.1, q.2.sq⟩
  have HC1 : Hid (∀ W s q, Sq w W s 2 1000 kn2 2 → FL W (.slice (some ⟨q, 0, none⟩) 1 1) rq1 → Calls Tryz.prog 12 #[.pointer (some ⟨s, 0, none⟩), .string ⟨#[107]⟩, .slice (some ⟨q, 0, none⟩) 1 1] W fun r w' => r = .returned (.string ⟨#[121]⟩) ∧ Sq w w' s 2 1000 kn3 2) := fun W s q h hr => by
    have h1 := sq_findsW h [107] (by decide) (.slice (some ⟨q, 0, none⟩) 1 1) rq1 hr rq1_ok (by decide)
    rw [kv3] at h1
    exact h1
  have HC2 : Hid (∀ W s, Sq w W s 2 1000 kn3 2 → Calls Tryz.prog 12 #[.pointer (some ⟨s, 0, none⟩), .string ⟨#[107]⟩, .slice none 0 0] W fun r w' => r = .returned (.string ⟨#[120]⟩) ∧ Sq w w' s 2 1000 kn4 2) := fun W s h => by
    have h1 := sq_findsW h [107] (by decide) (.slice none 0 0) [] (fl_none W) rq0_ok (by decide)
    rw [kv4] at h1
    exact h1
  have HC3 : Hid (∀ W s, Sq w W s 2 1000 kn4 2 → Calls Tryz.prog 13 #[.pointer (some ⟨s, 0, none⟩)] W fun r w' => r = .returned (.int .i64 2) ∧ W = w') := fun W s h => by
    have h1 := sq_len h
    rw [kv5] at h1
    exact h1
  have HC4 : Hid (∀ W s, Sq w W s 2 1000 kn4 2 → Calls Tryz.prog 14 #[.pointer (some ⟨s, 0, none⟩)] W fun r w' => r = .returned (.int .i64 139) ∧ W = w') := fun W s h => by
    have h1 := sq_bytes h
    rw [kv6] at h1
    exact h1
  have HC5 : Hid (∀ W s, Sq w W s 2 1000 kn4 2 → Calls Tryz.prog 16 #[.pointer (some ⟨s, 0, none⟩), .string ⟨#[107]⟩] W fun r w' => (∃ v, r = .returned v ∧ ownS w' W.heap.size v (namesS kn4 [107])) ∧ Sq w w' s 2 1000 kn4 2) := fun W s h => sq_names h [107] (by decide) (by decide)
  have HC6 : Hid (∀ W s, Sq w W s 2 1000 kn4 2 → Calls Tryz.prog 16 #[.pointer (some ⟨s, 0, none⟩), .string ⟨#[109]⟩] W fun r w' => (∃ v, r = .returned v ∧ ownS w' W.heap.size v (namesS kn4 [109])) ∧ Sq w w' s 2 1000 kn4 2) := fun W s h => sq_names h [109] (by decide) (by decide)
  have HC7 : Hid (∀ W s, Sq w W s 2 1000 kn4 2 → Calls Tryz.prog 11 #[.pointer (some ⟨s, 0, none⟩), .string ⟨#[107]⟩, entV (bodyE [122]) (.slice none 0 0) (.slice none 0 0)] W fun r w' => r = .returned (.bool true) ∧ Sq w w' s 2 1000 kn5 3) := fun W s h => by
    have h1 := sq_put h [107] (bodyE [122]) (.slice none 0 0) (.slice none 0 0) (fl_none w) (fl_none w) (smE_body _ _ (by decide) (by decide)) (by decide)
    rw [kv9] at h1
    exact h1
  have HC8 : Hid (∀ W s q, Sq w W s 2 1000 kn5 3 → FL W (.slice (some ⟨q, 0, none⟩) 1 1) rq1 → Calls Tryz.prog 12 #[.pointer (some ⟨s, 0, none⟩), .string ⟨#[107]⟩, .slice (some ⟨q, 0, none⟩) 1 1] W fun r w' => r = .returned (.string ⟨#[122]⟩) ∧ Sq w w' s 2 1000 kn6 3) := fun W s q h hr => by
    have h1 := sq_findsW h [107] (by decide) (.slice (some ⟨q, 0, none⟩) 1 1) rq1 hr rq1_ok (by decide)
    rw [kv10] at h1
    exact h1
  have HC9 : Hid (∀ W s, Sq w W s 2 1000 kn6 3 → Calls Tryz.prog 17 #[.pointer (some ⟨s, 0, none⟩)] W fun r w' => (∃ v, r = .returned v ∧ ownS w' W.heap.size v (keysS kn6)) ∧ Sq w w' s 2 1000 kn6 3) := fun W s h => (sq_keys h).mono fun r w' q => ⟨q.1, q.2.1⟩
  have HC10 : Hid (∀ W s, Sq w W s 2 1000 kn6 3 → Calls Tryz.prog 11 #[.pointer (some ⟨s, 0, none⟩), .string ⟨#[109]⟩, entV (bodyE [120]) (.slice none 0 0) (.slice none 0 0)] W fun r w' => r = .returned (.bool true) ∧ Sq w w' s 2 1000 kn7 4) := fun W s h => by
    have h1 := sq_put h [109] (bodyE [120]) (.slice none 0 0) (.slice none 0 0) (fl_none w) (fl_none w) (smE_body _ _ (by decide) (by decide)) (by decide)
    rw [kv12] at h1
    exact h1
  have HC11 : Hid (∀ W s, Sq w W s 2 1000 kn7 4 → Calls Tryz.prog 17 #[.pointer (some ⟨s, 0, none⟩)] W fun r w' => (∃ v, r = .returned v ∧ ownS w' W.heap.size v (keysS kn7)) ∧ Sq w w' s 2 1000 kn7 4) := fun W s h => (sq_keys h).mono fun r w' q => ⟨q.1, q.2.1⟩
  have HC12 : Hid (∀ W s, Sq w W s 2 1000 kn7 4 → Calls Tryz.prog 18 #[.pointer (some ⟨s, 0, none⟩), .int .i64 0] W fun r w' => r = .returned (.bool true) ∧ Sq w w' s 2 1000 kn8 4) := fun W s h => by
    have h1 := sq_forget h 0 (by decide)
    rw [kv14] at h1
    exact h1
  have HC13 : Hid (∀ W s, Sq w W s 2 1000 kn8 4 → Calls Tryz.prog 18 #[.pointer (some ⟨s, 0, none⟩), .int .i64 1] W fun r w' => r = .returned (.bool false) ∧ Sq w w' s 2 1000 kn8 4) := fun W s h => by
    have h1 := sq_forget h 1 (by decide)
    rw [kv15, kv16] at h1
    exact h1
  have HC14 : Hid (∀ W s, Sq w W s 2 1000 kn8 4 → Calls Tryz.prog 18 #[.pointer (some ⟨s, 0, none⟩), .int .i64 (-1)] W fun r w' => r = .returned (.bool false) ∧ Sq w w' s 2 1000 kn8 4) := fun W s h => by
    have h1 := sq_forget h (-1) (by decide)
    rw [kv17, kv18] at h1
    exact h1
  have HC15 : Hid (∀ W s, Sq w W s 2 1000 kn8 4 → Calls Tryz.prog 17 #[.pointer (some ⟨s, 0, none⟩)] W fun r w' => (∃ v, r = .returned v ∧ ownS w' W.heap.size v (keysS kn8)) ∧ Sq w w' s 2 1000 kn8 4) := fun W s h => (sq_keys h).mono fun r w' q => ⟨q.1, q.2.1⟩
  have HC16 : Hid (∀ W s, Sq w W s 2 1000 kn8 4 → Calls Tryz.prog 11 #[.pointer (some ⟨s, 0, none⟩), .string ⟨#[107]⟩, entV (bodyE (r9 937)) (.slice none 0 0) (.slice none 0 0)] W fun r w' => r = .returned (.bool false) ∧ Sq w w' s 2 1000 kn9 5) := fun W s h => by
    have h1 := sq_put h [107] (bodyE (r9 937)) (.slice none 0 0) (.slice none 0 0) (fl_none w) (fl_none w) (smE_body _ _ (by decide) (by rw [r9_len]; decide)) (by decide)
    rw [kv20] at h1
    exact h1
  have HC17 : Hid (∀ W s, Sq w W s 2 1000 kn9 5 → Calls Tryz.prog 13 #[.pointer (some ⟨s, 0, none⟩)] W fun r w' => r = .returned (.int .i64 1) ∧ W = w') := fun W s h => by
    have h1 := sq_len h
    rw [kv21] at h1
    exact h1
  have HC18 : Hid (∀ W s, Sq w W s 2 1000 kn9 5 → Calls Tryz.prog 20 #[.pointer (some ⟨s, 0, none⟩), .string ⟨#[109]⟩] W fun r w' => r = .returned (.int .i64 1) ∧ Sq w w' s 2 1000 kn10 5) := fun W s h => by
    have h1 := sq_drop h [109] (by decide)
    rw [kv22] at h1
    exact h1
  have HC19 : Hid (∀ W s, Sq w W s 2 1000 kn10 5 → Calls Tryz.prog 20 #[.pointer (some ⟨s, 0, none⟩), .string ⟨#[109]⟩] W fun r w' => r = .returned (.int .i64 0) ∧ Sq w w' s 2 1000 kn11 5) := fun W s h => by
    have h1 := sq_drop h [109] (by decide)
    rw [kv23] at h1
    exact h1
  have HC20 : Hid (∀ W s, Sq w W s 2 1000 kn11 5 → Calls Tryz.prog 21 #[.pointer (some ⟨s, 0, none⟩), .string ⟨#[107]⟩, entV (bodyE [120]) (.slice none 0 0) (.slice none 0 0)] W fun r w' => r = .returned (.bool false) ∧ Sq w w' s 2 1000 kn12 5) := fun W s h => by
    have h1 := sq_remove h [107] (bodyE [120]) (.slice none 0 0) (.slice none 0 0) (fl_none w) (fl_none w) (smE_body _ _ (by decide) (by decide)) (by decide)
    rw [show (bodyE [120]).vy = [] from rfl, kv24] at h1
    exact h1
  have HC21 : Hid (∀ W s, Sq w W s 2 1000 kn12 5 → Calls Tryz.prog 11 #[.pointer (some ⟨s, 0, none⟩), .string ⟨#[107]⟩, entV (bodyE (r9 935)) (.slice none 0 0) (.slice none 0 0)] W fun r w' => r = .returned (.bool true) ∧ Sq w w' s 2 1000 kn13 6) := fun W s h => by
    have h1 := sq_put h [107] (bodyE (r9 935)) (.slice none 0 0) (.slice none 0 0) (fl_none w) (fl_none w) (smE_body _ _ (by decide) (by rw [r9_len]; decide)) (by decide)
    rw [kv25] at h1
    exact h1
  have HC22 : Hid (∀ W s, Sq w W s 2 1000 kn13 6 → Calls Tryz.prog 21 #[.pointer (some ⟨s, 0, none⟩), .string ⟨#[107]⟩, entV (bodyE []) (.slice none 0 0) (.slice none 0 0)] W fun r w' => r = .returned (.bool true) ∧ Sq w w' s 2 1000 kn14 6) := fun W s h => by
    have h1 := sq_remove h [107] (bodyE []) (.slice none 0 0) (.slice none 0 0) (fl_none w) (fl_none w) (smE_body _ _ (by decide) (by decide)) (by decide)
    rw [show (bodyE []).vy = [] from rfl, kv26] at h1
    exact h1
  have HC23 : Hid (∀ W s, Sq w W s 2 1000 kn14 6 → Calls Tryz.prog 14 #[.pointer (some ⟨s, 0, none⟩)] W fun r w' => r = .returned (.int .i64 0) ∧ W = w') := fun W s h => by
    have h1 := sq_bytes h
    rw [kv27] at h1
    exact h1
  have HUF : Hid (∀ W, Calls Tryz.prog 22 #[.pointer none, .string ⟨#[107]⟩, .slice none 0 0] W fun r w' => r = .returned (.tuple #[.agg #[.int .i64 0, .string ⟨#[]⟩, .int .i64 0, .slice none 0 0, .string ⟨#[]⟩, .int .i64 0, .int .i64 0, .slice none 0 0], .bool false]) ∧ Below W.heap.size W w') := fun W => sfind_un (w := W) (v := .pointer none) (.inl rfl) [107] (.slice none 0 0)
  have HUP : Hid (∀ W v, UnS W v → Below w.heap.size w W → Calls Tryz.prog 11 #[v, .string ⟨#[107]⟩, entV (bodyE [120]) (.slice none 0 0) (.slice none 0 0)] W fun r w' => r = .returned (.bool false) ∧ Below W.heap.size W w') := fun W v h hb => sput_un h [107] (bodyE [120]) none none 0 0 (fl_none W) (fl_none W) (smE_body _ _ (by decide) (by decide)) (hk.bel hb)
  have HUR : Hid (∀ W v, UnS W v → Below w.heap.size w W → Calls Tryz.prog 21 #[v, .string ⟨#[107]⟩, entV (bodyE [120]) (.slice none 0 0) (.slice none 0 0)] W fun r w' => r = .returned (.bool false) ∧ Below W.heap.size W w') := fun W v h hb => sremove_un h [107] (bodyE [120]) none none 0 0 (fl_none W) (smE_body _ _ (by decide) (by decide)) (hk.bel hb)
  have HUD : Hid (∀ W v, UnS W v → Calls Tryz.prog 20 #[v, .string ⟨#[107]⟩] W fun r w' => r = .returned (.int .i64 0) ∧ Below W.heap.size W w') := fun W v h => sdrop_un h [107]
  have HUG : Hid (∀ W v, UnS W v → Calls Tryz.prog 18 #[v, .int .i64 0] W fun r w' => r = .returned (.bool false) ∧ Below W.heap.size W w') := fun W v h => sforget_un h
  have HUN : Hid (∀ W v, UnS W v → Calls Tryz.prog 16 #[v, .string ⟨#[107]⟩] W fun r w' => r = .returned (.slice none 0 0) ∧ Below W.heap.size W w') := fun W v h => snames_un h [107]
  have HUL : Hid (∀ W v, UnS W v → Calls Tryz.prog 13 #[v] W fun r w' => r = .returned (.int .i64 0) ∧ Below W.heap.size W w') := fun W v h => slen_un h
  have HUY : Hid (∀ W v, UnS W v → Calls Tryz.prog 14 #[v] W fun r w' => r = .returned (.int .i64 0) ∧ Below W.heap.size W w') := fun W v h => sbytes_un h
  have HUK : Hid (∀ W v, UnS W v → Calls Tryz.prog 17 #[v] W fun r w' => r = .returned (.slice none 0 0) ∧ Below W.heap.size W w') := fun W v h => skeys_un h
  have HM0 : Hid (∀ W, Calls Tryz.prog 7 #[.int .i64 0, .int .i64 1] W fun r w' => r = .returned (.pointer none) ∧ Below W.heap.size W w') := fun W => snew_nil 0 1 W (by omega)
  have HM1 : Hid (∀ W, Calls Tryz.prog 7 #[.int .i64 1, .int .i64 0] W fun r w' => r = .returned (.pointer none) ∧ Below W.heap.size W w') := fun W => snew_nil 1 0 W (by omega)
  have HM2 : Hid (∀ W, Calls Tryz.prog 7 #[.int .i64 4097, .int .i64 1] W fun r w' => r = .returned (.pointer none) ∧ Below W.heap.size W w') := fun W => snew_nil 4097 1 W (by omega)
  have HVN : Hid (∀ W, UnS W (.pointer none)) := fun W => .inl rfl
  have HKE := Lib.hid hk
  have HAW := Lib.hid (fun W (hk : KE W) => sawake_any W hk)
  clear hk
  go_enter Tryz.func3, Tryz.ntmps3
  go_wp2_with fail
  refine (HN.out).mono ?_
  rintro r w1 ⟨s, rfl, hs⟩
  have HS1 := Lib.hid hs; clear hs HN
  go_wp2_with fail
  refine (HBOy.out _).mono ?_
  rintro r w2 ⟨rfl, hb⟩
  have HS2 := Lib.hid (HS1.out.bel hb)
  have HWP : Hid (w.heap.size ≤ w2.heap.size) := HS2.out.below.size
  have hz := bk.new w2 #[.int .i64 0, .string ⟨#[]⟩, .int .i64 0, .slice none 0 0, .string ⟨#[]⟩, .int .i64 0, .int .i64 0, .slice none 0 0] 28
  have HST : Hid (World.there (w2.alloc (.cells #[.int .i64 0, .string ⟨#[]⟩, .int .i64 0, .slice none 0 0, .string ⟨#[]⟩, .int .i64 0, .int .i64 0, .slice none 0 0] 28)) w2.heap.size 0 8) := hz.there 0 8 (by decide)
  have hb3 : Below w2.heap.size w2 (World.setCells (w2.alloc (.cells #[.int .i64 0, .string ⟨#[]⟩, .int .i64 0, .slice none 0 0, .string ⟨#[]⟩, .int .i64 0, .int .i64 0, .slice none 0 0] 28)) w2.heap.size 0 [.int .i64 0, .string ⟨#[]⟩, .int .i64 0, .slice none 0 0, .string ⟨#[121]⟩, .int .i64 0, .int .i64 0, .slice none 0 0]) := Below.cells ((Below.refl _ _).alloc (Nat.le_refl _) _) _ (Nat.le_refl _) _ 0
  have HS3 := Lib.hid (HS2.out.held hb3 (hz.setAll [.int .i64 0, .string ⟨#[]⟩, .int .i64 0, .slice none 0 0, .string ⟨#[121]⟩, .int .i64 0, .int .i64 0, .slice none 0 0] rfl))
  clear hb hz hb3 HS1 HS2
  unfold entV bodyE
  go_wp2_with (refine wpList_store_mid rfl 28 (.tmp 2) (.tmp 10) rfl _ 0 #[.int .i64 0, .string ⟨#[]⟩, .int .i64 0, .slice none 0 0, .string ⟨#[121]⟩, .int .i64 0, .int .i64 0, .slice none 0 0] rfl rfl HST.out infoEn.out (by kernel_rfl) ?_; clear HST; generalize (World.setCells (w2.alloc (.cells #[.int .i64 0, .string ⟨#[]⟩, .int .i64 0, .slice none 0 0, .string ⟨#[]⟩, .int .i64 0, .int .i64 0, .slice none 0 0] 28)) w2.heap.size 0 [.int .i64 0, .string ⟨#[]⟩, .int .i64 0, .slice none 0 0, .string ⟨#[121]⟩, .int .i64 0, .int .i64 0, .slice none 0 0]) = w3 at *; generalize w2.heap.size = p at *)
  refine (HAC.out _).mono ?_
  rintro r w4 ⟨rfl, hfl, hb⟩
  have HS5 := Lib.hid (sqg_make HS3.out hb HWP.out rfl hfl rfl)
  have q7 := (HS3.out.blk.below hb).cell 7 (.slice none 0 0) rfl
  have z7 := (HS3.out.blk.below hb).free 7
  clear hb hfl HS3
  generalize w3.heap.size = q at *
  go_wp2_with fail
  clear q7 z7
  generalize w4.setCell ⟨p, 7, none⟩ (.slice (some ⟨q, 0, none⟩) 1 1) = w5 at *
  refine (HBOx.out _).mono ?_
  rintro r w6 ⟨rfl, hb⟩
  have HS6 := Lib.hid (HS5.out.bel hb); clear hb HS5
  go_wp2_with fail
  refine (HZ1.out _).mono ?_
  rintro r w7 ⟨rfl, hb⟩
  have HS7 := Lib.hid (HS6.out.bel hb); clear hb HS6
  have p0 := HS7.out.blk.cell 0 (.int .i64 0) rfl
  have p1 := HS7.out.blk.cell 1 (.string ⟨#[]⟩) rfl
  have p2 := HS7.out.blk.cell 2 (.int .i64 0) rfl
  have p3 := HS7.out.blk.cell 3 (.slice none 0 0) rfl
  have p4 := HS7.out.blk.cell 4 (.string ⟨#[121]⟩) rfl
  have p5 := HS7.out.blk.cell 5 (.int .i64 0) rfl
  have p6 := HS7.out.blk.cell 6 (.int .i64 0) rfl
  have p7 := HS7.out.blk.cell 7 (.slice (some ⟨q, 0, none⟩) 1 1) rfl
  go_wp2_with fail
  clear p0 p1 p2 p3 p4 p5 p6 p7
  refine (HZ2.out _ q HS7.out.fl).mono ?_
  rintro r w8 ⟨rfl, hb⟩
  have HS8 := Lib.hid (HS7.out.bel hb); clear hb HS7
  go_wp2_with fail
  refine (HBOx.out _).mono ?_
  rintro r w9 ⟨rfl, hb⟩
  have HS9 := Lib.hid (HS8.out.bel hb); clear hb HS8
  go_wp2_with fail
  refine (HP1.out _ s p q _ HS9.out).mono ?_
  rintro r w10 ⟨rfl, hs⟩
  have HS10 := Lib.hid hs; clear hs HS9 HP1
  have p0 := HS10.out.blk.cell 0 (.int .i64 0) rfl
  have p1 := HS10.out.blk.cell 1 (.string ⟨#[]⟩) rfl
  have p2 := HS10.out.blk.cell 2 (.int .i64 0) rfl
  have p3 := HS10.out.blk.cell 3 (.slice none 0 0) rfl
  have p4 := HS10.out.blk.cell 4 (.string ⟨#[121]⟩) rfl
  have p5 := HS10.out.blk.cell 5 (.int .i64 0) rfl
  have p6 := HS10.out.blk.cell 6 (.int .i64 0) rfl
  have p7 := HS10.out.blk.cell 7 (.slice (some ⟨q, 0, none⟩) 1 1) rfl
  go_wp2_with fail
  clear p0 p1 p2 p3 p4 p5 p6 p7
  refine (HP2.out _ s p q _ HS10.out).mono ?_
  rintro r w11 ⟨rfl, hs⟩
  have HS11 := Lib.hid hs; clear hs HS10 HP2
  go_wp2_with fail
  refine (HAC.out _).mono ?_
  rintro r w12 ⟨rfl, hfl, hb⟩
  have HS12 := Lib.hid (HS11.out.bel hb); have HFQ := Lib.hid hfl; clear hb hfl HS11
  generalize w11.heap.size = q11 at *
  go_wp2_with fail
  refine (HC1.out _ s q11 HS12.out HFQ.out).mono ?_
  rintro r w13 ⟨rfl, hs⟩
  have HS13 := Lib.hid hs; clear hs HS12 HFQ HC1
  go_wp2_with fail
  refine (HC2.out _ s HS13.out).mono ?_
  rintro r w14 ⟨rfl, hs⟩
  have HS14 := Lib.hid hs; clear hs HS13 HC2
  go_wp2_with fail
  refine (HC3.out _ s HS14.out).mono ?_
  rintro r wx ⟨rfl, rfl⟩
  clear HC3
  go_wp2_with fail
  refine (HC4.out _ s HS14.out).mono ?_
  rintro r wx ⟨rfl, rfl⟩
  clear HC4
  go_wp2_with fail
  refine (HC5.out _ s HS14.out).mono ?_
  rintro r w15 ⟨⟨v, rfl, ho⟩, hs⟩
  have HO := Lib.hid (ho.mono (Nat.zero_le _)); have HS15 := Lib.hid hs; clear hs ho HS14 HC5
  obtain ⟨Ax, cx, hvx⟩ := HO.out.form
  subst hvx
  go_wp2_with fail
  refine (HJO.out _ _ _ [97, 99, 99, 101, 112, 116] ⟨#[97, 99, 99, 101, 112, 116]⟩ HO.out (of_decide_eq_true (by kernel_rfl)) kv7 (by decide) rfl).mono ?_
  rintro r w16 ⟨rfl, hb⟩
  have HS16 := Lib.hid (HS15.out.bel hb); clear hb HO HS15
  go_wp2_with fail
  refine (HC6.out _ s HS16.out).mono ?_
  rintro r w17 ⟨⟨v, rfl, ho⟩, hs⟩
  rw [kv8] at ho
  obtain ⟨Ax, cx, rfl⟩ := ho.form
  have HS17 := Lib.hid hs; clear hs ho HS16 HC6
  go_wp2_with fail
  refine (HBOz.out _).mono ?_
  rintro r w18 ⟨rfl, hb⟩
  have HS18 := Lib.hid (HS17.out.bel hb); clear hb HS17
  go_wp2_with fail
  refine (HC7.out _ s HS18.out).mono ?_
  rintro r w19 ⟨rfl, hs⟩
  have HS19 := Lib.hid hs; clear hs HS18 HC7
  go_wp2_with fail
  refine (HAC.out _).mono ?_
  rintro r w20 ⟨rfl, hfl, hb⟩
  have HS20 := Lib.hid (HS19.out.bel hb); have HFQ := Lib.hid hfl; clear hb hfl HS19
  generalize w19.heap.size = q19 at *
  go_wp2_with fail
  refine (HC8.out _ s q19 HS20.out HFQ.out).mono ?_
  rintro r w21 ⟨rfl, hs⟩
  have HS21 := Lib.hid hs; clear hs HS20 HFQ HC8
  go_wp2_with fail
  refine (HC9.out _ s HS21.out).mono ?_
  rintro r w22 ⟨⟨v, rfl, ho⟩, hs⟩
  have HO := Lib.hid (ho.mono (Nat.zero_le _)); have HS22 := Lib.hid hs; clear hs ho HS21 HC9
  obtain ⟨Ax, cx, hvx⟩ := HO.out.form
  subst hvx
  go_wp2_with fail
  refine (HJO.out _ _ _ [107, 32, 107] ⟨#[107, 32, 107]⟩ HO.out (of_decide_eq_true (by kernel_rfl)) kv11 (by decide) rfl).mono ?_
  rintro r w23 ⟨rfl, hb⟩
  have HS23 := Lib.hid (HS22.out.bel hb); clear hb HO HS22
  go_wp2_with fail
  refine (HBOx.out _).mono ?_
  rintro r w24 ⟨rfl, hb⟩
  have HS24 := Lib.hid (HS23.out.bel hb); clear hb HS23
  go_wp2_with fail
  refine (HC10.out _ s HS24.out).mono ?_
  rintro r w25 ⟨rfl, hs⟩
  have HS25 := Lib.hid hs; clear hs HS24 HC10
  go_wp2_with fail
  refine (HC11.out _ s HS25.out).mono ?_
  rintro r w26 ⟨⟨v, rfl, ho⟩, hs⟩
  have HO := Lib.hid (ho.mono (Nat.zero_le _)); have HS26 := Lib.hid hs; clear hs ho HS25 HC11
  obtain ⟨Ax, cx, hvx⟩ := HO.out.form
  subst hvx
  go_wp2_with fail
  refine (HJO.out _ _ _ [107, 32, 109] ⟨#[107, 32, 109]⟩ HO.out (of_decide_eq_true (by kernel_rfl)) kv13 (by decide) rfl).mono ?_
  rintro r w27 ⟨rfl, hb⟩
  have HS27 := Lib.hid (HS26.out.bel hb); clear hb HO HS26
  go_wp2_with fail
  refine (HC12.out _ s HS27.out).mono ?_
  rintro r w28 ⟨rfl, hs⟩
  have HS28 := Lib.hid hs; clear hs HS27 HC12
  go_wp2_with fail
  refine (HC13.out _ s HS28.out).mono ?_
  rintro r w29 ⟨rfl, hs⟩
  have HS29 := Lib.hid hs; clear hs HS28 HC13
  go_wp2_with fail
  refine (HC14.out _ s HS29.out).mono ?_
  rintro r w30 ⟨rfl, hs⟩
  have HS30 := Lib.hid hs; clear hs HS29 HC14
  go_wp2_with fail
  refine (HC15.out _ s HS30.out).mono ?_
  rintro r w31 ⟨⟨v, rfl, ho⟩, hs⟩
  have HO := Lib.hid (ho.mono (Nat.zero_le _)); have HS31 := Lib.hid hs; clear hs ho HS30 HC15
  obtain ⟨Ax, cx, hvx⟩ := HO.out.form
  subst hvx
  go_wp2_with fail
  refine (HJO.out _ _ _ [109] ⟨#[109]⟩ HO.out (of_decide_eq_true (by kernel_rfl)) kv19 (by decide) rfl).mono ?_
  rintro r w32 ⟨rfl, hb⟩
  have HS32 := Lib.hid (HS31.out.bel hb); clear hb HO HS31
  go_wp2_with fail
  refine (HRE.out 937 _ (by decide)).mono ?_
  rintro r w33 ⟨rfl, hb⟩
  have HS33 := Lib.hid (HS32.out.bel hb); clear hb HS32
  go_wp2_with fail
  refine (HBOr.out 937 _).mono ?_
  rintro r w34 ⟨rfl, hb⟩
  have HS34 := Lib.hid (HS33.out.bel hb); clear hb HS33
  go_wp2_with fail
  refine (HC16.out _ s HS34.out).mono ?_
  rintro r w35 ⟨rfl, hs⟩
  have HS35 := Lib.hid hs; clear hs HS34 HC16
  go_wp2_with fail
  refine (HC17.out _ s HS35.out).mono ?_
  rintro r wx ⟨rfl, rfl⟩
  clear HC17
  go_wp2_with fail
  refine (HC18.out _ s HS35.out).mono ?_
  rintro r w36 ⟨rfl, hs⟩
  have HS36 := Lib.hid hs; clear hs HS35 HC18
  go_wp2_with fail
  refine (HC19.out _ s HS36.out).mono ?_
  rintro r w37 ⟨rfl, hs⟩
  have HS37 := Lib.hid hs; clear hs HS36 HC19
  go_wp2_with fail
  refine (HBOx.out _).mono ?_
  rintro r w38 ⟨rfl, hb⟩
  have HS38 := Lib.hid (HS37.out.bel hb); clear hb HS37
  go_wp2_with fail
  refine (HC20.out _ s HS38.out).mono ?_
  rintro r w39 ⟨rfl, hs⟩
  have HS39 := Lib.hid hs; clear hs HS38 HC20
  go_wp2_with fail
  refine (HRE.out 935 _ (by decide)).mono ?_
  rintro r w40 ⟨rfl, hb⟩
  have HS40 := Lib.hid (HS39.out.bel hb); clear hb HS39
  go_wp2_with fail
  refine (HBOr.out 935 _).mono ?_
  rintro r w41 ⟨rfl, hb⟩
  have HS41 := Lib.hid (HS40.out.bel hb); clear hb HS40
  go_wp2_with fail
  refine (HC21.out _ s HS41.out).mono ?_
  rintro r w42 ⟨rfl, hs⟩
  have HS42 := Lib.hid hs; clear hs HS41 HC21
  go_wp2_with fail
  refine (HBOe.out _).mono ?_
  rintro r w43 ⟨rfl, hb⟩
  have HS43 := Lib.hid (HS42.out.bel hb); clear hb HS42
  go_wp2_with fail
  refine (HC22.out _ s HS43.out).mono ?_
  rintro r w44 ⟨rfl, hs⟩
  have HS44 := Lib.hid hs; clear hs HS43 HC22
  go_wp2_with fail
  refine (HC23.out _ s HS44.out).mono ?_
  rintro r wx ⟨rfl, rfl⟩
  clear HC23
  go_wp2_with fail
  have hal : Below w44.heap.size w44 (w44.alloc (.cells #[.pointer none] 44)) := (Below.refl _ _).alloc (Nat.le_refl _) _
  have HU45 : Hid (UnS (w44.alloc (.cells #[.pointer none] 44)) (.pointer (some ⟨w44.heap.size, 0, none⟩))) := .inr ⟨_, rfl, bk.new w44 _ _⟩
  have HB45 := Lib.hid (HS44.out.below.trans (hal.mono HS44.out.below.size))
  clear hal HS44
  generalize w44.alloc (.cells #[.pointer none] 44) = w45 at *
  generalize w44.heap.size = z at *
  refine (HUF.out _).mono ?_
  rintro r w46 ⟨rfl, hb⟩
  have HB46 := Lib.hid (HB45.out.trans (hb.mono HB45.out.size)); have HU46 := Lib.hid (HU45.out.bel hb); clear hb HB45 HU45
  have hb9 : Below w46.heap.size w46 (World.setCells (w46.alloc (.cells #[.int .i64 0, .string ⟨#[]⟩, .int .i64 0, .slice none 0 0, .string ⟨#[]⟩, .int .i64 0, .int .i64 0, .slice none 0 0] 28)) w46.heap.size 0 [.int .i64 0, .string ⟨#[]⟩, .int .i64 0, .slice none 0 0, .string ⟨#[]⟩, .int .i64 0, .int .i64 0, .slice none 0 0]) := Below.cells ((Below.refl _ _).alloc (Nat.le_refl _) _) _ (Nat.le_refl _) [.int .i64 0, .string ⟨#[]⟩, .int .i64 0, .slice none 0 0, .string ⟨#[]⟩, .int .i64 0, .int .i64 0, .slice none 0 0] 0
  have HST : Hid (World.there (w46.alloc (.cells #[.int .i64 0, .string ⟨#[]⟩, .int .i64 0, .slice none 0 0, .string ⟨#[]⟩, .int .i64 0, .int .i64 0, .slice none 0 0] 28)) w46.heap.size 0 8) := (bk.new w46 #[.int .i64 0, .string ⟨#[]⟩, .int .i64 0, .slice none 0 0, .string ⟨#[]⟩, .int .i64 0, .int .i64 0, .slice none 0 0] 28).there 0 8 (by decide)
  have HB47 := Lib.hid (HB46.out.trans (hb9.mono HB46.out.size)); have HU47 := Lib.hid (HU46.out.bel hb9); clear hb9 HB46 HU46
  go_wp2_with (refine wpList_store_mid rfl 28 (.tmp 5) (.tmp 160) rfl _ 0 #[.int .i64 0, .string ⟨#[]⟩, .int .i64 0, .slice none 0 0, .string ⟨#[]⟩, .int .i64 0, .int .i64 0, .slice none 0 0] rfl rfl HST.out infoEn.out (by kernel_rfl) ?_; clear HST; generalize (World.setCells (w46.alloc (.cells #[.int .i64 0, .string ⟨#[]⟩, .int .i64 0, .slice none 0 0, .string ⟨#[]⟩, .int .i64 0, .int .i64 0, .slice none 0 0] 28)) w46.heap.size 0 [.int .i64 0, .string ⟨#[]⟩, .int .i64 0, .slice none 0 0, .string ⟨#[]⟩, .int .i64 0, .int .i64 0, .slice none 0 0]) = w47 at *)
  refine (HBOx.out _).mono ?_
  rintro r w48 ⟨rfl, hb⟩
  have HB48 := Lib.hid (HB47.out.trans (hb.mono HB47.out.size)); have HU48 := Lib.hid (HU47.out.bel hb); clear hb HB47 HU47
  go_wp2_with fail
  refine (HUP.out _ _ HU48.out HB48.out).mono ?_
  rintro r w49 ⟨rfl, hb⟩
  have HB49 := Lib.hid (HB48.out.trans (hb.mono HB48.out.size)); have HU49 := Lib.hid (HU48.out.bel hb); clear hb HB48 HU48
  go_wp2_with fail
  refine (HBOx.out _).mono ?_
  rintro r w50 ⟨rfl, hb⟩
  have HB50 := Lib.hid (HB49.out.trans (hb.mono HB49.out.size)); have HU50 := Lib.hid (HU49.out.bel hb); clear hb HB49 HU49
  go_wp2_with fail
  refine (HUP.out _ _ (HVN.out _) HB50.out).mono ?_
  rintro r w51 ⟨rfl, hb⟩
  have HB51 := Lib.hid (HB50.out.trans (hb.mono HB50.out.size)); have HU51 := Lib.hid (HU50.out.bel hb); clear hb HB50 HU50
  go_wp2_with fail
  refine (HUD.out _ _ (HVN.out _)).mono ?_
  rintro r w52 ⟨rfl, hb⟩
  have HB52 := Lib.hid (HB51.out.trans (hb.mono HB51.out.size)); have HU52 := Lib.hid (HU51.out.bel hb); clear hb HB51 HU51
  go_wp2_with fail
  refine (HBOx.out _).mono ?_
  rintro r w53 ⟨rfl, hb⟩
  have HB53 := Lib.hid (HB52.out.trans (hb.mono HB52.out.size)); have HU53 := Lib.hid (HU52.out.bel hb); clear hb HB52 HU52
  go_wp2_with fail
  refine (HUR.out _ _ HU53.out HB53.out).mono ?_
  rintro r w54 ⟨rfl, hb⟩
  have HB54 := Lib.hid (HB53.out.trans (hb.mono HB53.out.size)); have HU54 := Lib.hid (HU53.out.bel hb); clear hb HB53 HU53
  go_wp2_with fail
  refine (HUG.out _ _ (HVN.out _)).mono ?_
  rintro r w55 ⟨rfl, hb⟩
  have HB55 := Lib.hid (HB54.out.trans (hb.mono HB54.out.size)); have HU55 := Lib.hid (HU54.out.bel hb); clear hb HB54 HU54
  go_wp2_with fail
  refine (HUN.out _ _ HU55.out).mono ?_
  rintro r w56 ⟨rfl, hb⟩
  have HB56 := Lib.hid (HB55.out.trans (hb.mono HB55.out.size)); have HU56 := Lib.hid (HU55.out.bel hb); clear hb HB55 HU55
  go_wp2_with fail
  refine (HUL.out _ _ HU56.out).mono ?_
  rintro r w57 ⟨rfl, hb⟩
  have HB57 := Lib.hid (HB56.out.trans (hb.mono HB56.out.size)); have HU57 := Lib.hid (HU56.out.bel hb); clear hb HB56 HU56
  go_wp2_with fail
  refine (HUY.out _ _ (HVN.out _)).mono ?_
  rintro r w58 ⟨rfl, hb⟩
  have HB58 := Lib.hid (HB57.out.trans (hb.mono HB57.out.size)); have HU58 := Lib.hid (HU57.out.bel hb); clear hb HB57 HU57
  go_wp2_with fail
  refine (HUK.out _ _ (HVN.out _)).mono ?_
  rintro r w59 ⟨rfl, hb⟩
  have HB59 := Lib.hid (HB58.out.trans (hb.mono HB58.out.size)); have HU59 := Lib.hid (HU58.out.bel hb); clear hb HB58 HU58
  go_wp2_with fail
  refine (HM0.out _).mono ?_
  rintro r w60 ⟨rfl, hb⟩
  have HB60 := Lib.hid (HB59.out.trans (hb.mono HB59.out.size)); have HU60 := Lib.hid (HU59.out.bel hb); clear hb HB59 HU59
  go_wp2_with fail
  refine (HM1.out _).mono ?_
  rintro r w61 ⟨rfl, hb⟩
  have HB61 := Lib.hid (HB60.out.trans (hb.mono HB60.out.size)); have HU61 := Lib.hid (HU60.out.bel hb); clear hb HB60 HU60
  go_wp2_with fail
  refine (HM2.out _).mono ?_
  rintro r w62 ⟨rfl, hb⟩
  have HB62 := Lib.hid (HB61.out.trans (hb.mono HB61.out.size)); have HU62 := Lib.hid (HU61.out.bel hb); clear hb HB61 HU61
  go_wp2_with fail
  refine (HAW.out _ (HKE.out.bel HB62.out)).mono ?_
  rintro r w63 ⟨rfl, hb⟩
  have HB63 := Lib.hid (HB62.out.trans (hb.mono HB62.out.size)); have HU63 := Lib.hid (HU62.out.bel hb); clear hb HB62 HU62
  go_wp2_with fail
  go_ret
  exact ⟨rfl, HB63.out⟩
end Go.Proofs.YtopgeclecpaecaaGreatDoor
