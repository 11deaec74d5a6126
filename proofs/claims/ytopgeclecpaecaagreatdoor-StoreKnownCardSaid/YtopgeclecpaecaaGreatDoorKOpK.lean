/- Acts (calls of a store) that come in: what is read of them, and what they weigh at most. -/
import Derived.Test.YtopgeclecpaecaaGreatDoorKKpJ
import Derived.Test.YtopgeclecpaecaaGreatDoorKOpen
import Derived.Deep.MidRow
namespace Go.Proofs.YtopgeclecpaecaaGreatDoor
open Go.Joins Go.ChangeShapes Go.WideShapes Go.ChangeAt Go.RowKit Go.Deep
set_option maxRecDepth 100000
/-- what a call is, its number, its key, its entry, its request -/
structure Ac where
  wh : Int
  n : Int
  key : List UInt8
  e : En
  req : List Fld
  fA : Option Addr
  vA : Option Addr
  rA : Option Addr
  fC : Nat
  vC : Nat
  rC : Nat
def Ac.fv (a : Ac) : Value := .slice a.fA a.e.fs.length a.fC
def Ac.vv (a : Ac) : Value := .slice a.vA a.e.vy.length a.vC
def Ac.rv (a : Ac) : Value := .slice a.rA a.req.length a.rC
def acC (a : Ac) : List Value := [.int .i64 a.wh, .int .i64 a.n, .string (bs a.key), .int .i64 a.e.st, .string (bs a.e.re), .int .i64 a.e.mi, .slice a.fA a.e.fs.length a.fC, .string (bs a.e.bo), .int .i64 a.e.ak, .int .i64 a.e.gt, .slice a.vA a.e.vy.length a.vC, .slice a.rA a.req.length a.rC]
structure AcOk (w : World) (a : Ac) : Prop where
  ff : FL w a.fv a.e.fs
  fv : FL w a.vv a.e.vy
  fr : FL w a.rv a.req
  fc : a.e.fs.length ≤ a.fC
  lf : a.e.fs.length ≤ 140737488351232
  lv : a.e.vy.length ≤ 140737488351232
  lr : a.req.length ≤ 140737488351232
  sf : ∀ f ∈ a.e.fs, f.1.length ≤ 140737488351232 ∧ f.2.length ≤ 140737488351232
  sv : ∀ f ∈ a.e.vy, f.1.length ≤ 140737488351232 ∧ f.2.length ≤ 140737488351232
  sr : ∀ f ∈ a.req, f.1.length ≤ 140737488351232 ∧ f.2.length ≤ 140737488351232
  w1 : -9223372036854775808 ≤ a.wh
  w2 : a.wh ≤ 9223372036854775807
theorem AcOk.bel {w w' : World} {a : Ac} (h : AcOk w a) (hb : Below w.heap.size w w') : AcOk w' a := ⟨h.ff.bel hb, h.fv.bel hb, h.fr.bel hb, h.fc, h.lf, h.lv, h.lr, h.sf, h.sv, h.sr, h.w1, h.w2⟩
theorem ac_one (a : Ac) : (acC a).toArray.all (·.oneCell') = true := by kernel_rfl
/-- calls in memory -/
def AL (w : World) (v : Value) (l : List Ac) : Prop :=
  (l = [] ∧ ∃ A c, v = .slice A 0 c) ∨ ∃ b off c, v = .slice (some ⟨b, off, none⟩) l.length c ∧ l.length ≤ c ∧ b < w.heap.size ∧ ∀ j (hj : j < l.length), w.rangeAt b (off + j * 12) (acC l[j])
theorem AL.form {w : World} {v : Value} {l : List Ac} (h : AL w v l) : ∃ A c, v = .slice A l.length c := by
  rcases h with ⟨rfl, A, c, rfl⟩ | ⟨b, off, c, rfl, -⟩
  · exact ⟨_, _, rfl⟩
  · exact ⟨_, _, rfl⟩
theorem rangeAt_bel {w w' : World} {b o : Nat} {cs : List Value} {B : Nat} (h : w.rangeAt b o cs) (hb : Below B w w') (hl : b < B) : w'.rangeAt b o cs := fun j v hv => (hb.cell (p := ⟨b, o + j, none⟩) hl).trans (h j v hv)
theorem AL.bel {w w' : World} {v : Value} {l : List Ac} (h : AL w v l) (hb : Below w.heap.size w w') : AL w' v l := by
  rcases h with h | ⟨b, off, c, rfl, hc, hlt, hr⟩
  · exact .inl h
  · exact .inr ⟨b, off, c, rfl, hc, Nat.lt_of_lt_of_le hlt hb.size, fun j hj => rangeAt_bel (hr j hj) hb hlt⟩
theorem AL.get {w : World} {A : Option Addr} {n c : Nat} {l : List Ac} (h : AL w (.slice A n c) l) (j : Nat) (hj : j < l.length) : ∃ b off, A = some ⟨b, off, none⟩ ∧ b < w.heap.size ∧ w.rangeAt b (off + j * 12) (acC l[j]) ∧ l.length ≤ c := by
  rcases h with ⟨rfl, -⟩ | ⟨b, off, c', hv, hc, hlt, hr⟩
  · cases hj
  · cases hv
    exact ⟨b, off, rfl, hlt, hr j hj, hc⟩
section
variable {H : Type} {enc : TypeId × Value → H} {W : World} {base : Nat} {v : Value} {d : DataW H} {ps : List MemPlace}
theorem open_cellFc {c : Value} {n : Nat} {y : DataW H × List MemPlace} (hf : DataW.trod enc Tryz.prog W 0 (fun _ => true) true n 24 [c] = some y) (hw : ∀ q ∈ y.1.weights Tryz.prog 24, q ≤ 140737488351232) :
    ∃ (L : List Fld) (A : Option Addr) (k : Nat), c = .slice A L.length k ∧ FL W c L ∧ L.length ≤ k ∧ L.length ≤ 140737488351232 ∧ (∀ f ∈ L, f.1.length ≤ 140737488351232 ∧ f.2.length ≤ 140737488351232) := by
  obtain ⟨L, A, m, k, rfl, hfl, hb, hl, hd⟩ := open_cellFd hf
  obtain ⟨A', c', e⟩ := hfl.form
  cases e
  have hmk : L.length ≤ k := by
    rcases open_slice Tryz.underlying24 hf with ⟨hcs, _⟩ | ⟨a, len, cap, m, n, D, Pl, hcs, _, hl', _⟩
    · have := (List.cons.inj hcs).1
      cases hL : L.length with
      | zero => exact Nat.zero_le _
      | succ q => rw [hL] at this; cases this
    · have := (List.cons.inj hcs).1
      injection this with e1 e2 e3
      omega
  refine ⟨L, A, k, rfl, hfl, hmk, ?_, ?_⟩
  · rcases hd with rfl | ⟨sp, hd⟩
    · simp
    · have h1 := hw ((L.map (fdD (H := H))).length + sp.length |> fun q => q * Tryz.prog.bytesOf 66) (by
        rw [hd]; unfold DataW.weights; rw [Tryz.underlying24]; exact List.mem_cons_self ..)
      have hby : Tryz.prog.bytesOf 66 = 32 := by kernel_rfl
      rw [hby, List.length_map] at h1
      simp only at h1
      omega
  · rcases hd with rfl | ⟨sp, hd⟩
    · intro f hf; cases hf
    · rw [hd] at hw
      intro f hf
      obtain ⟨j, hj, rfl⟩ := List.getElem_of_mem hf
      exact fields_sized hw j hj
theorem weights_each0 {t : TypeId} {d : DataW H} {ts : List TypeId} {ds : List (DataW H)} {n : Nat} (h : n ∈ d.weights Tryz.prog t) : n ∈ DataW.weightsEach Tryz.prog (t :: ts) (d :: ds) := by
  rw [DataW.weightsEach, List.mem_append]; exact .inl h
theorem weights_eachS {t : TypeId} {d : DataW H} {ts : List TypeId} {ds : List (DataW H)} {n : Nat} (h : n ∈ DataW.weightsEach Tryz.prog ts ds) : n ∈ DataW.weightsEach Tryz.prog (t :: ts) (d :: ds) := by
  rw [DataW.weightsEach, List.mem_append]; exact .inr h
theorem weightsAll_memK {P : Program} {e : TypeId} {x : DataW H} {n : Nat} : ∀ {l : List (DataW H)}, x ∈ l → n ∈ x.weights P e → n ∈ DataW.weightsAll P e l
  | [], h, _ => by cases h
  | y :: r, h, hn => by
    rw [DataW.weightsAll, List.mem_append]
    rcases List.mem_cons.1 h with rfl | h
    · exact .inl hn
    · exact .inr (weightsAll_memK h hn)
set_option maxHeartbeats 2000000 in
theorem open_argK (hv : Value.okWide Tryz.prog W .any base 50 v) (h : DataW.Trod enc Tryz.prog W 0 (fun _ => true) true 50 v d ps) (hw : ∀ n ∈ d.weights Tryz.prog 50, n ≤ 140737488351232) :
    ∃ L : List Ac, AL W v L ∧ (∀ j (hj : j < L.length), AcOk W L[j]) ∧ L.length ≤ 9223372036854775807 := by
  obtain ⟨a0, len, cap, rfl⟩ := okWide_slice Tryz.underlying50 hv
  obtain ⟨fuel, hf⟩ := h
  have hC : Tryz.prog.cellsOf 53 = 12 := by kernel_rfl
  have kE : Tryz.prog.cellsOf 28 = 8 := by kernel_rfl
  have kR : Tryz.prog.cellsOf 26 = 5 := by kernel_rfl
  have kS : Tryz.prog.cellsOf 9 = 1 := by kernel_rfl
  have kI : Tryz.prog.cellsOf 3 = 1 := by kernel_rfl
  have kL : Tryz.prog.cellsOf 2 = 1 := by kernel_rfl
  have kF : Tryz.prog.cellsOf 24 = 1 := by kernel_rfl
  have hU := Tryz.underlying53
  have hE := Tryz.underlying28
  have hR := Tryz.underlying26
  have hS := Tryz.underlying50
  rcases open_slice hS hf with ⟨hcs, _⟩ | ⟨a, len', cap', m, n, D, Pl, hcs, _, hl, hm, hmm, hdd, hi⟩
  · have e : a0 = none ∧ len = 0 ∧ cap = 0 := by simpa [Value.cells] using hcs
    obtain ⟨rfl, rfl, rfl⟩ := e
    exact ⟨[], .inl ⟨rfl, _, _, rfl⟩, fun j hj => absurd hj (by simp), by simp⟩
  · have e : a0 = some a ∧ len = len' ∧ cap = cap' := by simpa [Value.cells] using hcs
    obtain ⟨rfl, rfl, rfl⟩ := e
    have hml : len ≤ m := by rw [hmm]; split <;> omega
    rw [hC] at hi
    have hex : ∀ i, i < len → ∃ f : Ac, (∀ j u, (acC f)[j]? = some u → W.cell? (a.add (i * 12 + j)) = some u) ∧ AcOk W f := by
      intro i hil
      obtain ⟨cs', hc, ht⟩ := hi i (by omega)
      have hwi : ∀ q ∈ (D i).weights Tryz.prog 53, q ≤ 140737488351232 := fun q hq => by
        refine hw q ?_
        rw [show d = _ from (Prod.mk.inj hdd).1]
        unfold DataW.weights
        rw [hS]
        exact List.mem_cons_of_mem _ (List.mem_append_left _ (weightsAll_memK (List.mem_map.2 ⟨i, List.mem_range.2 hil, rfl⟩) hq))
      obtain ⟨xs, n', _, hx, hlen, hxl, hg⟩ := DataW.trod_struct hU ht
      rw [hC] at hlen
      obtain ⟨_, _, hat⟩ := World.cells?_some hc
      match cs', hlen, xs, hxl with
      | [c0, c1, c2, c3, c4, c5, c6, c7, c8, c9, c10, c11], _, [x0, x1, x2, x3, x4], _ =>
        have g0 : DataW.trod enc Tryz.prog W 0 (fun _ => true) true n' 3 (([c0, c1, c2, c3, c4, c5, c6, c7, c8, c9, c10, c11].drop 0).take (Tryz.prog.cellsOf 3)) = some x0 := hg 0 _ rfl
        have g1 : DataW.trod enc Tryz.prog W 0 (fun _ => true) true n' 3 (([c0, c1, c2, c3, c4, c5, c6, c7, c8, c9, c10, c11].drop 1).take (Tryz.prog.cellsOf 3)) = some x1 := hg 1 _ rfl
        have g2 : DataW.trod enc Tryz.prog W 0 (fun _ => true) true n' 9 (([c0, c1, c2, c3, c4, c5, c6, c7, c8, c9, c10, c11].drop 2).take (Tryz.prog.cellsOf 9)) = some x2 := hg 2 _ rfl
        have g3 : DataW.trod enc Tryz.prog W 0 (fun _ => true) true n' 28 (([c0, c1, c2, c3, c4, c5, c6, c7, c8, c9, c10, c11].drop 3).take (Tryz.prog.cellsOf 28)) = some x3 := hg 3 _ rfl
        have g4 : DataW.trod enc Tryz.prog W 0 (fun _ => true) true n' 24 (([c0, c1, c2, c3, c4, c5, c6, c7, c8, c9, c10, c11].drop 11).take (Tryz.prog.cellsOf 24)) = some x4 := hg 4 _ rfl
        rw [kI] at g0 g1
        rw [kS] at g2
        rw [kE] at g3
        rw [kF] at g4
        replace g0 : DataW.trod enc Tryz.prog W 0 (fun _ => true) true n' 3 [c0] = some x0 := g0
        replace g1 : DataW.trod enc Tryz.prog W 0 (fun _ => true) true n' 3 [c1] = some x1 := g1
        replace g2 : DataW.trod enc Tryz.prog W 0 (fun _ => true) true n' 9 [c2] = some x2 := g2
        replace g3 : DataW.trod enc Tryz.prog W 0 (fun _ => true) true n' 28 [c3, c4, c5, c6, c7, c8, c9, c10] = some x3 := g3
        replace g4 : DataW.trod enc Tryz.prog W 0 (fun _ => true) true n' 24 [c11] = some x4 := g4
        have hDi : D i = .agg [x0.1, x1.1, x2.1, x3.1, x4.1] := (Prod.mk.inj hx).1
        rw [hDi] at hwi
        have hw3 : ∀ q ∈ x3.1.weights Tryz.prog 28, q ≤ 140737488351232 := fun q hq => hwi q (by
          unfold DataW.weights; rw [hU]
          exact weights_eachS (weights_eachS (weights_eachS (weights_each0 hq))))
        have hw4 : ∀ q ∈ x4.1.weights Tryz.prog 24, q ≤ 140737488351232 := fun q hq => hwi q (by
          unfold DataW.weights; rw [hU]
          exact weights_eachS (weights_eachS (weights_eachS (weights_eachS (weights_each0 hq)))))
        obtain ⟨ys, q', _, hy, _, hyl, hk⟩ := DataW.trod_struct hE g3
        match ys, hyl with
        | [y0, y1, y2, y3], _ =>
          have k0 : DataW.trod enc Tryz.prog W 0 (fun _ => true) true q' 26 (([c3, c4, c5, c6, c7, c8, c9, c10].drop 0).take (Tryz.prog.cellsOf 26)) = some y0 := hk 0 _ rfl
          have k1 : DataW.trod enc Tryz.prog W 0 (fun _ => true) true q' 2 (([c3, c4, c5, c6, c7, c8, c9, c10].drop 5).take (Tryz.prog.cellsOf 2)) = some y1 := hk 1 _ rfl
          have k2 : DataW.trod enc Tryz.prog W 0 (fun _ => true) true q' 2 (([c3, c4, c5, c6, c7, c8, c9, c10].drop 6).take (Tryz.prog.cellsOf 2)) = some y2 := hk 2 _ rfl
          have k3 : DataW.trod enc Tryz.prog W 0 (fun _ => true) true q' 24 (([c3, c4, c5, c6, c7, c8, c9, c10].drop 7).take (Tryz.prog.cellsOf 24)) = some y3 := hk 3 _ rfl
          rw [kR] at k0
          rw [kL] at k1 k2
          rw [kF] at k3
          replace k0 : DataW.trod enc Tryz.prog W 0 (fun _ => true) true q' 26 [c3, c4, c5, c6, c7] = some y0 := k0
          replace k1 : DataW.trod enc Tryz.prog W 0 (fun _ => true) true q' 2 [c8] = some y1 := k1
          replace k2 : DataW.trod enc Tryz.prog W 0 (fun _ => true) true q' 2 [c9] = some y2 := k2
          replace k3 : DataW.trod enc Tryz.prog W 0 (fun _ => true) true q' 24 [c10] = some y3 := k3
          rw [(Prod.mk.inj hy).1] at hw3
          have hwR : ∀ q ∈ y0.1.weights Tryz.prog 26, q ≤ 140737488351232 := fun q hq => hw3 q (by
            unfold DataW.weights; rw [hE]
            exact weights_each0 hq)
          have hwV : ∀ q ∈ y3.1.weights Tryz.prog 24, q ≤ 140737488351232 := fun q hq => hw3 q (by
            unfold DataW.weights; rw [hE]
            exact weights_eachS (weights_eachS (weights_eachS (weights_each0 hq))))
          obtain ⟨zs, p', _, hz, _, hzl, hr⟩ := DataW.trod_struct hR k0
          match zs, hzl with
          | [z0, z1, z2, z3, z4], _ =>
            have r0 : DataW.trod enc Tryz.prog W 0 (fun _ => true) true p' 3 (([c3, c4, c5, c6, c7].drop 0).take (Tryz.prog.cellsOf 3)) = some z0 := hr 0 _ rfl
            have r1 : DataW.trod enc Tryz.prog W 0 (fun _ => true) true p' 9 (([c3, c4, c5, c6, c7].drop 1).take (Tryz.prog.cellsOf 9)) = some z1 := hr 1 _ rfl
            have r2 : DataW.trod enc Tryz.prog W 0 (fun _ => true) true p' 3 (([c3, c4, c5, c6, c7].drop 2).take (Tryz.prog.cellsOf 3)) = some z2 := hr 2 _ rfl
            have r3 : DataW.trod enc Tryz.prog W 0 (fun _ => true) true p' 24 (([c3, c4, c5, c6, c7].drop 3).take (Tryz.prog.cellsOf 24)) = some z3 := hr 3 _ rfl
            have r4 : DataW.trod enc Tryz.prog W 0 (fun _ => true) true p' 9 (([c3, c4, c5, c6, c7].drop 4).take (Tryz.prog.cellsOf 9)) = some z4 := hr 4 _ rfl
            rw [kI] at r0 r2
            rw [kS] at r1 r4
            rw [kF] at r3
            replace r0 : DataW.trod enc Tryz.prog W 0 (fun _ => true) true p' 3 [c3] = some z0 := r0
            replace r1 : DataW.trod enc Tryz.prog W 0 (fun _ => true) true p' 9 [c4] = some z1 := r1
            replace r2 : DataW.trod enc Tryz.prog W 0 (fun _ => true) true p' 3 [c5] = some z2 := r2
            replace r3 : DataW.trod enc Tryz.prog W 0 (fun _ => true) true p' 24 [c6] = some z3 := r3
            replace r4 : DataW.trod enc Tryz.prog W 0 (fun _ => true) true p' 9 [c7] = some z4 := r4
            rw [(Prod.mk.inj hz).1] at hwR
            have hwF : ∀ q ∈ z3.1.weights Tryz.prog 24, q ≤ 140737488351232 := fun q hq => hwR q (by
              unfold DataW.weights; rw [hR]
              exact weights_eachS (weights_eachS (weights_eachS (weights_each0 hq))))
            obtain ⟨wh, e0, -, hwh⟩ := DataW.trod_int Tryz.underlying3 g0
            obtain rfl : c0 = .int .i64 wh := by simpa using e0
            obtain ⟨nn, rfl⟩ := open_cellId g1
            obtain ⟨ky, rfl⟩ := open_cellSd g2
            obtain ⟨st, rfl⟩ := open_cellId r0
            obtain ⟨re, rfl⟩ := open_cellSd r1
            obtain ⟨mi, rfl⟩ := open_cellId r2
            obtain ⟨bo, rfl⟩ := open_cellSd r4
            obtain ⟨ak, rfl, -⟩ := open_cellLd k1
            obtain ⟨gt, rfl, -⟩ := open_cellLd k2
            obtain ⟨fs, fA, fC, rfl, f1, f2, f3, f4⟩ := open_cellFc r3 hwF
            obtain ⟨vy, vA, vC, rfl, v1, v2, v3, v4⟩ := open_cellFc k3 hwV
            obtain ⟨rq, rA, rC, rfl, q1, q2, q3, q4⟩ := open_cellFc g4 hw4
            have hwh2 : -9223372036854775808 ≤ wh ∧ wh ≤ 9223372036854775807 := by
              have h := hwh
              rw [Lit.wf, Bool.and_eq_true, decide_eq_true_eq, decide_eq_true_eq] at h
              exact h
            refine ⟨⟨wh, nn, ky.data.toList, ⟨st, re.data.toList, mi, fs, bo.data.toList, ak, gt, vy⟩, rq, fA, vA, rA, fC, vC, rC⟩, ?_, ⟨f1, v1, q1, f2, f3, v3, q3, f4, v4, q4, hwh2.1, hwh2.2⟩⟩
            intro j u hu
            have hj : j < 12 := (List.getElem?_eq_some_iff.1 hu).1
            have h1 := hat j hj
            rw [Go.Deep.add_add] at h1
            rw [h1]
            unfold acC at hu
            simp only [bs_self] at hu
            rw [← hu, List.getElem?_eq_getElem hj]
    obtain ⟨L, hLl, hL⟩ := list_of _ len hex
    refine ⟨L, ?_, fun j hj => (hL j hj).2, by rw [hLl]; unfold maxLen at hm; omega⟩
    rcases Nat.eq_zero_or_pos len with h0 | h0
    · subst h0
      exact .inl ⟨List.eq_nil_of_length_eq_zero hLl, _, _, rfl⟩
    · have hc0 := (hL 0 (by omega)).1 0 _ rfl
      rw [Nat.zero_mul] at hc0
      obtain ⟨b, off, rfl⟩ := plain_addr hc0
      refine .inr ⟨b, off, cap, by rw [hLl], by omega, block_lt_of_cell (by rw [Addr.add_lit] at hc0; exact hc0), fun j hj => fun q u hu => ?_⟩
      have h1 := (hL j hj).1 q u hu
      rw [Addr.add_lit, ← Nat.add_assoc] at h1
      exact h1
end
end Go.Proofs.YtopgeclecpaecaaGreatDoor
