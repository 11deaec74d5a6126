/- An entry is put into a store. -/
import Derived.Test.YtopgeclecpaecaaGreatDoorKKpE
namespace Go.Proofs.YtopgeclecpaecaaGreatDoor
open Go.RowKit
def eC (e : En) (vf vv : Value) : Array Value := #[.int .i64 e.st, .string (bs e.re), .int .i64 e.mi, vf, .string (bs e.bo), .int .i64 e.ak, .int .i64 e.gt, vv]
/-- a call on a store, on its way: the state, the entry that came in, all that has turned since -/
structure PQ (w0 w W : World) (p : Nat) (e : En) (vf vv : Value) (X0 : Nat → Prop) (tb bb umb nF : Nat) (XB : Nat → Prop) (F : List UInt8 → Option Hd) (n m : Nat) (l : List (It Iv)) (R : List UInt8 → List (List UInt8)) (pu : Nat) : Prop where
  st : StI W tb bb umb nF XB F n m l R pu
  ba : Base w0 W (stX tb umb F XB)
  pe : bk W p (eC e vf vv)
  np : ¬ stX tb umb F XB p
  ff : FLX W (stX tb umb F XB) vf e.fs
  fv : FLX W (stX tb umb F XB) vv e.vy
  did : Did X0 (stX tb umb F XB) w W
section
variable {w0 w W W' : World} {p : Nat} {e : En} {vf vv : Value} {X0 : Nat → Prop} {tb bb umb nF : Nat} {XB : Nat → Prop} {F : List UInt8 → Option Hd} {n m : Nat} {l : List (It Iv)} {R : List UInt8 → List (List UInt8)} {pu : Nat}
theorem PQ.step {nF' : Nat} {XB' : Nat → Prop} {F' : List UInt8 → Option Hd} {l' : List (It Iv)} {R' : List UInt8 → List (List UInt8)} {pu' : Nat} (h : PQ w0 w W p e vf vv X0 tb bb umb nF XB F n m l R pu) (hs : StI W' tb bb umb nF' XB' F' n m l' R' pu')
    (hd : Did (stX tb umb F XB) (stX tb umb F' XB') W W') : PQ w0 w W' p e vf vv X0 tb bb umb nF' XB' F' n m l' R' pu' :=
  ⟨hs, h.ba.did hd, h.pe.keep (hd.keep p h.pe.lt h.np), fun q => (hd.new p q).elim h.np (fun r => by have := h.pe.lt; omega), h.ff.did hd, h.fv.did hd, h.did.trans hd⟩
theorem PQ.bel (h : PQ w0 w W p e vf vv X0 tb bb umb nF XB F n m l R pu) (hb : Below W.heap.size W W') : PQ w0 w W' p e vf vv X0 tb bb umb nF XB F n m l R pu := h.step (h.st.bel hb) (Did.of_below hb)
theorem PQ.rowsEq {R' : List UInt8 → List (List UInt8)} (h : PQ w0 w W p e vf vv X0 tb bb umb nF XB F n m l R pu) (hR : R = R') : PQ w0 w W p e vf vv X0 tb bb umb nF XB F n m l R' pu := by subst hR; exact h
end
theorem rows_less {A : List (It He)} {l : List (It Iv)} {P : He → Iv → Prop} (ho : Of A) (hn : (keysK A).Nodup) (hs : Sim P A l) (k : List UInt8) (vy : List Fld) : lessIf (hasK (idT k vy) l) (rowS A) k (idT k vy) = rowS (dropK (idT k vy) A) := by
  rw [← hs.has]
  cases hh : hasK (idT k vy) A
  · rw [dropK_none (hasK_false.1 hh)]; rfl
  · obtain ⟨xs, a, zs, hA, ha, -⟩ := splitK (hasK_iff.1 hh)
    have hk := of_has ho hA ha
    rw [hA] at hn
    obtain ⟨us, vs, r1, r2, r3, r4⟩ := rowS_mid (xs := xs) (zs := zs) (a := a) hn
    rw [hk] at r1 r4
    rw [ha] at r1 r3
    have hd : dropK (idT k vy) A = xs ++ zs := by rw [hA]; exact dropK_mid ha hn
    rw [hd]
    show upd (rowS A) k ((rowS A k).erase (idT k vy)) = _
    funext j
    rw [r4 j]
    by_cases e : j = k
    · rw [if_pos e, e, upd_same, hA, r1, r3]
    · rw [if_neg e, upd_other _ _ e, hA]
theorem skept_any (s tb : Nat) (w : World) (h : bk w s #[.pointer (some ⟨tb, 0, none⟩)]) : Calls Tryz.prog 28 #[.pointer (some ⟨s, 0, none⟩)] w fun e w' => e = .returned (.pointer (some ⟨tb, 0, none⟩)) ∧ w = w' := by
  have c0 := h.cell 0 (.pointer (some ⟨tb, 0, none⟩)) rfl
  clear h
  go_enter Tryz.func28, Tryz.ntmps28
  go_wp2
  go_ret
  exact ⟨rfl, rfl⟩
/-- a store, whatever its blocks: X are they -/
structure StoW (w : World) (s tb bb umb nF : Nat) (XB : Nat → Prop) (F : List UInt8 → Option Hd) (l : List (It Iv)) (X : Nat → Prop) (n m : Nat) (A : List (It He)) (pu : Nat) : Prop where
  top : bk w s #[.pointer (some ⟨tb, 0, none⟩)]
  st : StI w tb bb umb nF XB F n m l (rowS A) pu
  sim : Sim (Hld w X) A l
  eX : X = fun b => b = s ∨ stX tb umb F XB b
  ns : ¬ stX tb umb F XB s
  nF : nF ≤ pu
  of : Of A
  sm : ∀ a ∈ A, SmE a.2.2.key a.2.2.e
  num : ∀ a ∈ A, 1 ≤ a.2.2.n ∧ a.2.2.n ≤ pu
  nd : (A.map (·.2.2.n)).Nodup
def Sto (w : World) (s : Nat) (X : Nat → Prop) (n m : Nat) (A : List (It He)) (pu : Nat) : Prop := ∃ tb bb umb nF XB F l, StoW w s tb bb umb nF XB F l X n m A pu
section
variable {w w' : World} {s tb bb umb nF : Nat} {XB X : Nat → Prop} {F : List UInt8 → Option Hd} {l : List (It Iv)} {n m : Nat} {A : List (It He)} {pu : Nat}
theorem StoW.nd2 (h : StoW w s tb bb umb nF XB F l X n m A pu) : (keysK A).Nodup := by rw [h.sim.keys]; exact h.st.bud.ok.nd
theorem StoW.lt (h : StoW w s tb bb umb nF XB F l X n m A pu) : ∀ b, X b → b < w.heap.size := by
  rw [h.eX]
  rintro b (rfl | e)
  · exact h.top.lt
  · exact h.st.lt b e
theorem StoW.keep (h : StoW w s tb bb umb nF XB F l X n m A pu) (hk : ∀ b, X b → w'.heap[b]? = w.heap[b]?) (hb : Did X X w w') : StoW w' s tb bb umb nF XB F l X n m A pu :=
  ⟨h.top.keep (hk s (by rw [h.eX]; exact .inl rfl)), h.st.keep (fun b e => hk b (by rw [h.eX]; exact .inr e)), h.sim.mono (fun _ _ q => q.did hb), h.eX, h.ns, h.nF, h.of, h.sm, h.num, h.nd⟩
theorem StoW.bel (h : StoW w s tb bb umb nF XB F l X n m A pu) (hb : Below w.heap.size w w') : StoW w' s tb bb umb nF XB F l X n m A pu := h.keep (fun b e => hb.block b (h.lt b e)) (Did.of_below hb)
end
theorem item_one (e : En) (pu : Nat) (Af Av : Option Addr) (cf cv : Nat) : (#[.int .i64 e.st, .string (bs e.re), .int .i64 e.mi, .slice Af e.fs.length cf, .string (bs e.bo), .int .i64 e.ak, .int .i64 e.gt, .slice Av e.vy.length cv, .int .i64 (pu : Int)] : Array Value).all (·.oneCell') = true := by kernel_rfl
theorem FLX.addPtr {w : World} {X : Nat → Prop} {v : Value} {l : List Fld} {s : Nat} {q : Option Addr} (h : FLX w X v l) (hs : bk w s #[.pointer q]) : FLX w (fun b => b = s ∨ X b) v l := by
  rcases h with h | ⟨b, off, c, h1, h2, h3, h4⟩
  · exact .inl h
  · cases l with
    | nil => exact .inl ⟨rfl, _, _, h1⟩
    | cons f r =>
      refine .inr ⟨b, off, c, h1, h2, fun e => e.elim (fun e => ?_) h3, h4⟩
      have h5 := (h4 0 (by simp)).1
      obtain ⟨T, hs⟩ := hs
      rw [e, cell_of_row w s (off + 0 * 2) _ T _ hs] at h5
      rcases Nat.eq_zero_or_pos off with e0 | e0
      · subst e0; simp at h5
      · have : (#[Value.pointer q])[off + 0 * 2]? = none := by simp; omega
        rw [this] at h5
        cases h5
theorem Hld.addPtr {w : World} {X : Nat → Prop} {h : He} {x : Iv} {s : Nat} {q : Option Addr} (k : Hld w X h x) (hs : bk w s #[.pointer q]) : Hld w (fun b => b = s ∨ X b) h x := ⟨k.c0, k.c1, k.c2, k.c3.addPtr hs, k.c4, k.c5, k.c6, k.c7.addPtr hs, k.c8⟩
/-- what a call has made of a store -/
theorem StoW.done {w W : World} {s tb bb umb nF nF' : Nat} {XB X XB' : Nat → Prop} {F F' : List UInt8 → Option Hd} {l l' : List (It Iv)} {n m : Nat} {A A' : List (It He)} {pu pu' : Nat} (h : StoW w s tb bb umb nF XB F l X n m A pu)
    (hst : StI W tb bb umb nF' XB' F' n m l' (rowS A') pu') (hd : Did (stX tb umb F XB) (stX tb umb F' XB') w W) (hs : Sim (Hld W (stX tb umb F' XB')) A' l') (hn : nF' ≤ pu') (hof : Of A') (hsm : ∀ a ∈ A', SmE a.2.2.key a.2.2.e) (hnum : ∀ a ∈ A', 1 ≤ a.2.2.n ∧ a.2.2.n ≤ pu') (hnd : (A'.map (·.2.2.n)).Nodup) :
    ∃ X', Sto W s X' n m A' pu' ∧ Did X X' w W := by
  have htop := h.top.keep (hd.keep s h.top.lt h.ns)
  refine ⟨fun b => b = s ∨ stX tb umb F' XB' b, ⟨tb, bb, umb, nF', XB', F', l', htop, hst, hs.mono (fun a b q => q.addPtr htop), rfl, fun q => (hd.new s q).elim h.ns (fun e => by have := h.top.lt; omega), hn, hof, hsm, hnum, hnd⟩, ?_⟩
  rw [h.eX]
  exact ⟨hd.os, hd.tape, hd.output, hd.size, fun b hb hx => hd.keep b hb (fun e => hx (.inr e)), fun b hb => hb.elim (fun e => .inl (.inl e)) (fun e => (hd.new b e).imp .inr id)⟩
/-- what stays of a list -/
theorem StoW.subs {w : World} {s tb bb umb nF : Nat} {XB X : Nat → Prop} {F : List UInt8 → Option Hd} {l : List (It Iv)} {n m : Nat} {A A' : List (It He)} {pu : Nat} (h : StoW w s tb bb umb nF XB F l X n m A pu) (hs : ∀ a ∈ A', a ∈ A) : Of A' ∧ (∀ a ∈ A', SmE a.2.2.key a.2.2.e) ∧ (∀ a ∈ A', 1 ≤ a.2.2.n ∧ a.2.2.n ≤ pu) :=
  ⟨h.of.sub hs, fun a ha => h.sm a (hs a ha), fun a ha => h.num a (hs a ha)⟩
theorem sliV_own {o : Option Hd} {g : Nat} (h : (sliV o).ownBlock = some g) : ∃ m c, o = some (g, m, c) := by
  rcases o with - | ⟨g', m, c⟩
  · cases h
  · cases h; exact ⟨m, c, rfl⟩
theorem und_append {w wa w1 w2 : World} {umb nF n' g cap : Nat} {F : List UInt8 → Option Hd} {R : List UInt8 → List (List UInt8)} {k i : List UInt8} (h : Und w umb nF F R) (hal : Below w.heap.size w wa)
    (ho : w1.ownsRow 0 9 1 (.slice (some ⟨g, 0, none⟩) ((R k).length + 1) cap) ((R k).length + 1) (strCs (R k) ++ [.string (bs i)])) (hg : wa.grownBy w1 (sliV (F k)).ownBlock) (hor : (sliV (F k)).ownBlock = some g ∨ g = wa.heap.size)
    (hm : MapS Tryz.prog 9 w2 umb (upd F k (some (g, (R k).length + 1, cap))) n') (hd : Did (fun b => b = umb) (fun b => b = umb) w1 w2) :
    Und w2 umb n' (upd F k (some (g, (R k).length + 1, cap))) (upd R k (R k ++ [i])) ∧ Did (undX umb F) (undX umb (upd F k (some (g, (R k).length + 1, cap)))) w w2 := by
  have hsz := hal.size
  have hsz1 := hg.size
  have hke : ∀ b, b < w.heap.size → (sliV (F k)).ownBlock ≠ some b → w1.heap[b]? = w.heap[b]? := fun b hb hne => (hg.block b (by omega) (fun e => hne e.symm)).trans (hal.block b hb)
  have hgu : ¬ g = umb := by
    rcases hor with e | e
    · obtain ⟨m, c, e⟩ := sliV_own e
      obtain ⟨cur, -, -, -, -, -, -, -, q⟩ := h.cells e
      exact q
    · have := h.map.lt; omega
  have ho' : ownS w1 0 (.slice (some ⟨g, 0, none⟩) ((R k).length + 1) cap) (R k ++ [i]) := by
    unfold ownS
    rw [List.length_append, List.length_singleton, strCs_append]
    exact ho
  obtain ⟨cur, e1, -, hgc, a1, a2, a3, a4⟩ := ho'.cur
  have hgl := (Array.getElem?_eq_some_iff.1 hgc).1
  refine ⟨h.put (w1 := w2) hm ⟨by simp, by simp, ?_⟩ ?_ ?_ rfl, ⟨hd.os.trans (hg.os.trans hal.os), hd.tape.trans (hg.tape.trans hal.tape), hd.output.trans (hg.output.trans hal.output), by have := hd.size; omega, ?_, ?_⟩⟩
  · exact ownS.of (Nat.zero_le _) ((hd.keep g hgl hgu).trans hgc) a1 a2 a3 a4
  · intro j g' m' c' hj hF
    obtain ⟨cur', hc', -, -, -, -, -, -, hgu'⟩ := h.cells hF
    have hlt := (Array.getElem?_eq_some_iff.1 hc').1
    rw [hd.keep g' (by omega) hgu', hke g' hlt]
    intro e
    obtain ⟨m, c, e⟩ := sliV_own e
    exact hj (h.inj j k g' m' c' m c hF e)
  · intro j m' c' hj hF
    rcases hor with e | e
    · obtain ⟨m, c, e⟩ := sliV_own e
      exact hj (h.inj j k g m' c' m c hF e)
    · have := h.lt g (.inr ⟨j, m', c', hF⟩); omega
  · intro b hb hx
    rw [hd.keep b (by omega) (fun e => hx (.inl e)), hke b hb]
    intro e
    obtain ⟨m, c, e⟩ := sliV_own e
    exact hx (.inr ⟨k, m, c, e⟩)
  · rintro b (e | ⟨j, m', c', e⟩)
    · exact .inl (.inl e)
    · by_cases hj : j = k
      · subst hj
        rw [upd_same] at e
        cases e
        rcases hor with e | e
        · obtain ⟨m, c, e⟩ := sliV_own e
          exact .inl (.inr ⟨j, m, c, e⟩)
        · right; omega
      · rw [upd_other _ _ hj] at e
        exact .inl (.inr ⟨j, _, _, e⟩)
set_option maxRecDepth 100000 in
set_option maxHeartbeats 4000000 in
theorem sput_any {w : World} {s : Nat} {X : Nat → Prop} {n m : Nat} {A : List (It He)} {pu : Nat} (h : Sto w s X n m A pu) (k : List UInt8) (e : En) (vf vv : Value) (hf : FLX w X vf e.fs) (hv : FLX w X vv e.vy) (hs : SmE k e) (hp : pu < 1000000) {w0 : World} (hb : Base w0 w X) :
    Calls Tryz.prog 11 #[.pointer (some ⟨s, 0, none⟩), .string (bs k), entV e vf vv] w fun r w' => r = .returned (.bool (decide (sizeE k e ≤ m))) ∧ ∃ X', Sto w' s X' n m (putS n m A ⟨k, e, pu + 1⟩).2 (pu + 1) ∧ Did X X' w w' := by
  obtain ⟨tb, bb, umb, nF, XB, F, l, hw⟩ := h
  obtain ⟨Af0, cf0, hff⟩ := hf.fl.form
  obtain ⟨Av0, cv0, hfv⟩ := hv.fl.form
  subst hff hfv
  have hal : Below w.heap.size w (w.alloc (.cells #[.int .i64 e.st, .string (bs e.re), .int .i64 e.mi, .slice Af0 e.fs.length cf0, .string (bs e.bo), .int .i64 e.ak, .int .i64 e.gt, .slice Av0 e.vy.length cv0] 28)) := (Below.refl _ _).alloc (Nat.le_refl _) _
  have hX : ∀ b, stX tb umb F XB b → X b := fun b e => by rw [hw.eX]; exact .inr e
  have hpq : PQ w0 w (w.alloc (.cells #[.int .i64 e.st, .string (bs e.re), .int .i64 e.mi, .slice Af0 e.fs.length cf0, .string (bs e.bo), .int .i64 e.ak, .int .i64 e.gt, .slice Av0 e.vy.length cv0] 28)) w.heap.size e (.slice Af0 e.fs.length cf0) (.slice Av0 e.vy.length cv0) (stX tb umb F XB) tb bb umb nF XB F n m l (rowS A) pu :=
    ⟨hw.st.bel hal, (Base.mk hb.ke0 hb.bel (fun b e => hb.low b (hX b e)) : Base w0 w (stX tb umb F XB)).down hal, bk.new w _ _, fun q => absurd (hw.st.lt _ q) (Nat.lt_irrefl _), (hf.wider (fun b e => .inl (hX b e))).did (Did.of_below hal), (hv.wider (fun b e => .inl (hX b e))).did (Did.of_below hal), Did.of_below hal⟩
  have HP0 := Lib.hid hpq
  have HK0 := Lib.hid (skept_any s tb (w.alloc (.cells #[.int .i64 e.st, .string (bs e.re), .int .i64 e.mi, .slice Af0 e.fs.length cf0, .string (bs e.bo), .int .i64 e.ak, .int .i64 e.gt, .slice Av0 e.vy.length cv0] 28)) (hw.top.below hal))
  have HW := Lib.hid hw; have HSM := Lib.hid hs
  have HIL : Hid ((idT k e.vy).length ≤ KL) := Nat.le_trans (idT_len hs.k hs.vy) KL_7000
  have HPU := Lib.hid hp
  have p7 := hpq.pe.cell 7 (.slice Av0 e.vy.length cv0) rfl
  have HDP : Hid (nF < maxLen) := by have := hw.nF; unfold maxLen; show _ < _; omega
  obtain ⟨pu1, hpu1⟩ : ∃ q, q = pu + 1 := ⟨_, rfl⟩
  have hwp : IntKind.i64.wrap ((pu : Int) + 1) = (pu1 : Int) := by rw [IntKind.wrap_i64]; omega
  have HPU1 := Lib.hid hpu1; clear hpu1
  clear hal hX hpq hw hs hp hf hv hb
  unfold entV
  go_enter Tryz.func11, Tryz.ntmps11
  go_wp2_with fail
  generalize (w.alloc (.cells #[.int .i64 e.st, .string (bs e.re), .int .i64 e.mi, .slice Af0 e.fs.length cf0, .string (bs e.bo), .int .i64 e.ak, .int .i64 e.gt, .slice Av0 e.vy.length cv0] 28)) = W0 at *
  generalize hpp : w.heap.size = p at *
  have HPP := Lib.hid hpp; clear hpp
  refine HK0.out.mono ?_
  rintro r wx ⟨rfl, rfl⟩
  clear HK0
  go_wp2_with fail
  refine (identity_any k (.slice Av0 e.vy.length cv0) e.vy W0 HP0.out.fv.fl HSM.out.k HSM.out.vy HP0.out.ba.ke).mono ?_
  rintro r w2 ⟨rfl, hb⟩
  have HP2 := Lib.hid (HP0.out.bel hb)
  clear hb HP0 p7
  go_wp2_with fail
  refine (remove_any9 HP2.out.st k e.vy HSM.out.k HSM.out.vy HDP.out HP2.out.ba (fun hh => ?_)).mono ?_
  · have h1 : hasK (idT k e.vy) A = true := by rw [HW.out.sim.has]; exact hh
    obtain ⟨xs, a, zs, hA, ha, -⟩ := splitK (hasK_iff.1 h1)
    have hk := of_has HW.out.of hA ha
    obtain ⟨us, vs, r1, r2, -, -⟩ := rowS_mid (xs := xs) (zs := zs) (a := a) (by rw [← hA]; exact HW.out.nd2)
    rw [← hA, hk, ha] at r1
    rw [ha] at r2
    exact ⟨us, vs, r1, r2⟩
  rintro r w3 ⟨rfl, XB3, F3, nF3, hs3, hle3, hd3⟩
  have hp3 := (HP2.out.step hs3 hd3).rowsEq (R' := rowS (dropK (idT k e.vy) A)) (rows_less HW.out.of HW.out.nd2 HW.out.sim k e.vy)
  have HP3 := Lib.hid hp3; have HLE3 := Lib.hid hle3
  have HSIM : Hid (Sim (Hld w3 (stX tb umb F3 XB3)) (dropK (idT k e.vy) A) (dropK (idT k e.vy) l)) := by
    refine (HW.out.sim.drop _).mono (fun a b q => ?_)
    have q1 := q.wider (Y := stX tb umb F XB) (fun b e => .inl (by rw [HW.out.eX]; exact .inr e))
    exact q1.did (HP3.out.did)
  have c2 := hp3.st.st.cell 2 (.int .i64 (pu : Int)) rfl
  have f2 := hp3.st.st.free 2
  clear hs3 hle3 hd3 hp3 HP2
  go_wp2_with fail
  obtain ⟨hs4, hd4⟩ := HP3.out.st.count pu1
  have HP4 := Lib.hid (HP3.out.step hs4 hd4)
  have HSIM4 := Lib.hid (HSIM.out.mono (fun a b q => q.did hd4))
  clear hs4 hd4 HP3 HSIM c2 f2
  generalize w3.setCell ⟨tb, 2, none⟩ (.int .i64 (pu1 : Int)) = w4 at *
  have HZ0 : Hid (w4.drew.heap[p]? = w4.heap[p]? ∧ w4.drew.heap[tb]? = w4.heap[tb]?) := ⟨rfl, rfl⟩
  have HFF : Hid (FL w4.drew (.slice Af0 e.fs.length cf0) e.fs) := HP4.out.ff.fl
  have HFV : Hid (FL w4.drew (.slice Av0 e.vy.length cv0) e.vy) := HP4.out.fv.fl
  refine wp_region_growS (.one 0 false (.one 1 false (.one 2 false (.one 3 false (.one 4 false (.one 5 false (.one 6 false (.one 8 false (.one 10 false (.one 11 false (.one 12 false (.one 13 false (.one 17 false (.one 7 true (.one 9 true (.one 14 false (.one 15 true (.one 16 false .done))))))))))))))))))
    (fun x => x.heap[p]? = w4.heap[p]? ∧ x.heap[tb]? = w4.heap[tb]?) (by kernel_rfl) (by kernel_rfl) rfl (by kernel_rfl) (by kernel_rfl) HZ0.out (fun ops hops => ?_)
  simp only [GT.ins, List.getD_cons_zero, List.getD_cons_succ]
  clear hops
  iterate 13
    refine growS_take (by rfl) ?_
    apply Exists.intro
    refine ⟨fun w' hE => ?_, ?_⟩
    · have t0 : w'.cell? ⟨tb, 0, none⟩ = some (.pointer (some ⟨bb, 0, none⟩)) := (World.cell?_of_block (a := ⟨tb, 0, none⟩) hE.2).trans (HP4.out.st.st.cell 0 _ rfl)
      have t2 : w'.cell? ⟨tb, 2, none⟩ = some (.int .i64 (pu1 : Int)) := (World.cell?_of_block (a := ⟨tb, 2, none⟩) hE.2).trans (HP4.out.st.st.cell 2 _ rfl)
      have p0 : w'.cell? ⟨p, 0, none⟩ = some (.int .i64 e.st) := (World.cell?_of_block (a := ⟨p, 0, none⟩) hE.1).trans (HP4.out.pe.cell 0 _ rfl)
      have p1 : w'.cell? ⟨p, 1, none⟩ = some (.string (bs e.re)) := (World.cell?_of_block (a := ⟨p, 1, none⟩) hE.1).trans (HP4.out.pe.cell 1 _ rfl)
      have p2 : w'.cell? ⟨p, 2, none⟩ = some (.int .i64 e.mi) := (World.cell?_of_block (a := ⟨p, 2, none⟩) hE.1).trans (HP4.out.pe.cell 2 _ rfl)
      have p3 : w'.cell? ⟨p, 3, none⟩ = some (.slice Af0 e.fs.length cf0) := (World.cell?_of_block (a := ⟨p, 3, none⟩) hE.1).trans (HP4.out.pe.cell 3 _ rfl)
      have p4 : w'.cell? ⟨p, 4, none⟩ = some (.string (bs e.bo)) := (World.cell?_of_block (a := ⟨p, 4, none⟩) hE.1).trans (HP4.out.pe.cell 4 _ rfl)
      have p5 : w'.cell? ⟨p, 5, none⟩ = some (.int .i64 e.ak) := (World.cell?_of_block (a := ⟨p, 5, none⟩) hE.1).trans (HP4.out.pe.cell 5 _ rfl)
      have p6 : w'.cell? ⟨p, 6, none⟩ = some (.int .i64 e.gt) := (World.cell?_of_block (a := ⟨p, 6, none⟩) hE.1).trans (HP4.out.pe.cell 6 _ rfl)
      have p7 : w'.cell? ⟨p, 7, none⟩ = some (.slice Av0 e.vy.length cv0) := (World.cell?_of_block (a := ⟨p, 7, none⟩) hE.1).trans (HP4.out.pe.cell 7 _ rfl)
      go_simp
      try with_reducible rfl
    simp only [Act.put, List.setIfInBounds_toArray, List.set_cons_zero, List.set_cons_succ]
  refine growS_call (by rfl) (fun K hK => ?_)
  go_simp
  refine (size_any k e (.slice Af0 e.fs.length cf0) (.slice Av0 e.vy.length cv0) w4.drew HFF.out HFV.out HSM.out).mono ?_
  rintro r z1 ⟨rfl, hb⟩
  have hb : Below w4.heap.size w4 z1 := ⟨hb.os, hb.tape, hb.output, hb.size, hb.block⟩
  have HPz1 := Lib.hid (HP4.out.bel hb)
  have HZ1 : Hid (Did (stX tb umb F3 XB3) (stX tb umb F3 XB3) w4 z1) := Did.of_below hb
  have HBB1 : Hid (z1.heap[p]? = w4.heap[p]? ∧ z1.heap[tb]? = w4.heap[tb]?) := ⟨hb.block p HP4.out.pe.lt, hb.block tb HP4.out.st.st.lt⟩
  refine hK.out _ _ HBB1.out ?_
  clear hK K hb
  refine growS_call (by rfl) (fun K hK => ?_)
  go_simp
  refine (copied_any9 e (.slice Af0 e.fs.length cf0) (.slice Av0 e.vy.length cv0) z1 HPz1.out.ff.fl HPz1.out.fv.fl HSM.out.fs HSM.out.vy (by have := HSM.out.re; omega) (by have := HSM.out.bo; omega)).mono ?_
  rintro r z2 ⟨vf', vv', rfl, of', ov', hb⟩
  obtain ⟨Af, cf, rfl⟩ := of'.form
  obtain ⟨Av, cv, rfl⟩ := ov'.form
  have HPz2 := Lib.hid (HPz1.out.bel hb)
  have HNF := Lib.hid (FLX.own of' (fun b e => HPz1.out.st.lt b e)); have HNV := Lib.hid (FLX.own ov' (fun b e => HPz1.out.st.lt b e))
  have HZ2 := Lib.hid (HZ1.out.trans (Did.of_below hb))
  simp only [entV]
  have HBB2 : Hid (z2.heap[p]? = w4.heap[p]? ∧ z2.heap[tb]? = w4.heap[tb]?) := ⟨(hb.block p HPz1.out.pe.lt).trans HBB1.out.1, (hb.block tb HPz1.out.st.st.lt).trans HBB1.out.2⟩
  refine hK.out _ _ HBB2.out ?_
  clear hK K hb of' ov'
  iterate 1
    refine growS_take (by rfl) ?_
    apply Exists.intro
    refine ⟨fun w' hE => ?_, ?_⟩
    · have t0 : w'.cell? ⟨tb, 0, none⟩ = some (.pointer (some ⟨bb, 0, none⟩)) := (World.cell?_of_block (a := ⟨tb, 0, none⟩) hE.2).trans (HP4.out.st.st.cell 0 _ rfl)
      have t2 : w'.cell? ⟨tb, 2, none⟩ = some (.int .i64 (pu1 : Int)) := (World.cell?_of_block (a := ⟨tb, 2, none⟩) hE.2).trans (HP4.out.st.st.cell 2 _ rfl)
      have p0 : w'.cell? ⟨p, 0, none⟩ = some (.int .i64 e.st) := (World.cell?_of_block (a := ⟨p, 0, none⟩) hE.1).trans (HP4.out.pe.cell 0 _ rfl)
      have p1 : w'.cell? ⟨p, 1, none⟩ = some (.string (bs e.re)) := (World.cell?_of_block (a := ⟨p, 1, none⟩) hE.1).trans (HP4.out.pe.cell 1 _ rfl)
      have p2 : w'.cell? ⟨p, 2, none⟩ = some (.int .i64 e.mi) := (World.cell?_of_block (a := ⟨p, 2, none⟩) hE.1).trans (HP4.out.pe.cell 2 _ rfl)
      have p3 : w'.cell? ⟨p, 3, none⟩ = some (.slice Af0 e.fs.length cf0) := (World.cell?_of_block (a := ⟨p, 3, none⟩) hE.1).trans (HP4.out.pe.cell 3 _ rfl)
      have p4 : w'.cell? ⟨p, 4, none⟩ = some (.string (bs e.bo)) := (World.cell?_of_block (a := ⟨p, 4, none⟩) hE.1).trans (HP4.out.pe.cell 4 _ rfl)
      have p5 : w'.cell? ⟨p, 5, none⟩ = some (.int .i64 e.ak) := (World.cell?_of_block (a := ⟨p, 5, none⟩) hE.1).trans (HP4.out.pe.cell 5 _ rfl)
      have p6 : w'.cell? ⟨p, 6, none⟩ = some (.int .i64 e.gt) := (World.cell?_of_block (a := ⟨p, 6, none⟩) hE.1).trans (HP4.out.pe.cell 6 _ rfl)
      have p7 : w'.cell? ⟨p, 7, none⟩ = some (.slice Av0 e.vy.length cv0) := (World.cell?_of_block (a := ⟨p, 7, none⟩) hE.1).trans (HP4.out.pe.cell 7 _ rfl)
      go_simp
      try with_reducible rfl
    simp only [Act.put, List.setIfInBounds_toArray, List.set_cons_zero, List.set_cons_succ]
  refine growS_call (by rfl) (fun K hK => ?_)
  go_simp
  refine (BT.put_any HPz2.out.st.bud (idT k e.vy) HIL.out (sizeE k e : Int) (by omega) (by have := HSM.out.size; omega) ⟨.int .i64 e.st, .string (bs e.re), .int .i64 e.mi, .slice Af e.fs.length cf, .string (bs e.bo), .int .i64 e.ak, .int .i64 e.gt, .slice Av e.vy.length cv, .int .i64 (pu1 : Int), item_one e pu1 Af Av cf cv⟩).mono ?_
  rintro r w5 ⟨v, rfl, hv, XB5, hb5, hd5⟩
  rw [Int.toNat_natCast] at hv hb5
  obtain ⟨hs5, hd5x⟩ := HPz2.out.st.budget hb5 hd5
  have HP5 := Lib.hid (HPz2.out.step hs5 hd5x)
  have hsm2 := HSIM4.out.mono (Q := Hld z2 (stX tb umb F3 XB3)) (fun a b q => q.did HZ2.out)
  obtain ⟨hg5, hsm5⟩ := hsm2.put n m (idT k e.vy) (sizeE k e) ⟨k, e, pu1⟩ ⟨.int .i64 e.st, .string (bs e.re), .int .i64 e.mi, .slice Af e.fs.length cf, .string (bs e.bo), .int .i64 e.ak, .int .i64 e.gt, .slice Av e.vy.length cv, .int .i64 (pu1 : Int), item_one e pu1 Af Av cf cv⟩ ⟨rfl, rfl, rfl, HNF.out, rfl, rfl, rfl, HNV.out, rfl⟩
  rw [← hg5] at hv
  obtain ⟨Ag, cg, hvf⟩ := hv.form
  subst hvf
  have HSM5 := Lib.hid (hsm5.mono (Q := Hld w5 (stX tb umb F3 XB5)) (fun a b q => q.did hd5x))
  have HV5 := Lib.hid hv
  have HGN : Hid (∀ gv, (Value.slice Ag (putK n m (idT k e.vy) (sizeE k e) (⟨k, e, pu1⟩ : He) (dropK (idT k e.vy) A)).1.length cg).ownBlock = some gv → ¬ undX umb F3 gv) := fun gv hgv hu => by
    have h1 := (World.ownsRow.lt hv gv hgv).1
    have h2 := HPz2.out.st.und.lt gv hu
    omega
  refine hK.out _ _ ⟨(hd5.keep p HPz2.out.pe.lt (fun q => HPz2.out.np (.inr (.inr q)))).trans HBB2.out.1, (hd5.keep tb HPz2.out.st.st.lt (fun q => (HPz2.out.st.dis tb q).1 rfl)).trans HBB2.out.2⟩ ?_
  generalize HL5 : (putK n m (idT k e.vy) (sizeE k e) (⟨.int .i64 e.st, .string (bs e.re), .int .i64 e.mi, .slice Af e.fs.length cf, .string (bs e.bo), .int .i64 e.ak, .int .i64 e.gt, .slice Av e.vy.length cv, .int .i64 (pu1 : Int), item_one e pu1 Af Av cf cv⟩ : Iv) (dropK (idT k e.vy) l)).2 = l5 at *
  clear HL5 hK K hs5 hd5x hsm2 hg5 hsm5 hv hb5 hd5 HNF HNV HZ1 HZ2 HPz1 HPz2 HBB1 HBB2 HSIM4 HFF HFV HZ0
  iterate 1
    refine growS_take (by rfl) ?_
    apply Exists.intro
    refine ⟨fun w' hE => ?_, ?_⟩
    · have t0 : w'.cell? ⟨tb, 0, none⟩ = some (.pointer (some ⟨bb, 0, none⟩)) := (World.cell?_of_block (a := ⟨tb, 0, none⟩) hE.2).trans (HP4.out.st.st.cell 0 _ rfl)
      have t2 : w'.cell? ⟨tb, 2, none⟩ = some (.int .i64 (pu1 : Int)) := (World.cell?_of_block (a := ⟨tb, 2, none⟩) hE.2).trans (HP4.out.st.st.cell 2 _ rfl)
      have p0 : w'.cell? ⟨p, 0, none⟩ = some (.int .i64 e.st) := (World.cell?_of_block (a := ⟨p, 0, none⟩) hE.1).trans (HP4.out.pe.cell 0 _ rfl)
      have p1 : w'.cell? ⟨p, 1, none⟩ = some (.string (bs e.re)) := (World.cell?_of_block (a := ⟨p, 1, none⟩) hE.1).trans (HP4.out.pe.cell 1 _ rfl)
      have p2 : w'.cell? ⟨p, 2, none⟩ = some (.int .i64 e.mi) := (World.cell?_of_block (a := ⟨p, 2, none⟩) hE.1).trans (HP4.out.pe.cell 2 _ rfl)
      have p3 : w'.cell? ⟨p, 3, none⟩ = some (.slice Af0 e.fs.length cf0) := (World.cell?_of_block (a := ⟨p, 3, none⟩) hE.1).trans (HP4.out.pe.cell 3 _ rfl)
      have p4 : w'.cell? ⟨p, 4, none⟩ = some (.string (bs e.bo)) := (World.cell?_of_block (a := ⟨p, 4, none⟩) hE.1).trans (HP4.out.pe.cell 4 _ rfl)
      have p5 : w'.cell? ⟨p, 5, none⟩ = some (.int .i64 e.ak) := (World.cell?_of_block (a := ⟨p, 5, none⟩) hE.1).trans (HP4.out.pe.cell 5 _ rfl)
      have p6 : w'.cell? ⟨p, 6, none⟩ = some (.int .i64 e.gt) := (World.cell?_of_block (a := ⟨p, 6, none⟩) hE.1).trans (HP4.out.pe.cell 6 _ rfl)
      have p7 : w'.cell? ⟨p, 7, none⟩ = some (.slice Av0 e.vy.length cv0) := (World.cell?_of_block (a := ⟨p, 7, none⟩) hE.1).trans (HP4.out.pe.cell 7 _ rfl)
      go_simp
      try with_reducible rfl
    simp only [Act.put, List.setIfInBounds_toArray, List.set_cons_zero, List.set_cons_succ]
  refine growS_done (NoPanic.normal ?_)
  obtain ⟨xs, rest, hA1, hG, hA5⟩ := put_split n m (idT k e.vy) (sizeE k e) (⟨k, e, pu1⟩ : He) A
  rw [hG] at HV5 HGN
  rw [hG]
  rw [hA5] at HSM5
  generalize hA5g : (if m < sizeE k e then rest else rest ++ [(idT k e.vy, sizeE k e, (⟨k, e, pu1⟩ : He))]) = A5 at HSM5
  have HA5 : Hid ((putS n m A ⟨k, e, pu + 1⟩).2 = A5) := by
    have h1 := HPU1.out
    show _ = _
    rw [← hA5g, ← hA5, put_again, h1]; rfl
  have HAG := Lib.hid hA5g
  have HA1 := Lib.hid hA1
  have HP6 := Lib.hid (HP5.out.rowsEq (R' := rowS (xs ++ rest)) (by rw [hA1]))
  have HKL : Hid ((keysK xs).length = xs.length ∧ xs.length ≤ 4096) := by
    refine ⟨by simp [keysK], ?_⟩
    have h1 := HW.out.st.bud.ok.len
    have h2 := HW.out.st.bud.bounds.2.1
    have h3 := HW.out.sim.len
    have h4 := (dropK_sub (idT k e.vy) A).length_le
    rw [hA1] at h4
    simp at h4
    omega
  clear hA1 hG hA5 hA5g HP5
  go_wp2_with fail
  go_loopg [46] (keysK xs).length (fun c i wr => ∃ (j nF' : Nat) (F' : List UInt8 → Option Hd), i = .int .i64 j ∧ j + c = (keysK xs).length ∧ Hid (PQ w0 w wr p e (.slice Af0 e.fs.length cf0) (.slice Av0 e.vy.length cv0) (stX tb umb F XB) tb bb umb nF' XB5 F' n m l5 (rowS (xs.drop j ++ rest)) pu1 ∧ nF' ≤ nF3 ∧ Sim (Hld wr (stX tb umb F' XB5)) A5 l5 ∧ ownS wr z2.heap.size (.slice Ag (keysK xs).length cg) (keysK xs) ∧ (∀ gv, (Value.slice Ag (keysK xs).length cg).ownBlock = some gv → ¬ undX umb F' gv)))
  case atStart => exact ⟨0, nF3, F3, rfl, by omega, HP6.out, Nat.le_refl _, HSM5.out, HV5.out, HGN.out⟩
  case round =>
    obtain ⟨j, nF', F', rfl, hj, hr⟩ := hrel
    have HP := Lib.hid hr.out.1; have HLE := Lib.hid hr.out.2.1; have HS := Lib.hid hr.out.2.2.1; have HV := Lib.hid hr.out.2.2.2.1; have HG := Lib.hid hr.out.2.2.2.2
    clear hr HP6 HSM5 HV5 HGN
    have hkl := HKL.out
    have HNM : Hid (nF' < maxLen) := by have h1 := HLE.out; have h2 := HLE3.out; have h3 := HW.out.nF; have h4 := HPU.out; unfold maxLen; show _ < _; omega
    by_cases hend : j < (keysK xs).length
    · obtain ⟨gv, rfl, hcv⟩ := ownS.cell HV.out j hend
      have hjx : j < xs.length := by omega
      have hgd : (keysK xs).getD j [] = xs[j].1 := by simp [keysK, List.getD, hjx]
      have hdr : xs.drop j = xs[j] :: xs.drop (j + 1) := List.drop_eq_getElem_cons hjx
      have hmem : xs[j] ∈ A := (dropK_sub (idT k e.vy) A).subset (by rw [HA1.out]; exact List.mem_append_left _ (List.getElem_mem hjx))
      have hof := HW.out.of _ hmem
      have hsm := HW.out.sm _ hmem
      have hnd : (keysK (xs.drop j ++ rest)).Nodup := by
        have h1 : (keysK (dropK (idT k e.vy) A)).Nodup := HW.out.nd2.sublist (keysK_sub (dropK_sub _ _))
        rw [HA1.out] at h1
        exact h1.sublist (keysK_sub (List.Sublist.append_right (List.drop_sublist j xs) rest))
      rw [hdr] at hnd
      obtain ⟨us, vs, r1, r2, -, r4⟩ := rowS_mid (xs := []) (zs := xs.drop (j + 1) ++ rest) (a := xs[j]) hnd
      have hR : rowS (xs.drop j ++ rest) = rowS ([] ++ xs[j] :: (xs.drop (j + 1) ++ rest)) := by rw [hdr]; rfl
      rw [← hR] at r1 r4
      have hRn : upd (rowS (xs.drop j ++ rest)) xs[j].2.2.key (us ++ vs) = rowS (xs.drop (j + 1) ++ rest) := by
        funext q
        have := r4 q
        simp only [List.nil_append] at this
        rw [this]
        by_cases e' : q = xs[j].2.2.key
        · rw [if_pos e', e', upd_same]
        · rw [if_neg e', upd_other _ _ e']
      have hid : xs[j].1 = idT xs[j].2.2.key xs[j].2.2.e.vy := congrArg Prod.fst hof
      rw [hgd, hid] at hcv
      rw [hid] at r1 r2
      have HU := Lib.hid (unlist_any wr tb umb nF' F' (rowS (xs.drop j ++ rest)) (some ⟨bb, 0, none⟩) (.int .i64 (pu1 : Int)) xs[j].2.2.key xs[j].2.2.e.vy us vs HP.out.st.st HP.out.st.und HNM.out hsm.k hsm.vy r1 r2 HP.out.ba.ke)
      have HRN := Lib.hid hRn
      have HKK : Hid (gk - 1 < gk ∧ j + 1 + (gk - 1) = (keysK xs).length) := ⟨by omega, by omega⟩
      have HJJ : Hid (j < 1000000) := by show _ < _; omega
      generalize xs[j] = a at *
      clear hjx hgd hdr hmem hof hsm hnd r1 r2 r4 hR hRn hid hkl hj
      generalize idT a.2.2.key a.2.2.e.vy = ia at *
      go_wp2_with fail
      refine HU.out.mono ?_
      rintro r w6 ⟨rfl, n', F'', hle, hu, hd⟩
      obtain ⟨hs, hdx⟩ := HP.out.st.rows hu hd
      have HP' := Lib.hid ((HP.out.step hs hdx).rowsEq HRN.out)
      have HS' := Lib.hid (HS.out.mono (Q := Hld w6 (stX tb umb F'' XB5)) (fun a b q => q.did hdx))
      have HLE' : Hid (n' ≤ nF3) := Nat.le_trans hle HLE.out
      have HG' : Hid (∀ gv', (Value.slice (some ⟨gv, 0, none⟩) (keysK xs).length cg).ownBlock = some gv' → ¬ undX umb F'' gv') := fun gv' hgv hx => by
        rcases hd.new gv' hx with q | q
        · exact HG.out gv' hgv q
        · have := (World.ownsRow.lt HV.out gv' hgv).2; omega
      have HV' := Lib.hid (BT.ownS.keepG HV.out (fun g hg => hd.keep g (World.ownsRow.lt HV.out g hg).2 (HG.out g hg)))
      clear hs hdx hle hu hd hcv HP HS HLE HG HV HU
      go_wp2_with fail
      go_roundg (gk - 1)
      case measure => exact HKK.out.1
      case rel => exact ⟨j + 1, n', F'', by first | rfl | exact wrapJ j HJJ.out, HKK.out.2, HP'.out, HLE'.out, HS'.out, HV'.out, HG'.out⟩
    · have hjl : xs.drop j = [] := List.drop_eq_nil_of_le (by omega)
      have HQ := Lib.hid (HP.out.rowsEq (R' := rowS rest) (by rw [hjl]; rfl))
      have HPK := Lib.hid (BT.peek_any HQ.out.st.bud (idT k e.vy) HIL.out)
      have t0 := HQ.out.st.st.cell 0 (.pointer (some ⟨bb, 0, none⟩)) rfl
      have hfd : (findK (idT k e.vy) l5).isSome = decide (sizeE k e ≤ m) := by
        have hne : idT k e.vy ∉ keysK rest := fun q => dropK_keys (idT k e.vy) A (by rw [HA1.out, keysK_append]; exact List.mem_append_right _ q)
        have h1 : (findK (idT k e.vy) A5).isSome = decide (sizeE k e ≤ m) := by
          rw [← HAG.out]
          by_cases hms : m < sizeE k e
          · rw [if_pos hms, findK_none hne, decide_eq_false (by omega)]; rfl
          · rw [if_neg hms, find_snoc (idT k e.vy) rest (idT k e.vy, sizeE k e, (⟨k, e, pu1⟩ : He)) rfl hne, decide_eq_true (by omega)]; rfl
        rw [← h1]
        rcases HS.out.find (idT k e.vy) with ⟨q1, q2⟩ | ⟨a, y, q1, q2, -⟩
        · rw [q1, q2]; rfl
        · rw [q1, q2]; rfl
      rw [hfd] at HPK
      generalize valK BT.zero (findK (idT k e.vy) l5) = y0 at HPK
      clear hkl hj hjl hfd HP HG HV
      go_wp2_with fail
      refine HPK.out.mono ?_
      rintro r w6 ⟨rfl, hb⟩
      have HQ6 := Lib.hid (HQ.out.bel hb)
      have HS6 := Lib.hid (HS.out.mono (Q := Hld w6 (stX tb umb F' XB5)) (fun a b q => q.did (Did.of_below hb)))
      clear hb t0 HPK HQ HS
      unfold Iv.agg
      have hst : World.there (w6.alloc (.cells #[.int .i64 0, .string ⟨#[]⟩, .int .i64 0, .slice none 0 0, .string ⟨#[]⟩, .int .i64 0, .int .i64 0, .slice none 0 0, .int .i64 0] 61)) w6.heap.size 0 9 := (bk.new w6 #[.int .i64 0, .string ⟨#[]⟩, .int .i64 0, .slice none 0 0, .string ⟨#[]⟩, .int .i64 0, .int .i64 0, .slice none 0 0, .int .i64 0] 61).there 0 9 (by decide)
      have HST := Lib.hid hst; have HON := Lib.hid y0.one
      have hb7 : Below w6.heap.size w6 (World.setCells (w6.alloc (.cells #[.int .i64 0, .string ⟨#[]⟩, .int .i64 0, .slice none 0 0, .string ⟨#[]⟩, .int .i64 0, .int .i64 0, .slice none 0 0, .int .i64 0] 61)) w6.heap.size 0 [y0.c0, y0.c1, y0.c2, y0.c3, y0.c4, y0.c5, y0.c6, y0.c7, y0.c8]) := Below.cells ((Below.refl _ _).alloc (Nat.le_refl _) _) _ (Nat.le_refl _) _ 0
      have HB7 := Lib.hid hb7
      clear hst hb7
      by_cases hms : m < sizeE k e
      · have hdm : decide (sizeE k e ≤ m) = false := decide_eq_false (by omega)
        rw [hdm]
        go_wp2_with (refine wpList_store_mid rfl 61 (.tmp 11) (.tmp 61) rfl _ 0 #[y0.c0, y0.c1, y0.c2, y0.c3, y0.c4, y0.c5, y0.c6, y0.c7, y0.c8] rfl rfl HST.out BT.infoT.out HON.out ?_; clear HST)
        go_ret
        have hA5e : A5 = rest := by rw [← HAG.out, if_pos hms]
        have HQ7 := Lib.hid (HQ6.out.bel HB7.out)
        have hsub : ∀ a ∈ rest, a ∈ A := fun a ha => (dropK_sub (idT k e.vy) A).subset (by rw [HA1.out]; exact List.mem_append_right _ ha)
        obtain ⟨u1, u2, u3⟩ := HW.out.subs hsub
        have hsl : rest.Sublist A := List.Sublist.trans (by rw [HA1.out]; exact List.sublist_append_right xs rest) (dropK_sub (idT k e.vy) A)
        have HS7 := HS6.out.mono (Q := Hld (World.setCells (w6.alloc (.cells #[.int .i64 0, .string ⟨#[]⟩, .int .i64 0, .slice none 0 0, .string ⟨#[]⟩, .int .i64 0, .int .i64 0, .slice none 0 0, .int .i64 0] 61)) w6.heap.size 0 [y0.c0, y0.c1, y0.c2, y0.c3, y0.c4, y0.c5, y0.c6, y0.c7, y0.c8]) (stX tb umb F' XB5)) (fun a b q => q.did (Did.of_below HB7.out))
        rw [hA5e] at HS7
        have h9 := HPU1.out
        have hst7 := HQ7.out.st
        obtain ⟨X', q1, q2⟩ := HW.out.done (pu' := pu1) hst7 HQ7.out.did HS7 (by have h1 := HLE.out; have h2 := HLE3.out; have h3 := HW.out.nF; omega) u1 u2 (fun a ha => ⟨(u3 a ha).1, by have := (u3 a ha).2; omega⟩) (HW.out.nd.sublist (hsl.map _))
        exact ⟨by rw [decide_eq_false (by omega : ¬ sizeE k e ≤ m)]; rfl, X', by rw [HA5.out, hA5e, ← h9]; exact q1, q2⟩
      · have hdm : decide (sizeE k e ≤ m) = true := decide_eq_true (by omega)
        rw [hdm]
        have hA5e : A5 = rest ++ [(idT k e.vy, sizeE k e, (⟨k, e, pu1⟩ : He))] := by rw [← HAG.out, if_neg hms]
        have HQ7 := Lib.hid (HQ6.out.bel HB7.out)
        have HKM : Hid (k.length ≤ maxLen) := by have := HSM.out.k; unfold maxLen; show _ ≤ _; omega
        have HOW : Hid (ownS (World.setCells (w6.alloc (.cells #[.int .i64 0, .string ⟨#[]⟩, .int .i64 0, .slice none 0 0, .string ⟨#[]⟩, .int .i64 0, .int .i64 0, .slice none 0 0, .int .i64 0] 61)) w6.heap.size 0 [y0.c0, y0.c1, y0.c2, y0.c3, y0.c4, y0.c5, y0.c6, y0.c7, y0.c8]) 0 (sliV (F' k)) (rowS rest k)) := by
          have h1 := HQ7.out.st.und.row k
          show ownS _ _ _ _
          cases hFk : F' k with
          | none => rw [hFk] at h1; have h2 : rowS rest k = [] := h1; rw [h2]; exact ownS_nil _ _
          | some o =>
            rw [hFk] at h1
            obtain ⟨g0, m0, c0⟩ := o
            obtain ⟨h2, -, h3⟩ := h1
            show ownS _ _ (.slice (some ⟨g0, 0, none⟩) m0 c0) _
            rw [h2]; exact h3
        have HRL : Hid ((rowS rest k).length ≤ 4096) := by
          have h1 := HW.out.st.bud.ok.len
          have h2 := HW.out.st.bud.bounds.2.1
          have h3 := HW.out.sim.len
          have h4 := (dropK_sub (idT k e.vy) A).length_le
          rw [HA1.out] at h4
          have h5 : (rowS rest k).length ≤ rest.length := by unfold rowS; rw [List.length_map]; exact List.length_filter_le _ _
          simp at h4
          show _ ≤ _
          omega
        have HMS := Lib.hid hms
        clear hms
        obtain ⟨i0, hi, hz0, hz1, hz2⟩ := info_parts infoS
        go_wp2_with (first | (refine wpList_store_mid rfl 61 (.tmp 11) (.tmp 61) rfl _ 0 #[y0.c0, y0.c1, y0.c2, y0.c3, y0.c4, y0.c5, y0.c6, y0.c7, y0.c8] rfl rfl HST.out BT.infoT.out HON.out ?_; clear HST; generalize (World.setCells (w6.alloc (.cells #[.int .i64 0, .string ⟨#[]⟩, .int .i64 0, .slice none 0 0, .string ⟨#[]⟩, .int .i64 0, .int .i64 0, .slice none 0 0, .int .i64 0] 61)) w6.heap.size 0 [y0.c0, y0.c1, y0.c2, y0.c3, y0.c4, y0.c5, y0.c6, y0.c7, y0.c8]) = w7 at *; have q1 := HQ7.out.st.st.cell 1 (.map (some umb)) rfl; have hrun := HQ7.out.st.und.map.look Tryz.underlying9 Tryz.underlying62 (zeroSl w7) k HKM.out) | (at_builtin; refine wpList_append_lies _ rfl (.tmp 72) (.tmp 74) 36 rfl 0 9 i0 (.string ⟨#[]⟩) 1 16 Tryz.underlying36 hi hz0 hz1 hz2 rfl (by decide) (sliV (F' k)) (rowS rest k).length (strCs (rowS rest k)) rfl (World.ownsRow.alloc HOW.out _) ⟨w7.heap.size, 0, none⟩ 1 1 [.string (bs (idT k e.vy))] rfl rfl ?d1 ?d2 (by decide) ?d3 ?d4 (Nat.zero_le _) (w7.heap.size + 1) (by simp) ?_))
        case d1 =>
          intro j v hj
          match j, hj with
          | 0, hj => simp at hj; subst hj; simp [Addr.add]
        case d2 => intro v hv; simp at hv; subst hv; rfl
        case d3 => have := HRL.out; unfold maxLen; omega
        case d4 => have := HRL.out; omega
        intro g' cap' w9 ho9 hg9 hor hlt9
        have hal9 : Below w7.heap.size w7 (w7.alloc (.cells #[.string (bs (idT k e.vy))] 9)) := (Below.refl _ _).alloc (Nat.le_refl _) _
        have hke9 : ∀ b, b < w7.heap.size → ¬ (∃ q m c, F' q = some (b, m, c)) → w9.heap[b]? = w7.heap[b]? := fun b hb hne => (hg9.block b (by simp; omega) (fun e' => by obtain ⟨m', c', e'⟩ := sliV_own e'.symm; exact hne ⟨k, m', c', e'⟩)).trans (hal9.block b hb)
        have hbt9 := HQ7.out.st.st.keep (hke9 tb HQ7.out.st.st.lt (fun ⟨q, m', c', e'⟩ => HQ7.out.st.ntb (.inr ⟨q, m', c', e'⟩)))
        have hmp9 := HQ7.out.st.und.map.keep (hke9 umb HQ7.out.st.und.map.lt (fun ⟨q, m', c', e'⟩ => by obtain ⟨cur, -, -, -, -, -, -, -, q9⟩ := HQ7.out.st.und.cells e'; exact q9 rfl))
        have HSU := Lib.hid (setUnder_put w9 tb umb nF' g' ((rowS rest k).length + 1) cap' F' _ _ k hbt9 hmp9 HNM.out (by have := HSM.out.k; omega) (Nat.succ_ne_zero _))
        have H9 : Hid (w9.ownsRow 0 9 1 (.slice (some ⟨g', 0, none⟩) ((rowS rest k).length + 1) cap') ((rowS rest k).length + 1) (strCs (rowS rest k) ++ [.string (bs (idT k e.vy))]) ∧ (w7.alloc (.cells #[.string (bs (idT k e.vy))] 9)).grownBy w9 (sliV (F' k)).ownBlock ∧ ((sliV (F' k)).ownBlock = some g' ∨ g' = (w7.alloc (.cells #[.string (bs (idT k e.vy))] 9)).heap.size)) := ⟨ho9, hg9, hor.imp id (fun e' => by rw [e']; simp)⟩
        have HA9 := Lib.hid hal9
        clear ho9 hg9 hor hlt9 hal9 hke9 hbt9 hmp9 q1 hrun hi hz0 hz1 hz2
        go_wp2_with fail
        refine HSU.out.mono ?_
        rintro r w10 ⟨rfl, hm10, hd10⟩
        have h9 := H9.out
        obtain ⟨hu10, hdu10⟩ := und_append HQ7.out.st.und HA9.out h9.1 h9.2.1 h9.2.2 hm10 hd10
        obtain ⟨hst10, hdx10⟩ := HQ7.out.st.rows hu10 hdu10
        have HQ10 := Lib.hid ((HQ7.out.step hst10 hdx10).rowsEq (R' := rowS A5) (by
          rw [hA5e, rowS_snoc]
          funext q
          show (if q = k then rowS rest k ++ [idT k e.vy] else rowS rest q) = (if q = k then rowS rest q ++ [idT k e.vy] else rowS rest q)
          by_cases e' : q = k
          · rw [if_pos e', if_pos e', e']
          · rw [if_neg e', if_neg e']))
        have HS10 := Lib.hid ((HS6.out.mono (Q := Hld w7 (stX tb umb F' XB5)) (fun a b q => q.did (Did.of_below HB7.out))).mono (Q := Hld w10 (stX tb umb _ XB5)) (fun a b q => q.did hdx10))
        have HRES : Hid (∃ X', Sto w10 s X' n m A5 pu1 ∧ Did X X' w w10) := by
          have hsub : ∀ a ∈ rest, a ∈ A := fun a ha => (dropK_sub (idT k e.vy) A).subset (by rw [HA1.out]; exact List.mem_append_right _ ha)
          obtain ⟨u1, u2, u3⟩ := HW.out.subs hsub
          have hsl : rest.Sublist A := List.Sublist.trans (by rw [HA1.out]; exact List.sublist_append_right xs rest) (dropK_sub (idT k e.vy) A)
          have h8 := HPU1.out
          refine HW.out.done (pu' := pu1) HQ10.out.st HQ10.out.did HS10.out ?_ ?_ ?_ ?_ ?_
          · have h1 := HLE.out; have h2 := HLE3.out; have h3 := HW.out.nF
            split <;> omega
          · rw [hA5e]
            intro a ha
            rcases List.mem_append.1 ha with ha | ha
            · exact u1 a ha
            · rw [List.mem_singleton.1 ha]; rfl
          · rw [hA5e]
            intro a ha
            rcases List.mem_append.1 ha with ha | ha
            · exact u2 a ha
            · rw [List.mem_singleton.1 ha]; exact HSM.out
          · rw [hA5e]
            intro a ha
            rcases List.mem_append.1 ha with ha | ha
            · exact ⟨(u3 a ha).1, by have := (u3 a ha).2; omega⟩
            · rw [List.mem_singleton.1 ha]; show 1 ≤ pu1 ∧ pu1 ≤ pu1; omega
          · rw [hA5e, List.map_append, List.nodup_append]
            refine ⟨HW.out.nd.sublist (hsl.map _), by simp, ?_⟩
            intro x hx y hy exy
            obtain ⟨a, ha, rfl⟩ := List.mem_map.1 hx
            have hy' : y = pu1 := by simpa using hy
            have := (u3 a ha).2
            omega
        clear hm10 hd10 h9 hu10 hdu10 hst10 hdx10 HQ10 HS10 HSU H9 HA9 HQ7 HQ6 HS6 HB7
        go_wp2_with fail
        go_ret
        obtain ⟨X', r1, r2⟩ := HRES.out
        have h8 := HPU1.out
        have h7 := HMS.out
        exact ⟨by rw [decide_eq_true (by omega : sizeE k e ≤ m)]; rfl, X', by rw [HA5.out, ← h8]; exact r1, r2⟩
end Go.Proofs.YtopgeclecpaecaaGreatDoor
