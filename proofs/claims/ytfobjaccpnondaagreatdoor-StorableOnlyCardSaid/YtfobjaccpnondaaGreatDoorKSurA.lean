/- Lists of directives appended to each other, a directive that is made one for a device; what an element, a value and values state: the surctl layer's List. -/
import Derived.Test.YtfobjaccpnondaaGreatDoorKDirA
import Derived.Test.YtfobjaccpnondaaGreatDoorKDirE
import Derived.Test.YtfobjaccpnondaaGreatDoorKPlain
import Derived.Test.YtfobjaccpnondaaGreatDoorKTextT
import Derived.Lib.AppendZeros
import Derived.ArgAppend
namespace Go.Proofs.YtfobjaccpnondaaGreatDoor
open Go.RowKit

/-- the blocks of texts stand -/
def Kx (W W' : World) : Prop := ∀ (b : Nat) (cs : Array Value) (r : Nat × Nat), W.heap[b]? = some (Obj.cells cs 9 r) → W'.heap[b]? = some (Obj.cells cs 9 r)
theorem Kx.bel {W W' : World} (h : Below W.heap.size W W') : Kx W W' := fun b cs r e => by rw [h.block b (Array.getElem?_eq_some_iff.1 e).1]; exact e
theorem Kx.trans {A B C : World} (h : Kx A B) (k : Kx B C) : Kx A C := fun b cs r e => k b cs r (h b cs r e)
theorem ownS.kx {W W' : World} {base : Nat} {v : Value} {L : List (List UInt8)} (h : ownS W base v L) (k : Kx W W') : ownS W' base v L := by
  refine ⟨h.1, ?_⟩
  rcases h.2 with hn | ⟨g, cap, cur, hv, hbg, hg, r⟩
  · exact .inl hn
  · exact .inr ⟨g, cap, cur, hv, hbg, k _ _ _ hg, r⟩
theorem DL.src {w : World} {ad : Addr} {n c : Nat} {l : List Dv} (h : DL w (.slice (some ad) n c) l) : ∀ j u, (dcs l)[j]? = some u → w.cell? (ad.add j) = some u := by
  intro j u hu
  have hj : j < l.length * 4 := by have := (List.getElem?_eq_some_iff.1 hu).1; rw [dcs_len] at this; exact this
  obtain ⟨b, off, he, _, h1, h2, h3, h4⟩ := h.get (j / 4) (by omega)
  obtain rfl := Option.some.inj he
  obtain ⟨f1, f2, f3, f4⟩ := dcs_at l (j / 4) (by omega)
  rw [Addr.add_lit]
  rcases (by omega : j = j / 4 * 4 ∨ j = j / 4 * 4 + 1 ∨ j = j / 4 * 4 + 2 ∨ j = j / 4 * 4 + 3) with e | e | e | e
  · rw [e] at hu ⊢; rw [f1] at hu; rw [h1]; exact hu
  · rw [e] at hu ⊢; rw [f2] at hu; rw [← Nat.add_assoc, h2]; exact hu
  · rw [e] at hu ⊢; rw [f3] at hu; rw [← Nat.add_assoc, h3]; exact hu
  · rw [e] at hu ⊢; rw [f4] at hu; rw [← Nat.add_assoc, h4]; exact hu
theorem dcs_one (l : List Dv) : ∀ u ∈ dcs l, u.oneCell' = true := by
  intro u hu
  obtain ⟨d, _, hd⟩ := List.mem_flatMap.1 hu
  exact one4 d u hd
theorem app_nothingV (ty : TypeId) (A : Option Addr) (n cap c : Nat) (w : World) (hA : A = none → n = 0 ∧ cap = 0) (hn : n ≤ cap) :
    (Builtin.append_ #[68, 68] ty #[.slice A n cap, .slice none 0 c]).run Tryz.prog w = .ok (.slice A n cap) w := by
  obtain ⟨i0, hi, hz0, hz1, hz2⟩ := info_parts infoD
  cases A with
  | none =>
    obtain ⟨rfl, rfl⟩ := hA rfl
    simp [Builtin.append_, run_underlying Tryz.underlying68, sizeOf, typeInfo, hi, Builtin.lenOf, Builtin.firstCells]
  | some a =>
    simp [Builtin.append_, run_underlying Tryz.underlying68, sizeOf, typeInfo, hi, Builtin.lenOf, Builtin.firstCells, hn, storeCells]
/-- an append of directives to a slice of the call's own: what is known of its run -/
theorem run_appDD (w0 w : World) (ty : TypeId) (base B : Nat) (v vx : Value) (l m : List Dv) (hown : ownD w base v l) (hb : Below B w0 w) (hBb : B ≤ base) (hbase : base ≤ w.heap.size) (hm : DL w vx m) (hlen : l.length + m.length ≤ 4294967296) :
    ∃ v' w', (Builtin.append_ #[68, 68] ty #[v, vx]).run Tryz.prog w = .ok v' w' ∧ ownD w' base v' (l ++ m) ∧ Below B w0 w' ∧ w.grownBy w' v.ownBlock := by
  obtain ⟨i0, hi, hz0, hz1, hz2⟩ := info_parts infoD
  have key : ∀ (ad : Addr) (c : Nat), vx = .slice (some ad) m.length c → (∀ j u, (dcs m)[j]? = some u → w.cell? (ad.add j) = some u) →
      ∃ v' w', (Builtin.append_ #[68, 68] ty #[v, vx]).run Tryz.prog w = .ok v' w' ∧ ownD w' base v' (l ++ m) ∧ Below B w0 w' ∧ w.grownBy w' v.ownBlock := by
    intro ad c hv hc
    subst hv
    obtain ⟨v', w', h1, h2, h3, _⟩ := run_append_own (P := Tryz.prog) w base 68 ty 79 i0 (.agg #[.string ⟨#[]⟩, .string ⟨#[]⟩, .bool false, .string ⟨#[]⟩]) 4 56 Tryz.underlying68 hi hz0 hz1 hz2 rfl (by decide) v l.length _ hown ad m.length c (dcs m) (dcs_len m) hc (dcs_one m) (by unfold maxLen; omega) (by omega) hbase
    have hge : ∀ k, v.ownBlock = some k → base ≤ k := fun k hk => (World.ownsRow.lt hown k hk).1
    refine ⟨v', w', h1, ?_, hb.grown h3 (Nat.le_trans hBb hbase) (fun k hk => Nat.le_trans hBb (hge k hk)), h3⟩
    unfold ownD
    rw [List.length_append, dcs_append]
    exact h2
  rcases hm with ⟨rfl, A, c, rfl⟩ | ⟨b, off, c, rfl, hlt, hc⟩
  · cases A with
    | some ad => exact key ad c rfl (fun j u hu => by simp [dcs] at hu)
    | none =>
      have hform : ∃ A cap, v = .slice A l.length cap ∧ (A = none → l.length = 0 ∧ cap = 0) ∧ l.length ≤ cap := by
        rcases hown.2 with ⟨rfl, hn⟩ | ⟨g, cap, cur, rfl, _, _, hnc, _⟩
        · exact ⟨none, 0, by rw [hn], fun _ => ⟨hn, rfl⟩, by omega⟩
        · exact ⟨some ⟨g, 0, none⟩, cap, rfl, (fun e => by cases e), hnc⟩
      obtain ⟨A, cap, rfl, h1, h2⟩ := hform
      exact ⟨_, w, app_nothingV ty A l.length cap c w h1 h2, by rw [List.append_nil]; exact hown, hb, ⟨rfl, rfl, rfl, Nat.le_refl _, fun _ _ _ => rfl⟩⟩
  · exact key ⟨b, off, none⟩ c rfl (DL.src (n := m.length) (c := c) (.inr ⟨b, off, c, rfl, hlt, hc⟩))
theorem kx_own {w w' : World} {base : Nat} {v : Value} {l : List Dv} (h : ownD w base v l) (hg : w.grownBy w' v.ownBlock) : Kx w w' := by
  intro b cs r e
  refine (hg.block b (Array.getElem?_eq_some_iff.1 e).1 fun e' => ?_).trans e
  rcases h.2 with ⟨rfl, _⟩ | ⟨g, cap, cur, rfl, _, hh, _⟩
  · cases e'
  · obtain rfl : b = g := by simpa [Value.ownBlock] using e'
    rw [e] at hh
    simp at hh
/-- 'append(l, m...)': the directives of both; the blocks of texts stand -/
theorem wpList_appDD {w0 w : World} {ops : Array Oper} {rest : List Oper} {o : Oper} {a : Act} {Q : Exit → Act → World → Prop} (hgd : o.guard = none) (s x : Operand)
    (ho : o.op = .call { callee := .builtin .append, args := #[s, x], argTypes := #[68, 68] })
    (base B : Nat) (v vx : Value) (l m : List Dv) (hs : a.eval s = v) (hown : ownD w base v l) (hb : Below B w0 w) (hBb : B ≤ base) (hbase : base ≤ w.heap.size)
    (hx : a.eval x = vx) (hm : DL w vx m) (hlen : l.length + m.length ≤ 4294967296)
    (h : ∀ v' w', Hid (ownD w' base v' (l ++ m)) → Hid (Below B w0 w') → Hid (Kx w w') → wpList Tryz.prog ops Q rest (a.put o.dst v') w') :
    wpList Tryz.prog ops Q (o :: rest) a w := by
  obtain ⟨v', w', hr, h1, h2, h3⟩ := run_appDD w0 w o.type base B v vx l m hown hb hBb hbase hm hlen
  exact Lib.wpList_append_run _ hgd s x 68 68 ho _ _ hs hx _ _ hr (h v' w' h1 h2 (kx_own hown h3))
/-- a slice literal of one directive -/
theorem ownD_lit (w : World) (d : Dv) {base : Nat} (hb : base ≤ w.heap.size) : ownD (w.alloc (.cells #[.string (bs d.1), .string (bs d.2.1), .bool d.2.2.1, .string (bs d.2.2.2)] 79)) base (.slice (some ⟨w.heap.size, 0, none⟩) 1 1) [d] :=
  World.ownsRow_lit (size := 4) w _ 1 hb (by decide) (by simp)

/-! A directive that is made one for a device. -/
theorem dcs_set : ∀ (l : List Dv) (k : Nat) (hk : k < l.length) (f : List UInt8), dcs (l.set k (forD f l[k])) = (dcs l).set (k * 4 + 3) (.string (bs f))
  | [], k, hk, _ => absurd hk (by simp)
  | d :: r, 0, _, f => by simp [dcs, forD]
  | d :: r, k + 1, hk, f => by
    have ih := dcs_set r k (by simpa using hk) f
    have e : ∀ (d : Dv) (r : List Dv), dcs (d :: r) = .string (bs d.1) :: .string (bs d.2.1) :: .bool d.2.2.1 :: .string (bs d.2.2.2) :: dcs r := fun d r => by simp [dcs]
    rw [List.getElem_cons_succ, List.set_cons_succ, e, e, ih, show (k + 1) * 4 + 3 = (k * 4 + 3) + 1 + 1 + 1 + 1 from by omega]
    simp
theorem ownD.put {w : World} {base g c : Nat} {l : List Dv} (h : ownD w base (.slice (some ⟨g, 0, none⟩) l.length c) l) (k : Nat) (hk : k < l.length) (f : List UInt8) :
    ownD (w.setCell ⟨g, k * 4 + 3, none⟩ (.string (bs f))) base (.slice (some ⟨g, 0, none⟩) l.length c) (l.set k (forD f l[k])) ∧ w.frozen? ⟨g, k * 4 + 3, none⟩ = false ∧ w.cell? ⟨g, k * 4 + 3, none⟩ = some (.string (bs l[k].2.2.2)) ∧ base ≤ g := by
  have h' : w.ownsRow base 79 4 (.slice (some ⟨g, 0, none⟩) l.length c) l.length (dcs l) := h
  refine ⟨?_, h'.frozenAt _, ?_, (World.ownsRow.lt h' g rfl).1⟩
  · have h2 := (h'.stored (k * 4 + 3) (.string (bs f))).1
    unfold ownD
    rw [List.length_set, dcs_set l k hk f]
    exact h2
  · rw [h'.cellAt _ (by omega)]
    exact (dcs_at l k hk).2.2.2
/-- the first k of them are made so -/
def forTo (f : List UInt8) (l : List Dv) (k : Nat) : List Dv := (l.take k).map (forD f) ++ l.drop k
theorem forTo_len (f : List UInt8) (l : List Dv) (k : Nat) (hk : k ≤ l.length) : (forTo f l k).length = l.length := by
  unfold forTo; simp; omega
theorem forTo_at (f : List UInt8) (l : List Dv) (k : Nat) (hk : k < l.length) (h2 : k < (forTo f l k).length) : (forTo f l k)[k] = l[k] := by
  have h1 : ((l.take k).map (forD f)).length = k := by simp; omega
  have h3 : (forTo f l k)[k]? = some l[k] := by
    unfold forTo
    rw [List.getElem?_append_right (by omega), h1, Nat.sub_self]
    simp [hk]
  exact Option.some.inj ((List.getElem?_eq_getElem h2).symm.trans h3)
theorem forTo_step (f : List UInt8) (l : List Dv) (k : Nat) (hk : k < l.length) : forTo f l (k + 1) = (forTo f l k).set k (forD f l[k]) := by
  have h1 : ((l.take k).map (forD f)).length = k := by simp; omega
  unfold forTo
  rw [List.set_append_right _ _ (by omega), h1, Nat.sub_self, List.drop_eq_getElem_cons hk, List.set_cons_zero, List.take_succ_eq_append_getElem hk, List.map_append]
  simp
theorem ownD.putTo {w : World} {base g c : Nat} {f : List UInt8} {l : List Dv} {k : Nat} (h : ownD w base (.slice (some ⟨g, 0, none⟩) l.length c) (forTo f l k)) (hk : k < l.length) :
    ownD (w.setCell ⟨g, k * 4 + 3, none⟩ (.string (bs f))) base (.slice (some ⟨g, 0, none⟩) l.length c) (forTo f l (k + 1)) ∧ w.frozen? ⟨g, k * 4 + 3, none⟩ = false ∧ w.cell? ⟨g, k * 4 + 3, none⟩ = some (.string (bs l[k].2.2.2)) ∧ base ≤ g := by
  have hl := forTo_len f l k (by omega)
  have he := forTo_at f l k hk (by omega)
  have h2 := ownD.put (l := forTo f l k) (g := g) (c := c) (by rw [hl]; exact h) k (by omega) f
  rw [he, hl, ← forTo_step f l k hk] at h2
  exact h2
theorem ownS.cap {w : World} {base : Nat} {A : Option Addr} {n c : Nat} {l : List (List UInt8)} (h : ownS w base (.slice A n c) l) : n ≤ c := by
  rcases h.2 with ⟨e, _⟩ | ⟨g, cap, cur, e, _, _, h1, _⟩
  · simp only [Value.slice.injEq] at e; omega
  · simp only [Value.slice.injEq] at e; omega
theorem ownS.first {w : World} {base g n c : Nat} {l : List (List UInt8)} {p : List UInt8} (h : ownS w base (.slice (some ⟨g, 0, none⟩) n c) l) (hl : 0 < l.length) (hp : l.getD 0 [] = p) : SL w (.slice (some ⟨g, 0, none⟩) 1 c) [p] := by
  refine .inr ⟨g, 0, c, rfl, ?_, fun j hj => ?_⟩
  · rcases h.2 with ⟨e, _⟩ | ⟨g', cap, cur, e, _, hg, _⟩
    · simp at e
    · simp only [Value.slice.injEq, Option.some.injEq, Addr.mk.injEq, and_true] at e
      rw [e.1]; exact (Array.getElem?_eq_some_iff.1 hg).1
  · have : j = 0 := by simpa using hj
    subst this
    obtain ⟨g', e, hc⟩ := h.cell 0 hl
    cases e
    rw [hp] at hc
    exact hc

set_option maxRecDepth 100000 in
theorem unclear_any (w : World) :
    Calls Tryz.prog 166 #[] w fun e w' => ∃ u, e = .returned u ∧ ownD w' w.heap.size u [noStore] ∧ Below w.heap.size w w' := by
  have ho := ownD_lit w noStore (Nat.le_refl _)
  have hb : Below w.heap.size w (w.alloc (.cells #[.string (bs noStore.1), .string (bs noStore.2.1), .bool noStore.2.2.1, .string (bs noStore.2.2.2)] 79)) := (Below.refl _ _).alloc (Nat.le_refl _) _
  have HO := Lib.hid ho; have HB := Lib.hid hb; clear ho hb
  go_enter Tryz.func166, Tryz.ntmps166
  go_wp2_with fail
  go_ret
  exact ⟨_, rfl, HO.out, HB.out⟩

/-- what ofElement hands back -/
def RetD (w : World) (l : List Dv) (e : Ending) (w' : World) : Prop := ∃ u, e = .returned u ∧ ownD w' w.heap.size u l ∧ Below w.heap.size w w'
theorem parts_cases (N : List (List UInt8)) : (∃ p, N = [p]) ∨ (∃ p f, N = [p, f] ∧ token f = true) ∨ (∃ p f, N = [p, f] ∧ token f = false) ∨ (N.length ≠ 1 ∧ N.length ≠ 2) := by
  match N with
  | [] => exact .inr (.inr (.inr ⟨by simp, by simp⟩))
  | [p] => exact .inl ⟨p, rfl⟩
  | [p, f] => cases h : token f; exact .inr (.inr (.inl ⟨p, f, rfl, h⟩)); exact .inr (.inl ⟨p, f, rfl, h⟩)
  | _ :: _ :: _ :: _ => exact .inr (.inr (.inr ⟨by simp, by simp⟩))
theorem elem_none {e : List UInt8} (h1 : splitE e 59 = 0) (h2 : (splitL e 59).length ≠ 1 ∧ (splitL e 59).length ≠ 2) : elemP e = [] := by
  unfold elemP
  rw [if_pos h1]
  split
  · rename_i h; rw [h] at h2; simp at h2
  · rename_i h; rw [h] at h2; simp at h2
  · rfl

set_option maxRecDepth 100000 in
set_option maxHeartbeats 4000000 in
theorem ofElement_any (s : List UInt8) (w : World) (hm : MaxD w) (hs : s.length ≤ 4294967200) :
    Calls Tryz.prog 167 #[.string (bs s)] w (RetD w (elemP s)) := by
  have hsp := fun W => split_any (bs s) 59 W (by rw [bs_size]; omega)
  rw [bs_data] at hsp
  have hat := fun x h => splitS_at (l := s) (sep := 59) (x := x) h
  have HM := Lib.hid hm; have HSP := Lib.hid hsp; have HAT := Lib.hid hat
  clear hm hsp hat
  by_cases hE : splitE s 59 = 0
  · rcases parts_cases (splitL s 59) with ⟨p, hN⟩ | ⟨p, f, hN, hf⟩ | ⟨p, f, hN, hf⟩ | hN
    · obtain ⟨f, hf⟩ : ∃ f : List UInt8, f = [] := ⟨_, rfl⟩
      have hZ : elemP s = (dirs p).map (forD f) := by unfold elemP; rw [if_pos hE, hN, hf]
      have HF : Hid ((⟨#[]⟩ : ByteArray) = bs f) := by show _ = _; rw [hf]; rfl
      clear hf
      have hpl : p.length ≤ 4294967200 := Nat.le_trans (HAT.out p (by rw [hN]; simp)) hs
      rw [hZ]
      have HS2 : Hid (∀ W, Calls Tryz.prog 86 #[.string (bs s), .int .u8 59] W fun e w' => ∃ v, e = .returned (.tuple #[v, .int .i64 0]) ∧ ownS w' W.heap.size v [p] ∧ Below W.heap.size W w') := fun W => by have h := HSP.out W; unfold SplitPost at h; rw [hE, hN] at h; exact h
      clear HSP HAT hZ hN hE hs
      go_enter Tryz.func167, Tryz.ntmps167
      go_wp2_with fail
      refine (HS2.out _).mono ?_
      rintro e w1 ⟨vs, rfl, hos, hb1⟩
      obtain ⟨A, c, rfl⟩ := hos.form
      obtain ⟨g, rfl, hc0⟩ := hos.cell 0 (by simp)
      have hcap := hos.cap
      have hsl := hos.first (p := p) (by simp) rfl
      have HL := Lib.hid (listD_any _ [p] w1 (HM.out.bel hb1) hsl (fun x hx => by rw [List.mem_singleton.1 hx]; exact hpl) (by simp))
      rw [show dirsAll [p] = dirs p from by simp [dirsAll]] at HL
      have HB1 := Lib.hid hb1
      clear hb1 hos hsl hpl HS2 hc0
      simp only [List.length_cons, List.length_nil, Nat.zero_add] at hcap ⊢
      go_wp2_with fail
      refine HL.out.mono ?_
      rintro e w2 ⟨u, rfl, ho, hb2⟩
      have HB2 := Lib.hid (HB1.out.trans (hb2.mono HB1.out.size))
      have HO := Lib.hid (ho.mono HB1.out.size)
      clear ho hb2 HL HB1
      rw [HF.out]
      clear HF
      have hl64 := dirsS_len p
      generalize dirs p = l at *
      obtain ⟨A2, c2, rfl⟩ := HO.out.form
      go_wp2_with fail
      go_loopw [38] (fun i wr => ∃ k : Nat, k ≤ l.length ∧ i = .int .i64 k ∧ ownD wr w.heap.size (.slice A2 l.length c2) (forTo f l k) ∧ Below w.heap.size w wr) (fun i _ => l.length - (intOf i).toNat)
      case atStart => exact ⟨0, Nat.zero_le _, rfl, HO.out, HB2.out⟩
      case round =>
        obtain ⟨k, hk, rfl, ho, hb⟩ := hrel
        have HO3 := Lib.hid ho; have HB3 := Lib.hid hb; clear ho hb HO HB2
        by_cases hlt : k < l.length
        · obtain ⟨b, off, rfl, hbl, _, _, _, h3⟩ := HO3.out.dl.get k (by rw [forTo_len f l k hk]; exact hlt)
          obtain ⟨g2, hg2⟩ : ∃ g2, (⟨b, off, none⟩ : Addr) = ⟨g2, 0, none⟩ := by
            rcases HO3.out.2 with ⟨e, _⟩ | ⟨g', cap, cur, e, _⟩
            · simp at e
            · simp only [Value.slice.injEq, Option.some.injEq] at e
              exact ⟨g', e.1⟩
          rw [hg2] at HO3 ⊢
          obtain ⟨q1, q2, q3, q4⟩ := HO3.out.putTo hlt
          have HQ := Lib.hid q1; have HQ4 := Lib.hid q4
          have HBQ := Lib.hid (HB3.out.setCell (p := ⟨g2, k * 4 + 3, none⟩) q4 (.string (bs f)))
          clear q1 q4 hbl h3 hg2
          go_wp2_with fail
          go_roundw
          case rel => exact ⟨k + 1, by omega, by go_num, HQ.out, HBQ.out⟩
          case measure => simp [intOf]; omega
        · have HE : Hid (forTo f l k = l.map (forD f)) := by
            show _ = _
            unfold forTo
            rw [List.take_of_length_le (by omega), List.drop_of_length_le (by omega), List.append_nil]
          have HO4 := HO3.out
          rw [HE.out] at HO4
          have HO5 := Lib.hid HO4
          clear HO4
          go_wp2_with fail
          go_ret
          exact ⟨_, rfl, by have h := HO5.out; exact h, HB3.out⟩
    · have hZ : elemP s = (dirs p).map (forD f) := by unfold elemP; rw [if_pos hE, hN]; simp [hf]
      have hpl : p.length ≤ 4294967200 := Nat.le_trans (HAT.out p (by rw [hN]; simp)) hs
      have hfl : f.length ≤ 4294967200 := Nat.le_trans (HAT.out f (by rw [hN]; simp)) hs
      rw [hZ]
      have HS2 : Hid (∀ W, Calls Tryz.prog 86 #[.string (bs s), .int .u8 59] W fun e w' => ∃ v, e = .returned (.tuple #[v, .int .i64 0]) ∧ ownS w' W.heap.size v [p, f] ∧ Below W.heap.size W w') := fun W => by have h := HSP.out W; unfold SplitPost at h; rw [hE, hN] at h; exact h
      have HT := Lib.hid (fun W => token_any (bs f) W (by rw [bs_size]; unfold maxLen; omega))
      clear HSP HAT hZ hN hE hs hfl
      go_enter Tryz.func167, Tryz.ntmps167
      go_wp2_with fail
      refine (HS2.out _).mono ?_
      rintro e w1 ⟨vs, rfl, hos, hb1⟩
      obtain ⟨A, c, rfl⟩ := hos.form
      obtain ⟨g, rfl, hc0⟩ := hos.cell 0 (by simp)
      obtain ⟨g', hg', hc1⟩ := hos.cell 1 (by simp)
      cases hg'
      have hcap := hos.cap
      have hsl := hos.first (p := p) (by simp) rfl
      have HL := Lib.hid (listD_any _ [p] w1 (HM.out.bel hb1) hsl (fun x hx => by rw [List.mem_singleton.1 hx]; exact hpl) (by simp))
      rw [show dirsAll [p] = dirs p from by simp [dirsAll]] at HL
      have HB1 := Lib.hid hb1
      have hc1' : w1.cell? ⟨g, 1, none⟩ = some (.string (bs f)) := hc1
      clear hb1 hos hsl hpl HS2 hc0 hc1
      simp only [List.length_cons, List.length_nil, Nat.zero_add] at hcap ⊢
      go_wp2_with fail
      refine (HT.out _).mono ?_
      rw [bs_data, hf]
      rintro e w2 ⟨rfl, rfl⟩
      clear hf
      go_wp2_with fail
      refine HL.out.mono ?_
      rintro e w2 ⟨u, rfl, ho, hb2⟩
      have HB2 := Lib.hid (HB1.out.trans (hb2.mono HB1.out.size))
      have HO := Lib.hid (ho.mono HB1.out.size)
      clear ho hb2 HL HB1 hc1'
      have hl64 := dirsS_len p
      generalize dirs p = l at *
      obtain ⟨A2, c2, rfl⟩ := HO.out.form
      go_wp2_with fail
      go_loopw [38] (fun i wr => ∃ k : Nat, k ≤ l.length ∧ i = .int .i64 k ∧ ownD wr w.heap.size (.slice A2 l.length c2) (forTo f l k) ∧ Below w.heap.size w wr) (fun i _ => l.length - (intOf i).toNat)
      case atStart => exact ⟨0, Nat.zero_le _, rfl, HO.out, HB2.out⟩
      case round =>
        obtain ⟨k, hk, rfl, ho, hb⟩ := hrel
        have HO3 := Lib.hid ho; have HB3 := Lib.hid hb; clear ho hb HO HB2
        by_cases hlt : k < l.length
        · obtain ⟨b, off, rfl, hbl, _, _, _, h3⟩ := HO3.out.dl.get k (by rw [forTo_len f l k hk]; exact hlt)
          obtain ⟨g2, hg2⟩ : ∃ g2, (⟨b, off, none⟩ : Addr) = ⟨g2, 0, none⟩ := by
            rcases HO3.out.2 with ⟨e, _⟩ | ⟨g', cap, cur, e, _⟩
            · simp at e
            · simp only [Value.slice.injEq, Option.some.injEq] at e
              exact ⟨g', e.1⟩
          rw [hg2] at HO3 ⊢
          obtain ⟨q1, q2, q3, q4⟩ := HO3.out.putTo hlt
          have HQ := Lib.hid q1; have HQ4 := Lib.hid q4
          have HBQ := Lib.hid (HB3.out.setCell (p := ⟨g2, k * 4 + 3, none⟩) q4 (.string (bs f)))
          clear q1 q4 hbl h3 hg2
          go_wp2_with fail
          go_roundw
          case rel => exact ⟨k + 1, by omega, by go_num, HQ.out, HBQ.out⟩
          case measure => simp [intOf]; omega
        · have HE : Hid (forTo f l k = l.map (forD f)) := by
            show _ = _
            unfold forTo
            rw [List.take_of_length_le (by omega), List.drop_of_length_le (by omega), List.append_nil]
          have HO4 := HO3.out
          rw [HE.out] at HO4
          have HO5 := Lib.hid HO4
          clear HO4
          go_wp2_with fail
          go_ret
          exact ⟨_, rfl, by have h := HO5.out; exact h, HB3.out⟩
    · have hZ : elemP s = [] := by unfold elemP; rw [if_pos hE, hN]; simp [hf]
      have hfl : f.length ≤ 4294967200 := Nat.le_trans (HAT.out f (by rw [hN]; simp)) hs
      rw [hZ]
      have HS2 : Hid (∀ W, Calls Tryz.prog 86 #[.string (bs s), .int .u8 59] W fun e w' => ∃ v, e = .returned (.tuple #[v, .int .i64 0]) ∧ ownS w' W.heap.size v [p, f] ∧ Below W.heap.size W w') := fun W => by have h := HSP.out W; unfold SplitPost at h; rw [hE, hN] at h; exact h
      have HT := Lib.hid (fun W => token_any (bs f) W (by rw [bs_size]; unfold maxLen; omega))
      clear HSP HAT hZ hN hE hs hfl
      go_enter Tryz.func167, Tryz.ntmps167
      go_wp2_with fail
      refine (HS2.out _).mono ?_
      rintro e w1 ⟨vs, rfl, hos, hb1⟩
      obtain ⟨A, c, rfl⟩ := hos.form
      obtain ⟨g, rfl, hc1⟩ := hos.cell 1 (by simp)
      have HB1 := Lib.hid hb1
      have hc1' : w1.cell? ⟨g, 1, none⟩ = some (.string (bs f)) := hc1
      clear hb1 hos HS2 hc1
      simp only [List.length_cons, List.length_nil, Nat.zero_add]
      go_wp2_with fail
      refine (HT.out _).mono ?_
      rw [bs_data, hf]
      rintro e w2 ⟨rfl, rfl⟩
      clear hf
      go_wp2_with fail
      go_ret
      exact ⟨_, rfl, ownD_nil _ _, HB1.out⟩
    · have hZ : elemP s = [] := elem_none hE hN
      rw [hZ]
      have HS2 : Hid (∀ W, Calls Tryz.prog 86 #[.string (bs s), .int .u8 59] W fun e w' => ∃ v, e = .returned (.tuple #[v, .int .i64 0]) ∧ ownS w' W.heap.size v (splitL s 59) ∧ Below W.heap.size W w') := fun W => by have h := HSP.out W; unfold SplitPost at h; rw [hE] at h; exact h
      have n1 : (((splitL s 59).length : Int) == 1) = false := by rw [beq_eq_false_iff_ne]; omega
      have n2 : (((splitL s 59).length : Int) == 2) = false := by rw [beq_eq_false_iff_ne]; omega
      generalize splitL s 59 = N at *
      clear HSP HAT hZ hN hE hs
      go_enter Tryz.func167, Tryz.ntmps167
      go_wp2_with fail
      refine (HS2.out _).mono ?_
      rintro e w1 ⟨vs, rfl, hos, hb1⟩
      obtain ⟨A, c, rfl⟩ := hos.form
      have HB1 := Lib.hid hb1
      clear hb1 hos HS2
      go_wp2_with fail
      go_ret
      exact ⟨_, rfl, ownD_nil _ _, HB1.out⟩
  · have hZ : elemP s = [noStore] := if_neg hE
    have hne : ((splitE s 59) != 0) = true := bne_iff_ne.2 hE
    rw [hZ]
    have HS2 : Hid (∀ W, Calls Tryz.prog 86 #[.string (bs s), .int .u8 59] W fun e w' => ∃ v, e = .returned (.tuple #[v, .int .i64 (splitE s 59)]) ∧ ownS w' W.heap.size v (splitL s 59) ∧ Below W.heap.size W w') := HSP.out
    have HU := Lib.hid unclear_any
    clear HSP HAT hZ hE hs
    generalize splitE s 59 = E at *
    generalize splitL s 59 = N at *
    go_enter Tryz.func167, Tryz.ntmps167
    go_wp2_with fail
    refine (HS2.out _).mono ?_
    rintro e w1 ⟨vs, rfl, hos, hb1⟩
    obtain ⟨A, c, rfl⟩ := hos.form
    have HB1 := Lib.hid hb1
    clear hb1 hos HS2
    go_wp2_with fail
    refine (HU.out _).mono ?_
    rintro e w2 ⟨u, rfl, ho, hb2⟩
    have HO := Lib.hid (ho.mono HB1.out.size)
    have HB2 := Lib.hid (HB1.out.trans (hb2.mono HB1.out.size))
    clear ho hb2
    obtain ⟨A2, c2, rfl⟩ := HO.out.form
    go_wp2_with fail
    go_ret
    exact ⟨_, rfl, HO.out, HB2.out⟩
end Go.Proofs.YtfobjaccpnondaaGreatDoor

/- What a value and values state: the surctl layer's List. -/
namespace Go.Proofs.YtfobjaccpnondaaGreatDoor
open Go.RowKit

theorem flat_snoc {α β : Type} (f : α → List β) (L : List α) (k : Nat) (h : k < L.length) : (L.take (k + 1)).flatMap f = (L.take k).flatMap f ++ f L[k] := by
  rw [List.take_succ_eq_append_getElem h, List.flatMap_append]
  simp
theorem flat_all {α β : Type} (f : α → List β) (L : List α) (k : Nat) (h : ¬ k < L.length) : (L.take k).flatMap f = L.flatMap f := by rw [List.take_of_length_le (by omega)]

set_option maxRecDepth 100000 in
set_option maxHeartbeats 4000000 in
theorem ofValue_any (s : List UInt8) (w : World) (hm : MaxD w) (hs : s.length ≤ 4294967200) :
    Calls Tryz.prog 130 #[.string (bs s)] w (RetD w (valP s)) := by
  have hsp := fun W => split_any (bs s) 44 W (by rw [bs_size]; omega)
  rw [bs_data] at hsp
  have hat := fun x h => splitS_at (l := s) (sep := 44) (x := x) h
  have hl64 := splitS_len s 44
  have HM := Lib.hid hm; have HMW := Lib.hid hm; have HSP := Lib.hid hsp; have HAT := Lib.hid hat
  clear hm hsp hat
  by_cases hE : splitE s 44 = 0
  · have hZ : valP s = (splitL s 44).flatMap elemP := if_pos hE
    rw [hZ]
    have HS2 : Hid (∀ W, Calls Tryz.prog 86 #[.string (bs s), .int .u8 44] W fun e w' => ∃ v, e = .returned (.tuple #[v, .int .i64 0]) ∧ ownS w' W.heap.size v (splitL s 44) ∧ Below W.heap.size W w') := fun W => by have h := HSP.out W; unfold SplitPost at h; rw [hE] at h; exact h
    clear HSP hZ hE
    generalize splitL s 44 = N at *
    go_enter Tryz.func130, Tryz.ntmps130
    go_wp2_with fail
    refine (HS2.out _).mono ?_
    rintro e w1 ⟨vs, rfl, hos, hb1⟩
    have HM1 := Lib.hid (HM.out.bel hb1)
    have HOS := Lib.hid hos; have HB1 := Lib.hid hb1
    clear hos hb1 HS2 HM
    obtain ⟨A1, c1, rfl⟩ := HOS.out.form
    go_wp2_with fail
    go_loopw [5, 18] (fun u i wr => ∃ k : Nat, k ≤ N.length ∧ i = .int .i64 k ∧ ownD wr w.heap.size u ((N.take k).flatMap elemP) ∧ Below w.heap.size w wr ∧ ownS wr w.heap.size (.slice A1 N.length c1) N ∧ MaxD wr) (fun _ i _ => N.length - (intOf i).toNat)
    case atStart => exact ⟨0, Nat.zero_le _, rfl, ownD_nil _ _, HB1.out, HOS.out, HM1.out⟩
    case round =>
      obtain ⟨k, hk, rfl, ho, hb, hos, hmx⟩ := hrel
      have HO := Lib.hid ho; have HB := Lib.hid hb; have HN := Lib.hid hos; have HMX := Lib.hid hmx
      clear ho hb hos hmx HOS HB1 HM1
      by_cases hlt : k < N.length
      · obtain ⟨g, rfl, hce⟩ := HN.out.cell k hlt
        rw [show N.getD k [] = N[k] from by simp [List.getD, hlt]] at hce
        have hyl : N[k].length ≤ 4294967200 := Nat.le_trans (HAT.out _ (List.getElem_mem hlt)) hs
        have hel := ofElement_any N[k] wr HMX.out hyl
        have hln := elemP_len N[k]
        have hlk := flatMap_len (f := elemP) (n := 64) (L := N.take k) fun x _ => elemP_len x
        rw [List.length_take] at hlk
        have hsn := flat_snoc elemP N k hlt
        have hql : ((N.take k).flatMap elemP).length + (elemP N[k]).length ≤ 4294967296 := by omega
        generalize N[k] = y at *
        generalize elemP y = m at *
        generalize (N.take k).flatMap elemP = M at *
        have HEL := Lib.hid hel; have HSN := Lib.hid hsn; have HQL := Lib.hid hql
        clear hyl hel hln hlk hsn hql
        obtain ⟨A0, c0, rfl⟩ := HO.out.form
        go_wp2_with fail
        refine HEL.out.mono ?_
        rintro e w2 ⟨u, rfl, ho2, hb2⟩
        have HD := Lib.hid ho2.dl
        have HO2 := Lib.hid (HO.out.bel hb2); have HB2 := Lib.hid (HB.out.trans (hb2.mono HB.out.size)); have HN2 := Lib.hid (HN.out.bel hb2); have HM2 := Lib.hid (HMX.out.bel hb2)
        clear ho2 hb2 HO HB HN HMX HEL hce
        obtain ⟨A2, c2, rfl⟩ := HD.out.form
        go_wp2_with (at_builtin; refine wpList_appDD rfl (.tmp 22) (.tmp 24) rfl w.heap.size w.heap.size _ _ M m rfl HO2.out HB2.out (Nat.le_refl _) HB2.out.size rfl HD.out HQL.out ?_; intro v' w' HO4 HB4 HK4; have HN4 := Lib.hid (HN2.out.kx HK4.out))
        go_roundw
        case rel => exact ⟨k + 1, by omega, by go_num, by rw [HSN.out]; exact HO4.out, HB4.out, HN4.out, HMW.out.bel HB4.out⟩
        case measure => simp [intOf]; omega
      · have HE := Lib.hid (flat_all elemP N k hlt)
        have HO4 := HO.out
        rw [HE.out] at HO4
        have HO5 := Lib.hid HO4
        clear HO4 HE
        obtain ⟨A2, c2, rfl⟩ := HO5.out.form
        go_wp2_with fail
        go_ret
        exact ⟨_, rfl, HO5.out, HB.out⟩
  · have hZ : valP s = [noStore] := if_neg hE
    have hne : ((splitE s 44) != 0) = true := bne_iff_ne.2 hE
    rw [hZ]
    have HS2 : Hid (∀ W, Calls Tryz.prog 86 #[.string (bs s), .int .u8 44] W fun e w' => ∃ v, e = .returned (.tuple #[v, .int .i64 (splitE s 44)]) ∧ ownS w' W.heap.size v (splitL s 44) ∧ Below W.heap.size W w') := HSP.out
    have HU := Lib.hid unclear_any
    clear HSP HAT hZ hE hs
    generalize splitE s 44 = E at *
    generalize splitL s 44 = N at *
    go_enter Tryz.func130, Tryz.ntmps130
    go_wp2_with fail
    refine (HS2.out _).mono ?_
    rintro e w1 ⟨vs, rfl, hos, hb1⟩
    obtain ⟨A, c, rfl⟩ := hos.form
    have HB1 := Lib.hid hb1
    clear hb1 hos HS2
    go_wp2_with fail
    refine (HU.out _).mono ?_
    rintro e w2 ⟨u, rfl, ho, hb2⟩
    have HO := Lib.hid (ho.mono HB1.out.size)
    have HB2 := Lib.hid (HB1.out.trans (hb2.mono HB1.out.size))
    clear ho hb2
    obtain ⟨A2, c2, rfl⟩ := HO.out.form
    go_wp2_with fail
    go_ret
    exact ⟨_, rfl, HO.out, HB2.out⟩

set_option maxRecDepth 100000 in
set_option maxHeartbeats 4000000 in
theorem slist_any (v : Value) (L : List (List UInt8)) (w : World) (hm : MaxD w) (hv : SL w v L) (hs : ∀ x ∈ L, x.length ≤ 4294967200) (hl : L.length ≤ 1000000) :
    Calls Tryz.prog 82 #[v] w (RetD w (listS L)) := by
  obtain ⟨A, c, rfl⟩ := hv.form
  rw [← list_eq]
  have hdef : listP L = L.flatMap valP := rfl
  rw [hdef]
  have HV := Lib.hid hv; have HS := Lib.hid hs; have HM := Lib.hid hm; have HMW := Lib.hid hm; clear hv hs hm hdef
  go_enter Tryz.func82, Tryz.ntmps82
  go_wp2_with fail
  go_loopw [3, 8] (fun u i wr => ∃ k : Nat, k ≤ L.length ∧ i = .int .i64 k ∧ ownD wr w.heap.size u ((L.take k).flatMap valP) ∧ Below w.heap.size w wr ∧ MaxD wr) (fun _ i _ => L.length - (intOf i).toNat)
  case atStart => exact ⟨0, Nat.zero_le _, rfl, ownD_nil _ _, Below.refl _ _, HM.out⟩
  case round =>
    obtain ⟨k, hk, rfl, ho, hb, hmx⟩ := hrel
    have HO := Lib.hid ho; have HB := Lib.hid hb; have HMX := Lib.hid hmx
    clear ho hb hmx HM
    by_cases hlt : k < L.length
    · obtain ⟨b, off, rfl, hbl, hce⟩ := (HV.out.bel HB.out).get k hlt
      have hel := ofValue_any L[k] wr HMX.out (HS.out _ (List.getElem_mem hlt))
      have hln := valP_len L[k]
      have hlk := flatMap_len (f := valP) (n := 4096) (L := L.take k) fun x _ => valP_len x
      rw [List.length_take] at hlk
      have hsn := flat_snoc valP L k hlt
      have hql : ((L.take k).flatMap valP).length + (valP L[k]).length ≤ 4294967296 := by omega
      generalize L[k] = y at *
      generalize valP y = m at *
      generalize (L.take k).flatMap valP = M at *
      have HEL := Lib.hid hel; have HSN := Lib.hid hsn; have HQL := Lib.hid hql
      clear hel hln hlk hsn hql
      obtain ⟨A0, c0, rfl⟩ := HO.out.form
      go_wp2_with fail
      refine HEL.out.mono ?_
      rintro e w2 ⟨u, rfl, ho2, hb2⟩
      have HD := Lib.hid ho2.dl
      have HO2 := Lib.hid (HO.out.bel hb2); have HB2 := Lib.hid (HB.out.trans (hb2.mono HB.out.size)); have HM2 := Lib.hid (HMX.out.bel hb2)
      clear ho2 hb2 HO HB HMX HEL hce
      obtain ⟨A2, c2, rfl⟩ := HD.out.form
      go_wp2_with (at_builtin; refine wpList_appDD rfl (.tmp 12) (.tmp 14) rfl w.heap.size w.heap.size _ _ M m rfl HO2.out HB2.out (Nat.le_refl _) HB2.out.size rfl HD.out HQL.out ?_; intro v' w' HO4 HB4 HK4)
      go_roundw
      case rel => exact ⟨k + 1, by omega, by go_num, by rw [HSN.out]; exact HO4.out, HB4.out, HMW.out.bel HB4.out⟩
      case measure => simp [intOf]; omega
    · have HE := Lib.hid (flat_all valP L k hlt)
      have HO4 := HO.out
      rw [HE.out] at HO4
      have HO5 := Lib.hid HO4
      clear HO4 HE
      obtain ⟨A2, c2, rfl⟩ := HO5.out.form
      go_wp2_with fail
      go_ret
      exact ⟨_, rfl, HO5.out, HB.out⟩
end Go.Proofs.YtfobjaccpnondaaGreatDoor

/- The document's: what an element states, and values. -/
namespace Go.Proofs.YtfobjaccpnondaaGreatDoor
open Go.RowKit

theorem rsplit_of (s : List UInt8) (sep : UInt8) (hs : s.length ≤ 4294967200) : ∀ W, Calls Tryz.prog 53 #[.string (bs s), .int .u8 (sep.toNat : Int)] W fun e w' => ∃ v, e = .returned (.tuple #[v, .int .i64 (splitE s sep)]) ∧ ownS w' W.heap.size v (splitL s sep) ∧ Below W.heap.size W w' := fun W => by
  have h := rsplit_any (bs s) sep W (by rw [bs_size]; omega)
  rw [bs_data] at h
  exact h
theorem rsay_none {p : List UInt8} (h : sayD p = none) (hp : p.length ≤ 4294967200) : ∀ W, Calls Tryz.prog 99 #[.string (bs p)] W fun e w' => e = .returned (.tuple #[.agg #[.string ⟨#[]⟩, .string ⟨#[]⟩, .bool false, .string ⟨#[]⟩], .bool false]) ∧ Below W.heap.size W w' := fun W => by
  have h2 := rsay_any (bs p) W (by rw [bs_size]; exact hp)
  rw [bs_data, h] at h2
  exact h2
theorem rsay_some {p : List UInt8} {d : Dv} (h : sayD p = some d) (hp : p.length ≤ 4294967200) : ∀ W, Calls Tryz.prog 99 #[.string (bs p)] W fun e w' => e = .returned (.tuple #[.agg #[.string (bs d.1), .string (bs d.2.1), .bool d.2.2.1, .string (bs d.2.2.2)], .bool true]) ∧ Below W.heap.size W w' := fun W => by
  have h2 := rsay_any (bs p) W (by rw [bs_size]; exact hp)
  rw [bs_data, h] at h2
  exact h2
theorem parts_three (N : List (List UInt8)) : N = [] ∨ (∃ p, N = [p]) ∨ (∃ p f, N = [p, f]) ∨ 3 ≤ N.length := by
  match N with
  | [] => exact .inl rfl
  | [p] => exact .inr (.inl ⟨p, rfl⟩)
  | [p, f] => exact .inr (.inr (.inl ⟨p, f, rfl⟩))
  | _ :: _ :: _ :: _ => exact .inr (.inr (.inr (by simp)))

theorem say_len (p : List UInt8) : (sayD p).toList.length ≤ 1 := by cases sayD p <;> simp
theorem elemD_len (e : List UInt8) : (elemD e).length ≤ 1 := by
  unfold elemD
  split
  · split
    · exact say_len _
    · split
      · rw [List.length_map]; exact say_len _
      · simp
    · simp
  · simp
theorem listS_len (L : List (List UInt8)) : (listS L).length ≤ L.length * 4096 := by rw [← list_eq]; exact listP_len L
set_option maxRecDepth 100000 in
set_option maxHeartbeats 4000000 in
theorem ssay_any (s : List UInt8) (w : World) (hs : s.length ≤ 4294967200) :
    Calls Tryz.prog 150 #[.string (bs s)] w (RetD w (elemD s)) := by
  have hsp := rsplit_of s 59 hs
  have hat := fun x h => splitS_at (l := s) (sep := 59) (x := x) h
  have HSP := Lib.hid hsp; have HAT := Lib.hid hat
  clear hsp hat
  by_cases hE : splitE s 59 = 0
  · rcases parts_three (splitL s 59) with hN | ⟨p, hN⟩ | ⟨p, f, hN⟩ | hN
    · have hZ : elemD s = [] := by unfold elemD; rw [if_pos hE, hN]
      rw [hZ]
      have HS2 : Hid (∀ W, Calls Tryz.prog 53 #[.string (bs s), .int .u8 59] W fun e w' => ∃ v, e = .returned (.tuple #[v, .int .i64 0]) ∧ ownS w' W.heap.size v [] ∧ Below W.heap.size W w') := fun W => by have h := HSP.out W; rw [hE, hN] at h; exact h
      clear HSP HAT hZ hN hE hs
      go_enter Tryz.func150, Tryz.ntmps150
      go_wp2_with fail
      refine (HS2.out _).mono ?_
      rintro e w1 ⟨vs, rfl, hos, hb1⟩
      obtain ⟨A, c, rfl⟩ := hos.form
      have HB1 := Lib.hid hb1
      clear hb1 hos HS2
      simp only [List.length_nil]
      go_wp2_with fail
      go_ret
      exact ⟨_, rfl, ownD_nil _ _, HB1.out⟩
    · have hpl : p.length ≤ 4294967200 := Nat.le_trans (HAT.out p (by rw [hN]; simp)) hs
      have hZ : elemD s = (sayD p).toList := by unfold elemD; rw [if_pos hE, hN]
      rw [hZ]
      have HS2 : Hid (∀ W, Calls Tryz.prog 53 #[.string (bs s), .int .u8 59] W fun e w' => ∃ v, e = .returned (.tuple #[v, .int .i64 0]) ∧ ownS w' W.heap.size v [p] ∧ Below W.heap.size W w') := fun W => by have h := HSP.out W; rw [hE, hN] at h; exact h
      clear HSP HAT hZ hN hE hs
      cases hd : sayD p with
      | none =>
        have HSY := Lib.hid (rsay_none hd hpl)
        clear hd hpl
        go_enter Tryz.func150, Tryz.ntmps150
        go_wp2_with fail
        refine (HS2.out _).mono ?_
        rintro e w1 ⟨vs, rfl, hos, hb1⟩
        obtain ⟨A, c, rfl⟩ := hos.form
        obtain ⟨g, rfl, hc0⟩ := hos.cell 0 (by simp)
        have HB1 := Lib.hid hb1
        have hc0' : w1.cell? ⟨g, 0, none⟩ = some (.string (bs p)) := hc0
        clear hb1 hos HS2 hc0
        simp only [List.length_cons, List.length_nil, Nat.zero_add]
        go_wp2_with fail
        refine (HSY.out _).mono ?_
        rintro e w2 ⟨rfl, hb2⟩
        have hq : Below w2.heap.size w2 (w2.alloc (.cells #[.string ⟨#[]⟩, .string ⟨#[]⟩, .bool false, .string ⟨#[]⟩] 79)) := (Below.refl _ _).alloc (Nat.le_refl _) _
        have hb3 := hb2.trans (hq.mono hb2.size)
        have HB2 := Lib.hid (HB1.out.trans (hb3.mono HB1.out.size))
        clear hb2 hq hb3
        go_wp2_with fail
        go_ret
        exact ⟨_, rfl, ownD_nil _ _, HB2.out⟩
      | some d =>
        have HSY := Lib.hid (rsay_some hd hpl)
        clear hd hpl
        go_enter Tryz.func150, Tryz.ntmps150
        go_wp2_with fail
        refine (HS2.out _).mono ?_
        rintro e w1 ⟨vs, rfl, hos, hb1⟩
        obtain ⟨A, c, rfl⟩ := hos.form
        obtain ⟨g, rfl, hc0⟩ := hos.cell 0 (by simp)
        have HB1 := Lib.hid hb1
        have hc0' : w1.cell? ⟨g, 0, none⟩ = some (.string (bs p)) := hc0
        clear hb1 hos HS2 hc0
        simp only [List.length_cons, List.length_nil, Nat.zero_add]
        go_wp2_with fail
        refine (HSY.out _).mono ?_
        rintro e w2 ⟨rfl, hb2⟩
        have hx : dbk (w2.alloc (.cells #[.string (bs d.1), .string (bs d.2.1), .bool d.2.2.1, .string (bs d.2.2.2)] 79)) w2.heap.size (dvA d) := dbk.new w2 _ _
        obtain ⟨p0, p1, p2, p3⟩ := hx.four
        have HB12 := Lib.hid (HB1.out.trans (hb2.mono HB1.out.size))
        have HB2 := Lib.hid (HB12.out.alloc HB12.out.size (.cells #[.string (bs d.1), .string (bs d.2.1), .bool d.2.2.1, .string (bs d.2.2.2)] 79))
        clear hb2
        have ho := ownD_lit (w2.alloc (.cells #[.string (bs d.1), .string (bs d.2.1), .bool d.2.2.1, .string (bs d.2.2.2)] 79)) d HB2.out.size
        have HB3 := Lib.hid (HB2.out.alloc HB2.out.size (.cells #[.string (bs d.1), .string (bs d.2.1), .bool d.2.2.1, .string (bs d.2.2.2)] 79))
        have HO := Lib.hid ho; clear ho
        rw [World.size_alloc] at HO
        go_wp2_with fail
        go_ret
        exact ⟨_, rfl, HO.out, HB3.out⟩
    · have hpl : p.length ≤ 4294967200 := Nat.le_trans (HAT.out p (by rw [hN]; simp)) hs
      have hfl : f.length ≤ 4294967200 := Nat.le_trans (HAT.out f (by rw [hN]; simp)) hs
      have hZ : elemD s = if token f then (sayD p).toList.map (forD f) else [] := by unfold elemD; rw [if_pos hE, hN]
      rw [hZ]
      have HS2 : Hid (∀ W, Calls Tryz.prog 53 #[.string (bs s), .int .u8 59] W fun e w' => ∃ v, e = .returned (.tuple #[v, .int .i64 0]) ∧ ownS w' W.heap.size v [p, f] ∧ Below W.heap.size W w') := fun W => by have h := HSP.out W; rw [hE, hN] at h; exact h
      have HT := Lib.hid (fun W => rtoken_any (bs f) W (by rw [bs_size]; unfold maxLen; omega))
      clear HSP HAT hZ hN hE hs hfl
      cases hd : sayD p with
      | none =>
        rw [show (if token f = true then List.map (forD f) (none : Option Dv).toList else []) = [] from by split <;> rfl]
        have HSY := Lib.hid (rsay_none hd hpl)
        clear hd hpl HT
        go_enter Tryz.func150, Tryz.ntmps150
        go_wp2_with fail
        refine (HS2.out _).mono ?_
        rintro e w1 ⟨vs, rfl, hos, hb1⟩
        obtain ⟨A, c, rfl⟩ := hos.form
        obtain ⟨g, rfl, hc0⟩ := hos.cell 0 (by simp)
        have HB1 := Lib.hid hb1
        have hc0' : w1.cell? ⟨g, 0, none⟩ = some (.string (bs p)) := hc0
        clear hb1 hos HS2 hc0
        simp only [List.length_cons, List.length_nil, Nat.zero_add]
        go_wp2_with fail
        refine (HSY.out _).mono ?_
        rintro e w2 ⟨rfl, hb2⟩
        have hq : Below w2.heap.size w2 (w2.alloc (.cells #[.string ⟨#[]⟩, .string ⟨#[]⟩, .bool false, .string ⟨#[]⟩] 79)) := (Below.refl _ _).alloc (Nat.le_refl _) _
        have hb3 := hb2.trans (hq.mono hb2.size)
        have HB2 := Lib.hid (HB1.out.trans (hb3.mono HB1.out.size))
        clear hb2 hq hb3
        go_wp2_with fail
        go_ret
        exact ⟨_, rfl, ownD_nil _ _, HB2.out⟩
      | some d =>
        have HSY := Lib.hid (rsay_some hd hpl)
        clear hd hpl
        cases hf : token f
        · simp only [Bool.false_eq_true, if_false]
          go_enter Tryz.func150, Tryz.ntmps150
          go_wp2_with fail
          refine (HS2.out _).mono ?_
          rintro e w1 ⟨vs, rfl, hos, hb1⟩
          obtain ⟨A, c, rfl⟩ := hos.form
          obtain ⟨g, rfl, hc0⟩ := hos.cell 0 (by simp)
          obtain ⟨g', hg', hc1⟩ := hos.cell 1 (by simp)
          cases hg'
          have HB1 := Lib.hid hb1
          have hgl : g < w1.heap.size := block_lt_of_cell hc0
          have hc0' : w1.cell? ⟨g, 0, none⟩ = some (.string (bs p)) := hc0
          have hc1' : w1.cell? ⟨g, 1, none⟩ = some (.string (bs f)) := hc1
          clear hb1 hos HS2 hc0 hc1
          simp only [List.length_cons, List.length_nil, Nat.zero_add]
          go_wp2_with fail
          refine (HSY.out _).mono ?_
          rintro e w2 ⟨rfl, hb2⟩
          have HC1 := Lib.hid ((hb2.cell (p := ⟨g, 1, none⟩) hgl).trans hc1')
          have hx : dbk (w2.alloc (.cells #[.string (bs d.1), .string (bs d.2.1), .bool d.2.2.1, .string (bs d.2.2.2)] 79)) w2.heap.size (dvA d) := dbk.new w2 _ _
          obtain ⟨p0, p1, p2, p3⟩ := hx.four
          have HB12 := Lib.hid (HB1.out.trans (hb2.mono HB1.out.size))
          have HB2 := Lib.hid (HB12.out.alloc HB12.out.size (.cells #[.string (bs d.1), .string (bs d.2.1), .bool d.2.2.1, .string (bs d.2.2.2)] 79))
          have hgl2 := Nat.lt_of_lt_of_le hgl hb2.size
          clear hb2 hgl
          have hc2 := (Below.cell (p := ⟨g, 1, none⟩) ((Below.refl w2.heap.size w2).alloc (Nat.le_refl _) (.cells #[.string (bs d.1), .string (bs d.2.1), .bool d.2.2.1, .string (bs d.2.2.2)] 79)) hgl2).trans HC1.out
          clear hc1'
          go_wp2_with fail
          refine (HT.out _).mono ?_
          rw [bs_data, hf]
          rintro e w3 ⟨rfl, rfl⟩
          go_wp2_with fail
          go_ret
          exact ⟨_, rfl, ownD_nil _ _, HB2.out⟩
        · simp only [if_true]
          go_enter Tryz.func150, Tryz.ntmps150
          go_wp2_with fail
          refine (HS2.out _).mono ?_
          rintro e w1 ⟨vs, rfl, hos, hb1⟩
          obtain ⟨A, c, rfl⟩ := hos.form
          obtain ⟨g, rfl, hc0⟩ := hos.cell 0 (by simp)
          obtain ⟨g', hg', hc1⟩ := hos.cell 1 (by simp)
          cases hg'
          have HB1 := Lib.hid hb1
          have hgl : g < w1.heap.size := block_lt_of_cell hc0
          have hc0' : w1.cell? ⟨g, 0, none⟩ = some (.string (bs p)) := hc0
          have hc1' : w1.cell? ⟨g, 1, none⟩ = some (.string (bs f)) := hc1
          clear hb1 hos HS2 hc0 hc1
          simp only [List.length_cons, List.length_nil, Nat.zero_add]
          go_wp2_with fail
          refine (HSY.out _).mono ?_
          rintro e w2 ⟨rfl, hb2⟩
          have HC1 := Lib.hid ((hb2.cell (p := ⟨g, 1, none⟩) hgl).trans hc1')
          have hx : dbk (w2.alloc (.cells #[.string (bs d.1), .string (bs d.2.1), .bool d.2.2.1, .string (bs d.2.2.2)] 79)) w2.heap.size (dvA d) := dbk.new w2 _ _
          obtain ⟨p0, p1, p2, p3⟩ := hx.four
          have HB12 := Lib.hid (HB1.out.trans (hb2.mono HB1.out.size))
          have HB2 := Lib.hid (HB12.out.alloc HB12.out.size (.cells #[.string (bs d.1), .string (bs d.2.1), .bool d.2.2.1, .string (bs d.2.2.2)] 79))
          have hgl2 := Nat.lt_of_lt_of_le hgl hb2.size
          clear hb2 hgl
          have hc2 := (Below.cell (p := ⟨g, 1, none⟩) ((Below.refl w2.heap.size w2).alloc (Nat.le_refl _) (.cells #[.string (bs d.1), .string (bs d.2.1), .bool d.2.2.1, .string (bs d.2.2.2)] 79)) hgl2).trans HC1.out
          clear hc1'
          go_wp2_with fail
          refine (HT.out _).mono ?_
          rw [bs_data, hf]
          rintro e w3 ⟨rfl, rfl⟩
          have hs3 : dbk (w2.alloc (.cells #[.string (bs d.1), .string (bs d.2.1), .bool d.2.2.1, .string (bs f)] 79)) w2.heap.size (dvA (forD f d)) := dbk.new w2 _ _
          obtain ⟨r0, r1, r2, r3⟩ := hs3.four
          have fz := hx.free 3
          have HB3 := Lib.hid (HB12.out.alloc HB12.out.size (.cells #[.string (bs d.1), .string (bs d.2.1), .bool d.2.2.1, .string (bs f)] 79))
          have ho := ownD_lit (w2.alloc (.cells #[.string (bs d.1), .string (bs d.2.1), .bool d.2.2.1, .string (bs f)] 79)) (forD f d) HB3.out.size
          rw [World.size_alloc] at ho
          have HB4 := Lib.hid (HB3.out.alloc HB3.out.size (.cells #[.string (bs (forD f d).1), .string (bs (forD f d).2.1), .bool (forD f d).2.2.1, .string (bs (forD f d).2.2.2)] 79))
          have HO := Lib.hid ho; clear ho hs3 hx
          simp only [forD] at r0 r1 r2 r3
          go_wp2_with fail
          go_ret
          exact ⟨_, rfl, HO.out, HB4.out⟩
    · have hZ : elemD s = [] := by
        unfold elemD
        rw [if_pos hE]
        split
        · rename_i h; rw [h] at hN; simp at hN
        · rename_i h; rw [h] at hN; simp at hN
        · rfl
      rw [hZ]
      have HS2 : Hid (∀ W, Calls Tryz.prog 53 #[.string (bs s), .int .u8 59] W fun e w' => ∃ v, e = .returned (.tuple #[v, .int .i64 0]) ∧ ownS w' W.heap.size v (splitL s 59) ∧ Below W.heap.size W w') := fun W => by have h := HSP.out W; rw [hE] at h; exact h
      have n1 : (((splitL s 59).length : Int) == 0) = false := by rw [beq_eq_false_iff_ne]; omega
      have n2 : (2 : Int) < ((splitL s 59).length : Int) := by omega
      generalize splitL s 59 = N at *
      clear HSP HAT hZ hE hs hN
      go_enter Tryz.func150, Tryz.ntmps150
      go_wp2_with fail
      refine (HS2.out _).mono ?_
      rintro e w1 ⟨vs, rfl, hos, hb1⟩
      obtain ⟨A, c, rfl⟩ := hos.form
      have HB1 := Lib.hid hb1
      clear hb1 hos HS2
      go_wp2_with fail
      go_ret
      exact ⟨_, rfl, ownD_nil _ _, HB1.out⟩
  · have hZ : elemD s = [noStore] := if_neg hE
    have hne : ((splitE s 59) != 0) = true := bne_iff_ne.2 hE
    rw [hZ]
    have HS2 : Hid (∀ W, Calls Tryz.prog 53 #[.string (bs s), .int .u8 59] W fun e w' => ∃ v, e = .returned (.tuple #[v, .int .i64 (splitE s 59)]) ∧ ownS w' W.heap.size v (splitL s 59) ∧ Below W.heap.size W w') := HSP.out
    clear HSP HAT hZ hE hs
    generalize splitE s 59 = E at *
    generalize splitL s 59 = N at *
    go_enter Tryz.func150, Tryz.ntmps150
    go_wp2_with fail
    refine (HS2.out _).mono ?_
    rintro e w1 ⟨vs, rfl, hos, hb1⟩
    obtain ⟨A, c, rfl⟩ := hos.form
    have HO := Lib.hid (ownD_lit w1 noStore hb1.size)
    have HB1 := Lib.hid (hb1.alloc hb1.size (.cells #[.string (bs noStore.1), .string (bs noStore.2.1), .bool noStore.2.2.1, .string (bs noStore.2.2.2)] 79))
    clear hb1 hos HS2
    go_wp2_with fail
    go_ret
    exact ⟨_, rfl, HO.out, HB1.out⟩

set_option maxRecDepth 100000 in
set_option maxHeartbeats 4000000 in
theorem rslist_any (v : Value) (L : List (List UInt8)) (w : World) (hv : SL w v L) (hs : ∀ x ∈ L, x.length ≤ 4294967200) (hl : L.length ≤ 1000000) :
    Calls Tryz.prog 95 #[v] w (RetD w (listS L)) := by
  obtain ⟨A, c, rfl⟩ := hv.form
  have hdef : listS L = L.flatMap valD := rfl
  rw [hdef]
  have HV := Lib.hid hv; have HS := Lib.hid hs; clear hv hs hdef
  go_enter Tryz.func95, Tryz.ntmps95
  go_wp2_with fail
  go_loopw [3, 4] (fun u i wr => ∃ k : Nat, k ≤ L.length ∧ i = .int .i64 k ∧ ownD wr w.heap.size u ((L.take k).flatMap valD) ∧ Below w.heap.size w wr) (fun _ i _ => L.length - (intOf i).toNat)
  case atStart => exact ⟨0, Nat.zero_le _, rfl, ownD_nil _ _, Below.refl _ _⟩
  case round =>
    obtain ⟨k, hk, rfl, ho, hb⟩ := hrel
    have HO := Lib.hid ho; have HB := Lib.hid hb
    clear ho hb
    by_cases hlt : k < L.length
    · obtain ⟨b, off, rfl, hbl, hce⟩ := (HV.out.bel HB.out).get k hlt
      have hle : L[k].length ≤ 4294967200 := HS.out _ (List.getElem_mem hlt)
      have hsp := rsplit_of L[k] 44 hle
      have hln := fun X : List (List UInt8) => listS_len X
      have hlk := hln (L.take k)
      rw [List.length_take] at hlk
      have hlm : ((L.take k).flatMap valD).length ≤ 4096000000 := by
        have h : ((L.take k).flatMap valD).length ≤ min k L.length * 4096 := hlk
        omega
      have hsn := flat_snoc valD L k hlt
      generalize L[k] = x at *
      have hat := fun y h => splitS_at (l := x) (sep := 44) (x := y) h
      have hl64 := splitS_len x 44
      generalize (L.take k).flatMap valD = M at *
      have HSP := Lib.hid hsp; have HSN := Lib.hid hsn; have HAT := Lib.hid hat; have HLM := Lib.hid hlm; have HLE := Lib.hid hle; have HL64 := Lib.hid hl64
      clear hsp hsn hat hlm hln hle hl64 hlk
      go_wp2_with fail
      refine (HSP.out _).mono ?_
      rintro e w1 ⟨vs, rfl, hos, hb1⟩
      have HOS := Lib.hid hos; have HB1 := Lib.hid (HB.out.trans (hb1.mono HB.out.size)); have HO1 := Lib.hid (HO.out.bel hb1)
      clear hos hb1 HO HB hce
      by_cases hE : splitE x 44 = 0
      · have hD : valD x = (splitL x 44).flatMap elemD := if_pos hE
        rw [hE]
        have HD := Lib.hid hD; clear hD hE
        generalize splitL x 44 = N at *
        obtain ⟨A1, c1, rfl⟩ := HOS.out.form
        obtain ⟨A0, c0, rfl⟩ := HO1.out.form
        go_wp2_with fail
        go_loopw [3, 7] (fun u i wr2 => ∃ j : Nat, j ≤ N.length ∧ i = .int .i64 j ∧ ownD wr2 w.heap.size u (M ++ (N.take j).flatMap elemD) ∧ Below w.heap.size w wr2 ∧ ownS wr2 wr.heap.size (.slice A1 N.length c1) N) (fun _ i _ => N.length - (intOf i).toNat)
        case atStart => exact ⟨0, Nat.zero_le _, rfl, by simpa using HO1.out, HB1.out, HOS.out⟩
        case round =>
          obtain ⟨j, hj, rfl, ho, hb, hos⟩ := hrel
          have HO := Lib.hid ho; have HB := Lib.hid hb; have HN := Lib.hid hos; clear ho hb hos HOS HO1 HB1
          have hn64 := HL64.out
          by_cases hjt : j < N.length
          · obtain ⟨g, rfl, hce⟩ := HN.out.cell j hjt
            rw [show N.getD j [] = N[j] from by simp [List.getD, hjt]] at hce
            have hyl : N[j].length ≤ 4294967200 := Nat.le_trans (HAT.out _ (List.getElem_mem hjt)) HLE.out
            have hsy := fun W => ssay_any N[j] W hyl
            have hfs := flat_snoc elemD N j hjt
            have hfl := flatMap_len (f := elemD) (n := 1) (L := N.take j) fun x _ => elemD_len x
            rw [List.length_take] at hfl
            have h1 := elemD_len N[j]
            have hql : (M ++ (N.take j).flatMap elemD).length + (elemD N[j]).length ≤ 4294967296 := by rw [List.length_append]; have := HLM.out; omega
            generalize N[j] = y at *
            generalize elemD y = m at *
            obtain ⟨Q, hQ⟩ : ∃ Q, M ++ (N.take j).flatMap elemD = Q := ⟨_, rfl⟩
            have hQn : M ++ (N.take (j + 1)).flatMap elemD = Q ++ m := by rw [hfs, ← List.append_assoc, hQ]
            rw [hQ] at HO hql
            have HQN := Lib.hid hQn; have HQL := Lib.hid hql; have HSY := Lib.hid hsy
            clear hyl hfs hfl hQ hQn hql hsy h1
            obtain ⟨A2, c2, rfl⟩ := HO.out.form
            go_wp2_with fail
            refine (HSY.out _).mono ?_
            rintro e w2 ⟨u, rfl, ho2, hb2⟩
            have HD2 := Lib.hid ho2.dl
            have HO2 := Lib.hid (HO.out.bel hb2); have HB2 := Lib.hid (HB.out.trans (hb2.mono HB.out.size)); have HN2 := Lib.hid (HN.out.bel hb2)
            clear ho2 hb2 HO HB HN HSY hce
            obtain ⟨A3, c3, rfl⟩ := HD2.out.form
            go_wp2_with (at_builtin; refine wpList_appDD rfl (.tmp 40) (.tmp 41) rfl w.heap.size w.heap.size _ _ Q m rfl HO2.out HB2.out (Nat.le_refl _) HB2.out.size rfl HD2.out HQL.out ?_; intro v' w' HO4 HB4 HK4; have HN4 := Lib.hid (HN2.out.kx HK4.out))
            go_roundw
            case rel => exact ⟨j + 1, by omega, by go_num, by rw [HQN.out]; exact HO4.out, HB4.out, HN4.out⟩
            case measure => simp [intOf]; omega
          · have hF : (L.take (k + 1)).flatMap valD = M ++ (N.take j).flatMap elemD := by rw [HSN.out, HD.out, flat_all elemD N j hjt]
            have HF := Lib.hid hF; clear hF
            go_wp2_with fail
            go_roundw
            case rel => exact ⟨k + 1, by omega, by go_num, by rw [HF.out]; exact HO.out, HB.out⟩
            case measure => simp [intOf]; omega
      · have hD : valD x = [noStore] := if_neg hE
        have hne : ((splitE x 44) != 0) = true := bne_iff_ne.2 hE
        generalize splitE x 44 = E at *
        generalize splitL x 44 = N at *
        rw [hD] at HSN
        clear hD hE
        obtain ⟨A1, c1, rfl⟩ := HOS.out.form
        obtain ⟨A0, c0, rfl⟩ := HO1.out.form
        have HQL : Hid (M.length + 1 ≤ 4294967296) := by show _ ≤ _; have := HLM.out; omega
        go_wp2_with (at_builtin; refine wpList_appDS rfl (.tmp 25) (.tmp 27) rfl w.heap.size w.heap.size _ _ noStore rfl HO1.out HB1.out (Nat.le_refl _) HB1.out.size rfl HQL.out ?_; intro v' w' HO4 HB4 HK4)
        go_roundw
        case rel => exact ⟨k + 1, by omega, by go_num, by rw [HSN.out]; exact HO4.out, HB4.out⟩
        case measure => simp [intOf]; omega
    · have HE := Lib.hid (flat_all valD L k hlt)
      have HO4 := HO.out
      rw [HE.out] at HO4
      have HO5 := Lib.hid HO4
      clear HO4 HE
      obtain ⟨A2, c2, rfl⟩ := HO5.out.form
      go_wp2_with fail
      go_ret
      exact ⟨_, rfl, HO5.out, HB.out⟩
end Go.Proofs.YtfobjaccpnondaaGreatDoor
