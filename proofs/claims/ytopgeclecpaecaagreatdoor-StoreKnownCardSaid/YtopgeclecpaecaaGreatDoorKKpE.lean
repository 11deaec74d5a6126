/- A store in memory: its budget and its rows; how they turn side by side. An item is removed. -/
import Derived.Test.YtopgeclecpaecaaGreatDoorKBudTF
import Derived.Test.YtopgeclecpaecaaGreatDoorKKp1
import Derived.Test.YtopgeclecpaecaaGreatDoorKKpD
namespace Go.Proofs.YtopgeclecpaecaaGreatDoor
open Go.RowKit
/-- fields in blocks other than X -/
def FLX (w : World) (X : Nat → Prop) (v : Value) (l : List Fld) : Prop :=
  (l = [] ∧ ∃ A c, v = .slice A 0 c) ∨ ∃ b off c, v = .slice (some ⟨b, off, none⟩) l.length c ∧ b < w.heap.size ∧ ¬ X b ∧
    ∀ j (hj : j < l.length), w.cell? ⟨b, off + j * 2, none⟩ = some (.string (bs l[j].1)) ∧ w.cell? ⟨b, off + j * 2 + 1, none⟩ = some (.string (bs l[j].2))
section
variable {w w' : World} {X X' : Nat → Prop} {v : Value} {l : List Fld}
theorem FLX.fl (h : FLX w X v l) : FL w v l := by
  rcases h with h | ⟨b, off, c, h1, h2, -, h3⟩
  · exact .inl h
  · exact .inr ⟨b, off, c, h1, h2, h3⟩
theorem FLX.did (h : FLX w X v l) (hd : Did X X' w w') : FLX w' X' v l := by
  rcases h with h | ⟨b, off, c, h1, h2, h3, h4⟩
  · exact .inl h
  · have hk := hd.keep b h2 h3
    exact .inr ⟨b, off, c, h1, Nat.lt_of_lt_of_le h2 hd.size, fun e => (hd.new b e).elim h3 (fun q => by omega), fun j hj => ⟨(World.cell?_of_block (a := ⟨b, off + j * 2, none⟩) hk).trans (h4 j hj).1, (World.cell?_of_block (a := ⟨b, off + j * 2 + 1, none⟩) hk).trans (h4 j hj).2⟩⟩
theorem FLX.wider {Y : Nat → Prop} (h : FLX w X v l) (hY : ∀ b, Y b → X b ∨ w.heap.size ≤ b) : FLX w Y v l := by
  rcases h with h | ⟨b, off, c, h1, h2, h3, h4⟩
  · exact .inl h
  · exact .inr ⟨b, off, c, h1, h2, fun e => (hY b e).elim h3 (fun q => by omega), h4⟩
theorem FLX.own {base : Nat} (h : ownF w base v l) (hX : ∀ b, X b → b < base) : FLX w X v l := by
  obtain ⟨A, c, rfl⟩ := h.form
  rcases h.2 with ⟨hv, hn⟩ | ⟨g, cap, cur, hv, hb, hg, -⟩
  · exact .inl ⟨List.eq_nil_of_length_eq_zero hn, _, _, by rw [hn]⟩
  · cases hv
    refine .inr ⟨g, 0, c, rfl, (Array.getElem?_eq_some_iff.1 hg).1, fun e => by have := hX g e; omega, fun j hj => ?_⟩
    obtain ⟨g', e, -, q1, q2, -⟩ := h.at_ j hj
    simp only [Option.some.injEq, Addr.mk.injEq, and_true] at e
    subst e
    rw [Nat.zero_add]
    exact ⟨q1, q2⟩
end
/-- an item's cells: the entry's, and the how manieth it is -/
structure Hld (w : World) (X : Nat → Prop) (h : He) (x : Iv) : Prop where
  c0 : x.c0 = .int .i64 h.e.st
  c1 : x.c1 = .string (bs h.e.re)
  c2 : x.c2 = .int .i64 h.e.mi
  c3 : FLX w X x.c3 h.e.fs
  c4 : x.c4 = .string (bs h.e.bo)
  c5 : x.c5 = .int .i64 h.e.ak
  c6 : x.c6 = .int .i64 h.e.gt
  c7 : FLX w X x.c7 h.e.vy
  c8 : x.c8 = .int .i64 (h.n : Int)
theorem Hld.did {w w' : World} {X X' : Nat → Prop} {h : He} {x : Iv} (k : Hld w X h x) (hd : Did X X' w w') : Hld w' X' h x := ⟨k.c0, k.c1, k.c2, k.c3.did hd, k.c4, k.c5, k.c6, k.c7.did hd, k.c8⟩
theorem Hld.wider {w : World} {X Y : Nat → Prop} {h : He} {x : Iv} (k : Hld w X h x) (hY : ∀ b, Y b → X b ∨ w.heap.size ≤ b) : Hld w Y h x := ⟨k.c0, k.c1, k.c2, k.c3.wider hY, k.c4, k.c5, k.c6, k.c7.wider hY, k.c8⟩
/-- a store's state: its budget, its rows -/
structure StI (w : World) (tb bb umb nF : Nat) (XB : Nat → Prop) (F : List UInt8 → Option Hd) (n m : Nat) (l : List (It Iv)) (R : List UInt8 → List (List UInt8)) (pu : Nat) : Prop where
  st : bk w tb #[.pointer (some ⟨bb, 0, none⟩), .map (some umb), .int .i64 (pu : Int)]
  bud : BT.Bd w bb XB n m l
  und : Und w umb nF F R
  dis : ∀ b, XB b → b ≠ tb ∧ ¬ undX umb F b
def stX (tb umb : Nat) (F : List UInt8 → Option Hd) (XB : Nat → Prop) (b : Nat) : Prop := b = tb ∨ undX umb F b ∨ XB b
section
variable {w w' : World} {tb bb umb nF n m pu : Nat} {XB : Nat → Prop} {F : List UInt8 → Option Hd} {l : List (It Iv)} {R : List UInt8 → List (List UInt8)}
theorem StI.lt (h : StI w tb bb umb nF XB F n m l R pu) : ∀ b, stX tb umb F XB b → b < w.heap.size := by
  rintro b (rfl | e | e)
  · exact h.st.lt
  · exact h.und.lt b e
  · exact h.bud.lt b e
theorem StI.keep (h : StI w tb bb umb nF XB F n m l R pu) (hk : ∀ b, stX tb umb F XB b → w'.heap[b]? = w.heap[b]?) : StI w' tb bb umb nF XB F n m l R pu :=
  ⟨h.st.keep (hk tb (.inl rfl)), h.bud.keep (fun b hb => hk b (.inr (.inr hb))), h.und.keep (fun b hb => hk b (.inr (.inl hb))), h.dis⟩
theorem StI.bel (h : StI w tb bb umb nF XB F n m l R pu) (hb : Below w.heap.size w w') : StI w' tb bb umb nF XB F n m l R pu := h.keep fun b hx => hb.block b (h.lt b hx)
theorem StI.ntb (h : StI w tb bb umb nF XB F n m l R pu) : ¬ undX umb F tb := h.und.ne_ptr h.st rfl
/-- the budget turns -/
theorem StI.budget {XB' : Nat → Prop} {l' : List (It Iv)} (h : StI w tb bb umb nF XB F n m l R pu) (hb : BT.Bd w' bb XB' n m l') (hd : Did XB XB' w w') : StI w' tb bb umb nF XB' F n m l' R pu ∧ Did (stX tb umb F XB) (stX tb umb F XB') w w' := by
  have hlt := h.lt
  refine ⟨⟨h.st.keep (hd.keep tb h.st.lt (fun e => (h.dis tb e).1 rfl)), hb, h.und.keep fun b hx => hd.keep b (h.und.lt b hx) (fun e => (h.dis b e).2 hx), fun b hx => ?_⟩, ⟨hd.os, hd.tape, hd.output, hd.size, fun b hlt' hx => hd.keep b hlt' (fun e => hx (.inr (.inr e))), ?_⟩⟩
  · rcases hd.new b hx with e | e
    · exact h.dis b e
    · have h1 := h.st.lt
      exact ⟨by omega, fun q => by have := h.und.lt b q; omega⟩
  · rintro b (e | e | e)
    · exact .inl (.inl e)
    · exact .inl (.inr (.inl e))
    · exact (hd.new b e).imp (fun q => .inr (.inr q)) id
/-- the rows turn -/
theorem StI.rows {nF' : Nat} {F' : List UInt8 → Option Hd} {R' : List UInt8 → List (List UInt8)} (h : StI w tb bb umb nF XB F n m l R pu) (hu : Und w' umb nF' F' R') (hd : Did (undX umb F) (undX umb F') w w') : StI w' tb bb umb nF' XB F' n m l R' pu ∧ Did (stX tb umb F XB) (stX tb umb F' XB) w w' := by
  refine ⟨⟨h.st.keep (hd.keep tb h.st.lt h.ntb), h.bud.keep fun b hb => hd.keep b (h.bud.lt b hb) (h.dis b hb).2, hu, fun b hb => ⟨(h.dis b hb).1, fun e => ?_⟩⟩, ⟨hd.os, hd.tape, hd.output, hd.size, fun b hlt' hx => hd.keep b hlt' (fun e => hx (.inr (.inl e))), ?_⟩⟩
  · rcases hd.new b e with q | q
    · exact (h.dis b hb).2 q
    · have := h.bud.lt b hb; omega
  · rintro b (e | e | e)
    · exact .inl (.inl e)
    · exact (hd.new b e).imp (fun q => .inr (.inl q)) id
    · exact .inl (.inr (.inr e))
/-- the count turns -/
theorem StI.count (h : StI w tb bb umb nF XB F n m l R pu) (pu' : Nat) : StI (w.setCell ⟨tb, 2, none⟩ (.int .i64 (pu' : Int))) tb bb umb nF XB F n m l R pu' ∧ Did (stX tb umb F XB) (stX tb umb F XB) w (w.setCell ⟨tb, 2, none⟩ (.int .i64 (pu' : Int))) := by
  refine ⟨⟨h.st.set 2 _, h.bud.keep fun b hb => Below.heap_setCell _ _ _ _ (h.dis b hb).1, h.und.keep fun b hb => Below.heap_setCell _ _ _ _ (fun e => h.ntb (by have e : b = tb := e; rw [← e]; exact hb)), h.dis⟩, ⟨rfl, rfl, rfl, by rw [size_setCell]; exact Nat.le_refl _, fun b _ hx => Below.heap_setCell _ _ _ _ (fun e => hx (.inl e)), fun b hb => .inl hb⟩⟩
end
section
variable {w : World} {tb bb umb nF n m pu : Nat} {XB : Nat → Prop} {F : List UInt8 → Option Hd} {l : List (It Iv)} {R : List UInt8 → List (List UInt8)}
/-- the library's variables lie below what turns -/
structure Base (w0 w : World) (X : Nat → Prop) : Prop where
  ke0 : KE w0
  bel : Below w0.heap.size w0 w
  low : ∀ b, X b → w0.heap.size ≤ b
theorem Base.ke {w0 w : World} {X : Nat → Prop} (h : Base w0 w X) : KE w := h.ke0.bel h.bel
theorem Base.did {w0 w w' : World} {X X' : Nat → Prop} (h : Base w0 w X) (hd : Did X X' w w') : Base w0 w' X' :=
  ⟨h.ke0, h.bel.trans (hd.below h.bel.size h.low), fun b hb => (hd.new b hb).elim (h.low b) (fun e => Nat.le_trans h.bel.size e)⟩
theorem Base.down {w0 w w' : World} {X : Nat → Prop} (h : Base w0 w X) (hb : Below w.heap.size w w') : Base w0 w' X := h.did (Did.of_below hb)
/-- what a row is without an id -/
def lessR (R : List UInt8 → List (List UInt8)) (k id : List UInt8) : List UInt8 → List (List UInt8) := upd R k ((R k).erase id)
def lessIf (b : Bool) (R : List UInt8 → List (List UInt8)) (k id : List UInt8) : List UInt8 → List (List UInt8) := match b with
  | true => lessR R k id
  | false => R
theorem KL_7000 : 7000 ≤ KL := by unfold KL; omega
set_option maxRecDepth 100000 in
set_option maxHeartbeats 1000000 in
theorem remove_any9 (h : StI w tb bb umb nF XB F n m l R pu) (k : List UInt8) (vy : List Fld) (hk : k.length ≤ 300) (hv : SmF vy) (hn : nF < maxLen) {w0 : World} (ht : Base w0 w (stX tb umb F XB)) (hR : hasK (idT k vy) l = true → ∃ xs zs, R k = xs ++ idT k vy :: zs ∧ idT k vy ∉ xs) :
    Calls Tryz.prog 30 #[.pointer (some ⟨tb, 0, none⟩), .string (bs (idT k vy))] w fun e w' => e = .returned (.bool (hasK (idT k vy) l)) ∧ ∃ XB' F' nF', StI w' tb bb umb nF' XB' F' n m (dropK (idT k vy) l) (lessIf (hasK (idT k vy) l) R k (idT k vy)) pu ∧ nF' ≤ nF ∧ Did (stX tb umb F XB) (stX tb umb F' XB') w w' := by
  have hidl := idT_len hk hv
  have HD := Lib.hid (BT.drop_any h.bud (idT k vy) (Nat.le_trans hidl KL_7000))
  have c0 := h.st.cell 0 (.pointer (some ⟨bb, 0, none⟩)) rfl
  have HS := Lib.hid h
  have HK : Hid (k.length ≤ 300 ∧ SmF vy ∧ nF < maxLen ∧ Base w0 w (stX tb umb F XB)) := ⟨hk, hv, hn, ht⟩
  have HR := Lib.hid hR
  clear h hk hv hn ht hR hidl
  go_enter Tryz.func30, Tryz.ntmps30
  go_wp2_with fail
  refine HD.out.mono ?_
  rintro e w1 ⟨rfl, XB1, hb1, hd1⟩
  obtain ⟨hs1, hD1⟩ := HS.out.budget hb1 hd1
  have HS1 := Lib.hid hs1; have HD1 := Lib.hid hD1
  clear hs1 hD1 hb1 hd1 c0 HD
  cases hh : hasK (idT k vy) l
  · go_wp2_with fail
    go_ret
    exact ⟨by rw [hh]; rfl, XB1, F, nF, by rw [hh]; exact HS1.out, Nat.le_refl _, HD1.out⟩
  · obtain ⟨xs, zs, hR, hx⟩ := HR.out hh
    have HU := Lib.hid (unlist_any w1 tb umb nF F R (some ⟨bb, 0, none⟩) (.int .i64 (pu : Int)) k vy xs zs HS1.out.st HS1.out.und HK.out.2.2.1 HK.out.1 HK.out.2.1 hR hx (HK.out.2.2.2.did HD1.out).ke)
    have HE : Hid (lessR R k (idT k vy) = upd R k (xs ++ zs)) := by
      show _ = _
      unfold lessR
      rw [hR, List.erase_append_right _ hx, List.erase_cons_head]
    clear hR hx
    go_wp2_with fail
    refine HU.out.mono ?_
    rintro e w2 ⟨rfl, n', F', hle, hu, hd⟩
    obtain ⟨hs2, hD2⟩ := HS1.out.rows hu hd
    have HS2 := Lib.hid hs2; have HD2 := Lib.hid (HD1.out.trans hD2); have HLE := Lib.hid hle
    clear hs2 hD2 hu hd hle HU
    go_wp2_with fail
    go_ret
    exact ⟨by rw [hh]; rfl, XB1, F', n', by rw [hh]; show StI _ _ _ _ _ _ _ _ _ _ (lessR R k (idT k vy)) _; rw [HE.out]; exact HS2.out, HLE.out, HD2.out⟩
end
end Go.Proofs.YtopgeclecpaecaaGreatDoor
