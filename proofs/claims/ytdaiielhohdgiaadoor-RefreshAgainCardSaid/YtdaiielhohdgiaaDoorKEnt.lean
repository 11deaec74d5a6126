/- A ring of items in memory, closed by a part of the block that holds the whole; a map from keys to items. No function of the program is read here. -/
import Derived.Test.YtdaiielhohdgiaaDoorKBytes
import Derived.Test.YtdaiielhohdgiaaDoorKOpen
import Derived.Test.YtdaiielhohdgiaaDoorKPlain
import Derived.Maps.OwnSet
import Derived.Deep.MidRow
namespace Go.Proofs.YtdaiielhohdgiaaDoor
open Go.RowKit

/-! ### what turns -/
/-- nothing but the blocks X (and new ones) has turned; X' is what X has become -/
structure Did (X X' : Nat → Prop) (w w' : World) : Prop where
  os : w'.os = w.os
  tape : w'.tape = w.tape
  output : w'.output = w.output
  size : w.heap.size ≤ w'.heap.size
  keep : ∀ k, k < w.heap.size → ¬ X k → w'.heap[k]? = w.heap[k]?
  new : ∀ k, X' k → X k ∨ w.heap.size ≤ k
theorem Did.refl (X : Nat → Prop) (w : World) : Did X X w w := ⟨rfl, rfl, rfl, Nat.le_refl _, fun _ _ _ => rfl, fun _ h => .inl h⟩
theorem Did.trans {X X' X'' : Nat → Prop} {a b c : World} (h : Did X X' a b) (k : Did X' X'' b c) : Did X X'' a c :=
  ⟨k.os.trans h.os, k.tape.trans h.tape, k.output.trans h.output, Nat.le_trans h.size k.size, fun i hi hx => (k.keep i (Nat.lt_of_lt_of_le hi h.size) (fun e => (h.new i e).elim hx (fun q => by omega))).trans (h.keep i hi hx), fun i hi => (k.new i hi).elim (fun e => h.new i e) (fun e => .inr (Nat.le_trans h.size e))⟩
theorem Did.below {X X' : Nat → Prop} {w w' : World} (h : Did X X' w w') {B : Nat} (hB : B ≤ w.heap.size) (hX : ∀ k, X k → B ≤ k) : Below B w w' :=
  ⟨h.os, h.tape, h.output, h.size, fun k hk => h.keep k (by omega) (fun e => by have := hX k e; omega)⟩
theorem Did.of_below {X : Nat → Prop} {w w' : World} (h : Below w.heap.size w w') : Did X X w w' := ⟨h.os, h.tape, h.output, h.size, fun k hk _ => h.block k hk, fun _ h => .inl h⟩
theorem Did.sub {X X' X'' : Nat → Prop} {w w' : World} (h : Did X X' w w') (hs : ∀ k, X'' k → X' k) : Did X X'' w w' := ⟨h.os, h.tape, h.output, h.size, h.keep, fun k hk => h.new k (hs k hk)⟩
theorem Did.wide {X X' Y : Nat → Prop} {w w' : World} (h : Did X X' w w') (hs : ∀ k, X k → Y k) : Did Y Y w w' := ⟨h.os, h.tape, h.output, h.size, fun k hk hy => h.keep k hk (fun e => hy (hs k e)), fun _ h => .inl h⟩
/-- w' has the memory of W (its draws may be others) -/
structure Twin (w' W : World) : Prop where
  heap : w'.heap = W.heap
  os : w'.os = W.os
  tape : w'.tape = W.tape
  output : w'.output = W.output
theorem Twin.refl (w : World) : Twin w w := ⟨rfl, rfl, rfl, rfl⟩

/-! ### blocks of given cells -/
def bk (w : World) (b : Nat) (cs : Array Value) : Prop := ∃ T, w.heap[b]? = some (.cells cs T (0, 0))
theorem bk.cell {w : World} {b : Nat} {cs : Array Value} (h : bk w b cs) (j : Nat) (u : Value) (hj : cs[j]? = some u) : w.cell? ⟨b, j, none⟩ = some u := by
  obtain ⟨T, h⟩ := h
  exact (cell_of_row w b j cs T _ h).trans hj
theorem bk.free {w : World} {b : Nat} {cs : Array Value} (h : bk w b cs) (j : Nat) : w.frozen? ⟨b, j, none⟩ = false := by
  obtain ⟨T, h⟩ := h
  simp [World.frozen?, h]
theorem bk.set {w : World} {b : Nat} {cs : Array Value} (h : bk w b cs) (j : Nat) (u : Value) : bk (w.setCell ⟨b, j, none⟩ u) b (cs.setIfInBounds j u) := by
  obtain ⟨T, h⟩ := h
  exact ⟨T, Lib.heap_setCell_same h u⟩
theorem bk.keep {w w' : World} {b : Nat} {cs : Array Value} (h : bk w b cs) (hk : w'.heap[b]? = w.heap[b]?) : bk w' b cs := by
  obtain ⟨T, h⟩ := h
  exact ⟨T, hk.trans h⟩
theorem bk.other {w : World} {b : Nat} {cs : Array Value} (h : bk w b cs) {a : Addr} (ha : b ≠ a.block) (u : Value) : bk (w.setCell a u) b cs := h.keep (Below.heap_setCell _ _ _ _ ha)
theorem bk.lt {w : World} {b : Nat} {cs : Array Value} (h : bk w b cs) : b < w.heap.size := by
  obtain ⟨T, h⟩ := h
  exact (Array.getElem?_eq_some_iff.1 h).1
theorem bk.below {w w' : World} {b : Nat} {cs : Array Value} (h : bk w b cs) (hb : Below w.heap.size w w') : bk w' b cs := h.keep (hb.block b h.lt)
theorem bk.new (w : World) (cs : Array Value) (T : TypeId) : bk (w.alloc (.cells cs T)) w.heap.size cs := ⟨T, heap_alloc_new w _⟩
theorem bk.alloc {w : World} {b : Nat} {cs : Array Value} (h : bk w b cs) (o : Obj) : bk (w.alloc o) b cs := h.keep (Below.heap_alloc _ _ _ h.lt)
theorem bk.inj {w : World} {b : Nat} {cs cs' : Array Value} (h : bk w b cs) (h' : bk w b cs') : cs = cs' := by
  obtain ⟨T, h⟩ := h
  obtain ⟨T', h'⟩ := h'
  rw [h] at h'
  cases h'; rfl

theorem modify_comm (o : Obj) (x y : Nat) (u v : Value) (h : x ≠ y) :
    (match (match o with | .cells c e f => Obj.cells (c.setIfInBounds x u) e f | o => o) with | .cells c e f => Obj.cells (c.setIfInBounds y v) e f | o => o) =
    (match (match o with | .cells c e f => Obj.cells (c.setIfInBounds y v) e f | o => o) with | .cells c e f => Obj.cells (c.setIfInBounds x u) e f | o => o) := by
  cases o with
  | cells c e f => simp only [Array.setIfInBounds_comm _ _ h]
  | _ => rfl
theorem heap_comm (w : World) (a b x y : Nat) (u v : Value) (h : a ≠ b ∨ x ≠ y) :
    ((w.setCell ⟨a, x, none⟩ u).setCell ⟨b, y, none⟩ v).heap = ((w.setCell ⟨b, y, none⟩ v).setCell ⟨a, x, none⟩ u).heap := by
  apply Array.ext_getElem?
  intro i
  simp only [World.setCell, Array.getElem?_modify, Option.isSome_none, Bool.false_eq_true, if_false]
  by_cases ha : a = i
  · by_cases hb : b = i
    · have hxy : x ≠ y := h.resolve_left (fun e => e (ha.trans hb.symm))
      simp only [if_pos ha, if_pos hb, Option.map_map]
      congr 1
      funext o
      exact modify_comm o x y u v hxy
    · simp only [if_pos ha, if_neg hb]
  · by_cases hb : b = i
    · simp only [if_neg ha, if_pos hb]
    · simp only [if_neg ha, if_neg hb]

/-! ### a ring of items -/
/-- nine cells -/
structure Iv where
  (c0 c1 c2 c3 c4 c5 c6 c7 c8 : Value)
  one : #[c0, c1, c2, c3, c4, c5, c6, c7, c8].all (·.oneCell') = true
/-- nine cells as one value -/
def Iv.agg (x : Iv) : Value := .agg #[x.c0, x.c1, x.c2, x.c3, x.c4, x.c5, x.c6, x.c7, x.c8]
abbrev Nd (α : Type) := Nat × It α
def PA (a : Nat × Nat) : Value := .pointer (some ⟨a.1, a.2, none⟩)
section
variable {α : Type} (mk : α → Iv)
def la (p : Nat × Nat) : List (Nd α) → Nat × Nat
  | [] => p
  | y :: r => la (y.1, 0) r
def na (q : Nat × Nat) : List (Nd α) → Nat × Nat
  | [] => q
  | y :: _ => (y.1, 0)
def itC (y : It α) (p q : Nat × Nat) : Array Value := #[.string (bs y.1), .int .i64 y.2.1, (mk y.2.2).c0, (mk y.2.2).c1, (mk y.2.2).c2, (mk y.2.2).c3, (mk y.2.2).c4, (mk y.2.2).c5, (mk y.2.2).c6, (mk y.2.2).c7, (mk y.2.2).c8, PA p, PA q]
def Seg (w : World) (p : Nat × Nat) : List (Nd α) → Nat × Nat → Prop
  | [], _ => True
  | y :: r, q => bk w y.1 (itC mk y.2 p (na q r)) ∧ Seg w (y.1, 0) r q
variable {mk} {w w' : World} {p q : Nat × Nat} {xs ys zs r : List (Nd α)} {y : Nd α}
theorem la_append : ∀ (p : Nat × Nat) (xs ys : List (Nd α)), la p (xs ++ ys) = la (la p xs) ys
  | _, [], _ => rfl
  | _, y :: r, ys => la_append (y.1, 0) r ys
theorem na_append (q : Nat × Nat) (xs ys : List (Nd α)) : na q (xs ++ ys) = na (na q ys) xs := by cases xs <;> rfl
theorem Seg_append : ∀ {xs : List (Nd α)} {p : Nat × Nat}, Seg mk w p (xs ++ ys) q ↔ Seg mk w p xs (na q ys) ∧ Seg mk w (la p xs) ys q
  | [], p => by simp [Seg, la]
  | x :: r, p => by
    show (bk w x.1 (itC mk x.2 p (na q (r ++ ys))) ∧ Seg mk w (x.1, 0) (r ++ ys) q) ↔ (bk w x.1 (itC mk x.2 p (na (na q ys) r)) ∧ Seg mk w (x.1, 0) r (na q ys)) ∧ Seg mk w (la (x.1, 0) r) ys q
    rw [Seg_append, na_append, and_assoc]
theorem Seg.keep : ∀ {xs : List (Nd α)} {p : Nat × Nat}, Seg mk w p xs q → (∀ y ∈ xs, w'.heap[y.1]? = w.heap[y.1]?) → Seg mk w' p xs q
  | [], _, _, _ => trivial
  | y :: _, _, h, hk => ⟨h.1.keep (hk y (by simp)), h.2.keep fun z hz => hk z (by simp [hz])⟩
theorem Seg.lt : ∀ {xs : List (Nd α)} {p : Nat × Nat}, Seg mk w p xs q → ∀ y ∈ xs, y.1 < w.heap.size
  | _ :: _, _, h, y, hy => by
    rcases List.mem_cons.1 hy with rfl | hy
    · exact h.1.lt
    · exact h.2.lt y hy
theorem Seg.other (h : Seg mk w p xs q) {a : Addr} (ha : ∀ y ∈ xs, y.1 ≠ a.block) (u : Value) : Seg mk (w.setCell a u) p xs q := h.keep fun y hy => Below.heap_setCell _ _ _ _ (ha y hy)
theorem Seg.get (h : Seg mk w p (xs ++ y :: zs) q) : bk w y.1 (itC mk y.2 (la p xs) (na q zs)) := (Seg_append.1 h).2.1
theorem Seg.setPrev (h : Seg mk w p (y :: r) q) (hn : ∀ z ∈ r, z.1 ≠ y.1) (p' : Nat × Nat) : Seg mk (w.setCell ⟨y.1, 11, none⟩ (PA p')) p' (y :: r) q :=
  ⟨h.1.set 11 _, h.2.other hn _⟩
theorem Seg.setNext (h : Seg mk w p (xs ++ [y]) q) (hn : ∀ z ∈ xs, z.1 ≠ y.1) (q' : Nat × Nat) : Seg mk (w.setCell ⟨y.1, 12, none⟩ (PA q')) p (xs ++ [y]) q' := by
  obtain ⟨h1, h2⟩ := Seg_append.1 h
  exact Seg_append.2 ⟨h1.other hn _, h2.1.set 12 _, trivial⟩
def blks (xs : List (Nd α)) : List Nat := xs.map (·.1)
/-- the block of the whole: its bounds, how many bytes are kept, the map, and the item that closes the ring -/
def stC (n m t mb : Nat) (Z : Iv) (l a : Value) : Array Value := #[.int .i64 n, .int .i64 m, .int .i64 t, .map (some mb), .string ⟨#[]⟩, .int .i64 0, Z.c0, Z.c1, Z.c2, Z.c3, Z.c4, Z.c5, Z.c6, Z.c7, Z.c8, l, a]
theorem stC_after (n m t mb : Nat) (Z : Iv) (l a u : Value) : (stC n m t mb Z l a).setIfInBounds 16 u = stC n m t mb Z l u := rfl
theorem stC_before (n m t mb : Nat) (Z : Iv) (l a u : Value) : (stC n m t mb Z l a).setIfInBounds 15 u = stC n m t mb Z u a := rfl
theorem stC_total (n m t t' mb : Nat) (Z : Iv) (l a : Value) : (stC n m t mb Z l a).setIfInBounds 2 (.int .i64 (t' : Int)) = stC n m t' mb Z l a := rfl
/-- the ring -/
structure Ring (mk : α → Iv) (w : World) (sb n m t mb : Nat) (Z : Iv) (ns : List (Nd α)) : Prop where
  st : bk w sb (stC n m t mb Z (PA (la (sb, 4) ns)) (PA (na (sb, 4) ns)))
  seg : Seg mk w (sb, 4) ns (sb, 4)
  nd : (sb :: blks ns).Nodup
variable {sb n m t mb : Nat} {Z : Iv} {ns : List (Nd α)}
theorem Ring.keep (h : Ring mk w sb n m t mb Z ns) (hs : w'.heap[sb]? = w.heap[sb]?) (hk : ∀ b ∈ blks ns, w'.heap[b]? = w.heap[b]?) : Ring mk w' sb n m t mb Z ns :=
  ⟨h.st.keep hs, h.seg.keep fun y hy => hk _ (List.mem_map.2 ⟨y, hy, rfl⟩), h.nd⟩
theorem nd_mid (h : (sb :: blks (xs ++ y :: zs)).Nodup) : (sb :: blks (xs ++ zs)).Nodup ∧ y.1 ≠ sb ∧ (∀ z ∈ xs ++ zs, z.1 ≠ y.1) ∧ (∀ z ∈ xs ++ zs, z.1 ≠ sb) := by
  unfold blks at *
  simp only [List.map_append, List.map_cons, List.nodup_cons, List.nodup_append, List.mem_append, List.mem_cons, List.mem_map, not_or, not_exists, not_and] at h ⊢
  obtain ⟨⟨h1, h2, h3⟩, h4, ⟨h5, h6⟩, h7⟩ := h
  refine ⟨⟨⟨h1, h3⟩, h4, h6, fun a ha b hb => h7 a ha b (.inr hb)⟩, fun e => h2 e.symm, ?_, ?_⟩
  · rintro z (hz | hz) e
    · exact h7 z.1 ⟨z, hz, rfl⟩ y.1 (.inl rfl) e
    · exact h5 z hz e
  · rintro z (hz | hz) e
    · exact h1 z hz e
    · exact h3 z hz e
/-- an item leaves the ring -/
theorem Ring.leave (h : Ring mk w sb n m t mb Z (xs ++ y :: zs)) {P Q : Nat × Nat} (hP : la (sb, 4) xs = P) (hQ : na (sb, 4) zs = Q) :
    Ring mk ((w.setCell ⟨P.1, P.2 + 12, none⟩ (PA Q)).setCell ⟨Q.1, Q.2 + 11, none⟩ (PA P)) sb n m t mb Z (xs ++ zs) ∧ bk ((w.setCell ⟨P.1, P.2 + 12, none⟩ (PA Q)).setCell ⟨Q.1, Q.2 + 11, none⟩ (PA P)) y.1 (itC mk y.2 P Q) := by
  obtain ⟨n1, n2, n3, n4⟩ := nd_mid h.nd
  have hy := h.seg.get
  obtain ⟨s1, -, s2⟩ := Seg_append.1 h.seg
  have hst := h.st
  simp only [la_append, na_append] at hst
  have hst' : bk w sb (stC n m t mb Z (PA (la (y.1, 0) zs)) (PA (na (y.1, 0) xs))) := hst
  rw [hP, hQ] at hy
  have hnd0 := h.nd
  rcases List.eq_nil_or_concat xs with rfl | ⟨xs', x, rfl⟩
  · obtain rfl : P = (sb, 4) := hP.symm
    cases zs with
    | nil =>
      obtain rfl : Q = (sb, 4) := hQ.symm
      refine ⟨⟨?_, trivial, n1⟩, (hy.other (a := ⟨sb, 16, none⟩) n2 _).other (a := ⟨sb, 15, none⟩) n2 _⟩
      exact (hst'.set 16 (PA (sb, 4))).set 15 (PA (sb, 4))
    | cons z zs' =>
      obtain rfl : Q = (z.1, 0) := hQ.symm
      have hz := n4 z (by simp)
      have hzy := n3 z (by simp)
      refine ⟨⟨?_, ?_, n1⟩, (hy.other (a := ⟨sb, 16, none⟩) n2 _).other (a := ⟨z.1, 11, none⟩) hzy.symm _⟩
      · exact ((hst'.set 16 (PA (z.1, 0))).other (a := ⟨z.1, 11, none⟩) hz.symm _)
      · refine Seg.setPrev (y := z) (r := zs') (p := (y.1, 0)) ((show Seg mk w (y.1, 0) (z :: zs') (sb, 4) from s2).other (a := ⟨sb, 16, none⟩) (fun v hv => n4 v (by simpa using hv)) _) ?_ (sb, 4)
        intro v hv e
        have : (blks ([] ++ z :: zs')).Nodup := (List.nodup_cons.1 n1).2
        unfold blks at this
        simp only [List.nil_append, List.map_cons, List.nodup_cons] at this
        exact this.1 (List.mem_map.2 ⟨v, hv, e⟩)
  · have hP' : P = (x.1, 0) := by rw [← hP, List.concat_eq_append, la_append]; rfl
    subst hP'
    rw [List.concat_eq_append] at *
    have hx := n4 x (by simp)
    have hxy := n3 x (by simp)
    have hxx : ∀ v ∈ xs', v.1 ≠ x.1 := by
      intro v hv e
      have : (blks ((xs' ++ [x]) ++ zs)).Nodup := (List.nodup_cons.1 n1).2
      unfold blks at this
      simp only [List.map_append, List.map_cons, List.map_nil, List.nodup_append, List.mem_map] at this
      exact this.1.2.2 v.1 ⟨v, hv, rfl⟩ x.1 (by simp) e
    cases zs with
    | nil =>
      obtain rfl : Q = (sb, 4) := hQ.symm
      rw [List.append_nil] at *
      refine ⟨⟨?_, ?_, n1⟩, (hy.other (a := ⟨x.1, 12, none⟩) hxy.symm _).other (a := ⟨sb, 15, none⟩) n2 _⟩
      · rw [la_append]
        have e : na (sb, 4) (xs' ++ [x]) = na (y.1, 0) (xs' ++ [x]) := by cases xs' <;> rfl
        rw [e]
        exact ((hst'.other (a := ⟨x.1, 12, none⟩) hx.symm _).set 15 (PA (x.1, 0)))
      · exact (Seg.setNext s1 hxx (sb, 4)).other (a := ⟨sb, 15, none⟩) (fun v hv => n4 v hv) _
    | cons z zs' =>
      obtain rfl : Q = (z.1, 0) := hQ.symm
      have hz := n4 z (by simp)
      have hzy := n3 z (by simp)
      have hnb : (blks ((xs' ++ [x]) ++ z :: zs')).Nodup := (List.nodup_cons.1 n1).2
      unfold blks at hnb
      simp only [List.map_append, List.map_cons, List.map_nil, List.nodup_append, List.nodup_cons, List.mem_map] at hnb
      have hzz : ∀ v ∈ zs', v.1 ≠ z.1 := fun v hv e => hnb.2.1.1 ⟨v, hv, e⟩
      have hxz : x.1 ≠ z.1 := fun e => hnb.2.2 x.1 (by simp) z.1 (by simp) e
      refine ⟨⟨?_, ?_, n1⟩, (hy.other (a := ⟨x.1, 12, none⟩) hxy.symm _).other (a := ⟨z.1, 11, none⟩) hzy.symm _⟩
      · rw [la_append, na_append]
        have e : na (na (sb, 4) (z :: zs')) (xs' ++ [x]) = na (y.1, 0) (xs' ++ [x]) := by cases xs' <;> rfl
        rw [e]
        exact ((hst'.other (a := ⟨x.1, 12, none⟩) hx.symm _).other (a := ⟨z.1, 11, none⟩) hz.symm _)
      · refine Seg_append.2 ⟨?_, ?_⟩
        · refine (Seg.setNext s1 hxx (z.1, 0)).other (a := ⟨z.1, 11, none⟩) ?_ _
          intro v hv e
          exact hnb.2.2 v.1 (by rcases List.mem_append.1 hv with h1 | h1; exact List.mem_append_left _ (List.mem_map.2 ⟨v, h1, rfl⟩); simp at h1; simp [h1]) z.1 (by simp) e
        · rw [la_append]
          refine Seg.setPrev (y := z) (r := zs') (p := (y.1, 0)) ((show Seg mk w (y.1, 0) (z :: zs') (sb, 4) from s2).other (a := ⟨x.1, 12, none⟩) ?_ _) hzz (x.1, 0)
          intro v hv e
          exact hnb.2.2 x.1 (by simp) v.1 (by rcases List.mem_cons.1 hv with h1 | h1; simp [h1]; exact List.mem_cons_of_mem _ (List.mem_map.2 ⟨v, h1, rfl⟩)) e.symm
/-- an item enters the ring, as the last one -/
theorem Ring.enter (h : Ring mk w sb n m t mb Z ns) (y : Nd α) {u v : Value} (hy : bk w y.1 #[.string (bs y.2.1), .int .i64 y.2.2.1, (mk y.2.2.2).c0, (mk y.2.2.2).c1, (mk y.2.2.2).c2, (mk y.2.2.2).c3, (mk y.2.2.2).c4, (mk y.2.2.2).c5, (mk y.2.2.2).c6, (mk y.2.2.2).c7, (mk y.2.2.2).c8, u, v]) (hs : y.1 ≠ sb) (hn : y.1 ∉ blks ns) {P : Nat × Nat} (hP : la (sb, 4) ns = P) :
    Ring mk ((((w.setCell ⟨y.1, 11, none⟩ (PA P)).setCell ⟨y.1, 12, none⟩ (PA (sb, 4))).setCell ⟨P.1, P.2 + 12, none⟩ (PA (y.1, 0))).setCell ⟨sb, 15, none⟩ (PA (y.1, 0))) sb n m t mb Z (ns ++ [y]) := by
  have hst := h.st
  have hsg := h.seg
  have hnd : (sb :: blks (ns ++ [y])).Nodup := by
    have h1 := h.nd
    unfold blks at *
    simp only [List.map_append, List.map_cons, List.map_nil, List.nodup_cons, List.nodup_append, List.mem_append, not_or] at h1 ⊢
    refine ⟨⟨h1.1, by simp [hs.symm]⟩, h1.2, by simp, ?_⟩
    intro a ha b hb e
    have : b = y.1 := by simpa using hb
    subst this
    exact hn (e ▸ ha)
  have hny : ∀ v ∈ ns, v.1 ≠ y.1 := fun v hv e => hn (List.mem_map.2 ⟨v, hv, e⟩)
  have hns : ∀ v ∈ ns, v.1 ≠ sb := fun v hv e => (List.nodup_cons.1 h.nd).1 (List.mem_map.2 ⟨v, hv, e⟩)
  have hy1 := (hy.set 11 (PA P)).set 12 (PA (sb, 4))
  have hst1 := (hst.other (a := ⟨y.1, 11, none⟩) hs.symm (PA P)).other (a := ⟨y.1, 12, none⟩) hs.symm (PA (sb, 4))
  have hsg1 := (hsg.other (a := ⟨y.1, 11, none⟩) hny (PA P)).other (a := ⟨y.1, 12, none⟩) hny (PA (sb, 4))
  generalize (w.setCell ⟨y.1, 11, none⟩ (PA P)).setCell ⟨y.1, 12, none⟩ (PA (sb, 4)) = w1 at *
  rcases List.eq_nil_or_concat ns with rfl | ⟨xs', x, rfl⟩
  · obtain rfl : P = (sb, 4) := hP.symm
    refine ⟨?_, ⟨?_, trivial⟩, hnd⟩
    · exact (hst1.set 16 (PA (y.1, 0))).set 15 (PA (y.1, 0))
    · exact (hy1.other (a := ⟨sb, 16, none⟩) hs _).other (a := ⟨sb, 15, none⟩) hs _
  · have hP' : P = (x.1, 0) := by rw [← hP, List.concat_eq_append, la_append]; rfl
    subst hP'
    rw [List.concat_eq_append] at *
    have hx := hns x (by simp)
    have hxy := hny x (by simp)
    have hxx : ∀ v ∈ xs', v.1 ≠ x.1 := by
      intro v hv e
      have : (blks (xs' ++ [x])).Nodup := (List.nodup_cons.1 h.nd).2
      unfold blks at this
      simp only [List.map_append, List.map_cons, List.map_nil, List.nodup_append, List.mem_map] at this
      exact this.2.2 v.1 ⟨v, hv, rfl⟩ x.1 (by simp) e
    refine ⟨?_, ?_, hnd⟩
    · rw [la_append, na_append]
      have e : na (na (sb, 4) [y]) (xs' ++ [x]) = na (sb, 4) (xs' ++ [x]) := by cases xs' <;> rfl
      rw [e]
      exact (hst1.other (a := ⟨x.1, 12, none⟩) hx.symm _).set 15 (PA (y.1, 0))
    · refine Seg_append.2 ⟨(Seg.setNext hsg1 hxx (y.1, 0)).other (a := ⟨sb, 15, none⟩) hns _, ?_, trivial⟩
      rw [la_append]
      exact (hy1.other (a := ⟨x.1, 12, none⟩) hxy.symm _).other (a := ⟨sb, 15, none⟩) hs _

/-! ### the map -/
def blkOf (k : List UInt8) (ns : List (Nd α)) : Option Nat := (ns.find? (fun y => y.2.1 == k)).map (·.1)
end
def refD : Option Nat → DataW Unit
  | some b => .lit (.int .i64 b)
  | none => .lit (.int .i64 (-1))
def ptrO : Option Nat → Value
  | some b => .pointer (some ⟨b, 0, none⟩)
  | none => .pointer none
def refR : Value → Option (DataW Unit × List MemPlace)
  | .pointer none => some (refD none, [])
  | .pointer (some a) => if a.off = 0 ∧ a.spot = none then some (refD (some a.block), []) else none
  | _ => none
theorem refD_inj {a b : Option Nat} (h : refD a = refD b) : a = b := by
  cases a <;> cases b <;> simp only [refD, DataW.lit.injEq, Lit.int.injEq, true_and] at h
  · rfl
  · omega
  · omega
  · rw [Int.ofNat.inj h]
theorem refR_ptr (o : Option Nat) : refR (ptrO o) = some (refD o, []) := by cases o <;> simp [refR, ptrO]
theorem refR_inv {v : Value} {o : Option Nat} {ps : List MemPlace} (h : refR v = some (refD o, ps)) : v = ptrO o := by
  unfold refR at h
  split at h
  · simp only [Option.some.injEq, Prod.mk.injEq] at h
    rw [← refD_inj h.1]; rfl
  · rename_i a
    split at h
    · rename_i ha
      simp only [Option.some.injEq, Prod.mk.injEq] at h
      rw [← refD_inj h.1]
      obtain ⟨b, o', s⟩ := a
      simp only at ha
      obtain ⟨rfl, rfl⟩ := ha
      rfl
    · cases h
  · cases h
/-- a map's block: which item has which key -/
def MapK {α : Type} (P : Program) (kt : TypeId) (w : World) (mb : Nat) (ns : List (Nd α)) : Prop :=
  ∃ D : DataW Unit, w.ownsMap P kt refR mb ns.length D ∧ (∀ k : List UInt8, D.atKey (.string k) (refD none) = refD (blkOf k ns)) ∧ (∀ k : List UInt8, Maps.has D (.string k) = ns.any (fun y => y.2.1 == k)) ∧ Maps.size D = ns.length
section
variable {α : Type} {P : Program} {kt : TypeId} {w w' : World} {mb : Nat} {ns xs zs : List (Nd α)} {y : Nd α}
theorem ownsMap_tight {R : Value → Option (DataW Unit × List MemPlace)} {n : Nat} {D : DataW Unit} (h : w.ownsMap P kt R mb n D) : w.ownsMap P kt R mb (Maps.size D) D := by
  obtain ⟨es, clock, hb, F, hs, rfl⟩ := h
  refine ⟨es, clock, hb, F, ?_, rfl⟩
  rw [show Maps.size (DataW.map ((es.toList.map (WideElems.rg P kt R)).foldr DataW.insert [])) = es.size from by simp [Maps.size, length_sorted]]
  exact Nat.le_refl _
theorem MapK.new (w : World) : MapK P kt (w.alloc (.map #[] 0)) w.heap.size ([] : List (Nd α)) :=
  ⟨_, World.ownsMap_made w P kt refR, fun _ => rfl, fun _ => rfl, rfl⟩
theorem MapK.keep (h : MapK P kt w mb ns) (hk : w'.heap[mb]? = w.heap[mb]?) : MapK P kt w' mb ns := by
  obtain ⟨D, ⟨es, clock, h1, h2⟩, h3⟩ := h
  exact ⟨D, ⟨es, clock, hk.trans h1, h2⟩, h3⟩
theorem MapK.lt (h : MapK P kt w mb ns) : mb < w.heap.size := by
  obtain ⟨D, h1, -⟩ := h
  exact h1.lt
theorem MapK.ne (h : MapK P kt w mb ns) {b : Nat} {cs : Array Value} (hb : bk w b cs) : b ≠ mb := by
  rintro rfl
  obtain ⟨D, ⟨es, clock, h1, -⟩, -⟩ := h
  obtain ⟨T, hb⟩ := hb
  rw [h1] at hb; cases hb
theorem blkOf_none {k : List UInt8} (h : ∀ z ∈ ns, z.2.1 ≠ k) : blkOf k ns = none := by
  unfold blkOf
  rw [List.find?_eq_none.2 (fun x hx => by rw [beq_iff_eq]; exact h x hx)]; rfl
theorem blkOf_mid {k : List UInt8} (hy : y.2.1 = k) (h : ∀ z ∈ xs, z.2.1 ≠ k) : blkOf k (xs ++ y :: zs) = some y.1 := by
  unfold blkOf
  rw [List.find?_append, List.find?_eq_none.2 (fun x hx => by rw [beq_iff_eq]; exact h x hx)]
  simp [hy]
theorem MapK.look {t e : TypeId} (h : MapK P kt w mb ns) (hks : P.underlying kt = some .string) (ht : P.underlying t = some (.map kt e)) (hz : (zeroValue e).run P w = .ok (.pointer none) w) (k : List UInt8) (hl : k.length ≤ maxLen) :
    (Instr.lookup t (.map (some mb)) (.string (bs k)) false).run P w = .ok (ptrO (blkOf k ns)) w := by
  obtain ⟨D, h1, h2, -⟩ := h
  obtain ⟨v, ps, hrun, hv⟩ := h1.lookup (Maps.string_keyed hks) ht hz (refR_ptr none) (Go.WideMaps.keyOf_string_mk hks (by rw [bs_size]; exact hl))
  rw [bs_data, h2 k] at hv
  rw [hrun, refR_inv hv]
theorem MapK.len {t e : TypeId} (h : MapK P kt w mb ns) (ht : P.underlying t = some (.map kt e)) (ty : TypeId) : (Builtin.len_ #[t] ty #[.map (some mb)]).run P w = .ok (.int .i64 (ns.length : Int)) w := by
  obtain ⟨D, h1, -, -, h4⟩ := h
  rw [h1.len ht ty, h4]
theorem MapK.put {t e : TypeId} (h : MapK P kt w mb ns) (hks : P.underlying kt = some .string) (ht : P.underlying t = some (.map kt e)) (hn : ns.length < maxLen) (y : Nd α) (hl : y.2.1.length ≤ maxLen) (hk : ∀ z ∈ ns, z.2.1 ≠ y.2.1) :
    ∃ w', (Instr.mapUpdate t (.map (some mb)) (.string (bs y.2.1)) (.pointer (some ⟨y.1, 0, none⟩))).run P w = .ok () w' ∧ MapK P kt w' mb (ns ++ [y]) ∧ w.mapTurned w' mb := by
  obtain ⟨D, h1, h2, h3, h4⟩ := h
  have hT := h1.tidy (Maps.string_keyed hks)
  obtain ⟨w', hrun, hown, hturn⟩ := h1.store (Maps.string_keyed hks) ht hn (Go.WideMaps.keyOf_string_mk hks (s := bs y.2.1) (by rw [bs_size]; exact hl)) (refR_ptr (some y.1))
  rw [bs_data] at hown
  have hno : Maps.has D (.string y.2.1) = false := by
    rw [h3, List.any_eq_false]
    intro z hz
    rw [beq_iff_eq]; exact hk z hz
  refine ⟨w', hrun, ⟨D.put (.string y.2.1) (refD (some y.1)), ?_, ?_, ?_, ?_⟩, hturn⟩
  · simpa using hown
  · intro k
    by_cases e : k = y.2.1
    · subst e
      rw [Maps.atKey_put_same hT.isMap (show WideAt.IsKeyLit (.string y.2.1) from trivial), blkOf_mid rfl hk]
    · rw [Maps.atKey_put_other (by intro q; cases q; exact e rfl), h2 k]
      congr 1
      unfold blkOf
      rw [List.find?_append]
      cases List.find? (fun y => y.2.1 == k) ns <;> simp [Ne.symm e]
  · intro k
    by_cases e : k = y.2.1
    · subst e
      rw [Maps.has_put_same hT.isMap (show WideAt.IsKeyLit (.string y.2.1) from trivial)]
      simp
    · rw [Maps.has_put_other (by intro q; cases q; exact e rfl), h3 k]
      simp [Ne.symm e]
  · rw [Maps.size_put hT, hno, h4]; simp
theorem MapK.del {t e : TypeId} (h : MapK P kt w mb (xs ++ y :: zs)) (hks : P.underlying kt = some .string) (ht : P.underlying t = some (.map kt e)) (hl : y.2.1.length ≤ maxLen) (hk : ∀ z ∈ xs ++ zs, z.2.1 ≠ y.2.1) (ty : TypeId) :
    ∃ w', (Builtin.delete_ #[t, kt] ty #[.map (some mb), .string (bs y.2.1)]).run P w = .ok (.tuple #[]) w' ∧ MapK P kt w' mb (xs ++ zs) ∧ w.mapTurned w' mb := by
  obtain ⟨D, h1, h2, h3, h4⟩ := h
  have hT := h1.tidy (Maps.string_keyed hks)
  obtain ⟨w', hrun, hown, hturn⟩ := h1.drop (Maps.string_keyed hks) ht (Go.WideMaps.keyOf_string_mk hks (s := bs y.2.1) (by rw [bs_size]; exact hl)) ty
  rw [bs_data] at hown
  have hyes : Maps.has D (.string y.2.1) = true := by rw [h3]; simp
  have hsz : Maps.size (D.del (.string y.2.1)) = (xs ++ zs).length := by
    have := Maps.size_del (k := .string y.2.1) hT
    rw [hyes, h4] at this
    simp at this ⊢; omega
  refine ⟨w', hrun, ⟨D.del (.string y.2.1), ?_, ?_, ?_, hsz⟩, hturn⟩
  · rw [← hsz]; exact ownsMap_tight hown
  · intro k
    by_cases e : k = y.2.1
    · subst e
      rw [Maps.atKey_del_same, blkOf_none hk]
    · rw [Maps.atKey_del_other (by intro q; cases q; exact e rfl), h2 k]
      congr 1
      unfold blkOf
      rw [List.find?_append, List.find?_append, List.find?_cons_of_neg (by rw [beq_iff_eq]; exact Ne.symm e)]
  · intro k
    by_cases e : k = y.2.1
    · subst e
      rw [Maps.has_del_same]
      symm
      rw [List.any_eq_false]
      intro z hz
      rw [beq_iff_eq]; exact hk z hz
    · rw [Maps.has_del_other (by intro q; cases q; exact e rfl), h3 k, List.any_append, List.any_append, List.any_cons, beq_eq_false_iff_ne.2 (Ne.symm e), Bool.false_or]
end
end Go.Proofs.YtdaiielhohdgiaaDoor

/- Whole structs stored into blocks of given cells, and read out of them. No function of the program is read here. -/
namespace Go.Proofs.YtdaiielhohdgiaaDoor
open Go.RowKit
theorem bk.range {w : World} {b : Nat} {cs : Array Value} (h : bk w b cs) (o : Nat) (l : List Value) (hl : ∀ j v, l[j]? = some v → cs[o + j]? = some v) : w.rangeAt b o l := fun j v hv => h.cell (o + j) v (hl j v hv)
theorem bk.range0 {w : World} {b : Nat} {l : List Value} (h : bk w b l.toArray) : w.rangeAt b 0 l := h.range 0 l fun j v hv => by simpa using hv
theorem bk.there {w : World} {b : Nat} {cs : Array Value} (h : bk w b cs) (o n : Nat) (hn : o + n ≤ cs.size) : w.there b o n := fun j hj => by
  refine ⟨?_, h.free _⟩
  have h1 := h.cell (o + j) cs[o + j] (Array.getElem?_eq_getElem (by omega))
  rw [h1]; rfl
theorem bk.cells (b : Nat) : ∀ (l : List Value) (o : Nat) (w : World) (pre : List Value) (cs : List Value), pre.length = o → cs.length = l.length → bk w b (pre ++ cs).toArray → bk (w.setCells b o l) b (pre ++ l).toArray
  | [], _, _, pre, cs, _, hc, h => by
    have : cs = [] := List.eq_nil_of_length_eq_zero hc
    subst this
    exact h
  | v :: r, o, w, pre, cs, ho, hc, h => by
    cases cs with
    | nil => simp at hc
    | cons c cs =>
      have h1 := h.set o v
      have e : (pre ++ c :: cs).toArray.setIfInBounds o v = ((pre ++ [v]) ++ cs).toArray := by
        subst ho
        simp
      rw [e] at h1
      have h2 := bk.cells b r (o + 1) _ (pre ++ [v]) cs (by simp [ho]) (by simpa using hc) h1
      rw [World.setCells]
      simpa using h2
/-- all cells of a block are stored -/
theorem bk.setAll {w : World} {b : Nat} {cs : Array Value} (h : bk w b cs) (l : List Value) (hl : l.length = cs.size) : bk (w.setCells b 0 l) b l.toArray := by
  have := bk.cells b l 0 w [] cs.toList rfl (by simpa using hl.symm) (by simpa using h)
  simpa using this
theorem heap_setCells (b : Nat) : ∀ (l : List Value) (o : Nat) (w : World) (k : Nat), k ≠ b → (w.setCells b o l).heap[k]? = w.heap[k]?
  | [], _, _, _, _ => rfl
  | v :: r, o, w, k, h => by
    rw [World.setCells, heap_setCells b r (o + 1) _ k h]
    exact Below.heap_setCell _ _ _ _ h
theorem Below.cells {B : Nat} {w0 w : World} (h : Below B w0 w) (b : Nat) (hb : B ≤ b) : ∀ (l : List Value) (o : Nat), Below B w0 (w.setCells b o l) := by
  intro l
  induction l generalizing w with
  | nil => intro o; exact h
  | cons v r ih => intro o; exact ih (h.setCell (p := ⟨b, o, none⟩) hb v) (o + 1)
theorem size_setCells (b : Nat) : ∀ (l : List Value) (o : Nat) (w : World), (w.setCells b o l).heap.size = w.heap.size
  | [], _, _ => rfl
  | v :: r, o, w => by rw [World.setCells, size_setCells b r (o + 1)]; simp [World.setCell]
theorem Twin.cells {w : World} {b o : Nat} {l : List Value} : (w.setCells b o l).os = w.os ∧ (w.setCells b o l).tape = w.tape ∧ (w.setCells b o l).output = w.output := by
  induction l generalizing w o with
  | nil => exact ⟨rfl, rfl, rfl⟩
  | cons v r ih => exact ih (w := w.setCell ⟨b, o, none⟩ v)
end Go.Proofs.YtdaiielhohdgiaaDoor

/- Entries in memory: a block of eight cells, copied as a whole. -/
namespace Go.Proofs.YtdaiielhohdgiaaDoor
open Go.RowKit
/-- an entry as a value -/
def entV (e : En) (vf vv : Value) : Value := .agg #[.int .i64 e.st, .string (bs e.re), .int .i64 e.mi, vf, .string (bs e.bo), .int .i64 e.ak, .int .i64 e.gt, vv]
theorem setCell_id {w : World} {b j : Nat} {u : Value} (h : w.cell? ⟨b, j, none⟩ = some u) : (w.setCell ⟨b, j, none⟩ u).heap = w.heap := by
  apply Array.ext_getElem?
  intro i
  simp only [World.setCell, Array.getElem?_modify, Option.isSome_none, Bool.false_eq_true, if_false]
  by_cases hb : b = i
  · subst hb
    rw [if_pos rfl]
    unfold World.cell? at h
    cases ho : w.heap[b]? with
    | none => rfl
    | some o =>
      rw [ho] at h
      cases o with
      | cells c e f =>
        simp only [Option.isSome_none, Bool.false_eq_true, if_false] at h
        simp only [Option.map_some]
        congr 2
        apply Array.ext_getElem?
        intro k
        rw [Array.getElem?_setIfInBounds]
        by_cases hk : j = k
        · subst hk
          rw [if_pos rfl, h]
          have := (Array.getElem?_eq_some_iff.1 h).1
          rw [if_pos this]
        · rw [if_neg hk]
      | _ => rfl
  · rw [if_neg hb]
/-- the same memory -/
theorem below_same {B : Nat} {w0 w w' : World} (h : Below B w0 w) (hh : w'.heap = w.heap) (ho : w'.os = w.os) (ht : w'.tape = w.tape) (hp : w'.output = w.output) : Below B w0 w' :=
  ⟨ho.trans h.os, ht.trans h.tape, hp.trans h.output, by rw [hh]; exact h.size, fun k hk => by rw [hh]; exact h.block k hk⟩
theorem ownF.same {w w' : World} {base : Nat} {v : Value} {l : List Fld} (h : ownF w base v l) (hh : w'.heap = w.heap) : ownF w' base v l := h.stay fun k _ => by rw [hh]
theorem ownF.at_ {w : World} {base : Nat} {A : Option Addr} {n c : Nat} {l : List Fld} (h : ownF w base (.slice A n c) l) (j : Nat) (hj : j < l.length) :
    ∃ g, A = some ⟨g, 0, none⟩ ∧ g < w.heap.size ∧ w.cell? ⟨g, j * 2, none⟩ = some (.string (bs l[j].1)) ∧ w.cell? ⟨g, j * 2 + 1, none⟩ = some (.string (bs l[j].2)) ∧ (∀ o, w.frozen? ⟨g, o, none⟩ = false) := by
  rcases h.2 with ⟨hv, hn⟩ | ⟨g, cap, cur, hv, hb, hg, hnc, hcm, hcs, ht⟩
  · cases hv; omega
  · cases hv
    obtain ⟨h1, h2⟩ := fcs_at l j hj
    have hh : w.ownsRow base 42 2 (.slice (some ⟨g, 0, none⟩) l.length c) l.length (fcs l) := h
    refine ⟨g, rfl, (Array.getElem?_eq_some_iff.1 hg).1, by rw [hh.cellAt (j * 2) (by omega)]; exact h1, by rw [hh.cellAt (j * 2 + 1) (by omega)]; exact h2, fun o => by simp [World.frozen?, hg]⟩
theorem ownF_setLow {w : World} {base : Nat} {v : Value} {l : List Fld} (h : ownF w base v l) {a : Addr} (ha : a.block < base) (u : Value) : ownF (w.setCell a u) base v l := ownsRow_setCell_below h ha u
theorem ent_one (e : En) (vf vv : Value) {w w' : World} {l m : List Fld} (h1 : FL w vf l) (h2 : FL w' vv m) : (#[.int .i64 e.st, .string (bs e.re), .int .i64 e.mi, vf, .string (bs e.bo), .int .i64 e.ak, .int .i64 e.gt, vv] : Array Value).all (·.oneCell') = true := by
  obtain ⟨A, c, rfl⟩ := h1.form
  obtain ⟨A', c', rfl⟩ := h2.form
  kernel_rfl
theorem infoEn : Hid ((Tryd.prog.info? 26).map (·.size) = some 8) := by
  have : (Tryd.prog.info? 26).map (fun i => i.size) = some 8 := by kernel_rfl
  exact this
end Go.Proofs.YtdaiielhohdgiaaDoor
