/- What the fields of one name say: the framing layer's listOf. -/
import Derived.Test.YtnhkebbmgiokbaaDoorFieldsG
import Derived.Test.YtnhkebbmgiokbaaDoorTextV
import Derived.Test.YtnhkebbmgiokbaaDoorFramingA
namespace Go.Proofs.YtnhkebbmgiokbaaDoor
open Go.RowKit

/-- block b holds just these cells -/
def blk (w : World) (b : Nat) (cs : Array Value) : Prop := ∃ T, w.heap[b]? = some (.cells cs T (0, 0))
theorem blk.cell {w : World} {b : Nat} {cs : Array Value} (h : blk w b cs) (j : Nat) (u : Value) (hj : cs[j]? = some u) : w.cell? ⟨b, j, none⟩ = some u := by
  obtain ⟨T, h⟩ := h
  exact (cell_of_row w b j cs T _ h).trans hj
theorem blk.free {w : World} {b : Nat} {cs : Array Value} (h : blk w b cs) (j : Nat) : w.frozen? ⟨b, j, none⟩ = false := by
  obtain ⟨T, h⟩ := h
  simp [World.frozen?, h]
theorem blk.set {w : World} {b : Nat} {cs : Array Value} (h : blk w b cs) (j : Nat) (u : Value) : blk (w.setCell ⟨b, j, none⟩ u) b (cs.setIfInBounds j u) := by
  obtain ⟨T, h⟩ := h
  exact ⟨T, Lib.heap_setCell_same h u⟩
theorem blk.other {w : World} {b : Nat} {cs : Array Value} (h : blk w b cs) {a : Addr} (ha : b ≠ a.block) (u : Value) : blk (w.setCell a u) b cs := by
  obtain ⟨T, h⟩ := h
  exact ⟨T, by rw [Below.heap_setCell _ _ _ _ ha]; exact h⟩
theorem blk.keep {w w' : World} {b : Nat} {cs : Array Value} (h : blk w b cs) (hk : w'.heap[b]? = w.heap[b]?) : blk w' b cs := by
  obtain ⟨T, h⟩ := h
  exact ⟨T, hk.trans h⟩
theorem blk.lt {w : World} {b : Nat} {cs : Array Value} (h : blk w b cs) : b < w.heap.size := by
  obtain ⟨T, h⟩ := h
  exact (Array.getElem?_eq_some_iff.1 h).1
theorem blk.below {w w' : World} {b : Nat} {cs : Array Value} (h : blk w b cs) (hb : Below w.heap.size w w') : blk w' b cs := h.keep (hb.block b h.lt)
theorem blk.new (w : World) (cs : Array Value) (T : TypeId) : blk (w.alloc (.cells cs T)) w.heap.size cs := ⟨T, heap_alloc_new w _⟩
theorem blk.alloc {w : World} {b : Nat} {cs : Array Value} (h : blk w b cs) (o : Obj) : blk (w.alloc o) b cs := h.keep (Below.heap_alloc _ _ _ h.lt)
theorem cell_same {w w' : World} {p : Addr} (h : w'.heap[p.block]? = w.heap[p.block]?) : w'.cell? p = w.cell? p := by
  unfold World.cell?; rw [h]

theorem split44 (x : List UInt8) (w : World) (h : x.length ≤ 4294967296) : Calls Tryd.prog 48 #[.string (bs x), .int .u8 44] w (SplitPost x 44 w) := by
  have := split_any (bs x) 44 w (by rw [bs_size]; exact h)
  rwa [bs_data] at this

/-- a list as a value: are there fields, has one an error, the elements -/
def listV (vs : List (List UInt8)) (v : Value) : Value := .agg #[.bool (!vs.isEmpty), .bool (amissB vs), v]
/-- where the row of a slice lies that a call has made -/
theorem ownS.at {w : World} {base : Nat} {A : Option Addr} {n c : Nat} {L : List (List UInt8)} (h : ownS w base (.slice A n c) L) (j : Nat) (hj : j < L.length) :
    ∃ g, A = some ⟨g, 0, none⟩ ∧ base ≤ g ∧ g < w.heap.size ∧ w.cell? ⟨g, j, none⟩ = some (.string (bs L[j])) := by
  obtain ⟨g, rfl, hc⟩ := ownS.cell h j hj
  obtain ⟨h1, h2⟩ := World.ownsRow.lt h g rfl
  exact ⟨g, rfl, h1, h2, by rw [hc]; simp [List.getD, hj]⟩

theorem ownS.setTwo {w : World} {base : Nat} {v : Value} {L : List (List UInt8)} {b : Nat} (h : ownS w base v L) (x y : Value) (hb : b < base) : SL ((w.setCell ⟨b, 0, none⟩ x).setCell ⟨b, 1, none⟩ y) v L :=
  ((h.setLow (a := ⟨b, 0, none⟩) hb x).setLow (a := ⟨b, 1, none⟩) hb y).sl

/-- what listOf has put together of the values ahead of one -/
structure LMem (w w1 wr : World) (b : Nat) (x y : Bool) (L : List (List UInt8)) (v : Value) : Prop where
  box : blk wr b #[.bool x, .bool y, v]
  own : ownS wr w1.heap.size v L
  keep : ∀ k, k < w1.heap.size → k ≠ b → wr.heap[k]? = w1.heap[k]?
  bel : Below w.heap.size w wr
theorem LMem.below {w w1 wr w2 : World} {b : Nat} {x y : Bool} {L : List (List UInt8)} {v : Value} (h : LMem w w1 wr b x y L v) (hz : w1.heap.size ≤ wr.heap.size) (hb : Below wr.heap.size wr w2) : LMem w w1 w2 b x y L v :=
  ⟨h.box.below hb, h.own.bel hb, fun k h1 h2 => (hb.block k (by omega)).trans (h.keep k h1 h2), h.bel.trans (hb.mono h.bel.size)⟩
theorem LMem.put {w w1 wr : World} {b : Nat} {x y : Bool} {L : List (List UInt8)} {v : Value} (h : LMem w w1 wr b x y L v) (hB : w.heap.size ≤ b) (hb1 : b < w1.heap.size) (x' y' : Bool) :
    LMem w w1 ((wr.setCell ⟨b, 0, none⟩ (.bool x')).setCell ⟨b, 1, none⟩ (.bool y')) b x' y' L v :=
  ⟨by simpa using (h.box.set 0 (.bool x')).set 1 (.bool y'), (h.own.setLow (a := ⟨b, 0, none⟩) hb1 _).setLow (a := ⟨b, 1, none⟩) hb1 _,
    fun k h1 h2 => by rw [Below.heap_setCell _ _ _ _ h2, Below.heap_setCell _ _ _ _ h2]; exact h.keep k h1 h2, (h.bel.setCell hB _).setCell hB _⟩
theorem LMem.store {w w1 wr w2 : World} {b : Nat} {x y : Bool} {L M : List (List UInt8)} {v v2 : Value} (h : LMem w w1 wr b x y L v) (hB : w.heap.size ≤ b) (hb1 : b < w1.heap.size)
    (ho : ownS w2 w1.heap.size v2 M) (hb : Below w.heap.size w w2) (hk : ∀ k, k < w1.heap.size → w2.heap[k]? = wr.heap[k]?) :
    LMem w w1 (w2.setCell ⟨b, 2, none⟩ v2) b x y M v2 :=
  ⟨by simpa using (h.box.keep (hk b hb1)).set 2 v2, ho.setLow (a := ⟨b, 2, none⟩) hb1 _,
    fun k h1 h2 => by rw [Below.heap_setCell _ _ _ _ h2]; exact (hk k h1).trans (h.keep k h1 h2), hb.setCell hB _⟩

set_option maxRecDepth 100000 in
set_option maxHeartbeats 1000000 in
theorem listOf_any (v : Value) (l : List Fld) (n : List UInt8) (w : World) (h : FL w v l) (hs : smallF l) (hl : l.length ≤ 1048576) (hn : n.length ≤ 4294967296) (hv : ∀ x ∈ valsL l n, x.length ≤ 4294967296) :
    Calls Tryd.prog 30 #[v, .string (bs n)] w fun e w' => ∃ v', e = .returned (listV (valsL l n) v') ∧ SL w' v' (elemsL (valsL l n)) ∧ Below w.heap.size w w' := by
  have hvl : (valsL l n).length ≤ 1048576 := Nat.le_trans (vals_len l n) hl
  have hal : Below w.heap.size w ((w.alloc (.cells #[.bool false, .bool false, .slice none 0 0] 46)).alloc (.cells #[.bool false, .bool false, .slice none 0 0] 46)) :=
    ((Below.refl _ _).alloc (Nat.le_refl _) _).alloc (by simp) _
  have hva := values_any v l n _ (h.bel hal) hs hl hn
  have hbx := blk.new (w.alloc (.cells #[.bool false, .bool false, .slice none 0 0] 46)) #[.bool false, .bool false, .slice none 0 0] 46
  rw [World.size_alloc] at hbx
  have hbr := (blk.new w #[.bool false, .bool false, .slice none 0 0] 46).alloc (.cells #[.bool false, .bool false, .slice none 0 0] 46)
  have HVA := Lib.hid hva; have HAL := Lib.hid hal; have HBX := Lib.hid hbx; have HBR := Lib.hid hbr; clear hva hal hbx hbr h
  have HV := Lib.hid hv; clear hv
  generalize valsL l n = vs at *
  go_enter Tryd.func30, Tryd.ntmps30
  go_wp2_with fail
  refine HVA.out.mono ?_
  rintro e w1 ⟨v1, rfl, ho1, hb1⟩
  replace ho1 : ownS w1 (w.heap.size + 1 + 1) v1 vs := by simpa using ho1
  have hz1 : w.heap.size + 1 + 1 ≤ w1.heap.size := by simpa using hb1.size
  have HL0 : Hid (LMem w w1 w1 (w.heap.size + 1) (!(vs.take 0).isEmpty) (amissB (vs.take 0)) (elemsL (vs.take 0)) (.slice none 0 0)) :=
    ⟨HBX.out.below hb1, ownS_nil _ _, fun _ _ _ => rfl, HAL.out.trans (hb1.mono HAL.out.size)⟩
  have HR1 := Lib.hid (HBR.out.below hb1)
  obtain ⟨A1, c1, rfl⟩ := ho1.form
  have HO1 := Lib.hid ho1; have HZ1 := Lib.hid hz1; clear ho1 hb1 hz1 HVA HAL HBX HBR
  go_wp2_with fail
  go_loopw [14] (fun i wr => ∃ (k : Nat) (v : Value), k ≤ vs.length ∧ i = .int .i64 k ∧ LMem w w1 wr (w.heap.size + 1) (!(vs.take k).isEmpty) (amissB (vs.take k)) (elemsL (vs.take k)) v ∧ w1.heap.size ≤ wr.heap.size) (fun i _ => vs.length - (intOf i).toNat)
  case atStart => exact ⟨0, _, Nat.zero_le _, rfl, HL0.out, Nat.le_refl _⟩
  case round =>
    obtain ⟨k, v, hk, rfl, hm, hz⟩ := hrel
    by_cases hlt : k < vs.length
    · obtain ⟨g, rfl, hg1, hg2, hc⟩ := HO1.out.at k hlt
      have hcr : wr.cell? ⟨g, k, none⟩ = some (.string (bs vs[k])) := (cell_same (p := ⟨g, k, none⟩) (hm.keep g hg2 (by omega))).trans hc
      have HES := Lib.hid (elems_snoc hlt); have HAS := Lib.hid (amiss_snoc hlt)
      have HTS : Hid ((!(vs.take (k + 1)).isEmpty) = true) := by
        show _ = _
        rw [List.take_succ_eq_append_getElem hlt]; simp; rintro rfl; simp at hlt
      have HX := Lib.hid (HV.out _ (List.getElem_mem hlt))
      have HLN : Hid ((elemsL (vs.take k)).length + (splitL vs[k] 44).length ≤ 4294967296) := by
        have h1 := elems_len (vs.take k); have h2 := splitF_len vs[k] 44
        have h3 : (vs.take k).length ≤ vs.length := List.length_take_le' _ _
        show _ ≤ _; omega
      generalize vs[k] = x at *
      have HM := Lib.hid hm; have HZ := Lib.hid hz; clear hm hz hg1 hg2 hc
      go_wp2_with fail
      refine (split44 x _ HX.out).mono ?_
      rintro e w2 ⟨v2, rfl, ho2, hb2⟩
      have HM2 := Lib.hid (HM.out.below HZ.out hb2); have HZ2 := Lib.hid (Nat.le_trans HZ.out hb2.size)
      have HO2 := Lib.hid ho2; have HG2 := Lib.hid HZ.out; clear ho2 hb2 HM
      generalize splitE x 44 = E at *
      generalize splitL x 44 = M at *
      generalize amissB (vs.take k) = y at *
      generalize elemsL (vs.take k) = L at *
      cases y
      · have hc0 := HM2.out.box.free 0
        have hd0 := HM2.out.box.cell 0 (.bool (!(vs.take k).isEmpty)) rfl
        have hc1 := (HM2.out.box.set 0 (.bool true)).cell 1 (.bool false) rfl
        have hc2 := (HM2.out.box.set 0 (.bool true)).free 1
        have HM4 := Lib.hid (HM2.out.put (by omega) (by have := HZ1.out; omega) true (E != 0))
        have hc3 := HM4.out.box.cell 2 v rfl
        have HR : Hid (amissB (vs.take (k + 1)) = (E != 0)) := HAS.out
        clear HAS HM2
        go_wp2_with (at_builtin; refine wpList_appSS rfl (.tmp 32) (.tmp 33) rfl w1.heap.size w.heap.size _ _ _ _ rfl HM4.out.own HM4.out.bel (by have := HZ1.out; omega) (by simpa using HZ2.out) rfl (HO2.out.setTwo _ _ (by have := HZ1.out; have := HG2.out; omega)) HLN.out ?_; intro v5 w5 HO5 HB5 HK5 HS5; obtain ⟨A5, c5, rfl⟩ := HO5.out.form;  have hc5 := (HM4.out.box.keep (HK5.out _ (by have := HZ1.out; omega))).free 2; have hd5 := (HM4.out.box.keep (HK5.out _ (by have := HZ1.out; omega))).cell 2 _ rfl; have HM5 := Lib.hid (HM4.out.store (by omega) (by have := HZ1.out; omega) HO5.out HB5.out HK5.out))
        go_roundw
        case rel => exact ⟨k + 1, _, by omega, by go_num, by rw [HTS.out, HES.out, HR.out]; have h := HM5.out; rw [List.length_append] at h; exact h, by have h := HS5.out; have h2 := HZ2.out; simp at h ⊢; omega⟩
        case measure => simp [intOf]; omega
      · have hc0 := HM2.out.box.free 0
        have hd0 := HM2.out.box.cell 0 (.bool (!(vs.take k).isEmpty)) rfl
        have hc1 := (HM2.out.box.set 0 (.bool true)).cell 1 (.bool true) rfl
        have hc2 := (HM2.out.box.set 0 (.bool true)).free 1
        have HM4 := Lib.hid (HM2.out.put (by omega) (by have := HZ1.out; omega) true true)
        have hc3 := HM4.out.box.cell 2 v rfl
        have HR : Hid (amissB (vs.take (k + 1)) = true) := HAS.out
        clear HAS HM2
        go_wp2_with (at_builtin; refine wpList_appSS rfl (.tmp 32) (.tmp 33) rfl w1.heap.size w.heap.size _ _ _ _ rfl HM4.out.own HM4.out.bel (by have := HZ1.out; omega) (by simpa using HZ2.out) rfl (HO2.out.setTwo _ _ (by have := HZ1.out; have := HG2.out; omega)) HLN.out ?_; intro v5 w5 HO5 HB5 HK5 HS5; obtain ⟨A5, c5, rfl⟩ := HO5.out.form;  have hc5 := (HM4.out.box.keep (HK5.out _ (by have := HZ1.out; omega))).free 2; have hd5 := (HM4.out.box.keep (HK5.out _ (by have := HZ1.out; omega))).cell 2 _ rfl; have HM5 := Lib.hid (HM4.out.store (by omega) (by have := HZ1.out; omega) HO5.out HB5.out HK5.out))
        go_roundw
        case rel => exact ⟨k + 1, _, by omega, by go_num, by rw [HTS.out, HES.out, HR.out]; have h := HM5.out; rw [List.length_append] at h; exact h, by have h := HS5.out; have h2 := HZ2.out; simp at h ⊢; omega⟩
        case measure => simp [intOf]; omega
    · have HTS : Hid (vs.take k = vs) := List.take_of_length_le (by omega)
      rw [HTS.out] at hm
      obtain ⟨Av, cv, rfl⟩ := hm.own.form
      have HM := Lib.hid hm; clear hm
      have hc0 := HM.out.box.cell 0 (.bool (!vs.isEmpty)) rfl
      have hc1 := HM.out.box.cell 1 (.bool (amissB vs)) rfl
      have hc2 := HM.out.box.cell 2 (.slice Av (elemsL vs).length cv) rfl
      have HR : Hid (blk wr w.heap.size #[.bool false, .bool false, .slice none 0 0]) := HR1.out.keep (HM.out.keep _ (by have := HZ1.out; omega) (by omega))
      have hf0 := HR.out.free 0
      have hg0 := HR.out.cell 0 (.bool false) rfl
      have hg1 := (HR.out.set 0 (.bool (!vs.isEmpty))).cell 1 (.bool false) rfl
      have hg2 := ((HR.out.set 0 (.bool (!vs.isEmpty))).set 1 (.bool (amissB vs))).cell 2 (.slice none 0 0) rfl
      have hf1 := (HR.out.set 0 (.bool (!vs.isEmpty))).free 1
      have hf2 := ((HR.out.set 0 (.bool (!vs.isEmpty))).set 1 (.bool (amissB vs))).free 2
      have HR3 := Lib.hid (((HR.out.set 0 (.bool (!vs.isEmpty))).set 1 (.bool (amissB vs))).set 2 (.slice Av (elemsL vs).length cv))
      clear HR HTS
      have m0 := HR3.out.cell 0 (.bool (!vs.isEmpty)) rfl
      have m1 := HR3.out.cell 1 (.bool (amissB vs)) rfl
      have m2 := HR3.out.cell 2 (.slice Av (elemsL vs).length cv) rfl
      have HO := Lib.hid (((HM.out.own.setLow (a := ⟨w.heap.size, 0, none⟩) (by have := HZ1.out; show w.heap.size < _; omega) (.bool (!vs.isEmpty))).setLow (a := ⟨w.heap.size, 1, none⟩) (by have := HZ1.out; show w.heap.size < _; omega) (.bool (amissB vs))).setLow (a := ⟨w.heap.size, 2, none⟩) (by have := HZ1.out; show w.heap.size < _; omega) (.slice Av (elemsL vs).length cv)).sl
      have HB : Hid (Below w.heap.size w (((wr.setCell ⟨w.heap.size, 0, none⟩ (.bool (!vs.isEmpty))).setCell ⟨w.heap.size, 1, none⟩ (.bool (amissB vs))).setCell ⟨w.heap.size, 2, none⟩ (.slice Av (elemsL vs).length cv))) := ((HM.out.bel.setCell (Nat.le_refl _) _).setCell (Nat.le_refl _) _).setCell (Nat.le_refl _) _
      clear HM
      go_wp2_with fail
      exact bodyPost_ret (v := listV vs (.slice Av (elemsL vs).length cv)) (by simp [results, Tryd.results30, go_sem, m0, m1, m2, listV]) rfl ⟨_, rfl, HO.out, HB.out⟩
end Go.Proofs.YtnhkebbmgiokbaaDoor
