/- A slice of texts that the call has made, and all texts of another behind it. What a length is, what a coding, which replies have no body. -/
import Derived.Test.YtgkjjmcjlobbpaaGreatDoorKFieldsA
import Derived.Test.YtgkjjmcjlobbpaaGreatDoorKFieldsG
import Derived.Test.YtgkjjmcjlobbpaaGreatDoorKLineA
import Derived.Test.YtgkjjmcjlobbpaaGreatDoorKPlain
import Derived.Test.YtgkjjmcjlobbpaaGreatDoorKTextT
import Derived.Lib.AppendZeros
import Derived.Shelf.Abstract
namespace Go.Proofs.YtgkjjmcjlobbpaaGreatDoor
open Go.RowKit

theorem app_nothingS (ty : TypeId) (A : Option Addr) (n cap c : Nat) (w : World) (hA : A = none → n = 0 ∧ cap = 0) (hn : n ≤ cap) :
    (Builtin.append_ #[51, 51] ty #[.slice A n cap, .slice none 0 c]).run Tryz.prog w = .ok (.slice A n cap) w := by
  obtain ⟨i0, hi, hz0, hz1, hz2⟩ := info_parts infoS
  cases A with
  | none =>
    obtain ⟨rfl, rfl⟩ := hA rfl
    simp [Builtin.append_, run_underlying Tryz.underlying51, sizeOf, typeInfo, hi, Builtin.lenOf, Builtin.firstCells]
  | some a =>
    simp [Builtin.append_, run_underlying Tryz.underlying51, sizeOf, typeInfo, hi, Builtin.lenOf, Builtin.firstCells, hn, storeCells]
/-- 'append(l, m...)': the texts of the one, those of the other. What lies below the slice's base stands. -/
theorem wpList_appSS {w0 w : World} {ops : Array Oper} {rest : List Oper} {o : Oper} {a : Act} {Q : Exit → Act → World → Prop} (hgd : o.guard = none) (s x : Operand)
    (ho : o.op = .call { callee := .builtin .append, args := #[s, x], argTypes := #[51, 51] })
    (base B : Nat) (v vx : Value) (l m : List (List UInt8)) (hs : a.eval s = v) (hown : ownS w base v l) (hb : Below B w0 w) (hBb : B ≤ base) (hbase : base ≤ w.heap.size)
    (hx : a.eval x = vx) (hm : SL w vx m) (hlen : l.length + m.length ≤ 4294967296)
    (h : ∀ v' w', Hid (ownS w' base v' (l ++ m)) → Hid (Below B w0 w') → Hid (∀ b, b < base → w'.heap[b]? = w.heap[b]?) → Hid (w.heap.size ≤ w'.heap.size) → wpList Tryz.prog ops Q rest (a.put o.dst v') w') :
    wpList Tryz.prog ops Q (o :: rest) a w := by
  obtain ⟨i0, hi, hz0, hz1, hz2⟩ := info_parts infoS
  have key : ∀ (ad : Addr) (c : Nat), vx = .slice (some ad) m.length c → (∀ j u, (strCs m)[j]? = some u → w.cell? (ad.add j) = some u) → wpList Tryz.prog ops Q (o :: rest) a w := by
    intro ad c hv hc
    refine wpList_append_own _ hgd s x 51 ho base 9 i0 (.string ⟨#[]⟩) 1 16 Tryz.underlying51 hi hz0 hz1 hz2 rfl (by decide) v l.length _ hs hown ad m.length c (strCs m) (hx.trans hv) (by simp [strCs]) hc ?_ ?_ ?_ hbase ?_
    · intro v hv; simp [strCs] at hv; obtain ⟨y, _, rfl⟩ := hv; rfl
    · unfold maxLen; omega
    · omega
    · intro v' w' h1 h2 _
      have hge : ∀ k, v.ownBlock = some k → base ≤ k := fun k hk => (World.ownsRow.lt hown k hk).1
      refine h v' w' ?_ ?_ ?_ h2.size
      · show ownS _ _ _ _
        unfold ownS
        rw [List.length_append, show strCs (l ++ m) = strCs l ++ strCs m from by simp [strCs]]
        exact h1
      · exact hb.grown h2 (Nat.le_trans hBb hbase) (fun k hk => Nat.le_trans hBb (hge k hk))
      · intro b hb2
        exact h2.block b (by omega) (fun e => by have := hge b e.symm; omega)
  rcases hm with ⟨rfl, A, c, hv⟩ | ⟨b, off, c, hv, _, hc⟩
  · cases A with
    | some ad => exact key ad c hv (fun j u hu => by simp [strCs] at hu)
    | none =>
      have hform : ∃ A n cap, v = .slice A l.length cap ∧ (A = none → l.length = 0 ∧ cap = 0) ∧ l.length ≤ cap ∧ n = l.length := by
        rcases hown.2 with ⟨rfl, hn⟩ | ⟨g, cap, cur, rfl, _, _, hnc, _⟩
        · exact ⟨none, 0, 0, by rw [hn], fun _ => ⟨hn, rfl⟩, by omega, hn.symm⟩
        · exact ⟨some ⟨g, 0, none⟩, l.length, cap, rfl, (fun e => by cases e), hnc, rfl⟩
      obtain ⟨A, _, cap, rfl, h1, h2, _⟩ := hform
      refine Lib.wpList_append_run _ hgd s x 51 51 ho _ _ hs (hx.trans hv) _ _ (app_nothingS _ A l.length cap c w h1 h2) ?_
      exact h _ _ (by rw [List.append_nil]; exact hown) hb (fun _ _ => rfl) (Nat.le_refl _)
  · refine key ⟨b, off, none⟩ c hv fun j u hu => ?_
    have hj : j < m.length := by have := (List.getElem?_eq_some_iff.1 hu).1; simpa [strCs] using this
    rw [Addr.add_lit, hc j hj]
    simp [strCs, hj] at hu
    rw [hu]

theorem dig_no {n : Int} (h : digI n = false) : n < 48 ∨ (¬ n < 48 ∧ 57 < n) := by
  unfold digI at h; simp only [decide_eq_false_iff_not] at h; omega
theorem dig_yes {n : Int} (h : digI n = true) : ¬ n < 48 ∧ ¬ 57 < n := by
  unfold digI at h; simp only [decide_eq_true_iff] at h; omega
theorem lenB_all {s : ByteArray} (h : s.data.toList.all digB = true) : lenB s.data.toList = (decide (1 ≤ s.size) && decide (s.size ≤ 18)) := by
  unfold lenB; rw [h, Bool.and_true, ← size_len, Bool.decide_and]
theorem lenB_not {s : ByteArray} (h : s.data.toList.all digB = false) : lenB s.data.toList = false := by
  unfold lenB; rw [h, Bool.and_false]
set_option maxRecDepth 100000 in
theorem isLength_any (s : ByteArray) (w : World) (hs : s.size ≤ 4294967296) :
    Calls Tryz.prog 174 #[.string s] w fun e w' => e = .returned (.bool (lenB s.data.toList)) ∧ w = w' := by
  go_enter Tryz.func174, Tryz.ntmps174
  go_wp2_with fail
  go_loop [6] (fun i => ∃ k : Nat, k ≤ s.size ∧ i = .int .i64 k ∧ (s.data.toList.take k).all digB = true) (fun i => s.size - (intOf i).toNat)
  case atStart => exact ⟨0, Nat.zero_le _, rfl, rfl⟩
  case round =>
    obtain ⟨k, hk, rfl, ht⟩ := hrel
    have HT := Lib.hid ht; clear ht
    by_cases hlt : k < s.size
    · cases hm : digI (s[k].toNat : Int)
      · have HA := Lib.hid (lenB_not (all_not s digB k hlt hm))
        rcases dig_no hm with h1 | ⟨h1, h2⟩
        all_goals
          clear hm
          go_wp2_with fail
          go_ret
          exact ⟨ret_bool HA.out.symm, rfl⟩
      · have HA := Lib.hid (all_snoc s digB k hlt HT.out hm)
        obtain ⟨h1, h2⟩ := dig_yes hm
        clear hm
        go_wp2_with fail
        go_round
        case rel => exact ⟨k + 1, by omega, by go_num, HA.out⟩
        case measure => simp [intOf]; omega
    · have HA : Hid (lenB s.data.toList = (decide (1 ≤ s.size) && decide (s.size ≤ 18))) := lenB_all (by have h := HT.out; rwa [take_all hlt] at h)
      by_cases h1 : 1 ≤ s.size
      · have h1' : 1 ≤ (s.size : Int) := by omega
        go_wp2_with fail
        go_ret
        exact ⟨ret_bool (by rw [HA.out, decide_eq_true h1, Bool.true_and, decide_eq_decide]; omega), rfl⟩
      · have h1' : ¬ 1 ≤ (s.size : Int) := by omega
        go_wp2_with fail
        go_ret
        exact ⟨ret_bool (by rw [HA.out, decide_eq_false h1, Bool.false_and]), rfl⟩
theorem isLength_l (n : List UInt8) (w : World) (h : n.length ≤ 4294967296) : Calls Tryz.prog 174 #[.string (bs n)] w fun e w' => e = .returned (.bool (lenB n)) ∧ w = w' := by
  have := isLength_any (bs n) w (by rw [bs_size]; exact h)
  rwa [bs_data] at this

theorem chN_bytes : (⟨#[99, 104, 117, 110, 107, 101, 100]⟩ : ByteArray).data.toList = chN := rfl
set_option maxRecDepth 100000 in
theorem isChunked_l (n : List UInt8) (w : World) (h : n.length ≤ 4294967296) : Calls Tryz.prog 175 #[.string (bs n)] w fun e w' => e = .returned (.bool (chB n)) ∧ Below w.heap.size w w' := by
  go_enter Tryz.func175, Tryz.ntmps175
  go_wp2_with fail
  refine (same_any _ _ _ (by rw [bs_size]; unfold maxLen; omega) (by unfold maxLen; decide)).mono ?_
  rintro e w1 ⟨rfl, hb⟩
  have HB := Lib.hid hb; clear hb
  go_wp2_with fail
  go_ret
  exact ⟨ret_bool rfl, HB.out⟩

set_option maxRecDepth 100000 in
theorem bodiless_any (n : Int) (w : World) :
    Calls Tryz.prog 126 #[.int .i64 n] w fun e w' => e = .returned (.bool (bareB n)) ∧ w = w' := by
  have hb : bareB n = ((decide (100 ≤ n) && decide (n ≤ 199)) || (n == 204 || n == 304)) := rfl
  have HB := Lib.hid hb; clear hb
  by_cases h1 : 100 ≤ n <;> by_cases h2 : n ≤ 199 <;> cases h3 : (n == 204) <;> cases h4 : (n == 304)
  all_goals
    go_enter Tryz.func126, Tryz.ntmps126
    go_wp2_with fail
    go_ret
    exact ⟨ret_bool (by rw [HB.out]; simp [h1, h2, h3, h4]), rfl⟩
end Go.Proofs.YtgkjjmcjlobbpaaGreatDoor

/- What the fields of one name say: the framing layer's listOf. -/
namespace Go.Proofs.YtgkjjmcjlobbpaaGreatDoor
open Go.RowKit

/-- block b holds just these cells -/
def blk (w : World) (b : Nat) (cs : Array Value) : Prop := ∃ T, w.heap[b]? = some (.cells cs T (0, 0))
theorem blk.cell {w : World} {b : Nat} {cs : Array Value} (h : blk w b cs) (j : Nat) (u : Value) (hj : cs[j]? = some u) : w.cell? ⟨b, j, none⟩ = some u := by
  obtain ⟨T, h⟩ := h
  exact (cell_of_row w b j cs T _ h).trans hj
theorem blk.free {w : World} {b : Nat} {cs : Array Value} (h : blk w b cs) (j : Nat) : w.frozen? ⟨b, j, none⟩ = false := by
  obtain ⟨T, h⟩ := h
  simp [World.frozen?, h]
theorem blk.set {w : World} {b : Nat} {cs : Array Value} (h : blk w b cs) (j : Nat) (u : Value) : blk (w.setCell ⟨b, j, none⟩ u) b (cs.setIfInBounds j u) := by
  obtain ⟨T, h⟩ := h
  exact ⟨T, Lib.heap_setCell_same h u⟩
theorem blk.other {w : World} {b : Nat} {cs : Array Value} (h : blk w b cs) {a : Addr} (ha : b ≠ a.block) (u : Value) : blk (w.setCell a u) b cs := by
  obtain ⟨T, h⟩ := h
  exact ⟨T, by rw [Below.heap_setCell _ _ _ _ ha]; exact h⟩
theorem blk.keep {w w' : World} {b : Nat} {cs : Array Value} (h : blk w b cs) (hk : w'.heap[b]? = w.heap[b]?) : blk w' b cs := by
  obtain ⟨T, h⟩ := h
  exact ⟨T, hk.trans h⟩
theorem blk.lt {w : World} {b : Nat} {cs : Array Value} (h : blk w b cs) : b < w.heap.size := by
  obtain ⟨T, h⟩ := h
  exact (Array.getElem?_eq_some_iff.1 h).1
theorem blk.below {w w' : World} {b : Nat} {cs : Array Value} (h : blk w b cs) (hb : Below w.heap.size w w') : blk w' b cs := h.keep (hb.block b h.lt)
theorem blk.new (w : World) (cs : Array Value) (T : TypeId) : blk (w.alloc (.cells cs T)) w.heap.size cs := ⟨T, heap_alloc_new w _⟩
theorem blk.alloc {w : World} {b : Nat} {cs : Array Value} (h : blk w b cs) (o : Obj) : blk (w.alloc o) b cs := h.keep (Below.heap_alloc _ _ _ h.lt)
theorem cell_same {w w' : World} {p : Addr} (h : w'.heap[p.block]? = w.heap[p.block]?) : w'.cell? p = w.cell? p := by
  unfold World.cell?; rw [h]

theorem split44 (x : List UInt8) (w : World) (h : x.length ≤ 4294967296) : Calls Tryz.prog 172 #[.string (bs x), .int .u8 44] w (SplitPost x 44 w) := by
  have := split_any (bs x) 44 w (by rw [bs_size]; exact h)
  rwa [bs_data] at this

/-- a list as a value: are there fields, has one an error, the elements -/
def listV (vs : List (List UInt8)) (v : Value) : Value := .agg #[.bool (!vs.isEmpty), .bool (amissB vs), v]
/-- where the row of a slice lies that a call has made -/
theorem ownS.at {w : World} {base : Nat} {A : Option Addr} {n c : Nat} {L : List (List UInt8)} (h : ownS w base (.slice A n c) L) (j : Nat) (hj : j < L.length) :
    ∃ g, A = some ⟨g, 0, none⟩ ∧ base ≤ g ∧ g < w.heap.size ∧ w.cell? ⟨g, j, none⟩ = some (.string (bs L[j])) := by
  obtain ⟨g, rfl, hc⟩ := ownS.cell h j hj
  obtain ⟨h1, h2⟩ := World.ownsRow.lt h g rfl
  exact ⟨g, rfl, h1, h2, by rw [hc]; simp [List.getD, hj]⟩

theorem ownS.setTwo {w : World} {base : Nat} {v : Value} {L : List (List UInt8)} {b : Nat} (h : ownS w base v L) (x y : Value) (hb : b < base) : SL ((w.setCell ⟨b, 0, none⟩ x).setCell ⟨b, 1, none⟩ y) v L :=
  ((h.setLow (a := ⟨b, 0, none⟩) hb x).setLow (a := ⟨b, 1, none⟩) hb y).sl

/-- what listOf has put together of the values ahead of one -/
structure LMem (w w1 wr : World) (b : Nat) (x y : Bool) (L : List (List UInt8)) (v : Value) : Prop where
  box : blk wr b #[.bool x, .bool y, v]
  own : ownS wr w1.heap.size v L
  keep : ∀ k, k < w1.heap.size → k ≠ b → wr.heap[k]? = w1.heap[k]?
  bel : Below w.heap.size w wr
theorem LMem.below {w w1 wr w2 : World} {b : Nat} {x y : Bool} {L : List (List UInt8)} {v : Value} (h : LMem w w1 wr b x y L v) (hz : w1.heap.size ≤ wr.heap.size) (hb : Below wr.heap.size wr w2) : LMem w w1 w2 b x y L v :=
  ⟨h.box.below hb, h.own.bel hb, fun k h1 h2 => (hb.block k (by omega)).trans (h.keep k h1 h2), h.bel.trans (hb.mono h.bel.size)⟩
theorem LMem.put {w w1 wr : World} {b : Nat} {x y : Bool} {L : List (List UInt8)} {v : Value} (h : LMem w w1 wr b x y L v) (hB : w.heap.size ≤ b) (hb1 : b < w1.heap.size) (x' y' : Bool) :
    LMem w w1 ((wr.setCell ⟨b, 0, none⟩ (.bool x')).setCell ⟨b, 1, none⟩ (.bool y')) b x' y' L v :=
  ⟨by simpa using (h.box.set 0 (.bool x')).set 1 (.bool y'), (h.own.setLow (a := ⟨b, 0, none⟩) hb1 _).setLow (a := ⟨b, 1, none⟩) hb1 _,
    fun k h1 h2 => by rw [Below.heap_setCell _ _ _ _ h2, Below.heap_setCell _ _ _ _ h2]; exact h.keep k h1 h2, (h.bel.setCell hB _).setCell hB _⟩
theorem LMem.store {w w1 wr w2 : World} {b : Nat} {x y : Bool} {L M : List (List UInt8)} {v v2 : Value} (h : LMem w w1 wr b x y L v) (hB : w.heap.size ≤ b) (hb1 : b < w1.heap.size)
    (ho : ownS w2 w1.heap.size v2 M) (hb : Below w.heap.size w w2) (hk : ∀ k, k < w1.heap.size → w2.heap[k]? = wr.heap[k]?) :
    LMem w w1 (w2.setCell ⟨b, 2, none⟩ v2) b x y M v2 :=
  ⟨by simpa using (h.box.keep (hk b hb1)).set 2 v2, ho.setLow (a := ⟨b, 2, none⟩) hb1 _,
    fun k h1 h2 => by rw [Below.heap_setCell _ _ _ _ h2]; exact (hk k h1).trans (h.keep k h1 h2), hb.setCell hB _⟩

set_option maxRecDepth 100000 in
set_option maxHeartbeats 1000000 in
theorem listOf_any (v : Value) (l : List Fld) (n : List UInt8) (w : World) (h : FL w v l) (hs : smallF l) (hl : l.length ≤ 1048576) (hn : n.length ≤ 4294967296) (hv : ∀ x ∈ valsL l n, x.length ≤ 4294967296) :
    Calls Tryz.prog 147 #[v, .string (bs n)] w fun e w' => ∃ v', e = .returned (listV (valsL l n) v') ∧ SL w' v' (elemsL (valsL l n)) ∧ Below w.heap.size w w' := by
  have hvl : (valsL l n).length ≤ 1048576 := Nat.le_trans (vals_len l n) hl
  have hal : Below w.heap.size w ((w.alloc (.cells #[.bool false, .bool false, .slice none 0 0] 167)).alloc (.cells #[.bool false, .bool false, .slice none 0 0] 167)) :=
    ((Below.refl _ _).alloc (Nat.le_refl _) _).alloc (by simp) _
  have hva := values_any v l n _ (h.bel hal) hs hl hn
  have hbx := blk.new (w.alloc (.cells #[.bool false, .bool false, .slice none 0 0] 167)) #[.bool false, .bool false, .slice none 0 0] 167
  rw [World.size_alloc] at hbx
  have hbr := (blk.new w #[.bool false, .bool false, .slice none 0 0] 167).alloc (.cells #[.bool false, .bool false, .slice none 0 0] 167)
  have HVA := Lib.hid hva; have HAL := Lib.hid hal; have HBX := Lib.hid hbx; have HBR := Lib.hid hbr; clear hva hal hbx hbr h
  have HV := Lib.hid hv; clear hv
  generalize valsL l n = vs at *
  go_enter Tryz.func147, Tryz.ntmps147
  go_wp2_with fail
  refine HVA.out.mono ?_
  rintro e w1 ⟨v1, rfl, ho1, hb1⟩
  replace ho1 : ownS w1 (w.heap.size + 1 + 1) v1 vs := by simpa using ho1
  have hz1 : w.heap.size + 1 + 1 ≤ w1.heap.size := by simpa using hb1.size
  have HL0 : Hid (LMem w w1 w1 (w.heap.size + 1) (!(vs.take 0).isEmpty) (amissB (vs.take 0)) (elemsL (vs.take 0)) (.slice none 0 0)) :=
    ⟨HBX.out.below hb1, ownS_nil _ _, fun _ _ _ => rfl, HAL.out.trans (hb1.mono HAL.out.size)⟩
  have HR1 := Lib.hid (HBR.out.below hb1)
  obtain ⟨A1, c1, rfl⟩ := ho1.form
  have HO1 := Lib.hid ho1; have HZ1 := Lib.hid hz1; clear ho1 hb1 hz1 HVA HAL HBX HBR
  go_wp2_with fail
  go_loopw [14] (fun i wr => ∃ (k : Nat) (v : Value), k ≤ vs.length ∧ i = .int .i64 k ∧ LMem w w1 wr (w.heap.size + 1) (!(vs.take k).isEmpty) (amissB (vs.take k)) (elemsL (vs.take k)) v ∧ w1.heap.size ≤ wr.heap.size) (fun i _ => vs.length - (intOf i).toNat)
  case atStart => exact ⟨0, _, Nat.zero_le _, rfl, HL0.out, Nat.le_refl _⟩
  case round =>
    obtain ⟨k, v, hk, rfl, hm, hz⟩ := hrel
    by_cases hlt : k < vs.length
    · obtain ⟨g, rfl, hg1, hg2, hc⟩ := HO1.out.at k hlt
      have hcr : wr.cell? ⟨g, k, none⟩ = some (.string (bs vs[k])) := (cell_same (p := ⟨g, k, none⟩) (hm.keep g hg2 (by omega))).trans hc
      have HES := Lib.hid (elems_snoc hlt); have HAS := Lib.hid (amiss_snoc hlt)
      have HTS : Hid ((!(vs.take (k + 1)).isEmpty) = true) := by
        show _ = _
        rw [List.take_succ_eq_append_getElem hlt]; simp; rintro rfl; simp at hlt
      have HX := Lib.hid (HV.out _ (List.getElem_mem hlt))
      have HLN : Hid ((elemsL (vs.take k)).length + (splitL vs[k] 44).length ≤ 4294967296) := by
        have h1 := elems_len (vs.take k); have h2 := splitF_len vs[k] 44
        have h3 : (vs.take k).length ≤ vs.length := List.length_take_le' _ _
        show _ ≤ _; omega
      generalize vs[k] = x at *
      have HM := Lib.hid hm; have HZ := Lib.hid hz; clear hm hz hg1 hg2 hc
      go_wp2_with fail
      refine (split44 x _ HX.out).mono ?_
      rintro e w2 ⟨v2, rfl, ho2, hb2⟩
      have HM2 := Lib.hid (HM.out.below HZ.out hb2); have HZ2 := Lib.hid (Nat.le_trans HZ.out hb2.size)
      have HO2 := Lib.hid ho2; have HG2 := Lib.hid HZ.out; clear ho2 hb2 HM
      generalize splitE x 44 = E at *
      generalize splitL x 44 = M at *
      generalize amissB (vs.take k) = y at *
      generalize elemsL (vs.take k) = L at *
      cases y
      · have hc0 := HM2.out.box.free 0
        have hd0 := HM2.out.box.cell 0 (.bool (!(vs.take k).isEmpty)) rfl
        have hc1 := (HM2.out.box.set 0 (.bool true)).cell 1 (.bool false) rfl
        have hc2 := (HM2.out.box.set 0 (.bool true)).free 1
        have HM4 := Lib.hid (HM2.out.put (by omega) (by have := HZ1.out; omega) true (E != 0))
        have hc3 := HM4.out.box.cell 2 v rfl
        have HR : Hid (amissB (vs.take (k + 1)) = (E != 0)) := HAS.out
        clear HAS HM2
        go_wp2_with (at_builtin; refine wpList_appSS rfl (.tmp 32) (.tmp 33) rfl w1.heap.size w.heap.size _ _ _ _ rfl HM4.out.own HM4.out.bel (by have := HZ1.out; omega) (by simpa using HZ2.out) rfl (HO2.out.setTwo _ _ (by have := HZ1.out; have := HG2.out; omega)) HLN.out ?_; intro v5 w5 HO5 HB5 HK5 HS5; obtain ⟨A5, c5, rfl⟩ := HO5.out.form;  have hc5 := (HM4.out.box.keep (HK5.out _ (by have := HZ1.out; omega))).free 2; have hd5 := (HM4.out.box.keep (HK5.out _ (by have := HZ1.out; omega))).cell 2 _ rfl; have HM5 := Lib.hid (HM4.out.store (by omega) (by have := HZ1.out; omega) HO5.out HB5.out HK5.out))
        go_roundw
        case rel => exact ⟨k + 1, _, by omega, by go_num, by rw [HTS.out, HES.out, HR.out]; have h := HM5.out; rw [List.length_append] at h; exact h, by have h := HS5.out; have h2 := HZ2.out; simp at h ⊢; omega⟩
        case measure => simp [intOf]; omega
      · have hc0 := HM2.out.box.free 0
        have hd0 := HM2.out.box.cell 0 (.bool (!(vs.take k).isEmpty)) rfl
        have hc1 := (HM2.out.box.set 0 (.bool true)).cell 1 (.bool true) rfl
        have hc2 := (HM2.out.box.set 0 (.bool true)).free 1
        have HM4 := Lib.hid (HM2.out.put (by omega) (by have := HZ1.out; omega) true true)
        have hc3 := HM4.out.box.cell 2 v rfl
        have HR : Hid (amissB (vs.take (k + 1)) = true) := HAS.out
        clear HAS HM2
        go_wp2_with (at_builtin; refine wpList_appSS rfl (.tmp 32) (.tmp 33) rfl w1.heap.size w.heap.size _ _ _ _ rfl HM4.out.own HM4.out.bel (by have := HZ1.out; omega) (by simpa using HZ2.out) rfl (HO2.out.setTwo _ _ (by have := HZ1.out; have := HG2.out; omega)) HLN.out ?_; intro v5 w5 HO5 HB5 HK5 HS5; obtain ⟨A5, c5, rfl⟩ := HO5.out.form;  have hc5 := (HM4.out.box.keep (HK5.out _ (by have := HZ1.out; omega))).free 2; have hd5 := (HM4.out.box.keep (HK5.out _ (by have := HZ1.out; omega))).cell 2 _ rfl; have HM5 := Lib.hid (HM4.out.store (by omega) (by have := HZ1.out; omega) HO5.out HB5.out HK5.out))
        go_roundw
        case rel => exact ⟨k + 1, _, by omega, by go_num, by rw [HTS.out, HES.out, HR.out]; have h := HM5.out; rw [List.length_append] at h; exact h, by have h := HS5.out; have h2 := HZ2.out; simp at h ⊢; omega⟩
        case measure => simp [intOf]; omega
    · have HTS : Hid (vs.take k = vs) := List.take_of_length_le (by omega)
      rw [HTS.out] at hm
      obtain ⟨Av, cv, rfl⟩ := hm.own.form
      have HM := Lib.hid hm; clear hm
      have hc0 := HM.out.box.cell 0 (.bool (!vs.isEmpty)) rfl
      have hc1 := HM.out.box.cell 1 (.bool (amissB vs)) rfl
      have hc2 := HM.out.box.cell 2 (.slice Av (elemsL vs).length cv) rfl
      have HR : Hid (blk wr w.heap.size #[.bool false, .bool false, .slice none 0 0]) := HR1.out.keep (HM.out.keep _ (by have := HZ1.out; omega) (by omega))
      have hf0 := HR.out.free 0
      have hg0 := HR.out.cell 0 (.bool false) rfl
      have hg1 := (HR.out.set 0 (.bool (!vs.isEmpty))).cell 1 (.bool false) rfl
      have hg2 := ((HR.out.set 0 (.bool (!vs.isEmpty))).set 1 (.bool (amissB vs))).cell 2 (.slice none 0 0) rfl
      have hf1 := (HR.out.set 0 (.bool (!vs.isEmpty))).free 1
      have hf2 := ((HR.out.set 0 (.bool (!vs.isEmpty))).set 1 (.bool (amissB vs))).free 2
      have HR3 := Lib.hid (((HR.out.set 0 (.bool (!vs.isEmpty))).set 1 (.bool (amissB vs))).set 2 (.slice Av (elemsL vs).length cv))
      clear HR HTS
      have m0 := HR3.out.cell 0 (.bool (!vs.isEmpty)) rfl
      have m1 := HR3.out.cell 1 (.bool (amissB vs)) rfl
      have m2 := HR3.out.cell 2 (.slice Av (elemsL vs).length cv) rfl
      have HO := Lib.hid (((HM.out.own.setLow (a := ⟨w.heap.size, 0, none⟩) (by have := HZ1.out; show w.heap.size < _; omega) (.bool (!vs.isEmpty))).setLow (a := ⟨w.heap.size, 1, none⟩) (by have := HZ1.out; show w.heap.size < _; omega) (.bool (amissB vs))).setLow (a := ⟨w.heap.size, 2, none⟩) (by have := HZ1.out; show w.heap.size < _; omega) (.slice Av (elemsL vs).length cv)).sl
      have HB : Hid (Below w.heap.size w (((wr.setCell ⟨w.heap.size, 0, none⟩ (.bool (!vs.isEmpty))).setCell ⟨w.heap.size, 1, none⟩ (.bool (amissB vs))).setCell ⟨w.heap.size, 2, none⟩ (.slice Av (elemsL vs).length cv))) := ((HM.out.bel.setCell (Nat.le_refl _) _).setCell (Nat.le_refl _) _).setCell (Nat.le_refl _) _
      clear HM
      go_wp2_with fail
      exact bodyPost_ret (v := listV vs (.slice Av (elemsL vs).length cv)) (by simp [results, Tryz.results147, go_sem, m0, m1, m2, listV]) rfl ⟨_, rfl, HO.out, HB.out⟩
end Go.Proofs.YtgkjjmcjlobbpaaGreatDoor

/- The framing layer's checks: whether each element is as it must be; single, formed. -/
namespace Go.Proofs.YtgkjjmcjlobbpaaGreatDoor
open Go.RowKit Go.Shelf

theorem all_snocL {E : List (List UInt8)} {p : List UInt8 → Bool} {k : Nat} (h : k < E.length) (hp : (E.take k).all p = true) (hq : p E[k] = true) : (E.take (k + 1)).all p = true := by
  rw [List.take_succ_eq_append_getElem h, List.all_append, hp]; simp [hq]
theorem all_notL {E : List (List UInt8)} {p : List UInt8 → Bool} {k : Nat} (h : k < E.length) (hq : p E[k] = false) : E.all p = false := by
  rw [← Bool.not_eq_true, List.all_eq_true]
  intro H
  have := H E[k] (List.getElem_mem h)
  rw [hq] at this; cases this
/-- a function that tells of a text whether it is so -/
def Tells (f : FuncId) (p : List UInt8 → Bool) : Prop := ∀ (x : List UInt8) (w : World), x.length ≤ 4294967296 → Calls Tryz.prog f #[.string (bs x)] w fun e w' => e = .returned (.bool (p x)) ∧ Below w.heap.size w w'
def allE (E : List (List UInt8)) (y : Bool) (p : List UInt8 → Bool) : Bool := E.all p && (!y && decide (0 < E.length))
set_option maxRecDepth 100000 in
set_option maxHeartbeats 1000000 in
theorem all_any (f : FuncId) (p : List UInt8 → Bool) (he : ∀ args w, (callFunc f args).run Tryz.prog w = .ok (.enter f args) w) (hp : Tells f p) (x y : Bool) (v : Value) (E : List (List UInt8)) (w : World)
    (h : SL w v E) (hE : ∀ s ∈ E, s.length ≤ 4294967296) (hl : E.length ≤ 4294967296) :
    Calls Tryz.prog 173 #[.agg #[.bool x, .bool y, v], .func (.func f) #[] #[]] w fun e w' => e = .returned (.bool (allE E y p)) ∧ Below w.heap.size w w' := by
  obtain ⟨A, c, rfl⟩ := h.form
  have hal : Below w.heap.size w (w.alloc (.cells #[.bool x, .bool y, .slice A E.length c] 167)) := (Below.refl _ _).alloc (Nat.le_refl _) _
  have hbk := blk.new w #[.bool x, .bool y, .slice A E.length c] 167
  have hc0 := hbk.cell 2 (.slice A E.length c) rfl
  have HS := Lib.hid (h.bel hal); have HAL := Lib.hid hal; have HBK := Lib.hid hbk; have HE := Lib.hid hE; have HP := Lib.hid hp
  clear h hal hbk hE hp
  go_enter Tryz.func173, Tryz.ntmps173
  go_wp2_with fail
  clear hc0
  generalize w.alloc (.cells #[.bool x, .bool y, .slice A E.length c] 167) = w1 at *
  go_loopw [10] (fun i wr => ∃ k : Nat, k ≤ E.length ∧ i = .int .i64 k ∧ (E.take k).all p = true ∧ Below w1.heap.size w1 wr) (fun i _ => E.length - (intOf i).toNat)
  case atStart => exact ⟨0, Nat.zero_le _, rfl, rfl, Below.refl _ _⟩
  case round =>
    obtain ⟨k, hk, rfl, ht, hb⟩ := hrel
    have HT := Lib.hid ht; have HB := Lib.hid hb; clear ht hb
    by_cases hlt : k < E.length
    · obtain ⟨b, off, rfl, _, hc⟩ := (HS.out.bel HB.out).get k hlt
      have hf := HP.out E[k] wr (HE.out _ (List.getElem_mem hlt))
      cases hq : p E[k]
      · rw [hq] at hf
        have HR : Hid (allE E y p = false) := by show _ = _; unfold allE; rw [all_notL hlt hq]; rfl
        have HF := Lib.hid hf; clear hf hq
        go_wp2_with (go_at_fn f; refine HF.out.mono ?_; rintro e w2 ⟨rfl, hb2⟩; have HB2 := Lib.hid (HB.out.trans (hb2.mono HB.out.size)); clear hb2)
        go_ret
        exact ⟨ret_bool HR.out.symm, HAL.out.trans (HB2.out.mono HAL.out.size)⟩
      · rw [hq] at hf
        have HR := Lib.hid (all_snocL hlt HT.out hq)
        have HF := Lib.hid hf; clear hf hq
        go_wp2_with (go_at_fn f; refine HF.out.mono ?_; rintro e w2 ⟨rfl, hb2⟩; have HB2 := Lib.hid (HB.out.trans (hb2.mono HB.out.size)); clear hb2)
        go_roundw
        case rel => exact ⟨k + 1, by omega, by go_num, HR.out, HB2.out⟩
        case measure => simp [intOf]; omega
    · have HR : Hid (allE E y p = (!y && decide (0 < E.length))) := by
        have h := HT.out
        rw [List.take_of_length_le (by omega)] at h
        show _ = _; unfold allE; rw [h, Bool.true_and]
      have hb2 := HBK.out.below HB.out
      have hc1 := hb2.cell 1 (.bool y) rfl
      have hc2 := hb2.cell 2 (.slice A E.length c) rfl
      clear hb2
      cases y
      · go_wp2_with fail
        go_ret
        exact ⟨ret_bool (by rw [HR.out]; simp), HAL.out.trans (HB.out.mono HAL.out.size)⟩
      · go_wp2_with fail
        go_ret
        exact ⟨ret_bool (by rw [HR.out]; rfl), HAL.out.trans (HB.out.mono HAL.out.size)⟩

theorem e50 (args : Array Value) (w : World) : (callFunc 174 args).run Tryz.prog w = .ok (.enter 174 args) w := enters_of Tryz.func174 (by kernel_rfl) rfl args w
theorem e51 (args : Array Value) (w : World) : (callFunc 175 args).run Tryz.prog w = .ok (.enter 175 args) w := enters_of Tryz.func175 (by kernel_rfl) rfl args w
theorem tellsLength : Tells 174 lenB := fun x w h => (isLength_l x w h).mono fun _ _ h => ⟨h.1, by rw [← h.2]; exact Below.refl _ _⟩
theorem tellsChunked : Tells 175 chB := fun x w h => isChunked_l x w h

/-- what the fields say, as a value -/
def hdrV (x1 y1 : Bool) (v1 : Value) (x2 y2 : Bool) (v2 : Value) : Value := .agg #[.bool x1, .bool y1, v1, .bool x2, .bool y2, v2]
set_option maxRecDepth 100000 in
set_option maxHeartbeats 1000000 in
theorem single_any (x1 y1 x2 y2 : Bool) (A1 A2 : Option Addr) (n1 c1 n2 c2 : Nat) (w : World) :
    Calls Tryz.prog 149 #[hdrV x1 y1 (.slice A1 n1 c1) x2 y2 (.slice A2 n2 c2)] w fun e w' => e = .returned (.int .i64 (if x1 && x2 then 8 else 0)) ∧ Below w.heap.size w w' := by
  have hbk := blk.new w #[.bool x1, .bool y1, .slice A1 n1 c1, .bool x2, .bool y2, .slice A2 n2 c2] 169
  have hal : Below w.heap.size w (w.alloc (.cells #[.bool x1, .bool y1, .slice A1 n1 c1, .bool x2, .bool y2, .slice A2 n2 c2] 169)) := (Below.refl _ _).alloc (Nat.le_refl _) _
  have hc0 := hbk.cell 0 (.bool x1) rfl
  have hc3 := hbk.cell 3 (.bool x2) rfl
  have HAL := Lib.hid hal; clear hal hbk
  unfold hdrV
  cases x1 <;> cases x2
  all_goals
    go_enter Tryz.func149, Tryz.ntmps149
    go_wp2_with fail
    go_ret
    exact ⟨by simp, HAL.out⟩

set_option maxRecDepth 100000 in
set_option maxHeartbeats 2000000 in
theorem formed_any (x1 y1 x2 y2 : Bool) (v1 v2 : Value) (E1 E2 : List (List UInt8)) (w : World) (h1 : SL w v1 E1) (h2 : SL w v2 E2) (hE1 : ∀ s ∈ E1, s.length ≤ 4294967296) (hE2 : ∀ s ∈ E2, s.length ≤ 4294967296) (hl1 : E1.length ≤ 4294967296) (hl2 : E2.length ≤ 4294967296) :
    Calls Tryz.prog 150 #[hdrV x1 y1 v1 x2 y2 v2] w fun e w' =>
      e = .returned (.int .i64 (if (x1 && !allE E1 y1 lenB) || (x2 && !allE E2 y2 chB) then 4 else if 1 < E2.length then 4 else 0)) ∧ Below w.heap.size w w' := by
  obtain ⟨A1, c1, rfl⟩ := h1.form
  obtain ⟨A2, c2, rfl⟩ := h2.form
  have hbk := blk.new w #[.bool x1, .bool y1, .slice A1 E1.length c1, .bool x2, .bool y2, .slice A2 E2.length c2] 169
  have hal : Below w.heap.size w (w.alloc (.cells #[.bool x1, .bool y1, .slice A1 E1.length c1, .bool x2, .bool y2, .slice A2 E2.length c2] 169)) := (Below.refl _ _).alloc (Nat.le_refl _) _
  have HAL := Lib.hid hal; have H1 := Lib.hid (h1.bel hal); have H2 := Lib.hid (h2.bel hal); clear hal h1 h2
  have HBK := Lib.hid hbk; clear hbk
  have HW : Hid (w.alloc (.cells #[.bool x1, .bool y1, .slice A1 E1.length c1, .bool x2, .bool y2, .slice A2 E2.length c2] 169) = w.alloc (.cells #[.bool x1, .bool y1, .slice A1 E1.length c1, .bool x2, .bool y2, .slice A2 E2.length c2] 169)) := rfl
  have HA1 := fun W hb => all_any _ lenB e50 tellsLength x1 y1 _ E1 W (H1.out.bel hb) hE1 hl1
  have HA2 := fun W hb => all_any _ chB e51 tellsChunked x2 y2 _ E2 W (H2.out.bel hb) hE2 hl2
  have g0 := fun W hb => (HBK.out.below (w' := W) hb).cell 0 (.bool x1) rfl
  have g1 := fun W hb => (HBK.out.below (w' := W) hb).cell 1 (.bool y1) rfl
  have g2 := fun W hb => (HBK.out.below (w' := W) hb).cell 2 (.slice A1 E1.length c1) rfl
  have g3 := fun W hb => (HBK.out.below (w' := W) hb).cell 3 (.bool x2) rfl
  have g4 := fun W hb => (HBK.out.below (w' := W) hb).cell 4 (.bool y2) rfl
  have g5 := fun W hb => (HBK.out.below (w' := W) hb).cell 5 (.slice A2 E2.length c2) rfl
  generalize allE E1 y1 lenB = B1 at *
  generalize allE E2 y2 chB = B2 at *
  have HA1 := Lib.hid HA1; have HA2 := Lib.hid HA2
  have HG : Hid (∀ W, Below (w.alloc (.cells #[.bool x1, .bool y1, .slice A1 E1.length c1, .bool x2, .bool y2, .slice A2 E2.length c2] 169)).heap.size (w.alloc (.cells #[.bool x1, .bool y1, .slice A1 E1.length c1, .bool x2, .bool y2, .slice A2 E2.length c2] 169)) W →
      W.cell? ⟨w.heap.size, 0, none⟩ = some (.bool x1) ∧ W.cell? ⟨w.heap.size, 1, none⟩ = some (.bool y1) ∧ W.cell? ⟨w.heap.size, 2, none⟩ = some (.slice A1 E1.length c1) ∧
      W.cell? ⟨w.heap.size, 3, none⟩ = some (.bool x2) ∧ W.cell? ⟨w.heap.size, 4, none⟩ = some (.bool y2) ∧ W.cell? ⟨w.heap.size, 5, none⟩ = some (.slice A2 E2.length c2)) :=
    fun W hb => ⟨g0 W hb, g1 W hb, g2 W hb, g3 W hb, g4 W hb, g5 W hb⟩
  clear g0 g1 g2 g3 g4 g5 hE1 hE2 HW H1 H2 HBK
  obtain ⟨c0, c1', c2', c3, c4, c5⟩ := HG.out _ (Below.refl _ _)
  unfold hdrV
  cases x1
  · cases x2
    · clear HA1 HA2
      by_cases hn : 1 < (E2.length : Int)
      all_goals
        go_enter Tryz.func150, Tryz.ntmps150
        go_wp2_with fail
        go_ret
        exact ⟨by simp, HAL.out⟩
    · cases B2
      · clear HA1
        go_enter Tryz.func150, Tryz.ntmps150
        go_wp2_with fail
        refine (HA2.out _ (Below.refl _ _)).mono ?_
        rintro e w2 ⟨rfl, hb2⟩
        obtain ⟨d0, d1, d2, d3, d4, d5⟩ := HG.out _ hb2
        have HB2 := Lib.hid (HAL.out.trans (hb2.mono HAL.out.size))
        have HC2 := Lib.hid hb2
        clear hb2
        go_wp2_with fail
        go_ret
        exact ⟨rfl, HB2.out⟩
      · clear HA1
        by_cases hn : 1 < (E2.length : Int)
        all_goals
          go_enter Tryz.func150, Tryz.ntmps150
          go_wp2_with fail
          refine (HA2.out _ (Below.refl _ _)).mono ?_
          rintro e w2 ⟨rfl, hb2⟩
          obtain ⟨d0, d1, d2, d3, d4, d5⟩ := HG.out _ hb2
          have HB2 := Lib.hid (HAL.out.trans (hb2.mono HAL.out.size))
          have HC2 := Lib.hid hb2
          clear hb2
          go_wp2_with fail
          go_ret
          exact ⟨by simp, HB2.out⟩
  · cases B1
    · clear HA2
      go_enter Tryz.func150, Tryz.ntmps150
      go_wp2_with fail
      refine (HA1.out _ (Below.refl _ _)).mono ?_
      rintro e w2 ⟨rfl, hb2⟩
      obtain ⟨d0, d1, d2, d3, d4, d5⟩ := HG.out _ hb2
      have HB2 := Lib.hid (HAL.out.trans (hb2.mono HAL.out.size))
      have HC2 := Lib.hid hb2
      clear hb2
      go_wp2_with fail
      go_ret
      exact ⟨rfl, HB2.out⟩
    · cases x2
      · clear HA2
        by_cases hn : 1 < (E2.length : Int)
        all_goals
          go_enter Tryz.func150, Tryz.ntmps150
          go_wp2_with fail
          refine (HA1.out _ (Below.refl _ _)).mono ?_
          rintro e w2 ⟨rfl, hb2⟩
          obtain ⟨d0, d1, d2, d3, d4, d5⟩ := HG.out _ hb2
          have HB2 := Lib.hid (HAL.out.trans (hb2.mono HAL.out.size))
          have HC2 := Lib.hid hb2
          clear hb2
          go_wp2_with fail
          go_ret
          exact ⟨by simp, HB2.out⟩
      · cases B2
        · skip
          go_enter Tryz.func150, Tryz.ntmps150
          go_wp2_with fail
          refine (HA1.out _ (Below.refl _ _)).mono ?_
          rintro e w2 ⟨rfl, hb2⟩
          obtain ⟨d0, d1, d2, d3, d4, d5⟩ := HG.out _ hb2
          have HB2 := Lib.hid (HAL.out.trans (hb2.mono HAL.out.size))
          have HC2 := Lib.hid hb2
          clear hb2
          go_wp2_with fail
          refine (HA2.out _ HC2.out).mono ?_
          rintro e w3 ⟨rfl, hb3⟩
          obtain ⟨f0, f1, f2, f3, f4, f5⟩ := HG.out _ (HC2.out.trans (hb3.mono HC2.out.size))
          have HB3 := Lib.hid (HB2.out.trans (hb3.mono HB2.out.size))
          clear hb3
          go_wp2_with fail
          go_ret
          exact ⟨rfl, HB3.out⟩
        · skip
          by_cases hn : 1 < (E2.length : Int)
          all_goals
            go_enter Tryz.func150, Tryz.ntmps150
            go_wp2_with fail
            refine (HA1.out _ (Below.refl _ _)).mono ?_
            rintro e w2 ⟨rfl, hb2⟩
            obtain ⟨d0, d1, d2, d3, d4, d5⟩ := HG.out _ hb2
            have HB2 := Lib.hid (HAL.out.trans (hb2.mono HAL.out.size))
            have HC2 := Lib.hid hb2
            clear hb2
            go_wp2_with fail
            refine (HA2.out _ HC2.out).mono ?_
            rintro e w3 ⟨rfl, hb3⟩
            obtain ⟨f0, f1, f2, f3, f4, f5⟩ := HG.out _ (HC2.out.trans (hb3.mono HC2.out.size))
            have HB3 := Lib.hid (HB2.out.trans (hb3.mono HB2.out.size))
            clear hb3
            go_wp2_with fail
            go_ret
            exact ⟨by simp, HB3.out⟩
end Go.Proofs.YtgkjjmcjlobbpaaGreatDoor

/- Guards in a region that draws its order. No program is read here. -/
namespace Go.Proofs.YtgkjjmcjlobbpaaGreatDoor
open Go.RowKit
theorem wantedS {ops : Array Oper} {o : Oper} {tmps : Array Value} {j d : Nat} {e : Bool} (hg : (ops[j]?).bind (·.dst) = some d) (ho : o.guard = some (j, e)) (ht : tmps[d]? = some (.bool e)) : Region.wanted o (yielded ops tmps) = true := by
  unfold Region.wanted yielded
  rw [ho]
  simp [hg, ht]
theorem unwantedS {ops : Array Oper} {o : Oper} {tmps : Array Value} {j d : Nat} {e : Bool} (hg : (ops[j]?).bind (·.dst) = some d) (ho : o.guard = some (j, e)) (ht : tmps[d]? = some (.bool (!e))) : Region.wanted o (yielded ops tmps) = false := by
  unfold Region.wanted yielded
  rw [ho]
  simp [hg, ht]
end Go.Proofs.YtgkjjmcjlobbpaaGreatDoor

/- The framing layer's number, and whether lengths agree. -/
namespace Go.Proofs.YtgkjjmcjlobbpaaGreatDoor
open Go.RowKit Go.Shelf

set_option maxRecDepth 100000 in
theorem numberF_any (x : List UInt8) (w : World) (he : Env w) (h : x.length ≤ 4294967296) :
    Calls Tryz.prog 152 #[.string (bs x)] w fun e w' => e = .returned (.int .i64 (numV x)) ∧ Below w.heap.size w w' := by
  have HE := Lib.hid he; clear he
  go_enter Tryz.func152, Tryz.ntmps152
  go_wp2_with fail
  refine (atoi_any _ _ (by rw [bs_size]; omega) HE.out).mono ?_
  rw [bs_data]
  rintro e w1 ⟨v, rfl, hb⟩
  have HB := Lib.hid hb; clear hb
  go_wp2_with fail
  go_ret
  exact ⟨rfl, HB.out⟩

def agreeE (E : List (List UInt8)) : Int := if E.any (fun s => numV s != numV (E.headD [])) then 8 else 0
theorem any_snocL {E : List (List UInt8)} {p : List UInt8 → Bool} {k : Nat} (h : k < E.length) (hp : (E.take k).any p = false) (hq : p E[k] = false) : (E.take (k + 1)).any p = false := by
  rw [List.take_succ_eq_append_getElem h, List.any_append, hp]; simp [hq]
theorem any_isL {E : List (List UInt8)} {p : List UInt8 → Bool} {k : Nat} (h : k < E.length) (hq : p E[k] = true) : E.any p = true := List.any_eq_true.2 ⟨E[k], List.getElem_mem h, hq⟩
theorem drewB {w0 w : World} (h : Below w0.heap.size w0 w) : Below w0.heap.size w0 w.drew := ⟨h.os, h.tape, h.output, h.size, h.block⟩

set_option maxRecDepth 100000 in
set_option maxHeartbeats 2000000 in
theorem agreed_any (x1 y1 x2 y2 : Bool) (v1 : Value) (A2 : Option Addr) (n2 c2 : Nat) (E : List (List UInt8)) (w : World) (he : Env w) (h1 : SL w v1 E) (hE : ∀ s ∈ E, s.length ≤ 4294967296) (hl : E.length ≤ 4294967296) :
    Calls Tryz.prog 151 #[hdrV x1 y1 v1 x2 y2 (.slice A2 n2 c2)] w fun e w' => e = .returned (.int .i64 (agreeE E)) ∧ Below w.heap.size w w' := by
  obtain ⟨A, c, rfl⟩ := h1.form
  have hbk := blk.new w #[.bool x1, .bool y1, .slice A E.length c, .bool x2, .bool y2, .slice A2 n2 c2] 169
  have hal : Below w.heap.size w (w.alloc (.cells #[.bool x1, .bool y1, .slice A E.length c, .bool x2, .bool y2, .slice A2 n2 c2] 169)) := (Below.refl _ _).alloc (Nat.le_refl _) _
  have HEW : Hid (∀ W, Below (w.alloc (.cells #[.bool x1, .bool y1, .slice A E.length c, .bool x2, .bool y2, .slice A2 n2 c2] 169)).heap.size (w.alloc (.cells #[.bool x1, .bool y1, .slice A E.length c, .bool x2, .bool y2, .slice A2 n2 c2] 169)) W → Env W) :=
    fun W hb => (he.below hal (Nat.le_refl _)).below hb (Nat.le_refl _)
  have hc2 := hbk.cell 2 (.slice A E.length c) rfl
  have HAL := Lib.hid hal; have H1 := Lib.hid (h1.bel hal); have HBK := Lib.hid hbk; have HE := Lib.hid hE; clear hal h1 he hbk hE
  unfold hdrV
  go_enter Tryz.func151, Tryz.ntmps151
  go_wp2_with fail
  clear hc2
  generalize w.alloc (.cells #[.bool x1, .bool y1, .slice A E.length c, .bool x2, .bool y2, .slice A2 n2 c2] 169) = w1 at *
  go_loopw [9] (fun i wr => ∃ k : Nat, k ≤ E.length ∧ i = .int .i64 k ∧ (E.take k).any (fun s => numV s != numV (E.headD [])) = false ∧ Below w1.heap.size w1 wr) (fun i _ => E.length - (intOf i).toNat)
  case atStart => exact ⟨0, Nat.zero_le _, rfl, rfl, Below.refl _ _⟩
  case round =>
    obtain ⟨k, hk, rfl, ht, hb⟩ := hrel
    have HT := Lib.hid ht; have HB := Lib.hid hb; clear ht hb
    by_cases hlt : k < E.length
    · have hlt0 : 0 < E.length := by omega
      obtain ⟨b, off, rfl, hbb, hc0⟩ := H1.out.get 0 hlt0
      obtain ⟨b', off', he2, _, hck⟩ := H1.out.get k hlt
      obtain ⟨rfl, rfl⟩ : b = b' ∧ off = off' := by simpa using he2
      clear he2
      have hd : E.headD [] = E[0] := by cases E with | nil => simp at hlt0 | cons x r => rfl
      have HN : Hid (∀ s ∈ E, s.length ≤ 4294967296) := HE.out
      have HX0 := Lib.hid (HE.out _ (List.getElem_mem hlt0)); have HXk := Lib.hid (HE.out _ (List.getElem_mem hlt))
      have HQ : Hid (∀ q, (numV E[k] != numV E[0]) = q → if q = true then agreeE E = 8 else (E.take (k + 1)).any (fun s => numV s != numV (E.headD [])) = false) := by
        intro q hq
        have hq' : (fun s => numV s != numV (E.headD [])) E[k] = q := by simp only [hd]; exact hq
        cases q
        · exact any_snocL hlt HT.out hq'
        · show agreeE E = 8
          unfold agreeE
          rw [any_isL hlt hq']; rfl
      have hcr := (HB.out.cell (p := ⟨b, off + k, none⟩) hbb).trans hck
      have HBB := Lib.hid hbb
      rw [Nat.add_zero] at hc0
      have HC0 := Lib.hid hc0
      clear hc0 hck hd hbb
      generalize E[k] = x at *
      generalize E[0] = x0 at *
      go_wp2_with fail
      have hS : Below w1.heap.size w1 wr.drew := drewB HB.out
      have HS := Lib.hid hS; clear hS hcr
      -- REGION 4
      refine wp_region_growS (.one 0 false (.one 2 false (.one 3 false (.one 4 false (.one 5 false (.one 6 false (.one 1 true (.one 7 true (.one 8 false .done)))))))))
        (fun W => Below w1.heap.size w1 W) (by kernel_rfl) (by kernel_rfl) rfl (by kernel_rfl) (by kernel_rfl) HS.out (fun ops hops => ?_)
      simp only [GT.ins, List.getD_cons_zero, List.getD_cons_succ]
      clear hops
      iterate 6
        refine growS_take (by rfl) ?_
        apply Exists.intro
        refine ⟨fun w' hE => ?_, ?_⟩
        · have q1 := (hE.cell (p := ⟨w.heap.size, 2, none⟩) HBK.out.lt).trans (HBK.out.cell 2 (.slice (some ⟨b, off, none⟩) E.length c) rfl); have q2 := (hE.cell (p := ⟨b, off, none⟩) HBB.out).trans HC0.out
          go_simp
          try with_reducible rfl
        simp only [Act.put, List.setIfInBounds_toArray, List.set_cons_zero, List.set_cons_succ]
      refine growS_call (by rfl) (fun K hK => ?_)
      go_simp
      refine (numberF_any x _ (HEW.out _ HS.out) HXk.out).mono ?_
      rintro e w2 ⟨rfl, hb2⟩
      have HS2 := Lib.hid (HS.out.trans (hb2.mono HS.out.size))
      refine hK.out _ _ HS2.out ?_
      clear hK K hb2
      refine growS_call (by rfl) (fun K hK => ?_)
      go_simp
      refine (numberF_any x0 _ (HEW.out _ HS2.out) HX0.out).mono ?_
      rintro e w3 ⟨rfl, hb3⟩
      have HS3 := Lib.hid (HS2.out.trans (hb3.mono HS2.out.size))
      refine hK.out _ _ HS3.out ?_
      clear hK K hb3
      iterate 1
        refine growS_take (by rfl) ?_
        apply Exists.intro
        refine ⟨fun w' hE => ?_, ?_⟩
        · have q1 := (hE.cell (p := ⟨w.heap.size, 2, none⟩) HBK.out.lt).trans (HBK.out.cell 2 (.slice (some ⟨b, off, none⟩) E.length c) rfl); have q2 := (hE.cell (p := ⟨b, off, none⟩) HBB.out).trans HC0.out
          go_simp
          try with_reducible rfl
        simp only [Act.put, List.setIfInBounds_toArray, List.set_cons_zero, List.set_cons_succ]
      refine growS_done (NoPanic.normal ?_)
      -- END
      have hQ := HQ.out _ rfl
      generalize (numV x != numV x0) = q at *
      clear HQ
      cases q
      · have HR : Hid ((E.take (k + 1)).any (fun s => numV s != numV (E.headD [])) = false) := hQ
        clear hQ
        go_wp2_with fail
        go_roundw
        case rel => exact ⟨k + 1, by omega, by go_num, HR.out, HS3.out⟩
        case measure => simp [intOf]; omega
      · have HR : Hid (agreeE E = 8) := hQ
        clear hQ
        go_wp2_with fail
        go_ret
        exact ⟨by rw [HR.out]; rfl, HAL.out.trans (HS3.out.mono HAL.out.size)⟩
    · have HR : Hid (agreeE E = 0) := by
        have h := HT.out
        rw [List.take_of_length_le (by omega)] at h
        show _ = _; unfold agreeE; rw [h]; rfl
      go_wp2_with fail
      go_ret
      exact ⟨by rw [HR.out]; rfl, HAL.out.trans (HB.out.mono HAL.out.size)⟩
end Go.Proofs.YtgkjjmcjlobbpaaGreatDoor
