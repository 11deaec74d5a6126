/- What the statements ask of their lists, and the lists that they make: few, of; lists of fields appended. -/
import Derived.Test.YtnhkebbmgiokbaaDoorFramingJ
import Derived.Lib.AppendZeros
namespace Go.Proofs.YtnhkebbmgiokbaaDoor
open Go.RowKit

theorem sizeL_step {l : List Fld} {k : Nat} (h : k < l.length) : sizeL (l.take (k + 1)) = sizeL (l.take k) + (l[k].1.length + l[k].2.length) := by
  rw [List.take_succ_eq_append_getElem h, sizeL_append]; simp [sizeL]
theorem sizeL_take (l : List Fld) (k : Nat) : sizeL (l.take k) ≤ sizeL l := by
  have h : sizeL l = sizeL (l.take k) + sizeL (l.drop k) := by rw [← sizeL_append, List.take_append_drop]
  omega

set_option maxHeartbeats 2000000 in
set_option maxRecDepth 100000 in
theorem few_any (v : Value) (l : List Fld) (w : World) (h : FL w v l) (hs : ∀ j (hj : j < l.length), l[j].1.length ≤ 9223372036854775807 ∧ l[j].2.length ≤ 9223372036854775807) (hl : l.length ≤ 9223372036854775807) :
    Calls Tryd.prog 7 #[v] w fun e w' => e = .returned (.bool (fewB l)) ∧ Below w.heap.size w w' := by
  obtain ⟨A, c, rfl⟩ := h.form
  have HF := Lib.hid h; clear h
  by_cases h80 : 80 < l.length
  · have HR : Hid (fewB l = false) := by show _ = _; unfold fewB; rw [decide_eq_false (by omega)]; rfl
    have h80' : (80 : Int) < (l.length : Int) := by omega
    go_enter Tryd.func7, Tryd.ntmps7
    go_wp2_with fail
    go_ret
    exact ⟨ret_bool HR.out.symm, Below.refl _ _⟩
  · have h80' : ¬ (80 : Int) < (l.length : Int) := by omega
    go_enter Tryd.func7, Tryd.ntmps7
    go_wp2_with fail
    go_loopw [3, 4] (fun a i wr => ∃ (k : Nat) (L : Int), k ≤ l.length ∧ i = .int .i64 k ∧ a = .int .i64 L ∧ 0 ≤ L ∧ L ≤ 12000 ∧ L + (sizeL (l.take k) : Int) = 12000 ∧ Below w.heap.size w wr) (fun _ i _ => l.length - (intOf i).toNat)
    case atStart => exact ⟨0, 12000, Nat.zero_le _, rfl, rfl, by omega, by omega, rfl, Below.refl _ _⟩
    case round =>
      obtain ⟨k, L, hk, rfl, rfl, hL0, hL1, hsum, hb⟩ := hrel
      have HB := Lib.hid hb; have HSum := Lib.hid hsum; clear hb hsum
      by_cases hlt : k < l.length
      · have hki : (k : Int) < (l.length : Int) := by omega
        obtain ⟨b, off, rfl, hbb, hc1, hc2⟩ := (HF.out.bel HB.out).get k hlt
        obtain ⟨s1, s2⟩ := hs k hlt
        have hst := sizeL_step hlt
        have hle := sizeL_take l (k + 1)
        rw [hst] at hle
        have HST := Lib.hid hst; have HLE := Lib.hid hle; clear hst hle
        generalize l[k] = f at *
        obtain ⟨n, x⟩ := f; simp only at s1 s2 hc1 hc2
        have HST2 : Hid (sizeL (l.take (k + 1)) = sizeL (l.take k) + (n.length + x.length)) := HST.out
        have HLE2 : Hid (sizeL (l.take k) + (n.length + x.length) ≤ sizeL l) := HLE.out
        clear HST HLE
        have hsz1 : (bs n).size = n.length := bs_size n
        have hsz2 : (bs x).size = x.length := bs_size x
        have HZ1 := Lib.hid hsz1; have HZ2 := Lib.hid hsz2; clear hsz1 hsz2
        by_cases h1 : L < (n.length : Int)
        · have HR : Hid (fewB l = false) := by
            show _ = _; unfold fewB
            rw [decide_eq_false (p := sizeL l ≤ 12000) (by have := HLE2.out; have := HSum.out; omega), Bool.and_false]
          have hd : decide (L < (n.length : Int)) = true := decide_eq_true h1
          clear h1
          go_wp2_with fail
          go_quiet (fail)
          go_wp2_with fail
          go_ret
          exact ⟨ret_bool HR.out.symm, below_dn HB.out _⟩
        · have hd : decide (L < (n.length : Int)) = false := decide_eq_false h1
          have hge : (n.length : Int) ≤ L := by omega
          by_cases h2 : L - (n.length : Int) < (x.length : Int)
          · have HR : Hid (fewB l = false) := by
              show _ = _; unfold fewB
              rw [decide_eq_false (p := sizeL l ≤ 12000) (by have := HLE2.out; have := HSum.out; omega), Bool.and_false]
            have hd2 : decide (L - (n.length : Int) < (x.length : Int)) = true := decide_eq_true h2
            clear h1
            go_wp2_with fail
            go_quiet (fail)
            go_wp2_with fail
            go_ret
            exact ⟨ret_bool HR.out.symm, below_dn HB.out _⟩
          · have hd2 : decide (L - (n.length : Int) < (x.length : Int)) = false := decide_eq_false h2
            have hge2 : (x.length : Int) ≤ L - (n.length : Int) := by omega
            have HS2 : Hid (L - (n.length : Int) - (x.length : Int) + (sizeL (l.take (k + 1)) : Int) = 12000) := by have h3 := HST2.out; have h4 := HSum.out; show _ = _; omega
            clear h1 h2
            go_wp2_with fail
            go_quiet (fail)
            go_wp2_with fail
            go_quiet (fail)
            go_wp2_with fail
            go_roundw
            case rel => exact ⟨k + 1, L - (n.length : Int) - (x.length : Int), by omega, by go_num, rfl, by omega, by omega, HS2.out, below_dn HB.out _⟩
            case measure => simp [intOf]; omega
      · have HR : Hid (fewB l = true) := by
          have h3 := HSum.out
          rw [List.take_of_length_le (by omega)] at h3
          show _ = _; unfold fewB
          rw [decide_eq_true (p := l.length ≤ 80) (by omega), decide_eq_true (p := sizeL l ≤ 12000) (by omega)]; rfl
        go_wp2_with fail
        go_ret
        exact ⟨ret_bool HR.out.symm, HB.out⟩
theorem few_small {l : List Fld} (h : fewB l = true) : l.length ≤ 80 ∧ sizeL l ≤ 12000 ∧ smallF l := by
  unfold fewB at h
  rw [Bool.and_eq_true, decide_eq_true_eq, decide_eq_true_eq] at h
  refine ⟨h.1, h.2, fun j hj => ?_⟩
  have := sizeL_mem (List.getElem_mem hj)
  omega

theorem FL.src {w : World} {ad : Addr} {n c : Nat} {l : List Fld} (h : FL w (.slice (some ad) n c) l) : ∀ j u, (fcs l)[j]? = some u → w.cell? (ad.add j) = some u := by
  intro j u hu
  have hj : j < l.length * 2 := by have := (List.getElem?_eq_some_iff.1 hu).1; rw [fcs_len] at this; exact this
  obtain ⟨b, off, he, _, h1, h2⟩ := h.get (j / 2) (by omega)
  obtain rfl := Option.some.inj he
  obtain ⟨f1, f2⟩ := fcs_at l (j / 2) (by omega)
  rw [Addr.add_lit]
  rcases Nat.mod_two_eq_zero_or_one j with hm | hm
  · have e : j = j / 2 * 2 := by omega
    rw [e] at hu ⊢
    rw [f1] at hu
    rw [h1]; exact hu
  · have e : j = j / 2 * 2 + 1 := by omega
    rw [e] at hu ⊢
    rw [f2] at hu
    rw [← Nat.add_assoc, h2]; exact hu
theorem app_nothingF (ty : TypeId) (A : Option Addr) (n cap c : Nat) (w : World) (hA : A = none → n = 0 ∧ cap = 0) (hn : n ≤ cap) :
    (Builtin.append_ #[22, 22] ty #[.slice A n cap, .slice none 0 c]).run Tryd.prog w = .ok (.slice A n cap) w := by
  obtain ⟨i0, hi, hz0, hz1, hz2⟩ := info_parts infoF
  cases A with
  | none =>
    obtain ⟨rfl, rfl⟩ := hA rfl
    simp [Builtin.append_, run_underlying Tryd.underlying22, sizeOf, typeInfo, hi, Builtin.lenOf, Builtin.firstCells]
  | some a =>
    simp [Builtin.append_, run_underlying Tryd.underlying22, sizeOf, typeInfo, hi, Builtin.lenOf, Builtin.firstCells, hn, storeCells]
/-- an append of fields to a slice of the call's own: what is known of its run -/
theorem run_appFF (w0 w : World) (ty : TypeId) (base B : Nat) (v vx : Value) (l m : List Fld) (hown : ownF w base v l) (hb : Below B w0 w) (hBb : B ≤ base) (hbase : base ≤ w.heap.size) (hm : FL w vx m) (hlen : l.length + m.length ≤ 4294967296) :
    ∃ v' w', (Builtin.append_ #[22, 22] ty #[v, vx]).run Tryd.prog w = .ok v' w' ∧ ownF w' base v' (l ++ m) ∧ Below B w0 w' ∧ (∀ b, b < base → w'.heap[b]? = w.heap[b]?) ∧ w.heap.size ≤ w'.heap.size ∧ (∀ b, b < w.heap.size → v.ownBlock ≠ some b → w'.heap[b]? = w.heap[b]?) := by
  obtain ⟨i0, hi, hz0, hz1, hz2⟩ := info_parts infoF
  have key : ∀ (ad : Addr) (c : Nat), vx = .slice (some ad) m.length c → (∀ j u, (fcs m)[j]? = some u → w.cell? (ad.add j) = some u) →
      ∃ v' w', (Builtin.append_ #[22, 22] ty #[v, vx]).run Tryd.prog w = .ok v' w' ∧ ownF w' base v' (l ++ m) ∧ Below B w0 w' ∧ (∀ b, b < base → w'.heap[b]? = w.heap[b]?) ∧ w.heap.size ≤ w'.heap.size ∧ (∀ b, b < w.heap.size → v.ownBlock ≠ some b → w'.heap[b]? = w.heap[b]?) := by
    intro ad c hv hc
    subst hv
    obtain ⟨v', w', h1, h2, h3, _⟩ := run_append_own (P := Tryd.prog) w base 22 ty 38 i0 (.agg #[.string ⟨#[]⟩, .string ⟨#[]⟩]) 2 32 Tryd.underlying22 hi hz0 hz1 hz2 rfl (by decide) v l.length _ hown ad m.length c (fcs m) (fcs_len m) hc (fcs_one m) (by unfold maxLen; omega) (by omega) hbase
    have hge : ∀ k, v.ownBlock = some k → base ≤ k := fun k hk => (World.ownsRow.lt hown k hk).1
    refine ⟨v', w', h1, ?_, hb.grown h3 (Nat.le_trans hBb hbase) (fun k hk => Nat.le_trans hBb (hge k hk)), fun b hb2 => h3.block b (by omega) (fun e => by have := hge b e.symm; omega), h3.size, fun b hb2 hne => h3.block b hb2 (fun e => hne e.symm)⟩
    unfold ownF
    rw [List.length_append, fcs_append]
    exact h2
  rcases hm with ⟨rfl, A, c, rfl⟩ | ⟨b, off, c, rfl, hlt, hc⟩
  · cases A with
    | some ad => exact key ad c rfl (fun j u hu => by simp [fcs] at hu)
    | none =>
      have hform : ∃ A cap, v = .slice A l.length cap ∧ (A = none → l.length = 0 ∧ cap = 0) ∧ l.length ≤ cap := by
        rcases hown.2 with ⟨rfl, hn⟩ | ⟨g, cap, cur, rfl, _, _, hnc, _⟩
        · exact ⟨none, 0, by rw [hn], fun _ => ⟨hn, rfl⟩, by omega⟩
        · exact ⟨some ⟨g, 0, none⟩, cap, rfl, (fun e => by cases e), hnc⟩
      obtain ⟨A, cap, rfl, h1, h2⟩ := hform
      exact ⟨_, w, app_nothingF ty A l.length cap c w h1 h2, by rw [List.append_nil]; exact hown, hb, fun _ _ => rfl, Nat.le_refl _, fun _ _ _ => rfl⟩
  · exact key ⟨b, off, none⟩ c rfl (FL.src (n := m.length) (c := c) (.inr ⟨b, off, c, rfl, hlt, hc⟩))
theorem wpList_appFF {w0 w : World} {ops : Array Oper} {rest : List Oper} {o : Oper} {a : Act} {Q : Exit → Act → World → Prop} (hgd : o.guard = none) (s x : Operand)
    (ho : o.op = .call { callee := .builtin .append, args := #[s, x], argTypes := #[22, 22] })
    (base B : Nat) (v vx : Value) (l m : List Fld) (hs : a.eval s = v) (hown : ownF w base v l) (hb : Below B w0 w) (hBb : B ≤ base) (hbase : base ≤ w.heap.size)
    (hx : a.eval x = vx) (hm : FL w vx m) (hlen : l.length + m.length ≤ 4294967296)
    (h : ∀ v' w', Hid (ownF w' base v' (l ++ m)) → Hid (Below B w0 w') → Hid (∀ b, b < base → w'.heap[b]? = w.heap[b]?) → Hid (w.heap.size ≤ w'.heap.size) → wpList Tryd.prog ops Q rest (a.put o.dst v') w') :
    wpList Tryd.prog ops Q (o :: rest) a w := by
  obtain ⟨v', w', hr, h1, h2, h3, h4, _⟩ := run_appFF w0 w o.type base B v vx l m hown hb hBb hbase hm hlen
  exact Lib.wpList_append_run _ hgd s x 22 22 ho _ _ hs hx _ _ hr (h v' w' h1 h2 h3 h4)
theorem wp_appFF {w0 w : World} {o : Oper} {a : Act} {K : Act → World → Prop} {Q : Exit → Act → World → Prop} (s x : Operand)
    (ho : o.op = .call { callee := .builtin .append, args := #[s, x], argTypes := #[22, 22] })
    (base B : Nat) (v vx : Value) (l m : List Fld) (hs : a.eval s = v) (hown : ownF w base v l) (hb : Below B w0 w) (hBb : B ≤ base) (hbase : base ≤ w.heap.size)
    (hx : a.eval x = vx) (hm : FL w vx m) (hlen : l.length + m.length ≤ 4294967296)
    (h : ∀ v' w', Hid (ownF w' base v' (l ++ m)) → Hid (Below B w0 w') → Hid (∀ b, b < base → w'.heap[b]? = w.heap[b]?) → Hid (w.heap.size ≤ w'.heap.size) → K (a.put o.dst v') w') : o.wp Tryd.prog a w K Q := by
  obtain ⟨v', w', hr, h1, h2, h3, h4, _⟩ := run_appFF w0 w o.type base B v vx l m hown hb hBb hbase hm hlen
  exact Lib.wp_append_run w s x 22 22 ho _ _ hs hx _ _ hr (h v' w' h1 h2 h3 h4)
/-- as wpList_appFF; and what becomes of the blocks that are not the slice's own -/
theorem wpList_appFX {w0 w : World} {ops : Array Oper} {rest : List Oper} {o : Oper} {a : Act} {Q : Exit → Act → World → Prop} (hgd : o.guard = none) (s x : Operand)
    (ho : o.op = .call { callee := .builtin .append, args := #[s, x], argTypes := #[22, 22] })
    (base B : Nat) (v vx : Value) (l m : List Fld) (hs : a.eval s = v) (hown : ownF w base v l) (hb : Below B w0 w) (hBb : B ≤ base) (hbase : base ≤ w.heap.size)
    (hx : a.eval x = vx) (hm : FL w vx m) (hlen : l.length + m.length ≤ 4294967296)
    (h : ∀ v' w', Hid (ownF w' base v' (l ++ m)) → Hid (Below B w0 w') → Hid (∀ b, b < w.heap.size → v.ownBlock ≠ some b → w'.heap[b]? = w.heap[b]?) → wpList Tryd.prog ops Q rest (a.put o.dst v') w') :
    wpList Tryd.prog ops Q (o :: rest) a w := by
  obtain ⟨v', w', hr, h1, h2, _, _, h5⟩ := run_appFF w0 w o.type base B v vx l m hown hb hBb hbase hm hlen
  exact Lib.wpList_append_run _ hgd s x 22 22 ho _ _ hs hx _ _ hr (h v' w' h1 h2 h5)
/-- a slice literal of one field -/
theorem FL_lit (w : World) (f : Fld) : FL (w.alloc (.cells #[.string (bs f.1), .string (bs f.2)] 38)) (.slice (some ⟨w.heap.size, 0, none⟩) 1 1) [f] := by
  refine .inr ⟨w.heap.size, 0, 1, rfl, by simp, fun j hj => ?_⟩
  have : j = 0 := by simpa using hj
  subst this
  have hb := blk.new w #[.string (bs f.1), .string (bs f.2)] 38
  exact ⟨hb.cell 0 _ rfl, hb.cell 1 _ rfl⟩

/-! ### of: fields of names and values -/
def flatN (l : List Fld) : List (List UInt8) := l.flatMap fun f => [f.1, f.2]
theorem flatN_len (l : List Fld) : (flatN l).length = 2 * l.length := by
  induction l with
  | nil => rfl
  | cons f r ih => simp [flatN] at ih ⊢; omega
theorem flatN_at (l : List Fld) (j : Nat) (hj : j < l.length) : (flatN l)[2 * j]? = some l[j].1 ∧ (flatN l)[2 * j + 1]? = some l[j].2 := by
  induction l generalizing j with
  | nil => exact absurd hj (by simp)
  | cons f r ih =>
    have e : flatN (f :: r) = f.1 :: f.2 :: flatN r := by simp [flatN]
    rw [e]
    cases j with
    | zero => exact ⟨rfl, rfl⟩
    | succ k =>
      obtain ⟨h1, h2⟩ := ih k (by simpa using hj)
      rw [show 2 * (k + 1) = 2 * k + 2 from by omega]
      exact ⟨h1, h2⟩
theorem SL.at2 {w : World} {A : Option Addr} {n c : Nat} {L : List (List UInt8)} {j : Nat} {x : List UInt8} (h : SL w (.slice A n c) L) (hx : L[j]? = some x) : ∃ b off, A = some ⟨b, off, none⟩ ∧ b < w.heap.size ∧ w.cell? ⟨b, off + j, none⟩ = some (.string (bs x)) := by
  obtain ⟨hj, he⟩ := List.getElem?_eq_some_iff.1 hx
  obtain ⟨b, off, h1, h3, h2⟩ := h.get j hj
  exact ⟨b, off, h1, h3, by rw [h2, he]⟩

set_option maxHeartbeats 2000000 in
set_option maxRecDepth 100000 in
theorem of_any (v : Value) (l : List Fld) (w : World) (h : SL w v (flatN l)) (hl : l.length ≤ 64) :
    Calls Tryd.prog 16 #[v] w (RetF w l) := by
  obtain ⟨A, c, rfl⟩ := h.form
  have HW := Lib.hid h; clear h
  have hfl := flatN_len l
  have HFL := Lib.hid hfl; clear hfl
  go_enter Tryd.func16, Tryd.ntmps16
  go_wp2_with fail
  go_loopw [3, 4] (fun o i wr => ∃ k : Nat, k ≤ l.length ∧ i = .int .i64 (2 * (k : Int)) ∧ ownF wr w.heap.size o (l.take k) ∧ Below w.heap.size w wr) (fun _ i _ => 2 * l.length - (intOf i).toNat)
  case atStart => exact ⟨0, Nat.zero_le _, rfl, ownF_nil _ _, Below.refl _ _⟩
  case round =>
    obtain ⟨k, hk, rfl, ho, hb⟩ := hrel
    have HO := Lib.hid ho; have HB := Lib.hid hb; clear ho hb
    by_cases hlt : k < l.length
    · have hi3 : (2 : Int) * (k : Int) + 1 < ((flatN l).length : Int) := by have := HFL.out; omega
      obtain ⟨f1, f2⟩ := flatN_at l k hlt
      obtain ⟨b, off, rfl, hbb, hd1⟩ := HW.out.at2 f1
      obtain ⟨b', o', he, _, hd2⟩ := HW.out.at2 f2
      obtain ⟨rfl, rfl⟩ : b = b' ∧ off = o' := by simpa using he
      clear he f1 f2
      have HT : Hid (l.take (k + 1) = l.take k ++ [l[k]]) := List.take_succ_eq_append_getElem hlt
      have HLN : Hid ((l.take k).length + 1 ≤ 4294967296) := by have : (l.take k).length ≤ l.length := List.length_take_le' _ _; show _ ≤ _; omega
      have hc1 := (HB.out.cell (p := ⟨b, off + 2 * k, none⟩) hbb).trans hd1
      have hc2 := (HB.out.cell (p := ⟨b, off + (2 * k + 1), none⟩) hbb).trans hd2
      generalize l.take k = acc at *
      obtain ⟨Ao, co, rfl⟩ := HO.out.form
      generalize l[k] = f at *
      obtain ⟨x, y⟩ := f; simp only at hc1 hc2 hd1 hd2
      have HD1 := Lib.hid hd1; have HD2 := Lib.hid hd2; have HBB := Lib.hid hbb
      clear hd1 hd2 hbb
      have hi1 : (2 : Int) * (k : Int) < ((flatN l).length : Int) := by omega
      have hj2 : 2 * k < (flatN l).length := by omega
      have hj3 : 2 * k + 1 < (flatN l).length := by omega
      go_wp2_with fail
      clear hc1 hc2
      have hw2 : IntKind.i64.wrap (2 * (k : Int) + 1) = 2 * (k : Int) + 1 := by rw [IntKind.wrap_i64]; omega
      have hb1 : (0 : Int) ≤ 2 * (k : Int) := by omega
      have hb2 : (0 : Int) ≤ 2 * (k : Int) + 1 := by omega
      have ht1 : (2 * (k : Int)).toNat = 2 * k := by omega
      have ht2 : (2 * (k : Int) + 1).toNat = 2 * k + 1 := by omega
      have hS : Below w.heap.size w wr.drew := drewB HB.out
      -- REGION 5
      refine wp_region_growS (.one 0 false (.one 1 false (.one 2 false (.one 3 false (.one 4 false (.one 5 false (.one 6 false (.one 7 false (.one 8 false (.one 9 false (.one 10 false (.one 11 true (.one 12 true (.one 13 false .done))))))))))))))
        (fun W => Below w.heap.size w W) (by kernel_rfl) (by kernel_rfl) rfl (by kernel_rfl) (by kernel_rfl) hS (fun ops hops => ?_)
      simp only [GT.ins, List.getD_cons_zero, List.getD_cons_succ]
      clear hops
      iterate 11
        refine growS_take (by rfl) ?_
        apply Exists.intro
        refine ⟨fun w' hE => ?_, ?_⟩
        · have q1 := (hE.cell (p := ⟨b, off + 2 * k, none⟩) HBB.out).trans HD1.out; have q2 := (hE.cell (p := ⟨b, off + (2 * k + 1), none⟩) HBB.out).trans HD2.out
          go_simp
          try with_reducible rfl
        simp only [Act.put, List.setIfInBounds_toArray, List.set_cons_zero, List.set_cons_succ]
      refine growS_call (by rfl) (fun K hK => ?_)
      go_simp
      have hd : Below wr.heap.size wr (wr.alloc (.cells #[.string (bs x), .string (bs y)] 38)).drew := drewB ((Below.refl _ _).alloc (Nat.le_refl _) _)
      have hn : FL (wr.alloc (.cells #[.string (bs x), .string (bs y)] 38)).drew (.slice (some ⟨wr.heap.size, 0, none⟩) 1 1) [(x, y)] := (FL_lit wr (x, y)).bel (drewB (Below.refl _ _))
      have ho5 := HO.out.bel hd
      have hb5 := HB.out.trans (hd.mono HB.out.size)
      refine hK.out _ _ hb5 ?_
      clear hK K
      generalize (wr.alloc (.cells #[.string (bs x), .string (bs y)] 38)).drew = w5 at *
      have HN := Lib.hid hn; have HO5 := Lib.hid ho5; have HB5 := Lib.hid hb5; clear hn ho5 hb5 hd
      refine growS_call (by rfl) (fun K hK => ?_)
      refine wp_appFF (.tmp 12) (.tmp 23) rfl w.heap.size w.heap.size _ _ acc [(x, y)] rfl HO5.out HB5.out (Nat.le_refl _) HB5.out.size rfl HN.out HLN.out ?_
      intro v6 w6 HO6 HB6 _ _
      refine hK.out _ _ HB6.out ?_
      clear hK K
      iterate 1
        refine growS_take (by rfl) ?_
        apply Exists.intro
        refine ⟨fun w' hE => ?_, ?_⟩
        · have q1 := (hE.cell (p := ⟨b, off + 2 * k, none⟩) HBB.out).trans HD1.out; have q2 := (hE.cell (p := ⟨b, off + (2 * k + 1), none⟩) HBB.out).trans HD2.out
          go_simp
          try with_reducible rfl
        simp only [Act.put, List.setIfInBounds_toArray, List.set_cons_zero, List.set_cons_succ]
      refine growS_done (NoPanic.normal ?_)
      -- END
      clear hw2 hb1 hb2 ht1 ht2
      go_wp2_with fail
      go_roundw
      case rel => exact ⟨k + 1, by omega, by go_num, by rw [HT.out]; exact HO6.out, HB6.out⟩
      case measure => simp [intOf]; omega
    · have hi3 : ¬ (2 : Int) * (k : Int) + 1 < ((flatN l).length : Int) := by have := HFL.out; omega
      have HT : Hid (l.take k = l) := List.take_of_length_le (by omega)
      go_wp2_with fail
      go_ret
      exact ⟨_, rfl, by rw [← HT.out]; exact HO.out, HB.out⟩
end Go.Proofs.YtnhkebbmgiokbaaDoor
