/- The framing layer's read: what is wrong with the fields of a message. -/
import Derived.Test.YtnhkebbmgiokbaaDoorFramingE
namespace Go.Proofs.YtnhkebbmgiokbaaDoor
open Go.RowKit Go.Shelf

theorem vals_small {l : List Fld} (hs : smallF l) (n : List UInt8) : ∀ x ∈ valsL l n, x.length ≤ 4294967296 := fun x hx => by
  unfold valsL at hx
  rw [List.mem_map] at hx
  obtain ⟨f, hf, rfl⟩ := hx
  obtain ⟨i, hi, he⟩ := List.getElem_of_mem (List.mem_filter.1 hf).1
  have := (hs i hi).2
  rw [he] at this
  exact this
theorem elems_small {l : List Fld} (hs : smallF l) (n : List UInt8) : ∀ s ∈ elemsL (valsL l n), s.length ≤ 4294967296 := elems_mem (vals_small hs n)
theorem elems_few {l : List Fld} (hl : l.length ≤ 1048576) (n : List UInt8) : (elemsL (valsL l n)).length ≤ 4294967296 := by
  have h1 := elems_len (valsL l n); have h2 := vals_len l n; omega
theorem bs_cl : (⟨#[99, 111, 110, 116, 101, 110, 116, 45, 108, 101, 110, 103, 116, 104]⟩ : ByteArray) = bs clN := rfl
theorem bs_te : (⟨#[116, 114, 97, 110, 115, 102, 101, 114, 45, 101, 110, 99, 111, 100, 105, 110, 103]⟩ : ByteArray) = bs teN := rfl

/-- six cells stored into a block of six -/
def put6 (W : World) (R : Nat) (u0 u1 u2 u3 u4 u5 : Value) : World :=
  (((((W.setCell ⟨R, 0, none⟩ u0).setCell ⟨R, 1, none⟩ u1).setCell ⟨R, 2, none⟩ u2).setCell ⟨R, 3, none⟩ u3).setCell ⟨R, 4, none⟩ u4).setCell ⟨R, 5, none⟩ u5
theorem blk.put6 {W : World} {R : Nat} {z0 z1 z2 z3 z4 z5 : Value} (h : blk W R #[z0, z1, z2, z3, z4, z5]) (u0 u1 u2 u3 u4 u5 : Value) : blk (put6 W R u0 u1 u2 u3 u4 u5) R #[u0, u1, u2, u3, u4, u5] := by
  simpa [Go.Proofs.YtnhkebbmgiokbaaDoor.put6] using (((((h.set 0 u0).set 1 u1).set 2 u2).set 3 u3).set 4 u4).set 5 u5
theorem put6_other (W : World) (R : Nat) (u0 u1 u2 u3 u4 u5 : Value) {k : Nat} (hk : k ≠ R) : (put6 W R u0 u1 u2 u3 u4 u5).heap[k]? = W.heap[k]? := by
  unfold put6
  rw [Below.heap_setCell _ _ _ _ hk, Below.heap_setCell _ _ _ _ hk, Below.heap_setCell _ _ _ _ hk, Below.heap_setCell _ _ _ _ hk, Below.heap_setCell _ _ _ _ hk, Below.heap_setCell _ _ _ _ hk]
theorem put6_size (W : World) (R : Nat) (u0 u1 u2 u3 u4 u5 : Value) : (put6 W R u0 u1 u2 u3 u4 u5).heap.size = W.heap.size := by simp [put6]
theorem put6_below {B : Nat} {w0 W : World} (h : Below B w0 W) {R : Nat} (hR : B ≤ R) (u0 u1 u2 u3 u4 u5 : Value) : Below B w0 (put6 W R u0 u1 u2 u3 u4 u5) :=
  (((((h.setCell hR _).setCell hR _).setCell hR _).setCell hR _).setCell hR _).setCell hR _
/-- what a store into a block of six asks, cell by cell -/
theorem blk.asks6 {W : World} {R : Nat} {z0 z1 z2 z3 z4 z5 : Value} (h : blk W R #[z0, z1, z2, z3, z4, z5]) (u0 u1 u2 u3 u4 : Value) :
    (W.cell? ⟨R, 0, none⟩ = some z0 ∧ W.frozen? ⟨R, 0, none⟩ = false) ∧
    ((W.setCell ⟨R, 0, none⟩ u0).cell? ⟨R, 1, none⟩ = some z1 ∧ (W.setCell ⟨R, 0, none⟩ u0).frozen? ⟨R, 1, none⟩ = false) ∧
    (((W.setCell ⟨R, 0, none⟩ u0).setCell ⟨R, 1, none⟩ u1).cell? ⟨R, 2, none⟩ = some z2 ∧ ((W.setCell ⟨R, 0, none⟩ u0).setCell ⟨R, 1, none⟩ u1).frozen? ⟨R, 2, none⟩ = false) ∧
    ((((W.setCell ⟨R, 0, none⟩ u0).setCell ⟨R, 1, none⟩ u1).setCell ⟨R, 2, none⟩ u2).cell? ⟨R, 3, none⟩ = some z3 ∧ (((W.setCell ⟨R, 0, none⟩ u0).setCell ⟨R, 1, none⟩ u1).setCell ⟨R, 2, none⟩ u2).frozen? ⟨R, 3, none⟩ = false) ∧
    (((((W.setCell ⟨R, 0, none⟩ u0).setCell ⟨R, 1, none⟩ u1).setCell ⟨R, 2, none⟩ u2).setCell ⟨R, 3, none⟩ u3).cell? ⟨R, 4, none⟩ = some z4 ∧ ((((W.setCell ⟨R, 0, none⟩ u0).setCell ⟨R, 1, none⟩ u1).setCell ⟨R, 2, none⟩ u2).setCell ⟨R, 3, none⟩ u3).frozen? ⟨R, 4, none⟩ = false) ∧
    ((((((W.setCell ⟨R, 0, none⟩ u0).setCell ⟨R, 1, none⟩ u1).setCell ⟨R, 2, none⟩ u2).setCell ⟨R, 3, none⟩ u3).setCell ⟨R, 4, none⟩ u4).cell? ⟨R, 5, none⟩ = some z5 ∧ (((((W.setCell ⟨R, 0, none⟩ u0).setCell ⟨R, 1, none⟩ u1).setCell ⟨R, 2, none⟩ u2).setCell ⟨R, 3, none⟩ u3).setCell ⟨R, 4, none⟩ u4).frozen? ⟨R, 5, none⟩ = false) :=
  ⟨⟨h.cell 0 _ rfl, h.free 0⟩, ⟨(h.set 0 _).cell 1 _ rfl, (h.set 0 _).free 1⟩, ⟨((h.set 0 _).set 1 _).cell 2 _ rfl, ((h.set 0 _).set 1 _).free 2⟩, ⟨(((h.set 0 _).set 1 _).set 2 _).cell 3 _ rfl, (((h.set 0 _).set 1 _).set 2 _).free 3⟩,
    ⟨((((h.set 0 _).set 1 _).set 2 _).set 3 _).cell 4 _ rfl, ((((h.set 0 _).set 1 _).set 2 _).set 3 _).free 4⟩, ⟨(((((h.set 0 _).set 1 _).set 2 _).set 3 _).set 4 _).cell 5 _ rfl, (((((h.set 0 _).set 1 _).set 2 _).set 3 _).set 4 _).free 5⟩⟩
/-- a slice of texts stays where a block changes that holds no text -/
theorem SL.stay {W W' : World} {v : Value} {E : List (List UInt8)} (h : SL W v E) {R : Nat} {cs : Array Value} (hR : blk W R cs) (hc : ∀ (i : Nat) x, cs[i]? ≠ some (Value.string x)) (hk : ∀ k, k ≠ R → W'.heap[k]? = W.heap[k]?) (hz : W.heap.size ≤ W'.heap.size) : SL W' v E := by
  rcases h with h | ⟨b, off, c, hv, hlt, hcell⟩
  · exact .inl h
  · refine .inr ⟨b, off, c, hv, by omega, fun j hj => ?_⟩
    by_cases hb : b = R
    · subst hb
      obtain ⟨T, hT⟩ := hR
      have h1 := hcell j hj
      rw [cell_of_row W b (off + j) cs T _ hT] at h1
      exact absurd h1 (hc _ _)
    · rw [cell_same (hk b hb)]; exact hcell j hj

/-- what is handed back by read -/
def ReadPost (a b : List (List UInt8)) (w : World) (e : Ending) (w' : World) : Prop :=
  ∃ A1 c1 A2 c2, e = .returned (.tuple #[hdrV (!a.isEmpty) (amissB a) (.slice A1 (elemsL a).length c1) (!b.isEmpty) (amissB b) (.slice A2 (elemsL b).length c2), .int .i64 (endE a b)]) ∧
    SL w' (.slice A1 (elemsL a).length c1) (elemsL a) ∧ SL w' (.slice A2 (elemsL b).length c2) (elemsL b) ∧ Below w.heap.size w w'

set_option maxRecDepth 100000 in
set_option maxHeartbeats 2000000 in
theorem read_any (v : Value) (l : List Fld) (w : World) (he : Env w) (h : FL w v l) (hs : smallF l) (hl : l.length ≤ 1048576) :
    Calls Tryd.prog 18 #[v] w (ReadPost (valsL l clN) (valsL l teN) w) := by
  have hal : Below w.heap.size w (w.alloc (.cells #[.bool false, .bool false, .slice none 0 0, .bool false, .bool false, .slice none 0 0] 48)) := (Below.refl _ _).alloc (Nat.le_refl _) _
  have hrb := blk.new w #[.bool false, .bool false, .slice none 0 0, .bool false, .bool false, .slice none 0 0] 48
  have HL1 := fun W hb => listOf_any v l clN W ((h.bel hal).bel (w' := W) hb) hs hl (by decide) (vals_small hs clN)
  have HL2 := fun W hb => listOf_any v l teN W ((h.bel hal).bel (w' := W) hb) hs hl (by decide) (vals_small hs teN)
  have HS1 := Lib.hid (elems_small hs clN); have HS2 := Lib.hid (elems_small hs teN)
  have HF1 := Lib.hid (elems_few hl clN); have HF2 := Lib.hid (elems_few hl teN)
  have HEW : Hid (∀ W, Below (w.alloc (.cells #[.bool false, .bool false, .slice none 0 0, .bool false, .bool false, .slice none 0 0] 48)).heap.size (w.alloc (.cells #[.bool false, .bool false, .slice none 0 0, .bool false, .bool false, .slice none 0 0] 48)) W → Env W) :=
    fun W hb => (he.below hal (Nat.le_refl _)).below hb (Nat.le_refl _)
  have HRE := Lib.hid (read_eq (valsL l clN) (valsL l teN))
  have HL1 := Lib.hid HL1; have HL2 := Lib.hid HL2; have HAL := Lib.hid hal; have HRB := Lib.hid hrb
  rw [bs_cl.symm] at HL1; rw [bs_te.symm] at HL2
  clear hal hrb he h hs
  generalize valsL l clN = a at *
  generalize valsL l teN = b at *
  go_enter Tryd.func18, Tryd.ntmps18
  go_wp2_with fail
  generalize w.alloc (.cells #[.bool false, .bool false, .slice none 0 0, .bool false, .bool false, .slice none 0 0] 48) = w1 at *
  refine (HL1.out _ (Below.refl _ _)).mono ?_
  rintro e w2 ⟨v1, rfl, hv1, hb2⟩
  have HV1 := Lib.hid hv1; have HB2 := Lib.hid hb2; clear hv1 hb2
  unfold listV
  go_wp2_with fail
  refine (HL2.out _ HB2.out).mono ?_
  rintro e w3 ⟨v2, rfl, hv2, hb3⟩
  have HV1 := Lib.hid (HV1.out.bel hb3)
  have HB3 := Lib.hid (HB2.out.trans (hb3.mono HB2.out.size)); have HV2 := Lib.hid hv2; clear hv2 hb3 HB2
  obtain ⟨A1, c1, rfl⟩ := HV1.out.form
  obtain ⟨A2, c2, rfl⟩ := HV2.out.form
  unfold listV
  go_wp2_with fail
  have hal4 : Below w3.heap.size w3 (w3.alloc (.cells #[.bool (!a.isEmpty), .bool (amissB a), .slice A1 (elemsL a).length c1, .bool (!b.isEmpty), .bool (amissB b), .slice A2 (elemsL b).length c2] 48)) := (Below.refl _ _).alloc (Nat.le_refl _) _
  have HBK := Lib.hid (blk.new w3 #[.bool (!a.isEmpty), .bool (amissB a), .slice A1 (elemsL a).length c1, .bool (!b.isEmpty), .bool (amissB b), .slice A2 (elemsL b).length c2] 48)
  have HB4 := Lib.hid (HB3.out.trans (hal4.mono HB3.out.size)); have HV1 := Lib.hid (HV1.out.bel hal4); have HV2 := Lib.hid (HV2.out.bel hal4); have HBZ3 := Lib.hid HB3.out.size; clear hal4 HB3
  generalize hw4 : w3.alloc (.cells #[.bool (!a.isEmpty), .bool (amissB a), .slice A1 (elemsL a).length c1, .bool (!b.isEmpty), .bool (amissB b), .slice A2 (elemsL b).length c2] 48) = w4 at *
  have hsz : w3.heap.size < w4.heap.size := by rw [← hw4]; simp
  have HBZ : Hid (w1.heap.size ≤ w3.heap.size) := HBZ3.out
  clear hw4
  generalize w3.heap.size = B at *
  have hS : blk w4.drew B #[.bool (!a.isEmpty), .bool (amissB a), .slice A1 (elemsL a).length c1, .bool (!b.isEmpty), .bool (amissB b), .slice A2 (elemsL b).length c2] := HBK.out.keep rfl
  -- REGION 2
  refine wp_region_growS (.one 0 false (.one 1 false (.one 2 false (.one 3 false (.one 4 false (.one 5 false (.one 6 false (.one 7 true (.one 8 true (.one 9 true (.one 10 false .done)))))))))))
    (fun W => blk W B #[.bool (!a.isEmpty), .bool (amissB a), .slice A1 (elemsL a).length c1, .bool (!b.isEmpty), .bool (amissB b), .slice A2 (elemsL b).length c2]) (by kernel_rfl) (by kernel_rfl) rfl (by kernel_rfl) (by kernel_rfl) hS (fun ops hops => ?_)
  simp only [GT.ins, List.getD_cons_zero, List.getD_cons_succ]
  clear hops
  iterate 7
    refine growS_take (by rfl) ?_
    apply Exists.intro
    refine ⟨fun w' hE => ?_, ?_⟩
    · have q0 := hE.cell 0 (.bool (!a.isEmpty)) rfl; have q1 := hE.cell 1 (.bool (amissB a)) rfl; have q2 := hE.cell 2 (.slice A1 (elemsL a).length c1) rfl; have q3 := hE.cell 3 (.bool (!b.isEmpty)) rfl; have q4 := hE.cell 4 (.bool (amissB b)) rfl; have q5 := hE.cell 5 (.slice A2 (elemsL b).length c2) rfl; have hmf : ∀ (fn : Fn) (first cap : Array Value) (w : World), (Instr.makeFunc fn first cap).run Tryd.prog w = .ok (.func fn first cap) w := fun _ _ _ _ => rfl
      go_simp
      try with_reducible rfl
    simp only [Act.put, List.setIfInBounds_toArray, List.set_cons_zero, List.set_cons_succ]
  refine growS_call (by rfl) (fun K hK => ?_)
  go_simp
  have hd : Below w4.heap.size w4 (w4.alloc (.cells #[.func (.func 32) #[.agg #[.bool (!a.isEmpty), .bool (amissB a), .slice A1 (elemsL a).length c1, .bool (!b.isEmpty), .bool (amissB b), .slice A2 (elemsL b).length c2]] #[], .func (.func 33) #[.agg #[.bool (!a.isEmpty), .bool (amissB a), .slice A1 (elemsL a).length c1, .bool (!b.isEmpty), .bool (amissB b), .slice A2 (elemsL b).length c2]] #[], .func (.func 34) #[.agg #[.bool (!a.isEmpty), .bool (amissB a), .slice A1 (elemsL a).length c1, .bool (!b.isEmpty), .bool (amissB b), .slice A2 (elemsL b).length c2]] #[]] 76)).drew := drewB ((Below.refl _ _).alloc (Nat.le_refl _) _)
  have hn : blk (w4.alloc (.cells #[.func (.func 32) #[.agg #[.bool (!a.isEmpty), .bool (amissB a), .slice A1 (elemsL a).length c1, .bool (!b.isEmpty), .bool (amissB b), .slice A2 (elemsL b).length c2]] #[], .func (.func 33) #[.agg #[.bool (!a.isEmpty), .bool (amissB a), .slice A1 (elemsL a).length c1, .bool (!b.isEmpty), .bool (amissB b), .slice A2 (elemsL b).length c2]] #[], .func (.func 34) #[.agg #[.bool (!a.isEmpty), .bool (amissB a), .slice A1 (elemsL a).length c1, .bool (!b.isEmpty), .bool (amissB b), .slice A2 (elemsL b).length c2]] #[]] 76)).drew w4.heap.size #[.func (.func 32) #[.agg #[.bool (!a.isEmpty), .bool (amissB a), .slice A1 (elemsL a).length c1, .bool (!b.isEmpty), .bool (amissB b), .slice A2 (elemsL b).length c2]] #[], .func (.func 33) #[.agg #[.bool (!a.isEmpty), .bool (amissB a), .slice A1 (elemsL a).length c1, .bool (!b.isEmpty), .bool (amissB b), .slice A2 (elemsL b).length c2]] #[], .func (.func 34) #[.agg #[.bool (!a.isEmpty), .bool (amissB a), .slice A1 (elemsL a).length c1, .bool (!b.isEmpty), .bool (amissB b), .slice A2 (elemsL b).length c2]] #[]] := (blk.new w4 _ _).keep rfl
  refine hK.out _ _ (HBK.out.below hd) ?_
  clear hK K
  generalize (w4.alloc (.cells #[.func (.func 32) #[.agg #[.bool (!a.isEmpty), .bool (amissB a), .slice A1 (elemsL a).length c1, .bool (!b.isEmpty), .bool (amissB b), .slice A2 (elemsL b).length c2]] #[], .func (.func 33) #[.agg #[.bool (!a.isEmpty), .bool (amissB a), .slice A1 (elemsL a).length c1, .bool (!b.isEmpty), .bool (amissB b), .slice A2 (elemsL b).length c2]] #[], .func (.func 34) #[.agg #[.bool (!a.isEmpty), .bool (amissB a), .slice A1 (elemsL a).length c1, .bool (!b.isEmpty), .bool (amissB b), .slice A2 (elemsL b).length c2]] #[]] 76)).drew = w5 at *
  have HN := Lib.hid hn; have HD := Lib.hid hd; clear hn hd
  refine growS_call (by rfl) (fun K hK => ?_)
  go_simp
  have h8 := first_any (.agg #[.bool (!a.isEmpty), .bool (amissB a), .slice A1 (elemsL a).length c1, .bool (!b.isEmpty), .bool (amissB b), .slice A2 (elemsL b).length c2]) (singleE a b) (formedE a b) (agreedE a) w4.heap.size w5 HN.out
    (fun W hb => single_any _ _ _ _ _ _ _ _ _ _ W)
    (fun W hb => formed_any _ _ _ _ _ _ _ _ W ((HV1.out.bel HD.out).bel hb) ((HV2.out.bel HD.out).bel hb) HS1.out HS2.out HF1.out HF2.out)
    (fun W hb => agreed_any _ _ _ _ _ _ _ _ _ W (HEW.out _ ((HB4.out.trans (HD.out.mono HB4.out.size)).trans (hb.mono (HB4.out.trans (HD.out.mono HB4.out.size)).size))) ((HV1.out.bel HD.out).bel hb) HS1.out HF1.out)
  rw [show faultE (singleE a b) (formedE a b) (agreedE a) = endE a b from HRE.out] at h8
  refine h8.mono ?_
  rintro e w6 ⟨rfl, hb6⟩
  have HB46 := Lib.hid (HD.out.trans (hb6.mono HD.out.size))
  have HS6 := Lib.hid (HBK.out.below HB46.out)
  refine hK.out _ _ HS6.out ?_
  clear hK K h8 hb6
  have HR6 := Lib.hid (HRB.out.below (HB4.out.trans (HB46.out.mono HB4.out.size)))
  obtain ⟨⟨s0, z0⟩, ⟨s1, z1⟩, ⟨s2, z2⟩, ⟨s3, z3⟩, ⟨s4, z4⟩, ⟨s5, z5⟩⟩ := HR6.out.asks6 (.bool (!a.isEmpty)) (.bool (amissB a)) (.slice A1 (elemsL a).length c1) (.bool (!b.isEmpty)) (.bool (amissB b))
  refine growS_call (by rfl) (fun K hK => ?_)
  go_simp
  have hne : B ≠ w.heap.size := by
    have h1 := HRB.out.lt; have h2 := HBZ.out; omega
  refine hK.out _ _ ((((((HS6.out.other hne _).other hne _).other hne _).other hne _).other hne _).other hne _) ?_
  clear hK K
  iterate 1
    refine growS_take (by rfl) ?_
    apply Exists.intro
    refine ⟨fun w' hE => ?_, ?_⟩
    · have q0 := hE.cell 0 (.bool (!a.isEmpty)) rfl; have q1 := hE.cell 1 (.bool (amissB a)) rfl; have q2 := hE.cell 2 (.slice A1 (elemsL a).length c1) rfl; have q3 := hE.cell 3 (.bool (!b.isEmpty)) rfl; have q4 := hE.cell 4 (.bool (amissB b)) rfl; have q5 := hE.cell 5 (.slice A2 (elemsL b).length c2) rfl; have hmf : ∀ (fn : Fn) (first cap : Array Value) (w : World), (Instr.makeFunc fn first cap).run Tryd.prog w = .ok (.func fn first cap) w := fun _ _ _ _ => rfl
      go_simp
      try with_reducible rfl
    simp only [Act.put, List.setIfInBounds_toArray, List.set_cons_zero, List.set_cons_succ]
  refine growS_done (NoPanic.normal ?_)
  -- END
  have HP := Lib.hid (HR6.out.put6 (.bool (!a.isEmpty)) (.bool (amissB a)) (.slice A1 (elemsL a).length c1) (.bool (!b.isEmpty)) (.bool (amissB b)) (.slice A2 (elemsL b).length c2))
  have m0 := HP.out.cell 0 (.bool (!a.isEmpty)) rfl
  have m1 := HP.out.cell 1 (.bool (amissB a)) rfl
  have m2 := HP.out.cell 2 (.slice A1 (elemsL a).length c1) rfl
  have m3 := HP.out.cell 3 (.bool (!b.isEmpty)) rfl
  have m4 := HP.out.cell 4 (.bool (amissB b)) rfl
  have m5 := HP.out.cell 5 (.slice A2 (elemsL b).length c2) rfl
  have hno : ∀ (i : Nat) x, (#[.bool false, .bool false, .slice none 0 0, .bool false, .bool false, .slice none 0 0] : Array Value)[i]? ≠ some (Value.string x) := by
    intro i x
    rcases i with _ | _ | _ | _ | _ | _ | i <;> simp
  have hk6 := fun k (hk : k ≠ w.heap.size) => put6_other w6 w.heap.size (.bool (!a.isEmpty)) (.bool (amissB a)) (.slice A1 (elemsL a).length c1) (.bool (!b.isEmpty)) (.bool (amissB b)) (.slice A2 (elemsL b).length c2) hk
  have hz6 := Nat.le_of_eq (put6_size w6 w.heap.size (.bool (!a.isEmpty)) (.bool (amissB a)) (.slice A1 (elemsL a).length c1) (.bool (!b.isEmpty)) (.bool (amissB b)) (.slice A2 (elemsL b).length c2)).symm
  have HX1 := Lib.hid ((HV1.out.bel HB46.out).stay HR6.out hno hk6 hz6)
  have HX2 := Lib.hid ((HV2.out.bel HB46.out).stay HR6.out hno hk6 hz6)
  have HX3 := Lib.hid (put6_below (HAL.out.trans ((HB4.out.trans (HB46.out.mono HB4.out.size)).mono HAL.out.size)) (Nat.le_refl w.heap.size) (.bool (!a.isEmpty)) (.bool (amissB a)) (.slice A1 (elemsL a).length c1) (.bool (!b.isEmpty)) (.bool (amissB b)) (.slice A2 (elemsL b).length c2))
  unfold put6 at m0 m1 m2 m3 m4 m5
  clear hno hk6 hz6
  go_wp2_with fail
  exact bodyPost_ret (v := .tuple #[hdrV (!a.isEmpty) (amissB a) (.slice A1 (elemsL a).length c1) (!b.isEmpty) (amissB b) (.slice A2 (elemsL b).length c2), .int .i64 (endE a b)]) (by simp [results, Tryd.results18, go_sem, m0, m1, m2, m3, m4, m5, hdrV]) rfl ⟨A1, c1, A2, c2, rfl, HX1.out, HX2.out, HX3.out⟩
end Go.Proofs.YtnhkebbmgiokbaaDoor
