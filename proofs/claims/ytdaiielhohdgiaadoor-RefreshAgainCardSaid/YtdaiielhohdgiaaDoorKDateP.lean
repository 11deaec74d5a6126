/- The date layer's Parse, walked. -/
import Derived.Test.YtdaiielhohdgiaaDoorKDateC
import Derived.Test.YtdaiielhohdgiaaDoorKDateT
import Derived.Lib.OthersKept
import Derived.Deep.LoopGhost
import Derived.WalkMore
namespace Go.Proofs.YtdaiielhohdgiaaDoor
open Go.RowKit

def forms : List (List UInt8) := [fixF, oldF, ascF]
/-- the first of the forms that l has -/
def firstF (nw : Int) : List (List UInt8) → List UInt8 → Option Int
  | [], _ => none
  | f :: fs, l => (formL nw f l).or (firstF nw fs l)
theorem firstF_all (nw : Int) (l : List UInt8) : firstF nw forms l = parseDL nw l := by
  simp [firstF, forms, parseDL]
/-- what Parse answers -/
def ansV (o : Option Int) : Value := match o with
  | some t => .tuple #[.int .i64 t, .int .i64 0]
  | none => .tuple #[.int .i64 0, .int .i64 4]

/-- the bounds of what is read -/
def RB (r : Rd) : Prop := 0 ≤ r.d ∧ 0 ≤ r.m ∧ r.m ≤ 11 ∧ 0 ≤ r.h ∧ 0 ≤ r.i ∧ 0 ≤ r.s
theorem RB.zero : RB .zero := by unfold RB Rd.zero; decide
theorem RB.take {r : Rd} (h : RB r) (c : UInt8) (l : List UInt8) (nw : Int) : RB (takeL c l nw r).1 := by
  have hm := (lead_bd sMonths l).2.2 (by decide)
  have hm2 : (leadL sMonths l).1 < 12 := hm
  unfold takeL
  repeat' split
  all_goals (unfold RB at h ⊢; dsimp only; omega)
theorem forms_ok : ∀ f ∈ forms, f.length ≤ 18 ∧ (f.all fun b => decide (b.toNat < 128)) = true := by decide
theorem runL_cons (nw : Int) (c : UInt8) (cs l : List UInt8) (r : Rd) : runL nw (c :: cs) l r = if (takeL c l nw r).2 = 0 then none else runL nw cs (l.drop (takeL c l nw r).2) (takeL c l nw r).1 := rfl
theorem bs_at {l : List UInt8} {k : Nat} (h : k < (bs l).size) : l.drop k = (bs l)[k] :: l.drop (k + 1) := by
  have h2 : k < l.length := by simpa using h
  rw [List.drop_eq_getElem_cons h2]
  congr 1
theorem firstF_skip {nw : Int} {j : Nat} {l : List UInt8} (h : j < forms.length) (hn : formL nw forms[j] l = none) : firstF nw (forms.drop j) l = firstF nw (forms.drop (j + 1)) l := by
  rw [List.drop_eq_getElem_cons h, firstF, hn]; rfl
theorem firstF_hit {nw : Int} {j : Nat} {l : List UInt8} {t : Int} (h : j < forms.length) (hn : formL nw forms[j] l = some t) : firstF nw (forms.drop j) l = some t := by
  rw [List.drop_eq_getElem_cons h, firstF, hn]; rfl
theorem formL_no {nw : Int} {f l : List UInt8} (h : runL nw f l .zero = none) : formL nw f l = none := by unfold formL; rw [h]
theorem formL_rest {nw : Int} {f l : List UInt8} {r : Rd} {x : List UInt8} (h : runL nw f l .zero = some (r, x)) (hx : x ≠ []) : formL nw f l = none := by
  unfold formL; rw [h]
  cases x with
  | nil => exact absurd rfl hx
  | cons a x => rfl
theorem formL_end {nw : Int} {f l : List UInt8} {r : Rd} (h : runL nw f l .zero = some (r, [])) : formL nw f l = if validL r then some (tickL r) else none := by
  unfold formL; rw [h]
/-- at the head of the outer loop -/
def OutR (w w1 : World) (nw : Int) (l : List UInt8) (j : Nat) (wr : World) : Prop :=
  wr.heap[w1.heap.size]? = some (.cells (strs forms) 9 (0, 0)) ∧ Below w.heap.size w wr ∧ Tabs wr ∧ firstF nw (forms.drop j) l = parseDL nw l
/-- at the head of the inner loop -/
def InR (nw : Int) (f l : List UInt8) (wo : World) (pos : Nat) (rest : ByteArray) (r : Rd) (wi : World) : Prop :=
  wi.heap[wo.heap.size + 1]? = some (.stringIter (bs f) pos) ∧ RdIn wo.heap.size r wi ∧ Below wo.heap.size wo wi ∧ RB r ∧ runL nw (f.drop pos) rest.data.toList r = runL nw f l .zero

/-- a round of the outer loop that has found nothing -/
theorem OutR.next {w w1 wo w2 : World} {nw : Int} {l : List UInt8} {j : Nat} (h : OutR w w1 nw l j wo) (hA : w.heap.size ≤ w1.heap.size) (hb : Below wo.heap.size wo w2) (hj : j < forms.length) (hn : formL nw forms[j] l = none) : OutR w w1 nw l (j + 1) w2 := by
  obtain ⟨a, b, c, d⟩ := h
  have hlt := lt_of_block a
  exact ⟨(hb.block _ hlt).trans a, b.trans (hb.mono (by omega)), c.below hb, by rw [← firstF_skip hj hn]; exact d⟩
theorem str_nil {s : ByteArray} (h : s.toList.isEmpty = true) : s.data.toList = [] := by rw [Lib.toList_data] at h; simpa using h
theorem str_cons {s : ByteArray} (h : s.toList.isEmpty = false) : s.data.toList ≠ [] := by
  intro e; rw [Lib.toList_data, e] at h; cases h

set_option maxRecDepth 100000 in
set_option maxHeartbeats 4000000 in
theorem parse_any (s : ByteArray) (now y m d h i sc : Int) (w : World) (hs : s.size ≤ maxLen) (H : IsT (clampI now) y m d h i sc) (ht : Tabs w) :
    Calls Tryd.prog 26 #[.string s, .int .i64 now] w fun e w' => e = .returned (ansV (parseDL (y + 50) s.data.toList)) ∧ Below w.heap.size w w' := by
  have y0 := H.1.1
  have y1 := H.1.2.1
  have HH := Lib.hid H
  have HT := Lib.hid ht
  have hs2 := hs
  unfold maxLen at hs2
  clear H ht
  go_enter Tryd.func26, Tryd.ntmps26
  go_wp2_with fail
  go_step3
  go_wp2_with fail
  refine (yearOf_any _ _ _ _ _ _ _ _ HH.out).mono ?_
  rintro e w1 ⟨rfl, hb1⟩
  have HT1 := Lib.hid (HT.out.below hb1)
  have HB1 := Lib.hid hb1
  have hz1 := hb1.size
  clear hb1
  go_wp2_with fail
  go_step3
  go_wp2_with fail
  go_loopg [19] 3 (fun k v wr => ∃ j : Nat, j + k = 3 ∧ v = .int .i64 j ∧ Hid (OutR w w1 (y + 50) s.data.toList j wr))
  case atStart =>
    refine ⟨0, rfl, rfl, ?_⟩
    refine ⟨?_, HB1.out.trans (((Below.refl _ _).alloc hz1 _)), HT1.out.alloc _, firstF_all _ _⟩
    show (w1.heap.push _)[w1.heap.size]? = _
    simp [strs, forms, bs, fixF, oldF, ascF]
  case round =>
    obtain ⟨j, hj, rfl, HO⟩ := hrel
    obtain ⟨wo, rfl⟩ : ∃ wo : World, wo = wr := ⟨_, rfl⟩
    obtain ⟨ko, rfl⟩ : ∃ ko : Nat, ko = gk := ⟨_, rfl⟩
    rcases Nat.eq_zero_or_pos ko with hz | hz
    · subst hz
      obtain rfl : j = 3 := by omega
      go_wp2_with fail
      try rw [Exit.noGoto_ret]
      go_ret2
      have h1 := HO.out.2.2.2
      have h2 : (none : Option Int) = parseDL (y + 50) s.data.toList := h1
      rw [← h2]
      exact ⟨rfl, HO.out.2.1⟩
    · have hj3 : j < forms.length := by show j < 3; omega
      have hj4 : (j : Int) < 3 := by omega
      have hcell : wo.cell? ⟨w1.heap.size, j, none⟩ = some (.string (bs forms[j])) := by
        have := HO.out.1
        unfold World.cell?
        simp [this, strs, hj3]
      obtain ⟨f, hf⟩ : ∃ f, forms[j] = f := ⟨_, rfl⟩
      have HF := Lib.hid hf
      have hfm : f ∈ forms := by rw [← hf]; exact List.getElem_mem hj3
      have hf18 := (forms_ok f hfm).1
      have HA := Lib.hid (forms_ok f hfm).2
      rw [hf] at hcell
      clear hf hfm
      go_wp2_with fail
      go_loopg [10] (f.length) (fun c v wi => ∃ (pos : Nat) (rest : ByteArray) (r : Rd), pos + c = f.length ∧ v = .string rest ∧ rest.size ≤ maxLen ∧ Hid (InR (y + 50) f s.data.toList wo pos rest r wi))
      case atStart =>
        refine ⟨0, s, .zero, by omega, rfl, by unfold maxLen; exact hs2, ?_⟩
        refine ⟨?_, ?_, ((Below.refl _ _).alloc (Nat.le_refl _) _).alloc (by simp) _, RB.zero, by rw [List.drop_zero]⟩
        · have := World.iter_heap (wo.alloc (.cells (rdRow 0 0 0 0 0 0 0) 68)) (bs f) 0
          simpa [rdRow] using this
        · have h1 : (wo.alloc (.cells (rdRow 0 0 0 0 0 0 0) 68)).heap[wo.heap.size]? = some (.cells (rdRow 0 0 0 0 0 0 0) 68 (0, 0)) := by
            show (wo.heap.push _)[wo.heap.size]? = _
            simp
          exact (Below.heap_alloc _ _ _ (by simp)).trans h1
      case round =>
        obtain ⟨pos, rest, r, hp, rfl, hrs, HI⟩ := hrel
        obtain ⟨wi, rfl⟩ : ∃ wi : World, wi = wr := ⟨_, rfl⟩
        have hit := HI.out.1
        rcases Nat.eq_zero_or_pos gk with hz | hz
        · subst hz
          have hpe : ¬ pos < (bs f).size := by rw [bs_size]; omega
          have hnx : ∀ ty, (Instr.next (.pointer (some ⟨wo.heap.size + 1, 0, none⟩)) true ty).run Tryd.prog wi = _ := fun ty => Lib.run_next_end_at wi (wo.heap.size + 1) (bs f) pos ty hit hpe
          obtain ⟨k0, k1, k2, k3, k4, k5, k6⟩ := rdIn_cells HI.out.2.1
          obtain rfl : pos = f.length := by omega
          have HR : Hid (runL (y + 50) f s.data.toList .zero = some (r, rest.data.toList)) := by
            show _ = _
            rw [← HI.out.2.2.2.2, List.drop_length]; rfl
          obtain ⟨b1, b2, b3, b4, b5, b6⟩ := HI.out.2.2.2.1
          cases he : rest.toList.isEmpty
          · have HN : Hid (formL (y + 50) forms[j] s.data.toList = none) := by show _ = _; rw [HF.out]; exact formL_rest HR.out (str_cons he)
            go_wp2_with fail
            go_roundg (ko - 1)
            case rel => exact ⟨j + 1, by omega, by go_num, HO.out.next hz1 HI.out.2.2.1 hj3 HN.out⟩
            case measure => omega
          · have HE := Lib.hid (str_nil he)
            have HR2 : Hid (runL (y + 50) f s.data.toList .zero = some (r, [])) := by show _ = _; rw [HR.out, HE.out]
            cases hv : validL r
            · have HN : Hid (formL (y + 50) forms[j] s.data.toList = none) := by show _ = _; rw [HF.out, formL_end HR2.out, hv]; rfl
              have HV : Hid (validB r.wd r.d r.m r.y r.h r.i r.s = false) := hv
              clear hv
              go_wp2_with fail
              refine (valid_any _ _ _ _ _ _ _ _ b2 b3).mono ?_
              rw [HV.out]
              rintro e w2 ⟨rfl, hb2⟩
              have HB2 := Lib.hid (HI.out.2.2.1.trans (hb2.mono HI.out.2.2.1.size))
              clear hb2
              go_wp2_with fail
              go_roundg (ko - 1)
              case rel => exact ⟨j + 1, by omega, by go_num, HO.out.next hz1 HB2.out hj3 HN.out⟩
              case measure => omega
            · have HN : Hid (formL (y + 50) forms[j] s.data.toList = some (tickL r)) := by show _ = _; rw [HF.out, formL_end HR2.out, hv]; rfl
              have HV : Hid (validB r.wd r.d r.m r.y r.h r.i r.s = true) := hv
              have hv2 : 1970 ≤ r.y ∧ r.y ≤ 9999 ∧ 1 ≤ r.d ∧ r.d ≤ domI r.y r.m ∧ r.h ≤ 23 ∧ r.i ≤ 59 ∧ r.s ≤ 59 := by
                have := of_decide_eq_true hv
                exact ⟨this.1, this.2.1, this.2.2.1, this.2.2.2.1, this.2.2.2.2.1, this.2.2.2.2.2.1, this.2.2.2.2.2.2.1⟩
              obtain ⟨v1, v2, v3, v4, v5, v6, v7⟩ := hv2
              have db := dom_bd r.y r.m
              clear hv
              go_wp2_with fail
              refine (valid_any _ _ _ _ _ _ _ _ b2 b3).mono ?_
              rw [HV.out]
              rintro e w2 ⟨rfl, hb2⟩
              have HB2 := Lib.hid (HI.out.2.2.1.trans (hb2.mono HI.out.2.2.1.size))
              have HRD := Lib.hid (HI.out.2.1.below hb2)
              clear hb2 k0 k1 k2 k3 k4 k5 k6
              obtain ⟨k0, k1, k2, k3, k4, k5, k6⟩ := rdIn_cells HRD.out
              go_wp2_with fail
              refine (tick_any _ _ _ _ _ _ _ _ v1 v2 b2 b3 b1 (by omega) b4 (by omega) b5 (by omega) b6 (by omega)).mono ?_
              rintro e w3 ⟨rfl, hb3⟩
              have HB3 := Lib.hid (HB2.out.trans (hb3.mono HB2.out.size))
              clear hb3
              go_wp2_with fail
              try rw [Exit.noGoto_ret]
              go_ret2
              have h1 := HO.out.2.2.2
              rw [firstF_hit hj3 HN.out] at h1
              rw [← h1]
              exact ⟨rfl, HO.out.2.1.trans (HB3.out.mono HO.out.2.1.size)⟩
        · have hps : pos < (bs f).size := by rw [bs_size]; omega
          have ha : ((bs f)[pos]'hps).toNat < 128 := of_decide_eq_true (List.all_eq_true.1 HA.out _ (by have := mem_at (bs f) pos hps; rw [bs_data] at this; exact this))
          have hnx : ∀ ty, (Instr.next (.pointer (some ⟨wo.heap.size + 1, 0, none⟩)) true ty).run Tryd.prog wi = _ := fun ty => Lib.run_next_ascii_at wi (wo.heap.size + 1) (bs f) pos ty hit hps ha
          obtain ⟨c, hc⟩ : ∃ c, (bs f)[pos]'hps = c := ⟨_, rfl⟩
          have HD : Hid (f.drop pos = c :: f.drop (pos + 1)) := by show _ = _; rw [← hc]; exact bs_at hps
          rw [hc] at hnx
          clear hc ha
          have HR1 : Hid (RdIn wo.heap.size r (wi.iterAt (wo.heap.size + 1) (bs f) (pos + 1))) := (Lib.iterAt_other _ _ _ _ _ (by omega)).trans HI.out.2.1
          have HB4 : Hid (Below wo.heap.size wo (wi.iterAt (wo.heap.size + 1) (bs f) (pos + 1))) := Lib.below_iterAt HI.out.2.2.1 (by omega) _ _
          have HT4 : Hid (Tabs (wi.iterAt (wo.heap.size + 1) (bs f) (pos + 1))) := HO.out.2.2.1.below HB4.out
          have HI4 : Hid ((wi.iterAt (wo.heap.size + 1) (bs f) (pos + 1)).heap[wo.heap.size + 1]? = some (.stringIter (bs f) (pos + 1))) := Lib.iterAt_heap wi (wo.heap.size + 1) (bs f) pos (pos + 1) hit
          have hql := take_le c rest.data.toList (y + 50) r
          have HRB := Lib.hid (HI.out.2.2.2.1.take c rest.data.toList (y + 50))
          obtain ⟨⟨r2, n⟩, hq⟩ : ∃ q, takeL c rest.data.toList (y + 50) r = q := ⟨_, rfl⟩
          rw [hq] at hql
          have hql2 : n ≤ rest.size := hql
          have hrs2 := hrs
          unfold maxLen at hrs2
          have HQ := Lib.hid hq
          clear hq hql
          rcases Nat.eq_zero_or_pos n with hn | hn
          · subst hn
            have HN : Hid (formL (y + 50) forms[j] s.data.toList = none) := by
              show _ = _
              rw [HF.out]
              refine formL_no ?_
              rw [← HI.out.2.2.2.2, HD.out, runL_cons, HQ.out, if_pos rfl]
            go_wp2_with fail
            refine (take_any _ c rest (y + 50) r _ hrs HR1.out HT4.out (by omega) (by omega)).mono ?_
            rw [HQ.out]
            rintro e w2 ⟨rfl, hr2, hk2⟩
            have HB5 := Lib.hid (HB4.out.trans (hk2.to_below (Nat.le_refl _) HB4.out.size))
            clear hr2 hk2
            go_wp2_with fail
            go_roundg (ko - 1)
            case rel => exact ⟨j + 1, by omega, by go_num, HO.out.next hz1 HB5.out hj3 HN.out⟩
            case measure => omega
          · have hn2 : ((n : Int) == 0) = false := by rw [beq_eq_false_iff_ne]; omega
            have HS : Hid (runL (y + 50) (f.drop (pos + 1)) (rest.data.toList.drop n) r2 = runL (y + 50) f s.data.toList .zero) := by
              show _ = _
              rw [← HI.out.2.2.2.2, HD.out, runL_cons, HQ.out, if_neg (by show ¬ n = 0; omega)]
            go_wp2_with fail
            refine (take_any _ c rest (y + 50) r _ hrs HR1.out HT4.out (by omega) (by omega)).mono ?_
            rw [HQ.out]
            rintro e w2 ⟨rfl, hr2, hk2⟩
            have HB5 := Lib.hid (HB4.out.trans (hk2.to_below (Nat.le_refl _) HB4.out.size))
            have HR5 := Lib.hid hr2
            have HI5 : Hid (w2.heap[wo.heap.size + 1]? = some (.stringIter (bs f) (pos + 1))) := (hk2.block _ (lt_of_block HI4.out) (by omega)).trans HI4.out
            clear hr2 hk2
            go_wp2_with fail
            go_roundg (gk - 1)
            case rel => exact ⟨pos + 1, rest.extract n rest.size, r2, by omega, rfl, by unfold maxLen; simp; omega, HI5.out, HR5.out, HB5.out, by have := HRB.out; rw [HQ.out] at this; exact this, by rw [Lib.extract_to_end]; exact HS.out⟩
            case measure => omega
end Go.Proofs.YtdaiielhohdgiaaDoor
