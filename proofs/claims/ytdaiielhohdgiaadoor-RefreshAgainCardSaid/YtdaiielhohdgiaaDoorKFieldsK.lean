/- The names that go no further, and the fields without them: the fields layer's own. -/
import Derived.Test.YtdaiielhohdgiaaDoorKFieldsG
import Derived.Test.YtdaiielhohdgiaaDoorKFieldsH
import Derived.Test.YtdaiielhohdgiaaDoorShelf
namespace Go.Proofs.YtdaiielhohdgiaaDoor
open Go.RowKit

/-- the library's table of blanks stands as it was laid -/
def Spc (w : World) : Prop := Lib.TabIs Tryd.prog w "strings.asciiSpace" .u8 Lib.asciiSpaceTab
theorem Spc.below {B : Nat} {w w' : World} (h : Spc w) (hb : Below B w w') (hB : w.heap.size ≤ B) : Spc w' := by
  unfold Spc Lib.TabIs World.var? at *
  cases hg : (Tryd.prog).globalNamed "strings.asciiSpace" with
  | none => rw [hg] at h; cases h
  | some g =>
    rw [hg] at h
    simp only [Option.bind_some] at h ⊢
    have : g < w.heap.size := by
      rcases Nat.lt_or_ge g w.heap.size with h1 | h1
      · exact h1
      · rw [Array.getElem?_eq_none h1] at h; cases h
    rw [hb.block g (by omega)]; exact h
theorem Spc.bel {w w' : World} (h : Spc w) (hb : Below w.heap.size w w') : Spc w' := h.below hb (Nat.le_refl _)
def strsA (ls : List (List UInt8)) : Array Value := (ls.map fun l => Value.string (bs l)).toArray
theorem SL_strs (w : World) (L : List (List UInt8)) : SL (w.alloc (.cells (strsA L) 9)) (.slice (some ⟨w.heap.size, 0, none⟩) L.length L.length) L := by
  refine .inr ⟨w.heap.size, 0, L.length, rfl, by simp, fun j hj => ?_⟩
  have h := cell_of_row (w.alloc (.cells (strsA L) 9)) w.heap.size (0 + j) (strsA L) _ _ (heap_alloc_new w _)
  rw [h]
  simp [strsA, hj]
theorem fields9 (s : ByteArray) (w : World) (hF : Lib.fields s.data.toList = nine) (hs : s.size < 4294967281) (ha : (s.data.toList.all fun b => decide (b.toNat < 128)) = true) (ht : Spc w) :
    Calls Tryd.prog 32 #[.string s] w fun e w' => e = .returned (.slice (some ⟨w.heap.size, 0, none⟩) 9 9) ∧ w' = w.alloc (.cells (strsA nine) 9) := by
  have h := Tryd.strings_Fields s w hs (fun j b hb => of_decide_eq_true (List.all_eq_true.1 ha b (List.mem_of_getElem? hb))) ht
  rw [hF] at h
  exact h
theorem SL.cellAt {w : World} {b off n c : Nat} {L : List (List UInt8)} (h : SL w (.slice (some ⟨b, off, none⟩) n c) L) (j : Nat) (hj : j < L.length) : w.cell? ⟨b, off + j, none⟩ = some (.string (bs L[j])) := by
  obtain ⟨b', off', e, _, hc⟩ := h.get j hj
  simp only [Option.some.injEq, Addr.mk.injEq, and_true] at e
  obtain ⟨rfl, rfl⟩ := e
  exact hc

theorem nine_len : nine.length = 9 := rfl
theorem nine_small : ∀ x ∈ nine, x.length ≤ 19 := by
  intro x hx
  have h : nine.all (fun y => decide (y.length ≤ 19)) = true := by decide
  simpa using List.all_eq_true.1 h x hx
theorem nine_step {k : Nat} (hk : k < nine.length) : nine.take (k + 1) = addK (nine.take k) nine[k] := by
  have h : (List.range 9).all (fun k => nine.take (k + 1) == addK (nine.take k) (nine.getD k [])) = true := by decide
  have := List.all_eq_true.1 h k (List.mem_range.2 hk)
  rw [beq_iff_eq, List.getD_eq_getElem?_getD, List.getElem?_eq_getElem hk] at this
  exact this

theorem addN_eq {acc : List (List UInt8)} (h : lows acc) (x : List UInt8) : addN acc x = if token x then addK acc (lower x) else acc := by
  unfold addN addK
  rw [lows_mem h]
theorem addN_len (acc : List (List UInt8)) (x : List UInt8) : (addN acc x).length ≤ acc.length + 1 := by
  unfold addN; split
  · split <;> simp
  · simp
theorem foldN_len (L : List (List UInt8)) : ∀ acc : List (List UInt8), (L.foldl addN acc).length ≤ acc.length + L.length := by
  induction L with
  | nil => intro acc; simp
  | cons x r ih => intro acc; have h1 := ih (addN acc x); have h2 := addN_len acc x; simp only [List.foldl_cons, List.length_cons]; omega
theorem foldN_lows (L : List (List UInt8)) : ∀ {acc : List (List UInt8)}, lows acc → lows (L.foldl addN acc) := by
  induction L with
  | nil => intro acc h; exact h
  | cons x r ih => intro acc h; exact ih (lows_addN h x)
theorem foldN_step {L acc : List (List UInt8)} {j : Nat} (hj : j < L.length) : (L.take (j + 1)).foldl addN acc = addN ((L.take j).foldl addN acc) L[j] := by
  rw [List.take_succ_eq_append_getElem hj, List.foldl_append]; rfl
theorem splitK_len (l : List UInt8) (sep : UInt8) : (splitL l sep).length ≤ 64 := by
  unfold splitL
  split
  · simp
  · split
    · simp
    · split
      · simp
      · omega
theorem cutK_len {sep : UInt8} : ∀ (l : List UInt8) (o e : Bool) (cur : List UInt8) (A R : List (List UInt8)), cutAt sep l o e cur A = some R → R.flatten.length ≤ A.flatten.length + cur.length + l.length
  | [], o, e, cur, A, R, h => by
    unfold cutAt at h
    split at h
    · cases h
    · cases h
      unfold addP
      have := trim_le cur
      split <;> simp <;> omega
  | c :: r, o, e, cur, A, R, h => by
    unfold cutAt at h
    split at h
    · have h1 := cutK_len r _ _ _ _ _ h
      have h2 : (addP A cur).flatten.length ≤ A.flatten.length + cur.length := by
        unfold addP
        have := trim_le cur
        split <;> simp <;> omega
      simp only [List.length_nil, List.length_cons] at h1 ⊢
      omega
    · have h1 := cutK_len r _ _ _ _ _ h
      simp only [List.length_append, List.length_cons, List.length_nil] at h1 ⊢
      omega
theorem mem_flat {L : List (List UInt8)} {x : List UInt8} (h : x ∈ L) : x.length ≤ L.flatten.length := by
  induction L with
  | nil => exact absurd h (by simp)
  | cons y r ih =>
    rw [List.flatten_cons, List.length_append]
    rcases List.mem_cons.1 h with rfl | h
    · omega
    · have := ih h; omega
theorem splitK_mem {l : List UInt8} {sep : UInt8} {x : List UInt8} (h : x ∈ splitL l sep) : x.length ≤ l.length := by
  refine Nat.le_trans (mem_flat h) ?_
  unfold splitL
  split
  · simp
  · split
    · simp
    · rename_i a h
      split
      · simp
      · have := cutK_len _ _ _ _ _ _ h; simpa using this
theorem addV_step {V : List (List UInt8)} {k : Nat} (hk : k < V.length) : (V.take (k + 1)).foldl addV nine = (splitL V[k] 44).foldl addN ((V.take k).foldl addV nine) := by
  rw [List.take_succ_eq_append_getElem hk, List.foldl_append]; rfl
theorem foldV_lows (V : List (List UInt8)) : ∀ {acc : List (List UInt8)}, lows acc → lows (V.foldl addV acc) := by
  induction V with
  | nil => intro acc h; exact h
  | cons x r ih => intro acc h; exact ih (foldN_lows _ h)
theorem foldV_len (V : List (List UInt8)) : ∀ acc : List (List UInt8), (V.foldl addV acc).length ≤ acc.length + 64 * V.length := by
  induction V with
  | nil => intro acc; simp
  | cons x r ih =>
    intro acc
    have h1 := ih (addV acc x); have h2 := foldN_len (splitL x 44) acc; have h3 := splitK_len x 44
    have h4 : (addV acc x).length = ((splitL x 44).foldl addN acc).length := rfl
    simp only [List.foldl_cons, List.length_cons]; omega
/-- names no longer than m -/
def lenTo (m : Nat) (acc : List (List UInt8)) : Prop := ∀ x ∈ acc, x.length ≤ m
theorem lenTo_addN {m : Nat} {acc : List (List UInt8)} (h : lenTo m acc) {x : List UInt8} (hx : x.length ≤ m) : lenTo m (addN acc x) := by
  unfold addN
  split
  · split
    · exact h
    · intro y hy
      rcases List.mem_append.1 hy with hy | hy
      · exact h y hy
      · rw [List.mem_singleton.1 hy, lower_len]; exact hx
  · exact h
theorem lenTo_foldN {m : Nat} (L : List (List UInt8)) : ∀ {acc : List (List UInt8)}, lenTo m acc → lenTo m L → lenTo m (L.foldl addN acc) := by
  induction L with
  | nil => intro acc h _; exact h
  | cons x r ih => intro acc h hL; exact ih (lenTo_addN h (hL x List.mem_cons_self)) fun y hy => hL y (List.mem_cons_of_mem _ hy)
theorem lenTo_foldV {m : Nat} (V : List (List UInt8)) : ∀ {acc : List (List UInt8)}, lenTo m acc → lenTo m V → lenTo m (V.foldl addV acc) := by
  induction V with
  | nil => intro acc h _; exact h
  | cons x r ih => intro acc h hV; exact ih (lenTo_foldN _ h fun y hy => Nat.le_trans (splitK_mem hy) (hV x List.mem_cons_self)) fun y hy => hV y (List.mem_cons_of_mem _ hy)
theorem lenTo_vals (l : List Fld) (n : List UInt8) : lenTo (sizeL l) (valsL l n) := fun _ hx => Nat.le_trans (mem_flat hx) (vals_flat l n)
theorem hopL_lenTo (l : List Fld) : lenTo (sizeL l + 19) (hopL l) :=
  lenTo_foldV _ (fun x hx => Nat.le_trans (nine_small x hx) (by omega)) fun x hx => Nat.le_trans (lenTo_vals l conn x hx) (by omega)
theorem hopL_len (l : List Fld) : (hopL l).length ≤ 9 + 64 * l.length := by
  have h1 := foldV_len (valsL l conn) nine; have h2 := vals_len l conn
  rw [nine_len] at h1
  unfold hopL; omega

theorem token_k (x : List UInt8) (w : World) (h : x.length ≤ maxLen) : Calls Tryd.prog 65 #[.string (bs x)] w fun e w' => e = .returned (.bool (token x)) ∧ w = w' := by
  have := token_any (bs x) w (by rw [bs_size]; exact h)
  rwa [bs_data] at this
theorem split44 (x : List UInt8) (w : World) (h : x.length ≤ 4294967296) : Calls Tryd.prog 72 #[.string (bs x), .int .u8 44] w (SplitPost x 44 w) := by
  have := split_any (bs x) 44 w (by rw [bs_size]; exact h)
  rwa [bs_data] at this

set_option maxHeartbeats 4000000 in
set_option maxRecDepth 100000 in
theorem hop_any (v : Value) (l : List Fld) (w : World) (h : FL w v l) (hs : smallF l) (hl : l.length ≤ 128) (hz : sizeL l ≤ 1073741824) (ht : Spc w) :
    Calls Tryd.prog 57 #[v] w (RetS w (hopL l)) := by
  obtain ⟨A, c, rfl⟩ := h.form
  have hmk := make_map0
  have hst := HMem.start w
  have HSP : Hid (Spc _) := ht.bel hst.bel
  have HST := Lib.hid hst
  have HF := Lib.hid h; have HSm : Hid (smallF l) := hs; have HZ : Hid (sizeL l ≤ 1073741824) := hz
  have HSZ : Hid (w.heap.size + 3 = (((w.alloc (.cells #[.slice none 0 0] 33)).alloc (.map #[] 0)).alloc (.cells #[.map (some (w.heap.size + 1))] 74)).heap.size) := by show _ = _; simp
  clear h hs hz ht hst
  go_enter Tryd.func57, Tryd.ntmps57
  go_wp2_with fail
  clear hmk
  refine (fields9 _ _ (of_decide_eq_true (by kernel_rfl)) (of_decide_eq_true (by kernel_rfl)) (by kernel_rfl) HSP.out).mono ?_
  rintro e w1 ⟨rfl, rfl⟩
  generalize ((w.alloc (.cells #[.slice none 0 0] 33)).alloc (.map #[] 0)).alloc (.cells #[.map (some (w.heap.size + 1))] 74) = W at *
  have HSL0 := Lib.hid (SL_strs W nine)
  have HM0 : Hid (HMem w.heap.size (fun g => g = W.heap.size) w (W.alloc (.cells (strsA nine) 9)) []) := (HST.out.guard fun g hg => .inr (by rw [hg]; exact Nat.le_refl _)).later ((Below.refl _ _).alloc (Nat.le_refl _) _)
  have HW0 : Hid (W.heap.size < (W.alloc (.cells (strsA nine) 9)).heap.size) := by show _ < _; simp
  clear HSP HST
  generalize W.alloc (.cells (strsA nine) 9) = W1 at *
  go_wp2_with fail
  go_loopw [18] (fun i wr => ∃ k : Nat, k ≤ 9 ∧ i = .int .i64 k ∧ HMem w.heap.size (fun g => g = W.heap.size) w wr (nine.take k) ∧ SL wr (.slice (some ⟨W.heap.size, 0, none⟩) 9 9) nine ∧ W.heap.size < wr.heap.size) (fun i _ => 9 - (intOf i).toNat)
  case atStart => exact ⟨0, Nat.zero_le _, rfl, HM0.out, HSL0.out, HW0.out⟩
  case round =>
    obtain ⟨k, hk, rfl, hm, hsl, hw⟩ := hrel
    have HM := Lib.hid hm; have HS := Lib.hid hsl; have HW := Lib.hid hw; clear hm hsl hw HM0 HSL0 HW0
    by_cases hlt : k < nine.length
    · have hlt9 : k < 9 := hlt
      have hc := HS.out.cellAt k hlt
      rw [Nat.zero_add] at hc
      have HT := Lib.hid (nine_step hlt)
      have hx := nine_small nine[k] (List.getElem_mem hlt)
      have hal : (nine.take k).length ≤ 9 := Nat.le_trans (List.length_take_le' _ _) (by rw [nine_len]; exact Nat.le_refl _)
      generalize nine[k] = x at *
      have hcall := hop1_any HM.out (fun g hg => by subst hg; exact ⟨by have := HSZ.out; omega, HW.out⟩) x (by omega) (by omega)
      have HC := Lib.hid hcall; clear hcall hal
      go_wp2_with (go_at_call 71; refine HC.out.mono ?_; rintro e w' ⟨rfl, hp⟩; have HP := Lib.hid hp; clear hp)
      go_roundw
      case rel => exact ⟨k + 1, by omega, by go_num, by rw [HT.out]; exact HP.out.1, HS.out.at fun g hg => HP.out.2.1 g (by simpa [Value.ownBlock] using hg.symm), Nat.lt_of_lt_of_le HW.out HP.out.2.2⟩
      case measure => simp [intOf]; omega
    · have hk9 : k = 9 := by rw [nine_len] at hlt; omega
      subst hk9
      have HM9 : Hid (HMem w.heap.size (fun g => g = W.heap.size) w wr nine) := HM.out
      clear HM HS hk hlt
      go_wp2_with fail
      refine (values_any _ l conn _ (HF.out.bel HM9.out.bel) HSm.out (by omega) (by decide)).mono ?_
      rintro e w2 ⟨v2, rfl, hs2, hb2⟩
      have HV := Lib.hid (lenTo_vals l conn)
      have HVL := Lib.hid (vals_len l conn)
      have HR : Hid (hopL l = (valsL l conn).foldl addV nine) := rfl
      generalize valsL l conn = V at *
      have HM2 : Hid (HMem w.heap.size (fun g => v2.ownBlock = some g) w w2 nine) := (HM9.out.guard fun g hg => .inr (World.ownsRow.lt hs2 g hg).1).later hb2
      have HG2 : Hid (∀ g, v2.ownBlock = some g → w.heap.size + 3 ≤ g ∧ g < w2.heap.size) := fun g hg => ⟨Nat.le_trans HM9.out.size (World.ownsRow.lt hs2 g hg).1, (World.ownsRow.lt hs2 g hg).2⟩
      have HS2 := Lib.hid hs2.sl
      obtain ⟨A2, c2, rfl⟩ := hs2.form
      clear hs2 hb2 HM9
      go_wp2_with fail
      go_loopw [29] (fun i wq => ∃ k : Nat, k ≤ V.length ∧ i = .int .i64 k ∧ HMem w.heap.size (fun g => (Value.slice A2 V.length c2).ownBlock = some g) w wq ((V.take k).foldl addV nine) ∧ SL wq (.slice A2 V.length c2) V ∧ w2.heap.size ≤ wq.heap.size) (fun i _ => V.length - (intOf i).toNat)
      case atStart => exact ⟨0, Nat.zero_le _, rfl, HM2.out, HS2.out, Nat.le_refl _⟩
      case round =>
        obtain ⟨k, hk, rfl, hm, hsl, hw⟩ := hrel
        have HM := Lib.hid hm; have HS := Lib.hid hsl; have HW := Lib.hid hw; clear hm hsl hw HM2 HS2
        have hvl := HVL.out
        by_cases hlt : k < V.length
        · obtain ⟨b, off, rfl, hbb, hc⟩ := HS.out.get k hlt
          have HT := Lib.hid (addV_step hlt)
          have HX : Hid (V[k].length ≤ 1073741824) := Nat.le_trans (HV.out _ (List.getElem_mem hlt)) HZ.out
          have HLo : Hid (lows ((V.take k).foldl addV nine)) := foldV_lows _ lows_nine
          have HLe : Hid (((V.take k).foldl addV nine).length ≤ 8201) := by
            have h1 := foldV_len (V.take k) nine
            have h2 := HVL.out
            have h3 : (V.take k).length ≤ V.length := List.length_take_le' _ _
            rw [nine_len] at h1
            show _ ≤ _; omega
          generalize V[k] = x at *
          generalize (V.take k).foldl addV nine = acc at *
          go_wp2_with fail
          refine (split44 x _ (by have := HX.out; omega)).mono ?_
          rintro e w3 ⟨p, rfl, hp, hb3⟩
          have HPm : Hid (lenTo 1073741824 (splitL x 44)) := fun y hy => Nat.le_trans (splitK_mem hy) HX.out
          have HPl := Lib.hid (splitK_len x 44)
          generalize splitE x 44 = E at *
          generalize splitL x 44 = P at *
          have HM3 : Hid (HMem w.heap.size (fun g => (Value.slice (some ⟨b, off, none⟩) V.length c2).ownBlock = some g ∨ p.ownBlock = some g) w w3 acc) := (HM.out.guard fun g hg => hg.imp id fun h => (World.ownsRow.lt hp g h).1).later hb3
          have HG3 : Hid (∀ g, (Value.slice (some ⟨b, off, none⟩) V.length c2).ownBlock = some g ∨ p.ownBlock = some g → w.heap.size + 3 ≤ g ∧ g < w3.heap.size) := by
            rintro g (hg | hg)
            · have h1 := HG2.out g hg; exact ⟨h1.1, by have := HW.out; have := hb3.size; omega⟩
            · have h1 := World.ownsRow.lt hp g hg; exact ⟨Nat.le_trans HM.out.size h1.1, h1.2⟩
          have HS3 := Lib.hid (HS.out.bel hb3)
          have HQ3 := Lib.hid hp.sl
          have HW3 : Hid (w2.heap.size ≤ w3.heap.size) := Nat.le_trans HW.out hb3.size
          obtain ⟨A3, c3, rfl⟩ := hp.form
          clear hp hb3 HM HS HW hc hbb
          go_wp2_with fail
          go_loopw [40] (fun i wp => ∃ j : Nat, j ≤ P.length ∧ i = .int .i64 j ∧ HMem w.heap.size (fun g => (Value.slice (some ⟨b, off, none⟩) V.length c2).ownBlock = some g ∨ (Value.slice A3 P.length c3).ownBlock = some g) w wp ((P.take j).foldl addN acc) ∧
              SL wp (.slice (some ⟨b, off, none⟩) V.length c2) V ∧ SL wp (.slice A3 P.length c3) P ∧ w3.heap.size ≤ wp.heap.size) (fun i _ => P.length - (intOf i).toNat)
          case atStart => exact ⟨0, Nat.zero_le _, rfl, HM3.out, HS3.out, HQ3.out, Nat.le_refl _⟩
          case round =>
            obtain ⟨j, hj, rfl, hm, hsl, hq, hw⟩ := hrel
            have HM := Lib.hid hm; have HS := Lib.hid hsl; have HQ := Lib.hid hq; have HW := Lib.hid hw; clear hm hsl hq hw HM3 HS3 HQ3
            have hpl := HPl.out
            by_cases hjt : j < P.length
            · obtain ⟨b3, off3, rfl, hbb, hc⟩ := HQ.out.get j hjt
              have HTj := Lib.hid (foldN_step (acc := acc) hjt)
              have HY : Hid (P[j].length ≤ 1073741824) := HPm.out _ (List.getElem_mem hjt)
              have HLoj : Hid (lows ((P.take j).foldl addN acc)) := foldN_lows _ HLo.out
              have HLej : Hid (((P.take j).foldl addN acc).length ≤ 8265) := by
                have h1 := foldN_len (P.take j) acc
                have h2 := HPl.out; have h4 := HLe.out
                have h3 : (P.take j).length ≤ P.length := List.length_take_le' _ _
                show _ ≤ _; omega
              generalize P[j] = y at *
              generalize (P.take j).foldl addN acc = ac2 at *
              cases hty : token y
              · have HE : Hid (addN ac2 y = ac2) := by show _ = _; rw [addN_eq HLoj.out, hty]; rfl
                have hcall := token_k y wr (by have := HY.out; unfold maxLen; omega)
                rw [hty] at hcall
                go_wp2_with (go_at_call 65; refine hcall.mono ?_; rintro e w' ⟨rfl, rfl⟩)
                go_roundw
                case rel => exact ⟨j + 1, by omega, by go_num, by rw [HTj.out, HE.out]; exact HM.out, HS.out, HQ.out, HW.out⟩
                case measure => simp [intOf]; omega
              · have HE : Hid (addN ac2 y = addK ac2 (lower y)) := by show _ = _; rw [addN_eq HLoj.out, hty]; rfl
                have hcall := token_k y wr (by have := HY.out; unfold maxLen; omega)
                rw [hty] at hcall
                have HLn : Hid ((lower y).length ≤ 1073741824) := by show _ ≤ _; rw [lower_len]; exact HY.out
                have HLC : Hid (∀ w, Calls Tryd.prog 38 #[.string (bs y)] w fun e w' => e = .returned (.string (bs (lower y))) ∧ Below w.heap.size w w') := fun w => lower_l y w (by have := HY.out; unfold maxLen; omega)
                clear hty
                generalize lower y = ly at *
                go_wp2_with (go_at_call 65; refine hcall.mono ?_; rintro e w' ⟨rfl, rfl⟩)
                clear hcall
                refine (HLC.out _).mono ?_
                rintro e w5 ⟨rfl, hb5⟩
                have hcall5 := hop1_any (HM.out.later hb5) (fun g hg => by have h1 := HG3.out g hg; have h2 := HW.out; have h3 := hb5.size; exact ⟨h1.1, by omega⟩) ly (by have := HLn.out; omega) (by have := HLej.out; omega)
                have HC5 := Lib.hid hcall5
                have HS5 := Lib.hid (HS.out.bel hb5); have HQ5 := Lib.hid (HQ.out.bel hb5)
                have HW5 : Hid (w3.heap.size ≤ w5.heap.size) := Nat.le_trans HW.out hb5.size
                clear hcall5 hb5 HS HQ HW HM
                go_wp2_with (go_at_call 71; refine HC5.out.mono ?_; rintro e w6 ⟨rfl, hp⟩; have HP := Lib.hid hp; clear hp)
                go_roundw
                case rel => exact ⟨j + 1, by omega, by go_num, by rw [HTj.out, HE.out]; exact HP.out.1, HS5.out.at fun g hg => HP.out.2.1 g (.inl hg), HQ5.out.at fun g hg => HP.out.2.1 g (.inr hg), Nat.le_trans HW5.out HP.out.2.2⟩
                case measure => simp [intOf]; omega
            · have HMe : Hid (HMem w.heap.size (fun g => (Value.slice (some ⟨b, off, none⟩) V.length c2).ownBlock = some g) w wr ((V.take (k + 1)).foldl addV nine)) := by
                have h := HM.out.guard (G := fun g => (Value.slice (some ⟨b, off, none⟩) V.length c2).ownBlock = some g) fun g hg => .inl (.inl hg)
                rw [List.take_of_length_le (by omega)] at h
                rw [← HT.out] at h
                exact h
              go_wp2_with fail
              go_roundw
              case rel => exact ⟨k + 1, by omega, by go_num, HMe.out, HS.out, Nat.le_trans HW3.out HW.out⟩
              case measure => simp [intOf]; omega
        · have HMe : Hid (HMem w.heap.size (fun g => (Value.slice A2 V.length c2).ownBlock = some g) w wr (hopL l)) := by
            have h := HM.out
            rw [List.take_of_length_le (by omega), ← HR.out] at h
            exact h
          obtain ⟨vo, ho1, ho2, _⟩ := HMe.out.out
          obtain ⟨ao, co, rfl⟩ := ho2.form
          have hco := cell_of_one ho1
          have HO := Lib.hid ho2; clear ho1 ho2
          go_wp2_with fail
          go_ret
          exact ⟨_, rfl, HO.out.mono (by omega), HMe.out.bel⟩

set_option maxHeartbeats 400000 in
set_option maxRecDepth 100000 in
theorem clean_any (v : Value) (l : List Fld) (w : World) (h : FL w v l) (hs : smallF l) (hl : l.length ≤ 128) (hz : sizeL l ≤ 1073741824) (ht : Spc w) :
    Calls Tryd.prog 35 #[v] w (RetF w (cleanL l)) := by
  have hcall := hop_any v l w h hs hl hz ht
  have HF := Lib.hid h; have HSm : Hid (smallF l) := hs
  have HU : Hid (∀ x ∈ hopL l, x.length ≤ 4294967296) := fun x hx => Nat.le_trans (hopL_lenTo l x hx) (by omega)
  have HLn : Hid ((hopL l).length ≤ 4294967296) := by have := hopL_len l; show _ ≤ _; omega
  have HR : Hid (cleanL l = delL l (hopL l)) := rfl
  generalize hopL l = H at *
  have HC := Lib.hid hcall; clear hcall h hs hz ht
  go_enter Tryd.func35, Tryd.ntmps35
  go_wp2_with fail
  refine HC.out.mono ?_
  rintro e w1 ⟨v1, rfl, ho1, hb1⟩
  have HO := Lib.hid ho1.sl; have HB := Lib.hid hb1; have HF1 := Lib.hid (HF.out.bel hb1); clear ho1 hb1
  go_wp2_with fail
  refine (del_any v v1 l H w1 HF1.out HO.out HSm.out (by omega) HU.out HLn.out).mono ?_
  intro e w2 hr
  obtain ⟨v2, rfl, ho2, hb2⟩ := hr.carry HB.out
  go_wp2_with fail
  go_ret
  exact ⟨v2, rfl, by rw [HR.out]; exact ho2, hb2⟩
end Go.Proofs.YtdaiielhohdgiaaDoor
