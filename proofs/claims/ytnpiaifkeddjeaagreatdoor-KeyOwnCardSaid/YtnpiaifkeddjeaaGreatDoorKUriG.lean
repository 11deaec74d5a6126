/- A text without the escapes of plain bytes: the closure that takes a byte, and the whole. -/
import Derived.Test.YtnpiaifkeddjeaaGreatDoorKUriA
import Derived.Deep.RegionLaw
import Derived.Deep.RegionHeld3
import Derived.Deep.AppendLies
namespace Go.Proofs.YtnpiaifkeddjeaaGreatDoor
open Go.RowKit

theorem rend_len (t : UInt8 × Bool) : (rend t).length ≤ 3 := by unfold rend; split <;> simp
theorem rends_len (T : List (UInt8 × Bool)) : (T.flatMap rend).length ≤ 3 * T.length := by
  induction T with
  | nil => simp
  | cons t T ih => have := rend_len t; rw [List.flatMap_cons, List.length_append, List.length_cons]; omega
theorem toks_len : ∀ (n : Nat) (l : List UInt8), l.length ≤ n → (toks l).length ≤ l.length := by
  intro n
  induction n with
  | zero => intro l h; have : l = [] := List.eq_nil_of_length_eq_zero (by omega); subst this; simp [toks]
  | succ n ih =>
    intro l h
    by_cases hl : l = []
    · subst hl; simp [toks]
    · obtain ⟨h1, h2⟩ := fsN_le hl
      rw [toks_step hl, List.length_cons]
      have := ih (l.drop (fsN l)) (by rw [List.length_drop]; omega)
      rw [List.length_drop] at this
      omega

theorem ownB.form {w : World} {base : Nat} {v : Value} {l : List UInt8} (h : ownB w base v l) : ∃ a c, v = .slice a l.length c := by
  rcases h.2 with ⟨rfl, hn⟩ | ⟨g, cap, cur, rfl, _⟩
  · exact ⟨none, 0, by rw [hn]⟩
  · exact ⟨_, _, rfl⟩
/-- what taking a byte leaves behind -/
structure UPost (B base b : Nat) (L : List UInt8) (w w' : World) : Prop where
  out : ∃ v', w'.heap[b]? = some (.cells #[v'] 67 (0, 0)) ∧ ownB w' base v' L
  bel : Below B w w'
theorem hexU_at : ∀ (n : Nat) (h : n < 16), hxU n = (⟨#[48, 49, 50, 51, 52, 53, 54, 55, 56, 57, 65, 66, 67, 68, 69, 70]⟩ : ByteArray)[n]'h := by decide
theorem ownB.noBlock {w : World} {base : Nat} {v : Value} {l : List UInt8} (h : ownB w base v l) : ∀ k, k < base → v.ownBlock ≠ some k := fun k hk e => by have := h.ge k e; omega
theorem unes_fin {B base b : Nat} {L X : List UInt8} {w w3 : World} {O : Obj} {v v' : Value} (hB : B ≤ b) (hb : b < base) (hbase : base ≤ w.heap.size)
    (hN : ∀ k, k < base → v.ownBlock ≠ some k) (H1 : w.heap[b]? = some (.cells #[v] 67 (0, 0))) (hgrow : (w.drew.alloc O).grownBy w3 v.ownBlock)
    (hown3 : w3.ownsRow base 5 1 v' (L.length + X.length) (Lib.byteCells L ++ Lib.byteCells X)) : UPost B base b (L ++ X) w (w3.setCell ⟨b, 0, none⟩ v') := by
  have keep3 : ∀ k, k < base → w3.heap[k]? = w.heap[k]? := fun k hk => by
    rw [hgrow.block k (by simp; omega) (fun e => hN k hk e.symm), Below.heap_alloc _ _ _ (by simp; omega)]
    rfl
  have bel3 : Below base w w3 := ⟨hgrow.os, hgrow.tape, hgrow.output, by have := hgrow.size; simp at this; omega, keep3⟩
  refine ⟨⟨v', one_setCell ((keep3 b hb).trans H1), ?_⟩, (bel3.mono (by omega)).setCell hB _⟩
  refine ownB.setLow (a := ⟨b, 0, none⟩) ?_ hb _
  show World.ownsRow _ _ _ _ _ _ _
  rw [List.length_append, Lib.byteCells_append]
  exact hown3

set_option maxHeartbeats 2000000 in
set_option maxRecDepth 100000 in
theorem unesC_esc (B base b : Nat) (c : UInt8) (v : Value) (L : List UInt8) (w : World) (hc : plainI (c.toNat : Int) = false)
    (h1 : w.heap[b]? = some (.cells #[v] 67 (0, 0))) (hown : ownB w base v L) (hB : B ≤ b) (hb : b < base) (hbase : base ≤ w.heap.size) (hl : L.length ≤ 1000000000) :
    Calls Tryz.prog 71 #[.int .u8 (c.toNat : Int), .bool true, .pointer (some ⟨b, 0, none⟩)] w fun r w' => r = .returned (.bool true) ∧ UPost B base b (L ++ rend (c, true)) w w' := by
  have hp := plain_any (c.toNat : Int) w
  rw [hc] at hp
  have HP := Lib.hid hp; clear hp
  have c1 := cell_of_one h1
  have f1 := free_of_one h1
  go_enter Tryz.func71, Tryz.ntmps71
  go_wp2_with (go_at_call 72; refine HP.out.mono ?_; rintro e w' ⟨rfl, rfl⟩)
  obtain ⟨i0, hi0, hz0, hz1, hz2⟩ := info_parts infoB
  obtain ⟨va, vc, rfl⟩ := ownB.form hown
  have hlt : c.toNat < 256 := c.toNat_lt
  have hq : Int.tdiv (c.toNat : Int) 16 = ((c.toNat / 16 : Nat) : Int) := by rw [Int.tdiv_eq_ediv_of_nonneg (by omega)]; omega
  have hr : Int.tmod (c.toNat : Int) 16 = ((c.toNat % 16 : Nat) : Int) := by rw [Int.tmod_eq_emod_of_nonneg (by omega)]; omega
  have hq1 : c.toNat / 16 < 16 := by omega
  have hqw : IntKind.u8.wrap ((c.toNat / 16 : Nat) : Int) = ((c.toNat / 16 : Nat) : Int) := by rw [IntKind.wrap_u8]; omega
  have hr1 : c.toNat % 16 < 16 := by omega
  have hrd : rend (c, true) = [37, hxU (c.toNat / 16), hxU (c.toNat % 16)] := by
    have h0 : plB c = false := hc
    simp [rend, h0]
  clear hc
  generalize c.toNat / 16 = q at *
  generalize c.toNat % 16 = r at *
  have hq2 : (q : Int) < 16 := by omega
  have hr2 : (r : Int) < 16 := by omega
  have HO := Lib.hid hown; clear hown
  have hX : Lib.byteCells [37, hxU q, hxU r] = [.int .u8 37, .int .u8 ((⟨#[48, 49, 50, 51, 52, 53, 54, 55, 56, 57, 65, 66, 67, 68, 69, 70]⟩ : ByteArray)[q]'hq1).toNat, .int .u8 ((⟨#[48, 49, 50, 51, 52, 53, 54, 55, 56, 57, 65, 66, 67, 68, 69, 70]⟩ : ByteArray)[r]'hr1).toNat] := by
    rw [hexU_at q hq1, hexU_at r hr1]; rfl
  have HX := Lib.hid hX; clear hX
  have HR := Lib.hid hrd; clear hrd
  have HN := Lib.hid HO.out.noBlock
  have H1 := Lib.hid h1; clear h1
  have ca : ∀ O, (w.alloc O).cell? ⟨b, 0, none⟩ = some (.slice va L.length vc) := fun O => (((Below.refl w.heap.size w).alloc (Nat.le_refl _) O).cell (p := ⟨b, 0, none⟩) (by show b < w.heap.size; omega)).trans c1
  go_region_law (first | (refine step_append_lies _ (by rfl) _ _ _ (by rfl) base 5 i0 _ 1 1 Tryz.underlying67 hi0 hz0 hz1 hz2 rfl (by omega) (.slice va L.length vc) L.length (Lib.byteCells L) (by rfl) (HO.out.drew.alloc _) ⟨w.heap.size, 0, none⟩ 3 3 _ (by rfl) (by rfl) (World.news_of_block (t := 5) (fr := (0, 0)) (heap_alloc_new w.drew _)) (by simp [Value.oneCell']) (by omega) (by unfold maxLen; omega) (by omega) (by simp; omega) (w.heap.size + 1) (by simp) ?_; intro gg cap w3 hown3 hgrow hat hlt3; have hfz : w3.frozen? ⟨b, 0, none⟩ = false := (hgrow.frozen_far _ (by simp; omega) (Ne.symm (HN.out b hb))).trans ((((Below.refl w.drew.heap.size w.drew).alloc (Nat.le_refl _) _).frozen (p := ⟨b, 0, none⟩) (by show b < w.heap.size; omega)).trans f1); have hcz : w3.cell? ⟨b, 0, none⟩ = some (.slice va L.length vc) := (hgrow.cell_far _ (by simp; omega) (Ne.symm (HN.out b hb))).trans ((((Below.refl w.drew.heap.size w.drew).alloc (Nat.le_refl _) _).cell (p := ⟨b, 0, none⟩) (by show b < w.heap.size; omega)).trans c1)))
  all_goals go_wp2_with fail
  all_goals go_ret
  all_goals rw [← HX.out] at hown3
  all_goals exact ⟨rfl, by rw [HR.out]; exact unes_fin (X := [37, hxU q, hxU r]) hB hb hbase HN.out H1.out hgrow hown3⟩

theorem unes_fin1 {B base b : Nat} {L : List UInt8} {c : UInt8} {w w3 : World} {v v' : Value} (hB : B ≤ b) (hb : b < base) (H1 : w.heap[b]? = some (.cells #[v] 67 (0, 0)))
    (ho : ownB w3 base v' (L ++ [c])) (hbel : Below B w w3) (hk : ∀ k, k < base → w3.heap[k]? = w.heap[k]?) : UPost B base b (L ++ [c]) w (w3.setCell ⟨b, 0, none⟩ v') :=
  ⟨⟨v', one_setCell ((hk b hb).trans H1), ownB.setLow (a := ⟨b, 0, none⟩) ho hb _⟩, hbel.setCell hB _⟩
set_option maxHeartbeats 2000000 in
set_option maxRecDepth 100000 in
theorem unesC_one (B base b : Nat) (c : UInt8) (e : Bool) (v : Value) (L : List UInt8) (w : World) (hc : (e && !plainI (c.toNat : Int)) = false)
    (h1 : w.heap[b]? = some (.cells #[v] 67 (0, 0))) (hown : ownB w base v L) (hB : B ≤ b) (hb : b < base) (hbase : base ≤ w.heap.size) (hl : L.length ≤ 1000000000) :
    Calls Tryz.prog 71 #[.int .u8 (c.toNat : Int), .bool e, .pointer (some ⟨b, 0, none⟩)] w fun r w' => r = .returned (.bool true) ∧ UPost B base b (L ++ rend (c, e)) w w' := by
  have hp := plain_any (c.toNat : Int) w
  have hrd : rend (c, e) = [c] := by
    have h0 : (e && !plB c) = false := hc
    unfold rend
    rw [if_neg (by rw [h0]; decide)]
  generalize plainI (c.toNat : Int) = x at *
  have HP := Lib.hid hp; clear hp
  have c1 := cell_of_one h1
  have f1 := free_of_one h1
  have HO := Lib.hid hown; have H1 := Lib.hid h1; have HR := Lib.hid hrd; clear hown h1 hrd
  have HLN : Hid (L.length + 1 ≤ 140737488355328) := by show _ ≤ _; omega
  cases e
  · go_enter Tryz.func71, Tryz.ntmps71
    go_wp2_with (at_builtin; refine wpList_appB rfl (.tmp 21) (.tmp 23) rfl base B v L _ c rfl HO.out (Below.refl B w) (by omega) hbase rfl rfl HLN.out ?_; intro v3 w3 HO3 HB3 HK3; obtain ⟨va3, vc3, rfl⟩ := HO3.out.form; have hcz : w3.cell? ⟨b, 0, none⟩ = some v := cell_of_one ((HK3.out b hb).trans H1.out); have hfz : w3.frozen? ⟨b, 0, none⟩ = false := free_of_one ((HK3.out b hb).trans H1.out))
    go_ret
    exact ⟨rfl, by rw [HR.out]; exact unes_fin1 hB hb H1.out (by have h := HO3.out; rwa [show (L ++ [c]).length = L.length + 1 from by simp] at h) HB3.out HK3.out⟩
  · cases x
    · exact absurd hc (by decide)
    · go_enter Tryz.func71, Tryz.ntmps71
      go_wp2_with (first | (go_at_call 72; refine HP.out.mono ?_; rintro e w' ⟨rfl, rfl⟩) | (at_builtin; refine wpList_appB rfl (.tmp 21) (.tmp 23) rfl base B v L _ c rfl HO.out (Below.refl B w) (by omega) hbase rfl rfl HLN.out ?_; intro v3 w3 HO3 HB3 HK3; obtain ⟨va3, vc3, rfl⟩ := HO3.out.form; have hcz : w3.cell? ⟨b, 0, none⟩ = some v := cell_of_one ((HK3.out b hb).trans H1.out); have hfz : w3.frozen? ⟨b, 0, none⟩ = false := free_of_one ((HK3.out b hb).trans H1.out)))
      go_ret
      exact ⟨rfl, by rw [HR.out]; exact unes_fin1 hB hb H1.out (by have h := HO3.out; rwa [show (L ++ [c]).length = L.length + 1 from by simp] at h) HB3.out HK3.out⟩

/-- what the walk of a text has put together of the bytes ahead -/
structure UIn (w0 : World) (T : List (UInt8 × Bool)) (W : World) : Prop where
  bel : Below w0.heap.size w0 W
  lt : w0.heap.size + 1 ≤ W.heap.size
  own : ∃ v, W.heap[w0.heap.size]? = some (.cells #[v] 67 (0, 0)) ∧ ownB W (w0.heap.size + 1) v (T.flatMap rend)
theorem ownB.below {B : Nat} {w w' : World} {base : Nat} {v : Value} {l : List UInt8} (h : ownB w base v l) (hb : Below B w w') (hB : w.heap.size ≤ B) : ownB w' base v l := by
  refine ⟨h.1, ?_⟩
  rcases h.2 with hn | ⟨g, cap, cur, hv, hbg, hg, r⟩
  · exact .inl hn
  · exact .inr ⟨g, cap, cur, hv, hbg, by rw [hb.block g (Nat.lt_of_lt_of_le (Array.getElem?_eq_some_iff.1 hg).1 hB)]; exact hg, r⟩

set_option maxHeartbeats 1000000 in
set_option maxRecDepth 100000 in
theorem unescaped_any (l : List UInt8) (w : World) (he : EnvU w) (hl : l.length ≤ 100000000) :
    Calls Tryz.prog 41 #[.string (bs l)] w fun r w' => r = .returned (.string (bs (undo l))) ∧ Below w.heap.size w w' := by
  have hsc := scanC_any l 71 w.heap.size (fun _ => true) (UIn w) (enters_of Tryz.func71 (by kernel_rfl) rfl)
    (fun T W W' h hb => by
      obtain ⟨v, h1, h2⟩ := h.own
      exact ⟨h.bel.trans (hb.mono h.bel.size), Nat.le_trans h.lt hb.size, v, (hb.block _ (by have := h.lt; omega)).trans h1, h2.below hb (Nat.le_refl _)⟩)
    (fun _ _ h => he.below h.bel (Nat.le_refl _))
    (fun T c e W hT h => by
      obtain ⟨v, h1, h2⟩ := h.own
      have hlen : (T.flatMap rend).length ≤ 1000000000 := by
        obtain ⟨R, hR⟩ := hT
        have a1 := rends_len T
        have a2 := toks_len l.length l (Nat.le_refl _)
        rw [hR, List.length_append] at a2
        omega
      have fin : ∀ r W', (r = Ending.returned (.bool true) ∧ UPost w.heap.size (w.heap.size + 1) w.heap.size (T.flatMap rend ++ rend (c, e)) W W') → (r = Ending.returned (.bool true) ∧ UIn w (T ++ [(c, e)]) W') := by
        rintro r W' ⟨h3, h4⟩
        obtain ⟨v', h5, h6⟩ := h4.out
        refine ⟨h3, h.bel.trans h4.bel, Nat.le_trans h.lt h4.bel.size, v', h5, ?_⟩
        rw [List.flatMap_append, List.flatMap_singleton]
        exact h6
      cases hx : (e && !plainI (c.toNat : Int))
      · exact (unesC_one w.heap.size (w.heap.size + 1) w.heap.size c e v _ W hx h1 h2 (Nat.le_refl _) (by omega) h.lt hlen).mono fin
      · rw [Bool.and_eq_true] at hx
        obtain ⟨rfl, hx⟩ := hx
        exact (unesC_esc w.heap.size (w.heap.size + 1) w.heap.size c v _ W (by simpa using hx) h1 h2 (Nat.le_refl _) (by omega) h.lt hlen).mono fin)
    (w.alloc (.cells #[.slice none 0 0] 67)) ⟨(Below.refl _ _).alloc (Nat.le_refl _) _, by simp, .slice none 0 0, heap_alloc_new w _, ownB_nil _ _⟩ (by omega)
  have HS := Lib.hid hsc; clear hsc he
  have HU : Hid (undo l = (toks l).flatMap rend) := rfl
  have hall : (toks l).all (fun _ => true) = true := by rw [List.all_eq_true]; exact fun _ _ => rfl
  rw [HU.out]
  generalize toks l = T at *
  clear HU
  go_enter Tryz.func41, Tryz.ntmps41
  go_wp2_with fail
  refine HS.out.mono ?_
  rintro r w1 ⟨rfl, -, hok⟩
  have hu := hok hall
  obtain ⟨v, h1, h2⟩ := hu.own
  have hc := cell_of_one h1
  have hbk := h2.back
  have HB := Lib.hid hu.bel; clear hu h1 h2 hok hall HS
  go_wp2_with fail
  go_ret
  exact ⟨rfl, HB.out⟩
end Go.Proofs.YtnpiaifkeddjeaaGreatDoor

/- Whether a URI may be, and its text if it may: the uri layer's formed, Check and Put. -/
namespace Go.Proofs.YtnpiaifkeddjeaaGreatDoor
open Go.RowKit

theorem formed_eq (sc ho : List UInt8) (po : Int) (pa qu : List UInt8) (hq : Bool) : Ur.formed ⟨sc, ho, po, pa, qu, hq⟩ = ((usual sc != 0) && (hostOk ho && (decide (0 ≤ po) && (decide (po ≤ 65535) && (Lib.hasPrefix pa [47] && (made pathM pa && (made queryM qu && (hq || qu.isEmpty)))))))) := rfl
set_option maxHeartbeats 4000000 in
set_option maxRecDepth 100000 in
theorem formed_any (u : Ur) (w : World) (he : EnvU w) (hu : u.okW) :
    Calls Tryz.prog 34 #[.agg #[.string (bs u.sc), .string (bs u.ho), .int .i64 u.po, .string (bs u.pa), .string (bs u.qu), .bool u.hq]] w fun r w' => r = .returned (.bool u.formed) ∧ Below w.heap.size w w' := by
  obtain ⟨sc, ho, po, pa, qu, hq⟩ := u
  obtain ⟨hlen, hlo, hhi⟩ := hu
  simp only at hlen hlo hhi ⊢
  rw [formed_eq]
  have hal : Below w.heap.size w (w.alloc (.cells #[.string (bs sc), .string (bs ho), .int .i64 po, .string (bs pa), .string (bs qu), .bool hq] 23)) := (Below.refl _ _).alloc (Nat.le_refl _) _
  have hbk := ubk.new w #[.string (bs sc), .string (bs ho), .int .i64 po, .string (bs pa), .string (bs qu), .bool hq] 23
  have he0 : EnvU (w.alloc (.cells #[.string (bs sc), .string (bs ho), .int .i64 po, .string (bs pa), .string (bs qu), .bool hq] 23)) := he.alloc _
  have HH := Lib.hid (fun W (hb : Below (w.alloc (.cells #[.string (bs sc), .string (bs ho), .int .i64 po, .string (bs pa), .string (bs qu), .bool hq] 23)).heap.size (w.alloc (.cells #[.string (bs sc), .string (bs ho), .int .i64 po, .string (bs pa), .string (bs qu), .bool hq] 23)) W) => isHost_any ho W (he0.bel hb) (by omega))
  have HP := Lib.hid (fun W (hb : Below (w.alloc (.cells #[.string (bs sc), .string (bs ho), .int .i64 po, .string (bs pa), .string (bs qu), .bool hq] 23)).heap.size (w.alloc (.cells #[.string (bs sc), .string (bs ho), .int .i64 po, .string (bs pa), .string (bs qu), .bool hq] 23)) W) => consists_any pa pathM W (he0.bel hb) (by omega))
  have HQ := Lib.hid (fun W (hb : Below (w.alloc (.cells #[.string (bs sc), .string (bs ho), .int .i64 po, .string (bs pa), .string (bs qu), .bool hq] 23)).heap.size (w.alloc (.cells #[.string (bs sc), .string (bs ho), .int .i64 po, .string (bs pa), .string (bs qu), .bool hq] 23)) W) => consists_any qu queryM W (he0.bel hb) (by omega))
  have HU := Lib.hid (usualPort_any sc)
  have HF := Lib.hid (prefixU_any pa [47])
  have HQE : Hid (((bs qu).toList == []) = qu.isEmpty) := by show _ = _; rw [beq_lit]; cases qu <;> rfl
  have HQE2 : Hid ((bs qu).toList.isEmpty = qu.isEmpty) := by show _ = _; rw [Lib.toList_data, bs_data]
  have HAL := Lib.hid hal; have HBK := Lib.hid hbk; clear hal hbk he he0 hlen hlo hhi
  have hus : ∃ k, usual sc = k := ⟨_, rfl⟩
  obtain ⟨k, hus⟩ := hus
  rw [hus] at HU
  rw [hus]
  generalize hostOk ho = b2 at *
  generalize Lib.hasPrefix pa [47] = b5 at *
  generalize made pathM pa = b6 at *
  generalize made queryM qu = b7 at *
  clear hus
  by_cases h1 : k = 0
  · have e1 : (k != 0) = false := by rw [h1]; rfl
    rw [e1]
    clear h1
    go_enter Tryz.func34, Tryz.ntmps34
    go_wp2_with fail
    refine (HU.out _).mono ?_
    rintro r w' ⟨rfl, rfl⟩
    go_wp2_with fail
    go_ret
    exact ⟨ret_bool (by simp), HAL.out⟩
  · have e1 : (k != 0) = true := bne_iff_ne.2 h1
    rw [e1]
    clear h1
    cases b2
    · go_enter Tryz.func34, Tryz.ntmps34
      go_wp2_with fail
      refine (HU.out _).mono ?_
      rintro r w' ⟨rfl, rfl⟩
      go_wp2_with fail
      refine (HH.out _ (Below.refl _ _)).mono ?_
      rintro r w1 ⟨rfl, hB1⟩
      have hbk1 := HBK.out.below hB1
      have c10 := hbk1.cell 0 _ rfl
      have c11 := hbk1.cell 1 _ rfl
      have c12 := hbk1.cell 2 _ rfl
      have c13 := hbk1.cell 3 _ rfl
      have c14 := hbk1.cell 4 _ rfl
      have c15 := hbk1.cell 5 _ rfl
      have HB1 := Lib.hid hB1; clear hB1 hbk1
      go_wp2_with fail
      go_ret
      exact ⟨ret_bool (by simp), (HAL.out.trans (HB1.out.mono HAL.out.size))⟩
    · skip
      rcases Decidable.em (¬ (0 ≤ po)) with d3 | d3
      · rw [decide_eq_false d3]
        go_enter Tryz.func34, Tryz.ntmps34
        go_wp2_with fail
        refine (HU.out _).mono ?_
        rintro r w' ⟨rfl, rfl⟩
        go_wp2_with fail
        refine (HH.out _ (Below.refl _ _)).mono ?_
        rintro r w1 ⟨rfl, hB1⟩
        have hbk1 := HBK.out.below hB1
        have c10 := hbk1.cell 0 _ rfl
        have c11 := hbk1.cell 1 _ rfl
        have c12 := hbk1.cell 2 _ rfl
        have c13 := hbk1.cell 3 _ rfl
        have c14 := hbk1.cell 4 _ rfl
        have c15 := hbk1.cell 5 _ rfl
        have HB1 := Lib.hid hB1; clear hB1 hbk1
        go_wp2_with fail
        go_ret
        exact ⟨ret_bool (by simp), (HAL.out.trans (HB1.out.mono HAL.out.size))⟩
      · replace d3 := Decidable.not_not.1 d3
        rw [decide_eq_true d3]
        rcases Decidable.em (¬ (po ≤ 65535)) with d4 | d4
        · rw [decide_eq_false d4]
          go_enter Tryz.func34, Tryz.ntmps34
          go_wp2_with fail
          refine (HU.out _).mono ?_
          rintro r w' ⟨rfl, rfl⟩
          go_wp2_with fail
          refine (HH.out _ (Below.refl _ _)).mono ?_
          rintro r w1 ⟨rfl, hB1⟩
          have hbk1 := HBK.out.below hB1
          have c10 := hbk1.cell 0 _ rfl
          have c11 := hbk1.cell 1 _ rfl
          have c12 := hbk1.cell 2 _ rfl
          have c13 := hbk1.cell 3 _ rfl
          have c14 := hbk1.cell 4 _ rfl
          have c15 := hbk1.cell 5 _ rfl
          have HB1 := Lib.hid hB1; clear hB1 hbk1
          go_wp2_with fail
          go_ret
          exact ⟨ret_bool (by simp), (HAL.out.trans (HB1.out.mono HAL.out.size))⟩
        · replace d4 := Decidable.not_not.1 d4
          rw [decide_eq_true d4]
          cases b5
          · go_enter Tryz.func34, Tryz.ntmps34
            go_wp2_with fail
            refine (HU.out _).mono ?_
            rintro r w' ⟨rfl, rfl⟩
            go_wp2_with fail
            refine (HH.out _ (Below.refl _ _)).mono ?_
            rintro r w1 ⟨rfl, hB1⟩
            have hbk1 := HBK.out.below hB1
            have c10 := hbk1.cell 0 _ rfl
            have c11 := hbk1.cell 1 _ rfl
            have c12 := hbk1.cell 2 _ rfl
            have c13 := hbk1.cell 3 _ rfl
            have c14 := hbk1.cell 4 _ rfl
            have c15 := hbk1.cell 5 _ rfl
            have HB1 := Lib.hid hB1; clear hB1 hbk1
            go_wp2_with fail
            refine (HF.out _).mono ?_
            rintro r w' ⟨rfl, rfl⟩
            go_wp2_with fail
            go_ret
            exact ⟨ret_bool (by simp), (HAL.out.trans (HB1.out.mono HAL.out.size))⟩
          · skip
            cases b6
            · go_enter Tryz.func34, Tryz.ntmps34
              go_wp2_with fail
              refine (HU.out _).mono ?_
              rintro r w' ⟨rfl, rfl⟩
              go_wp2_with fail
              refine (HH.out _ (Below.refl _ _)).mono ?_
              rintro r w1 ⟨rfl, hB1⟩
              have hbk1 := HBK.out.below hB1
              have c10 := hbk1.cell 0 _ rfl
              have c11 := hbk1.cell 1 _ rfl
              have c12 := hbk1.cell 2 _ rfl
              have c13 := hbk1.cell 3 _ rfl
              have c14 := hbk1.cell 4 _ rfl
              have c15 := hbk1.cell 5 _ rfl
              have HB1 := Lib.hid hB1; clear hB1 hbk1
              go_wp2_with fail
              refine (HF.out _).mono ?_
              rintro r w' ⟨rfl, rfl⟩
              go_wp2_with fail
              refine (HP.out _ HB1.out).mono ?_
              rintro r w2 ⟨rfl, hb2⟩
              have hB2 := HB1.out.trans (hb2.mono HB1.out.size)
              have hbk2 := HBK.out.below hB2
              have c23 := hbk2.cell 3 _ rfl
              have c24 := hbk2.cell 4 _ rfl
              have c25 := hbk2.cell 5 _ rfl
              have HB2 := Lib.hid hB2; clear hB2 hbk2 hb2
              go_wp2_with fail
              go_ret
              exact ⟨ret_bool (by simp), (HAL.out.trans (HB2.out.mono HAL.out.size))⟩
            · skip
              cases b7
              · go_enter Tryz.func34, Tryz.ntmps34
                go_wp2_with fail
                refine (HU.out _).mono ?_
                rintro r w' ⟨rfl, rfl⟩
                go_wp2_with fail
                refine (HH.out _ (Below.refl _ _)).mono ?_
                rintro r w1 ⟨rfl, hB1⟩
                have hbk1 := HBK.out.below hB1
                have c10 := hbk1.cell 0 _ rfl
                have c11 := hbk1.cell 1 _ rfl
                have c12 := hbk1.cell 2 _ rfl
                have c13 := hbk1.cell 3 _ rfl
                have c14 := hbk1.cell 4 _ rfl
                have c15 := hbk1.cell 5 _ rfl
                have HB1 := Lib.hid hB1; clear hB1 hbk1
                go_wp2_with fail
                refine (HF.out _).mono ?_
                rintro r w' ⟨rfl, rfl⟩
                go_wp2_with fail
                refine (HP.out _ HB1.out).mono ?_
                rintro r w2 ⟨rfl, hb2⟩
                have hB2 := HB1.out.trans (hb2.mono HB1.out.size)
                have hbk2 := HBK.out.below hB2
                have c23 := hbk2.cell 3 _ rfl
                have c24 := hbk2.cell 4 _ rfl
                have c25 := hbk2.cell 5 _ rfl
                have HB2 := Lib.hid hB2; clear hB2 hbk2 hb2
                go_wp2_with fail
                refine (HQ.out _ HB2.out).mono ?_
                rintro r w3 ⟨rfl, hb3⟩
                have hB3 := HB2.out.trans (hb3.mono HB2.out.size)
                have hbk3 := HBK.out.below hB3
                have c34 := hbk3.cell 4 _ rfl
                have c35 := hbk3.cell 5 _ rfl
                have HB3 := Lib.hid hB3; clear hB3 hbk3 hb3
                go_wp2_with fail
                go_ret
                exact ⟨ret_bool (by simp), (HAL.out.trans (HB3.out.mono HAL.out.size))⟩
              · skip
                cases hq
                · have hqe := HQE.out; have hqe2 := HQE2.out
                  generalize qu.isEmpty = q at hqe hqe2 ⊢
                  cases q
                  all_goals
                    go_enter Tryz.func34, Tryz.ntmps34
                    go_wp2_with fail
                    refine (HU.out _).mono ?_
                    rintro r w' ⟨rfl, rfl⟩
                    go_wp2_with fail
                    refine (HH.out _ (Below.refl _ _)).mono ?_
                    rintro r w1 ⟨rfl, hB1⟩
                    have hbk1 := HBK.out.below hB1
                    have c10 := hbk1.cell 0 _ rfl
                    have c11 := hbk1.cell 1 _ rfl
                    have c12 := hbk1.cell 2 _ rfl
                    have c13 := hbk1.cell 3 _ rfl
                    have c14 := hbk1.cell 4 _ rfl
                    have c15 := hbk1.cell 5 _ rfl
                    have HB1 := Lib.hid hB1; clear hB1 hbk1
                    go_wp2_with fail
                    refine (HF.out _).mono ?_
                    rintro r w' ⟨rfl, rfl⟩
                    go_wp2_with fail
                    refine (HP.out _ HB1.out).mono ?_
                    rintro r w2 ⟨rfl, hb2⟩
                    have hB2 := HB1.out.trans (hb2.mono HB1.out.size)
                    have hbk2 := HBK.out.below hB2
                    have c23 := hbk2.cell 3 _ rfl
                    have c24 := hbk2.cell 4 _ rfl
                    have c25 := hbk2.cell 5 _ rfl
                    have HB2 := Lib.hid hB2; clear hB2 hbk2 hb2
                    go_wp2_with fail
                    refine (HQ.out _ HB2.out).mono ?_
                    rintro r w3 ⟨rfl, hb3⟩
                    have hB3 := HB2.out.trans (hb3.mono HB2.out.size)
                    have hbk3 := HBK.out.below hB3
                    have c34 := hbk3.cell 4 _ rfl
                    have c35 := hbk3.cell 5 _ rfl
                    have HB3 := Lib.hid hB3; clear hB3 hbk3 hb3
                    go_wp2_with fail
                    go_ret
                    exact ⟨ret_bool (by simp), (HAL.out.trans (HB3.out.mono HAL.out.size))⟩
                · go_enter Tryz.func34, Tryz.ntmps34
                  go_wp2_with fail
                  refine (HU.out _).mono ?_
                  rintro r w' ⟨rfl, rfl⟩
                  go_wp2_with fail
                  refine (HH.out _ (Below.refl _ _)).mono ?_
                  rintro r w1 ⟨rfl, hB1⟩
                  have hbk1 := HBK.out.below hB1
                  have c10 := hbk1.cell 0 _ rfl
                  have c11 := hbk1.cell 1 _ rfl
                  have c12 := hbk1.cell 2 _ rfl
                  have c13 := hbk1.cell 3 _ rfl
                  have c14 := hbk1.cell 4 _ rfl
                  have c15 := hbk1.cell 5 _ rfl
                  have HB1 := Lib.hid hB1; clear hB1 hbk1
                  go_wp2_with fail
                  refine (HF.out _).mono ?_
                  rintro r w' ⟨rfl, rfl⟩
                  go_wp2_with fail
                  refine (HP.out _ HB1.out).mono ?_
                  rintro r w2 ⟨rfl, hb2⟩
                  have hB2 := HB1.out.trans (hb2.mono HB1.out.size)
                  have hbk2 := HBK.out.below hB2
                  have c23 := hbk2.cell 3 _ rfl
                  have c24 := hbk2.cell 4 _ rfl
                  have c25 := hbk2.cell 5 _ rfl
                  have HB2 := Lib.hid hB2; clear hB2 hbk2 hb2
                  go_wp2_with fail
                  refine (HQ.out _ HB2.out).mono ?_
                  rintro r w3 ⟨rfl, hb3⟩
                  have hB3 := HB2.out.trans (hb3.mono HB2.out.size)
                  have hbk3 := HBK.out.below hB3
                  have c34 := hbk3.cell 4 _ rfl
                  have c35 := hbk3.cell 5 _ rfl
                  have HB3 := Lib.hid hB3; clear hB3 hbk3 hb3
                  go_wp2_with fail
                  go_ret
                  exact ⟨ret_bool (by simp), (HAL.out.trans (HB3.out.mono HAL.out.size))⟩

set_option maxHeartbeats 1000000 in
set_option maxRecDepth 100000 in
theorem uriCheck_any (u : Ur) (w : World) (he : EnvU w) (hu : u.okW) :
    Calls Tryz.prog 20 #[.agg #[.string (bs u.sc), .string (bs u.ho), .int .i64 u.po, .string (bs u.pa), .string (bs u.qu), .bool u.hq]] w fun r w' => r = .returned (.int .i64 u.check) ∧ Below w.heap.size w w' := by
  have hal : Below w.heap.size w (w.alloc (.cells #[.string (bs u.sc), .string (bs u.ho), .int .i64 u.po, .string (bs u.pa), .string (bs u.qu), .bool u.hq] 23)) := (Below.refl _ _).alloc (Nat.le_refl _) _
  have hbk := ubk.new w #[.string (bs u.sc), .string (bs u.ho), .int .i64 u.po, .string (bs u.pa), .string (bs u.qu), .bool u.hq] 23
  have hf := formed_any u _ (he.alloc (.cells #[.string (bs u.sc), .string (bs u.ho), .int .i64 u.po, .string (bs u.pa), .string (bs u.qu), .bool u.hq] 23)) hu
  have HW := Lib.hid (fun W (hb : Below (w.alloc (.cells #[.string (bs u.sc), .string (bs u.ho), .int .i64 u.po, .string (bs u.pa), .string (bs u.qu), .bool u.hq] 23)).heap.size (w.alloc (.cells #[.string (bs u.sc), .string (bs u.ho), .int .i64 u.po, .string (bs u.pa), .string (bs u.qu), .bool u.hq] 23)) W) => written_any u W ((he.alloc _).bel hb) hu)
  have hck : u.check = if u.formed then (if 1024 < u.text.length then 3 else 0) else 4 := rfl
  rw [hck]
  clear hck
  generalize u.formed = f at *
  generalize u.text = t at *
  have HF := Lib.hid hf; have HAL := Lib.hid hal; have HBK := Lib.hid hbk; clear hf hal hbk he hu
  cases f
  · go_enter Tryz.func20, Tryz.ntmps20
    go_wp2_with fail
    refine HF.out.mono ?_
    rintro r w1 ⟨rfl, hb1⟩
    have HB := Lib.hid (HAL.out.trans (hb1.mono HAL.out.size)); clear hb1
    go_wp2_with fail
    go_ret
    exact ⟨rfl, HB.out⟩
  · simp only [if_true]
    rcases Decidable.em (1024 < t.length) with h | h
    all_goals
      first | rw [if_pos h] | rw [if_neg h]
      have hz : (bs t).size = t.length := bs_size t
      go_enter Tryz.func20, Tryz.ntmps20
      go_wp2_with fail
      refine HF.out.mono ?_
      rintro r w1 ⟨rfl, hb1⟩
      have hbk1 := HBK.out.below hb1
      have c0 := hbk1.cell 0 _ rfl
      have c1 := hbk1.cell 1 _ rfl
      have c2 := hbk1.cell 2 _ rfl
      have c3 := hbk1.cell 3 _ rfl
      have c4 := hbk1.cell 4 _ rfl
      have c5 := hbk1.cell 5 _ rfl
      have HB1 := Lib.hid hb1; clear hb1 hbk1
      go_wp2_with fail
      refine (HW.out _ HB1.out).mono ?_
      rintro r w2 ⟨rfl, hb2⟩
      have HB := Lib.hid (HAL.out.trans ((HB1.out.trans (hb2.mono HB1.out.size)).mono HAL.out.size)); clear hb2
      go_wp2_with fail
      go_ret
      exact ⟨rfl, HB.out⟩

set_option maxHeartbeats 1000000 in
set_option maxRecDepth 100000 in
theorem uriPut_any (u : Ur) (w : World) (he : EnvU w) (hu : u.okW) :
    Calls Tryz.prog 45 #[.agg #[.string (bs u.sc), .string (bs u.ho), .int .i64 u.po, .string (bs u.pa), .string (bs u.qu), .bool u.hq]] w fun r w' => r = .returned (.string (bs u.put)) ∧ Below w.heap.size w w' := by
  have hal : Below w.heap.size w (w.alloc (.cells #[.string (bs u.sc), .string (bs u.ho), .int .i64 u.po, .string (bs u.pa), .string (bs u.qu), .bool u.hq] 23)) := (Below.refl _ _).alloc (Nat.le_refl _) _
  have hbk := ubk.new w #[.string (bs u.sc), .string (bs u.ho), .int .i64 u.po, .string (bs u.pa), .string (bs u.qu), .bool u.hq] 23
  have hf := uriCheck_any u _ (he.alloc (.cells #[.string (bs u.sc), .string (bs u.ho), .int .i64 u.po, .string (bs u.pa), .string (bs u.qu), .bool u.hq] 23)) hu
  have HW := Lib.hid (fun W (hb : Below (w.alloc (.cells #[.string (bs u.sc), .string (bs u.ho), .int .i64 u.po, .string (bs u.pa), .string (bs u.qu), .bool u.hq] 23)).heap.size (w.alloc (.cells #[.string (bs u.sc), .string (bs u.ho), .int .i64 u.po, .string (bs u.pa), .string (bs u.qu), .bool u.hq] 23)) W) => written_any u W ((he.alloc _).bel hb) hu)
  have hck : u.put = if u.check = 0 then u.text else [] := rfl
  rw [hck]
  clear hck
  generalize u.check = f at *
  generalize u.text = t at *
  have HF := Lib.hid hf; have HAL := Lib.hid hal; have HBK := Lib.hid hbk; clear hf hal hbk he hu
  by_cases h : f = 0
  · subst h
    rw [if_pos rfl]
    go_enter Tryz.func45, Tryz.ntmps45
    go_wp2_with fail
    refine HF.out.mono ?_
    rintro r w1 ⟨rfl, hb1⟩
    have hbk1 := HBK.out.below hb1
    have c0 := hbk1.cell 0 _ rfl
    have c1 := hbk1.cell 1 _ rfl
    have c2 := hbk1.cell 2 _ rfl
    have c3 := hbk1.cell 3 _ rfl
    have c4 := hbk1.cell 4 _ rfl
    have c5 := hbk1.cell 5 _ rfl
    have HB1 := Lib.hid hb1; clear hb1 hbk1
    go_wp2_with fail
    refine (HW.out _ HB1.out).mono ?_
    rintro r w2 ⟨rfl, hb2⟩
    have HB := Lib.hid (HAL.out.trans ((HB1.out.trans (hb2.mono HB1.out.size)).mono HAL.out.size)); clear hb2
    go_wp2_with fail
    go_ret
    exact ⟨rfl, HB.out⟩
  · rw [if_neg h]
    have hn : (f != 0) = true := bne_iff_ne.2 h
    clear h
    go_enter Tryz.func45, Tryz.ntmps45
    go_wp2_with fail
    refine HF.out.mono ?_
    rintro r w1 ⟨rfl, hb1⟩
    have HB := Lib.hid (HAL.out.trans (hb1.mono HAL.out.size)); clear hb1
    go_wp2_with fail
    go_ret
    exact ⟨rfl, HB.out⟩
end Go.Proofs.YtnpiaifkeddjeaaGreatDoor

/- A text's parts, and what a text is as a URI: the uri layer's apart and Parse. -/
namespace Go.Proofs.YtnpiaifkeddjeaaGreatDoor
open Go.RowKit

theorem cut_leU (s sep : List UInt8) : (Lib.cut s sep).1.length ≤ s.length ∧ (Lib.cut s sep).2.1.length ≤ s.length := cut_le s sep
theorem apart_eq (s : List UInt8) : apartL s = ⟨(Lib.cut s [58, 47, 47]).1, (Lib.cut (Lib.cut (Lib.cut (Lib.cut s [58, 47, 47]).2.1 [63]).1 [47]).1 [58]).1,
    atoiV (Lib.cut (Lib.cut (Lib.cut (Lib.cut s [58, 47, 47]).2.1 [63]).1 [47]).1 [58]).2.1,
    if (Lib.cut (Lib.cut (Lib.cut s [58, 47, 47]).2.1 [63]).1 [47]).2.2 then 47 :: (Lib.cut (Lib.cut (Lib.cut s [58, 47, 47]).2.1 [63]).1 [47]).2.1 else [],
    (Lib.cut (Lib.cut s [58, 47, 47]).2.1 [63]).2.1, (Lib.cut (Lib.cut s [58, 47, 47]).2.1 [63]).2.2⟩ := rfl
set_option maxHeartbeats 4000000 in
set_option maxRecDepth 100000 in
theorem apart_any (s : List UInt8) (w : World) (he : EnvU w) (hl : s.length ≤ 1000000) :
    Calls Tryz.prog 36 #[.string (bs s)] w fun r w' => r = .returned (.agg #[.string (bs (apartL s).sc), .string (bs (apartL s).ho), .int .i64 (apartL s).po, .string (bs (apartL s).pa), .string (bs (apartL s).qu), .bool (apartL s).hq]) ∧ Below w.heap.size w w' := by
  rw [apart_eq]
  have hal : Below w.heap.size w ((w.alloc (.cells #[.string ⟨#[]⟩, .string ⟨#[]⟩, .int .i64 0, .string ⟨#[]⟩, .string ⟨#[]⟩, .bool false] 23)).alloc (.cells #[.string ⟨#[]⟩, .string ⟨#[]⟩, .int .i64 0, .string ⟨#[]⟩, .string ⟨#[]⟩, .bool false] 23)) := ((Below.refl _ _).alloc (Nat.le_refl _) _).alloc (by simp) _
  have he0 : EnvU ((w.alloc (.cells #[.string ⟨#[]⟩, .string ⟨#[]⟩, .int .i64 0, .string ⟨#[]⟩, .string ⟨#[]⟩, .bool false] 23)).alloc (.cells #[.string ⟨#[]⟩, .string ⟨#[]⟩, .int .i64 0, .string ⟨#[]⟩, .string ⟨#[]⟩, .bool false] 23)) := he.bel hal
  have hbn := (ubk.new w #[.string ⟨#[]⟩, .string ⟨#[]⟩, .int .i64 0, .string ⟨#[]⟩, .string ⟨#[]⟩, .bool false] 23).alloc (.cells #[.string ⟨#[]⟩, .string ⟨#[]⟩, .int .i64 0, .string ⟨#[]⟩, .string ⟨#[]⟩, .bool false] 23)
  have hbm := ubk.new (w.alloc (.cells #[.string ⟨#[]⟩, .string ⟨#[]⟩, .int .i64 0, .string ⟨#[]⟩, .string ⟨#[]⟩, .bool false] 23)) #[.string ⟨#[]⟩, .string ⟨#[]⟩, .int .i64 0, .string ⟨#[]⟩, .string ⟨#[]⟩, .bool false] 23
  rw [World.size_alloc] at hbm
  have hc1 := cutU_any s [58, 47, 47] _ he0 (by omega)
  have hl0 := cut_leU s [58, 47, 47]
  generalize h1 : Lib.cut s [58, 47, 47] = a at *
  obtain ⟨sc, r1, f1⟩ := a
  simp only at hl0 hc1 ⊢
  have hl1 := cut_leU r1 [63]
  generalize h2 : Lib.cut r1 [63] = a at *
  obtain ⟨r2, qu, hq⟩ := a
  simp only at hl1 ⊢
  have hl2 := cut_leU r2 [47]
  generalize h3 : Lib.cut r2 [47] = a at *
  obtain ⟨r3, pa, hp⟩ := a
  simp only at hl2 ⊢
  have hl3 := cut_leU r3 [58]
  generalize h4 : Lib.cut r3 [58] = a at *
  obtain ⟨ho, po, f4⟩ := a
  simp only at hl3 ⊢
  have HL1 : Hid (r1.length < 4294967281) := by show _ < _; omega
  have HL2 : Hid (r2.length < 4294967281) := by show _ < _; omega
  have HL3 : Hid (r3.length < 4294967281) := by show _ < _; omega
  have HL4 : Hid (po.length ≤ 281474976710656) := by show _ ≤ _; omega
  have hpal : pa.length ≤ 1000000 := by omega
  have HE := Lib.hid he0; have HE0 := Lib.hid he; have HAL := Lib.hid hal; have HBN := Lib.hid hbn; have HBM := Lib.hid hbm; have HC1 := Lib.hid hc1
  have H2 := Lib.hid h2; have H3 := Lib.hid h3; have H4 := Lib.hid h4
  clear he he0 hal hbn hbm hc1 h1 h2 h3 h4 hl0 hl1 hl2 hl3 hl
  cases hp
  · simp only [Bool.false_eq_true, if_false]
    go_enter Tryz.func36, Tryz.ntmps36
    go_wp2_with fail
    refine HC1.out.mono ?_
    rintro r w1 ⟨rfl, hb1⟩
    have he1 := HE.out.bel hb1
    have HB1 := Lib.hid hb1; clear hb1
    go_wp2_with fail
    refine (cutU_any _ _ _ he1 HL1.out).mono ?_
    rintro r w2 ⟨rfl, hb2⟩
    have he2 := he1.bel hb2
    have HB2 := Lib.hid (HB1.out.trans (hb2.mono HB1.out.size)); clear hb2 he1
    rw [H2.out]
    go_wp2_with fail
    refine (cutU_any _ _ _ he2 HL2.out).mono ?_
    rintro r w3 ⟨rfl, hb3⟩
    have he3 := he2.bel hb3
    have HB3 := Lib.hid (HB2.out.trans (hb3.mono HB2.out.size)); clear hb3 he2
    rw [H3.out]
    go_wp2_with fail
    refine (cutU_any _ _ _ he3 HL3.out).mono ?_
    rintro r w4 ⟨rfl, hb4⟩
    have he4 := he3.bel hb4
    have HB4 := Lib.hid (HB3.out.trans (hb4.mono HB3.out.size)); clear hb4 he3
    rw [H4.out]
    have hb1 := HBM.out.below HB4.out
    have hb0 := HBN.out.below HB4.out
    have ac0 := hb1.cell 0 (.string ⟨#[]⟩) rfl
    have af0 := hb1.free 0
    have ac1 := hb1.cell 1 (.string ⟨#[]⟩) rfl
    have af1 := hb1.free 1
    have ac2 := hb1.cell 2 (.int .i64 0) rfl
    have af2 := hb1.free 2
    have ac3 := hb1.cell 3 (.string ⟨#[]⟩) rfl
    have af3 := hb1.free 3
    have ac4 := hb1.cell 4 (.string ⟨#[]⟩) rfl
    have af4 := hb1.free 4
    have ac5 := hb1.cell 5 (.bool false) rfl
    have af5 := hb1.free 5
    have hx1 := ((((hb1.set 0 (.string (bs sc))).set 1 (.string (bs ho))).set 4 (.string (bs qu))).set 5 (.bool hq))
    have hx0 := ((((hb0.other (a := ⟨(w.heap.size + 1), 0, none⟩) (Nat.ne_of_lt (Nat.lt_succ_self _)) (.string (bs sc))).other (a := ⟨(w.heap.size + 1), 1, none⟩) (Nat.ne_of_lt (Nat.lt_succ_self _)) (.string (bs ho))).other (a := ⟨(w.heap.size + 1), 4, none⟩) (Nat.ne_of_lt (Nat.lt_succ_self _)) (.string (bs qu))).other (a := ⟨(w.heap.size + 1), 5, none⟩) (Nat.ne_of_lt (Nat.lt_succ_self _)) (.bool hq))
    have hbe : Below w.heap.size w ((((w4.setCell ⟨(w.heap.size + 1), 0, none⟩ (.string (bs sc))).setCell ⟨(w.heap.size + 1), 1, none⟩ (.string (bs ho))).setCell ⟨(w.heap.size + 1), 4, none⟩ (.string (bs qu))).setCell ⟨(w.heap.size + 1), 5, none⟩ (.bool hq)) := (((((HAL.out.trans (HB4.out.mono HAL.out.size)).setCell (p := ⟨(w.heap.size + 1), 0, none⟩) (Nat.le_succ _) (.string (bs sc))).setCell (p := ⟨(w.heap.size + 1), 1, none⟩) (Nat.le_succ _) (.string (bs ho))).setCell (p := ⟨(w.heap.size + 1), 4, none⟩) (Nat.le_succ _) (.string (bs qu))).setCell (p := ⟨(w.heap.size + 1), 5, none⟩) (Nat.le_succ _) (.bool hq))
    have heW : EnvU ((((w4.setCell ⟨(w.heap.size + 1), 0, none⟩ (.string (bs sc))).setCell ⟨(w.heap.size + 1), 1, none⟩ (.string (bs ho))).setCell ⟨(w.heap.size + 1), 4, none⟩ (.string (bs qu))).setCell ⟨(w.heap.size + 1), 5, none⟩ (.bool hq)) := HE0.out.below hbe (Nat.le_refl _)
    have HBE := Lib.hid hbe; have HX1 := Lib.hid hx1; have HX0 := Lib.hid hx0; have HEW := Lib.hid heW; clear hbe hx1 hx0 heW hb0 hb1 he4
    go_wp2_with fail
    refine (atoiU_any _ _ HL4.out HEW.out).mono ?_
    rintro r w6 ⟨v, rfl, hb6⟩
    clear ac0 ac1 ac2 ac3 ac4 ac5 af0 af1 af2 af3 af4 af5
    have hy1 := HX1.out.below hb6
    have hy0 := HX0.out.below hb6
    have HB6 := Lib.hid (HBE.out.trans (hb6.mono HBE.out.size)); clear hb6
    simp only [List.setIfInBounds_toArray, List.set_cons_zero, List.set_cons_succ] at hy1
    have bc0 := hy1.cell 0 (.string (bs sc)) rfl
    have bf0 := hy1.free 0
    have bc1 := hy1.cell 1 (.string (bs ho)) rfl
    have bf1 := hy1.free 1
    have bc2 := hy1.cell 2 (.int .i64 0) rfl
    have bf2 := hy1.free 2
    have bc3 := hy1.cell 3 (.string ⟨#[]⟩) rfl
    have bf3 := hy1.free 3
    have bc4 := hy1.cell 4 (.string (bs qu)) rfl
    have bf4 := hy1.free 4
    have bc5 := hy1.cell 5 (.bool hq) rfl
    have bf5 := hy1.free 5
    have hz0 := hy0.other (a := ⟨(w.heap.size + 1), 2, none⟩) (Nat.ne_of_lt (Nat.lt_succ_self _)) (.int .i64 (atoiV po))
    have ec0 := hy0.cell 0 (.string ⟨#[]⟩) rfl
    have ef0 := hy0.free 0
    have ec1 := hy0.cell 1 (.string ⟨#[]⟩) rfl
    have ef1 := hy0.free 1
    have ec2 := hy0.cell 2 (.int .i64 0) rfl
    have ef2 := hy0.free 2
    have ec3 := hy0.cell 3 (.string ⟨#[]⟩) rfl
    have ef3 := hy0.free 3
    have ec4 := hy0.cell 4 (.string ⟨#[]⟩) rfl
    have ef4 := hy0.free 4
    have ec5 := hy0.cell 5 (.bool false) rfl
    have ef5 := hy0.free 5
    have hq0 := ((((((hz0.set 0 (.string (bs sc))).set 1 (.string (bs ho))).set 2 (.int .i64 (atoiV po))).set 3 (.string ⟨#[]⟩)).set 4 (.string (bs qu))).set 5 (.bool hq))
    simp only [List.setIfInBounds_toArray, List.set_cons_zero, List.set_cons_succ] at hq0
    have HQ0 := Lib.hid hq0; clear hq0
    have HBF : Hid (Below w.heap.size w (((((((w6.setCell ⟨(w.heap.size + 1), 2, none⟩ (.int .i64 (atoiV po))).setCell ⟨w.heap.size, 0, none⟩ (.string (bs sc))).setCell ⟨w.heap.size, 1, none⟩ (.string (bs ho))).setCell ⟨w.heap.size, 2, none⟩ (.int .i64 (atoiV po))).setCell ⟨w.heap.size, 3, none⟩ (.string ⟨#[]⟩)).setCell ⟨w.heap.size, 4, none⟩ (.string (bs qu))).setCell ⟨w.heap.size, 5, none⟩ (.bool hq))) := (((((((HB6.out.setCell (p := ⟨(w.heap.size + 1), 2, none⟩) (Nat.le_succ _) (.int .i64 (atoiV po))).setCell (p := ⟨w.heap.size, 0, none⟩) (Nat.le_refl _) (.string (bs sc))).setCell (p := ⟨w.heap.size, 1, none⟩) (Nat.le_refl _) (.string (bs ho))).setCell (p := ⟨w.heap.size, 2, none⟩) (Nat.le_refl _) (.int .i64 (atoiV po))).setCell (p := ⟨w.heap.size, 3, none⟩) (Nat.le_refl _) (.string ⟨#[]⟩)).setCell (p := ⟨w.heap.size, 4, none⟩) (Nat.le_refl _) (.string (bs qu))).setCell (p := ⟨w.heap.size, 5, none⟩) (Nat.le_refl _) (.bool hq))
    clear hz0 hy1 hy0
    go_wp2_with fail
    have m0 := HQ0.out.cell 0 (.string (bs sc)) rfl
    have m1 := HQ0.out.cell 1 (.string (bs ho)) rfl
    have m2 := HQ0.out.cell 2 (.int .i64 (atoiV po)) rfl
    have m3 := HQ0.out.cell 3 (.string ⟨#[]⟩) rfl
    have m4 := HQ0.out.cell 4 (.string (bs qu)) rfl
    have m5 := HQ0.out.cell 5 (.bool hq) rfl
    refine bodyPost_ret (v := .agg #[.string (bs sc), .string (bs ho), .int .i64 (atoiV po), .string ⟨#[]⟩, .string (bs qu), .bool hq]) (by simp [results, Tryz.results36, go_sem, m0, m1, m2, m3, m4, m5]) rfl ⟨?_, HBF.out⟩
    rfl
  · have HFIN : Hid ((⟨#[47]⟩ ++ bs pa : ByteArray) = bs (47 :: pa)) := bs_of (by simp)
    simp only [if_true]
    go_enter Tryz.func36, Tryz.ntmps36
    go_wp2_with fail
    refine HC1.out.mono ?_
    rintro r w1 ⟨rfl, hb1⟩
    have he1 := HE.out.bel hb1
    have HB1 := Lib.hid hb1; clear hb1
    go_wp2_with fail
    refine (cutU_any _ _ _ he1 HL1.out).mono ?_
    rintro r w2 ⟨rfl, hb2⟩
    have he2 := he1.bel hb2
    have HB2 := Lib.hid (HB1.out.trans (hb2.mono HB1.out.size)); clear hb2 he1
    rw [H2.out]
    go_wp2_with fail
    refine (cutU_any _ _ _ he2 HL2.out).mono ?_
    rintro r w3 ⟨rfl, hb3⟩
    have he3 := he2.bel hb3
    have HB3 := Lib.hid (HB2.out.trans (hb3.mono HB2.out.size)); clear hb3 he2
    rw [H3.out]
    go_wp2_with fail
    refine (cutU_any _ _ _ he3 HL3.out).mono ?_
    rintro r w4 ⟨rfl, hb4⟩
    have he4 := he3.bel hb4
    have HB4 := Lib.hid (HB3.out.trans (hb4.mono HB3.out.size)); clear hb4 he3
    rw [H4.out]
    have hb1 := HBM.out.below HB4.out
    have hb0 := HBN.out.below HB4.out
    have ac0 := hb1.cell 0 (.string ⟨#[]⟩) rfl
    have af0 := hb1.free 0
    have ac1 := hb1.cell 1 (.string ⟨#[]⟩) rfl
    have af1 := hb1.free 1
    have ac2 := hb1.cell 2 (.int .i64 0) rfl
    have af2 := hb1.free 2
    have ac3 := hb1.cell 3 (.string ⟨#[]⟩) rfl
    have af3 := hb1.free 3
    have ac4 := hb1.cell 4 (.string ⟨#[]⟩) rfl
    have af4 := hb1.free 4
    have ac5 := hb1.cell 5 (.bool false) rfl
    have af5 := hb1.free 5
    have hx1 := (((((hb1.set 0 (.string (bs sc))).set 1 (.string (bs ho))).set 4 (.string (bs qu))).set 5 (.bool hq)).set 3 (.string ((⟨#[47]⟩ : ByteArray) ++ bs pa)))
    have hx0 := (((((hb0.other (a := ⟨(w.heap.size + 1), 0, none⟩) (Nat.ne_of_lt (Nat.lt_succ_self _)) (.string (bs sc))).other (a := ⟨(w.heap.size + 1), 1, none⟩) (Nat.ne_of_lt (Nat.lt_succ_self _)) (.string (bs ho))).other (a := ⟨(w.heap.size + 1), 4, none⟩) (Nat.ne_of_lt (Nat.lt_succ_self _)) (.string (bs qu))).other (a := ⟨(w.heap.size + 1), 5, none⟩) (Nat.ne_of_lt (Nat.lt_succ_self _)) (.bool hq)).other (a := ⟨(w.heap.size + 1), 3, none⟩) (Nat.ne_of_lt (Nat.lt_succ_self _)) (.string ((⟨#[47]⟩ : ByteArray) ++ bs pa)))
    have hbe : Below w.heap.size w (((((w4.setCell ⟨(w.heap.size + 1), 0, none⟩ (.string (bs sc))).setCell ⟨(w.heap.size + 1), 1, none⟩ (.string (bs ho))).setCell ⟨(w.heap.size + 1), 4, none⟩ (.string (bs qu))).setCell ⟨(w.heap.size + 1), 5, none⟩ (.bool hq)).setCell ⟨(w.heap.size + 1), 3, none⟩ (.string ((⟨#[47]⟩ : ByteArray) ++ bs pa))) := ((((((HAL.out.trans (HB4.out.mono HAL.out.size)).setCell (p := ⟨(w.heap.size + 1), 0, none⟩) (Nat.le_succ _) (.string (bs sc))).setCell (p := ⟨(w.heap.size + 1), 1, none⟩) (Nat.le_succ _) (.string (bs ho))).setCell (p := ⟨(w.heap.size + 1), 4, none⟩) (Nat.le_succ _) (.string (bs qu))).setCell (p := ⟨(w.heap.size + 1), 5, none⟩) (Nat.le_succ _) (.bool hq)).setCell (p := ⟨(w.heap.size + 1), 3, none⟩) (Nat.le_succ _) (.string ((⟨#[47]⟩ : ByteArray) ++ bs pa)))
    have heW : EnvU (((((w4.setCell ⟨(w.heap.size + 1), 0, none⟩ (.string (bs sc))).setCell ⟨(w.heap.size + 1), 1, none⟩ (.string (bs ho))).setCell ⟨(w.heap.size + 1), 4, none⟩ (.string (bs qu))).setCell ⟨(w.heap.size + 1), 5, none⟩ (.bool hq)).setCell ⟨(w.heap.size + 1), 3, none⟩ (.string ((⟨#[47]⟩ : ByteArray) ++ bs pa))) := HE0.out.below hbe (Nat.le_refl _)
    have HBE := Lib.hid hbe; have HX1 := Lib.hid hx1; have HX0 := Lib.hid hx0; have HEW := Lib.hid heW; clear hbe hx1 hx0 heW hb0 hb1 he4
    go_wp2_with fail
    refine (atoiU_any _ _ HL4.out HEW.out).mono ?_
    rintro r w6 ⟨v, rfl, hb6⟩
    clear ac0 ac1 ac2 ac3 ac4 ac5 af0 af1 af2 af3 af4 af5
    have hy1 := HX1.out.below hb6
    have hy0 := HX0.out.below hb6
    have HB6 := Lib.hid (HBE.out.trans (hb6.mono HBE.out.size)); clear hb6
    simp only [List.setIfInBounds_toArray, List.set_cons_zero, List.set_cons_succ] at hy1
    have bc0 := hy1.cell 0 (.string (bs sc)) rfl
    have bf0 := hy1.free 0
    have bc1 := hy1.cell 1 (.string (bs ho)) rfl
    have bf1 := hy1.free 1
    have bc2 := hy1.cell 2 (.int .i64 0) rfl
    have bf2 := hy1.free 2
    have bc3 := hy1.cell 3 (.string ((⟨#[47]⟩ : ByteArray) ++ bs pa)) rfl
    have bf3 := hy1.free 3
    have bc4 := hy1.cell 4 (.string (bs qu)) rfl
    have bf4 := hy1.free 4
    have bc5 := hy1.cell 5 (.bool hq) rfl
    have bf5 := hy1.free 5
    have hz0 := hy0.other (a := ⟨(w.heap.size + 1), 2, none⟩) (Nat.ne_of_lt (Nat.lt_succ_self _)) (.int .i64 (atoiV po))
    have ec0 := hy0.cell 0 (.string ⟨#[]⟩) rfl
    have ef0 := hy0.free 0
    have ec1 := hy0.cell 1 (.string ⟨#[]⟩) rfl
    have ef1 := hy0.free 1
    have ec2 := hy0.cell 2 (.int .i64 0) rfl
    have ef2 := hy0.free 2
    have ec3 := hy0.cell 3 (.string ⟨#[]⟩) rfl
    have ef3 := hy0.free 3
    have ec4 := hy0.cell 4 (.string ⟨#[]⟩) rfl
    have ef4 := hy0.free 4
    have ec5 := hy0.cell 5 (.bool false) rfl
    have ef5 := hy0.free 5
    have hq0 := ((((((hz0.set 0 (.string (bs sc))).set 1 (.string (bs ho))).set 2 (.int .i64 (atoiV po))).set 3 (.string ((⟨#[47]⟩ : ByteArray) ++ bs pa))).set 4 (.string (bs qu))).set 5 (.bool hq))
    simp only [List.setIfInBounds_toArray, List.set_cons_zero, List.set_cons_succ] at hq0
    have HQ0 := Lib.hid hq0; clear hq0
    have HBF : Hid (Below w.heap.size w (((((((w6.setCell ⟨(w.heap.size + 1), 2, none⟩ (.int .i64 (atoiV po))).setCell ⟨w.heap.size, 0, none⟩ (.string (bs sc))).setCell ⟨w.heap.size, 1, none⟩ (.string (bs ho))).setCell ⟨w.heap.size, 2, none⟩ (.int .i64 (atoiV po))).setCell ⟨w.heap.size, 3, none⟩ (.string ((⟨#[47]⟩ : ByteArray) ++ bs pa))).setCell ⟨w.heap.size, 4, none⟩ (.string (bs qu))).setCell ⟨w.heap.size, 5, none⟩ (.bool hq))) := (((((((HB6.out.setCell (p := ⟨(w.heap.size + 1), 2, none⟩) (Nat.le_succ _) (.int .i64 (atoiV po))).setCell (p := ⟨w.heap.size, 0, none⟩) (Nat.le_refl _) (.string (bs sc))).setCell (p := ⟨w.heap.size, 1, none⟩) (Nat.le_refl _) (.string (bs ho))).setCell (p := ⟨w.heap.size, 2, none⟩) (Nat.le_refl _) (.int .i64 (atoiV po))).setCell (p := ⟨w.heap.size, 3, none⟩) (Nat.le_refl _) (.string ((⟨#[47]⟩ : ByteArray) ++ bs pa))).setCell (p := ⟨w.heap.size, 4, none⟩) (Nat.le_refl _) (.string (bs qu))).setCell (p := ⟨w.heap.size, 5, none⟩) (Nat.le_refl _) (.bool hq))
    clear hz0 hy1 hy0
    go_wp2_with fail
    have m0 := HQ0.out.cell 0 (.string (bs sc)) rfl
    have m1 := HQ0.out.cell 1 (.string (bs ho)) rfl
    have m2 := HQ0.out.cell 2 (.int .i64 (atoiV po)) rfl
    have m3 := HQ0.out.cell 3 (.string ((⟨#[47]⟩ : ByteArray) ++ bs pa)) rfl
    have m4 := HQ0.out.cell 4 (.string (bs qu)) rfl
    have m5 := HQ0.out.cell 5 (.bool hq) rfl
    refine bodyPost_ret (v := .agg #[.string (bs sc), .string (bs ho), .int .i64 (atoiV po), .string ((⟨#[47]⟩ : ByteArray) ++ bs pa), .string (bs qu), .bool hq]) (by simp [results, Tryz.results36, go_sem, m0, m1, m2, m3, m4, m5]) rfl ⟨?_, HBF.out⟩
    rw [HFIN.out]
end Go.Proofs.YtnpiaifkeddjeaaGreatDoor

/- What a text is as a URI: the uri layer's Parse. -/
namespace Go.Proofs.YtnpiaifkeddjeaaGreatDoor
open Go.RowKit

theorem atoiV_range (l : List UInt8) : -9223372036854775808 ≤ atoiV l ∧ atoiV l ≤ 9223372036854775807 := by
  unfold atoiV
  split
  · rename_i v hv
    unfold Lib.atoiAll at hv
    cases l with
    | nil => cases hv
    | cons c r =>
      simp only at hv
      split at hv
      · cases hv
      · cases hv
      · split at hv
        · cases hv
        · split at hv
          · cases hv
          · injection hv with hv
            subst hv
            split <;> omega
  · unfold Lib.atoiSat
    split <;> omega
  · omega
theorem apart_ok (s : List UInt8) (hl : s.length ≤ 1000000) : (apartL s).okW := by
  have l0 := cut_leU s [58, 47, 47]
  have l1 := cut_leU (Lib.cut s [58, 47, 47]).2.1 [63]
  have l2 := cut_leU (Lib.cut (Lib.cut s [58, 47, 47]).2.1 [63]).1 [47]
  have l3 := cut_leU (Lib.cut (Lib.cut (Lib.cut s [58, 47, 47]).2.1 [63]).1 [47]).1 [58]
  rw [apart_eq]
  refine ⟨?_, (atoiV_range _).1, (atoiV_range _).2⟩
  simp only
  split
  · simp only [List.length_cons]; omega
  · simp only [List.length_nil]; omega
theorem root_ok {u : Ur} (h : u.okW) (hl : u.sc.length + u.ho.length + u.pa.length + u.qu.length ≤ 99999999) : u.root.okW := by
  refine ⟨?_, h.lo, h.hi⟩
  unfold Ur.root
  simp only
  split
  · simp only [List.length_cons, List.length_nil]; omega
  · omega
theorem apart_len (s : List UInt8) (hl : s.length ≤ 1000000) : (apartL s).sc.length + (apartL s).ho.length + (apartL s).pa.length + (apartL s).qu.length ≤ 99999999 := by
  have l0 := cut_leU s [58, 47, 47]
  have l1 := cut_leU (Lib.cut s [58, 47, 47]).2.1 [63]
  have l2 := cut_leU (Lib.cut (Lib.cut s [58, 47, 47]).2.1 [63]).1 [47]
  have l3 := cut_leU (Lib.cut (Lib.cut (Lib.cut s [58, 47, 47]).2.1 [63]).1 [47]).1 [58]
  rw [apart_eq]
  simp only
  split
  · simp only [List.length_cons]; omega
  · simp only [List.length_nil]; omega
theorem beq_bs2 (a b : List UInt8) : ((bs a).toList == (bs b).toList) = (a == b) := by rw [Lib.toList_data, Lib.toList_data, bs_data, bs_data]
/-- what a text that is read is, as a value -/
def RetU (w : World) (p : Ur × Int) (e : Ending) (w' : World) : Prop :=
  e = .returned (.tuple #[.agg #[.string (bs p.1.sc), .string (bs p.1.ho), .int .i64 p.1.po, .string (bs p.1.pa), .string (bs p.1.qu), .bool p.1.hq], .int .i64 p.2]) ∧ Below w.heap.size w w'

set_option maxHeartbeats 1000000 in
set_option maxRecDepth 100000 in
theorem parse_long (s : List UInt8) (w : World) (hl : 1024 < s.length) :
    Calls Tryz.prog 21 #[.string (bs s)] w (RetU w (ur0, 3)) := by
  have hal : Below w.heap.size w (w.alloc (.cells #[.string ⟨#[]⟩, .string ⟨#[]⟩, .int .i64 0, .string ⟨#[]⟩, .string ⟨#[]⟩, .bool false] 23)) := (Below.refl _ _).alloc (Nat.le_refl _) _
  have hbn := ubk.new w #[.string ⟨#[]⟩, .string ⟨#[]⟩, .int .i64 0, .string ⟨#[]⟩, .string ⟨#[]⟩, .bool false] 23
  have hsz : (1024 : Int) < ((bs s).size : Int) := by rw [bs_size]; omega
  show Calls Tryz.prog 21 #[.string (bs s)] w fun e w' => e = .returned (.tuple #[.agg #[.string ⟨#[]⟩, .string ⟨#[]⟩, .int .i64 0, .string ⟨#[]⟩, .string ⟨#[]⟩, .bool false], .int .i64 3]) ∧ Below w.heap.size w w'
  go_enter Tryz.func21, Tryz.ntmps21
  have HAL := Lib.hid hal; have HBN := Lib.hid hbn; clear hal hbn
  go_wp2_with fail
  have m0 := HBN.out.cell 0 (.string ⟨#[]⟩) rfl
  have m1 := HBN.out.cell 1 (.string ⟨#[]⟩) rfl
  have m2 := HBN.out.cell 2 (.int .i64 0) rfl
  have m3 := HBN.out.cell 3 (.string ⟨#[]⟩) rfl
  have m4 := HBN.out.cell 4 (.string ⟨#[]⟩) rfl
  have m5 := HBN.out.cell 5 (.bool false) rfl
  refine bodyPost_ret (v := .tuple #[.agg #[.string ⟨#[]⟩, .string ⟨#[]⟩, .int .i64 0, .string ⟨#[]⟩, .string ⟨#[]⟩, .bool false], .int .i64 3]) (by simp [results, Tryz.results21, go_sem, m0, m1, m2, m3, m4, m5]) rfl ⟨?_, HAL.out⟩
  rfl

set_option maxHeartbeats 4000000 in
set_option maxRecDepth 100000 in
theorem parse_any (s : List UInt8) (w : World) (he : EnvU w) :
    Calls Tryz.prog 21 #[.string (bs s)] w (RetU w (parseU s)) := by
  by_cases h : 1024 < s.length
  · have hp : parseU s = (ur0, 3) := if_pos h
    rw [hp]
    exact parse_long s w h
  · have hp : parseU s = if (apartL s).text = s then (if (apartL s).root.check = 0 then ((apartL s).root, 0) else (ur0, (apartL s).root.check)) else (ur0, 4) := if_neg h
    rw [hp]
    clear hp
    have hu := apart_ok s (by omega)
    have hr := root_ok hu (apart_len s (by omega))
    have hal : Below w.heap.size w (w.alloc (.cells #[.string ⟨#[]⟩, .string ⟨#[]⟩, .int .i64 0, .string ⟨#[]⟩, .string ⟨#[]⟩, .bool false] 23)) := (Below.refl _ _).alloc (Nat.le_refl _) _
    have he0 : EnvU (w.alloc (.cells #[.string ⟨#[]⟩, .string ⟨#[]⟩, .int .i64 0, .string ⟨#[]⟩, .string ⟨#[]⟩, .bool false] 23)) := he.alloc _
    have hbn := ubk.new w #[.string ⟨#[]⟩, .string ⟨#[]⟩, .int .i64 0, .string ⟨#[]⟩, .string ⟨#[]⟩, .bool false] 23
    have HA := Lib.hid (fun W (hb : Below (w.alloc (.cells #[.string ⟨#[]⟩, .string ⟨#[]⟩, .int .i64 0, .string ⟨#[]⟩, .string ⟨#[]⟩, .bool false] 23)).heap.size (w.alloc (.cells #[.string ⟨#[]⟩, .string ⟨#[]⟩, .int .i64 0, .string ⟨#[]⟩, .string ⟨#[]⟩, .bool false] 23)) W) => apart_any s W (he0.bel hb) (by omega))
    have HWR := Lib.hid (fun W (hb : Below (w.alloc (.cells #[.string ⟨#[]⟩, .string ⟨#[]⟩, .int .i64 0, .string ⟨#[]⟩, .string ⟨#[]⟩, .bool false] 23)).heap.size (w.alloc (.cells #[.string ⟨#[]⟩, .string ⟨#[]⟩, .int .i64 0, .string ⟨#[]⟩, .string ⟨#[]⟩, .bool false] 23)) W) => written_any (apartL s) W (he0.bel hb) hu)
    have HCK := Lib.hid (fun W (hb : Below w.heap.size w W) => uriCheck_any (apartL s).root W (he.bel hb) hr)
    have HS : Hid (s.length ≤ 281474976710656) := by show _ ≤ _; omega
    have hsz : ¬ (1024 : Int) < ((bs s).size : Int) := by rw [bs_size]; omega
    have htx : ((bs (apartL s).text).toList == (bs s).toList) = ((apartL s).text == s) := beq_bs2 _ _
    have hrt : (apartL s).root = ⟨(apartL s).sc, (apartL s).ho, (apartL s).po, if (apartL s).pa = [] then [47] else (apartL s).pa, (apartL s).qu, (apartL s).hq⟩ := rfl
    rw [hrt] at HCK
    rw [hrt]
    clear hu hr he he0 hrt h
    generalize hA : apartL s = A at *
    clear hA
    obtain ⟨sc, ho, po, pa, qu, hq⟩ := A
    generalize ht : Ur.text ⟨sc, ho, po, pa, qu, hq⟩ = t at *
    clear ht
    have HAL := Lib.hid hal; have HBN := Lib.hid hbn; clear hal hbn
    by_cases htt : t = s
    · rw [if_pos htt]
      have htx2 : ((bs t).toList == (bs s).toList) = true := by rw [htx]; exact beq_iff_eq.2 htt
      clear htx htt
      by_cases hpa : pa = []
      · rw [if_pos hpa] at HCK ⊢
        subst hpa
        have q1 : ((bs []).toList == []) = true := by rw [beq_lit]; rfl
        have q2 : (bs []).toList.isEmpty = true := by rw [Lib.toList_data, bs_data]; rfl
        generalize hk : Ur.check ⟨sc, ho, po, [47], qu, hq⟩ = k at *
        clear hk
        by_cases hk0 : k = 0
        · subst hk0
          rw [if_pos rfl]
          show Calls Tryz.prog 21 #[.string (bs s)] w fun e w' => e = .returned (.tuple #[.agg #[.string (bs sc), .string (bs ho), .int .i64 po, .string (bs [47]), .string (bs qu), .bool hq], .int .i64 0]) ∧ Below w.heap.size w w'
          go_enter Tryz.func21, Tryz.ntmps21
          go_wp2_with fail
          refine (cloneU_any _ _ HS.out).mono ?_
          rintro r w1 ⟨rfl, hb1⟩
          have HB1 := Lib.hid hb1; clear hb1
          go_wp2_with fail
          refine (HA.out _ HB1.out).mono ?_
          rintro r w2 ⟨rfl, hb2⟩
          have hB2 := HB1.out.trans (hb2.mono HB1.out.size)
          have HN2 := Lib.hid ((HBN.out.below hB2).alloc (.cells #[.string (bs sc), .string (bs ho), .int .i64 po, .string (bs []), .string (bs qu), .bool hq] 23))
          have HM2 := Lib.hid (ubk.new w2 #[.string (bs sc), .string (bs ho), .int .i64 po, .string (bs []), .string (bs qu), .bool hq] 23)
          have hal2 : Below w2.heap.size w2 (w2.alloc (.cells #[.string (bs sc), .string (bs ho), .int .i64 po, .string (bs []), .string (bs qu), .bool hq] 23)) := (Below.refl _ _).alloc (Nat.le_refl _) _
          have HB3 := Lib.hid (hB2.trans (hal2.mono hB2.size))
          have HSZ2 := Lib.hid hB2.size
          clear hb2 hal2 hB2
          go_wp2_with fail
          refine (HWR.out _ HB3.out).mono ?_
          rintro r w4 ⟨rfl, hb4⟩
          have HB4 := Lib.hid (HB3.out.trans (hb4.mono HB3.out.size))
          have hn4 := HN2.out.below hb4
          have hm4 := HM2.out.below hb4
          clear hb4
          have gc0 := hm4.cell 0 (.string (bs sc)) rfl
          have gf0 := hm4.free 0
          have gc1 := hm4.cell 1 (.string (bs ho)) rfl
          have gf1 := hm4.free 1
          have gc2 := hm4.cell 2 (.int .i64 po) rfl
          have gf2 := hm4.free 2
          have gc3 := hm4.cell 3 (.string (bs [])) rfl
          have gf3 := hm4.free 3
          have gc4 := hm4.cell 4 (.string (bs qu)) rfl
          have gf4 := hm4.free 4
          have gc5 := hm4.cell 5 (.bool hq) rfl
          have gf5 := hm4.free 5
          have hlt : w.heap.size < w2.heap.size := by have h1 := HSZ2.out; have h2 := HBN.out.lt; omega
          have hn5 : ubk (w4.setCell ⟨w2.heap.size, 3, none⟩ (.string (bs [47]))) w.heap.size #[.string ⟨#[]⟩, .string ⟨#[]⟩, .int .i64 0, .string ⟨#[]⟩, .string ⟨#[]⟩, .bool false] := hn4.other (a := ⟨w2.heap.size, 3, none⟩) (Nat.ne_of_lt hlt) _
          have hm5 := hm4.set 3 (.string (bs [47]))
          simp only [List.setIfInBounds_toArray, List.set_cons_zero, List.set_cons_succ] at hm5
          have HB5 : Hid (Below w.heap.size w (w4.setCell ⟨w2.heap.size, 3, none⟩ (.string (bs [47])))) := (HAL.out.trans (HB4.out.mono HAL.out.size)).setCell (p := ⟨w2.heap.size, 3, none⟩) (Nat.le_of_lt hlt) _
          have h47 : (⟨#[47]⟩ : ByteArray) = bs [47] := rfl
          have HN5 := Lib.hid hn5; have HM5 := Lib.hid hm5; clear hn5 hm5 hn4 hm4 hlt
          go_wp2_with fail
          refine (HCK.out _ HB5.out).mono ?_
          rintro r w6 ⟨rfl, hb6⟩
          have hn6 := HN5.out.below hb6
          have hm6 := HM5.out.below hb6
          have HB6 := Lib.hid (HB5.out.trans (hb6.mono HB5.out.size)); clear hb6 gc0 gf0 gc1 gf1 gc2 gf2 gc3 gf3 gc4 gf4 gc5 gf5
          have kc0 := hm6.cell 0 (.string (bs sc)) rfl
          have kf0 := hm6.free 0
          have kc1 := hm6.cell 1 (.string (bs ho)) rfl
          have kf1 := hm6.free 1
          have kc2 := hm6.cell 2 (.int .i64 po) rfl
          have kf2 := hm6.free 2
          have kc3 := hm6.cell 3 (.string (bs [47])) rfl
          have kf3 := hm6.free 3
          have kc4 := hm6.cell 4 (.string (bs qu)) rfl
          have kf4 := hm6.free 4
          have kc5 := hm6.cell 5 (.bool hq) rfl
          have kf5 := hm6.free 5
          clear hm6
          have nc0 := hn6.cell 0 (.string ⟨#[]⟩) rfl
          have nf0 := hn6.free 0
          have nc1 := hn6.cell 1 (.string ⟨#[]⟩) rfl
          have nf1 := hn6.free 1
          have nc2 := hn6.cell 2 (.int .i64 0) rfl
          have nf2 := hn6.free 2
          have nc3 := hn6.cell 3 (.string ⟨#[]⟩) rfl
          have nf3 := hn6.free 3
          have nc4 := hn6.cell 4 (.string ⟨#[]⟩) rfl
          have nf4 := hn6.free 4
          have nc5 := hn6.cell 5 (.bool false) rfl
          have nf5 := hn6.free 5
          have hq0 := ((((((hn6.set 0 (.string (bs sc))).set 1 (.string (bs ho))).set 2 (.int .i64 po)).set 3 (.string (bs [47]))).set 4 (.string (bs qu))).set 5 (.bool hq))
          simp only [List.setIfInBounds_toArray, List.set_cons_zero, List.set_cons_succ] at hq0
          have HQ0 := Lib.hid hq0; clear hq0
          have HBF : Hid (Below w.heap.size w ((((((w6.setCell ⟨w.heap.size, 0, none⟩ (.string (bs sc))).setCell ⟨w.heap.size, 1, none⟩ (.string (bs ho))).setCell ⟨w.heap.size, 2, none⟩ (.int .i64 po)).setCell ⟨w.heap.size, 3, none⟩ (.string (bs [47]))).setCell ⟨w.heap.size, 4, none⟩ (.string (bs qu))).setCell ⟨w.heap.size, 5, none⟩ (.bool hq))) := ((((((HB6.out.setCell (p := ⟨w.heap.size, 0, none⟩) (Nat.le_refl _) (.string (bs sc))).setCell (p := ⟨w.heap.size, 1, none⟩) (Nat.le_refl _) (.string (bs ho))).setCell (p := ⟨w.heap.size, 2, none⟩) (Nat.le_refl _) (.int .i64 po)).setCell (p := ⟨w.heap.size, 3, none⟩) (Nat.le_refl _) (.string (bs [47]))).setCell (p := ⟨w.heap.size, 4, none⟩) (Nat.le_refl _) (.string (bs qu))).setCell (p := ⟨w.heap.size, 5, none⟩) (Nat.le_refl _) (.bool hq))
          clear hn6
          go_wp2_with fail
          have m0 := HQ0.out.cell 0 (.string (bs sc)) rfl
          have m1 := HQ0.out.cell 1 (.string (bs ho)) rfl
          have m2 := HQ0.out.cell 2 (.int .i64 po) rfl
          have m3 := HQ0.out.cell 3 (.string (bs [47])) rfl
          have m4 := HQ0.out.cell 4 (.string (bs qu)) rfl
          have m5 := HQ0.out.cell 5 (.bool hq) rfl
          refine bodyPost_ret (v := .tuple #[.agg #[.string (bs sc), .string (bs ho), .int .i64 po, .string (bs [47]), .string (bs qu), .bool hq], .int .i64 0]) (by simp [results, Tryz.results21, go_sem, m0, m1, m2, m3, m4, m5]) rfl ⟨?_, HBF.out⟩
          rfl
        · rw [if_neg hk0]
          have hkn : (k != 0) = true := bne_iff_ne.2 hk0
          clear hk0
          show Calls Tryz.prog 21 #[.string (bs s)] w fun e w' => e = .returned (.tuple #[.agg #[.string ⟨#[]⟩, .string ⟨#[]⟩, .int .i64 0, .string ⟨#[]⟩, .string ⟨#[]⟩, .bool false], .int .i64 k]) ∧ Below w.heap.size w w'
          go_enter Tryz.func21, Tryz.ntmps21
          go_wp2_with fail
          refine (cloneU_any _ _ HS.out).mono ?_
          rintro r w1 ⟨rfl, hb1⟩
          have HB1 := Lib.hid hb1; clear hb1
          go_wp2_with fail
          refine (HA.out _ HB1.out).mono ?_
          rintro r w2 ⟨rfl, hb2⟩
          have hB2 := HB1.out.trans (hb2.mono HB1.out.size)
          have HN2 := Lib.hid ((HBN.out.below hB2).alloc (.cells #[.string (bs sc), .string (bs ho), .int .i64 po, .string (bs []), .string (bs qu), .bool hq] 23))
          have HM2 := Lib.hid (ubk.new w2 #[.string (bs sc), .string (bs ho), .int .i64 po, .string (bs []), .string (bs qu), .bool hq] 23)
          have hal2 : Below w2.heap.size w2 (w2.alloc (.cells #[.string (bs sc), .string (bs ho), .int .i64 po, .string (bs []), .string (bs qu), .bool hq] 23)) := (Below.refl _ _).alloc (Nat.le_refl _) _
          have HB3 := Lib.hid (hB2.trans (hal2.mono hB2.size))
          have HSZ2 := Lib.hid hB2.size
          clear hb2 hal2 hB2
          go_wp2_with fail
          refine (HWR.out _ HB3.out).mono ?_
          rintro r w4 ⟨rfl, hb4⟩
          have HB4 := Lib.hid (HB3.out.trans (hb4.mono HB3.out.size))
          have hn4 := HN2.out.below hb4
          have hm4 := HM2.out.below hb4
          clear hb4
          have gc0 := hm4.cell 0 (.string (bs sc)) rfl
          have gf0 := hm4.free 0
          have gc1 := hm4.cell 1 (.string (bs ho)) rfl
          have gf1 := hm4.free 1
          have gc2 := hm4.cell 2 (.int .i64 po) rfl
          have gf2 := hm4.free 2
          have gc3 := hm4.cell 3 (.string (bs [])) rfl
          have gf3 := hm4.free 3
          have gc4 := hm4.cell 4 (.string (bs qu)) rfl
          have gf4 := hm4.free 4
          have gc5 := hm4.cell 5 (.bool hq) rfl
          have gf5 := hm4.free 5
          have hlt : w.heap.size < w2.heap.size := by have h1 := HSZ2.out; have h2 := HBN.out.lt; omega
          have hn5 : ubk (w4.setCell ⟨w2.heap.size, 3, none⟩ (.string (bs [47]))) w.heap.size #[.string ⟨#[]⟩, .string ⟨#[]⟩, .int .i64 0, .string ⟨#[]⟩, .string ⟨#[]⟩, .bool false] := hn4.other (a := ⟨w2.heap.size, 3, none⟩) (Nat.ne_of_lt hlt) _
          have hm5 := hm4.set 3 (.string (bs [47]))
          simp only [List.setIfInBounds_toArray, List.set_cons_zero, List.set_cons_succ] at hm5
          have HB5 : Hid (Below w.heap.size w (w4.setCell ⟨w2.heap.size, 3, none⟩ (.string (bs [47])))) := (HAL.out.trans (HB4.out.mono HAL.out.size)).setCell (p := ⟨w2.heap.size, 3, none⟩) (Nat.le_of_lt hlt) _
          have h47 : (⟨#[47]⟩ : ByteArray) = bs [47] := rfl
          have HN5 := Lib.hid hn5; have HM5 := Lib.hid hm5; clear hn5 hm5 hn4 hm4 hlt
          go_wp2_with fail
          refine (HCK.out _ HB5.out).mono ?_
          rintro r w6 ⟨rfl, hb6⟩
          have hn6 := HN5.out.below hb6
          have hm6 := HM5.out.below hb6
          have HB6 := Lib.hid (HB5.out.trans (hb6.mono HB5.out.size)); clear hb6 gc0 gf0 gc1 gf1 gc2 gf2 gc3 gf3 gc4 gf4 gc5 gf5
          clear hm6
          have nc0 := hn6.cell 0 (.string ⟨#[]⟩) rfl
          have nf0 := hn6.free 0
          have nc1 := hn6.cell 1 (.string ⟨#[]⟩) rfl
          have nf1 := hn6.free 1
          have nc2 := hn6.cell 2 (.int .i64 0) rfl
          have nf2 := hn6.free 2
          have nc3 := hn6.cell 3 (.string ⟨#[]⟩) rfl
          have nf3 := hn6.free 3
          have nc4 := hn6.cell 4 (.string ⟨#[]⟩) rfl
          have nf4 := hn6.free 4
          have nc5 := hn6.cell 5 (.bool false) rfl
          have nf5 := hn6.free 5
          have hq0 := ((((((hn6.set 0 (.string ⟨#[]⟩)).set 1 (.string ⟨#[]⟩)).set 2 (.int .i64 0)).set 3 (.string ⟨#[]⟩)).set 4 (.string ⟨#[]⟩)).set 5 (.bool false))
          simp only [List.setIfInBounds_toArray, List.set_cons_zero, List.set_cons_succ] at hq0
          have HQ0 := Lib.hid hq0; clear hq0
          have HBF : Hid (Below w.heap.size w ((((((w6.setCell ⟨w.heap.size, 0, none⟩ (.string ⟨#[]⟩)).setCell ⟨w.heap.size, 1, none⟩ (.string ⟨#[]⟩)).setCell ⟨w.heap.size, 2, none⟩ (.int .i64 0)).setCell ⟨w.heap.size, 3, none⟩ (.string ⟨#[]⟩)).setCell ⟨w.heap.size, 4, none⟩ (.string ⟨#[]⟩)).setCell ⟨w.heap.size, 5, none⟩ (.bool false))) := ((((((HB6.out.setCell (p := ⟨w.heap.size, 0, none⟩) (Nat.le_refl _) (.string ⟨#[]⟩)).setCell (p := ⟨w.heap.size, 1, none⟩) (Nat.le_refl _) (.string ⟨#[]⟩)).setCell (p := ⟨w.heap.size, 2, none⟩) (Nat.le_refl _) (.int .i64 0)).setCell (p := ⟨w.heap.size, 3, none⟩) (Nat.le_refl _) (.string ⟨#[]⟩)).setCell (p := ⟨w.heap.size, 4, none⟩) (Nat.le_refl _) (.string ⟨#[]⟩)).setCell (p := ⟨w.heap.size, 5, none⟩) (Nat.le_refl _) (.bool false))
          clear hn6
          go_wp2_with fail
          have m0 := HQ0.out.cell 0 (.string ⟨#[]⟩) rfl
          have m1 := HQ0.out.cell 1 (.string ⟨#[]⟩) rfl
          have m2 := HQ0.out.cell 2 (.int .i64 0) rfl
          have m3 := HQ0.out.cell 3 (.string ⟨#[]⟩) rfl
          have m4 := HQ0.out.cell 4 (.string ⟨#[]⟩) rfl
          have m5 := HQ0.out.cell 5 (.bool false) rfl
          refine bodyPost_ret (v := .tuple #[.agg #[.string ⟨#[]⟩, .string ⟨#[]⟩, .int .i64 0, .string ⟨#[]⟩, .string ⟨#[]⟩, .bool false], .int .i64 k]) (by simp [results, Tryz.results21, go_sem, m0, m1, m2, m3, m4, m5]) rfl ⟨?_, HBF.out⟩
          rfl
      · rw [if_neg hpa] at HCK ⊢
        have q1 : ((bs pa).toList == []) = false := by rw [beq_lit]; exact beq_eq_false_iff_ne.2 hpa
        have q2 : (bs pa).toList.isEmpty = false := by rw [Lib.toList_data, bs_data]; cases pa with | nil => exact absurd rfl hpa | cons => rfl
        clear hpa
        generalize hk : Ur.check ⟨sc, ho, po, pa, qu, hq⟩ = k at *
        clear hk
        by_cases hk0 : k = 0
        · subst hk0
          rw [if_pos rfl]
          show Calls Tryz.prog 21 #[.string (bs s)] w fun e w' => e = .returned (.tuple #[.agg #[.string (bs sc), .string (bs ho), .int .i64 po, .string (bs pa), .string (bs qu), .bool hq], .int .i64 0]) ∧ Below w.heap.size w w'
          go_enter Tryz.func21, Tryz.ntmps21
          go_wp2_with fail
          refine (cloneU_any _ _ HS.out).mono ?_
          rintro r w1 ⟨rfl, hb1⟩
          have HB1 := Lib.hid hb1; clear hb1
          go_wp2_with fail
          refine (HA.out _ HB1.out).mono ?_
          rintro r w2 ⟨rfl, hb2⟩
          have hB2 := HB1.out.trans (hb2.mono HB1.out.size)
          have HN2 := Lib.hid ((HBN.out.below hB2).alloc (.cells #[.string (bs sc), .string (bs ho), .int .i64 po, .string (bs pa), .string (bs qu), .bool hq] 23))
          have HM2 := Lib.hid (ubk.new w2 #[.string (bs sc), .string (bs ho), .int .i64 po, .string (bs pa), .string (bs qu), .bool hq] 23)
          have hal2 : Below w2.heap.size w2 (w2.alloc (.cells #[.string (bs sc), .string (bs ho), .int .i64 po, .string (bs pa), .string (bs qu), .bool hq] 23)) := (Below.refl _ _).alloc (Nat.le_refl _) _
          have HB3 := Lib.hid (hB2.trans (hal2.mono hB2.size))
          have HSZ2 := Lib.hid hB2.size
          clear hb2 hal2 hB2
          go_wp2_with fail
          refine (HWR.out _ HB3.out).mono ?_
          rintro r w4 ⟨rfl, hb4⟩
          have HB4 := Lib.hid (HB3.out.trans (hb4.mono HB3.out.size))
          have hn4 := HN2.out.below hb4
          have hm4 := HM2.out.below hb4
          clear hb4
          have gc0 := hm4.cell 0 (.string (bs sc)) rfl
          have gf0 := hm4.free 0
          have gc1 := hm4.cell 1 (.string (bs ho)) rfl
          have gf1 := hm4.free 1
          have gc2 := hm4.cell 2 (.int .i64 po) rfl
          have gf2 := hm4.free 2
          have gc3 := hm4.cell 3 (.string (bs pa)) rfl
          have gf3 := hm4.free 3
          have gc4 := hm4.cell 4 (.string (bs qu)) rfl
          have gf4 := hm4.free 4
          have gc5 := hm4.cell 5 (.bool hq) rfl
          have gf5 := hm4.free 5
          have HB5 := Lib.hid (HAL.out.trans (HB4.out.mono HAL.out.size))
          have HN5 := Lib.hid hn4; have HM5 := Lib.hid hm4; clear hn4 hm4
          go_wp2_with fail
          refine (HCK.out _ HB5.out).mono ?_
          rintro r w6 ⟨rfl, hb6⟩
          have hn6 := HN5.out.below hb6
          have hm6 := HM5.out.below hb6
          have HB6 := Lib.hid (HB5.out.trans (hb6.mono HB5.out.size)); clear hb6 gc0 gf0 gc1 gf1 gc2 gf2 gc3 gf3 gc4 gf4 gc5 gf5
          have kc0 := hm6.cell 0 (.string (bs sc)) rfl
          have kf0 := hm6.free 0
          have kc1 := hm6.cell 1 (.string (bs ho)) rfl
          have kf1 := hm6.free 1
          have kc2 := hm6.cell 2 (.int .i64 po) rfl
          have kf2 := hm6.free 2
          have kc3 := hm6.cell 3 (.string (bs pa)) rfl
          have kf3 := hm6.free 3
          have kc4 := hm6.cell 4 (.string (bs qu)) rfl
          have kf4 := hm6.free 4
          have kc5 := hm6.cell 5 (.bool hq) rfl
          have kf5 := hm6.free 5
          clear hm6
          have nc0 := hn6.cell 0 (.string ⟨#[]⟩) rfl
          have nf0 := hn6.free 0
          have nc1 := hn6.cell 1 (.string ⟨#[]⟩) rfl
          have nf1 := hn6.free 1
          have nc2 := hn6.cell 2 (.int .i64 0) rfl
          have nf2 := hn6.free 2
          have nc3 := hn6.cell 3 (.string ⟨#[]⟩) rfl
          have nf3 := hn6.free 3
          have nc4 := hn6.cell 4 (.string ⟨#[]⟩) rfl
          have nf4 := hn6.free 4
          have nc5 := hn6.cell 5 (.bool false) rfl
          have nf5 := hn6.free 5
          have hq0 := ((((((hn6.set 0 (.string (bs sc))).set 1 (.string (bs ho))).set 2 (.int .i64 po)).set 3 (.string (bs pa))).set 4 (.string (bs qu))).set 5 (.bool hq))
          simp only [List.setIfInBounds_toArray, List.set_cons_zero, List.set_cons_succ] at hq0
          have HQ0 := Lib.hid hq0; clear hq0
          have HBF : Hid (Below w.heap.size w ((((((w6.setCell ⟨w.heap.size, 0, none⟩ (.string (bs sc))).setCell ⟨w.heap.size, 1, none⟩ (.string (bs ho))).setCell ⟨w.heap.size, 2, none⟩ (.int .i64 po)).setCell ⟨w.heap.size, 3, none⟩ (.string (bs pa))).setCell ⟨w.heap.size, 4, none⟩ (.string (bs qu))).setCell ⟨w.heap.size, 5, none⟩ (.bool hq))) := ((((((HB6.out.setCell (p := ⟨w.heap.size, 0, none⟩) (Nat.le_refl _) (.string (bs sc))).setCell (p := ⟨w.heap.size, 1, none⟩) (Nat.le_refl _) (.string (bs ho))).setCell (p := ⟨w.heap.size, 2, none⟩) (Nat.le_refl _) (.int .i64 po)).setCell (p := ⟨w.heap.size, 3, none⟩) (Nat.le_refl _) (.string (bs pa))).setCell (p := ⟨w.heap.size, 4, none⟩) (Nat.le_refl _) (.string (bs qu))).setCell (p := ⟨w.heap.size, 5, none⟩) (Nat.le_refl _) (.bool hq))
          clear hn6
          go_wp2_with fail
          have m0 := HQ0.out.cell 0 (.string (bs sc)) rfl
          have m1 := HQ0.out.cell 1 (.string (bs ho)) rfl
          have m2 := HQ0.out.cell 2 (.int .i64 po) rfl
          have m3 := HQ0.out.cell 3 (.string (bs pa)) rfl
          have m4 := HQ0.out.cell 4 (.string (bs qu)) rfl
          have m5 := HQ0.out.cell 5 (.bool hq) rfl
          refine bodyPost_ret (v := .tuple #[.agg #[.string (bs sc), .string (bs ho), .int .i64 po, .string (bs pa), .string (bs qu), .bool hq], .int .i64 0]) (by simp [results, Tryz.results21, go_sem, m0, m1, m2, m3, m4, m5]) rfl ⟨?_, HBF.out⟩
          rfl
        · rw [if_neg hk0]
          have hkn : (k != 0) = true := bne_iff_ne.2 hk0
          clear hk0
          show Calls Tryz.prog 21 #[.string (bs s)] w fun e w' => e = .returned (.tuple #[.agg #[.string ⟨#[]⟩, .string ⟨#[]⟩, .int .i64 0, .string ⟨#[]⟩, .string ⟨#[]⟩, .bool false], .int .i64 k]) ∧ Below w.heap.size w w'
          go_enter Tryz.func21, Tryz.ntmps21
          go_wp2_with fail
          refine (cloneU_any _ _ HS.out).mono ?_
          rintro r w1 ⟨rfl, hb1⟩
          have HB1 := Lib.hid hb1; clear hb1
          go_wp2_with fail
          refine (HA.out _ HB1.out).mono ?_
          rintro r w2 ⟨rfl, hb2⟩
          have hB2 := HB1.out.trans (hb2.mono HB1.out.size)
          have HN2 := Lib.hid ((HBN.out.below hB2).alloc (.cells #[.string (bs sc), .string (bs ho), .int .i64 po, .string (bs pa), .string (bs qu), .bool hq] 23))
          have HM2 := Lib.hid (ubk.new w2 #[.string (bs sc), .string (bs ho), .int .i64 po, .string (bs pa), .string (bs qu), .bool hq] 23)
          have hal2 : Below w2.heap.size w2 (w2.alloc (.cells #[.string (bs sc), .string (bs ho), .int .i64 po, .string (bs pa), .string (bs qu), .bool hq] 23)) := (Below.refl _ _).alloc (Nat.le_refl _) _
          have HB3 := Lib.hid (hB2.trans (hal2.mono hB2.size))
          have HSZ2 := Lib.hid hB2.size
          clear hb2 hal2 hB2
          go_wp2_with fail
          refine (HWR.out _ HB3.out).mono ?_
          rintro r w4 ⟨rfl, hb4⟩
          have HB4 := Lib.hid (HB3.out.trans (hb4.mono HB3.out.size))
          have hn4 := HN2.out.below hb4
          have hm4 := HM2.out.below hb4
          clear hb4
          have gc0 := hm4.cell 0 (.string (bs sc)) rfl
          have gf0 := hm4.free 0
          have gc1 := hm4.cell 1 (.string (bs ho)) rfl
          have gf1 := hm4.free 1
          have gc2 := hm4.cell 2 (.int .i64 po) rfl
          have gf2 := hm4.free 2
          have gc3 := hm4.cell 3 (.string (bs pa)) rfl
          have gf3 := hm4.free 3
          have gc4 := hm4.cell 4 (.string (bs qu)) rfl
          have gf4 := hm4.free 4
          have gc5 := hm4.cell 5 (.bool hq) rfl
          have gf5 := hm4.free 5
          have HB5 := Lib.hid (HAL.out.trans (HB4.out.mono HAL.out.size))
          have HN5 := Lib.hid hn4; have HM5 := Lib.hid hm4; clear hn4 hm4
          go_wp2_with fail
          refine (HCK.out _ HB5.out).mono ?_
          rintro r w6 ⟨rfl, hb6⟩
          have hn6 := HN5.out.below hb6
          have hm6 := HM5.out.below hb6
          have HB6 := Lib.hid (HB5.out.trans (hb6.mono HB5.out.size)); clear hb6 gc0 gf0 gc1 gf1 gc2 gf2 gc3 gf3 gc4 gf4 gc5 gf5
          clear hm6
          have nc0 := hn6.cell 0 (.string ⟨#[]⟩) rfl
          have nf0 := hn6.free 0
          have nc1 := hn6.cell 1 (.string ⟨#[]⟩) rfl
          have nf1 := hn6.free 1
          have nc2 := hn6.cell 2 (.int .i64 0) rfl
          have nf2 := hn6.free 2
          have nc3 := hn6.cell 3 (.string ⟨#[]⟩) rfl
          have nf3 := hn6.free 3
          have nc4 := hn6.cell 4 (.string ⟨#[]⟩) rfl
          have nf4 := hn6.free 4
          have nc5 := hn6.cell 5 (.bool false) rfl
          have nf5 := hn6.free 5
          have hq0 := ((((((hn6.set 0 (.string ⟨#[]⟩)).set 1 (.string ⟨#[]⟩)).set 2 (.int .i64 0)).set 3 (.string ⟨#[]⟩)).set 4 (.string ⟨#[]⟩)).set 5 (.bool false))
          simp only [List.setIfInBounds_toArray, List.set_cons_zero, List.set_cons_succ] at hq0
          have HQ0 := Lib.hid hq0; clear hq0
          have HBF : Hid (Below w.heap.size w ((((((w6.setCell ⟨w.heap.size, 0, none⟩ (.string ⟨#[]⟩)).setCell ⟨w.heap.size, 1, none⟩ (.string ⟨#[]⟩)).setCell ⟨w.heap.size, 2, none⟩ (.int .i64 0)).setCell ⟨w.heap.size, 3, none⟩ (.string ⟨#[]⟩)).setCell ⟨w.heap.size, 4, none⟩ (.string ⟨#[]⟩)).setCell ⟨w.heap.size, 5, none⟩ (.bool false))) := ((((((HB6.out.setCell (p := ⟨w.heap.size, 0, none⟩) (Nat.le_refl _) (.string ⟨#[]⟩)).setCell (p := ⟨w.heap.size, 1, none⟩) (Nat.le_refl _) (.string ⟨#[]⟩)).setCell (p := ⟨w.heap.size, 2, none⟩) (Nat.le_refl _) (.int .i64 0)).setCell (p := ⟨w.heap.size, 3, none⟩) (Nat.le_refl _) (.string ⟨#[]⟩)).setCell (p := ⟨w.heap.size, 4, none⟩) (Nat.le_refl _) (.string ⟨#[]⟩)).setCell (p := ⟨w.heap.size, 5, none⟩) (Nat.le_refl _) (.bool false))
          clear hn6
          go_wp2_with fail
          have m0 := HQ0.out.cell 0 (.string ⟨#[]⟩) rfl
          have m1 := HQ0.out.cell 1 (.string ⟨#[]⟩) rfl
          have m2 := HQ0.out.cell 2 (.int .i64 0) rfl
          have m3 := HQ0.out.cell 3 (.string ⟨#[]⟩) rfl
          have m4 := HQ0.out.cell 4 (.string ⟨#[]⟩) rfl
          have m5 := HQ0.out.cell 5 (.bool false) rfl
          refine bodyPost_ret (v := .tuple #[.agg #[.string ⟨#[]⟩, .string ⟨#[]⟩, .int .i64 0, .string ⟨#[]⟩, .string ⟨#[]⟩, .bool false], .int .i64 k]) (by simp [results, Tryz.results21, go_sem, m0, m1, m2, m3, m4, m5]) rfl ⟨?_, HBF.out⟩
          rfl
    · rw [if_neg htt]
      have htx2 : ((bs t).toList == (bs s).toList) = false := by rw [htx]; exact beq_eq_false_iff_ne.2 htt
      clear htx htt
      show Calls Tryz.prog 21 #[.string (bs s)] w fun e w' => e = .returned (.tuple #[.agg #[.string ⟨#[]⟩, .string ⟨#[]⟩, .int .i64 0, .string ⟨#[]⟩, .string ⟨#[]⟩, .bool false], .int .i64 4]) ∧ Below w.heap.size w w'
      go_enter Tryz.func21, Tryz.ntmps21
      go_wp2_with fail
      refine (cloneU_any _ _ HS.out).mono ?_
      rintro r w1 ⟨rfl, hb1⟩
      have HB1 := Lib.hid hb1; clear hb1
      go_wp2_with fail
      refine (HA.out _ HB1.out).mono ?_
      rintro r w2 ⟨rfl, hb2⟩
      have hB2 := HB1.out.trans (hb2.mono HB1.out.size)
      have HN2 := Lib.hid ((HBN.out.below hB2).alloc (.cells #[.string (bs sc), .string (bs ho), .int .i64 po, .string (bs pa), .string (bs qu), .bool hq] 23))
      have HM2 := Lib.hid (ubk.new w2 #[.string (bs sc), .string (bs ho), .int .i64 po, .string (bs pa), .string (bs qu), .bool hq] 23)
      have hal2 : Below w2.heap.size w2 (w2.alloc (.cells #[.string (bs sc), .string (bs ho), .int .i64 po, .string (bs pa), .string (bs qu), .bool hq] 23)) := (Below.refl _ _).alloc (Nat.le_refl _) _
      have HB3 := Lib.hid (hB2.trans (hal2.mono hB2.size))
      have HSZ2 := Lib.hid hB2.size
      clear hb2 hal2 hB2
      go_wp2_with fail
      refine (HWR.out _ HB3.out).mono ?_
      rintro r w4 ⟨rfl, hb4⟩
      have HB4 := Lib.hid (HB3.out.trans (hb4.mono HB3.out.size))
      have hn4 := HN2.out.below hb4
      have hm4 := HM2.out.below hb4
      clear hb4
      have nc0 := hn4.cell 0 (.string ⟨#[]⟩) rfl
      have nf0 := hn4.free 0
      have nc1 := hn4.cell 1 (.string ⟨#[]⟩) rfl
      have nf1 := hn4.free 1
      have nc2 := hn4.cell 2 (.int .i64 0) rfl
      have nf2 := hn4.free 2
      have nc3 := hn4.cell 3 (.string ⟨#[]⟩) rfl
      have nf3 := hn4.free 3
      have nc4 := hn4.cell 4 (.string ⟨#[]⟩) rfl
      have nf4 := hn4.free 4
      have nc5 := hn4.cell 5 (.bool false) rfl
      have nf5 := hn4.free 5
      have hq0 := ((((((hn4.set 0 (.string ⟨#[]⟩)).set 1 (.string ⟨#[]⟩)).set 2 (.int .i64 0)).set 3 (.string ⟨#[]⟩)).set 4 (.string ⟨#[]⟩)).set 5 (.bool false))
      simp only [List.setIfInBounds_toArray, List.set_cons_zero, List.set_cons_succ] at hq0
      have HQ0 := Lib.hid hq0; clear hq0
      have HBF : Hid (Below w.heap.size w ((((((w4.setCell ⟨w.heap.size, 0, none⟩ (.string ⟨#[]⟩)).setCell ⟨w.heap.size, 1, none⟩ (.string ⟨#[]⟩)).setCell ⟨w.heap.size, 2, none⟩ (.int .i64 0)).setCell ⟨w.heap.size, 3, none⟩ (.string ⟨#[]⟩)).setCell ⟨w.heap.size, 4, none⟩ (.string ⟨#[]⟩)).setCell ⟨w.heap.size, 5, none⟩ (.bool false))) := (((((((HAL.out.trans (HB4.out.mono HAL.out.size)).setCell (p := ⟨w.heap.size, 0, none⟩) (Nat.le_refl _) (.string ⟨#[]⟩)).setCell (p := ⟨w.heap.size, 1, none⟩) (Nat.le_refl _) (.string ⟨#[]⟩)).setCell (p := ⟨w.heap.size, 2, none⟩) (Nat.le_refl _) (.int .i64 0)).setCell (p := ⟨w.heap.size, 3, none⟩) (Nat.le_refl _) (.string ⟨#[]⟩)).setCell (p := ⟨w.heap.size, 4, none⟩) (Nat.le_refl _) (.string ⟨#[]⟩)).setCell (p := ⟨w.heap.size, 5, none⟩) (Nat.le_refl _) (.bool false))
      clear hn4
      go_wp2_with fail
      have m0 := HQ0.out.cell 0 (.string ⟨#[]⟩) rfl
      have m1 := HQ0.out.cell 1 (.string ⟨#[]⟩) rfl
      have m2 := HQ0.out.cell 2 (.int .i64 0) rfl
      have m3 := HQ0.out.cell 3 (.string ⟨#[]⟩) rfl
      have m4 := HQ0.out.cell 4 (.string ⟨#[]⟩) rfl
      have m5 := HQ0.out.cell 5 (.bool false) rfl
      refine bodyPost_ret (v := .tuple #[.agg #[.string ⟨#[]⟩, .string ⟨#[]⟩, .int .i64 0, .string ⟨#[]⟩, .string ⟨#[]⟩, .bool false], .int .i64 4]) (by simp [results, Tryz.results21, go_sem, m0, m1, m2, m3, m4, m5]) rfl ⟨?_, HBF.out⟩
      rfl
end Go.Proofs.YtnpiaifkeddjeaaGreatDoor
