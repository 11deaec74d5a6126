/- A text without the escapes of plain bytes: the closure that takes a byte, and the whole. -/
import Derived.Test.YtekaiafhnnpkgaaGreatDoorUriC
import Derived.Deep.RegionLaw
import Derived.Deep.RegionHeld3
import Derived.Deep.AppendLies
namespace Go.Proofs.YtekaiafhnnpkgaaGreatDoor
open Go.RowKit

theorem rend_len (t : UInt8 × Bool) : (rend t).length ≤ 3 := by unfold rend; split <;> simp
theorem rends_len (T : List (UInt8 × Bool)) : (T.flatMap rend).length ≤ 3 * T.length := by
  induction T with
  | nil => simp
  | cons t T ih => have := rend_len t; rw [List.flatMap_cons, List.length_append, List.length_cons]; omega
theorem toks_len : ∀ (n : Nat) (l : List UInt8), l.length ≤ n → (toks l).length ≤ l.length := by
  intro n
  induction n with
  | zero => intro l h; have : l = [] := List.eq_nil_of_length_eq_zero (by omega); subst this; simp [toks]
  | succ n ih =>
    intro l h
    by_cases hl : l = []
    · subst hl; simp [toks]
    · obtain ⟨h1, h2⟩ := fsN_le hl
      rw [toks_step hl, List.length_cons]
      have := ih (l.drop (fsN l)) (by rw [List.length_drop]; omega)
      rw [List.length_drop] at this
      omega

theorem ownB.form {w : World} {base : Nat} {v : Value} {l : List UInt8} (h : ownB w base v l) : ∃ a c, v = .slice a l.length c := by
  rcases h.2 with ⟨rfl, hn⟩ | ⟨g, cap, cur, rfl, _⟩
  · exact ⟨none, 0, by rw [hn]⟩
  · exact ⟨_, _, rfl⟩
/-- what taking a byte leaves behind -/
structure UPost (B base b : Nat) (L : List UInt8) (w w' : World) : Prop where
  out : ∃ v', w'.heap[b]? = some (.cells #[v'] 38 (0, 0)) ∧ ownB w' base v' L
  bel : Below B w w'
theorem hexU_at : ∀ (n : Nat) (h : n < 16), hxU n = (⟨#[48, 49, 50, 51, 52, 53, 54, 55, 56, 57, 65, 66, 67, 68, 69, 70]⟩ : ByteArray)[n]'h := by decide
theorem ownB.noBlock {w : World} {base : Nat} {v : Value} {l : List UInt8} (h : ownB w base v l) : ∀ k, k < base → v.ownBlock ≠ some k := fun k hk e => by have := h.ge k e; omega
theorem unes_fin {B base b : Nat} {L X : List UInt8} {w w3 : World} {O : Obj} {v v' : Value} (hB : B ≤ b) (hb : b < base) (hbase : base ≤ w.heap.size)
    (hN : ∀ k, k < base → v.ownBlock ≠ some k) (H1 : w.heap[b]? = some (.cells #[v] 38 (0, 0))) (hgrow : (w.drew.alloc O).grownBy w3 v.ownBlock)
    (hown3 : w3.ownsRow base 5 1 v' (L.length + X.length) (Lib.byteCells L ++ Lib.byteCells X)) : UPost B base b (L ++ X) w (w3.setCell ⟨b, 0, none⟩ v') := by
  have keep3 : ∀ k, k < base → w3.heap[k]? = w.heap[k]? := fun k hk => by
    rw [hgrow.block k (by simp; omega) (fun e => hN k hk e.symm), Below.heap_alloc _ _ _ (by simp; omega)]
    rfl
  have bel3 : Below base w w3 := ⟨hgrow.os, hgrow.tape, hgrow.output, by have := hgrow.size; simp at this; omega, keep3⟩
  refine ⟨⟨v', one_setCell ((keep3 b hb).trans H1), ?_⟩, (bel3.mono (by omega)).setCell hB _⟩
  refine ownB.setLow (a := ⟨b, 0, none⟩) ?_ hb _
  show World.ownsRow _ _ _ _ _ _ _
  rw [List.length_append, Lib.byteCells_append]
  exact hown3

set_option maxHeartbeats 2000000 in
set_option maxRecDepth 100000 in
theorem unesC_esc (B base b : Nat) (c : UInt8) (v : Value) (L : List UInt8) (w : World) (hc : plainI (c.toNat : Int) = false)
    (h1 : w.heap[b]? = some (.cells #[v] 38 (0, 0))) (hown : ownB w base v L) (hB : B ≤ b) (hb : b < base) (hbase : base ≤ w.heap.size) (hl : L.length ≤ 1000000000) :
    Calls Tryz.prog 52 #[.int .u8 (c.toNat : Int), .bool true, .pointer (some ⟨b, 0, none⟩)] w fun r w' => r = .returned (.bool true) ∧ UPost B base b (L ++ rend (c, true)) w w' := by
  have hp := plain_any (c.toNat : Int) w
  rw [hc] at hp
  have HP := Lib.hid hp; clear hp
  have c1 := cell_of_one h1
  have f1 := free_of_one h1
  go_enter Tryz.func52, Tryz.ntmps52
  go_wp2_with (go_at_call 53; refine HP.out.mono ?_; rintro e w' ⟨rfl, rfl⟩)
  obtain ⟨i0, hi0, hz0, hz1, hz2⟩ := info_parts infoB
  obtain ⟨va, vc, rfl⟩ := ownB.form hown
  have hlt : c.toNat < 256 := c.toNat_lt
  have hq : Int.tdiv (c.toNat : Int) 16 = ((c.toNat / 16 : Nat) : Int) := by rw [Int.tdiv_eq_ediv_of_nonneg (by omega)]; omega
  have hr : Int.tmod (c.toNat : Int) 16 = ((c.toNat % 16 : Nat) : Int) := by rw [Int.tmod_eq_emod_of_nonneg (by omega)]; omega
  have hq1 : c.toNat / 16 < 16 := by omega
  have hqw : IntKind.u8.wrap ((c.toNat / 16 : Nat) : Int) = ((c.toNat / 16 : Nat) : Int) := by rw [IntKind.wrap_u8]; omega
  have hr1 : c.toNat % 16 < 16 := by omega
  have hrd : rend (c, true) = [37, hxU (c.toNat / 16), hxU (c.toNat % 16)] := by
    have h0 : plB c = false := hc
    simp [rend, h0]
  clear hc
  generalize c.toNat / 16 = q at *
  generalize c.toNat % 16 = r at *
  have hq2 : (q : Int) < 16 := by omega
  have hr2 : (r : Int) < 16 := by omega
  have HO := Lib.hid hown; clear hown
  have hX : Lib.byteCells [37, hxU q, hxU r] = [.int .u8 37, .int .u8 ((⟨#[48, 49, 50, 51, 52, 53, 54, 55, 56, 57, 65, 66, 67, 68, 69, 70]⟩ : ByteArray)[q]'hq1).toNat, .int .u8 ((⟨#[48, 49, 50, 51, 52, 53, 54, 55, 56, 57, 65, 66, 67, 68, 69, 70]⟩ : ByteArray)[r]'hr1).toNat] := by
    rw [hexU_at q hq1, hexU_at r hr1]; rfl
  have HX := Lib.hid hX; clear hX
  have HR := Lib.hid hrd; clear hrd
  have HN := Lib.hid HO.out.noBlock
  have H1 := Lib.hid h1; clear h1
  have ca : ∀ O, (w.alloc O).cell? ⟨b, 0, none⟩ = some (.slice va L.length vc) := fun O => (((Below.refl w.heap.size w).alloc (Nat.le_refl _) O).cell (p := ⟨b, 0, none⟩) (by show b < w.heap.size; omega)).trans c1
  go_region_law (first | (refine step_append_lies _ (by rfl) _ _ _ (by rfl) base 5 i0 _ 1 1 Tryz.underlying38 hi0 hz0 hz1 hz2 rfl (by omega) (.slice va L.length vc) L.length (Lib.byteCells L) (by rfl) (HO.out.drew.alloc _) ⟨w.heap.size, 0, none⟩ 3 3 _ (by rfl) (by rfl) (World.news_of_block (t := 5) (fr := (0, 0)) (heap_alloc_new w.drew _)) (by simp [Value.oneCell']) (by omega) (by unfold maxLen; omega) (by omega) (by simp; omega) (w.heap.size + 1) (by simp) ?_; intro gg cap w3 hown3 hgrow hat hlt3; have hfz : w3.frozen? ⟨b, 0, none⟩ = false := (hgrow.frozen_far _ (by simp; omega) (Ne.symm (HN.out b hb))).trans ((((Below.refl w.drew.heap.size w.drew).alloc (Nat.le_refl _) _).frozen (p := ⟨b, 0, none⟩) (by show b < w.heap.size; omega)).trans f1); have hcz : w3.cell? ⟨b, 0, none⟩ = some (.slice va L.length vc) := (hgrow.cell_far _ (by simp; omega) (Ne.symm (HN.out b hb))).trans ((((Below.refl w.drew.heap.size w.drew).alloc (Nat.le_refl _) _).cell (p := ⟨b, 0, none⟩) (by show b < w.heap.size; omega)).trans c1)))
  all_goals go_wp2_with fail
  all_goals go_ret
  all_goals rw [← HX.out] at hown3
  all_goals exact ⟨rfl, by rw [HR.out]; exact unes_fin (X := [37, hxU q, hxU r]) hB hb hbase HN.out H1.out hgrow hown3⟩

theorem unes_fin1 {B base b : Nat} {L : List UInt8} {c : UInt8} {w w3 : World} {v v' : Value} (hB : B ≤ b) (hb : b < base) (H1 : w.heap[b]? = some (.cells #[v] 38 (0, 0)))
    (ho : ownB w3 base v' (L ++ [c])) (hbel : Below B w w3) (hk : ∀ k, k < base → w3.heap[k]? = w.heap[k]?) : UPost B base b (L ++ [c]) w (w3.setCell ⟨b, 0, none⟩ v') :=
  ⟨⟨v', one_setCell ((hk b hb).trans H1), ownB.setLow (a := ⟨b, 0, none⟩) ho hb _⟩, hbel.setCell hB _⟩
set_option maxHeartbeats 2000000 in
set_option maxRecDepth 100000 in
theorem unesC_one (B base b : Nat) (c : UInt8) (e : Bool) (v : Value) (L : List UInt8) (w : World) (hc : (e && !plainI (c.toNat : Int)) = false)
    (h1 : w.heap[b]? = some (.cells #[v] 38 (0, 0))) (hown : ownB w base v L) (hB : B ≤ b) (hb : b < base) (hbase : base ≤ w.heap.size) (hl : L.length ≤ 1000000000) :
    Calls Tryz.prog 52 #[.int .u8 (c.toNat : Int), .bool e, .pointer (some ⟨b, 0, none⟩)] w fun r w' => r = .returned (.bool true) ∧ UPost B base b (L ++ rend (c, e)) w w' := by
  have hp := plain_any (c.toNat : Int) w
  have hrd : rend (c, e) = [c] := by
    have h0 : (e && !plB c) = false := hc
    unfold rend
    rw [if_neg (by rw [h0]; decide)]
  generalize plainI (c.toNat : Int) = x at *
  have HP := Lib.hid hp; clear hp
  have c1 := cell_of_one h1
  have f1 := free_of_one h1
  have HO := Lib.hid hown; have H1 := Lib.hid h1; have HR := Lib.hid hrd; clear hown h1 hrd
  have HLN : Hid (L.length + 1 ≤ 140737488355328) := by show _ ≤ _; omega
  cases e
  · go_enter Tryz.func52, Tryz.ntmps52
    go_wp2_with (at_builtin; refine wpList_appB rfl (.tmp 21) (.tmp 23) rfl base B v L _ c rfl HO.out (Below.refl B w) (by omega) hbase rfl rfl HLN.out ?_; intro v3 w3 HO3 HB3 HK3; obtain ⟨va3, vc3, rfl⟩ := HO3.out.form; have hcz : w3.cell? ⟨b, 0, none⟩ = some v := cell_of_one ((HK3.out b hb).trans H1.out); have hfz : w3.frozen? ⟨b, 0, none⟩ = false := free_of_one ((HK3.out b hb).trans H1.out))
    go_ret
    exact ⟨rfl, by rw [HR.out]; exact unes_fin1 hB hb H1.out (by have h := HO3.out; rwa [show (L ++ [c]).length = L.length + 1 from by simp] at h) HB3.out HK3.out⟩
  · cases x
    · exact absurd hc (by decide)
    · go_enter Tryz.func52, Tryz.ntmps52
      go_wp2_with (first | (go_at_call 53; refine HP.out.mono ?_; rintro e w' ⟨rfl, rfl⟩) | (at_builtin; refine wpList_appB rfl (.tmp 21) (.tmp 23) rfl base B v L _ c rfl HO.out (Below.refl B w) (by omega) hbase rfl rfl HLN.out ?_; intro v3 w3 HO3 HB3 HK3; obtain ⟨va3, vc3, rfl⟩ := HO3.out.form; have hcz : w3.cell? ⟨b, 0, none⟩ = some v := cell_of_one ((HK3.out b hb).trans H1.out); have hfz : w3.frozen? ⟨b, 0, none⟩ = false := free_of_one ((HK3.out b hb).trans H1.out)))
      go_ret
      exact ⟨rfl, by rw [HR.out]; exact unes_fin1 hB hb H1.out (by have h := HO3.out; rwa [show (L ++ [c]).length = L.length + 1 from by simp] at h) HB3.out HK3.out⟩

/-- what the walk of a text has put together of the bytes ahead -/
structure UIn (w0 : World) (T : List (UInt8 × Bool)) (W : World) : Prop where
  bel : Below w0.heap.size w0 W
  lt : w0.heap.size + 1 ≤ W.heap.size
  own : ∃ v, W.heap[w0.heap.size]? = some (.cells #[v] 38 (0, 0)) ∧ ownB W (w0.heap.size + 1) v (T.flatMap rend)
theorem ownB.below {B : Nat} {w w' : World} {base : Nat} {v : Value} {l : List UInt8} (h : ownB w base v l) (hb : Below B w w') (hB : w.heap.size ≤ B) : ownB w' base v l := by
  refine ⟨h.1, ?_⟩
  rcases h.2 with hn | ⟨g, cap, cur, hv, hbg, hg, r⟩
  · exact .inl hn
  · exact .inr ⟨g, cap, cur, hv, hbg, by rw [hb.block g (Nat.lt_of_lt_of_le (Array.getElem?_eq_some_iff.1 hg).1 hB)]; exact hg, r⟩

set_option maxHeartbeats 1000000 in
set_option maxRecDepth 100000 in
theorem unescaped_any (l : List UInt8) (w : World) (he : EnvU w) (hl : l.length ≤ 100000000) :
    Calls Tryz.prog 29 #[.string (bs l)] w fun r w' => r = .returned (.string (bs (undo l))) ∧ Below w.heap.size w w' := by
  have hsc := scanC_any l 52 w.heap.size (fun _ => true) (UIn w) (enters_of Tryz.func52 (by kernel_rfl) rfl)
    (fun T W W' h hb => by
      obtain ⟨v, h1, h2⟩ := h.own
      exact ⟨h.bel.trans (hb.mono h.bel.size), Nat.le_trans h.lt hb.size, v, (hb.block _ (by have := h.lt; omega)).trans h1, h2.below hb (Nat.le_refl _)⟩)
    (fun _ _ h => he.below h.bel (Nat.le_refl _))
    (fun T c e W hT h => by
      obtain ⟨v, h1, h2⟩ := h.own
      have hlen : (T.flatMap rend).length ≤ 1000000000 := by
        obtain ⟨R, hR⟩ := hT
        have a1 := rends_len T
        have a2 := toks_len l.length l (Nat.le_refl _)
        rw [hR, List.length_append] at a2
        omega
      have fin : ∀ r W', (r = Ending.returned (.bool true) ∧ UPost w.heap.size (w.heap.size + 1) w.heap.size (T.flatMap rend ++ rend (c, e)) W W') → (r = Ending.returned (.bool true) ∧ UIn w (T ++ [(c, e)]) W') := by
        rintro r W' ⟨h3, h4⟩
        obtain ⟨v', h5, h6⟩ := h4.out
        refine ⟨h3, h.bel.trans h4.bel, Nat.le_trans h.lt h4.bel.size, v', h5, ?_⟩
        rw [List.flatMap_append, List.flatMap_singleton]
        exact h6
      cases hx : (e && !plainI (c.toNat : Int))
      · exact (unesC_one w.heap.size (w.heap.size + 1) w.heap.size c e v _ W hx h1 h2 (Nat.le_refl _) (by omega) h.lt hlen).mono fin
      · rw [Bool.and_eq_true] at hx
        obtain ⟨rfl, hx⟩ := hx
        exact (unesC_esc w.heap.size (w.heap.size + 1) w.heap.size c v _ W (by simpa using hx) h1 h2 (Nat.le_refl _) (by omega) h.lt hlen).mono fin)
    (w.alloc (.cells #[.slice none 0 0] 38)) ⟨(Below.refl _ _).alloc (Nat.le_refl _) _, by simp, .slice none 0 0, heap_alloc_new w _, ownB_nil _ _⟩ (by omega)
  have HS := Lib.hid hsc; clear hsc he
  have HU : Hid (undo l = (toks l).flatMap rend) := rfl
  have hall : (toks l).all (fun _ => true) = true := by rw [List.all_eq_true]; exact fun _ _ => rfl
  rw [HU.out]
  generalize toks l = T at *
  clear HU
  go_enter Tryz.func29, Tryz.ntmps29
  go_wp2_with fail
  refine HS.out.mono ?_
  rintro r w1 ⟨rfl, -, hok⟩
  have hu := hok hall
  obtain ⟨v, h1, h2⟩ := hu.own
  have hc := cell_of_one h1
  have hbk := h2.back
  have HB := Lib.hid hu.bel; clear hu h1 h2 hok hall HS
  go_wp2_with fail
  go_ret
  exact ⟨rfl, HB.out⟩
end Go.Proofs.YtekaiafhnnpkgaaGreatDoor
