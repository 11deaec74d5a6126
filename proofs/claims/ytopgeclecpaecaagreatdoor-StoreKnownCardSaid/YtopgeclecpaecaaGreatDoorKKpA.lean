/- Texts of the store: small letters, a key and a Vary told by one text, the key of such a text. -/
import Derived.Test.YtopgeclecpaecaaGreatDoorKFieldsA
import Derived.Test.YtopgeclecpaecaaGreatDoorKFieldsG
import Derived.Test.YtopgeclecpaecaaGreatDoorKKp0
import Derived.Test.YtopgeclecpaecaaGreatDoorKPlain
import Derived.Test.YtopgeclecpaecaaGreatDoorKTick
import Derived.Shelf.Abstract
import Derived.Deep.LoopGhost
import Derived.WalkMore
namespace Go.Proofs.YtopgeclecpaecaaGreatDoor
open Go.RowKit

/-- nothing but block b and rows of bytes turns -/
def Oth (b : Nat) (w w' : World) : Prop := ∀ k, k < w.heap.size → k ≠ b → (∀ C fr, w.heap[k]? ≠ some (.cells C 5 fr)) → w'.heap[k]? = w.heap[k]?
theorem Oth.set {b : Nat} {w w' : World} (h : Oth b w w') {o : Nat} (v : Value) : Oth b w (w'.setCell ⟨b, o, none⟩ v) := fun k hk hb hc => (Below.heap_setCell _ _ _ _ hb).trans (h k hk hb hc)
theorem Oth.low {b : Nat} {w w' : World} (h : Below w.heap.size w w') : Oth b w w' := fun k hk _ _ => h.block k hk
theorem Oth.trans {b : Nat} {w w' w'' : World} (h : Oth b w w') (hz : w.heap.size ≤ w'.heap.size) (k : Oth b w' w'') : Oth b w w'' := fun i hi hb hc =>
  (k i (Nat.lt_of_lt_of_le hi hz) hb (fun C fr => by rw [h i hi hb hc]; exact hc C fr)).trans (h i hi hb hc)
theorem oth_grown {b B n : Nat} {w w1 w2 : World} {v : Value} {xs : List Value} (h1 : ∀ k, k ≠ b → w1.heap[k]? = w.heap[k]?) (hz : w.heap.size ≤ w1.heap.size) (ho : w1.ownsRow B 5 1 v n xs) (hg : w1.grownBy w2 v.ownBlock) : Oth b w w2 := fun k hk hb hc => by
  rw [hg.block k (by omega) ?_, h1 k hb]
  intro e
  rcases ho.2 with ⟨rfl, _⟩ | ⟨g, cap, cur, rfl, _, hg, _⟩
  · cases e
  · cases e
    rw [h1 _ hb] at hg
    exact hc _ _ hg
set_option maxHeartbeats 1000000 in
set_option maxRecDepth 100000 in
theorem copyCheckK (B b : Nat) (bs' : List Value) (w : World) (h : Lib.IsBuilder 80 5 B b bs' w) :
    Calls Tryz.prog 64 #[.pointer (some ⟨b, 0, none⟩)] w fun e w' => e = .returned (.tuple #[]) ∧ Lib.BuilderAt 80 5 B b (.pointer (some ⟨b, 0, none⟩)) bs' w' ∧ Below B w w' ∧ (∀ k, k ≠ b → w'.heap[k]? = w.heap[k]?) := by
  obtain ⟨j, hj, hjs⟩ := Option.map_eq_some_iff.1 sizeBl
  rcases h with h | h
  · have h0 := h.cell0
    have hfz := h.frozen0
    have hto := Lib.run_to_unsafe (P := Tryz.prog) w (⟨b, 0, none⟩ : Addr) Tryz.underlying77 Tryz.underlying126 hj (by rw [hjs]; decide) h.shape (Nat.zero_lt_succ 1)
    have hne : (callFunc 78 #[.pointer (some ⟨b, 0, none⟩)]).run Tryz.prog w = .ok (.value (.pointer (some ⟨b, 0, none⟩))) w := by
      rw [run_callFunc_extern Tryz.func78 (by kernel_rfl) (by kernel_rfl) (by kernel_rfl) (e := Extern.AbiNoEscape.same) (by kernel_rfl), Lib.run_noEscape]
      rfl
    have hfr := Lib.run_from_unsafe (P := Tryz.prog) w (⟨b, 0, none⟩ : Addr) Tryz.underlying126 Tryz.underlying77 hj h.shape liesBl
    have HH := Lib.hid h; clear h
    go_enter Tryz.func64, Tryz.ntmps64
    go_wp2_with (simp only [hne])
    go_end0
    exact ⟨rfl, HH.out.used _, (Below.refl B w).setCell (p := ⟨b, 0, none⟩) HH.out.1 _, fun k hk => Below.heap_setCell _ _ _ _ hk⟩
  · have h0 := h.cell0
    have HH := Lib.hid h; clear h
    go_enter Tryz.func64, Tryz.ntmps64
    go_wp2
    rw [Lib.run_neq_ptr_same _ _ Tryz.underlying77 hj]
    go_wp2
    go_end0
    exact ⟨rfl, HH.out, Below.refl B _, fun _ _ => rfl⟩

set_option maxHeartbeats 1000000 in
set_option maxRecDepth 100000 in
theorem writeK (B b : Nat) (l s : List UInt8) (w : World) (h : bldr w B b l) (hlen : l.length + s.length ≤ 140737488355328) (hBw : B ≤ w.heap.size) :
    Calls Tryz.prog 39 #[.pointer (some ⟨b, 0, none⟩), .string (bs s)] w fun e w' => e = .returned (.tuple #[.int .i64 s.length, .nilIface]) ∧ bldr w' B b (l ++ s) ∧ Below B w w' ∧ Oth b w w' := by
  obtain ⟨i0, hi, hz0, hz1, hz2⟩ := info_parts infoB
  have hcc := copyCheckK B b (Lib.byteCells l) w h
  have HCC := Lib.hid hcc; clear hcc h
  go_enter Tryz.func39, Tryz.ntmps39
  go_wp2_with (go_at_call 64; refine HCC.out.mono ?_)
  rintro e w1 ⟨rfl, h1, hb1, hk1⟩
  have HK1 := Lib.hid hk1; clear hk1
  obtain ⟨hB, v, hbk, hown, hne⟩ := h1
  have hl := Lib.byteCells_length l
  have hsz : (bs s).size = s.length := bs_size s
  have hwz := hb1.size
  have hb1z := hb1.size
  have c0 : w1.cell? ⟨b, 0, none⟩ = some (.pointer (some ⟨b, 0, none⟩)) := by rw [Lib.cell_of_heap hbk]; rfl
  have c1 : w1.cell? ⟨b, 1, none⟩ = some v := by rw [Lib.cell_of_heap hbk]; rfl
  have HO := Lib.hid hown; have HK := Lib.hid hbk; have HB1 := Lib.hid hb1; have HNE := Lib.hid hne
  have HL := Lib.hid hl; have HSZ := Lib.hid hsz
  clear hown hbk hb1 hne hl hsz
  go_wp2_with (at_builtin; refine Lib.wpList_append_own_string _ rfl _ _ 78 9 rfl B 5 i0 Tryz.underlying78 Tryz.underlying9 hi hz0 hz1 hz2 _ _ _ rfl HO.out (bs s) rfl ?c3 ?c4 ?c5 ?_)
  case c3 => rw [HL.out, HSZ.out]; unfold maxLen; omega
  case c4 => rw [HL.out, HSZ.out]; omega
  case c5 => omega
  intro v' w2 hown' hgrow _
  have hlt : b < w1.heap.size := (Array.getElem?_eq_some_iff.1 HK.out).1
  have hb2 : w2.heap[b]? = some (.cells #[.pointer (some ⟨b, 0, none⟩), v] 80 (0, 0)) := by
    rw [hgrow.block b hlt (fun e => HNE.out e.symm)]
    exact HK.out
  have d0 : w2.cell? ⟨b, 0, none⟩ = some (.pointer (some ⟨b, 0, none⟩)) := by rw [Lib.cell_of_heap hb2]; rfl
  have d1 : w2.cell? ⟨b, 1, none⟩ = some v := by rw [Lib.cell_of_heap hb2]; rfl
  have f1 : w2.frozen? ⟨b, 1, none⟩ = false := Lib.frozen_of_heap hb2 1
  obtain ⟨ao, n', cap, rfl⟩ : ∃ ao n' cap, v' = .slice ao n' cap := by
    rcases hown'.2 with ⟨hv, _⟩ | ⟨g, cap, cur, hv, _⟩
    · exact ⟨_, _, _, hv⟩
    · exact ⟨_, _, _, hv⟩
  have HOT : Hid (Oth b w w2) := oth_grown HK1.out hb1z HO.out hgrow
  have HB2 : Hid (Below B w w2) := HB1.out.grown hgrow (by omega) (fun k hk => (HO.out.lt k hk).1)
  have HK2 := Lib.hid hb2; have HO2 := Lib.hid hown'
  clear hb2 hown' hgrow
  go_wp2
  go_ret2
  refine ⟨by show Ending.returned (.tuple #[.int .i64 ((bs s).size : Int), .nilIface]) = _; rw [HSZ.out], .inr ?_, HB2.out.setCell (p := ⟨b, 1, none⟩) hB _, HOT.out.set _⟩
  refine Lib.BuilderAt.put (T := 80) (e := 5) hB HK2.out (bs' := Lib.byteCells (l ++ s)) ?_ (by decide)
  have h := HO2.out
  rw [Lib.byteCells_append, List.length_append]
  have e : Lib.strCells (bs s) = Lib.byteCells s := by simp [Lib.strCells, Lib.byteCells]
  rw [e] at h
  rw [Lib.byteCells_length s]
  exact h

set_option maxHeartbeats 1000000 in
set_option maxRecDepth 100000 in
theorem writeB_any (B b : Nat) (l : List UInt8) (c : UInt8) (w : World) (h : bldr w B b l) (hlen : l.length + 1 ≤ 140737488355328) (hBw : B ≤ w.heap.size) :
    Calls Tryz.prog 56 #[.pointer (some ⟨b, 0, none⟩), .int .u8 (c.toNat : Int)] w fun e w' => e = .returned .nilIface ∧ bldr w' B b (l ++ [c]) ∧ Below B w w' ∧ Oth b w w' := by
  obtain ⟨i0, hi, hz0, hz1, hz2⟩ := info_parts infoB
  have hcc := copyCheckK B b (Lib.byteCells l) w h
  have HCC := Lib.hid hcc; clear hcc h
  generalize hcn : (c.toNat : Int) = cn
  have HCN := Lib.hid hcn; clear hcn
  go_enter Tryz.func56, Tryz.ntmps56
  go_wp2_with (go_at_call 64; refine HCC.out.mono ?_)
  rintro e w1 ⟨rfl, h1, hb1, hk1⟩
  have HK1 := Lib.hid hk1; clear hk1
  obtain ⟨hB, v, hbk, hown, hne⟩ := h1
  have hl := Lib.byteCells_length l
  have hwz := hb1.size
  have hb1z := hb1.size
  have c0 : w1.cell? ⟨b, 0, none⟩ = some (.pointer (some ⟨b, 0, none⟩)) := by rw [Lib.cell_of_heap hbk]; rfl
  have c1 : w1.cell? ⟨b, 1, none⟩ = some v := by rw [Lib.cell_of_heap hbk]; rfl
  have HO := Lib.hid hown; have HK := Lib.hid hbk; have HB1 := Lib.hid hb1; have HNE := Lib.hid hne
  have HL := Lib.hid hl
  clear hown hbk hb1 hne hl
  go_wp2_with (at_builtin; refine wpList_append_own _ rfl _ _ 78 rfl B 5 i0 (.int .u8 0) 1 1 Tryz.underlying78 hi hz0 hz1 hz2 rfl (by decide) _ _ _ rfl (World.ownsRow.alloc HO.out _) ⟨w1.heap.size, 0, none⟩ 1 1 [.int .u8 cn] rfl rfl ?d1 ?d2 ?d3 ?d4 ?d5 ?_)
  case d1 =>
    intro j v hj
    match j, hj with
    | 0, hj => simp at hj; subst hj; simp [Addr.add]
  case d2 => intro v hv; simp at hv; subst hv; rfl
  case d3 => rw [HL.out]; unfold maxLen; omega
  case d4 => rw [HL.out]; omega
  case d5 => simp; omega
  intro v' w2 hown' hgrow _
  have hlt : b < w1.heap.size := (Array.getElem?_eq_some_iff.1 HK.out).1
  have hb2 : w2.heap[b]? = some (.cells #[.pointer (some ⟨b, 0, none⟩), v] 80 (0, 0)) := by
    rw [hgrow.block b (by simp; omega) (fun e => HNE.out e.symm), Below.heap_alloc _ _ _ hlt]
    exact HK.out
  have d0 : w2.cell? ⟨b, 0, none⟩ = some (.pointer (some ⟨b, 0, none⟩)) := by rw [Lib.cell_of_heap hb2]; rfl
  have d1 : w2.cell? ⟨b, 1, none⟩ = some v := by rw [Lib.cell_of_heap hb2]; rfl
  have f1 : w2.frozen? ⟨b, 1, none⟩ = false := Lib.frozen_of_heap hb2 1
  obtain ⟨ao, n', cap, rfl⟩ : ∃ ao n' cap, v' = .slice ao n' cap := by
    rcases hown'.2 with ⟨hv, _⟩ | ⟨g, cap, cur, hv, _⟩
    · exact ⟨_, _, _, hv⟩
    · exact ⟨_, _, _, hv⟩
  have HOT : Hid (Oth b w w2) := fun k hk hb hc => by
    have h0 := HK1.out k hb
    rw [hgrow.block k (by simp; omega) ?_, Below.heap_alloc _ _ _ (by omega), h0]
    intro e
    rcases HO.out.2 with ⟨rfl, _⟩ | ⟨g, cap, cur, rfl, _, hg, _⟩
    · cases e
    · cases e
      rw [h0] at hg
      exact hc _ _ hg
  have HB2 : Hid (Below B w w2) := (HB1.out.alloc (by omega) _).grown hgrow (by simp; omega) (fun k hk => (HO.out.lt k hk).1)
  have HK2 := Lib.hid hb2; have HO2 := Lib.hid hown'
  clear hb2 hown' hgrow
  go_wp2
  go_ret
  refine ⟨rfl, .inr ?_, HB2.out.setCell (p := ⟨b, 1, none⟩) hB _, HOT.out.set _⟩
  refine Lib.BuilderAt.put (T := 80) (e := 5) hB HK2.out (bs' := Lib.byteCells (l ++ [c])) ?_ (by decide)
  have h := HO2.out
  rw [Lib.byteCells_append, List.length_append]
  have e : [Value.int .u8 cn] = Lib.byteCells [c] := by rw [← HCN.out]; simp [Lib.byteCells]
  rw [e] at h
  exact h
theorem strB_any (B b : Nat) (l : List UInt8) (w : World) (h : bldr w B b l) (hBw : B ≤ w.heap.size) :
    Calls Tryz.prog 40 #[.pointer (some ⟨b, 0, none⟩)] w fun e w' => e = .returned (.string (bs l)) ∧ Below B w w' :=
  Tryz.Builder_String_any B b l w h hBw

theorem u8_add32 (c : UInt8) (h : c.toNat ≤ 90) : IntKind.u8.wrap ((c.toNat : Int) + 32) = ((c + 32).toNat : Int) := by
  rw [IntKind.wrap_u8]
  have e : (c + 32).toNat = c.toNat + 32 := by
    rw [UInt8.toNat_add]
    have : (32 : UInt8).toNat = 32 := rfl
    omega
  rw [e]; omega
set_option maxHeartbeats 1000000 in
set_option maxRecDepth 100000 in
/-- small letters -/
theorem klower_any (s : ByteArray) (w : World) (hs : s.size ≤ 100000) :
    Calls Tryz.prog 41 #[.string s] w fun e w' => e = .returned (.string (bs (lower s.data.toList))) ∧ Below w.heap.size w w' := by
  have HBL := Lib.hid (bldr_new w w.heap.size (Nat.le_refl _))
  have HAL : Hid (Below w.heap.size w (w.alloc (.cells #[.pointer none, .slice none 0 0] 80))) := (Below.refl _ _).alloc (Nat.le_refl _) _
  have HSL : Hid (s.data.toList.length = s.size) := rfl
  go_enter Tryz.func41, Tryz.ntmps41
  go_wp2_with fail
  go_loopg [8] s.size (fun c i wr => ∃ k : Nat, i = .int .i64 k ∧ k + c = s.size ∧ Hid (bldr wr w.heap.size w.heap.size (lower (s.data.toList.take k)) ∧ Below w.heap.size w wr))
  case atStart => exact ⟨0, rfl, by omega, HBL.out, HAL.out⟩
  case round =>
    obtain ⟨k, rfl, hk, hr⟩ := hrel
    have HBD := Lib.hid hr.out.1; have HB := Lib.hid hr.out.2
    clear hr
    by_cases hend : k < s.size
    · have hlt : (k : Int) < (s.size : Int) := by omega
      have HT : Hid (lower (s.data.toList.take (k + 1)) = lower (s.data.toList.take k) ++ [lowB s[k]]) := by
        show _ = _
        rw [take_snoc s k hend]; simp [lower]
      have HLL : Hid ((lower (s.data.toList.take k)).length + 1 ≤ 140737488355328) := by show _ ≤ _; rw [lower_len, List.length_take, HSL.out]; omega
      have HK : Hid (gk - 1 < gk ∧ k + 1 + (gk - 1) = s.size ∧ ((k : Int) + 1 + 9223372036854775808) % 18446744073709551616 - 9223372036854775808 = ((k + 1 : Nat) : Int)) := ⟨by omega, by omega, by omega⟩
      have HBZ : Hid (w.heap.size ≤ wr.heap.size) := HB.out.size
      have HJJ : Hid (k < 1000000) := by show _ < _; omega
      clear hk
      by_cases hc : 65 ≤ s[k].toNat ∧ s[k].toNat ≤ 90
      · have h65 : (65 : Int) ≤ (s[k].toNat : Int) := by omega
        have h90 : (s[k].toNat : Int) ≤ 90 := by omega
        have h32 := u8_add32 s[k] hc.2
        have HW := Lib.hid (writeB_any w.heap.size w.heap.size _ (s[k] + 32) wr HBD.out HLL.out HBZ.out)
        have HLB : Hid (lowB s[k] = s[k] + 32) := if_pos hc
        clear hc
        go_wp2_with fail
        refine HW.out.mono ?_
        rintro e w1 ⟨rfl, hbd, hb, -⟩
        go_wp2_with fail
        go_roundg (gk - 1)
        case measure => exact HK.out.1
        case rel => exact ⟨k + 1, by have h1 := HJJ.out; go_num, HK.out.2.1, by rw [HT.out, HLB.out]; exact hbd, HB.out.trans hb⟩
      · have HW := Lib.hid (writeB_any w.heap.size w.heap.size _ s[k] wr HBD.out HLL.out HBZ.out)
        have HLB : Hid (lowB s[k] = s[k]) := if_neg hc
        by_cases h65 : 65 ≤ s[k].toNat
        · have h65' : (65 : Int) ≤ (s[k].toNat : Int) := by omega
          have h90 : decide ((s[k].toNat : Int) ≤ 90) = false := decide_eq_false (by omega)
          clear hc h65
          go_wp2_with fail
          refine HW.out.mono ?_
          rintro e w1 ⟨rfl, hbd, hb, -⟩
          go_wp2_with fail
          go_roundg (gk - 1)
          case measure => exact HK.out.1
          case rel => exact ⟨k + 1, by have h1 := HJJ.out; go_num, HK.out.2.1, by rw [HT.out, HLB.out]; exact hbd, HB.out.trans hb⟩
        · have h65' : decide ((65 : Int) ≤ (s[k].toNat : Int)) = false := decide_eq_false (by omega)
          clear hc h65
          go_wp2_with fail
          refine HW.out.mono ?_
          rintro e w1 ⟨rfl, hbd, hb, -⟩
          go_wp2_with fail
          go_roundg (gk - 1)
          case measure => exact HK.out.1
          case rel => exact ⟨k + 1, by have h1 := HJJ.out; go_num, HK.out.2.1, by rw [HT.out, HLB.out]; exact hbd, HB.out.trans hb⟩
    · have HE : Hid (s.data.toList.take k = s.data.toList) := List.take_of_length_le (by have := HSL.out; omega)
      have HST := Lib.hid (strB_any w.heap.size w.heap.size _ wr HBD.out HB.out.size)
      clear hk
      go_wp2_with fail
      refine HST.out.mono ?_
      rintro e w1 ⟨rfl, hb⟩
      go_wp2_with fail
      go_ret
      exact ⟨by rw [HE.out]; rfl, HB.out.trans hb⟩
/-- what the store's walks ask of the library's variables -/
def KE (w : World) : Prop := Tab w ∧ ∃ m, w.cell? ⟨0, 0, none⟩ = some (.int .i64 m)
theorem KE.bel {w w' : World} (h : KE w) (hb : Below w.heap.size w w') : KE w' := by
  obtain ⟨h1, m, h2⟩ := h
  refine ⟨h1.below hb (Nat.le_refl _), m, (hb.cell (p := ⟨0, 0, none⟩) ?_).trans h2⟩
  rcases Nat.lt_or_ge 0 w.heap.size with h | h
  · exact h
  · unfold World.cell? at h2
    rw [Array.getElem?_eq_none h] at h2
    cases h2
theorem KE.below {B : Nat} {w w' : World} (h : KE w) (hb : Below B w w') (hB : w.heap.size ≤ B) : KE w' := h.bel (hb.mono hB)
theorem itoa_len (n : Nat) (w : World) (h1 : n ≤ 100000) (ht : KE w) :
    Calls Tryz.prog 55 #[.int .i64 (n : Int)] w fun e w' => e = .returned (.string (bs (Lib.decDigits n))) ∧ Below w.heap.size w w' := by
  refine (Tryz.strconv_Itoa (n : Int) (by omega) (by omega) w ht.1).mono ?_
  rintro e w' ⟨rfl, k, os, rfl⟩
  refine ⟨by rw [itoa_natK]; rfl, Lib.below_grow _ w (Nat.le_refl _) k os⟩
/-- a text behind its length -/
theorem bldr_low {w w' : World} {B b : Nat} {l : List UInt8} (h : bldr w B b l) (hb : Below w.heap.size w w') : bldr w' B b l := by
  have key : ∀ {p : Value}, Lib.BuilderAt 80 5 B b p (Lib.byteCells l) w → Lib.BuilderAt 80 5 B b p (Lib.byteCells l) w' := by
    rintro p ⟨h1, v, h2, h3, h4⟩
    refine ⟨h1, v, (hb.block b (Array.getElem?_eq_some_iff.1 h2).1).trans h2, ?_, h4⟩
    refine ⟨h3.1, ?_⟩
    rcases h3.2 with hn | ⟨g, cap, cur, hv, hbg, hg, r⟩
    · exact .inl hn
    · exact .inr ⟨g, cap, cur, hv, hbg, by rw [hb.block g (Array.getElem?_eq_some_iff.1 hg).1]; exact hg, r⟩
  exact h.elim (fun q => .inl (key q)) (fun q => .inr (key q))
set_option maxHeartbeats 1000000 in
set_option maxRecDepth 100000 in
theorem tell_any (B b : Nat) (l p : List UInt8) (w : World) (h : bldr w B b l) (hB : B ≤ w.heap.size) (hp : p.length ≤ 100000) (hl : l.length ≤ 10000000) (ht : KE w) :
    Calls Tryz.prog 54 #[.string (bs p), .pointer (some ⟨b, 0, none⟩)] w fun e w' => e = .returned (.tuple #[]) ∧ bldr w' B b (l ++ partK p) ∧ Below B w w' ∧ Oth b w w' := by
  have hd : (Lib.decDigits p.length).length ≤ 6 := digs_len p.length (by omega)
  have HI := Lib.hid (itoa_len p.length w hp ht)
  have hsz : (bs p).size = p.length := bs_size p
  have HW1 : Hid (∀ W, bldr W B b l → B ≤ W.heap.size → Calls Tryz.prog 39 #[.pointer (some ⟨b, 0, none⟩), .string (bs (Lib.decDigits p.length))] W fun e w' => e = .returned (.tuple #[.int .i64 (Lib.decDigits p.length).length, .nilIface]) ∧ bldr w' B b (l ++ Lib.decDigits p.length) ∧ Below B W w' ∧ Oth b W w') :=
    fun W h hB => writeK B b l _ W h (by omega) hB
  have HW2 : Hid (∀ W, bldr W B b (l ++ Lib.decDigits p.length) → B ≤ W.heap.size → Calls Tryz.prog 56 #[.pointer (some ⟨b, 0, none⟩), .int .u8 58] W fun e w' => e = .returned .nilIface ∧ bldr w' B b (l ++ Lib.decDigits p.length ++ [58]) ∧ Below B W w' ∧ Oth b W w') :=
    fun W h hB => writeB_any B b _ 58 W h (by simp; omega) hB
  have HW3 : Hid (∀ W, bldr W B b (l ++ Lib.decDigits p.length ++ [58]) → B ≤ W.heap.size → Calls Tryz.prog 39 #[.pointer (some ⟨b, 0, none⟩), .string (bs p)] W fun e w' => e = .returned (.tuple #[.int .i64 p.length, .nilIface]) ∧ bldr w' B b (l ++ Lib.decDigits p.length ++ [58] ++ p) ∧ Below B W w' ∧ Oth b W w') :=
    fun W h hB => writeK B b _ p W h (by simp; omega) hB
  have HFE : Hid (l ++ Lib.decDigits p.length ++ [58] ++ p = l ++ partK p) := by show _ = _; simp [partK]
  have HBD := Lib.hid h; have HB := Lib.hid hB
  clear hd h hB hp hl ht
  generalize Lib.decDigits p.length = d at *
  generalize bs p = s at *
  have HSI : Hid (IntKind.i64.wrap 0 = 0) := by show _ = _; rfl
  have hsi : (s.size : Int) = (p.length : Int) := by omega
  clear hsz HSI
  go_enter Tryz.func54, Tryz.ntmps54
  go_wp2_with fail
  refine HI.out.mono ?_
  rintro e w1 ⟨rfl, hb1⟩
  have HB1 : Hid (Below B w w1) := hb1.mono HB.out
  have HD1 : Hid (bldr w1 B b l) := bldr_low HBD.out hb1
  have HO1 : Hid (Oth b w w1) := Oth.low hb1
  clear hb1 hsi
  go_wp2_with fail
  refine (HW1.out w1 HD1.out (Nat.le_trans HB.out HB1.out.size)).mono ?_
  rintro e w2 ⟨rfl, hd2, hb2, ho2⟩
  have HB2 := Lib.hid (HB1.out.trans hb2); have HD2 := Lib.hid hd2; have HO2 := Lib.hid (HO1.out.trans HB1.out.size ho2)
  clear hb2 hd2 ho2 HD1 HB1 HO1
  go_wp2_with fail
  refine (HW2.out w2 HD2.out (Nat.le_trans HB.out HB2.out.size)).mono ?_
  rintro e w3 ⟨rfl, hd3, hb3, ho3⟩
  have HB3 := Lib.hid (HB2.out.trans hb3); have HD3 := Lib.hid hd3; have HO3 := Lib.hid (HO2.out.trans HB2.out.size ho3)
  clear hb3 hd3 ho3 HD2 HB2 HO2
  go_wp2_with fail
  refine (HW3.out w3 HD3.out (Nat.le_trans HB.out HB3.out.size)).mono ?_
  rintro e w4 ⟨rfl, hd4, hb4, ho4⟩
  have HB4 := Lib.hid (HB3.out.trans hb4); have HD4 := Lib.hid hd4; have HO4 := Lib.hid (HO3.out.trans HB3.out.size ho4)
  clear hb4 hd4 ho4 HD3 HB3 HO3
  go_wp2_with fail
  go_end0
  exact ⟨rfl, by rw [← HFE.out]; exact HD4.out, HB4.out, HO4.out⟩

theorem wrapJ (j : Nat) (h : j < 1000000) : Value.int .i64 (wrap64 ((j : Int) + 1)) = .int .i64 ((j + 1 : Nat) : Int) := by
  have h1 : ((j : Int) + 1 + 9223372036854775808) % 18446744073709551616 - 9223372036854775808 = ((j + 1 : Nat) : Int) := by omega
  unfold wrap64
  rw [h1]
theorem bldr_lt {w : World} {B b : Nat} {l : List UInt8} (h : bldr w B b l) : b < w.heap.size := h.elim (fun q => q.lt) (fun q => q.lt)
theorem oneF2.oth {w w' : World} {b b' : Nat} {x y : Value} (h : oneF2 w b x y) (ho : Oth b' w w') (hb : b ≠ b') : oneF2 w' b x y := by
  unfold oneF2 at *
  rw [ho b (Array.getElem?_eq_some_iff.1 h).1 hb ?_]
  · exact h
  · intro C fr e
    rw [h] at e
    injection e with e
    injection e with _ e
    exact absurd e (by decide)
theorem FL_low {w w' : World} {v : Value} {l : List Fld} (h : FL w v l) (hb : Below w.heap.size w w') : FL w' v l := h.bel hb

set_option maxHeartbeats 2000000 in
set_option maxRecDepth 100000 in
/-- the text of a key and a Vary -/
theorem identity_any (k : List UInt8) (vv : Value) (l : List Fld) (w : World) (hv : FL w vv l) (hk : k.length ≤ 300) (hl : SmF l) (ht : KE w) :
    Calls Tryz.prog 29 #[.string (bs k), vv] w fun e w' => e = .returned (.string (bs (idT k l))) ∧ Below w.heap.size w w' := by
  obtain ⟨A, c, rfl⟩ := hv.form
  have hmf : ∀ (fn : Fn) (first cap : Array Value) (w : World), (Instr.makeFunc fn first cap).run Tryz.prog w = .ok (.func fn first cap) w := fun _ _ _ _ => rfl
  have he := enters_of Tryz.func54 (by kernel_rfl) rfl
  have hb0 : Below w.heap.size w (w.alloc (.cells #[.pointer none, .slice none 0 0] 80)) := (Below.refl _ _).alloc (Nat.le_refl _) _
  have HT1 := Lib.hid (tell_any w.heap.size w.heap.size [] k _ (bldr_new w w.heap.size (Nat.le_refl _)) hb0.size (by omega) (by simp) (ht.bel hb0))
  have HV0 := Lib.hid hv; have HT0 := Lib.hid ht; have HB0 := Lib.hid hb0; have HL := Lib.hid hl; have HKL := Lib.hid hk
  have HLN : Hid (l.length ≤ 10) := hl.len
  clear hv hk hl ht hb0
  go_enter Tryz.func29, Tryz.ntmps29
  go_wp2_with fail
  refine HT1.out.mono ?_
  rintro e w1 ⟨rfl, hd1, hb1, -⟩
  have HW1 : Hid (Below w.heap.size w w1) := HB0.out.trans hb1
  have HV1 : Hid (FL w1 (.slice A l.length c) l) := FL_low HV0.out HW1.out
  have HE1 : Hid (KE w1) := HT0.out.bel HW1.out
  have HD1 : Hid (bldr w1 w.heap.size w.heap.size (idT k (l.take 0))) := by show bldr _ _ _ _; simpa [idT, varT] using hd1
  clear hd1 hb1
  go_wp2_with fail
  go_loopg [15] l.length (fun g i wr => ∃ j : Nat, i = .int .i64 j ∧ j + g = l.length ∧ Hid (bldr wr w.heap.size w.heap.size (idT k (l.take j)) ∧ Below w.heap.size w wr))
  case atStart => exact ⟨0, rfl, by omega, HD1.out, HW1.out⟩
  case round =>
    obtain ⟨j, rfl, hj, hr⟩ := hrel
    have HD := Lib.hid hr.out.1; have HB := Lib.hid hr.out.2
    clear hr
    have HBZ : Hid (w.heap.size ≤ wr.heap.size) := HB.out.size
    by_cases hend : j < l.length
    · obtain ⟨b, off, rfl, hbb, c0, c1⟩ := (FL_low HV0.out HB.out).get j hend
      have hf := HL.out.at_ _ (List.getElem_mem hend)
      have hln := HLN.out
      have HJJ : Hid (j < 1000000) := by have := HLN.out; show _ < _; omega
      have HKK : Hid (gk - 1 < gk ∧ j + 1 + (gk - 1) = l.length ∧ ((j : Int) + 1 + 9223372036854775808) % 18446744073709551616 - 9223372036854775808 = ((j + 1 : Nat) : Int)) := ⟨by omega, by omega, by omega⟩
      have HIT : Hid (idT k (l.take (j + 1)) = idT k (l.take j) ++ partK (lower l[j].1) ++ partK l[j].2) := by
        show _ = _
        rw [List.take_succ_eq_append_getElem hend]
        unfold idT
        rw [varT_snoc]; simp
      have hidl : (idT k (l.take j)).length ≤ 7000 := idT_len HKL.out ⟨by rw [List.length_take]; have := HLN.out; omega, fun f hf' => HL.out.at_ f (List.take_subset _ _ hf')⟩
      generalize l[j] = f at *
      obtain ⟨n, x⟩ := f
      simp only at hf c0 c1 HIT
      have hal : Below wr.heap.size wr (wr.alloc (.cells #[.string (bs n), .string (bs x)] 66)) := (Below.refl _ _).alloc (Nat.le_refl _) _
      have HBa := Lib.hid (HB.out.trans (hal.mono HBZ.out))
      have HNB : Hid (wr.heap.size ≠ w.heap.size) := by have := bldr_lt HD.out; show _ ≠ _; omega
      have HFa := Lib.hid (oneF2.new wr (.string (bs n)) (.string (bs x)))
      have HDa := Lib.hid (bldr_low HD.out hal)
      have HLW := Lib.hid (klower_any (bs n) (wr.alloc (.cells #[.string (bs n), .string (bs x)] 66)) (by rw [bs_size]; omega))
      have HNL : Hid ((lower n).length ≤ 100000) := by show _ ≤ _; rw [lower_len]; omega
      have HXL : Hid (x.length ≤ 100000) := by show _ ≤ _; omega
      have HPL : Hid ((idT k (l.take j) ++ partK (lower n)).length ≤ 10000000) := by
        have := partK_len (p := lower n) (by rw [lower_len]; exact hf.1)
        show _ ≤ _
        rw [List.length_append]; omega
      have HJL : Hid ((idT k (l.take j)).length ≤ 10000000) := by show _ ≤ _; omega
      have hq0 := HFa.out.cells.1
      have hq1 := HFa.out.cells.2.1
      clear hal hf hidl hj hln
      rw [bs_data] at HLW
      generalize idT k (l.take j) = acc at *
      generalize lower n = ln at *
      go_wp2_with fail
      refine HLW.out.mono ?_
      rintro e w2 ⟨rfl, hb2⟩
      have HB2 := Lib.hid (HBa.out.trans (hb2.mono HBa.out.size))
      have HF2 := Lib.hid (HFa.out.bel hb2)
      have HT2 := Lib.hid (tell_any w.heap.size w.heap.size acc ln w2 (bldr_low HDa.out hb2) HB2.out.size HNL.out HJL.out (HT0.out.bel HB2.out))
      clear hb2 hq0 hq1 c0 c1
      go_wp2_with fail
      refine HT2.out.mono ?_
      rintro e w3 ⟨rfl, hd3, hb3, ho3⟩
      have HB3 := Lib.hid (HB2.out.trans hb3)
      have hq1 := (oneF2.oth HF2.out ho3 HNB.out).cells.2.1
      have HT3 := Lib.hid (tell_any w.heap.size w.heap.size _ x w3 hd3 HB3.out.size HXL.out HPL.out (HT0.out.bel HB3.out))
      clear hd3 hb3 ho3
      go_wp2_with fail
      refine HT3.out.mono ?_
      rintro e w4 ⟨rfl, hd4, hb4, -⟩
      have HB4 := Lib.hid (HB3.out.trans hb4)
      have HD4 := Lib.hid hd4
      clear hd4 hb4 hq1
      go_wp2_with fail
      go_roundg (gk - 1)
      case measure => exact HKK.out.1
      case rel => exact ⟨j + 1, wrapJ j HJJ.out, HKK.out.2.1, by rw [HIT.out]; exact HD4.out, HB4.out⟩
    · have HEN : Hid (idT k (l.take j) = idT k l) := by show _ = _; rw [List.take_of_length_le (by omega)]
      have HST := Lib.hid (strB_any w.heap.size w.heap.size _ wr HD.out HBZ.out)
      clear hj
      go_wp2_with fail
      refine HST.out.mono ?_
      rintro e w1 ⟨rfl, hb⟩
      go_wp2_with fail
      go_ret
      exact ⟨by rw [HEN.out]; rfl, HB.out.trans hb⟩

/-! ### the key of such a text -/
theorem idT_at (k : List UInt8) (l : List Fld) : idT k l = Lib.decDigits k.length ++ 58 :: (k ++ varT l) := by simp [idT, partK]
theorem cut_id (k : List UInt8) (l : List Fld) : Lib.cut (idT k l) [58] = (Lib.decDigits k.length, k ++ varT l, true) := by
  rw [idT_at]
  have h1 := cut_hit (s := Lib.decDigits k.length ++ 58 :: (k ++ varT l)) (sep := [58]) (i := (Lib.decDigits k.length).length) (by simp) (by unfold Lib.occAt; simp) (fun j hj => by
    unfold Lib.occAt
    rw [List.drop_append_of_le_length (by omega)]
    cases hd : (Lib.decDigits k.length).drop j with
    | nil => have := congrArg List.length hd; simp at this; omega
    | cons c r =>
      have hc : c ∈ Lib.decDigits k.length := List.drop_subset j _ (by rw [hd]; simp)
      have h2 := ((digs_all k.length).1 c hc).2
      have : (58 : UInt8) ≠ c := by intro e; rw [← e] at h2; exact absurd h2 (by decide)
      show ((58 : UInt8) == c && _) = false
      rw [beq_eq_false_iff_ne.2 this]; rfl)
  rw [h1]
  simp
set_option maxHeartbeats 1000000 in
set_option maxRecDepth 100000 in
theorem keyOf_any (k : List UInt8) (l : List Fld) (w : World) (hk : k.length ≤ 300) (hl : SmF l) (ht : KE w) :
    Calls Tryz.prog 44 #[.string (bs (idT k l))] w fun e w' => e = .returned (.string (bs k)) ∧ Below w.heap.size w w' := by
  obtain ⟨-, m, hm⟩ := ht
  have hlen := idT_len hk hl
  have HC : Hid (Calls Tryz.prog 67 #[.string (bs (idT k l)), .string ⟨#[58]⟩] w fun e w' => e = .returned (.tuple #[.string (bs (Lib.decDigits k.length)), .string (bs (k ++ varT l)), .bool true]) ∧ Below w.heap.size w w') := by
    refine (Tryz.strings_Cut (bs (idT k l)) (bs [58]) m w (by rw [bs_size]; omega) hm).mono ?_
    rw [bs_data, bs_data, cut_id]
    rintro e w' ⟨he, n, rfl⟩
    have h := Below.refl w.heap.size w
    exact ⟨he, h.os, h.tape, h.output, h.size, h.block⟩
  have hd : (Lib.decDigits k.length).length ≤ 6 := digs_len k.length (by omega)
  have HA : Hid (∀ W, Calls Tryz.prog 68 #[.string (bs (Lib.decDigits k.length))] W fun e w' => e = .returned (.tuple #[.int .i64 (k.length : Int), .nilIface]) ∧ Below W.heap.size W w') := fun W => by
    refine (Tryz.strconv_Atoi_ok (bs (Lib.decDigits k.length)) (by rw [bs_size]; omega) (k.length : Int) (by rw [bs_data]; exact atoi_digs _ (by omega)) W).mono ?_
    rintro e w' ⟨rfl, hw⟩
    refine ⟨rfl, ?_⟩
    rcases hw with rfl | ⟨t, rfl⟩
    · exact Below.refl _ _
    · exact Lib.bytesWorld_below _ _ _
  have hle : k.length ≤ (bs (k ++ varT l)).size := by rw [bs_size]; simp
  have HEX : Hid ((bs (k ++ varT l)).extract 0 k.length = bs k) := by
    have h1 : ((bs (k ++ varT l)).extract 0 k.length).data.toList = k := by rw [Lib.extract_data, bs_data]; simp
    exact bs_of h1
  have h0 : (0 : Int) ≤ (k.length : Int) := by omega
  clear hm hlen hd hk
  generalize bs (idT k l) = s at *
  generalize bs (k ++ varT l) = r at *
  generalize bs (Lib.decDigits k.length) = d at *
  go_enter Tryz.func44, Tryz.ntmps44
  go_wp2_with fail
  refine HC.out.mono ?_
  rintro e w1 ⟨rfl, hb1⟩
  have HB1 := Lib.hid hb1; clear hb1
  go_wp2_with fail
  refine (HA.out w1).mono ?_
  rintro e w2 ⟨rfl, hb2⟩
  have HB2 := Lib.hid (HB1.out.trans (hb2.mono HB1.out.size)); clear hb2
  go_wp2_with fail
  go_ret
  exact ⟨ret_str HEX.out, HB2.out⟩
end Go.Proofs.YtopgeclecpaecaaGreatDoor
