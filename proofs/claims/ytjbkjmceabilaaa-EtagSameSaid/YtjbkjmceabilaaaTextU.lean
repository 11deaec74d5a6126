/- Which bytes of a list stand in quotes: the document's Quoted. -/
import Derived.Test.YtjbkjmceabilaaaTextT
namespace Go.Proofs.Ytjbkjmceabilaaa
open Go.RowKit

/-- of each byte: does it stand in a quote, its marks counted -/
def qf : List UInt8 → Bool → Bool → List Bool
  | [], _, _ => []
  | c :: r, o, e => (o || (c.toNat : Int) == 34) :: qf r (qnext o e c).1 (qnext o e c).2
/-- is a quote open at the end -/
def qend : List UInt8 → Bool → Bool → Bool
  | [], o, _ => o
  | c :: r, o, e => qend r (qnext o e c).1 (qnext o e c).2
theorem qf_len : ∀ (l : List UInt8) (o e : Bool), (qf l o e).length = l.length
  | [], _, _ => rfl
  | c :: r, o, e => by simp [qf, qf_len r]

/-- block b is a row of just these truth values -/
def rowT (w : World) (b : Nat) (L : List Bool) : Prop := w.heap[b]? = some (.cells (L.map Value.bool).toArray 4 (0, 0))
theorem rowT.cell {w : World} {b : Nat} {L : List Bool} (h : rowT w b L) (j : Nat) (hj : j < L.length) : w.cell? ⟨b, j, none⟩ = some (.bool (L.getD j false)) := by
  unfold rowT at h
  simp [World.cell?, h, hj, List.getD]
theorem rowT.free {w : World} {b : Nat} {L : List Bool} (h : rowT w b L) (j : Nat) : w.frozen? ⟨b, j, none⟩ = false := by
  unfold rowT at h
  simp [World.frozen?, h]
theorem rowT.set {w : World} {b : Nat} {L : List Bool} (h : rowT w b L) (j : Nat) (x : Bool) : rowT (w.setCell ⟨b, j, none⟩ (.bool x)) b (L.set j x) := by
  unfold rowT at h ⊢
  rw [Lib.heap_setCell_same h]
  simp [List.map_set]
theorem rowT.keep {w w' : World} {b : Nat} {L : List Bool} (h : rowT w b L) (hk : w'.heap[b]? = w.heap[b]?) : rowT w' b L := hk.trans h

/-- what has been filled in of the row ahead of byte k -/
def filled (F : List Bool) (k : Nat) : List Bool := F.take k ++ List.replicate (F.length - k) false
theorem filled_len (F : List Bool) (k : Nat) (h : k ≤ F.length) : (filled F k).length = F.length := by simp [filled]; omega
theorem filled_all (F : List Bool) : filled F F.length = F := by simp [filled]
theorem filled_no {F : List Bool} {k : Nat} {T : List Bool} (h : F.drop k = false :: T) : filled F (k + 1) = filled F k := by
  have hk : k < F.length := by
    rcases Nat.lt_or_ge k F.length with h1 | h1
    · exact h1
    · rw [List.drop_of_length_le h1] at h; cases h
  have hg : F[k] = false := by have := List.drop_eq_getElem_cons hk; rw [h] at this; exact (List.cons.inj this).1.symm
  unfold filled
  rw [List.take_succ_eq_append_getElem hk, hg, show F.length - k = (F.length - (k + 1)) + 1 from by omega, List.replicate_succ]
  simp
theorem filled_yes {F : List Bool} {k : Nat} {T : List Bool} (h : F.drop k = true :: T) : (filled F k).set k true = filled F (k + 1) := by
  have hk : k < F.length := by
    rcases Nat.lt_or_ge k F.length with h1 | h1
    · exact h1
    · rw [List.drop_of_length_le h1] at h; cases h
  have hg : F[k] = true := by have := List.drop_eq_getElem_cons hk; rw [h] at this; exact (List.cons.inj this).1.symm
  unfold filled
  rw [List.take_succ_eq_append_getElem hk, hg, List.set_append_right _ _ (by simp; omega), show F.length - k = (F.length - (k + 1)) + 1 from by omega, List.replicate_succ]
  have : k - (F.take k).length = 0 := by simp; omega
  rw [this]; simp
theorem drop_tail {F : List Bool} {k : Nat} {b : Bool} {T : List Bool} (h : F.drop k = b :: T) : F.drop (k + 1) = T := by
  have := congrArg List.tail h; simpa using this

/-- where the reader stands: the flags still to come, and what will be open in the end -/
def At (s : ByteArray) (F : List Bool) (E : Bool) (k : Nat) (o e : Bool) : Prop := F.drop k = qf (s.data.toList.drop k) o e ∧ qend (s.data.toList.drop k) o e = E
theorem At.step {s : ByteArray} {F : List Bool} {E : Bool} {k : Nat} {o e o' e' f : Bool} (h : At s F E k o e) (hk : k < s.size) (hf : (o || (s[k].toNat : Int) == 34) = f) (hn : qnext o e s[k] = (o', e')) :
    F.drop k = f :: qf (s.data.toList.drop (k + 1)) o' e' ∧ At s F E (k + 1) o' e' := by
  obtain ⟨h1, h2⟩ := h
  rw [drop_at hk] at h1 h2
  simp only [qf, qend, hn, hf] at h1 h2
  exact ⟨h1, drop_tail h1, h2⟩

theorem infoT : (Try.prog.info? 4).map (fun i => (i.zero, i.size, i.bytes)) = some (some (.bool false), 1, 1) := by kernel_rfl
theorem make_bools (n : Nat) (w : World) (hn : n ≤ 4294967296) :
    (Instr.makeSlice 50 (.int .i64 (n : Int)) (.int .i64 (n : Int))).run Try.prog w = .ok (.slice (some ⟨w.heap.size, 0, none⟩) n n) (w.alloc (.cells ((List.replicate n false).map Value.bool).toArray 4)) := by
  obtain ⟨i0, hi, hz0, hz1, hz2⟩ := info_parts infoT
  have h := run_make (P := Try.prog) w 50 4 i0 (.bool false) Try.underlying50 hi hz0 .i64 .i64 (n : Int) (n : Int) (by omega) (by omega) (by rw [hz2]; omega) (by omega)
  have e : madeCells (Value.bool false).cells (((n : Nat) : Int).toNat * i0.size) = ((List.replicate n false).map Value.bool).toArray := by
    apply Array.toList_inj.1
    rw [hz1, Nat.mul_one, Int.toNat_natCast]
    have := toList_madeCells_one (Value.bool false) n
    simpa [Value.cells] using this
  rw [e] at h
  simpa using h

set_option maxHeartbeats 4000000 in
set_option maxRecDepth 100000 in
theorem quoted_any (s : ByteArray) (w : World) (hs : s.size ≤ 4294967296) :
    Calls Try.prog 32 #[.string s] w fun e w' => e = .returned (.tuple #[.slice (some ⟨w.heap.size, 0, none⟩) s.size s.size, .bool (!qend s.data.toList false false)]) ∧
      (qend s.data.toList false false = false → rowT w' w.heap.size (qf s.data.toList false false)) ∧ Below w.heap.size w w' := by
  have hmk := make_bools s.size w hs
  obtain ⟨F, hF⟩ : ∃ F, F = qf s.data.toList false false := ⟨_, rfl⟩
  obtain ⟨E, hE⟩ : ∃ E, E = qend s.data.toList false false := ⟨_, rfl⟩
  have hFl : F.length = s.size := by rw [hF, qf_len]; rfl
  have h0 : At s F E 0 false false := ⟨hF, hE.symm⟩
  rw [← hF, ← hE]
  have HFL := Lib.hid hFl; have H0 := Lib.hid h0
  clear hF hE hFl h0
  go_enter Try.func32, Try.ntmps32
  go_wp2_with fail
  go_loopw [5] (fun i wr => ∃ k : Nat, k ≤ s.size ∧ i = .int .i64 k ∧ At s F E k false false ∧ rowT wr w.heap.size (filled F k) ∧ Below w.heap.size w wr) (fun i _ => s.size - (intOf i).toNat)
  case atStart => exact ⟨0, Nat.zero_le _, rfl, H0.out, by unfold rowT; rw [heap_alloc_new]; simp [filled, HFL.out], (Below.refl _ _).alloc (Nat.le_refl _) _⟩
  case round =>
    obtain ⟨k, hk, rfl, hat, hrow, hbel⟩ := hrel
    have HA := Lib.hid hat; clear hat
    have HR := Lib.hid hrow; clear hrow
    have HB := Lib.hid hbel; clear hbel
    have HL : Hid ((filled F k).length = s.size) := by show _ = _; rw [filled_len _ _ (by rw [HFL.out]; exact hk), HFL.out]
    by_cases hlt : k < s.size
    · cases hc : ((s[k].toNat : Int) != 34)
      · have hst := HA.out.step (f := true) (o' := true) (e' := false) hlt (by rw [bne_eq_false_iff_eq] at hc; rw [hc]; rfl) (qn_open false hc)
        have HS := Lib.hid hst; clear hst
        have HR1 : Hid (rowT (wr.setCell ⟨w.heap.size, k, none⟩ (.bool true)) w.heap.size (filled F (k + 1))) := by
          show rowT _ _ _; rw [← filled_yes HS.out.1]; exact HR.out.set k true
        have hcell := HR.out.cell k (by rw [HL.out]; exact hlt)
        have hfree := HR.out.free k
        go_wp2_with fail
        have HB1 : Hid (Below w.heap.size w (wr.setCell ⟨w.heap.size, k, none⟩ (.bool true))) := HB.out.setCell (Nat.le_refl _) _
        generalize wr.setCell ⟨w.heap.size, k, none⟩ (.bool true) = wi at *
        clear hcell hfree HR HB HA HL hc
        go_loopw [5] (fun i wr => ∃ (m : Nat) (e : Bool), k < m ∧ m ≤ s.size ∧ i = .int .i64 m ∧ (e = true → s.size ≤ m) ∧ At s F E m true e ∧ rowT wr w.heap.size (filled F m) ∧ Below w.heap.size w wr) (fun i _ => s.size - (intOf i).toNat)
        case atStart => exact ⟨k + 1, false, by omega, by omega, by go_num, (fun h => by cases h), HS.out.2, HR1.out, HB1.out⟩
        case round =>
          obtain ⟨m, e, hkm, hm, rfl, he, hat, hrow, hbel⟩ := hrel
          have HA := Lib.hid hat; clear hat
          have HR := Lib.hid hrow; clear hrow
          have HB := Lib.hid hbel; clear hbel
          have HL : Hid ((filled F m).length = s.size) := by show _ = _; rw [filled_len _ _ (by rw [HFL.out]; exact hm), HFL.out]
          by_cases hml : m < s.size
          · obtain rfl : e = false := by cases e with | false => rfl | true => exact absurd (he rfl) (by omega)
            clear he
            have hcell := HR.out.cell m (by rw [HL.out]; exact hml)
            have hfree := HR.out.free m
            have hme : ((m : Int) == (s.size : Int)) = false := beq_eq_false_iff_ne.2 (by omega)
            cases hc : ((s[m].toNat : Int) != 34)
            · have hst := HA.out.step (f := true) (o' := false) (e' := false) hml rfl (by rw [bne_eq_false_iff_eq] at hc; exact qn_close (by rw [hc]; rfl) (by rw [hc]; rfl))
              have HS := Lib.hid hst; clear hst
              have HR1 : Hid (rowT (wr.setCell ⟨w.heap.size, m, none⟩ (.bool true)) w.heap.size (filled F (m + 1))) := by
                show rowT _ _ _; rw [← filled_yes HS.out.1]; exact HR.out.set m true
              go_wp2_with fail
              go_roundw
              case rel => exact ⟨m + 1, by omega, by go_num, HS.out.2, HR1.out, HB.out.setCell (Nat.le_refl _) _⟩
              case measure => simp [intOf]; omega
            · have hc4 : ((s[m].toNat : Int) == 34) = false := beq_eq_false_iff_ne.2 (bne_iff_ne.1 hc)
              cases h9 : ((s[m].toNat : Int) == 92)
              · have hst := HA.out.step (f := true) (o' := true) (e' := false) hml rfl (qn_held h9 hc4)
                have HS := Lib.hid hst; clear hst
                have HR1 : Hid (rowT (wr.setCell ⟨w.heap.size, m, none⟩ (.bool true)) w.heap.size (filled F (m + 1))) := by
                  show rowT _ _ _; rw [← filled_yes HS.out.1]; exact HR.out.set m true
                go_wp2_with fail
                go_roundw
                case rel => exact ⟨m + 1, false, by omega, by omega, by go_num, (fun h => by cases h), HS.out.2, HR1.out, HB.out.setCell (Nat.le_refl _) _⟩
                case measure => simp [intOf]; omega
              · have hst := HA.out.step (f := true) (o' := true) (e' := true) hml rfl (qn_back h9)
                have HS := Lib.hid hst; clear hst
                have HR1 : Hid (rowT (wr.setCell ⟨w.heap.size, m, none⟩ (.bool true)) w.heap.size (filled F (m + 1))) := by
                  show rowT _ _ _; rw [← filled_yes HS.out.1]; exact HR.out.set m true
                by_cases hm1 : m + 1 < s.size
                · have hst2 := HS.out.2.step (f := true) (o' := true) (e' := false) hm1 rfl (qn_esc _)
                  have HS2 := Lib.hid hst2; clear hst2
                  have hcell2 := HR1.out.cell (m + 1) (by rw [filled_len _ _ (by rw [HFL.out]; omega), HFL.out]; exact hm1)
                  have hfree2 := HR1.out.free (m + 1)
                  have HR2 : Hid (rowT ((wr.setCell ⟨w.heap.size, m, none⟩ (.bool true)).setCell ⟨w.heap.size, m + 1, none⟩ (.bool true)) w.heap.size (filled F (m + 1 + 1))) := by
                    show rowT _ _ _; rw [← filled_yes HS2.out.1]; exact HR1.out.set (m + 1) true
                  go_wp2_with fail
                  go_roundw
                  case rel => exact ⟨m + 1 + 1, false, by omega, by omega, by go_num, (fun h => by cases h), HS2.out.2, HR2.out, (HB.out.setCell (Nat.le_refl _) _).setCell (Nat.le_refl _) _⟩
                  case measure => simp [intOf]; omega
                · go_wp2_with fail
                  go_roundw
                  case rel => exact ⟨m + 1, true, by omega, by omega, by go_num, (fun _ => by omega), HS.out.2, HR1.out, HB.out.setCell (Nat.le_refl _) _⟩
                  case measure => simp [intOf]; omega
          · have HE : Hid (E = true) := by have := HA.out.2; rw [drop_nil (by omega)] at this; exact this.symm
            have hme : ((m : Int) == (s.size : Int)) = true := beq_iff_eq.2 (by omega)
            clear he
            go_wp2_with fail
            go_ret2
            exact ⟨by rw [HE.out]; rfl, (fun h => by rw [HE.out] at h; cases h), HB.out⟩
      · have hst := HA.out.step (f := false) (o' := false) (e' := false) hlt (by rw [bne_iff_ne] at hc; rw [Bool.false_or]; exact beq_eq_false_iff_ne.2 hc) (qn_out false hc)
        have HS := Lib.hid hst; clear hst
        go_wp2_with fail
        go_roundw
        case rel => exact ⟨k + 1, by omega, by go_num, HS.out.2, by rw [filled_no HS.out.1]; exact HR.out, HB.out⟩
        case measure => simp [intOf]; omega
    · have HE : Hid (E = false) := by have := HA.out.2; rw [drop_nil (by omega)] at this; exact this.symm
      have HF : Hid (filled F k = F) := by show _ = _; rw [show k = F.length from by rw [HFL.out]; omega, filled_all]
      go_wp2_with fail
      go_ret2
      exact ⟨by rw [HE.out]; rfl, fun _ => by rw [← HF.out]; exact HR.out, HB.out⟩
end Go.Proofs.Ytjbkjmceabilaaa
