/- Lists cut at a byte: the text layer's Split. -/
import Derived.Test.YtdaiielhohdgiaaDoorKBytes
import Derived.Test.YtdaiielhohdgiaaDoorKTextD
import Derived.Lib.Join
import Derived.Test.YtdaiielhohdgiaaDoorShelf
namespace Go.Proofs.YtdaiielhohdgiaaDoor
open Go.RowKit

structure SMem (N : Nat) (s : ByteArray) (w0 w : World) (o e : Bool) (f : Nat) (L : List (List UInt8)) : Prop where
  box : w.heap[N]? = some (.cells #[.string s] 9 (0, 0))
  out : ∃ v, w.heap[N + 1]? = some (.cells #[v] 33 (0, 0)) ∧ ownS w (N + 5) v L
  fr : w.heap[N + 2]? = some (.cells #[.int .i64 (f : Int)] 3 (0, 0))
  op : oneT w (N + 3) o
  es : oneT w (N + 4) e
  bel : Below N w0 w

theorem SMem.size {N : Nat} {s : ByteArray} {w0 w : World} {o e : Bool} {f : Nat} {L : List (List UInt8)} (h : SMem N s w0 w o e f L) : N + 5 ≤ w.heap.size := by
  have := lt_of_block h.es; omega
theorem SMem.setO {N : Nat} {s : ByteArray} {w0 w : World} {o e : Bool} {f : Nat} {L : List (List UInt8)} (h : SMem N s w0 w o e f L) (x : Bool) : SMem N s w0 (w.setCell ⟨N + 3, 0, none⟩ (.bool x)) x e f L := by
  obtain ⟨v, h1, h2⟩ := h.out
  refine ⟨?_, ⟨v, ?_, h2.setLow (a := ⟨N + 3, 0, none⟩) (by simp) _⟩, ?_, h.op.set _, h.es.other (by omega) _, h.bel.setCell (by simp) _⟩
  · rw [Below.heap_setCell _ _ _ _ (by simp)]; exact h.box
  · rw [Below.heap_setCell _ _ _ _ (by simp)]; exact h1
  · rw [Below.heap_setCell _ _ _ _ (by simp)]; exact h.fr
theorem SMem.setE {N : Nat} {s : ByteArray} {w0 w : World} {o e : Bool} {f : Nat} {L : List (List UInt8)} (h : SMem N s w0 w o e f L) (x : Bool) : SMem N s w0 (w.setCell ⟨N + 4, 0, none⟩ (.bool x)) o x f L := by
  obtain ⟨v, h1, h2⟩ := h.out
  refine ⟨?_, ⟨v, ?_, h2.setLow (a := ⟨N + 4, 0, none⟩) (by simp) _⟩, ?_, h.op.other (by omega) _, h.es.set _, h.bel.setCell (by simp) _⟩
  · rw [Below.heap_setCell _ _ _ _ (by simp)]; exact h.box
  · rw [Below.heap_setCell _ _ _ _ (by simp)]; exact h1
  · rw [Below.heap_setCell _ _ _ _ (by simp)]; exact h.fr

theorem SMem.start (s : ByteArray) (w : World) :
    SMem w.heap.size s w (((((w.alloc (.cells #[.string s] 9)).alloc (.cells #[.slice none 0 0] 33)).alloc (.cells #[.int .i64 0] 3)).alloc (.cells #[.bool false] 4)).alloc (.cells #[.bool false] 4)) false false 0 [] := by
  refine ⟨?_, ⟨.slice none 0 0, ?_, ownS_nil _ _⟩, ?_, ?_, ?_, ((((((Below.refl _ _).alloc (Nat.le_refl _) _).alloc (by simp) _).alloc (by simp; omega) _).alloc (by simp; omega) _).alloc (by simp; omega) _)⟩
  · rw [Below.heap_alloc _ _ _ (by simp <;> omega), Below.heap_alloc _ _ _ (by simp <;> omega), Below.heap_alloc _ _ _ (by simp <;> omega), Below.heap_alloc _ _ _ (by simp)]
    exact heap_alloc_new w _
  · rw [Below.heap_alloc _ _ _ (by simp <;> omega), Below.heap_alloc _ _ _ (by simp <;> omega), Below.heap_alloc _ _ _ (by simp)]
    have h := heap_alloc_new (w.alloc (.cells #[.string s] 9)) (.cells #[.slice none 0 0] 33)
    rw [World.size_alloc] at h
    exact h
  · rw [Below.heap_alloc _ _ _ (by simp <;> omega), Below.heap_alloc _ _ _ (by simp)]
    have h := heap_alloc_new ((w.alloc (.cells #[.string s] 9)).alloc (.cells #[.slice none 0 0] 33)) (.cells #[.int .i64 0] 3)
    rw [World.size_alloc, World.size_alloc] at h
    exact h
  · unfold oneT
    rw [Below.heap_alloc _ _ _ (by simp)]
    have h := heap_alloc_new (((w.alloc (.cells #[.string s] 9)).alloc (.cells #[.slice none 0 0] 33)).alloc (.cells #[.int .i64 0] 3)) (.cells #[.bool false] 4)
    rw [World.size_alloc, World.size_alloc, World.size_alloc] at h
    exact h
  · have h := heap_alloc_new ((((w.alloc (.cells #[.string s] 9)).alloc (.cells #[.slice none 0 0] 33)).alloc (.cells #[.int .i64 0] 3)).alloc (.cells #[.bool false] 4)) (.cells #[.bool false] 4)
    rw [World.size_alloc, World.size_alloc, World.size_alloc, World.size_alloc] at h
    exact h
/-- the closure that adds a piece, called at byte tt -/
theorem SMem.add {N : Nat} {s : ByteArray} {w0 w : World} {o e : Bool} {f : Nat} {L : List (List UInt8)} (h : SMem N s w0 w o e f L) (tt : Nat) (hs : s.size ≤ 4294967296) (hf : f ≤ tt) (ht : tt ≤ s.size) :
    Calls Tryd.prog 85 #[.int .i64 (tt : Int), .pointer (some ⟨N, 0, none⟩), .pointer (some ⟨N + 2, 0, none⟩), .pointer (some ⟨N + 1, 0, none⟩)] w fun e' w' =>
      e' = .returned (.tuple #[]) ∧ SMem N s w0 w' o e (tt + 1) (addL L ((s.data.toList.drop f).take (tt - f))) := by
  obtain ⟨v, h1, h2⟩ := h.out
  have hz := h.size
  refine (add_any N (N + 5) N (N + 1) (N + 2) f tt s v L w hs h.box h1 h.fr (by omega) (by omega) (by omega) (by omega) hz (by omega) h2 hf ht).mono ?_
  rintro e' w' ⟨he, hp⟩
  refine ⟨he, ⟨(hp.keep N (by omega) (by omega) (by omega)).trans h.box, hp.out, hp.fr, h.op.keep (hp.keep _ (by omega) (by omega) (by omega)), h.es.keep (hp.keep _ (by omega) (by omega) (by omega)), h.bel.trans hp.bel⟩⟩

/-- what Split hands back: the pieces in a new slice, and the error's number -/
def SplitPost (l : List UInt8) (sep : UInt8) (w : World) (e : Ending) (w' : World) : Prop :=
  ∃ v, e = .returned (.tuple #[v, .int .i64 (splitE l sep)]) ∧ ownS w' w.heap.size v (splitL l sep) ∧ Below w.heap.size w w'

theorem split_bad {l : List UInt8} {sep : UInt8} (h : badSep sep = true) : splitE l sep = 2 ∧ splitL l sep = [] := by simp [splitE, splitL, h]

theorem addL_cap (A : List (List UInt8)) (cur : List UInt8) : addL (A.take 65) cur = (addP A cur).take 65 := addL_take A cur
theorem ne_sep {c sep : UInt8} (h : ((c.toNat : Int) == (sep.toNat : Int)) = false) : ¬ (false = false ∧ c = sep) := by
  rintro ⟨_, rfl⟩; simp at h
theorem eq_sep {c sep : UInt8} (h : ((c.toNat : Int) == (sep.toNat : Int)) = true) : c = sep := by
  have := beq_iff_eq.1 h; exact UInt8.toNat_inj.1 (by omega)
theorem ne_sep34 {c sep : UInt8} (h : ((sep.toNat : Int) == 34) = false) (h2 : ((c.toNat : Int) != 34) = false) : ¬ (false = false ∧ c = sep) := by
  rintro ⟨_, rfl⟩; rw [bne_eq_false_iff_eq] at h2; rw [h2] at h; simp at h
set_option maxHeartbeats 4000000 in
theorem split_any (s : ByteArray) (sep : UInt8) (w : World) (hs : s.size ≤ 4294967296) :
    Calls Tryd.prog 72 #[.string s, .int .u8 (sep.toNat : Int)] w (SplitPost s.data.toList sep w) := by
  by_cases hbad : (sep.toNat : Int) = 34 ∨ (sep.toNat : Int) = 92
  · have hb : badSep sep = true := by
      unfold badSep
      rcases hbad with h | h
      · rw [show sep = 34 from UInt8.toNat_inj.1 (by simpa using (by omega : sep.toNat = 34))]; rfl
      · rw [show sep = 92 from UInt8.toNat_inj.1 (by simpa using (by omega : sep.toNat = 92))]; rfl
    obtain ⟨hE, hL⟩ := split_bad (l := s.data.toList) hb
    have HE := Lib.hid hE; have HL := Lib.hid hL
    clear hE hL hb
    have hq : ((sep.toNat : Int) == 34) = true ∨ (((sep.toNat : Int) == 34) = false ∧ ((sep.toNat : Int) == 92) = true) := by simp; omega
    clear hbad
    rcases hq with hq | ⟨hq, hq2⟩
    all_goals
      go_enter Tryd.func72, Tryd.ntmps72
      go_wp2_with fail
      go_ret2
      exact ⟨.slice none 0 0, by rw [HE.out]; rfl, by rw [HL.out]; exact ownS_nil _ _, (Below.refl _ _).alloc (Nat.le_refl _) _⟩
  · have hq : ((sep.toNat : Int) == 34) = false ∧ ((sep.toNat : Int) == 92) = false := by simp; omega
    have hb : badSep sep = false := by
      unfold badSep
      rw [Bool.or_eq_false_iff]; refine ⟨beq_eq_false_iff_ne.2 ?_, beq_eq_false_iff_ne.2 ?_⟩ <;> (rintro rfl; simp at hbad)
    have HX := Lib.hid hb
    clear hbad hb
    obtain ⟨hq, hq2⟩ := hq
    go_enter Tryd.func72, Tryd.ntmps72
    go_wp2_with (go_at_call 87; refine (quotes_any _).mono ?_; rintro e w' ⟨rfl, rfl⟩)
    go_loopw [10, 22] (fun l i wr => ∃ (k : Nat) (o e : Bool) (last : Int) (f : Nat) (A : List (List UInt8)), k ≤ s.size ∧ i = .int .i64 k ∧ l = .int .i64 last ∧ f ≤ k ∧
        ((o = false ∧ e = false ∧ (last = 0 ∨ last = 4)) ∨ (o = true ∧ (last = 1 ∨ last = 2 ∨ last = 3))) ∧ SMem w.heap.size s w wr o e f (A.take 65) ∧
        cutAt sep (s.data.toList.drop k) o e ((s.data.toList.drop f).take (k - f)) A = cutAt sep s.data.toList false false [] []) (fun _ i _ => s.size - (intOf i).toNat)
    case atStart =>
      exact ⟨0, false, false, 0, 0, [], Nat.zero_le _, rfl, rfl, Nat.le_refl _, .inl ⟨rfl, rfl, .inl rfl⟩, SMem.start s w, by simp⟩
    case round =>
      obtain ⟨k, o, e, last, f, A, hk, rfl, rfl, hfk, hinv, hm, hcut⟩ := hrel
      have HM := Lib.hid hm; clear hm
      have HC := Lib.hid hcut; clear hcut
      have cb := cell_of_one HM.out.box
      by_cases hlt : k < s.size
      · rcases hinv with ⟨rfl, rfl, hl⟩ | ⟨rfl, hl⟩
        · clear hl
          cases hc : ((s[k].toNat : Int) != 34)
          · go_wp2_with (first | (go_at_call 95; refine (q_open _ _ _ _ false HM.out.op HM.out.es hc).mono ?_; rintro e w' ⟨rfl, rfl⟩))
            go_roundw
            case rel => exact ⟨k + 1, true, false, 1, f, A, by omega, by go_num, rfl, by omega, .inr ⟨rfl, .inl rfl⟩, HM.out.setO true, by rw [← HC.out, cut_step hlt hfk (ne_sep34 hq hc), qn_open _ hc]⟩
            case measure => simp [intOf]; omega
          · cases hsp : ((s[k].toNat : Int) == (sep.toNat : Int))
            · go_wp2_with (first | (go_at_call 95; refine (q_out _ _ _ _ false HM.out.op HM.out.es hc).mono ?_; rintro e w' ⟨rfl, rfl⟩))
              go_roundw
              case rel => exact ⟨k + 1, false, false, 0, f, A, by omega, by go_num, rfl, by omega, .inl ⟨rfl, rfl, .inl rfl⟩, HM.out, by rw [← HC.out, cut_step hlt hfk (ne_sep hsp), qn_out _ hc]⟩
              case measure => simp [intOf]; omega
            · have hse := eq_sep hsp
              have HSE := Lib.hid hse; clear hse
              go_wp2_with (first | (go_at_call 95; refine (q_out _ _ _ _ false HM.out.op HM.out.es hc).mono ?_; rintro e w' ⟨rfl, rfl⟩) | (go_at_call 85; refine (HM.out.add k hs hfk hk).mono ?_; rintro e w' ⟨rfl, hm2⟩; have HM2 := Lib.hid hm2; clear hm2))
              go_roundw
              case rel => exact ⟨k + 1, false, false, 0, k + 1, addP A ((s.data.toList.drop f).take (k - f)), by omega, by go_num, rfl, by omega, .inl ⟨rfl, rfl, .inl rfl⟩, by rw [← addL_take]; exact HM2.out, by rw [← HC.out, cut_sep hlt HSE.out]⟩
              case measure => simp [intOf]; omega
        · clear hl
          cases e
          · cases h1 : ((s[k].toNat : Int) == 92)
            · cases h2 : ((s[k].toNat : Int) == 34)
              · go_wp2_with (first | (go_at_call 95; refine (q_held _ _ _ _ HM.out.op HM.out.es h1 h2).mono ?_; rintro e w' ⟨rfl, rfl⟩))
                go_roundw
                case rel => exact ⟨k + 1, true, false, 3, f, A, by omega, by go_num, rfl, by omega, .inr ⟨rfl, .inr (.inr rfl)⟩, HM.out, by rw [← HC.out, cut_step hlt hfk (by simp), qn_held h1 h2]⟩
                case measure => simp [intOf]; omega
              · go_wp2_with (first | (go_at_call 95; refine (q_close _ _ _ _ HM.out.op HM.out.es h1 h2).mono ?_; rintro e w' ⟨rfl, rfl⟩))
                go_roundw
                case rel => exact ⟨k + 1, false, false, 4, f, A, by omega, by go_num, rfl, by omega, .inl ⟨rfl, rfl, .inr rfl⟩, HM.out.setO false, by rw [← HC.out, cut_step hlt hfk (by simp), qn_close h1 h2]⟩
                case measure => simp [intOf]; omega
            · go_wp2_with (first | (go_at_call 95; refine (q_back _ _ _ _ HM.out.op HM.out.es h1).mono ?_; rintro e w' ⟨rfl, rfl⟩))
              go_roundw
              case rel => exact ⟨k + 1, true, true, 2, f, A, by omega, by go_num, rfl, by omega, .inr ⟨rfl, .inr (.inl rfl)⟩, HM.out.setE true, by rw [← HC.out, cut_step hlt hfk (by simp), qn_back h1]⟩
              case measure => simp [intOf]; omega
          · go_wp2_with (first | (go_at_call 95; refine (q_esc _ _ _ _ HM.out.op HM.out.es).mono ?_; rintro e w' ⟨rfl, rfl⟩))
            go_roundw
            case rel => exact ⟨k + 1, true, false, 3, f, A, by omega, by go_num, rfl, by omega, .inr ⟨rfl, .inr (.inr rfl)⟩, HM.out.setE false, by rw [← HC.out, cut_step hlt hfk (by simp), qn_esc]⟩
            case measure => simp [intOf]; omega
      · rcases hinv with ⟨rfl, rfl, hl⟩ | ⟨rfl, hl⟩
        · have hE := cut_end (sep := sep) (f := f) (o := false) (e := false) (A := A) hlt
          have HE : Hid (cutAt sep s.data.toList false false [] [] = some (addP A ((s.data.toList.drop f).take (s.size - f)))) := HC.out.symm.trans (hE.trans rfl)
          clear hE
          have hcon := HM.out.add s.size hs (by omega) (Nat.le_refl _)
          rw [addL_cap] at hcon
          generalize addP A ((s.data.toList.drop f).take (s.size - f)) = R at *
          have HCON := Lib.hid hcon; clear hcon
          by_cases h64 : 64 < R.length
          · have HL : Hid (splitE s.data.toList sep = 3 ∧ splitL s.data.toList sep = []) := by
              refine ⟨?_, ?_⟩ <;> simp [splitE, splitL, HX.out, HE.out, h64]
            have hr : 64 < (R.take 65).length := by rw [List.length_take]; omega
            generalize R.take 65 = L at *
            rcases hl with rfl | rfl
            all_goals
              go_wp2_with (go_at_call 85; refine HCON.out.mono ?_; rintro e w' ⟨rfl, hm2⟩; obtain ⟨v, hv1, hv2⟩ := hm2.out; obtain ⟨va, vc, rfl⟩ := hv2.form; have cv := cell_of_one hv1; have HM2 := Lib.hid hm2; clear hm2 hv1 hv2)
              go_ret2
              exact ⟨.slice none 0 0, by rw [HL.out.1]; rfl, by rw [HL.out.2]; exact ownS_nil _ _, HM2.out.bel⟩
          · have HL : Hid (splitE s.data.toList sep = 0 ∧ splitL s.data.toList sep = R.take 65) := by
              rw [List.take_of_length_le (by omega)]
              refine ⟨?_, ?_⟩ <;> simp [splitE, splitL, HX.out, HE.out, h64]
            have hr : (R.take 65).length ≤ 64 := by rw [List.length_take]; omega
            generalize R.take 65 = L at *
            rcases hl with rfl | rfl
            all_goals
              go_wp2_with (go_at_call 85; refine HCON.out.mono ?_; rintro e w' ⟨rfl, hm2⟩; obtain ⟨v, hv1, hv2⟩ := hm2.out; obtain ⟨va, vc, rfl⟩ := hv2.form; have cv := cell_of_one hv1; have HM2 := Lib.hid hm2; have HV := Lib.hid hv2; clear hm2 hv1 hv2)
              go_ret2
              exact ⟨.slice va L.length vc, by rw [HL.out.1]; rfl, by rw [HL.out.2]; exact HV.out.mono (by omega), HM2.out.bel⟩
        · have hE := cut_end (sep := sep) (f := f) (o := true) (e := e) (A := A) hlt
          have HL : Hid (splitE s.data.toList sep = 4 ∧ splitL s.data.toList sep = []) := by
            have h1 := HC.out.symm.trans hE
            refine ⟨?_, ?_⟩ <;> simp [splitE, splitL, HX.out, h1]
          clear hE
          rcases hl with rfl | rfl | rfl
          all_goals
            go_wp2_with fail
            go_ret2
            exact ⟨.slice none 0 0, by rw [HL.out.1]; rfl, by rw [HL.out.2]; exact ownS_nil _ _, HM.out.bel⟩
end Go.Proofs.YtdaiielhohdgiaaDoor

/- Which bytes of a list stand in quotes: the document's Quoted. -/
namespace Go.Proofs.YtdaiielhohdgiaaDoor
open Go.RowKit

/-- of each byte: does it stand in a quote, its marks counted -/
def qf : List UInt8 → Bool → Bool → List Bool
  | [], _, _ => []
  | c :: r, o, e => (o || (c.toNat : Int) == 34) :: qf r (qnext o e c).1 (qnext o e c).2
/-- is a quote open at the end -/
def qend : List UInt8 → Bool → Bool → Bool
  | [], o, _ => o
  | c :: r, o, e => qend r (qnext o e c).1 (qnext o e c).2
theorem qf_len : ∀ (l : List UInt8) (o e : Bool), (qf l o e).length = l.length
  | [], _, _ => rfl
  | c :: r, o, e => by simp [qf, qf_len r]

/-- block b is a row of just these truth values -/
def rowT (w : World) (b : Nat) (L : List Bool) : Prop := w.heap[b]? = some (.cells (L.map Value.bool).toArray 4 (0, 0))
theorem rowT.cell {w : World} {b : Nat} {L : List Bool} (h : rowT w b L) (j : Nat) (hj : j < L.length) : w.cell? ⟨b, j, none⟩ = some (.bool (L.getD j false)) := by
  unfold rowT at h
  simp [World.cell?, h, hj, List.getD]
theorem rowT.free {w : World} {b : Nat} {L : List Bool} (h : rowT w b L) (j : Nat) : w.frozen? ⟨b, j, none⟩ = false := by
  unfold rowT at h
  simp [World.frozen?, h]
theorem rowT.set {w : World} {b : Nat} {L : List Bool} (h : rowT w b L) (j : Nat) (x : Bool) : rowT (w.setCell ⟨b, j, none⟩ (.bool x)) b (L.set j x) := by
  unfold rowT at h ⊢
  rw [Lib.heap_setCell_same h]
  simp [List.map_set]
theorem rowT.keep {w w' : World} {b : Nat} {L : List Bool} (h : rowT w b L) (hk : w'.heap[b]? = w.heap[b]?) : rowT w' b L := hk.trans h

/-- what has been filled in of the row ahead of byte k -/
def filled (F : List Bool) (k : Nat) : List Bool := F.take k ++ List.replicate (F.length - k) false
theorem filled_len (F : List Bool) (k : Nat) (h : k ≤ F.length) : (filled F k).length = F.length := by simp [filled]; omega
theorem filled_all (F : List Bool) : filled F F.length = F := by simp [filled]
theorem filled_no {F : List Bool} {k : Nat} {T : List Bool} (h : F.drop k = false :: T) : filled F (k + 1) = filled F k := by
  have hk : k < F.length := by
    rcases Nat.lt_or_ge k F.length with h1 | h1
    · exact h1
    · rw [List.drop_of_length_le h1] at h; cases h
  have hg : F[k] = false := by have := List.drop_eq_getElem_cons hk; rw [h] at this; exact (List.cons.inj this).1.symm
  unfold filled
  rw [List.take_succ_eq_append_getElem hk, hg, show F.length - k = (F.length - (k + 1)) + 1 from by omega, List.replicate_succ]
  simp
theorem filled_yes {F : List Bool} {k : Nat} {T : List Bool} (h : F.drop k = true :: T) : (filled F k).set k true = filled F (k + 1) := by
  have hk : k < F.length := by
    rcases Nat.lt_or_ge k F.length with h1 | h1
    · exact h1
    · rw [List.drop_of_length_le h1] at h; cases h
  have hg : F[k] = true := by have := List.drop_eq_getElem_cons hk; rw [h] at this; exact (List.cons.inj this).1.symm
  unfold filled
  rw [List.take_succ_eq_append_getElem hk, hg, List.set_append_right _ _ (by simp; omega), show F.length - k = (F.length - (k + 1)) + 1 from by omega, List.replicate_succ]
  have : k - (F.take k).length = 0 := by simp; omega
  rw [this]; simp
theorem drop_tail {F : List Bool} {k : Nat} {b : Bool} {T : List Bool} (h : F.drop k = b :: T) : F.drop (k + 1) = T := by
  have := congrArg List.tail h; simpa using this

/-- where the reader stands: the flags still to come, and what will be open in the end -/
def At (s : ByteArray) (F : List Bool) (E : Bool) (k : Nat) (o e : Bool) : Prop := F.drop k = qf (s.data.toList.drop k) o e ∧ qend (s.data.toList.drop k) o e = E
theorem At.step {s : ByteArray} {F : List Bool} {E : Bool} {k : Nat} {o e o' e' f : Bool} (h : At s F E k o e) (hk : k < s.size) (hf : (o || (s[k].toNat : Int) == 34) = f) (hn : qnext o e s[k] = (o', e')) :
    F.drop k = f :: qf (s.data.toList.drop (k + 1)) o' e' ∧ At s F E (k + 1) o' e' := by
  obtain ⟨h1, h2⟩ := h
  rw [drop_at hk] at h1 h2
  simp only [qf, qend, hn, hf] at h1 h2
  exact ⟨h1, drop_tail h1, h2⟩

theorem infoT : (Tryd.prog.info? 4).map (fun i => (i.zero, i.size, i.bytes)) = some (some (.bool false), 1, 1) := by kernel_rfl

end Go.Proofs.YtdaiielhohdgiaaDoor

/- Lists cut at a byte: the document's Split; lists of texts that are the same. -/
namespace Go.Proofs.YtdaiielhohdgiaaDoor
open Go.RowKit

/-- where the document's Split stands ahead of byte k -/
def CInv (s : ByteArray) (sep : UInt8) (F : List Bool) (k f : Nat) (A : List (List UInt8)) : Prop :=
  (k ≤ s.size ∧ f ≤ k ∧ ∃ o e, At s F false k o e ∧ cutAt sep (s.data.toList.drop k) o e ((s.data.toList.drop f).take (k - f)) A = cutAt sep s.data.toList false false [] []) ∨
  (s.size < k ∧ cutAt sep s.data.toList false false [] [] = some A)

theorem CInv.cases {s : ByteArray} {sep : UInt8} {F : List Bool} {k f : Nat} {A : List (List UInt8)} (hs34 : ((sep.toNat : Int) == 34) = false) (h : CInv s sep F k f A) (hk : k < s.size) :
    (f ≤ k ∧ ((s[k].toNat : Int) != (sep.toNat : Int)) = true ∧ CInv s sep F (k + 1) f A) ∨
    (f ≤ k ∧ ((s[k].toNat : Int) != (sep.toNat : Int)) = false ∧ F.getD k false = true ∧ CInv s sep F (k + 1) f A) ∨
    (f ≤ k ∧ ((s[k].toNat : Int) != (sep.toNat : Int)) = false ∧ F.getD k false = false ∧ CInv s sep F (k + 1) (k + 1) (addP A ((s.data.toList.drop f).take (k - f)))) := by
  rcases h with ⟨_, hf, o, e, hat, hc⟩ | ⟨h, _⟩
  · have hst := hat.step (f := (o || (s[k].toNat : Int) == 34)) (o' := (qnext o e s[k]).1) (e' := (qnext o e s[k]).2) hk rfl rfl
    have hg : F.getD k false = (o || (s[k].toNat : Int) == 34) := by
      have := congrArg List.head? hst.1
      rw [List.head?_drop] at this
      simp [List.getD, this]
    by_cases hsep : s[k] = sep
    · have h1 : ((s[k].toNat : Int) != (sep.toNat : Int)) = false := by rw [bne_eq_false_iff_eq, hsep]
      have h34 : ((s[k].toNat : Int) == 34) = false := by rw [hsep]; exact hs34
      rw [h34, Bool.or_false] at hg
      cases ho : o
      · refine .inr (.inr ⟨hf, h1, by rw [hg, ho], .inl ⟨hk, Nat.le_refl _, false, false, ?_, ?_⟩⟩)
        · have := hst.2
          rw [ho] at this
          have hq := qn_out e (c := s[k]) (bne_iff_ne.2 (beq_eq_false_iff_ne.1 h34))
          rw [hq] at this
          exact this
        · rw [← hc, ho]; exact (cut_sep hk hsep).symm
      · refine .inr (.inl ⟨hf, h1, by rw [hg, ho], .inl ⟨hk, by omega, _, _, hst.2, ?_⟩⟩)
        rw [← hc]; exact (cut_step hk hf (by rintro ⟨h, _⟩; rw [ho] at h; cases h)).symm
    · refine .inl ⟨hf, bne_iff_ne.2 (fun h => hsep (UInt8.toNat_inj.1 (by omega))), .inl ⟨hk, by omega, _, _, hst.2, ?_⟩⟩
      rw [← hc]; exact (cut_step hk hf (fun h => hsep h.2)).symm
  · omega
theorem CInv.last {s : ByteArray} {sep : UInt8} {F : List Bool} {f : Nat} {A : List (List UInt8)} (h : CInv s sep F s.size f A) :
    f ≤ s.size ∧ CInv s sep F (s.size + 1) (s.size + 1) (addP A ((s.data.toList.drop f).take (s.size - f))) := by
  rcases h with ⟨_, hf, o, e, hat, hc⟩ | ⟨h, _⟩
  · refine ⟨hf, .inr ⟨by omega, ?_⟩⟩
    have ho : o = false := by have := hat.2; rw [drop_nil (Nat.le_refl _)] at this; exact this
    rw [← hc, cut_end (by omega), ho]; rfl
  · omega
theorem cut_none {sep : UInt8} : ∀ (l : List UInt8) (o e : Bool) (cur : List UInt8) (A : List (List UInt8)), (o = false → e = false) → ((sep.toNat : Int) == 34) = false → qend l o e = true → cutAt sep l o e cur A = none
  | [], o, e, cur, A, _, _, h => by simp only [qend] at h; simp [cutAt, h]
  | c :: r, o, e, cur, A, hoe, hs, h => by
    simp only [qend] at h
    unfold cutAt
    by_cases hc : o = false ∧ c = sep
    · rw [if_pos hc]
      obtain ⟨rfl, rfl⟩ := hc
      have hq := qn_out e (c := c) (bne_iff_ne.2 (beq_eq_false_iff_ne.1 hs))
      rw [hq] at h
      exact cut_none r false false [] _ (fun _ => rfl) hs h
    · rw [if_neg hc]
      refine cut_none r _ _ _ _ ?_ hs h
      unfold qnext
      cases o <;> cases e <;> simp <;> (repeat' split) <;> simp

theorem addP_len (A : List (List UInt8)) (cur : List UInt8) : (addP A cur).length ≤ A.length + 1 := by unfold addP; split <;> simp

end Go.Proofs.YtdaiielhohdgiaaDoor

/- What the statements of layer 1 ask beside the functions: their own small helpers. -/
namespace Go.Proofs.YtdaiielhohdgiaaDoor
open Go.RowKit


def unqT (l : List UInt8) : List UInt8 := if unqE l == 4 && (unqS l).isEmpty then [45] else unqS l


theorem k_quoteS : bs (quoteS [97, 34, 98, 92]) = ⟨#[34, 97, 92, 34, 98, 92, 92, 34]⟩ := by decide
theorem k_quoteE : quoteE [97, 34, 98, 92] = 0 := by decide
theorem k_token : token [97, 45, 66, 126, 57] = true := by decide
theorem k_unq : bs (unqT [34, 97, 92, 34, 98, 34]) = ⟨#[97, 34, 98]⟩ := by decide
theorem k_lower : bs (lower [65, 66, 122, 45, 49]) = ⟨#[97, 98, 122, 45, 49]⟩ := by decide

end Go.Proofs.YtdaiielhohdgiaaDoor

/- The walks of the statements TextWords, TextQuotes and TextBack. -/
namespace Go.Proofs.YtdaiielhohdgiaaDoor
open Go.RowKit

/-- below the first world's blocks nothing has turned -/
def Bel (w0 w : World) : Prop := Below w0.heap.size w0 w
theorem Bel.refl (w : World) : Bel w w := Below.refl _ _
theorem carry {P : Program} {f : FuncId} {args : Array Value} {w0 w : World} {v : Value} (hb : Bel w0 w) (h : Calls P f args w fun e w' => e = .returned v ∧ Below w.heap.size w w') :
    Calls P f args w fun e w' => e = .returned v ∧ Bel w0 w' :=
  h.mono fun _ _ ⟨he, h2⟩ => ⟨he, Below.trans hb (h2.mono hb.size)⟩



end Go.Proofs.YtdaiielhohdgiaaDoor

/- Two lists of texts held against each other; the texts of a list as one. -/
namespace Go.Proofs.YtdaiielhohdgiaaDoor
open Go.RowKit

theorem below_dnX {B : Nat} {a w : World} (h : Below B a w) (n : Nat) : Below B a (w.drewN n) := ⟨h.os, h.tape, h.output, h.size, h.block⟩
theorem ownS.heap {w w' : World} {base : Nat} {v : Value} {l : List (List UInt8)} (h : ownS w base v l) (hh : w'.heap = w.heap) : ownS w' base v l := by
  refine ⟨h.1, ?_⟩
  rw [hh]; exact h.2

theorem take_eq_snoc {L1 L2 : List (List UInt8)} {k : Nat} (h1 : k < L1.length) (h2 : k < L2.length) (h : L1.take k = L2.take k) (he : L1.getD k [] = L2.getD k []) : L1.take (k + 1) = L2.take (k + 1) := by
  rw [List.take_succ_eq_append_getElem h1, List.take_succ_eq_append_getElem h2, h]
  simp [List.getD, h1, h2] at he
  rw [he]


theorem bs_lists (l : List (List UInt8)) : (l.map bs).map (fun x => x.data.toList) = l := by
  rw [List.map_map]
  have : (fun x : ByteArray => x.data.toList) ∘ bs = id := by funext x; simp
  rw [this, List.map_id]

/-- 'strings.Join' of a slice of the call's own. -/
theorem join_any (B : Nat) (v : Value) (L : List (List UInt8)) (sep : ByteArray) (w : World) (h : ownS w B v L) (hl : L.length ≤ 4294967296) (hlen : (Lib.join L sep.data.toList).length ≤ 140737488355328) :
    Calls Tryd.prog 41 #[v, .string sep] w fun e w' => e = .returned (.string (bs (Lib.join L sep.data.toList))) ∧ Below w.heap.size w w' := by
  rcases h.2 with ⟨rfl, hn⟩ | ⟨g, cap, cur, rfl, hb, hg, hnc, r⟩
  · have : L = [] := List.eq_nil_of_length_eq_zero hn
    subst this
    refine (Tryd.strings_Join_none none 0 sep w).mono ?_
    rintro e w' ⟨rfl, rfl⟩
    exact ⟨rfl, Below.refl _ _⟩
  · have hc := Tryd.strings_Join g 0 cap (L.map bs) sep w (fun j x hx => by
      have hj : j < L.length := by
        have := (List.getElem?_eq_some_iff.1 hx).1; simpa using this
      have h1 := World.ownsRow.cells h (g := g) rfl j (.string x) (by
        simp only [strCs, List.getElem?_map] at hx ⊢
        rw [List.getElem?_eq_getElem hj] at hx ⊢
        simp at hx ⊢; exact hx)
      rw [show (⟨g, 0, none⟩ : Addr).add j = ⟨g, 0 + j, none⟩ from by unfold Addr.add; split <;> simp_all] at h1
      exact h1) (Array.getElem?_eq_some_iff.1 hg).1 (by rw [List.length_map]; omega) (by rw [List.length_map]; exact hnc) (by rw [bs_lists]; exact hlen)
    rw [bs_lists, List.length_map] at hc
    exact hc

theorem inter_len (c : UInt8) : ∀ L : List (List UInt8), (Lib.join L [c]).length ≤ L.flatten.length + L.length
  | [] => by simp [Lib.join, List.intercalate]
  | [x] => by simp [Lib.join, List.intercalate]
  | x :: y :: r => by
    have h := inter_len c (y :: r)
    have e : Lib.join (x :: y :: r) [c] = x ++ [c] ++ Lib.join (y :: r) [c] := by simp [Lib.join, List.intercalate]
    rw [e]
    simp only [List.length_append, List.flatten_cons, List.length_cons, List.length_nil] at h ⊢
    omega

end Go.Proofs.YtdaiielhohdgiaaDoor

/- Two lists of texts held against each other; the statement TextSplits' walk. -/
namespace Go.Proofs.YtdaiielhohdgiaaDoor
open Go.RowKit

end Go.Proofs.YtdaiielhohdgiaaDoor

/- The statements of layer 1 that ask the library, too: a list's pieces as one text; the closed examples. -/
namespace Go.Proofs.YtdaiielhohdgiaaDoor
open Go.RowKit

def pieceT (l : List UInt8) (sep : UInt8) : List UInt8 :=
  if splitE l sep = 0 then Lib.join (splitL l sep) [124] else [101, 114, 114, 111, 114, 32] ++ [UInt8.ofNat (48 + splitE l sep).toNat]
def pieceI (l : List UInt8) (p : Int) : List UInt8 := pieceT l (UInt8.ofNat p.toNat)

theorem splitE_cases (l : List UInt8) (sep : UInt8) : splitE l sep = 0 ∨ (splitE l sep = 2 ∨ splitE l sep = 3 ∨ splitE l sep = 4) := by
  unfold splitE
  split
  · exact .inr (.inl rfl)
  · split
    · exact .inr (.inr (.inr rfl))
    · split
      · exact .inr (.inr (.inl rfl))
      · exact .inl rfl

theorem splitL_len (l : List UInt8) (sep : UInt8) : (splitL l sep).length ≤ 64 := by
  unfold splitL
  split
  · simp
  · split
    · simp
    · split
      · simp
      · omega

theorem cutAt_len {sep : UInt8} : ∀ (l : List UInt8) (o e : Bool) (cur : List UInt8) (A R : List (List UInt8)), cutAt sep l o e cur A = some R → R.flatten.length ≤ A.flatten.length + cur.length + l.length
  | [], o, e, cur, A, R, h => by
    unfold cutAt at h
    split at h
    · cases h
    · cases h
      unfold addP
      have := trim_le cur
      split <;> simp <;> omega
  | c :: r, o, e, cur, A, R, h => by
    unfold cutAt at h
    split at h
    · have h1 := cutAt_len r _ _ _ _ _ h
      have h2 : (addP A cur).flatten.length ≤ A.flatten.length + cur.length := by
        unfold addP
        have := trim_le cur
        split <;> simp <;> omega
      simp only [List.length_nil, List.length_cons] at h1 ⊢
      omega
    · have h1 := cutAt_len r _ _ _ _ _ h
      simp only [List.length_append, List.length_cons, List.length_nil] at h1 ⊢
      omega
theorem splitL_flat (l : List UInt8) (sep : UInt8) : (splitL l sep).flatten.length ≤ l.length := by
  unfold splitL
  split
  · simp
  · split
    · simp
    · rename_i a h
      split
      · simp
      · have := cutAt_len _ _ _ _ _ _ h; simpa using this
end Go.Proofs.YtdaiielhohdgiaaDoor
