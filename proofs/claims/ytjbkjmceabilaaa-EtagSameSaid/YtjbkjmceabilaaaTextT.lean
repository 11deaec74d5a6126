/- Lists cut at a byte: the text layer's Split. -/
import Derived.Test.YtjbkjmceabilaaaTextS
namespace Go.Proofs.Ytjbkjmceabilaaa
open Go.RowKit

structure SMem (N : Nat) (s : ByteArray) (w0 w : World) (o e : Bool) (f : Nat) (L : List (List UInt8)) : Prop where
  box : w.heap[N]? = some (.cells #[.string s] 9 (0, 0))
  out : ∃ v, w.heap[N + 1]? = some (.cells #[v] 28 (0, 0)) ∧ ownS w (N + 5) v L
  fr : w.heap[N + 2]? = some (.cells #[.int .i64 (f : Int)] 3 (0, 0))
  op : oneT w (N + 3) o
  es : oneT w (N + 4) e
  bel : Below N w0 w

theorem SMem.size {N : Nat} {s : ByteArray} {w0 w : World} {o e : Bool} {f : Nat} {L : List (List UInt8)} (h : SMem N s w0 w o e f L) : N + 5 ≤ w.heap.size := by
  have := lt_of_block h.es; omega
theorem SMem.setO {N : Nat} {s : ByteArray} {w0 w : World} {o e : Bool} {f : Nat} {L : List (List UInt8)} (h : SMem N s w0 w o e f L) (x : Bool) : SMem N s w0 (w.setCell ⟨N + 3, 0, none⟩ (.bool x)) x e f L := by
  obtain ⟨v, h1, h2⟩ := h.out
  refine ⟨?_, ⟨v, ?_, h2.setLow (a := ⟨N + 3, 0, none⟩) (by simp) _⟩, ?_, h.op.set _, h.es.other (by omega) _, h.bel.setCell (by simp) _⟩
  · rw [Below.heap_setCell _ _ _ _ (by simp)]; exact h.box
  · rw [Below.heap_setCell _ _ _ _ (by simp)]; exact h1
  · rw [Below.heap_setCell _ _ _ _ (by simp)]; exact h.fr
theorem SMem.setE {N : Nat} {s : ByteArray} {w0 w : World} {o e : Bool} {f : Nat} {L : List (List UInt8)} (h : SMem N s w0 w o e f L) (x : Bool) : SMem N s w0 (w.setCell ⟨N + 4, 0, none⟩ (.bool x)) o x f L := by
  obtain ⟨v, h1, h2⟩ := h.out
  refine ⟨?_, ⟨v, ?_, h2.setLow (a := ⟨N + 4, 0, none⟩) (by simp) _⟩, ?_, h.op.other (by omega) _, h.es.set _, h.bel.setCell (by simp) _⟩
  · rw [Below.heap_setCell _ _ _ _ (by simp)]; exact h.box
  · rw [Below.heap_setCell _ _ _ _ (by simp)]; exact h1
  · rw [Below.heap_setCell _ _ _ _ (by simp)]; exact h.fr

theorem SMem.start (s : ByteArray) (w : World) :
    SMem w.heap.size s w (((((w.alloc (.cells #[.string s] 9)).alloc (.cells #[.slice none 0 0] 28)).alloc (.cells #[.int .i64 0] 3)).alloc (.cells #[.bool false] 4)).alloc (.cells #[.bool false] 4)) false false 0 [] := by
  refine ⟨?_, ⟨.slice none 0 0, ?_, ownS_nil _ _⟩, ?_, ?_, ?_, ((((((Below.refl _ _).alloc (Nat.le_refl _) _).alloc (by simp) _).alloc (by simp; omega) _).alloc (by simp; omega) _).alloc (by simp; omega) _)⟩
  · rw [Below.heap_alloc _ _ _ (by simp <;> omega), Below.heap_alloc _ _ _ (by simp <;> omega), Below.heap_alloc _ _ _ (by simp <;> omega), Below.heap_alloc _ _ _ (by simp)]
    exact heap_alloc_new w _
  · rw [Below.heap_alloc _ _ _ (by simp <;> omega), Below.heap_alloc _ _ _ (by simp <;> omega), Below.heap_alloc _ _ _ (by simp)]
    have h := heap_alloc_new (w.alloc (.cells #[.string s] 9)) (.cells #[.slice none 0 0] 28)
    rw [World.size_alloc] at h
    exact h
  · rw [Below.heap_alloc _ _ _ (by simp <;> omega), Below.heap_alloc _ _ _ (by simp)]
    have h := heap_alloc_new ((w.alloc (.cells #[.string s] 9)).alloc (.cells #[.slice none 0 0] 28)) (.cells #[.int .i64 0] 3)
    rw [World.size_alloc, World.size_alloc] at h
    exact h
  · unfold oneT
    rw [Below.heap_alloc _ _ _ (by simp)]
    have h := heap_alloc_new (((w.alloc (.cells #[.string s] 9)).alloc (.cells #[.slice none 0 0] 28)).alloc (.cells #[.int .i64 0] 3)) (.cells #[.bool false] 4)
    rw [World.size_alloc, World.size_alloc, World.size_alloc] at h
    exact h
  · have h := heap_alloc_new ((((w.alloc (.cells #[.string s] 9)).alloc (.cells #[.slice none 0 0] 28)).alloc (.cells #[.int .i64 0] 3)).alloc (.cells #[.bool false] 4)) (.cells #[.bool false] 4)
    rw [World.size_alloc, World.size_alloc, World.size_alloc, World.size_alloc] at h
    exact h
/-- the closure that adds a piece, called at byte tt -/
theorem SMem.add {N : Nat} {s : ByteArray} {w0 w : World} {o e : Bool} {f : Nat} {L : List (List UInt8)} (h : SMem N s w0 w o e f L) (tt : Nat) (hs : s.size ≤ 4294967296) (hf : f ≤ tt) (ht : tt ≤ s.size) :
    Calls Try.prog 29 #[.int .i64 (tt : Int), .pointer (some ⟨N, 0, none⟩), .pointer (some ⟨N + 2, 0, none⟩), .pointer (some ⟨N + 1, 0, none⟩)] w fun e' w' =>
      e' = .returned (.tuple #[]) ∧ SMem N s w0 w' o e (tt + 1) (addL L ((s.data.toList.drop f).take (tt - f))) := by
  obtain ⟨v, h1, h2⟩ := h.out
  have hz := h.size
  refine (add_any N (N + 5) N (N + 1) (N + 2) f tt s v L w hs h.box h1 h.fr (by omega) (by omega) (by omega) (by omega) hz (by omega) h2 hf ht).mono ?_
  rintro e' w' ⟨he, hp⟩
  refine ⟨he, ⟨(hp.keep N (by omega) (by omega) (by omega)).trans h.box, hp.out, hp.fr, h.op.keep (hp.keep _ (by omega) (by omega) (by omega)), h.es.keep (hp.keep _ (by omega) (by omega) (by omega)), h.bel.trans hp.bel⟩⟩

/-- what Split hands back: the pieces in a new slice, and the error's number -/
def SplitPost (l : List UInt8) (sep : UInt8) (w : World) (e : Ending) (w' : World) : Prop :=
  ∃ v, e = .returned (.tuple #[v, .int .i64 (splitE l sep)]) ∧ ownS w' w.heap.size v (splitL l sep) ∧ Below w.heap.size w w'

theorem split_bad {l : List UInt8} {sep : UInt8} (h : badSep sep = true) : splitE l sep = 2 ∧ splitL l sep = [] := by simp [splitE, splitL, h]

theorem addL_cap (A : List (List UInt8)) (cur : List UInt8) : addL (A.take 65) cur = (addP A cur).take 65 := addL_take A cur
theorem ne_sep {c sep : UInt8} (h : ((c.toNat : Int) == (sep.toNat : Int)) = false) : ¬ (false = false ∧ c = sep) := by
  rintro ⟨_, rfl⟩; simp at h
theorem eq_sep {c sep : UInt8} (h : ((c.toNat : Int) == (sep.toNat : Int)) = true) : c = sep := by
  have := beq_iff_eq.1 h; exact UInt8.toNat_inj.1 (by omega)
theorem ne_sep34 {c sep : UInt8} (h : ((sep.toNat : Int) == 34) = false) (h2 : ((c.toNat : Int) != 34) = false) : ¬ (false = false ∧ c = sep) := by
  rintro ⟨_, rfl⟩; rw [bne_eq_false_iff_eq] at h2; rw [h2] at h; simp at h
set_option maxHeartbeats 4000000 in
theorem split_any (s : ByteArray) (sep : UInt8) (w : World) (hs : s.size ≤ 4294967296) :
    Calls Try.prog 21 #[.string s, .int .u8 (sep.toNat : Int)] w (SplitPost s.data.toList sep w) := by
  by_cases hbad : (sep.toNat : Int) = 34 ∨ (sep.toNat : Int) = 92
  · have hb : badSep sep = true := by
      unfold badSep
      rcases hbad with h | h
      · rw [show sep = 34 from UInt8.toNat_inj.1 (by simpa using (by omega : sep.toNat = 34))]; rfl
      · rw [show sep = 92 from UInt8.toNat_inj.1 (by simpa using (by omega : sep.toNat = 92))]; rfl
    obtain ⟨hE, hL⟩ := split_bad (l := s.data.toList) hb
    have HE := Lib.hid hE; have HL := Lib.hid hL
    clear hE hL hb
    have hq : ((sep.toNat : Int) == 34) = true ∨ (((sep.toNat : Int) == 34) = false ∧ ((sep.toNat : Int) == 92) = true) := by simp; omega
    clear hbad
    rcases hq with hq | ⟨hq, hq2⟩
    all_goals
      go_enter Try.func21, Try.ntmps21
      go_wp2_with fail
      go_ret2
      exact ⟨.slice none 0 0, by rw [HE.out]; rfl, by rw [HL.out]; exact ownS_nil _ _, (Below.refl _ _).alloc (Nat.le_refl _) _⟩
  · have hq : ((sep.toNat : Int) == 34) = false ∧ ((sep.toNat : Int) == 92) = false := by simp; omega
    have hb : badSep sep = false := by
      unfold badSep
      rw [Bool.or_eq_false_iff]; refine ⟨beq_eq_false_iff_ne.2 ?_, beq_eq_false_iff_ne.2 ?_⟩ <;> (rintro rfl; simp at hbad)
    have HX := Lib.hid hb
    clear hbad hb
    obtain ⟨hq, hq2⟩ := hq
    go_enter Try.func21, Try.ntmps21
    go_wp2_with (go_at_call 31; refine (quotes_any _).mono ?_; rintro e w' ⟨rfl, rfl⟩)
    go_loopw [10, 22] (fun l i wr => ∃ (k : Nat) (o e : Bool) (last : Int) (f : Nat) (A : List (List UInt8)), k ≤ s.size ∧ i = .int .i64 k ∧ l = .int .i64 last ∧ f ≤ k ∧
        ((o = false ∧ e = false ∧ (last = 0 ∨ last = 4)) ∨ (o = true ∧ (last = 1 ∨ last = 2 ∨ last = 3))) ∧ SMem w.heap.size s w wr o e f (A.take 65) ∧
        cutAt sep (s.data.toList.drop k) o e ((s.data.toList.drop f).take (k - f)) A = cutAt sep s.data.toList false false [] []) (fun _ i _ => s.size - (intOf i).toNat)
    case atStart =>
      exact ⟨0, false, false, 0, 0, [], Nat.zero_le _, rfl, rfl, Nat.le_refl _, .inl ⟨rfl, rfl, .inl rfl⟩, SMem.start s w, by simp⟩
    case round =>
      obtain ⟨k, o, e, last, f, A, hk, rfl, rfl, hfk, hinv, hm, hcut⟩ := hrel
      have HM := Lib.hid hm; clear hm
      have HC := Lib.hid hcut; clear hcut
      have cb := cell_of_one HM.out.box
      by_cases hlt : k < s.size
      · rcases hinv with ⟨rfl, rfl, hl⟩ | ⟨rfl, hl⟩
        · clear hl
          cases hc : ((s[k].toNat : Int) != 34)
          · go_wp2_with (first | (go_at_call 37; refine (q_open _ _ _ _ false HM.out.op HM.out.es hc).mono ?_; rintro e w' ⟨rfl, rfl⟩))
            go_roundw
            case rel => exact ⟨k + 1, true, false, 1, f, A, by omega, by go_num, rfl, by omega, .inr ⟨rfl, .inl rfl⟩, HM.out.setO true, by rw [← HC.out, cut_step hlt hfk (ne_sep34 hq hc), qn_open _ hc]⟩
            case measure => simp [intOf]; omega
          · cases hsp : ((s[k].toNat : Int) == (sep.toNat : Int))
            · go_wp2_with (first | (go_at_call 37; refine (q_out _ _ _ _ false HM.out.op HM.out.es hc).mono ?_; rintro e w' ⟨rfl, rfl⟩))
              go_roundw
              case rel => exact ⟨k + 1, false, false, 0, f, A, by omega, by go_num, rfl, by omega, .inl ⟨rfl, rfl, .inl rfl⟩, HM.out, by rw [← HC.out, cut_step hlt hfk (ne_sep hsp), qn_out _ hc]⟩
              case measure => simp [intOf]; omega
            · have hse := eq_sep hsp
              have HSE := Lib.hid hse; clear hse
              go_wp2_with (first | (go_at_call 37; refine (q_out _ _ _ _ false HM.out.op HM.out.es hc).mono ?_; rintro e w' ⟨rfl, rfl⟩) | (go_at_call 29; refine (HM.out.add k hs hfk hk).mono ?_; rintro e w' ⟨rfl, hm2⟩; have HM2 := Lib.hid hm2; clear hm2))
              go_roundw
              case rel => exact ⟨k + 1, false, false, 0, k + 1, addP A ((s.data.toList.drop f).take (k - f)), by omega, by go_num, rfl, by omega, .inl ⟨rfl, rfl, .inl rfl⟩, by rw [← addL_take]; exact HM2.out, by rw [← HC.out, cut_sep hlt HSE.out]⟩
              case measure => simp [intOf]; omega
        · clear hl
          cases e
          · cases h1 : ((s[k].toNat : Int) == 92)
            · cases h2 : ((s[k].toNat : Int) == 34)
              · go_wp2_with (first | (go_at_call 37; refine (q_held _ _ _ _ HM.out.op HM.out.es h1 h2).mono ?_; rintro e w' ⟨rfl, rfl⟩))
                go_roundw
                case rel => exact ⟨k + 1, true, false, 3, f, A, by omega, by go_num, rfl, by omega, .inr ⟨rfl, .inr (.inr rfl)⟩, HM.out, by rw [← HC.out, cut_step hlt hfk (by simp), qn_held h1 h2]⟩
                case measure => simp [intOf]; omega
              · go_wp2_with (first | (go_at_call 37; refine (q_close _ _ _ _ HM.out.op HM.out.es h1 h2).mono ?_; rintro e w' ⟨rfl, rfl⟩))
                go_roundw
                case rel => exact ⟨k + 1, false, false, 4, f, A, by omega, by go_num, rfl, by omega, .inl ⟨rfl, rfl, .inr rfl⟩, HM.out.setO false, by rw [← HC.out, cut_step hlt hfk (by simp), qn_close h1 h2]⟩
                case measure => simp [intOf]; omega
            · go_wp2_with (first | (go_at_call 37; refine (q_back _ _ _ _ HM.out.op HM.out.es h1).mono ?_; rintro e w' ⟨rfl, rfl⟩))
              go_roundw
              case rel => exact ⟨k + 1, true, true, 2, f, A, by omega, by go_num, rfl, by omega, .inr ⟨rfl, .inr (.inl rfl)⟩, HM.out.setE true, by rw [← HC.out, cut_step hlt hfk (by simp), qn_back h1]⟩
              case measure => simp [intOf]; omega
          · go_wp2_with (first | (go_at_call 37; refine (q_esc _ _ _ _ HM.out.op HM.out.es).mono ?_; rintro e w' ⟨rfl, rfl⟩))
            go_roundw
            case rel => exact ⟨k + 1, true, false, 3, f, A, by omega, by go_num, rfl, by omega, .inr ⟨rfl, .inr (.inr rfl)⟩, HM.out.setE false, by rw [← HC.out, cut_step hlt hfk (by simp), qn_esc]⟩
            case measure => simp [intOf]; omega
      · rcases hinv with ⟨rfl, rfl, hl⟩ | ⟨rfl, hl⟩
        · have hE := cut_end (sep := sep) (f := f) (o := false) (e := false) (A := A) hlt
          have HE : Hid (cutAt sep s.data.toList false false [] [] = some (addP A ((s.data.toList.drop f).take (s.size - f)))) := HC.out.symm.trans (hE.trans rfl)
          clear hE
          have hcon := HM.out.add s.size hs (by omega) (Nat.le_refl _)
          rw [addL_cap] at hcon
          generalize addP A ((s.data.toList.drop f).take (s.size - f)) = R at *
          have HCON := Lib.hid hcon; clear hcon
          by_cases h64 : 64 < R.length
          · have HL : Hid (splitE s.data.toList sep = 3 ∧ splitL s.data.toList sep = []) := by
              refine ⟨?_, ?_⟩ <;> simp [splitE, splitL, HX.out, HE.out, h64]
            have hr : 64 < (R.take 65).length := by rw [List.length_take]; omega
            generalize R.take 65 = L at *
            rcases hl with rfl | rfl
            all_goals
              go_wp2_with (go_at_call 29; refine HCON.out.mono ?_; rintro e w' ⟨rfl, hm2⟩; obtain ⟨v, hv1, hv2⟩ := hm2.out; obtain ⟨va, vc, rfl⟩ := hv2.form; have cv := cell_of_one hv1; have HM2 := Lib.hid hm2; clear hm2 hv1 hv2)
              go_ret2
              exact ⟨.slice none 0 0, by rw [HL.out.1]; rfl, by rw [HL.out.2]; exact ownS_nil _ _, HM2.out.bel⟩
          · have HL : Hid (splitE s.data.toList sep = 0 ∧ splitL s.data.toList sep = R.take 65) := by
              rw [List.take_of_length_le (by omega)]
              refine ⟨?_, ?_⟩ <;> simp [splitE, splitL, HX.out, HE.out, h64]
            have hr : (R.take 65).length ≤ 64 := by rw [List.length_take]; omega
            generalize R.take 65 = L at *
            rcases hl with rfl | rfl
            all_goals
              go_wp2_with (go_at_call 29; refine HCON.out.mono ?_; rintro e w' ⟨rfl, hm2⟩; obtain ⟨v, hv1, hv2⟩ := hm2.out; obtain ⟨va, vc, rfl⟩ := hv2.form; have cv := cell_of_one hv1; have HM2 := Lib.hid hm2; have HV := Lib.hid hv2; clear hm2 hv1 hv2)
              go_ret2
              exact ⟨.slice va L.length vc, by rw [HL.out.1]; rfl, by rw [HL.out.2]; exact HV.out.mono (by omega), HM2.out.bel⟩
        · have hE := cut_end (sep := sep) (f := f) (o := true) (e := e) (A := A) hlt
          have HL : Hid (splitE s.data.toList sep = 4 ∧ splitL s.data.toList sep = []) := by
            have h1 := HC.out.symm.trans hE
            refine ⟨?_, ?_⟩ <;> simp [splitE, splitL, HX.out, h1]
          clear hE
          rcases hl with rfl | rfl | rfl
          all_goals
            go_wp2_with fail
            go_ret2
            exact ⟨.slice none 0 0, by rw [HL.out.1]; rfl, by rw [HL.out.2]; exact ownS_nil _ _, HM.out.bel⟩
end Go.Proofs.Ytjbkjmceabilaaa
