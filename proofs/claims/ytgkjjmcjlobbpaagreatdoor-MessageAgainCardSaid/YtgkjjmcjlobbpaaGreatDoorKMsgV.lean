/- What is read, and written again: it is written, or too long. Lists of bytes alone. -/
import Derived.Test.YtgkjjmcjlobbpaaGreatDoorKMsgM
import Derived.Test.YtgkjjmcjlobbpaaGreatDoorKMsgQ
namespace Go.Proofs.YtgkjjmcjlobbpaaGreatDoor

theorem vis_may {l : List UInt8} (h : l.all visB = true) : l.all mayB = true := by
  rw [List.all_eq_true] at h ⊢
  intro c hc
  have := h c hc
  unfold visB visI at this
  unfold mayB mayI
  simp at this ⊢
  omega
theorem chk_len {n : Nat} (h : n ≤ 1048576) : chkF (lenN, Lib.itoa (n : Int)) = 0 := by
  have ht := itoa_token n
  have hl := itoa_lenB h
  unfold lenB at hl
  rw [Bool.and_eq_true, decide_eq_true_eq] at hl
  unfold chkF mayF valV longF lenF
  have h1 : token lenN = true := by decide
  have h2 : lenN.length = 14 := by decide
  simp only [h1, vis_may (token_vis ht), trim_token ht, h2, beq_self_eq_true, Bool.and_self, if_true]
  rw [if_neg]
  rw [decide_eq_true_eq]
  omega
theorem writ_chk {l : List Fld} {n : Nat} {t : Bool} (h : checkL l = 0) (hn : n ≤ 1048576) : checkL (writL l n t) = 0 ∨ checkL (writL l n t) = 3 := by
  obtain ⟨_, h2⟩ := check_zero h
  unfold checkL
  split
  · exact .inr rfl
  · refine .inl (firstE_of fun f hf => ?_)
    unfold writL at hf
    rcases List.mem_append.1 hf with hf | hf
    · unfold delL at hf; exact h2 f (List.mem_filter.1 hf).1
    · split at hf
      · rw [List.mem_singleton.1 hf]; exact chk_len hn
      · cases hf
theorem headP_err {st : List UInt8} {l : List Fld} {n : Nat} {most : Int} {t : Bool} (h : checkL l = 0) (hn : n ≤ 1048576) : (headP st l n most t).2 = 0 ∨ (headP st l n most t).2 = 3 := by
  unfold headP
  split
  · exact .inr rfl
  · split
    · exact writ_chk h hn
    · split
      · exact .inr rfl
      · exact .inl rfl
theorem body_most (s : List UInt8) (f : Int × Int) (most : Int) (h0 : 0 ≤ most) : ((bodyM s f most).1.length : Int) ≤ most := by
  unfold bodyM
  split
  · split
    · simpa using h0
    · split
      · simpa using h0
      · simp only [List.length_take]; omega
  · split
    · have := (dec_used s most).2
      simp only
      unfold roomOf at this
      omega
    · split
      · split
        · simpa using h0
        · simp only; omega
      · simpa using h0
theorem msg_ok {se : Int} {fr : List Fld → Int × Int × Int} {most : Int} {s : List UInt8} (h : (msgL se fr most s).2.2.2 = 0) :
    se = 0 ∧ checkL (msgL se fr most s).1 = 0 ∧ (fr (msgL se fr most s).1).2.2 = 0 ∧ (msgL se fr most s).2.1 = (bodyM (restM s) ((fr (msgL se fr most s).1).1, (fr (msgL se fr most s).1).2.1) most).1 := by
  unfold msgL behindM at h ⊢
  split
  · rename_i h1
    rw [if_pos h1] at h
    exact absurd h h1
  · rename_i h1
    rw [if_neg h1] at h
    split
    · rename_i h2
      rw [if_pos h2] at h
      exact absurd h h2
    · rename_i h2
      rw [if_neg h2] at h
      split
      · rename_i h3
        rw [if_pos h3] at h
        exact absurd h h3
      · rename_i h3
        rw [if_neg h3] at h
        split
        · rename_i h4
          rw [if_pos h4] at h
          exact absurd h h4
        · rename_i h4
          rw [if_neg h4] at h
          split
          · rename_i h5
            rw [if_pos h5] at h
            exact absurd h h5
          · exact ⟨by simpa using h2, (parse_check _).1, by simpa using h4, rfl⟩
theorem again_ask {s : List UInt8} (h : (askM s).2.2.2 = 0) : ((putQ (mM s) (tM s) (nM s) (askM s).1 (askM s).2.1).2 = 0 ∨ (putQ (mM s) (tM s) (nM s) (askM s).1 (askM s).2.1).2 = 3) ∧ (askM s).2.1.length ≤ 65536 ∧ (mM s).length ≤ 8192 ∧ (tM s).length ≤ 8192 := by
  obtain ⟨h1, h2, h3, h4⟩ := msg_ok (se := reqE (startM s)) (fr := askR) (most := 65536) (s := s) h
  obtain ⟨g1, g2, g3, g4, g5⟩ := again_req h1
  have hb := body_most (restM s) ((askR (askM s).1).1, (askR (askM s).1).2.1) 65536 (by decide)
  rw [show msgL (reqE (startM s)) askR 65536 s = askM s from rfl] at h2 h3 h4
  rw [← h4] at hb
  have e1 : mM s = reqM (startM s) := if_pos h
  have e2 : tM s = reqT (startM s) := if_pos h
  have e3 : nM s = reqN (startM s) := if_pos h
  rw [← e1, ← e2, ← e3] at g1
  obtain ⟨k1, k2, k3, k4, k5⟩ := putRQ_0 g1
  have hm : (mM s).length ≤ (reqLine (mM s) (tM s) (nM s)).length := by unfold reqLine; simp only [List.length_append]; omega
  refine ⟨?_, by omega, by omega, by omega⟩
  unfold putQ
  rw [if_neg (by rw [g1]; decide)]
  split
  · exact headP_err h2 (by omega)
  · exact .inl rfl
theorem bare_tell {l : List Fld} {c : Int} (h : (tellR l c false).2.2 = 0) (hb : bareB c = true) : tellR l c false = (0, 0, 0) := by
  unfold tellR tellV at h ⊢
  split
  · rename_i h1
    rw [if_pos h1] at h
    exact absurd h h1
  · rw [hb]; rfl
theorem again_tell {s : List UInt8} (h : (tellM s false).2.2.2 = 0) : ((putY (cM s false) (rM s false) (oM s false) (tellM s false).1 (tellM s false).2.1 false).2 = 0 ∨ (putY (cM s false) (rM s false) (oM s false) (tellM s false).1 (tellM s false).2.1 false).2 = 3) ∧ (tellM s false).2.1.length ≤ 262144 ∧ (rM s false).length ≤ 8192 := by
  obtain ⟨h1, h2, h3, h4⟩ := msg_ok (se := staE (startM s)) (fr := fun l => tellR l (staC (startM s)) false) (most := 262144) (s := s) h
  obtain ⟨g1, g2, g3, g4, g5⟩ := again_sta h1
  have hb := body_most (restM s) ((tellR (tellM s false).1 (staC (startM s)) false).1, (tellR (tellM s false).1 (staC (startM s)) false).2.1) 262144 (by decide)
  rw [show msgL (staE (startM s)) (fun l => tellR l (staC (startM s)) false) 262144 s = tellM s false from rfl] at h2 h3 h4
  have e1 : cM s false = staC (startM s) := if_pos h
  have e2 : rM s false = staR (startM s) := if_pos h
  have e3 : oM s false = staN (startM s) := if_pos h
  rw [← e1] at h3 h4 hb
  rw [← h4] at hb
  rw [← e1, ← e2, ← e3] at g1
  obtain ⟨k1, k2, k3, k4⟩ := putSQ_0 g1
  have hm : (rM s false).length ≤ (staLine (cM s false) (rM s false) (oM s false)).length := by unfold staLine; simp only [List.length_append]; omega
  refine ⟨?_, by omega, by omega⟩
  unfold putY
  rw [if_neg (by rw [g1]; decide)]
  split
  · rename_i h5
    rw [Bool.and_eq_true] at h5
    rw [bare_tell h3 h5.2] at h4
    have : (tellM s false).2.1 = [] := h4
    rw [this] at h5
    exact absurd h5.1 (by decide)
  · split
    · exact headP_err h2 (by omega)
    · exact .inl rfl
theorem ask_none : askM [] = badM 6 := by kernel_rfl
theorem tell_none : tellM [] false = badM 6 := by kernel_rfl
theorem tell_body (s : List UInt8) : (tellM s false).2.1.length ≤ 262144 := by
  by_cases h : (tellM s false).2.2.2 = 0
  · exact (again_tell h).2.1
  · have h2 : tellM s false = badM (tellM s false).2.2.2 := msg_plain _ _ _ _ h
    rw [h2]; exact Nat.zero_le _
theorem rM_len (s : List UInt8) : (rM s false).length ≤ 8192 := by
  by_cases h : (tellM s false).2.2.2 = 0
  · exact (again_tell h).2.2
  · unfold rM; rw [if_neg h]; exact Nat.zero_le _
theorem unwantedU {ops : Array Oper} {o : Oper} {tmps : Array Value} {j d : Nat} {e : Bool} (hg : (ops[j]?).bind (·.dst) = some d) (ho : o.guard = some (j, e)) (ht : tmps[d]? = some undef) : Region.wanted o (yielded ops tmps) = false := by
  unfold Region.wanted yielded
  rw [ho]
  simp [hg, ht, undef]
end Go.Proofs.YtgkjjmcjlobbpaaGreatDoor
