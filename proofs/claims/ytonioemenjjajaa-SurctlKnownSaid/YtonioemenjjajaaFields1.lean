/- Lists of header fields, plainly: which may be, their text, and what a text is as fields. Nothing of the program is read here. -/
import Derived.Test.YtonioemenjjajaaFields0
import Derived.Lib.IndexLaws
import Derived.Lib.IndexMore
namespace Go.Proofs.Ytonioemenjjajaa
def valV (v : List UInt8) : Bool := v.all mayB && (trim v == v)
def lenF (f : Fld) : Nat := f.1.length + 2 + f.2.length
def mayF (f : Fld) : Bool := token f.1 && valV f.2
def longF (f : Fld) : Bool := decide (2048 < lenF f)
def chkF (f : Fld) : Int := if mayF f then (if longF f then 3 else 0) else 4
def firstE : List Fld → Int
  | [] => 0
  | f :: r => if chkF f = 0 then firstE r else chkF f
def checkL (l : List Fld) : Int := if 64 < l.length then 3 else firstE l
def lineL (f : Fld) : List UInt8 := f.1 ++ [58, 32] ++ f.2
def linesL (l : List Fld) : List UInt8 := l.flatMap fun f => lineL f ++ [13, 10]
def putL (l : List Fld) : List UInt8 := if checkL l = 0 then linesL l else []
/-- the field of a line (without its end), and why it is none -/
def oneF (s : List UInt8) : Fld := ((Lib.cut s [58]).1, trim (Lib.cut s [58]).2.1)
def oneE (s : List UInt8) : Int := if (Lib.cut s [58]).2.2 then chkF (oneF s) else 4
def cutN (s : List UInt8) : List UInt8 × List UInt8 × Bool := Lib.cut s [13, 10]
theorem cut_le (s sep : List UInt8) : (Lib.cut s sep).1.length ≤ s.length ∧ (Lib.cut s sep).2.1.length ≤ s.length := by
  unfold Lib.cut; split
  · exact ⟨List.length_take_le' _ _, by simp⟩
  · exact ⟨Nat.le_refl _, by simp⟩
theorem cutN_lt {s : List UInt8} (h : (cutN s).2.2 = true) : (cutN s).2.1.length < s.length := by
  unfold cutN Lib.cut at h ⊢
  split at h
  · rename_i h0
    rw [if_pos h0]
    have := Lib.index_room s [13, 10] h0
    simp only [List.length_drop, List.length_cons, List.length_nil] at this ⊢
    omega
  · cases h
/-- what a text is as fields, behind those that were read -/
def parseW (s : List UInt8) (out : List Fld) : List Fld × Int :=
  if _h : (cutN s).2.2 = true then
    if out.length = 64 ∨ 2048 < (cutN s).1.length then ([], 3)
    else if oneE (cutN s).1 = 0 then parseW (cutN s).2.1 (out ++ [oneF (cutN s).1]) else ([], oneE (cutN s).1)
  else if s = [] then (out, 0) else ([], 4)
termination_by s.length
decreasing_by exact cutN_lt (by assumption)
def parseL (s : List UInt8) : List Fld × Int := parseW s []

theorem chkF_cases (f : Fld) : (mayF f = false ∧ chkF f = 4) ∨ (mayF f = true ∧ longF f = true ∧ chkF f = 3) ∨ (mayF f = true ∧ longF f = false ∧ chkF f = 0) := by
  unfold chkF
  cases h1 : mayF f <;> cases h2 : longF f <;> simp
theorem chkF_zero {f : Fld} (h : chkF f = 0) : mayF f = true ∧ lenF f ≤ 2048 := by
  rcases chkF_cases f with ⟨_, h2⟩ | ⟨_, _, h2⟩ | ⟨h1, h2, _⟩
  · omega
  · omega
  · refine ⟨h1, ?_⟩
    unfold longF at h2
    have := of_decide_eq_false h2
    omega

/-- how far the document's reader of a field has come: its value's first bytes -/
def upTo (v : ByteArray) (k : Nat) : Prop := (v.data.toList.take k).all mayB = true ∧ (0 < k → ∃ h : 0 < v.size, blankB v[0] = false) ∧ (k = v.size → 0 < k → ∃ h : v.size - 1 < v.size, blankB v[v.size - 1] = false)
theorem upTo_zero (v : ByteArray) : upTo v 0 := ⟨rfl, fun h => absurd h (by omega), fun _ h => absurd h (by omega)⟩
theorem upTo_end {v : ByteArray} (h : upTo v v.size) : valV v.data.toList = true := by
  obtain ⟨h1, h2, h3⟩ := h
  rw [take_all (by omega)] at h1
  unfold valV
  rw [h1, Bool.true_and]
  rcases Nat.eq_zero_or_pos v.size with h0 | h0
  · rw [nil_of h0]; rfl
  · obtain ⟨_, hb⟩ := h2 h0
    obtain ⟨_, hc⟩ := h3 rfl h0
    have : trim v.data.toList = v.data.toList := by
      unfold trim
      rw [ltrim_end h0 hb, rtrim_end h0 hc]
    rw [this]; simp
theorem valV_byte {v : ByteArray} {k : Nat} (h : k < v.size) (hb : mayB v[k] = false) : valV v.data.toList = false := by
  unfold valV; rw [all_not v mayB k h hb]; rfl
theorem dropWhile_lt {p : UInt8 → Bool} {l : List UInt8} {c : UInt8} (h : p c = true) : ((c :: l).dropWhile p).length ≤ l.length := by
  rw [List.dropWhile_cons, h]; exact dropWhile_le p l
theorem valV_first {v : ByteArray} (h : 0 < v.size) (hb : blankB v[0] = true) : valV v.data.toList = false := by
  unfold valV
  have hne : trim v.data.toList ≠ v.data.toList := by
    intro e
    have h1 : (trim v.data.toList).length ≤ (ltrim v.data.toList).length := by
      unfold trim rtrim; rw [List.length_reverse]
      exact Nat.le_trans (dropWhile_le _ _) (by rw [List.length_reverse]; exact Nat.le_refl _)
    have h2 : (ltrim v.data.toList).length ≤ v.data.toList.length - 1 := by
      rw [cons_of h]; unfold ltrim
      have := dropWhile_lt (l := v.data.toList.drop 1) hb
      simpa using this
    rw [e] at h1
    have h3 : v.data.toList.length = v.size := (size_len v).symm
    omega
  have : (trim v.data.toList == v.data.toList) = false := beq_eq_false_iff_ne.2 hne
  rw [this, Bool.and_false]
theorem valV_last {v : ByteArray} (h : v.size - 1 < v.size) (hb : blankB v[v.size - 1] = true) : valV v.data.toList = false := by
  unfold valV
  have h0 : 0 < v.size := by omega
  have hne : trim v.data.toList ≠ v.data.toList := by
    intro e
    by_cases hf : blankB v[0] = true
    · have := valV_first h0 hf
      unfold valV at this
      rw [e] at this
      simp only [beq_self_eq_true, Bool.and_true] at this
      -- the first byte is blank: trimmed it is shorter
      have h1 : (trim v.data.toList).length ≤ (ltrim v.data.toList).length := by
        unfold trim rtrim; rw [List.length_reverse]
        exact Nat.le_trans (dropWhile_le _ _) (by rw [List.length_reverse]; exact Nat.le_refl _)
      have h2 : (ltrim v.data.toList).length ≤ v.data.toList.length - 1 := by
        rw [cons_of h0]; unfold ltrim
        have := dropWhile_lt (l := v.data.toList.drop 1) hf
        simpa using this
      rw [e] at h1
      have h3 : v.data.toList.length = v.size := (size_len v).symm
      omega
    · have hf' : blankB v[0] = false := by simpa using hf
      have h1 : trim v.data.toList = rtrim v.data.toList := by unfold trim; rw [ltrim_end h0 hf']
      have h2 : (rtrim v.data.toList).length ≤ v.size - 1 := by
        rw [← rtrim_step h0 hb]
        unfold rtrim
        rw [List.length_reverse]
        exact Nat.le_trans (dropWhile_le _ _) (by rw [List.length_reverse, List.length_take]; omega)
      rw [← h1, e] at h2
      have h3 : v.data.toList.length = v.size := (size_len v).symm
      omega
  have : (trim v.data.toList == v.data.toList) = false := beq_eq_false_iff_ne.2 hne
  rw [this, Bool.and_false]
/-- one byte on -/
theorem upTo_next {v : ByteArray} {k : Nat} (h : upTo v k) (hk : k < v.size) (hm : mayB v[k] = true) (h0 : k = 0 → blankB v[k] = false) (h1 : k + 1 = v.size → blankB v[k] = false) : upTo v (k + 1) := by
  refine ⟨all_snoc v mayB k hk h.1 hm, fun _ => ?_, fun he _ => ?_⟩
  · rcases Nat.eq_zero_or_pos k with rfl | hp
    · exact ⟨hk, h0 rfl⟩
    · exact h.2.1 hp
  · refine ⟨by omega, ?_⟩
    have e : v.size - 1 = k := by omega
    simp only [e]
    exact h1 he
theorem firstE_step {l : List Fld} {k : Nat} (h : k < l.length) (hz : chkF l[k] = 0) : firstE (l.drop k) = firstE (l.drop (k + 1)) := by
  rw [List.drop_eq_getElem_cons h, firstE, if_pos hz]
theorem firstE_stop {l : List Fld} {k : Nat} (h : k < l.length) (hz : ¬ chkF l[k] = 0) : firstE (l.drop k) = chkF l[k] := by
  rw [List.drop_eq_getElem_cons h, firstE, if_neg hz]
theorem firstE_all {l : List Fld} (h : firstE l = 0) : ∀ f ∈ l, chkF f = 0 := by
  induction l with
  | nil => intro f hf; cases hf
  | cons g r ih =>
    unfold firstE at h
    by_cases hg : chkF g = 0
    · rw [if_pos hg] at h
      intro f hf
      rcases List.mem_cons.1 hf with rfl | hf
      · exact hg
      · exact ih h f hf
    · rw [if_neg hg] at h; exact absurd h hg
theorem firstE_of {l : List Fld} (h : ∀ f ∈ l, chkF f = 0) : firstE l = 0 := by
  induction l with
  | nil => rfl
  | cons g r ih => rw [firstE, if_pos (h g (by simp))]; exact ih fun f hf => h f (by simp [hf])
theorem check_zero {l : List Fld} (h : checkL l = 0) : l.length ≤ 64 ∧ ∀ f ∈ l, chkF f = 0 := by
  unfold checkL at h
  by_cases h1 : 64 < l.length
  · rw [if_pos h1] at h; omega
  · rw [if_neg h1] at h; exact ⟨by omega, firstE_all h⟩
theorem check_of {l : List Fld} (h1 : l.length ≤ 64) (h2 : ∀ f ∈ l, chkF f = 0) : checkL l = 0 := by
  unfold checkL; rw [if_neg (by omega)]; exact firstE_of h2
theorem line_len (f : Fld) : (lineL f).length = lenF f := by unfold lineL lenF; simp; omega
theorem lines_len {l : List Fld} (h : ∀ f ∈ l, chkF f = 0) : (linesL l).length ≤ 2050 * l.length := by
  induction l with
  | nil => simp [linesL]
  | cons f r ih =>
    have h1 := (chkF_zero (h f (by simp))).2
    have h2 := ih fun g hg => h g (by simp [hg])
    have h3 : linesL (f :: r) = (lineL f ++ [13, 10]) ++ linesL r := by simp [linesL]
    rw [h3, List.length_append, List.length_append, line_len, List.length_cons, List.length_cons, List.length_cons, List.length_nil]
    omega
theorem put_len (l : List Fld) : (putL l).length ≤ 131200 := by
  unfold putL; split
  · rename_i h
    obtain ⟨h1, h2⟩ := check_zero h
    have := lines_len h2
    omega
  · simp
theorem lines_snoc (l : List Fld) (f : Fld) : linesL (l ++ [f]) = linesL l ++ (lineL f ++ [13, 10]) := by simp [linesL]

/-! ### what is put is read -/
theorem mayB_no13 {c : UInt8} (h : mayB c = true) : c ≠ 13 := by rintro rfl; revert h; decide
theorem tokB_no {c : UInt8} (h : tokB c = true) : c ≠ 13 ∧ c ≠ 58 := by
  constructor <;> (rintro rfl; revert h; decide)
theorem occ_two (s : List UInt8) (i : Nat) (a b : UInt8) : Lib.occAt s [a, b] i = true ↔ (s[i]? = some a ∧ s[i + 1]? = some b) := by
  unfold Lib.occAt
  have h1 : s[i]? = (s.drop i)[0]? := by simp
  have h2 : s[i + 1]? = (s.drop i)[1]? := by simp
  rw [h1, h2]
  generalize s.drop i = l
  match l with
  | [] => simp [List.isPrefixOf]
  | [x] => simp [List.isPrefixOf]
  | x :: y :: r =>
    simp only [List.isPrefixOf, Bool.and_true, Bool.and_eq_true, beq_iff_eq, List.getElem?_cons_zero, List.getElem?_cons_succ, Option.some.injEq]
    exact ⟨fun ⟨h1, h2⟩ => ⟨h1.symm, h2.symm⟩, fun ⟨h1, h2⟩ => ⟨h1.symm, h2.symm⟩⟩
theorem occ_one (s : List UInt8) (i : Nat) (a : UInt8) : Lib.occAt s [a] i = true ↔ s[i]? = some a := by
  unfold Lib.occAt
  have h1 : s[i]? = (s.drop i)[0]? := by simp
  rw [h1]
  generalize s.drop i = l
  match l with
  | [] => simp [List.isPrefixOf]
  | x :: r =>
    simp only [List.isPrefixOf, Bool.and_true, beq_iff_eq, List.getElem?_cons_zero, Option.some.injEq]
    exact ⟨fun h => h.symm, fun h => h.symm⟩
/-- cut at the first instance -/
theorem cut_hit {s sep : List UInt8} {i : Nat} (hi : i ≤ s.length) (ho : Lib.occAt s sep i = true) (hn : ∀ j, j < i → Lib.occAt s sep j = false) : Lib.cut s sep = (s.take i, s.drop (i + sep.length), true) := by
  have h : Lib.index s sep = i := Lib.index_first hi ho hn
  unfold Lib.cut
  rw [h, if_pos (by omega)]
  simp
theorem cut_miss {s sep : List UInt8} (hn : ∀ j, j ≤ s.length → Lib.occAt s sep j = false) : Lib.cut s sep = (s, [], false) := by
  have h : Lib.index s sep = -1 := Lib.index_none hn
  unfold Lib.cut
  rw [h, if_neg (by omega)]
theorem cutN_of {a r : List UInt8} (h : ∀ c ∈ a, c ≠ 13) : cutN (a ++ 13 :: 10 :: r) = (a, r, true) := by
  unfold cutN
  rw [cut_hit (i := a.length) (by simp) ((occ_two _ _ _ _).2 ⟨by simp, by rw [List.getElem?_append_right (by omega)]; simp⟩) fun j hj => ?_]
  · simp
  · cases ho : Lib.occAt (a ++ 13 :: 10 :: r) [13, 10] j
    · rfl
    · have h1 := ((occ_two _ _ _ _).1 ho).1
      rw [List.getElem?_append_left hj, List.getElem?_eq_getElem hj] at h1
      exact absurd (Option.some.inj h1) (h _ (List.getElem_mem hj))
theorem cutC_of {a r : List UInt8} (h : ∀ c ∈ a, c ≠ 58) : Lib.cut (a ++ 58 :: r) [58] = (a, r, true) := by
  rw [cut_hit (i := a.length) (by simp) ((occ_one _ _ _).2 (by simp)) fun j hj => ?_]
  · simp
  · cases ho : Lib.occAt (a ++ 58 :: r) [58] j
    · rfl
    · have h1 := (occ_one _ _ _).1 ho
      rw [List.getElem?_append_left hj, List.getElem?_eq_getElem hj] at h1
      exact absurd (Option.some.inj h1) (h _ (List.getElem_mem hj))
theorem token_all {l : List UInt8} (h : token l = true) : ∀ c ∈ l, tokB c = true := by
  unfold token at h
  rw [Bool.and_eq_true] at h
  exact fun c hc => List.all_eq_true.1 h.2 c hc
theorem one_line {f : Fld} (h : chkF f = 0) : oneE (lineL f) = 0 ∧ oneF (lineL f) = f := by
  obtain ⟨h1, h2⟩ := chkF_zero h
  unfold mayF at h1
  rw [Bool.and_eq_true] at h1
  have hc : Lib.cut (lineL f) [58] = (f.1, 32 :: f.2, true) := by
    unfold lineL
    rw [List.append_assoc]
    exact cutC_of fun c hc => (tokB_no (token_all h1.1 c hc)).2
  have hv := h1.2
  unfold valV at hv
  rw [Bool.and_eq_true] at hv
  have ht : trim (32 :: f.2) = f.2 := by
    have : trim (32 :: f.2) = trim f.2 := by unfold trim ltrim; rfl
    rw [this]; exact beq_iff_eq.1 hv.2
  have hf : oneF (lineL f) = f := by unfold oneF; rw [hc]; show (f.1, trim (32 :: f.2)) = f; rw [ht]
  exact ⟨by unfold oneE; rw [hf, hc]; simpa using h, hf⟩
theorem line_no13 {f : Fld} (h : chkF f = 0) : ∀ c ∈ lineL f, c ≠ 13 := by
  obtain ⟨h1, h2⟩ := chkF_zero h
  unfold mayF at h1
  rw [Bool.and_eq_true] at h1
  have hv := h1.2
  unfold valV at hv
  rw [Bool.and_eq_true] at hv
  intro c hc
  unfold lineL at hc
  rcases List.mem_append.1 hc with hc | hc
  · rcases List.mem_append.1 hc with hc | hc
    · exact (tokB_no (token_all h1.1 c hc)).1
    · simp at hc; rcases hc with rfl | rfl <;> decide
  · exact mayB_no13 (List.all_eq_true.1 hv.1 c hc)
theorem parse_nil (out : List Fld) : parseW [] out = (out, 0) := by
  rw [parseW]
  have : (cutN []).2.2 = false := by decide
  simp [this]
theorem parse_lines : ∀ (l out : List Fld), out.length + l.length ≤ 64 → (∀ f ∈ l, chkF f = 0) → parseW (linesL l) out = (out ++ l, 0)
  | [], out, _, _ => by rw [List.append_nil]; exact parse_nil out
  | f :: r, out, hl, h => by
    have h0 := h f (by simp)
    have e : linesL (f :: r) = lineL f ++ 13 :: 10 :: linesL r := by simp [linesL]
    have hc := cutN_of (r := linesL r) (line_no13 h0)
    rw [← e] at hc
    have h3 := (chkF_zero h0).2
    obtain ⟨h4, h5⟩ := one_line h0
    rw [List.length_cons] at hl
    rw [parseW]
    simp only [hc, dite_true]
    rw [if_neg (by rw [line_len]; omega), if_pos h4, h5, parse_lines r _ (by simp; omega) (fun g hg => h g (by simp [hg]))]
    simp
theorem parse_put {l : List Fld} (h : checkL l = 0) : parseL (putL l) = (l, 0) := by
  obtain ⟨h1, h2⟩ := check_zero h
  unfold parseL putL
  rw [if_pos h, parse_lines l [] (by simpa using h1) h2]; rfl
theorem put_bad {l : List Fld} (h : ¬ checkL l = 0) : putL l = [] := by unfold putL; rw [if_neg h]
theorem oneE_zero {s : List UInt8} (h : oneE s = 0) : chkF (oneF s) = 0 := by
  unfold oneE at h; split at h
  · exact h
  · omega
/-- what is read may be; what can't be read is nothing -/
theorem parse_may : ∀ (n : Nat) (s : List UInt8) (out : List Fld), s.length ≤ n → out.length ≤ 64 → (∀ f ∈ out, chkF f = 0) →
    ((parseW s out).2 = 0 ∧ (parseW s out).1.length ≤ 64 ∧ ∀ f ∈ (parseW s out).1, chkF f = 0) ∨ (¬ (parseW s out).2 = 0 ∧ (parseW s out).1 = []) := by
  intro n
  induction n with
  | zero =>
    intro s out hs hl ho
    have : s = [] := List.eq_nil_of_length_eq_zero (by omega)
    subst this
    rw [parse_nil]; exact .inl ⟨rfl, hl, ho⟩
  | succ n ih =>
    intro s out hs hl ho
    rw [parseW]
    split
    · rename_i hc
      split
      · exact .inr ⟨by decide, rfl⟩
      · rename_i h1
        split
        · rename_i h2
          have hlt := cutN_lt hc
          exact ih _ _ (by omega) (by simp; omega) (fun f hf => by
            rcases List.mem_append.1 hf with hf | hf
            · exact ho f hf
            · rw [List.mem_singleton.1 hf]; exact oneE_zero h2)
        · rename_i h2
          exact .inr ⟨h2, rfl⟩
    · split
      · exact .inl ⟨rfl, hl, ho⟩
      · exact .inr ⟨by decide, rfl⟩
theorem parse_check (s : List UInt8) : checkL (parseL s).1 = 0 ∧ ((parseL s).2 = 0 ∨ (parseL s).1 = []) := by
  rcases parse_may s.length s [] (Nat.le_refl _) (by simp) (by simp) with ⟨h1, h2, h3⟩ | ⟨h1, h2⟩
  · exact ⟨check_of h2 h3, .inl h1⟩
  · refine ⟨?_, .inr h2⟩
    show checkL (parseW s []).1 = 0
    rw [h2]; rfl
end Go.Proofs.Ytonioemenjjajaa
