/- Plain: how a reply that is kept is asked about, what a 304 makes of its fields. No program is read here. -/
import Derived.Test.YtdaiielhohdgiaaDoorKPlain
namespace Go.Proofs.YtdaiielhohdgiaaDoor

def fiveN : List (List UInt8) := [[99, 111, 110, 116, 101, 110, 116, 45, 108, 101, 110, 103, 116, 104], [99, 111, 110, 116, 101, 110, 116, 45, 101, 110, 99, 111, 100, 105, 110, 103], [99, 111, 110, 116, 101, 110, 116, 45, 116, 121, 112, 101], [99, 111, 110, 116, 101, 110, 116, 45, 114, 97, 110, 103, 101], [118, 97, 114, 121]]
def adN : List (List UInt8) := [[97, 103, 101], [100, 97, 116, 101]]
def etQ : List UInt8 := [101, 116, 97, 103]
def lmQ : List UInt8 := [108, 97, 115, 116, 45, 109, 111, 100, 105, 102, 105, 101, 100]
def inmQ : List UInt8 := [73, 102, 45, 78, 111, 110, 101, 45, 77, 97, 116, 99, 104]
def imsQ : List UInt8 := [73, 102, 45, 77, 111, 100, 105, 102, 105, 101, 100, 45, 83, 105, 110, 99, 101]
/-- what a 304 tells of the reply that is kept -/
def updL (rep : List Fld) : List Fld := delL (cleanL rep) fiveN
/-- the names that go -/
def goneN (news : List Fld) : List (List UInt8) := adN ++ news.map (·.1)
def remL (fs news : List Fld) : List Fld := delL fs (goneN news)
/-- the fields behind a 304 -/
def madeL (fs rep : List Fld) : List Fld := remL fs (updL rep) ++ updL rep

/-- fields that may be gone through -/
structure QF (l : List Fld) : Prop where
  len : l.length ≤ 160
  size : sizeL l ≤ 12000
/-- a statement's own -/
structure QH (l : List Fld) : Prop where
  len : l.length ≤ 80
  size : sizeL l ≤ 6000
theorem QH.qf {l : List Fld} (h : QH l) : QF l := ⟨by have := h.len; omega, by have := h.size; omega⟩
theorem QF.getLen {l : List Fld} (h : QF l) (n : List UInt8) : (getL l n).length ≤ 12320 := by
  have := get_len l n; have := h.len; have := h.size; omega
theorem QF.mem {l : List Fld} (h : QF l) {f : Fld} (hf : f ∈ l) : f.1.length ≤ 12000 ∧ f.2.length ≤ 12000 := by
  have := sizeL_mem hf; have := h.size; omega
theorem QF.filter {l : List Fld} (h : QF l) (p : Fld → Bool) : QF (l.filter p) := ⟨Nat.le_trans (List.length_filter_le _ _) h.len, Nat.le_trans (sizeL_filter p l) h.size⟩
theorem QH.filter {l : List Fld} (h : QH l) (p : Fld → Bool) : QH (l.filter p) := ⟨Nat.le_trans (List.length_filter_le _ _) h.len, Nat.le_trans (sizeL_filter p l) h.size⟩
theorem QH.clean {l : List Fld} (h : QH l) : QH (cleanL l) := h.filter _
theorem QH.upd {l : List Fld} (h : QH l) : QH (updL l) := h.clean.filter _
theorem QF.rem {l : List Fld} (h : QF l) (n : List Fld) : QF (remL l n) := h.filter _
theorem QH.rem {l : List Fld} (h : QH l) (n : List Fld) : QH (remL l n) := h.filter _
theorem QH.made {fs rep : List Fld} (h : QH fs) (k : QH rep) : QF (madeL fs rep) := by
  have h1 := h.rem (updL rep); have h2 := k.upd
  refine ⟨?_, ?_⟩
  · unfold madeL; rw [List.length_append]; have := h1.len; have := h2.len; omega
  · unfold madeL; rw [sizeL_append]; have := h1.size; have := h2.size; omega
theorem goneN_len {l : List Fld} : (goneN l).length = 2 + l.length := by unfold goneN adN; simp; omega
theorem goneN_mem {l : List Fld} (h : QF l) {x : List UInt8} (hx : x ∈ goneN l) : x.length ≤ 12000 := by
  rcases List.mem_append.1 hx with hx | hx
  · simp only [adN, List.mem_cons, List.not_mem_nil, or_false] at hx
    rcases hx with rfl | rfl <;> decide
  · obtain ⟨f, hf, rfl⟩ := List.mem_map.1 hx
    exact (h.mem hf).1

theorem hasN_append (a b : List (List UInt8)) (n : List UInt8) : hasN (a ++ b) n = (hasN a n || hasN b n) := by unfold hasN; rw [List.any_append]
theorem vals_append (a b : List Fld) (n : List UInt8) : valsL (a ++ b) n = valsL a n ++ valsL b n := by unfold valsL; rw [List.filter_append, List.map_append]
theorem del_append (a b : List Fld) (L : List (List UInt8)) : delL (a ++ b) L = delL a L ++ delL b L := by unfold delL; rw [List.filter_append]
theorem del_twice (a : List Fld) (L : List (List UInt8)) : delL (delL a L) L = delL a L := by
  unfold delL; rw [List.filter_filter]; congr 1; funext f; simp
theorem hasN_names {news : List Fld} {n : List UInt8} : hasN (news.map (·.1)) n = news.any (fun f => sameN f.1 n) := by unfold hasN; rw [List.any_map]; rfl
/-- what a 304 tells, field by field -/
theorem upd_eq (rep : List Fld) : updL rep = rep.filter (fun f => !hasN (hopL rep) f.1 && !hasN fiveN f.1) := by
  unfold updL cleanL delL
  rw [List.filter_filter]
  congr 1; funext f; exact Bool.and_comm _ _
theorem upd_mem {rep : List Fld} {f : Fld} (h : f ∈ updL rep) : f ∈ rep ∧ hasN (hopL rep) f.1 = false ∧ hasN fiveN f.1 = false := by
  rw [upd_eq] at h
  obtain ⟨h1, h2⟩ := List.mem_filter.1 h
  simp only [Bool.and_eq_true, Bool.not_eq_true'] at h2
  exact ⟨h1, h2⟩
theorem made_nil (fs : List Fld) : madeL fs [] = delL fs adN := by
  have h : updL [] = [] := rfl
  unfold madeL
  rw [h]
  unfold remL goneN
  rw [List.map_nil, List.append_nil, List.append_nil]
theorem del_own (l : List Fld) : delL l (goneN l) = [] := by
  refine List.filter_eq_nil_iff.2 fun f hf => ?_
  unfold goneN
  rw [hasN_append, hasN_names]
  have : l.any (fun g => sameN g.1 f.1) = true := List.any_eq_true.2 ⟨f, hf, sameN_refl _⟩
  simp [this]
/-- the same 304 once more changes nothing -/
theorem made_made (fs rep : List Fld) : madeL (madeL fs rep) rep = madeL fs rep := by
  have h : ∀ U, remL (remL fs U ++ U) U = remL fs U := fun U => by
    unfold remL
    rw [del_append, del_twice, del_own, List.append_nil]
  unfold madeL
  rw [h]
theorem vals_upd_five {rep : List Fld} {n : List UInt8} (h : hasN fiveN n = true) : valsL (updL rep) n = [] := vals_del h
/-- what stays -/
theorem made_five {fs rep : List Fld} {n : List UInt8} (h : hasN fiveN n = true) (ha : hasN adN n = false) : valsL (madeL fs rep) n = valsL fs n := by
  unfold madeL
  rw [vals_append, vals_upd_five h, List.append_nil]
  refine vals_del_other ?_
  unfold goneN
  rw [hasN_append, ha, hasN_names, Bool.false_or]
  refine Bool.eq_false_iff.2 fun hk => ?_
  obtain ⟨f, hf, he⟩ := List.any_eq_true.1 hk
  have h1 := (upd_mem hf).2.2
  rw [hasN_of_same he] at h1
  rw [h] at h1; cases h1
/-- what is told of a name behind a 304 -/
theorem made_told (fs rep : List Fld) (n : List UInt8) : valsL (madeL fs rep) n = valsL rep n ∨ valsL (madeL fs rep) n = valsL fs n ∨ (hasN adN n = true ∧ valsL (madeL fs rep) n = []) := by
  unfold madeL
  rw [vals_append]
  cases hk : (updL rep).any (fun f => sameN f.1 n)
  · have h0 : valsL (updL rep) n = [] := by
      unfold valsL
      rw [List.filter_eq_nil_iff.2 (fun f hf => by have := List.any_eq_false.1 hk f hf; simpa using this)]; rfl
    rw [h0, List.append_nil]
    cases ha : hasN adN n
    · exact .inr (.inl (vals_del_other (by unfold goneN; rw [hasN_append, ha, hasN_names, hk]; rfl)))
    · exact .inr (.inr ⟨rfl, vals_del (by unfold goneN; rw [hasN_append, ha]; rfl)⟩)
  · obtain ⟨f, hf, he⟩ := List.any_eq_true.1 hk
    obtain ⟨_, h1, h2⟩ := upd_mem hf
    rw [hasN_of_same he] at h1 h2
    refine .inl ?_
    rw [show valsL (remL fs (updL rep)) n = [] from vals_del (by unfold goneN; rw [hasN_append, hasN_names, hk, Bool.or_true]), List.nil_append]
    unfold updL cleanL
    rw [vals_del_other h2, vals_del_other h1]
end Go.Proofs.YtdaiielhohdgiaaDoor
