/- What a request's line and a reply's line are answered with, by what they are; how the document cuts them. Nothing of the program is read here. -/
import Derived.Test.YtinfflceglgneaaDoorLine2
namespace Go.Proofs.YtinfflceglgneaaDoor
def minB (d : UInt8) : Int := if d.toNat = 48 then 0 else 1
theorem min_dig {d : UInt8} (h : digB d = true) : min ((d.toNat : Int) - 48) 1 = minB d := by
  have := digB_iff.1 h
  unfold minB; split <;> omega
theorem fault_of (s : List UInt8) (r : Rs) (h : s.length ≤ 2048) : r.fault s = if r.amiss || !r.rest.isEmpty then 4 else if r.major = 1 then 0 else 9 := by
  unfold Rs.fault; rw [if_neg (by omega)]
theorem req_zero {s : List UInt8} (h : reqE s ≠ 0) : reqM s = [] ∧ reqT s = [] ∧ reqN s = 0 := by
  unfold reqM reqT reqN; rw [if_neg h, if_neg h, if_neg h]; exact ⟨rfl, rfl, rfl⟩
theorem req_long {s : List UInt8} (h : 2048 < s.length) : reqE s = 3 := by
  have : (reqZ s).fault s = 3 := by unfold Rs.fault; rw [if_pos h]
  unfold reqE; rw [this]; rfl
theorem req_none {s : List UInt8} (h : s.length ≤ 2048) (hn : ∀ m t d1 d2, ¬ IsReq s m t d1 d2) : reqE s = 4 := by
  have : (reqZ s).fault s = 4 := by
    rw [fault_of s _ h]
    by_cases ha : (reqZ s).amiss = true
    · rw [ha]; rfl
    · have ha := Bool.eq_false_iff.2 ha
      cases hr : (reqZ s).rest with
      | nil => obtain ⟨m, t, d1, d2, hh⟩ := req_of ha hr; exact absurd hh (hn m t d1 d2)
      | cons c l => rw [ha]; rfl
  unfold reqE; rw [this]; rfl
section
variable {s m t : List UInt8} {d1 d2 : UInt8} (h : s.length ≤ 2048) (hr : IsReq s m t d1 d2)
include h hr
theorem req_fault : (reqZ s).fault s = if d1.toNat = 49 then 0 else 9 := by
  rw [fault_of s _ h, (req_is hr).2.2.1]
  simp only [Bool.false_or, List.isEmpty_nil, Bool.not_true, Bool.false_eq_true, if_false]
  by_cases g : d1.toNat = 49
  · rw [if_pos g, if_pos (by omega)]
  · rw [if_neg g, if_neg (by omega)]
theorem req_ver (g : d1.toNat ≠ 49) : reqE s = 9 := by
  have := req_fault h hr
  rw [if_neg g] at this
  unfold reqE; rw [this]; rfl
theorem req_uri (g : d1.toNat = 49) (hl : 1024 < t.length) : reqE s = 3 := by
  have := req_fault h hr
  rw [if_pos g] at this
  unfold reqE; rw [this, (req_is hr).2.1, if_pos rfl, if_pos hl]
theorem req_ok (g : d1.toNat = 49) (hl : t.length ≤ 1024) : reqE s = 0 ∧ reqM s = m ∧ reqT s = t ∧ reqN s = minB d2 := by
  have h1 := req_fault h hr
  rw [if_pos g] at h1
  have h0 : reqE s = 0 := by unfold reqE; rw [h1, (req_is hr).2.1, if_pos rfl, if_neg (by omega)]
  refine ⟨h0, ?_, ?_, ?_⟩
  · unfold reqM; rw [if_pos h0]; exact (req_is hr).1
  · unfold reqT; rw [if_pos h0]; exact (req_is hr).2.1
  · unfold reqN; rw [if_pos h0, (req_is hr).2.2.2]; exact min_dig hr.dig2
end
theorem sta_zero {s : List UInt8} (h : staE s ≠ 0) : staC s = 0 ∧ staR s = [] ∧ staN s = 0 := by
  unfold staC staR staN; rw [if_neg h, if_neg h, if_neg h]; exact ⟨rfl, rfl, rfl⟩
theorem sta_long {s : List UInt8} (h : 2048 < s.length) : staE s = 3 := by
  unfold staE Rs.fault; rw [if_pos h]
theorem sta_none {s : List UInt8} (h : s.length ≤ 2048) (hn : ∀ d1 d2 a b c r, ¬ IsSta s d1 d2 a b c r) : staE s = 4 := by
  unfold staE
  rw [fault_of s _ h]
  by_cases ha : (staZ s).amiss = true
  · rw [ha]; rfl
  · have ha := Bool.eq_false_iff.2 ha
    cases hr : (staZ s).rest with
    | nil => obtain ⟨d1, d2, a, b, c, r, hh⟩ := sta_of ha hr; exact absurd hh (hn d1 d2 a b c r)
    | cons c l => rw [ha]; rfl
section
variable {s r : List UInt8} {d1 d2 a b c : UInt8} (h : s.length ≤ 2048) (hr : IsSta s d1 d2 a b c r)
include h hr
theorem sta_fault : staE s = if d1.toNat = 49 then 0 else 9 := by
  unfold staE
  rw [fault_of s _ h, (sta_is hr).2.2.2]
  simp only [Bool.false_or, List.isEmpty_nil, Bool.not_true, Bool.false_eq_true, if_false]
  by_cases g : d1.toNat = 49
  · rw [if_pos g, if_pos (by omega)]
  · rw [if_neg g, if_neg (by omega)]
theorem sta_ver (g : d1.toNat ≠ 49) : staE s = 9 := by rw [sta_fault h hr, if_neg g]
theorem sta_ok (g : d1.toNat = 49) : staE s = 0 ∧ staC s = 100 * ((a.toNat : Int) - 48) + 10 * ((b.toNat : Int) - 48) + ((c.toNat : Int) - 48) ∧ staR s = r ∧ staN s = minB d2 := by
  have h0 : staE s = 0 := by rw [sta_fault h hr, if_pos g]
  refine ⟨h0, ?_, ?_, ?_⟩
  · unfold staC; rw [if_pos h0]; exact (sta_is hr).2.1
  · unfold staR; rw [if_pos h0]; exact (sta_is hr).2.2.1
  · unfold staN; rw [if_pos h0, (sta_is hr).1]; exact min_dig hr.dig2
end

/-- is a text a version? -/
def isVer (l : List UInt8) : Bool := (l.length == 8) && (l.take 5 == httpL) && digB (l.getD 5 0) && (((l.getD 6 0).toNat : Int) == 46) && digB (l.getD 7 0)
theorem isVer_mk {d1 d2 : UInt8} (h1 : digB d1 = true) (h2 : digB d2 = true) : isVer (verL d1 d2) = true := by
  unfold isVer verL httpL; simp [h1, h2]
theorem isVer_inv {l : List UInt8} (h : isVer l = true) : l = verL (l.getD 5 0) (l.getD 7 0) ∧ digB (l.getD 5 0) = true ∧ digB (l.getD 7 0) = true := by
  unfold isVer at h
  simp only [Bool.and_eq_true] at h
  obtain ⟨⟨⟨⟨h1, h2⟩, h3⟩, h4⟩, h5⟩ := h
  refine ⟨?_, h3, h5⟩
  have h1 := beq_iff_eq.1 h1
  match l, h1 with
  | [a, b, c, d, e, f, g, i], _ =>
    have h2 := beq_iff_eq.1 h2
    have h4 := beq_iff_eq.1 h4
    simp at h2 h4
    have hg : g = 46 := UInt8.toNat_inj.1 (by have : (46 : UInt8).toNat = 46 := rfl; omega)
    subst hg
    simp [httpL] at h2
    simp [verL, httpL, h2]
/-- may byte j part a request's method from its target, byte n the target from the version? -/
def cutAt (s : List UInt8) (n j : Nat) : Bool := (((s.getD j 0).toNat : Int) == 32) && token (s.take j) && target ((s.drop (j + 1)).take (n - (j + 1)))
theorem u8_eq {c d : UInt8} (h : (c.toNat : Int) = d.toNat) : c = d := UInt8.toNat_inj.1 (by omega)
theorem isReq_at {s : List UInt8} {n j : Nat} (hn : s.length = n + 9) (hj : j < n) (h1 : ((s.getD n 0).toNat : Int) = 32) (h2 : isVer (s.drop (n + 1)) = true) (h3 : cutAt s n j = true) :
    IsReq s (s.take j) ((s.drop (j + 1)).take (n - (j + 1))) (s.getD (n + 6) 0) (s.getD (n + 8) 0) := by
  unfold cutAt at h3
  simp only [Bool.and_eq_true] at h3
  obtain ⟨⟨g1, g2⟩, g3⟩ := h3
  have g1 : s.getD j 0 = 32 := u8_eq (by simpa using beq_iff_eq.1 g1)
  have e1 : s.getD n 0 = 32 := u8_eq (by simpa using h1)
  unfold target at g3
  rw [Bool.and_eq_true] at g3
  obtain ⟨v1, v2, v3⟩ := isVer_inv h2
  have k1 : (s.drop (n + 1)).getD 5 0 = s.getD (n + 6) 0 := by simp [List.getD_eq_getElem?_getD]
  have k2 : (s.drop (n + 1)).getD 7 0 = s.getD (n + 8) 0 := by simp [List.getD_eq_getElem?_getD]
  rw [k1] at v1 v2
  rw [k2] at v1 v3
  refine ⟨?_, g2, g3.1, by simpa using g3.2, v2, v3⟩
  have d1 : s.drop n = 32 :: s.drop (n + 1) := by
    rw [List.drop_eq_getElem_cons (by omega)]
    congr 1
    rw [← e1]; simp [List.getD_eq_getElem?_getD, show n < s.length from by omega]
  have d2 : s.drop j = 32 :: s.drop (j + 1) := by
    rw [List.drop_eq_getElem_cons (by omega)]
    congr 1
    rw [← g1]; simp [List.getD_eq_getElem?_getD, show j < s.length from by omega]
  have d3 : s.drop (j + 1) = (s.drop (j + 1)).take (n - (j + 1)) ++ s.drop n := by
    have := List.take_append_drop (n - (j + 1)) (s.drop (j + 1))
    rw [List.drop_drop, show j + 1 + (n - (j + 1)) = n from by omega] at this
    exact this.symm
  rw [← v1, ← d1, ← d3, ← d2, List.take_append_drop]
theorem isReq_cut {s m t : List UInt8} {d1 d2 : UInt8} (h : IsReq s m t d1 d2) : ∃ n, s.length = n + 9 ∧ ((s.getD n 0).toNat : Int) = 32 ∧ isVer (s.drop (n + 1)) = true ∧ m.length < n ∧ cutAt s n m.length = true := by
  refine ⟨m.length + 1 + t.length, ?_, ?_, ?_, ?_, ?_⟩
  · rw [h.eq]; simp [verL, httpL]; omega
  · have : s.getD (m.length + 1 + t.length) 0 = 32 := by
      rw [h.eq, List.getD_eq_getElem?_getD, List.getElem?_append_right (by omega), show m.length + 1 + t.length - m.length = t.length + 1 from by omega, List.getElem?_cons_succ, List.getElem?_append_right (by omega)]
      simp
    rw [this]; rfl
  · have : s.drop (m.length + 1 + t.length + 1) = verL d1 d2 := by
      rw [h.eq, List.drop_append, List.drop_of_length_le (by omega), show m.length + 1 + t.length + 1 - m.length = t.length + 1 + 1 from by omega, List.drop_succ_cons, List.drop_append, List.drop_of_length_le (by omega), show t.length + 1 - t.length = 1 from by omega]
      rfl
    rw [this]; exact isVer_mk h.dig1 h.dig2
  · have := List.length_pos_iff.2 h.ne; omega
  · unfold cutAt
    have e1 : s.getD m.length 0 = 32 := by rw [h.eq, List.getD_eq_getElem?_getD, List.getElem?_append_right (by omega)]; simp
    have e2 : s.take m.length = m := by rw [h.eq]; simp
    have e3 : (s.drop (m.length + 1)).take (m.length + 1 + t.length - (m.length + 1)) = t := by
      rw [h.eq, List.drop_append, List.drop_of_length_le (by omega), show m.length + 1 - m.length = 1 from by omega, show m.length + 1 + t.length - (m.length + 1) = t.length from by omega]
      simp
    rw [e1, e2, e3, h.tok]
    have := h.ne
    unfold target; rw [h.vis]; simpa using h.ne

/-- is a text a reply's line, by its places? -/
def isSt (s : List UInt8) : Bool := decide (13 ≤ s.length) && isVer (s.take 8) && (((s.getD 8 0).toNat : Int) == 32) && decide (49 ≤ ((s.getD 9 0).toNat : Int)) && decide (((s.getD 9 0).toNat : Int) ≤ 53) && digB (s.getD 10 0) && digB (s.getD 11 0) && (((s.getD 12 0).toNat : Int) == 32) && (s.drop 13).all mayB
theorem isSta_of {s : List UInt8} (h : isSt s = true) : IsSta s (s.getD 5 0) (s.getD 7 0) (s.getD 9 0) (s.getD 10 0) (s.getD 11 0) (s.drop 13) := by
  unfold isSt at h
  simp only [Bool.and_eq_true] at h
  obtain ⟨⟨⟨⟨⟨⟨⟨⟨h0, h1⟩, h2⟩, h3⟩, h4⟩, h5⟩, h6⟩, h7⟩, h8⟩ := h
  have h0 : 13 ≤ s.length := of_decide_eq_true h0
  have h3 : 49 ≤ ((s.getD 9 0).toNat : Int) := of_decide_eq_true h3
  have h4 : ((s.getD 9 0).toNat : Int) ≤ 53 := of_decide_eq_true h4
  have g2 : s.getD 8 0 = 32 := u8_eq (by simpa using beq_iff_eq.1 h2)
  have g7 : s.getD 12 0 = 32 := u8_eq (by simpa using beq_iff_eq.1 h7)
  obtain ⟨v1, v2, v3⟩ := isVer_inv h1
  have k1 : (s.take 8).getD 5 0 = s.getD 5 0 := by simp [List.getD_eq_getElem?_getD]
  have k2 : (s.take 8).getD 7 0 = s.getD 7 0 := by simp [List.getD_eq_getElem?_getD]
  rw [k1] at v1 v2
  rw [k2] at v1 v3
  refine ⟨?_, v2, v3, by omega, h5, h6, h8⟩
  have d : ∀ k, k < 13 → s.drop k = s.getD k 0 :: s.drop (k + 1) := fun k hk => by
    rw [List.drop_eq_getElem_cons (by omega)]
    congr 1
    simp [List.getD_eq_getElem?_getD, show k < s.length from by omega]
  have e : s = s.take 8 ++ s.drop 8 := (List.take_append_drop 8 s).symm
  rw [v1, d 8 (by omega), d 9 (by omega), d 10 (by omega), d 11 (by omega), d 12 (by omega), g2, g7] at e
  exact e
theorem isSt_of {s r : List UInt8} {d1 d2 a b c : UInt8} (h : IsSta s d1 d2 a b c r) : isSt s = true := by
  have := h.one
  have h3 : (49 : Int) ≤ a.toNat := by omega
  have h4 : (a.toNat : Int) ≤ 53 := by omega
  have e : s = [72, 84, 84, 80, 47, d1, 46, d2, 32, a, b, c, 32] ++ r := by rw [h.eq]; rfl
  have hv := isVer_mk h.dig1 h.dig2
  have e8 : s.take 8 = verL d1 d2 := by rw [e]; rfl
  unfold isSt
  rw [e8, hv, e]
  simp [h.dig3, h.dig4, h3, h4, h.may]
end Go.Proofs.YtinfflceglgneaaDoor
