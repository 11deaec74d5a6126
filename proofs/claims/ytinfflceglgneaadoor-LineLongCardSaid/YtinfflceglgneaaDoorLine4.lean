/- What is put is read as it was made of; what is read may be put; no text is both kinds of line. Nothing of the program is read here. -/
import Derived.Test.YtinfflceglgneaaDoorLine3
namespace Go.Proofs.YtinfflceglgneaaDoor
theorem bit_dig (n : Int) : digB (bitB n) = true := by unfold bitB; split <;> decide
theorem min_bit {n : Int} (h : validM n = true) : minB (bitB n) = n := by
  unfold validM at h; simp at h
  rcases h with rfl | rfl <;> rfl
theorem minB_valid (d : UInt8) : validM (minB d) = true := by
  unfold validM minB; split <;> rfl
theorem verN_eq (n : Int) : verN n = verL 49 (bitB n) := rfl
theorem reqLine_is {m t : List UInt8} {n : Int} (hm : token m = true) (ht : target t = true) : IsReq (reqLine m t n) m t 49 (bitB n) := by
  unfold target at ht
  rw [Bool.and_eq_true] at ht
  refine ⟨?_, hm, ht.1, by simpa using ht.2, by decide, bit_dig n⟩
  unfold reqLine; rw [verN_eq]; simp
theorem code_dig {k : Nat} (h : k ≤ 9) : digB (UInt8.ofNat (48 + k)) = true ∧ ((UInt8.ofNat (48 + k)).toNat : Int) - 48 = k := by
  have : (UInt8.ofNat (48 + k)).toNat = 48 + k := by rw [UInt8.toNat_ofNat']; omega
  exact ⟨digB_iff.2 (by omega), by omega⟩
theorem staLine_is {c n : Int} {r : List UInt8} (hc : validS c = true) (hr : r.all mayB = true) :
    IsSta (staLine c r n) 49 (bitB n) (UInt8.ofNat (48 + c.toNat / 100)) (UInt8.ofNat (48 + c.toNat / 10 % 10)) (UInt8.ofNat (48 + c.toNat % 10)) r := by
  have hc' : 100 ≤ c ∧ c ≤ 599 := by unfold validS at hc; simpa using hc
  have h1 : (UInt8.ofNat (48 + c.toNat / 100)).toNat = 48 + c.toNat / 100 := by rw [UInt8.toNat_ofNat']; omega
  refine ⟨?_, by decide, bit_dig n, by omega, (code_dig (by omega)).1, (code_dig (by omega)).1, hr⟩
  unfold staLine code3; rw [verN_eq]; simp
theorem code_val {c : Int} (hc : validS c = true) :
    100 * (((UInt8.ofNat (48 + c.toNat / 100)).toNat : Int) - 48) + 10 * (((UInt8.ofNat (48 + c.toNat / 10 % 10)).toNat : Int) - 48) + (((UInt8.ofNat (48 + c.toNat % 10)).toNat : Int) - 48) = c := by
  have hc' : 100 ≤ c ∧ c ≤ 599 := by unfold validS at hc; simpa using hc
  rw [(code_dig (k := c.toNat / 100) (by omega)).2, (code_dig (k := c.toNat / 10 % 10) (by omega)).2, (code_dig (k := c.toNat % 10) (by omega)).2]
  omega
theorem not_tok47 : tokB 47 = false := by decide
theorem not_both {s m t r : List UInt8} {d1 d2 e1 e2 a b c : UInt8} (h1 : IsReq s m t d1 d2) (h2 : IsSta s e1 e2 a b c r) : False := by
  have e : s = [72, 84, 84, 80, 47] ++ (e1 :: 46 :: e2 :: 32 :: a :: b :: c :: 32 :: r) := by rw [h2.eq]; rfl
  rcases Nat.lt_or_ge m.length 5 with hl | hl
  · have g : s[m.length]? = some 32 := by rw [h1.eq, List.getElem?_append_right (by omega)]; simp
    have g2 : s[m.length]? = [72, 84, 84, 80, 47][m.length]? := by rw [e, List.getElem?_append_left (by simpa using hl)]
    rw [g] at g2
    have : m.length = 0 ∨ m.length = 1 ∨ m.length = 2 ∨ m.length = 3 ∨ m.length = 4 := by omega
    rcases this with h | h | h | h | h <;> · rw [h] at g2; simp at g2
  · have g : s[4]? = m[4]? := by rw [h1.eq, List.getElem?_append_left (by omega)]
    have g2 : s[4]? = some 47 := by rw [e]; rfl
    rw [g2] at g
    have hm : (47 : UInt8) ∈ m := List.mem_of_getElem? g.symm
    have := h1.tok
    unfold token at this
    rw [Bool.and_eq_true, List.all_eq_true] at this
    have := this.2 47 hm
    rw [not_tok47] at this; cases this

/-- what a text that may be a request's line was read as -/
theorem req_read {s : List UInt8} (h : reqE s = 0) : s.length ≤ 2048 ∧ ∃ m t d2, IsReq s m t 49 d2 ∧ t.length ≤ 1024 ∧ reqM s = m ∧ reqT s = t ∧ reqN s = minB d2 := by
  have hl : s.length ≤ 2048 := by
    rcases Nat.lt_or_ge 2048 s.length with g | g
    · rw [req_long g] at h; cases h
    · exact g
  refine ⟨hl, ?_⟩
  by_cases hn : ∃ m t d1 d2, IsReq s m t d1 d2
  · obtain ⟨m, t, d1, d2, hr⟩ := hn
    by_cases g : d1.toNat = 49
    · have hd : d1 = 49 := UInt8.toNat_inj.1 g
      subst hd
      rcases Nat.lt_or_ge 1024 t.length with g2 | g2
      · rw [req_uri hl hr g g2] at h; cases h
      · obtain ⟨_, a, b, c⟩ := req_ok hl hr g g2
        exact ⟨m, t, d2, hr, g2, a, b, c⟩
    · rw [req_ver hl hr g] at h; cases h
  · rw [req_none hl fun m t d1 d2 hr => hn ⟨m, t, d1, d2, hr⟩] at h; cases h
theorem sta_read {s : List UInt8} (h : staE s = 0) : s.length ≤ 2048 ∧ ∃ d2 a b c r, IsSta s 49 d2 a b c r ∧ staC s = 100 * ((a.toNat : Int) - 48) + 10 * ((b.toNat : Int) - 48) + ((c.toNat : Int) - 48) ∧ staR s = r ∧ staN s = minB d2 := by
  have hl : s.length ≤ 2048 := by
    rcases Nat.lt_or_ge 2048 s.length with g | g
    · rw [sta_long g] at h; cases h
    · exact g
  refine ⟨hl, ?_⟩
  by_cases hn : ∃ d1 d2 a b c r, IsSta s d1 d2 a b c r
  · obtain ⟨d1, d2, a, b, c, r, hr⟩ := hn
    by_cases g : d1.toNat = 49
    · have hd : d1 = 49 := UInt8.toNat_inj.1 g
      subst hd
      obtain ⟨_, p, q, z⟩ := sta_ok hl hr g
      exact ⟨d2, a, b, c, r, hr, p, q, z⟩
    · rw [sta_ver hl hr g] at h; cases h
  · rw [sta_none hl fun d1 d2 a b c r hr => hn ⟨d1, d2, a, b, c, r, hr⟩] at h; cases h
/-- not both kinds -/
theorem read_one {s : List UInt8} (h : reqE s = 0) : staE s ≠ 0 := fun h2 => by
  obtain ⟨_, m, t, d2, hr, _⟩ := req_read h
  obtain ⟨_, e2, a, b, c, r, hs, _⟩ := sta_read h2
  exact not_both hr hs

theorem putRQ_0 {m t : List UInt8} {n : Int} (h : putRQ m t n = 0) : token m = true ∧ target t = true ∧ validM n = true ∧ t.length ≤ 1024 ∧ (reqLine m t n).length ≤ 2048 := by
  unfold putRQ at h
  split at h
  · rename_i g
    rw [Bool.and_eq_true, Bool.and_eq_true] at g
    split at h
    · cases h
    · exact ⟨g.1.1, g.1.2, g.2, by omega, by omega⟩
  · cases h
theorem putSQ_0 {c n : Int} {r : List UInt8} (h : putSQ c r n = 0) : validS c = true ∧ r.all mayB = true ∧ validM n = true ∧ (staLine c r n).length ≤ 2048 := by
  unfold putSQ at h
  split at h
  · rename_i g
    rw [Bool.and_eq_true, Bool.and_eq_true] at g
    split at h
    · cases h
    · exact ⟨g.1.1, g.1.2, g.2, by omega⟩
  · cases h
/-- a request's line that is put: what it is read as, and as a reply's -/
theorem back_req {m t : List UInt8} {n : Int} (h : putRQ m t n = 0) : (reqE (putRL m t n) = 0 ∧ reqM (putRL m t n) = m ∧ reqT (putRL m t n) = t ∧ reqN (putRL m t n) = n) ∧ staE (putRL m t n) = 4 ∧ (putRL m t n).length ≤ 2048 := by
  obtain ⟨h1, h2, h3, h4, h5⟩ := putRQ_0 h
  have e : putRL m t n = reqLine m t n := by unfold putRL; rw [if_pos h]
  rw [e]
  have hr := reqLine_is (n := n) h1 h2
  obtain ⟨a, b, c, d⟩ := req_ok h5 hr (by decide) h4
  exact ⟨⟨a, b, c, by rw [d, min_bit h3]⟩, sta_none h5 fun _ _ _ _ _ _ hs => not_both hr hs, h5⟩
theorem back_sta {c n : Int} {r : List UInt8} (h : putSQ c r n = 0) : (staE (putSL c r n) = 0 ∧ staC (putSL c r n) = c ∧ staR (putSL c r n) = r ∧ staN (putSL c r n) = n) ∧ reqE (putSL c r n) = 4 ∧ (putSL c r n).length ≤ 2048 := by
  obtain ⟨h1, h2, h3, h5⟩ := putSQ_0 h
  have e : putSL c r n = staLine c r n := by unfold putSL; rw [if_pos h]
  rw [e]
  have hr := staLine_is (n := n) h1 h2
  obtain ⟨a, b, c', d⟩ := sta_ok h5 hr (by decide)
  exact ⟨⟨a, by rw [b, code_val h1], c', by rw [d, min_bit h3]⟩, req_none h5 fun _ _ _ _ hs => not_both hs hr, h5⟩
/-- what was read as a request's line may be put -/
theorem again_req {s : List UInt8} (h : reqE s = 0) :
    putRQ (reqM s) (reqT s) (reqN s) = 0 ∧ (putRL (reqM s) (reqT s) (reqN s)).length = s.length ∧ (putRL (reqM s) (reqT s) (reqN s)).take (s.length - 1) = s.take (s.length - 1) ∧ 1 ≤ s.length ∧ s.length ≤ 2048 := by
  obtain ⟨hl, m, t, d2, hr, h4, e1, e2, e3⟩ := req_read h
  have ht : target t = true := by unfold target; rw [hr.vis]; simpa using hr.ne
  have el : reqLine m t (minB d2) = m ++ 32 :: (t ++ 32 :: verL 49 (bitB (minB d2))) := (reqLine_is (n := minB d2) hr.tok ht).eq
  have es : s = (m ++ 32 :: (t ++ 32 :: [72, 84, 84, 80, 47, 49, 46])) ++ [d2] := by rw [hr.eq]; simp [verL, httpL]
  have el' : reqLine m t (minB d2) = (m ++ 32 :: (t ++ 32 :: [72, 84, 84, 80, 47, 49, 46])) ++ [bitB (minB d2)] := by rw [el]; simp [verL, httpL]
  have hlen : (reqLine m t (minB d2)).length = s.length := by rw [es, el']; simp
  have hq : putRQ m t (minB d2) = 0 := by
    unfold putRQ
    rw [hr.tok, ht, minB_valid]
    simp only [Bool.and_self, if_true]
    rw [if_neg (by omega)]
  have hp : putRL m t (minB d2) = reqLine m t (minB d2) := by unfold putRL; rw [if_pos hq]
  rw [e1, e2, e3, hp]
  have h1 : 1 ≤ s.length := by rw [es]; simp; omega
  refine ⟨hq, hlen, ?_, h1, hl⟩
  have key : ∀ (A : List UInt8) (x : UInt8), (A ++ [x]).take A.length = A := fun A x => by simp
  have hA : s.length - 1 = (m ++ 32 :: (t ++ 32 :: [72, 84, 84, 80, 47, 49, 46])).length := by rw [es]; simp
  rw [hA, el', key]
  conv => rhs; rw [es]
  rw [key]
theorem dig3 {a b c : UInt8} (ha : 49 ≤ a.toNat ∧ a.toNat ≤ 53) (hb : digB b = true) (hc : digB c = true) :
    code3 (100 * ((a.toNat : Int) - 48) + 10 * ((b.toNat : Int) - 48) + ((c.toNat : Int) - 48)) = [a, b, c] ∧ validS (100 * ((a.toNat : Int) - 48) + 10 * ((b.toNat : Int) - 48) + ((c.toNat : Int) - 48)) = true := by
  have hb := digB_iff.1 hb
  have hc := digB_iff.1 hc
  constructor
  · unfold code3
    have e : ∀ (x : UInt8) (k : Nat), 48 + k = x.toNat → UInt8.ofNat (48 + k) = x := fun x k h => by rw [h]; exact UInt8.ofNat_toNat
    rw [e a _ (by omega), e b _ (by omega), e c _ (by omega)]
  · unfold validS; simp; omega
theorem again_sta {s : List UInt8} (h : staE s = 0) :
    putSQ (staC s) (staR s) (staN s) = 0 ∧ (putSL (staC s) (staR s) (staN s)).length = s.length ∧ (putSL (staC s) (staR s) (staN s)).drop 8 = s.drop 8 ∧ 8 ≤ s.length ∧ s.length ≤ 2048 := by
  obtain ⟨hl, d2, a, b, c, r, hr, e1, e2, e3⟩ := sta_read h
  obtain ⟨g1, g2⟩ := dig3 hr.one hr.dig3 hr.dig4
  have es : s = verL 49 d2 ++ 32 :: a :: b :: c :: 32 :: r := hr.eq
  have el : staLine (100 * ((a.toNat : Int) - 48) + 10 * ((b.toNat : Int) - 48) + ((c.toNat : Int) - 48)) r (minB d2) = verL 49 (bitB (minB d2)) ++ 32 :: a :: b :: c :: 32 :: r := by
    unfold staLine; rw [g1, verN_eq]; simp
  have hlen : (staLine (100 * ((a.toNat : Int) - 48) + 10 * ((b.toNat : Int) - 48) + ((c.toNat : Int) - 48)) r (minB d2)).length = s.length := by rw [es, el]; simp [verL]
  have hq : putSQ (100 * ((a.toNat : Int) - 48) + 10 * ((b.toNat : Int) - 48) + ((c.toNat : Int) - 48)) r (minB d2) = 0 := by
    unfold putSQ
    rw [g2, hr.may, minB_valid]
    simp only [Bool.and_self, if_true]
    rw [if_neg (by omega)]
  have hp : putSL (100 * ((a.toNat : Int) - 48) + 10 * ((b.toNat : Int) - 48) + ((c.toNat : Int) - 48)) r (minB d2) = staLine (100 * ((a.toNat : Int) - 48) + 10 * ((b.toNat : Int) - 48) + ((c.toNat : Int) - 48)) r (minB d2) := by unfold putSL; rw [if_pos hq]
  rw [e1, e2, e3, hp]
  refine ⟨hq, hlen, ?_, by rw [es]; simp [verL, httpL], hl⟩
  rw [el]
  conv => rhs; rw [es]
  rfl
end Go.Proofs.YtinfflceglgneaaDoor
