/- The reader's steps, forth and back: a text is a request's line just if nothing is amiss at its end. Nothing of the program is read here. -/
import Derived.Test.YtinfflceglgneaaDoorLine0
namespace Go.Proofs.YtinfflceglgneaaDoor
theorem take_end (s : ByteArray) (p : UInt8 → Bool) (k : Nat) (hk : k ≤ s.size) (hp : (s.data.toList.take k).all p = true) (h : ¬ k < s.size ∨ ∃ h : k < s.size, p s[k] = false) :
    s.data.toList.takeWhile p = s.data.toList.take k ∧ s.data.toList.dropWhile p = s.data.toList.drop k := by
  have hb : (s.data.toList.drop k).takeWhile p = [] := by
    rcases h with h | ⟨h, h2⟩
    · rw [List.drop_of_length_le (by rw [← size_len]; omega)]; rfl
    · rw [drop_at h, List.takeWhile_cons, if_neg (by simp [h2])]
  have h1 := takeWhile_append hp hb
  have h2 := dropWhile_append hp hb
  rw [List.take_append_drop] at h1 h2
  exact ⟨h1, h2⟩
theorem hasPrefix_append (p r : List UInt8) : Lib.hasPrefix (p ++ r) p = true := by
  unfold Lib.hasPrefix
  rw [List.isPrefixOf_iff_prefix]
  exact List.prefix_append p r
theorem trimPrefix_append (p r : List UInt8) : Lib.trimPrefix (p ++ r) p = r := by
  unfold Lib.trimPrefix
  rw [if_pos (hasPrefix_append p r)]
  simp
theorem hasPrefix_inv {s p : List UInt8} (h : Lib.hasPrefix s p = true) : s = p ++ Lib.trimPrefix s p := by
  unfold Lib.trimPrefix
  rw [if_pos h]
  unfold Lib.hasPrefix at h
  rw [List.isPrefixOf_iff_prefix] at h
  obtain ⟨r, rfl⟩ := h
  simp
theorem Rs.fixed_hit {p z : List UInt8} {x : Bool} {n : Int} : Rs.fixed ⟨p ++ z, x, n⟩ p = ⟨z, x, n⟩ := by
  simp only [Rs.fixed, hasPrefix_append, trimPrefix_append, Bool.not_true, Bool.or_false]
theorem Rs.fixed_inv {r : Rs} {p : List UInt8} (h : (r.fixed p).amiss = false) : r.amiss = false ∧ r.rest = p ++ (r.fixed p).rest := by
  simp only [Rs.fixed, Bool.or_eq_false_iff, Bool.not_eq_false'] at h ⊢
  exact ⟨h.1, hasPrefix_inv h.2⟩
theorem Rs.expect_inv {r : Rs} {b : Bool} (h : (r.expect b).amiss = false) : r.amiss = false ∧ b = true := by
  simpa only [Rs.expect, Bool.or_eq_false_iff, Bool.not_eq_false'] using h
theorem Rs.skip_got (r : Rs) (p : UInt8 → Bool) : r.rest = r.got p ++ (r.skip p).rest := (List.takeWhile_append_dropWhile (p := p) (l := r.rest)).symm
theorem Rs.num_inv {r : Rs} {k : Int} (h : (r.num k).amiss = false) : r.amiss = false ∧ ((r.got digB).length : Int) = k ∧ r.rest = r.got digB ++ (r.num k).rest := by
  obtain ⟨h1, h2⟩ := Rs.expect_inv h
  exact ⟨h1, by simpa using h2, r.skip_got digB⟩
theorem Rs.num1_inv {r : Rs} (h : (r.num 1).amiss = false) : r.amiss = false ∧ ∃ d, digB d = true ∧ r.got digB = [d] ∧ r.rest = d :: (r.num 1).rest := by
  obtain ⟨h1, h2, h3⟩ := Rs.num_inv h
  have h4 : (r.got digB).length = 1 := by omega
  obtain ⟨d, hd⟩ := List.length_eq_one_iff.1 h4
  have h5 := all_takeWhile digB r.rest
  rw [show r.rest.takeWhile digB = r.got digB from rfl, hd] at h5
  rw [hd] at h3
  exact ⟨h1, d, by simpa using h5, hd, h3⟩
theorem Rs.num1_hit {d : UInt8} {z : List UInt8} {x : Bool} {n : Int} (hd : digB d = true) (hz : z.takeWhile digB = []) : Rs.num ⟨d :: z, x, n⟩ 1 = ⟨z, x, n⟩ ∧ Rs.numV ⟨d :: z, x, n⟩ = (d.toNat : Int) - 48 := by
  have h1 : (d :: z).takeWhile digB = [d] := takeWhile_append (a := [d]) (by simpa using hd) hz
  have h2 : (d :: z).dropWhile digB = z := dropWhile_append (a := [d]) (by simpa using hd) hz
  constructor
  · simp only [Rs.num, Rs.skip, Rs.got, Rs.expect, h1, h2]; simp
  · simp only [Rs.numV, Rs.got, h1]; exact atoi1 hd
theorem Rs.num3_hit {a b c : UInt8} {z : List UInt8} {x : Bool} {n : Int} (ha : digB a = true) (hb : digB b = true) (hc : digB c = true) (hz : z.takeWhile digB = []) :
    Rs.num ⟨a :: b :: c :: z, x, n⟩ 3 = ⟨z, x, n⟩ ∧ Rs.numV ⟨a :: b :: c :: z, x, n⟩ = 100 * ((a.toNat : Int) - 48) + 10 * ((b.toNat : Int) - 48) + ((c.toNat : Int) - 48) := by
  have h1 : (a :: b :: c :: z).takeWhile digB = [a, b, c] := takeWhile_append (a := [a, b, c]) (by simp [ha, hb, hc]) hz
  have h2 : (a :: b :: c :: z).dropWhile digB = z := dropWhile_append (a := [a, b, c]) (by simp [ha, hb, hc]) hz
  constructor
  · simp only [Rs.num, Rs.skip, Rs.got, Rs.expect, h1, h2]; simp
  · simp only [Rs.numV, Rs.got, h1]; exact atoi3 ha hb hc
theorem three_of {l : List UInt8} (h : l.length = 3) : ∃ a b c, l = [a, b, c] := by
  match l, h with
  | [a, b, c], _ => exact ⟨a, b, c, rfl⟩
theorem Rs.num3_inv {r : Rs} (h : (r.num 3).amiss = false) : r.amiss = false ∧ ∃ a b c, digB a = true ∧ digB b = true ∧ digB c = true ∧ r.got digB = [a, b, c] ∧ r.rest = a :: b :: c :: (r.num 3).rest := by
  obtain ⟨h1, h2, h3⟩ := Rs.num_inv h
  have h4 : (r.got digB).length = 3 := by omega
  obtain ⟨a, b, c, hd⟩ := three_of h4
  have h5 := all_takeWhile digB r.rest
  rw [show r.rest.takeWhile digB = r.got digB from rfl, hd] at h5
  rw [hd] at h3
  simp only [List.all_cons, List.all_nil, Bool.and_true, Bool.and_eq_true] at h5
  exact ⟨h1, a, b, c, h5.1, h5.2.1, h5.2.2, hd, h3⟩
theorem not_dig46 : digB 46 = false := by decide
theorem not_dig32 : digB 32 = false := by decide
theorem not_vis32 : visB 32 = false := by decide
theorem nil_dig {c : UInt8} {l : List UInt8} (h : digB c = false) : (c :: l).takeWhile digB = [] := by rw [List.takeWhile_cons, if_neg (by simp [h])]
theorem nil_vis (l : List UInt8) : (32 :: l).takeWhile visB = [] := by rw [List.takeWhile_cons, if_neg (by simp [not_vis32])]

theorem Rs.ver_hit {d1 d2 : UInt8} {z : List UInt8} {x : Bool} {n : Int} (h1 : digB d1 = true) (h2 : digB d2 = true) (hz : z.takeWhile digB = []) :
    Rs.ver ⟨verL d1 d2 ++ z, x, n⟩ = ⟨z, x, (d1.toNat : Int) - 48⟩ ∧ Rs.verV ⟨verL d1 d2 ++ z, x, n⟩ = min ((d2.toNat : Int) - 48) 1 := by
  have e1 : Rs.fixed ⟨verL d1 d2 ++ z, x, n⟩ httpL = ⟨d1 :: 46 :: d2 :: z, x, n⟩ := by
    unfold verL; rw [List.append_assoc]; exact Rs.fixed_hit
  obtain ⟨e2, e3⟩ := Rs.num1_hit (x := x) (n := n) h1 (nil_dig (l := d2 :: z) not_dig46)
  have e4 : Rs.ver3 ⟨verL d1 d2 ++ z, x, n⟩ = ⟨d2 :: z, x, (d1.toNat : Int) - 48⟩ := by
    unfold Rs.ver3; rw [e1, e2, e3]
    exact Rs.fixed_hit (p := [46])
  obtain ⟨e5, e6⟩ := Rs.num1_hit (x := x) (n := (d1.toNat : Int) - 48) h2 hz
  constructor
  · unfold Rs.ver; rw [e4, e5]
  · unfold Rs.verV; rw [e4, e6]
theorem Rs.ver_inv {r : Rs} (h : r.ver.amiss = false) : r.amiss = false ∧ ∃ d1 d2, digB d1 = true ∧ digB d2 = true ∧ r.rest = verL d1 d2 ++ r.ver.rest := by
  obtain ⟨g1, d2, hd2, _, g2⟩ := Rs.num1_inv h
  obtain ⟨g3, g4⟩ := Rs.fixed_inv g1
  obtain ⟨g5, d1, hd1, _, g6⟩ := Rs.num1_inv (r := r.fixed httpL) g3
  obtain ⟨g7, g8⟩ := Rs.fixed_inv g5
  refine ⟨g7, d1, d2, hd1, hd2, ?_⟩
  have g4' : ((r.fixed httpL).num 1).rest = [46] ++ r.ver3.rest := g4
  rw [g8, g6, g4', g2]
  simp [verL, Rs.ver]

theorem req_is {s m t : List UInt8} {d1 d2 : UInt8} (h : IsReq s m t d1 d2) :
    (rs0 s).got visB = m ∧ (reqA s).got visB = t ∧ reqZ s = ⟨[], false, (d1.toNat : Int) - 48⟩ ∧ (reqB s).verV = min ((d2.toNat : Int) - 48) 1 := by
  have a1 : (rs0 s).got visB = m := by
    unfold rs0 Rs.got; rw [h.eq]; exact takeWhile_append (token_vis h.tok) (nil_vis _)
  have a2 : (rs0 s).skip visB = ⟨32 :: (t ++ 32 :: verL d1 d2), false, 0⟩ := by
    unfold rs0 Rs.skip; rw [h.eq]; simp only; rw [dropWhile_append (token_vis h.tok) (nil_vis _)]
  have a3 : reqA s = ⟨t ++ 32 :: verL d1 d2, false, 0⟩ := by
    unfold reqA; rw [a1, a2, h.tok]; exact Rs.fixed_hit (p := [32])
  have b1 : (reqA s).got visB = t := by
    rw [a3]; exact takeWhile_append h.vis (nil_vis _)
  have b2 : (reqA s).skip visB = ⟨32 :: verL d1 d2, false, 0⟩ := by
    rw [a3]; unfold Rs.skip; simp only; rw [dropWhile_append h.vis (nil_vis _)]
  have b3 : reqB s = ⟨verL d1 d2 ++ [], false, 0⟩ := by
    unfold reqB; rw [b1, b2, List.append_nil]
    have : t.isEmpty = false := by simpa using h.ne
    rw [this]; exact Rs.fixed_hit (p := [32])
  have b4 := Rs.ver_hit (x := false) (n := 0) h.dig1 h.dig2 (z := []) rfl
  refine ⟨a1, b1, ?_, ?_⟩
  · unfold reqZ; rw [b3]; exact b4.1
  · rw [b3]; exact b4.2
theorem req_of {s : List UInt8} (h : (reqZ s).amiss = false) (hr : (reqZ s).rest = []) : ∃ m t d1 d2, IsReq s m t d1 d2 := by
  obtain ⟨g1, d1, d2, hd1, hd2, g2⟩ := Rs.ver_inv h
  obtain ⟨g3, g4⟩ := Rs.fixed_inv (r := ((reqA s).skip visB).expect (!((reqA s).got visB).isEmpty)) g1
  obtain ⟨g5, g6⟩ := Rs.expect_inv g3
  obtain ⟨g7, g8⟩ := Rs.fixed_inv (r := ((rs0 s).skip visB).expect (token ((rs0 s).got visB))) g5
  obtain ⟨_, g9⟩ := Rs.expect_inv g7
  refine ⟨(rs0 s).got visB, (reqA s).got visB, d1, d2, ?_, g9, all_takeWhile _ _, by simpa using g6, hd1, hd2⟩
  have e1 : s = (rs0 s).got visB ++ ((rs0 s).skip visB).rest := (rs0 s).skip_got visB
  have e2 : ((rs0 s).skip visB).rest = [32] ++ (reqA s).rest := g8
  have e3 : (reqA s).rest = (reqA s).got visB ++ ((reqA s).skip visB).rest := (reqA s).skip_got visB
  have e4 : ((reqA s).skip visB).rest = [32] ++ (reqB s).rest := g4
  have e5 : (reqB s).rest = verL d1 d2 := by
    have : (reqB s).rest = verL d1 d2 ++ (reqZ s).rest := g2
    rw [this, hr, List.append_nil]
  rw [e5] at e4
  rw [e4] at e3
  rw [e3] at e2
  rw [e2] at e1
  exact e1

theorem sta_is {s r : List UInt8} {d1 d2 a b c : UInt8} (h : IsSta s d1 d2 a b c r) :
    (rs0 s).verV = min ((d2.toNat : Int) - 48) 1 ∧ (staA s).numV = 100 * ((a.toNat : Int) - 48) + 10 * ((b.toNat : Int) - 48) + ((c.toNat : Int) - 48) ∧ (staB s).got mayB = r ∧ staZ s = ⟨[], false, (d1.toNat : Int) - 48⟩ := by
  have ha : digB a = true := digB_iff.2 (by have := h.one; omega)
  have hb := digB_iff.1 h.dig3
  have hc := digB_iff.1 h.dig4
  have h1 := h.one
  have e0 : rs0 s = ⟨verL d1 d2 ++ 32 :: a :: b :: c :: 32 :: r, false, 0⟩ := by unfold rs0; rw [h.eq]
  have e1 := Rs.ver_hit (x := false) (n := 0) h.dig1 h.dig2 (z := 32 :: a :: b :: c :: 32 :: r) (nil_dig not_dig32)
  rw [← e0] at e1
  have e2 : staA s = ⟨a :: b :: c :: 32 :: r, false, (d1.toNat : Int) - 48⟩ := by
    unfold staA; rw [e1.1]; exact Rs.fixed_hit (p := [32])
  have e3 := Rs.num3_hit (x := false) (n := (d1.toNat : Int) - 48) ha h.dig3 h.dig4 (z := 32 :: r) (nil_dig not_dig32)
  rw [← e2] at e3
  have hv : validS (staA s).numV = true := by rw [e3.2]; unfold validS; simp; omega
  have e4 : staB s = ⟨r, false, (d1.toNat : Int) - 48⟩ := by
    unfold staB; rw [e3.1, hv]; exact Rs.fixed_hit (p := [32])
  have e5 : r.takeWhile mayB = r := by have := takeWhile_append (b := []) h.may rfl; rwa [List.append_nil] at this
  have e6 : r.dropWhile mayB = [] := by have := dropWhile_append (b := []) h.may rfl; rwa [List.append_nil] at this
  refine ⟨e1.2, e3.2, ?_, ?_⟩
  · rw [e4]; exact e5
  · unfold staZ; rw [e4]; unfold Rs.skip; simp only; rw [e6]
theorem sta_of {s : List UInt8} (h : (staZ s).amiss = false) (hr : (staZ s).rest = []) : ∃ d1 d2 a b c r, IsSta s d1 d2 a b c r := by
  have g0 : (staB s).amiss = false := h
  obtain ⟨g1, g2⟩ := Rs.fixed_inv (r := ((staA s).num 3).expect (validS (staA s).numV)) g0
  obtain ⟨g3, g4⟩ := Rs.expect_inv g1
  obtain ⟨g5, a, b, c, ha, hb, hc, g6, g7⟩ := Rs.num3_inv g3
  obtain ⟨g8, g9⟩ := Rs.fixed_inv (r := (rs0 s).ver) g5
  obtain ⟨_, d1, d2, hd1, hd2, g10⟩ := Rs.ver_inv g8
  have e1 : (staB s).rest = (staB s).got mayB := by
    have h1 := (staB s).skip_got mayB
    have h2 : ((staB s).skip mayB).rest = [] := hr
    rwa [h2, List.append_nil] at h1
  have e2 : ((staA s).num 3).rest = [32] ++ (staB s).rest := g2
  have e3 : (rs0 s).ver.rest = [32] ++ (staA s).rest := g9
  have e4 : s = verL d1 d2 ++ (rs0 s).ver.rest := g10
  have hv : (staA s).numV = 100 * ((a.toNat : Int) - 48) + 10 * ((b.toNat : Int) - 48) + ((c.toNat : Int) - 48) := by
    unfold Rs.numV; rw [g6]; exact atoi3 ha hb hc
  have ha' := digB_iff.1 ha
  have hb' := digB_iff.1 hb
  have hc' := digB_iff.1 hc
  have hone : 49 ≤ a.toNat ∧ a.toNat ≤ 53 := by
    rw [hv] at g4; unfold validS at g4; simp at g4; omega
  refine ⟨d1, d2, a, b, c, (staB s).got mayB, ?_, hd1, hd2, hone, hb, hc, all_takeWhile _ _⟩
  rw [e2, e1] at g7
  rw [g7] at e3
  rw [e3] at e4
  exact e4
end Go.Proofs.YtinfflceglgneaaDoor
