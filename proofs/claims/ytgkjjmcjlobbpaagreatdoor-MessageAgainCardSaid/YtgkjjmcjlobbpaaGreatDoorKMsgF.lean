/- The document's head of a message, and its body. -/
import Derived.Test.YtgkjjmcjlobbpaaGreatDoorKChunkL
import Derived.Test.YtgkjjmcjlobbpaaGreatDoorKChunkP
import Derived.Test.YtgkjjmcjlobbpaaGreatDoorKFramingH
import Derived.Test.YtgkjjmcjlobbpaaGreatDoorKLineG
import Derived.Test.YtgkjjmcjlobbpaaGreatDoorKMsgA
namespace Go.Proofs.YtgkjjmcjlobbpaaGreatDoor
open Go.RowKit

theorem headF_of {s : List UInt8} {k : Nat} (h1 : k + 4 ≤ 8192) (h2 : Lib.occAt s [13, 10, 13, 10] k = true) (h3 : ∀ j, j < k → Lib.occAt s [13, 10, 13, 10] j = false) : headF s = (k, 0) :=
  find_of (by simp) h1 h2 h3
theorem headF_none {s : List UInt8} (h : ∀ j, j + 4 ≤ 8192 → Lib.occAt s [13, 10, 13, 10] j = false) : headF s = if 8192 ≤ s.length then (0, 3) else (0, 6) := find_none (by simp) h
theorem occ4_two {s : List UInt8} {k : Nat} (h : Lib.occAt s [13, 10, 13, 10] k = true) : Lib.occAt s [13, 10] k = true := by
  rw [occ_iff] at h ⊢
  intro j hj
  have hj4 : j < 4 := by simp at hj; omega
  rw [h j (by simpa using hj4)]
  rcases j with _ | _ | j
  · rfl
  · rfl
  · simp at hj; omega
/-- a head's parts, by where its first line ends -/
theorem top_parts {s : List UInt8} {k j : Nat} (h : headF s = (k, 0)) (hjk : j ≤ k) (ho : Lib.occAt s [13, 10] j = true) (hn : ∀ i, i < j → Lib.occAt s [13, 10] i = false) (hl : k + 4 ≤ s.length) :
    startM s = s.take j ∧ fieldM s = (s.drop (j + 2)).take (k - j) := by
  have htop : topM s = s.take (k + 2) := by unfold topM headN; rw [h]; rfl
  have hlen : (s.take (k + 2)).length = k + 2 := by rw [List.length_take]; omega
  have hcut : cutN (topM s) = ((s.take (k + 2)).take j, (s.take (k + 2)).drop (j + 2), true) := by
    unfold cutN
    rw [htop]
    exact cut_hit (by omega) (by rw [occ_take (by simp; omega)]; exact ho) (fun i hi => by rw [occ_take (by simp; omega)]; exact hn i hi)
  unfold startM fieldM
  rw [hcut]
  refine ⟨by rw [List.take_take, Nat.min_eq_left (by omega)], ?_⟩
  rw [List.drop_take, show k + 2 - (j + 2) = k - j from by omega]
/-- what the document says of a head -/
def headT (s : List UInt8) : Value :=
  if (headF s).2 = 0 then .tuple #[.string (bs (startM s)), .string (bs (fieldM s)), .int .i64 (headN s), .int .i64 0] else .tuple #[.string ⟨#[]⟩, .string ⟨#[]⟩, .int .i64 0, .int .i64 (headF s).2]
theorem headT_ok {s : List UInt8} {k j : Nat} (h : headF s = (k, 0)) (hjk : j ≤ k) (ho : Lib.occAt s [13, 10] j = true) (hn : ∀ i, i < j → Lib.occAt s [13, 10] i = false) (hl : k + 4 ≤ s.length) :
    headT s = .tuple #[.string (bs (s.take j)), .string (bs ((s.drop (j + 2)).take (k - j))), .int .i64 ((k : Int) + 4), .int .i64 0] := by
  obtain ⟨h1, h2⟩ := top_parts h hjk ho hn hl
  unfold headT headN
  rw [if_pos (by rw [h]), h1, h2, h]
  rfl
theorem headT_no {s : List UInt8} {e : Int} (h : headF s = (0, e)) (he : e ≠ 0) : headT s = .tuple #[.string ⟨#[]⟩, .string ⟨#[]⟩, .int .i64 0, .int .i64 e] := by
  unfold headT; rw [h, if_neg he]
theorem occ4_take {s : List UInt8} {k : Nat} : ((s.drop k).take 4 == [13, 10, 13, 10]) = Lib.occAt s [13, 10, 13, 10] k := by
  unfold Lib.occAt
  rw [Bool.eq_iff_iff, List.isPrefixOf_iff_prefix, List.prefix_iff_eq_take, beq_iff_eq]
  exact eq_comm

set_option maxHeartbeats 2000000 in
set_option maxRecDepth 100000 in
theorem rheadM_any (s : ByteArray) (w : World) (hs : s.size ≤ 1048576) :
    Calls Tryz.prog 30 #[.string s] w fun e w' => e = .returned (headT s.data.toList) ∧ ∃ k, w' = w.drewN k := by
  have HZ := Hold.mk (size_len s)
  have HT := Hold.mk (fun k j => @headT_ok s.data.toList k j)
  have HTN := Hold.mk (fun e => @headT_no s.data.toList e)
  generalize headT s.data.toList = T at *
  go_enter Tryz.func30, Tryz.ntmps30
  go_wp2_with fail
  go_loopw [6] (fun i wr => ∃ k : Nat, i = .int .i64 k ∧ k ≤ 8189 ∧ Hold (∀ j, j < k → Lib.occAt s.data.toList [13, 10, 13, 10] j = false) ∧ wr = w) (fun i _ => 8190 - (intOf i).toNat)
  case atStart => exact ⟨0, rfl, by omega, ⟨fun j hj => absurd hj (by omega)⟩, rfl⟩
  case round =>
    obtain ⟨k, rfl, hk, HA, rfl⟩ := hrel
    by_cases hlt : k + 4 ≤ s.size ∧ k + 4 ≤ 8192
    · obtain ⟨g1, g2⟩ := hlt
      have i1 : (k : Int) + 4 ≤ (s.size : Int) := by omega
      have i2 : (k : Int) + 4 ≤ 8192 := by omega
      have hq : (s.extract k (k + 4)).toList = (s.data.toList.drop k).take 4 := by rw [Lib.toList_data, Lib.extract_data]; congr 1; omega
      have ho4 : ((s.extract k (k + 4)).toList == [13, 10, 13, 10]) = Lib.occAt s.data.toList [13, 10, 13, 10] k := by rw [hq]; exact occ4_take
      clear hq
      cases ho : Lib.occAt s.data.toList [13, 10, 13, 10] k
      · rw [ho] at ho4
        have HAA : Hold (∀ j, j < k + 1 → Lib.occAt s.data.toList [13, 10, 13, 10] j = false) := by
          refine ⟨?_⟩
          intro j hj
          rcases Nat.lt_or_eq_of_le (Nat.le_of_lt_succ hj) with h | h
          · exact HA.out j h
          · rw [h, ho]
        clear ho
        go_wp2_with fail
        go_roundw
        case rel => exact ⟨k + 1, by go_num, by omega, HAA, trivial⟩
        case measure => simp [intOf]; omega
      · rw [ho] at ho4
        have HF := Hold.mk (headF_of g2 ho HA.out)
        have HO2 := Hold.mk (occ4_two ho)
        clear ho
        go_wp2_with fail
        go_loop [7] (fun i => ∃ j : Nat, i = .int .i64 j ∧ j ≤ k ∧ Hold (∀ i, i < j → Lib.occAt s.data.toList [13, 10] i = false)) (fun i => k + 1 - (intOf i).toNat)
        case atStart => exact ⟨0, rfl, Nat.zero_le _, ⟨fun j hj => absurd hj (by omega)⟩⟩
        case round =>
          obtain ⟨j, rfl, hj, HJ⟩ := hrel
          have j1 : (j : Int) + 1 < (s.size : Int) := by omega
          have hstep : Lib.occAt s.data.toList [13, 10] j = false → j < k ∧ Hold (∀ i, i < j + 1 → Lib.occAt s.data.toList [13, 10] i = false) := by
            intro h
            refine ⟨?_, ⟨?_⟩⟩
            · rcases Nat.lt_or_eq_of_le hj with h2 | h2
              · exact h2
              · rw [h2, HO2.out] at h; cases h
            · intro i hi
              rcases Nat.lt_or_eq_of_le (Nat.le_of_lt_succ hi) with h2 | h2
              · exact HJ.out i h2
              · rw [h2, h]
          rcases occ2_at (s := s) (k := j) with ⟨h, h1, h2, h3⟩ | ⟨h, h1, h2, h3⟩ | ⟨h, h1, h3⟩ | ⟨h, h3⟩
          · have q1 : ((s[j].toNat : Int) != 13) = false := by rw [h1]; rfl
            have q2 : ((s[j + 1].toNat : Int) != 10) = false := by rw [h2]; rfl
            have HR := Hold.mk (HT.out k j HF.out hj h3 HJ.out (by rw [← HZ.out]; exact g1))
            clear h1 h2 h3 hstep
            have x1 : s.extract 0 j = bs (s.data.toList.take j) := bs_of (Lib.extract_from_zero s j)
            have x2 : s.extract (j + 2) (k + 2) = bs ((s.data.toList.drop (j + 2)).take (k - j)) := bs_of (by rw [Lib.extract_data]; congr 1; omega)
            have HX1 := Hold.mk x1; have HX2 := Hold.mk x2
            clear x1 x2
            go_wp2_with fail
            go_quiet (fail)
            go_wp2_with fail
            refine bodyPost_ret (results_tmp4 rfl _ _ _) rfl ?_
            exact ⟨by rw [HR.out, ← HX1.out, ← HX2.out]; rfl, _, rfl⟩
          · have q1 : ((s[j].toNat : Int) != 13) = false := by rw [h1]; rfl
            have q2 : ((s[j + 1].toNat : Int) != 10) = true := by rw [bne_iff_ne]; intro e; exact h2 (UInt8.toNat_inj.1 (by simpa using (by omega : s[j + 1].toNat = 10)))
            obtain ⟨hjk, HJ2⟩ := hstep h3
            clear h1 h2 h3 hstep
            go_wp2_with fail
            go_round
            case rel => exact ⟨j + 1, by go_num, by omega, HJ2⟩
            case measure => simp [intOf]; omega
          · have q1 : ((s[j].toNat : Int) != 13) = true := by rw [bne_iff_ne]; intro e; exact h1 (UInt8.toNat_inj.1 (by simpa using (by omega : s[j].toNat = 13)))
            obtain ⟨hjk, HJ2⟩ := hstep h3
            clear h1 h3 hstep
            go_wp2_with fail
            go_round
            case rel => exact ⟨j + 1, by go_num, by omega, HJ2⟩
            case measure => simp [intOf]; omega
          · exact absurd (by omega : j + 1 < s.size) h
    · have HN := Hold.mk (headF_none (s := s.data.toList) fun j hj => by
        by_cases hjk : j < k
        · exact HA.out j hjk
        · cases ho : Lib.occAt s.data.toList [13, 10, 13, 10] j
          · rfl
          · have := occ_room ho (by simp)
            have hz := HZ.out
            simp at this
            omega)
      by_cases hl : 8192 ≤ s.size
      · have hl2 : (8192 : Int) ≤ (s.size : Int) := by omega
        have HR := Hold.mk (HTN.out 3 (by have h := HN.out; rw [if_pos (by rw [← HZ.out]; exact hl)] at h; exact h) (by decide))
        by_cases i1 : (k : Int) + 4 ≤ (s.size : Int)
        · have i2 : ¬ (k : Int) + 4 ≤ 8192 := by omega
          clear hlt
          go_wp2_with fail
          refine bodyPost_ret (results_tmp4 rfl _ _ _) rfl ?_
          exact ⟨by rw [HR.out]; rfl, 0, rfl⟩
        · clear hlt
          go_wp2_with fail
          refine bodyPost_ret (results_tmp4 rfl _ _ _) rfl ?_
          exact ⟨by rw [HR.out]; rfl, 0, rfl⟩
      · have hl2 : ¬ (8192 : Int) ≤ (s.size : Int) := by omega
        have HR := Hold.mk (HTN.out 6 (by have h := HN.out; rw [if_neg (by rw [← HZ.out]; exact hl)] at h; exact h) (by decide))
        have i1 : ¬ (k : Int) + 4 ≤ (s.size : Int) := by omega
        clear hlt
        go_wp2_with fail
        refine bodyPost_ret (results_tmp4 rfl _ _ _) rfl ?_
        exact ⟨by rw [HR.out]; rfl, 0, rfl⟩
end Go.Proofs.YtgkjjmcjlobbpaaGreatDoor

/- The document's body of a message; a request and a reply, read by the document. -/
namespace Go.Proofs.YtgkjjmcjlobbpaaGreatDoor
open Go.RowKit

theorem size_fields : ∀ (l : List Fld), (∀ f ∈ l, f.1.length + f.2.length ≤ 2048) → sizeL l ≤ 2048 * l.length
  | [], _ => by simp [sizeL]
  | f :: r, h => by
    have h1 := h f (by simp)
    have h2 := size_fields r fun g hg => h g (by simp [hg])
    unfold sizeL at h2 ⊢
    simp at h2 ⊢
    omega
theorem size_parse (s : List UInt8) : sizeL (parseL s).1 ≤ 1048576 := by
  obtain ⟨h1, h2⟩ := check_zero (parse_check s).1
  have := size_fields (parseL s).1 fun f hf => by
    have := (chkF_zero (h2 f hf)).2
    unfold lenF at this
    omega
  omega
theorem bodyR1 {s : List UInt8} {k n most : Int} (h : k = 1) (hn : ¬ most < n) : bodyM s (k, n) most = if (s.length : Int) < n then ([], 0, 6) else (s.take n.toNat, n, 0) := by
  subst h; unfold bodyM; simp only [if_true]; rw [if_neg hn]
theorem ret3 {a b c d e f : Value} (h1 : a = d) (h2 : b = e) (h3 : c = f) : Ending.returned (.tuple #[a, b, c]) = .returned (.tuple #[d, e, f]) := by rw [h1, h2, h3]
set_option maxHeartbeats 2000000 in
set_option maxRecDepth 100000 in
theorem rbody_any (s : List UInt8) (k n most : Int) (w : World) (hs : s.length ≤ 1048576) (h0 : 0 ≤ n) (hn : k = 1 → n ≤ most) :
    Calls Tryz.prog 34 #[.string (bs s), .agg #[.int .i64 k, .int .i64 n], .int .i64 most] w fun e w' =>
      e = .returned (.tuple #[.string (bs (bodyM s (k, n) most).1), .int .i64 (bodyM s (k, n) most).2.1, .int .i64 (bodyM s (k, n) most).2.2]) ∧ Below w.heap.size w w' := by
  have hal : Below w.heap.size w (w.alloc (.cells #[.int .i64 k, .int .i64 n] 77)) := (Below.refl _ _).alloc (Nat.le_refl _) _
  have hp := blk.new w #[.int .i64 k, .int .i64 n] 77
  have c0 := hp.cell 0 _ rfl
  have c1 := hp.cell 1 _ rfl
  obtain ⟨T, hTe, hTl, hTz⟩ := text_of s
  rw [← hTe]
  have HD : Hid (Calls Tryz.prog 68 #[.string T, .int .i64 most] (w.alloc (.cells #[.int .i64 k, .int .i64 n] 77)) (RetD (w.alloc (.cells #[.int .i64 k, .int .i64 n] 77)) (decodeL s most))) := by rw [hTe]; exact rdecode_any s most _ hs
  have HAL := Lib.hid hal; have HTL := Lib.hid hTl; have HTE := Lib.hid hTe; have HTZ := Lib.hid hTz
  rw [← hTz] at hs
  clear hal hp hTe hTl hTz
  by_cases k1 : k = 1
  · have hR := bodyR1 (s := s) (n := n) (most := most) k1 (by have := hn k1; omega)
    rw [← HTZ.out] at hR
    subst k1
    obtain ⟨j, rfl⟩ : ∃ j : Nat, n = (j : Int) := ⟨n.toNat, by omega⟩
    by_cases hl : (T.size : Int) < (j : Int)
    · have HR : Hid (bodyM s (1, (j : Int)) most = ([], 0, 6)) := by rw [if_pos hl] at hR; exact hR
      clear hR hn
      go_enter Tryz.func34, Tryz.ntmps34
      go_wp2_with fail
      refine bodyPost_ret (results_tmp3 rfl _ _ _) rfl ?_
      exact ⟨by rw [HR.out]; rfl, HAL.out⟩
    · have HR : Hid (bodyM s (1, (j : Int)) most = (s.take j, (j : Int), 0)) := by rw [if_neg hl] at hR; exact hR
      have HX : Hid (T.extract 0 j = bs (s.take j)) := ext_upto HTL.out j
      clear hR hn
      go_enter Tryz.func34, Tryz.ntmps34
      go_wp2_with fail
      go_quiet (fail)
      go_wp2_with fail
      refine bodyPost_ret (results_tmp3 rfl _ _ _) rfl ?_
      exact ⟨by rw [HR.out, ← HX.out]; rfl, below_dn HAL.out _⟩
  · have hd1 : (k == 1) = false := beq_eq_false_iff_ne.2 k1
    by_cases k2 : k = 2
    · have HR := Lib.hid (body_kind2 (n := n) (most := most) (s := s) k2)
      subst k2
      clear hd1 k1 hn
      go_enter Tryz.func34, Tryz.ntmps34
      go_wp2_with fail
      refine HD.out.mono ?_
      rintro e w2 ⟨v2, rfl, -, hb2⟩
      have HB2 := Lib.hid (HAL.out.trans (hb2.mono HAL.out.size)); clear hb2
      go_wp2_with fail
      refine bodyPost_ret (results_tmp3 rfl _ _ _) rfl ?_
      exact ⟨by rw [HR.out]; rfl, HB2.out⟩
    · have hd2 : (k == 2) = false := beq_eq_false_iff_ne.2 k2
      by_cases k3 : k = 3
      · have hR := body_kind3 (n := n) (most := most) (s := s) k3
        unfold takeM at hR
        rw [← HTZ.out] at hR
        subst k3
        clear hd1 k1 hd2 k2 hn
        by_cases hl : most < (T.size : Int)
        · have HR : Hid (bodyM s (3, n) most = ([], 0, 3)) := by rw [if_pos hl] at hR; exact hR
          clear hR
          go_enter Tryz.func34, Tryz.ntmps34
          go_wp2_with fail
          refine bodyPost_ret (results_tmp3 rfl _ _ _) rfl ?_
          exact ⟨by rw [HR.out]; rfl, HAL.out⟩
        · have HR : Hid (bodyM s (3, n) most = (s, (T.size : Int), 0)) := by
            rw [if_neg hl, if_neg (by omega)] at hR
            show _ = _
            rw [hR, Int.toNat_natCast, HTZ.out, List.take_length]
          clear hR
          go_enter Tryz.func34, Tryz.ntmps34
          go_wp2_with fail
          refine bodyPost_ret (results_tmp3 rfl _ _ _) rfl ?_
          exact ⟨by rw [HR.out, ← HTE.out]; rfl, HAL.out⟩
      · have hd3 : (k == 3) = false := beq_eq_false_iff_ne.2 k3
        have HR := Lib.hid (body_kind0 (n := n) (most := most) (s := s) k1 k2 k3)
        clear k1 k2 k3 hn
        go_enter Tryz.func34, Tryz.ntmps34
        go_wp2_with fail
        refine bodyPost_ret (results_tmp3 rfl _ _ _) rfl ?_
        exact ⟨by rw [HR.out]; rfl, HAL.out⟩
end Go.Proofs.YtgkjjmcjlobbpaaGreatDoor

/- A request and a reply, read by the document. -/
namespace Go.Proofs.YtgkjjmcjlobbpaaGreatDoor
open Go.RowKit

section
variable {w w' : World} {s : List UInt8} {d : Bool} {E : Int} {l : List Fld} {b : List UInt8} {u : Int} {v : Value}
theorem retQ_bad (h : askM s = badM E) (hE : E ≠ 0) (hb : Below w.heap.size w w') : RetQ w s (.returned (.tuple #[.agg #[.string ⟨#[]⟩, .string ⟨#[]⟩, .int .i64 0, .slice none 0 0, .string ⟨#[]⟩], .int .i64 0, .int .i64 E])) w' := by
  have hq : ¬ (askM s).2.2.2 = 0 := by rw [h]; exact hE
  have h1 : mM s = [] := if_neg hq
  have h2 : tM s = [] := if_neg hq
  have h3 : nM s = 0 := if_neg hq
  refine ⟨.slice none 0 0, ?_, by rw [h]; exact ownF_nil _ _, hb⟩
  rw [h1, h2, h3, h]; rfl
theorem retQ_ok (h : askM s = (l, b, u, 0)) (ho : ownF w' w.heap.size v l) (hb : Below w.heap.size w w') : RetQ w s (.returned (.tuple #[.agg #[.string (bs (reqM (startM s))), .string (bs (reqT (startM s))), .int .i64 (reqN (startM s)), v, .string (bs b)], .int .i64 u, .int .i64 0])) w' := by
  have hq : (askM s).2.2.2 = 0 := by rw [h]
  have h1 : mM s = reqM (startM s) := if_pos hq
  have h2 : tM s = reqT (startM s) := if_pos hq
  have h3 : nM s = reqN (startM s) := if_pos hq
  refine ⟨v, ?_, by rw [h]; exact ho, hb⟩
  rw [h1, h2, h3, h]
theorem retY_bad (h : tellM s d = badM E) (hE : E ≠ 0) (hb : Below w.heap.size w w') : RetY w s d (.returned (.tuple #[.agg #[.int .i64 0, .string ⟨#[]⟩, .int .i64 0, .slice none 0 0, .string ⟨#[]⟩], .int .i64 0, .int .i64 E])) w' := by
  have hq : ¬ (tellM s d).2.2.2 = 0 := by rw [h]; exact hE
  have h1 : cM s d = 0 := if_neg hq
  have h2 : rM s d = [] := if_neg hq
  have h3 : oM s d = 0 := if_neg hq
  refine ⟨.slice none 0 0, ?_, by rw [h]; exact ownF_nil _ _, hb⟩
  rw [h1, h2, h3, h]; rfl
theorem retY_ok (h : tellM s d = (l, b, u, 0)) (ho : ownF w' w.heap.size v l) (hb : Below w.heap.size w w') : RetY w s d (.returned (.tuple #[.agg #[.int .i64 (staC (startM s)), .string (bs (staR (startM s))), .int .i64 (staN (startM s)), v, .string (bs b)], .int .i64 u, .int .i64 0])) w' := by
  have hq : (tellM s d).2.2.2 = 0 := by rw [h]
  have h1 : cM s d = staC (startM s) := if_pos hq
  have h2 : rM s d = staR (startM s) := if_pos hq
  have h3 : oM s d = staN (startM s) := if_pos hq
  refine ⟨v, ?_, by rw [h]; exact ho, hb⟩
  rw [h1, h2, h3, h]
end
theorem ask_most (l : List Fld) : (askR l).2.1 ≤ 65536 := by
  unfold askR askV
  split
  · simp
  · split
    · simp
    · simp only; omega
theorem tell_most (l : List Fld) (n : Int) (d : Bool) : (tellR l n d).2.1 ≤ 262144 := by
  unfold tellR tellV
  split
  · simp
  · split
    · simp
    · split
      · simp
      · split
        · simp
        · simp only; omega

set_option maxHeartbeats 4000000 in
set_option maxRecDepth 100000 in
theorem rmsgRequest_any (s : List UInt8) (w : World) (hs : s.length ≤ 1048576) :
    Calls Tryz.prog 12 #[.string (bs s)] w (RetQ w s) := by
  have hal0 : Below w.heap.size w (w.alloc (.cells #[.string ⟨#[]⟩, .string ⟨#[]⟩, .int .i64 0, .slice none 0 0, .string ⟨#[]⟩] 25)) := (Below.refl _ _).alloc (Nat.le_refl _) _
  have hbx0 := blk.new w #[.string ⟨#[]⟩, .string ⟨#[]⟩, .int .i64 0, .slice none 0 0, .string ⟨#[]⟩] 25
  have hsz0 : (w.alloc (.cells #[.string ⟨#[]⟩, .string ⟨#[]⟩, .int .i64 0, .slice none 0 0, .string ⟨#[]⟩] 25)).heap.size = w.heap.size + 1 := by simp
  have hhd := rheadM_any (bs s) (w.alloc (.cells #[.string ⟨#[]⟩, .string ⟨#[]⟩, .int .i64 0, .slice none 0 0, .string ⟨#[]⟩] 25)) (by rw [bs_size]; exact hs)
  rw [bs_data] at hhd
  obtain ⟨S, hSe, hSl, hSz⟩ := text_of s
  rw [← hSe] at hhd ⊢
  have HAL := Lib.hid hal0; have HBX := Lib.hid hbx0; have HSZ := Lib.hid hsz0; have HSL := Lib.hid hSl; have HSS := Lib.hid hSz
  have hss : S.size ≤ 1048576 := by rw [hSz]; exact hs
  clear hal0 hbx0 hsz0 hSl hSz hSe
  by_cases hq : (headF s).2 = 0
  · obtain ⟨hn1, hn2, hn3, -⟩ := headF_hit hq
    have hT : headT s = .tuple #[.string (bs (startM s)), .string (bs (fieldM s)), .int .i64 (headN s), .int .i64 0] := if_pos hq
    rw [hT] at hhd
    have HHD := Lib.hid hhd
    have hR : askM s = if reqE (startM s) ≠ 0 then badM (reqE (startM s)) else behindM askR 65536 s := if_neg (by rw [hq]; decide)
    have hls := topM_start s
    have hrl := restM_len s
    have hrd : restM s = s.drop (headN s) := rfl
    have HR := Lib.hid hR; have HLS := Lib.hid hls; have HRL := Lib.hid hrl; have HRD := Lib.hid hrd
    have hn4 : headN s ≤ S.size := by rw [HSS.out]; exact hn2
    clear hR hls hrl hrd hT hhd hq hn2
    generalize hST : startM s = ST at *
    generalize hFD : fieldM s = FD at *
    generalize hRS : restM s = RS at *
    generalize hNN : headN s = N at *
    have HST := Lib.hid hST; have HFD := Lib.hid hFD; have HRS := Lib.hid hRS; have HNN := Lib.hid hNN
    clear hST hFD hRS hNN
    go_enter Tryz.func12, Tryz.ntmps12
    go_wp2_with fail
    refine HHD.out.mono ?_
    rintro e w2 ⟨rfl, k0, rfl⟩
    -- the variable r
    have hd2 : Below (w.heap.size + 1) (w.alloc (.cells #[.string ⟨#[]⟩, .string ⟨#[]⟩, .int .i64 0, .slice none 0 0, .string ⟨#[]⟩] 25)) (((w.alloc (.cells #[.string ⟨#[]⟩, .string ⟨#[]⟩, .int .i64 0, .slice none 0 0, .string ⟨#[]⟩] 25)).drewN k0).alloc (.cells #[.string ⟨#[]⟩, .string ⟨#[]⟩, .int .i64 0, .slice none 0 0, .string ⟨#[]⟩] 25)) := (below_dn (Below.refl _ _) k0).alloc (Nat.le_of_eq HSZ.out.symm) _
    have hd20 : Below w.heap.size w (((w.alloc (.cells #[.string ⟨#[]⟩, .string ⟨#[]⟩, .int .i64 0, .slice none 0 0, .string ⟨#[]⟩] 25)).drewN k0).alloc (.cells #[.string ⟨#[]⟩, .string ⟨#[]⟩, .int .i64 0, .slice none 0 0, .string ⟨#[]⟩] 25)) := (below_dn HAL.out k0).alloc (by show w.heap.size ≤ (w.alloc (.cells #[.string ⟨#[]⟩, .string ⟨#[]⟩, .int .i64 0, .slice none 0 0, .string ⟨#[]⟩] 25)).heap.size; have := HSZ.out; omega) _
    have hr2 : blk (((w.alloc (.cells #[.string ⟨#[]⟩, .string ⟨#[]⟩, .int .i64 0, .slice none 0 0, .string ⟨#[]⟩] 25)).drewN k0).alloc (.cells #[.string ⟨#[]⟩, .string ⟨#[]⟩, .int .i64 0, .slice none 0 0, .string ⟨#[]⟩] 25)) (w.heap.size + 1) #[.string ⟨#[]⟩, .string ⟨#[]⟩, .int .i64 0, .slice none 0 0, .string ⟨#[]⟩] := by
      have h := blk.new ((w.alloc (.cells #[.string ⟨#[]⟩, .string ⟨#[]⟩, .int .i64 0, .slice none 0 0, .string ⟨#[]⟩] 25)).drewN k0) #[.string ⟨#[]⟩, .string ⟨#[]⟩, .int .i64 0, .slice none 0 0, .string ⟨#[]⟩] 25
      have e : ((w.alloc (.cells #[.string ⟨#[]⟩, .string ⟨#[]⟩, .int .i64 0, .slice none 0 0, .string ⟨#[]⟩] 25)).drewN k0).heap.size = w.heap.size + 1 := HSZ.out
      rw [e] at h
      exact h
    have hbx2 : blk (((w.alloc (.cells #[.string ⟨#[]⟩, .string ⟨#[]⟩, .int .i64 0, .slice none 0 0, .string ⟨#[]⟩] 25)).drewN k0).alloc (.cells #[.string ⟨#[]⟩, .string ⟨#[]⟩, .int .i64 0, .slice none 0 0, .string ⟨#[]⟩] 25)) w.heap.size #[.string ⟨#[]⟩, .string ⟨#[]⟩, .int .i64 0, .slice none 0 0, .string ⟨#[]⟩] := HBX.out.keep (hd2.block _ (by omega))
    have HB2 := Lib.hid hd20; have HR2 := Lib.hid hr2; have HX2 := Lib.hid hbx2
    clear hd2 hd20 hr2 hbx2 HAL HBX HSZ HHD
    go_wp2_with fail
    generalize ((w.alloc (.cells #[.string ⟨#[]⟩, .string ⟨#[]⟩, .int .i64 0, .slice none 0 0, .string ⟨#[]⟩] 25)).drewN k0).alloc (.cells #[.string ⟨#[]⟩, .string ⟨#[]⟩, .int .i64 0, .slice none 0 0, .string ⟨#[]⟩] 25) = w2 at *
    have hln := rrequest_any (bs ST) w2 (by rw [bs_size]; exact Nat.le_trans HLS.out.1 hs)
    rw [bs_data] at hln
    refine hln.mono ?_
    rintro e w3 ⟨rfl, hb3⟩
    unfold reqV
    have hr3 := HR2.out.below hb3
    obtain ⟨⟨a0, x0⟩, ⟨a1, x1⟩, ⟨a2, x2⟩, -⟩ := hr3.asks5 (.string (bs (reqM ST))) (.string (bs (reqT ST))) (.int .i64 (reqN ST)) (.slice none 0 0)
    have hr4 : blk (((w3.setCell ⟨w.heap.size + 1, 0, none⟩ (.string (bs (reqM ST)))).setCell ⟨w.heap.size + 1, 1, none⟩ (.string (bs (reqT ST)))).setCell ⟨w.heap.size + 1, 2, none⟩ (.int .i64 (reqN ST))) (w.heap.size + 1) #[.string (bs (reqM ST)), .string (bs (reqT ST)), .int .i64 (reqN ST), .slice none 0 0, .string ⟨#[]⟩] := ((hr3.set 0 (.string (bs (reqM ST)))).set 1 (.string (bs (reqT ST)))).set 2 (.int .i64 (reqN ST))
    have hx4 : blk (((w3.setCell ⟨w.heap.size + 1, 0, none⟩ (.string (bs (reqM ST)))).setCell ⟨w.heap.size + 1, 1, none⟩ (.string (bs (reqT ST)))).setCell ⟨w.heap.size + 1, 2, none⟩ (.int .i64 (reqN ST))) w.heap.size #[.string ⟨#[]⟩, .string ⟨#[]⟩, .int .i64 0, .slice none 0 0, .string ⟨#[]⟩] := (((HX2.out.below hb3).other (by simp) _).other (by simp) _).other (by simp) _
    have hb4 : Below w.heap.size w (((w3.setCell ⟨w.heap.size + 1, 0, none⟩ (.string (bs (reqM ST)))).setCell ⟨w.heap.size + 1, 1, none⟩ (.string (bs (reqT ST)))).setCell ⟨w.heap.size + 1, 2, none⟩ (.int .i64 (reqN ST))) := (((HB2.out.trans (hb3.mono HB2.out.size)).setCell (by simp) _).setCell (by simp) _).setCell (by simp) _
    have HR4 := Lib.hid hr4; have HX4 := Lib.hid hx4; have HB4 := Lib.hid hb4
    clear hln hb3 hr3 hr4 hx4 hb4 HR2 HX2 HB2
    by_cases hz : reqE ST = 0
    · have HRb : Hid (askM s = behindM askR 65536 s) := by have h := HR.out; rw [if_neg (by rw [hz]; decide)] at h; exact h
      rw [hz]
      clear HR hz
      go_wp2_with fail
      generalize ((w3.setCell ⟨w.heap.size + 1, 0, none⟩ (.string (bs (reqM ST)))).setCell ⟨w.heap.size + 1, 1, none⟩ (.string (bs (reqT ST)))).setCell ⟨w.heap.size + 1, 2, none⟩ (.int .i64 (reqN ST)) = w4 at *
      refine (rparse_any FD w4 (Nat.le_trans HLS.out.2 hs)).mono ?_
      rintro e w5 ⟨v, rfl, ho5, hb5⟩
      have hsm := smallF_parse (s := FD)
      have hsz := size_parse FD
      have HPE : Hid (parseL (fieldM s) = parseL FD) := congrArg parseL HFD.out
      have hr5 := HR4.out.below hb5
      have hx5 := HX4.out.below hb5
      have hRlt : w.heap.size + 1 < w4.heap.size := HR4.out.lt
      have HB5 := Lib.hid (HB4.out.trans (hb5.mono HB4.out.size))
      obtain ⟨A, c, rfl⟩ := ho5.form
      generalize parseL FD = P at *
      obtain ⟨l, pe⟩ := P
      have b3 := hr5.cell 3 _ rfl
      have g3 := hr5.free 3
      have HO6 : Hid (ownF (w5.setCell ⟨w.heap.size + 1, 3, none⟩ (.slice A l.length c)) w4.heap.size (.slice A l.length c) l) := ho5.far hRlt (grown_set _ _ _ _)
      have HR6 : Hid (blk (w5.setCell ⟨w.heap.size + 1, 3, none⟩ (.slice A l.length c)) (w.heap.size + 1) #[.string (bs (reqM ST)), .string (bs (reqT ST)), .int .i64 (reqN ST), .slice A l.length c, .string ⟨#[]⟩]) := hr5.set 3 _
      have HX6 : Hid (blk (w5.setCell ⟨w.heap.size + 1, 3, none⟩ (.slice A l.length c)) w.heap.size #[.string ⟨#[]⟩, .string ⟨#[]⟩, .int .i64 0, .slice none 0 0, .string ⟨#[]⟩]) := hx5.other (by simp) _
      have HB6 : Hid (Below w.heap.size w (w5.setCell ⟨w.heap.size + 1, 3, none⟩ (.slice A l.length c))) := HB5.out.setCell (by simp) _
      have HSM := Lib.hid hsm; have HSZL := Lib.hid hsz
      clear hsm hsz hr5 hx5 ho5 hb5 HR4 HX4 HB4 HB5 a0 x0 a1 x1 a2 x2
      by_cases hz : pe = 0
      · subst hz
        have hfr := rrequest6_any (.slice A l.length c) l (w5.setCell ⟨w.heap.size + 1, 3, none⟩ (.slice A l.length c)) HO6.out.fl HSM.out.1 (Nat.le_trans HSM.out.2 (by decide)) HSZL.out
        have hkl : 0 ≤ (askR l).2.1 := ask_pos l
        have hkm : (askR l).1 = 1 → (askR l).2.1 ≤ 65536 := fun _ => ask_most l
        generalize hF : askR l = F at *
        have HFE := Lib.hid hF
        have HFR := Lib.hid hfr
        clear hF hfr HSM HSZL
        obtain ⟨q0, q1, q2⟩ := F
        simp only at hkl hkm
        unfold ansV at HFR
        have d3 := HR6.out.cell 3 _ rfl
        have d0 := HR6.out.cell 0 _ rfl
        go_wp2_with fail
        generalize w5.setCell ⟨w.heap.size + 1, 3, none⟩ (.slice A l.length c) = w6 at *
        refine HFR.out.mono ?_
        rintro e w7 ⟨rfl, hb7⟩
        have hd7 : Below w7.heap.size w7 (w7.alloc (.cells #[.int .i64 q0, .int .i64 q1] 77)) := (Below.refl _ _).alloc (Nat.le_refl _) _
        have hn8 := blk.new w7 #[.int .i64 q0, .int .i64 q1] 77
        have HR8 := Lib.hid ((HR6.out.below hb7).below hd7); have HX8 := Lib.hid ((HX6.out.below hb7).below hd7); have HO8 := Lib.hid ((HO6.out.bel hb7).bel hd7)
        have HB8 := Lib.hid ((HB6.out.trans (hb7.mono HB6.out.size)).trans (hd7.mono (HB6.out.trans (hb7.mono HB6.out.size)).size))
        have HN8 := Lib.hid hn8
        have HNR : Hid (w7.heap.size ≠ w.heap.size + 1 ∧ w7.heap.size ≠ w.heap.size) := by have h1 := (HR6.out.below hb7).lt; constructor <;> omega
        clear HFR hb7 hd7 hn8 HR6 HX6 HO6 HB6 d3 d0 b3 g3
        by_cases hq2 : q2 = 0
        · subst hq2
          go_wp2_with fail
          have hS : blk (w7.alloc (.cells #[.int .i64 q0, .int .i64 q1] 77)).drew w7.heap.size #[.int .i64 q0, .int .i64 q1] := HN8.out
          have HS := Lib.hid hS
          have HR9 : Hid (blk (w7.alloc (.cells #[.int .i64 q0, .int .i64 q1] 77)).drew (w.heap.size + 1) #[.string (bs (reqM ST)), .string (bs (reqT ST)), .int .i64 (reqN ST), .slice A l.length c, .string ⟨#[]⟩]) := HR8.out
          have HX9 : Hid (blk (w7.alloc (.cells #[.int .i64 q0, .int .i64 q1] 77)).drew w.heap.size #[.string ⟨#[]⟩, .string ⟨#[]⟩, .int .i64 0, .slice none 0 0, .string ⟨#[]⟩]) := HX8.out
          have HB9 := Lib.hid (HB8.out.drew)
          have HO9 := Lib.hid (HO8.out.bel ((Below.refl _ _).drew : Below _ _ (w7.alloc (.cells #[.int .i64 q0, .int .i64 q1] 77)).drew))
          have hex : S.extract N S.size = bs RS := by rw [ext_from HSL.out, HRD.out]
          have HCB : Hid (∀ W, Calls Tryz.prog 34 #[.string (S.extract N S.size), .agg #[.int .i64 q0, .int .i64 q1], .int .i64 65536] W fun e w' =>
              e = .returned (.tuple #[.string (bs (bodyM RS (q0, q1) 65536).1), .int .i64 (bodyM RS (q0, q1) 65536).2.1, .int .i64 (bodyM RS (q0, q1) 65536).2.2]) ∧ Below W.heap.size W w') := by
            intro W
            rw [hex]
            exact rbody_any RS q0 q1 65536 W (Nat.le_trans HRL.out hs) hkl hkm
          have hbu := body_used RS (q0, q1) 65536 hkl
          have HBE : Hid (∀ B, bodyM RS (q0, q1) 65536 = B → bodyM (restM s) (q0, q1) 65536 = B) := fun B h => (congrArg (fun x => bodyM x (q0, q1) 65536) HRS.out).trans h
          generalize hB : bodyM RS (q0, q1) 65536 = B at *
          have HBD := Lib.hid (HBE.out B rfl)
          clear hB HBE hS hex HB8 HR8 HX8 HO8 HN8
          obtain ⟨b0, b1, b2⟩ := B
          have hb2' : b1 ≤ 1048576 := by have := HRL.out; simp only at hbu; omega
          have hb1' : 0 ≤ b1 := hbu.1
          clear hbu
          generalize hwd : (w7.alloc (.cells #[.int .i64 q0, .int .i64 q1] 77)).drew = w8 at *
          have HWD := Lib.hid hwd; clear hwd
          refine wp_region_growS (.one 0 false (.one 1 false (.one 2 false (.one 3 false (.one 4 true (.one 5 false (.one 6 false (.one 7 false (.one 8 false (.one 9 false (.one 10 false (.one 11 false .done))))))))))))
            (fun W => blk W w7.heap.size #[.int .i64 q0, .int .i64 q1]) (by kernel_rfl) (by kernel_rfl) rfl (by kernel_rfl) (by kernel_rfl) (by rw [HWD.out]; exact HS.out) (fun ops hops => ?_)
          simp only [GT.ins, List.getD_cons_zero, List.getD_cons_succ]
          rw [HWD.out]
          clear hops
          iterate 4
            refine growS_take (by rfl) ?_
            apply Exists.intro
            refine ⟨fun w' hE => ?_, ?_⟩
            · have q0' := hE.cell 0 (.int .i64 q0) rfl; have q1' := hE.cell 1 (.int .i64 q1) rfl; have hk1 : 0 ≤ (N : Int) := (by omega); have hk2 : (N : Int) ≤ (S.size : Int) := (by omega); have hk3 : (N : Int).toNat = N := (by omega)
              go_simp
              try with_reducible rfl
            simp only [Act.put, List.setIfInBounds_toArray, List.set_cons_zero, List.set_cons_succ]
          refine growS_call (by rfl) (fun K hK => ?_)
          go_simp
          refine (HCB.out _).mono ?_
          rintro e wa ⟨rfl, hba⟩
          have HSa := Lib.hid (HS.out.below hba); have HRa := Lib.hid (HR9.out.below hba); have HXa := Lib.hid (HX9.out.below hba); have HOa := Lib.hid (HO9.out.bel hba)
          have HBa := Lib.hid (HB9.out.trans (hba.mono HB9.out.size))
          clear hba
          refine hK.out _ _ HSa.out ?_
          clear hK K
          iterate 7
            refine growS_take (by rfl) ?_
            apply Exists.intro
            refine ⟨fun w' hE => ?_, ?_⟩
            · have q0' := hE.cell 0 (.int .i64 q0) rfl; have q1' := hE.cell 1 (.int .i64 q1) rfl; have hk1 : 0 ≤ (N : Int) := (by omega); have hk2 : (N : Int) ≤ (S.size : Int) := (by omega); have hk3 : (N : Int).toNat = N := (by omega)
              go_simp
              try with_reducible rfl
            simp only [Act.put, List.setIfInBounds_toArray, List.set_cons_zero, List.set_cons_succ]
          refine growS_done (NoPanic.normal ?_)
          by_cases hbz : b2 = 0
          · subst hbz
            have hA := HRb.out.trans (behind_all HPE.out HFE.out HBD.out rfl)
            rw [HNN.out] at hA
            have HA := Lib.hid hA
            clear hA
            have hrA := HRa.out
            have e4 := hrA.cell 4 _ rfl
            have f4 := hrA.free 4
            have hrB := hrA.set 4 (.string (bs b0))
            have i0 : (wa.setCell ⟨w.heap.size + 1, 4, none⟩ (.string (bs b0))).cell? ⟨w.heap.size + 1, 0, none⟩ = some (.string (bs (reqM ST))) := hrB.cell 0 _ rfl
            have i1 : (wa.setCell ⟨w.heap.size + 1, 4, none⟩ (.string (bs b0))).cell? ⟨w.heap.size + 1, 1, none⟩ = some (.string (bs (reqT ST))) := hrB.cell 1 _ rfl
            have i2 : (wa.setCell ⟨w.heap.size + 1, 4, none⟩ (.string (bs b0))).cell? ⟨w.heap.size + 1, 2, none⟩ = some (.int .i64 (reqN ST)) := hrB.cell 2 _ rfl
            have i3 : (wa.setCell ⟨w.heap.size + 1, 4, none⟩ (.string (bs b0))).cell? ⟨w.heap.size + 1, 3, none⟩ = some (.slice A l.length c) := hrB.cell 3 _ rfl
            have i4 : (wa.setCell ⟨w.heap.size + 1, 4, none⟩ (.string (bs b0))).cell? ⟨w.heap.size + 1, 4, none⟩ = some (.string (bs b0)) := hrB.cell 4 _ rfl
            have hxB : blk (wa.setCell ⟨w.heap.size + 1, 4, none⟩ (.string (bs b0))) w.heap.size #[.string ⟨#[]⟩, .string ⟨#[]⟩, .int .i64 0, .slice none 0 0, .string ⟨#[]⟩] := HXa.out.other (by simp) _
            have hbB : Below w.heap.size w (wa.setCell ⟨w.heap.size + 1, 4, none⟩ (.string (bs b0))) := HBa.out.setCell (by simp) _
            have hoB : ownF (wa.setCell ⟨w.heap.size + 1, 4, none⟩ (.string (bs b0))) w4.heap.size (.slice A l.length c) l := HOa.out.far hRlt (grown_set _ _ _ _)
            obtain ⟨⟨s0, y0⟩, ⟨s1, y1⟩, ⟨s2, y2⟩, ⟨s3, y3⟩, ⟨s4, y4⟩⟩ := hxB.asks5 (.string (bs (reqM ST))) (.string (bs (reqT ST))) (.int .i64 (reqN ST)) (.slice A l.length c)
            have hpz := hxB.put5 (.string (bs (reqM ST))) (.string (bs (reqT ST))) (.int .i64 (reqN ST)) (.slice A l.length c) (.string (bs b0))
            have m0 := hpz.cell 0 _ rfl
            have m1 := hpz.cell 1 _ rfl
            have m2 := hpz.cell 2 _ rfl
            have m3 := hpz.cell 3 _ rfl
            have m4 := hpz.cell 4 _ rfl
            have HBZ := Lib.hid (put5_below hbB (Nat.le_refl w.heap.size) (.string (bs (reqM ST))) (.string (bs (reqT ST))) (.int .i64 (reqN ST)) (.slice A l.length c) (.string (bs b0)))
            have HOZ := Lib.hid ((hoB.far (show w.heap.size < w4.heap.size by omega) (put5_grown (wa.setCell ⟨w.heap.size + 1, 4, none⟩ (.string (bs b0))) w.heap.size (.string (bs (reqM ST))) (.string (bs (reqT ST))) (.int .i64 (reqN ST)) (.slice A l.length c) (.string (bs b0)))).mono (show w.heap.size ≤ w4.heap.size by omega))
            unfold put5 at m0 m1 m2 m3 m4
            clear hpz hrA hrB hxB hbB hoB
            go_wp2_with fail
            have hO := retQ_ok HA.out HOZ.out HBZ.out
            rw [HST.out] at hO
            exact bodyPost_ret (v := .tuple #[.agg #[.string (bs (reqM ST)), .string (bs (reqT ST)), .int .i64 (reqN ST), .slice A l.length c, .string (bs b0)], .int .i64 ((N : Int) + b1), .int .i64 0]) (by simp [results, Tryz.results12, go_sem, m0, m1, m2, m3, m4]) rfl hO
          · have HA := Lib.hid (HRb.out.trans (behind_body HPE.out HFE.out HBD.out hbz))
            have hd : (b2 != 0) = true := bne_iff_ne.2 hbz
            have HBZE := Lib.hid hbz
            clear hbz
            obtain ⟨⟨s0, y0⟩, ⟨s1, y1⟩, ⟨s2, y2⟩, ⟨s3, y3⟩, ⟨s4, y4⟩⟩ := HXa.out.asks5 (.string ⟨#[]⟩) (.string ⟨#[]⟩) (.int .i64 0) (.slice none 0 0)
            have hpz := HXa.out.put5 (.string ⟨#[]⟩) (.string ⟨#[]⟩) (.int .i64 0) (.slice none 0 0) (.string ⟨#[]⟩)
            have m0 := hpz.cell 0 _ rfl
            have m1 := hpz.cell 1 _ rfl
            have m2 := hpz.cell 2 _ rfl
            have m3 := hpz.cell 3 _ rfl
            have m4 := hpz.cell 4 _ rfl
            have HBZ := Lib.hid (put5_below HBa.out (Nat.le_refl w.heap.size) (.string ⟨#[]⟩) (.string ⟨#[]⟩) (.int .i64 0) (.slice none 0 0) (.string ⟨#[]⟩))
            unfold put5 at m0 m1 m2 m3 m4
            clear hpz
            go_wp2_with fail
            exact bodyPost_ret (v := .tuple #[.agg #[.string ⟨#[]⟩, .string ⟨#[]⟩, .int .i64 0, .slice none 0 0, .string ⟨#[]⟩], .int .i64 0, .int .i64 b2]) (by simp [results, Tryz.results12, go_sem, m0, m1, m2, m3, m4]) rfl (retQ_bad HA.out HBZE.out HBZ.out)
        · have HA := Lib.hid (HRb.out.trans (behind_frame HPE.out HFE.out hq2))
          have hd : (q2 != 0) = true := bne_iff_ne.2 hq2
          have HBZE := Lib.hid hq2
          clear hq2
          obtain ⟨⟨s0, y0⟩, ⟨s1, y1⟩, ⟨s2, y2⟩, ⟨s3, y3⟩, ⟨s4, y4⟩⟩ := HX8.out.asks5 (.string ⟨#[]⟩) (.string ⟨#[]⟩) (.int .i64 0) (.slice none 0 0)
          have hpz := HX8.out.put5 (.string ⟨#[]⟩) (.string ⟨#[]⟩) (.int .i64 0) (.slice none 0 0) (.string ⟨#[]⟩)
          have m0 := hpz.cell 0 _ rfl
          have m1 := hpz.cell 1 _ rfl
          have m2 := hpz.cell 2 _ rfl
          have m3 := hpz.cell 3 _ rfl
          have m4 := hpz.cell 4 _ rfl
          have HBZ := Lib.hid (put5_below HB8.out (Nat.le_refl w.heap.size) (.string ⟨#[]⟩) (.string ⟨#[]⟩) (.int .i64 0) (.slice none 0 0) (.string ⟨#[]⟩))
          unfold put5 at m0 m1 m2 m3 m4
          clear hpz
          go_wp2_with fail
          exact bodyPost_ret (v := .tuple #[.agg #[.string ⟨#[]⟩, .string ⟨#[]⟩, .int .i64 0, .slice none 0 0, .string ⟨#[]⟩], .int .i64 0, .int .i64 q2]) (by simp [results, Tryz.results12, go_sem, m0, m1, m2, m3, m4]) rfl (retQ_bad HA.out HBZE.out HBZ.out)
      · have HA := Lib.hid (HRb.out.trans (behind_parse HPE.out hz))
        have hd : (pe != 0) = true := bne_iff_ne.2 hz
        have HBZE := Lib.hid hz
        clear hz
        obtain ⟨⟨s0, y0⟩, ⟨s1, y1⟩, ⟨s2, y2⟩, ⟨s3, y3⟩, ⟨s4, y4⟩⟩ := HX6.out.asks5 (.string ⟨#[]⟩) (.string ⟨#[]⟩) (.int .i64 0) (.slice none 0 0)
        have hpz := HX6.out.put5 (.string ⟨#[]⟩) (.string ⟨#[]⟩) (.int .i64 0) (.slice none 0 0) (.string ⟨#[]⟩)
        have m0 := hpz.cell 0 _ rfl
        have m1 := hpz.cell 1 _ rfl
        have m2 := hpz.cell 2 _ rfl
        have m3 := hpz.cell 3 _ rfl
        have m4 := hpz.cell 4 _ rfl
        have HBZ := Lib.hid (put5_below HB6.out (Nat.le_refl w.heap.size) (.string ⟨#[]⟩) (.string ⟨#[]⟩) (.int .i64 0) (.slice none 0 0) (.string ⟨#[]⟩))
        unfold put5 at m0 m1 m2 m3 m4
        clear hpz
        go_wp2_with fail
        exact bodyPost_ret (v := .tuple #[.agg #[.string ⟨#[]⟩, .string ⟨#[]⟩, .int .i64 0, .slice none 0 0, .string ⟨#[]⟩], .int .i64 0, .int .i64 pe]) (by simp [results, Tryz.results12, go_sem, m0, m1, m2, m3, m4]) rfl (retQ_bad HA.out HBZE.out HBZ.out)
    · have HA : Hid (askM s = badM (reqE ST)) := HR.out.trans (if_pos hz)
      have hd : (reqE ST != 0) = true := bne_iff_ne.2 hz
      have HBZE := Lib.hid hz
      clear hz
      obtain ⟨⟨s0, y0⟩, ⟨s1, y1⟩, ⟨s2, y2⟩, ⟨s3, y3⟩, ⟨s4, y4⟩⟩ := HX4.out.asks5 (.string ⟨#[]⟩) (.string ⟨#[]⟩) (.int .i64 0) (.slice none 0 0)
      have hpz := HX4.out.put5 (.string ⟨#[]⟩) (.string ⟨#[]⟩) (.int .i64 0) (.slice none 0 0) (.string ⟨#[]⟩)
      have m0 := hpz.cell 0 _ rfl
      have m1 := hpz.cell 1 _ rfl
      have m2 := hpz.cell 2 _ rfl
      have m3 := hpz.cell 3 _ rfl
      have m4 := hpz.cell 4 _ rfl
      have HBZ := Lib.hid (put5_below HB4.out (Nat.le_refl w.heap.size) (.string ⟨#[]⟩) (.string ⟨#[]⟩) (.int .i64 0) (.slice none 0 0) (.string ⟨#[]⟩))
      unfold put5 at m0 m1 m2 m3 m4
      clear hpz
      go_wp2_with fail
      exact bodyPost_ret (v := .tuple #[.agg #[.string ⟨#[]⟩, .string ⟨#[]⟩, .int .i64 0, .slice none 0 0, .string ⟨#[]⟩], .int .i64 0, .int .i64 (reqE ST)]) (by simp [results, Tryz.results12, go_sem, m0, m1, m2, m3, m4]) rfl (retQ_bad HA.out HBZE.out HBZ.out)
  · have hT : headT s = .tuple #[.string ⟨#[]⟩, .string ⟨#[]⟩, .int .i64 0, .int .i64 (headF s).2] := if_neg hq
    rw [hT] at hhd
    have HHD := Lib.hid hhd
    have HA : Hid (askM s = badM (headF s).2) := if_pos hq
    have hd : ((headF s).2 != 0) = true := bne_iff_ne.2 hq
    have HBZE := Lib.hid hq
    clear hT hhd hq
    generalize (headF s).2 = er at *
    go_enter Tryz.func12, Tryz.ntmps12
    go_wp2_with fail
    refine HHD.out.mono ?_
    rintro e w2 ⟨rfl, k0, rfl⟩
    have HX2 : Hid (blk ((w.alloc (.cells #[.string ⟨#[]⟩, .string ⟨#[]⟩, .int .i64 0, .slice none 0 0, .string ⟨#[]⟩] 25)).drewN k0) w.heap.size #[.string ⟨#[]⟩, .string ⟨#[]⟩, .int .i64 0, .slice none 0 0, .string ⟨#[]⟩]) := HBX.out
    have HB2 := Lib.hid (below_dn HAL.out k0)
    obtain ⟨⟨s0, y0⟩, ⟨s1, y1⟩, ⟨s2, y2⟩, ⟨s3, y3⟩, ⟨s4, y4⟩⟩ := HX2.out.asks5 (.string ⟨#[]⟩) (.string ⟨#[]⟩) (.int .i64 0) (.slice none 0 0)
    have hpz := HX2.out.put5 (.string ⟨#[]⟩) (.string ⟨#[]⟩) (.int .i64 0) (.slice none 0 0) (.string ⟨#[]⟩)
    have m0 := hpz.cell 0 _ rfl
    have m1 := hpz.cell 1 _ rfl
    have m2 := hpz.cell 2 _ rfl
    have m3 := hpz.cell 3 _ rfl
    have m4 := hpz.cell 4 _ rfl
    have HBZ := Lib.hid (put5_below HB2.out (Nat.le_refl w.heap.size) (.string ⟨#[]⟩) (.string ⟨#[]⟩) (.int .i64 0) (.slice none 0 0) (.string ⟨#[]⟩))
    unfold put5 at m0 m1 m2 m3 m4
    clear hpz
    go_wp2_with fail
    exact bodyPost_ret (v := .tuple #[.agg #[.string ⟨#[]⟩, .string ⟨#[]⟩, .int .i64 0, .slice none 0 0, .string ⟨#[]⟩], .int .i64 0, .int .i64 er]) (by simp [results, Tryz.results12, go_sem, m0, m1, m2, m3, m4]) rfl (retQ_bad HA.out HBZE.out HBZ.out)

set_option maxHeartbeats 4000000 in
set_option maxRecDepth 100000 in
theorem rmsgReply_any (s : List UInt8) (d : Bool) (w : World) (hs : s.length ≤ 1048576) :
    Calls Tryz.prog 14 #[.string (bs s), .bool d] w (RetY w s d) := by
  have hal0 : Below w.heap.size w (w.alloc (.cells #[.int .i64 0, .string ⟨#[]⟩, .int .i64 0, .slice none 0 0, .string ⟨#[]⟩] 32)) := (Below.refl _ _).alloc (Nat.le_refl _) _
  have hbx0 := blk.new w #[.int .i64 0, .string ⟨#[]⟩, .int .i64 0, .slice none 0 0, .string ⟨#[]⟩] 32
  have hsz0 : (w.alloc (.cells #[.int .i64 0, .string ⟨#[]⟩, .int .i64 0, .slice none 0 0, .string ⟨#[]⟩] 32)).heap.size = w.heap.size + 1 := by simp
  have hhd := rheadM_any (bs s) (w.alloc (.cells #[.int .i64 0, .string ⟨#[]⟩, .int .i64 0, .slice none 0 0, .string ⟨#[]⟩] 32)) (by rw [bs_size]; exact hs)
  rw [bs_data] at hhd
  obtain ⟨S, hSe, hSl, hSz⟩ := text_of s
  rw [← hSe] at hhd ⊢
  have HAL := Lib.hid hal0; have HBX := Lib.hid hbx0; have HSZ := Lib.hid hsz0; have HSL := Lib.hid hSl; have HSS := Lib.hid hSz
  have hss : S.size ≤ 1048576 := by rw [hSz]; exact hs
  clear hal0 hbx0 hsz0 hSl hSz hSe
  by_cases hq : (headF s).2 = 0
  · obtain ⟨hn1, hn2, hn3, -⟩ := headF_hit hq
    have hT : headT s = .tuple #[.string (bs (startM s)), .string (bs (fieldM s)), .int .i64 (headN s), .int .i64 0] := if_pos hq
    rw [hT] at hhd
    have HHD := Lib.hid hhd
    have hR : tellM s d = if staE (startM s) ≠ 0 then badM (staE (startM s)) else behindM (fun l => tellR l (staC (startM s)) d) 262144 s := if_neg (by rw [hq]; decide)
    have hls := topM_start s
    have hrl := restM_len s
    have hrd : restM s = s.drop (headN s) := rfl
    have HR := Lib.hid hR; have HLS := Lib.hid hls; have HRL := Lib.hid hrl; have HRD := Lib.hid hrd
    have hn4 : headN s ≤ S.size := by rw [HSS.out]; exact hn2
    clear hR hls hrl hrd hT hhd hq hn2
    generalize hST : startM s = ST at *
    generalize hFD : fieldM s = FD at *
    generalize hRS : restM s = RS at *
    generalize hNN : headN s = N at *
    have HST := Lib.hid hST; have HFD := Lib.hid hFD; have HRS := Lib.hid hRS; have HNN := Lib.hid hNN
    clear hST hFD hRS hNN
    go_enter Tryz.func14, Tryz.ntmps14
    go_wp2_with fail
    refine HHD.out.mono ?_
    rintro e w2 ⟨rfl, k0, rfl⟩
    -- the variable r
    have hd2 : Below (w.heap.size + 1) (w.alloc (.cells #[.int .i64 0, .string ⟨#[]⟩, .int .i64 0, .slice none 0 0, .string ⟨#[]⟩] 32)) (((w.alloc (.cells #[.int .i64 0, .string ⟨#[]⟩, .int .i64 0, .slice none 0 0, .string ⟨#[]⟩] 32)).drewN k0).alloc (.cells #[.int .i64 0, .string ⟨#[]⟩, .int .i64 0, .slice none 0 0, .string ⟨#[]⟩] 32)) := (below_dn (Below.refl _ _) k0).alloc (Nat.le_of_eq HSZ.out.symm) _
    have hd20 : Below w.heap.size w (((w.alloc (.cells #[.int .i64 0, .string ⟨#[]⟩, .int .i64 0, .slice none 0 0, .string ⟨#[]⟩] 32)).drewN k0).alloc (.cells #[.int .i64 0, .string ⟨#[]⟩, .int .i64 0, .slice none 0 0, .string ⟨#[]⟩] 32)) := (below_dn HAL.out k0).alloc (by show w.heap.size ≤ (w.alloc (.cells #[.int .i64 0, .string ⟨#[]⟩, .int .i64 0, .slice none 0 0, .string ⟨#[]⟩] 32)).heap.size; have := HSZ.out; omega) _
    have hr2 : blk (((w.alloc (.cells #[.int .i64 0, .string ⟨#[]⟩, .int .i64 0, .slice none 0 0, .string ⟨#[]⟩] 32)).drewN k0).alloc (.cells #[.int .i64 0, .string ⟨#[]⟩, .int .i64 0, .slice none 0 0, .string ⟨#[]⟩] 32)) (w.heap.size + 1) #[.int .i64 0, .string ⟨#[]⟩, .int .i64 0, .slice none 0 0, .string ⟨#[]⟩] := by
      have h := blk.new ((w.alloc (.cells #[.int .i64 0, .string ⟨#[]⟩, .int .i64 0, .slice none 0 0, .string ⟨#[]⟩] 32)).drewN k0) #[.int .i64 0, .string ⟨#[]⟩, .int .i64 0, .slice none 0 0, .string ⟨#[]⟩] 32
      have e : ((w.alloc (.cells #[.int .i64 0, .string ⟨#[]⟩, .int .i64 0, .slice none 0 0, .string ⟨#[]⟩] 32)).drewN k0).heap.size = w.heap.size + 1 := HSZ.out
      rw [e] at h
      exact h
    have hbx2 : blk (((w.alloc (.cells #[.int .i64 0, .string ⟨#[]⟩, .int .i64 0, .slice none 0 0, .string ⟨#[]⟩] 32)).drewN k0).alloc (.cells #[.int .i64 0, .string ⟨#[]⟩, .int .i64 0, .slice none 0 0, .string ⟨#[]⟩] 32)) w.heap.size #[.int .i64 0, .string ⟨#[]⟩, .int .i64 0, .slice none 0 0, .string ⟨#[]⟩] := HBX.out.keep (hd2.block _ (by omega))
    have HB2 := Lib.hid hd20; have HR2 := Lib.hid hr2; have HX2 := Lib.hid hbx2
    clear hd2 hd20 hr2 hbx2 HAL HBX HSZ HHD
    go_wp2_with fail
    generalize ((w.alloc (.cells #[.int .i64 0, .string ⟨#[]⟩, .int .i64 0, .slice none 0 0, .string ⟨#[]⟩] 32)).drewN k0).alloc (.cells #[.int .i64 0, .string ⟨#[]⟩, .int .i64 0, .slice none 0 0, .string ⟨#[]⟩] 32) = w2 at *
    have hln := rstatus_any (bs ST) w2 (by rw [bs_size]; exact Nat.le_trans HLS.out.1 hs)
    rw [bs_data] at hln
    refine hln.mono ?_
    rintro e w3 ⟨rfl, hb3⟩
    unfold staV
    have hr3 := HR2.out.below hb3
    obtain ⟨⟨a0, x0⟩, ⟨a1, x1⟩, ⟨a2, x2⟩, -⟩ := hr3.asks5 (.int .i64 (staC ST)) (.string (bs (staR ST))) (.int .i64 (staN ST)) (.slice none 0 0)
    have hr4 : blk (((w3.setCell ⟨w.heap.size + 1, 0, none⟩ (.int .i64 (staC ST))).setCell ⟨w.heap.size + 1, 1, none⟩ (.string (bs (staR ST)))).setCell ⟨w.heap.size + 1, 2, none⟩ (.int .i64 (staN ST))) (w.heap.size + 1) #[.int .i64 (staC ST), .string (bs (staR ST)), .int .i64 (staN ST), .slice none 0 0, .string ⟨#[]⟩] := ((hr3.set 0 (.int .i64 (staC ST))).set 1 (.string (bs (staR ST)))).set 2 (.int .i64 (staN ST))
    have hx4 : blk (((w3.setCell ⟨w.heap.size + 1, 0, none⟩ (.int .i64 (staC ST))).setCell ⟨w.heap.size + 1, 1, none⟩ (.string (bs (staR ST)))).setCell ⟨w.heap.size + 1, 2, none⟩ (.int .i64 (staN ST))) w.heap.size #[.int .i64 0, .string ⟨#[]⟩, .int .i64 0, .slice none 0 0, .string ⟨#[]⟩] := (((HX2.out.below hb3).other (by simp) _).other (by simp) _).other (by simp) _
    have hb4 : Below w.heap.size w (((w3.setCell ⟨w.heap.size + 1, 0, none⟩ (.int .i64 (staC ST))).setCell ⟨w.heap.size + 1, 1, none⟩ (.string (bs (staR ST)))).setCell ⟨w.heap.size + 1, 2, none⟩ (.int .i64 (staN ST))) := (((HB2.out.trans (hb3.mono HB2.out.size)).setCell (by simp) _).setCell (by simp) _).setCell (by simp) _
    have HR4 := Lib.hid hr4; have HX4 := Lib.hid hx4; have HB4 := Lib.hid hb4
    clear hln hb3 hr3 hr4 hx4 hb4 HR2 HX2 HB2
    by_cases hz : staE ST = 0
    · have HRb : Hid (tellM s d = behindM (fun l => tellR l (staC ST) d) 262144 s) := by have h := HR.out; rw [if_neg (by rw [hz]; decide)] at h; exact h
      rw [hz]
      clear HR hz
      go_wp2_with fail
      generalize ((w3.setCell ⟨w.heap.size + 1, 0, none⟩ (.int .i64 (staC ST))).setCell ⟨w.heap.size + 1, 1, none⟩ (.string (bs (staR ST)))).setCell ⟨w.heap.size + 1, 2, none⟩ (.int .i64 (staN ST)) = w4 at *
      refine (rparse_any FD w4 (Nat.le_trans HLS.out.2 hs)).mono ?_
      rintro e w5 ⟨v, rfl, ho5, hb5⟩
      have hsm := smallF_parse (s := FD)
      have hsz := size_parse FD
      have HPE : Hid (parseL (fieldM s) = parseL FD) := congrArg parseL HFD.out
      have hr5 := HR4.out.below hb5
      have hx5 := HX4.out.below hb5
      have hRlt : w.heap.size + 1 < w4.heap.size := HR4.out.lt
      have HB5 := Lib.hid (HB4.out.trans (hb5.mono HB4.out.size))
      obtain ⟨A, c, rfl⟩ := ho5.form
      generalize parseL FD = P at *
      obtain ⟨l, pe⟩ := P
      have b3 := hr5.cell 3 _ rfl
      have g3 := hr5.free 3
      have HO6 : Hid (ownF (w5.setCell ⟨w.heap.size + 1, 3, none⟩ (.slice A l.length c)) w4.heap.size (.slice A l.length c) l) := ho5.far hRlt (grown_set _ _ _ _)
      have HR6 : Hid (blk (w5.setCell ⟨w.heap.size + 1, 3, none⟩ (.slice A l.length c)) (w.heap.size + 1) #[.int .i64 (staC ST), .string (bs (staR ST)), .int .i64 (staN ST), .slice A l.length c, .string ⟨#[]⟩]) := hr5.set 3 _
      have HX6 : Hid (blk (w5.setCell ⟨w.heap.size + 1, 3, none⟩ (.slice A l.length c)) w.heap.size #[.int .i64 0, .string ⟨#[]⟩, .int .i64 0, .slice none 0 0, .string ⟨#[]⟩]) := hx5.other (by simp) _
      have HB6 : Hid (Below w.heap.size w (w5.setCell ⟨w.heap.size + 1, 3, none⟩ (.slice A l.length c))) := HB5.out.setCell (by simp) _
      have HSM := Lib.hid hsm; have HSZL := Lib.hid hsz
      clear hsm hsz hr5 hx5 ho5 hb5 HR4 HX4 HB4 HB5 a0 x0 a1 x1 a2 x2
      by_cases hz : pe = 0
      · subst hz
        have hfr := rreply6_any (.slice A l.length c) l (staC ST) d (w5.setCell ⟨w.heap.size + 1, 3, none⟩ (.slice A l.length c)) HO6.out.fl HSM.out.1 (Nat.le_trans HSM.out.2 (by decide)) HSZL.out
        have hkl : 0 ≤ (tellR l (staC ST) d).2.1 := tell_pos l _ _
        have hkm : (tellR l (staC ST) d).1 = 1 → (tellR l (staC ST) d).2.1 ≤ 262144 := fun _ => tell_most l _ _
        generalize hF : tellR l (staC ST) d = F at *
        have HFE := Lib.hid hF
        have HFR := Lib.hid hfr
        clear hF hfr HSM HSZL
        obtain ⟨q0, q1, q2⟩ := F
        simp only at hkl hkm
        unfold ansV at HFR
        have d3 := HR6.out.cell 3 _ rfl
        have d0 := HR6.out.cell 0 _ rfl
        go_wp2_with fail
        generalize w5.setCell ⟨w.heap.size + 1, 3, none⟩ (.slice A l.length c) = w6 at *
        refine HFR.out.mono ?_
        rintro e w7 ⟨rfl, hb7⟩
        have hd7 : Below w7.heap.size w7 (w7.alloc (.cells #[.int .i64 q0, .int .i64 q1] 77)) := (Below.refl _ _).alloc (Nat.le_refl _) _
        have hn8 := blk.new w7 #[.int .i64 q0, .int .i64 q1] 77
        have HR8 := Lib.hid ((HR6.out.below hb7).below hd7); have HX8 := Lib.hid ((HX6.out.below hb7).below hd7); have HO8 := Lib.hid ((HO6.out.bel hb7).bel hd7)
        have HB8 := Lib.hid ((HB6.out.trans (hb7.mono HB6.out.size)).trans (hd7.mono (HB6.out.trans (hb7.mono HB6.out.size)).size))
        have HN8 := Lib.hid hn8
        have HNR : Hid (w7.heap.size ≠ w.heap.size + 1 ∧ w7.heap.size ≠ w.heap.size) := by have h1 := (HR6.out.below hb7).lt; constructor <;> omega
        clear HFR hb7 hd7 hn8 HR6 HX6 HO6 HB6 d3 d0 b3 g3
        by_cases hq2 : q2 = 0
        · subst hq2
          go_wp2_with fail
          have hS : blk (w7.alloc (.cells #[.int .i64 q0, .int .i64 q1] 77)).drew w7.heap.size #[.int .i64 q0, .int .i64 q1] := HN8.out
          have HS := Lib.hid hS
          have HR9 : Hid (blk (w7.alloc (.cells #[.int .i64 q0, .int .i64 q1] 77)).drew (w.heap.size + 1) #[.int .i64 (staC ST), .string (bs (staR ST)), .int .i64 (staN ST), .slice A l.length c, .string ⟨#[]⟩]) := HR8.out
          have HX9 : Hid (blk (w7.alloc (.cells #[.int .i64 q0, .int .i64 q1] 77)).drew w.heap.size #[.int .i64 0, .string ⟨#[]⟩, .int .i64 0, .slice none 0 0, .string ⟨#[]⟩]) := HX8.out
          have HB9 := Lib.hid (HB8.out.drew)
          have HO9 := Lib.hid (HO8.out.bel ((Below.refl _ _).drew : Below _ _ (w7.alloc (.cells #[.int .i64 q0, .int .i64 q1] 77)).drew))
          have hex : S.extract N S.size = bs RS := by rw [ext_from HSL.out, HRD.out]
          have HCB : Hid (∀ W, Calls Tryz.prog 34 #[.string (S.extract N S.size), .agg #[.int .i64 q0, .int .i64 q1], .int .i64 262144] W fun e w' =>
              e = .returned (.tuple #[.string (bs (bodyM RS (q0, q1) 262144).1), .int .i64 (bodyM RS (q0, q1) 262144).2.1, .int .i64 (bodyM RS (q0, q1) 262144).2.2]) ∧ Below W.heap.size W w') := by
            intro W
            rw [hex]
            exact rbody_any RS q0 q1 262144 W (Nat.le_trans HRL.out hs) hkl hkm
          have hbu := body_used RS (q0, q1) 262144 hkl
          have HBE : Hid (∀ B, bodyM RS (q0, q1) 262144 = B → bodyM (restM s) (q0, q1) 262144 = B) := fun B h => (congrArg (fun x => bodyM x (q0, q1) 262144) HRS.out).trans h
          generalize hB : bodyM RS (q0, q1) 262144 = B at *
          have HBD := Lib.hid (HBE.out B rfl)
          clear hB HBE hS hex HB8 HR8 HX8 HO8 HN8
          obtain ⟨b0, b1, b2⟩ := B
          have hb2' : b1 ≤ 1048576 := by have := HRL.out; simp only at hbu; omega
          have hb1' : 0 ≤ b1 := hbu.1
          clear hbu
          generalize hwd : (w7.alloc (.cells #[.int .i64 q0, .int .i64 q1] 77)).drew = w8 at *
          have HWD := Lib.hid hwd; clear hwd
          refine wp_region_growS (.one 0 false (.one 1 false (.one 2 false (.one 3 false (.one 4 true (.one 5 false (.one 6 false (.one 7 false (.one 8 false (.one 9 false (.one 10 false (.one 11 false .done))))))))))))
            (fun W => blk W w7.heap.size #[.int .i64 q0, .int .i64 q1]) (by kernel_rfl) (by kernel_rfl) rfl (by kernel_rfl) (by kernel_rfl) (by rw [HWD.out]; exact HS.out) (fun ops hops => ?_)
          simp only [GT.ins, List.getD_cons_zero, List.getD_cons_succ]
          rw [HWD.out]
          clear hops
          iterate 4
            refine growS_take (by rfl) ?_
            apply Exists.intro
            refine ⟨fun w' hE => ?_, ?_⟩
            · have q0' := hE.cell 0 (.int .i64 q0) rfl; have q1' := hE.cell 1 (.int .i64 q1) rfl; have hk1 : 0 ≤ (N : Int) := (by omega); have hk2 : (N : Int) ≤ (S.size : Int) := (by omega); have hk3 : (N : Int).toNat = N := (by omega)
              go_simp
              try with_reducible rfl
            simp only [Act.put, List.setIfInBounds_toArray, List.set_cons_zero, List.set_cons_succ]
          refine growS_call (by rfl) (fun K hK => ?_)
          go_simp
          refine (HCB.out _).mono ?_
          rintro e wa ⟨rfl, hba⟩
          have HSa := Lib.hid (HS.out.below hba); have HRa := Lib.hid (HR9.out.below hba); have HXa := Lib.hid (HX9.out.below hba); have HOa := Lib.hid (HO9.out.bel hba)
          have HBa := Lib.hid (HB9.out.trans (hba.mono HB9.out.size))
          clear hba
          refine hK.out _ _ HSa.out ?_
          clear hK K
          iterate 7
            refine growS_take (by rfl) ?_
            apply Exists.intro
            refine ⟨fun w' hE => ?_, ?_⟩
            · have q0' := hE.cell 0 (.int .i64 q0) rfl; have q1' := hE.cell 1 (.int .i64 q1) rfl; have hk1 : 0 ≤ (N : Int) := (by omega); have hk2 : (N : Int) ≤ (S.size : Int) := (by omega); have hk3 : (N : Int).toNat = N := (by omega)
              go_simp
              try with_reducible rfl
            simp only [Act.put, List.setIfInBounds_toArray, List.set_cons_zero, List.set_cons_succ]
          refine growS_done (NoPanic.normal ?_)
          by_cases hbz : b2 = 0
          · subst hbz
            have hA := HRb.out.trans (behind_all HPE.out HFE.out HBD.out rfl)
            rw [HNN.out] at hA
            have HA := Lib.hid hA
            clear hA
            have hrA := HRa.out
            have e4 := hrA.cell 4 _ rfl
            have f4 := hrA.free 4
            have hrB := hrA.set 4 (.string (bs b0))
            have i0 : (wa.setCell ⟨w.heap.size + 1, 4, none⟩ (.string (bs b0))).cell? ⟨w.heap.size + 1, 0, none⟩ = some (.int .i64 (staC ST)) := hrB.cell 0 _ rfl
            have i1 : (wa.setCell ⟨w.heap.size + 1, 4, none⟩ (.string (bs b0))).cell? ⟨w.heap.size + 1, 1, none⟩ = some (.string (bs (staR ST))) := hrB.cell 1 _ rfl
            have i2 : (wa.setCell ⟨w.heap.size + 1, 4, none⟩ (.string (bs b0))).cell? ⟨w.heap.size + 1, 2, none⟩ = some (.int .i64 (staN ST)) := hrB.cell 2 _ rfl
            have i3 : (wa.setCell ⟨w.heap.size + 1, 4, none⟩ (.string (bs b0))).cell? ⟨w.heap.size + 1, 3, none⟩ = some (.slice A l.length c) := hrB.cell 3 _ rfl
            have i4 : (wa.setCell ⟨w.heap.size + 1, 4, none⟩ (.string (bs b0))).cell? ⟨w.heap.size + 1, 4, none⟩ = some (.string (bs b0)) := hrB.cell 4 _ rfl
            have hxB : blk (wa.setCell ⟨w.heap.size + 1, 4, none⟩ (.string (bs b0))) w.heap.size #[.int .i64 0, .string ⟨#[]⟩, .int .i64 0, .slice none 0 0, .string ⟨#[]⟩] := HXa.out.other (by simp) _
            have hbB : Below w.heap.size w (wa.setCell ⟨w.heap.size + 1, 4, none⟩ (.string (bs b0))) := HBa.out.setCell (by simp) _
            have hoB : ownF (wa.setCell ⟨w.heap.size + 1, 4, none⟩ (.string (bs b0))) w4.heap.size (.slice A l.length c) l := HOa.out.far hRlt (grown_set _ _ _ _)
            obtain ⟨⟨s0, y0⟩, ⟨s1, y1⟩, ⟨s2, y2⟩, ⟨s3, y3⟩, ⟨s4, y4⟩⟩ := hxB.asks5 (.int .i64 (staC ST)) (.string (bs (staR ST))) (.int .i64 (staN ST)) (.slice A l.length c)
            have hpz := hxB.put5 (.int .i64 (staC ST)) (.string (bs (staR ST))) (.int .i64 (staN ST)) (.slice A l.length c) (.string (bs b0))
            have m0 := hpz.cell 0 _ rfl
            have m1 := hpz.cell 1 _ rfl
            have m2 := hpz.cell 2 _ rfl
            have m3 := hpz.cell 3 _ rfl
            have m4 := hpz.cell 4 _ rfl
            have HBZ := Lib.hid (put5_below hbB (Nat.le_refl w.heap.size) (.int .i64 (staC ST)) (.string (bs (staR ST))) (.int .i64 (staN ST)) (.slice A l.length c) (.string (bs b0)))
            have HOZ := Lib.hid ((hoB.far (show w.heap.size < w4.heap.size by omega) (put5_grown (wa.setCell ⟨w.heap.size + 1, 4, none⟩ (.string (bs b0))) w.heap.size (.int .i64 (staC ST)) (.string (bs (staR ST))) (.int .i64 (staN ST)) (.slice A l.length c) (.string (bs b0)))).mono (show w.heap.size ≤ w4.heap.size by omega))
            unfold put5 at m0 m1 m2 m3 m4
            clear hpz hrA hrB hxB hbB hoB
            go_wp2_with fail
            have hO := retY_ok HA.out HOZ.out HBZ.out
            rw [HST.out] at hO
            exact bodyPost_ret (v := .tuple #[.agg #[.int .i64 (staC ST), .string (bs (staR ST)), .int .i64 (staN ST), .slice A l.length c, .string (bs b0)], .int .i64 ((N : Int) + b1), .int .i64 0]) (by simp [results, Tryz.results14, go_sem, m0, m1, m2, m3, m4]) rfl hO
          · have HA := Lib.hid (HRb.out.trans (behind_body HPE.out HFE.out HBD.out hbz))
            have hd : (b2 != 0) = true := bne_iff_ne.2 hbz
            have HBZE := Lib.hid hbz
            clear hbz
            obtain ⟨⟨s0, y0⟩, ⟨s1, y1⟩, ⟨s2, y2⟩, ⟨s3, y3⟩, ⟨s4, y4⟩⟩ := HXa.out.asks5 (.int .i64 0) (.string ⟨#[]⟩) (.int .i64 0) (.slice none 0 0)
            have hpz := HXa.out.put5 (.int .i64 0) (.string ⟨#[]⟩) (.int .i64 0) (.slice none 0 0) (.string ⟨#[]⟩)
            have m0 := hpz.cell 0 _ rfl
            have m1 := hpz.cell 1 _ rfl
            have m2 := hpz.cell 2 _ rfl
            have m3 := hpz.cell 3 _ rfl
            have m4 := hpz.cell 4 _ rfl
            have HBZ := Lib.hid (put5_below HBa.out (Nat.le_refl w.heap.size) (.int .i64 0) (.string ⟨#[]⟩) (.int .i64 0) (.slice none 0 0) (.string ⟨#[]⟩))
            unfold put5 at m0 m1 m2 m3 m4
            clear hpz
            go_wp2_with fail
            exact bodyPost_ret (v := .tuple #[.agg #[.int .i64 0, .string ⟨#[]⟩, .int .i64 0, .slice none 0 0, .string ⟨#[]⟩], .int .i64 0, .int .i64 b2]) (by simp [results, Tryz.results14, go_sem, m0, m1, m2, m3, m4]) rfl (retY_bad HA.out HBZE.out HBZ.out)
        · have HA := Lib.hid (HRb.out.trans (behind_frame HPE.out HFE.out hq2))
          have hd : (q2 != 0) = true := bne_iff_ne.2 hq2
          have HBZE := Lib.hid hq2
          clear hq2
          obtain ⟨⟨s0, y0⟩, ⟨s1, y1⟩, ⟨s2, y2⟩, ⟨s3, y3⟩, ⟨s4, y4⟩⟩ := HX8.out.asks5 (.int .i64 0) (.string ⟨#[]⟩) (.int .i64 0) (.slice none 0 0)
          have hpz := HX8.out.put5 (.int .i64 0) (.string ⟨#[]⟩) (.int .i64 0) (.slice none 0 0) (.string ⟨#[]⟩)
          have m0 := hpz.cell 0 _ rfl
          have m1 := hpz.cell 1 _ rfl
          have m2 := hpz.cell 2 _ rfl
          have m3 := hpz.cell 3 _ rfl
          have m4 := hpz.cell 4 _ rfl
          have HBZ := Lib.hid (put5_below HB8.out (Nat.le_refl w.heap.size) (.int .i64 0) (.string ⟨#[]⟩) (.int .i64 0) (.slice none 0 0) (.string ⟨#[]⟩))
          unfold put5 at m0 m1 m2 m3 m4
          clear hpz
          go_wp2_with fail
          exact bodyPost_ret (v := .tuple #[.agg #[.int .i64 0, .string ⟨#[]⟩, .int .i64 0, .slice none 0 0, .string ⟨#[]⟩], .int .i64 0, .int .i64 q2]) (by simp [results, Tryz.results14, go_sem, m0, m1, m2, m3, m4]) rfl (retY_bad HA.out HBZE.out HBZ.out)
      · have HA := Lib.hid (HRb.out.trans (behind_parse HPE.out hz))
        have hd : (pe != 0) = true := bne_iff_ne.2 hz
        have HBZE := Lib.hid hz
        clear hz
        obtain ⟨⟨s0, y0⟩, ⟨s1, y1⟩, ⟨s2, y2⟩, ⟨s3, y3⟩, ⟨s4, y4⟩⟩ := HX6.out.asks5 (.int .i64 0) (.string ⟨#[]⟩) (.int .i64 0) (.slice none 0 0)
        have hpz := HX6.out.put5 (.int .i64 0) (.string ⟨#[]⟩) (.int .i64 0) (.slice none 0 0) (.string ⟨#[]⟩)
        have m0 := hpz.cell 0 _ rfl
        have m1 := hpz.cell 1 _ rfl
        have m2 := hpz.cell 2 _ rfl
        have m3 := hpz.cell 3 _ rfl
        have m4 := hpz.cell 4 _ rfl
        have HBZ := Lib.hid (put5_below HB6.out (Nat.le_refl w.heap.size) (.int .i64 0) (.string ⟨#[]⟩) (.int .i64 0) (.slice none 0 0) (.string ⟨#[]⟩))
        unfold put5 at m0 m1 m2 m3 m4
        clear hpz
        go_wp2_with fail
        exact bodyPost_ret (v := .tuple #[.agg #[.int .i64 0, .string ⟨#[]⟩, .int .i64 0, .slice none 0 0, .string ⟨#[]⟩], .int .i64 0, .int .i64 pe]) (by simp [results, Tryz.results14, go_sem, m0, m1, m2, m3, m4]) rfl (retY_bad HA.out HBZE.out HBZ.out)
    · have HA : Hid (tellM s d = badM (staE ST)) := HR.out.trans (if_pos hz)
      have hd : (staE ST != 0) = true := bne_iff_ne.2 hz
      have HBZE := Lib.hid hz
      clear hz
      obtain ⟨⟨s0, y0⟩, ⟨s1, y1⟩, ⟨s2, y2⟩, ⟨s3, y3⟩, ⟨s4, y4⟩⟩ := HX4.out.asks5 (.int .i64 0) (.string ⟨#[]⟩) (.int .i64 0) (.slice none 0 0)
      have hpz := HX4.out.put5 (.int .i64 0) (.string ⟨#[]⟩) (.int .i64 0) (.slice none 0 0) (.string ⟨#[]⟩)
      have m0 := hpz.cell 0 _ rfl
      have m1 := hpz.cell 1 _ rfl
      have m2 := hpz.cell 2 _ rfl
      have m3 := hpz.cell 3 _ rfl
      have m4 := hpz.cell 4 _ rfl
      have HBZ := Lib.hid (put5_below HB4.out (Nat.le_refl w.heap.size) (.int .i64 0) (.string ⟨#[]⟩) (.int .i64 0) (.slice none 0 0) (.string ⟨#[]⟩))
      unfold put5 at m0 m1 m2 m3 m4
      clear hpz
      go_wp2_with fail
      exact bodyPost_ret (v := .tuple #[.agg #[.int .i64 0, .string ⟨#[]⟩, .int .i64 0, .slice none 0 0, .string ⟨#[]⟩], .int .i64 0, .int .i64 (staE ST)]) (by simp [results, Tryz.results14, go_sem, m0, m1, m2, m3, m4]) rfl (retY_bad HA.out HBZE.out HBZ.out)
  · have hT : headT s = .tuple #[.string ⟨#[]⟩, .string ⟨#[]⟩, .int .i64 0, .int .i64 (headF s).2] := if_neg hq
    rw [hT] at hhd
    have HHD := Lib.hid hhd
    have HA : Hid (tellM s d = badM (headF s).2) := if_pos hq
    have hd : ((headF s).2 != 0) = true := bne_iff_ne.2 hq
    have HBZE := Lib.hid hq
    clear hT hhd hq
    generalize (headF s).2 = er at *
    go_enter Tryz.func14, Tryz.ntmps14
    go_wp2_with fail
    refine HHD.out.mono ?_
    rintro e w2 ⟨rfl, k0, rfl⟩
    have HX2 : Hid (blk ((w.alloc (.cells #[.int .i64 0, .string ⟨#[]⟩, .int .i64 0, .slice none 0 0, .string ⟨#[]⟩] 32)).drewN k0) w.heap.size #[.int .i64 0, .string ⟨#[]⟩, .int .i64 0, .slice none 0 0, .string ⟨#[]⟩]) := HBX.out
    have HB2 := Lib.hid (below_dn HAL.out k0)
    obtain ⟨⟨s0, y0⟩, ⟨s1, y1⟩, ⟨s2, y2⟩, ⟨s3, y3⟩, ⟨s4, y4⟩⟩ := HX2.out.asks5 (.int .i64 0) (.string ⟨#[]⟩) (.int .i64 0) (.slice none 0 0)
    have hpz := HX2.out.put5 (.int .i64 0) (.string ⟨#[]⟩) (.int .i64 0) (.slice none 0 0) (.string ⟨#[]⟩)
    have m0 := hpz.cell 0 _ rfl
    have m1 := hpz.cell 1 _ rfl
    have m2 := hpz.cell 2 _ rfl
    have m3 := hpz.cell 3 _ rfl
    have m4 := hpz.cell 4 _ rfl
    have HBZ := Lib.hid (put5_below HB2.out (Nat.le_refl w.heap.size) (.int .i64 0) (.string ⟨#[]⟩) (.int .i64 0) (.slice none 0 0) (.string ⟨#[]⟩))
    unfold put5 at m0 m1 m2 m3 m4
    clear hpz
    go_wp2_with fail
    exact bodyPost_ret (v := .tuple #[.agg #[.int .i64 0, .string ⟨#[]⟩, .int .i64 0, .slice none 0 0, .string ⟨#[]⟩], .int .i64 0, .int .i64 er]) (by simp [results, Tryz.results14, go_sem, m0, m1, m2, m3, m4]) rfl (retY_bad HA.out HBZE.out HBZ.out)
end Go.Proofs.YtgkjjmcjlobbpaaGreatDoor
