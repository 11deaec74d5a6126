/- The decoder: from label to label. -/
import Derived.Test.YtoengnefdndgfaaDoorChunkD
import Derived.Test.YtoengnefdndgfaaDoorLabels
import Derived.Test.YtoengnefdndgfaaDoorBuild
import Derived.Test.YtoengnefdndgfaaDoorFieldsP
import Derived.Lib.OthersKept
namespace Go.Proofs.YtoengnefdndgfaaDoor
open Go.RowKit

theorem string_keep (B b : Nat) (l : List UInt8) (w : World) (h : bldr w B b l) (hBw : B ≤ w.heap.size) :
    Calls Tryd.prog 22 #[.pointer (some ⟨b, 0, none⟩)] w fun e w' => e = .returned (.string (bs l)) ∧ Below B w w' ∧ Lib.OthersKept 5 (some b) w w' :=
  (Tryd.Builder_String_any_k B b l w (Lib.IsBuilderF.of h) hBw).mono (by rintro e w' ⟨rfl, -, h1, h2⟩; exact ⟨rfl, h1, h2⟩)
theorem ownF.others {w w' : World} {base b : Nat} {v : Value} {l : List Fld} (h : ownF w base v l) (hb : b < base) (ho : Lib.OthersKept 5 (some b) w w') : ownF w' base v l := by
  refine ⟨h.1, ?_⟩
  rcases h.2 with hn | ⟨g, cap, cur, hv, hbg, hg, r⟩
  · exact .inl hn
  · exact .inr ⟨g, cap, cur, hv, hbg, ho g _ hg (fun e => by have := Option.some.inj e; omega) (fun c fz e => by simp at e), r⟩
theorem bldr.lt {w : World} {B b : Nat} {l : List UInt8} (h : bldr w B b l) : b < w.heap.size := by
  rcases h with ⟨_, v, h2, _⟩ | ⟨_, v, h2, _⟩ <;> exact (Array.getElem?_eq_some_iff.1 h2).1
/-- four results -/
theorem res_four {fn : Func} {t u v x : Tmp} (h : fn.results = #[.tmp t, .tmp u, .tmp v, .tmp x]) (tmps : Array Value) (P : Program) (w : World) :
    (results fn tmps).run P w = .ok (.tuple #[tmps.getD t undef, tmps.getD u undef, tmps.getD v undef, tmps.getD x undef]) w := by
  simp [results, h]
theorem ret_four {a b c d e f g h : Value} (h1 : a = e) (h2 : b = f) (h3 : c = g) (h4 : d = h) : Ending.returned (.tuple #[a, b, c, d]) = .returned (.tuple #[e, f, g, h]) := by rw [h1, h2, h3, h4]
/-- what is decoded, handed back -/
def RetD (w : World) (D : Dec) (e : Ending) (w' : World) : Prop := ∃ v, e = .returned (.tuple #[.string (bs D.1), .int .i64 D.2.1, v, .int .i64 D.2.2.2]) ∧ ownF w' w.heap.size v D.2.2.1 ∧ Below w.heap.size w w'
/-- the frame -/
def decA (S : ByteArray) (most : Int) (b : Nat) (x5 x6 x7 x9 x11 : Value) (U : Nat → Value) : Act :=
  { tmps := #[.string S, .int .i64 most, U 2, U 3, .string ⟨#[]⟩, x5, x6, x7, .pointer (some ⟨b, 0, none⟩), x9, U 10, x11, U 12, U 13, U 14, U 15, U 16, U 17, U 18, U 19, U 20, U 21, U 22, U 23, U 24, U 25, U 26, U 27, U 28, U 29, U 30, U 31, U 32, U 33, U 34, U 35, U 36, U 37, U 38, U 39, U 40, U 41, U 42, U 43, U 44, U 45, U 46, U 47, U 48, U 49, U 50, U 51, U 52, U 53, U 54, U 55, U 56], defers := [] }
theorem decA_mk {S : ByteArray} {most : Int} {b : Nat} {x5 x6 x7 x9 x11 : Value} (T : Array Value) (h : T = (decA S most b x5 x6 x7 x9 x11 fun n => T.getD n undef).tmps) : ({ tmps := T, defers := [] } : Act) = decA S most b x5 x6 x7 x9 x11 fun n => T.getD n undef := by
  conv => lhs; rw [h]
  rfl
def decM (a : Act) : Nat := (match a.tmps.getD 5 undef with | .int _ n => n.toNat | _ => 0)
theorem head_bad {s : List UInt8} {room : Nat} {acc : List UInt8} {k : Nat} (h : (headL s room).2.2 ≠ 0) : behind acc k (decL s room) = bad (headL s room).2.2 := by
  rw [decL_eq, if_neg h, behind_bad h]
theorem head_some {s : List UInt8} {u room : Nat} {acc : List UInt8} (h : (headL (s.drop u) room).2.2 = 0) (h1 : (headL (s.drop u) room).1 ≠ 0) :
    behind acc u (decL (s.drop u) room) = behind acc (u + (headL (s.drop u) room).2.1) (bytesD (s.drop (u + (headL (s.drop u) room).2.1)) (headL (s.drop u) room).1 room) := by
  rw [decL_eq, if_pos h, if_neg h1, behind_behind, List.append_nil, List.drop_drop]
theorem head_none {s : List UInt8} {u room : Nat} {acc : List UInt8} (h : (headL (s.drop u) room).2.2 = 0) (h1 : (headL (s.drop u) room).1 = 0) :
    behind acc u (decL (s.drop u) room) = behind acc (u + (headL (s.drop u) room).2.1) (lastsD (s.drop (u + (headL (s.drop u) room).2.1))) := by
  rw [decL_eq, if_pos h, if_pos h1, behind_behind, List.append_nil, List.drop_drop]
theorem head_line {s : List UInt8} {u room : Nat} (h : (headL (s.drop u) room).2.2 = 0) : s.drop (u + (headL (s.drop u) room).2.1 - 2) = 13 :: 10 :: s.drop (u + (headL (s.drop u) room).2.1) := by
  obtain ⟨_, _, _, f, hf, _, hu⟩ := head_ok h
  obtain ⟨_, f2, f3, _⟩ := find_hit (s := s.drop u) (mark := [13, 10]) (most := 2050) (by simp) (by rw [hf])
  rw [hf] at f2 f3
  simp only [List.length_cons, List.length_nil, List.length_drop] at f2 f3
  obtain ⟨g1, g2⟩ := (occ_two _ _ _ _).1 f3
  rw [List.getElem?_drop] at g1 g2
  rw [hu, show u + (f + 2) - 2 = u + f from by omega]
  have l1 : u + f < s.length := by omega
  have l2 : u + f + 1 < s.length := by omega
  rw [List.drop_eq_getElem_cons l1, List.drop_eq_getElem_cons l2]
  rw [List.getElem?_eq_getElem l1] at g1
  rw [show u + (f + 1) = u + f + 1 from by omega, List.getElem?_eq_getElem l2] at g2
  rw [Option.some.inj g1, Option.some.inj g2, show u + (f + 2) = u + f + 1 + 1 from by omega]
theorem chunk_bad {s : List UInt8} {n room k : Nat} {acc : List UInt8} (h : (chunkL s n).2.2 ≠ 0) : behind acc k (bytesD s n room) = bad (chunkL s n).2.2 := by
  unfold bytesD; rw [if_neg h, behind_bad h]
theorem chunk_some {s : List UInt8} {u n room : Nat} {acc : List UInt8} (h : (chunkL (s.drop u) n).2.2 = 0) :
    behind acc u (bytesD (s.drop u) n room) = behind (acc ++ (chunkL (s.drop u) n).1) (u + (chunkL (s.drop u) n).2.1) (decL (s.drop (u + (chunkL (s.drop u) n).2.1)) (room - n)) := by
  unfold bytesD; rw [if_pos h, behind_behind, List.drop_drop]
theorem lasts_bad {s : List UInt8} {k : Nat} {acc : List UInt8} (h : (lastsL s).2.2 ≠ 0) : behind acc k (lastsD s) = bad (lastsL s).2.2 := by
  unfold lastsD; rw [if_neg h, behind_bad h]
theorem lasts_some {s : List UInt8} {k : Nat} {acc : List UInt8} (h : (lastsL s).2.2 = 0) : behind acc k (lastsD s) = (acc, k + (lastsL s).2.1, (lastsL s).1, 0) := by
  unfold lastsD behind; rw [if_pos h]; simp

/-- what holds at each label -/
def at0 (s : List UInt8) (D : Dec) (w : World) (S : ByteArray) (most : Int) (a : Act) (w' : World) : Prop :=
  ∃ (u r : Nat) (x9 : Value) (U : Nat → Value) (acc : List UInt8), a = decA S most w.heap.size (.int .i64 u) (.slice none 0 0) (.int .i64 0) x9 (.int .i64 r) U ∧ u ≤ s.length ∧ acc.length + r ≤ 262144 ∧
    Hid (D = behind acc u (decL (s.drop u) r)) ∧ Hid (bldr w' w.heap.size w.heap.size acc) ∧ Hid (Below w.heap.size w w')
def at1 (D : Dec) (w : World) (S : ByteArray) (most : Int) (a : Act) (w' : World) : Prop :=
  ∃ (e : Int) (x5 x6 x9 x11 : Value) (U : Nat → Value), a = decA S most w.heap.size x5 x6 (.int .i64 e) x9 x11 U ∧ Hid (D = bad e) ∧ Hid (Below w.heap.size w w')
def at2 (s : List UInt8) (D : Dec) (w : World) (S : ByteArray) (most : Int) (a : Act) (w' : World) : Prop :=
  ∃ (u r n : Nat) (U : Nat → Value) (acc : List UInt8), a = decA S most w.heap.size (.int .i64 u) (.slice none 0 0) (.int .i64 0) (.int .i64 n) (.int .i64 r) U ∧ u ≤ s.length ∧ acc.length + r ≤ 262144 ∧ n ≤ r ∧
    Hid (D = behind acc u (bytesD (s.drop u) n r)) ∧ Hid (bldr w' w.heap.size w.heap.size acc) ∧ Hid (Below w.heap.size w w')
def at3 (s : List UInt8) (D : Dec) (w : World) (S : ByteArray) (most : Int) (a : Act) (w' : World) : Prop :=
  ∃ (u : Nat) (x9 x11 : Value) (U : Nat → Value) (acc : List UInt8), a = decA S most w.heap.size (.int .i64 u) (.slice none 0 0) (.int .i64 0) x9 x11 U ∧ 2 ≤ u ∧ u ≤ s.length ∧
    Hid (D = behind acc u (lastsD (s.drop u)) ∧ s.drop (u - 2) = 13 :: 10 :: s.drop u) ∧ Hid (bldr w' w.heap.size w.heap.size acc) ∧ Hid (Below w.heap.size w w')
def decMu (s : List UInt8) (l : Nat) (a : Act) (_ : World) : Nat := if l = 0 then 4 * (s.length - decM a) + 2 else if l = 1 then 0 else if l = 2 then 4 * (s.length - decM a) + 3 else 1

set_option maxHeartbeats 4000000 in
set_option maxRecDepth 100000 in
theorem decode_any (s : List UInt8) (most : Int) (w : World) (he : EnvC w) (hs : s.length ≤ 1048576) :
    Calls Tryd.prog 10 #[.string (bs s), .int .i64 most] w (RetD w (decodeL s most)) := by
  have hD0 : decodeL s most = behind [] 0 (decL (s.drop 0) (roomOf most)) := by
    rw [behind_nil _ (plain_decL _ _), List.drop_zero]; rfl
  have hroom : min (max most 0) 262144 = (roomOf most : Int) := by unfold roomOf; omega
  have hrl : roomOf most ≤ 262144 := by unfold roomOf; omega
  generalize roomOf most = room at hD0 hroom hrl
  have HE := Lib.hid he; clear he
  have hts := fun (u r : Nat) (w' : World) (hb : Below w.heap.size w w') (hu : u ≤ s.length) => takeSize_any s u r w' (HE.out.bel hb) hs hu
  have htc := fun (u n : Nat) (w' : World) (hu : u ≤ s.length) (hn : n ≤ 262144) => takeChunk_any s u n w' hs hu (by omega)
  have htt := fun (u : Nat) (w' : World) (hb : Below w.heap.size w w') (hu : u ≤ s.length) (h2 : 2 ≤ u) (h13 : s.drop (u - 2) = 13 :: 10 :: s.drop u) => takeTrailers_any s u w' (HE.out.bel hb) hs hu h2 h13
  obtain ⟨S, hSe, hSl, hSz⟩ := text_of s
  rw [← hSe] at hts htc htt
  rw [← hSe]
  have HTS := Lib.hid hts; have HTC := Lib.hid htc; have HTT := Lib.hid htt; have HD0 := Lib.hid hD0
  clear hts htc htt hD0 hSe hSl hSz HE
  generalize decodeL s most = D at *
  go_enter Tryd.func10, Tryd.ntmps10
  go_wp2
  refine wp_scope_four (at0 s D w S most) (at1 D w S most) (at2 s D w S most) (at3 s D w S most) (decMu s) rfl rfl rfl rfl ?first ?p0 ?p1 ?p2 ?p3
  case first =>
    intro H0
    go_wp2_with fail
    go_step3
    simp only [Exit.then]
    rename_i K hK
    refine hK _ _ (H0 _ _ ?_)
    exact ⟨0, room, _, _, [], decA_mk _ rfl, Nat.zero_le _, by simp; omega, HD0, bldr_new w _ (Nat.le_refl _), (Below.refl _ _).alloc (Nat.le_refl _) _⟩
  case p0 =>
    rintro a w' ⟨u, r, x9, U, acc, rfl, hu, hr, HD, HBD, HB⟩
    have h := HTS.out u r w' HB.out hu
    have hok := head_ok (r := s.drop u) (room := r)
    have hbad := head_bad (s := s.drop u) (room := r) (acc := acc) (k := u)
    have hsome := head_some (s := s) (u := u) (room := r) (acc := acc)
    have hnone := head_none (s := s) (u := u) (room := r) (acc := acc)
    have hline := head_line (s := s) (u := u) (room := r)
    rw [← HD.out] at hbad hsome hnone
    rw [List.length_drop] at hok
    generalize headL (s.drop u) r = H at *
    obtain ⟨n, k, e⟩ := H
    simp only at h hok hbad hsome hnone hline
    have HC := Lib.hid h; clear h HTS HTC HTT
    unfold decA
    by_cases hz : e = 0
    · subst hz
      obtain ⟨k3, kl, nr, -⟩ := hok rfl
      have hnx : nextI u k 0 = ((u + k : Nat) : Int) := by unfold nextI; rw [if_pos rfl]; push_cast; rfl
      rw [hnx] at HC
      clear hbad hnx hok
      by_cases hn : n = 0
      · subst hn
        have HN := Lib.hid (hnone rfl rfl); have HL := Lib.hid (hline rfl)
        clear hsome hnone hline
        go_wp2_with (go_at_call 18; refine HC.out.mono ?_; rintro e w1 ⟨rfl, hb1⟩; have HB1 := Lib.hid (HB.out.trans (hb1.mono HB.out.size)); have HBD1 := Lib.hid (HBD.out.bel hb1); clear hb1)
        go_step3
        refine And.intro (four3 ⟨u + k, _, _, _, acc, decA_mk _ rfl, by omega, by omega, ⟨HN.out, HL.out⟩, HBD1, HB1⟩) ?_
        simp [decMu, decM]
      · have hn0 : (0 : Int) < n := by omega
        have HN := Lib.hid (hsome rfl hn)
        clear hsome hnone hline hn
        go_wp2_with (go_at_call 18; refine HC.out.mono ?_; rintro e w1 ⟨rfl, hb1⟩; have HB1 := Lib.hid (HB.out.trans (hb1.mono HB.out.size)); have HBD1 := Lib.hid (HBD.out.bel hb1); clear hb1)
        go_step3
        refine And.intro (four2 ⟨u + k, r, n, _, acc, decA_mk _ rfl, by omega, hr, nr, HN, HBD1, HB1⟩) ?_
        simp [decMu, decM]; omega
    · have hne : (e != 0) = true := by simpa using hz
      have HN := Lib.hid (hbad hz)
      clear hbad hsome hnone hline hz hok
      go_wp2_with (go_at_call 18; refine HC.out.mono ?_; rintro e w1 ⟨rfl, hb1⟩; have HB1 := Lib.hid (HB.out.trans (hb1.mono HB.out.size)); clear hb1)
      go_step3
      refine And.intro (four1 ⟨e, _, _, _, _, _, decA_mk _ rfl, HN, HB1⟩) ?_
      simp [decMu]
  case p1 =>
    rintro a w' ⟨e, x5, x6, x9, x11, U, rfl, HD, HB⟩
    unfold decA
    go_wp2
    refine bodyPost_ret (res_four rfl _ _ _) rfl ?_
    refine ⟨_, ret_four ?_ ?_ rfl ?_, ?_, HB.out⟩
    · rw [HD.out]; rfl
    · rw [HD.out]; rfl
    · rw [HD.out]; rfl
    · rw [HD.out]; exact ownF_nil _ _
  case p2 =>
    rintro a w' ⟨u, r, n, U, acc, rfl, hu, hr, nr, HD, HBD, HB⟩
    have h := HTC.out u n w' hu (by omega)
    have hok := chunk_ok (t := s.drop u) (n := n)
    have hbad := chunk_bad (s := s.drop u) (n := n) (room := r) (acc := acc) (k := u)
    have hsome := chunk_some (s := s) (u := u) (n := n) (room := r) (acc := acc)
    rw [← HD.out] at hbad hsome
    rw [List.length_drop] at hok
    have htl : ((s.drop u).take n).length ≤ n := List.length_take_le _ _
    generalize (s.drop u).take n = T at hok htl
    generalize chunkL (s.drop u) n = C at *
    obtain ⟨c, k, e⟩ := C
    simp only at h hok hbad hsome
    have HC := Lib.hid h; clear h HTS HTC HTT
    unfold decA
    by_cases hz : e = 0
    · subst hz
      obtain ⟨rfl, hk, kl, -⟩ := hok rfl
      have hnx : nextI u k 0 = ((u + k : Nat) : Int) := by unfold nextI; rw [if_pos rfl]; push_cast; rfl
      rw [hnx] at HC
      have HN := Lib.hid (hsome rfl)
      have hwr := fun (w' : World) (h1 : bldr w' w.heap.size w.heap.size acc) (h2 : w.heap.size ≤ w'.heap.size) => write_any w.heap.size w.heap.size acc c w' h1 (by omega) h2
      have HWR := Lib.hid hwr
      have hcl : (acc ++ c).length + (r - n) ≤ 262144 := by rw [List.length_append]; omega
      have hrn : (r : Int) - n = ((r - n : Nat) : Int) := by omega
      have hul : u + k ≤ s.length := by omega
      have HK : Hid (0 < k) := by show 0 < k; omega
      clear hbad hnx hok hsome hwr hk
      go_wp2_with (go_at_call 19; refine HC.out.mono ?_; rintro e w1 ⟨rfl, rfl⟩)
      refine (HWR.out _ HBD.out HB.out.size).mono ?_; rintro e w1 ⟨rfl, h1, h2⟩
      have HB1 := Lib.hid (HB.out.trans h2); have HBD1 := Lib.hid h1; clear h1 h2
      go_wp2_with fail
      go_step3
      refine And.intro (four0 ⟨u + k, r - n, _, _, acc ++ c, decA_mk _ rfl, hul, hcl, HN, HBD1, HB1⟩) ?_
      have hk := HK.out
      simp [decMu, decM]; omega
    · have hne : (e != 0) = true := by simpa using hz
      have HN := Lib.hid (hbad hz)
      clear hbad hsome hz hok
      go_wp2_with (go_at_call 19; refine HC.out.mono ?_; rintro e w1 ⟨rfl, rfl⟩)
      go_step3
      refine And.intro (four1 ⟨e, _, _, _, _, _, decA_mk _ rfl, HN, HB⟩) ?_
      simp [decMu]
  case p3 =>
    rintro a w' ⟨u, x9, x11, U, acc, rfl, h2, hu, HD, HBD, HB⟩
    have h := HTT.out u w' HB.out hu h2 HD.out.2
    have hbad := lasts_bad (s := s.drop u) (acc := acc) (k := u)
    have hsome := lasts_some (s := s.drop u) (acc := acc) (k := u)
    rw [← HD.out.1] at hbad hsome
    generalize lastsL (s.drop u) = L at *
    obtain ⟨l, k, e⟩ := L
    unfold RetT at h
    simp only at h hbad hsome
    have HC := Lib.hid h; clear h HTS HTC HTT
    unfold decA
    by_cases hz : e = 0
    · subst hz
      have hnx : nextI u k 0 = ((u + k : Nat) : Int) := by unfold nextI; rw [if_pos rfl]; push_cast; rfl
      rw [hnx] at HC
      have HN := Lib.hid (hsome rfl)
      clear hbad hnx hsome
      go_wp2_with (go_at_call 21; refine HC.out.mono ?_; rintro e w1 ⟨v, rfl, ho, hb1⟩; obtain ⟨A, cp, rfl⟩ := ho.form; have HO := Lib.hid ho; have HB1 := Lib.hid (HB.out.trans (hb1.mono HB.out.size)); have HBD1 := Lib.hid (HBD.out.bel hb1); clear hb1 ho)
      refine (string_keep w.heap.size w.heap.size acc _ HBD1.out HB1.out.size).mono ?_; rintro e w2 ⟨rfl, h1, h2⟩
      have HB2 := Lib.hid (HB1.out.trans h1); have HO2 := Lib.hid (HO.out.others HBD.out.lt h2); clear h1 h2
      go_wp2_with fail
      refine bodyPost_ret (res_four rfl _ _ _) rfl ?_
      refine ⟨_, ret_four ?_ ?_ rfl ?_, ?_, HB2.out⟩
      · rw [HN.out]; rfl
      · rw [HN.out]; rfl
      · rw [HN.out]; rfl
      · rw [HN.out]; exact HO2.out.mono HB.out.size
    · have hne : (e != 0) = true := by simpa using hz
      have HN := Lib.hid (hbad hz)
      clear hbad hsome hz
      go_wp2_with (go_at_call 21; refine HC.out.mono ?_; rintro e w1 ⟨v, rfl, ho, hb1⟩; obtain ⟨A, cp, rfl⟩ := ho.form; have HB1 := Lib.hid (HB.out.trans (hb1.mono HB.out.size)); clear hb1 ho)
      go_step3
      refine And.intro (four1 ⟨e, _, _, _, _, _, decA_mk _ rfl, HN, HB1⟩) ?_
      simp [decMu]
end Go.Proofs.YtoengnefdndgfaaDoor
