/- A text appended to bytes. -/
import Derived.Test.YtgkjjmcjlobbpaaGreatDoorKChunkA
import Derived.Test.YtgkjjmcjlobbpaaGreatDoorKChunkL
import Derived.Test.YtgkjjmcjlobbpaaGreatDoorKFieldsG
import Derived.Test.YtgkjjmcjlobbpaaGreatDoorKFieldsO
import Derived.Lib.AppendStr
namespace Go.Proofs.YtgkjjmcjlobbpaaGreatDoor
open Go.RowKit
/-- 'append(b, s...)', s a text -/
theorem wpList_appT {w0 w : World} {ops : Array Oper} {rest : List Oper} {o : Oper} {a : Act} {Q : Exit → Act → World → Prop} (hgd : o.guard = none) (s x : Operand)
    (ho : o.op = .call { callee := .builtin .append, args := #[s, x], argTypes := #[50, 9] })
    (base B : Nat) (v : Value) (l : List UInt8) (t : ByteArray) (hs : a.eval s = v) (hown : ownB w base v l) (hb : Below B w0 w) (hBb : B ≤ base) (hbase : base ≤ w.heap.size)
    (hx : a.eval x = .string t) (hlen : l.length + t.size ≤ 140737488355328)
    (h : ∀ v' w', Hid (ownB w' base v' (l ++ t.data.toList)) → Hid (Below B w0 w') → wpList Tryz.prog ops Q rest (a.put o.dst v') w') :
    wpList Tryz.prog ops Q (o :: rest) a w := by
  obtain ⟨i0, hi, hz0, hz1, hz2⟩ := info_parts infoB
  refine Lib.wpList_append_own_string _ hgd s x 50 9 ho base 5 i0 Tryz.underlying50 Tryz.underlying9 hi hz0 hz1 hz2 v l.length _ hs hown t hx ?_ ?_ hbase ?_
  · unfold maxLen; omega
  · omega
  · intro v' w' h1 h2 _
    refine h v' w' ?_ ?_
    · show ownB _ _ _ _
      unfold ownB
      rw [Lib.byteCells_append, List.length_append]
      have e : Lib.strCells t = Lib.byteCells t.data.toList := by simp [Lib.strCells, Lib.byteCells]
      rw [e] at h1
      exact h1
    · exact hb.grown h2 (Nat.le_trans hBb hbase) (fun k hk => Nat.le_trans hBb (hown.ge k hk))
theorem ownB.shape {w : World} {base : Nat} {v : Value} {l : List UInt8} (h : ownB w base v l) : ∃ a n c, v = .slice a n c := by
  rcases h.2 with ⟨hv, _⟩ | ⟨g, cap, cur, hv, _⟩
  · exact ⟨_, _, _, hv⟩
  · exact ⟨_, _, _, hv⟩
end Go.Proofs.YtgkjjmcjlobbpaaGreatDoor

/- The document's decoder. -/
namespace Go.Proofs.YtgkjjmcjlobbpaaGreatDoor
open Go.RowKit

theorem retD_bad {w w' : World} {D : Dec} {E : Int} (h : D = bad E) (hb : Below w.heap.size w w') : RetD w D (.returned (.tuple #[.string ⟨#[]⟩, .int .i64 0, .slice none 0 0, .int .i64 E])) w' := by
  subst h; exact ⟨_, rfl, ownF_nil _ _, hb⟩
theorem place_ok (p n m : Nat) : placeI p (n, 0) m = ((p + n + m : Nat) : Int) := rfl
theorem place_no {p m : Nat} {F : Nat × Int} (h : F.2 ≠ 0) : placeI p F m = 0 := if_neg h
theorem ownB.form {w : World} {base : Nat} {v : Value} {l : List UInt8} (h : ownB w base v l) : ∃ a c, v = .slice a l.length c := by
  rcases h.2 with ⟨hv, hn⟩ | ⟨g, cap, cur, hv, _⟩
  · exact ⟨none, 0, by rw [hv, hn]⟩
  · exact ⟨_, _, hv⟩
theorem ownF.other {w w' : World} {base : Nat} {v : Value} {l : List Fld} (h : ownF w base v l) (hb : Below w.heap.size w w') : ownF w' base v l := h.bel hb

set_option maxHeartbeats 8000000 in
set_option maxRecDepth 100000 in
theorem rdecodeA_any (s : ByteArray) (most : Int) (w : World) (hs : s.size ≤ 1048576) (h1 : 262144 < most) :
    Calls Tryz.prog 68 #[.string s, .int .i64 most] w (RetD w (decodeL s.data.toList most)) := by
  have hD0 : decodeL s.data.toList most = behind [] 0 (decL (s.data.toList.drop 0) (roomOf most)) := by
    rw [behind_nil _ (plain_decL _ _), List.drop_zero]; rfl
  obtain ⟨room, hrm⟩ : ∃ room : Nat, roomOf most = room := ⟨_, rfl⟩
  have hroom : (room : Int) = 262144 := by unfold roomOf at hrm; omega
  have hrl : (room : Int) ≤ 262144 := by unfold roomOf at hrm; omega
  rw [hrm] at hD0
  clear hrm
  have HZ := Hold.mk (size_len s)
  obtain ⟨L, hL⟩ : ∃ L, L = s.data.toList := ⟨_, rfl⟩
  have HH := Hold.mk fun (p : Nat) (w : World) (hp : p ≤ s.size) => rhead_any s p w hp hs
  have HT := Hold.mk fun (p : Nat) (w : World) (hp : p ≤ s.size) => rtail_any s p w hp hs
  have HS := Hold.mk fun (p n : Nat) (w : World) (hp : p + n ≤ s.size) => rsize_any (s.extract p (p + n)) w (by simp only [Lib.size_eq, Lib.extract_data, List.length_take]; omega)
  have HX : Hold (∀ p n, (s.extract p (p + n)).data.toList = (L.drop p).take n) := ⟨fun p n => by rw [Lib.extract_data, hL, Nat.add_sub_cancel_left]⟩
  have HP := Hold.mk fun (p n : Nat) (w : World) (hp : p + n ≤ s.size) => rparse_s (s.extract p (p + n)) w (by simp only [Lib.size_eq, Lib.extract_data, List.length_take]; omega)
  have HEN := Hold.mk fun (q : Nat) (hq : q ≤ s.size) => end_at s q hq
  have HE := Hold.mk fun (q : Nat) (w : World) (hq : q ≤ s.size) => rends_any s q w (by omega)
  rw [← hL] at hD0 ⊢
  rw [← hL] at HH HT HZ HEN HE
  have HD0 := Hold.mk hD0
  generalize decodeL L most = D at *
  clear hL hD0
  have hU : ∀ (p n : Nat), p ≤ s.size → ((L.drop p).length < n ↔ s.size - p < n) := fun p n _ => by rw [List.length_drop, ← HZ.out]
  have HU := Hold.mk hU; clear hU
  go_enter Tryz.func68, Tryz.ntmps68
  go_wp2_with fail
  go_loopw [8, 9, 10, 11, 12] (fun o i _ _ _ wr => ∃ (u : Nat) (acc : List UInt8), i = .int .i64 u ∧ u ≤ s.size ∧ acc.length ≤ room ∧ ownB wr w.heap.size o acc ∧ Below w.heap.size w wr ∧ D = behind acc u (decL (L.drop u) (room - acc.length)))
    (fun _ i _ _ _ _ => s.size - (intOf i).toNat)
  case atStart => exact ⟨0, [], rfl, Nat.zero_le _, Nat.zero_le _, ownB_nil _ _, Below.refl _ _, HD0.out⟩
  case round =>
    obtain ⟨u, acc, rfl, hu, hal, ho, hb, hd⟩ := hrel
    obtain ⟨ao, co, rfl⟩ := ho.form
    have HO := Hold.mk ho; have HB := Hold.mk hb
    have HD1 := dec_noLine (L := L) (acc := acc) (u := u) (r := room - acc.length)
    have HD2 := fun f => dec_noSize (L := L) (acc := acc) (u := u) (r := room - acc.length) (f := f)
    have HD3 := fun f n => dec_room (L := L) (acc := acc) (u := u) (r := room - acc.length) (f := f) (n := n)
    have HD4 := fun f => dec_last (L := L) (acc := acc) (u := u) (r := room - acc.length) (f := f)
    have HD5 := fun f n => dec_chunk (L := L) (acc := acc) (u := u) (r := room - acc.length) (f := f) (n := n)
    rw [← hd] at HD1
    simp only [← hd] at HD2 HD3 HD4 HD5
    have hhead := HH.out u wr hu
    have hfit := fun h => (find_hit (s := L.drop u) (mark := [13, 10]) (most := 2050) (by simp) h).2.1
    rw [List.length_drop, ← HZ.out] at hfit
    generalize hF : findL (L.drop u) [13, 10] 2050 = F at hhead HD1 HD2 HD3 HD4 HD5 hfit
    clear ho hb hd hF
    obtain ⟨f, e⟩ := F
    by_cases hz : e = 0
    · subst hz
      have hf2 := hfit rfl
      simp only [List.length_cons, List.length_nil] at hf2
      rw [place_ok] at hhead
      simp only at hhead
      have HHD := Hold.mk hhead
      have huf : u + f + 0 = u + f := rfl
      rw [huf] at HHD
      clear hhead HD1 hfit huf
      have hsz := HS.out u f wr (by omega)
      rw [HX.out] at hsz
      have D2 := HD2 f rfl; have D3 := fun n => HD3 f n rfl; have D4 := HD4 f rfl; have D5 := fun n => HD5 f n rfl
      have hnl := fun n (h : sizeN ((L.drop u).take f) = some n) => sizeN_lt h
      clear HD2 HD3 HD4 HD5
      generalize sizeN ((L.drop u).take f) = N at hsz D2 D3 D4 D5 hnl
      have HSZ := Hold.mk hsz; clear hsz
      obtain ⟨t, ht⟩ : ∃ t, t = u + f := ⟨_, rfl⟩
      rw [← ht] at HHD HSZ D4
      simp only [← ht] at D5
      have huf2 : t + 2 ≤ s.size := by omega
      have hut : u ≤ t := by omega
      clear ht hf2
      cases N with
      | none =>
        have HDD := Hold.mk (D2 rfl)
        simp only [sizeI] at HSZ
        clear D2 D3 D4 D5 hnl
        go_wp2_with (first | (go_at_call 120; refine HHD.out.mono ?_; rintro e w1 ⟨rfl, rfl⟩) | (go_at_call 121; refine HSZ.out.mono ?_; rintro e w1 ⟨rfl, rfl⟩))
        refine bodyPost_ret (res_four rfl _ _ _) rfl ?_
        exact retD_bad HDD.out HB.out
      | some n =>
        have HN32 := Hold.mk (hnl n rfl)
        have hw1 : IntKind.i64.wrap ((acc.length : Int) + n) = (acc.length : Int) + n := by rw [IntKind.wrap_i64]; have := HN32.out; omega
        have hw2 : IntKind.i64.wrap ((t : Int) + 2 + n) = (t : Int) + 2 + n := by rw [IntKind.wrap_i64]; have := HN32.out; omega
        simp only [sizeI] at HSZ
        by_cases h0 : n = 0
        · subst h0
          have HDD := Hold.mk (D4 rfl)
          clear D2 D3 D4 D5 hnl
          have htail := HT.out (t + 2) wr (by omega)
          have e1 := dec_noTail (L := L) (acc := acc) (u := t + 2)
          have e2 := fun n => dec_noFields (L := L) (acc := acc) (u := t + 2) (n := n)
          have e3 := fun n => dec_fields (L := L) (acc := acc) (u := t + 2) (n := n)
          rw [← HDD.out] at e1
          simp only [← HDD.out] at e2 e3
          have hfit2 := fun h => (find_hit (s := 13 :: 10 :: L.drop (t + 2)) (mark := [13, 10, 13, 10]) (most := 8194) (by simp) h).2.1
          simp only [List.length_cons, List.length_nil, List.length_drop] at hfit2
          rw [← HZ.out] at hfit2
          generalize hF : findL (13 :: 10 :: L.drop (t + 2)) [13, 10, 13, 10] 8194 = F at htail e1 e2 e3 hfit2
          clear hF
          obtain ⟨g, e⟩ := F
          by_cases hz : e = 0
          · subst hz
            have hg := hfit2 rfl
            rw [place_ok] at htail
            simp only at htail hg
            have HTD := Hold.mk htail
            have hpa := HP.out (t + 2) g wr (by omega)
            rw [HX.out] at hpa
            have E2 := e2 g rfl; have E3 := e3 g rfl
            clear htail e1 e2 e3 hfit2
            generalize parseL ((L.drop (t + 2)).take g) = R at hpa E2 E3
            obtain ⟨l, x⟩ := R
            unfold RetP at hpa
            simp only at hpa E2 E3
            have HPA := Hold.mk hpa; clear hpa
            have hin : t + 2 + g ≤ s.size := by omega
            have hcut : ((t + 2 + g + 2 : Nat) : Int) - 2 = ((t + 2 + g : Nat) : Int) := by omega
            by_cases hx : x = 0
            · subst hx
              have HDE := Hold.mk (E3 rfl)
              have hback := HO.out.back
              clear E2 E3 HDD
              go_wp2_with (first | (go_at_call 120; refine HHD.out.mono ?_; rintro e w1 ⟨rfl, rfl⟩) | (go_at_call 121; refine HSZ.out.mono ?_; rintro e w1 ⟨rfl, rfl⟩) | (go_at_call 123; refine HTD.out.mono ?_; rintro e w1 ⟨rfl, rfl⟩))
              refine HPA.out.mono ?_; rintro e w2 ⟨v, rfl, hof, hb2⟩
              obtain ⟨A, c, rfl⟩ := hof.form
              have hback2 := (HO.out.bel hb2).back
              have HF2 := Hold.mk hof; have HB2 := Hold.mk (HB.out.trans (hb2.mono HB.out.size)); clear hof hb2 hback
              go_wp2_with fail
              refine bodyPost_ret (res_four rfl _ _ _) rfl ?_
              rw [HDE.out]
              exact ⟨_, rfl, HF2.out.mono HB.out.size, HB2.out⟩
            · have HDE := Hold.mk (E2 hx)
              have hne : (x != 0) = true := by simpa using hx
              clear E2 E3 HDD hx
              go_wp2_with (first | (go_at_call 120; refine HHD.out.mono ?_; rintro e w1 ⟨rfl, rfl⟩) | (go_at_call 121; refine HSZ.out.mono ?_; rintro e w1 ⟨rfl, rfl⟩) | (go_at_call 123; refine HTD.out.mono ?_; rintro e w1 ⟨rfl, rfl⟩))
              refine HPA.out.mono ?_; rintro e w2 ⟨v, rfl, hof, hb2⟩
              obtain ⟨A, c, rfl⟩ := hof.form
              have HB2 := Hold.mk (HB.out.trans (hb2.mono HB.out.size)); clear hof hb2
              go_wp2_with fail
              refine bodyPost_ret (res_four rfl _ _ _) rfl ?_
              exact retD_bad HDE.out HB2.out
          · have HDE := Hold.mk (e1 hz)
            have hne : (e != 0) = true := by simpa using hz
            rw [place_no hz] at htail
            simp only at htail
            have HTD := Hold.mk htail
            clear e1 e2 e3 hfit2 hz htail HDD
            go_wp2_with (first | (go_at_call 120; refine HHD.out.mono ?_; rintro e w1 ⟨rfl, rfl⟩) | (go_at_call 121; refine HSZ.out.mono ?_; rintro e w1 ⟨rfl, rfl⟩) | (go_at_call 123; refine HTD.out.mono ?_; rintro e w1 ⟨rfl, rfl⟩))
            refine bodyPost_ret (res_four rfl _ _ _) rfl ?_
            exact retD_bad HDE.out HB.out
        · have hn0 : ((n : Int) == 0) = false := beq_eq_false_iff_ne.2 (by omega)
          have hnn : ¬ (n : Int) < 0 := by omega
          have hpl : t + 2 ≤ s.size := huf2
          by_cases hr : room - acc.length < n
          · have HDD := Hold.mk (D3 n rfl hr)
            have hgt : 262144 < (acc.length : Int) + n := by omega
            clear D2 D3 D4 D5 hnl hr h0
            go_wp2_with (first | (go_at_call 120; refine HHD.out.mono ?_; rintro e w1 ⟨rfl, rfl⟩) | (go_at_call 121; refine HSZ.out.mono ?_; rintro e w1 ⟨rfl, rfl⟩))
            refine bodyPost_ret (res_four rfl _ _ _) rfl ?_
            exact retD_bad HDD.out HB.out
          · have HDD := Hold.mk (D5 n rfl h0 hr)
            have hgt : ¬ 262144 < (acc.length : Int) + n := by omega
            have hrr : acc.length + n ≤ room := by omega
            clear D2 D3 D4 D5 hnl hr h0
            by_cases hl : s.size - (t + 2) < n
            · have HDE := Hold.mk (HDD.out.trans (dec_short ((HU.out (t + 2) n hpl).2 hl)))
              have hq : (s.size : Int) < (t : Int) + 2 + n := by omega
              clear hl
              go_wp2_with (first | (go_at_call 120; refine HHD.out.mono ?_; rintro e w1 ⟨rfl, rfl⟩) | (go_at_call 121; refine HSZ.out.mono ?_; rintro e w1 ⟨rfl, rfl⟩))
              refine bodyPost_ret (res_four rfl _ _ _) rfl ?_
              exact retD_bad HDE.out HB.out
            · have hno := Hold.mk (fun h => hl ((HU.out (t + 2) n hpl).1 h))
              have hql : t + 2 + n ≤ s.size := by omega
              have hq : ¬ (s.size : Int) < ((t : Int) + 2 + n) := by omega
              have hend := HEN.out (t + 2 + n) hql
              have HEC := Hold.mk (HE.out (t + 2 + n) wr hql)
              have HEW := Hold.mk fun w => HE.out (t + 2 + n) w hql
              rw [show ((t + 2 + n : Nat) : Int) = (t : Int) + 2 + n from by push_cast; rfl] at HEW
              have hc1 := dec_badEnd (acc := acc) (r := room - acc.length) hno.out
              have hc2 := dec_next (acc := acc) (r := room - acc.length) hno.out
              rw [← HDD.out] at hc1 hc2
              have hac : acc.length + (s.extract (t + 2) (t + 2 + n)).size ≤ 140737488355328 := by
                rw [Lib.size_eq, Lib.extract_data, List.length_take]; omega
              have HAC := Hold.mk hac
              have hxt := HX.out (t + 2) n
              have hxl : ((L.drop (t + 2)).take n).length = n := by rw [List.length_take, List.length_drop, ← HZ.out]; omega
              have HXT := Hold.mk hxt; have HXL := Hold.mk hxl
              clear hl hac HEC hxt hxl
              rcases hend with ⟨g1, g2⟩ | ⟨g1, g2, g3⟩ | ⟨g1, g2, g3⟩ | ⟨g1, g2, g3⟩ | ⟨g1, g2, g3, g4⟩
              · have HDE := Hold.mk (hc1 (by rw [g2]; decide))
                rw [g2] at HDE
                have k1 : (((t : Int) + 2 + n) == (s.size : Int)) = true := by rw [beq_iff_eq]; omega
                clear hc1 hc2 g1 g2
                go_wp2_with (first | (go_at_call 120; refine HHD.out.mono ?_; rintro e w1 ⟨rfl, rfl⟩) | (go_at_call 121; refine HSZ.out.mono ?_; rintro e w1 ⟨rfl, rfl⟩) | (at_builtin; refine wpList_appT rfl (.tmp 53) (.tmp 59) rfl w.heap.size w.heap.size _ acc (s.extract (t + 2) (t + 2 + n)) rfl HO.out HB.out (Nat.le_refl _) HB.out.size rfl HAC.out ?_; intro v3 w3 HO3 HB3; obtain ⟨a3, n3, c3, rfl⟩ := HO3.out.shape) | (go_at_call 122; refine (HEW.out _).mono ?_; rintro e w1 ⟨rfl, rfl⟩))
                refine bodyPost_ret (res_four rfl _ _ _) rfl ?_
                exact retD_bad HDE.out HB3.out
              · have HDE := Hold.mk (hc1 (by rw [g3]; decide))
                rw [g3] at HDE
                have hqs : t + 2 + n < s.size := by omega
                have k1 : (((t : Int) + 2 + n) == (s.size : Int)) = false := beq_eq_false_iff_ne.2 (by omega)
                have k2 : (((t : Int) + 2 + n) + 1 == (s.size : Int)) = true := by rw [beq_iff_eq]; omega
                have k3 : ((s[t + 2 + n].toNat : Int) == 13) = true := by rw [g2]; rfl
                clear hc1 hc2 g1 g2 g3
                go_wp2_with (first | (go_at_call 120; refine HHD.out.mono ?_; rintro e w1 ⟨rfl, rfl⟩) | (go_at_call 121; refine HSZ.out.mono ?_; rintro e w1 ⟨rfl, rfl⟩) | (at_builtin; refine wpList_appT rfl (.tmp 53) (.tmp 59) rfl w.heap.size w.heap.size _ acc (s.extract (t + 2) (t + 2 + n)) rfl HO.out HB.out (Nat.le_refl _) HB.out.size rfl HAC.out ?_; intro v3 w3 HO3 HB3; obtain ⟨a3, n3, c3, rfl⟩ := HO3.out.shape) | (go_at_call 122; refine (HEW.out _).mono ?_; rintro e w1 ⟨rfl, rfl⟩))
                refine bodyPost_ret (res_four rfl _ _ _) rfl ?_
                exact retD_bad HDE.out HB3.out
              · have HDE := Hold.mk (hc2 g3)
                have hqs : t + 2 + n < s.size := by omega
                have k1 : (((t : Int) + 2 + n) == (s.size : Int)) = false := beq_eq_false_iff_ne.2 (by omega)
                have k2 : (((t : Int) + 2 + n) + 1 == (s.size : Int)) = false := beq_eq_false_iff_ne.2 (by omega)
                rw [g2] at HEW
                clear hc1 hc2 g2 g3
                go_wp2_with (first | (go_at_call 120; refine HHD.out.mono ?_; rintro e w1 ⟨rfl, rfl⟩) | (go_at_call 121; refine HSZ.out.mono ?_; rintro e w1 ⟨rfl, rfl⟩) | (at_builtin; refine wpList_appT rfl (.tmp 53) (.tmp 59) rfl w.heap.size w.heap.size _ acc (s.extract (t + 2) (t + 2 + n)) rfl HO.out HB.out (Nat.le_refl _) HB.out.size rfl HAC.out ?_; intro v3 w3 HO3 HB3; obtain ⟨a3, n3, c3, rfl⟩ := HO3.out.shape) | (go_at_call 122; refine (HEW.out _).mono ?_; rintro e w1 ⟨rfl, rfl⟩))
                go_roundw
                case rel =>
                  have hz1 := HXL.out
                  have hsum : (acc ++ (L.drop (t + 2)).take n).length = acc.length + n := by rw [List.length_append, hz1]
                  refine ⟨t + 2 + n + 2, acc ++ (L.drop (t + 2)).take n, by go_num, by omega, by omega, by rw [← HXT.out]; exact HO3.out, HB3.out, ?_⟩
                  rw [HDE.out, hsum, Nat.sub_sub]
                case measure => simp [intOf]; omega
              · have HDE := Hold.mk (hc1 (by rw [g3]; decide))
                rw [g3] at HDE
                have hqs : t + 2 + n < s.size := by omega
                have k1 : (((t : Int) + 2 + n) == (s.size : Int)) = false := beq_eq_false_iff_ne.2 (by omega)
                have k2 : (((t : Int) + 2 + n) + 1 == (s.size : Int)) = false := beq_eq_false_iff_ne.2 (by omega)
                rw [g2] at HEW
                clear hc1 hc2 g2 g3
                go_wp2_with (first | (go_at_call 120; refine HHD.out.mono ?_; rintro e w1 ⟨rfl, rfl⟩) | (go_at_call 121; refine HSZ.out.mono ?_; rintro e w1 ⟨rfl, rfl⟩) | (at_builtin; refine wpList_appT rfl (.tmp 53) (.tmp 59) rfl w.heap.size w.heap.size _ acc (s.extract (t + 2) (t + 2 + n)) rfl HO.out HB.out (Nat.le_refl _) HB.out.size rfl HAC.out ?_; intro v3 w3 HO3 HB3; obtain ⟨a3, n3, c3, rfl⟩ := HO3.out.shape) | (go_at_call 122; refine (HEW.out _).mono ?_; rintro e w1 ⟨rfl, rfl⟩))
                refine bodyPost_ret (res_four rfl _ _ _) rfl ?_
                exact retD_bad HDE.out HB3.out
              · have HDE := Hold.mk (hc1 (by rw [g4]; decide))
                rw [g4] at HDE
                have hqs : t + 2 + n < s.size := by omega
                have k1 : (((t : Int) + 2 + n) == (s.size : Int)) = false := beq_eq_false_iff_ne.2 (by omega)
                have k2 : (((t : Int) + 2 + n) + 1 == (s.size : Int)) = true := by rw [beq_iff_eq]; omega
                have k3 : ((s[t + 2 + n].toNat : Int) == 13) = false := by rw [beq_eq_false_iff_ne]; intro e; exact g2 (UInt8.toNat_inj.1 (by simpa using (by omega : s[t + 2 + n].toNat = 13)))
                rw [g3] at HEW
                clear hc1 hc2 g1 g2 g3 g4
                go_wp2_with (first | (go_at_call 120; refine HHD.out.mono ?_; rintro e w1 ⟨rfl, rfl⟩) | (go_at_call 121; refine HSZ.out.mono ?_; rintro e w1 ⟨rfl, rfl⟩) | (at_builtin; refine wpList_appT rfl (.tmp 53) (.tmp 59) rfl w.heap.size w.heap.size _ acc (s.extract (t + 2) (t + 2 + n)) rfl HO.out HB.out (Nat.le_refl _) HB.out.size rfl HAC.out ?_; intro v3 w3 HO3 HB3; obtain ⟨a3, n3, c3, rfl⟩ := HO3.out.shape) | (go_at_call 122; refine (HEW.out _).mono ?_; rintro e w1 ⟨rfl, rfl⟩))
                refine bodyPost_ret (res_four rfl _ _ _) rfl ?_
                exact retD_bad HDE.out HB3.out
    · have HDD := Hold.mk (HD1 hz)
      have hne : (e != 0) = true := by simpa using hz
      rw [place_no hz] at hhead
      simp only at hhead
      have HHD := Hold.mk hhead
      clear HD1 HD2 HD3 HD4 HD5 hfit hhead hz
      go_wp2_with (go_at_call 120; refine HHD.out.mono ?_; rintro e w1 ⟨rfl, rfl⟩)
      refine bodyPost_ret (res_four rfl _ _ _) rfl ?_
      exact retD_bad HDD.out HB.out

set_option maxHeartbeats 8000000 in
set_option maxRecDepth 100000 in
theorem rdecodeB_any (s : ByteArray) (most : Int) (w : World) (hs : s.size ≤ 1048576) (h1 : ¬ 262144 < most) (h2 : most < 0) :
    Calls Tryz.prog 68 #[.string s, .int .i64 most] w (RetD w (decodeL s.data.toList most)) := by
  have hD0 : decodeL s.data.toList most = behind [] 0 (decL (s.data.toList.drop 0) (roomOf most)) := by
    rw [behind_nil _ (plain_decL _ _), List.drop_zero]; rfl
  obtain ⟨room, hrm⟩ : ∃ room : Nat, roomOf most = room := ⟨_, rfl⟩
  have hroom : (room : Int) = 0 := by unfold roomOf at hrm; omega
  have hrl : (room : Int) ≤ 262144 := by unfold roomOf at hrm; omega
  rw [hrm] at hD0
  clear hrm
  have HZ := Hold.mk (size_len s)
  obtain ⟨L, hL⟩ : ∃ L, L = s.data.toList := ⟨_, rfl⟩
  have HH := Hold.mk fun (p : Nat) (w : World) (hp : p ≤ s.size) => rhead_any s p w hp hs
  have HT := Hold.mk fun (p : Nat) (w : World) (hp : p ≤ s.size) => rtail_any s p w hp hs
  have HS := Hold.mk fun (p n : Nat) (w : World) (hp : p + n ≤ s.size) => rsize_any (s.extract p (p + n)) w (by simp only [Lib.size_eq, Lib.extract_data, List.length_take]; omega)
  have HX : Hold (∀ p n, (s.extract p (p + n)).data.toList = (L.drop p).take n) := ⟨fun p n => by rw [Lib.extract_data, hL, Nat.add_sub_cancel_left]⟩
  have HP := Hold.mk fun (p n : Nat) (w : World) (hp : p + n ≤ s.size) => rparse_s (s.extract p (p + n)) w (by simp only [Lib.size_eq, Lib.extract_data, List.length_take]; omega)
  have HEN := Hold.mk fun (q : Nat) (hq : q ≤ s.size) => end_at s q hq
  have HE := Hold.mk fun (q : Nat) (w : World) (hq : q ≤ s.size) => rends_any s q w (by omega)
  rw [← hL] at hD0 ⊢
  rw [← hL] at HH HT HZ HEN HE
  have HD0 := Hold.mk hD0
  generalize decodeL L most = D at *
  clear hL hD0
  have hU : ∀ (p n : Nat), p ≤ s.size → ((L.drop p).length < n ↔ s.size - p < n) := fun p n _ => by rw [List.length_drop, ← HZ.out]
  have HU := Hold.mk hU; clear hU
  go_enter Tryz.func68, Tryz.ntmps68
  go_wp2_with fail
  go_loopw [8, 9, 10, 11, 12] (fun o i _ _ _ wr => ∃ (u : Nat) (acc : List UInt8), i = .int .i64 u ∧ u ≤ s.size ∧ acc.length ≤ room ∧ ownB wr w.heap.size o acc ∧ Below w.heap.size w wr ∧ D = behind acc u (decL (L.drop u) (room - acc.length)))
    (fun _ i _ _ _ _ => s.size - (intOf i).toNat)
  case atStart => exact ⟨0, [], rfl, Nat.zero_le _, Nat.zero_le _, ownB_nil _ _, Below.refl _ _, HD0.out⟩
  case round =>
    obtain ⟨u, acc, rfl, hu, hal, ho, hb, hd⟩ := hrel
    obtain ⟨ao, co, rfl⟩ := ho.form
    have HO := Hold.mk ho; have HB := Hold.mk hb
    have HD1 := dec_noLine (L := L) (acc := acc) (u := u) (r := room - acc.length)
    have HD2 := fun f => dec_noSize (L := L) (acc := acc) (u := u) (r := room - acc.length) (f := f)
    have HD3 := fun f n => dec_room (L := L) (acc := acc) (u := u) (r := room - acc.length) (f := f) (n := n)
    have HD4 := fun f => dec_last (L := L) (acc := acc) (u := u) (r := room - acc.length) (f := f)
    have HD5 := fun f n => dec_chunk (L := L) (acc := acc) (u := u) (r := room - acc.length) (f := f) (n := n)
    rw [← hd] at HD1
    simp only [← hd] at HD2 HD3 HD4 HD5
    have hhead := HH.out u wr hu
    have hfit := fun h => (find_hit (s := L.drop u) (mark := [13, 10]) (most := 2050) (by simp) h).2.1
    rw [List.length_drop, ← HZ.out] at hfit
    generalize hF : findL (L.drop u) [13, 10] 2050 = F at hhead HD1 HD2 HD3 HD4 HD5 hfit
    clear ho hb hd hF
    obtain ⟨f, e⟩ := F
    by_cases hz : e = 0
    · subst hz
      have hf2 := hfit rfl
      simp only [List.length_cons, List.length_nil] at hf2
      rw [place_ok] at hhead
      simp only at hhead
      have HHD := Hold.mk hhead
      have huf : u + f + 0 = u + f := rfl
      rw [huf] at HHD
      clear hhead HD1 hfit huf
      have hsz := HS.out u f wr (by omega)
      rw [HX.out] at hsz
      have D2 := HD2 f rfl; have D3 := fun n => HD3 f n rfl; have D4 := HD4 f rfl; have D5 := fun n => HD5 f n rfl
      have hnl := fun n (h : sizeN ((L.drop u).take f) = some n) => sizeN_lt h
      clear HD2 HD3 HD4 HD5
      generalize sizeN ((L.drop u).take f) = N at hsz D2 D3 D4 D5 hnl
      have HSZ := Hold.mk hsz; clear hsz
      obtain ⟨t, ht⟩ : ∃ t, t = u + f := ⟨_, rfl⟩
      rw [← ht] at HHD HSZ D4
      simp only [← ht] at D5
      have huf2 : t + 2 ≤ s.size := by omega
      have hut : u ≤ t := by omega
      clear ht hf2
      cases N with
      | none =>
        have HDD := Hold.mk (D2 rfl)
        simp only [sizeI] at HSZ
        clear D2 D3 D4 D5 hnl
        go_wp2_with (first | (go_at_call 120; refine HHD.out.mono ?_; rintro e w1 ⟨rfl, rfl⟩) | (go_at_call 121; refine HSZ.out.mono ?_; rintro e w1 ⟨rfl, rfl⟩))
        refine bodyPost_ret (res_four rfl _ _ _) rfl ?_
        exact retD_bad HDD.out HB.out
      | some n =>
        have HN32 := Hold.mk (hnl n rfl)
        have hw1 : IntKind.i64.wrap ((acc.length : Int) + n) = (acc.length : Int) + n := by rw [IntKind.wrap_i64]; have := HN32.out; omega
        have hw2 : IntKind.i64.wrap ((t : Int) + 2 + n) = (t : Int) + 2 + n := by rw [IntKind.wrap_i64]; have := HN32.out; omega
        simp only [sizeI] at HSZ
        by_cases h0 : n = 0
        · subst h0
          have HDD := Hold.mk (D4 rfl)
          clear D2 D3 D4 D5 hnl
          have htail := HT.out (t + 2) wr (by omega)
          have e1 := dec_noTail (L := L) (acc := acc) (u := t + 2)
          have e2 := fun n => dec_noFields (L := L) (acc := acc) (u := t + 2) (n := n)
          have e3 := fun n => dec_fields (L := L) (acc := acc) (u := t + 2) (n := n)
          rw [← HDD.out] at e1
          simp only [← HDD.out] at e2 e3
          have hfit2 := fun h => (find_hit (s := 13 :: 10 :: L.drop (t + 2)) (mark := [13, 10, 13, 10]) (most := 8194) (by simp) h).2.1
          simp only [List.length_cons, List.length_nil, List.length_drop] at hfit2
          rw [← HZ.out] at hfit2
          generalize hF : findL (13 :: 10 :: L.drop (t + 2)) [13, 10, 13, 10] 8194 = F at htail e1 e2 e3 hfit2
          clear hF
          obtain ⟨g, e⟩ := F
          by_cases hz : e = 0
          · subst hz
            have hg := hfit2 rfl
            rw [place_ok] at htail
            simp only at htail hg
            have HTD := Hold.mk htail
            have hpa := HP.out (t + 2) g wr (by omega)
            rw [HX.out] at hpa
            have E2 := e2 g rfl; have E3 := e3 g rfl
            clear htail e1 e2 e3 hfit2
            generalize parseL ((L.drop (t + 2)).take g) = R at hpa E2 E3
            obtain ⟨l, x⟩ := R
            unfold RetP at hpa
            simp only at hpa E2 E3
            have HPA := Hold.mk hpa; clear hpa
            have hin : t + 2 + g ≤ s.size := by omega
            have hcut : ((t + 2 + g + 2 : Nat) : Int) - 2 = ((t + 2 + g : Nat) : Int) := by omega
            by_cases hx : x = 0
            · subst hx
              have HDE := Hold.mk (E3 rfl)
              have hback := HO.out.back
              clear E2 E3 HDD
              go_wp2_with (first | (go_at_call 120; refine HHD.out.mono ?_; rintro e w1 ⟨rfl, rfl⟩) | (go_at_call 121; refine HSZ.out.mono ?_; rintro e w1 ⟨rfl, rfl⟩) | (go_at_call 123; refine HTD.out.mono ?_; rintro e w1 ⟨rfl, rfl⟩))
              refine HPA.out.mono ?_; rintro e w2 ⟨v, rfl, hof, hb2⟩
              obtain ⟨A, c, rfl⟩ := hof.form
              have hback2 := (HO.out.bel hb2).back
              have HF2 := Hold.mk hof; have HB2 := Hold.mk (HB.out.trans (hb2.mono HB.out.size)); clear hof hb2 hback
              go_wp2_with fail
              refine bodyPost_ret (res_four rfl _ _ _) rfl ?_
              rw [HDE.out]
              exact ⟨_, rfl, HF2.out.mono HB.out.size, HB2.out⟩
            · have HDE := Hold.mk (E2 hx)
              have hne : (x != 0) = true := by simpa using hx
              clear E2 E3 HDD hx
              go_wp2_with (first | (go_at_call 120; refine HHD.out.mono ?_; rintro e w1 ⟨rfl, rfl⟩) | (go_at_call 121; refine HSZ.out.mono ?_; rintro e w1 ⟨rfl, rfl⟩) | (go_at_call 123; refine HTD.out.mono ?_; rintro e w1 ⟨rfl, rfl⟩))
              refine HPA.out.mono ?_; rintro e w2 ⟨v, rfl, hof, hb2⟩
              obtain ⟨A, c, rfl⟩ := hof.form
              have HB2 := Hold.mk (HB.out.trans (hb2.mono HB.out.size)); clear hof hb2
              go_wp2_with fail
              refine bodyPost_ret (res_four rfl _ _ _) rfl ?_
              exact retD_bad HDE.out HB2.out
          · have HDE := Hold.mk (e1 hz)
            have hne : (e != 0) = true := by simpa using hz
            rw [place_no hz] at htail
            simp only at htail
            have HTD := Hold.mk htail
            clear e1 e2 e3 hfit2 hz htail HDD
            go_wp2_with (first | (go_at_call 120; refine HHD.out.mono ?_; rintro e w1 ⟨rfl, rfl⟩) | (go_at_call 121; refine HSZ.out.mono ?_; rintro e w1 ⟨rfl, rfl⟩) | (go_at_call 123; refine HTD.out.mono ?_; rintro e w1 ⟨rfl, rfl⟩))
            refine bodyPost_ret (res_four rfl _ _ _) rfl ?_
            exact retD_bad HDE.out HB.out
        · have hn0 : ((n : Int) == 0) = false := beq_eq_false_iff_ne.2 (by omega)
          have hnn : ¬ (n : Int) < 0 := by omega
          have hpl : t + 2 ≤ s.size := huf2
          by_cases hr : room - acc.length < n
          · have HDD := Hold.mk (D3 n rfl hr)
            have hgt : 0 < (acc.length : Int) + n := by omega
            clear D2 D3 D4 D5 hnl hr h0
            go_wp2_with (first | (go_at_call 120; refine HHD.out.mono ?_; rintro e w1 ⟨rfl, rfl⟩) | (go_at_call 121; refine HSZ.out.mono ?_; rintro e w1 ⟨rfl, rfl⟩))
            refine bodyPost_ret (res_four rfl _ _ _) rfl ?_
            exact retD_bad HDD.out HB.out
          · exact absurd (show room - acc.length < n by omega) hr
    · have HDD := Hold.mk (HD1 hz)
      have hne : (e != 0) = true := by simpa using hz
      rw [place_no hz] at hhead
      simp only at hhead
      have HHD := Hold.mk hhead
      clear HD1 HD2 HD3 HD4 HD5 hfit hhead hz
      go_wp2_with (go_at_call 120; refine HHD.out.mono ?_; rintro e w1 ⟨rfl, rfl⟩)
      refine bodyPost_ret (res_four rfl _ _ _) rfl ?_
      exact retD_bad HDD.out HB.out

set_option maxHeartbeats 8000000 in
set_option maxRecDepth 100000 in
theorem rdecodeC_any (s : ByteArray) (most : Int) (w : World) (hs : s.size ≤ 1048576) (h1 : ¬ 262144 < most) (h2 : ¬ most < 0) :
    Calls Tryz.prog 68 #[.string s, .int .i64 most] w (RetD w (decodeL s.data.toList most)) := by
  have hD0 : decodeL s.data.toList most = behind [] 0 (decL (s.data.toList.drop 0) (roomOf most)) := by
    rw [behind_nil _ (plain_decL _ _), List.drop_zero]; rfl
  obtain ⟨room, hrm⟩ : ∃ room : Nat, roomOf most = room := ⟨_, rfl⟩
  have hroom : (room : Int) = most := by unfold roomOf at hrm; omega
  have hrl : (room : Int) ≤ 262144 := by unfold roomOf at hrm; omega
  rw [hrm] at hD0
  clear hrm
  have HZ := Hold.mk (size_len s)
  obtain ⟨L, hL⟩ : ∃ L, L = s.data.toList := ⟨_, rfl⟩
  have HH := Hold.mk fun (p : Nat) (w : World) (hp : p ≤ s.size) => rhead_any s p w hp hs
  have HT := Hold.mk fun (p : Nat) (w : World) (hp : p ≤ s.size) => rtail_any s p w hp hs
  have HS := Hold.mk fun (p n : Nat) (w : World) (hp : p + n ≤ s.size) => rsize_any (s.extract p (p + n)) w (by simp only [Lib.size_eq, Lib.extract_data, List.length_take]; omega)
  have HX : Hold (∀ p n, (s.extract p (p + n)).data.toList = (L.drop p).take n) := ⟨fun p n => by rw [Lib.extract_data, hL, Nat.add_sub_cancel_left]⟩
  have HP := Hold.mk fun (p n : Nat) (w : World) (hp : p + n ≤ s.size) => rparse_s (s.extract p (p + n)) w (by simp only [Lib.size_eq, Lib.extract_data, List.length_take]; omega)
  have HEN := Hold.mk fun (q : Nat) (hq : q ≤ s.size) => end_at s q hq
  have HE := Hold.mk fun (q : Nat) (w : World) (hq : q ≤ s.size) => rends_any s q w (by omega)
  rw [← hL] at hD0 ⊢
  rw [← hL] at HH HT HZ HEN HE
  have HD0 := Hold.mk hD0
  generalize decodeL L most = D at *
  clear hL hD0
  have hU : ∀ (p n : Nat), p ≤ s.size → ((L.drop p).length < n ↔ s.size - p < n) := fun p n _ => by rw [List.length_drop, ← HZ.out]
  have HU := Hold.mk hU; clear hU
  go_enter Tryz.func68, Tryz.ntmps68
  go_wp2_with fail
  go_loopw [8, 9, 10, 11, 12] (fun o i _ _ _ wr => ∃ (u : Nat) (acc : List UInt8), i = .int .i64 u ∧ u ≤ s.size ∧ acc.length ≤ room ∧ ownB wr w.heap.size o acc ∧ Below w.heap.size w wr ∧ D = behind acc u (decL (L.drop u) (room - acc.length)))
    (fun _ i _ _ _ _ => s.size - (intOf i).toNat)
  case atStart => exact ⟨0, [], rfl, Nat.zero_le _, Nat.zero_le _, ownB_nil _ _, Below.refl _ _, HD0.out⟩
  case round =>
    obtain ⟨u, acc, rfl, hu, hal, ho, hb, hd⟩ := hrel
    obtain ⟨ao, co, rfl⟩ := ho.form
    have HO := Hold.mk ho; have HB := Hold.mk hb
    have HD1 := dec_noLine (L := L) (acc := acc) (u := u) (r := room - acc.length)
    have HD2 := fun f => dec_noSize (L := L) (acc := acc) (u := u) (r := room - acc.length) (f := f)
    have HD3 := fun f n => dec_room (L := L) (acc := acc) (u := u) (r := room - acc.length) (f := f) (n := n)
    have HD4 := fun f => dec_last (L := L) (acc := acc) (u := u) (r := room - acc.length) (f := f)
    have HD5 := fun f n => dec_chunk (L := L) (acc := acc) (u := u) (r := room - acc.length) (f := f) (n := n)
    rw [← hd] at HD1
    simp only [← hd] at HD2 HD3 HD4 HD5
    have hhead := HH.out u wr hu
    have hfit := fun h => (find_hit (s := L.drop u) (mark := [13, 10]) (most := 2050) (by simp) h).2.1
    rw [List.length_drop, ← HZ.out] at hfit
    generalize hF : findL (L.drop u) [13, 10] 2050 = F at hhead HD1 HD2 HD3 HD4 HD5 hfit
    clear ho hb hd hF
    obtain ⟨f, e⟩ := F
    by_cases hz : e = 0
    · subst hz
      have hf2 := hfit rfl
      simp only [List.length_cons, List.length_nil] at hf2
      rw [place_ok] at hhead
      simp only at hhead
      have HHD := Hold.mk hhead
      have huf : u + f + 0 = u + f := rfl
      rw [huf] at HHD
      clear hhead HD1 hfit huf
      have hsz := HS.out u f wr (by omega)
      rw [HX.out] at hsz
      have D2 := HD2 f rfl; have D3 := fun n => HD3 f n rfl; have D4 := HD4 f rfl; have D5 := fun n => HD5 f n rfl
      have hnl := fun n (h : sizeN ((L.drop u).take f) = some n) => sizeN_lt h
      clear HD2 HD3 HD4 HD5
      generalize sizeN ((L.drop u).take f) = N at hsz D2 D3 D4 D5 hnl
      have HSZ := Hold.mk hsz; clear hsz
      obtain ⟨t, ht⟩ : ∃ t, t = u + f := ⟨_, rfl⟩
      rw [← ht] at HHD HSZ D4
      simp only [← ht] at D5
      have huf2 : t + 2 ≤ s.size := by omega
      have hut : u ≤ t := by omega
      clear ht hf2
      cases N with
      | none =>
        have HDD := Hold.mk (D2 rfl)
        simp only [sizeI] at HSZ
        clear D2 D3 D4 D5 hnl
        go_wp2_with (first | (go_at_call 120; refine HHD.out.mono ?_; rintro e w1 ⟨rfl, rfl⟩) | (go_at_call 121; refine HSZ.out.mono ?_; rintro e w1 ⟨rfl, rfl⟩))
        refine bodyPost_ret (res_four rfl _ _ _) rfl ?_
        exact retD_bad HDD.out HB.out
      | some n =>
        have HN32 := Hold.mk (hnl n rfl)
        have hw1 : IntKind.i64.wrap ((acc.length : Int) + n) = (acc.length : Int) + n := by rw [IntKind.wrap_i64]; have := HN32.out; omega
        have hw2 : IntKind.i64.wrap ((t : Int) + 2 + n) = (t : Int) + 2 + n := by rw [IntKind.wrap_i64]; have := HN32.out; omega
        simp only [sizeI] at HSZ
        by_cases h0 : n = 0
        · subst h0
          have HDD := Hold.mk (D4 rfl)
          clear D2 D3 D4 D5 hnl
          have htail := HT.out (t + 2) wr (by omega)
          have e1 := dec_noTail (L := L) (acc := acc) (u := t + 2)
          have e2 := fun n => dec_noFields (L := L) (acc := acc) (u := t + 2) (n := n)
          have e3 := fun n => dec_fields (L := L) (acc := acc) (u := t + 2) (n := n)
          rw [← HDD.out] at e1
          simp only [← HDD.out] at e2 e3
          have hfit2 := fun h => (find_hit (s := 13 :: 10 :: L.drop (t + 2)) (mark := [13, 10, 13, 10]) (most := 8194) (by simp) h).2.1
          simp only [List.length_cons, List.length_nil, List.length_drop] at hfit2
          rw [← HZ.out] at hfit2
          generalize hF : findL (13 :: 10 :: L.drop (t + 2)) [13, 10, 13, 10] 8194 = F at htail e1 e2 e3 hfit2
          clear hF
          obtain ⟨g, e⟩ := F
          by_cases hz : e = 0
          · subst hz
            have hg := hfit2 rfl
            rw [place_ok] at htail
            simp only at htail hg
            have HTD := Hold.mk htail
            have hpa := HP.out (t + 2) g wr (by omega)
            rw [HX.out] at hpa
            have E2 := e2 g rfl; have E3 := e3 g rfl
            clear htail e1 e2 e3 hfit2
            generalize parseL ((L.drop (t + 2)).take g) = R at hpa E2 E3
            obtain ⟨l, x⟩ := R
            unfold RetP at hpa
            simp only at hpa E2 E3
            have HPA := Hold.mk hpa; clear hpa
            have hin : t + 2 + g ≤ s.size := by omega
            have hcut : ((t + 2 + g + 2 : Nat) : Int) - 2 = ((t + 2 + g : Nat) : Int) := by omega
            by_cases hx : x = 0
            · subst hx
              have HDE := Hold.mk (E3 rfl)
              have hback := HO.out.back
              clear E2 E3 HDD
              go_wp2_with (first | (go_at_call 120; refine HHD.out.mono ?_; rintro e w1 ⟨rfl, rfl⟩) | (go_at_call 121; refine HSZ.out.mono ?_; rintro e w1 ⟨rfl, rfl⟩) | (go_at_call 123; refine HTD.out.mono ?_; rintro e w1 ⟨rfl, rfl⟩))
              refine HPA.out.mono ?_; rintro e w2 ⟨v, rfl, hof, hb2⟩
              obtain ⟨A, c, rfl⟩ := hof.form
              have hback2 := (HO.out.bel hb2).back
              have HF2 := Hold.mk hof; have HB2 := Hold.mk (HB.out.trans (hb2.mono HB.out.size)); clear hof hb2 hback
              go_wp2_with fail
              refine bodyPost_ret (res_four rfl _ _ _) rfl ?_
              rw [HDE.out]
              exact ⟨_, rfl, HF2.out.mono HB.out.size, HB2.out⟩
            · have HDE := Hold.mk (E2 hx)
              have hne : (x != 0) = true := by simpa using hx
              clear E2 E3 HDD hx
              go_wp2_with (first | (go_at_call 120; refine HHD.out.mono ?_; rintro e w1 ⟨rfl, rfl⟩) | (go_at_call 121; refine HSZ.out.mono ?_; rintro e w1 ⟨rfl, rfl⟩) | (go_at_call 123; refine HTD.out.mono ?_; rintro e w1 ⟨rfl, rfl⟩))
              refine HPA.out.mono ?_; rintro e w2 ⟨v, rfl, hof, hb2⟩
              obtain ⟨A, c, rfl⟩ := hof.form
              have HB2 := Hold.mk (HB.out.trans (hb2.mono HB.out.size)); clear hof hb2
              go_wp2_with fail
              refine bodyPost_ret (res_four rfl _ _ _) rfl ?_
              exact retD_bad HDE.out HB2.out
          · have HDE := Hold.mk (e1 hz)
            have hne : (e != 0) = true := by simpa using hz
            rw [place_no hz] at htail
            simp only at htail
            have HTD := Hold.mk htail
            clear e1 e2 e3 hfit2 hz htail HDD
            go_wp2_with (first | (go_at_call 120; refine HHD.out.mono ?_; rintro e w1 ⟨rfl, rfl⟩) | (go_at_call 121; refine HSZ.out.mono ?_; rintro e w1 ⟨rfl, rfl⟩) | (go_at_call 123; refine HTD.out.mono ?_; rintro e w1 ⟨rfl, rfl⟩))
            refine bodyPost_ret (res_four rfl _ _ _) rfl ?_
            exact retD_bad HDE.out HB.out
        · have hn0 : ((n : Int) == 0) = false := beq_eq_false_iff_ne.2 (by omega)
          have hnn : ¬ (n : Int) < 0 := by omega
          have hpl : t + 2 ≤ s.size := huf2
          by_cases hr : room - acc.length < n
          · have HDD := Hold.mk (D3 n rfl hr)
            have hgt : most < (acc.length : Int) + n := by omega
            clear D2 D3 D4 D5 hnl hr h0
            go_wp2_with (first | (go_at_call 120; refine HHD.out.mono ?_; rintro e w1 ⟨rfl, rfl⟩) | (go_at_call 121; refine HSZ.out.mono ?_; rintro e w1 ⟨rfl, rfl⟩))
            refine bodyPost_ret (res_four rfl _ _ _) rfl ?_
            exact retD_bad HDD.out HB.out
          · have HDD := Hold.mk (D5 n rfl h0 hr)
            have hgt : ¬ most < (acc.length : Int) + n := by omega
            have hrr : acc.length + n ≤ room := by omega
            clear D2 D3 D4 D5 hnl hr h0
            by_cases hl : s.size - (t + 2) < n
            · have HDE := Hold.mk (HDD.out.trans (dec_short ((HU.out (t + 2) n hpl).2 hl)))
              have hq : (s.size : Int) < (t : Int) + 2 + n := by omega
              clear hl
              go_wp2_with (first | (go_at_call 120; refine HHD.out.mono ?_; rintro e w1 ⟨rfl, rfl⟩) | (go_at_call 121; refine HSZ.out.mono ?_; rintro e w1 ⟨rfl, rfl⟩))
              refine bodyPost_ret (res_four rfl _ _ _) rfl ?_
              exact retD_bad HDE.out HB.out
            · have hno := Hold.mk (fun h => hl ((HU.out (t + 2) n hpl).1 h))
              have hql : t + 2 + n ≤ s.size := by omega
              have hq : ¬ (s.size : Int) < ((t : Int) + 2 + n) := by omega
              have hend := HEN.out (t + 2 + n) hql
              have HEC := Hold.mk (HE.out (t + 2 + n) wr hql)
              have HEW := Hold.mk fun w => HE.out (t + 2 + n) w hql
              rw [show ((t + 2 + n : Nat) : Int) = (t : Int) + 2 + n from by push_cast; rfl] at HEW
              have hc1 := dec_badEnd (acc := acc) (r := room - acc.length) hno.out
              have hc2 := dec_next (acc := acc) (r := room - acc.length) hno.out
              rw [← HDD.out] at hc1 hc2
              have hac : acc.length + (s.extract (t + 2) (t + 2 + n)).size ≤ 140737488355328 := by
                rw [Lib.size_eq, Lib.extract_data, List.length_take]; omega
              have HAC := Hold.mk hac
              have hxt := HX.out (t + 2) n
              have hxl : ((L.drop (t + 2)).take n).length = n := by rw [List.length_take, List.length_drop, ← HZ.out]; omega
              have HXT := Hold.mk hxt; have HXL := Hold.mk hxl
              clear hl hac HEC hxt hxl
              rcases hend with ⟨g1, g2⟩ | ⟨g1, g2, g3⟩ | ⟨g1, g2, g3⟩ | ⟨g1, g2, g3⟩ | ⟨g1, g2, g3, g4⟩
              · have HDE := Hold.mk (hc1 (by rw [g2]; decide))
                rw [g2] at HDE
                have k1 : (((t : Int) + 2 + n) == (s.size : Int)) = true := by rw [beq_iff_eq]; omega
                clear hc1 hc2 g1 g2
                go_wp2_with (first | (go_at_call 120; refine HHD.out.mono ?_; rintro e w1 ⟨rfl, rfl⟩) | (go_at_call 121; refine HSZ.out.mono ?_; rintro e w1 ⟨rfl, rfl⟩) | (at_builtin; refine wpList_appT rfl (.tmp 53) (.tmp 59) rfl w.heap.size w.heap.size _ acc (s.extract (t + 2) (t + 2 + n)) rfl HO.out HB.out (Nat.le_refl _) HB.out.size rfl HAC.out ?_; intro v3 w3 HO3 HB3; obtain ⟨a3, n3, c3, rfl⟩ := HO3.out.shape) | (go_at_call 122; refine (HEW.out _).mono ?_; rintro e w1 ⟨rfl, rfl⟩))
                refine bodyPost_ret (res_four rfl _ _ _) rfl ?_
                exact retD_bad HDE.out HB3.out
              · have HDE := Hold.mk (hc1 (by rw [g3]; decide))
                rw [g3] at HDE
                have hqs : t + 2 + n < s.size := by omega
                have k1 : (((t : Int) + 2 + n) == (s.size : Int)) = false := beq_eq_false_iff_ne.2 (by omega)
                have k2 : (((t : Int) + 2 + n) + 1 == (s.size : Int)) = true := by rw [beq_iff_eq]; omega
                have k3 : ((s[t + 2 + n].toNat : Int) == 13) = true := by rw [g2]; rfl
                clear hc1 hc2 g1 g2 g3
                go_wp2_with (first | (go_at_call 120; refine HHD.out.mono ?_; rintro e w1 ⟨rfl, rfl⟩) | (go_at_call 121; refine HSZ.out.mono ?_; rintro e w1 ⟨rfl, rfl⟩) | (at_builtin; refine wpList_appT rfl (.tmp 53) (.tmp 59) rfl w.heap.size w.heap.size _ acc (s.extract (t + 2) (t + 2 + n)) rfl HO.out HB.out (Nat.le_refl _) HB.out.size rfl HAC.out ?_; intro v3 w3 HO3 HB3; obtain ⟨a3, n3, c3, rfl⟩ := HO3.out.shape) | (go_at_call 122; refine (HEW.out _).mono ?_; rintro e w1 ⟨rfl, rfl⟩))
                refine bodyPost_ret (res_four rfl _ _ _) rfl ?_
                exact retD_bad HDE.out HB3.out
              · have HDE := Hold.mk (hc2 g3)
                have hqs : t + 2 + n < s.size := by omega
                have k1 : (((t : Int) + 2 + n) == (s.size : Int)) = false := beq_eq_false_iff_ne.2 (by omega)
                have k2 : (((t : Int) + 2 + n) + 1 == (s.size : Int)) = false := beq_eq_false_iff_ne.2 (by omega)
                rw [g2] at HEW
                clear hc1 hc2 g2 g3
                go_wp2_with (first | (go_at_call 120; refine HHD.out.mono ?_; rintro e w1 ⟨rfl, rfl⟩) | (go_at_call 121; refine HSZ.out.mono ?_; rintro e w1 ⟨rfl, rfl⟩) | (at_builtin; refine wpList_appT rfl (.tmp 53) (.tmp 59) rfl w.heap.size w.heap.size _ acc (s.extract (t + 2) (t + 2 + n)) rfl HO.out HB.out (Nat.le_refl _) HB.out.size rfl HAC.out ?_; intro v3 w3 HO3 HB3; obtain ⟨a3, n3, c3, rfl⟩ := HO3.out.shape) | (go_at_call 122; refine (HEW.out _).mono ?_; rintro e w1 ⟨rfl, rfl⟩))
                go_roundw
                case rel =>
                  have hz1 := HXL.out
                  have hsum : (acc ++ (L.drop (t + 2)).take n).length = acc.length + n := by rw [List.length_append, hz1]
                  refine ⟨t + 2 + n + 2, acc ++ (L.drop (t + 2)).take n, by go_num, by omega, by omega, by rw [← HXT.out]; exact HO3.out, HB3.out, ?_⟩
                  rw [HDE.out, hsum, Nat.sub_sub]
                case measure => simp [intOf]; omega
              · have HDE := Hold.mk (hc1 (by rw [g3]; decide))
                rw [g3] at HDE
                have hqs : t + 2 + n < s.size := by omega
                have k1 : (((t : Int) + 2 + n) == (s.size : Int)) = false := beq_eq_false_iff_ne.2 (by omega)
                have k2 : (((t : Int) + 2 + n) + 1 == (s.size : Int)) = false := beq_eq_false_iff_ne.2 (by omega)
                rw [g2] at HEW
                clear hc1 hc2 g2 g3
                go_wp2_with (first | (go_at_call 120; refine HHD.out.mono ?_; rintro e w1 ⟨rfl, rfl⟩) | (go_at_call 121; refine HSZ.out.mono ?_; rintro e w1 ⟨rfl, rfl⟩) | (at_builtin; refine wpList_appT rfl (.tmp 53) (.tmp 59) rfl w.heap.size w.heap.size _ acc (s.extract (t + 2) (t + 2 + n)) rfl HO.out HB.out (Nat.le_refl _) HB.out.size rfl HAC.out ?_; intro v3 w3 HO3 HB3; obtain ⟨a3, n3, c3, rfl⟩ := HO3.out.shape) | (go_at_call 122; refine (HEW.out _).mono ?_; rintro e w1 ⟨rfl, rfl⟩))
                refine bodyPost_ret (res_four rfl _ _ _) rfl ?_
                exact retD_bad HDE.out HB3.out
              · have HDE := Hold.mk (hc1 (by rw [g4]; decide))
                rw [g4] at HDE
                have hqs : t + 2 + n < s.size := by omega
                have k1 : (((t : Int) + 2 + n) == (s.size : Int)) = false := beq_eq_false_iff_ne.2 (by omega)
                have k2 : (((t : Int) + 2 + n) + 1 == (s.size : Int)) = true := by rw [beq_iff_eq]; omega
                have k3 : ((s[t + 2 + n].toNat : Int) == 13) = false := by rw [beq_eq_false_iff_ne]; intro e; exact g2 (UInt8.toNat_inj.1 (by simpa using (by omega : s[t + 2 + n].toNat = 13)))
                rw [g3] at HEW
                clear hc1 hc2 g1 g2 g3 g4
                go_wp2_with (first | (go_at_call 120; refine HHD.out.mono ?_; rintro e w1 ⟨rfl, rfl⟩) | (go_at_call 121; refine HSZ.out.mono ?_; rintro e w1 ⟨rfl, rfl⟩) | (at_builtin; refine wpList_appT rfl (.tmp 53) (.tmp 59) rfl w.heap.size w.heap.size _ acc (s.extract (t + 2) (t + 2 + n)) rfl HO.out HB.out (Nat.le_refl _) HB.out.size rfl HAC.out ?_; intro v3 w3 HO3 HB3; obtain ⟨a3, n3, c3, rfl⟩ := HO3.out.shape) | (go_at_call 122; refine (HEW.out _).mono ?_; rintro e w1 ⟨rfl, rfl⟩))
                refine bodyPost_ret (res_four rfl _ _ _) rfl ?_
                exact retD_bad HDE.out HB3.out
    · have HDD := Hold.mk (HD1 hz)
      have hne : (e != 0) = true := by simpa using hz
      rw [place_no hz] at hhead
      simp only at hhead
      have HHD := Hold.mk hhead
      clear HD1 HD2 HD3 HD4 HD5 hfit hhead hz
      go_wp2_with (go_at_call 120; refine HHD.out.mono ?_; rintro e w1 ⟨rfl, rfl⟩)
      refine bodyPost_ret (res_four rfl _ _ _) rfl ?_
      exact retD_bad HDD.out HB.out

theorem rdecode_any (s : List UInt8) (most : Int) (w : World) (hs : s.length ≤ 1048576) :
    Calls Tryz.prog 68 #[.string (bs s), .int .i64 most] w (RetD w (decodeL s most)) := by
  have key : Calls Tryz.prog 68 #[.string (bs s), .int .i64 most] w (RetD w (decodeL (bs s).data.toList most)) := by
    have hs2 : (bs s).size ≤ 1048576 := by rw [bs_size]; exact hs
    by_cases h1 : 262144 < most
    · exact rdecodeA_any _ _ _ hs2 h1
    · by_cases h2 : most < 0
      · exact rdecodeB_any _ _ _ hs2 h1 h2
      · exact rdecodeC_any _ _ _ hs2 h1 h2
  rwa [bs_data] at key
end Go.Proofs.YtgkjjmcjlobbpaaGreatDoor
