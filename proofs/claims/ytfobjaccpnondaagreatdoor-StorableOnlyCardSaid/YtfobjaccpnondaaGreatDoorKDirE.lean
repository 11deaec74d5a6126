/- The first directive of a name: the directive layer's Find, and the document's. -/
import Derived.Test.YtfobjaccpnondaaGreatDoorKBytes
import Derived.Test.YtfobjaccpnondaaGreatDoorKDirA
import Derived.Test.YtfobjaccpnondaaGreatDoorKFieldsA
import Derived.Test.YtfobjaccpnondaaGreatDoorKTextD
import Derived.Test.YtfobjaccpnondaaGreatDoorKTextT
import Derived.Laws.StructEq
namespace Go.Proofs.YtfobjaccpnondaaGreatDoor
open Go.RowKit

theorem dbk.other {w : World} {b : Nat} {cs : Array Value} (h : dbk w b cs) {a : Addr} (ha : b ≠ a.block) (u : Value) : dbk (w.setCell a u) b cs := by
  obtain ⟨T, h⟩ := h
  exact ⟨T, by rw [Below.heap_setCell _ _ _ _ ha]; exact h⟩
theorem dbk.same0 {w : World} {b : Nat} {d : Dv} (h : dbk w b (dvA d)) : dbk (w.setCell ⟨b, 0, none⟩ (.string (bs d.1))) b (dvA d) := by simpa [dvA] using h.set 0 (.string (bs d.1))
theorem dbk.same1 {w : World} {b : Nat} {d : Dv} (h : dbk w b (dvA d)) : dbk (w.setCell ⟨b, 1, none⟩ (.string (bs d.2.1))) b (dvA d) := by simpa [dvA] using h.set 1 (.string (bs d.2.1))
theorem dbk.same3 {w : World} {b : Nat} {d : Dv} (h : dbk w b (dvA d)) : dbk (w.setCell ⟨b, 3, none⟩ (.string (bs d.2.2.2))) b (dvA d) := by simpa [dvA] using h.set 3 (.string (bs d.2.2.2))
theorem dbk.zero {w : World} {b : Nat} (h : dbk w b (dvA dv0)) (d : Dv) :
    w.cell? ⟨b, 0, none⟩ = some (.string ⟨#[]⟩) ∧ w.frozen? ⟨b, 0, none⟩ = false ∧ (w.setCell ⟨b, 0, none⟩ (.string (bs d.1))).cell? ⟨b, 1, none⟩ = some (.string ⟨#[]⟩) ∧ (w.setCell ⟨b, 0, none⟩ (.string (bs d.1))).frozen? ⟨b, 1, none⟩ = false ∧
    ((w.setCell ⟨b, 0, none⟩ (.string (bs d.1))).setCell ⟨b, 1, none⟩ (.string (bs d.2.1))).cell? ⟨b, 2, none⟩ = some (.bool false) ∧ ((w.setCell ⟨b, 0, none⟩ (.string (bs d.1))).setCell ⟨b, 1, none⟩ (.string (bs d.2.1))).frozen? ⟨b, 2, none⟩ = false ∧
    (((w.setCell ⟨b, 0, none⟩ (.string (bs d.1))).setCell ⟨b, 1, none⟩ (.string (bs d.2.1))).setCell ⟨b, 2, none⟩ (.bool d.2.2.1)).cell? ⟨b, 3, none⟩ = some (.string ⟨#[]⟩) ∧ (((w.setCell ⟨b, 0, none⟩ (.string (bs d.1))).setCell ⟨b, 1, none⟩ (.string (bs d.2.1))).setCell ⟨b, 2, none⟩ (.bool d.2.2.1)).frozen? ⟨b, 3, none⟩ = false := h.asks _ _ _
theorem dbk.got {w : World} {b : Nat} {d0 : Dv} (h : dbk w b (dvA d0)) (d : Dv) : (putD w b d).cell? ⟨b, 0, none⟩ = some (.string (bs d.1)) ∧ (putD w b d).cell? ⟨b, 1, none⟩ = some (.string (bs d.2.1)) ∧ (putD w b d).cell? ⟨b, 2, none⟩ = some (.bool d.2.2.1) ∧ (putD w b d).cell? ⟨b, 3, none⟩ = some (.string (bs d.2.2.2)) := (h.putd d).four

set_option maxRecDepth 100000 in
set_option maxHeartbeats 2000000 in
theorem copied_anyD (d : Dv) (w : World) (h1 : d.1.length ≤ 140737488351232) (h2 : d.2.1.length ≤ 140737488351232) (h3 : d.2.2.2.length ≤ 140737488351232) :
    Calls Tryz.prog 132 #[.agg #[.string (bs d.1), .string (bs d.2.1), .bool d.2.2.1, .string (bs d.2.2.2)]] w fun e w' => e = .returned (.agg #[.string (bs d.1), .string (bs d.2.1), .bool d.2.2.1, .string (bs d.2.2.2)]) ∧ Below w.heap.size w w' := by
  have hD : dbk ((w.alloc (.cells #[.string (bs d.1), .string (bs d.2.1), .bool d.2.2.1, .string (bs d.2.2.2)] 79)).alloc (.cells #[.string ⟨#[]⟩, .string ⟨#[]⟩, .bool false, .string ⟨#[]⟩] 79)) w.heap.size (dvA d) := (dbk.new w _ _).alloc _
  have hR := res_new (w.alloc (.cells #[.string (bs d.1), .string (bs d.2.1), .bool d.2.2.1, .string (bs d.2.2.2)] 79))
  rw [World.size_alloc] at hR
  have hB : Below w.heap.size w ((w.alloc (.cells #[.string (bs d.1), .string (bs d.2.1), .bool d.2.2.1, .string (bs d.2.2.2)] 79)).alloc (.cells #[.string ⟨#[]⟩, .string ⟨#[]⟩, .bool false, .string ⟨#[]⟩] 79)) := ((Below.refl _ _).alloc (Nat.le_refl _) _).alloc (by simp) _
  have C1 := Lib.hid (fun W => clone_any (bs d.1) W (by rw [bs_size]; omega))
  have C2 := Lib.hid (fun W => clone_any (bs d.2.1) W (by rw [bs_size]; omega))
  have C3 := Lib.hid (fun W => clone_any (bs d.2.2.2) W (by rw [bs_size]; omega))
  have HD := Lib.hid hD; have HR := Lib.hid hR; have HB := Lib.hid hB
  clear hD hR hB h1 h2 h3
  go_enter Tryz.func132, Tryz.ntmps132
  obtain ⟨c0, c1, c2, c3⟩ := HD.out.four
  go_wp2_with fail
  refine (C1.out _).mono ?_
  rintro e w1 ⟨rfl, hb⟩
  have HD1 := Lib.hid (HD.out.below hb); have HR1 := Lib.hid (HR.out.below hb); have HB1 := Lib.hid (HB.out.trans (hb.mono HB.out.size))
  clear HD HR HB hb c0 c1 c2 c3
  obtain ⟨c0, c1, c2, c3⟩ := HD1.out.four
  have f0 := HD1.out.free 0
  have q1 := HD1.out.same0.cell 1 _ rfl
  have HD2 := Lib.hid HD1.out.same0; have HR2 := Lib.hid (HR1.out.other (a := ⟨w.heap.size, 0, none⟩) (Nat.ne_of_gt (Nat.lt_succ_self _)) (.string (bs d.1))); have HB2 := Lib.hid (HB1.out.setCell (p := ⟨w.heap.size, 0, none⟩) (Nat.le_refl _) (.string (bs d.1)))
  clear HD1 HR1 HB1
  go_wp2_with fail
  refine (C2.out _).mono ?_
  rintro e w2 ⟨rfl, hb⟩
  have HDa2 := Lib.hid (HD2.out.below hb); have HRa2 := Lib.hid (HR2.out.below hb); have HBa2 := Lib.hid (HB2.out.trans (hb.mono HB2.out.size))
  clear HD2 HR2 HB2 hb c0 c1 c2 c3 f0 q1
  obtain ⟨c0, c1, c2, c3⟩ := HDa2.out.four
  have f0 := HDa2.out.free 1
  have q1 := HDa2.out.same1.four
  obtain ⟨q0, q1, q2, q3⟩ := q1
  have HD3 := Lib.hid HDa2.out.same1; have HR3 := Lib.hid (HRa2.out.other (a := ⟨w.heap.size, 1, none⟩) (Nat.ne_of_gt (Nat.lt_succ_self _)) (.string (bs d.2.1))); have HB3 := Lib.hid (HBa2.out.setCell (p := ⟨w.heap.size, 1, none⟩) (Nat.le_refl _) (.string (bs d.2.1)))
  clear HDa2 HRa2 HBa2
  go_wp2_with fail
  refine (C3.out _).mono ?_
  rintro e w3 ⟨rfl, hb⟩
  have HDa3 := Lib.hid (HD3.out.below hb); have HRa3 := Lib.hid (HR3.out.below hb); have HBa3 := Lib.hid (HB3.out.trans (hb.mono HB3.out.size))
  clear HD3 HR3 HB3 hb c0 c1 c2 c3 f0 q0 q1 q2 q3
  obtain ⟨c0, c1, c2, c3⟩ := HDa3.out.four
  have f0 := HDa3.out.free 3
  obtain ⟨z0, z1, z2, z3⟩ := HRa3.out.four
  have n0 := HRa3.out.free 0
  have n1 := HRa3.out.free 1
  have n2 := HRa3.out.free 2
  have n3 := HRa3.out.free 3
  have hr := HRa3.out.other (a := ⟨w.heap.size, 3, none⟩) (Nat.ne_of_gt (Nat.lt_succ_self _)) (.string (bs d.2.2.2))
  obtain ⟨g0, g1, g2, g3⟩ := hr.got d
  have hq := putD_below (b := w.heap.size + 1) (HBa3.out.setCell (p := ⟨w.heap.size, 3, none⟩) (Nat.le_refl _) (.string (bs d.2.2.2))) (Nat.le_succ _) d
  simp only [putD, dv0, bs_nil] at hq z0 z1 z2 z3 g0 g1 g2 g3
  have HQ := Lib.hid hq; have HG := Lib.hid (And.intro g0 (And.intro g1 (And.intro g2 g3))); clear hq hr HDa3 HRa3 HBa3 g0 g1 g2 g3
  go_wp2_with fail
  obtain ⟨g0, g1, g2, g3⟩ := HG.out
  refine bodyPost_ret (v := .agg #[.string (bs d.1), .string (bs d.2.1), .bool d.2.2.1, .string (bs d.2.2.2)]) (by simp [results, Tryz.results132, go_sem, g0, g1, g2, g3]) rfl ?_
  exact ⟨rfl, HQ.out⟩
end Go.Proofs.YtfobjaccpnondaaGreatDoor

/- What a piece says: the document's Say. -/
namespace Go.Proofs.YtfobjaccpnondaaGreatDoor
open Go.RowKit

theorem wp_meetD {P : Program} {c : Code} {Q : Exit → Act → World → Prop} {a : Act} {w : World} {act : Nat → Act} (Good : Nat → World → Prop)
    (h1 : c.wp P (fun e a' w' => ∃ g, e = .normal ∧ a' = act g ∧ Good g w') a w)
    (h2 : ∀ g w', Good g w' → Q .normal (act g) w') : c.wp P Q a w :=
  Code.wp_mono (by rintro e a' w' ⟨g, rfl, rfl, h⟩; exact h2 g w' h) h1
/-- the place of the first byte 61, or the text's end; ahead of it there is none, and what reaches behind it is no token -/
theorem say_spots (S : ByteArray) : ∃ p, p ≤ S.size ∧ (∀ k (h : k < S.size), k < p → ((S[k].toNat : Int) != 61) = true) ∧
    (∀ h : p < S.size, ((S[p].toNat : Int) != 61) = false ∧ Lib.cut S.data.toList [61] = (S.data.toList.take p, S.data.toList.drop (p + 1), true)) ∧
    (¬ p < S.size → Lib.cut S.data.toList [61] = (S.data.toList, [], false)) ∧ (∀ k, p < k → k ≤ S.size → token (S.data.toList.take k) = false) := by
  have hat : ∀ k (h : k < S.size), S[k] = S.data.toList[k]'h := fun k h => by simp [ByteArray.getElem_eq_getElem_data]
  rcases cutE_cases S.data.toList with ⟨hn, hc⟩ | ⟨a, r, he, hn, hc⟩
  · refine ⟨S.size, Nat.le_refl _, fun k h _ => ?_, fun h => absurd h (Nat.lt_irrefl _), fun _ => hc, fun k h1 h2 => by omega⟩
    rw [bne_iff_ne]
    intro h1
    exact hn _ (mem_at S k h) (UInt8.toNat_inj.1 (by simpa using (by omega : S[k].toNat = 61)))
  · have hsz : S.size = a.length + (r.length + 1) := by rw [size_len, he]; simp
    refine ⟨a.length, by omega, fun k h h1 => ?_, fun h => ⟨?_, ?_⟩, fun h => absurd (by omega) h, fun k h1 h2 => ?_⟩
    · rw [bne_iff_ne]
      intro h2
      have h3 : S[k] = 61 := UInt8.toNat_inj.1 (by simpa using (by omega : S[k].toNat = 61))
      rw [hat k h, List.getElem_of_eq he, List.getElem_append_left h1] at h3
      exact hn _ (List.getElem_mem h1) h3
    · have h3 : S[a.length] = 61 := by
        rw [hat _ h, List.getElem_of_eq he, List.getElem_append_right (Nat.le_refl _)]
        simp
      rw [h3]; rfl
    · rw [hc, he]; simp
    · cases ht : token (S.data.toList.take k)
      · rfl
      · refine absurd rfl (tok_ne61 ht 61 ?_)
        rw [he, List.take_append]
        obtain ⟨j, hj⟩ : ∃ j, k - a.length = j + 1 := ⟨k - a.length - 1, by omega⟩
        rw [hj]
        simp
set_option maxRecDepth 100000 in
set_option maxHeartbeats 4000000 in
theorem rsay_any (S : ByteArray) (w : World) (hs : S.size ≤ 4294967200) :
    Calls Tryz.prog 99 #[.string S] w (RetR w (sayD S.data.toList)) := by
  have hr := res_new w
  have hal : Below w.heap.size w (w.alloc (.cells #[.string ⟨#[]⟩, .string ⟨#[]⟩, .bool false, .string ⟨#[]⟩] 79)) := (Below.refl _ _).alloc (Nat.le_refl _) _
  have HR := Lib.hid hr; have HAL := Lib.hid hal; have HT0 := Lib.hid (fun W => rtoken_any S W (by unfold maxLen; omega))
  clear hr hal
  obtain ⟨p, hp, k1, k2, k3, k4⟩ := say_spots S
  have hsay : ∀ C, Lib.cut S.data.toList [61] = C → sayD S.data.toList = if token C.1 then
    if C.2.2 then
      if token C.2.1 then some (lower C.1, C.2.1, true, [])
      else match unquote C.2.1 with
        | some p => some (lower C.1, p, true, [])
        | none => none
    else some (lower C.1, [], false, [])
  else none := by rintro C rfl; rfl
  cases htk : token S.data.toList
  · have hone : p < S.size ∨ sayD S.data.toList = none := by
      by_cases h : p < S.size
      · exact .inl h
      · right
        rw [hsay _ (k3 h)]
        simp [htk]
    have hmain : ∀ h : p < S.size, sayD S.data.toList = if token (S.data.toList.take p) then (if token (S.data.toList.drop (p + 1)) then some (lower (S.data.toList.take p), S.data.toList.drop (p + 1), true, []) else match unquote (S.data.toList.drop (p + 1)) with
        | some q => some (lower (S.data.toList.take p), q, true, [])
        | none => none) else none := fun h => by rw [hsay _ (k2 h).2]; simp
    generalize hz : sayD S.data.toList = Z at *
    clear hz hsay k3
    have H1 := Lib.hid k1; have H4 := Lib.hid k4; have HO := Lib.hid hone; have HMN := Lib.hid hmain
    have H2 := Lib.hid (fun h => (k2 h).1)
    clear k1 k2 k4 hone hmain
    go_enter Tryz.func99, Tryz.ntmps99
    go_wp2_with fail
    refine (HT0.out _).mono ?_
    rw [htk]
    rintro e w1 ⟨rfl, rfl⟩
    clear htk
    go_wp2_with fail
    go_loopw [4] (fun i wr => ∃ k : Nat, k ≤ S.size ∧ i = .int .i64 k ∧ (k ≤ p ∨ Z = none) ∧ dbk wr w.heap.size (dvA dv0) ∧ Below w.heap.size w wr) (fun i _ => S.size - (intOf i).toNat)
    case atStart => exact ⟨0, Nat.zero_le _, rfl, .inl (Nat.zero_le _), HR.out, HAL.out⟩
    case round =>
      obtain ⟨k, hk, rfl, hst, hr, hb⟩ := hrel
      have HST := Lib.hid hst; have HR2 := Lib.hid hr; have HB := Lib.hid hb
      clear hst hr hb HR HAL
      by_cases hlt : k < S.size
      · cases hc : ((S[k].toNat : Int) != 61)
        · have hkp : p ≤ k := by
            rcases Nat.lt_or_ge k p with h | h
            · rw [H1.out k hlt h] at hc; cases hc
            · exact h
          have hsz : (S.extract 0 k).size ≤ maxLen := by unfold maxLen; simp; omega
          have hex : (S.extract 0 k).data.toList = S.data.toList.take k := by rw [Lib.extract_data]; simp
          have hrt := fun W => rtoken_any (S.extract 0 k) W hsz
          rw [hex] at hrt
          cases htn : token (S.data.toList.take k)
          · have hno : Z = none := by
              rcases Nat.lt_or_eq_of_le hkp with h | h
              · rcases HST.out with h2 | h2
                · omega
                · exact h2
              · subst h
                rw [HMN.out hlt, htn]
                simp
            rw [htn] at hrt
            have HRT := Lib.hid hrt; have HNO := Lib.hid hno
            clear hrt hno hex hsz hkp htn
            go_wp2_with fail
            refine (HRT.out _).mono ?_
            rintro e w2 ⟨rfl, rfl⟩
            go_wp2_with fail
            go_roundw
            case rel => exact ⟨k + 1, by omega, by go_num, .inr HNO.out, HR2.out, HB.out⟩
            case measure => simp [intOf]; omega
          · obtain rfl : p = k := by
              rcases Nat.lt_or_eq_of_le hkp with h | h
              · rw [H4.out k h hk] at htn; cases htn
              · exact h
            have hz := HMN.out hlt
            rw [htn] at hz
            simp only [if_true] at hz
            rw [htn] at hrt
            have hex1 : S.extract 0 p = bs (S.data.toList.take p) := bs_of hex
            have hex2 : S.extract (p + 1) S.size = bs (S.data.toList.drop (p + 1)) := bs_of (by rw [Lib.extract_data, List.take_of_length_le (by simp)])
            have hl1 : (S.data.toList.take p).length ≤ 4294967200 := by rw [List.length_take]; omega
            have hl2 : (S.data.toList.drop (p + 1)).length ≤ 4294967200 := by rw [List.length_drop]; have := size_len S; omega
            rw [hex1] at hrt
            generalize S.data.toList.take p = n at *
            generalize S.data.toList.drop (p + 1) = v at *
            have HRT := Lib.hid hrt
            have HLW := Lib.hid (fun W => rlower_any (bs n) W (by rw [bs_size]; omega))
            have HTV := Lib.hid (fun W => rtoken_any (bs v) W (by rw [bs_size]; unfold maxLen; omega))
            have HUV := Lib.hid (fun W => runquote_any (bs v) W (by rw [bs_size]; omega))
            clear hrt hex hsz hkp hl1 hl2 htn HMN H1 H2 H4 HO HST HT0
            have HZ := Lib.hid hz; clear hz
            have hw1 : IntKind.i64.wrap ((p : Int) + 1) = (p : Int) + 1 := by rw [IntKind.wrap_i64]; omega
            have hb1 : (0 : Int) ≤ (p : Int) + 1 := by omega
            have htn : ((p : Int) + 1).toNat = p + 1 := by omega
            have hle1 : p + 1 ≤ S.size := by omega
            have hle3 : (p : Int) + 1 ≤ (S.size : Int) := by omega
            have hle4 : (p : Int) ≤ (S.size : Int) := by omega
            go_wp2_with fail
            refine (HRT.out _).mono ?_
            rintro e w2 ⟨rfl, rfl⟩
            go_wp2_with fail
            apply wp_meetD (fun g W => dbk W g (dvA (lower n, v, true, [])) ∧ Below wr.heap.size wr W ∧ wr.heap.size ≤ g)
            case h1 =>
              refine wp_region_growS (.one 0 false (.one 1 false (.one 2 false (.one 4 false (.one 5 false (.one 6 false (.one 7 false (.two 3 9 (.one 8 false (.one 9 true (.one 10 true .done))) (.one 3 true (.one 8 false (.one 10 true .done)))))))))))
                (fun W => Below wr.heap.size wr W) (by kernel_rfl) (by kernel_rfl) rfl (by kernel_rfl) (by kernel_rfl) ((Below.refl _ _).drew) (fun ops hops => ?_)
              simp only [GT.ins, List.getD_cons_zero, List.getD_cons_succ]
              clear hops
              iterate 7
                refine growS_take (by rfl) ?_
                apply Exists.intro
                refine ⟨fun w' hE => ?_, ?_⟩
                · go_simp
                  try with_reducible rfl
                simp only [Act.put, List.setIfInBounds_toArray, List.set_cons_zero, List.set_cons_succ]
              refine growS_two (by rfl) (by rfl) (fun K hK => ?_) (fun K hK => ?_)
              · go_simp
                refine (HLW.out _).mono ?_
                rw [bs_data]
                rintro e x1 ⟨rfl, hb⟩
                have hz := ((Below.refl _ _).drew : Below wr.heap.size wr wr.drew).trans (hb.mono ((Below.refl _ _).drew : Below wr.heap.size wr wr.drew).size)
                refine hK.out _ _ hz ?_
                have HX1 := Lib.hid hz
                clear hK K hb hz
                iterate 1
                  refine growS_take (by rfl) ?_
                  apply Exists.intro
                  refine ⟨fun w' hE => ?_, ?_⟩
                  · go_simp
                    try with_reducible rfl
                  simp only [Act.put, List.setIfInBounds_toArray, List.set_cons_zero, List.set_cons_succ]
                refine growS_call (by rfl) (fun K hK => ?_)
                go_simp
                have hd1 : Below wr.heap.size wr (x1.alloc (.cells #[.string ⟨#[]⟩, .string ⟨#[]⟩, .bool false, .string ⟨#[]⟩] 79)) := HX1.out.trans (((Below.refl _ _).alloc (Nat.le_refl _) _).mono HX1.out.size)
                have hz1 := res_new x1
                have hgl := HX1.out.size
                refine hK.out _ _ hd1 ?_
                have HX3 := Lib.hid hd1; have HG3 := Lib.hid hz1; have HGL := Lib.hid hgl; clear hK K hd1 hz1 hgl
                generalize (x1.alloc (.cells #[.string ⟨#[]⟩, .string ⟨#[]⟩, .bool false, .string ⟨#[]⟩] 79)) = x3 at *
                generalize x1.heap.size = g10 at HG3 HGL ⊢
                have hqs := HG3.out.zero (lower n, v, true, [])
                obtain ⟨a0, b0, a1, b1, a2, b2, a3, b3⟩ := hqs
                have hq0 := HG3.out.putd (lower n, v, true, [])
                have hE9 := putD_below (b := g10) HX3.out HGL.out (lower n, v, true, [])
                simp only [putD, bs_nil] at a0 a1 a2 a3 b0 b1 b2 b3 hq0 hE9
                have HQ0 := Lib.hid hq0; have HE9 := Lib.hid hE9; clear hq0 hE9
                refine growS_call (by rfl) (fun K hK => ?_)
                go_simp
                refine hK.out _ _ HE9.out ?_
                clear hK K
                refine growS_done (NoPanic.normal ?_)
                exact ⟨g10, rfl, rfl, HQ0.out, HE9.out, HGL.out⟩
              · go_simp
                have hd1 : Below wr.heap.size wr (wr.alloc (.cells #[.string ⟨#[]⟩, .string ⟨#[]⟩, .bool false, .string ⟨#[]⟩] 79)).drew := (((Below.refl _ _).alloc (Nat.le_refl _) _)).drew
                have hz1 : dbk (wr.alloc (.cells #[.string ⟨#[]⟩, .string ⟨#[]⟩, .bool false, .string ⟨#[]⟩] 79)).drew wr.heap.size (dvA dv0) := res_new wr
                refine hK.out _ _ hd1 ?_
                have HX2 := Lib.hid hd1; have HG2 := Lib.hid hz1; clear hK K hd1 hz1
                generalize (wr.alloc (.cells #[.string ⟨#[]⟩, .string ⟨#[]⟩, .bool false, .string ⟨#[]⟩] 79)).drew = x2 at *
                refine growS_call (by rfl) (fun K hK => ?_)
                go_simp
                refine (HLW.out _).mono ?_
                rw [bs_data]
                rintro e x3 ⟨rfl, hb⟩
                have hz := HX2.out.trans (hb.mono HX2.out.size)
                refine hK.out _ _ hz ?_
                have HX3 := Lib.hid hz; have HG3 := Lib.hid (HG2.out.below hb); have HGL : Hid (wr.heap.size ≤ wr.heap.size) := Nat.le_refl _
                clear hK K hb hz HG2 HX2
                iterate 1
                  refine growS_take (by rfl) ?_
                  apply Exists.intro
                  refine ⟨fun w' hE => ?_, ?_⟩
                  · go_simp
                    try with_reducible rfl
                  simp only [Act.put, List.setIfInBounds_toArray, List.set_cons_zero, List.set_cons_succ]
                have hqs := HG3.out.zero (lower n, v, true, [])
                obtain ⟨a0, b0, a1, b1, a2, b2, a3, b3⟩ := hqs
                have hq0 := HG3.out.putd (lower n, v, true, [])
                have hE9 := putD_below (b := wr.heap.size) HX3.out HGL.out (lower n, v, true, [])
                simp only [putD, bs_nil] at a0 a1 a2 a3 b0 b1 b2 b3 hq0 hE9
                have HQ0 := Lib.hid hq0; have HE9 := Lib.hid hE9; clear hq0 hE9
                refine growS_call (by rfl) (fun K hK => ?_)
                go_simp
                refine hK.out _ _ HE9.out ?_
                clear hK K
                refine growS_done (NoPanic.normal ?_)
                exact ⟨wr.heap.size, rfl, rfl, HQ0.out, HE9.out, HGL.out⟩
            case h2 =>
              rintro g wV ⟨hv, hz, hg⟩
              have HV := Lib.hid hv; have HG := Lib.hid hg; have HRV := Lib.hid (HR2.out.below hz); have HBV := Lib.hid (HB.out.trans (hz.mono HB.out.size))
              have HWR := Lib.hid HB.out.size
              have HNE : Hid (w.heap.size ≠ g) := by
                show _ ≠ _
                have := HR2.out.lt
                omega
              clear hv hz hg HR2 HB HLW HRT
              obtain ⟨p0, p1, p2, p3⟩ := HV.out.four
              go_wp2_with fail
              refine (HTV.out _).mono ?_
              rw [bs_data]
              cases htv : token v
              · rw [htv] at HZ
                simp only [Bool.false_eq_true, if_false] at HZ
                rintro e w3 ⟨rfl, rfl⟩
                go_wp2_with fail
                refine (HUV.out _).mono ?_
                rw [bs_data]
                cases hu : unquote v with
                | none =>
                  rw [hu] at HZ
                  simp only at HZ
                  rw [unq_no hu]
                  rintro e w4 ⟨rfl, rfl⟩
                  go_wp2_with fail
                  go_roundw
                  case rel => exact ⟨p + 1, by omega, by go_num, .inr HZ.out, HRV.out, HBV.out⟩
                  case measure => simp [intOf]; omega
                | some q =>
                  rw [hu] at HZ
                  simp only at HZ
                  obtain ⟨hus, hue⟩ := unq_some hu
                  rw [hus, hue]
                  rintro e w4 ⟨rfl, rfl⟩
                  have f1 := HV.out.free 1
                  obtain ⟨z0, z1, z2, z3⟩ := HRV.out.four
                  have n0 := HRV.out.free 0
                  have n1 := HRV.out.free 1
                  have n2 := HRV.out.free 2
                  have n3 := HRV.out.free 3
                  have hr := HRV.out.other (a := ⟨g, 1, none⟩) HNE.out (.string (bs q))
                  obtain ⟨g0, g1, g2, g3⟩ := hr.got (lower n, q, true, [])
                  have hq := putD_below (b := w.heap.size) (HBV.out.setCell (p := ⟨g, 1, none⟩) (by show w.heap.size ≤ g; have h1 := HG.out; have h2 := HWR.out; omega) (.string (bs q))) (Nat.le_refl _) (lower n, q, true, [])
                  simp only [putD, dv0, bs_nil] at hq z0 z1 z2 z3 g0 g1 g2 g3 p0 p1 p2 p3
                  have HQ := Lib.hid hq; have HGG := Lib.hid (And.intro g0 (And.intro g1 (And.intro g2 g3)))
                  have hne := HNE.out
                  have hne2 : ¬ g = w.heap.size := fun e => hne e.symm
                  clear hq hr g0 g1 g2 g3 hu htv hus hue HUV HTV
                  go_wp2_with fail
                  obtain ⟨g0, g1, g2, g3⟩ := HGG.out
                  rw [HZ.out]
                  refine bodyPost_ret (v := .tuple #[.agg #[.string (bs (lower n)), .string (bs q), .bool true, .string ⟨#[]⟩], .bool true]) (by simp [results, Tryz.results99, go_sem, g0, g1, g2, g3]) rfl ?_
                  exact ⟨rfl, HQ.out⟩
              · rw [htv] at HZ
                simp only [if_true] at HZ
                rintro e w3 ⟨rfl, rfl⟩
                obtain ⟨a0, b0, a1, b1, a2, b2, a3, b3⟩ := HRV.out.zero (lower n, v, true, [])
                obtain ⟨g0, g1, g2, g3⟩ := HRV.out.got (lower n, v, true, [])
                have hq2 := putD_below (b := w.heap.size) HBV.out (Nat.le_refl _) (lower n, v, true, [])
                simp only [putD, bs_nil] at a0 a1 a2 a3 b0 b1 b2 b3 g0 g1 g2 g3 hq2 p0 p1 p2 p3
                have HQ := Lib.hid hq2; clear hq2 htv HUV HTV
                go_wp2_with fail
                rw [HZ.out]
                refine bodyPost_ret (v := .tuple #[.agg #[.string (bs (lower n)), .string (bs v), .bool true, .string ⟨#[]⟩], .bool true]) (by simp [results, Tryz.results99, go_sem, g0, g1, g2, g3]) rfl ?_
                exact ⟨rfl, HQ.out⟩
        · have HST2 : Hid (k + 1 ≤ p ∨ Z = none) := by
            show _ ∨ _
            rcases HST.out with h | h
            · rcases Nat.lt_or_eq_of_le h with h1 | h1
              · exact .inl h1
              · subst h1; rw [H2.out hlt] at hc; cases hc
            · exact .inr h
          clear HST
          go_wp2_with fail
          go_roundw
          case rel => exact ⟨k + 1, by omega, by go_num, HST2.out, HR2.out, HB.out⟩
          case measure => simp [intOf]; omega
      · have hno : Z = none := by
          rcases HST.out with h | h
          · rcases HO.out with h1 | h1
            · omega
            · exact h1
          · exact h
        subst hno
        clear HST HO H1 H2 H4 HMN HT0
        obtain ⟨a0, b0, a1, b1, a2, b2, a3, b3⟩ := HR2.out.zero dv0
        obtain ⟨g0, g1, g2, g3⟩ := HR2.out.got dv0
        have hq2 := putD_below (b := w.heap.size) HB.out (Nat.le_refl _) dv0
        simp only [putD, dv0, bs_nil] at a0 a1 a2 a3 b0 b1 b2 b3 g0 g1 g2 g3 hq2
        have HQ := Lib.hid hq2; clear hq2
        go_wp2_with fail
        refine bodyPost_ret (v := .tuple #[.agg #[.string ⟨#[]⟩, .string ⟨#[]⟩, .bool false, .string ⟨#[]⟩], .bool false]) (by simp [results, Tryz.results99, go_sem, g0, g1, g2, g3]) rfl ?_
        exact ⟨rfl, HQ.out⟩
  · have hz : sayD S.data.toList = some (lower S.data.toList, [], false, []) := by
      rw [hsay _ (cutE_none (tok_ne61 htk))]
      simp [htk]
    rw [hz]
    clear hz hsay k1 k2 k3 k4
    have HLW := Lib.hid (fun W => rlower_any S W (by omega))
    go_enter Tryz.func99, Tryz.ntmps99
    go_wp2_with fail
    refine (HT0.out _).mono ?_
    rw [htk]
    rintro e w1 ⟨rfl, rfl⟩
    clear htk
    go_wp2_with fail
    refine (HLW.out _).mono ?_
    rintro e w2 ⟨rfl, hb⟩
    have HR2 := Lib.hid (HR.out.below hb); have HB := Lib.hid (HAL.out.trans (hb.mono HAL.out.size)); clear hb HR HAL HLW
    generalize lower S.data.toList = m at *
    obtain ⟨a0, b0, a1, b1, a2, b2, a3, b3⟩ := HR2.out.zero (m, [], false, [])
    obtain ⟨g0, g1, g2, g3⟩ := HR2.out.got (m, [], false, [])
    have hq2 := putD_below (b := w.heap.size) HB.out (Nat.le_refl _) (m, [], false, [])
    simp only [putD, bs_nil] at a0 a1 a2 a3 b0 b1 b2 b3 g0 g1 g2 g3 hq2
    have HQ := Lib.hid hq2; clear hq2
    go_wp2_with fail
    refine bodyPost_ret (v := .tuple #[.agg #[.string (bs m), .string ⟨#[]⟩, .bool false, .string ⟨#[]⟩], .bool true]) (by simp [results, Tryz.results99, go_sem, g0, g1, g2, g3]) rfl ?_
    exact ⟨rfl, HQ.out⟩
end Go.Proofs.YtfobjaccpnondaaGreatDoor

/- The first directive of a name: the directive layer's Find, and the document's. -/
namespace Go.Proofs.YtfobjaccpnondaaGreatDoor
open Go.RowKit

theorem find_none {l : List Dv} {n : List UInt8} {k : Nat} (h : ¬ k < l.length) (hf : findD (l.drop k) n = findD l n) : findD l n = none := by
  rw [← hf, List.drop_of_length_le (by omega)]; rfl
theorem find_hit {l : List Dv} {n : List UInt8} {k : Nat} (h : k < l.length) (hf : findD (l.drop k) n = findD l n) (he : (lower l[k].1 == lower n) = true) : findD l n = some l[k] := by
  rw [← hf, List.drop_eq_getElem_cons h]; unfold findD; rw [List.find?_cons, he]
theorem find_miss {l : List Dv} {n : List UInt8} {k : Nat} (h : k < l.length) (hf : findD (l.drop k) n = findD l n) (he : (lower l[k].1 == lower n) = false) : findD (l.drop (k + 1)) n = findD l n := by
  rw [← hf, List.drop_eq_getElem_cons h]; unfold findD; rw [List.find?_cons, he]
/-- texts as long as may be -/
def DvW (d : Dv) : Prop := d.1.length ≤ 140737488351232 ∧ d.2.1.length ≤ 140737488351232 ∧ d.2.2.2.length ≤ 140737488351232

set_option maxRecDepth 100000 in
set_option maxHeartbeats 2000000 in
theorem findD_any (v : Value) (l : List Dv) (n : List UInt8) (w : World) (hv : DL w v l) (hl : ∀ j (hj : j < l.length), DvW l[j]) (hn : n.length ≤ 140737488351232) (hlen : l.length ≤ 4294967296) :
    Calls Tryz.prog 85 #[v, .string (bs n)] w (RetR w (findD l n)) := by
  obtain ⟨A, c, rfl⟩ := hv.form
  have hr := res_new w
  have hal : Below w.heap.size w (w.alloc (.cells #[.string ⟨#[]⟩, .string ⟨#[]⟩, .bool false, .string ⟨#[]⟩] 79)) := (Below.refl _ _).alloc (Nat.le_refl _) _
  have hv1 := hv.bel hal
  have HR := Lib.hid hr; have HAL := Lib.hid hal; have HV := Lib.hid hv1; have HL := Lib.hid hl
  clear hr hal hv hv1 hl
  go_enter Tryz.func85, Tryz.ntmps85
  go_wp2_with fail
  go_loopw [10] (fun i wr => ∃ k : Nat, k ≤ l.length ∧ i = .int .i64 k ∧ findD (l.drop k) n = findD l n ∧ dbk wr w.heap.size (dvA dv0) ∧ Below (w.alloc (.cells #[.string ⟨#[]⟩, .string ⟨#[]⟩, .bool false, .string ⟨#[]⟩] 79)).heap.size (w.alloc (.cells #[.string ⟨#[]⟩, .string ⟨#[]⟩, .bool false, .string ⟨#[]⟩] 79)) wr) (fun i _ => l.length - (intOf i).toNat)
  case atStart => exact ⟨0, Nat.zero_le _, rfl, rfl, HR.out, Below.refl _ _⟩
  case round =>
    obtain ⟨k, hk, rfl, hf, hr, hb⟩ := hrel
    have HF := Lib.hid hf; have HR2 := Lib.hid hr; have HB := Lib.hid hb
    clear hf hr hb HR
    by_cases hlt : k < l.length
    · obtain ⟨b, off, rfl, hbl, e0, e1, e2, e3⟩ := (HV.out.bel HB.out).get k hlt
      obtain ⟨z1, z2, z3⟩ := HL.out k hlt
      have hc := copied_anyD l[k]
      have HC := Lib.hid (fun W => hc W z1 z2 z3)
      have HS := Lib.hid (fun W => same_any (bs l[k].1) (bs n) W (by rw [bs_size]; unfold maxLen; omega) (by rw [bs_size]; unfold maxLen; omega))
      have hi1 := fun h => find_hit (k := k) hlt HF.out h
      have hi2 := fun h => find_miss (k := k) hlt HF.out h
      have HI1 := Lib.hid hi1; have HI2 := Lib.hid hi2
      clear hc z1 z2 z3 hi1 hi2
      generalize l[k] = d at *
      have hn0 := dbk.new wr (dvA d) 79
      obtain ⟨q0, q1, q2, q3⟩ := hn0.four
      have hn2 : Below wr.heap.size wr (wr.alloc (.cells #[.string (bs d.1), .string (bs d.2.1), .bool d.2.2.1, .string (bs d.2.2.2)] 79)) := (Below.refl _ _).alloc (Nat.le_refl _) _
      have HN := Lib.hid hn0; have HN2 := Lib.hid hn2; clear hn0 hn2
      simp only [dvA] at q0 q1 q2 q3 HN
      go_wp2_with fail
      refine (HS.out _).mono ?_
      rw [bs_data, bs_data]
      rintro e w2 ⟨rfl, hb2⟩
      have HB2 := Lib.hid (HN2.out.trans (hb2.mono HN2.out.size))
      have hd2 := HN.out.below hb2
      obtain ⟨p0, p1, p2, p3⟩ := dbk.four (d := d) hd2
      clear q0 q1 q2 q3 HN HN2 hb2 hd2 e0 e1 e2 e3
      cases hq : (lower d.1 == lower n)
      · have HI := Lib.hid (HI2.out hq)
        clear HI1 HI2
        go_wp2_with fail
        go_roundw
        case rel => exact ⟨k + 1, by omega, by go_num, HI.out, HR2.out.below HB2.out, HB.out.trans (HB2.out.mono HB.out.size)⟩
        case measure => simp [intOf]; omega
      · have HI := Lib.hid (HI1.out hq)
        clear HI1 HI2
        go_wp2_with fail
        refine (HC.out _).mono ?_
        rintro e w3 ⟨rfl, hb3⟩
        have hb4 := HB2.out.trans (hb3.mono HB2.out.size)
        have hr3 := HR2.out.below hb4
        obtain ⟨a0, b0, a1, b1, a2, b2, a3, b3⟩ := hr3.zero d
        obtain ⟨g0, g1, g2, g3⟩ := hr3.got d
        have hb5 := HB.out.trans (hb4.mono HB.out.size)
        have hq2 := putD_below (b := w.heap.size) (HAL.out.trans (hb5.mono HAL.out.size)) (Nat.le_refl _) d
        simp only [putD] at g0 g1 g2 g3 hq2
        have HQ := Lib.hid hq2; clear hq2 hb3 hb4 hb5 hr3 p0 p1 p2 p3
        go_wp2_with fail
        refine bodyPost_ret (v := .tuple #[.agg #[.string (bs d.1), .string (bs d.2.1), .bool d.2.2.1, .string (bs d.2.2.2)], .bool true]) (by simp [results, Tryz.results85, go_sem, g0, g1, g2, g3]) rfl ?_
        exact ⟨by rw [HI.out]; rfl, HQ.out⟩
    · have hno := find_none hlt HF.out
      have HNO := Lib.hid hno; clear hno
      obtain ⟨a0, b0, a1, b1, a2, b2, a3, b3⟩ := HR2.out.zero dv0
      obtain ⟨g0, g1, g2, g3⟩ := HR2.out.got dv0
      have hq2 := putD_below (b := w.heap.size) (HAL.out.trans (HB.out.mono HAL.out.size)) (Nat.le_refl _) dv0
      simp only [putD, dv0, bs_nil] at a0 a1 a2 a3 b0 b1 b2 b3 g0 g1 g2 g3 hq2
      have HQ := Lib.hid hq2; clear hq2
      go_wp2_with fail
      refine bodyPost_ret (v := .tuple #[.agg #[.string ⟨#[]⟩, .string ⟨#[]⟩, .bool false, .string ⟨#[]⟩], .bool false]) (by simp [results, Tryz.results85, go_sem, g0, g1, g2, g3]) rfl ?_
      exact ⟨by rw [HNO.out]; rfl, HQ.out⟩

set_option maxRecDepth 100000 in
set_option maxHeartbeats 2000000 in
theorem rfindD_any (v : Value) (l : List Dv) (n : List UInt8) (w : World) (hv : DL w v l) (hl : ∀ j (hj : j < l.length), DvW l[j]) (hn : n.length ≤ 140737488351232) (hlen : l.length ≤ 4294967296) :
    Calls Tryz.prog 52 #[v, .string (bs n)] w (RetR w (findD l n)) := by
  obtain ⟨A, c, rfl⟩ := hv.form
  have hr := res_new w
  have hal : Below w.heap.size w (w.alloc (.cells #[.string ⟨#[]⟩, .string ⟨#[]⟩, .bool false, .string ⟨#[]⟩] 79)) := (Below.refl _ _).alloc (Nat.le_refl _) _
  have hv1 := hv.bel hal
  have HR := Lib.hid hr; have HAL := Lib.hid hal; have HV := Lib.hid hv1; have HL := Lib.hid hl
  clear hr hal hv hv1 hl
  go_enter Tryz.func52, Tryz.ntmps52
  go_wp2_with fail
  go_loopw [6] (fun i wr => ∃ k : Nat, k ≤ l.length ∧ i = .int .i64 k ∧ findD (l.drop k) n = findD l n ∧ dbk wr w.heap.size (dvA dv0) ∧ Below (w.alloc (.cells #[.string ⟨#[]⟩, .string ⟨#[]⟩, .bool false, .string ⟨#[]⟩] 79)).heap.size (w.alloc (.cells #[.string ⟨#[]⟩, .string ⟨#[]⟩, .bool false, .string ⟨#[]⟩] 79)) wr) (fun i _ => l.length - (intOf i).toNat)
  case atStart => exact ⟨0, Nat.zero_le _, rfl, rfl, HR.out, Below.refl _ _⟩
  case round =>
    obtain ⟨k, hk, rfl, hf, hr, hb⟩ := hrel
    have HF := Lib.hid hf; have HR2 := Lib.hid hr; have HB := Lib.hid hb
    clear hf hr hb HR
    by_cases hlt : k < l.length
    · have hg := (HV.out.bel HB.out).get k hlt
      obtain ⟨z1, z2, z3⟩ := HL.out k hlt
      have HS := Lib.hid (fun W => rsame_any (bs l[k].1) (bs n) W (by rw [bs_size]; omega) (by rw [bs_size]; omega))
      have hi1 := fun h => find_hit (k := k) hlt HF.out h
      have hi2 := fun h => find_miss (k := k) hlt HF.out h
      have HI1 := Lib.hid hi1; have HI2 := Lib.hid hi2
      clear z1 z2 z3 hi1 hi2
      generalize l[k] = d at *
      obtain ⟨b, off, rfl, hbl, e0, e1, e2, e3⟩ := hg
      go_wp2_with fail
      refine (HS.out _).mono ?_
      rw [bs_data, bs_data]
      rintro e w2 ⟨rfl, hb2⟩
      have m0 := (hb2.cell (p := ⟨b, off + k * 4, none⟩) hbl).trans e0
      have m1 := (hb2.cell (p := ⟨b, off + k * 4 + 1, none⟩) hbl).trans e1
      have m2 := (hb2.cell (p := ⟨b, off + k * 4 + 2, none⟩) hbl).trans e2
      have m3 := (hb2.cell (p := ⟨b, off + k * 4 + 3, none⟩) hbl).trans e3
      have HB2 := Lib.hid hb2; clear hb2 e0 e1 e2 e3
      cases hq : (lower d.1 == lower n)
      · have HI := Lib.hid (HI2.out hq)
        clear HI1 HI2
        go_wp2_with fail
        go_roundw
        case rel => exact ⟨k + 1, by omega, by go_num, HI.out, HR2.out.below HB2.out, HB.out.trans (HB2.out.mono HB.out.size)⟩
        case measure => simp [intOf]; omega
      · have HI := Lib.hid (HI1.out hq)
        clear HI1 HI2
        have hr3 := HR2.out.below HB2.out
        obtain ⟨a0, b0, a1, b1, a2, b2, a3, b3⟩ := hr3.zero d
        obtain ⟨g0, g1, g2, g3⟩ := hr3.got d
        have hb5 := HB.out.trans (HB2.out.mono HB.out.size)
        have hq2 := putD_below (b := w.heap.size) (HAL.out.trans (hb5.mono HAL.out.size)) (Nat.le_refl _) d
        simp only [putD] at g0 g1 g2 g3 hq2
        have HQ := Lib.hid hq2; clear hq2 hb5 hr3
        go_wp2_with fail
        refine bodyPost_ret (v := .tuple #[.agg #[.string (bs d.1), .string (bs d.2.1), .bool d.2.2.1, .string (bs d.2.2.2)], .bool true]) (by simp [results, Tryz.results52, go_sem, g0, g1, g2, g3]) rfl ?_
        exact ⟨by rw [HI.out]; rfl, HQ.out⟩
    · have hno := find_none hlt HF.out
      have HNO := Lib.hid hno; clear hno
      obtain ⟨a0, b0, a1, b1, a2, b2, a3, b3⟩ := HR2.out.zero dv0
      obtain ⟨g0, g1, g2, g3⟩ := HR2.out.got dv0
      have hq2 := putD_below (b := w.heap.size) (HAL.out.trans (HB.out.mono HAL.out.size)) (Nat.le_refl _) dv0
      simp only [putD, dv0, bs_nil] at a0 a1 a2 a3 b0 b1 b2 b3 g0 g1 g2 g3 hq2
      have HQ := Lib.hid hq2; clear hq2
      go_wp2_with fail
      refine bodyPost_ret (v := .tuple #[.agg #[.string ⟨#[]⟩, .string ⟨#[]⟩, .bool false, .string ⟨#[]⟩], .bool false]) (by simp [results, Tryz.results52, go_sem, g0, g1, g2, g3]) rfl ?_
      exact ⟨by rw [HNO.out]; rfl, HQ.out⟩
end Go.Proofs.YtfobjaccpnondaaGreatDoor

/- Lists of directives held against each other; the document's directives of values. -/
namespace Go.Proofs.YtfobjaccpnondaaGreatDoor
open Go.RowKit

theorem below_dnD {B : Nat} {w0 w : World} (h : Below B w0 w) (n : Nat) : Below B w0 (w.drewN n) := ⟨h.os, h.tape, h.output, h.size, h.block⟩
theorem take_growD {α : Type} {L1 L2 : List α} {k : Nat} (h1 : k < L1.length) (h2 : k < L2.length) (h : L1.take k = L2.take k) (he : L1[k] = L2[k]) : L1.take (k + 1) = L2.take (k + 1) := by
  rw [List.take_succ_eq_append_getElem h1, List.take_succ_eq_append_getElem h2, h, he]
/-- two directives held against each other -/
theorem run_neqD (x y : Dv) (w : World) : (binOp .neq 79 (.agg #[.string (bs x.1), .string (bs x.2.1), .bool x.2.2.1, .string (bs x.2.2.2)]) (.agg #[.string (bs y.1), .string (bs y.2.1), .bool y.2.2.1, .string (bs y.2.2.2)])).run Tryz.prog w = .ok (.bool (!(x == y))) w := by
  have e : (x == y) = ((x.1 == y.1) && ((x.2.1 == y.2.1) && ((x.2.2.1 == y.2.2.1) && (x.2.2.2 == y.2.2.2)))) := rfl
  have u9 := Tryz.underlying9
  have a9 := Tryz.isAgg9
  have z9 := Tryz.sizeOf9
  have u4 := Tryz.underlying4
  have a4 := Tryz.isAgg4
  have z4 := Tryz.sizeOf4
  have hS : Tryz.prog.underlying 79 = some (.struct (Tryz.prog.fieldsOf 79)) := by kernel_rfl
  have hp : Tryz.prog.stoodInHeld 79 = false := by kernel_rfl
  rw [e, run_neq_struct, show (10000 : Nat) = 9999 + 1 from rfl, run_equalIn_agg w 9999 79 _ _ hS hp]
  simp only [Program.fieldsOf, Tryz.underlying79]
  go_simp
  by_cases h1 : x.1 = y.1 <;> by_cases h2 : x.2.1 = y.2.1 <;> by_cases h3 : x.2.2.1 = y.2.2.1 <;> by_cases h4 : x.2.2.2 = y.2.2.2 <;> simp [h1, h2, h3, h4, Lib.toList_data]
end Go.Proofs.YtfobjaccpnondaaGreatDoor

/- The document's directives of values. -/
namespace Go.Proofs.YtfobjaccpnondaaGreatDoor
open Go.RowKit

/-- the blocks of texts stand -/
def Ks (W W' : World) : Prop := ∀ (b : Nat) (cs : Array Value) (r : Nat × Nat), W.heap[b]? = some (Obj.cells cs 9 r) → W'.heap[b]? = some (Obj.cells cs 9 r)
theorem Ks.bel {W W' : World} (h : Below W.heap.size W W') : Ks W W' := fun b cs r e => by rw [h.block b (Array.getElem?_eq_some_iff.1 e).1]; exact e
theorem Ks.trans {A B C : World} (h : Ks A B) (k : Ks B C) : Ks A C := fun b cs r e => k b cs r (h b cs r e)
theorem ownS.ks {W W' : World} {base : Nat} {v : Value} {L : List (List UInt8)} (h : ownS W base v L) (k : Ks W W') : ownS W' base v L := by
  refine ⟨h.1, ?_⟩
  rcases h.2 with hn | ⟨g, cap, cur, hv, hbg, hg, r⟩
  · exact .inl hn
  · exact .inr ⟨g, cap, cur, hv, hbg, k _ _ _ hg, r⟩
/-- 'append(l, d)', and the blocks of texts stand -/
theorem wpList_appDS {w0 w : World} {ops : Array Oper} {rest : List Oper} {o : Oper} {a : Act} {Q : Exit → Act → World → Prop} (hgd : o.guard = none) (s x : Operand)
    (ho : o.op = .call { callee := .builtin .append, args := #[s, x], argTypes := #[68, 68] })
    (base B : Nat) (v : Value) (l : List Dv) (d : Dv) (hs : a.eval s = v) (hown : ownD w base v l) (hb : Below B w0 w) (hBb : B ≤ base) (hbase : base ≤ w.heap.size)
    {g : Nat} (hx : a.eval x = .slice (some ⟨g, 0, none⟩) 1 1) (hlen : l.length + 1 ≤ 4294967296)
    (h : ∀ v' w', Hid (ownD w' base v' (l ++ [d])) → Hid (Below B w0 w') → Hid (Ks w w') → wpList Tryz.prog ops Q rest (a.put o.dst v') w') (hg : g = w.heap.size := by simp) :
    wpList Tryz.prog ops Q (o :: rest) a (w.alloc (.cells #[.string (bs d.1), .string (bs d.2.1), .bool d.2.2.1, .string (bs d.2.2.2)] 79)) := by
  obtain ⟨i0, hi, hz0, hz1, hz2⟩ := info_parts infoD
  subst hg
  refine wpList_append_own _ hgd s x 68 ho base 79 i0 (.agg #[.string ⟨#[]⟩, .string ⟨#[]⟩, .bool false, .string ⟨#[]⟩]) 4 56 Tryz.underlying68 hi hz0 hz1 hz2 rfl (by decide) v l.length _ hs (hown.alloc _) ⟨w.heap.size, 0, none⟩ 1 1 [.string (bs d.1), .string (bs d.2.1), .bool d.2.2.1, .string (bs d.2.2.2)] hx rfl ?_ ?_ ?_ ?_ ?_ ?_
  · exact World.news_of_block (heap_alloc_new w _)
  · exact one4 d
  · unfold maxLen; omega
  · omega
  · simp; omega
  · intro v' w' h1 h2 _
    have hge : ∀ k, v.ownBlock = some k → base ≤ k := fun k hk => (World.ownsRow.lt hown k hk).1
    refine h v' w' ?_ ?_ ?_
    · have : (l ++ [d]).length = l.length + 1 := by simp
      show ownD _ _ _ _
      unfold ownD
      rw [this, dcs_append]
      exact h1
    · exact (hb.alloc (by omega) _).grown h2 (by simp; omega) (fun k hk => Nat.le_trans hBb (hge k hk))
    · intro b cs r e
      have hlt := (Array.getElem?_eq_some_iff.1 e).1
      refine (h2.block b (by simp; omega) fun e' => ?_).trans ((Below.heap_alloc _ _ _ hlt).trans e)
      rcases hown.2 with ⟨rfl, _⟩ | ⟨g, cap, cur, rfl, _, hg, _⟩
      · cases e'
      · obtain rfl : b = g := by simpa [Value.ownBlock] using e'
        rw [e] at hg
        simp at hg

set_option maxHeartbeats 4000000 in
set_option maxRecDepth 100000 in
theorem rlistD_any (v : Value) (L : List (List UInt8)) (w : World) (hv : SL w v L) (hs : ∀ x ∈ L, x.length ≤ 4294967200) (hl : L.length ≤ 1000000) :
    Calls Tryz.prog 51 #[v] w fun e w' => ∃ u, e = .returned u ∧ ownD w' w.heap.size u (dirsAll L) ∧ Below w.heap.size w w' := by
  obtain ⟨A, c, rfl⟩ := hv.form
  have HV := Lib.hid hv; have HS := Lib.hid hs; clear hv hs
  go_enter Tryz.func51, Tryz.ntmps51
  go_wp2_with fail
  go_loopw [3, 4] (fun u i wr => ∃ k : Nat, k ≤ L.length ∧ i = .int .i64 k ∧ ownD wr w.heap.size u (dirsAll (L.take k)) ∧ Below w.heap.size w wr) (fun _ i _ => L.length - (intOf i).toNat)
  case atStart => exact ⟨0, Nat.zero_le _, rfl, ownD_nil _ _, Below.refl _ _⟩
  case round =>
    obtain ⟨k, hk, rfl, ho, hb⟩ := hrel
    have HO := Lib.hid ho; have HB := Lib.hid hb; clear ho hb
    by_cases hlt : k < L.length
    · obtain ⟨b, off, rfl, hbl, hcell⟩ := (HV.out.bel HB.out).get k hlt
      have hle : L[k].length ≤ 4294967200 := HS.out _ (List.getElem_mem hlt)
      have hsp := fun W => rsplit_any (bs L[k]) 44 W (by rw [bs_size]; omega)
      have hsn := dirsAll_snoc L k hlt
      have hln := dirsAll_len (L.take k)
      rw [List.length_take] at hln
      have hlm : (dirsAll (L.take k)).length ≤ 64000000 := by omega
      rw [bs_data] at hsp
      generalize L[k] = x at *
      have hat := fun y h => splitL_at (l := x) (sep := 44) (x := y) h
      have hl64 := splitL_len x 44
      generalize dirsAll (L.take k) = M at *
      have HSP := Lib.hid hsp; have HSN := Lib.hid hsn; have HAT := Lib.hid hat; have HLM := Lib.hid hlm; have HLE := Lib.hid hle; have HL64 := Lib.hid hl64
      clear hsp hsn hat hlm hln hle hl64
      go_wp2_with fail
      refine (HSP.out _).mono ?_
      rintro e w1 ⟨vs, rfl, hos, hb1⟩
      have HOS := Lib.hid hos; have HB1 := Lib.hid (HB.out.trans (hb1.mono HB.out.size)); have HO1 := Lib.hid (HO.out.bel hb1)
      clear hos hb1 HO HB
      by_cases hE : splitE x 44 = 0
      · have hD : dirs x = (splitL x 44).filterMap sayD := if_pos hE
        rw [hE]
        have HD := Lib.hid hD; clear hD hE
        generalize splitL x 44 = N at *
        obtain ⟨A1, c1, rfl⟩ := HOS.out.form
        obtain ⟨A0, c0, rfl⟩ := HO1.out.form
        go_wp2_with fail
        go_loopw [3, 7] (fun u i wr2 => ∃ j : Nat, j ≤ N.length ∧ i = .int .i64 j ∧ ownD wr2 w.heap.size u (M ++ (N.take j).filterMap sayD) ∧ Below w.heap.size w wr2 ∧ ownS wr2 wr.heap.size (.slice A1 N.length c1) N) (fun _ i _ => N.length - (intOf i).toNat)
        case atStart => exact ⟨0, Nat.zero_le _, rfl, by simpa using HO1.out, HB1.out, HOS.out⟩
        case round =>
          obtain ⟨j, hj, rfl, ho, hb, hos⟩ := hrel
          have HO := Lib.hid ho; have HB := Lib.hid hb; have HN := Lib.hid hos; clear ho hb hos HOS HO1 HB1
          have hn64 := HL64.out
          by_cases hjt : j < N.length
          · obtain ⟨g, rfl, hce⟩ := HN.out.cell j hjt
            rw [show N.getD j [] = N[j] from by simp [List.getD, hjt]] at hce
            have hyl : N[j].length ≤ 4294967200 := Nat.le_trans (HAT.out _ (List.getElem_mem hjt)) HLE.out
            have hsay := fun W => rsay_any (bs N[j]) W (by rw [bs_size]; exact hyl)
            rw [bs_data] at hsay
            have hfs := fmap_snoc sayD N j hjt
            have hfl := List.length_filterMap_le sayD (N.take j)
            rw [List.length_take] at hfl
            have hql : (M ++ (N.take j).filterMap sayD).length + 1 ≤ 4294967296 := by rw [List.length_append]; have := HLM.out; have := HL64.out; omega
            generalize N[j] = y at *
            obtain ⟨Q, hQ⟩ : ∃ Q, M ++ (N.take j).filterMap sayD = Q := ⟨_, rfl⟩
            have hQn : M ++ (N.take (j + 1)).filterMap sayD = Q ++ (sayD y).toList := by rw [hfs, ← List.append_assoc, hQ]
            rw [hQ] at HO hql
            have HQN := Lib.hid hQn; have HQL := Lib.hid hql
            clear hyl hfs hfl hQ hQn hql
            obtain ⟨A2, c2, rfl⟩ := HO.out.form
            cases hd : sayD y with
            | none =>
              rw [hd, Option.toList_none, List.append_nil] at HQN
              have hsy : ∀ W, Calls Tryz.prog 99 #[.string (bs y)] W fun e w' => e = .returned (.tuple #[.agg #[.string ⟨#[]⟩, .string ⟨#[]⟩, .bool false, .string ⟨#[]⟩], .bool false]) ∧ Below W.heap.size W w' := fun W => by have h := hsay W; rw [hd] at h; exact h
              have HSY := Lib.hid hsy; clear hsy hsay hd
              go_wp2_with fail
              refine (HSY.out _).mono ?_
              rintro e w2 ⟨rfl, hb2⟩
              have hq : Below w2.heap.size w2 (w2.alloc (.cells #[.string ⟨#[]⟩, .string ⟨#[]⟩, .bool false, .string ⟨#[]⟩] 79)) := (Below.refl _ _).alloc (Nat.le_refl _) _
              have HQ := Lib.hid (hb2.trans (hq.mono hb2.size)); clear hb2 hq
              go_wp2_with fail
              go_roundw
              case rel => exact ⟨j + 1, by omega, by go_num, by rw [HQN.out]; exact HO.out.bel HQ.out, HB.out.trans (HQ.out.mono HB.out.size), HN.out.bel HQ.out⟩
              case measure => simp [intOf]; omega
            | some d =>
              rw [hd] at HQN
              have hsy : ∀ W, Calls Tryz.prog 99 #[.string (bs y)] W fun e w' => e = .returned (.tuple #[.agg #[.string (bs d.1), .string (bs d.2.1), .bool d.2.2.1, .string (bs d.2.2.2)], .bool true]) ∧ Below W.heap.size W w' := fun W => by have h := hsay W; rw [hd] at h; exact h
              have HSY := Lib.hid hsy; clear hsy hsay hd
              go_wp2_with fail
              refine (HSY.out _).mono ?_
              rintro e w2 ⟨rfl, hb2⟩
              have hx : dbk (w2.alloc (.cells #[.string (bs d.1), .string (bs d.2.1), .bool d.2.2.1, .string (bs d.2.2.2)] 79)) w2.heap.size (dvA d) := dbk.new w2 _ _
              obtain ⟨p0, p1, p2, p3⟩ := hx.four
              have hq : Below w2.heap.size w2 (w2.alloc (.cells #[.string (bs d.1), .string (bs d.2.1), .bool d.2.2.1, .string (bs d.2.2.2)] 79)) := (Below.refl _ _).alloc (Nat.le_refl _) _
              have HQ := Lib.hid (hb2.trans (hq.mono hb2.size))
              have HO3 := Lib.hid (HO.out.bel HQ.out); have HB3 := Lib.hid (HB.out.trans (HQ.out.mono HB.out.size)); have HN3 := Lib.hid (HN.out.bel HQ.out)
              clear hb2 hq hx HO HB HN
              go_wp2_with (at_builtin; refine wpList_appDS rfl (.tmp 45) (.tmp 47) rfl w.heap.size w.heap.size _ _ d rfl HO3.out HB3.out (Nat.le_refl _) HB3.out.size rfl HQL.out ?_; intro v' w' HO4 HB4 HK4)
              go_roundw
              case rel => exact ⟨j + 1, by omega, by go_num, by rw [HQN.out]; exact HO4.out, HB4.out, HN3.out.ks HK4.out⟩
              case measure => simp [intOf]; omega
          · have hE : (N.take j).filterMap sayD = dirs x := by rw [List.take_of_length_le (by omega), HD.out]
            rw [hE] at HO
            clear hE HD
            obtain ⟨A2, c2, hA2⟩ := HO.out.form
            go_wp2_with fail
            go_roundw
            case rel => exact ⟨k + 1, by omega, by go_num, by rw [HSN.out]; exact HO.out, HB.out⟩
            case measure => simp [intOf]; omega
      · have hD : dirs x = [noStore] := if_neg hE
        have hN : splitL x 44 = [] := by
          have hb : badSep 44 = false := by decide
          unfold splitE splitL at *
          rw [hb] at hE ⊢
          simp only [Bool.false_eq_true, if_false] at hE ⊢
          split
          · rfl
          · rename_i h
            rw [h] at hE
            simp only at hE
            split
            · rfl
            · rename_i h2; rw [if_neg h2] at hE; exact absurd rfl hE
        have hne : ((splitE x 44) != 0) = true := bne_iff_ne.2 hE
        rw [hN] at HOS
        generalize splitE x 44 = E at *
        rw [hD] at HSN
        clear hD hN hE
        obtain ⟨A1, c1, rfl⟩ := HOS.out.form
        obtain ⟨A0, c0, rfl⟩ := HO1.out.form
        have HQL : Hid (M.length + 1 ≤ 4294967296) := by show _ ≤ _; have := HLM.out; omega
        go_wp2_with (at_builtin; refine wpList_appDS rfl (.tmp 26) (.tmp 28) rfl w.heap.size w.heap.size _ _ noStore rfl HO1.out HB1.out (Nat.le_refl _) HB1.out.size rfl HQL.out ?_; intro v' w' HO4 HB4 HK4)
        go_loopw [3, 7] (fun u i wr2 => u = v' ∧ i = .int .i64 0 ∧ wr2 = w') (fun _ _ _ => 0)
        case atStart => exact ⟨rfl, rfl, rfl⟩
        case round =>
          obtain ⟨rfl, rfl, rfl⟩ := hrel
          go_wp2_with fail
          go_roundw
          case rel => exact ⟨k + 1, by omega, by go_num, by rw [HSN.out]; exact HO4.out, HB4.out⟩
          case measure => simp [intOf]; omega
    · have hE : L.take k = L := List.take_of_length_le (by omega)
      rw [hE] at HO
      clear hE
      obtain ⟨A0, c0, rfl⟩ := HO.out.form
      go_wp2_with fail
      go_ret
      exact ⟨_, rfl, HO.out, HB.out⟩
end Go.Proofs.YtfobjaccpnondaaGreatDoor
