/- Room is made; a value is put (values: inlay/store.item). -/
import Derived.Test.YtopgeclecpaecaaGreatDoorKBudTD
namespace Go.Proofs.YtopgeclecpaecaaGreatDoor.BT
open Go.RowKit
theorem Did.ofDrewN {X X' : Nat → Prop} {w w' : World} {k : Nat} (h : Did X X' (w.drewN k) w') : Did X X' w w' := ⟨h.os, h.tape, h.output, h.size, h.keep, h.new⟩
theorem ringX_right {α : Type} {sb mb k : Nat} {xs rest : List (Nd α)} (h : ringX sb mb rest k) : ringX sb mb (xs ++ rest) k := by
  rcases h with h | h | h
  · exact .inl h
  · exact .inr (.inl h)
  · exact .inr (.inr (by rw [blks_append]; exact List.mem_append_right _ h))
theorem totK_cons {α : Type} (y : Nd α) (r : List (Nd α)) : totK (its (y :: r)) = y.2.2.1 + totK (its r) := rfl
set_option maxRecDepth 100000 in
set_option maxHeartbeats 2000000 in
theorem room_any (sb mb n m s : Nat) (ns : List (Nd Iv)) (w : World) (hr : Rin w sb n m (totK (its ns)) mb ns) (hm : Mpk w mb ns) (hkl : ∀ y ∈ ns, y.2.1.length ≤ KL) (hok : OkK n m (its ns)) (n1 : 1 ≤ n) (n2 : n ≤ 4096) (hs : s ≤ m) (m2 : m ≤ 1073741824) :
    Calls Tryz.prog 58 #[.pointer (some ⟨sb, 0, none⟩), .int .i64 s] w fun e w' => ∃ v xs rest, e = .returned v ∧ ns = xs ++ rest ∧ roomK n m s (its ns) = (keysK (its xs), its rest) ∧ ownS w' w.heap.size v (keysK (its xs)) ∧
      Rin w' sb n m (totK (its rest)) mb rest ∧ Mpk w' mb rest ∧ Did (ringX sb mb ns) (ringX sb mb rest) w w' := by
  have HN : Hid (1 ≤ n ∧ n ≤ 4096 ∧ s ≤ m ∧ m ≤ 1073741824) := ⟨n1, n2, hs, m2⟩
  have HKL := Lib.hid hkl; have HOK := Lib.hid hok
  have HXL : Hid (∀ k, ringX sb mb ns k → k < w.heap.size) := by
    rintro k (rfl | rfl | hk)
    · exact hr.st.lt
    · exact hm.lt
    · obtain ⟨y, hy, rfl⟩ := List.mem_map.1 hk
      exact hr.seg.lt y hy
  have HR0 := Lib.hid hr; have HM0 := Lib.hid hm
  clear n1 n2 hs m2 hkl hok hr hm
  go_enter Tryz.func58, Tryz.ntmps58
  go_wp2_with fail
  go_loopg [5] ns.length (fun c o wr => ∃ xs rest, ns = xs ++ rest ∧ rest.length = c ∧ Hid (roomK n m s (its ns) = (keysK (its xs) ++ (roomK n m s (its rest)).1, (roomK n m s (its rest)).2) ∧ ownS wr w.heap.size o (keysK (its xs)) ∧
      Rin wr sb n m (totK (its rest)) mb rest ∧ Mpk wr mb rest ∧ Did (ringX sb mb ns) (ringX sb mb rest) w wr))
  case atStart => exact ⟨[], ns, rfl, rfl, rfl, ownS_nil _ _, HR0.out, HM0.out, Did.refl _ _⟩
  case round =>
    obtain ⟨xs, rest, hns, hlen, hq⟩ := hrel
    have HRM := Lib.hid hq.out.1; have HO := Lib.hid hq.out.2.1; have HR := Lib.hid hq.out.2.2.1; have HM := Lib.hid hq.out.2.2.2.1; have HD := Lib.hid hq.out.2.2.2.2
    have HNS := Lib.hid hns; have HLE := Lib.hid hlen
    clear hq hns hlen
    have s0 := HR.out.st.cell 0 (.int .i64 (n : Int)) rfl
    have s1 := HR.out.st.cell 1 (.int .i64 (m : Int)) rfl
    have s2 := HR.out.st.cell 2 (.int .i64 (totK (its rest) : Int)) rfl
    have s3 := HR.out.st.cell 3 (.map (some mb)) rfl
    have hlen := HM.out.len Tryz.underlying100 3
    have hlen2 := fun k => MapK.len (w := wr.drewN k) (HM.out.keep rfl) Tryz.underlying100 3
    have hw : IntKind.i64.wrap ((m : Int) - (s : Int)) = (m : Int) - (s : Int) := by have := HN.out; rw [IntKind.wrap_i64]; omega
    cases rest with
    | nil =>
      have hd : decide ((n : Int) ≤ (([] : List (Nd Iv)).length : Int)) = false := decide_eq_false (by have := HN.out; simp; omega)
      have hd2 : decide ((m : Int) - (s : Int) < (totK (its ([] : List (Nd Iv))) : Int)) = false := decide_eq_false (by have := HN.out; simp [its, totK]; omega)
      generalize (([] : List (Nd Iv)).length : Int) = len at *
      generalize (totK (its ([] : List (Nd Iv))) : Int) = tot at *
      go_wp2_with fail
      go_quiet (fail)
      go_wp2_with fail
      go_ret
      have hx : roomK n m s (its ns) = (keysK (its xs), its []) := by rw [HRM.out]; simp [its, roomK]
      exact ⟨_, xs, [], rfl, HNS.out, hx, HO.out.heap rfl, HR.out.keep rfl (fun _ _ => rfl), HM.out.keep rfl, ⟨HD.out.os, HD.out.tape, HD.out.output, HD.out.size, HD.out.keep, HD.out.new⟩⟩
    | cons y r =>
      have s8 : wr.cell? ⟨sb, 16, none⟩ = some (.pointer (some ⟨y.1, 0, none⟩)) := HR.out.st.cell 16 _ rfl
      by_cases h1 : n ≤ (y :: r).length
      · have hstep := roomK_step (n := n) (m := m) (s := s) (y := y.2) (r := its r) (.inl (by simpa [its] using h1))
        have hd : (n : Int) ≤ ((y :: r).length : Int) := by omega
        have hd2 : True := trivial
        clear h1
        generalize ((y :: r).length : Int) = len at *
        generalize (totK (its (y :: r)) : Int) = tot at *
        have hyk : y.2.1.length ≤ KL := HKL.out y (by rw [HNS.out]; simp)
        have hko : ∀ z ∈ [] ++ r, z.2.1 ≠ y.2.1 := by
          have h1 := HOK.out.nd
          rw [HNS.out, its_keys, List.map_append, List.nodup_append] at h1
          have h2 := h1.2.1
          rw [List.map_cons, List.nodup_cons] at h2
          intro z hz e
          exact h2.1 (List.mem_map.2 ⟨z, hz, e⟩)
        have hbd : y.2.2.1 + totK (its r) ≤ 4294967296 := by
          have h1 := HOK.out.tot
          rw [HNS.out, its_append, totK_append, totK_cons] at h1
          have := HN.out
          omega
        have HRV := Lib.hid (fun k => remove_any sb mb n m (totK (its r)) [] r y (wr.drewN k) (HR.out.keep rfl (fun _ _ => rfl)) (HM.out.keep rfl) hyk hko hbd)
        go_wp2_with fail
        go_quiet (fail)
        go_wp2_with fail
        clear hd hd2 hlen hlen2 s0 s1 s2 s3 s8 hw
        refine (HRV.out _).mono ?_
        rintro e w2 ⟨rfl, hr2, hm2, ⟨u, v, hy2⟩, hd2⟩
        have hd2 := Did.ofDrewN hd2
        have hlow : ∀ k, ringX sb mb (y :: r) k → k < w.heap.size := fun k hk => HXL.out k (by rw [HNS.out]; exact ringX_right hk)
        have ho2 : ownS w2 w.heap.size _ (keysK (its xs)) := ownS.keepG HO.out (fun g hg => hd2.keep g (World.ownsRow.lt HO.out g hg).2 (fun e => by have h1 := hlow g e; have h2 := (World.ownsRow.lt HO.out g hg).1; omega))
        have y0 := hy2.cell 0 (.string (bs y.2.1)) rfl
        have HL := Lib.hid hlow; have HO2 := Lib.hid ho2; have HR2 := Lib.hid hr2; have HM2 := Lib.hid hm2; have HD2 := Lib.hid (HD.out.trans hd2)
        have HAX : Hid ((keysK (its xs)).length + 1 ≤ 4294967296) := by
          have h1 := HOK.out.len
          have h2 := HN.out
          rw [HNS.out] at h1
          simp [its, keysK] at h1 ⊢
          show _ ≤ _
          omega
        have HNE : Hid (roomK n m s (its ns) = (keysK (its (xs ++ [y])) ++ (roomK n m s (its r)).1, (roomK n m s (its r)).2)) := by
          show _ = _
          rw [HRM.out, show its (y :: r) = y.2 :: its r from rfl, hstep, its_append, keysK_append]
          simp [keysK, its]
        have HKS : Hid (keysK (its (xs ++ [y])) = keysK (its xs) ++ [y.2.1]) := by show _ = _; rw [its_append, keysK_append]; rfl
        have HSB : Hid (w.heap.size ≤ w2.heap.size) := HD2.out.size
        have HR3 : Hid (r.length < gk) := by have := HLE.out; simp at this; show _ < _; omega
        clear hyk hko hbd hd2 hlow ho2 hy2 hr2 hm2 hstep HO HR HM HD HRM
        generalize keysK (its xs) = acc at *
        go_wp2_with (at_builtin; refine wpList_appS (w0 := w2) rfl (.tmp 38) (.tmp 43) rfl w.heap.size w.heap.size _ acc y.2.1 rfl HO2.out (Below.refl _ _) (Nat.le_refl _) HSB.out rfl HAX.out ?_; intro v' w3 HO3 HB3 HK3)
        go_roundg r.length
        case measure => exact HR3.out
        case rel => exact ⟨xs ++ [y], r, by rw [HNS.out]; simp, rfl, HNE.out, by rw [HKS.out]; exact HO3.out, HR2.out.keep (HK3.out sb (HL.out sb (.inl rfl))) (fun k hk => HK3.out k (HL.out k (.inr (.inr (List.mem_cons_of_mem _ hk))))), HM2.out.keep (HK3.out mb (HL.out mb (.inr (.inl rfl)))), Did.thenBelow HD2.out HB3.out⟩
      · by_cases h2 : m < totK (its (y :: r)) + s
        · have hstep := roomK_step (n := n) (m := m) (s := s) (y := y.2) (r := its r) (.inr h2)
          have hd : decide ((n : Int) ≤ ((y :: r).length : Int)) = false := decide_eq_false (by omega)
          have hd2 : (m : Int) - (s : Int) < (totK (its (y :: r)) : Int) := by omega
          clear h1 h2
          generalize ((y :: r).length : Int) = len at *
          generalize (totK (its (y :: r)) : Int) = tot at *
          have hyk : y.2.1.length ≤ KL := HKL.out y (by rw [HNS.out]; simp)
          have hko : ∀ z ∈ [] ++ r, z.2.1 ≠ y.2.1 := by
            have h1 := HOK.out.nd
            rw [HNS.out, its_keys, List.map_append, List.nodup_append] at h1
            have h2 := h1.2.1
            rw [List.map_cons, List.nodup_cons] at h2
            intro z hz e
            exact h2.1 (List.mem_map.2 ⟨z, hz, e⟩)
          have hbd : y.2.2.1 + totK (its r) ≤ 4294967296 := by
            have h1 := HOK.out.tot
            rw [HNS.out, its_append, totK_append, totK_cons] at h1
            have := HN.out
            omega
          have HRV := Lib.hid (fun k => remove_any sb mb n m (totK (its r)) [] r y (wr.drewN k) (HR.out.keep rfl (fun _ _ => rfl)) (HM.out.keep rfl) hyk hko hbd)
          go_wp2_with fail
          go_quiet (fail)
          go_wp2_with fail
          clear hd hd2 hlen hlen2 s0 s1 s2 s3 s8 hw
          refine (HRV.out _).mono ?_
          rintro e w2 ⟨rfl, hr2, hm2, ⟨u, v, hy2⟩, hd2⟩
          have hd2 := Did.ofDrewN hd2
          have hlow : ∀ k, ringX sb mb (y :: r) k → k < w.heap.size := fun k hk => HXL.out k (by rw [HNS.out]; exact ringX_right hk)
          have ho2 : ownS w2 w.heap.size _ (keysK (its xs)) := ownS.keepG HO.out (fun g hg => hd2.keep g (World.ownsRow.lt HO.out g hg).2 (fun e => by have h1 := hlow g e; have h2 := (World.ownsRow.lt HO.out g hg).1; omega))
          have y0 := hy2.cell 0 (.string (bs y.2.1)) rfl
          have HL := Lib.hid hlow; have HO2 := Lib.hid ho2; have HR2 := Lib.hid hr2; have HM2 := Lib.hid hm2; have HD2 := Lib.hid (HD.out.trans hd2)
          have HAX : Hid ((keysK (its xs)).length + 1 ≤ 4294967296) := by
            have h1 := HOK.out.len
            have h2 := HN.out
            rw [HNS.out] at h1
            simp [its, keysK] at h1 ⊢
            show _ ≤ _
            omega
          have HNE : Hid (roomK n m s (its ns) = (keysK (its (xs ++ [y])) ++ (roomK n m s (its r)).1, (roomK n m s (its r)).2)) := by
            show _ = _
            rw [HRM.out, show its (y :: r) = y.2 :: its r from rfl, hstep, its_append, keysK_append]
            simp [keysK, its]
          have HKS : Hid (keysK (its (xs ++ [y])) = keysK (its xs) ++ [y.2.1]) := by show _ = _; rw [its_append, keysK_append]; rfl
          have HSB : Hid (w.heap.size ≤ w2.heap.size) := HD2.out.size
          have HR3 : Hid (r.length < gk) := by have := HLE.out; simp at this; show _ < _; omega
          clear hyk hko hbd hd2 hlow ho2 hy2 hr2 hm2 hstep HO HR HM HD HRM
          generalize keysK (its xs) = acc at *
          go_wp2_with (at_builtin; refine wpList_appS (w0 := w2) rfl (.tmp 38) (.tmp 43) rfl w.heap.size w.heap.size _ acc y.2.1 rfl HO2.out (Below.refl _ _) (Nat.le_refl _) HSB.out rfl HAX.out ?_; intro v' w3 HO3 HB3 HK3)
          go_roundg r.length
          case measure => exact HR3.out
          case rel => exact ⟨xs ++ [y], r, by rw [HNS.out]; simp, rfl, HNE.out, by rw [HKS.out]; exact HO3.out, HR2.out.keep (HK3.out sb (HL.out sb (.inl rfl))) (fun k hk => HK3.out k (HL.out k (.inr (.inr (List.mem_cons_of_mem _ hk))))), HM2.out.keep (HK3.out mb (HL.out mb (.inr (.inl rfl)))), Did.thenBelow HD2.out HB3.out⟩
        · have hx : roomK n m s (its ns) = (keysK (its xs), its (y :: r)) := by
            rw [HRM.out, roomK_done (l := its (y :: r)) (by rw [its_len]; omega) (by omega)]; simp
          have hd : decide ((n : Int) ≤ ((y :: r).length : Int)) = false := decide_eq_false (by omega)
          have hd2 : decide ((m : Int) - (s : Int) < (totK (its (y :: r)) : Int)) = false := decide_eq_false (by omega)
          have HX := Lib.hid hx
          clear h1 h2 hx
          generalize hz1 : ((y :: r).length : Int) = len at *
          clear hz1
          generalize (totK (its (y :: r)) : Int) = tot at *
          go_wp2_with fail
          go_quiet (fail)
          go_wp2_with fail
          go_ret
          exact ⟨_, xs, y :: r, rfl, HNS.out, HX.out, HO.out.heap rfl, HR.out.keep rfl (fun _ _ => rfl), HM.out.keep rfl, ⟨HD.out.os, HD.out.tape, HD.out.output, HD.out.size, HD.out.keep, HD.out.new⟩⟩
end Go.Proofs.YtopgeclecpaecaaGreatDoor.BT
