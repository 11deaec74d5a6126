/- The keys that go: the document's. -/
import Derived.Test.YtnpiaifkeddjeaaGreatDoorKeyC
import Derived.Test.YtnpiaifkeddjeaaGreatDoorAppSS
import Derived.Test.YtnpiaifkeddjeaaGreatDoorKFieldsG
import Derived.Test.YtnpiaifkeddjeaaGreatDoorKResD
import Derived.Test.YtnpiaifkeddjeaaGreatDoorMeet
namespace Go.Proofs.YtnpiaifkeddjeaaGreatDoor
open Go.RowKit Go.Shelf

theorem ownS.stayK {w w' : World} {base : Nat} {v : Value} {L : List (List UInt8)} (h : ownS w base v L) (hk : ∀ g, v.ownBlock = some g → w'.heap[g]? = w.heap[g]?) : ownS w' base v L := by
  refine ⟨h.1, ?_⟩
  rcases h.2 with hn | ⟨g, cap, cur, hv, hbg, hg, r⟩
  · exact .inl hn
  · exact .inr ⟨g, cap, cur, hv, hbg, by rw [hk g (by rw [hv]; rfl)]; exact hg, r⟩
theorem own_is {g n c k : Nat} (h : (Value.slice (some ⟨g, 0, none⟩) n c).ownBlock = some k) : g = k := by simpa [Value.ownBlock] using h
theorem ownS_litK {w : World} {base : Nat} (x : List UInt8) (hb : base ≤ w.heap.size) : ownS (w.alloc (.cells #[.string (bs x)] 9)) base (.slice (some ⟨w.heap.size, 0, none⟩) 1 1) [x] :=
  World.ownsRow_lit (size := 1) w _ 1 hb (by decide) (by simp)
theorem stepD_take (u : Ur) (R : List (List UInt8)) {k : Nat} (h : k < R.length) : (R.take (k + 1)).foldl (stepD u) [keyU u] = stepD u ((R.take k).foldl (stepD u) [keyU u]) R[k] := by
  rw [List.take_succ_eq_append_getElem h, List.foldl_append]; rfl
theorem stepD_len (u : Ur) (a : List (List UInt8)) (r : List UInt8) : (stepD u a r).length ≤ a.length + 1 := by
  unfold stepD stepK
  split
  · split
    · exact (putS_len _ _).2
    · omega
  · omega
theorem foldD_len (u : Ur) : ∀ (R a : List (List UInt8)), (R.foldl (stepD u) a).length ≤ a.length + R.length
  | [], _ => by simp
  | r :: t, a => by
    have h1 := foldD_len u t (stepD u a r)
    have h2 := stepD_len u a r
    simp only [List.foldl_cons, List.length_cons]
    omega
/-- what stands while the document puts the keys together -/
structure DK (w0 : World) (U : Array Value) (ob : Nat) (OW : Array Value) (vN : Value) (N : List (List UInt8)) (w : World) (o : Value) (acc : List (List UInt8)) : Prop where
  nr : NR w0 w vN N (.slice none 0 0) [] o acc
  hu : ubk w w0.heap.size U
  ou : o.ownBlock ≠ some w0.heap.size
  ho : ubk w ob OW
  oo : o.ownBlock ≠ some ob
section
variable {w0 w w' : World} {ob : Nat} {U OW : Array Value} {vN o : Value} {N acc : List (List UInt8)}
theorem DK.call (h : DK w0 U ob OW vN N w o acc) (hb : Below w.heap.size w w') : DK w0 U ob OW vN N w' o acc :=
  ⟨h.nr.call hb, h.hu.below hb, h.ou, h.ho.below hb, h.oo⟩
/-- the blocks that an append must leave -/
def keepsD (b0 ob g : Nat) : Prop := g = b0 ∨ g = ob
theorem DK.guard (h : DK w0 U ob OW vN N w o acc) : ∀ g, keepsD w0.heap.size ob g → o.ownBlock ≠ some g ∧ g < w.heap.size := by
  rintro g (rfl | rfl)
  · exact ⟨h.ou, h.hu.lt⟩
  · exact ⟨h.oo, h.ho.lt⟩
theorem DK.put {o' : Value} {acc' : List (List UInt8)} (h : DK w0 U ob OW vN N w o acc) (hn : NR w0 w' vN N (.slice none 0 0) [] o' acc') (hG : ∀ k, keepsD w0.heap.size ob k → o'.ownBlock ≠ some k) (hK : ∀ k, keepsD w0.heap.size ob k → w'.heap[k]? = w.heap[k]?) :
    DK w0 U ob OW vN N w' o' acc' :=
  ⟨hn, h.hu.keep (hK _ (.inl rfl)), hG _ (.inl rfl), h.ho.keep (hK ob (.inr rfl)), hG ob (.inr rfl)⟩
end
set_option maxHeartbeats 16000000 in
set_option maxRecDepth 100000 in
theorem rgone_any (u : Ur) (st mi : Int) (re bo : ByteArray) (v : Value) (l : List Fld) (w : World) (hu : u.okW) (hp : u.pa.length ≤ 10000000) (hv : FL w v l) (hs : KfB l) :
    Calls Tryz.prog 17 #[.agg #[.string (bs u.sc), .string (bs u.ho), .int .i64 u.po, .string (bs u.pa), .string (bs u.qu), .bool u.hq], .agg #[.int .i64 st, .string re, .int .i64 mi, v, .string bo]] w (RetS w (goneK u st l)) := by
  obtain ⟨A, c, rfl⟩ := hv.form
  have HCK := Lib.hid (fun W => ucheck_any u W hu)
  have HNU := Lib.hid (fun W => unormal_any u W hu hp)
  have HKU := Lib.hid (fun W => rkey_any u W hu hp)
  have HVA := Lib.hid (fun n W (h : FL W (.slice A l.length c) l) (hn : n.length ≤ 100) => rvalues_any (.slice A l.length c) l n W h hs.small (by have := hs.1; omega) (by omega))
  have HVL : Hid (∀ W, FL W (.slice A l.length c) l → Calls Tryz.prog 32 #[.slice A l.length c, .string ⟨#[108, 111, 99, 97, 116, 105, 111, 110]⟩] W (RetS W (valsL l locN))) := fun W h => HVA.out locN W h (by decide)
  have HVC : Hid (∀ W, FL W (.slice A l.length c) l → Calls Tryz.prog 32 #[.slice A l.length c, .string ⟨#[99, 111, 110, 116, 101, 110, 116, 45, 108, 111, 99, 97, 116, 105, 111, 110]⟩] W (RetS W (valsL l cloN))) := fun W h => HVA.out cloN W h (by decide)
  have HRF := Lib.hid (fun r W => udref_any u r W hu)
  have HNX := Lib.hid (fun r W => unormal_any (refU u r).1 W (ref_okW u r) (ref_pa u r))
  have HKX := Lib.hid (fun r W => rkey_any (refU u r).1 W (ref_okW u r) (ref_pa u r))
  have HXL := Lib.hid (fun r => key_short (refU u r).1)
  have HG : Hid (goneK u st l = if u.check = 0 ∧ 200 ≤ st ∧ st ≤ 399 then keysK u (refsK l) else []) := rfl
  have HKY : Hid (keysK u (refsK l) = (valsL l locN ++ valsL l cloN).foldl (stepD u) [keyU u]) := keys_eq u _
  have HSR := Lib.hid (fun (R : List (List UInt8)) (k : Nat) (h : k < R.length) => stepD_take u R h)
  have HFL2 := Lib.hid (fun R => foldD_len u R [keyU u])
  have HSX : Hid (∀ a r, stepD u a r = if (refU u r).2 = 0 then (if ((refU u r).1.normal.sc, (refU u r).1.normal.ho, (refU u r).1.normal.po) = (u.normal.sc, u.normal.ho, u.normal.po) then putS a (keyU (refU u r).1) else a) else a) := fun a r => rfl
  have HL1 : Hid ((valsL l locN).length ≤ 1000) := (hs.vals locN).1
  have HL2 : Hid ((valsL l cloN).length ≤ 1000) := (hs.vals cloN).1
  rw [HG.out, HKY.out]
  generalize valsL l locN = N1 at *
  generalize valsL l cloN = N2 at *
  generalize hsd : stepD u = sd at *
  generalize keyU u = ku at *
  generalize hck0 : u.check = ck at *
  generalize u.normal = un at *
  have HFL := Lib.hid hv
  clear hu hp hs hv HG HVA HKY hsd hck0
  generalize hrr : refU u = rf at *
  clear hrr
  obtain ⟨sc, ho, po, pa, qu, hq⟩ := u
  obtain ⟨osc, oho, opo, opa, oqu, ohq⟩ := un
  simp only at HCK HNU HKU HRF HSX ⊢
  by_cases hck : ck = 0
  · subst hck
    have hkb : ((0 : Int) != 0) = false := rfl
    by_cases h200 : 200 ≤ st
    · have g1 : decide (st < 200) = false := decide_eq_false (by omega)
      by_cases h399 : st ≤ 399
      · have g2 : decide (399 < st) = false := decide_eq_false (by omega)
        rw [if_pos ⟨rfl, h200, h399⟩]
        clear h200 h399
        have hal : Below w.heap.size w (w.alloc (.cells #[.string (bs sc), .string (bs ho), .int .i64 po, .string (bs pa), .string (bs qu), .bool hq] 23)) := (Below.refl _ _).alloc (Nat.le_refl _) _
        have HB1 := Lib.hid hal
        have hn := ubk.new w #[.string (bs sc), .string (bs ho), .int .i64 po, .string (bs pa), .string (bs qu), .bool hq] 23
        have HU1 := Lib.hid hn; clear hn
        clear hal
        have hal : Below (w.alloc (.cells #[.string (bs sc), .string (bs ho), .int .i64 po, .string (bs pa), .string (bs qu), .bool hq] 23)).heap.size (w.alloc (.cells #[.string (bs sc), .string (bs ho), .int .i64 po, .string (bs pa), .string (bs qu), .bool hq] 23)) ((w.alloc (.cells #[.string (bs sc), .string (bs ho), .int .i64 po, .string (bs pa), .string (bs qu), .bool hq] 23)).alloc (.cells #[.int .i64 st, .string re, .int .i64 mi, .slice A l.length c, .string bo] 31)) := (Below.refl _ _).alloc (Nat.le_refl _) _
        have HB2 := Lib.hid (HB1.out.trans (hal.mono HB1.out.size))
        have HU2 := Lib.hid (HU1.out.alloc (.cells #[.int .i64 st, .string re, .int .i64 mi, .slice A l.length c, .string bo] 31))
        have hn := ubk.new (w.alloc (.cells #[.string (bs sc), .string (bs ho), .int .i64 po, .string (bs pa), .string (bs qu), .bool hq] 23)) #[.int .i64 st, .string re, .int .i64 mi, .slice A l.length c, .string bo] 31
        rw [World.size_alloc] at hn
        have HP2 := Lib.hid hn; clear hn
        clear hal HB1 HU1
        go_enter Tryz.func17, Tryz.ntmps17
        have uc0 := HU2.out.cell 0 (.string (bs sc)) rfl
        have uc1 := HU2.out.cell 1 (.string (bs ho)) rfl
        have uc2 := HU2.out.cell 2 (.int .i64 po) rfl
        have uc3 := HU2.out.cell 3 (.string (bs pa)) rfl
        have uc4 := HU2.out.cell 4 (.string (bs qu)) rfl
        have uc5 := HU2.out.cell 5 (.bool hq) rfl
        go_wp2_with fail
        refine (HCK.out _).mono ?_
        rintro r w3 ⟨rfl, hb⟩
        have HB3 := Lib.hid (HB2.out.trans (hb.mono HB2.out.size))
        have HU3 := Lib.hid (HU2.out.below hb)
        have HP3 := Lib.hid (HP2.out.below hb)
        clear hb HB2 HU2 HP2
        clear uc0 uc1 uc2 uc3 uc4 uc5
        have pc0 := HP3.out.cell 0 (.int .i64 st) rfl
        have pc1 := HP3.out.cell 1 (.string re) rfl
        have pc2 := HP3.out.cell 2 (.int .i64 mi) rfl
        have pc3 := HP3.out.cell 3 (.slice A l.length c) rfl
        have pc4 := HP3.out.cell 4 (.string bo) rfl
        have uc0 := HU3.out.cell 0 (.string (bs sc)) rfl
        have uc1 := HU3.out.cell 1 (.string (bs ho)) rfl
        have uc2 := HU3.out.cell 2 (.int .i64 po) rfl
        have uc3 := HU3.out.cell 3 (.string (bs pa)) rfl
        have uc4 := HU3.out.cell 4 (.string (bs qu)) rfl
        have uc5 := HU3.out.cell 5 (.bool hq) rfl
        go_wp2_with fail
        refine (HNU.out _).mono ?_
        rintro r w4 ⟨rfl, hb⟩
        have HB4 := Lib.hid (HB3.out.trans (hb.mono HB3.out.size))
        have HU4 := Lib.hid (HU3.out.below hb)
        have HP4 := Lib.hid (HP3.out.below hb)
        clear hb HB3 HU3 HP3
        clear uc0 uc1 uc2 uc3 uc4 uc5
        clear pc0 pc1 pc2 pc3 pc4
        have hal : Below w4.heap.size w4 (w4.alloc (.cells #[.string (bs osc), .string (bs oho), .int .i64 opo, .string (bs opa), .string (bs oqu), .bool ohq] 23)) := (Below.refl _ _).alloc (Nat.le_refl _) _
        have HB5 := Lib.hid (HB4.out.trans (hal.mono HB4.out.size))
        have HU5 := Lib.hid (HU4.out.alloc (.cells #[.string (bs osc), .string (bs oho), .int .i64 opo, .string (bs opa), .string (bs oqu), .bool ohq] 23))
        have HP5 := Lib.hid (HP4.out.alloc (.cells #[.string (bs osc), .string (bs oho), .int .i64 opo, .string (bs opa), .string (bs oqu), .bool ohq] 23))
        have hn := ubk.new w4 #[.string (bs osc), .string (bs oho), .int .i64 opo, .string (bs opa), .string (bs oqu), .bool ohq] 23
        have HO5 := Lib.hid hn; clear hn
        clear hal HB4 HU4 HP4
        have uc0 := HU5.out.cell 0 (.string (bs sc)) rfl
        have uc1 := HU5.out.cell 1 (.string (bs ho)) rfl
        have uc2 := HU5.out.cell 2 (.int .i64 po) rfl
        have uc3 := HU5.out.cell 3 (.string (bs pa)) rfl
        have uc4 := HU5.out.cell 4 (.string (bs qu)) rfl
        have uc5 := HU5.out.cell 5 (.bool hq) rfl
        go_wp2_with fail
        refine (HKU.out _).mono ?_
        rintro r w6 ⟨rfl, hb⟩
        have HB6 := Lib.hid (HB5.out.trans (hb.mono HB5.out.size))
        have HU6 := Lib.hid (HU5.out.below hb)
        have HP6 := Lib.hid (HP5.out.below hb)
        have HO6 := Lib.hid (HO5.out.below hb)
        clear hb HB5 HU5 HP5 HO5
        clear uc0 uc1 uc2 uc3 uc4 uc5
        have pc0 := HP6.out.cell 0 (.int .i64 st) rfl
        have pc1 := HP6.out.cell 1 (.string re) rfl
        have pc2 := HP6.out.cell 2 (.int .i64 mi) rfl
        have pc3 := HP6.out.cell 3 (.slice A l.length c) rfl
        have pc4 := HP6.out.cell 4 (.string bo) rfl
        have hlit := ownS_litK (w := w6) (base := w.heap.size) ku HB6.out.size
        have hal : Below w6.heap.size w6 (w6.alloc (.cells #[.string (bs ku)] 9)) := (Below.refl _ _).alloc (Nat.le_refl _) _
        have HLI := Lib.hid hlit; have HBl := Lib.hid (HB6.out.trans (hal.mono HB6.out.size)); have HUl := Lib.hid (HU6.out.below hal); have HPl := Lib.hid (HP6.out.below hal); have HOl := Lib.hid (HO6.out.below hal)
        have hkz := HB6.out.size
        have hoz : w4.heap.size ≠ w6.heap.size := by have := HO6.out.lt; omega
        have huz : w.heap.size ≠ w6.heap.size := by have := HU6.out.lt; omega
        have HOZ := Lib.hid hoz; have HUZ := Lib.hid huz; clear hlit hal hkz hoz huz HB6 HU6 HP6 HO6
        have HOL : Hid (w4.heap.size < (w6.alloc (.cells #[.string (bs ku)] 9)).heap.size) := HOl.out.lt
        have HUL : Hid (w.heap.size < (w6.alloc (.cells #[.string (bs ku)] 9)).heap.size) := HUl.out.lt
        have HBW : Hid (w.heap.size ≤ (w6.alloc (.cells #[.string (bs ku)] 9)).heap.size) := HBl.out.size
        have hzl : w6.heap.size < (w6.alloc (.cells #[.string (bs ku)] 9)).heap.size := by rw [World.size_alloc]; omega
        have HZL := Lib.hid hzl; clear hzl
        clear pc0 pc1 pc2 pc3 pc4
        have pc0 := HPl.out.cell 0 (.int .i64 st) rfl
        have pc1 := HPl.out.cell 1 (.string re) rfl
        have pc2 := HPl.out.cell 2 (.int .i64 mi) rfl
        have pc3 := HPl.out.cell 3 (.slice A l.length c) rfl
        have pc4 := HPl.out.cell 4 (.string bo) rfl
        go_wp2_with fail
        generalize w6.heap.size = lb at *
        generalize (w6.alloc (.cells #[.string (bs ku)] 9)) = wl at *
        generalize w4.heap.size = ob at *
        refine (HVL.out _ (HFL.out.bel HBl.out)).mono ?_
        rintro r w5 ⟨v5, rfl, ho5, hb⟩
        have HB5 := Lib.hid (HBl.out.trans (hb.mono HBl.out.size)); have HU5 := Lib.hid (HUl.out.below hb); have HP5 := Lib.hid (HPl.out.below hb); have HO5 := Lib.hid (HOl.out.below hb); have HV5 := Lib.hid ho5; have HI5 := Lib.hid (HLI.out.bel hb); have HZ5 := Lib.hid hb.size
        clear hb ho5 HBl HUl HPl HOl HLI pc0 pc1 pc2 pc3 pc4
        have pc0 := HP5.out.cell 0 (.int .i64 st) rfl
        have pc1 := HP5.out.cell 1 (.string re) rfl
        have pc2 := HP5.out.cell 2 (.int .i64 mi) rfl
        have pc3 := HP5.out.cell 3 (.slice A l.length c) rfl
        have pc4 := HP5.out.cell 4 (.string bo) rfl
        go_wp2_with (first
          | (go_at_call 32; refine (HVC.out _ (HFL.out.bel HB5.out)).mono ?_; rintro r w6 ⟨v6, rfl, ho6, hb⟩; have HB6 := Lib.hid (HB5.out.trans (hb.mono HB5.out.size)); have HU6 := Lib.hid (HU5.out.below hb); have HO6 := Lib.hid (HO5.out.below hb); have HV6 := Lib.hid (HV5.out.bel hb); have HS6 := Lib.hid ho6.sl; have HI6 := Lib.hid (HI5.out.bel hb); have HZ6 := Lib.hid (Nat.le_trans HZ5.out hb.size); clear hb ho6 HB5 HU5 HP5 HO5 HV5 HI5 HZ5 pc0 pc1 pc2 pc3 pc4)
          | (at_builtin; refine wpList_appSS rfl (.tmp 35) (.tmp 38) rfl wl.heap.size w.heap.size _ _ N1 N2 rfl HV6.out HB6.out HBW.out HZ6.out rfl HS6.out (by have h1 := HL1.out; have h2 := HL2.out; omega) ?_; intro v7 w7 HV7 HB7 HK7 HZ7))
        obtain ⟨N, hN⟩ : ∃ N, N = N1 ++ N2 := ⟨_, rfl⟩
        have HNL : Hid (N.length ≤ 2000) := by show _ ≤ _; rw [hN, List.length_append]; have h1 := HL1.out; have h2 := HL2.out; omega
        rw [← hN] at HV7 ⊢
        have HNE := Lib.hid hN
        clear hN HV6 HS6
        have hnr : NR w w7 v7 N (.slice none 0 0) [] (.slice (some ⟨lb, 0, none⟩) 1 1) [ku] :=
          ⟨HI6.out.stayK (fun g hg => HK7.out g (by rw [← own_is hg]; exact HZL.out)), fun g hg => ⟨fun e => by have h := own_is e; have h1 := (World.ownsRow.lt HV7.out g hg).1; have := HZL.out; omega, (World.ownsRow.lt HV7.out g hg).2⟩, fun g hg => by simp [Value.ownBlock] at hg, HV7.out.sl, SL_nil _, HB7.out⟩
        have hDK : DK w #[.string (bs sc), .string (bs ho), .int .i64 po, .string (bs pa), .string (bs qu), .bool hq] ob #[.string (bs osc), .string (bs oho), .int .i64 opo, .string (bs opa), .string (bs oqu), .bool ohq] v7 N w7 (.slice (some ⟨lb, 0, none⟩) 1 1) [ku] :=
          ⟨hnr, HU6.out.keep (HK7.out _ HUL.out), fun e => HUZ.out (own_is e).symm, HO6.out.keep (HK7.out _ HOL.out), fun e => HOZ.out (own_is e).symm⟩
        obtain ⟨A2, c2, rfl⟩ := HV7.out.form
        have HDK := Lib.hid hDK
        clear hDK hnr HV7 HB7 HK7 HZ7 HB6 HU6 HO6 HI6 HZ6 HZL HOZ HUZ HBW HUL HOL HL1 HL2
        go_wp2_with fail
        go_loopw [6, 8] (fun o i wr => ∃ k : Nat, k ≤ N.length ∧ i = .int .i64 k ∧ DK w #[.string (bs sc), .string (bs ho), .int .i64 po, .string (bs pa), .string (bs qu), .bool hq] ob #[.string (bs osc), .string (bs oho), .int .i64 opo, .string (bs opa), .string (bs oqu), .bool ohq] (.slice A2 N.length c2) N wr o ((N.take k).foldl sd [ku])) (fun _ i _ => N.length - (intOf i).toNat)
        case atStart => exact ⟨0, Nat.zero_le _, rfl, HDK.out⟩
        case round =>
          obtain ⟨k, hk, rfl, hdk⟩ := hrel
          have HK := Lib.hid hdk
          clear hdk HDK
          by_cases hlt : k < N.length
          · obtain ⟨b, off, rfl, hbb, hcn⟩ := HK.out.nr.sN.get k hlt
            have HSK := Lib.hid (HSR.out N k hlt)
            have HRX := Lib.hid (fun W => HRF.out N[k] W)
            have HNN := Lib.hid (fun W => HNX.out N[k] W)
            have HKK := Lib.hid (fun W => HKX.out N[k] W)
            have HKL := Lib.hid (HXL.out N[k])
            have HSS := Lib.hid (HSX.out ((N.take k).foldl sd [ku]) N[k])
            have HQL : Hid (((N.take k).foldl sd [ku]).length ≤ 3000) := by
              have h1 := HFL2.out (N.take k)
              have h2 : (N.take k).length ≤ N.length := List.length_take_le' _ _
              have h3 := HNL.out
              show _ ≤ _
              simp only [List.length_cons, List.length_nil] at h1
              omega
            have hNo := HNL.out
            generalize sd ((N.take k).foldl sd [ku]) N[k] = nxt at *
            generalize (N.take k).foldl sd [ku] = acc at *
            generalize keyU (rf N[k]).1 = kx at *
            generalize (rf N[k]).1.normal = xn at *
            generalize rf N[k] = XX at *
            generalize N[k] = rr at *
            obtain ⟨x, qe⟩ := XX
            obtain ⟨xsc, xho, xpo, xpa, xqu, xhq⟩ := x
            obtain ⟨nsc, nho, npo, npa, nqu, nhq⟩ := xn
            unfold RetU at HRX
            simp only at HRX HNN HKK HSS
            obtain ⟨A0, c0, rfl⟩ := HK.out.nr.own.form
            have hki : (k : Int) < (N.length : Int) := by omega
            go_wp2_with fail
            apply wp_meetG (fun g10 W => ubk W g10 #[.string (bs xsc), .string (bs xho), .int .i64 xpo, .string (bs xpa), .string (bs xqu), .bool xhq] ∧ Below wr.heap.size wr W)
            case h1 =>
              refine wp_region_growS (.one 0 false (.one 1 false (.one 2 false (.one 3 false (.one 4 false (.two 5 9 (.one 6 false (.one 7 false (.one 8 false (.one 9 true (.one 10 true (.one 11 false .done)))))) (.one 5 true (.one 6 false (.one 7 false (.one 8 false (.one 10 true (.one 11 false .done))))))))))))
                (fun W => Below wr.heap.size wr W) (by kernel_rfl) (by kernel_rfl) rfl (by kernel_rfl) (by kernel_rfl) ((Below.refl _ _).drew) (fun ops hops => ?_)
              simp only [GT.ins, List.getD_cons_zero, List.getD_cons_succ]
              clear hops
              iterate 5
                refine growS_take (by rfl) ?_
                apply Exists.intro
                refine ⟨fun w' hE => ?_, ?_⟩
                · have yc0 := (HK.out.hu.below hE).cell 0 (.string (bs sc)) rfl; have yc1 := (HK.out.hu.below hE).cell 1 (.string (bs ho)) rfl; have yc2 := (HK.out.hu.below hE).cell 2 (.int .i64 po) rfl; have yc3 := (HK.out.hu.below hE).cell 3 (.string (bs pa)) rfl; have yc4 := (HK.out.hu.below hE).cell 4 (.string (bs qu)) rfl; have yc5 := (HK.out.hu.below hE).cell 5 (.bool hq) rfl; have q1 := (hE.cell (p := ⟨b, off + k, none⟩) hbb).trans hcn
                  go_simp
                  try with_reducible rfl
                simp only [Act.put, List.setIfInBounds_toArray, List.set_cons_zero, List.set_cons_succ]
              refine growS_two (by rfl) (by rfl) (fun K hK => ?_) (fun K hK => ?_)
              · go_simp
                refine (HRX.out _).mono ?_
                rintro r x1 ⟨rfl, hb⟩
                have hz := ((Below.refl _ _).drew : Below wr.heap.size wr wr.drew).trans (hb.mono ((Below.refl _ _).drew : Below wr.heap.size wr wr.drew).size)
                refine hK.out _ _ hz ?_
                have HX1 := Lib.hid hz
                clear hK K hb hz
                iterate 3
                  refine growS_take (by rfl) ?_
                  apply Exists.intro
                  refine ⟨fun w' hE => ?_, ?_⟩
                  · skip
                    go_simp
                    try with_reducible rfl
                  simp only [Act.put, List.setIfInBounds_toArray, List.set_cons_zero, List.set_cons_succ]
                refine growS_call (by rfl) (fun K hK => ?_)
                go_simp
                have hd1 : Below wr.heap.size wr (x1.alloc (.cells #[.string ⟨#[]⟩, .string ⟨#[]⟩, .int .i64 0, .string ⟨#[]⟩, .string ⟨#[]⟩, .bool false] 23)) := HX1.out.trans (((Below.refl _ _).alloc (Nat.le_refl _) _).mono HX1.out.size)
                have hz1 := ubk.new x1 #[.string ⟨#[]⟩, .string ⟨#[]⟩, .int .i64 0, .string ⟨#[]⟩, .string ⟨#[]⟩, .bool false] 23
                have hgl := HX1.out.size
                refine hK.out _ _ hd1 ?_
                have HX2 := Lib.hid hd1; have HG2 := Lib.hid hz1; have HGL := Lib.hid hgl; clear hK K hd1 hz1 hgl
                generalize (x1.alloc (.cells #[.string ⟨#[]⟩, .string ⟨#[]⟩, .int .i64 0, .string ⟨#[]⟩, .string ⟨#[]⟩, .bool false] 23)) = x2 at *
                generalize x1.heap.size = g10 at HG2 HGL ⊢
                have nc0 := HG2.out.cell 0 (.string ⟨#[]⟩) rfl
                have nc1 := HG2.out.cell 1 (.string ⟨#[]⟩) rfl
                have nc2 := HG2.out.cell 2 (.int .i64 0) rfl
                have nc3 := HG2.out.cell 3 (.string ⟨#[]⟩) rfl
                have nc4 := HG2.out.cell 4 (.string ⟨#[]⟩) rfl
                have nc5 := HG2.out.cell 5 (.bool false) rfl
                have nf0 := HG2.out.free 0
                have nf1 := HG2.out.free 1
                have nf2 := HG2.out.free 2
                have nf3 := HG2.out.free 3
                have nf4 := HG2.out.free 4
                have nf5 := HG2.out.free 5
                have hq0 := ((((((HG2.out.set 0 (.string (bs xsc))).set 1 (.string (bs xho))).set 2 (.int .i64 xpo)).set 3 (.string (bs xpa))).set 4 (.string (bs xqu))).set 5 (.bool xhq))
                simp only [List.setIfInBounds_toArray, List.set_cons_zero, List.set_cons_succ] at hq0
                have HQ0 := Lib.hid hq0; clear hq0
                have hE9 := ((((((HX2.out.setCell (p := ⟨g10, 0, none⟩) HGL.out (.string (bs xsc))).setCell (p := ⟨g10, 1, none⟩) HGL.out (.string (bs xho))).setCell (p := ⟨g10, 2, none⟩) HGL.out (.int .i64 xpo)).setCell (p := ⟨g10, 3, none⟩) HGL.out (.string (bs xpa))).setCell (p := ⟨g10, 4, none⟩) HGL.out (.string (bs xqu))).setCell (p := ⟨g10, 5, none⟩) HGL.out (.bool xhq))
                have HE9 := Lib.hid hE9; clear hE9
                refine growS_call (by rfl) (fun K hK => ?_)
                go_simp
                refine hK.out _ _ HE9.out ?_
                clear hK K
                iterate 1
                  refine growS_take (by rfl) ?_
                  apply Exists.intro
                  refine ⟨fun w' hE => ?_, ?_⟩
                  · skip
                    go_simp
                    try with_reducible rfl
                  simp only [Act.put, List.setIfInBounds_toArray, List.set_cons_zero, List.set_cons_succ]
                refine growS_done (NoPanic.normal ?_)
                exact ⟨g10, rfl, rfl, HQ0.out, HE9.out⟩
              · go_simp
                have hd1 : Below wr.heap.size wr (wr.alloc (.cells #[.string ⟨#[]⟩, .string ⟨#[]⟩, .int .i64 0, .string ⟨#[]⟩, .string ⟨#[]⟩, .bool false] 23)).drew := ((Below.refl _ _).alloc (Nat.le_refl _) _).drew
                have hz1 := (ubk.new wr #[.string ⟨#[]⟩, .string ⟨#[]⟩, .int .i64 0, .string ⟨#[]⟩, .string ⟨#[]⟩, .bool false] 23).below (drewU (wr.alloc (.cells #[.string ⟨#[]⟩, .string ⟨#[]⟩, .int .i64 0, .string ⟨#[]⟩, .string ⟨#[]⟩, .bool false] 23)))
                refine hK.out _ _ hd1 ?_
                have HX3 := Lib.hid hd1; have HG3 := Lib.hid hz1; clear hK K hd1 hz1
                generalize (wr.alloc (.cells #[.string ⟨#[]⟩, .string ⟨#[]⟩, .int .i64 0, .string ⟨#[]⟩, .string ⟨#[]⟩, .bool false] 23)).drew = x3 at *
                refine growS_call (by rfl) (fun K hK => ?_)
                go_simp
                refine (HRX.out _).mono ?_
                rintro r x4 ⟨rfl, hb⟩
                have hz := HX3.out.trans (hb.mono HX3.out.size)
                refine hK.out _ _ hz ?_
                have HX4 := Lib.hid hz
                have HG4 := Lib.hid (HG3.out.below hb)
                clear hK K hb hz
                iterate 3
                  refine growS_take (by rfl) ?_
                  apply Exists.intro
                  refine ⟨fun w' hE => ?_, ?_⟩
                  · skip
                    go_simp
                    try with_reducible rfl
                  simp only [Act.put, List.setIfInBounds_toArray, List.set_cons_zero, List.set_cons_succ]
                generalize hgg : wr.heap.size = g10 at *
                clear hgg
                have nc0 := HG4.out.cell 0 (.string ⟨#[]⟩) rfl
                have nc1 := HG4.out.cell 1 (.string ⟨#[]⟩) rfl
                have nc2 := HG4.out.cell 2 (.int .i64 0) rfl
                have nc3 := HG4.out.cell 3 (.string ⟨#[]⟩) rfl
                have nc4 := HG4.out.cell 4 (.string ⟨#[]⟩) rfl
                have nc5 := HG4.out.cell 5 (.bool false) rfl
                have nf0 := HG4.out.free 0
                have nf1 := HG4.out.free 1
                have nf2 := HG4.out.free 2
                have nf3 := HG4.out.free 3
                have nf4 := HG4.out.free 4
                have nf5 := HG4.out.free 5
                have hq0 := ((((((HG4.out.set 0 (.string (bs xsc))).set 1 (.string (bs xho))).set 2 (.int .i64 xpo)).set 3 (.string (bs xpa))).set 4 (.string (bs xqu))).set 5 (.bool xhq))
                simp only [List.setIfInBounds_toArray, List.set_cons_zero, List.set_cons_succ] at hq0
                have HQ0 := Lib.hid hq0; clear hq0
                have hE9 := ((((((HX4.out.setCell (p := ⟨g10, 0, none⟩) (Nat.le_refl _) (.string (bs xsc))).setCell (p := ⟨g10, 1, none⟩) (Nat.le_refl _) (.string (bs xho))).setCell (p := ⟨g10, 2, none⟩) (Nat.le_refl _) (.int .i64 xpo)).setCell (p := ⟨g10, 3, none⟩) (Nat.le_refl _) (.string (bs xpa))).setCell (p := ⟨g10, 4, none⟩) (Nat.le_refl _) (.string (bs xqu))).setCell (p := ⟨g10, 5, none⟩) (Nat.le_refl _) (.bool xhq))
                have HE9 := Lib.hid hE9; clear hE9
                refine growS_call (by rfl) (fun K hK => ?_)
                go_simp
                refine hK.out _ _ HE9.out ?_
                clear hK K
                iterate 1
                  refine growS_take (by rfl) ?_
                  apply Exists.intro
                  refine ⟨fun w' hE => ?_, ?_⟩
                  · skip
                    go_simp
                    try with_reducible rfl
                  simp only [Act.put, List.setIfInBounds_toArray, List.set_cons_zero, List.set_cons_succ]
                refine growS_done (NoPanic.normal ?_)
                exact ⟨g10, rfl, rfl, HQ0.out, HE9.out⟩
            case h2 =>
            rintro gV wV ⟨hv, hz⟩
            have HXV := Lib.hid hv; have HKV := Lib.hid (HK.out.call hz)
            clear hz hv HK hcn hbb
            have xc0 := HXV.out.cell 0 (.string (bs xsc)) rfl
            have xc1 := HXV.out.cell 1 (.string (bs xho)) rfl
            have xc2 := HXV.out.cell 2 (.int .i64 xpo) rfl
            have xc3 := HXV.out.cell 3 (.string (bs xpa)) rfl
            have xc4 := HXV.out.cell 4 (.string (bs xqu)) rfl
            have xc5 := HXV.out.cell 5 (.bool xhq) rfl
            go_wp2_with fail
            refine (HNN.out _).mono ?_
            rintro r w8 ⟨rfl, hb⟩
            have hal : Below w8.heap.size w8 (w8.alloc (.cells #[.string (bs nsc), .string (bs nho), .int .i64 npo, .string (bs npa), .string (bs nqu), .bool nhq] 23)) := (Below.refl _ _).alloc (Nat.le_refl _) _
            have hnb := ubk.new w8 #[.string (bs nsc), .string (bs nho), .int .i64 npo, .string (bs npa), .string (bs nqu), .bool nhq] 23
            have HK8 := Lib.hid ((HKV.out.call hb).call hal); have HX8 := Lib.hid ((HXV.out.below hb).below hal); have HN8 := Lib.hid hnb
            clear hb hal hnb HKV HXV xc0 xc1 xc2 xc3 xc4 xc5
            have nc0 := HN8.out.cell 0 (.string (bs nsc)) rfl
            have nc1 := HN8.out.cell 1 (.string (bs nho)) rfl
            have nc2 := HN8.out.cell 2 (.int .i64 npo) rfl
            have nc3 := HN8.out.cell 3 (.string (bs npa)) rfl
            have nc4 := HN8.out.cell 4 (.string (bs nqu)) rfl
            have nc5 := HN8.out.cell 5 (.bool nhq) rfl
            have oc0 := HK8.out.ho.cell 0 (.string (bs osc)) rfl
            have oc1 := HK8.out.ho.cell 1 (.string (bs oho)) rfl
            have oc2 := HK8.out.ho.cell 2 (.int .i64 opo) rfl
            have oc3 := HK8.out.ho.cell 3 (.string (bs opa)) rfl
            have oc4 := HK8.out.ho.cell 4 (.string (bs oqu)) rfl
            have oc5 := HK8.out.ho.cell 5 (.bool ohq) rfl
            by_cases hqe : qe = 0
            · subst hqe
              rw [if_pos rfl] at HSS
              have dq : ((0 : Int) != 0) = false := rfl
              have d1 : ((bs nsc).toList == (bs osc).toList) = (nsc == osc) := beq_bs2 _ _
              have d2 : ((bs nho).toList == (bs oho).toList) = (nho == oho) := beq_bs2 _ _
              by_cases h1 : nsc = osc
              · by_cases h2 : nho = oho
                · by_cases h3 : npo = opo
                  · have HOR : Hid ((nsc, nho, npo) = (osc, oho, opo)) := by show _ = _; rw [h1, h2, h3]
                    rw [beq_iff_eq.2 h1] at d1
                    rw [beq_iff_eq.2 h2] at d2
                    have d3 : (npo != opo) = false := bne_eq_false_iff_eq.2 h3
                    clear h1 h2 h3
                    go_wp2_with fail
                    generalize w8.heap.size = nb at *
                    generalize w8.alloc (.cells #[.string (bs nsc), .string (bs nho), .int .i64 npo, .string (bs npa), .string (bs nqu), .bool nhq] 23) = W8 at *
                    clear HN8 nc0 nc1 nc2 nc3 nc4 nc5 oc0 oc1 oc2 oc3 oc4 oc5 d1 d2 d3
                    go_loopw [12, 13] (fun t i wr => ∃ j : Nat, j ≤ acc.length ∧ i = .int .i64 j ∧ t = .bool ((acc.take j).any (· == kx)) ∧ Below W8.heap.size W8 wr) (fun _ i _ => acc.length - (intOf i).toNat)
                    case atStart => exact ⟨0, Nat.zero_le _, rfl, rfl, Below.refl _ _⟩
                    case round =>
                      obtain ⟨j, hj, rfl, rfl, hb⟩ := hrel
                      have HJ := Lib.hid hb
                      clear hb
                      have hQo := HQL.out
                      by_cases hjt : j < acc.length
                      · obtain ⟨g0, rfl, hco⟩ := (HK8.out.call HJ.out).nr.own.cell j hjt
                        have hAN : (acc.take (j + 1)).any (· == kx) = ((acc.take j).any (· == kx) || acc.getD j [] == kx) := by
                          rw [List.take_succ_eq_append_getElem hjt, List.any_append]
                          simp [hjt]
                        have HAN := Lib.hid hAN
                        have hcq : ((bs (acc.getD j [])).toList == (bs kx).toList) = (acc.getD j [] == kx) := beq_bs2 _ _
                        have hjl : (j : Int) < (acc.length : Int) := by omega
                        have HLT : Hid (g0 < wr.heap.size) := (World.ownsRow.lt (HK8.out.call HJ.out).nr.own g0 rfl).2
                        clear hAN
                        generalize (acc.getD j [] == kx) = q at *
                        generalize bs (acc.getD j []) = yb at *
                        cases ht : (acc.take j).any (· == kx)
                        · rw [ht, Bool.false_or] at HAN
                          go_wp2_with fail
                          have hz0 : Below wr.heap.size wr wr.drew := (Below.refl _ _).drew
                          have HZ0 := Lib.hid hz0; clear hz0
                          refine wp_region_growS (.one 0 false (.one 1 false (.one 2 false (.one 3 false (.one 4 false (.one 5 false (.one 6 false (.one 7 true (.one 8 false (.one 9 false (.one 10 false .done)))))))))))
                            (fun W => Below wr.heap.size wr W) (by kernel_rfl) (by kernel_rfl) rfl (by kernel_rfl) (by kernel_rfl) HZ0.out (fun ops hops => ?_)
                          simp only [GT.ins, List.getD_cons_zero, List.getD_cons_succ]
                          have g1 : (ops[1]?).bind (·.dst) = some 87 := by rw [hops.out]; rfl
                          have G1 := Lib.hid g1
                          clear hops g1
                          iterate 2
                            refine growS_take (by rfl) ?_
                            apply Exists.intro
                            refine ⟨fun w' hE => ?_, ?_⟩
                            · have yc0 := ((HX8.out.below HJ.out).below hE).cell 0 (.string (bs xsc)) rfl; have yc1 := ((HX8.out.below HJ.out).below hE).cell 1 (.string (bs xho)) rfl; have yc2 := ((HX8.out.below HJ.out).below hE).cell 2 (.int .i64 xpo) rfl; have yc3 := ((HX8.out.below HJ.out).below hE).cell 3 (.string (bs xpa)) rfl; have yc4 := ((HX8.out.below HJ.out).below hE).cell 4 (.string (bs xqu)) rfl; have yc5 := ((HX8.out.below HJ.out).below hE).cell 5 (.bool xhq) rfl; have q1 := (hE.cell (p := ⟨g0, j, none⟩) HLT.out).trans hco
                              go_simp
                              try with_reducible rfl
                            simp only [Act.put, List.setIfInBounds_toArray, List.set_cons_zero, List.set_cons_succ]
                          iterate 5
                            refine growS_take (wantedS G1.out rfl rfl) ?_
                            apply Exists.intro
                            refine ⟨fun w' hE => ?_, ?_⟩
                            · have yc0 := ((HX8.out.below HJ.out).below hE).cell 0 (.string (bs xsc)) rfl; have yc1 := ((HX8.out.below HJ.out).below hE).cell 1 (.string (bs xho)) rfl; have yc2 := ((HX8.out.below HJ.out).below hE).cell 2 (.int .i64 xpo) rfl; have yc3 := ((HX8.out.below HJ.out).below hE).cell 3 (.string (bs xpa)) rfl; have yc4 := ((HX8.out.below HJ.out).below hE).cell 4 (.string (bs xqu)) rfl; have yc5 := ((HX8.out.below HJ.out).below hE).cell 5 (.bool xhq) rfl; have q1 := (hE.cell (p := ⟨g0, j, none⟩) HLT.out).trans hco
                              go_simp
                              try with_reducible rfl
                            simp only [Act.put, List.setIfInBounds_toArray, List.set_cons_zero, List.set_cons_succ]
                          refine growS_call (wantedS G1.out rfl rfl) (fun K hK => ?_)
                          go_simp
                          refine (HKK.out _).mono ?_
                          rintro r z1 ⟨rfl, hb⟩
                          have hz := HZ0.out.trans (hb.mono HZ0.out.size)
                          refine hK.out _ _ hz ?_
                          have HZ1 := Lib.hid hz
                          clear hK K hb hz
                          iterate 1
                            refine growS_take (wantedS G1.out rfl rfl) ?_
                            apply Exists.intro
                            refine ⟨fun w' hE => ?_, ?_⟩
                            · have yc0 := ((HX8.out.below HJ.out).below hE).cell 0 (.string (bs xsc)) rfl; have yc1 := ((HX8.out.below HJ.out).below hE).cell 1 (.string (bs xho)) rfl; have yc2 := ((HX8.out.below HJ.out).below hE).cell 2 (.int .i64 xpo) rfl; have yc3 := ((HX8.out.below HJ.out).below hE).cell 3 (.string (bs xpa)) rfl; have yc4 := ((HX8.out.below HJ.out).below hE).cell 4 (.string (bs xqu)) rfl; have yc5 := ((HX8.out.below HJ.out).below hE).cell 5 (.bool xhq) rfl; have q1 := (hE.cell (p := ⟨g0, j, none⟩) HLT.out).trans hco
                              go_simp
                              try with_reducible rfl
                            simp only [Act.put, List.setIfInBounds_toArray, List.set_cons_zero, List.set_cons_succ]
                          iterate 2
                            refine growS_take (by rfl) ?_
                            apply Exists.intro
                            refine ⟨fun w' hE => ?_, ?_⟩
                            · have yc0 := ((HX8.out.below HJ.out).below hE).cell 0 (.string (bs xsc)) rfl; have yc1 := ((HX8.out.below HJ.out).below hE).cell 1 (.string (bs xho)) rfl; have yc2 := ((HX8.out.below HJ.out).below hE).cell 2 (.int .i64 xpo) rfl; have yc3 := ((HX8.out.below HJ.out).below hE).cell 3 (.string (bs xpa)) rfl; have yc4 := ((HX8.out.below HJ.out).below hE).cell 4 (.string (bs xqu)) rfl; have yc5 := ((HX8.out.below HJ.out).below hE).cell 5 (.bool xhq) rfl; have q1 := (hE.cell (p := ⟨g0, j, none⟩) HLT.out).trans hco
                              go_simp
                              try with_reducible rfl
                            simp only [Act.put, List.setIfInBounds_toArray, List.set_cons_zero, List.set_cons_succ]
                          refine growS_done (NoPanic.normal ?_)
                          have HZ2 := Lib.hid (HJ.out.trans (HZ1.out.mono HJ.out.size))
                          clear HZ0 HZ1 HJ
                          go_wp2_with fail
                          go_roundw
                          case rel => exact ⟨j + 1, by omega, by go_num, by rw [HAN.out], HZ2.out⟩
                          case measure => simp [intOf]; omega
                        · rw [ht, Bool.true_or] at HAN
                          go_wp2_with fail
                          have hz0 : Below wr.heap.size wr wr.drew := (Below.refl _ _).drew
                          have HZ0 := Lib.hid hz0; clear hz0
                          refine wp_region_growS (.one 0 false (.one 1 false (.one 2 false (.one 3 false (.one 4 false (.one 5 false (.one 6 false (.one 7 true (.one 8 false (.one 9 false (.one 10 false .done)))))))))))
                            (fun W => Below wr.heap.size wr W) (by kernel_rfl) (by kernel_rfl) rfl (by kernel_rfl) (by kernel_rfl) HZ0.out (fun ops hops => ?_)
                          simp only [GT.ins, List.getD_cons_zero, List.getD_cons_succ]
                          have g1 : (ops[1]?).bind (·.dst) = some 87 := by rw [hops.out]; rfl
                          have G1 := Lib.hid g1
                          clear hops g1
                          iterate 2
                            refine growS_take (by rfl) ?_
                            apply Exists.intro
                            refine ⟨fun w' hE => ?_, ?_⟩
                            · have yc0 := ((HX8.out.below HJ.out).below hE).cell 0 (.string (bs xsc)) rfl; have yc1 := ((HX8.out.below HJ.out).below hE).cell 1 (.string (bs xho)) rfl; have yc2 := ((HX8.out.below HJ.out).below hE).cell 2 (.int .i64 xpo) rfl; have yc3 := ((HX8.out.below HJ.out).below hE).cell 3 (.string (bs xpa)) rfl; have yc4 := ((HX8.out.below HJ.out).below hE).cell 4 (.string (bs xqu)) rfl; have yc5 := ((HX8.out.below HJ.out).below hE).cell 5 (.bool xhq) rfl; have q1 := (hE.cell (p := ⟨g0, j, none⟩) HLT.out).trans hco
                              go_simp
                              try with_reducible rfl
                            simp only [Act.put, List.setIfInBounds_toArray, List.set_cons_zero, List.set_cons_succ]
                          refine growS_skip (unwantedS G1.out rfl rfl) ?_
                          simp only [Act.put, List.setIfInBounds_toArray, List.set_cons_zero, List.set_cons_succ]
                          refine growS_skip (unwantedS G1.out rfl rfl) ?_
                          simp only [Act.put, List.setIfInBounds_toArray, List.set_cons_zero, List.set_cons_succ]
                          refine growS_skip (unwantedS G1.out rfl rfl) ?_
                          simp only [Act.put, List.setIfInBounds_toArray, List.set_cons_zero, List.set_cons_succ]
                          refine growS_skip (unwantedS G1.out rfl rfl) ?_
                          simp only [Act.put, List.setIfInBounds_toArray, List.set_cons_zero, List.set_cons_succ]
                          refine growS_skip (unwantedS G1.out rfl rfl) ?_
                          simp only [Act.put, List.setIfInBounds_toArray, List.set_cons_zero, List.set_cons_succ]
                          refine growS_skip (unwantedS G1.out rfl rfl) ?_
                          simp only [Act.put, List.setIfInBounds_toArray, List.set_cons_zero, List.set_cons_succ]
                          refine growS_skip (unwantedS G1.out rfl rfl) ?_
                          simp only [Act.put, List.setIfInBounds_toArray, List.set_cons_zero, List.set_cons_succ]
                          iterate 2
                            refine growS_take (by rfl) ?_
                            apply Exists.intro
                            refine ⟨fun w' hE => ?_, ?_⟩
                            · have yc0 := ((HX8.out.below HJ.out).below hE).cell 0 (.string (bs xsc)) rfl; have yc1 := ((HX8.out.below HJ.out).below hE).cell 1 (.string (bs xho)) rfl; have yc2 := ((HX8.out.below HJ.out).below hE).cell 2 (.int .i64 xpo) rfl; have yc3 := ((HX8.out.below HJ.out).below hE).cell 3 (.string (bs xpa)) rfl; have yc4 := ((HX8.out.below HJ.out).below hE).cell 4 (.string (bs xqu)) rfl; have yc5 := ((HX8.out.below HJ.out).below hE).cell 5 (.bool xhq) rfl; have q1 := (hE.cell (p := ⟨g0, j, none⟩) HLT.out).trans hco
                              go_simp
                              try with_reducible rfl
                            simp only [Act.put, List.setIfInBounds_toArray, List.set_cons_zero, List.set_cons_succ]
                          refine growS_done (NoPanic.normal ?_)
                          have HZ2 := Lib.hid (HJ.out.trans (HZ0.out.mono HJ.out.size))
                          clear HZ0 HJ
                          go_wp2_with fail
                          go_roundw
                          case rel => exact ⟨j + 1, by omega, by go_num, by rw [HAN.out], HZ2.out⟩
                          case measure => simp [intOf]; omega
                      · have HE2 : Hid (acc.take j = acc) := List.take_of_length_le (by omega)
                        rw [HE2.out]
                        have HPS := Lib.hid (putS_any acc kx)
                        have HKJ := Lib.hid (HK8.out.call HJ.out); have HXJ := Lib.hid (HX8.out.below HJ.out)
                        clear HK8 HX8 HJ
                        cases hh : acc.any (· == kx)
                        · rw [hh] at HPS
                          simp only [Bool.false_eq_true, if_false] at HPS
                          have xc0 := HXJ.out.cell 0 (.string (bs xsc)) rfl
                          have xc1 := HXJ.out.cell 1 (.string (bs xho)) rfl
                          have xc2 := HXJ.out.cell 2 (.int .i64 xpo) rfl
                          have xc3 := HXJ.out.cell 3 (.string (bs xpa)) rfl
                          have xc4 := HXJ.out.cell 4 (.string (bs xqu)) rfl
                          have xc5 := HXJ.out.cell 5 (.bool xhq) rfl
                          go_wp2_with (first
                            | (go_at_call 26; refine (HKK.out _).mono ?_; rintro e w9 ⟨rfl, hb9⟩; have HK9 := Lib.hid (HKJ.out.call hb9); clear hb9 HKJ HXJ xc0 xc1 xc2 xc3 xc4 xc5)
                            | (at_builtin; refine wpList_appNR rfl (.tmp 98) (.tmp 101) rfl (keepsD w.heap.size ob) _ _ _ N [] acc kx rfl HK9.out.nr HK9.out.guard rfl (by have := HQL.out; omega) ?_; intro v' wA HNRA HGA HKA; have HKN := Lib.hid (HK9.out.put HNRA.out HGA.out HKA.out); clear HNRA HGA HKA HK9))
                          go_roundw
                          case rel => exact ⟨k + 1, by omega, by go_num, by rw [HSK.out, HSS.out, if_pos HOR.out, HPS.out]; exact HKN.out⟩
                          case measure => simp [intOf]; omega
                        · rw [hh] at HPS
                          simp only [if_true] at HPS
                          go_wp2_with fail
                          go_roundw
                          case rel => exact ⟨k + 1, by omega, by go_num, by rw [HSK.out, HSS.out, if_pos HOR.out, HPS.out]; exact HKJ.out⟩
                          case measure => simp [intOf]; omega
                  · rw [beq_iff_eq.2 h1] at d1
                    rw [beq_iff_eq.2 h2] at d2
                    have d3 : (npo != opo) = true := bne_iff_ne.2 h3
                    have HNO : Hid (¬ (nsc, nho, npo) = (osc, oho, opo)) := fun e => h3 (Prod.mk.inj (Prod.mk.inj e).2).2
                    clear h1 h2 h3
                    go_wp2_with fail
                    go_roundw
                    case rel => exact ⟨k + 1, by omega, by go_num, by rw [HSK.out, HSS.out, if_neg HNO.out]; exact HK8.out⟩
                    case measure => simp [intOf]; omega
                · rw [beq_iff_eq.2 h1] at d1
                  rw [beq_eq_false_iff_ne.2 h2] at d2
                  have HNO : Hid (¬ (nsc, nho, npo) = (osc, oho, opo)) := fun e => h2 (Prod.mk.inj (Prod.mk.inj e).2).1
                  clear h1 h2
                  go_wp2_with fail
                  go_roundw
                  case rel => exact ⟨k + 1, by omega, by go_num, by rw [HSK.out, HSS.out, if_neg HNO.out]; exact HK8.out⟩
                  case measure => simp [intOf]; omega
              · rw [beq_eq_false_iff_ne.2 h1] at d1
                have HNO : Hid (¬ (nsc, nho, npo) = (osc, oho, opo)) := fun e => h1 (Prod.mk.inj e).1
                clear h1
                go_wp2_with fail
                go_roundw
                case rel => exact ⟨k + 1, by omega, by go_num, by rw [HSK.out, HSS.out, if_neg HNO.out]; exact HK8.out⟩
                case measure => simp [intOf]; omega
            · have dq : (qe != 0) = true := bne_iff_ne.2 hqe
              rw [if_neg hqe] at HSS
              clear hqe
              go_wp2_with fail
              go_roundw
              case rel => exact ⟨k + 1, by omega, by go_num, by rw [HSK.out, HSS.out]; exact HK8.out⟩
              case measure => simp [intOf]; omega
          · have HE2 : Hid (N.take k = N) := List.take_of_length_le (by omega)
            rw [HE2.out] at HK
            go_wp2_with fail
            go_ret
            exact ⟨_, rfl, by rw [← HNE.out]; exact HK.out.nr.own, HK.out.nr.bel⟩
      · have g2 : decide (399 < st) = true := decide_eq_true (by omega)
        rw [if_neg (fun h => h399 h.2.2)]
        clear h200 h399
        have hal : Below w.heap.size w (w.alloc (.cells #[.string (bs sc), .string (bs ho), .int .i64 po, .string (bs pa), .string (bs qu), .bool hq] 23)) := (Below.refl _ _).alloc (Nat.le_refl _) _
        have HB1 := Lib.hid hal
        have hn := ubk.new w #[.string (bs sc), .string (bs ho), .int .i64 po, .string (bs pa), .string (bs qu), .bool hq] 23
        have HU1 := Lib.hid hn; clear hn
        clear hal
        have hal : Below (w.alloc (.cells #[.string (bs sc), .string (bs ho), .int .i64 po, .string (bs pa), .string (bs qu), .bool hq] 23)).heap.size (w.alloc (.cells #[.string (bs sc), .string (bs ho), .int .i64 po, .string (bs pa), .string (bs qu), .bool hq] 23)) ((w.alloc (.cells #[.string (bs sc), .string (bs ho), .int .i64 po, .string (bs pa), .string (bs qu), .bool hq] 23)).alloc (.cells #[.int .i64 st, .string re, .int .i64 mi, .slice A l.length c, .string bo] 31)) := (Below.refl _ _).alloc (Nat.le_refl _) _
        have HB2 := Lib.hid (HB1.out.trans (hal.mono HB1.out.size))
        have HU2 := Lib.hid (HU1.out.alloc (.cells #[.int .i64 st, .string re, .int .i64 mi, .slice A l.length c, .string bo] 31))
        have hn := ubk.new (w.alloc (.cells #[.string (bs sc), .string (bs ho), .int .i64 po, .string (bs pa), .string (bs qu), .bool hq] 23)) #[.int .i64 st, .string re, .int .i64 mi, .slice A l.length c, .string bo] 31
        rw [World.size_alloc] at hn
        have HP2 := Lib.hid hn; clear hn
        clear hal HB1 HU1
        go_enter Tryz.func17, Tryz.ntmps17
        have uc0 := HU2.out.cell 0 (.string (bs sc)) rfl
        have uc1 := HU2.out.cell 1 (.string (bs ho)) rfl
        have uc2 := HU2.out.cell 2 (.int .i64 po) rfl
        have uc3 := HU2.out.cell 3 (.string (bs pa)) rfl
        have uc4 := HU2.out.cell 4 (.string (bs qu)) rfl
        have uc5 := HU2.out.cell 5 (.bool hq) rfl
        go_wp2_with fail
        refine (HCK.out _).mono ?_
        rintro r w3 ⟨rfl, hb⟩
        have HB3 := Lib.hid (HB2.out.trans (hb.mono HB2.out.size))
        have HU3 := Lib.hid (HU2.out.below hb)
        have HP3 := Lib.hid (HP2.out.below hb)
        clear hb HB2 HU2 HP2
        clear uc0 uc1 uc2 uc3 uc4 uc5
        have pc0 := HP3.out.cell 0 (.int .i64 st) rfl
        have pc1 := HP3.out.cell 1 (.string re) rfl
        have pc2 := HP3.out.cell 2 (.int .i64 mi) rfl
        have pc3 := HP3.out.cell 3 (.slice A l.length c) rfl
        have pc4 := HP3.out.cell 4 (.string bo) rfl
        have uc0 := HU3.out.cell 0 (.string (bs sc)) rfl
        have uc1 := HU3.out.cell 1 (.string (bs ho)) rfl
        have uc2 := HU3.out.cell 2 (.int .i64 po) rfl
        have uc3 := HU3.out.cell 3 (.string (bs pa)) rfl
        have uc4 := HU3.out.cell 4 (.string (bs qu)) rfl
        have uc5 := HU3.out.cell 5 (.bool hq) rfl
        go_wp2_with fail
        go_ret
        exact ⟨_, rfl, ownS_nil _ _, HB3.out⟩
    · have g1 : decide (st < 200) = true := decide_eq_true (by omega)
      rw [if_neg (fun h => h200 h.2.1)]
      clear h200
      have hal : Below w.heap.size w (w.alloc (.cells #[.string (bs sc), .string (bs ho), .int .i64 po, .string (bs pa), .string (bs qu), .bool hq] 23)) := (Below.refl _ _).alloc (Nat.le_refl _) _
      have HB1 := Lib.hid hal
      have hn := ubk.new w #[.string (bs sc), .string (bs ho), .int .i64 po, .string (bs pa), .string (bs qu), .bool hq] 23
      have HU1 := Lib.hid hn; clear hn
      clear hal
      have hal : Below (w.alloc (.cells #[.string (bs sc), .string (bs ho), .int .i64 po, .string (bs pa), .string (bs qu), .bool hq] 23)).heap.size (w.alloc (.cells #[.string (bs sc), .string (bs ho), .int .i64 po, .string (bs pa), .string (bs qu), .bool hq] 23)) ((w.alloc (.cells #[.string (bs sc), .string (bs ho), .int .i64 po, .string (bs pa), .string (bs qu), .bool hq] 23)).alloc (.cells #[.int .i64 st, .string re, .int .i64 mi, .slice A l.length c, .string bo] 31)) := (Below.refl _ _).alloc (Nat.le_refl _) _
      have HB2 := Lib.hid (HB1.out.trans (hal.mono HB1.out.size))
      have HU2 := Lib.hid (HU1.out.alloc (.cells #[.int .i64 st, .string re, .int .i64 mi, .slice A l.length c, .string bo] 31))
      have hn := ubk.new (w.alloc (.cells #[.string (bs sc), .string (bs ho), .int .i64 po, .string (bs pa), .string (bs qu), .bool hq] 23)) #[.int .i64 st, .string re, .int .i64 mi, .slice A l.length c, .string bo] 31
      rw [World.size_alloc] at hn
      have HP2 := Lib.hid hn; clear hn
      clear hal HB1 HU1
      go_enter Tryz.func17, Tryz.ntmps17
      have uc0 := HU2.out.cell 0 (.string (bs sc)) rfl
      have uc1 := HU2.out.cell 1 (.string (bs ho)) rfl
      have uc2 := HU2.out.cell 2 (.int .i64 po) rfl
      have uc3 := HU2.out.cell 3 (.string (bs pa)) rfl
      have uc4 := HU2.out.cell 4 (.string (bs qu)) rfl
      have uc5 := HU2.out.cell 5 (.bool hq) rfl
      go_wp2_with fail
      refine (HCK.out _).mono ?_
      rintro r w3 ⟨rfl, hb⟩
      have HB3 := Lib.hid (HB2.out.trans (hb.mono HB2.out.size))
      have HU3 := Lib.hid (HU2.out.below hb)
      have HP3 := Lib.hid (HP2.out.below hb)
      clear hb HB2 HU2 HP2
      clear uc0 uc1 uc2 uc3 uc4 uc5
      have pc0 := HP3.out.cell 0 (.int .i64 st) rfl
      have pc1 := HP3.out.cell 1 (.string re) rfl
      have pc2 := HP3.out.cell 2 (.int .i64 mi) rfl
      have pc3 := HP3.out.cell 3 (.slice A l.length c) rfl
      have pc4 := HP3.out.cell 4 (.string bo) rfl
      have uc0 := HU3.out.cell 0 (.string (bs sc)) rfl
      have uc1 := HU3.out.cell 1 (.string (bs ho)) rfl
      have uc2 := HU3.out.cell 2 (.int .i64 po) rfl
      have uc3 := HU3.out.cell 3 (.string (bs pa)) rfl
      have uc4 := HU3.out.cell 4 (.string (bs qu)) rfl
      have uc5 := HU3.out.cell 5 (.bool hq) rfl
      go_wp2_with fail
      go_ret
      exact ⟨_, rfl, ownS_nil _ _, HB3.out⟩
  · rw [if_neg (fun h => hck h.1)]
    have hkb : (ck != 0) = true := bne_iff_ne.2 hck
    clear hck
    have hal : Below w.heap.size w (w.alloc (.cells #[.string (bs sc), .string (bs ho), .int .i64 po, .string (bs pa), .string (bs qu), .bool hq] 23)) := (Below.refl _ _).alloc (Nat.le_refl _) _
    have HB1 := Lib.hid hal
    have hn := ubk.new w #[.string (bs sc), .string (bs ho), .int .i64 po, .string (bs pa), .string (bs qu), .bool hq] 23
    have HU1 := Lib.hid hn; clear hn
    clear hal
    have hal : Below (w.alloc (.cells #[.string (bs sc), .string (bs ho), .int .i64 po, .string (bs pa), .string (bs qu), .bool hq] 23)).heap.size (w.alloc (.cells #[.string (bs sc), .string (bs ho), .int .i64 po, .string (bs pa), .string (bs qu), .bool hq] 23)) ((w.alloc (.cells #[.string (bs sc), .string (bs ho), .int .i64 po, .string (bs pa), .string (bs qu), .bool hq] 23)).alloc (.cells #[.int .i64 st, .string re, .int .i64 mi, .slice A l.length c, .string bo] 31)) := (Below.refl _ _).alloc (Nat.le_refl _) _
    have HB2 := Lib.hid (HB1.out.trans (hal.mono HB1.out.size))
    have HU2 := Lib.hid (HU1.out.alloc (.cells #[.int .i64 st, .string re, .int .i64 mi, .slice A l.length c, .string bo] 31))
    have hn := ubk.new (w.alloc (.cells #[.string (bs sc), .string (bs ho), .int .i64 po, .string (bs pa), .string (bs qu), .bool hq] 23)) #[.int .i64 st, .string re, .int .i64 mi, .slice A l.length c, .string bo] 31
    rw [World.size_alloc] at hn
    have HP2 := Lib.hid hn; clear hn
    clear hal HB1 HU1
    go_enter Tryz.func17, Tryz.ntmps17
    have uc0 := HU2.out.cell 0 (.string (bs sc)) rfl
    have uc1 := HU2.out.cell 1 (.string (bs ho)) rfl
    have uc2 := HU2.out.cell 2 (.int .i64 po) rfl
    have uc3 := HU2.out.cell 3 (.string (bs pa)) rfl
    have uc4 := HU2.out.cell 4 (.string (bs qu)) rfl
    have uc5 := HU2.out.cell 5 (.bool hq) rfl
    go_wp2_with fail
    refine (HCK.out _).mono ?_
    rintro r w3 ⟨rfl, hb⟩
    have HB3 := Lib.hid (HB2.out.trans (hb.mono HB2.out.size))
    have HU3 := Lib.hid (HU2.out.below hb)
    have HP3 := Lib.hid (HP2.out.below hb)
    clear hb HB2 HU2 HP2
    clear uc0 uc1 uc2 uc3 uc4 uc5
    have pc0 := HP3.out.cell 0 (.int .i64 st) rfl
    have pc1 := HP3.out.cell 1 (.string re) rfl
    have pc2 := HP3.out.cell 2 (.int .i64 mi) rfl
    have pc3 := HP3.out.cell 3 (.slice A l.length c) rfl
    have pc4 := HP3.out.cell 4 (.string bo) rfl
    have uc0 := HU3.out.cell 0 (.string (bs sc)) rfl
    have uc1 := HU3.out.cell 1 (.string (bs ho)) rfl
    have uc2 := HU3.out.cell 2 (.int .i64 po) rfl
    have uc3 := HU3.out.cell 3 (.string (bs pa)) rfl
    have uc4 := HU3.out.cell 4 (.string (bs qu)) rfl
    have uc5 := HU3.out.cell 5 (.bool hq) rfl
    go_wp2_with fail
    go_ret
    exact ⟨_, rfl, ownS_nil _ _, HB3.out⟩
end Go.Proofs.YtnpiaifkeddjeaaGreatDoor
