/- What the store's functions make of the rows under the keys. -/
import Derived.Test.YtopgeclecpaecaaGreatDoorKKpB
import Derived.Test.YtopgeclecpaecaaGreatDoorKKpC
import Derived.Shelf.Slices.Delete
import Derived.BigRegion
import Derived.BigQuiet
namespace Go.Proofs.YtopgeclecpaecaaGreatDoor
open Go.RowKit
theorem zeroSl (w : World) : (zeroValue 36).run Tryz.prog w = .ok (.slice none 0 0) w := by kernel_rfl
theorem Did.turnedS {w w' : World} {mb : Nat} (h : w.mapTurned w' mb) : Did (fun b => b = mb) (fun b => b = mb) w w' := Did.turned h rfl
theorem Did.belowS {X : Nat → Prop} {w w' w'' : World} (hb : Below w.heap.size w w') (h : Did X X w' w'') : Did X X w w'' := (Did.of_below hb).trans h
set_option maxRecDepth 100000 in
set_option maxHeartbeats 2000000 in
theorem setUnder_put (w : World) (tb umb n g m c : Nat) (F : List UInt8 → Option Hd) (bp pu : Value) (k : List UInt8) (hs : bk w tb #[bp, .map (some umb), pu]) (hm : MapS Tryz.prog 9 w umb F n) (hn : n < maxLen) (hk : k.length ≤ 281474976710656) (h0 : m ≠ 0) :
    Calls Tryz.prog 35 #[.pointer (some ⟨tb, 0, none⟩), .string (bs k), .slice (some ⟨g, 0, none⟩) m c] w fun e w' => e = .returned (.tuple #[]) ∧ MapS Tryz.prog 9 w' umb (upd F k (some (g, m, c))) (if (F k).isSome then n else n + 1) ∧ Did (fun b => b = umb) (fun b => b = umb) w w' := by
  have HTB : Hid (¬ tb = umb) := hm.ne hs
  have HST := Lib.hid hs; have HM := Lib.hid hm; have HN := Lib.hid hn; have HKL := Lib.hid hk
  have HKM : Hid (k.length ≤ maxLen) := by unfold maxLen; show _ ≤ _; omega
  have HC1 : Hid (w.cell? ⟨tb, 1, none⟩ = some (.map (some umb))) := hs.cell 1 _ rfl
  have hm0 : ((m : Int) == 0) = false := by rw [beq_eq_false_iff_ne]; omega
  have HZ0 : Hid (w.drew.heap[tb]? = w.heap[tb]?) := rfl
  clear hs hm hn hk
  generalize HN1 : (if (F k).isSome then n else n + 1) = n1
  have HN1 := Lib.hid HN1
  go_enter Tryz.func35, Tryz.ntmps35
  go_wp2_with fail
  refine wp_region_growS (.one 0 false (.one 1 false (.one 2 false (.one 3 false (.one 4 false (.one 6 false (.one 5 true (.one 7 true .done))))))))
    (fun x => x.heap[tb]? = w.heap[tb]?) (by kernel_rfl) (by kernel_rfl) rfl (by kernel_rfl) (by kernel_rfl) HZ0.out (fun ops hops => ?_)
  simp only [GT.ins, List.getD_cons_zero, List.getD_cons_succ]
  clear hops
  iterate 6
    refine growS_take (by rfl) ?_
    apply Exists.intro
    refine ⟨fun w' hE => ?_, ?_⟩
    · have q1 : w'.cell? ⟨tb, 1, none⟩ = some (.map (some umb)) := (World.cell?_of_block (a := ⟨tb, 1, none⟩) hE).trans HC1.out
      go_simp
      try with_reducible rfl
    simp only [Act.put, List.setIfInBounds_toArray, List.set_cons_zero, List.set_cons_succ]
  refine growS_call (by rfl) (fun K hK => ?_)
  go_simp
  refine (clone_l k _ HKL.out).mono ?_
  rintro r z1 ⟨rfl, hb⟩
  obtain ⟨w2, hrun, hm2, hturn⟩ := MapS.put (w := z1) (HM.out.keep (hb.block umb HM.out.lt)) Tryz.underlying9 Tryz.underlying62 HN.out k (g, m, c) HKM.out
  have HRUN := Lib.hid hrun
  rw [HN1.out] at hm2
  have HM2 := Lib.hid hm2
  have HD2 : Hid (Did (fun b => b = umb) (fun b => b = umb) w w2) := Did.belowS (show Below w.heap.size w z1 from ⟨hb.os, hb.tape, hb.output, hb.size, hb.block⟩) (Did.turnedS hturn)
  refine hK.out _ _ (hb.block tb HST.out.lt) ?_
  clear hK K hb hturn hm2 hrun
  refine growS_call (by rfl) (fun K hK => ?_)
  go_simp
  have hrun := HRUN.out
  unfold sliV at hrun
  go_simp
  refine hK.out _ _ (HD2.out.keep tb HST.out.lt HTB.out) ?_
  clear hK K hrun HRUN
  refine growS_done (NoPanic.normal ?_)
  go_wp2_with fail
  go_end0
  exact ⟨rfl, HM2.out, HD2.out⟩
set_option maxRecDepth 100000 in
set_option maxHeartbeats 2000000 in
theorem setUnder_del (w : World) (tb umb n c : Nat) (A : Option Addr) (F : List UInt8 → Option Hd) (bp pu : Value) (k : List UInt8) (hs : bk w tb #[bp, .map (some umb), pu]) (hm : MapS Tryz.prog 9 w umb F n) (hk : k.length ≤ 281474976710656) :
    Calls Tryz.prog 35 #[.pointer (some ⟨tb, 0, none⟩), .string (bs k), .slice A 0 c] w fun e w' => e = .returned (.tuple #[]) ∧ ∃ n', n' ≤ n ∧ MapS Tryz.prog 9 w' umb (upd F k none) n' ∧ Did (fun b => b = umb) (fun b => b = umb) w w' := by
  obtain ⟨w2, n', hrun, hm2, hle, hturn⟩ := MapS.del hm Tryz.underlying9 Tryz.underlying62 k (by unfold maxLen; omega) 0
  have c1 := hs.cell 1 (.map (some umb)) rfl
  have HM2 := Lib.hid hm2
  have HD2 := Lib.hid (Did.turnedS hturn)
  have HLE := Lib.hid hle
  clear hs hm hk hm2 hturn hle
  go_enter Tryz.func35, Tryz.ntmps35
  go_wp2_with fail
  refine bodyPost_ret (v := .tuple #[]) (by simp [results, Tryz.results35, go_sem]) rfl ?_
  exact ⟨rfl, n', HLE.out, HM2.out, HD2.out⟩
theorem strCs_append (a b : List (List UInt8)) : strCs (a ++ b) = strCs a ++ strCs b := by simp [strCs]
/-- an element goes out of a row: what stands behind it moves up -/
theorem row_without {w : World} {g c q : Nat} {cur : Array Value} {xs zs : List (List UInt8)} {x : List UInt8} (hg : w.heap[g]? = some (.cells cur 9 (0, 0))) (hc : (xs ++ x :: zs).length ≤ c) (hcs : cur.size = c) :
    ∃ cur' : Array Value, (Sort.putRow encStr (Sort.ahead w q) g 0 ((xs ++ x :: zs).take xs.length ++ (xs ++ x :: zs).drop (xs.length + 1) ++ List.replicate (xs.length + 1 - xs.length) []).toArray).heap[g]? = some (.cells cur' 9 (0, 0)) ∧ cur'.size = c ∧ cur'.toList.take (xs ++ zs).length = strCs (xs ++ zs) := by
  have hd : (xs ++ x :: zs).take xs.length ++ (xs ++ x :: zs).drop (xs.length + 1) ++ List.replicate (xs.length + 1 - xs.length) [] = xs ++ zs ++ [[]] := by
    rw [show xs.length + 1 - xs.length = 1 from by omega]
    simp
  rw [hd]
  refine ⟨Sort.putCells encStr 0 (xs ++ zs ++ [[]]).toArray cur, ?_, ?_, ?_⟩
  · simp [Sort.putRow, Sort.mapBlock, Sort.ahead, Array.getElem?_modify, hg, Sort.onCells]
  · simp [Sort.putCells, hcs]
  · apply List.ext_getElem?
    intro i
    rw [List.getElem?_take]
    by_cases hi : i < (xs ++ zs).length
    · rw [if_pos hi]
      have h1 : i < cur.size := by simp at hc hi; omega
      have h2 : i < (xs ++ zs ++ [[]]).length := by simp at hi ⊢; omega
      have e2 : (xs ++ zs ++ [[]])[i]! = (xs ++ zs)[i] := by
        rw [getElem!_pos _ i h2, List.getElem_append_left hi]
      simp only [Sort.putCells, Array.toList_mapIdx, List.getElem?_mapIdx]
      rw [show cur.toList[i]? = some cur[i] from by simp [h1]]
      simp only [Option.map_some, Nat.zero_le, true_and, Nat.zero_add, Nat.sub_zero]
      rw [if_pos (by simpa using h2)]
      simp only [strCs, List.getElem?_map, List.getElem?_eq_getElem hi, Option.map_some]
      congr 1
      simp only [List.getElem!_toArray]
      rw [e2]; rfl
    · rw [if_neg hi]
      simp [strCs]
      simp at hi
      omega
theorem putRow_other (w : World) (g q k : Nat) (d : Array (List UInt8)) (h : k ≠ g) : (Sort.putRow encStr (Sort.ahead w q) g 0 d).heap[k]? = w.heap[k]? := by
  simp [Sort.putRow, Sort.mapBlock, Sort.ahead, Array.getElem?_modify, Ne.symm h]
theorem idx_mid (xs zs : List (List UInt8)) (x : List UInt8) (hx : x ∉ xs) : Lib.idxOfS (((xs ++ x :: zs).map bs).take (xs ++ x :: zs).length) (bs x) = (xs.length : Int) := by
  rw [Lib.idxOfS_hit ((xs ++ x :: zs).map bs) (xs ++ x :: zs).length xs.length (bs x) (by simp) (by simp) (by simp [List.getD]) (fun j hj => ?_)]
  rw [List.getD_eq_getElem?_getD, List.getElem?_map, List.getElem?_append_left hj, List.getElem?_eq_getElem hj]
  simp only [Option.map_some, Option.getD_some]
  intro e
  have e2 := congrArg (fun s : ByteArray => s.data.toList) e
  simp only [bs_data] at e2
  exact hx (e2 ▸ List.getElem_mem hj)
theorem Und.ne_ptr {w : World} {umb n : Nat} {F : List UInt8 → Option Hd} {R : List UInt8 → List (List UInt8)} (h : Und w umb n F R) {b : Nat} {cs : Array Value} {p : Option Addr} (hb : bk w b cs) (hp : cs[0]? = some (.pointer p)) : ¬ undX umb F b := by
  rintro (e | ⟨k, m, c, e⟩)
  · exact h.map.ne hb e
  · obtain ⟨cur, hg, a1, -, a3, a4, -, a6, -⟩ := h.cells e
    obtain ⟨T, hb⟩ := hb
    rw [hg] at hb
    cases hb
    cases hR : R k with
    | nil => exact a6 hR
    | cons y r =>
      rw [hR] at a4 a1
      have h0 := congrArg (fun l : List Value => l[0]?) a4
      simp only [List.getElem?_take, List.length_cons, Nat.zero_lt_succ, if_true, strCs, List.map_cons, List.getElem?_cons_zero] at h0
      rw [Array.getElem?_toList, hp] at h0
      cases h0
set_option maxRecDepth 100000 in
set_option maxHeartbeats 2000000 in
theorem unlist_any (w : World) (tb umb n : Nat) (F : List UInt8 → Option Hd) (R : List UInt8 → List (List UInt8)) (bp : Option Addr) (pu : Value) (k : List UInt8) (vy : List Fld) (xs zs : List (List UInt8)) (hs : bk w tb #[.pointer bp, .map (some umb), pu]) (hu : Und w umb n F R) (hn : n < maxLen)
    (hk : k.length ≤ 300) (hv : SmF vy) (hR : R k = xs ++ idT k vy :: zs) (hx : idT k vy ∉ xs) (ht : KE w) :
    Calls Tryz.prog 33 #[.pointer (some ⟨tb, 0, none⟩), .string (bs (idT k vy))] w fun e w' => e = .returned (.tuple #[]) ∧ ∃ n' F', n' ≤ n ∧ Und w' umb n' F' (upd R k (xs ++ zs)) ∧ Did (undX umb F) (undX umb F') w w' := by
  have hFk : ∃ g m c, F k = some (g, m, c) := by
    have h1 := hu.row k
    cases e : F k with
    | none => rw [e] at h1; have h2 : R k = [] := h1; rw [hR] at h2; simp at h2
    | some o => exact ⟨o.1, o.2.1, o.2.2, rfl⟩
  obtain ⟨g, m, c, hFk⟩ := hFk
  obtain ⟨cur, hg, a1, a2, a3, a4, rfl, a6, a7⟩ := hu.cells hFk
  have hlen : (R k).length = xs.length + 1 + zs.length := by rw [hR]; simp; omega
  have HNX := Lib.hid (hu.ne_ptr hs (p := bp) rfl)
  have HK := Lib.hid (keyOf_any k vy w hk hv ht)
  have HLC := Lib.hid a1; have HCM := Lib.hid a2; have HF := Lib.hid hFk; have HGU : Hid (¬ g = umb) := a7
  have HN := Lib.hid hn; have HRR := Lib.hid hR; have HXX := Lib.hid hx
  have HKL : Hid (k.length ≤ 281474976710656) := by show _ ≤ _; omega
  have HS := Lib.hid hs; have HU := Lib.hid hu
  have HCUR : Hid (w.heap[g]? = some (.cells cur 9 (0, 0)) ∧ cur.size = c ∧ cur.toList.take (R k).length = strCs (R k)) := ⟨hg, a3, a4⟩
  have HZ := Lib.hid hlen
  have HGT : Hid (tb ≠ g) := fun e => HNX.out (.inr ⟨k, _, c, by rw [e]; exact hFk⟩)
  clear hs hu hn hk hv hR hx ht hFk hg a1 a2 a3 a4 a6 a7 hlen
  go_enter Tryz.func33, Tryz.ntmps33
  go_wp2_with fail
  refine HK.out.mono ?_
  rintro e w1 ⟨rfl, hb1⟩
  have hs1 := HS.out.below hb1
  have HU1 := Lib.hid (HU.out.keep (w' := w1) (fun b hb => hb1.block b (HU.out.lt b hb)))
  have hcur1 := hb1.block g (Array.getElem?_eq_some_iff.1 HCUR.out.1).1
  have HC1 : Hid (w1.heap[g]? = some (.cells cur 9 (0, 0))) := hcur1.trans HCUR.out.1
  have HS1 := Lib.hid hs1; have HB1 := Lib.hid hb1
  have c1 := hs1.cell 1 (.map (some umb)) rfl
  have hrun := HU1.out.map.look Tryz.underlying9 Tryz.underlying62 (zeroSl w1) k (by have := HKL.out; unfold maxLen; omega)
  rw [HF.out] at hrun
  unfold sliV at hrun
  clear hs1 hb1 hcur1 HS HU HK
  obtain ⟨mz, hmz⟩ : ∃ mz, mz = (xs ++ zs).length := ⟨_, rfl⟩
  have HMZ := Lib.hid hmz; clear hmz
  have HIX : Hid (Calls Tryz.prog 61 #[.slice (some ⟨g, 0, none⟩) (R k).length c, .string (bs (idT k vy))] w1 fun e w' => e = .returned (.int .i64 (xs.length : Int)) ∧ w' = w1) := by
    have h1 := Tryz.slices_Index_string g 0 (R k).length c ((R k).map bs) (bs (idT k vy)) w1 (by simp) (by have h1 := HLC.out; have h2 := HCM.out; unfold maxLen at h2; omega) (fun j hj => by
      simp at hj
      have h2 := congrArg (fun l : List Value => l[j]?) HCUR.out.2.2
      simp only [List.getElem?_take, if_pos hj] at h2
      rw [Nat.zero_add]
      unfold World.cell?
      rw [HC1.out]
      simp only [Option.isSome_none, Bool.false_eq_true, if_false]
      rw [← Array.getElem?_toList, h2]
      simp [strCs, List.getElem?_eq_getElem hj])
    rw [HRR.out, idx_mid xs zs _ HXX.out, ← HRR.out] at h1
    exact h1
  go_wp2_with fail
  refine HIX.out.mono ?_
  rintro e wx ⟨rfl, rfl⟩
  have hw : IntKind.i64.wrap ((xs.length : Int) + 1) = ((xs.length + 1 : Nat) : Int) := by have h1 := HLC.out; have h2 := HCM.out; have h3 := HZ.out; unfold maxLen at h2; rw [IntKind.wrap_i64]; omega
  have HDL : Hid (Calls Tryz.prog 62 #[.slice (some ⟨g, 0, none⟩) (R k).length c, .int .i64 (xs.length : Int), .int .i64 ((xs.length + 1 : Nat) : Int)] wx fun e w2 => e = .returned (.slice (some ⟨g, 0, none⟩) mz c) ∧
      (∃ cur' : Array Value, w2.heap[g]? = some (.cells cur' 9 (0, 0)) ∧ cur'.size = c ∧ cur'.toList.take (xs ++ zs).length = strCs (xs ++ zs)) ∧ (∀ b, b ≠ g → w2.heap[b]? = wx.heap[b]?) ∧ w2.heap.size = wx.heap.size ∧ (w2.os = wx.os ∧ w2.tape = wx.tape ∧ w2.output = wx.output)) := by
    refine (Tryz.slices_Delete_string g 0 c xs.length (xs.length + 1) (R k) wx ?_ HLC.out (by have := HCM.out; unfold maxLen at this; omega) (Nat.le_succ _) (by have := HZ.out; omega)).mono ?_
    · intro j hj
      simp at hj
      have h2 := congrArg (fun l : List Value => l[j]?) HCUR.out.2.2
      simp only [List.getElem?_take, if_pos hj] at h2
      refine ⟨?_, by simp [World.frozen?, HC1.out]⟩
      rw [Nat.zero_add]
      unfold World.cell?
      rw [HC1.out]
      simp only [Option.isSome_none, Bool.false_eq_true, if_false]
      rw [← Array.getElem?_toList, h2]
      simp [strCs, hj, bs]
    · rintro e w2 ⟨rfl, q, rfl⟩
      refine ⟨?_, ?_, fun b hb => putRow_other wx g q b _ hb, by simp [Sort.putRow, Sort.mapBlock, Sort.ahead], rfl, rfl, rfl⟩
      · have h3 := HZ.out
        rw [show (R k).length - (xs.length + 1 - xs.length) = mz from by rw [HMZ.out]; simp; omega]
      · rw [HRR.out]
        exact row_without HC1.out (by rw [← HRR.out]; exact HLC.out) HCUR.out.2.1
  clear HIX
  go_wp2_with fail
  refine HDL.out.mono ?_
  rintro e w2 ⟨rfl, hrow, hoth, hsz, ho⟩
  have HROW := Lib.hid hrow; have HOTH := Lib.hid hoth; have HSZ := Lib.hid hsz
  have HO2 : Hid (w2.os = w.os ∧ w2.tape = w.tape ∧ w2.output = w.output) := ⟨ho.1.trans HB1.out.os, ho.2.1.trans HB1.out.tape, ho.2.2.trans HB1.out.output⟩
  have HS2 := Lib.hid (HS1.out.keep (hoth tb HGT.out))
  have HM2 := Lib.hid (HU1.out.map.keep (hoth umb (fun e => HGU.out e.symm)))
  have HGL : Hid (g < w2.heap.size) := by obtain ⟨cur', q1, -⟩ := hrow; exact (Array.getElem?_eq_some_iff.1 q1).1
  clear hrow hoth hsz ho hrun c1 hw HDL
  by_cases h0 : xs ++ zs = []
  · go_wp2_with fail
    have h00 : mz = 0 := by rw [HMZ.out, h0]; rfl
    rw [h00]
    have hdel := setUnder_del w2 tb umb n c (some ⟨g, 0, none⟩) F (.pointer bp) pu k HS2.out HM2.out HKL.out
    refine hdel.mono ?_
    rintro e w3 ⟨rfl, n', hle, hm3, hd3⟩
    have HFIN : Hid (Und w3 umb n' (upd F k none) (upd R k (xs ++ zs))) := by
      show Und _ _ _ _ _
      rw [h0]
      refine HU1.out.del hm3 ?_
      intro j g' m' c' hj hF'
      have hg' : g' ≠ g := fun e => hj (HU1.out.inj j k g' m' c' (R k).length c hF' (by rw [e]; exact HF.out))
      obtain ⟨cur, hc, -, -, -, -, -, -, hgu⟩ := HU1.out.cells hF'
      rw [hd3.keep g' (by rw [HSZ.out]; exact (Array.getElem?_eq_some_iff.1 hc).1) hgu, HOTH.out g' hg']
    have HDF : Hid (Did (undX umb F) (undX umb (upd F k none)) w w3) := by
      refine ⟨hd3.os.trans HO2.out.1, hd3.tape.trans HO2.out.2.1, hd3.output.trans HO2.out.2.2, by have h1 := hd3.size; have h2 := HSZ.out; have h3 := HB1.out.size; omega, ?_, ?_⟩
      · intro b hb hx
        rw [hd3.keep b (by have h2 := HSZ.out; have h3 := HB1.out.size; omega) (fun e => hx (.inl e)), HOTH.out b (fun e => hx (.inr ⟨k, _, c, by rw [e]; exact HF.out⟩)), HB1.out.block b hb]
      · rintro b (e | ⟨j, m', c', e⟩)
        · exact .inl (.inl e)
        · by_cases hj : j = k
          · subst hj
            rw [upd_same] at e
            cases e
          · rw [upd_other _ _ hj] at e
            exact .inl (.inr ⟨j, _, _, e⟩)
    have HLE := Lib.hid hle
    clear hm3 hd3 hle
    go_wp2_with fail
    go_end0
    exact ⟨rfl, n', _, HLE.out, HFIN.out, HDF.out⟩
  · go_wp2_with fail
    have hput := setUnder_put w2 tb umb n g mz c F (.pointer bp) pu k HS2.out HM2.out HN.out HKL.out (by intro e; exact h0 (List.eq_nil_of_length_eq_zero (HMZ.out.symm.trans e)))
    refine hput.mono ?_
    rintro e w3 ⟨rfl, hm3, hd3⟩
    rw [show (F k).isSome = true from by rw [HF.out]; rfl, if_pos rfl] at hm3
    have HFIN : Hid (Und w3 umb n (upd F k (some (g, mz, c))) (upd R k (xs ++ zs))) := by
      refine HU1.out.put (w1 := w3) hm3 ⟨HMZ.out, h0, ?_⟩ ?_ ?_ rfl
      · obtain ⟨cur', q1, q2, q3⟩ := HROW.out
        exact ownS.of (Nat.zero_le _) ((hd3.keep g HGL.out HGU.out).trans q1) (by have h8 := HLC.out; have h9 := HZ.out; simp; omega) HCM.out q2 q3
      · intro j g' m' c' hj hF'
        have hg' : g' ≠ g := fun e => hj (HU1.out.inj j k g' m' c' (R k).length c hF' (by rw [e]; exact HF.out))
        obtain ⟨cur, hc, -, -, -, -, -, -, hgu⟩ := HU1.out.cells hF'
        rw [hd3.keep g' (by rw [HSZ.out]; exact (Array.getElem?_eq_some_iff.1 hc).1) hgu, HOTH.out g' hg']
      · intro j m' c' hj hF'
        exact hj (HU1.out.inj j k g m' c' (R k).length c hF' HF.out)
    have HDF : Hid (Did (undX umb F) (undX umb (upd F k (some (g, mz, c)))) w w3) := by
      refine ⟨hd3.os.trans HO2.out.1, hd3.tape.trans HO2.out.2.1, hd3.output.trans HO2.out.2.2, by have h1 := hd3.size; have h2 := HSZ.out; have h3 := HB1.out.size; omega, ?_, ?_⟩
      · intro b hb hx
        rw [hd3.keep b (by have h2 := HSZ.out; have h3 := HB1.out.size; omega) (fun e => hx (.inl e)), HOTH.out b (fun e => hx (.inr ⟨k, _, c, by rw [e]; exact HF.out⟩)), HB1.out.block b hb]
      · rintro b (e | ⟨j, m', c', e⟩)
        · exact .inl (.inl e)
        · by_cases hj : j = k
          · subst hj
            rw [upd_same] at e
            cases e
            exact .inl (.inr ⟨j, _, _, HF.out⟩)
          · rw [upd_other _ _ hj] at e
            exact .inl (.inr ⟨j, _, _, e⟩)
    clear hm3 hd3
    go_wp2_with fail
    go_end0
    exact ⟨rfl, _, _, Nat.le_refl _, HFIN.out, HDF.out⟩
theorem move_row {cur : Array Value} {xs zs : List (List UInt8)} {x : List UInt8} {i nn : Nat} (hi : xs.length = i) (hn : i + 1 + zs.length = nn) (hc : nn ≤ cur.size) (ht : cur.toList.take nn = strCs (xs ++ x :: zs)) :
    ((cur.toList.take i ++ strCs zs ++ cur.toList.drop (i + zs.length)).toArray.setIfInBounds (i + zs.length) (.string (bs x))).toList.take nn = strCs (xs ++ zs ++ [x]) := by
  have h1 : cur.toList.take i = strCs xs := by
    have := congrArg (List.take i) ht
    rw [List.take_take, Nat.min_eq_left (by omega), strCs_append, List.take_append_of_le_length (by rw [strCs_len]; omega), List.take_of_length_le (l := strCs xs) (by rw [strCs_len]; omega)] at this
    exact this
  rw [h1, Array.toList_setIfInBounds, List.toList_toArray]
  have h2 : i + zs.length < cur.toList.length := by simp; omega
  obtain ⟨a, r, hd⟩ : ∃ a r, cur.toList.drop (i + zs.length) = a :: r := by
    cases h : cur.toList.drop (i + zs.length) with
    | nil => have := congrArg List.length h; simp at this; omega
    | cons a r => exact ⟨a, r, rfl⟩
  rw [hd]
  have h3 : (strCs xs ++ strCs zs).length = i + zs.length := by rw [List.length_append, strCs_len, strCs_len, hi]
  rw [List.set_append_right (i + zs.length) _ (by omega), h3, Nat.sub_self, List.set_cons_zero, show nn = (strCs xs ++ strCs zs).length + 1 from by omega, List.take_length_add_append]
  simp [strCs]
set_option maxRecDepth 100000 in
set_option maxHeartbeats 2000000 in
theorem moveToEnd_any (w : World) (g c : Nat) (xs zs : List (List UInt8)) (x : List UInt8) (h : ownS w 0 (.slice (some ⟨g, 0, none⟩) (xs ++ x :: zs).length c) (xs ++ x :: zs)) :
    Calls Tryz.prog 51 #[.slice (some ⟨g, 0, none⟩) (xs ++ x :: zs).length c, .int .i64 (xs.length : Int)] w fun e w' => e = .returned (.tuple #[]) ∧ ownS w' 0 (.slice (some ⟨g, 0, none⟩) (xs ++ x :: zs).length c) (xs ++ zs ++ [x]) ∧ Did (fun b => b = g) (fun b => b = g) w w' := by
  obtain ⟨cur, -, -, hg, a1, a2, a3, a4⟩ := h.cur
  have hn : (xs ++ x :: zs).length = xs.length + 1 + zs.length := by simp; omega
  have hcell : ∀ j, j < (xs ++ x :: zs).length → w.cell? ⟨g, j, none⟩ = (strCs (xs ++ x :: zs))[j]? := fun j hj => by
    have h2 := congrArg (fun l : List Value => l[j]?) a4
    simp only [List.getElem?_take, if_pos hj] at h2
    unfold World.cell?
    rw [hg]
    simp only [Option.isSome_none, Bool.false_eq_true, if_false]
    rw [← Array.getElem?_toList, h2]
  have hc0 : w.cell? ⟨g, xs.length, none⟩ = some (.string (bs x)) := by
    rw [hcell _ (by omega)]
    simp [strCs]
  have hsrc : ∀ j v, (strCs zs)[j]? = some v → w.cell? ⟨g, xs.length + 1 + j, none⟩ = some v := fun j v hv => by
    have hj : j < zs.length := by have := (List.getElem?_eq_some_iff.1 hv).1; rwa [strCs_len] at this
    rw [hcell _ (by omega), strCs_append, List.getElem?_append_right (by rw [strCs_len]; omega), strCs_len]
    rw [show xs.length + 1 + j - xs.length = j + 1 from by omega]
    exact hv
  rw [hn] at a1 a4
  have hinfo : (Tryz.prog.info? 9).map (·.size) = some 1 := by
    have : (Tryz.prog.info? 9).map (fun i => i.size) = some 1 := by kernel_rfl
    exact this
  have hMV := fun (i nn : Nat) (h1 : xs.length = i) (h2 : i + 1 + zs.length = nn) => move_row h1 h2 (cur := cur) (x := x) (zs := zs) (by omega) (by rw [← h2, ← h1]; exact a4)
  have HMV := Lib.hid (hMV _ _ rfl rfl)
  have HG : Hid (w.heap[g]? = some (.cells cur 9 (0, 0)) ∧ cur.size = c ∧ c ≤ maxLen) := ⟨hg, a3, a2⟩
  have HC1 := Lib.hid a1
  have hcz : c ≤ 9223372036854775807 := by unfold maxLen at a2; omega
  have HCP : ∀ (a : Addr), (c = xs.length + 1 ∨ a = ⟨g, xs.length + 1, none⟩) → Hid (∀ W : World, W.heap = w.heap → (Builtin.copy_ #[36, 36] 3 #[.slice (some ⟨g, xs.length, none⟩) (xs.length + 1 + zs.length - xs.length) (c - xs.length), .slice (some a) (xs.length + 1 + zs.length - (xs.length + 1)) (c - (xs.length + 1))]).run Tryz.prog W =
      .ok (goInt (strCs zs).length) (W.setRow g (cur.toList.take xs.length ++ strCs zs ++ cur.toList.drop (xs.length + (strCs zs).length)).toArray)) := fun a ha W hW => by
    refine run_copy_row Tryz.prog W 36 36 3 9 g xs.length _ _ a _ _ cur 9 (strCs zs) Tryz.underlying36 hinfo (by rw [hW]; exact hg) ?_ ?_ ?_ ?_
    · rw [strCs_len, show xs.length + 1 + zs.length - (xs.length + 1) = zs.length from by omega, show xs.length + 1 + zs.length - xs.length = zs.length + 1 from by omega]
      exact (Nat.min_eq_left (Nat.le_succ _)).symm
    · intro j v hv
      rcases ha with ha | rfl
      · have : j < zs.length := by have := (List.getElem?_eq_some_iff.1 hv).1; rwa [strCs_len] at this
        omega
      · rw [Addr.add_mid]
        unfold World.cell?
        rw [hW]
        exact hsrc j v hv
    · rw [strCs_len]; omega
    · intro v hv
      obtain ⟨y, -, rfl⟩ := List.mem_map.1 hv
      rfl
  have hw2 : IntKind.i64.wrap (((xs.length + 1 + zs.length : Nat) : Int) - 1) = ((xs.length + zs.length : Nat) : Int) := by rw [IntKind.wrap_i64]; omega
  have hw : IntKind.i64.wrap ((xs.length : Int) + 1) = (xs.length : Int) + 1 := by rw [IntKind.wrap_i64]; omega
  have hi1 : xs.length ≤ xs.length + 1 + zs.length := by omega
  have hi2 : (0 : Int) ≤ (xs.length : Int) + 1 := by omega
  have hi4 : (xs.length : Int) + 1 ≤ ((xs.length + 1 + zs.length : Nat) : Int) := by omega
  have hi3 : xs.length + zs.length < xs.length + 1 + zs.length := by omega
  have hi5 : xs.length < xs.length + 1 + zs.length := by omega
  have hne1 : ¬ c = xs.length := by omega
  simp only [strCs_len] at HCP
  rw [hn]
  have HFI : Hid (∀ {W : World}, W.heap[g]? = some (.cells ((cur.toList.take xs.length ++ strCs zs ++ cur.toList.drop (xs.length + zs.length)).toArray.setIfInBounds (xs.length + zs.length) (.string (bs x))) 9 (0, 0)) → ownS W 0 (.slice (some ⟨g, 0, none⟩) (xs.length + 1 + zs.length) c) (xs ++ zs ++ [x])) := fun {W} hW => by
    have h8 := HMV.out
    have e1 : (xs ++ zs ++ [x]).length = xs.length + 1 + zs.length := by simp; omega
    have h9 := ownS.of (c := c) (L := xs ++ zs ++ [x]) (Nat.zero_le g) hW (by rw [e1]; exact a1) a2 (by simp [strCs_len, a3]; omega) (by rw [e1]; exact h8)
    rw [e1] at h9
    exact h9
  have HCL : Hid (∀ W : World, W.heap[g]? = some (.cells (cur.toList.take xs.length ++ strCs zs ++ cur.toList.drop (xs.length + zs.length)).toArray 9 (0, 0)) → ∃ u, W.cell? ⟨g, xs.length + zs.length, none⟩ = some u) := fun W hW => by
    refine ⟨((cur.toList.take xs.length ++ strCs zs ++ cur.toList.drop (xs.length + zs.length)).toArray)[xs.length + zs.length]'(by simp [strCs_len, a3]; omega), ?_⟩
    unfold World.cell?
    rw [hW]
    simp only [Option.isSome_none, Bool.false_eq_true, if_false]
    exact Array.getElem?_eq_getElem _
  clear h hg a1 a2 a3 a4 hn hcell hsrc hinfo hMV hcz HMV
  generalize xs.length + zs.length = ie at *
  generalize xs.length + 1 + zs.length = nn at *
  generalize hxl : xs.length = i at *
  clear hxl
  by_cases hce : c = i + 1
  · have HCP := HCP ⟨g, 0, none⟩ (.inl hce)
    go_enter Tryz.func51, Tryz.ntmps51
    go_wp2_with fail
    refine wp_region_growS (.one 0 false (.one 1 false (.one 2 false (.one 3 false (.one 4 false (.one 5 false (.one 6 false (.one 7 true .done))))))))
      (fun _ => True) (by kernel_rfl) (by kernel_rfl) rfl (by kernel_rfl) (by kernel_rfl) trivial (fun ops hops => ?_)
    simp only [GT.ins, List.getD_cons_zero, List.getD_cons_succ]
    clear hops
    iterate 7
      refine growS_take (by rfl) ?_
      apply Exists.intro
      refine ⟨fun w' hE => ?_, ?_⟩
      · skip
        go_simp
        try with_reducible rfl
      simp only [Act.put, List.setIfInBounds_toArray, List.set_cons_zero, List.set_cons_succ]
    refine growS_call (by rfl) (fun K hK => ?_)
    go_simp
    have hrun := HCP.out w.drew rfl
    rw [hce] at hrun
    simp only [Nat.add_sub_cancel_left, Nat.sub_self] at hrun
    go_simp
    refine hK.out _ _ trivial ?_
    clear hK K hrun HCP
    refine growS_done (NoPanic.normal ?_)
    simp only [← List.append_assoc]
    have hg2 := setRow_heap w.drew g cur (cur.toList.take i ++ strCs zs ++ cur.toList.drop ie).toArray 9 (0, 0) HG.out.1
    have hot : ∀ k, k ≠ g → (w.drew.setRow g (cur.toList.take i ++ strCs zs ++ cur.toList.drop ie).toArray).heap[k]? = w.heap[k]? := fun k hk => setRow_other w.drew g k _ hk
    have hsz : (w.drew.setRow g (cur.toList.take i ++ strCs zs ++ cur.toList.drop ie).toArray).heap.size = w.heap.size := setRow_size w.drew g _
    have hos : (w.drew.setRow g (cur.toList.take i ++ strCs zs ++ cur.toList.drop ie).toArray).os = w.os ∧ (w.drew.setRow g (cur.toList.take i ++ strCs zs ++ cur.toList.drop ie).toArray).tape = w.tape ∧ (w.drew.setRow g (cur.toList.take i ++ strCs zs ++ cur.toList.drop ie).toArray).output = w.output := ⟨rfl, rfl, rfl⟩
    generalize w.drew.setRow g (cur.toList.take i ++ strCs zs ++ cur.toList.drop ie).toArray = w2 at *
    have HG2 := Lib.hid hg2; have HOT := Lib.hid hot; have HSZ := Lib.hid hsz; have HOS := Lib.hid hos
    clear hg2 hot hsz hos
    have hcl := HCL.out w2 HG2.out
    have hfz : w2.frozen? ⟨g, ie, none⟩ = false := by simp [World.frozen?, HG2.out]
    obtain ⟨u, hcl⟩ := hcl
    go_wp2_with fail
    go_end0
    have hg3 := Lib.heap_setCell_same HG2.out (.string (bs x)) (i := ie)
    refine ⟨rfl, ?_, ?_⟩
    · have h9 := HFI.out hg3
      exact h9
    · refine ⟨HOS.out.1, HOS.out.2.1, HOS.out.2.2, by rw [size_setCell, HSZ.out]; exact Nat.le_refl _, fun k hk hne => (Below.heap_setCell _ _ _ _ hne).trans (HOT.out k hne), fun k hk => .inl hk⟩
  · have HCP := HCP ⟨g, i + 1, none⟩ (.inr rfl)
    go_enter Tryz.func51, Tryz.ntmps51
    go_wp2_with fail
    refine wp_region_growS (.one 0 false (.one 1 false (.one 2 false (.one 3 false (.one 4 false (.one 5 false (.one 6 false (.one 7 true .done))))))))
      (fun _ => True) (by kernel_rfl) (by kernel_rfl) rfl (by kernel_rfl) (by kernel_rfl) trivial (fun ops hops => ?_)
    simp only [GT.ins, List.getD_cons_zero, List.getD_cons_succ]
    clear hops
    iterate 7
      refine growS_take (by rfl) ?_
      apply Exists.intro
      refine ⟨fun w' hE => ?_, ?_⟩
      · skip
        go_simp
        try with_reducible rfl
      simp only [Act.put, List.setIfInBounds_toArray, List.set_cons_zero, List.set_cons_succ]
    refine growS_call (by rfl) (fun K hK => ?_)
    go_simp
    have hrun := HCP.out w.drew rfl
    go_simp
    refine hK.out _ _ trivial ?_
    clear hK K hrun HCP
    refine growS_done (NoPanic.normal ?_)
    simp only [← List.append_assoc]
    have hg2 := setRow_heap w.drew g cur (cur.toList.take i ++ strCs zs ++ cur.toList.drop ie).toArray 9 (0, 0) HG.out.1
    have hot : ∀ k, k ≠ g → (w.drew.setRow g (cur.toList.take i ++ strCs zs ++ cur.toList.drop ie).toArray).heap[k]? = w.heap[k]? := fun k hk => setRow_other w.drew g k _ hk
    have hsz : (w.drew.setRow g (cur.toList.take i ++ strCs zs ++ cur.toList.drop ie).toArray).heap.size = w.heap.size := setRow_size w.drew g _
    have hos : (w.drew.setRow g (cur.toList.take i ++ strCs zs ++ cur.toList.drop ie).toArray).os = w.os ∧ (w.drew.setRow g (cur.toList.take i ++ strCs zs ++ cur.toList.drop ie).toArray).tape = w.tape ∧ (w.drew.setRow g (cur.toList.take i ++ strCs zs ++ cur.toList.drop ie).toArray).output = w.output := ⟨rfl, rfl, rfl⟩
    generalize w.drew.setRow g (cur.toList.take i ++ strCs zs ++ cur.toList.drop ie).toArray = w2 at *
    have HG2 := Lib.hid hg2; have HOT := Lib.hid hot; have HSZ := Lib.hid hsz; have HOS := Lib.hid hos
    clear hg2 hot hsz hos
    have hcl := HCL.out w2 HG2.out
    have hfz : w2.frozen? ⟨g, ie, none⟩ = false := by simp [World.frozen?, HG2.out]
    obtain ⟨u, hcl⟩ := hcl
    go_wp2_with fail
    go_end0
    have hg3 := Lib.heap_setCell_same HG2.out (.string (bs x)) (i := ie)
    refine ⟨rfl, ?_, ?_⟩
    · have h9 := HFI.out hg3
      exact h9
    · refine ⟨HOS.out.1, HOS.out.2.1, HOS.out.2.2, by rw [size_setCell, HSZ.out]; exact Nat.le_refl _, fun k hk hne => (Below.heap_setCell _ _ _ _ hne).trans (HOT.out k hne), fun k hk => .inl hk⟩
end Go.Proofs.YtopgeclecpaecaaGreatDoor
