/- A key is dropped; which of the entries under a key was put last, of those that match. -/
import Derived.Test.YtopgeclecpaecaaGreatDoorKKpH
import Derived.Test.YtopgeclecpaecaaGreatDoorKVary
namespace Go.Proofs.YtopgeclecpaecaaGreatDoor
open Go.RowKit
def dropL (ids : List (List UInt8)) (A : List (It He)) : List (It He) := A.filter fun a => !ids.contains a.1
theorem dropL_nil (A : List (It He)) : dropL [] A = A := by unfold dropL; rw [List.filter_eq_self]; intro a _; rfl
theorem dropL_snoc (ids : List (List UInt8)) (i : List UInt8) (A : List (It He)) : dropL (ids ++ [i]) A = dropK i (dropL ids A) := by
  unfold dropL dropK
  rw [List.filter_filter]
  apply List.filter_congr
  intro a _
  rw [Bool.eq_iff_iff]
  simp [and_comm]
theorem dropL_sub (ids : List (List UInt8)) (A : List (It He)) : (dropL ids A).Sublist A := List.filter_sublist
theorem dropL_row {A : List (It He)} (ho : Of A) (k : List UInt8) : dropL (rowS A k) A = dropS A k := by
  unfold dropL dropS
  apply List.filter_congr
  intro a ha
  congr 1
  rw [Bool.eq_iff_iff, List.contains_iff_mem, beq_iff_eq]
  constructor
  · intro h
    obtain ⟨b, hb, e⟩ := List.mem_map.1 h
    have hb' := List.mem_filter.1 hb
    rw [← of_id ho hb'.1 ha e]
    exact beq_iff_eq.1 hb'.2
  · intro h
    exact List.mem_map.2 ⟨a, List.mem_filter.2 ⟨ha, beq_iff_eq.2 h⟩, rfl⟩
theorem rowOf {w : World} {umb nF : Nat} {F : List UInt8 → Option Hd} {R : List UInt8 → List (List UInt8)} (h : Und w umb nF F R) (k : List UInt8) : ownS w 0 (sliV (F k)) (R k) ∧ ∃ Ag cg, sliV (F k) = .slice Ag (R k).length cg ∧ (∀ g, (sliV (F k)).ownBlock = some g → undX umb F g) := by
  have h1 := h.row k
  cases hFk : F k with
  | none =>
    rw [hFk] at h1
    have h2 : R k = [] := h1
    rw [h2]
    exact ⟨ownS_nil _ _, none, 0, rfl, fun g e => by cases e⟩
  | some o =>
    rw [hFk] at h1
    obtain ⟨g0, m0, c0⟩ := o
    obtain ⟨h2, -, h3⟩ := h1
    subst h2
    exact ⟨h3, _, _, rfl, fun g e => by cases e; exact .inr ⟨k, _, _, hFk⟩⟩
set_option maxRecDepth 100000 in
set_option maxHeartbeats 3000000 in
theorem sdrop_any {w : World} {s : Nat} {X : Nat → Prop} {n m : Nat} {A : List (It He)} {pu : Nat} (h : Sto w s X n m A pu) (k : List UInt8) (hk : k.length ≤ 300) :
    Calls Tryz.prog 20 #[.pointer (some ⟨s, 0, none⟩), .string (bs k)] w fun r w' => r = .returned (.int .i64 ((rowS A k).length : Int)) ∧ ∃ X', Sto w' s X' n m (dropS A k) pu ∧ Did X X' w w' := by
  obtain ⟨tb, bb, umb, nF, XB, F, l, hw⟩ := h
  have HK := Lib.hid (skept_any s tb w hw.top)
  have c1 := hw.st.st.cell 1 (.map (some umb)) rfl
  have hkm : k.length ≤ maxLen := by unfold maxLen; omega
  have hrun := hw.st.und.map.look Tryz.underlying9 Tryz.underlying62 (zeroSl w) k hkm
  obtain ⟨hrow, Ag, cg, hsl, hgx⟩ := rowOf hw.st.und k
  rw [hsl] at hrun hrow hgx
  have HROW := Lib.hid hrow; have HGX := Lib.hid hgx
  have HW := Lib.hid hw
  have HKL : Hid (k.length ≤ 281474976710656) := by show _ ≤ _; omega
  have HIDS : Hid (∀ i ∈ rowS A k, i.length ≤ KL) := fun i hi => by
    obtain ⟨a, ha, rfl⟩ := List.mem_map.1 hi
    have ha' := (List.mem_filter.1 ha).1
    have h1 := hw.sm a ha'
    rw [congrArg Prod.fst (hw.of a ha')]
    exact Nat.le_trans (idT_len h1.k h1.vy) KL_7000
  have HLN : Hid ((rowS A k).length ≤ 4096) := by
    have h1 := hw.st.bud.ok.len
    have h2 := hw.st.bud.bounds.2.1
    have h3 := hw.sim.len
    have h4 : (rowS A k).length ≤ A.length := by unfold rowS; rw [List.length_map]; exact List.length_filter_le _ _
    show _ ≤ _; omega
  have HS0 : Hid (Sim (Hld w (stX tb umb F XB)) A l) := hw.sim.mono (fun a b q => q.wider (fun b e => .inl (by rw [hw.eX]; exact .inr e)))
  clear hw hrow hgx hsl hkm
  generalize HL : rowS A k = L at *
  have HL := Lib.hid HL
  go_enter Tryz.func20, Tryz.ntmps20
  go_wp2_with fail
  refine HK.out.mono ?_
  rintro r wx ⟨rfl, rfl⟩
  go_wp2_with fail
  clear hrun c1
  go_loopg [19] L.length (fun c i wr => ∃ (j : Nat) (XB' : Nat → Prop) (l' : List (It Iv)), i = .int .i64 j ∧ j + c = L.length ∧ Hid (StI wr tb bb umb nF XB' F n m l' (rowS A) pu ∧ Sim (Hld wr (stX tb umb F XB')) (dropL (L.take j) A) l' ∧ Did (stX tb umb F XB) (stX tb umb F XB') w wr ∧ Did XB XB' w wr))
  case atStart => exact ⟨0, XB, l, rfl, by omega, HW.out.st, by rw [List.take_zero, dropL_nil]; exact HS0.out, Did.refl _ _, Did.refl _ _⟩
  case round =>
    obtain ⟨j, XB', l', rfl, hj, hr⟩ := hrel
    have HST := Lib.hid hr.out.1; have HS := Lib.hid hr.out.2.1; have HD := Lib.hid hr.out.2.2.1; have HDB := Lib.hid hr.out.2.2.2
    clear hr
    have hln := HLN.out
    by_cases hend : j < L.length
    · obtain ⟨g, rfl, hcv⟩ := ownS.cell HROW.out j hend
      have hgu := HGX.out g rfl
      have c1 : wr.cell? ⟨g, j, none⟩ = some (.string (bs (L.getD j []))) := (World.cell?_of_block (a := ⟨g, j, none⟩) (HDB.out.keep g (World.ownsRow.lt HROW.out g rfl).2 (fun q => (HW.out.st.dis g q).2 hgu))).trans hcv
      have hgd : L.getD j [] = L[j] := by simp [List.getD, hend]
      rw [hgd] at c1
      have c0 := HST.out.st.cell 0 (.pointer (some ⟨bb, 0, none⟩)) rfl
      have HDR := Lib.hid (BT.drop_any HST.out.bud L[j] (HIDS.out _ (List.getElem_mem hend)))
      have HTK : Hid (L.take (j + 1) = L.take j ++ [L[j]]) := List.take_succ_eq_append_getElem hend
      have HKK : Hid (gk - 1 < gk ∧ j + 1 + (gk - 1) = L.length) := ⟨by omega, by omega⟩
      have HJJ : Hid (j < 1000000) := by show _ < _; omega
      clear hgu hcv hgd hj hln
      generalize L[j] = i at *
      go_wp2_with fail
      refine HDR.out.mono ?_
      rintro r w2 ⟨rfl, XB2, hb2, hd2⟩
      obtain ⟨hs2, hd2x⟩ := HST.out.budget hb2 hd2
      have HST2 := Lib.hid hs2
      have HS2 : Hid (Sim (Hld w2 (stX tb umb F XB2)) (dropL (L.take (j + 1)) A) (dropK i l')) := by
        show Sim _ _ _
        rw [HTK.out, dropL_snoc]
        exact (HS.out.drop i).mono (fun a b q => q.did hd2x)
      have HD2 := Lib.hid (HD.out.trans hd2x)
      have HDB2 := Lib.hid (HDB.out.trans hd2)
      clear hs2 hd2x hb2 hd2 c0 c1 HST HS HD HDB HDR
      go_wp2_with fail
      go_roundg (gk - 1)
      case measure => exact HKK.out.1
      case rel => exact ⟨j + 1, XB2, _, by first | rfl | exact wrapJ j HJJ.out, HKK.out.2, HST2.out, HS2.out, HD2.out, HDB2.out⟩
    · have HE : Hid (dropL (L.take j) A = dropS A k) := by
        show _ = _
        rw [List.take_of_length_le (by omega), ← HL.out, dropL_row HW.out.of]
      have HSU := Lib.hid (setUnder_del wr tb umb nF 0 none F _ _ k HST.out.st HST.out.und.map HKL.out)
      clear hj hln
      go_wp2_with fail
      refine HSU.out.mono ?_
      rintro r w3 ⟨rfl, n', hle, hm3, hd3⟩
      have hu3 := HST.out.und.del (k := k) hm3 (fun q g m' c' hq hF => by
        obtain ⟨cur, hc, -, -, -, -, -, -, hgu⟩ := HST.out.und.cells hF
        exact hd3.keep g (Array.getElem?_eq_some_iff.1 hc).1 hgu)
      have hdu : Did (undX umb F) (undX umb (upd F k none)) wr w3 := by
        refine ⟨hd3.os, hd3.tape, hd3.output, hd3.size, fun b hb' hx => hd3.keep b hb' (fun e => hx (.inl e)), ?_⟩
        rintro b (e | ⟨q, m', c', e⟩)
        · exact .inl (.inl e)
        · by_cases hq : q = k
          · subst hq; rw [upd_same] at e; cases e
          · rw [upd_other _ _ hq] at e; exact .inl (.inr ⟨q, _, _, e⟩)
      obtain ⟨hs3, hd3x⟩ := HST.out.rows hu3 hdu
      have hR : upd (rowS A) k [] = rowS (dropS A k) := by
        funext q
        rw [rowS_drop]
        by_cases hq : q = k
        · rw [if_pos hq, hq, upd_same]
        · rw [if_neg hq, upd_other _ _ hq]
      rw [hR] at hs3
      have HRES : Hid (∃ X', Sto w3 s X' n m (dropS A k) pu ∧ Did X X' w w3) := by
        have hsl : (dropS A k).Sublist A := List.filter_sublist
        obtain ⟨u1, u2, u3⟩ := HW.out.subs (fun a ha => hsl.subset ha)
        have hsm := HS.out.mono (Q := Hld w3 (stX tb umb (upd F k none) XB')) (fun a b q => q.did hd3x)
        rw [HE.out] at hsm
        exact HW.out.done hs3 (HD.out.trans hd3x) hsm (Nat.le_trans hle HW.out.nF) u1 u2 u3 (HW.out.nd.sublist (hsl.map _))
      clear hle hm3 hd3 hu3 hdu hs3 hd3x hR HSU HST HS HD HDB
      go_wp2_with fail
      go_ret
      exact ⟨rfl, HRES.out⟩
theorem SmF.vfb {l : List Fld} (h : SmF l) : VfB l := ⟨by have := h.len; omega, fun f hf => by have := h.at_ f hf; omega⟩
theorem latG_step (req : List Fld) (h : He) (r : List He) (i : Nat) (p : Int) (mx : Nat) : latG req (h :: r) i p mx = if mx < h.n ∧ matchB h.e.vy req = true then latG req r (i + 1) i h.n else latG req r (i + 1) p mx := rfl
theorem item_oneH (h : He) (Af Av : Option Addr) (cf cv : Nat) : (#[.int .i64 h.e.st, .string (bs h.e.re), .int .i64 h.e.mi, .slice Af h.e.fs.length cf, .string (bs h.e.bo), .int .i64 h.e.ak, .int .i64 h.e.gt, .slice Av h.e.vy.length cv, .int .i64 (h.n : Int)] : Array Value).all (·.oneCell') = true := by kernel_rfl
set_option maxRecDepth 100000 in
set_option maxHeartbeats 4000000 in
theorem latest_any {w : World} {tb bb umb nF n m pu : Nat} {XB : Nat → Prop} {F : List UInt8 → Option Hd} {l : List (It Iv)} {A : List (It He)} (hst : StI w tb bb umb nF XB F n m l (rowS A) pu) (hsim : Sim (Hld w (stX tb umb F XB)) A l) (hof : Of A) (hsm : ∀ a ∈ A, SmE a.2.2.key a.2.2.e) (hnum : ∀ a ∈ A, a.2.2.n ≤ 1000000) (hnd : (keysK A).Nodup) (hln : A.length ≤ 4096)
    (k : List UInt8) (Ag : Option Addr) (cg : Nat) (hsl : sliV (F k) = .slice Ag (rowS A k).length cg) (vr : Value) (req : List Fld) (hr : FL w vr req) (hreq : VfB req) :
    Calls Tryz.prog 49 #[.pointer (some ⟨tb, 0, none⟩), .slice Ag (rowS A k).length cg, vr] w fun r w' => r = .returned (.int .i64 (latS A k req)) ∧ Below w.heap.size w w' := by
  obtain ⟨Ar, cr, hrf⟩ := hr.form
  subst hrf
  have HROW : Hid (ownS w 0 (.slice Ag (rowS A k).length cg) (rowS A k)) := by rw [← hsl]; exact (rowOf hst.und k).1
  have HST := Lib.hid hst; have HSIM := Lib.hid hsim; have HR := Lib.hid hr
  have hhl : (helds A k).length = (rowS A k).length := by simp [helds, rowS]
  have HH : Hid (∀ j (hj : j < (rowS A k).length), ∃ (h : He) (y : It Iv), (helds A k)[j]? = some h ∧ SmE h.key h.e ∧ h.n ≤ 1000000 ∧ findK ((rowS A k)[j]) l = some y ∧ Hld w (stX tb umb F XB) h y.2.2 ∧ ((rowS A k)[j]).length ≤ KL) := fun j hj => by
    have hj' : j < (A.filter fun a => a.2.2.key == k).length := by simpa [rowS] using hj
    have e1 : (rowS A k)[j] = (A.filter fun a => a.2.2.key == k)[j].1 := by simp [rowS]
    have e2 : (helds A k)[j]? = some (A.filter fun a => a.2.2.key == k)[j].2.2 := by simp [helds, hj']
    have hmem : (A.filter fun a => a.2.2.key == k)[j] ∈ A := (List.mem_filter.1 (List.getElem_mem hj')).1
    generalize (A.filter fun a => a.2.2.key == k)[j] = a at *
    have hfa : findK a.1 A = some a := by
      obtain ⟨xs, zs, hA⟩ := List.append_of_mem hmem
      rw [hA]
      refine findK_mid rfl (fun q => ?_)
      rw [hA, keysK_append, List.nodup_append] at hnd
      exact hnd.2.2 a.1 q a.1 (by simp [keysK]) rfl
    have hs1 := hsm a hmem
    have hlen : a.1.length ≤ KL := by rw [congrArg Prod.fst (hof a hmem)]; exact Nat.le_trans (idT_len hs1.k hs1.vy) KL_7000
    rcases hsim.find a.1 with ⟨q, -⟩ | ⟨a', y, q1, q2, -, -, q3⟩
    · rw [hfa] at q; cases q
    · rw [hfa] at q1
      cases q1
      exact ⟨a.2.2, y, e2, hs1, hnum a hmem, by rw [e1]; exact q2, q3, by rw [e1]; exact hlen⟩
  have HLN : Hid ((rowS A k).length ≤ 4096) := by
    have h4 : (rowS A k).length ≤ A.length := by unfold rowS; rw [List.length_map]; exact List.length_filter_le _ _
    show _ ≤ _; omega
  have HVF : Hid (VfB req) := hreq
  have HLT : Hid (latS A k req = latG req (helds A k) 0 (-1) 0) := rfl
  clear hst hsim hof hsm hnum hnd hln hsl hr hreq
  generalize helds A k = hs at *
  generalize latS A k req = res at *
  generalize rowS A k = L at *
  have HHL := Lib.hid hhl; clear hhl
  go_enter Tryz.func49, Tryz.ntmps49
  go_wp2_with fail
  go_loopg [7, 8, 15] L.length (fun c a b i wr => ∃ (j : Nat) (p : Int) (mx : Nat), a = .int .i64 p ∧ b = .int .i64 (mx : Int) ∧ i = .int .i64 j ∧ j + c = L.length ∧ Hid (latG req (hs.drop j) j p mx = res ∧ Below w.heap.size w wr))
  case atStart => exact ⟨0, -1, 0, rfl, rfl, rfl, by omega, by rw [List.drop_zero, HLT.out], Below.refl _ _⟩
  case round =>
    obtain ⟨j, p, mx, rfl, rfl, rfl, hj, hr⟩ := hrel
    have HRE := Lib.hid hr.out.1; have HB := Lib.hid hr.out.2
    clear hr
    have hln := HLN.out
    by_cases hend : j < L.length
    · obtain ⟨h, y, hh1, hsm, hn, hfy, hhld, hil⟩ := HH.out j hend
      obtain ⟨g, rfl, hcv⟩ := ownS.cell (HROW.out.bel HB.out) j hend
      have hgd : L.getD j [] = L[j] := by simp [List.getD, hend]
      rw [hgd] at hcv
      have hhj : j < hs.length := (List.getElem?_eq_some_iff.1 hh1).1
      have hdr : hs.drop j = h :: hs.drop (j + 1) := by rw [List.drop_eq_getElem_cons hhj, (List.getElem?_eq_some_iff.1 hh1).2]
      have hre := HRE.out
      rw [hdr, latG_step] at hre
      have HRE2 := Lib.hid hre
      have hstr := HST.out.bel HB.out
      have c0 := hstr.st.cell 0 (.pointer (some ⟨bb, 0, none⟩)) rfl
      have hpk := BT.peek_any hstr.bud L[j] hil
      rw [hfy] at hpk
      obtain ⟨Af, cf, hf3⟩ := hhld.c3.fl.form
      obtain ⟨Av, cv, hf7⟩ := hhld.c7.fl.form
      have HFV := Lib.hid hhld.c7.fl
      have hy : (valK BT.zero (some y)).agg = .agg #[.int .i64 h.e.st, .string (bs h.e.re), .int .i64 h.e.mi, .slice Af h.e.fs.length cf, .string (bs h.e.bo), .int .i64 h.e.ak, .int .i64 h.e.gt, .slice Av h.e.vy.length cv, .int .i64 (h.n : Int)] := by
        show Value.agg #[y.2.2.c0, y.2.2.c1, y.2.2.c2, y.2.2.c3, y.2.2.c4, y.2.2.c5, y.2.2.c6, y.2.2.c7, y.2.2.c8] = _
        rw [hhld.c0, hhld.c1, hhld.c2, hf3, hhld.c4, hhld.c5, hhld.c6, hf7, hhld.c8]
      rw [hy] at hpk
      rw [hf7] at HFV
      have HPK := Lib.hid hpk
      have HSV := Lib.hid hsm.vy
      have HKK : Hid (gk - 1 < gk ∧ j + 1 + (gk - 1) = L.length) := ⟨by omega, by omega⟩
      have HJJ : Hid (j < 1000000) := by show _ < _; omega
      clear hh1 hsm hfy hhld hil hgd hhj hdr hre hstr hpk hf3 hf7 hy hj hln
      generalize L[j] = ij at *
      go_wp2_with fail
      refine HPK.out.mono ?_
      rintro r w6 ⟨rfl, hb6⟩
      have HB6 := Lib.hid (HB.out.trans (hb6.mono HB.out.size))
      have HST7 : Hid (World.there (w6.alloc (.cells #[.int .i64 0, .string ⟨#[]⟩, .int .i64 0, .slice none 0 0, .string ⟨#[]⟩, .int .i64 0, .int .i64 0, .slice none 0 0, .int .i64 0] 61)) w6.heap.size 0 9) := (bk.new w6 #[.int .i64 0, .string ⟨#[]⟩, .int .i64 0, .slice none 0 0, .string ⟨#[]⟩, .int .i64 0, .int .i64 0, .slice none 0 0, .int .i64 0] 61).there 0 9 (by decide)
      have HB7 : Hid (Below w.heap.size w (World.setCells (w6.alloc (.cells #[.int .i64 0, .string ⟨#[]⟩, .int .i64 0, .slice none 0 0, .string ⟨#[]⟩, .int .i64 0, .int .i64 0, .slice none 0 0, .int .i64 0] 61)) w6.heap.size 0 [.int .i64 h.e.st, .string (bs h.e.re), .int .i64 h.e.mi, .slice Af h.e.fs.length cf, .string (bs h.e.bo), .int .i64 h.e.ak, .int .i64 h.e.gt, .slice Av h.e.vy.length cv, .int .i64 (h.n : Int)])) := HB6.out.trans ((Below.cells ((Below.refl w6.heap.size w6).alloc (Nat.le_refl _) _) _ (Nat.le_refl _) [.int .i64 h.e.st, .string (bs h.e.re), .int .i64 h.e.mi, .slice Af h.e.fs.length cf, .string (bs h.e.bo), .int .i64 h.e.ak, .int .i64 h.e.gt, .slice Av h.e.vy.length cv, .int .i64 (h.n : Int)] 0).mono HB6.out.size)
      have HBK : Hid (bk (World.setCells (w6.alloc (.cells #[.int .i64 0, .string ⟨#[]⟩, .int .i64 0, .slice none 0 0, .string ⟨#[]⟩, .int .i64 0, .int .i64 0, .slice none 0 0, .int .i64 0] 61)) w6.heap.size 0 [.int .i64 h.e.st, .string (bs h.e.re), .int .i64 h.e.mi, .slice Af h.e.fs.length cf, .string (bs h.e.bo), .int .i64 h.e.ak, .int .i64 h.e.gt, .slice Av h.e.vy.length cv, .int .i64 (h.n : Int)]) w6.heap.size #[.int .i64 h.e.st, .string (bs h.e.re), .int .i64 h.e.mi, .slice Af h.e.fs.length cf, .string (bs h.e.bo), .int .i64 h.e.ak, .int .i64 h.e.gt, .slice Av h.e.vy.length cv, .int .i64 (h.n : Int)]) := (bk.new w6 #[.int .i64 0, .string ⟨#[]⟩, .int .i64 0, .slice none 0 0, .string ⟨#[]⟩, .int .i64 0, .int .i64 0, .slice none 0 0, .int .i64 0] 61).setAll [.int .i64 h.e.st, .string (bs h.e.re), .int .i64 h.e.mi, .slice Af h.e.fs.length cf, .string (bs h.e.bo), .int .i64 h.e.ak, .int .i64 h.e.gt, .slice Av h.e.vy.length cv, .int .i64 (h.n : Int)] rfl
      have HON := item_oneH h Af Av cf cv
      have HON := Lib.hid HON
      clear hb6 c0 hcv
      by_cases hgt : mx < h.n
      · have hgt' : (mx : Int) < (h.n : Int) := by omega
        have HMT := Lib.hid fun (W : World) (hW : Below w.heap.size w W) => vmatches_any (a0 := .int .i64 h.e.st) (a1 := .string (bs h.e.re)) (a2 := .int .i64 h.e.mi) (a3 := .slice Af h.e.fs.length cf) (a4 := .string (bs h.e.bo)) (a5 := .int .i64 h.e.ak) (a6 := .int .i64 h.e.gt) W (HFV.out.bel hW) (HR.out.bel hW) HVF.out (fun q hq => by have := HSV.out.at_ _ (List.getElem_mem hq); omega) (by have := HSV.out.len; omega)
        go_wp2_with (refine wpList_store_mid rfl 61 (.tmp 11) (.tmp 27) rfl _ 0 #[.int .i64 h.e.st, .string (bs h.e.re), .int .i64 h.e.mi, .slice Af h.e.fs.length cf, .string (bs h.e.bo), .int .i64 h.e.ak, .int .i64 h.e.gt, .slice Av h.e.vy.length cv, .int .i64 (h.n : Int)] rfl rfl HST7.out BT.infoT.out HON.out ?_; clear HST7; generalize (World.setCells (w6.alloc (.cells #[.int .i64 0, .string ⟨#[]⟩, .int .i64 0, .slice none 0 0, .string ⟨#[]⟩, .int .i64 0, .int .i64 0, .slice none 0 0, .int .i64 0] 61)) w6.heap.size 0 [.int .i64 h.e.st, .string (bs h.e.re), .int .i64 h.e.mi, .slice Af h.e.fs.length cf, .string (bs h.e.bo), .int .i64 h.e.ak, .int .i64 h.e.gt, .slice Av h.e.vy.length cv, .int .i64 (h.n : Int)]) = w7 at *; have q0 := HBK.out.cell 0 (.int .i64 h.e.st) rfl; have q1 := HBK.out.cell 1 (.string (bs h.e.re)) rfl; have q2 := HBK.out.cell 2 (.int .i64 h.e.mi) rfl; have q3 := HBK.out.cell 3 (.slice Af h.e.fs.length cf) rfl; have q4 := HBK.out.cell 4 (.string (bs h.e.bo)) rfl; have q5 := HBK.out.cell 5 (.int .i64 h.e.ak) rfl; have q6 := HBK.out.cell 6 (.int .i64 h.e.gt) rfl; have q7 := HBK.out.cell 7 (.slice Av h.e.vy.length cv) rfl; have q8 := HBK.out.cell 8 (.int .i64 (h.n : Int)) rfl)
        clear q0 q1 q2 q3 q4 q5 q6 q7 q8
        refine (HMT.out w7 HB7.out).mono ?_
        rintro r w8 ⟨rfl, hb8⟩
        have HB8 := Lib.hid (HB7.out.trans (hb8.mono HB7.out.size))
        have HBK8 := Lib.hid (HBK.out.below hb8)
        clear hb8 HMT
        have q8 := HBK8.out.cell 8 (.int .i64 (h.n : Int)) rfl
        cases hmb : matchB h.e.vy req
        · go_wp2_with fail
          go_roundg (gk - 1)
          case measure => exact HKK.out.1
          case rel => exact ⟨j + 1, p, mx, rfl, rfl, by first | rfl | exact wrapJ j HJJ.out, HKK.out.2, by have := HRE2.out; rw [if_neg (by rw [hmb]; simp)] at this; exact this, HB8.out⟩
        · go_wp2_with fail
          have hqd := fun q : Nat => (show (w8.drewN q).cell? ⟨w6.heap.size, 8, none⟩ = some (.int .i64 (h.n : Int)) from q8)
          go_quiet (fail)
          go_wp2_with fail
          go_roundg (gk - 1)
          case measure => exact HKK.out.1
          case rel => exact ⟨j + 1, (j : Int), h.n, rfl, rfl, by first | rfl | exact wrapJ j HJJ.out, HKK.out.2, by have := HRE2.out; rw [if_pos ⟨hgt, hmb⟩] at this; exact this, below_dnX HB8.out _⟩
      · have hle' : ¬ (mx : Int) < (h.n : Int) := by omega
        go_wp2_with (refine wpList_store_mid rfl 61 (.tmp 11) (.tmp 27) rfl _ 0 #[.int .i64 h.e.st, .string (bs h.e.re), .int .i64 h.e.mi, .slice Af h.e.fs.length cf, .string (bs h.e.bo), .int .i64 h.e.ak, .int .i64 h.e.gt, .slice Av h.e.vy.length cv, .int .i64 (h.n : Int)] rfl rfl HST7.out BT.infoT.out HON.out ?_; clear HST7; generalize (World.setCells (w6.alloc (.cells #[.int .i64 0, .string ⟨#[]⟩, .int .i64 0, .slice none 0 0, .string ⟨#[]⟩, .int .i64 0, .int .i64 0, .slice none 0 0, .int .i64 0] 61)) w6.heap.size 0 [.int .i64 h.e.st, .string (bs h.e.re), .int .i64 h.e.mi, .slice Af h.e.fs.length cf, .string (bs h.e.bo), .int .i64 h.e.ak, .int .i64 h.e.gt, .slice Av h.e.vy.length cv, .int .i64 (h.n : Int)]) = w7 at *; have q0 := HBK.out.cell 0 (.int .i64 h.e.st) rfl; have q1 := HBK.out.cell 1 (.string (bs h.e.re)) rfl; have q2 := HBK.out.cell 2 (.int .i64 h.e.mi) rfl; have q3 := HBK.out.cell 3 (.slice Af h.e.fs.length cf) rfl; have q4 := HBK.out.cell 4 (.string (bs h.e.bo)) rfl; have q5 := HBK.out.cell 5 (.int .i64 h.e.ak) rfl; have q6 := HBK.out.cell 6 (.int .i64 h.e.gt) rfl; have q7 := HBK.out.cell 7 (.slice Av h.e.vy.length cv) rfl; have q8 := HBK.out.cell 8 (.int .i64 (h.n : Int)) rfl)
        go_roundg (gk - 1)
        case measure => exact HKK.out.1
        case rel => exact ⟨j + 1, p, mx, rfl, rfl, by first | rfl | exact wrapJ j HJJ.out, HKK.out.2, by have := HRE2.out; rw [if_neg (fun q => hgt q.1)] at this; exact this, HB7.out⟩
    · have HRE2 : Hid (p = res) := by
        have h1 := HRE.out
        rw [List.drop_eq_nil_of_le (by have := HHL.out; omega)] at h1
        exact h1
      clear hj hln
      go_wp2_with fail
      go_ret
      exact ⟨by rw [← HRE2.out]; rfl, HB.out⟩
end Go.Proofs.YtopgeclecpaecaaGreatDoor
