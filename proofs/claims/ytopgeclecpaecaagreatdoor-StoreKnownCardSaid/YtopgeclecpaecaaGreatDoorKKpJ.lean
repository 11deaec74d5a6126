/- The entry that was put last, of those that match, is found. -/
import Derived.Test.YtopgeclecpaecaaGreatDoorKKpI
import Derived.Test.YtopgeclecpaecaaGreatDoorKMeet
namespace Go.Proofs.YtopgeclecpaecaaGreatDoor
open Go.RowKit
theorem latG_range (req : List Fld) : ∀ (l : List He) (i : Nat) (p : Int) (m : Nat), latG req l i p m = p ∨ ∃ j, j < l.length ∧ latG req l i p m = ((i + j : Nat) : Int)
  | [], _, _, _ => .inl rfl
  | h :: r, i, p, m => by
    rw [latG_step]
    split
    · rcases latG_range req r (i + 1) i h.n with e | ⟨j, hj, e⟩
      · exact .inr ⟨0, by simp, by rw [e]; rfl⟩
      · exact .inr ⟨j + 1, by simp; omega, by rw [e]; congr 1; omega⟩
    · rcases latG_range req r (i + 1) p m with e | ⟨j, hj, e⟩
      · exact .inl e
      · exact .inr ⟨j + 1, by simp; omega, by rw [e]; congr 1; omega⟩
/-- the one that is found -/
def foundS (A : List (It He)) (k : List UInt8) (req : List Fld) : Option (It He) := if latS A k req < 0 then none else (A.filter fun a => a.2.2.key == k)[(latS A k req).toNat]?
def findA (A : List (It He)) (k : List UInt8) (req : List Fld) : List (It He) := match foundS A k req with
  | none => A
  | some a => getK a.1 A
theorem found_at {A : List (It He)} {k : List UInt8} {req : List Fld} (h : ¬ latS A k req < 0) : ∃ (p : Nat) (a : It He), latS A k req = p ∧ foundS A k req = some a ∧ (A.filter fun a => a.2.2.key == k)[p]? = some a := by
  have hl : (helds A k).length = (A.filter fun a => a.2.2.key == k).length := by simp [helds]
  rcases latG_range req (helds A k) 0 (-1) 0 with e | ⟨j, hj, e⟩
  · exact absurd (show latS A k req < 0 from by unfold latS; rw [e]; decide) h
  · have e' : latS A k req = (j : Int) := by unfold latS; rw [e]; simp
    rw [hl] at hj
    exact ⟨j, _, e', by unfold foundS; rw [if_neg h, e']; simp [hj], List.getElem?_eq_getElem hj⟩
/-- what is found, goes to the end of its row -/
theorem found_rows {A : List (It He)} {k : List UInt8} {p : Nat} {a : It He} (hnd : (keysK A).Nodup) (hp : (A.filter fun a => a.2.2.key == k)[p]? = some a) :
    a ∈ A ∧ a.2.2.key = k ∧ ∃ xs zs, rowS A k = xs ++ a.1 :: zs ∧ xs.length = p ∧ findK a.1 A = some a ∧ rowS (getK a.1 A) = upd (rowS A) k (xs ++ zs ++ [a.1]) := by
  obtain ⟨hpl, hpe⟩ := List.getElem?_eq_some_iff.1 hp
  have hmf : a ∈ A.filter fun a => a.2.2.key == k := by rw [← hpe]; exact List.getElem_mem hpl
  obtain ⟨hm, hk⟩ := List.mem_filter.1 hmf
  have hk : a.2.2.key = k := beq_iff_eq.1 hk
  have hpl' : p < (rowS A k).length := by simpa [rowS] using hpl
  have hpe' : (rowS A k)[p] = a.1 := by
    show ((A.filter fun a => a.2.2.key == k).map (·.1))[p]'(by simpa using hpl) = a.1
    rw [List.getElem_map, hpe]
  obtain ⟨us, vs, hA⟩ := List.append_of_mem hm
  have hfa : findK a.1 A = some a := by
    rw [hA]
    refine findK_mid rfl (fun q => ?_)
    rw [hA, keysK_append, List.nodup_append] at hnd
    exact hnd.2.2 a.1 q a.1 (by simp [keysK]) rfl
  have hrow : rowS A k = (rowS A k).take p ++ a.1 :: (rowS A k).drop (p + 1) := by
    rw [← hpe', ← List.drop_eq_getElem_cons hpl', List.take_append_drop]
  have hnr : (rowS A k).Nodup := hnd.sublist (by unfold rowS keysK; exact List.filter_sublist.map _)
  have hx : a.1 ∉ (rowS A k).take p := fun q => by
    rw [hrow, List.nodup_append] at hnr
    exact hnr.2.2 a.1 q a.1 (by simp) rfl
  have hnd0 := hnd
  rw [hA] at hnd
  obtain ⟨us', vs', r1, r2, r3, r4⟩ := rowS_mid hnd
  rw [← hA, hk] at r1 r4
  have he : (rowS A k).take p ++ (rowS A k).drop (p + 1) = us' ++ vs' := by
    have h1 : (rowS A k).erase a.1 = (rowS A k).take p ++ (rowS A k).drop (p + 1) := by
      conv => lhs; rw [hrow]
      rw [List.erase_append_right _ hx, List.erase_cons_head]
    rw [← h1, r1, r3]
  refine ⟨hm, hk, (rowS A k).take p, (rowS A k).drop (p + 1), hrow, by rw [List.length_take]; omega, hfa, ?_⟩
  have hg : getK a.1 A = us ++ vs ++ [a] := by
    rw [(getK_found hfa).1]
    conv => lhs; rw [hA]
    rw [dropK_mid rfl hnd]
  rw [hg, he, rowS_snoc]
  funext j
  by_cases e : j = k
  · rw [if_pos (by rw [hk]; exact e), e, upd_same, r4 k, if_pos rfl]
  · rw [if_neg (by rw [hk]; exact e), upd_other _ _ e, r4 j, if_neg e]
theorem Und.turned {w w' : World} {umb nF : Nat} {F : List UInt8 → Option Hd} {R : List UInt8 → List (List UInt8)} {k : List UInt8} {g m c : Nat} {L : List (List UInt8)} (h : Und w umb nF F R) (hF : F k = some (g, m, c)) (ho : ownS w' 0 (.slice (some ⟨g, 0, none⟩) m c) L) (hL : L.length = m) (hn : L ≠ []) (hd : Did (fun b => b = g) (fun b => b = g) w w') :
    Und w' umb nF F (upd R k L) ∧ Did (undX umb F) (undX umb F) w w' := by
  obtain ⟨cur0, hg0, -, -, -, -, -, -, hgu⟩ := h.cells hF
  refine ⟨⟨h.map.keep (hd.keep umb h.map.lt (fun e => hgu e.symm)), fun j => ?_, h.inj⟩, ⟨hd.os, hd.tape, hd.output, hd.size, fun b hb hx => hd.keep b hb (fun e => hx (.inr ⟨k, m, c, by rw [e]; exact hF⟩)), fun b hb => .inl hb⟩⟩
  by_cases e : j = k
  · rw [e, upd_same, hF]
    exact ⟨hL.symm, hn, by rw [hL]; exact ho⟩
  · rw [upd_other _ _ e]
    exact (h.row j).keep fun g' m' c' q => hd.keep g' (by have := h.row j; rw [q] at this; exact this.lt) (fun e' => e (h.inj j k g' m' c' m c q (by rw [e']; exact hF)))
theorem item_one8 (h : He) (Af Av : Option Addr) (cf cv : Nat) : (#[.int .i64 h.e.st, .string (bs h.e.re), .int .i64 h.e.mi, .slice Af h.e.fs.length cf, .string (bs h.e.bo), .int .i64 h.e.ak, .int .i64 h.e.gt, .slice Av h.e.vy.length cv] : Array Value).all (·.oneCell') = true := by kernel_rfl
theorem getK_perm {A : List (It He)} {k : List UInt8} (hnd : (keysK A).Nodup) : (getK k A).Perm A := by
  unfold getK
  by_cases hk : k ∈ keysK A
  · obtain ⟨xs, y, zs, rfl, hy, hx⟩ := splitK hk
    rw [findK_mid hy hx, dropK_mid hy hnd]
    show (xs ++ zs ++ [y]).Perm _
    rw [List.append_assoc]
    exact List.Perm.append_left xs (List.perm_append_singleton y zs)
  · rw [findK_none hk]
theorem eight_at (v0 v1 v2 v3 v4 v5 v6 v7 v8 : Value) : ∀ j v, [v0, v1, v2, v3, v4, v5, v6, v7][j]? = some v → #[v0, v1, v2, v3, v4, v5, v6, v7, v8][0 + j]? = some v := by
  intro j v h
  match j, h with
  | 0, h => exact h
  | 1, h => exact h
  | 2, h => exact h
  | 3, h => exact h
  | 4, h => exact h
  | 5, h => exact h
  | 6, h => exact h
  | 7, h => exact h
  | j + 8, h => simp at h
theorem StI.cells {w : World} {tb bb umb nF n m pu g : Nat} {XB : Nat → Prop} {F : List UInt8 → Option Hd} {l : List (It Iv)} {R : List UInt8 → List (List UInt8)} (h : StI w tb bb umb nF XB F n m l R pu) (hg : ¬ stX tb umb F XB g) (o : Nat) (cs : List Value) : StI (w.setCells g o cs) tb bb umb nF XB F n m l R pu :=
  h.keep fun _ hb => heap_setCells _ _ _ _ _ (fun e => hg (e ▸ hb))
theorem Did.cells {X X' : Nat → Prop} {W w : World} (h : Did X X' W w) {g : Nat} (hg : W.heap.size ≤ g) (o : Nat) (cs : List Value) : Did X X' W (w.setCells g o cs) :=
  ⟨Twin.cells.1.trans h.os, Twin.cells.2.1.trans h.tape, Twin.cells.2.2.trans h.output, by rw [size_setCells]; exact h.size, fun b hb hx => (heap_setCells _ _ _ _ _ (by omega)).trans (h.keep b hb hx), h.new⟩
/-- what is handed back, of one that is found or none -/
def foundR (o : Option (It He)) (v : Value) (b : Bool) (base : Nat) (w : World) : Prop := match o with
  | none => b = false ∧ v = .agg #[.int .i64 0, .string ⟨#[]⟩, .int .i64 0, .slice none 0 0, .string ⟨#[]⟩, .int .i64 0, .int .i64 0, .slice none 0 0]
  | some a => b = true ∧ ∃ vf vv, v = entV a.2.2.e vf vv ∧ ownF w base vf a.2.2.e.fs ∧ ownF w base vv a.2.2.e.vy
set_option maxRecDepth 100000 in
set_option maxHeartbeats 4000000 in
theorem sfind_any {w : World} {s : Nat} {X : Nat → Prop} {n m : Nat} {A : List (It He)} {pu : Nat} (h : Sto w s X n m A pu) (k : List UInt8) (hk : k.length ≤ 300) (vr : Value) (req : List Fld) (hr : FL w vr req) (hreq : VfB req) (hp : pu ≤ 1000000) :
    Calls Tryz.prog 22 #[.pointer (some ⟨s, 0, none⟩), .string (bs k), vr] w fun r w' => ∃ v b, r = .returned (.tuple #[v, .bool b]) ∧ (∃ X', Sto w' s X' n m (findA A k req) pu ∧ Did X X' w w') ∧ foundR (foundS A k req) v b w.heap.size w' := by
  obtain ⟨tb, bb, umb, nF, XB, F, l, hw⟩ := h
  have hal : Below w.heap.size w (w.alloc (.cells #[.int .i64 0, .string ⟨#[]⟩, .int .i64 0, .slice none 0 0, .string ⟨#[]⟩, .int .i64 0, .int .i64 0, .slice none 0 0] 28)) := (Below.refl _ _).alloc (Nat.le_refl _) _
  have HK := Lib.hid (skept_any s tb (w.alloc (.cells #[.int .i64 0, .string ⟨#[]⟩, .int .i64 0, .slice none 0 0, .string ⟨#[]⟩, .int .i64 0, .int .i64 0, .slice none 0 0] 28)) (hw.top.below hal))
  have HRB := Lib.hid (bk.new w #[.int .i64 0, .string ⟨#[]⟩, .int .i64 0, .slice none 0 0, .string ⟨#[]⟩, .int .i64 0, .int .i64 0, .slice none 0 0] 28)
  have HAL := Lib.hid hal
  have hst0 := hw.st.bel hal
  have hs0 : Sim (Hld w (stX tb umb F XB)) A l := hw.sim.mono (fun a b q => q.wider (fun b e => .inl (by rw [hw.eX]; exact .inr e)))
  have c1 := hst0.st.cell 1 (.map (some umb)) rfl
  have hkm : k.length ≤ maxLen := by unfold maxLen; omega
  have hrun := hst0.und.map.look Tryz.underlying9 Tryz.underlying62 (zeroSl (w.alloc (.cells #[.int .i64 0, .string ⟨#[]⟩, .int .i64 0, .slice none 0 0, .string ⟨#[]⟩, .int .i64 0, .int .i64 0, .slice none 0 0] 28))) k hkm
  obtain ⟨hrow, Ag, cg, hsl, -⟩ := rowOf hst0.und k
  rw [hsl] at hrun
  have hln : A.length ≤ 4096 := by
    have h1 := hw.st.bud.ok.len
    have h2 := hw.st.bud.bounds.2.1
    have h3 := hw.sim.len
    omega
  have HLA := Lib.hid (latest_any hst0 (hs0.mono (fun a b q => q.did (Did.of_below hal))) hw.of hw.sm (fun a ha => by have := (hw.num a ha).2; omega) hw.nd2 hln k Ag cg hsl vr req (hr.bel hal) hreq)
  have HW := Lib.hid hw; have HS0 := Lib.hid hs0; have HSL := Lib.hid hsl; have HST0 := Lib.hid hst0
  have HRX : Hid (¬ stX tb umb F XB w.heap.size) := fun q => Nat.lt_irrefl _ (hw.st.lt _ q)
  clear hal hst0 hs0 hkm hrow hsl hln hr hw
  by_cases hlt : latS A k req < 0
  · have HFS : Hid (foundS A k req = none ∧ findA A k req = A) := by
      have h1 : foundS A k req = none := by unfold foundS; rw [if_pos hlt]
      exact ⟨h1, by unfold findA; rw [h1]⟩
    generalize latS A k req = lat at *
    go_enter Tryz.func22, Tryz.ntmps22
    go_wp2_with fail
    refine HK.out.mono ?_
    rintro r wx ⟨rfl, rfl⟩
    go_wp2_with fail
    refine HLA.out.mono ?_
    rintro r w1 ⟨rfl, hb1⟩
    have hrb1 := HRB.out.below hb1
    have HTH : Hid (World.there w1 w.heap.size 0 8) := hrb1.there 0 8 (by decide)
    have HQ := Lib.hid (hrb1.setAll [.int .i64 0, .string ⟨#[]⟩, .int .i64 0, .slice none 0 0, .string ⟨#[]⟩, .int .i64 0, .int .i64 0, .slice none 0 0] rfl)
    have HB1 := Lib.hid (HAL.out.trans (hb1.mono HAL.out.size))
    have HB2 : Hid (Below w.heap.size w (World.setCells w1 w.heap.size 0 [.int .i64 0, .string ⟨#[]⟩, .int .i64 0, .slice none 0 0, .string ⟨#[]⟩, .int .i64 0, .int .i64 0, .slice none 0 0])) := Below.cells HB1.out _ (Nat.le_refl _) [.int .i64 0, .string ⟨#[]⟩, .int .i64 0, .slice none 0 0, .string ⟨#[]⟩, .int .i64 0, .int .i64 0, .slice none 0 0] 0
    clear hb1 hrb1 hrun c1
    go_wp2_with (refine wpList_store_mid rfl 28 (.tmp 6) (.tmp 27) rfl _ 0 #[.int .i64 0, .string ⟨#[]⟩, .int .i64 0, .slice none 0 0, .string ⟨#[]⟩, .int .i64 0, .int .i64 0, .slice none 0 0] rfl rfl HTH.out infoEn.out (by kernel_rfl) ?_; clear HTH)
    have m0 := HQ.out.cell 0 (.int .i64 0) rfl
    have m1 := HQ.out.cell 1 (.string ⟨#[]⟩) rfl
    have m2 := HQ.out.cell 2 (.int .i64 0) rfl
    have m3 := HQ.out.cell 3 (.slice none 0 0) rfl
    have m4 := HQ.out.cell 4 (.string ⟨#[]⟩) rfl
    have m5 := HQ.out.cell 5 (.int .i64 0) rfl
    have m6 := HQ.out.cell 6 (.int .i64 0) rfl
    have m7 := HQ.out.cell 7 (.slice none 0 0) rfl
    refine bodyPost_ret (v := .tuple #[.agg #[.int .i64 0, .string ⟨#[]⟩, .int .i64 0, .slice none 0 0, .string ⟨#[]⟩, .int .i64 0, .int .i64 0, .slice none 0 0], .bool false]) (by simp [results, Tryz.results22, go_sem, m0, m1, m2, m3, m4, m5, m6, m7]) rfl ⟨_, _, rfl, ⟨X, ?_, Did.of_below HB2.out⟩, ?_⟩
    · rw [HFS.out.2]; exact ⟨tb, bb, umb, nF, XB, F, l, HW.out.bel HB2.out⟩
    · rw [HFS.out.1]; exact ⟨rfl, rfl⟩
  · obtain ⟨p, a, hpl, hfs, hpa⟩ := found_at hlt
    obtain ⟨hma, hka, xs, zs, hrw, hxl, hfa, hrg⟩ := found_rows HW.out.nd2 hpa
    have HFS : Hid (foundS A k req = some a ∧ findA A k req = getK a.1 A) := ⟨hfs, by unfold findA; rw [hfs]⟩
    obtain ⟨y, hfy, hhld⟩ : ∃ y, findK a.1 l = some y ∧ Hld w (stX tb umb F XB) a.2.2 y.2.2 := by
      rcases HS0.out.find a.1 with ⟨q, -⟩ | ⟨a', y, q1, q2, -, -, q3⟩
      · rw [hfa] at q; cases q
      · rw [hfa] at q1; cases q1; exact ⟨y, q2, q3⟩
    have hsm := HW.out.sm a hma
    have HIL : Hid (a.1.length ≤ KL) := by rw [congrArg Prod.fst (HW.out.of a hma)]; exact Nat.le_trans (idT_len hsm.k hsm.vy) KL_7000
    have HSM := Lib.hid hsm
    obtain ⟨Af, cf, hf3⟩ := hhld.c3.fl.form
    obtain ⟨Av, cv, hf7⟩ := hhld.c7.fl.form
    have hy : (valK BT.zero (some y)).agg = .agg #[.int .i64 a.2.2.e.st, .string (bs a.2.2.e.re), .int .i64 a.2.2.e.mi, .slice Af a.2.2.e.fs.length cf, .string (bs a.2.2.e.bo), .int .i64 a.2.2.e.ak, .int .i64 a.2.2.e.gt, .slice Av a.2.2.e.vy.length cv, .int .i64 (a.2.2.n : Int)] := by
      show Value.agg #[y.2.2.c0, y.2.2.c1, y.2.2.c2, y.2.2.c3, y.2.2.c4, y.2.2.c5, y.2.2.c6, y.2.2.c7, y.2.2.c8] = _
      rw [hhld.c0, hhld.c1, hhld.c2, hf3, hhld.c4, hhld.c5, hhld.c6, hf7, hhld.c8]
    have HXF := Lib.hid hhld.c3; have HXV := Lib.hid hhld.c7
    rw [hf3] at HXF
    rw [hf7] at HXV
    have HGET2 : Hid (∀ z, StI z tb bb umb nF XB F n m l (rowS A) pu → Calls Tryz.prog 50 #[.pointer (some ⟨bb, 0, none⟩), .string (bs a.1)] z fun e w' => e = .returned (.tuple #[.agg #[.int .i64 a.2.2.e.st, .string (bs a.2.2.e.re), .int .i64 a.2.2.e.mi, .slice Af a.2.2.e.fs.length cf, .string (bs a.2.2.e.bo), .int .i64 a.2.2.e.ak, .int .i64 a.2.2.e.gt, .slice Av a.2.2.e.vy.length cv, .int .i64 (a.2.2.n : Int)], .bool true]) ∧ ∃ X', BT.Bd w' bb X' n m (getK a.1 l) ∧ Did XB X' z w') := fun z hz => by
      have h1 := BT.get_any hz.bud a.1 HIL.out
      rw [hfy, show (⟨.int .i64 0, .string ⟨#[]⟩, .int .i64 0, .slice none 0 0, .string ⟨#[]⟩, .int .i64 0, .int .i64 0, .slice none 0 0, .int .i64 0, BT.zero_one⟩ : Iv) = BT.zero from rfl, hy] at h1
      exact h1
    have hFk : ∃ g c, F k = some (g, (rowS A k).length, c) := by
      have h1 := HST0.out.und.row k
      cases e : F k with
      | none => rw [e] at h1; have h2 : rowS A k = [] := h1; rw [hrw] at h2; simp at h2
      | some o => rw [e] at h1; obtain ⟨g, m0, c0⟩ := o; exact ⟨g, c0, by rw [h1.1]⟩
    obtain ⟨g, cg', hFk⟩ := hFk
    have hsg := HSL.out
    rw [hFk] at hsg
    unfold sliV at hsg
    cases hsg
    have HFK := Lib.hid hFk
    have HRW := Lib.hid hrw; have HXL := Lib.hid hxl; have HRG := Lib.hid hrg; have HMA := Lib.hid hma
    have hp1 : p < (rowS A k).length := by rw [hrw, ← hxl]; simp
    have h0p : (0 : Int) ≤ (p : Int) := by omega
    rw [hpl] at HLA
    have HSMH := Lib.hid HSM.out
    generalize hhE : a.2.2 = h at *
    have hhE : Hid (a.2.2 = h) := hhE
    clear hlt hpl hfs hpa hma hka hrw hxl hfa hrg hhld hsm hf3 hf7 hy hfy
    go_enter Tryz.func22, Tryz.ntmps22
    go_wp2_with fail
    refine HK.out.mono ?_
    rintro r wx ⟨rfl, rfl⟩
    go_wp2_with fail
    refine HLA.out.mono ?_
    rintro r W ⟨rfl, hb1⟩
    have HST := Lib.hid (HST0.out.bel hb1)
    have HRB1 := Lib.hid (HRB.out.below hb1)
    have HB1 := Lib.hid (HAL.out.trans (hb1.mono HAL.out.size))
    have HCI : Hid (W.cell? ⟨g, p, none⟩ = some (.string (bs a.1))) := by
      obtain ⟨h1, -⟩ := rowOf HST.out.und k
      rw [HFK.out] at h1
      obtain ⟨g', e1, e2⟩ := ownS.cell (a := some ⟨g, 0, none⟩) h1 p hp1
      cases e1
      rw [show (rowS A k).getD p [] = a.1 from by rw [HRW.out, ← HXL.out]; simp [List.getD]] at e2
      exact e2
    have HGET : Hid (∀ z : World, z.heap = W.heap → z = W.drew → Calls Tryz.prog 50 #[.pointer (some ⟨bb, 0, none⟩), .string (bs a.1)] z fun e w' => e = .returned (.tuple #[.agg #[.int .i64 h.e.st, .string (bs h.e.re), .int .i64 h.e.mi, .slice Af h.e.fs.length cf, .string (bs h.e.bo), .int .i64 h.e.ak, .int .i64 h.e.gt, .slice Av h.e.vy.length cv, .int .i64 (h.n : Int)], .bool true]) ∧ ∃ X', BT.Bd w' bb X' n m (getK a.1 l) ∧ Did XB X' z w') := fun z hz _ => HGET2.out z (HST.out.keep (fun b _ => by rw [hz]))
    have HON := item_oneH h Af Av cf cv
    have HON := Lib.hid HON
    have hpn : (p : Int) < ((rowS A k).length : Int) := by omega
    clear hb1 hrun c1 HLA HK HST0 HRB HSL
    go_wp2_with fail
    apply wp_meetG (fun gi z => ∃ XB', StI z tb bb umb nF XB' F n m (getK a.1 l) (rowS A) pu ∧ Did (stX tb umb F XB) (stX tb umb F XB') W z ∧ bk z gi #[.int .i64 h.e.st, .string (bs h.e.re), .int .i64 h.e.mi, .slice Af h.e.fs.length cf, .string (bs h.e.bo), .int .i64 h.e.ak, .int .i64 h.e.gt, .slice Av h.e.vy.length cv, .int .i64 (h.n : Int)] ∧ W.heap.size ≤ gi)
    case h1 =>
      refine wp_region_growS (.one 0 false (.one 1 false (.one 2 false (.one 3 false (.one 4 false (.one 5 false (.one 6 false (.one 7 false (.two 8 12 (.one 9 false (.one 10 false (.one 11 false (.one 12 true (.one 13 true (.one 14 false .done)))))) (.one 8 true (.one 9 false (.one 10 false (.one 11 false (.one 13 true (.one 14 false .done)))))))))))))))
        (fun x => x.heap[tb]? = W.heap[tb]? ∧ x.heap[g]? = W.heap[g]?) (by kernel_rfl) (by kernel_rfl) rfl (by kernel_rfl) (by kernel_rfl) ⟨rfl, rfl⟩ (fun ops hops => ?_)
      simp only [GT.ins, List.getD_cons_zero, List.getD_cons_succ]
      clear hops
      iterate 8
        refine growS_take (by rfl) ?_
        apply Exists.intro
        refine ⟨fun w' hE => ?_, ?_⟩
        · have t0 : w'.cell? ⟨tb, 0, none⟩ = some (.pointer (some ⟨bb, 0, none⟩)) := (World.cell?_of_block (a := ⟨tb, 0, none⟩) hE.1).trans (HST.out.st.cell 0 _ rfl)
          have t1 : w'.cell? ⟨g, p, none⟩ = some (.string (bs a.1)) := (World.cell?_of_block (a := ⟨g, p, none⟩) hE.2).trans HCI.out
          go_simp
          try with_reducible rfl
        simp only [Act.put, List.setIfInBounds_toArray, List.set_cons_zero, List.set_cons_succ]
      refine growS_two (by rfl) (by rfl) (fun K hK => ?_) (fun K hK => ?_)
      · go_simp
        refine (HGET.out W.drew rfl rfl).mono ?_
        rintro r z1 ⟨rfl, XB1, hb1, hd1⟩
        have hd1 : Did XB XB1 W z1 := ⟨hd1.os, hd1.tape, hd1.output, hd1.size, hd1.keep, hd1.new⟩
        obtain ⟨hs1, hd1x⟩ := HST.out.budget hb1 hd1
        have HSX1 : Hid (z1.heap[tb]? = W.heap[tb]? ∧ z1.heap[g]? = W.heap[g]?) := ⟨hd1.keep tb HST.out.st.lt (fun q => (HST.out.dis tb q).1 rfl), hd1.keep g (HST.out.und.lt g (.inr ⟨k, _, _, HFK.out⟩)) (fun q => (HST.out.dis g q).2 (.inr ⟨k, _, _, HFK.out⟩))⟩
        have HS1 := Lib.hid hs1; have HD1 := Lib.hid hd1x
        refine hK.out _ _ HSX1.out ?_
        clear hK K hb1 hd1 hs1 hd1x
        iterate 3
          refine growS_take (by rfl) ?_
          apply Exists.intro
          refine ⟨fun w' hE => ?_, ?_⟩
          · skip
            go_simp
            try with_reducible rfl
          simp only [Act.put, List.setIfInBounds_toArray, List.set_cons_zero, List.set_cons_succ]
        refine growS_call (by rfl) (fun K hK => ?_)
        go_simp
        have hal : Below z1.heap.size z1 (z1.alloc (.cells #[.int .i64 0, .string ⟨#[]⟩, .int .i64 0, .slice none 0 0, .string ⟨#[]⟩, .int .i64 0, .int .i64 0, .slice none 0 0, .int .i64 0] 61)) := (Below.refl _ _).alloc (Nat.le_refl _) _
        have HSX : Hid ((z1.alloc (.cells #[.int .i64 0, .string ⟨#[]⟩, .int .i64 0, .slice none 0 0, .string ⟨#[]⟩, .int .i64 0, .int .i64 0, .slice none 0 0, .int .i64 0] 61)).heap[tb]? = W.heap[tb]? ∧ (z1.alloc (.cells #[.int .i64 0, .string ⟨#[]⟩, .int .i64 0, .slice none 0 0, .string ⟨#[]⟩, .int .i64 0, .int .i64 0, .slice none 0 0, .int .i64 0] 61)).heap[g]? = W.heap[g]?) := ⟨(hal.block tb HS1.out.st.lt).trans HSX1.out.1, (hal.block g (HS1.out.und.lt g (.inr ⟨k, _, _, HFK.out⟩))).trans HSX1.out.2⟩
        have HSZ := Lib.hid (HS1.out.bel hal)
        have HDZ := Lib.hid (HD1.out.trans (Did.of_below hal))
        have HBZ := Lib.hid (bk.new z1 #[.int .i64 0, .string ⟨#[]⟩, .int .i64 0, .slice none 0 0, .string ⟨#[]⟩, .int .i64 0, .int .i64 0, .slice none 0 0, .int .i64 0] 61)
        have HNG : Hid (¬ stX tb umb F XB1 z1.heap.size) := fun q => Nat.lt_irrefl _ (HS1.out.lt _ q)
        have HWG : Hid (W.heap.size ≤ z1.heap.size) := HD1.out.size
        refine hK.out _ _ HSX.out ?_
        clear hK K hal HSX1 HS1 HD1
        generalize z1.alloc (.cells #[.int .i64 0, .string ⟨#[]⟩, .int .i64 0, .slice none 0 0, .string ⟨#[]⟩, .int .i64 0, .int .i64 0, .slice none 0 0, .int .i64 0] 61) = z2 at *
        generalize z1.heap.size = gi at *
        have HTH : Hid (World.there z2 gi 0 9) := HBZ.out.there 0 9 (by decide)
        have HGT : Hid (tb ≠ gi) := fun e => HNG.out (by rw [← e]; exact .inl rfl)
        have HGG : Hid (g ≠ gi) := fun e => HNG.out (by rw [← e]; exact .inr (.inl (.inr ⟨k, _, _, HFK.out⟩)))
        refine growS_call (by rfl) (fun K hK => ?_)
        refine wp_store_mid 61 (.tmp 11) (.tmp 38) rfl _ 0 #[.int .i64 h.e.st, .string (bs h.e.re), .int .i64 h.e.mi, .slice Af h.e.fs.length cf, .string (bs h.e.bo), .int .i64 h.e.ak, .int .i64 h.e.gt, .slice Av h.e.vy.length cv, .int .i64 (h.n : Int)] rfl rfl HTH.out BT.infoT.out HON.out ?_
        refine hK.out _ _ ⟨(heap_setCells _ _ _ _ _ HGT.out).trans HSX.out.1, (heap_setCells _ _ _ _ _ HGG.out).trans HSX.out.2⟩ ?_
        clear hK K
        iterate 1
          refine growS_take (by rfl) ?_
          apply Exists.intro
          refine ⟨fun w' hE => ?_, ?_⟩
          · skip
            go_simp
            try with_reducible rfl
          simp only [Act.put, List.setIfInBounds_toArray, List.set_cons_zero, List.set_cons_succ]
        refine growS_done (NoPanic.normal ?_)
        exact ⟨gi, rfl, rfl, XB1, HSZ.out.cells HNG.out 0 [.int .i64 h.e.st, .string (bs h.e.re), .int .i64 h.e.mi, .slice Af h.e.fs.length cf, .string (bs h.e.bo), .int .i64 h.e.ak, .int .i64 h.e.gt, .slice Av h.e.vy.length cv, .int .i64 (h.n : Int)], HDZ.out.cells HWG.out 0 [.int .i64 h.e.st, .string (bs h.e.re), .int .i64 h.e.mi, .slice Af h.e.fs.length cf, .string (bs h.e.bo), .int .i64 h.e.ak, .int .i64 h.e.gt, .slice Av h.e.vy.length cv, .int .i64 (h.n : Int)], HBZ.out.setAll [.int .i64 h.e.st, .string (bs h.e.re), .int .i64 h.e.mi, .slice Af h.e.fs.length cf, .string (bs h.e.bo), .int .i64 h.e.ak, .int .i64 h.e.gt, .slice Av h.e.vy.length cv, .int .i64 (h.n : Int)] rfl, HWG.out⟩
      · go_simp
        have hal : Below W.heap.size W (W.alloc (.cells #[.int .i64 0, .string ⟨#[]⟩, .int .i64 0, .slice none 0 0, .string ⟨#[]⟩, .int .i64 0, .int .i64 0, .slice none 0 0, .int .i64 0] 61)).drew := ((Below.refl _ _).alloc (Nat.le_refl _) _).drew
        have HSX1 : Hid ((W.alloc (.cells #[.int .i64 0, .string ⟨#[]⟩, .int .i64 0, .slice none 0 0, .string ⟨#[]⟩, .int .i64 0, .int .i64 0, .slice none 0 0, .int .i64 0] 61)).drew.heap[tb]? = W.heap[tb]? ∧ (W.alloc (.cells #[.int .i64 0, .string ⟨#[]⟩, .int .i64 0, .slice none 0 0, .string ⟨#[]⟩, .int .i64 0, .int .i64 0, .slice none 0 0, .int .i64 0] 61)).drew.heap[g]? = W.heap[g]?) := ⟨hal.block tb HST.out.st.lt, hal.block g (HST.out.und.lt g (.inr ⟨k, _, _, HFK.out⟩))⟩
        have HB1 : Hid (bk (W.alloc (.cells #[.int .i64 0, .string ⟨#[]⟩, .int .i64 0, .slice none 0 0, .string ⟨#[]⟩, .int .i64 0, .int .i64 0, .slice none 0 0, .int .i64 0] 61)).drew W.heap.size #[.int .i64 0, .string ⟨#[]⟩, .int .i64 0, .slice none 0 0, .string ⟨#[]⟩, .int .i64 0, .int .i64 0, .slice none 0 0, .int .i64 0]) := (bk.new W #[.int .i64 0, .string ⟨#[]⟩, .int .i64 0, .slice none 0 0, .string ⟨#[]⟩, .int .i64 0, .int .i64 0, .slice none 0 0, .int .i64 0] 61).keep rfl
        have HSZ0 := Lib.hid (HST.out.bel hal)
        have HDZ0 : Hid (Did (stX tb umb F XB) (stX tb umb F XB) W (W.alloc (.cells #[.int .i64 0, .string ⟨#[]⟩, .int .i64 0, .slice none 0 0, .string ⟨#[]⟩, .int .i64 0, .int .i64 0, .slice none 0 0, .int .i64 0] 61)).drew) := Did.of_below hal
        have HZW : Hid (W.heap.size < (W.alloc (.cells #[.int .i64 0, .string ⟨#[]⟩, .int .i64 0, .slice none 0 0, .string ⟨#[]⟩, .int .i64 0, .int .i64 0, .slice none 0 0, .int .i64 0] 61)).drew.heap.size) := by show _ < _; show _ < (W.alloc (.cells #[.int .i64 0, .string ⟨#[]⟩, .int .i64 0, .slice none 0 0, .string ⟨#[]⟩, .int .i64 0, .int .i64 0, .slice none 0 0, .int .i64 0] 61)).heap.size; rw [World.size_alloc]; exact Nat.lt_succ_self _
        have HXK : Hid (∀ b, XB b → (W.alloc (.cells #[.int .i64 0, .string ⟨#[]⟩, .int .i64 0, .slice none 0 0, .string ⟨#[]⟩, .int .i64 0, .int .i64 0, .slice none 0 0, .int .i64 0] 61)).drew.heap[b]? = W.heap[b]?) := fun b hb => hal.block b (HST.out.bud.lt b hb)
        refine hK.out _ _ HSX1.out ?_
        clear hK K hal
        generalize (W.alloc (.cells #[.int .i64 0, .string ⟨#[]⟩, .int .i64 0, .slice none 0 0, .string ⟨#[]⟩, .int .i64 0, .int .i64 0, .slice none 0 0, .int .i64 0] 61)).drew = z0 at *
        refine growS_call (by rfl) (fun K hK => ?_)
        go_simp
        refine (HGET2.out z0 HSZ0.out).mono ?_
        rintro r z2 ⟨rfl, XB1, hb1, hd1⟩
        obtain ⟨hs1, hd1x⟩ := HSZ0.out.budget hb1 hd1
        have HSX : Hid (z2.heap[tb]? = W.heap[tb]? ∧ z2.heap[g]? = W.heap[g]?) := ⟨(hd1.keep tb HSZ0.out.st.lt (fun q => (HSZ0.out.dis tb q).1 rfl)).trans HSX1.out.1, (hd1.keep g (HSZ0.out.und.lt g (.inr ⟨k, _, _, HFK.out⟩)) (fun q => (HSZ0.out.dis g q).2 (.inr ⟨k, _, _, HFK.out⟩))).trans HSX1.out.2⟩
        have hng0 : ¬ stX tb umb F XB W.heap.size := fun q => Nat.lt_irrefl _ (HST.out.lt _ q)
        have HSZ := Lib.hid hs1
        have HDZ := Lib.hid (HDZ0.out.trans hd1x)
        have HBZ := Lib.hid (HB1.out.keep (hd1x.keep W.heap.size HZW.out hng0))
        have HNG : Hid (¬ stX tb umb F XB1 W.heap.size) := fun q => (hd1x.new _ q).elim hng0 (fun q => by have := HZW.out; omega)
        have HWG : Hid (W.heap.size ≤ W.heap.size) := Nat.le_refl _
        refine hK.out _ _ HSX.out ?_
        clear hK K hb1 hd1 hs1 hd1x hng0 HSX1 HB1 HSZ0 HDZ0 HXK HZW
        iterate 3
          refine growS_take (by rfl) ?_
          apply Exists.intro
          refine ⟨fun w' hE => ?_, ?_⟩
          · skip
            go_simp
            try with_reducible rfl
          simp only [Act.put, List.setIfInBounds_toArray, List.set_cons_zero, List.set_cons_succ]
        have HTH : Hid (World.there z2 W.heap.size 0 9) := HBZ.out.there 0 9 (by decide)
        have HGT : Hid (tb ≠ W.heap.size) := fun e => HNG.out (by rw [← e]; exact .inl rfl)
        have HGG : Hid (g ≠ W.heap.size) := fun e => HNG.out (by rw [← e]; exact .inr (.inl (.inr ⟨k, _, _, HFK.out⟩)))
        refine growS_call (by rfl) (fun K hK => ?_)
        refine wp_store_mid 61 (.tmp 11) (.tmp 38) rfl _ 0 #[.int .i64 h.e.st, .string (bs h.e.re), .int .i64 h.e.mi, .slice Af h.e.fs.length cf, .string (bs h.e.bo), .int .i64 h.e.ak, .int .i64 h.e.gt, .slice Av h.e.vy.length cv, .int .i64 (h.n : Int)] rfl rfl HTH.out BT.infoT.out HON.out ?_
        refine hK.out _ _ ⟨(heap_setCells _ _ _ _ _ HGT.out).trans HSX.out.1, (heap_setCells _ _ _ _ _ HGG.out).trans HSX.out.2⟩ ?_
        clear hK K
        iterate 1
          refine growS_take (by rfl) ?_
          apply Exists.intro
          refine ⟨fun w' hE => ?_, ?_⟩
          · skip
            go_simp
            try with_reducible rfl
          simp only [Act.put, List.setIfInBounds_toArray, List.set_cons_zero, List.set_cons_succ]
        refine growS_done (NoPanic.normal ?_)
        exact ⟨W.heap.size, rfl, rfl, XB1, HSZ.out.cells HNG.out 0 [.int .i64 h.e.st, .string (bs h.e.re), .int .i64 h.e.mi, .slice Af h.e.fs.length cf, .string (bs h.e.bo), .int .i64 h.e.ak, .int .i64 h.e.gt, .slice Av h.e.vy.length cv, .int .i64 (h.n : Int)], HDZ.out.cells HWG.out 0 [.int .i64 h.e.st, .string (bs h.e.re), .int .i64 h.e.mi, .slice Af h.e.fs.length cf, .string (bs h.e.bo), .int .i64 h.e.ak, .int .i64 h.e.gt, .slice Av h.e.vy.length cv, .int .i64 (h.n : Int)], HBZ.out.setAll [.int .i64 h.e.st, .string (bs h.e.re), .int .i64 h.e.mi, .slice Af h.e.fs.length cf, .string (bs h.e.bo), .int .i64 h.e.ak, .int .i64 h.e.gt, .slice Av h.e.vy.length cv, .int .i64 (h.n : Int)] rfl, HWG.out⟩
    case h2 =>
      rintro gi z ⟨XB', hst, hd, hbk, hge⟩
      have hgw : g < W.heap.size := HST.out.und.lt g (.inr ⟨k, _, _, HFK.out⟩)
      have hgr : w.heap.size ≠ g := fun e => HRX.out (by rw [e]; exact .inr (.inl (.inr ⟨k, _, _, HFK.out⟩)))
      have hrbz := HRB1.out.keep (hd.keep w.heap.size HRB1.out.lt HRX.out)
      have hmv := moveToEnd_any z g cg xs zs a.1 (by
        obtain ⟨h1, -⟩ := rowOf hst.und k
        rw [HFK.out] at h1
        rw [← HRW.out]; exact h1)
      rw [← HRW.out, HXL.out] at hmv
      have HMV := Lib.hid hmv; have HSTZ := Lib.hid hst; have HDZ := Lib.hid hd; have HBKZ := Lib.hid hbk; have HGE := Lib.hid hge; have HRBZ := Lib.hid hrbz; have HGW := Lib.hid hgw; have HGR := Lib.hid hgr
      clear hmv hst hd hbk hge hrbz hgw hgr HGET HGET2
      go_wp2_with fail
      refine HMV.out.mono ?_
      rintro r w2 ⟨rfl, ho2, hd2⟩
      obtain ⟨hu2, hdu2⟩ := HSTZ.out.und.turned HFK.out ho2 (by rw [HRW.out]; simp) (by simp) hd2
      obtain ⟨hs2, hd2x⟩ := HSTZ.out.rows hu2 hdu2
      rw [← HRG.out] at hs2
      have HS2 := Lib.hid hs2
      have HD2 := Lib.hid (((Did.of_below HB1.out).trans HDZ.out).trans hd2x)
      have hbk2 := HBKZ.out.keep (hd2.keep gi HBKZ.out.lt (fun e => by have h1 := HGW.out; have h2 := HGE.out; have e : gi = g := e; omega))
      have HRB2 := Lib.hid (HRBZ.out.keep (hd2.keep w.heap.size HRBZ.out.lt HGR.out))
      have HLD : Hid (World.rangeAt w2 gi 0 [.int .i64 h.e.st, .string (bs h.e.re), .int .i64 h.e.mi, .slice Af h.e.fs.length cf, .string (bs h.e.bo), .int .i64 h.e.ak, .int .i64 h.e.gt, .slice Av h.e.vy.length cv]) := hbk2.range 0 _ (eight_at _ _ _ _ _ _ _ _ _)
      have HXF2 := Lib.hid (HXF.out.did HD2.out); have HXV2 := Lib.hid (HXV.out.did HD2.out)
      have HRX2 : Hid (¬ stX tb umb F XB' w.heap.size) := fun q => (HDZ.out.new _ q).elim HRX.out (fun q => absurd q (Nat.not_le.2 HRB1.out.lt))
      clear ho2 hd2 hu2 hdu2 hs2 hd2x hbk2 HMV HSTZ HDZ HBKZ HGE HRBZ HGW HGR HXF HXV HRB1 HST HB1 HCI
      go_wp2_with (refine wpList_load_mid rfl 28 (.tmp 43) rfl gi 0 rfl [.int .i64 h.e.st, .string (bs h.e.re), .int .i64 h.e.mi, .slice Af h.e.fs.length cf, .string (bs h.e.bo), .int .i64 h.e.ak, .int .i64 h.e.gt, .slice Av h.e.vy.length cv] _ HLD.out Tryz.underlying28 rfl infoEn.out ?_; clear HLD)
      refine (copied_any9 h.e (.slice Af h.e.fs.length cf) (.slice Av h.e.vy.length cv) w2 HXF2.out.fl HXV2.out.fl HSMH.out.fs HSMH.out.vy (by have := HSMH.out.re; omega) (by have := HSMH.out.bo; omega)).mono ?_
      rintro r w3 ⟨vf', vv', rfl, of', ov', hb3⟩
      obtain ⟨Ae, ce, rfl⟩ := of'.form
      obtain ⟨Ah, ch, rfl⟩ := ov'.form
      have HOF := Lib.hid of'; have HOV := Lib.hid ov'
      have hrb3 := HRB2.out.below hb3
      have HTH : Hid (World.there w3 w.heap.size 0 8) := hrb3.there 0 8 (by decide)
      have HQ := Lib.hid (hrb3.setAll [.int .i64 h.e.st, .string (bs h.e.re), .int .i64 h.e.mi, .slice Ae h.e.fs.length ce, .string (bs h.e.bo), .int .i64 h.e.ak, .int .i64 h.e.gt, .slice Ah h.e.vy.length ch] rfl)
      have HS3 := Lib.hid (HS2.out.bel hb3)
      have HD3 := Lib.hid (HD2.out.trans (Did.of_below hb3))
      have HON2 : Hid ((#[.int .i64 h.e.st, .string (bs h.e.re), .int .i64 h.e.mi, .slice Ae h.e.fs.length ce, .string (bs h.e.bo), .int .i64 h.e.ak, .int .i64 h.e.gt, .slice Ah h.e.vy.length ch] : Array Value).all (·.oneCell') = true) := ent_one h.e _ _ of'.fl ov'.fl
      have HLT2 : Hid (w.heap.size < w2.heap.size) := HRB2.out.lt
      clear of' ov' hb3 hrb3 HXF2 HXV2 HRB2 HS2
      unfold entV
      go_wp2_with (refine wpList_store_mid rfl 28 (.tmp 6) (.tmp 45) rfl _ 0 #[.int .i64 h.e.st, .string (bs h.e.re), .int .i64 h.e.mi, .slice Ae h.e.fs.length ce, .string (bs h.e.bo), .int .i64 h.e.ak, .int .i64 h.e.gt, .slice Ah h.e.vy.length ch] rfl rfl HTH.out infoEn.out HON2.out ?_; clear HTH)
      have m0 := HQ.out.cell 0 (.int .i64 h.e.st) rfl
      have m1 := HQ.out.cell 1 (.string (bs h.e.re)) rfl
      have m2 := HQ.out.cell 2 (.int .i64 h.e.mi) rfl
      have m3 := HQ.out.cell 3 (.slice Ae h.e.fs.length ce) rfl
      have m4 := HQ.out.cell 4 (.string (bs h.e.bo)) rfl
      have m5 := HQ.out.cell 5 (.int .i64 h.e.ak) rfl
      have m6 := HQ.out.cell 6 (.int .i64 h.e.gt) rfl
      have m7 := HQ.out.cell 7 (.slice Ah h.e.vy.length ch) rfl
      refine bodyPost_ret (v := .tuple #[.agg #[.int .i64 h.e.st, .string (bs h.e.re), .int .i64 h.e.mi, .slice Ae h.e.fs.length ce, .string (bs h.e.bo), .int .i64 h.e.ak, .int .i64 h.e.gt, .slice Ah h.e.vy.length ch], .bool true]) (by simp [results, Tryz.results22, go_sem, m0, m1, m2, m3, m4, m5, m6, m7]) rfl ⟨_, _, rfl, ?_, ?_⟩
      · rw [HFS.out.2]
        have hpm := getK_perm (k := a.1) HW.out.nd2
        obtain ⟨u1, u2, u3⟩ := HW.out.subs (A' := getK a.1 A) (fun b hb => hpm.subset hb)
        have hdc := HD3.out.cells (Nat.le_refl w.heap.size) 0 [.int .i64 h.e.st, .string (bs h.e.re), .int .i64 h.e.mi, .slice Ae h.e.fs.length ce, .string (bs h.e.bo), .int .i64 h.e.ak, .int .i64 h.e.gt, .slice Ah h.e.vy.length ch]
        exact HW.out.done (HS3.out.cells HRX2.out 0 [.int .i64 h.e.st, .string (bs h.e.re), .int .i64 h.e.mi, .slice Ae h.e.fs.length ce, .string (bs h.e.bo), .int .i64 h.e.ak, .int .i64 h.e.gt, .slice Ah h.e.vy.length ch]) hdc ((HS0.out.get a.1).mono (fun q1 q2 q => q.did hdc)) HW.out.nF u1 u2 u3 ((hpm.map (·.2.2.n)).nodup_iff.2 HW.out.nd)
      · rw [HFS.out.1]
        have h1 := HLT2.out
        refine ⟨rfl, _, _, by rw [hhE.out]; rfl, ?_, ?_⟩
        · rw [hhE.out]; exact (ownF.stay HOF.out (fun b hb => heap_setCells w.heap.size [.int .i64 h.e.st, .string (bs h.e.re), .int .i64 h.e.mi, .slice Ae h.e.fs.length ce, .string (bs h.e.bo), .int .i64 h.e.ak, .int .i64 h.e.gt, .slice Ah h.e.vy.length ch] 0 w3 b (by omega))).mono (by omega)
        · rw [hhE.out]; exact (ownF.stay HOV.out (fun b hb => heap_setCells w.heap.size [.int .i64 h.e.st, .string (bs h.e.re), .int .i64 h.e.mi, .slice Ae h.e.fs.length ce, .string (bs h.e.bo), .int .i64 h.e.ak, .int .i64 h.e.gt, .slice Ah h.e.vy.length ch] 0 w3 b (by omega))).mono (by omega)
end Go.Proofs.YtopgeclecpaecaaGreatDoor
