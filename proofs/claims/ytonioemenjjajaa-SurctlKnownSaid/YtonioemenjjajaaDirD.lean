/- The directives of values: the directive layer's List, a loop over the range function for each value. -/
import Derived.Test.YtonioemenjjajaaDirC
namespace Go.Proofs.Ytonioemenjjajaa
open Go.RowKit Go.Shelf
attribute [local go_sem] Oper.semAt_some

/-- the marks that the loops over the range function leave -/
def marksD (Ds : List Nat) : List Deferred := Ds.map fun D => { target := .collected D, args := #[] }
theorem leaves_marks {F : Fence} {n : Nat} {P : Program} {fn : Func} {tmps : Array Value} {R : Ending → World → Prop} (B : Nat) (I : World → Prop) (hI : ∀ W D o, B ≤ D → I W → W.heap[D]? = some (.deferred (some o)) → I (W.putObj D (.deferred none)))
    (hR : ∀ W, I W → LeavesIn F n P fn tmps R [] .returning W) : ∀ (Ds : List Nat) (W : World), Ds.Nodup → (∀ D ∈ Ds, B ≤ D ∧ W.heap[D]? = some (.deferred (some []))) → I W → LeavesInM F n P fn tmps R (marksD Ds) .returning W
  | [], W, _, _, h => hR W h
  | D :: Ds, W, hn, hd, h => by
    have h1 := hd D (by simp)
    refine ⟨by simp, .inl ⟨D, _, rfl, run_takeDeferred h1.2, ?_⟩⟩
    refine leaves_marks B I hI hR Ds _ (List.nodup_cons.1 hn).2 (fun D' h' => ?_) (hI W D [] h1.1 h h1.2)
    have hne : D' ≠ D := fun e => (List.nodup_cons.1 hn).1 (e ▸ h')
    have h2 := hd D' (by simp [h'])
    exact ⟨h2.1, (World.putObj_heap_other hne).trans h2.2⟩

/-- what List has put together of the values ahead of one -/
structure LdMem (w W : World) (M : List Dv) (Ds : List Nat) : Prop where
  out : ∃ u, Boxed W w.heap.size 26 u ∧ ownD W w.heap.size u M
  bel : Below w.heap.size w W
  lib : MaxD W
  old : ∀ D ∈ Ds, w.heap.size ≤ D ∧ W.heap[D]? = some (.deferred (some []))
  nod : Ds.Nodup
theorem LdMem.below {w W W' : World} {M : List Dv} {Ds : List Nat} (h : LdMem w W M Ds) (hb : Below W.heap.size W W') : LdMem w W' M Ds := by
  obtain ⟨u, hu, ho⟩ := h.out
  exact ⟨⟨u, (hb.block _ hu.lt).trans hu, ho.bel hb⟩, h.bel.trans (hb.mono h.bel.size), h.lib.bel hb, fun D hD => ⟨(h.old D hD).1, (hb.block D (Array.getElem?_eq_some_iff.1 (h.old D hD).2).1).trans (h.old D hD).2⟩, h.nod⟩
/-- turns of blocks that are no cells and lie beyond leave it -/
theorem LdMem.own {w V : World} {Ds : List Nat} {M : List Dv} (hV : w.heap.size ≤ V.heap.size) (hD : ∀ D ∈ Ds, D < V.heap.size) : OwnFrom V.heap.size (fun (pre : List Dv) W => LdMem w W (M ++ pre) Ds) := by
  rintro s X Y row h hg hrow
  have hc : ∀ r, row = some r → ∃ o : Obj, X.heap[r]? = some o ∧ o.isCells = false := fun r e => (hrow r e).2
  obtain ⟨u, hu, ho⟩ := h.out
  obtain ⟨u', h1, h2, h3⟩ := holdsRow_own w.heap.size w.heap.size 26 39 4 (fun (p : List Dv) => (M ++ p).length) (fun p => dcs (M ++ p)) (fun _ v => v = u) s X Y row ⟨u, hu, ho, rfl⟩ hg hc
  obtain ⟨m, hm⟩ := h.lib
  refine ⟨⟨u', h1, h2⟩, h.bel.grown hg h.bel.size (fun k e => Nat.le_trans hV (hrow k e).1), ⟨m, cell_kept hm hg hc⟩, fun D hd => ⟨(h.old D hd).1, ?_⟩, h.nod⟩
  have hx := (h.old D hd).2
  refine (hg.block D (Array.getElem?_eq_some_iff.1 hx).1 fun e => ?_).trans hx
  have := (hrow D e.symm).1
  have := hD D hd
  omega

theorem dirsAll_len (L : List (List UInt8)) : (dirsAll L).length ≤ 64 * L.length := by
  induction L with
  | nil => simp [dirsAll]
  | cons x r ih => have := dirs_len x; simp [dirsAll] at ih ⊢; omega
theorem dirsAll_snoc (L : List (List UInt8)) (k : Nat) (h : k < L.length) : dirsAll (L.take (k + 1)) = dirsAll (L.take k) ++ dirs L[k] := by
  unfold dirsAll
  rw [List.take_succ_eq_append_getElem h, List.flatMap_append]
  simp

/-- 'out = append(out, d)': the blocks of texts stand -/
theorem kd_appended {X w1 : World} {B0 base : Nat} {u v' : Value} {l : List Dv} {tmp : Obj} (hu : Boxed X B0 26 u) (ho : ownD X base u l) (hgrow : (X.alloc tmp).grownBy w1 u.ownBlock) (hm : MaxD (w1.setCell ⟨B0, 0, none⟩ v')) : Kd X (w1.setCell ⟨B0, 0, none⟩ v') := by
  refine ⟨fun b cs r e => ?_, fun _ => hm⟩
  have hlt := (Array.getElem?_eq_some_iff.1 e).1
  have hb : b ≠ B0 := by
    rintro rfl
    have h : X.heap[b]? = some (.cells #[u] 26 (0, 0)) := hu
    rw [e] at h
    simp at h
  refine ((Below.heap_setCell _ _ _ _ hb).trans (hgrow.block b (by simp; omega) fun e' => ?_)).trans ((Below.heap_alloc _ _ _ hlt).trans e)
  rcases ho.2 with ⟨rfl, _⟩ | ⟨g, cap, cur, rfl, _, hg, _⟩
  · cases e'
  · obtain rfl : b = g := by simpa [Value.ownBlock] using e'
    rw [e] at hg
    simp at hg
theorem one4 (d : Dv) : ∀ u ∈ [Value.string (bs d.1), .string (bs d.2.1), .bool d.2.2.1, .string (bs d.2.2.2)], u.oneCell' = true := by
  intro v hv; simp at hv; rcases hv with rfl | rfl | rfl | rfl <;> rfl

set_option maxRecDepth 100000 in
set_option maxHeartbeats 4000000 in
theorem listD_any (v : Value) (L : List (List UInt8)) (w : World) (hm : MaxD w) (hv : SL w v L) (hs : ∀ x ∈ L, x.length ≤ 4294967200) (hl : L.length ≤ 1000000) :
    Calls Try.prog 55 #[v] w fun e w' => ∃ u, e = .returned u ∧ ownD w' w.heap.size u (dirsAll L) ∧ Below w.heap.size w w' := by
  obtain ⟨A, c, rfl⟩ := hv.form
  obtain ⟨i0, hi, hz0, hz1, hz2⟩ := info_parts infoD
  refine (callsIn_wide (n := 9)).1 ?_
  refine callsIn_of_wp_marks Try.func55 rfl trivial ?_ rfl
  simp only [Try.ntmps55, List.size_toArray, List.length_cons, List.length_nil, Nat.reduceAdd, Nat.reduceSub, Array.replicate_succ, Array.replicate_zero, List.push_toArray, List.append_toArray, List.nil_append, List.cons_append]
  have HV := Lib.hid hv; have HM := Lib.hid hm; have HS := Lib.hid hs; clear hv hm hs
  gi_wp2_with fail
  refine wpIn_loop (fun a W => ∃ (k : Nat) (u5 u10 u11 u12 u13 u14 u20 : Value) (Ds : List Nat), k ≤ L.length ∧ LdMem w W (dirsAll (L.take k)) Ds ∧
      a = { tmps := #[.slice A L.length c, undef, .slice none 0 0, .pointer (some ⟨w.heap.size, 0, none⟩), undef, u5, undef, .slice A L.length c, .int .i64 L.length, .int .i64 k, u10, u11, u12, u13, u14, undef, undef, undef, undef, undef, u20, undef], defers := marksD Ds })
    (fun a _ => L.length - (intOf (a.tmps.getD 9 undef)).toNat) ?_ ?_
  · refine ⟨0, _, _, _, _, _, _, _, [], Nat.zero_le _, ⟨⟨_, Boxed.new w _ _, ownD_nil _ _⟩, (Below.refl _ _).alloc (Nat.le_refl _) _, HM.out.bel ((Below.refl _ _).alloc (Nat.le_refl _) _), (fun D h => by cases h), List.nodup_nil⟩, rfl⟩
  · rintro a W ⟨k, u5, u10, u11, u12, u13, u14, u20, Ds, hk, hmem, rfl⟩
    have HX := Lib.hid hmem; clear hmem
    by_cases hlt : k < L.length
    · obtain ⟨b, off, rfl, hb, hcell⟩ := (HV.out.bel HX.out.bel).get k hlt
      have hle : L[k].length ≤ 4294967200 := HS.out _ (List.getElem_mem hlt)
      have hda := directives_any L[k] W
      have hbn := Boxed.new W 9 (.string (bs L[k]))
      have hmv := HX.out.below ((Below.refl _ _).alloc (Nat.le_refl _) (.cells #[.string (bs L[k])] 9))
      have hst := iter_stops L[k] W.heap.size (W.alloc (.cells #[.string (bs L[k])] 9)) hmv.lib (by simp) hbn.cell hle
      have hsn := dirsAll_snoc L k hlt
      have hln := dirsAll_len (L.take k)
      have hl1 := dirs_len L[k]
      rw [List.length_take] at hln
      have HDA := Lib.hid hda; have HST := Lib.hid hst; have HMV := Lib.hid hmv; have HSN := Lib.hid hsn; have HLN : Hid ((dirsAll (L.take k)).length + 64 ≤ 100000000) := by show _ ≤ _; omega
      clear hda hst hmv hbn hle hsn hln
      have HL1 := Lib.hid hl1; clear hl1
      gi_wp2_with fail
      refine ⟨trivial, (callsIn_wide.2 HDA.out).mono ?_⟩
      rintro e w' ⟨rfl, rfl⟩
      gi_wp2_with fail
      obtain ⟨V, hV⟩ : ∃ V, W.alloc (.cells #[.string (bs L[k])] 9) = V := ⟨_, rfl⟩
      rw [hV] at HST HMV ⊢
      have hVs : W.heap.size < V.heap.size := by rw [← hV]; simp
      clear hV
      refine wpIn_rangeFunc_ownH rfl (by omega) (gf := 74) (lb := #[.pointer (some ⟨W.heap.size, 0, none⟩)]) rfl trivial (enters_of Try.func74 (by kernel_rfl) rfl)
        HST.out (fun h k => h.trans k) Kd.book (Below.refl _ _) (fun _ => rfl)
        (fun pre W' => LdMem w W' (dirsAll (L.take k) ++ pre) Ds) (fun _ _ _ => False)
        (LdMem.own (Nat.le_trans HX.out.bel.size (Nat.le_of_lt hVs)) (fun D hD => Nat.lt_trans (Array.getElem?_eq_some_iff.1 (HX.out.old D hD).2).1 hVs))
        (fun _ _ _ _ _ hs _ _ => hs) (by rw [List.append_nil]; exact HMV.out)
        (fun d a' W' => ∃ Bx, dbk W' Bx (dvA d) ∧ a' = { tmps := #[.slice (some ⟨b, off, none⟩) L.length c, undef, .slice none 0 0, .pointer (some ⟨w.heap.size, 0, none⟩), undef, .string (bs L[k]), .pointer (some ⟨Bx, 0, none⟩), .slice (some ⟨b, off, none⟩) L.length c, .int .i64 L.length, .int .i64 k, .bool true, .pointer (some ⟨b, off + k, none⟩), .string (bs L[k]), .string (bs L[k]), .func (.func 74) #[] #[.pointer (some ⟨W.heap.size, 0, none⟩)],
          .agg #[.string (bs d.1), .string (bs d.2.1), .bool d.2.2.1, .string (bs d.2.2.2)], undef, undef, undef, undef, u20, undef], defers := [] })
        ?hAx ?assign ?body ?done ?stop
      case hAx =>
        rintro d a' s X Y row ⟨Bx, ⟨T, hT⟩, rfl⟩ hg hr
        refine ⟨Bx, ⟨T, (hg.block Bx (Array.getElem?_eq_some_iff.1 hT).1 fun e => ?_).trans hT⟩, rfl⟩
        obtain ⟨o, ho, hc⟩ := (hr Bx e.symm).2
        rw [hT] at ho; cases ho; cases hc
      case assign =>
        intro l pre d X K hi hK
        have hn : dbk (X.alloc (.cells #[.string (bs d.1), .string (bs d.2.1), .bool d.2.2.1, .string (bs d.2.2.2)] 39)) X.heap.size (dvA d) := dbk.new X _ _
        have hq : Below X.heap.size X (X.alloc (.cells #[.string (bs d.1), .string (bs d.2.1), .bool d.2.2.1, .string (bs d.2.2.2)] 39)) := (Below.refl _ _).alloc (Nat.le_refl _) _
        have HK := Lib.hid (fun a' => hK a' _ ((KeepsOthers.alloc X (.cells #[.string (bs d.1), .string (bs d.2.1), .bool d.2.2.1, .string (bs d.2.2.2)] 39)).from _) (Kd.bel hq) (hi.below hq))
        clear hK hi hq
        have HN := Lib.hid hn; clear hn
        dsimp only [dvV]
        gi_wp2_with fail
        exact HK.out _ ⟨_, HN.out, rfl⟩
      case body =>
        rintro l pre d a' X hl hr hi ⟨Bx, hx, rfl⟩ hlt2
        have hd2 : dirsAll (L.take k) ++ (pre ++ [d]) = (dirsAll (L.take k) ++ pre) ++ [d] := (List.append_assoc _ _ _).symm
        have hll : (dirsAll (L.take k) ++ pre).length + 1 ≤ 4294967296 := by
          have h1 := HLN.out; have h2 := HL1.out
          rw [List.length_append]; omega
        show Code.wpIn _ _ _ _ (ownPostG V.heap.size Kd (fun pre W' => LdMem w W' (dirsAll (L.take k) ++ pre) Ds) (fun _ _ _ => False) (pre ++ [d]) X) _ X
        have hpost : ∀ (a : Act) (W' : World), KeepsFrom V.heap.size X W' ∧ Kd X W' ∧ LdMem w W' ((dirsAll (L.take k) ++ pre) ++ [d]) Ds → ownPostG V.heap.size Kd (fun pre W' => LdMem w W' (dirsAll (L.take k) ++ pre) Ds) (fun _ _ _ => False) (pre ++ [d]) X .normal a W' := fun a W' h => ⟨h.1, h.2.1, by show LdMem w W' (dirsAll (L.take k) ++ (pre ++ [d])) Ds; rw [hd2]; exact h.2.2⟩
        have HP := Lib.hid hpost; clear hpost hd2
        generalize dirsAll (L.take k) ++ pre = M at *
        obtain ⟨u, hu, ho⟩ := hi.out
        have HI := Lib.hid hi; clear hi
        have hc := hu.cell
        obtain ⟨A', c', rfl⟩ := ho.form
        obtain ⟨c0, c1, c2, c3⟩ := hx.four
        have hsz := HI.out.bel.size
        have HX2 := Lib.hid hx; clear hx
        have HU := Lib.hid hu; have HO := Lib.hid ho; clear hu ho
        clear hlt2 hr hl
        gi_wp2_with (gi_at_builtin; refine wpListIn_append_own _ rfl _ _ 26 rfl w.heap.size 39 i0 (.agg #[.string ⟨#[]⟩, .string ⟨#[]⟩, .bool false, .string ⟨#[]⟩]) 4 56 Try.underlying26 hi hz0 hz1 hz2 rfl (by decide) _ _ _ rfl (HO.out.alloc _) ⟨X.heap.size, 0, none⟩ 1 1 [Value.string (bs d.1), .string (bs d.2.1), .bool d.2.2.1, .string (bs d.2.2.2)] rfl rfl (World.news_of_block (heap_alloc_new X _)) (one4 d) (by unfold maxLen; omega) (by omega) (by simp; omega) ?_; intro v' w1 hown' hgrow _; obtain ⟨g', cap', rfl⟩ := ownsRow_succ hown'; obtain ⟨hv1, hv2, hr2, hk2, hb2⟩ := HU.out.appended (by decide) HO.out hsz (Nat.le_refl _) hown' hgrow; have hc1 := hv1.cell; have hf1 := hv1.frozen; have HG := Lib.hid hgrow; have HV2 := Lib.hid hv2; have HR2 := Lib.hid hr2; have HK2 := Lib.hid hk2; have HB2 := Lib.hid hb2; clear hgrow hv2 hr2 hk2 hb2 hv1 hown' hc)
        have hbw := HI.out.bel.trans HB2.out
        refine HP.out _ _ ⟨HK2.out.from _, kd_appended HU.out HO.out HG.out (HM.out.bel hbw), ⟨_, HV2.out, ?_⟩, hbw, HM.out.bel hbw, fun D hD => ⟨(HI.out.old D hD).1, HK2.out.same D _ (HI.out.old D hD).2 rfl⟩, HI.out.nod⟩
        have h := HR2.out
        unfold ownD
        rw [List.length_append, dcs_append]
        exact h
      case done =>
        rintro D xs X hD rfl hi hK
        have HI := Lib.hid hi; have HD := Lib.hid hD; have HK := Lib.hid hK; clear hi hD hK
        gi_wp2_with fail
        refine ⟨⟨k + 1, .string (bs L[k]), .bool true, .pointer (some ⟨b, off + k, none⟩), .string (bs L[k]), .string (bs L[k]), .func (.func 74) #[] #[.pointer (some ⟨W.heap.size, 0, none⟩)], .int .i64 (k + 1), D :: Ds, by omega, ?_, rfl⟩, by simp [intOf]; omega⟩
        have h := HI.out
        rw [HSN.out]
        refine ⟨h.out, h.bel, h.lib, fun D' hD' => ?_, List.nodup_cons.2 ⟨fun hD' => ?_, h.nod⟩⟩
        · rcases List.mem_cons.1 hD' with rfl | hD'
          · exact ⟨Nat.le_trans HX.out.bel.size (Nat.le_trans (Nat.le_of_lt hVs) HD.out), HK.out⟩
          · exact h.old D' hD'
        · have h1 := (Array.getElem?_eq_some_iff.1 (HX.out.old D hD').2).1
          have h2 := HD.out
          omega
      case stop =>
        rintro D c pre X _ _ h _
        exact h.elim
    · obtain ⟨u, hu, ho⟩ := HX.out.out
      have hc := hu.cell
      have hE : L.take k = L := List.take_of_length_le (by omega)
      rw [hE] at ho
      have HO := Lib.hid ho; have HU := Lib.hid hu; clear ho hu hE
      obtain ⟨A', c', rfl⟩ := HO.out.form
      gi_wp2_with fail
      refine leaves_marks w.heap.size (fun X => ownD X w.heap.size (.slice A' (dirsAll L).length c') (dirsAll L) ∧ Below w.heap.size w X) ?_ ?_ Ds W HX.out.nod HX.out.old ⟨HO.out, HX.out.bel⟩
      · rintro X D o hB ⟨h1, h2⟩ hx
        exact ⟨ownsRow_putObj h1 _ hx rfl, h2.trans (belowK_b (w := w) (Nat.le_refl _) X D _ _ hB hx rfl rfl)⟩
      · rintro X ⟨h1, h2⟩
        exact ⟨.slice A' (dirsAll L).length c', results_tmp (t := 2) rfl _ _ _, _, rfl, h1, h2⟩
end Go.Proofs.Ytonioemenjjajaa
