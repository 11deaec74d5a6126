/- Where a key's item lies; an item goes, an item comes (values: inlay/store.item). -/
import Derived.Test.YtopgeclecpaecaaGreatDoorKBdN
import Derived.Test.YtopgeclecpaecaaGreatDoorKBudTA
namespace Go.Proofs.YtopgeclecpaecaaGreatDoor.BT
open Go.RowKit
abbrev mk : Iv → Iv := (fun x : Iv => x)
theorem zero_one : (#[.int .i64 0, .string ⟨#[]⟩, .int .i64 0, .slice none 0 0, .string ⟨#[]⟩, .int .i64 0, .int .i64 0, .slice none 0 0, .int .i64 0] : Array Value).all (·.oneCell') = true := by kernel_rfl
abbrev zero : Iv := (⟨.int .i64 0, .string ⟨#[]⟩, .int .i64 0, .slice none 0 0, .string ⟨#[]⟩, .int .i64 0, .int .i64 0, .slice none 0 0, .int .i64 0, zero_one⟩ : Iv)
abbrev Ful (w : World) (b sb mb n m : Nat) (ns : List (Nd Iv)) : Prop := Full mk zero Tryz.prog 9 w b sb mb n m ns
abbrev Rin (w : World) (sb n m t mb : Nat) (ns : List (Nd Iv)) : Prop := Ring mk w sb n m t mb zero ns
abbrev Mpk (w : World) (mb : Nat) (ns : List (Nd Iv)) : Prop := MapK Tryz.prog 9 w mb ns
abbrev Bd (w : World) (b : Nat) (X : Nat → Prop) (n m : Nat) (l : List (It Iv)) : Prop := Bud mk zero Tryz.prog 9 w b X n m l
theorem zeroE (w : World) : (zeroValue 101).run Tryz.prog w = .ok (.pointer none) w := by kernel_rfl
set_option maxRecDepth 100000 in
theorem find_any {b sb mb n m : Nat} {ns : List (Nd Iv)} (w : World) (k : List UInt8) (h : Ful w b sb mb n m ns) (hl : k.length ≤ KL) :
    Calls Tryz.prog 63 #[.pointer (some ⟨b, 0, none⟩), .string (bs k)] w fun e w' => e = .returned (ptrO (blkOf k ns)) ∧ w = w' := by
  have HM := Lib.hid (made_any b sb w h.top)
  have c0 := h.top.cell 0 (.pointer (some ⟨sb, 0, none⟩)) rfl
  have s3 := h.ring.st.cell 3 (.map (some mb)) rfl
  have hrun := h.map.look Tryz.underlying9 Tryz.underlying100 (zeroE w) k (Nat.le_trans hl KL_le)
  clear h
  generalize ptrO (blkOf k ns) = v at *
  generalize bs k = kb at *
  go_enter Tryz.func63, Tryz.ntmps63
  go_wp2_with fail
  refine HM.out.mono ?_
  rintro e wx ⟨rfl, rfl⟩
  go_wp2_with fail
  go_ret
  exact ⟨rfl, rfl⟩
set_option maxRecDepth 100000 in
set_option maxHeartbeats 1000000 in
theorem remove_any (sb mb n m t : Nat) (xs zs : List (Nd Iv)) (y : Nd Iv) (w : World) (hr : Rin w sb n m (y.2.2.1 + t) mb (xs ++ y :: zs)) (hm : Mpk w mb (xs ++ y :: zs)) (hl : y.2.1.length ≤ KL)
    (hk : ∀ z ∈ xs ++ zs, z.2.1 ≠ y.2.1) (hb : y.2.2.1 + t ≤ 4294967296) :
    Calls Tryz.prog 72 #[.pointer (some ⟨sb, 0, none⟩), .pointer (some ⟨y.1, 0, none⟩)] w fun e w' => e = .returned (.tuple #[]) ∧
      Rin w' sb n m t mb (xs ++ zs) ∧ Mpk w' mb (xs ++ zs) ∧ (∃ u v, bk w' y.1 #[.string (bs y.2.1), .int .i64 y.2.2.1, (mk y.2.2.2).c0, (mk y.2.2.2).c1, (mk y.2.2.2).c2, (mk y.2.2.2).c3, (mk y.2.2.2).c4, (mk y.2.2.2).c5, (mk y.2.2.2).c6, (mk y.2.2.2).c7, (mk y.2.2.2).c8, u, v]) ∧ Did (ringX sb mb (xs ++ y :: zs)) (ringX sb mb (xs ++ zs)) w w' := by
  obtain ⟨u, cA, fA⟩ := hr.cellA
  obtain ⟨v, cB, fB⟩ := hr.cellB
  have hne := hr.blk_ne hm
  have hLA : ringX sb mb (xs ++ y :: zs) (la (sb, 4) xs).1 := by
    rcases la_mem sb 4 xs with e | e
    · exact .inl e
    · exact .inr (.inr (by rw [blks_append]; exact List.mem_append_left _ e))
  have hLB : ringX sb mb (xs ++ y :: zs) (na (sb, 4) zs).1 := by
    rcases na_mem sb 4 zs with e | e
    · exact .inl e
    · exact .inr (.inr (by rw [blks_append]; exact List.mem_append_right _ (List.mem_cons_of_mem _ e)))
  have hMA : mb ≠ (la (sb, 4) xs).1 := by
    intro e
    rcases la_mem sb 4 xs with q | q
    · exact hne.1 (q.symm.trans e.symm)
    · exact hne.2 _ (by rw [blks_append]; exact List.mem_append_left _ q) e.symm
  have hMB : mb ≠ (na (sb, 4) zs).1 := by
    intro e
    rcases na_mem sb 4 zs with q | q
    · exact hne.1 (q.symm.trans e.symm)
    · exact hne.2 _ (by rw [blks_append]; exact List.mem_append_right _ (List.mem_cons_of_mem _ q)) e.symm
  have HL := Lib.hid (leave_any y.1 (la (sb, 4) xs).1 (la (sb, 4) xs).2 (na (sb, 4) zs).1 (na (sb, 4) zs).2 _ _ _ _ _ _ _ _ _ _ _ u v w hr.seg.get cA fA cB fB hr.apart)
  have HR := Lib.hid hr; have HM := Lib.hid hm; have HK := Lib.hid hk; have HLA := Lib.hid hLA; have HLB := Lib.hid hLB; have HMA := Lib.hid hMA; have HMB := Lib.hid hMB; have HNE := Lib.hid hne; have HLL := Lib.hid hl
  clear cA fA cB fB hr hm hk hLA hLB hMA hMB hne hl
  go_enter Tryz.func72, Tryz.ntmps72
  go_wp2_with fail
  refine HL.out.mono ?_
  rintro e w1 ⟨rfl, hT⟩
  have hr1 := (HR.out.leave rfl rfl).1.twin hT
  have hy1 : bk w1 y.1 (itC mk y.2 (la (sb, 4) xs) (na (sb, 4) zs)) := (HR.out.leave rfl rfl).2.keep (by rw [hT.heap]; rfl)
  have hm1 : Mpk w1 mb (xs ++ y :: zs) := HM.out.keep (by rw [hT.heap, Below.heap_setCell _ _ _ _ HMB.out, Below.heap_setCell _ _ _ _ HMA.out])
  have HD1 : Hid (Did (ringX sb mb (xs ++ y :: zs)) (ringX sb mb (xs ++ y :: zs)) w w1) := hT.did2 HLA.out HLB.out
  obtain ⟨w2, hrun, hm2, hturn⟩ := MapK.del (w := w1.drew) (hm1.keep rfl) Tryz.underlying9 Tryz.underlying100 (Nat.le_trans HLL.out KL_le) HK.out 0
  have s3 := hr1.st.cell 3 (.map (some mb)) rfl
  have y0 := hy1.cell 0 (.string (bs y.2.1)) rfl
  have HR1 := Lib.hid hr1; have HY1 := Lib.hid hy1; have HM2 := Lib.hid hm2; have HT2 := Lib.hid hturn
  clear hT hr1 hy1 hm1 hm2 hturn HL HR HM HLA HLB HMA HMB
  go_wp2_with fail
  go_region
  clear s3 y0 hrun
  have hkk : ∀ k, k ≠ mb → k < w1.heap.size → w2.heap[k]? = w1.heap[k]? := fun k hk hlt => HT2.out.grown.block k hlt (fun e => hk (by cases e; rfl))
  have hr2 : Rin w2 sb n m (y.2.2.1 + t) mb (xs ++ zs) := HR1.out.keep (hkk sb HNE.out.1 HR1.out.st.lt) (fun k hk => hkk k (HNE.out.2 k (by rw [blks_append] at *; rcases List.mem_append.1 hk with q | q; exact List.mem_append_left _ q; exact List.mem_append_right _ (List.mem_cons_of_mem _ q))) (by obtain ⟨z, hz, rfl⟩ := List.mem_map.1 hk; exact HR1.out.seg.lt z hz))
  have hy2 : bk w2 y.1 (itC mk y.2 (la (sb, 4) xs) (na (sb, 4) zs)) := HY1.out.keep (hkk y.1 (HNE.out.2 y.1 (by rw [blks_append]; exact List.mem_append_right _ (by simp [blks]))) HY1.out.lt)
  have HD2 : Hid (Did (ringX sb mb (xs ++ y :: zs)) (ringX sb mb (xs ++ y :: zs)) w w2) := HD1.out.trans (Did.ofDrew (Did.turned HT2.out (.inr (.inl rfl))))
  have s2 := hr2.st.cell 2 (.int .i64 ((y.2.2.1 + t : Nat) : Int)) rfl
  have fs2 := hr2.st.free 2
  have y1 := hy2.cell 1 (.int .i64 (y.2.2.1 : Int)) rfl
  have hyb : y.1 ≠ sb := by
    intro e
    rw [e] at hy2
    have := hy2.inj hr2.st
    simp [itC, stC] at this
  have HR2 := Lib.hid hr2; have HY2 := Lib.hid hy2; have HYB := Lib.hid hyb
  clear hkk hr2 hy2 HR1 HY1 hyb
  have hw : IntKind.i64.wrap (((y.2.2.1 + t : Nat) : Int) - (y.2.2.1 : Int)) = (t : Int) := by rw [IntKind.wrap_i64]; omega
  generalize ((y.2.2.1 + t : Nat) : Int) = tt at *
  go_wp2_with fail
  go_region
  go_wp2_with fail
  go_end0
  have hz := HR2.out.total t
  refine ⟨rfl, hz.keep rfl (fun _ _ => rfl), ?_, ⟨PA (la (sb, 4) xs), PA (na (sb, 4) zs), ?_⟩, ?_⟩
  · exact HM2.out.keep (Below.heap_setCell _ _ _ _ HNE.out.1.symm)
  · exact HY2.out.keep (Below.heap_setCell _ _ _ _ HYB.out)
  · refine (HD2.out.trans (b := w2) (X'' := ringX sb mb (xs ++ y :: zs)) ?_).sub fun k hk => ringX_mid hk
    exact Twin.did1 (a := ⟨sb, 2, none⟩) (u := .int .i64 (t : Int)) ⟨rfl, rfl, rfl, rfl⟩ (.inl rfl)
set_option maxRecDepth 100000 in
set_option maxHeartbeats 1000000 in
theorem add_any (sb mb n m t : Nat) (ns : List (Nd Iv)) (y : Nd Iv) (u v : Value) (w : World) (hr : Rin w sb n m t mb ns) (hm : Mpk w mb ns) (hy : bk w y.1 #[.string (bs y.2.1), .int .i64 y.2.2.1, (mk y.2.2.2).c0, (mk y.2.2.2).c1, (mk y.2.2.2).c2, (mk y.2.2.2).c3, (mk y.2.2.2).c4, (mk y.2.2.2).c5, (mk y.2.2.2).c6, (mk y.2.2.2).c7, (mk y.2.2.2).c8, u, v])
    (hs : y.1 ≠ sb) (hn : y.1 ∉ blks ns) (hl : y.2.1.length ≤ KL) (hk : ∀ z ∈ ns, z.2.1 ≠ y.2.1) (hz : ns.length < maxLen) (hb : t + y.2.2.1 ≤ 4294967296) :
    Calls Tryz.prog 59 #[.pointer (some ⟨sb, 0, none⟩), .pointer (some ⟨y.1, 0, none⟩)] w fun e w' => e = .returned (.tuple #[]) ∧
      Rin w' sb n m (t + y.2.2.1) mb (ns ++ [y]) ∧ Mpk w' mb (ns ++ [y]) ∧ Did (fun k => k = y.1 ∨ ringX sb mb ns k) (ringX sb mb (ns ++ [y])) w w' := by
  obtain ⟨x, cA, fA⟩ := hr.cellL
  have hne := hr.blk_ne hm
  have hym := hm.ne hy
  have hLA : ringX sb mb ns (la (sb, 4) ns).1 := by
    rcases la_mem sb 4 ns with e | e
    · exact .inl e
    · exact .inr (.inr e)
  have hMA : mb ≠ (la (sb, 4) ns).1 := by
    intro e
    rcases la_mem sb 4 ns with q | q
    · exact hne.1 (q.symm.trans e.symm)
    · exact hne.2 _ q e.symm
  have hyA : (la (sb, 4) ns).1 ≠ y.1 := by
    intro e
    rcases la_mem sb 4 ns with q | q
    · exact hs (e.symm.trans q)
    · exact hn (e ▸ q)
  have hap : (la (sb, 4) ns).1 ≠ sb ∨ (la (sb, 4) ns).2 + 12 ≠ 4 + 11 := by
    right
    rcases List.eq_nil_or_concat ns with rfl | ⟨xs', x, rfl⟩
    · show 4 + 12 ≠ 4 + 11; omega
    · rw [List.concat_eq_append, la_append]; show 0 + 12 ≠ 4 + 11; omega
  have HL := Lib.hid (enter_any y.1 (la (sb, 4) ns).1 (la (sb, 4) ns).2 sb 4 _ _ _ _ _ _ _ _ _ _ _ u v x w hy (hr.st.cell 15 _ rfl) (hr.st.free 15) cA fA (Ne.symm hs) hyA hap)
  have HR := Lib.hid hr; have HM := Lib.hid hm; have HK := Lib.hid hk; have HLA := Lib.hid hLA; have HMA := Lib.hid hMA; have HNE := Lib.hid hne; have HLL := Lib.hid hl; have HYM := Lib.hid hym; have HS := Lib.hid hs; have HN := Lib.hid hn; have HY := Lib.hid hy; have HZ := Lib.hid hz
  clear cA fA hr hm hk hLA hMA hne hl hyA hap hym hs hn hy hz
  go_enter Tryz.func59, Tryz.ntmps59
  go_wp2_with fail
  refine HL.out.mono ?_
  rintro e w1 ⟨rfl, hT⟩
  have hr1 := (HR.out.enter y HY.out HS.out HN.out rfl).twin hT
  have hm1 : Mpk w1 mb ns := HM.out.keep (by rw [hT.heap, Below.heap_setCell _ _ _ _ HNE.out.1.symm, Below.heap_setCell _ _ _ _ HMA.out, Below.heap_setCell _ _ _ _ HYM.out.symm, Below.heap_setCell _ _ _ _ HYM.out.symm])
  have HD1 : Hid (Did (fun k => k = y.1 ∨ ringX sb mb ns k) (fun k => k = y.1 ∨ ringX sb mb ns k) w w1) := hT.did4 (.inl rfl) (.inl rfl) (.inr HLA.out) (.inr (.inl rfl))
  have hy1 := Seg.get (y := y) (zs := []) hr1.seg
  obtain ⟨w2, hrun, hm2, hturn⟩ := MapK.put (w := w1.drew) (hm1.keep rfl) Tryz.underlying9 Tryz.underlying100 HZ.out y (Nat.le_trans HLL.out KL_le) HK.out
  have s3 := hr1.st.cell 3 (.map (some mb)) rfl
  have y0 := hy1.cell 0 (.string (bs y.2.1)) rfl
  have HR1 := Lib.hid hr1; have HY1 := Lib.hid hy1; have HM2 := Lib.hid hm2; have HT2 := Lib.hid hturn
  clear hT hr1 hy1 hm1 hm2 hturn HL HR HM HLA HMA HY
  go_wp2_with fail
  go_region
  clear s3 y0 hrun
  have hkk : ∀ k, k ≠ mb → k < w1.heap.size → w2.heap[k]? = w1.heap[k]? := fun k hk hlt => HT2.out.grown.block k hlt (fun e => hk (by cases e; rfl))
  have hr2 : Rin w2 sb n m t mb (ns ++ [y]) := HR1.out.keep (hkk sb HNE.out.1 HR1.out.st.lt) (fun k hk => hkk k (by
    rw [blks_append] at hk
    rcases List.mem_append.1 hk with q | q
    · exact HNE.out.2 k q
    · have : k = y.1 := by simpa [blks] using q
      rw [this]; exact HYM.out) (by obtain ⟨z, hz, rfl⟩ := List.mem_map.1 hk; exact HR1.out.seg.lt z hz))
  have hy2 := Seg.get (y := y) (zs := []) hr2.seg
  have HD2 : Hid (Did (fun k => k = y.1 ∨ ringX sb mb ns k) (fun k => k = y.1 ∨ ringX sb mb ns k) w w2) := HD1.out.trans (Did.ofDrew (Did.turned HT2.out (.inr (.inr (.inl rfl)))))
  have s2 := hr2.st.cell 2 (.int .i64 (t : Int)) rfl
  have fs2 := hr2.st.free 2
  have y1 := hy2.cell 1 (.int .i64 (y.2.2.1 : Int)) rfl
  have HR2 := Lib.hid hr2
  clear hkk hr2 hy2 HR1 HY1
  have hw : IntKind.i64.wrap ((t : Int) + (y.2.2.1 : Int)) = ((t + y.2.2.1 : Nat) : Int) := by rw [IntKind.wrap_i64]; omega
  generalize HTT : ((t + y.2.2.1 : Nat) : Int) = tt at *
  have HTT := Lib.hid HTT
  generalize (t : Int) = tq at *
  generalize (y.2.2.1 : Int) = sq at *
  go_wp2_with fail
  go_region
  go_wp2_with fail
  go_end0
  subst tt
  have hz := HR2.out.total (t + y.2.2.1)
  refine ⟨rfl, hz.keep rfl (fun _ _ => rfl), ?_, ?_⟩
  · exact HM2.out.keep (Below.heap_setCell _ _ _ _ HNE.out.1.symm)
  · refine (HD2.out.trans (b := w2) (X'' := fun k => k = y.1 ∨ ringX sb mb ns k) ?_).sub fun k hk => ?_
    · exact Twin.did1 (a := ⟨sb, 2, none⟩) (u := .int .i64 ((t + y.2.2.1 : Nat) : Int)) ⟨rfl, rfl, rfl, rfl⟩ (.inr (.inl rfl))
    · rcases hk with q | q | q
      · exact .inr (.inl q)
      · exact .inr (.inr (.inl q))
      · rw [blks_append] at q
        rcases List.mem_append.1 q with q | q
        · exact .inr (.inr (.inr q))
        · exact .inl (by simpa [blks] using q)
end Go.Proofs.YtopgeclecpaecaaGreatDoor.BT
