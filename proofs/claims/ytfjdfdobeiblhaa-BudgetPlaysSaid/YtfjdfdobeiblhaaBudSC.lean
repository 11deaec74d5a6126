/- What is asked for, dropped, told of a budget (values: string). -/
import Derived.Test.YtfjdfdobeiblhaaBudSB
namespace Go.Proofs.Ytfjdfdobeiblhaa.BS
open Go.RowKit
/-- no budget of New's -/
def Un (w : World) (v : Value) : Prop := v = .pointer none ∨ ∃ b, v = .pointer (some ⟨b, 0, none⟩) ∧ bk w b #[.pointer none]
theorem made_un {w : World} {v : Value} (h : Un w v) : Calls Try.prog 36 #[v] w fun e w' => e = .returned (.bool false) ∧ w = w' := by
  rcases h with rfl | ⟨b, rfl, h⟩
  · exact made_nil w
  · exact made_zero b w h
section
variable {w : World} {v : Value}
theorem find_un (h : Un w v) (k : ByteArray) : Calls Try.prog 41 #[v, .string k] w fun e w' => e = .returned (.pointer none) ∧ w = w' := by
  have HM := Lib.hid (made_un h)
  clear h
  go_enter Try.func41, Try.ntmps41
  go_wp2_with fail
  refine HM.out.mono ?_
  rintro e wx ⟨rfl, rfl⟩
  go_wp2_with fail
  go_ret
  exact ⟨rfl, rfl⟩
theorem peek_un (h : Un w v) (k : ByteArray) : Calls Try.prog 22 #[v, .string k] w fun e w' => e = .returned (.tuple #[.string ⟨#[]⟩, .bool false]) ∧ w = w' := by
  have HM := Lib.hid (find_un h k)
  clear h
  go_enter Try.func22, Try.ntmps22
  go_wp2_with fail
  refine HM.out.mono ?_
  rintro e wx ⟨rfl, rfl⟩
  go_wp2_with fail
  go_ret2
  exact ⟨rfl, rfl⟩
theorem get_un (h : Un w v) (k : ByteArray) : Calls Try.prog 28 #[v, .string k] w fun e w' => e = .returned (.tuple #[.string ⟨#[]⟩, .bool false]) ∧ w = w' := by
  have HM := Lib.hid (find_un h k)
  clear h
  go_enter Try.func28, Try.ntmps28
  go_wp2_with fail
  refine HM.out.mono ?_
  rintro e wx ⟨rfl, rfl⟩
  go_wp2_with fail
  go_ret2
  exact ⟨rfl, rfl⟩
theorem drop_un (h : Un w v) (k : ByteArray) : Calls Try.prog 24 #[v, .string k] w fun e w' => e = .returned (.bool false) ∧ w = w' := by
  have HM := Lib.hid (find_un h k)
  clear h
  go_enter Try.func24, Try.ntmps24
  go_wp2_with fail
  refine HM.out.mono ?_
  rintro e wx ⟨rfl, rfl⟩
  go_wp2_with fail
  go_ret
  exact ⟨rfl, rfl⟩
theorem len_un (h : Un w v) : Calls Try.prog 21 #[v] w fun e w' => e = .returned (.int .i64 0) ∧ w = w' := by
  have HM := Lib.hid (made_un h)
  clear h
  go_enter Try.func21, Try.ntmps21
  go_wp2_with fail
  refine HM.out.mono ?_
  rintro e wx ⟨rfl, rfl⟩
  go_wp2_with fail
  go_ret
  exact ⟨rfl, rfl⟩
theorem bytes_un (h : Un w v) : Calls Try.prog 23 #[v] w fun e w' => e = .returned (.int .i64 0) ∧ w = w' := by
  have HM := Lib.hid (made_un h)
  clear h
  go_enter Try.func23, Try.ntmps23
  go_wp2_with fail
  refine HM.out.mono ?_
  rintro e wx ⟨rfl, rfl⟩
  go_wp2_with fail
  go_ret
  exact ⟨rfl, rfl⟩
end
section
variable {w : World} {b n m : Nat} {X : Nat → Prop} {l : List (It (List UInt8))}
theorem len_any (h : Bd w b X n m l) : Calls Try.prog 21 #[.pointer (some ⟨b, 0, none⟩)] w fun e w' => e = .returned (.int .i64 (l.length : Int)) ∧ w = w' := by
  obtain ⟨sb, mb, ns, rfl, -, h⟩ := h
  have HM := Lib.hid (made_any b sb w h.top)
  have c0 := h.top.cell 0 (.pointer (some ⟨sb, 0, none⟩)) rfl
  have s3 := h.ring.st.cell 3 (.map (some mb)) rfl
  have hrun := h.map.len Try.underlying66 3
  rw [its_len]
  clear h
  generalize (ns.length : Int) = q at *
  go_enter Try.func21, Try.ntmps21
  go_wp2_with fail
  refine HM.out.mono ?_
  rintro e wx ⟨rfl, rfl⟩
  go_wp2_with fail
  go_ret
  exact ⟨rfl, rfl⟩
theorem bytes_any (h : Bd w b X n m l) : Calls Try.prog 23 #[.pointer (some ⟨b, 0, none⟩)] w fun e w' => e = .returned (.int .i64 (totK l : Int)) ∧ w = w' := by
  obtain ⟨sb, mb, ns, rfl, -, h⟩ := h
  have HM := Lib.hid (made_any b sb w h.top)
  have c0 := h.top.cell 0 (.pointer (some ⟨sb, 0, none⟩)) rfl
  have s2 := h.ring.st.cell 2 (.int .i64 (totK (its ns) : Int)) rfl
  clear h
  generalize (totK (its ns) : Int) = q at *
  go_enter Try.func23, Try.ntmps23
  go_wp2_with fail
  refine HM.out.mono ?_
  rintro e wx ⟨rfl, rfl⟩
  go_wp2_with fail
  go_ret
  exact ⟨rfl, rfl⟩
theorem peek_any (h : Bd w b X n m l) (k : List UInt8) (hl : k.length ≤ KL) :
    Calls Try.prog 22 #[.pointer (some ⟨b, 0, none⟩), .string (bs k)] w fun e w' => e = .returned (.tuple #[.string (bs (valK ([] : List UInt8) (findK k l))), .bool (findK k l).isSome]) ∧ w = w' := by
  obtain ⟨sb, mb, ns, rfl, -, h⟩ := h
  have HF := Lib.hid (find_any w k h hl)
  by_cases hk : k ∈ keysK (its ns)
  · obtain ⟨xs, y, zs, rfl, hy, hb, -, hf, -⟩ := h.split hk
    rw [hf]
    rw [hb] at HF
    have HF2 : Hid (Calls Try.prog 41 #[.pointer (some ⟨b, 0, none⟩), .string (bs k)] w fun e w' => e = .returned (.pointer (some ⟨y.1, 0, none⟩)) ∧ w = w') := HF.out
    have y2 : w.cell? ⟨y.1, 2, none⟩ = some (.string (bs (y.2.2.2))) := h.ring.seg.get.cell 2 _ rfl
    clear h HF hb hf hk hl hy
    show Calls _ _ _ _ fun e w' => e = .returned (.tuple #[.string (bs (y.2.2.2)), .bool true]) ∧ _
    generalize y.2.2.2 = q at *
    go_enter Try.func22, Try.ntmps22
    go_wp2_with fail
    refine HF2.out.mono ?_
    rintro e wx ⟨rfl, rfl⟩
    go_wp2_with fail
    go_ret2
    exact ⟨rfl, rfl⟩
  · rw [findK_none hk]
    rw [Full.miss hk] at HF
    have HF2 : Hid (Calls Try.prog 41 #[.pointer (some ⟨b, 0, none⟩), .string (bs k)] w fun e w' => e = .returned (.pointer none) ∧ w = w') := HF.out
    clear h HF hk hl
    show Calls _ _ _ _ fun e w' => e = .returned (.tuple #[.string ⟨#[]⟩, .bool false]) ∧ _
    go_enter Try.func22, Try.ntmps22
    go_wp2_with fail
    refine HF2.out.mono ?_
    rintro e wx ⟨rfl, rfl⟩
    go_wp2_with fail
    go_ret2
    exact ⟨rfl, rfl⟩
theorem drop_any (h : Bd w b X n m l) (k : List UInt8) (hl : k.length ≤ KL) :
    Calls Try.prog 24 #[.pointer (some ⟨b, 0, none⟩), .string (bs k)] w fun e w' => e = .returned (.bool (hasK k l)) ∧ ∃ X', Bd w' b X' n m (dropK k l) ∧ Did X X' w w' := by
  obtain ⟨sb, mb, ns, rfl, rfl, h⟩ := h
  have HF := Lib.hid (find_any w k h hl)
  by_cases hk : k ∈ keysK (its ns)
  · obtain ⟨xs, y, zs, rfl, hy, hb, hd, hf, ht, hko⟩ := h.split hk
    rw [hasK_iff.2 hk, hd]
    rw [hb] at HF
    have HF2 : Hid (Calls Try.prog 41 #[.pointer (some ⟨b, 0, none⟩), .string (bs k)] w fun e w' => e = .returned (.pointer (some ⟨y.1, 0, none⟩)) ∧ w = w') := HF.out
    have c0 := h.top.cell 0 (.pointer (some ⟨sb, 0, none⟩)) rfl
    have hle := h.ok.tot
    have hm2 := h.m2
    rw [ht] at hle
    have hr := h.ring
    rw [ht] at hr
    have HRM := Lib.hid (remove_any sb mb n m (totK (its (xs ++ zs))) xs zs y w hr h.map (by rw [hy]; exact hl) (by rw [hy]; exact hko) (by omega))
    have HH := Lib.hid h
    clear h HF hb hf hk hl hy hd ht hko hle hm2 hr
    go_enter Try.func24, Try.ntmps24
    go_wp2_with fail
    refine HF2.out.mono ?_
    rintro e wx ⟨rfl, rfl⟩
    go_wp2_with fail
    refine HRM.out.mono ?_
    rintro e w1 ⟨rfl, hr1, hm1, -, hd1⟩
    have HZ := Lib.hid (HH.out.removed hr1 hm1 hd1)
    clear hr1 hm1 hd1 c0
    go_wp2_with fail
    go_ret
    exact ⟨rfl, _, ⟨sb, mb, _, rfl, rfl, HZ.out.1⟩, HZ.out.2⟩
  · rw [hasK_false.2 hk, dropK_none hk]
    rw [Full.miss hk] at HF
    have HF2 : Hid (Calls Try.prog 41 #[.pointer (some ⟨b, 0, none⟩), .string (bs k)] w fun e w' => e = .returned (.pointer none) ∧ w = w') := HF.out
    have HH := Lib.hid h
    clear h HF hk hl
    go_enter Try.func24, Try.ntmps24
    go_wp2_with fail
    refine HF2.out.mono ?_
    rintro e wx ⟨rfl, rfl⟩
    go_wp2_with fail
    go_ret
    exact ⟨rfl, _, ⟨sb, mb, _, rfl, rfl, HH.out⟩, Did.refl _ _⟩
set_option maxRecDepth 100000 in
set_option maxHeartbeats 1000000 in
theorem get_any (h : Bd w b X n m l) (k : List UInt8) (hl : k.length ≤ KL) :
    Calls Try.prog 28 #[.pointer (some ⟨b, 0, none⟩), .string (bs k)] w fun e w' => e = .returned (.tuple #[.string (bs (valK ([] : List UInt8) (findK k l))), .bool (findK k l).isSome]) ∧ ∃ X', Bd w' b X' n m (getK k l) ∧ Did X X' w w' := by
  obtain ⟨sb, mb, ns, rfl, rfl, h⟩ := h
  have HF := Lib.hid (find_any w k h hl)
  by_cases hk : k ∈ keysK (its ns)
  · obtain ⟨xs, y, zs, rfl, hy, hb, hd, hf, ht, hko⟩ := h.split hk
    have hg : getK k (its (xs ++ y :: zs)) = its (xs ++ zs ++ [y]) := by rw [(getK_found hf).1, hd, its_append _ [y]]; rfl
    rw [hf, hg]
    rw [hb] at HF
    have HF2 : Hid (Calls Try.prog 41 #[.pointer (some ⟨b, 0, none⟩), .string (bs k)] w fun e w' => e = .returned (.pointer (some ⟨y.1, 0, none⟩)) ∧ w = w') := HF.out
    have hr : Rin w sb n m (totK (its (xs ++ y :: zs))) mb (xs ++ y :: zs) := h.ring
    obtain ⟨u, cA, fA⟩ := hr.cellA
    obtain ⟨v, cB, fB⟩ := hr.cellB
    obtain ⟨n1, n2, n3, n4⟩ := nd_mid hr.nd
    have HL := Lib.hid (leave_any y.1 (la (sb, 4) xs).1 (la (sb, 4) xs).2 (na (sb, 4) zs).1 (na (sb, 4) zs).2 _ _ _ u v w hr.seg.get cA fA cB fB hr.apart)
    have HH := Lib.hid h; have HR := Lib.hid hr; have HKO : Hid (∀ z ∈ xs ++ zs, z.2.1 ≠ y.2.1) := by rw [hy]; exact hko
    have N2 := Lib.hid n2; have N3 : Hid (y.1 ∉ blks (xs ++ zs)) := fun e => by obtain ⟨z, hz, q⟩ := List.mem_map.1 e; exact n3 z hz q
    have HLA : Hid ((la (sb, 4) xs).1 = sb ∨ (la (sb, 4) xs).1 ∈ blks (xs ++ y :: zs)) := (la_mem sb 4 xs).imp id (fun q => by rw [blks_append]; exact List.mem_append_left _ q)
    have HLB : Hid ((na (sb, 4) zs).1 = sb ∨ (na (sb, 4) zs).1 ∈ blks (xs ++ y :: zs)) := (na_mem sb 4 zs).imp id (fun q => by rw [blks_append]; exact List.mem_append_right _ (List.mem_cons_of_mem _ q))
    have HLC : Hid ((la (sb, 4) (xs ++ zs)).1 = sb ∨ (la (sb, 4) (xs ++ zs)).1 ∈ blks (xs ++ y :: zs)) := (la_mem sb 4 (xs ++ zs)).imp id (fun q => by
      rw [blks_append] at *
      rcases List.mem_append.1 q with q | q
      · exact List.mem_append_left _ q
      · exact List.mem_append_right _ (List.mem_cons_of_mem _ q))
    have HYN : Hid ((la (sb, 4) (xs ++ zs)).1 ≠ y.1) := fun e => by
      rcases la_mem sb 4 (xs ++ zs) with q | q
      · exact n2 (e.symm.trans q)
      · obtain ⟨z, hz, q⟩ := List.mem_map.1 q; exact n3 z hz (q.trans e)
    clear h HF hb hf hk hl hy hd ht hko hr cA fA cB fB n1 n2 n3 n4 hg
    show Calls _ _ _ _ fun e w' => e = .returned (.tuple #[.string (bs (y.2.2.2)), .bool true]) ∧ _
    go_enter Try.func28, Try.ntmps28
    go_wp2_with fail
    refine HF2.out.mono ?_
    rintro e wx ⟨rfl, rfl⟩
    go_wp2_with fail
    refine HL.out.mono ?_
    rintro e w1 ⟨rfl, hT⟩
    have hr1 := (HR.out.leave rfl rfl).1.twin hT
    have hy1 : bk w1 y.1 (itC mk y.2 (la (sb, 4) xs) (na (sb, 4) zs)) := (HR.out.leave rfl rfl).2.keep (by rw [hT.heap]; rfl)
    have HD1 : Hid (Did (fun k => k = sb ∨ k ∈ blks (xs ++ y :: zs)) (fun k => k = sb ∨ k ∈ blks (xs ++ y :: zs)) w w1) := hT.did2 HLA.out HLB.out
    have c0 : w1.cell? ⟨b, 0, none⟩ = some (.pointer (some ⟨sb, 0, none⟩)) := (HH.out.top.keep (HD1.out.keep b HH.out.top.lt (fun e => HH.out.nb b (e.elim .inl (fun q => .inr (.inr q))) rfl))).cell 0 _ rfl
    obtain ⟨x, cL, fL⟩ := hr1.cellL
    have hap : (la (sb, 4) (xs ++ zs)).1 ≠ sb ∨ (la (sb, 4) (xs ++ zs)).2 + 4 ≠ 4 + 3 := by
      right
      rcases List.eq_nil_or_concat (xs ++ zs) with e | ⟨xs', x, e⟩
      · rw [e]; show 4 + 4 ≠ 4 + 3; omega
      · rw [e, List.concat_eq_append, la_append]; show 0 + 4 ≠ 4 + 3; omega
    have HE := Lib.hid (enter_any y.1 (la (sb, 4) (xs ++ zs)).1 (la (sb, 4) (xs ++ zs)).2 sb 4 _ _ _ _ _ x w1 hy1 (hr1.st.cell 7 _ rfl) (hr1.st.free 7) cL fL (Ne.symm N2.out) HYN.out hap)
    have HR1 := Lib.hid hr1; have HY1 := Lib.hid hy1
    clear hT hr1 hy1 cL fL hap HR HL
    go_wp2_with fail
    refine HE.out.mono ?_
    rintro e w2 ⟨rfl, hT⟩
    have hr2 := (HR1.out.enter y HY1.out N2.out N3.out rfl).twin hT
    have hd2 : Did (fun k => k = sb ∨ k ∈ blks (xs ++ y :: zs)) (fun k => k = sb ∨ k ∈ blks (xs ++ y :: zs)) w1 w2 := hT.did4 (.inr (by simp [blks])) (.inr (by simp [blks])) HLC.out (.inl rfl)
    have HZ := Lib.hid (HH.out.moved hr2 HKO.out (HD1.out.trans hd2))
    have y2 : w2.cell? ⟨y.1, 2, none⟩ = some (.string (bs (y.2.2.2))) := (Seg.get (y := y) (zs := []) hr2.seg).cell 2 _ rfl
    clear hT hr2 hd2 c0 HE HR1 HY1 HH HD1
    go_wp2_with fail
    go_ret2
    exact ⟨rfl, _, ⟨sb, mb, _, rfl, rfl, HZ.out.1⟩, HZ.out.2⟩
  · have hg : getK k (its ns) = its ns := by unfold getK; rw [findK_none hk]
    rw [findK_none hk, hg]
    rw [Full.miss hk] at HF
    have HF2 : Hid (Calls Try.prog 41 #[.pointer (some ⟨b, 0, none⟩), .string (bs k)] w fun e w' => e = .returned (.pointer none) ∧ w = w') := HF.out
    have HH := Lib.hid h
    clear h HF hk hl hg
    show Calls _ _ _ _ fun e w' => e = .returned (.tuple #[.string ⟨#[]⟩, .bool false]) ∧ _
    go_enter Try.func28, Try.ntmps28
    go_wp2_with fail
    refine HF2.out.mono ?_
    rintro e wx ⟨rfl, rfl⟩
    go_wp2_with fail
    go_ret2
    exact ⟨rfl, _, ⟨sb, mb, _, rfl, rfl, HH.out⟩, Did.refl _ _⟩
end
end Go.Proofs.Ytfjdfdobeiblhaa.BS
