/- The names of the fields by which the entries under a key were selected: Names. -/
import Derived.Test.YtopgeclecpaecaaGreatDoorKKpQ
import Derived.Test.YtopgeclecpaecaaGreatDoorKKpU
import Derived.Test.YtopgeclecpaecaaGreatDoorKApp
namespace Go.Proofs.YtopgeclecpaecaaGreatDoor
open Go.RowKit
/-- a name, if it is not among them in whatever case -/
def nmSt (o : List (List UInt8)) (n : List UInt8) : List (List UInt8) := if (o.map lower).any (· == lower n) then o else o ++ [n]
def nmVy (o : List (List UInt8)) (l : List Fld) : List (List UInt8) := l.foldl (fun a f => nmSt a f.1) o
def namesS (A : List (It He)) (k : List UInt8) : List (List UInt8) := (helds A k).foldl (fun o h => nmVy o h.e.vy) []
theorem nmSt_len (o : List (List UInt8)) (n : List UInt8) : (nmSt o n).length ≤ o.length + 1 := by
  unfold nmSt
  split <;> simp
theorem nmVy_len : ∀ (l : List Fld) (o : List (List UInt8)), (nmVy o l).length ≤ o.length + l.length
  | [], o => by simp [nmVy]
  | f :: r, o => by
    have h1 := nmVy_len r (nmSt o f.1)
    have h2 := nmSt_len o f.1
    show (nmVy (nmSt o f.1) r).length ≤ _
    simp only [List.length_cons]
    omega
theorem nmHe_len : ∀ (hs : List He) (o : List (List UInt8)), (∀ h ∈ hs, h.e.vy.length ≤ 10) → (hs.foldl (fun o h => nmVy o h.e.vy) o).length ≤ o.length + 10 * hs.length
  | [], o, _ => by simp
  | h :: r, o, hl => by
    have h1 := nmHe_len r (nmVy o h.e.vy) (fun x hx => hl x (by simp [hx]))
    have h2 := nmVy_len h.e.vy o
    have h3 := hl h (by simp)
    simp only [List.foldl_cons, List.length_cons]
    omega
theorem nmVy_step {l : List Fld} {o : List (List UInt8)} {j : Nat} (h : j < l.length) : nmVy o (l.take (j + 1)) = nmSt (nmVy o (l.take j)) l[j].1 := by
  unfold nmVy
  rw [List.take_succ_eq_append_getElem h, List.foldl_append]; rfl
theorem nmHe_step {hs : List He} {j : Nat} {h : He} (e : hs[j]? = some h) : (hs.take (j + 1)).foldl (fun o h => nmVy o h.e.vy) [] = nmVy ((hs.take j).foldl (fun o h => nmVy o h.e.vy) []) h.e.vy := by
  have hj : j < hs.length := (List.getElem?_eq_some_iff.1 e).1
  rw [List.take_succ_eq_append_getElem hj, List.foldl_append, (List.getElem?_eq_some_iff.1 e).2]; rfl
set_option maxRecDepth 100000 in
set_option maxHeartbeats 4000000 in
theorem snames_any {w : World} {s : Nat} {X : Nat → Prop} {n m : Nat} {A : List (It He)} {pu : Nat} (h : Sto w s X n m A pu) (k : List UInt8) (hk : k.length ≤ 300) (hp : pu ≤ 1000000) :
    Calls Tryz.prog 16 #[.pointer (some ⟨s, 0, none⟩), .string (bs k)] w fun r w' => (∃ v, r = .returned v ∧ ownS w' w.heap.size v (namesS A k)) ∧ Below w.heap.size w w' := by
  obtain ⟨tb, bb, umb, nF, XB, F, l, hw⟩ := h
  have hmk := @run_makeMap Tryz.prog
  have hal : Below w.heap.size w (w.alloc (.map #[] 0)) := (Below.refl _ _).alloc (Nat.le_refl _) _
  have HK := Lib.hid (skept_any s tb w hw.top)
  have c1 := (hw.st.bel hal).st.cell 1 (.map (some umb)) rfl
  have hkm : k.length ≤ maxLen := by unfold maxLen; omega
  have hrun := (hw.st.bel hal).und.map.look Tryz.underlying9 Tryz.underlying62 (zeroSl (w.alloc (.map #[] 0))) k hkm
  obtain ⟨hrow, Ag, cg, hsl, -⟩ := rowOf hw.st.und k
  rw [hsl] at hrun hrow
  have HROW := Lib.hid hrow
  have HS0 : Hid (Sim (Hld w (stX tb umb F XB)) A l) := hw.sim.mono (fun a b q => q.wider (fun b e => .inl (by rw [hw.eX]; exact .inr e)))
  have HST := Lib.hid hw.st
  have hln : A.length ≤ 4096 := by
    have h1 := hw.st.bud.ok.len
    have h2 := hw.st.bud.bounds.2.1
    have h3 := hw.sim.len
    omega
  have hhl : (helds A k).length = (rowS A k).length := by simp [helds, rowS]
  have HH : Hid (∀ j (hj : j < (rowS A k).length), ∃ (h : He) (y : It Iv), (helds A k)[j]? = some h ∧ SmE h.key h.e ∧ h.n ≤ 1000000 ∧ findK ((rowS A k)[j]) l = some y ∧ Hld w (stX tb umb F XB) h y.2.2 ∧ ((rowS A k)[j]).length ≤ KL) := fun j hj => by
    have hj' : j < (A.filter fun a => a.2.2.key == k).length := by simpa [rowS] using hj
    have e1 : (rowS A k)[j] = (A.filter fun a => a.2.2.key == k)[j].1 := by simp [rowS]
    have e2 : (helds A k)[j]? = some (A.filter fun a => a.2.2.key == k)[j].2.2 := by simp [helds, hj']
    have hmem : (A.filter fun a => a.2.2.key == k)[j] ∈ A := (List.mem_filter.1 (List.getElem_mem hj')).1
    generalize (A.filter fun a => a.2.2.key == k)[j] = a at *
    have hfa : findK a.1 A = some a := by
      obtain ⟨xs, zs, hA⟩ := List.append_of_mem hmem
      rw [hA]
      refine findK_mid rfl (fun q => ?_)
      have hnd := hw.nd2
      rw [hA, keysK_append, List.nodup_append] at hnd
      exact hnd.2.2 a.1 q a.1 (by simp [keysK]) rfl
    have hs1 := hw.sm a hmem
    have hlen : a.1.length ≤ KL := by rw [congrArg Prod.fst (hw.of a hmem)]; exact Nat.le_trans (idT_len hs1.k hs1.vy) KL_7000
    rcases HS0.out.find a.1 with ⟨q, -⟩ | ⟨a', y, q1, q2, -, -, q3⟩
    · rw [hfa] at q; cases q
    · rw [hfa] at q1
      cases q1
      exact ⟨a.2.2, y, e2, hs1, (by have := (hw.num a hmem).2; omega), by rw [e1]; exact q2, q3, by rw [e1]; exact hlen⟩
  have HLN : Hid ((rowS A k).length ≤ 4096) := by
    have h4 : (rowS A k).length ≤ A.length := by unfold rowS; rw [List.length_map]; exact List.length_filter_le _ _
    show _ ≤ _; omega
  have HNM : Hid (namesS A k = (helds A k).foldl (fun o h => nmVy o h.e.vy) []) := rfl
  have HV10 : Hid (∀ h ∈ helds A k, h.e.vy.length ≤ 10) := fun h hh => by
    unfold helds at hh
    obtain ⟨a, ha, rfl⟩ := List.mem_map.1 hh
    exact (hw.sm a (List.mem_filter.1 ha).1).vy.len
  have HNR0 : Hid (NR w (w.alloc (.map #[] 0)) (.slice none 0 0) [] (.slice none 0 0) [] (.slice none 0 0) []) := ⟨ownS_nil _ _, fun g hg => by simp [Value.ownBlock] at hg, fun g hg => by simp [Value.ownBlock] at hg, SL_nil _, SL_nil _, hal⟩
  have HMN0 : Hid (MN w (w.alloc (.map #[] 0)) w.heap.size (.slice none 0 0) (.slice none 0 0) (.slice none 0 0) []) := ⟨Nat.le_refl _, by simp [Value.ownBlock], by simp [Value.ownBlock], by simp [Value.ownBlock], mapAt_new w⟩
  clear hw hrow hsl hkm hln hal HS0
  generalize namesS A k = res at *
  generalize helds A k = hs at *
  generalize rowS A k = L at *
  have HHL := Lib.hid hhl; clear hhl
  go_enter Tryz.func16, Tryz.ntmps16
  go_wp2_with fail
  refine HK.out.mono ?_
  rintro r wx ⟨rfl, rfl⟩
  go_wp2_with fail
  clear hrun c1 hmk
  go_loopw [6, 27] (fun o i wr => ∃ j : Nat, j ≤ L.length ∧ i = .int .i64 j ∧ Hid (NR w wr (.slice none 0 0) [] (.slice none 0 0) [] o ((hs.take j).foldl (fun o h => nmVy o h.e.vy) [])) ∧ Hid (MN w wr w.heap.size (.slice none 0 0) (.slice none 0 0) o (((hs.take j).foldl (fun o h => nmVy o h.e.vy) []).map lower))) (fun _ i _ => L.length - (intOf i).toNat)
  case atStart => exact ⟨0, Nat.zero_le _, rfl, HNR0.out, HMN0.out⟩
  case round =>
    obtain ⟨j, hj, rfl, HNR, HMN⟩ := hrel
    have hln := HLN.out
    by_cases hend : j < L.length
    · have hji : (j : Int) < (L.length : Int) := by omega
      obtain ⟨h, y, hh1, hsm, hn, hfy, hhld, hil⟩ := HH.out j hend
      obtain ⟨g, rfl, hcv⟩ := ownS.cell (HROW.out.bel HNR.out.bel) j hend
      have hgd : L.getD j [] = L[j] := by simp [List.getD, hend]
      rw [hgd] at hcv
      have hstr := HST.out.bel HNR.out.bel
      have c0 := hstr.st.cell 0 (.pointer (some ⟨bb, 0, none⟩)) rfl
      have hpk := BT.peek_any hstr.bud L[j] hil
      rw [hfy] at hpk
      obtain ⟨Af, cf, hf3⟩ := hhld.c3.fl.form
      obtain ⟨Av, cv, hf7⟩ := hhld.c7.fl.form
      have HFV := Lib.hid hhld.c7.fl
      have hy : (valK BT.zero (some y)).agg = .agg #[.int .i64 h.e.st, .string (bs h.e.re), .int .i64 h.e.mi, .slice Af h.e.fs.length cf, .string (bs h.e.bo), .int .i64 h.e.ak, .int .i64 h.e.gt, .slice Av h.e.vy.length cv, .int .i64 (h.n : Int)] := by
        show Value.agg #[y.2.2.c0, y.2.2.c1, y.2.2.c2, y.2.2.c3, y.2.2.c4, y.2.2.c5, y.2.2.c6, y.2.2.c7, y.2.2.c8] = _
        rw [hhld.c0, hhld.c1, hhld.c2, hf3, hhld.c4, hhld.c5, hhld.c6, hf7, hhld.c8]
      rw [hy] at hpk
      rw [hf7] at HFV
      have HPK := Lib.hid hpk
      have HSV := Lib.hid hsm.vy
      have HSTP := Lib.hid (nmHe_step hh1)
      have HACC : Hid (((hs.take j).foldl (fun o h => nmVy o h.e.vy) []).length ≤ 40960) := by
        have h1 := nmHe_len (hs.take j) [] (fun x hx => HV10.out x (List.mem_of_mem_take hx))
        have h2 := HHL.out
        show _ ≤ _
        rw [List.length_take, List.length_nil] at h1
        omega
      have HJJ : Hid (j < L.length) := hend
      clear hh1 hsm hn hfy hhld hil hgd hstr hpk hf3 hf7 hy hln
      generalize L[j] = ij at *
      generalize (hs.take j).foldl (fun o h => nmVy o h.e.vy) [] = acc at *
      go_wp2_with fail
      refine HPK.out.mono ?_
      rintro r w6 ⟨rfl, hb6⟩
      have HNR6 := Lib.hid (HNR.out.call hb6); have HMN6 := Lib.hid (HMN.out.call hb6)
      have HST7 : Hid (World.there (w6.alloc (.cells #[.int .i64 0, .string ⟨#[]⟩, .int .i64 0, .slice none 0 0, .string ⟨#[]⟩, .int .i64 0, .int .i64 0, .slice none 0 0, .int .i64 0] 61)) w6.heap.size 0 9) := (bk.new w6 #[.int .i64 0, .string ⟨#[]⟩, .int .i64 0, .slice none 0 0, .string ⟨#[]⟩, .int .i64 0, .int .i64 0, .slice none 0 0, .int .i64 0] 61).there 0 9 (by decide)
      have hb7 : Below w6.heap.size w6 (World.setCells (w6.alloc (.cells #[.int .i64 0, .string ⟨#[]⟩, .int .i64 0, .slice none 0 0, .string ⟨#[]⟩, .int .i64 0, .int .i64 0, .slice none 0 0, .int .i64 0] 61)) w6.heap.size 0 [.int .i64 h.e.st, .string (bs h.e.re), .int .i64 h.e.mi, .slice Af h.e.fs.length cf, .string (bs h.e.bo), .int .i64 h.e.ak, .int .i64 h.e.gt, .slice Av h.e.vy.length cv, .int .i64 (h.n : Int)]) := Below.cells ((Below.refl w6.heap.size w6).alloc (Nat.le_refl _) _) _ (Nat.le_refl _) [.int .i64 h.e.st, .string (bs h.e.re), .int .i64 h.e.mi, .slice Af h.e.fs.length cf, .string (bs h.e.bo), .int .i64 h.e.ak, .int .i64 h.e.gt, .slice Av h.e.vy.length cv, .int .i64 (h.n : Int)] 0
      have HBK : Hid (bk (World.setCells (w6.alloc (.cells #[.int .i64 0, .string ⟨#[]⟩, .int .i64 0, .slice none 0 0, .string ⟨#[]⟩, .int .i64 0, .int .i64 0, .slice none 0 0, .int .i64 0] 61)) w6.heap.size 0 [.int .i64 h.e.st, .string (bs h.e.re), .int .i64 h.e.mi, .slice Af h.e.fs.length cf, .string (bs h.e.bo), .int .i64 h.e.ak, .int .i64 h.e.gt, .slice Av h.e.vy.length cv, .int .i64 (h.n : Int)]) w6.heap.size #[.int .i64 h.e.st, .string (bs h.e.re), .int .i64 h.e.mi, .slice Af h.e.fs.length cf, .string (bs h.e.bo), .int .i64 h.e.ak, .int .i64 h.e.gt, .slice Av h.e.vy.length cv, .int .i64 (h.n : Int)]) := (bk.new w6 #[.int .i64 0, .string ⟨#[]⟩, .int .i64 0, .slice none 0 0, .string ⟨#[]⟩, .int .i64 0, .int .i64 0, .slice none 0 0, .int .i64 0] 61).setAll [.int .i64 h.e.st, .string (bs h.e.re), .int .i64 h.e.mi, .slice Af h.e.fs.length cf, .string (bs h.e.bo), .int .i64 h.e.ak, .int .i64 h.e.gt, .slice Av h.e.vy.length cv, .int .i64 (h.n : Int)] rfl
      have HNR7 := Lib.hid (HNR6.out.call hb7); have HMN7 := Lib.hid (HMN6.out.call hb7)
      have HON := Lib.hid (item_oneH h Af Av cf cv)
      clear hb6 c0 hcv hb7 HNR6 HMN6 HNR HMN HPK
      go_wp2_with (refine wpList_store_mid rfl 61 (.tmp 10) (.tmp 38) rfl _ 0 #[.int .i64 h.e.st, .string (bs h.e.re), .int .i64 h.e.mi, .slice Af h.e.fs.length cf, .string (bs h.e.bo), .int .i64 h.e.ak, .int .i64 h.e.gt, .slice Av h.e.vy.length cv, .int .i64 (h.n : Int)] rfl rfl HST7.out BT.infoT.out HON.out ?_; clear HST7 HON; generalize (World.setCells (w6.alloc (.cells #[.int .i64 0, .string ⟨#[]⟩, .int .i64 0, .slice none 0 0, .string ⟨#[]⟩, .int .i64 0, .int .i64 0, .slice none 0 0, .int .i64 0] 61)) w6.heap.size 0 [.int .i64 h.e.st, .string (bs h.e.re), .int .i64 h.e.mi, .slice Af h.e.fs.length cf, .string (bs h.e.bo), .int .i64 h.e.ak, .int .i64 h.e.gt, .slice Av h.e.vy.length cv, .int .i64 (h.n : Int)]) = w7 at *; have q7 := HBK.out.cell 7 (.slice Av h.e.vy.length cv) rfl; clear HBK)
      clear q7
      generalize h.e.vy = V at *
      go_loopw [6, 44] (fun o i wr => ∃ q : Nat, q ≤ V.length ∧ i = .int .i64 q ∧ Hid (NR w wr (.slice none 0 0) [] (.slice none 0 0) [] o (nmVy acc (V.take q))) ∧ Hid (MN w wr w.heap.size (.slice none 0 0) (.slice none 0 0) o ((nmVy acc (V.take q)).map lower))) (fun _ i _ => V.length - (intOf i).toNat)
      case atStart => exact ⟨0, Nat.zero_le _, rfl, HNR7.out, HMN7.out⟩
      case round =>
        obtain ⟨q, hq, rfl, HNR, HMN⟩ := hrel
        clear HNR7 HMN7
        have hv10 := HSV.out.len
        by_cases hqt : q < V.length
        · have hqi : (q : Int) < (V.length : Int) := by omega
          obtain ⟨b, off, rfl, hbl, d0, d1⟩ := (HFV.out.bel HNR.out.bel).get q hqt
          have hfs := HSV.out.at_ V[q] (List.getElem_mem hqt)
          have HSN := Lib.hid (nmVy_step (o := acc) hqt)
          have HQL : Hid ((nmVy acc (V.take q)).length + 1 ≤ 100000) := by
            have h1 := nmVy_len (V.take q) acc
            have h2 := HACC.out
            have h3 := HSV.out.len
            rw [List.length_take] at h1
            show _ ≤ _
            omega
          have HQT : Hid (q < V.length) := hqt
          generalize V[q] = f at *
          obtain ⟨nm, x⟩ := f
          simp only at hfs d0 d1 HSN
          generalize nmVy acc (V.take q) = cur at *
          have hal : Below wr.heap.size wr (wr.alloc (.cells #[.string (bs nm), .string (bs x)] 66)) := (Below.refl _ _).alloc (Nat.le_refl _) _
          have HNRa := Lib.hid (HNR.out.call hal); have HMNa := Lib.hid (HMN.out.call hal)
          have HFW : Hid (w.heap.size < wr.heap.size) := HMN.out.map.lt
          have HFa := Lib.hid (oneF2.new wr (.string (bs nm)) (.string (bs x)))
          have HLW := Lib.hid (klower_any (bs nm) (wr.alloc (.cells #[.string (bs nm), .string (bs x)] 66)) (by rw [bs_size]; omega))
          rw [bs_data] at HLW
          have HLL : Hid ((lower nm).length ≤ 300) := by show _ ≤ _; rw [lower_len]; exact hfs.1
          have HCL := Lib.hid (fun W => BT.clone_any nm (Nat.le_trans hfs.1 (by unfold KL; omega)) W)
          have HPN : Hid (nmSt cur nm = if (cur.map lower).any (· == lower nm) then cur else cur ++ [nm]) := rfl
          have HML : Hid ((cur ++ [nm]).map lower = cur.map lower ++ [lower nm]) := by show _ = _; rw [List.map_append]; rfl
          have hq0 := HFa.out.cells.1
          have hq1 := HFa.out.cells.2.1
          clear hal hfs hbl HNR HMN
          have HCL2 : Hid ((cur.map lower).length = cur.length) := List.length_map ..
          generalize lower nm = lo at *
          generalize hkn : cur.map lower = kn at *
          have HKC := Lib.hid hkn
          clear hkn
          go_wp2_with fail
          refine HLW.out.mono ?_
          rintro e w2 ⟨rfl, hb2⟩
          have HNR5 := Lib.hid (HNRa.out.call hb2); have HMN5 := Lib.hid (HMNa.out.call hb2)
          have HF5 := Lib.hid (HFa.out.bel hb2)
          clear hb2 hq0 hq1 HLW HNRa HMNa HFa d0 d1
          have hlk := HMN5.out.map.look lo (by have := HLL.out; unfold maxLen; omega)
          have hal5 : Below w2.heap.size w2 (w2.alloc (.cells #[] 89)) := (Below.refl _ _).alloc (Nat.le_refl _) _
          have HNR6 := Lib.hid (HNR5.out.call hal5); have HMN6 := Lib.hid (HMN5.out.call hal5); have HF6 := Lib.hid (HF5.out.bel hal5)
          clear hal5 HNR5 HMN5 HF5
          cases hh : kn.any (· == lo)
          · rw [hh] at hlk HPN
            simp only [Bool.false_eq_true, if_false] at HPN
            obtain ⟨w7, hrun, hm7, hg7⟩ := HMN6.out.map.put lo (by have := HLL.out; unfold maxLen; omega) (by have := HQL.out; have := HCL2.out; unfold maxLen; omega)
            have HNR7 := Lib.hid (HNR6.out.turn hg7 HMN6.out.low HMN6.out.oo HMN6.out.nN HMN6.out.nM)
            have HMP7 : Hid (mapAt w7 w.heap.size (kn ++ [lo]).length (kn ++ [lo])) := by show mapAt _ _ _ _; rw [List.length_append]; exact hm7
            have HMO := Lib.hid HMN6.out.oo
            have HF7 : Hid (oneF2 w7 wr.heap.size (.string (bs nm)) (.string (bs x))) := (hg7.block _ (Array.getElem?_eq_some_iff.1 HF6.out).1 (fun e => by have e := Option.some.inj e; have := HFW.out; omega)).trans HF6.out
            clear hm7 hg7 hh HNR6 HMN6 HF6
            have hq0 := HF7.out.cells.1
            go_wp2_with fail
            refine (HCL.out _).mono ?_
            rintro e w8 ⟨rfl, hb8⟩
            have HNR8 := Lib.hid (HNR7.out.call hb8); have HMP8 := Lib.hid (HMP7.out.bel hb8)
            clear hb8 HNR7 HMP7 hq0 HF7
            go_wp2_with (at_builtin; refine wpList_appNR rfl (.tmp 62) (.tmp 66) rfl (fun g => g = w.heap.size) _ _ _ [] [] cur nm rfl HNR8.out (fun g hg => ⟨by rw [hg]; exact HMO.out, by rw [hg]; exact HMP8.out.lt⟩) rfl (by have := HQL.out; omega) ?_; intro v' w9 HNR9 HG9 HK9; have HMN9 : Hid (MN w w9 w.heap.size (.slice none 0 0) (.slice none 0 0) v' (kn ++ [lo])) := ⟨Nat.le_refl _, HG9.out _ rfl, by simp [Value.ownBlock], by simp [Value.ownBlock], HMP8.out.keepV (HK9.out _ rfl)⟩)
            go_roundw
            case rel => exact ⟨q + 1, by have := HQT.out; omega, by go_num, by rw [HSN.out, HPN.out]; exact HNR9.out, by rw [HSN.out, HPN.out, HML.out]; exact HMN9.out⟩
            case measure => have := HQT.out; simp [intOf]; omega
          · rw [hh] at hlk HPN
            simp only [if_true] at HPN
            clear hh
            go_wp2_with fail
            go_roundw
            case rel => exact ⟨q + 1, by have := HQT.out; omega, by go_num, by rw [HSN.out, HPN.out]; exact HNR6.out, by rw [HSN.out, HPN.out, HKC.out]; exact HMN6.out⟩
            case measure => have := HQT.out; simp [intOf]; omega
        · have hqi : ¬ (q : Int) < (V.length : Int) := by omega
          have hln := HLN.out
          have hjl := HJJ.out
          have HE : Hid (nmVy acc (V.take q) = nmVy acc V) := by show _ = _; rw [List.take_of_length_le (by omega)]
          go_wp2_with fail
          go_roundw
          case rel => exact ⟨j + 1, by have := HJJ.out; omega, by go_num, by rw [HSTP.out, ← HE.out]; exact HNR.out, by rw [HSTP.out, ← HE.out]; exact HMN.out⟩
          case measure => have := HJJ.out; simp [intOf]; omega
    · have hji : ¬ (j : Int) < (L.length : Int) := by omega
      have hE : hs.take j = hs := List.take_of_length_le (by have := HHL.out; omega)
      have hNR := HNR.out
      rw [hE, ← HNM.out] at hNR
      obtain ⟨Ao, co, rfl⟩ := hNR.own.form
      have HNRx := Lib.hid hNR
      clear hNR hE HNR HMN hln
      go_wp2_with fail
      go_ret
      exact ⟨⟨_, rfl, HNRx.out.own⟩, HNRx.out.bel⟩
end Go.Proofs.YtopgeclecpaecaaGreatDoor
