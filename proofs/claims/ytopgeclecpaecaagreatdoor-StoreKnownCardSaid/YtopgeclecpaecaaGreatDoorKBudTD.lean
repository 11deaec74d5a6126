/- New budgets; the keys, in order; room is made; a value is put (values: inlay/store.item). -/
import Derived.Test.YtopgeclecpaecaaGreatDoorKApp
import Derived.Test.YtopgeclecpaecaaGreatDoorKBudTC
import Derived.Test.YtopgeclecpaecaaGreatDoorKOpen
import Derived.Deep.LoopGhost
import Derived.WalkMore
import Derived.LaidEqlPtr
namespace Go.Proofs.YtopgeclecpaecaaGreatDoor.BT
open Go.RowKit
theorem na_nil {α : Type} (q : Nat × Nat) : na q ([] : List (Nd α)) = q := rfl
theorem na_cons {α : Type} (q : Nat × Nat) (y : Nd α) (r : List (Nd α)) : na q (y :: r) = (y.1, 0) := rfl
theorem infoI : (Tryz.prog.info? 103).map (fun i => i.size) = some 13 := by kernel_rfl
theorem ends_same (w : World) (a : Addr) : (binOp .neq 101 (.pointer (some a)) (.pointer (some a))).run Tryz.prog w = .ok (.bool false) w := by
  obtain ⟨j, hj, -⟩ := Option.map_eq_some_iff.1 infoI
  exact Lib.run_neq_ptr_same w a Tryz.underlying101 hj
theorem ends_other (w : World) {y sb : Nat} {cs ds : Array Value} (hy : bk w y cs) (hs : bk w sb ds) : (binOp .neq 101 (.pointer (some ⟨y, 0, none⟩)) (.pointer (some ⟨sb, 4, none⟩))).run Tryz.prog w = .ok (.bool true) w := by
  obtain ⟨j, hj, hz⟩ := Option.map_eq_some_iff.1 infoI
  obtain ⟨T1, h1⟩ := hy
  obtain ⟨T2, h2⟩ := hs
  have hne : (⟨y, 0, none⟩ : Addr) ≠ ⟨sb, 4, none⟩ := by intro e; cases e
  have h : ∀ d : Nat, (Op.equalIn (d + 1) 101 (.pointer (some ⟨y, 0, none⟩)) (.pointer (some ⟨sb, 4, none⟩))).run Tryz.prog w = .ok false w := fun d => by
    simp [Op.equalIn, run_underlying Tryz.underlying101, sizeOf, typeInfo, hj, hz, run_sameAddr_other w hne h1 h2]
  simp only [binOp]
  simp [Op.equal, Op.maxDepth, h 9999]
theorem clone_any (k : List UInt8) (hl : k.length ≤ KL) (w : World) : Calls Tryz.prog 42 #[.string (bs k)] w fun e w' => e = .returned (.string (bs k)) ∧ Below w.heap.size w w' := by
  have HC := Lib.hid (Tryz.stringslite_Clone (bs k) w (by rw [bs_size]; unfold KL at hl; omega))
  generalize bs k = s at *
  clear hl
  go_enter Tryz.func42, Tryz.ntmps42
  go_wp2_with fail
  refine HC.out.mono ?_
  rintro e w1 ⟨rfl, hb⟩
  have HB := Lib.hid hb; clear hb
  go_wp2_with fail
  go_ret
  exact ⟨rfl, HB.out⟩
theorem ownS.keepG {w w' : World} {base : Nat} {v : Value} {L : List (List UInt8)} (h : ownS w base v L) (hk : ∀ g, v.ownBlock = some g → w'.heap[g]? = w.heap[g]?) : ownS w' base v L := by
  obtain ⟨h1, h2⟩ := h
  refine ⟨h1, ?_⟩
  rcases h2 with h2 | ⟨g, cap, cur, rfl, hb, hg, r⟩
  · exact .inl h2
  · exact .inr ⟨g, cap, cur, rfl, hb, (hk g rfl).trans hg, r⟩
set_option maxRecDepth 100000 in
set_option maxHeartbeats 1000000 in
theorem new_any (n m : Nat) (w : World) (n1 : 1 ≤ n) (n2 : n ≤ 4096) (m1 : 1 ≤ m) (m2 : m ≤ 1073741824) :
    Calls Tryz.prog 26 #[.int .i64 n, .int .i64 m] w fun e w' => ∃ b X, e = .returned (.pointer (some ⟨b, 0, none⟩)) ∧ Bd w' b X n m [] ∧ Below w.heap.size w w' ∧ ∀ k, X k → w.heap.size ≤ k := by
  have HM := Lib.hid (MapK.new (α := Iv) (P := Tryz.prog) (kt := 9) w)
  have hb2 := bk.new (w.alloc (.map #[] 0)) #[.int .i64 n, .int .i64 m, .int .i64 0, .map (some w.heap.size), .string ⟨#[]⟩, .int .i64 0, .int .i64 0, .string ⟨#[]⟩, .int .i64 0, .slice none 0 0, .string ⟨#[]⟩, .int .i64 0, .int .i64 0, .slice none 0 0, .int .i64 0, .pointer none, .pointer none] 105
  rw [World.size_alloc] at hb2
  have HB := Lib.hid hb2
  have HLW : Hid (Below w.heap.size w ((w.alloc (.map #[] 0)).alloc (.cells #[.int .i64 n, .int .i64 m, .int .i64 0, .map (some w.heap.size), .string ⟨#[]⟩, .int .i64 0, .int .i64 0, .string ⟨#[]⟩, .int .i64 0, .slice none 0 0, .string ⟨#[]⟩, .int .i64 0, .int .i64 0, .slice none 0 0, .int .i64 0, .pointer none, .pointer none] 105))) := ((Below.refl _ _).alloc (Nat.le_refl _) _).alloc (by simp) _
  have HM2 := Lib.hid (HM.out.keep (w' := (w.alloc (.map #[] 0)).alloc (.cells #[.int .i64 n, .int .i64 m, .int .i64 0, .map (some w.heap.size), .string ⟨#[]⟩, .int .i64 0, .int .i64 0, .string ⟨#[]⟩, .int .i64 0, .slice none 0 0, .string ⟨#[]⟩, .int .i64 0, .int .i64 0, .slice none 0 0, .int .i64 0, .pointer none, .pointer none] 105)) (Below.heap_alloc _ _ _ (by simp)))
  have HSZ : Hid (((w.alloc (.map #[] 0)).alloc (.cells #[.int .i64 n, .int .i64 m, .int .i64 0, .map (some w.heap.size), .string ⟨#[]⟩, .int .i64 0, .int .i64 0, .string ⟨#[]⟩, .int .i64 0, .slice none 0 0, .string ⟨#[]⟩, .int .i64 0, .int .i64 0, .slice none 0 0, .int .i64 0, .pointer none, .pointer none] 105)).heap.size = w.heap.size + 2) := by show _ = _; simp
  have HN : Hid (1 ≤ n ∧ n ≤ 4096 ∧ 1 ≤ m ∧ m ≤ 1073741824) := ⟨n1, n2, m1, m2⟩
  clear HM hb2
  have hmk := @run_makeMap Tryz.prog
  have a1 : (1 : Int) ≤ (n : Int) := by omega
  have a2 : (n : Int) ≤ 4096 := by omega
  have a3 : (1 : Int) ≤ (m : Int) := by omega
  have a4 : (m : Int) ≤ 1073741824 := by omega
  clear n1 n2 m1 m2
  go_enter Tryz.func26, Tryz.ntmps26
  go_wp2_with fail
  generalize (w.alloc (.map #[] 0)).alloc (.cells #[.int .i64 n, .int .i64 m, .int .i64 0, .map (some w.heap.size), .string ⟨#[]⟩, .int .i64 0, .int .i64 0, .string ⟨#[]⟩, .int .i64 0, .slice none 0 0, .string ⟨#[]⟩, .int .i64 0, .int .i64 0, .slice none 0 0, .int .i64 0, .pointer none, .pointer none] 105) = w1 at *
  generalize hsb : w.heap.size + 1 = sb at *
  have HSB := Lib.hid hsb; clear hsb
  have c7 := HB.out.cell 15 (.pointer none) rfl
  have c8 := HB.out.cell 16 (.pointer none) rfl
  have f7 := HB.out.free 15
  have f8 := HB.out.free 16
  have d8 := (HB.out.set 15 (.pointer (some ⟨sb, 4, none⟩))).cell 16 (.pointer none) rfl
  have d7 := (HB.out.set 16 (.pointer (some ⟨sb, 4, none⟩))).cell 15 (.pointer none) rfl
  have HQ := Lib.hid ((HB.out.set 15 (.pointer (some ⟨sb, 4, none⟩))).set 16 (.pointer (some ⟨sb, 4, none⟩)))
  have HC := Lib.hid (heap_comm w1 sb sb 7 8 (.pointer (some ⟨sb, 4, none⟩)) (.pointer (some ⟨sb, 4, none⟩)) (.inr (by omega)))
  have key : Hid (∀ W : World, Twin W ((w1.setCell ⟨sb, 15, none⟩ (.pointer (some ⟨sb, 4, none⟩))).setCell ⟨sb, 16, none⟩ (.pointer (some ⟨sb, 4, none⟩))) →
      ∃ X, Bd (W.alloc (.cells #[.pointer (some ⟨sb, 0, none⟩)] 107)) w1.heap.size X n m [] ∧ Below w.heap.size w (W.alloc (.cells #[.pointer (some ⟨sb, 0, none⟩)] 107)) ∧ ∀ k, X k → w.heap.size ≤ k) := by
    intro W hT
    have hz : W.heap.size = w1.heap.size := by rw [hT.heap]; simp [World.setCell]
    have hq := HQ.out.keep (w' := W) (by rw [hT.heap])
    have hm : Mpk W w.heap.size [] := HM2.out.keep (by rw [hT.heap, Below.heap_setCell _ _ _ _ (by have := HSB.out; show w.heap.size ≠ sb; omega), Below.heap_setCell _ _ _ _ (by have := HSB.out; show w.heap.size ≠ sb; omega)])
    have hbl : Below w.heap.size w W := by
      refine HLW.out.trans ⟨hT.os, hT.tape, hT.output, by rw [hz]; exact Nat.le_refl _, fun k hk => ?_⟩
      rw [hT.heap, Below.heap_setCell _ _ _ _ (by have := HSB.out; show k ≠ sb; omega), Below.heap_setCell _ _ _ _ (by have := HSB.out; show k ≠ sb; omega)]
    refine ⟨ownX w1.heap.size sb w.heap.size ([] : List (Nd Iv)), ⟨sb, w.heap.size, [], rfl, rfl, ⟨?_, ⟨hq.alloc _, trivial, by simp [blks]⟩, hm.keep (Below.heap_alloc _ _ _ hm.lt), ⟨by simp [keysK, its], by simp [its], by simp [its, totK]⟩, fun y hy => (by cases hy), HN.out.1, HN.out.2.1, HN.out.2.2.1, HN.out.2.2.2⟩⟩, hbl.alloc hbl.size _, ?_⟩
    · have := bk.new W #[.pointer (some ⟨sb, 0, none⟩)] 107
      rwa [hz] at this
    · have h1 := HSZ.out
      have h2 := HSB.out
      rintro k (rfl | rfl | rfl | hk)
      · omega
      · omega
      · omega
      · cases hk
  clear HQ HM2 HLW HSZ HSB HN HB
  go_region
  all_goals go_wp2_with fail
  all_goals go_ret
  all_goals first
    | (obtain ⟨X, h1, h2, h3⟩ := key.out (((w1.setCell ⟨sb, 15, none⟩ (.pointer (some ⟨sb, 4, none⟩))).setCell ⟨sb, 16, none⟩ (.pointer (some ⟨sb, 4, none⟩))).drew) ⟨rfl, rfl, rfl, rfl⟩; exact ⟨_, X, rfl, h1, h2, h3⟩)
    | (obtain ⟨X, h1, h2, h3⟩ := key.out (((w1.setCell ⟨sb, 16, none⟩ (.pointer (some ⟨sb, 4, none⟩))).setCell ⟨sb, 15, none⟩ (.pointer (some ⟨sb, 4, none⟩))).drew) ⟨HC.out.symm, rfl, rfl, rfl⟩; exact ⟨_, X, rfl, h1, h2, h3⟩)
theorem new_nil (e m : Int) (w : World) (h : e < 1 ∨ 4096 < e ∨ m < 1 ∨ 1073741824 < m) :
    Calls Tryz.prog 26 #[.int .i64 e, .int .i64 m] w fun r w' => r = .returned (.pointer none) ∧ w = w' := by
  by_cases h1 : e < 1
  · clear h
    go_enter Tryz.func26, Tryz.ntmps26
    go_wp2_with fail
    go_ret
    exact ⟨rfl, rfl⟩
  by_cases h2 : 4096 < e
  · clear h
    go_enter Tryz.func26, Tryz.ntmps26
    go_wp2_with fail
    go_ret
    exact ⟨rfl, rfl⟩
  by_cases h3 : m < 1
  · clear h
    go_enter Tryz.func26, Tryz.ntmps26
    go_wp2_with fail
    go_ret
    exact ⟨rfl, rfl⟩
  · have h4 : 1073741824 < m := by omega
    clear h
    go_enter Tryz.func26, Tryz.ntmps26
    go_wp2_with fail
    go_ret
    exact ⟨rfl, rfl⟩
section
variable {w : World} {b n m : Nat} {X : Nat → Prop} {l : List (It Iv)}
theorem keys_un {v : Value} (h : Un w v) : Calls Tryz.prog 43 #[v] w fun e w' => e = .returned (.slice none 0 0) ∧ w = w' := by
  have HM := Lib.hid (made_un h)
  clear h
  go_enter Tryz.func43, Tryz.ntmps43
  go_wp2_with fail
  refine HM.out.mono ?_
  rintro e wx ⟨rfl, rfl⟩
  go_wp2_with fail
  go_ret
  exact ⟨rfl, rfl⟩
theorem put_un {v : Value} (h : Un w v) (k : ByteArray) (s : Int) (x : Iv) : Calls Tryz.prog 31 #[v, .string k, .int .i64 s, .agg #[x.c0, x.c1, x.c2, x.c3, x.c4, x.c5, x.c6, x.c7, x.c8]] w fun e w' => e = .returned (.slice none 0 0) ∧ Below w.heap.size w w' := by
  have hal : Below w.heap.size w (w.alloc (.cells #[x.c0, x.c1, x.c2, x.c3, x.c4, x.c5, x.c6, x.c7, x.c8] 61)) := (Below.refl _ _).alloc (Nat.le_refl _) _
  have HM := Lib.hid (made_un (h.bel hal))
  have HB := Lib.hid hal
  clear h hal
  go_enter Tryz.func31, Tryz.ntmps31
  go_wp2_with fail
  refine HM.out.mono ?_
  rintro e wx ⟨rfl, rfl⟩
  go_wp2_with fail
  go_ret
  exact ⟨rfl, HB.out⟩
set_option maxRecDepth 100000 in
set_option maxHeartbeats 1000000 in
theorem keys_any (h : Bd w b X n m l) : Calls Tryz.prog 43 #[.pointer (some ⟨b, 0, none⟩)] w fun e w' => ∃ v, e = .returned v ∧ ownS w' w.heap.size v (keysK l) ∧ Below w.heap.size w w' := by
  obtain ⟨sb, mb, ns, rfl, -, h⟩ := h
  have HM := Lib.hid (made_any b sb w h.top)
  have c0 := h.top.cell 0 (.pointer (some ⟨sb, 0, none⟩)) rfl
  have s8 : w.cell? ⟨sb, 16, none⟩ = some (.pointer (some ⟨(na (sb, 4) ns).1, (na (sb, 4) ns).2, none⟩)) := h.ring.st.cell 16 _ rfl
  have HG := Lib.hid h.ring.seg
  have HST := Lib.hid h.ring.st
  have HKL := Lib.hid h.kl
  have HLN : Hid (ns.length ≤ 4096) := by have h1 := h.ok.len; have h2 := h.n2; rw [its_len] at h1; show _ ≤ _; omega
  clear h
  go_enter Tryz.func43, Tryz.ntmps43
  go_wp2_with fail
  refine HM.out.mono ?_
  rintro e wx ⟨rfl, rfl⟩
  go_wp2_with fail
  clear s8 c0
  go_loopg [3, 5] ns.length (fun c o p wr => ∃ xs rest, ns = xs ++ rest ∧ rest.length = c ∧ p = .pointer (some ⟨(na (sb, 4) rest).1, (na (sb, 4) rest).2, none⟩) ∧ Hid (ownS wr w.heap.size o (keysK (its xs)) ∧ Below w.heap.size w wr))
  case atStart => exact ⟨[], ns, rfl, rfl, rfl, ownS_nil _ _, Below.refl _ _⟩
  case round =>
    obtain ⟨xs, rest, hns, hlen, rfl, hr⟩ := hrel
    have HO := Lib.hid hr.out.1; have HB := Lib.hid hr.out.2; have HLE := Lib.hid hlen; have HNS := Lib.hid hns
    clear hr hlen hns
    cases rest with
    | nil =>
      have HX : Hid (xs = ns) := by have := HNS.out; rw [List.append_nil] at this; exact this.symm
      show Code.wp _ _ _ _ _
      simp only [na_nil]
      have hq := ends_same wr ⟨sb, 4, none⟩
      go_wp2_with fail
      go_ret
      exact ⟨_, rfl, by rw [← HX.out]; exact HO.out, HB.out⟩
    | cons y r =>
      have hgy : bk w y.1 (itC mk y.2 (la (sb, 4) xs) (na (sb, 4) r)) := Seg.get (xs := xs) (zs := r) (by rw [← HNS.out]; exact HG.out)
      have hkl : y.2.1.length ≤ KL := HKL.out y (by rw [HNS.out]; simp)
      have y0 := (HB.out.cell (p := ⟨y.1, 0, none⟩) hgy.lt).trans (hgy.cell 0 (.string (bs y.2.1)) rfl)
      have hq := ends_other wr (hgy.keep (HB.out.block y.1 hgy.lt)) (HST.out.keep (HB.out.block sb HST.out.lt))
      have HGY := Lib.hid hgy
      have HCL := Lib.hid (clone_any y.2.1 hkl wr)
      have HAX : Hid ((keysK (its xs)).length + 1 ≤ 4294967296) := by
        have h1 := HLN.out
        have h2 := congrArg List.length HNS.out
        simp [keysK, its] at h2 ⊢
        show _ ≤ _
        omega
      have HKS : Hid (keysK (its (xs ++ [y])) = keysK (its xs) ++ [y.2.1]) := by show _ = _; rw [its_append, keysK_append]; rfl
      have HN2 : Hid (ns = (xs ++ [y]) ++ r) := by show _ = _; rw [HNS.out]; simp
      have HR2 : Hid (r.length < gk) := by have := HLE.out; simp at this; show _ < _; omega
      clear hgy hkl
      simp only [na_cons]
      generalize keysK (its xs) = acc at *
      go_wp2_with fail
      refine HCL.out.mono ?_
      rintro e w1 ⟨rfl, hb1⟩
      have HO1 : Hid (ownS w1 w.heap.size _ acc) := HO.out.below hb1 (Nat.le_refl _)
      have HB1 := Lib.hid (HB.out.trans (hb1.mono HB.out.size))
      clear hb1 HO HB y0 hq
      go_wp2_with (at_builtin; refine wpList_appS rfl (.tmp 26) (.tmp 32) rfl w.heap.size w.heap.size _ acc y.2.1 rfl HO1.out HB1.out (Nat.le_refl _) HB1.out.size rfl HAX.out ?_; intro v' w3 HO3 HB3 HK3; have y4 := (HB3.out.cell (p := ⟨y.1, 12, none⟩) HGY.out.lt).trans (HGY.out.cell 12 (.pointer (some ⟨(na (sb, 4) r).1, (na (sb, 4) r).2, none⟩)) rfl); clear HK3)
      go_roundg r.length
      case measure => exact HR2.out
      case rel => exact ⟨_, r, HN2.out, rfl, rfl, by rw [HKS.out]; exact HO3.out, HB3.out⟩
end
end Go.Proofs.YtopgeclecpaecaaGreatDoor.BT
