/- A Surrogate-Control's age, plainly; an entry without the fields of a name. -/
import Derived.Test.YthjgedafcihheaaGreatDoorKFreI
import Derived.Test.YthjgedafcihheaaGreatDoorKOpen
import Derived.Test.YthjgedafcihheaaGreatDoorKPut
namespace Go.Proofs.YthjgedafcihheaaGreatDoor
open Go.RowKit

theorem split_plainN {l : List UInt8} {sep : UInt8} (hne : l ≠ []) (h : ∀ c ∈ l, blankB c = false ∧ ¬ (c.toNat : Int) = 34 ∧ c ≠ sep) (hs : badSep sep = false) : splitE l sep = 0 ∧ splitL l sep = [l] := by
  have hc := cut_plain (sep := sep) l [] [] (fun c hc => (h c hc).2)
  rw [List.nil_append] at hc
  have h1 : ltrim l = l := ltrim_idem_of fun c r hl => (h c (by rw [hl]; simp)).1
  have ht : trim l = l := by
    show rtrim (ltrim l) = l
    rw [h1]
    exact rtrim_idem_of fun r c hl => (h c (by rw [hl]; simp)).1
  have hp : addP [] l = [l] := by
    unfold addP; rw [ht]
    cases l with
    | nil => exact absurd rfl hne
    | cons c r => rfl
  rw [hp] at hc
  constructor <;> simp [splitE, splitL, hs, hc]
/-- a text that tells an age -/
def mageT (v : List UInt8) : List UInt8 := maxN ++ 61 :: v
theorem dig_bytes {c : UInt8} (h : digC c = true) : blankB c = false ∧ ¬ (c.toNat : Int) = 34 ∧ c ≠ 44 ∧ c ≠ 59 ∧ tokB c = true := by
  have key : ∀ n : Nat, n < 256 → digC (UInt8.ofNat n) = true → blankB (UInt8.ofNat n) = false ∧ ¬ ((UInt8.ofNat n).toNat : Int) = 34 ∧ UInt8.ofNat n ≠ 44 ∧ UInt8.ofNat n ≠ 59 ∧ tokB (UInt8.ofNat n) = true := by decide +kernel
  have h2 := key c.toNat c.toNat_lt
  have h3 : UInt8.ofNat c.toNat = c := by simp
  rw [h3] at h2
  exact h2 h
theorem mage_bytes {v : List UInt8} (hv : v.all digC = true) : ∀ c ∈ mageT v, blankB c = false ∧ ¬ (c.toNat : Int) = 34 ∧ c ≠ 44 ∧ c ≠ 59 := by
  intro c hc
  rcases List.mem_append.1 hc with h | h
  · have key : ∀ c ∈ maxN, blankB c = false ∧ ¬ (c.toNat : Int) = 34 ∧ c ≠ 44 ∧ c ≠ 59 := by decide
    exact key c h
  · rcases List.mem_cons.1 h with rfl | h
    · decide
    · obtain ⟨a, b, d, e, _⟩ := dig_bytes (List.all_eq_true.1 hv c h)
      exact ⟨a, b, d, e⟩
theorem mage_say {v : List UInt8} (hv : v.all digC = true) (hn : v ≠ []) : sayD (mageT v) = some (maxN, v, true, []) := by
  have ht : token maxN = true := by decide
  have hl : lower maxN = maxN := by decide
  have htv : token v = true := by
    unfold token
    rw [Bool.and_eq_true]
    refine ⟨by cases v with | nil => exact absurd rfl hn | cons c r => rfl, ?_⟩
    rw [List.all_eq_true]
    exact fun c hc => (dig_bytes (List.all_eq_true.1 hv c hc)).2.2.2.2
  unfold sayD mageT
  rw [cutE_of (tok_ne61 ht)]
  simp [ht, hl, htv]
theorem mage_list {v : List UInt8} (hv : v.all digC = true) (hn : v ≠ []) : listS [mageT v] = [(maxN, v, true, [])] := by
  have hne : mageT v ≠ [] := by unfold mageT maxN; simp
  obtain ⟨s1, s2⟩ := split_plainN (sep := 44) hne (fun c hc => by have := mage_bytes hv c hc; exact ⟨this.1, this.2.1, this.2.2.1⟩) (by decide)
  obtain ⟨t1, t2⟩ := split_plainN (sep := 59) hne (fun c hc => by have := mage_bytes hv c hc; exact ⟨this.1, this.2.1, this.2.2.2⟩) (by decide)
  have he : elemD (mageT v) = [(maxN, v, true, [])] := by
    unfold elemD
    rw [if_pos t1, t2]
    show (sayD (mageT v)).toList = _
    rw [mage_say hv hn]
    rfl
  unfold listS
  rw [List.flatMap_cons, List.flatMap_nil, List.append_nil]
  unfold valD
  rw [if_pos s1, s2, List.flatMap_cons, List.flatMap_nil, List.append_nil, he]
theorem mage_ctl (n : Int) : (ofC [mageT (putTk n)] [100]).2.2.2.1 = true ∧ (ofC [mageT (putTk n)] [100]).2.2.2.2.1 = ofI n := by
  obtain ⟨h1, h2⟩ := del_put n
  have h3 := h1
  unfold isDel at h3
  rw [Bool.and_eq_true] at h3
  have hn : putTk n ≠ [] := by intro e; rw [e] at h3; simp at h3
  unfold ofC
  rw [mage_list h3.2 hn]
  have hm : mineS [(maxN, putTk n, true, [])] [100] = [(maxN, putTk n, true, [])] := by simp [mineS, ownN]
  rw [hm]
  have hf : firstS [(maxN, putTk n, true, [])] maxN = (putTk n, true) := by unfold firstS; simp
  show (firstS [(maxN, putTk n, true, [])] maxN).2 = true ∧ (agesP (firstS [(maxN, putTk n, true, [])] maxN).1).1 = ofI n
  rw [hf]
  exact ⟨rfl, by rw [ages_whole h1]; exact h2⟩
theorem put_short (n : Int) : (putTk n).length ≤ 10 := by
  unfold putTk
  have h1 := ofI_lo n
  have h2 := ofI_hi n
  have key : ∀ m : Nat, m < 10000000000 → (Lib.decDigits m).length ≤ 10 := by
    intro m hm
    rw [Lib.decDigits]; split
    · simp
    rw [Lib.decDigits]; split
    · simp
    rw [Lib.decDigits]; split
    · simp
    rw [Lib.decDigits]; split
    · simp
    rw [Lib.decDigits]; split
    · simp
    rw [Lib.decDigits]; split
    · simp
    rw [Lib.decDigits]; split
    · simp
    rw [Lib.decDigits]; split
    · simp
    rw [Lib.decDigits]; split
    · simp
    rw [Lib.decDigits]; split
    · simp
    omega
  exact key _ (by omega)
theorem mage_cat (v : List UInt8) : (⟨#[109, 97, 120, 45, 97, 103, 101, 61]⟩ : ByteArray) ++ bs v = bs (mageT v) := by
  refine bs_of ?_
  simp only [cat_data, bs_data]
  simp [mageT, maxN]

theorem step_filter {l : List Fld} {p : Fld → Bool} {k : Nat} (h : k < l.length) : (l.take (k + 1)).filter p = if p l[k] then (l.take k).filter p ++ [l[k]] else (l.take k).filter p := by
  rw [List.take_succ_eq_append_getElem h, List.filter_append]
  cases hp : p l[k] <;> simp [hp]
variable {st mi asked got Y : Int} {re bo : ByteArray} {fs : Value} {vA : Option Addr} {vn vc : Nat} {l : List Fld}

set_option maxRecDepth 100000 in
set_option maxHeartbeats 8000000 in
theorem without_any (n : List UInt8) (v : Value) (vs : List (List UInt8)) (w : World) (h : FL w fs l) (hf : Fe l) (hv : SL w v vs) (hvl : vs.length ≤ 10) (hn : n.length ≤ 1000) :
    Calls Tryz.prog 23 #[.agg #[.int .i64 st, .string re, .int .i64 mi, fs, .string bo, .int .i64 asked, .int .i64 got, .slice vA vn vc], .string (bs n), v] w fun e w' => ∃ A c, e = .returned (.agg #[.int .i64 st, .string re, .int .i64 mi, .slice A (withoutL l n vs).length c, .string bo, .int .i64 asked, .int .i64 got, .slice vA vn vc]) ∧ FL w' (.slice A (withoutL l n vs).length c) (withoutL l n vs) ∧ Below w.heap.size w w' := by
  obtain ⟨fA, fc, rfl⟩ := h.form
  obtain ⟨va, vcap, rfl⟩ := hv.form
  have hx : Below w.heap.size w (w.alloc (.cells #[.int .i64 st, .string re, .int .i64 mi, .slice fA l.length fc, .string bo, .int .i64 asked, .int .i64 got, .slice vA vn vc] 26)) := (Below.refl _ _).alloc (Nat.le_refl _) _
  have hx2 : Below w.heap.size w ((w.alloc (.cells #[.int .i64 st, .string re, .int .i64 mi, .slice fA l.length fc, .string bo, .int .i64 asked, .int .i64 got, .slice vA vn vc] 26)).alloc (.cells #[.int .i64 0, .string ⟨#[]⟩, .int .i64 0, .slice none 0 0, .string ⟨#[]⟩, .int .i64 0, .int .i64 0, .slice none 0 0] 26)) := hx.alloc hx.size _
  have hk0 := (dbk.new w #[.int .i64 st, .string re, .int .i64 mi, .slice fA l.length fc, .string bo, .int .i64 asked, .int .i64 got, .slice vA vn vc] 26).alloc (.cells #[.int .i64 0, .string ⟨#[]⟩, .int .i64 0, .slice none 0 0, .string ⟨#[]⟩, .int .i64 0, .int .i64 0, .slice none 0 0] 26)
  have hr0 := dbk.new (w.alloc (.cells #[.int .i64 st, .string re, .int .i64 mi, .slice fA l.length fc, .string bo, .int .i64 asked, .int .i64 got, .slice vA vn vc] 26)) #[.int .i64 0, .string ⟨#[]⟩, .int .i64 0, .slice none 0 0, .string ⟨#[]⟩, .int .i64 0, .int .i64 0, .slice none 0 0] 26
  rw [World.size_alloc] at hr0
  obtain ⟨Wl, hWl⟩ : ∃ Wl, Wl = withoutL l n vs := ⟨_, rfl⟩
  rw [← hWl]
  have HWL := Lib.hid hWl
  have HL := Lib.hid h; have HV := Lib.hid hv; have HX := Lib.hid hx2; have HR0 := Lib.hid hr0; have HK0 := Lib.hid hk0; have HFE := Lib.hid hf
  have HLen : Hid (l.length ≤ 100) := hf.1
  clear h hv hx hx2 hr0 hk0 hWl hf
  go_enter Tryz.func23, Tryz.ntmps23
  go_wp2_with fail
  go_loopw [7, 8] (fun o i wr => ∃ k : Nat, k ≤ l.length ∧ i = .int .i64 k ∧ ownF wr (w.heap.size + 2) o ((l.take k).filter fun f => !sameN f.1 n) ∧ dbk wr w.heap.size #[.int .i64 st, .string re, .int .i64 mi, .slice fA l.length fc, .string bo, .int .i64 asked, .int .i64 got, .slice vA vn vc] ∧ dbk wr (w.heap.size + 1) #[.int .i64 0, .string ⟨#[]⟩, .int .i64 0, .slice none 0 0, .string ⟨#[]⟩, .int .i64 0, .int .i64 0, .slice none 0 0] ∧ Below w.heap.size w wr) (fun _ i _ => l.length - (intOf i).toNat)
  case atStart => exact ⟨0, Nat.zero_le _, rfl, ownF_nil _ _, HK0.out, HR0.out, HX.out⟩
  case round =>
    obtain ⟨k, hk, rfl, ho, hke, hr, hb⟩ := hrel
    have HO := Lib.hid ho; have HB := Lib.hid hb; have HKE := Lib.hid hke; have HR := Lib.hid hr; clear ho hb hke hr HK0 HR0 HX
    have k3 := HKE.out.cell 3 _ rfl
    have hl100 : l.length ≤ 100 := HLen.out
    by_cases hlt : k < l.length
    · obtain ⟨b, off, rfl, hbb, hc1, hc2⟩ := (HL.out.bel HB.out).get k hlt
      obtain ⟨s1, s2⟩ := HFE.out.2 _ (List.getElem_mem hlt)
      have HT : Hid ((l.take (k + 1)).filter (fun f => !sameN f.1 n) = if (!sameN l[k].1 n) then (l.take k).filter (fun f => !sameN f.1 n) ++ [l[k]] else (l.take k).filter (fun f => !sameN f.1 n)) := step_filter hlt
      have HN : Hid (((l.take k).filter (fun f => !sameN f.1 n)).length ≤ 100) := by
        have h1 := List.length_filter_le (fun f : Fld => !sameN f.1 n) (l.take k)
        have h2 := List.length_take_le' k l
        have h3 := HLen.out
        show _ ≤ _; omega
      generalize l[k] = f at *
      obtain ⟨m, x⟩ := f; simp only at s1 s2 hc1 hc2
      generalize (l.take k).filter (fun f => !sameN f.1 n) = acc at *
      have hsm := fun W => same_any (bs m) (bs n) W (by rw [bs_size]; unfold maxLen; omega) (by rw [bs_size]; unfold maxLen; omega)
      rw [bs_data, bs_data] at hsm
      have hsn : sameN m n = (lower m == lower n) := rfl
      cases hq : sameN m n
      · have HTT : Hid ((l.take (k + 1)).filter (fun f => !sameN f.1 n) = acc ++ [(m, x)]) := by have h := HT.out; simp only [hq] at h; exact h
        rw [← hsn, hq] at hsm
        have HSM := Lib.hid hsm
        clear hsm hsn hq HT
        go_wp2_with fail
        refine (HSM.out _).mono ?_
        rintro e w1 ⟨rfl, hb1⟩
        have HB1 := Lib.hid (HB.out.trans (hb1.mono HB.out.size)); have HO1 := Lib.hid (HO.out.bel hb1); have HK1 := Lib.hid (HKE.out.below hb1); have HR1 := Lib.hid (HR.out.below hb1)
        have hcc1 := (hb1.cell (p := ⟨b, off + k * 2, none⟩) hbb).trans hc1
        have hcc2 := (hb1.cell (p := ⟨b, off + k * 2 + 1, none⟩) hbb).trans hc2
        clear hb1 HB HO HKE HR k3 hc1 hc2
        have k3 := HK1.out.cell 3 _ rfl
        go_wp2_with (at_builtin; refine wpList_appF rfl (.tmp 28) (.tmp 35) rfl (w.heap.size + 2) w.heap.size _ _ m x rfl HO1.out HB1.out (by omega) (by have h := HB1.out.size; have h2 := HR1.out.lt; omega) rfl (by have := HN.out; omega) ?_; intro v' w' HO3 HB3 HKP; have HK3 := Lib.hid (HK1.out.keep (HKP.out _ (by omega))); have HR3 := Lib.hid (HR1.out.keep (HKP.out _ (by omega))))
        go_roundw
        case rel => exact ⟨k + 1, by omega, by go_num, by rw [HTT.out]; exact HO3.out, HK3.out, HR3.out, HB3.out⟩
        case measure => simp [intOf]; omega
      · have HTT : Hid ((l.take (k + 1)).filter (fun f => !sameN f.1 n) = acc) := by have h := HT.out; simp only [hq] at h; exact h
        rw [← hsn, hq] at hsm
        have HSM := Lib.hid hsm
        clear hsm hsn hq HT
        go_wp2_with fail
        refine (HSM.out _).mono ?_
        rintro e w1 ⟨rfl, hb1⟩
        have HB1 := Lib.hid (HB.out.trans (hb1.mono HB.out.size)); have HO1 := Lib.hid (HO.out.bel hb1); have HK1 := Lib.hid (HKE.out.below hb1); have HR1 := Lib.hid (HR.out.below hb1)
        clear hb1 HB HO HKE HR k3 hc1 hc2
        go_wp2_with fail
        go_roundw
        case rel => exact ⟨k + 1, by omega, by go_num, by rw [HTT.out]; exact HO1.out, HK1.out, HR1.out, HB1.out⟩
        case measure => simp [intOf]; omega
    · have HTT : Hid ((l.take k).filter (fun f => !sameN f.1 n) = l.filter (fun f => !sameN f.1 n)) := by show _ = _; rw [List.take_of_length_le (by omega)]
      have ho := HO.out
      rw [HTT.out] at ho
      have HO0 := Lib.hid ho
      have hfl : (l.filter fun f => !sameN f.1 n).length ≤ 100 := by
        have h1 := List.length_filter_le (fun f : Fld => !sameN f.1 n) l
        have h3 := HLen.out
        omega
      have hwl : Wl = (l.filter fun f => !sameN f.1 n) ++ vs.map fun v => (n, v) := HWL.out
      have HFL := Lib.hid hfl; have HWL2 := Lib.hid hwl
      clear ho HO HTT HWL hfl hwl
      generalize (l.filter fun f => !sameN f.1 n) = F0 at *
      obtain ⟨w9, hw9⟩ : ∃ w9, w9 = wr := ⟨_, rfl⟩
      go_wp2_with fail
      clear k3
      go_loopw [7, 9] (fun o i wr => ∃ j : Nat, j ≤ vs.length ∧ i = .int .i64 j ∧ ownF wr (w.heap.size + 2) o (F0 ++ (vs.take j).map fun v => (n, v)) ∧ dbk wr w.heap.size #[.int .i64 st, .string re, .int .i64 mi, .slice fA l.length fc, .string bo, .int .i64 asked, .int .i64 got, .slice vA vn vc] ∧ dbk wr (w.heap.size + 1) #[.int .i64 0, .string ⟨#[]⟩, .int .i64 0, .slice none 0 0, .string ⟨#[]⟩, .int .i64 0, .int .i64 0, .slice none 0 0] ∧ Below w.heap.size w wr) (fun _ i _ => vs.length - (intOf i).toNat)
      case atStart => exact ⟨0, Nat.zero_le _, rfl, by simpa using HO0.out, HKE.out, HR.out, HB.out⟩
      case round =>
        obtain ⟨j, hj, rfl, ho, hke, hr, hb⟩ := hrel
        clear HO0 HB HKE HR hw9
        have HO := Lib.hid ho; have HB := Lib.hid hb; have HKE := Lib.hid hke; have HR := Lib.hid hr; clear ho hb hke hr
        by_cases hjt : j < vs.length
        · obtain ⟨b, off, rfl, hbb, hc1⟩ := (HV.out.bel HB.out).get j hjt
          have HT : Hid (F0 ++ (vs.take (j + 1)).map (fun v => (n, v)) = F0 ++ (vs.take j).map (fun v => (n, v)) ++ [(n, vs[j])]) := by
            show _ = _
            rw [List.take_succ_eq_append_getElem hjt, List.map_append, List.append_assoc]; rfl
          have HN : Hid ((F0 ++ (vs.take j).map (fun v => (n, v))).length ≤ 120) := by
            have h2 := List.length_take_le' j vs
            have h3 := HFL.out
            show _ ≤ _
            rw [List.length_append, List.length_map]; omega
          generalize vs[j] = x at *
          generalize F0 ++ (vs.take j).map (fun v => (n, v)) = acc at *
          go_wp2_with (at_builtin; refine wpList_appF rfl (.tmp 43) (.tmp 50) rfl (w.heap.size + 2) w.heap.size _ _ n x rfl HO.out HB.out (by omega) (by have h := HB.out.size; have h2 := HR.out.lt; omega) rfl (by have := HN.out; omega) ?_; intro v' w' HO3 HB3 HKP; have HK3 := Lib.hid (HKE.out.keep (HKP.out _ (by omega))); have HR3 := Lib.hid (HR.out.keep (HKP.out _ (by omega))))
          go_roundw
          case rel => exact ⟨j + 1, by omega, by go_num, by rw [HT.out]; exact HO3.out, HK3.out, HR3.out, HB3.out⟩
          case measure => simp [intOf]; omega
        · have ho := HO.out
          rw [List.take_of_length_le (by omega), ← HWL2.out] at ho
          obtain ⟨A6, c6, rfl⟩ := ho.form
          obtain ⟨p0, p1, p2, p3, p4, p5, p6, p7⟩ := HKE.out.eight
          have pf := HKE.out.free 3
          have hk2 := HKE.out.set 3 (.slice A6 Wl.length c6)
          simp only [List.setIfInBounds_toArray, List.set_cons_zero, List.set_cons_succ] at hk2
          have hr2 := HR.out.keep (Below.heap_setCell wr ⟨w.heap.size, 3, none⟩ (.slice A6 Wl.length c6) (w.heap.size + 1) (by simp))
          have hb2 := HB.out.setCell (p := ⟨w.heap.size, 3, none⟩) (Nat.le_refl _) (.slice A6 Wl.length c6)
          have ho2 : ownF (wr.setCell ⟨w.heap.size, 3, none⟩ (.slice A6 Wl.length c6)) (w.heap.size + 2) (.slice A6 Wl.length c6) Wl := ho.stay (fun b hb => Below.heap_setCell _ _ _ _ (by simp only; omega))
          obtain ⟨k0, k1, k2, k3, k4, k5, k6, k7⟩ := hk2.eight
          obtain ⟨n0, n1, n2, n3, n4, n5, n6, n7⟩ := hr2.eight
          have f0 := hr2.free 0; have f1 := hr2.free 1; have f2 := hr2.free 2; have f3 := hr2.free 3; have f4 := hr2.free 4; have f5 := hr2.free 5; have f6 := hr2.free 6; have f7 := hr2.free 7
          have hq := ((((((((hr2.set 0 (.int .i64 st)).set 1 (.string re)).set 2 (.int .i64 mi)).set 3 (.slice A6 Wl.length c6)).set 4 (.string bo)).set 5 (.int .i64 asked)).set 6 (.int .i64 got)).set 7 (.slice vA vn vc))
          simp only [List.setIfInBounds_toArray, List.set_cons_zero, List.set_cons_succ] at hq
          obtain ⟨g0, g1, g2, g3, g4, g5, g6, g7⟩ := hq.eight
          have hb9 := ((((((((hb2.setCell (p := ⟨w.heap.size + 1, 0, none⟩) (Nat.le_succ _) (.int .i64 st)).setCell (p := ⟨w.heap.size + 1, 1, none⟩) (Nat.le_succ _) (.string re)).setCell (p := ⟨w.heap.size + 1, 2, none⟩) (Nat.le_succ _) (.int .i64 mi)).setCell (p := ⟨w.heap.size + 1, 3, none⟩) (Nat.le_succ _) (.slice A6 Wl.length c6)).setCell (p := ⟨w.heap.size + 1, 4, none⟩) (Nat.le_succ _) (.string bo)).setCell (p := ⟨w.heap.size + 1, 5, none⟩) (Nat.le_succ _) (.int .i64 asked)).setCell (p := ⟨w.heap.size + 1, 6, none⟩) (Nat.le_succ _) (.int .i64 got)).setCell (p := ⟨w.heap.size + 1, 7, none⟩) (Nat.le_succ _) (.slice vA vn vc))
          have ho9 : FL (((((((((wr.setCell ⟨w.heap.size, 3, none⟩ (.slice A6 Wl.length c6)).setCell ⟨w.heap.size + 1, 0, none⟩ (.int .i64 st)).setCell ⟨w.heap.size + 1, 1, none⟩ (.string re)).setCell ⟨w.heap.size + 1, 2, none⟩ (.int .i64 mi)).setCell ⟨w.heap.size + 1, 3, none⟩ (.slice A6 Wl.length c6)).setCell ⟨w.heap.size + 1, 4, none⟩ (.string bo)).setCell ⟨w.heap.size + 1, 5, none⟩ (.int .i64 asked)).setCell ⟨w.heap.size + 1, 6, none⟩ (.int .i64 got)).setCell ⟨w.heap.size + 1, 7, none⟩ (.slice vA vn vc)) (.slice A6 Wl.length c6) Wl := by
            refine ownF.fl (base := w.heap.size + 2) (ho2.stay fun b hb => ?_)
            repeat rw [Below.heap_setCell _ _ _ _ (by simp only; omega)]
          have HG := Lib.hid (And.intro g0 (And.intro g1 (And.intro g2 (And.intro g3 (And.intro g4 (And.intro g5 (And.intro g6 g7))))))); have HB9 := Lib.hid hb9; have HO9 := Lib.hid ho9
          clear hq g0 g1 g2 g3 g4 g5 g6 g7 hb9 ho9 ho ho2 hk2 hr2 hb2
          go_wp2_with fail
          obtain ⟨g0, g1, g2, g3, g4, g5, g6, g7⟩ := HG.out
          refine bodyPost_ret (v := .agg #[.int .i64 st, .string re, .int .i64 mi, .slice A6 Wl.length c6, .string bo, .int .i64 asked, .int .i64 got, .slice vA vn vc]) (by simp [results, Tryz.results23, go_sem, g0, g1, g2, g3, g4, g5, g6, g7]) rfl ?_
          exact ⟨_, _, rfl, HO9.out, HB9.out⟩
end Go.Proofs.YthjgedafcihheaaGreatDoor
