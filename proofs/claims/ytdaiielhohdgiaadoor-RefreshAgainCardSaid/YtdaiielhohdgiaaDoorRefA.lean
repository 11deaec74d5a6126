/- What a 304 makes of an entry: the program's updates, remaining, With. -/
import Derived.Test.YtdaiielhohdgiaaDoorRef0
import Derived.Test.YtdaiielhohdgiaaDoorKFieldsK
import Derived.Test.YtdaiielhohdgiaaDoorAppSS
import Derived.Test.YtdaiielhohdgiaaDoorKEnt
namespace Go.Proofs.YtdaiielhohdgiaaDoor
open Go.RowKit Go.Shelf

theorem QF.small {l : List Fld} (h : QF l) : smallF l := fun j hj => by
  have := h.mem (List.getElem_mem hj)
  omega
theorem QH.small {l : List Fld} (h : QH l) : smallF l := h.qf.small
theorem litFive (w : World) : SL (w.alloc (.cells #[.string ⟨#[99, 111, 110, 116, 101, 110, 116, 45, 108, 101, 110, 103, 116, 104]⟩, .string ⟨#[99, 111, 110, 116, 101, 110, 116, 45, 101, 110, 99, 111, 100, 105, 110, 103]⟩, .string ⟨#[99, 111, 110, 116, 101, 110, 116, 45, 116, 121, 112, 101]⟩, .string ⟨#[99, 111, 110, 116, 101, 110, 116, 45, 114, 97, 110, 103, 101]⟩, .string ⟨#[118, 97, 114, 121]⟩] 9)) (.slice (some ⟨w.heap.size, 0, none⟩) 5 5) fiveN := SL_strs w fiveN
theorem litAd (w : World) : SL (w.alloc (.cells #[.string ⟨#[97, 103, 101]⟩, .string ⟨#[100, 97, 116, 101]⟩] 9)) (.slice (some ⟨w.heap.size, 0, none⟩) 2 2) adN := SL_strs w adN
theorem litOne (w : World) (x : List UInt8) : SL (w.alloc (.cells #[.string (bs x)] 9)) (.slice (some ⟨w.heap.size, 0, none⟩) 1 1) [x] := SL_strs w [x]
theorem fiveN_len : fiveN.length = 5 := rfl
theorem fiveN_mem : ∀ x ∈ fiveN, x.length ≤ 4294967296 := by
  intro x hx
  simp only [fiveN, List.mem_cons, List.not_mem_nil, or_false] at hx
  rcases hx with rfl | rfl | rfl | rfl | rfl <;> decide
theorem Spc.low {w w' : World} (h : Spc w) (hb : Below w.heap.size w w') : Spc w' := h.below hb (Nat.le_refl _)

set_option maxRecDepth 100000 in
set_option maxHeartbeats 1000000 in
theorem xupd_any {st mi : Int} {re bo : ByteArray} (v : Value) (l : List Fld) (w : World) (h : FL w v l) (hq : QH l) (ht : Spc w) :
    Calls Tryd.prog 18 #[.agg #[.int .i64 st, .string re, .int .i64 mi, v, .string bo]] w (RetF w (updL l)) := by
  obtain ⟨A, c, rfl⟩ := h.form
  have hal : Below w.heap.size w (w.alloc (.cells #[.int .i64 st, .string re, .int .i64 mi, .slice A l.length c, .string bo] 24)) := (Below.refl _ _).alloc (Nat.le_refl _) _
  have HP := Lib.hid (bk.new w #[.int .i64 st, .string re, .int .i64 mi, .slice A l.length c, .string bo] 24)
  have HA := Lib.hid hal; have HF := Lib.hid (h.bel hal); have HT := Lib.hid (ht.low hal); have HQ := Lib.hid hq
  have c3 := HP.out.cell 3 (.slice A l.length c) rfl
  clear hal h ht hq
  go_enter Tryd.func18, Tryd.ntmps18
  go_wp2_with fail
  clear c3
  generalize w.alloc (.cells #[.int .i64 st, .string re, .int .i64 mi, .slice A l.length c, .string bo] 24) = W at *
  refine (clean_any _ l W HF.out HQ.out.small (by have := HQ.out.len; omega) (by have := HQ.out.size; omega) HT.out).mono ?_
  rintro e w1 ⟨v1, rfl, ho1, hb1⟩
  obtain ⟨A1, c1, rfl⟩ := ho1.form
  have HM := Lib.hid HQ.out.clean
  have HR : Hid (updL l = delL (cleanL l) fiveN) := rfl
  generalize cleanL l = m at *
  have HB1 := Lib.hid (HA.out.trans (hb1.mono HA.out.size))
  have hal2 : Below w1.heap.size w1 (w1.alloc (.cells #[.string ⟨#[99, 111, 110, 116, 101, 110, 116, 45, 108, 101, 110, 103, 116, 104]⟩, .string ⟨#[99, 111, 110, 116, 101, 110, 116, 45, 101, 110, 99, 111, 100, 105, 110, 103]⟩, .string ⟨#[99, 111, 110, 116, 101, 110, 116, 45, 116, 121, 112, 101]⟩, .string ⟨#[99, 111, 110, 116, 101, 110, 116, 45, 114, 97, 110, 103, 101]⟩, .string ⟨#[118, 97, 114, 121]⟩] 9)) := (Below.refl _ _).alloc (Nat.le_refl _) _
  have HA2 := Lib.hid hal2
  have HF2 := Lib.hid (ho1.fl.bel hal2); have HL2 := Lib.hid (litFive w1)
  clear ho1 hb1 hal2 HF HT HQ HP HA
  go_wp2_with fail
  refine (del_any _ _ m fiveN _ HF2.out HL2.out HM.out.small (by have := HM.out.len; omega) fiveN_mem (by rw [fiveN_len]; omega)).mono ?_
  rintro e w2 ⟨v2, rfl, ho2, hb2⟩
  have HB2 := Lib.hid (HB1.out.trans (HA2.out.mono HB1.out.size))
  have HO2 := Lib.hid (ho2.mono HB2.out.size); have HB3 := Lib.hid (HB2.out.trans (hb2.mono HB2.out.size))
  clear ho2 hb2
  go_wp2_with fail
  go_ret
  exact ⟨v2, rfl, by rw [HR.out]; exact HO2.out, HB3.out⟩

set_option maxRecDepth 100000 in
set_option maxHeartbeats 1000000 in
theorem xgone_any {g : Nat} {s v : Value} {acc L : List (List UInt8)} {w : World} (hp : bk w g #[s]) (ho : ownS w (g + 1) s acc) (hv : SL w v L) (hl : acc.length + L.length ≤ 4294967296) :
    Calls Tryd.prog 37 #[v, .pointer (some ⟨g, 0, none⟩)] w fun e w' => e = .returned (.tuple #[]) ∧ Below g w w' ∧ ∃ s', bk w' g #[s'] ∧ ownS w' (g + 1) s' (acc ++ L) := by
  obtain ⟨A, c, rfl⟩ := ho.form
  obtain ⟨A2, c2, rfl⟩ := hv.form
  have HP := Lib.hid hp; have HO := Lib.hid ho; have HV := Lib.hid hv
  have HZ : Hid (g + 1 ≤ w.heap.size) := hp.lt
  have HB : Hid (Below g w w) := Below.refl _ _
  have HG : Hid (g ≤ g + 1) := Nat.le_succ _
  have HL : Hid (acc.length + L.length ≤ 4294967296) := hl
  have c0 := hp.cell 0 (.slice A acc.length c) rfl
  clear hp ho hv hl
  go_enter Tryd.func37, Tryd.ntmps37
  go_wp2_with (at_builtin; refine wpList_appSS (w0 := w) rfl (.tmp 3) (.tmp 4) rfl (g + 1) g _ _ acc L rfl HO.out HB.out HG.out HZ.out rfl HV.out HL.out ?_; intro v' w3 HO3 HB3 HK3 HS3; obtain ⟨A3, c3, rfl⟩ := HO3.out.form; have HP3 := Lib.hid (HP.out.keep (HK3.out g (Nat.lt_succ_self g))); clear HO HV c0; have d0 := HP3.out.cell 0 _ rfl; have z0 := HP3.out.free 0)
  go_end0
  refine ⟨rfl, HB3.out.setCell (p := ⟨g, 0, none⟩) (Nat.le_refl _) _, _, HP3.out.set 0 _, ?_⟩
  have h3 := ownsRow_setCell_below (a := ⟨g, 0, none⟩) HO3.out (by show g < g + 1; omega) (.slice A3 (acc.length + L.length) c3)
  unfold ownS
  rw [List.length_append] at h3 ⊢
  exact h3

set_option maxRecDepth 100000 in
set_option maxHeartbeats 2000000 in
theorem xrem_any {st mi : Int} {re bo : ByteArray} (v vn : Value) (l news : List Fld) (w : World) (h : FL w v l) (hn : FL w vn news) (hq : QF l) (hm : QF news) :
    Calls Tryd.prog 20 #[.agg #[.int .i64 st, .string re, .int .i64 mi, v, .string bo], vn] w (RetF w (remL l news)) := by
  obtain ⟨A, c, rfl⟩ := h.form
  obtain ⟨A2, c2, rfl⟩ := hn.form
  have hmf : ∀ (fn : Fn) (first cap : Array Value) (w : World), (Instr.makeFunc fn first cap).run Tryd.prog w = .ok (.func fn first cap) w := fun _ _ _ _ => rfl
  have he := enters_of Tryd.func37 (by kernel_rfl) rfl
  have h1 : Below w.heap.size w ((w.alloc (.cells #[.int .i64 st, .string re, .int .i64 mi, .slice A l.length c, .string bo] 24)).alloc (.cells #[.slice none 0 0] 33)) := ((Below.refl _ _).alloc (Nat.le_refl _) _).alloc (by simp) _
  have hp : bk ((w.alloc (.cells #[.int .i64 st, .string re, .int .i64 mi, .slice A l.length c, .string bo] 24)).alloc (.cells #[.slice none 0 0] 33)) w.heap.size #[.int .i64 st, .string re, .int .i64 mi, .slice A l.length c, .string bo] := (bk.new w _ _).alloc _
  have hg := bk.new (w.alloc (.cells #[.int .i64 st, .string re, .int .i64 mi, .slice A l.length c, .string bo] 24)) #[.slice none 0 0] 33
  rw [World.size_alloc] at hg
  have hz : ((w.alloc (.cells #[.int .i64 st, .string re, .int .i64 mi, .slice A l.length c, .string bo] 24)).alloc (.cells #[.slice none 0 0] 33)).heap.size = w.heap.size + 2 := by simp
  have HB0 := Lib.hid h1; have HP0 := Lib.hid hp; have HG0 := Lib.hid hg; have HZ0 := Lib.hid hz
  have HF := Lib.hid h; have HN := Lib.hid hn; have HQ := Lib.hid hq; have HM := Lib.hid hm
  have HLN : Hid (news.length ≤ 160) := hm.len
  clear h1 hp hg hz h hn hq hm
  go_enter Tryd.func20, Tryd.ntmps20
  go_wp2_with fail
  generalize (w.alloc (.cells #[.int .i64 st, .string re, .int .i64 mi, .slice A l.length c, .string bo] 24)).alloc (.cells #[.slice none 0 0] 33) = W at *
  have hb1 : Below W.heap.size W (W.alloc (.cells #[.string ⟨#[97, 103, 101]⟩, .string ⟨#[100, 97, 116, 101]⟩] 9)) := (Below.refl _ _).alloc (Nat.le_refl _) _
  have hl := litAd W
  rw [HZ0.out] at hl
  have HS0 := Lib.hid hl
  have HB1 := Lib.hid (HB0.out.trans (hb1.mono HB0.out.size)); have HP1 := Lib.hid (HP0.out.below hb1); have HG1 := Lib.hid (HG0.out.below hb1)
  clear hb1 hl HB0 HP0 HG0 HZ0
  generalize W.alloc (.cells #[.string ⟨#[97, 103, 101]⟩, .string ⟨#[100, 97, 116, 101]⟩] 9) = W1 at *
  clear hmf W
  refine (xgone_any (acc := []) HG1.out (ownS_nil _ _) HS0.out (by decide)).mono ?_
  rintro e w1 ⟨rfl, hb, s1, hg, ho⟩
  have HB2 := Lib.hid (HB1.out.trans (hb.mono (by omega)))
  have HP2 := Lib.hid (HP1.out.keep (hb.block _ (by omega)))
  have HG2 := Lib.hid hg; have HO2 := Lib.hid ho
  clear hb hg ho HB1 HP1 HG1 HS0
  go_wp2_with fail
  go_loopw [15] (fun i wr => ∃ k : Nat, k ≤ news.length ∧ i = .int .i64 k ∧ Hid (Below w.heap.size w wr) ∧ Hid (bk wr w.heap.size #[.int .i64 st, .string re, .int .i64 mi, .slice A l.length c, .string bo]) ∧ ∃ s, Hid (bk wr (w.heap.size + 1) #[s]) ∧ Hid (ownS wr (w.heap.size + 1 + 1) s (adN ++ (news.take k).map (·.1)))) (fun i _ => news.length - (intOf i).toNat)
  case atStart => exact ⟨0, Nat.zero_le _, rfl, HB2, HP2, s1, HG2, HO2⟩
  case round =>
    obtain ⟨k, hk, rfl, HB, HP, s, HG, HO⟩ := hrel
    by_cases hlt : k < news.length
    · have hki : (k : Int) < (news.length : Int) := by omega
      have hnl : news.length ≤ 160 := HLN.out
      obtain ⟨b0, off, rfl, hbb, hc1, hc2⟩ := (HN.out.bel HB.out).get k hlt
      have hsz := HM.out.mem (List.getElem_mem hlt)
      have HK : Hid ((adN ++ (news.take k).map (·.1)) ++ [news[k].1] = adN ++ (news.take (k + 1)).map (·.1)) := by show _ = _; rw [List.take_succ_eq_append_getElem hlt, List.map_append, List.append_assoc]; rfl
      have HKL : Hid ((adN ++ (news.take k).map (·.1)).length + [news[k].1].length ≤ 4294967296) := by show _ ≤ _; rw [List.length_append, List.length_map, List.length_take]; have := HLN.out; simp [adN]; omega
      generalize news[k] = f at *
      generalize adN ++ (news.take k).map (·.1) = acc at *
      obtain ⟨n, x⟩ := f; simp only at hc1 hc2 hsz HK HKL
      have ha : Below wr.heap.size wr ((wr.alloc (.cells #[.string (bs n), .string (bs x)] 42)).alloc (.cells #[.string (bs n)] 9)) := ((Below.refl _ _).alloc (Nat.le_refl _) _).alloc (by simp) _
      have hl := litOne (wr.alloc (.cells #[.string (bs n), .string (bs x)] 42)) n
      rw [World.size_alloc] at hl
      have HBa := Lib.hid (HB.out.trans (ha.mono HB.out.size)); have HPa := Lib.hid (HP.out.below ha); have HGa := Lib.hid (HG.out.below ha); have HOa := Lib.hid (HO.out.bel ha); have HSa := Lib.hid hl
      clear ha hl
      go_wp2_with (go_at_call 37; refine (xgone_any HGa.out HOa.out HSa.out HKL.out).mono ?_; rintro e w3 ⟨rfl, hb, s3, hg, ho⟩; have HB3 := Lib.hid (HBa.out.trans (hb.mono (Nat.le_succ _))); have HP3 := Lib.hid (HPa.out.keep (hb.block _ (Nat.lt_succ_self _))); have HG3 := Lib.hid hg; have HO3 := Lib.hid ho; clear hb hg ho HBa HPa HGa HOa HSa)
      go_roundw
      case rel => exact ⟨k + 1, by omega, by go_num, HB3, HP3, s3, HG3, by have h := HO3.out; rw [HK.out] at h; exact h⟩
      case measure => simp [intOf]; omega
    · have hkn : k = news.length := by omega
      subst hkn
      rw [List.take_length] at HO
      have HOe : Hid (ownS wr (w.heap.size + 1 + 1) s (goneN news)) := HO.out
      clear HO
      have HGL : Hid ((goneN news).length ≤ 4294967296) := by show _ ≤ _; rw [goneN_len]; have := HLN.out; omega
      have HGM : Hid (∀ x ∈ goneN news, x.length ≤ 4294967296) := fun x hx => by have := goneN_mem HM.out hx; omega
      have HR : Hid (remL l news = delL l (goneN news)) := rfl
      generalize goneN news = G at *
      obtain ⟨As, cs, rfl⟩ := HOe.out.form
      have p3 := HP.out.cell 3 (.slice A l.length c) rfl
      have g0 := HG.out.cell 0 _ rfl
      go_wp2_with fail
      refine (del_any _ _ l G wr (HF.out.bel HB.out) HOe.out.sl HQ.out.small (by have := HQ.out.len; omega) HGM.out HGL.out).mono ?_
      rintro e w2 ⟨v2, rfl, ho2, hb2⟩
      have HO2 := Lib.hid (ho2.mono HB.out.size); have HB3 := Lib.hid (HB.out.trans (hb2.mono HB.out.size))
      clear ho2 hb2
      go_wp2_with fail
      go_ret
      exact ⟨v2, rfl, by rw [HR.out]; exact HO2.out, HB3.out⟩
end Go.Proofs.YtdaiielhohdgiaaDoor
