/- The statements' works. -/
import Derived.Test.YtdaiielhohdgiaaDoorRefG
import Derived.Test.YtdaiielhohdgiaaDoorRefC
import Derived.Test.YtdaiielhohdgiaaDoorKDateQ
import Derived.Test.YtdaiielhohdgiaaDoorKFieldsG
namespace Go.Proofs.YtdaiielhohdgiaaDoor
open Go.RowKit Go.Shelf

theorem putQ_1000 (w : World) (ht : TabsP w) : Calls Tryd.prog 17 #[.int .i64 1000] w fun e w' => e = .returned (.string ⟨#[84, 104, 117, 44, 32, 48, 49, 32, 74, 97, 110, 32, 49, 57, 55, 48, 32, 48, 48, 58, 49, 54, 58, 52, 48, 32, 71, 77, 84]⟩) ∧ Below w.heap.size w w' := by
  have h := dput_any 1000 3 0 1970 1 0 16 40 w (by unfold IsT IsD; decide) (by decide) ht
  rw [show bs (fixT 3 0 1 1970 0 16 40) = ⟨#[84, 104, 117, 44, 32, 48, 49, 32, 74, 97, 110, 32, 49, 57, 55, 48, 32, 48, 48, 58, 49, 54, 58, 52, 48, 32, 71, 77, 84]⟩ from by kernel_rfl] at h
  exact h
theorem run_eqlQ (x y : Fld) (w : World) : (binOp .eql 42 (.agg #[.string (bs x.1), .string (bs x.2)]) (.agg #[.string (bs y.1), .string (bs y.2)])).run Tryd.prog w = .ok (.bool (x == y)) w := by
  have h := run_neqF x y w
  rw [run_neq_struct] at h
  rw [run_eql_struct]
  generalize (Op.equalIn 10000 42 (.agg #[.string (bs x.1), .string (bs x.2)]) (.agg #[.string (bs y.1), .string (bs y.2)])).run Tryd.prog w = R at *
  cases R with
  | ok b w' =>
    simp only [Result.andThen_ok, Result.ok.injEq, Value.bool.injEq] at h ⊢
    obtain ⟨h1, h2⟩ := h
    refine ⟨?_, h2⟩
    cases b <;> cases hq : (x == y) <;> simp_all
  | _ => simp_all [Result.andThen]
theorem putLQ {w : World} {A : Option Addr} {n c : Nat} {l : List Fld} (h : FL w (.slice A n c) l) (q : QF l) (b : ByteArray) (hb : bs (putL l) = b) : Calls Tryd.prog 16 #[.slice A n c] w fun e w' => e = .returned (.string b) ∧ Below w.heap.size w w' := by
  have h := put_any _ l w h q.small (by have := q.len; omega)
  rwa [hb] at h

theorem of_f1 (w : World) : Calls Tryd.prog 14 #[.slice (some ⟨w.heap.size, 0, none⟩) 4 4] (w.alloc (.cells #[.string ⟨#[69, 84, 97, 103]⟩, .string ⟨#[34, 97, 34]⟩, .string ⟨#[76, 97, 115, 116, 45, 77, 111, 100, 105, 102, 105, 101, 100]⟩, .string ⟨#[84, 104, 117, 44, 32, 48, 49, 32, 74, 97, 110, 32, 49, 57, 55, 48, 32, 48, 48, 58, 49, 54, 58, 52, 48, 32, 71, 77, 84]⟩] 9)) fun e w' => ∃ A c, e = .returned (.agg #[.int .i64 200, .string ⟨#[79, 75]⟩, .int .i64 1, .slice A 2 c, .string ⟨#[98]⟩, .int .i64 0, .int .i64 0, .slice none 0 0]) ∧ FL w' (.slice A 2 c) [([69, 84, 97, 103], [34, 97, 34]), ([76, 97, 115, 116, 45, 77, 111, 100, 105, 102, 105, 101, 100], [84, 104, 117, 44, 32, 48, 49, 32, 74, 97, 110, 32, 49, 57, 55, 48, 32, 48, 48, 58, 49, 54, 58, 52, 48, 32, 71, 77, 84])] ∧ Below w.heap.size w w' := by
  have hal : Below w.heap.size w (w.alloc (.cells #[.string ⟨#[69, 84, 97, 103]⟩, .string ⟨#[34, 97, 34]⟩, .string ⟨#[76, 97, 115, 116, 45, 77, 111, 100, 105, 102, 105, 101, 100]⟩, .string ⟨#[84, 104, 117, 44, 32, 48, 49, 32, 74, 97, 110, 32, 49, 57, 55, 48, 32, 48, 48, 58, 49, 54, 58, 52, 48, 32, 71, 77, 84]⟩] 9)) := (Below.refl _ _).alloc (Nat.le_refl _) _
  have h := ofQ_any _ [([69, 84, 97, 103], [34, 97, 34]), ([76, 97, 115, 116, 45, 77, 111, 100, 105, 102, 105, 101, 100], [84, 104, 117, 44, 32, 48, 49, 32, 74, 97, 110, 32, 49, 57, 55, 48, 32, 48, 48, 58, 49, 54, 58, 52, 48, 32, 71, 77, 84])] _ (SL_strs w (flatN [([69, 84, 97, 103], [34, 97, 34]), ([76, 97, 115, 116, 45, 77, 111, 100, 105, 102, 105, 101, 100], [84, 104, 117, 44, 32, 48, 49, 32, 74, 97, 110, 32, 49, 57, 55, 48, 32, 48, 48, 58, 49, 54, 58, 52, 48, 32, 71, 77, 84])])) (by decide)
  refine h.mono ?_
  rintro e w' ⟨A, c, rfl, hf, hb⟩
  exact ⟨A, c, rfl, hf, hal.trans (hb.mono hal.size)⟩

theorem of_f2 (w : World) : Calls Tryd.prog 14 #[.slice (some ⟨w.heap.size, 0, none⟩) 4 4] (w.alloc (.cells #[.string ⟨#[65]⟩, .string ⟨#[49]⟩, .string ⟨#[86, 97, 114, 121]⟩, .string ⟨#[98]⟩] 9)) fun e w' => ∃ A c, e = .returned (.agg #[.int .i64 200, .string ⟨#[79, 75]⟩, .int .i64 1, .slice A 2 c, .string ⟨#[98]⟩, .int .i64 0, .int .i64 0, .slice none 0 0]) ∧ FL w' (.slice A 2 c) [([65], [49]), ([86, 97, 114, 121], [98])] ∧ Below w.heap.size w w' := by
  have hal : Below w.heap.size w (w.alloc (.cells #[.string ⟨#[65]⟩, .string ⟨#[49]⟩, .string ⟨#[86, 97, 114, 121]⟩, .string ⟨#[98]⟩] 9)) := (Below.refl _ _).alloc (Nat.le_refl _) _
  have h := ofQ_any _ [([65], [49]), ([86, 97, 114, 121], [98])] _ (SL_strs w (flatN [([65], [49]), ([86, 97, 114, 121], [98])])) (by decide)
  refine h.mono ?_
  rintro e w' ⟨A, c, rfl, hf, hb⟩
  exact ⟨A, c, rfl, hf, hal.trans (hb.mono hal.size)⟩

theorem of_f3 (w : World) : Calls Tryd.prog 14 #[.slice (some ⟨w.heap.size, 0, none⟩) 2 2] (w.alloc (.cells #[.string ⟨#[86, 97, 114, 121]⟩, .string ⟨#[99]⟩] 9)) fun e w' => ∃ A c, e = .returned (.agg #[.int .i64 200, .string ⟨#[79, 75]⟩, .int .i64 1, .slice A 1 c, .string ⟨#[98]⟩, .int .i64 0, .int .i64 0, .slice none 0 0]) ∧ FL w' (.slice A 1 c) [([86, 97, 114, 121], [99])] ∧ Below w.heap.size w w' := by
  have hal : Below w.heap.size w (w.alloc (.cells #[.string ⟨#[86, 97, 114, 121]⟩, .string ⟨#[99]⟩] 9)) := (Below.refl _ _).alloc (Nat.le_refl _) _
  have h := ofQ_any _ [([86, 97, 114, 121], [99])] _ (SL_strs w (flatN [([86, 97, 114, 121], [99])])) (by decide)
  refine h.mono ?_
  rintro e w' ⟨A, c, rfl, hf, hb⟩
  exact ⟨A, c, rfl, hf, hal.trans (hb.mono hal.size)⟩

theorem ask_f1 {w : World} {A : Option Addr} {c : Nat} (h1 : FL w (.slice A 2 c) [([69, 84, 97, 103], [34, 97, 34]), ([76, 97, 115, 116, 45, 77, 111, 100, 105, 102, 105, 101, 100], [84, 104, 117, 44, 32, 48, 49, 32, 74, 97, 110, 32, 49, 57, 55, 48, 32, 48, 48, 58, 49, 54, 58, 52, 48, 32, 71, 77, 84])]) (ht : Tabs w) :
    Calls Tryd.prog 15 #[.agg #[.int .i64 200, .string ⟨#[79, 75]⟩, .int .i64 1, .slice A 2 c, .string ⟨#[98]⟩, .int .i64 0, .int .i64 0, .slice none 0 0]] w fun e w' => ∃ A3 c3, e = .returned (.slice A3 2 c3) ∧ FL w' (.slice A3 2 c3) [([73, 102, 45, 78, 111, 110, 101, 45, 77, 97, 116, 99, 104], [34, 97, 34]), ([73, 102, 45, 77, 111, 100, 105, 102, 105, 101, 100, 45, 83, 105, 110, 99, 101], [84, 104, 117, 44, 32, 48, 49, 32, 74, 97, 110, 32, 49, 57, 55, 48, 32, 48, 48, 58, 49, 54, 58, 52, 48, 32, 71, 77, 84])] ∧ Below w.heap.size w w' := by
  have h := xask_any ⟨200, [79, 75], 1, [([69, 84, 97, 103], [34, 97, 34]), ([76, 97, 115, 116, 45, 77, 111, 100, 105, 102, 105, 101, 100], [84, 104, 117, 44, 32, 48, 49, 32, 74, 97, 110, 32, 49, 57, 55, 48, 32, 48, 48, 58, 49, 54, 58, 52, 48, 32, 71, 77, 84])], [98], 0, 0, []⟩ (.slice A 2 c) (.slice none 0 0) 1970 w h1 (FL_nil w) (QH.qf ⟨by decide, by decide⟩) ⟨0, 1, 0, 0, 0, by unfold IsT IsD clampI; decide⟩ ht
  have hm : askL 1970 [([69, 84, 97, 103], [34, 97, 34]), ([76, 97, 115, 116, 45, 77, 111, 100, 105, 102, 105, 101, 100], [84, 104, 117, 44, 32, 48, 49, 32, 74, 97, 110, 32, 49, 57, 55, 48, 32, 48, 48, 58, 49, 54, 58, 52, 48, 32, 71, 77, 84])] = [([73, 102, 45, 78, 111, 110, 101, 45, 77, 97, 116, 99, 104], [34, 97, 34]), ([73, 102, 45, 77, 111, 100, 105, 102, 105, 101, 100, 45, 83, 105, 110, 99, 101], [84, 104, 117, 44, 32, 48, 49, 32, 74, 97, 110, 32, 49, 57, 55, 48, 32, 48, 48, 58, 49, 54, 58, 52, 48, 32, 71, 77, 84])] := of_decide_eq_true (by kernel_rfl)
  simp only [hm] at h
  refine h.mono ?_
  rintro e w' ⟨v, rfl, hf, hb⟩
  obtain ⟨A3, c3, rfl⟩ := hf.form
  exact ⟨A3, c3, rfl, hf.fl, hb⟩

theorem with_f23 {w : World} {A A2 : Option Addr} {c c2 : Nat} (h1 : FL w (.slice A 2 c) [([65], [49]), ([86, 97, 114, 121], [98])]) (h2 : FL w (.slice A2 1 c2) [([86, 97, 114, 121], [99])]) (ht : Spc w) :
    Calls Tryd.prog 7 #[.agg #[.int .i64 200, .string ⟨#[79, 75]⟩, .int .i64 1, .slice A 2 c, .string ⟨#[98]⟩, .int .i64 0, .int .i64 0, .slice none 0 0], .agg #[.int .i64 200, .string ⟨#[79, 75]⟩, .int .i64 1, .slice A2 1 c2, .string ⟨#[98]⟩], .int .i64 3, .int .i64 4] w fun e w' => ∃ A3 c3 A4 c4, e = .returned (.agg #[.int .i64 200, .string ⟨#[79, 75]⟩, .int .i64 1, .slice A3 2 c3, .string ⟨#[98]⟩, .int .i64 3, .int .i64 4, .slice A4 0 c4]) ∧ FL w' (.slice A3 2 c3) [([65], [49]), ([86, 97, 114, 121], [98])] ∧ Below w.heap.size w w' := by
  have h := xwith_any (st := 200) (mi := 1) (re := ⟨#[79, 75]⟩) (bo := ⟨#[98]⟩) ⟨200, [79, 75], 1, [([65], [49]), ([86, 97, 114, 121], [98])], [98], 0, 0, []⟩ (.slice A 2 c) (.slice none 0 0) (.slice A2 1 c2) [([86, 97, 114, 121], [99])] 3 4 w h1 (FL_nil w) h2 (QH.qf ⟨by decide, by decide⟩) ⟨by decide, by decide⟩ ⟨by decide, by decide⟩ (by decide) (by decide) ht
  have hm : madeL [([65], [49]), ([86, 97, 114, 121], [98])] [([86, 97, 114, 121], [99])] = [([65], [49]), ([86, 97, 114, 121], [98])] := of_decide_eq_true (by kernel_rfl)
  simp only [hm] at h
  refine h.mono ?_
  rintro e w' ⟨vf, vv, rfl, hf, hv, hb⟩
  obtain ⟨A3, c3, rfl⟩ := hf.form
  obtain ⟨A4, c4, rfl⟩ := hv.form
  exact ⟨A3, c3, A4, c4, rfl, hf.fl, hb⟩

set_option maxRecDepth 100000 in
set_option maxHeartbeats 4000000 in
theorem worksQ_any (w : World) (ht : TabsP w) : Calls Tryd.prog 6 #[] w fun e w' => e = .returned (.bool true) ∧ Below w.heap.size w w' := by
  have HT := Lib.hid ht; have HP := Lib.hid (putQ_1000 w ht)
  have HO1 := Lib.hid of_f1; have HO2 := Lib.hid of_f2; have HO3 := Lib.hid of_f3
  clear ht
  go_enter Tryd.func6, Tryd.ntmps6
  go_wp2_with fail
  refine (HP.out).mono ?_
  rintro e w1 ⟨rfl, hb⟩
  have HB1 := Lib.hid hb
  clear hb
  go_wp2_with fail
  refine (HO1.out w1).mono ?_
  rintro e w2 ⟨A1, c1, rfl, hf, hb⟩
  have HB2 := Lib.hid (HB1.out.trans (hb.mono HB1.out.size))
  have HF := Lib.hid hf; clear hf
  clear hb
  go_wp2_with fail
  refine (ask_f1 HF.out (HT.out.2.below HB2.out)).mono ?_
  rintro e w3 ⟨A2, c2, rfl, hf, hb⟩
  have HB3 := Lib.hid (HB2.out.trans (hb.mono HB2.out.size))
  have HA := Lib.hid hf; clear hf HF
  clear hb
  go_wp2_with fail
  refine (HO2.out w3).mono ?_
  rintro e w4 ⟨A3, c3, rfl, hf, hb⟩
  have HB4 := Lib.hid (HB3.out.trans (hb.mono HB3.out.size))
  have HA4 := Lib.hid (HA.out.bel hb); have HE := Lib.hid hf; clear hf HA
  clear hb
  go_wp2_with fail
  refine (HO3.out w4).mono ?_
  rintro e w5 ⟨A4, c4, rfl, hf, hb⟩
  have HB5 := Lib.hid (HB4.out.trans (hb.mono HB4.out.size))
  have HA5 := Lib.hid (HA4.out.bel hb); have HE5 := Lib.hid (HE.out.bel hb); have HR := Lib.hid hf; clear hf HA4 HE
  clear hb
  have hfd : ∀ W : World, (Instr.field 26 (.agg #[.int .i64 200, .string ⟨#[79, 75]⟩, .int .i64 1, .slice A4 1 c4, .string ⟨#[98]⟩, .int .i64 0, .int .i64 0, .slice none 0 0]) 0).run Tryd.prog W = .ok (.agg #[.int .i64 200, .string ⟨#[79, 75]⟩, .int .i64 1, .slice A4 1 c4, .string ⟨#[98]⟩]) W := fun W => by kernel_rfl
  go_wp2_with fail
  refine (with_f23 HE5.out HR.out (HT.out.2.below HB5.out)).mono ?_
  rintro e w6 ⟨A6, c6, A7, c7, rfl, hf, hb⟩
  have HB6 := Lib.hid (HB5.out.trans (hb.mono HB5.out.size))
  have HA6 := Lib.hid (HA5.out.bel hb); have HN := Lib.hid hf; clear hf HA5 HE5 HR
  clear hb
  clear hfd
  have hal : Below w6.heap.size w6 (w6.alloc (.cells #[.int .i64 200, .string ⟨#[79, 75]⟩, .int .i64 1, .slice A6 2 c6, .string ⟨#[98]⟩, .int .i64 3, .int .i64 4, .slice A7 0 c7] 26)) := (Below.refl _ _).alloc (Nat.le_refl _) _
  have HX7 := Lib.hid (bk.new w6 #[.int .i64 200, .string ⟨#[79, 75]⟩, .int .i64 1, .slice A6 2 c6, .string ⟨#[98]⟩, .int .i64 3, .int .i64 4, .slice A7 0 c7] 26)
  have HB7 := Lib.hid (HB6.out.trans (hal.mono HB6.out.size)); have HN7 := Lib.hid (HN.out.bel hal)
  obtain ⟨b2, o2, rfl, hbb, hx0, hx1⟩ := (HA6.out.bel hal).get 0 (by decide)
  obtain ⟨b3, o3, he, _, hx2, hx3⟩ := (HA6.out.bel hal).get 1 (by decide)
  obtain ⟨rfl, rfl⟩ : b2 = b3 ∧ o2 = o3 := by simpa using he
  have x0 : (w6.alloc (.cells #[.int .i64 200, .string ⟨#[79, 75]⟩, .int .i64 1, .slice A6 2 c6, .string ⟨#[98]⟩, .int .i64 3, .int .i64 4, .slice A7 0 c7] 26)).cell? ⟨b2, o2, none⟩ = some (.string ⟨#[73, 102, 45, 78, 111, 110, 101, 45, 77, 97, 116, 99, 104]⟩) := hx0
  have x1 : (w6.alloc (.cells #[.int .i64 200, .string ⟨#[79, 75]⟩, .int .i64 1, .slice A6 2 c6, .string ⟨#[98]⟩, .int .i64 3, .int .i64 4, .slice A7 0 c7] 26)).cell? ⟨b2, o2 + 1, none⟩ = some (.string ⟨#[34, 97, 34]⟩) := hx1
  have x2 : (w6.alloc (.cells #[.int .i64 200, .string ⟨#[79, 75]⟩, .int .i64 1, .slice A6 2 c6, .string ⟨#[98]⟩, .int .i64 3, .int .i64 4, .slice A7 0 c7] 26)).cell? ⟨b2, o2 + 2, none⟩ = some (.string ⟨#[73, 102, 45, 77, 111, 100, 105, 102, 105, 101, 100, 45, 83, 105, 110, 99, 101]⟩) := hx2
  have hq : ∀ W : World, (binOp .eql 42 (.agg #[.string ⟨#[73, 102, 45, 78, 111, 110, 101, 45, 77, 97, 116, 99, 104]⟩, .string ⟨#[34, 97, 34]⟩]) (.agg #[.string ⟨#[73, 102, 45, 78, 111, 110, 101, 45, 77, 97, 116, 99, 104]⟩, .string ⟨#[34, 97, 34]⟩])).run Tryd.prog W = .ok (.bool true) W := fun W => (run_eqlQ ([73, 102, 45, 78, 111, 110, 101, 45, 77, 97, 116, 99, 104], [34, 97, 34]) ([73, 102, 45, 78, 111, 110, 101, 45, 77, 97, 116, 99, 104], [34, 97, 34]) W).trans (by kernel_rfl)
  clear hal hx0 hx1 hx2 hx3 he hbb HA6 HN
  have n3 := HX7.out.cell 3 (.slice A6 2 c6) rfl
  go_wp2_with fail
  clear x0 x1 x2 hq n3
  generalize w6.alloc (.cells #[.int .i64 200, .string ⟨#[79, 75]⟩, .int .i64 1, .slice A6 2 c6, .string ⟨#[98]⟩, .int .i64 3, .int .i64 4, .slice A7 0 c7] 26) = w7 at *
  refine (putLQ HN7.out (QH.qf ⟨by decide, by decide⟩) ⟨#[65, 58, 32, 49, 13, 10, 86, 97, 114, 121, 58, 32, 98, 13, 10]⟩ (by kernel_rfl)).mono ?_
  rintro e w8 ⟨rfl, hb⟩
  have HB8 := Lib.hid (HB7.out.trans (hb.mono HB7.out.size)); have HX8 := Lib.hid (HX7.out.below hb)
  clear hb HX7 HB7
  have n5 := HX8.out.cell 5 (.int .i64 3) rfl
  have n6 := HX8.out.cell 6 (.int .i64 4) rfl
  go_wp2_with fail
  go_ret
  exact ⟨rfl, HB8.out⟩
end Go.Proofs.YtdaiielhohdgiaaDoor
