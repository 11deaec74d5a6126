/- The statement DirectiveFinds' walk. -/
import Derived.Test.YtfjikkaejhihkaaDirK
namespace Go.Proofs.Ytfjikkaejhihkaa
open Go.RowKit

theorem run_eqlD (x y : Dv) (w : World) : (binOp .eql 29 (.agg #[.string (bs x.1), .string (bs x.2.1), .bool x.2.2.1, .string (bs x.2.2.2)]) (.agg #[.string (bs y.1), .string (bs y.2.1), .bool y.2.2.1, .string (bs y.2.2.2)])).run Try.prog w = .ok (.bool (x == y)) w := by
  have h := run_neqD x y w
  rw [run_neq_struct] at h
  rw [run_eql_struct]
  generalize (Op.equalIn 10000 29 (.agg #[.string (bs x.1), .string (bs x.2.1), .bool x.2.2.1, .string (bs x.2.2.2)]) (.agg #[.string (bs y.1), .string (bs y.2.1), .bool y.2.2.1, .string (bs y.2.2.2)])).run Try.prog w = R at *
  cases R with
  | ok b w' =>
    simp only [Result.andThen_ok, Result.ok.injEq, Value.bool.injEq] at h ⊢
    obtain ⟨h1, h2⟩ := h
    refine ⟨?_, h2⟩
    cases b <;> cases hq : (x == y) <;> simp_all
  | _ => simp_all [Result.andThen]
set_option maxHeartbeats 2000000 in
set_option maxRecDepth 100000 in
theorem directiveFinds_any (v : Value) (l : List Dv) (S : ByteArray) (w : World) (hv : DL w v l) (hl : ∀ j (hj : j < l.length), DvW l[j]) (hz : l.length ≤ 9223372036854775807) (hs : S.size ≤ maxLen) (hm : MaxD w) :
    Calls Try.prog 4 #[v, .string S] w fun e w' => e = .returned (.bool true) ∧ Below w.heap.size w w' := by
  obtain ⟨A, c, rfl⟩ := hv.form
  have HM := Lib.hid hm; clear hm
  by_cases h1 : 100 < l.length
  · have hi : (100 : Int) < (l.length : Int) := by omega
    go_enter Try.func4, Try.ntmps4
    go_wp2_with fail
    refine (awakeD_any _ HM.out).mono ?_
    rintro e w1 ⟨rfl, hb⟩
    have HB := Lib.hid hb; clear hb
    go_wp2_with fail
    go_ret
    exact ⟨rfl, HB.out⟩
  · have hi : ¬ (100 : Int) < (l.length : Int) := by omega
    by_cases h2 : 2000 < S.size
    · have hi2 : (2000 : Int) < (S.size : Int) := by omega
      go_enter Try.func4, Try.ntmps4
      go_wp2_with fail
      refine (awakeD_any _ HM.out).mono ?_
      rintro e w1 ⟨rfl, hb⟩
      have HB := Lib.hid hb; clear hb
      go_wp2_with fail
      go_ret
      exact ⟨rfl, HB.out⟩
    · have hi2 : ¬ (2000 : Int) < (S.size : Int) := by omega
      obtain ⟨n, rfl⟩ : ∃ n, S = bs n := ⟨S.data.toList, bs_of rfl⟩
      have hn : n.length ≤ 140737488351232 := by rw [bs_size] at h2; omega
      have HF := Lib.hid (fun W (hb : Below w.heap.size w W) => findD_any _ l n W (hv.bel hb) hl hn (by omega))
      have HR := Lib.hid (fun W (hb : Below w.heap.size w W) => rfindD_any _ l n W (hv.bel hb) hl hn (by omega))
      unfold RetR at HF HR
      clear hv hl hn h1 h2 hz
      generalize (findD l n).getD dv0 = d at *
      generalize (findD l n).isSome = q at *
      have hcmp : ∀ W, (binOp .eql 29 (.agg #[.string (bs d.1), .string (bs d.2.1), .bool d.2.2.1, .string (bs d.2.2.2)]) (.agg #[.string (bs d.1), .string (bs d.2.1), .bool d.2.2.1, .string (bs d.2.2.2)])).run Try.prog W = .ok (.bool true) W := fun W => by have h := run_eqlD d d W; rwa [show (d == d) = true from beq_self_eq_true d] at h
      have hqq : (q == q) = true := beq_self_eq_true q
      go_enter Try.func4, Try.ntmps4
      go_wp2_with fail
      refine (HF.out _ (Below.refl _ _)).mono ?_
      rintro e w1 ⟨rfl, hb1⟩
      have hx : dbk (w1.alloc (.cells #[.string (bs d.1), .string (bs d.2.1), .bool d.2.2.1, .string (bs d.2.2.2)] 29)) w1.heap.size (dvA d) := dbk.new w1 _ _
      have hq1 : Below w1.heap.size w1 (w1.alloc (.cells #[.string (bs d.1), .string (bs d.2.1), .bool d.2.2.1, .string (bs d.2.2.2)] 29)) := (Below.refl _ _).alloc (Nat.le_refl _) _
      have HX := Lib.hid hx; have HB1 := Lib.hid (hb1.trans (hq1.mono hb1.size)); clear hx hq1 hb1
      go_wp2_with fail
      refine (HR.out _ HB1.out).mono ?_
      rintro e w2 ⟨rfl, hb2⟩
      have HX2 := Lib.hid (HX.out.below hb2); have HB2 := Lib.hid (HB1.out.trans (hb2.mono HB1.out.size)); clear hb2 HX HB1
      have hx3 : dbk (w2.alloc (.cells #[.string (bs d.1), .string (bs d.2.1), .bool d.2.2.1, .string (bs d.2.2.2)] 29)) w2.heap.size (dvA d) := dbk.new w2 _ _
      have hq2 : Below w2.heap.size w2 (w2.alloc (.cells #[.string (bs d.1), .string (bs d.2.1), .bool d.2.2.1, .string (bs d.2.2.2)] 29)) := (Below.refl _ _).alloc (Nat.le_refl _) _
      have hx4 := HX2.out.below hq2
      obtain ⟨c0, c1, c2, c3⟩ := hx3.four
      obtain ⟨e0, e1, e2, e3⟩ := hx4.four
      have HB3 := Lib.hid (HB2.out.trans (hq2.mono HB2.out.size)); clear hq2 hx3 hx4 HB2 HX2
      generalize hd1 : bs d.1 = x1 at *
      generalize hd2 : bs d.2.1 = x2 at *
      generalize hd3 : d.2.2.1 = x3 at *
      generalize hd4 : bs d.2.2.2 = x4 at *
      clear hd1 hd2 hd3 hd4
      go_wp2_with fail
      refine (awakeD_any _ (HM.out.bel HB3.out)).mono ?_
      rintro e w4 ⟨rfl, hb4⟩
      have HB4 := Lib.hid (HB3.out.trans (hb4.mono HB3.out.size)); clear hb4 HB3
      go_wp2_with fail
      go_ret
      exact ⟨rfl, HB4.out⟩
end Go.Proofs.Ytfjikkaejhihkaa
