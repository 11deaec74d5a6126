/- Entries by the document: its Copy, its Same. -/
import Derived.Test.YtdaiielhohdgiaaDoorRefB
import Derived.Test.YtdaiielhohdgiaaDoorKFieldsG
namespace Go.Proofs.YtdaiielhohdgiaaDoor
open Go.RowKit Go.Shelf

theorem ownF_upto {w w' : World} {base B : Nat} {v : Value} {l : List Fld} (h : ownF w base v l) (hk : ∀ b, b < B → w'.heap[b]? = w.heap[b]?) (hz : w.heap.size ≤ B) : ownF w' base v l := by
  rcases h with ⟨h1, h2⟩
  refine ⟨h1, ?_⟩
  rcases h2 with h2 | ⟨g, cap, cur, e, hb, hg, hnc, hrest⟩
  · exact .inl h2
  · exact .inr ⟨g, cap, cur, e, hb, by rw [hk g (by have := (Array.getElem?_eq_some_iff.1 hg).1; omega)]; exact hg, hnc, hrest⟩
set_option maxRecDepth 100000 in
set_option maxHeartbeats 4000000 in
theorem rsameQ_same (e : En) (vf1 vv1 vf2 vv2 : Value) (w : World) (h1 : FL w vf1 e.fs) (h2 : FL w vv1 e.vy) (h3 : FL w vf2 e.fs) (h4 : FL w vv2 e.vy) (q1 : e.fs.length ≤ 4294967296) (q2 : e.vy.length ≤ 4294967296) :
    Calls Tryd.prog 10 #[entV e vf1 vv1, entV e vf2 vv2] w fun r w' => r = .returned (.bool true) ∧ Below w.heap.size w w' := by
  obtain ⟨Af1, cf1, rfl⟩ := h1.form
  obtain ⟨Av1, cv1, rfl⟩ := h2.form
  obtain ⟨Af2, cf2, rfl⟩ := h3.form
  obtain ⟨Av2, cv2, rfl⟩ := h4.form
  have hb : Below w.heap.size w ((w.alloc (.cells #[.int .i64 e.st, .string (bs e.re), .int .i64 e.mi, .slice Af1 e.fs.length cf1, .string (bs e.bo), .int .i64 e.ak, .int .i64 e.gt, .slice Av1 e.vy.length cv1] 26)).alloc (.cells #[.int .i64 e.st, .string (bs e.re), .int .i64 e.mi, .slice Af2 e.fs.length cf2, .string (bs e.bo), .int .i64 e.ak, .int .i64 e.gt, .slice Av2 e.vy.length cv2] 26)) := ((Below.refl _ _).alloc (Nat.le_refl _) _).alloc (by simp) _
  have hp : bk ((w.alloc (.cells #[.int .i64 e.st, .string (bs e.re), .int .i64 e.mi, .slice Af1 e.fs.length cf1, .string (bs e.bo), .int .i64 e.ak, .int .i64 e.gt, .slice Av1 e.vy.length cv1] 26)).alloc (.cells #[.int .i64 e.st, .string (bs e.re), .int .i64 e.mi, .slice Af2 e.fs.length cf2, .string (bs e.bo), .int .i64 e.ak, .int .i64 e.gt, .slice Av2 e.vy.length cv2] 26)) w.heap.size #[.int .i64 e.st, .string (bs e.re), .int .i64 e.mi, .slice Af1 e.fs.length cf1, .string (bs e.bo), .int .i64 e.ak, .int .i64 e.gt, .slice Av1 e.vy.length cv1] := (bk.new w _ _).alloc _
  have hr := bk.new (w.alloc (.cells #[.int .i64 e.st, .string (bs e.re), .int .i64 e.mi, .slice Af1 e.fs.length cf1, .string (bs e.bo), .int .i64 e.ak, .int .i64 e.gt, .slice Av1 e.vy.length cv1] 26)) #[.int .i64 e.st, .string (bs e.re), .int .i64 e.mi, .slice Af2 e.fs.length cf2, .string (bs e.bo), .int .i64 e.ak, .int .i64 e.gt, .slice Av2 e.vy.length cv2] 26
  simp only [World.size_alloc] at hr
  have HB := Lib.hid hb; have HP := Lib.hid hp; have HR := Lib.hid hr
  have hs1 : ∀ W, Below w.heap.size w W → Calls Tryd.prog 8 #[.slice Av1 e.vy.length cv1, .slice Av2 e.vy.length cv2] W fun r w' => r = .returned (.bool true) ∧ Below W.heap.size W w' := fun W hb => by
    have h := sameF_any _ _ e.vy e.vy W (h2.bel hb) (h4.bel hb) q2
    rwa [beq_self_eq_true] at h
  have hs2 : ∀ W, Below w.heap.size w W → Calls Tryd.prog 8 #[.slice Af1 e.fs.length cf1, .slice Af2 e.fs.length cf2] W fun r w' => r = .returned (.bool true) ∧ Below W.heap.size W w' := fun W hb => by
    have h := sameF_any _ _ e.fs e.fs W (h1.bel hb) (h3.bel hb) q1
    rwa [beq_self_eq_true] at h
  have HS1 := Lib.hid hs1; have HS2 := Lib.hid hs2
  clear hb hp hr hs1 hs2 h1 h2 h3 h4 q1 q2
  unfold entV
  generalize bs e.re = sre at *
  generalize bs e.bo = sbo at *
  go_enter Tryd.func10, Tryd.ntmps10
  have a5 := HP.out.cell 5 (.int .i64 e.ak) rfl
  have b5 := HR.out.cell 5 (.int .i64 e.ak) rfl
  have a6 := HP.out.cell 6 (.int .i64 e.gt) rfl
  have b6 := HR.out.cell 6 (.int .i64 e.gt) rfl
  have a7 := HP.out.cell 7 (.slice Av1 e.vy.length cv1) rfl
  have b7 := HR.out.cell 7 (.slice Av2 e.vy.length cv2) rfl
  go_wp2_with fail
  clear a5 a6 a7 b5 b6 b7
  generalize (w.alloc (.cells #[.int .i64 e.st, .string sre, .int .i64 e.mi, .slice Af1 e.fs.length cf1, .string sbo, .int .i64 e.ak, .int .i64 e.gt, .slice Av1 e.vy.length cv1] 26)).alloc (.cells #[.int .i64 e.st, .string sre, .int .i64 e.mi, .slice Af2 e.fs.length cf2, .string sbo, .int .i64 e.ak, .int .i64 e.gt, .slice Av2 e.vy.length cv2] 26) = W at *
  refine (HS1.out W HB.out).mono ?_
  rintro r w1 ⟨rfl, hb⟩
  have HB1 := Lib.hid (HB.out.trans (hb.mono HB.out.size)); have HP1 := Lib.hid (HP.out.below hb); have HR1 := Lib.hid (HR.out.below hb)
  clear hb HB HP HR HS1
  have a0 := HP1.out.cell 0 (.int .i64 e.st) rfl
  have b0 := HR1.out.cell 0 (.int .i64 e.st) rfl
  have a1 := HP1.out.cell 1 (.string sre) rfl
  have b1 := HR1.out.cell 1 (.string sre) rfl
  have a2 := HP1.out.cell 2 (.int .i64 e.mi) rfl
  have b2 := HR1.out.cell 2 (.int .i64 e.mi) rfl
  have a3 := HP1.out.cell 3 (.slice Af1 e.fs.length cf1) rfl
  have b3 := HR1.out.cell 3 (.slice Af2 e.fs.length cf2) rfl
  have a4 := HP1.out.cell 4 (.string sbo) rfl
  have b4 := HR1.out.cell 4 (.string sbo) rfl
  go_wp2_with fail
  refine (HS2.out w1 HB1.out).mono ?_
  rintro r w2 ⟨rfl, hb⟩
  have HB2 := Lib.hid (HB1.out.trans (hb.mono HB1.out.size))
  clear hb
  go_wp2_with fail
  go_ret
  exact ⟨rfl, HB2.out⟩
end Go.Proofs.YtdaiielhohdgiaaDoor
