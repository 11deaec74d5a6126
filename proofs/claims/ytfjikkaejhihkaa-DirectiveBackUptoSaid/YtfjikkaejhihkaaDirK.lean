/- Some of the chapter's answers (awake); the statements DirectiveLists and DirectiveFinds. -/
import Derived.Test.YtfjikkaejhihkaaDirJ
namespace Go.Proofs.Ytfjikkaejhihkaa
open Go.RowKit

/-- what the directives of one value are told as -/
theorem told_one (x r : List UInt8) (w : World) (hm : MaxD w) (hx : x.length ≤ 4294967200) (hz : sizeD (dirsAll [x]) ≤ 1000000) (hr : tolds (dirsAll [x]) (dirsAll [x]).length = r) :
    Calls Try.prog 15 #[.slice (some ⟨w.heap.size, 0, none⟩) 1 1] (w.alloc (.cells #[.string (bs x)] 9)) fun e w' => e = .returned (.string (bs r)) ∧ Below w.heap.size w w' := by
  have hb : Below w.heap.size w (w.alloc (.cells #[.string (bs x)] 9)) := (Below.refl _ _).alloc (Nat.le_refl _) _
  refine (told_any _ [x] _ (hm.bel hb) (SL_lit w x) (fun y hy => by rw [List.mem_singleton.1 hy]; exact hx) (by simp) hz).mono ?_
  rw [hr]
  rintro e w' ⟨he, h⟩
  exact ⟨he, hb.trans (h.mono hb.size)⟩
theorem awk0 (w : World) (hm : MaxD w) : Calls Try.prog 15 #[.slice (some ⟨w.heap.size, 0, none⟩) 1 1] (w.alloc (.cells #[.string ⟨#[78, 111, 45, 67, 97, 99, 104, 101, 44, 32, 109, 97, 120, 45, 97, 103, 101, 61, 53]⟩] 9)) fun e w' => e = .returned (.string ⟨#[110, 111, 45, 99, 97, 99, 104, 101, 32, 109, 97, 120, 45, 97, 103, 101, 61, 53]⟩) ∧ Below w.heap.size w w' :=
  told_one [78, 111, 45, 67, 97, 99, 104, 101, 44, 32, 109, 97, 120, 45, 97, 103, 101, 61, 53] [110, 111, 45, 99, 97, 99, 104, 101, 32, 109, 97, 120, 45, 97, 103, 101, 61, 53] w hm (by decide) (of_decide_eq_true (by kernel_rfl)) (by kernel_rfl)
theorem awk1 (w : World) (hm : MaxD w) : Calls Try.prog 15 #[.slice (some ⟨w.heap.size, 0, none⟩) 1 1] (w.alloc (.cells #[.string ⟨#[109, 97, 120, 45, 97, 103, 101, 61, 57, 44, 32, 34, 120]⟩] 9)) fun e w' => e = .returned (.string ⟨#[110, 111, 45, 115, 116, 111, 114, 101]⟩) ∧ Below w.heap.size w w' :=
  told_one [109, 97, 120, 45, 97, 103, 101, 61, 57, 44, 32, 34, 120] [110, 111, 45, 115, 116, 111, 114, 101] w hm (by decide) (of_decide_eq_true (by kernel_rfl)) (by kernel_rfl)
theorem awk2 (w : World) (hm : MaxD w) : Calls Try.prog 15 #[.slice (some ⟨w.heap.size, 0, none⟩) 1 1] (w.alloc (.cells #[.string ⟨#[97, 61, 34, 120, 44, 121, 34, 44, 32, 98]⟩] 9)) fun e w' => e = .returned (.string ⟨#[97, 61, 120, 44, 121, 32, 98]⟩) ∧ Below w.heap.size w w' :=
  told_one [97, 61, 34, 120, 44, 121, 34, 44, 32, 98] [97, 61, 120, 44, 121, 32, 98] w hm (by decide) (of_decide_eq_true (by kernel_rfl)) (by kernel_rfl)
set_option maxHeartbeats 1000000 in
theorem awakeD_any (w : World) (hm : MaxD w) :
    Calls Try.prog 9 #[] w fun e w' => e = .returned (.bool true) ∧ Below w.heap.size w w' := by
  have HM := Lib.hid hm; clear hm
  go_enter Try.func9, Try.ntmps9
  go_wp2_with fail
  refine (awk0 _ HM.out).mono ?_
  rintro e w1 ⟨rfl, hb1⟩
  have HB1 := Lib.hid hb1; clear hb1
  go_wp2_with fail
  refine (awk1 _ (HM.out.bel HB1.out)).mono ?_
  rintro e w2 ⟨rfl, hb2⟩
  have HB2 := Lib.hid (HB1.out.trans (hb2.mono HB1.out.size)); clear hb2 HB1
  go_wp2_with fail
  refine (awk2 _ (HM.out.bel HB2.out)).mono ?_
  rintro e w3 ⟨rfl, hb3⟩
  have HB3 := Lib.hid (HB2.out.trans (hb3.mono HB2.out.size)); clear hb3 HB2
  go_wp2_with fail
  go_ret
  exact ⟨rfl, HB3.out⟩

set_option maxHeartbeats 1000000 in
theorem directiveLists_any (v : Value) (L : List (List UInt8)) (w : World) (hv : SL w v L) (hs : ∀ j (hj : j < L.length), L[j].length ≤ 9223372036854775807) (hl : L.length ≤ 9223372036854775807) (hm : MaxD w) :
    Calls Try.prog 3 #[v] w fun e w' => e = .returned (.bool true) ∧ Below w.heap.size w w' := by
  have HF := Lib.hid (fewD_any v L w hv hs hl)
  have HM := Lib.hid hm; have HV := Lib.hid hv
  clear hs hl hm hv
  cases hq : fewD L
  · rw [hq] at HF
    clear hq
    go_enter Try.func3, Try.ntmps3
    go_wp2_with fail
    refine HF.out.mono ?_
    rintro e w1 ⟨rfl, rfl⟩
    go_wp2_with fail
    refine (awakeD_any _ HM.out).mono ?_
    rintro e w2 ⟨rfl, hb⟩
    have HB := Lib.hid hb; clear hb
    go_wp2_with fail
    go_ret
    exact ⟨rfl, HB.out⟩
  · rw [hq] at HF
    obtain ⟨h1, h2⟩ := fewD_small hq
    have h3 : ∀ x ∈ L, x.length ≤ 4294967200 := fun x hx => Nat.le_trans (h2 x hx) (by decide)
    have hll : (dirsAll L).length ≤ 4294967296 := Nat.le_trans (dirsAll_len L) (by omega)
    have HLD := Lib.hid (fun W (hb : Below w.heap.size w W) => listD_any v L W (HM.out.bel hb) (HV.out.bel hb) h3 (by omega))
    have HRL := Lib.hid (fun W (hb : Below w.heap.size w W) => rlistD_any v L W (HV.out.bel hb) h3 (by omega))
    clear hq h1 h2 h3 HV
    generalize dirsAll L = l at *
    go_enter Try.func3, Try.ntmps3
    go_wp2_with fail
    refine HF.out.mono ?_
    rintro e w1 ⟨rfl, rfl⟩
    go_wp2_with fail
    refine (HLD.out _ (Below.refl _ _)).mono ?_
    rintro e w1 ⟨u1, rfl, ho1, hb1⟩
    have HB1 := Lib.hid hb1; have HO1 := Lib.hid ho1.dl; clear hb1 ho1
    go_wp2_with fail
    refine (HRL.out _ HB1.out).mono ?_
    rintro e w2 ⟨u2, rfl, ho2, hb2⟩
    have HB2 := Lib.hid (HB1.out.trans (hb2.mono HB1.out.size)); have HO2 := Lib.hid ho2.dl; have HO3 := Lib.hid (HO1.out.bel hb2); clear hb2 ho2 HB1 HO1
    go_wp2_with fail
    refine (rsameD_any _ _ _ _ _ HO3.out HO2.out hll).mono ?_
    rw [show (l == l) = true from beq_self_eq_true l]
    rintro e w3 ⟨rfl, hb3⟩
    have HB3 := Lib.hid (HB2.out.trans (hb3.mono HB2.out.size)); clear hb3 HB2 HO2 HO3
    go_wp2_with fail
    refine (awakeD_any _ (HM.out.bel HB3.out)).mono ?_
    rintro e w4 ⟨rfl, hb4⟩
    have HB4 := Lib.hid (HB3.out.trans (hb4.mono HB3.out.size)); clear hb4 HB3
    go_wp2_with fail
    go_ret
    exact ⟨rfl, HB4.out⟩
end Go.Proofs.Ytfjikkaejhihkaa
