/- The first directive of a name: the directive layer's Find, and the document's. -/
import Derived.Test.YtonioemenjjajaaDirE
namespace Go.Proofs.Ytonioemenjjajaa
open Go.RowKit

theorem find_none {l : List Dv} {n : List UInt8} {k : Nat} (h : ¬ k < l.length) (hf : findD (l.drop k) n = findD l n) : findD l n = none := by
  rw [← hf, List.drop_of_length_le (by omega)]; rfl
theorem find_hit {l : List Dv} {n : List UInt8} {k : Nat} (h : k < l.length) (hf : findD (l.drop k) n = findD l n) (he : (lower l[k].1 == lower n) = true) : findD l n = some l[k] := by
  rw [← hf, List.drop_eq_getElem_cons h]; unfold findD; rw [List.find?_cons, he]
theorem find_miss {l : List Dv} {n : List UInt8} {k : Nat} (h : k < l.length) (hf : findD (l.drop k) n = findD l n) (he : (lower l[k].1 == lower n) = false) : findD (l.drop (k + 1)) n = findD l n := by
  rw [← hf, List.drop_eq_getElem_cons h]; unfold findD; rw [List.find?_cons, he]
/-- texts as long as may be -/
def DvW (d : Dv) : Prop := d.1.length ≤ 140737488351232 ∧ d.2.1.length ≤ 140737488351232 ∧ d.2.2.2.length ≤ 140737488351232

set_option maxRecDepth 100000 in
set_option maxHeartbeats 2000000 in
theorem findD_any (v : Value) (l : List Dv) (n : List UInt8) (w : World) (hv : DL w v l) (hl : ∀ j (hj : j < l.length), DvW l[j]) (hn : n.length ≤ 140737488351232) (hlen : l.length ≤ 4294967296) :
    Calls Try.prog 41 #[v, .string (bs n)] w (RetR w (findD l n)) := by
  obtain ⟨A, c, rfl⟩ := hv.form
  have hr := res_new w
  have hal : Below w.heap.size w (w.alloc (.cells #[.string ⟨#[]⟩, .string ⟨#[]⟩, .bool false, .string ⟨#[]⟩] 39)) := (Below.refl _ _).alloc (Nat.le_refl _) _
  have hv1 := hv.bel hal
  have HR := Lib.hid hr; have HAL := Lib.hid hal; have HV := Lib.hid hv1; have HL := Lib.hid hl
  clear hr hal hv hv1 hl
  go_enter Try.func41, Try.ntmps41
  go_wp2_with fail
  go_loopw [10] (fun i wr => ∃ k : Nat, k ≤ l.length ∧ i = .int .i64 k ∧ findD (l.drop k) n = findD l n ∧ dbk wr w.heap.size (dvA dv0) ∧ Below (w.alloc (.cells #[.string ⟨#[]⟩, .string ⟨#[]⟩, .bool false, .string ⟨#[]⟩] 39)).heap.size (w.alloc (.cells #[.string ⟨#[]⟩, .string ⟨#[]⟩, .bool false, .string ⟨#[]⟩] 39)) wr) (fun i _ => l.length - (intOf i).toNat)
  case atStart => exact ⟨0, Nat.zero_le _, rfl, rfl, HR.out, Below.refl _ _⟩
  case round =>
    obtain ⟨k, hk, rfl, hf, hr, hb⟩ := hrel
    have HF := Lib.hid hf; have HR2 := Lib.hid hr; have HB := Lib.hid hb
    clear hf hr hb HR
    by_cases hlt : k < l.length
    · obtain ⟨b, off, rfl, hbl, e0, e1, e2, e3⟩ := (HV.out.bel HB.out).get k hlt
      obtain ⟨z1, z2, z3⟩ := HL.out k hlt
      have hc := copied_anyD l[k]
      have HC := Lib.hid (fun W => hc W z1 z2 z3)
      have HS := Lib.hid (fun W => same_any (bs l[k].1) (bs n) W (by rw [bs_size]; unfold maxLen; omega) (by rw [bs_size]; unfold maxLen; omega))
      have hi1 := fun h => find_hit (k := k) hlt HF.out h
      have hi2 := fun h => find_miss (k := k) hlt HF.out h
      have HI1 := Lib.hid hi1; have HI2 := Lib.hid hi2
      clear hc z1 z2 z3 hi1 hi2
      generalize l[k] = d at *
      have hn0 := dbk.new wr (dvA d) 39
      obtain ⟨q0, q1, q2, q3⟩ := hn0.four
      have hn2 : Below wr.heap.size wr (wr.alloc (.cells #[.string (bs d.1), .string (bs d.2.1), .bool d.2.2.1, .string (bs d.2.2.2)] 39)) := (Below.refl _ _).alloc (Nat.le_refl _) _
      have HN := Lib.hid hn0; have HN2 := Lib.hid hn2; clear hn0 hn2
      simp only [dvA] at q0 q1 q2 q3 HN
      go_wp2_with fail
      refine (HS.out _).mono ?_
      rw [bs_data, bs_data]
      rintro e w2 ⟨rfl, hb2⟩
      have HB2 := Lib.hid (HN2.out.trans (hb2.mono HN2.out.size))
      have hd2 := HN.out.below hb2
      obtain ⟨p0, p1, p2, p3⟩ := dbk.four (d := d) hd2
      clear q0 q1 q2 q3 HN HN2 hb2 hd2 e0 e1 e2 e3
      cases hq : (lower d.1 == lower n)
      · have HI := Lib.hid (HI2.out hq)
        clear HI1 HI2
        go_wp2_with fail
        go_roundw
        case rel => exact ⟨k + 1, by omega, by go_num, HI.out, HR2.out.below HB2.out, HB.out.trans (HB2.out.mono HB.out.size)⟩
        case measure => simp [intOf]; omega
      · have HI := Lib.hid (HI1.out hq)
        clear HI1 HI2
        go_wp2_with fail
        refine (HC.out _).mono ?_
        rintro e w3 ⟨rfl, hb3⟩
        have hb4 := HB2.out.trans (hb3.mono HB2.out.size)
        have hr3 := HR2.out.below hb4
        obtain ⟨a0, b0, a1, b1, a2, b2, a3, b3⟩ := hr3.zero d
        obtain ⟨g0, g1, g2, g3⟩ := hr3.got d
        have hb5 := HB.out.trans (hb4.mono HB.out.size)
        have hq2 := putD_below (b := w.heap.size) (HAL.out.trans (hb5.mono HAL.out.size)) (Nat.le_refl _) d
        simp only [putD] at g0 g1 g2 g3 hq2
        have HQ := Lib.hid hq2; clear hq2 hb3 hb4 hb5 hr3 p0 p1 p2 p3
        go_wp2_with fail
        refine bodyPost_ret (v := .tuple #[.agg #[.string (bs d.1), .string (bs d.2.1), .bool d.2.2.1, .string (bs d.2.2.2)], .bool true]) (by simp [results, Try.results41, go_sem, g0, g1, g2, g3]) rfl ?_
        exact ⟨by rw [HI.out]; rfl, HQ.out⟩
    · have hno := find_none hlt HF.out
      have HNO := Lib.hid hno; clear hno
      obtain ⟨a0, b0, a1, b1, a2, b2, a3, b3⟩ := HR2.out.zero dv0
      obtain ⟨g0, g1, g2, g3⟩ := HR2.out.got dv0
      have hq2 := putD_below (b := w.heap.size) (HAL.out.trans (HB.out.mono HAL.out.size)) (Nat.le_refl _) dv0
      simp only [putD, dv0, bs_nil] at a0 a1 a2 a3 b0 b1 b2 b3 g0 g1 g2 g3 hq2
      have HQ := Lib.hid hq2; clear hq2
      go_wp2_with fail
      refine bodyPost_ret (v := .tuple #[.agg #[.string ⟨#[]⟩, .string ⟨#[]⟩, .bool false, .string ⟨#[]⟩], .bool false]) (by simp [results, Try.results41, go_sem, g0, g1, g2, g3]) rfl ?_
      exact ⟨by rw [HNO.out]; rfl, HQ.out⟩

end Go.Proofs.Ytonioemenjjajaa
