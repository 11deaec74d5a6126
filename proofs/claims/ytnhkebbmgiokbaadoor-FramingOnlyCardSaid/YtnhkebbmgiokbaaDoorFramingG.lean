/- Where a request's body ends, and a reply's: the framing layer's two functions. -/
import Derived.Test.YtnhkebbmgiokbaaDoorFramingF
namespace Go.Proofs.YtnhkebbmgiokbaaDoor
open Go.RowKit Go.Shelf

theorem frame_most {a b : List (List UInt8)} (h : endE a b = 0) (most other : Int) (hm : 0 ≤ most) : frameR (!a.isEmpty) (!b.isEmpty) (elemsL a) most other =
    if most < endN a b then (0, 0, 3) else if a.isEmpty && b.isEmpty then (other, 0, 0) else (endK a b, endN a b, 0) := by
  cases hb : b.isEmpty
  · obtain ⟨h1, h2, h3⟩ := end_one h hb
    rw [h1, h2, h3, if_neg (by omega)]; rfl
  · cases ha : a.isEmpty
    · obtain ⟨_, _, _, h4⟩ := end_len h ha
      have hk : endK a b = 1 := by unfold endK; rw [if_pos h, hb, ha]; rfl
      rw [hk, ← h4]
      unfold frameR headE
      simp
    · have hn : endN a b = 0 := by unfold endN; rw [if_neg (by rw [ha]; simp)]
      rw [hn, if_neg (by omega)]; rfl
theorem frame_ask {a b : List (List UInt8)} (h : endE a b = 0) : frameR (!a.isEmpty) (!b.isEmpty) (elemsL a) 65536 0 = askV a b := by
  rw [frame_most h _ _ (by decide)]
  unfold askV
  have hE : ¬ (endE a b ≠ 0) := by rw [h]; simp
  rw [if_neg hE]
  cases hb : b.isEmpty
  · simp
  · cases ha : a.isEmpty
    · simp
    · have hn : endN a b = 0 := by unfold endN; rw [if_neg (by rw [ha]; simp)]
      have hk : endK a b = 0 := by unfold endK; rw [if_pos h, hb, ha]; rfl
      rw [hn, hk]; rfl
theorem frame_tell {a b : List (List UInt8)} (h : endE a b = 0) (s : Int) (d : Bool) (hd : (d || bareB s) = false) : frameR (!a.isEmpty) (!b.isEmpty) (elemsL a) 262144 3 = tellV a b s d := by
  rw [frame_most h _ _ (by decide)]
  unfold tellV
  have hE : ¬ (endE a b ≠ 0) := by rw [h]; simp
  rw [if_neg hE, hd]
  rfl
theorem ask_err {a b : List (List UInt8)} (h : ¬ endE a b = 0) : askV a b = (0, 0, endE a b) := if_pos h
theorem tell_err {a b : List (List UInt8)} (h : ¬ endE a b = 0) (s : Int) (d : Bool) : tellV a b s d = (0, 0, endE a b) := if_pos h
theorem tell_bare {a b : List (List UInt8)} (h : endE a b = 0) (s : Int) (d : Bool) (hd : (d || bareB s) = true) : tellV a b s d = (0, 0, 0) := by
  unfold tellV
  have hE : ¬ (endE a b ≠ 0) := by rw [h]; simp
  rw [if_neg hE, hd]; rfl
/-- what a store into a block of two asks, and what it holds then -/
theorem blk.asks2 {W : World} {R : Nat} {z0 z1 : Value} (h : blk W R #[z0, z1]) (u0 u1 : Value) :
    (W.cell? ⟨R, 0, none⟩ = some z0 ∧ W.frozen? ⟨R, 0, none⟩ = false) ∧ ((W.setCell ⟨R, 0, none⟩ u0).cell? ⟨R, 1, none⟩ = some z1 ∧ (W.setCell ⟨R, 0, none⟩ u0).frozen? ⟨R, 1, none⟩ = false) ∧
    ((W.setCell ⟨R, 0, none⟩ u0).setCell ⟨R, 1, none⟩ u1).cell? ⟨R, 0, none⟩ = some u0 ∧ ((W.setCell ⟨R, 0, none⟩ u0).setCell ⟨R, 1, none⟩ u1).cell? ⟨R, 1, none⟩ = some u1 :=
  ⟨⟨h.cell 0 _ rfl, h.free 0⟩, ⟨(h.set 0 _).cell 1 _ rfl, (h.set 0 _).free 1⟩, (h.two _ _).cell 0 _ rfl, (h.two _ _).cell 1 _ rfl⟩
/-- a result's block ahead, something read, a header's block behind -/
theorem hdr_mem {w w2 : World} {o h : Obj} {cs : Array Value} {T : TypeId} (ho : o = .cells cs T) (hb : Below (w.alloc o).heap.size (w.alloc o) w2) : blk (w2.alloc h) w.heap.size cs ∧ Below w.heap.size w (w2.alloc h) ∧ Below w2.heap.size w2 (w2.alloc h) := by
  subst ho
  have hal : Below w.heap.size w (w.alloc (.cells cs T)) := (Below.refl _ _).alloc (Nat.le_refl _) _
  have h2 : Below w2.heap.size w2 (w2.alloc h) := (Below.refl _ _).alloc (Nat.le_refl _) _
  exact ⟨((blk.new w cs T).below hb).below h2, (hal.trans (hb.mono hal.size)).trans (h2.mono (hal.trans (hb.mono hal.size)).size), h2⟩

set_option maxRecDepth 100000 in
set_option maxHeartbeats 2000000 in
theorem request_any (v : Value) (l : List Fld) (w : World) (he : Env w) (h : FL w v l) (hs : smallF l) (hl : l.length ≤ 1048576) :
    Calls Tryd.prog 9 #[v] w fun e w' => e = .returned (ansV (askR l)) ∧ Below w.heap.size w w' := by
  have hal : Below w.heap.size w (w.alloc (.cells #[.int .i64 0, .int .i64 0] 26)) := (Below.refl _ _).alloc (Nat.le_refl _) _
  have hrd := read_any v l _ (he.below hal (Nat.le_refl _)) (h.bel hal) hs hl
  have HEW : Hid (∀ W, Below w.heap.size w W → Env W) := fun W hb => he.below hb (Nat.le_refl _)
  have HS1 := Lib.hid (elems_small hs clN)
  have HRD := Lib.hid hrd
  have hA : askR l = askV (valsL l clN) (valsL l teN) := rfl
  rw [hA]
  clear hal hrd he h hs hA
  generalize valsL l clN = a at *
  generalize valsL l teN = b at *
  go_enter Tryd.func9, Tryd.ntmps9
  go_wp2_with fail
  refine HRD.out.mono ?_
  rintro e w2 ⟨A1, c1, A2, c2, rfl, hv1, hv2, hb2⟩
  have HV1 := Lib.hid hv1; have HB2 := Lib.hid hb2; clear hv1 hv2 hb2 HRD
  unfold hdrV
  by_cases hz : endE a b = 0
  · have HZ := Lib.hid hz
    have hd : (endE a b != 0) = false := by rw [bne_eq_false_iff_eq]; exact hz
    clear hz
    go_wp2_with fail
    obtain ⟨h1, h2, h3⟩ := hdr_mem (h := .cells #[.bool (!a.isEmpty), .bool (amissB a), .slice A1 (elemsL a).length c1, .bool (!b.isEmpty), .bool (amissB b), .slice A2 (elemsL b).length c2] 48) rfl HB2.out
    have hfr := framing_any (!a.isEmpty) (amissB a) (!b.isEmpty) (amissB b) _ A2 (elemsL b).length c2 (elemsL a) 65536 0 _ (HEW.out _ h2) (HV1.out.bel h3) HS1.out (fun h _ => List.length_pos_iff.2 (end_len HZ.out (by simpa using h)).2.1)
    rw [frame_ask HZ.out] at hfr
    have H1 := Lib.hid h1; have H2 := Lib.hid h2; clear h1 h2 h3
    generalize w2.alloc (.cells #[.bool (!a.isEmpty), .bool (amissB a), .slice A1 (elemsL a).length c1, .bool (!b.isEmpty), .bool (amissB b), .slice A2 (elemsL b).length c2] 48) = w3 at *
    refine hfr.mono ?_
    rintro e w4 ⟨rfl, hb4⟩
    generalize hr : askV a b = r at *
    have HRR := Lib.hid hr; clear hr
    obtain ⟨r0, r1, r2⟩ := r
    unfold ansV
    obtain ⟨⟨s1, s2⟩, ⟨s3, s4⟩, m1, m2⟩ := (H1.out.below hb4).asks2 (.int .i64 r0) (.int .i64 r1)
    have HB4 := Lib.hid (((H2.out.trans (hb4.mono H2.out.size)).setCell (p := ⟨w.heap.size, 0, none⟩) (Nat.le_refl w.heap.size) (.int .i64 r0)).setCell (p := ⟨w.heap.size, 1, none⟩) (Nat.le_refl w.heap.size) (.int .i64 r1))
    clear hb4 hfr
    go_wp2_with fail
    exact bodyPost_ret (v := ansV (r0, r1, r2)) (by simp [results, Tryd.results9, go_sem, m1, m2, ansV]) rfl ⟨by rw [HRR.out], HB4.out⟩
  · have HZ := Lib.hid hz
    have hd : (endE a b != 0) = true := bne_iff_ne.2 hz
    obtain ⟨h1, h2, h3⟩ := hdr_mem (h := .cells #[.bool (!a.isEmpty), .bool (amissB a), .slice A1 (elemsL a).length c1, .bool (!b.isEmpty), .bool (amissB b), .slice A2 (elemsL b).length c2] 48) rfl HB2.out
    obtain ⟨⟨s1, s2⟩, ⟨s3, s4⟩, m1, m2⟩ := h1.asks2 (.int .i64 0) (.int .i64 0)
    have HB4 := Lib.hid ((h2.setCell (p := ⟨w.heap.size, 0, none⟩) (Nat.le_refl w.heap.size) (.int .i64 0)).setCell (p := ⟨w.heap.size, 1, none⟩) (Nat.le_refl w.heap.size) (.int .i64 0))
    clear hz h1 h2 h3
    go_wp2_with fail
    exact bodyPost_ret (v := ansV (0, 0, endE a b)) (by simp [results, Tryd.results9, go_sem, m1, m2, ansV]) rfl ⟨by rw [ask_err HZ.out], HB4.out⟩

set_option maxRecDepth 100000 in
set_option maxHeartbeats 2000000 in
theorem reply_any (v : Value) (l : List Fld) (n : Int) (d : Bool) (w : World) (he : Env w) (h : FL w v l) (hs : smallF l) (hl : l.length ≤ 1048576) :
    Calls Tryd.prog 12 #[v, .int .i64 n, .bool d] w fun e w' => e = .returned (ansV (tellR l n d)) ∧ Below w.heap.size w w' := by
  have hal : Below w.heap.size w (w.alloc (.cells #[.int .i64 0, .int .i64 0] 26)) := (Below.refl _ _).alloc (Nat.le_refl _) _
  have hrd := read_any v l _ (he.below hal (Nat.le_refl _)) (h.bel hal) hs hl
  have HEW : Hid (∀ W, Below w.heap.size w W → Env W) := fun W hb => he.below hb (Nat.le_refl _)
  have HS1 := Lib.hid (elems_small hs clN)
  have HRD := Lib.hid hrd
  have hA : tellR l n d = tellV (valsL l clN) (valsL l teN) n d := rfl
  rw [hA]
  clear hal hrd he h hs hA
  generalize valsL l clN = a at *
  generalize valsL l teN = b at *
  go_enter Tryd.func12, Tryd.ntmps12
  go_wp2_with fail
  refine HRD.out.mono ?_
  rintro e w2 ⟨A1, c1, A2, c2, rfl, hv1, hv2, hb2⟩
  have HV1 := Lib.hid hv1; have HB2 := Lib.hid hb2; clear hv1 hv2 hb2 HRD
  unfold hdrV
  by_cases hz : endE a b = 0
  · have HZ := Lib.hid hz
    have hd : (endE a b != 0) = false := by rw [bne_eq_false_iff_eq]; exact hz
    clear hz
    cases d
    · cases hq : bareB n
      · skip
        have HQ : Hid (bareB n = false) := hq
        clear hq
        go_wp2_with fail
        refine (bodiless_any n _).mono ?_
        rw [show bareB n = false from HQ.out]
        rintro e w' ⟨rfl, rfl⟩
        go_wp2_with fail
        obtain ⟨h1, h2, h3⟩ := hdr_mem (h := .cells #[.bool (!a.isEmpty), .bool (amissB a), .slice A1 (elemsL a).length c1, .bool (!b.isEmpty), .bool (amissB b), .slice A2 (elemsL b).length c2] 48) rfl HB2.out
        have hfr := framing_any (!a.isEmpty) (amissB a) (!b.isEmpty) (amissB b) _ A2 (elemsL b).length c2 (elemsL a) 262144 3 _ (HEW.out _ h2) (HV1.out.bel h3) HS1.out (fun h _ => List.length_pos_iff.2 (end_len HZ.out (by simpa using h)).2.1)
        rw [frame_tell HZ.out n false HQ.out] at hfr
        have H1 := Lib.hid h1; have H2 := Lib.hid h2; clear h1 h2 h3
        generalize w2.alloc (.cells #[.bool (!a.isEmpty), .bool (amissB a), .slice A1 (elemsL a).length c1, .bool (!b.isEmpty), .bool (amissB b), .slice A2 (elemsL b).length c2] 48) = w3 at *
        refine hfr.mono ?_
        rintro e w4 ⟨rfl, hb4⟩
        generalize hr : tellV a b n false = r at *
        have HRR := Lib.hid hr; clear hr
        obtain ⟨r0, r1, r2⟩ := r
        unfold ansV
        obtain ⟨⟨s1, s2⟩, ⟨s3, s4⟩, m1, m2⟩ := (H1.out.below hb4).asks2 (.int .i64 r0) (.int .i64 r1)
        have HB4 := Lib.hid (((H2.out.trans (hb4.mono H2.out.size)).setCell (p := ⟨w.heap.size, 0, none⟩) (Nat.le_refl w.heap.size) (.int .i64 r0)).setCell (p := ⟨w.heap.size, 1, none⟩) (Nat.le_refl w.heap.size) (.int .i64 r1))
        clear hb4 hfr
        go_wp2_with fail
        exact bodyPost_ret (v := ansV (r0, r1, r2)) (by simp [results, Tryd.results12, go_sem, m1, m2, ansV]) rfl ⟨by rw [HRR.out], HB4.out⟩
      · skip
        obtain ⟨h1, h2, h3⟩ := hdr_mem (h := .cells #[.bool (!a.isEmpty), .bool (amissB a), .slice A1 (elemsL a).length c1, .bool (!b.isEmpty), .bool (amissB b), .slice A2 (elemsL b).length c2] 48) rfl HB2.out
        have hb2 := (tell_bare HZ.out n false hq)
        have HTB := Lib.hid hb2
        obtain ⟨⟨s1, s2⟩, ⟨s3, s4⟩, m1, m2⟩ := h1.asks2 (.int .i64 0) (.int .i64 0)
        have HB4 := Lib.hid ((h2.setCell (p := ⟨w.heap.size, 0, none⟩) (Nat.le_refl w.heap.size) (.int .i64 0)).setCell (p := ⟨w.heap.size, 1, none⟩) (Nat.le_refl w.heap.size) (.int .i64 0))
        clear h1 h2 h3 hb2
        have HQ := Lib.hid hq
        clear hq
        go_wp2_with fail
        refine (bodiless_any n _).mono ?_
        rw [show bareB n = true from HQ.out]
        rintro e w' ⟨rfl, rfl⟩
        go_wp2_with fail
        exact bodyPost_ret (v := ansV (0, 0, 0)) (by simp [results, Tryd.results12, go_sem, m1, m2, ansV]) rfl ⟨by rw [HTB.out], HB4.out⟩
    · skip
      obtain ⟨h1, h2, h3⟩ := hdr_mem (h := .cells #[.bool (!a.isEmpty), .bool (amissB a), .slice A1 (elemsL a).length c1, .bool (!b.isEmpty), .bool (amissB b), .slice A2 (elemsL b).length c2] 48) rfl HB2.out
      have hb2 := (tell_bare HZ.out n true rfl)
      have HTB := Lib.hid hb2
      obtain ⟨⟨s1, s2⟩, ⟨s3, s4⟩, m1, m2⟩ := h1.asks2 (.int .i64 0) (.int .i64 0)
      have HB4 := Lib.hid ((h2.setCell (p := ⟨w.heap.size, 0, none⟩) (Nat.le_refl w.heap.size) (.int .i64 0)).setCell (p := ⟨w.heap.size, 1, none⟩) (Nat.le_refl w.heap.size) (.int .i64 0))
      clear h1 h2 h3 hb2
      go_wp2_with fail
      exact bodyPost_ret (v := ansV (0, 0, 0)) (by simp [results, Tryd.results12, go_sem, m1, m2, ansV]) rfl ⟨by rw [HTB.out], HB4.out⟩
  · have HZ := Lib.hid hz
    have hd : (endE a b != 0) = true := bne_iff_ne.2 hz
    obtain ⟨h1, h2, h3⟩ := hdr_mem (h := .cells #[.bool (!a.isEmpty), .bool (amissB a), .slice A1 (elemsL a).length c1, .bool (!b.isEmpty), .bool (amissB b), .slice A2 (elemsL b).length c2] 48) rfl HB2.out
    obtain ⟨⟨s1, s2⟩, ⟨s3, s4⟩, m1, m2⟩ := h1.asks2 (.int .i64 0) (.int .i64 0)
    have HB4 := Lib.hid ((h2.setCell (p := ⟨w.heap.size, 0, none⟩) (Nat.le_refl w.heap.size) (.int .i64 0)).setCell (p := ⟨w.heap.size, 1, none⟩) (Nat.le_refl w.heap.size) (.int .i64 0))
    clear hz h1 h2 h3
    go_wp2_with fail
    exact bodyPost_ret (v := ansV (0, 0, endE a b)) (by simp [results, Tryd.results12, go_sem, m1, m2, ansV]) rfl ⟨by rw [tell_err HZ.out], HB4.out⟩
end Go.Proofs.YtnhkebbmgiokbaaDoor
