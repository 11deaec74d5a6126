/- Where a request's body ends, and a reply's, by the document. -/
import Derived.Test.YtnhkebbmgiokbaaDoorFramingI
namespace Go.Proofs.YtnhkebbmgiokbaaDoor
open Go.RowKit Go.Shelf

theorem vals_size {l : List Fld} (hz : sizeL l ≤ 1048576) (n : List UInt8) : ∀ x ∈ valsL l n, x.length ≤ 1048576 := fun _ hx => Nat.le_trans (memF_flat hx) (Nat.le_trans (vals_flat l n) hz)
theorem rof_any (v : Value) (l : List Fld) (w : World) (h : FL w v l) (hs : smallF l) (hl : l.length ≤ 1048576) (hz : sizeL l ≤ 1048576) :
    Calls Tryd.prog 20 #[v] w fun e w' => e = .returned (ofV (valsL l clN) (valsL l teN)) ∧ Below w.heap.size w w' := by
  have hlt : ∀ n, ∀ x ∈ valsL l n, x.length ≤ 4294967290 := fun n x hx => Nat.le_trans (vals_size hz n x hx) (by decide)
  refine rof_core v _ _ w ?_ ?_ ?_ ?_ (elems_small hs clN) (elems_small hs teN) (elems_few hl clN)
  · exact fun W hb => rvalues_any v l clN W (h.bel hb) hs hl (by decide)
  · exact fun W hb => rvalues_any v l teN W (h.bel hb) hs hl (by decide)
  · exact fun W hb => pieces_any v l clN W (h.bel hb) hs hl (by decide) (hlt clN)
  · exact fun W hb => pieces_any v l teN W (h.bel hb) hs hl (by decide) (hlt teN)
theorem ask_long {a b : List (List UInt8)} (h : endE a b = 0) (hn : 65536 < endN a b) : askV a b = (0, 0, 3) := by
  unfold askV
  have hE : ¬ (endE a b ≠ 0) := by rw [h]; simp
  rw [if_neg hE, if_pos hn]
theorem ask_ok {a b : List (List UInt8)} (h : endE a b = 0) (hn : ¬ 65536 < endN a b) : askV a b = (endK a b, endN a b, 0) := by
  unfold askV
  have hE : ¬ (endE a b ≠ 0) := by rw [h]; simp
  rw [if_neg hE, if_neg hn]
theorem tell_long {a b : List (List UInt8)} {s : Int} {d : Bool} (h : endE a b = 0) (hd : (d || bareB s) = false) (hn : 262144 < endN a b) : tellV a b s d = (0, 0, 3) := by
  unfold tellV
  have hE : ¬ (endE a b ≠ 0) := by rw [h]; simp
  rw [if_neg hE, hd, if_neg (by decide), if_pos hn]
theorem tell_close {a b : List (List UInt8)} {s : Int} {d : Bool} (h : endE a b = 0) (hd : (d || bareB s) = false) (hn : ¬ 262144 < endN a b) (he : (a.isEmpty && b.isEmpty) = true) : tellV a b s d = (3, 0, 0) := by
  unfold tellV
  have hE : ¬ (endE a b ≠ 0) := by rw [h]; simp
  rw [if_neg hE, hd, if_neg (by decide), if_neg hn, he]; rfl
theorem tell_ok {a b : List (List UInt8)} {s : Int} {d : Bool} (h : endE a b = 0) (hd : (d || bareB s) = false) (hn : ¬ 262144 < endN a b) (he : (a.isEmpty && b.isEmpty) = false) : tellV a b s d = (endK a b, endN a b, 0) := by
  unfold tellV
  have hE : ¬ (endE a b ≠ 0) := by rw [h]; simp
  rw [if_neg hE, hd, if_neg (by decide), if_neg hn, he]; rfl

set_option maxRecDepth 100000 in
set_option maxHeartbeats 2000000 in
theorem rrequest6_any (v : Value) (l : List Fld) (w : World) (h : FL w v l) (hs : smallF l) (hl : l.length ≤ 1048576) (hz : sizeL l ≤ 1048576) :
    Calls Tryd.prog 10 #[v] w fun e w' => e = .returned (ansV (askR l)) ∧ Below w.heap.size w w' := by
  have hal : Below w.heap.size w (w.alloc (.cells #[.int .i64 0, .int .i64 0] 30)) := (Below.refl _ _).alloc (Nat.le_refl _) _
  have hof := rof_any v l _ (h.bel hal) hs hl hz
  have HOF := Lib.hid hof
  have hA : askR l = askV (valsL l clN) (valsL l teN) := rfl
  rw [hA]
  clear hal hof h hs hz hA
  generalize valsL l clN = a at *
  generalize valsL l teN = b at *
  unfold ofV at HOF
  go_enter Tryd.func10, Tryd.ntmps10
  go_wp2_with fail
  refine HOF.out.mono ?_
  rintro e w2 ⟨rfl, hb2⟩
  obtain ⟨h1, h2, h3⟩ := hdr_mem (h := .cells #[.int .i64 (endK a b), .int .i64 (endN a b)] 30) rfl hb2
  have H1 := Lib.hid h1; have H2 := Lib.hid h2; have HN := Lib.hid (blk.new w2 #[.int .i64 (endK a b), .int .i64 (endN a b)] 30); clear h1 h2 h3 hb2 HOF
  have c0 := HN.out.cell 0 (.int .i64 (endK a b)) rfl
  have c1 := HN.out.cell 1 (.int .i64 (endN a b)) rfl
  by_cases hz : endE a b = 0
  · have hd : (endE a b != 0) = false := by rw [bne_eq_false_iff_eq]; exact hz
    by_cases hn : 65536 < endN a b
    · have HEQ := Lib.hid (ask_long hz hn)
      clear hz
      obtain ⟨⟨s1, s2⟩, ⟨s3, s4⟩, m1, m2⟩ := H1.out.asks2 (.int .i64 0) (.int .i64 0)
      have HB4 := Lib.hid ((H2.out.setCell (p := ⟨w.heap.size, 0, none⟩) (Nat.le_refl w.heap.size) (.int .i64 0)).setCell (p := ⟨w.heap.size, 1, none⟩) (Nat.le_refl w.heap.size) (.int .i64 0))
      go_wp2_with fail
      exact bodyPost_ret (v := ansV (0, 0, 3)) (by simp [results, Tryd.results10, go_sem, m1, m2, ansV]) rfl ⟨by rw [HEQ.out], HB4.out⟩
    · have HEQ := Lib.hid (ask_ok hz hn)
      clear hz
      obtain ⟨⟨s1, s2⟩, ⟨s3, s4⟩, m1, m2⟩ := H1.out.asks2 (.int .i64 (endK a b)) (.int .i64 (endN a b))
      have HB4 := Lib.hid ((H2.out.setCell (p := ⟨w.heap.size, 0, none⟩) (Nat.le_refl w.heap.size) (.int .i64 (endK a b))).setCell (p := ⟨w.heap.size, 1, none⟩) (Nat.le_refl w.heap.size) (.int .i64 (endN a b)))
      go_wp2_with fail
      exact bodyPost_ret (v := ansV ((endK a b), (endN a b), 0)) (by simp [results, Tryd.results10, go_sem, m1, m2, ansV]) rfl ⟨by rw [HEQ.out], HB4.out⟩
  · have hd : (endE a b != 0) = true := bne_iff_ne.2 hz
    have HEQ := Lib.hid (ask_err hz)
    clear hz
    obtain ⟨⟨s1, s2⟩, ⟨s3, s4⟩, m1, m2⟩ := H1.out.asks2 (.int .i64 0) (.int .i64 0)
    have HB4 := Lib.hid ((H2.out.setCell (p := ⟨w.heap.size, 0, none⟩) (Nat.le_refl w.heap.size) (.int .i64 0)).setCell (p := ⟨w.heap.size, 1, none⟩) (Nat.le_refl w.heap.size) (.int .i64 0))
    go_wp2_with fail
    exact bodyPost_ret (v := ansV (0, 0, (endE a b))) (by simp [results, Tryd.results10, go_sem, m1, m2, ansV]) rfl ⟨by rw [HEQ.out], HB4.out⟩

set_option maxRecDepth 100000 in
set_option maxHeartbeats 2000000 in
theorem rreply6_any (v : Value) (l : List Fld) (n : Int) (d : Bool) (w : World) (h : FL w v l) (hs : smallF l) (hl : l.length ≤ 1048576) (hz : sizeL l ≤ 1048576) :
    Calls Tryd.prog 13 #[v, .int .i64 n, .bool d] w fun e w' => e = .returned (ansV (tellR l n d)) ∧ Below w.heap.size w w' := by
  have hal : Below w.heap.size w (w.alloc (.cells #[.int .i64 0, .int .i64 0] 30)) := (Below.refl _ _).alloc (Nat.le_refl _) _
  have hof := rof_any v l _ (h.bel hal) hs hl hz
  have HOF := Lib.hid hof
  have hA : tellR l n d = tellV (valsL l clN) (valsL l teN) n d := rfl
  rw [hA]
  clear hal hof h hs hz hA
  generalize valsL l clN = a at *
  generalize valsL l teN = b at *
  unfold ofV at HOF
  go_enter Tryd.func13, Tryd.ntmps13
  go_wp2_with fail
  refine HOF.out.mono ?_
  rintro e w2 ⟨rfl, hb2⟩
  obtain ⟨h1, h2, h3⟩ := hdr_mem (h := .cells #[.int .i64 (endK a b), .int .i64 (endN a b)] 30) rfl hb2
  have H1 := Lib.hid h1; have H2 := Lib.hid h2; have HN := Lib.hid (blk.new w2 #[.int .i64 (endK a b), .int .i64 (endN a b)] 30); clear h1 h2 h3 hb2 HOF
  have c0 := HN.out.cell 0 (.int .i64 (endK a b)) rfl
  have c1 := HN.out.cell 1 (.int .i64 (endN a b)) rfl
  by_cases hz : endE a b = 0
  · have hd : (endE a b != 0) = false := by rw [bne_eq_false_iff_eq]; exact hz
    cases d
    · have hbare : bareB n = ((decide (100 ≤ n) && decide (n ≤ 199)) || (n == 204 || n == 304)) := rfl
      by_cases g1 : 100 ≤ n
      · by_cases g2 : n ≤ 199
        · have HEQ := Lib.hid (tell_bare hz n false (by rw [hbare]; simp [g1, g2]))
          clear hz hbare
          obtain ⟨⟨s1, s2⟩, ⟨s3, s4⟩, m1, m2⟩ := H1.out.asks2 (.int .i64 0) (.int .i64 0)
          have HB4 := Lib.hid ((H2.out.setCell (p := ⟨w.heap.size, 0, none⟩) (Nat.le_refl w.heap.size) (.int .i64 0)).setCell (p := ⟨w.heap.size, 1, none⟩) (Nat.le_refl w.heap.size) (.int .i64 0))
          go_wp2_with fail
          exact bodyPost_ret (v := ansV (0, 0, 0)) (by simp [results, Tryd.results13, go_sem, m1, m2, ansV]) rfl ⟨by rw [HEQ.out], HB4.out⟩
        · cases g3 : (n == 204)
          · cases g4 : (n == 304)
            · have HD : Hid ((false || bareB n) = false) := by show _ = _; rw [hbare, g3, g4]; simp [g2]
              clear hbare
              by_cases hn : 262144 < endN a b
              · have HEQ := Lib.hid (tell_long hz HD.out hn)
                clear hz
                obtain ⟨⟨s1, s2⟩, ⟨s3, s4⟩, m1, m2⟩ := H1.out.asks2 (.int .i64 0) (.int .i64 0)
                have HB4 := Lib.hid ((H2.out.setCell (p := ⟨w.heap.size, 0, none⟩) (Nat.le_refl w.heap.size) (.int .i64 0)).setCell (p := ⟨w.heap.size, 1, none⟩) (Nat.le_refl w.heap.size) (.int .i64 0))
                go_wp2_with fail
                exact bodyPost_ret (v := ansV (0, 0, 3)) (by simp [results, Tryd.results13, go_sem, m1, m2, ansV]) rfl ⟨by rw [HEQ.out], HB4.out⟩
              · cases he : (a.isEmpty && b.isEmpty)
                · have HEQ := Lib.hid (tell_ok hz HD.out hn he)
                  clear hz he
                  obtain ⟨⟨s1, s2⟩, ⟨s3, s4⟩, m1, m2⟩ := H1.out.asks2 (.int .i64 (endK a b)) (.int .i64 (endN a b))
                  have HB4 := Lib.hid ((H2.out.setCell (p := ⟨w.heap.size, 0, none⟩) (Nat.le_refl w.heap.size) (.int .i64 (endK a b))).setCell (p := ⟨w.heap.size, 1, none⟩) (Nat.le_refl w.heap.size) (.int .i64 (endN a b)))
                  go_wp2_with fail
                  exact bodyPost_ret (v := ansV ((endK a b), (endN a b), 0)) (by simp [results, Tryd.results13, go_sem, m1, m2, ansV]) rfl ⟨by rw [HEQ.out], HB4.out⟩
                · have HEQ := Lib.hid (tell_close hz HD.out hn he)
                  clear hz he
                  obtain ⟨⟨s1, s2⟩, ⟨s3, s4⟩, m1, m2⟩ := H1.out.asks2 (.int .i64 3) (.int .i64 0)
                  have HB4 := Lib.hid ((H2.out.setCell (p := ⟨w.heap.size, 0, none⟩) (Nat.le_refl w.heap.size) (.int .i64 3)).setCell (p := ⟨w.heap.size, 1, none⟩) (Nat.le_refl w.heap.size) (.int .i64 0))
                  go_wp2_with fail
                  exact bodyPost_ret (v := ansV (3, 0, 0)) (by simp [results, Tryd.results13, go_sem, m1, m2, ansV]) rfl ⟨by rw [HEQ.out], HB4.out⟩
            · have HEQ := Lib.hid (tell_bare hz n false (by rw [hbare, g4]; simp))
              clear hz hbare
              obtain ⟨⟨s1, s2⟩, ⟨s3, s4⟩, m1, m2⟩ := H1.out.asks2 (.int .i64 0) (.int .i64 0)
              have HB4 := Lib.hid ((H2.out.setCell (p := ⟨w.heap.size, 0, none⟩) (Nat.le_refl w.heap.size) (.int .i64 0)).setCell (p := ⟨w.heap.size, 1, none⟩) (Nat.le_refl w.heap.size) (.int .i64 0))
              go_wp2_with fail
              exact bodyPost_ret (v := ansV (0, 0, 0)) (by simp [results, Tryd.results13, go_sem, m1, m2, ansV]) rfl ⟨by rw [HEQ.out], HB4.out⟩
          · have HEQ := Lib.hid (tell_bare hz n false (by rw [hbare, g3]; simp))
            clear hz hbare
            obtain ⟨⟨s1, s2⟩, ⟨s3, s4⟩, m1, m2⟩ := H1.out.asks2 (.int .i64 0) (.int .i64 0)
            have HB4 := Lib.hid ((H2.out.setCell (p := ⟨w.heap.size, 0, none⟩) (Nat.le_refl w.heap.size) (.int .i64 0)).setCell (p := ⟨w.heap.size, 1, none⟩) (Nat.le_refl w.heap.size) (.int .i64 0))
            go_wp2_with fail
            exact bodyPost_ret (v := ansV (0, 0, 0)) (by simp [results, Tryd.results13, go_sem, m1, m2, ansV]) rfl ⟨by rw [HEQ.out], HB4.out⟩
      · have g3 : (n == 204) = false := by rw [beq_eq_false_iff_ne]; omega
        have g4 : (n == 304) = false := by rw [beq_eq_false_iff_ne]; omega
        have HD : Hid ((false || bareB n) = false) := by show _ = _; rw [hbare, g3, g4]; simp [g1]
        clear hbare
        by_cases hn : 262144 < endN a b
        · have HEQ := Lib.hid (tell_long hz HD.out hn)
          clear hz
          obtain ⟨⟨s1, s2⟩, ⟨s3, s4⟩, m1, m2⟩ := H1.out.asks2 (.int .i64 0) (.int .i64 0)
          have HB4 := Lib.hid ((H2.out.setCell (p := ⟨w.heap.size, 0, none⟩) (Nat.le_refl w.heap.size) (.int .i64 0)).setCell (p := ⟨w.heap.size, 1, none⟩) (Nat.le_refl w.heap.size) (.int .i64 0))
          go_wp2_with fail
          exact bodyPost_ret (v := ansV (0, 0, 3)) (by simp [results, Tryd.results13, go_sem, m1, m2, ansV]) rfl ⟨by rw [HEQ.out], HB4.out⟩
        · cases he : (a.isEmpty && b.isEmpty)
          · have HEQ := Lib.hid (tell_ok hz HD.out hn he)
            clear hz he
            obtain ⟨⟨s1, s2⟩, ⟨s3, s4⟩, m1, m2⟩ := H1.out.asks2 (.int .i64 (endK a b)) (.int .i64 (endN a b))
            have HB4 := Lib.hid ((H2.out.setCell (p := ⟨w.heap.size, 0, none⟩) (Nat.le_refl w.heap.size) (.int .i64 (endK a b))).setCell (p := ⟨w.heap.size, 1, none⟩) (Nat.le_refl w.heap.size) (.int .i64 (endN a b)))
            go_wp2_with fail
            exact bodyPost_ret (v := ansV ((endK a b), (endN a b), 0)) (by simp [results, Tryd.results13, go_sem, m1, m2, ansV]) rfl ⟨by rw [HEQ.out], HB4.out⟩
          · have HEQ := Lib.hid (tell_close hz HD.out hn he)
            clear hz he
            obtain ⟨⟨s1, s2⟩, ⟨s3, s4⟩, m1, m2⟩ := H1.out.asks2 (.int .i64 3) (.int .i64 0)
            have HB4 := Lib.hid ((H2.out.setCell (p := ⟨w.heap.size, 0, none⟩) (Nat.le_refl w.heap.size) (.int .i64 3)).setCell (p := ⟨w.heap.size, 1, none⟩) (Nat.le_refl w.heap.size) (.int .i64 0))
            go_wp2_with fail
            exact bodyPost_ret (v := ansV (3, 0, 0)) (by simp [results, Tryd.results13, go_sem, m1, m2, ansV]) rfl ⟨by rw [HEQ.out], HB4.out⟩
    · have HEQ := Lib.hid (tell_bare hz n true rfl)
      clear hz
      obtain ⟨⟨s1, s2⟩, ⟨s3, s4⟩, m1, m2⟩ := H1.out.asks2 (.int .i64 0) (.int .i64 0)
      have HB4 := Lib.hid ((H2.out.setCell (p := ⟨w.heap.size, 0, none⟩) (Nat.le_refl w.heap.size) (.int .i64 0)).setCell (p := ⟨w.heap.size, 1, none⟩) (Nat.le_refl w.heap.size) (.int .i64 0))
      go_wp2_with fail
      exact bodyPost_ret (v := ansV (0, 0, 0)) (by simp [results, Tryd.results13, go_sem, m1, m2, ansV]) rfl ⟨by rw [HEQ.out], HB4.out⟩
  · have hd : (endE a b != 0) = true := bne_iff_ne.2 hz
    have HEQ := Lib.hid (tell_err hz n d)
    clear hz
    obtain ⟨⟨s1, s2⟩, ⟨s3, s4⟩, m1, m2⟩ := H1.out.asks2 (.int .i64 0) (.int .i64 0)
    have HB4 := Lib.hid ((H2.out.setCell (p := ⟨w.heap.size, 0, none⟩) (Nat.le_refl w.heap.size) (.int .i64 0)).setCell (p := ⟨w.heap.size, 1, none⟩) (Nat.le_refl w.heap.size) (.int .i64 0))
    go_wp2_with fail
    exact bodyPost_ret (v := ansV (0, 0, (endE a b))) (by simp [results, Tryd.results13, go_sem, m1, m2, ansV]) rfl ⟨by rw [HEQ.out], HB4.out⟩
end Go.Proofs.YtnhkebbmgiokbaaDoor
