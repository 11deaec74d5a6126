/- What is written is read again: the statement's own walk. -/
import Derived.Test.YtgkjjmcjlobbpaaGreatDoorKFieldsA
import Derived.Test.YtgkjjmcjlobbpaaGreatDoorKMsgN
import Derived.Test.YtgkjjmcjlobbpaaGreatDoorKMsgQ
namespace Go.Proofs.YtgkjjmcjlobbpaaGreatDoor
open Go.RowKit

/-- two orders met: what stands in a new block, and where a slice lies -/
theorem wp_meet {P : Program} {c : Code} {Q : Exit → Act → World → Prop} {a : Act} {w : World} {act : Nat → Option Addr → Nat → Act} (Good : Nat → Option Addr → Nat → World → Prop)
    (h1 : c.wp P (fun e a' w' => ∃ g A k, e = .normal ∧ a' = act g A k ∧ Good g A k w') a w)
    (h2 : ∀ g A k w', Good g A k w' → Q .normal (act g A k) w') : c.wp P Q a w :=
  Code.wp_mono (by rintro e a' w' ⟨g, A, k, rfl, rfl, h⟩; exact h2 g A k w' h) h1
/-- the three arguments' own blocks -/
structure Three (m t : List UInt8) (n : Int) (A : Option Addr) (c : Nat) (l : List Fld) (b : List UInt8) (c0 : Int) (r : List UInt8) (o : Int) (A2 : Option Addr) (c2 : Nat) (l2 : List Fld) (b2 X : List UInt8) (k : Int) (w : World) (w' : World) : Prop where
  kr : blk w' w.heap.size #[.string (bs m), .string (bs t), .int .i64 n, .slice A l.length c, .string (bs b)]
  kq : blk w' (w.heap.size + 1) #[.int .i64 c0, .string (bs r), .int .i64 o, .slice A2 l2.length c2, .string (bs b2)]
  kx : blk w' (w.heap.size + 1 + 1) #[.string (bs X), .int .u16 (k : Int)]
  fr : FL w' (.slice A l.length c) l
  fq : FL w' (.slice A2 l2.length c2) l2
  bel : Below w.heap.size w w'
theorem Three.step {m t : List UInt8} {n : Int} {A : Option Addr} {c : Nat} {l : List Fld} {b : List UInt8} {c0 : Int} {r : List UInt8} {o : Int} {A2 : Option Addr} {c2 : Nat} {l2 : List Fld} {b2 X : List UInt8} {k : Int} {w w' w'' : World} (h : Three m t n A c l b c0 r o A2 c2 l2 b2 X k w w') (hb : Below w'.heap.size w' w'') : Three m t n A c l b c0 r o A2 c2 l2 b2 X k w w'' :=
  ⟨h.kr.below hb, h.kq.below hb, h.kx.below hb, h.fr.bel hb, h.fq.bel hb, h.bel.trans (hb.mono h.bel.size)⟩
theorem three_new (m t : List UInt8) (n : Int) (A : Option Addr) (c : Nat) (l : List Fld) (b : List UInt8) (c0 : Int) (r : List UInt8) (o : Int) (A2 : Option Addr) (c2 : Nat) (l2 : List Fld) (b2 X : List UInt8) (k : Int) (w : World) (h1 : FL w (.slice A l.length c) l) (h2 : FL w (.slice A2 l2.length c2) l2) : Three m t n A c l b c0 r o A2 c2 l2 b2 X k w (((w.alloc (.cells #[.string (bs m), .string (bs t), .int .i64 n, .slice A l.length c, .string (bs b)] 25)).alloc (.cells #[.int .i64 c0, .string (bs r), .int .i64 o, .slice A2 l2.length c2, .string (bs b2)] 32)).alloc (.cells #[.string (bs X), .int .u16 (k : Int)] 56)) := by
  have d1 : Below w.heap.size w (w.alloc (.cells #[.string (bs m), .string (bs t), .int .i64 n, .slice A l.length c, .string (bs b)] 25)) := (Below.refl _ _).alloc (Nat.le_refl _) _
  have d2 : Below (w.alloc (.cells #[.string (bs m), .string (bs t), .int .i64 n, .slice A l.length c, .string (bs b)] 25)).heap.size (w.alloc (.cells #[.string (bs m), .string (bs t), .int .i64 n, .slice A l.length c, .string (bs b)] 25)) ((w.alloc (.cells #[.string (bs m), .string (bs t), .int .i64 n, .slice A l.length c, .string (bs b)] 25)).alloc (.cells #[.int .i64 c0, .string (bs r), .int .i64 o, .slice A2 l2.length c2, .string (bs b2)] 32)) := (Below.refl _ _).alloc (Nat.le_refl _) _
  have d3 : Below ((w.alloc (.cells #[.string (bs m), .string (bs t), .int .i64 n, .slice A l.length c, .string (bs b)] 25)).alloc (.cells #[.int .i64 c0, .string (bs r), .int .i64 o, .slice A2 l2.length c2, .string (bs b2)] 32)).heap.size ((w.alloc (.cells #[.string (bs m), .string (bs t), .int .i64 n, .slice A l.length c, .string (bs b)] 25)).alloc (.cells #[.int .i64 c0, .string (bs r), .int .i64 o, .slice A2 l2.length c2, .string (bs b2)] 32)) (((w.alloc (.cells #[.string (bs m), .string (bs t), .int .i64 n, .slice A l.length c, .string (bs b)] 25)).alloc (.cells #[.int .i64 c0, .string (bs r), .int .i64 o, .slice A2 l2.length c2, .string (bs b2)] 32)).alloc (.cells #[.string (bs X), .int .u16 (k : Int)] 56)) := (Below.refl _ _).alloc (Nat.le_refl _) _
  have z1 : (w.alloc (.cells #[.string (bs m), .string (bs t), .int .i64 n, .slice A l.length c, .string (bs b)] 25)).heap.size = w.heap.size + 1 := by simp
  have z2 : ((w.alloc (.cells #[.string (bs m), .string (bs t), .int .i64 n, .slice A l.length c, .string (bs b)] 25)).alloc (.cells #[.int .i64 c0, .string (bs r), .int .i64 o, .slice A2 l2.length c2, .string (bs b2)] 32)).heap.size = w.heap.size + 1 + 1 := by simp
  have k1 := blk.new w #[.string (bs m), .string (bs t), .int .i64 n, .slice A l.length c, .string (bs b)] 25
  have k2 := blk.new (w.alloc (.cells #[.string (bs m), .string (bs t), .int .i64 n, .slice A l.length c, .string (bs b)] 25)) #[.int .i64 c0, .string (bs r), .int .i64 o, .slice A2 l2.length c2, .string (bs b2)] 32
  have k3 := blk.new ((w.alloc (.cells #[.string (bs m), .string (bs t), .int .i64 n, .slice A l.length c, .string (bs b)] 25)).alloc (.cells #[.int .i64 c0, .string (bs r), .int .i64 o, .slice A2 l2.length c2, .string (bs b2)] 32)) #[.string (bs X), .int .u16 (k : Int)] 56
  rw [z1] at k2
  rw [z2] at k3
  have hd : Below w.heap.size w (((w.alloc (.cells #[.string (bs m), .string (bs t), .int .i64 n, .slice A l.length c, .string (bs b)] 25)).alloc (.cells #[.int .i64 c0, .string (bs r), .int .i64 o, .slice A2 l2.length c2, .string (bs b2)] 32)).alloc (.cells #[.string (bs X), .int .u16 (k : Int)] 56)) := (d1.trans (d2.mono d1.size)).trans (d3.mono (Nat.le_trans d1.size d2.size))
  exact ⟨(k1.below d2).below d3, k2.below d3, k3, h1.bel hd, h2.bel hd, hd⟩

theorem smallW {l : List Fld} {n : Nat} {t : Bool} (h : smallF l) (hn : n ≤ 1048576) : smallF (writL l n t) := by
  unfold writL
  refine smallF_app (smallF_filter h _) ?_
  split
  · have hl := itoa_lenB hn
    unfold lenB at hl
    rw [Bool.and_eq_true, decide_eq_true_eq] at hl
    intro j hj
    have : j = 0 := by simp only [List.length_cons, List.length_nil] at hj; omega
    subst this
    exact ⟨by simp [lenN], by simp only [List.getElem_cons_zero]; omega⟩
  · exact fun j hj => absurd hj (by simp)
theorem fewM_split (l : List Fld) (n : Nat) : fewM l n = true → fewB l = true ∧ n ≤ 3000 := by
  unfold fewM
  rw [Bool.and_eq_true, decide_eq_true_eq]
  exact id
set_option maxHeartbeats 4000000 in
set_option maxRecDepth 100000 in
theorem messageBack_any (m t : List UInt8) (n : Int) (vs : Value) (l : List Fld) (b : List UInt8) (c0 : Int) (r : List UInt8) (o : Int) (vs2 : Value) (l2 : List Fld) (b2 X : List UInt8) (k : Nat) (w : World) (he : EnvM w)
    (h : FL w vs l) (hbig : bigF l) (h2 : FL w vs2 l2) (hbig2 : bigF l2) (hk : k < 65536) :
    Calls Tryz.prog 7 #[.agg #[.string (bs m), .string (bs t), .int .i64 n, vs, .string (bs b)], .agg #[.int .i64 c0, .string (bs r), .int .i64 o, vs2, .string (bs b2)], .agg #[.string (bs X), .int .u16 (k : Int)]] w fun e w' => e = .returned (.bool true) ∧ Below w.heap.size w w' := by
  obtain ⟨A, c, rfl⟩ := h.form
  obtain ⟨A2, c2, rfl⟩ := h2.form
  have h3 := three_new m t n A c l b c0 r o A2 c2 l2 b2 X k w h h2
  have HFR : Hid (∀ W, FL W (.slice A l.length c) l → Calls Tryz.prog 17 #[.slice A l.length c, .string (bs b)] W fun e w' => e = .returned (.bool (fewM l b.length)) ∧ Below W.heap.size W w') := fun W hf => by
    have h := few_any _ l (bs b) W hf hbig.1 hbig.2
    rw [bs_size] at h
    exact h
  have HFQ : Hid (∀ W, FL W (.slice A2 l2.length c2) l2 → Calls Tryz.prog 17 #[.slice A2 l2.length c2, .string (bs b2)] W fun e w' => e = .returned (.bool (fewM l2 b2.length)) ∧ Below W.heap.size W w') := fun W hf => by
    have h := few_any _ l2 (bs b2) W hf hbig2.1 hbig2.2
    rw [bs_size] at h
    exact h
  have Hw3 := Lib.hid h3; have HE := Lib.hid he
  clear h h2 h3 hbig hbig2 he
  have f1 := fewM_split l b.length
  have f2 := fewM_split l2 b2.length
  generalize fewM l b.length = F1 at *
  generalize fewM l2 b2.length = F2 at *
  cases F1
  · clear f1 f2
    have r0 := Hw3.out.kr.cell 0 _ rfl; have r1 := Hw3.out.kr.cell 1 _ rfl; have r2 := Hw3.out.kr.cell 2 _ rfl; have r3 := Hw3.out.kr.cell 3 _ rfl; have r4 := Hw3.out.kr.cell 4 _ rfl
    have q0 := Hw3.out.kq.cell 0 _ rfl; have q1 := Hw3.out.kq.cell 1 _ rfl; have q2 := Hw3.out.kq.cell 2 _ rfl; have q3 := Hw3.out.kq.cell 3 _ rfl; have q4 := Hw3.out.kq.cell 4 _ rfl
    have x0 := Hw3.out.kx.cell 0 _ rfl; have x1 := Hw3.out.kx.cell 1 _ rfl
    go_enter Tryz.func7, Tryz.ntmps7
    go_wp2_with fail
    generalize (((w.alloc (.cells #[.string (bs m), .string (bs t), .int .i64 n, .slice A l.length c, .string (bs b)] 25)).alloc (.cells #[.int .i64 c0, .string (bs r), .int .i64 o, .slice A2 l2.length c2, .string (bs b2)] 32)).alloc (.cells #[.string (bs X), .int .u16 (k : Int)] 56)) = w3 at *
    refine (HFR.out _ Hw3.out.fr).mono ?_
    rintro e w4 ⟨rfl, hb⟩
    clear r0 r1 r2 r3 r4 q0 q1 q2 q3 q4 x0 x1
    have Hw4 := Lib.hid (Hw3.out.step hb)
    clear hb Hw3
    have r0 := Hw4.out.kr.cell 0 _ rfl; have r1 := Hw4.out.kr.cell 1 _ rfl; have r2 := Hw4.out.kr.cell 2 _ rfl; have r3 := Hw4.out.kr.cell 3 _ rfl; have r4 := Hw4.out.kr.cell 4 _ rfl
    have q0 := Hw4.out.kq.cell 0 _ rfl; have q1 := Hw4.out.kq.cell 1 _ rfl; have q2 := Hw4.out.kq.cell 2 _ rfl; have q3 := Hw4.out.kq.cell 3 _ rfl; have q4 := Hw4.out.kq.cell 4 _ rfl
    have x0 := Hw4.out.kx.cell 0 _ rfl; have x1 := Hw4.out.kx.cell 1 _ rfl
    go_wp2_with fail
    refine (works_any _ (HE.out.bel Hw4.out.bel)).mono ?_
    rintro e wz ⟨rfl, hbz⟩
    have HZ := Lib.hid (Hw4.out.bel.trans (hbz.mono Hw4.out.bel.size))
    clear hbz
    go_wp2_with fail
    go_ret
    exact ⟨by simp, HZ.out⟩
  · by_cases hm : 3000 < m.length
    · clear f1 f2
      have r0 := Hw3.out.kr.cell 0 _ rfl; have r1 := Hw3.out.kr.cell 1 _ rfl; have r2 := Hw3.out.kr.cell 2 _ rfl; have r3 := Hw3.out.kr.cell 3 _ rfl; have r4 := Hw3.out.kr.cell 4 _ rfl
      have q0 := Hw3.out.kq.cell 0 _ rfl; have q1 := Hw3.out.kq.cell 1 _ rfl; have q2 := Hw3.out.kq.cell 2 _ rfl; have q3 := Hw3.out.kq.cell 3 _ rfl; have q4 := Hw3.out.kq.cell 4 _ rfl
      have x0 := Hw3.out.kx.cell 0 _ rfl; have x1 := Hw3.out.kx.cell 1 _ rfl
      go_enter Tryz.func7, Tryz.ntmps7
      go_wp2_with fail
      generalize (((w.alloc (.cells #[.string (bs m), .string (bs t), .int .i64 n, .slice A l.length c, .string (bs b)] 25)).alloc (.cells #[.int .i64 c0, .string (bs r), .int .i64 o, .slice A2 l2.length c2, .string (bs b2)] 32)).alloc (.cells #[.string (bs X), .int .u16 (k : Int)] 56)) = w3 at *
      refine (HFR.out _ Hw3.out.fr).mono ?_
      rintro e w4 ⟨rfl, hb⟩
      clear r0 r1 r2 r3 r4 q0 q1 q2 q3 q4 x0 x1
      have Hw4 := Lib.hid (Hw3.out.step hb)
      clear hb Hw3
      have r0 := Hw4.out.kr.cell 0 _ rfl; have r1 := Hw4.out.kr.cell 1 _ rfl; have r2 := Hw4.out.kr.cell 2 _ rfl; have r3 := Hw4.out.kr.cell 3 _ rfl; have r4 := Hw4.out.kr.cell 4 _ rfl
      have q0 := Hw4.out.kq.cell 0 _ rfl; have q1 := Hw4.out.kq.cell 1 _ rfl; have q2 := Hw4.out.kq.cell 2 _ rfl; have q3 := Hw4.out.kq.cell 3 _ rfl; have q4 := Hw4.out.kq.cell 4 _ rfl
      have x0 := Hw4.out.kx.cell 0 _ rfl; have x1 := Hw4.out.kx.cell 1 _ rfl
      go_wp2_with fail
      refine (works_any _ (HE.out.bel Hw4.out.bel)).mono ?_
      rintro e wz ⟨rfl, hbz⟩
      have HZ := Lib.hid (Hw4.out.bel.trans (hbz.mono Hw4.out.bel.size))
      clear hbz
      go_wp2_with fail
      go_ret
      exact ⟨by simp, HZ.out⟩
    · by_cases ht : 3000 < t.length
      · clear f1 f2
        have r0 := Hw3.out.kr.cell 0 _ rfl; have r1 := Hw3.out.kr.cell 1 _ rfl; have r2 := Hw3.out.kr.cell 2 _ rfl; have r3 := Hw3.out.kr.cell 3 _ rfl; have r4 := Hw3.out.kr.cell 4 _ rfl
        have q0 := Hw3.out.kq.cell 0 _ rfl; have q1 := Hw3.out.kq.cell 1 _ rfl; have q2 := Hw3.out.kq.cell 2 _ rfl; have q3 := Hw3.out.kq.cell 3 _ rfl; have q4 := Hw3.out.kq.cell 4 _ rfl
        have x0 := Hw3.out.kx.cell 0 _ rfl; have x1 := Hw3.out.kx.cell 1 _ rfl
        go_enter Tryz.func7, Tryz.ntmps7
        go_wp2_with fail
        generalize (((w.alloc (.cells #[.string (bs m), .string (bs t), .int .i64 n, .slice A l.length c, .string (bs b)] 25)).alloc (.cells #[.int .i64 c0, .string (bs r), .int .i64 o, .slice A2 l2.length c2, .string (bs b2)] 32)).alloc (.cells #[.string (bs X), .int .u16 (k : Int)] 56)) = w3 at *
        refine (HFR.out _ Hw3.out.fr).mono ?_
        rintro e w4 ⟨rfl, hb⟩
        clear r0 r1 r2 r3 r4 q0 q1 q2 q3 q4 x0 x1
        have Hw4 := Lib.hid (Hw3.out.step hb)
        clear hb Hw3
        have r0 := Hw4.out.kr.cell 0 _ rfl; have r1 := Hw4.out.kr.cell 1 _ rfl; have r2 := Hw4.out.kr.cell 2 _ rfl; have r3 := Hw4.out.kr.cell 3 _ rfl; have r4 := Hw4.out.kr.cell 4 _ rfl
        have q0 := Hw4.out.kq.cell 0 _ rfl; have q1 := Hw4.out.kq.cell 1 _ rfl; have q2 := Hw4.out.kq.cell 2 _ rfl; have q3 := Hw4.out.kq.cell 3 _ rfl; have q4 := Hw4.out.kq.cell 4 _ rfl
        have x0 := Hw4.out.kx.cell 0 _ rfl; have x1 := Hw4.out.kx.cell 1 _ rfl
        go_wp2_with fail
        refine (works_any _ (HE.out.bel Hw4.out.bel)).mono ?_
        rintro e wz ⟨rfl, hbz⟩
        have HZ := Lib.hid (Hw4.out.bel.trans (hbz.mono Hw4.out.bel.size))
        clear hbz
        go_wp2_with fail
        go_ret
        exact ⟨by simp, HZ.out⟩
      · cases F2
        · clear f1 f2
          have r0 := Hw3.out.kr.cell 0 _ rfl; have r1 := Hw3.out.kr.cell 1 _ rfl; have r2 := Hw3.out.kr.cell 2 _ rfl; have r3 := Hw3.out.kr.cell 3 _ rfl; have r4 := Hw3.out.kr.cell 4 _ rfl
          have q0 := Hw3.out.kq.cell 0 _ rfl; have q1 := Hw3.out.kq.cell 1 _ rfl; have q2 := Hw3.out.kq.cell 2 _ rfl; have q3 := Hw3.out.kq.cell 3 _ rfl; have q4 := Hw3.out.kq.cell 4 _ rfl
          have x0 := Hw3.out.kx.cell 0 _ rfl; have x1 := Hw3.out.kx.cell 1 _ rfl
          go_enter Tryz.func7, Tryz.ntmps7
          go_wp2_with fail
          generalize (((w.alloc (.cells #[.string (bs m), .string (bs t), .int .i64 n, .slice A l.length c, .string (bs b)] 25)).alloc (.cells #[.int .i64 c0, .string (bs r), .int .i64 o, .slice A2 l2.length c2, .string (bs b2)] 32)).alloc (.cells #[.string (bs X), .int .u16 (k : Int)] 56)) = w3 at *
          refine (HFR.out _ Hw3.out.fr).mono ?_
          rintro e w4 ⟨rfl, hb⟩
          clear r0 r1 r2 r3 r4 q0 q1 q2 q3 q4 x0 x1
          have Hw4 := Lib.hid (Hw3.out.step hb)
          clear hb Hw3
          have r0 := Hw4.out.kr.cell 0 _ rfl; have r1 := Hw4.out.kr.cell 1 _ rfl; have r2 := Hw4.out.kr.cell 2 _ rfl; have r3 := Hw4.out.kr.cell 3 _ rfl; have r4 := Hw4.out.kr.cell 4 _ rfl
          have q0 := Hw4.out.kq.cell 0 _ rfl; have q1 := Hw4.out.kq.cell 1 _ rfl; have q2 := Hw4.out.kq.cell 2 _ rfl; have q3 := Hw4.out.kq.cell 3 _ rfl; have q4 := Hw4.out.kq.cell 4 _ rfl
          have x0 := Hw4.out.kx.cell 0 _ rfl; have x1 := Hw4.out.kx.cell 1 _ rfl
          go_wp2_with fail
          refine (HFQ.out _ Hw4.out.fq).mono ?_
          rintro e w5 ⟨rfl, hb⟩
          clear r0 r1 r2 r3 r4 q0 q1 q2 q3 q4 x0 x1
          have Hw5 := Lib.hid (Hw4.out.step hb)
          clear hb Hw4
          have r0 := Hw5.out.kr.cell 0 _ rfl; have r1 := Hw5.out.kr.cell 1 _ rfl; have r2 := Hw5.out.kr.cell 2 _ rfl; have r3 := Hw5.out.kr.cell 3 _ rfl; have r4 := Hw5.out.kr.cell 4 _ rfl
          have q0 := Hw5.out.kq.cell 0 _ rfl; have q1 := Hw5.out.kq.cell 1 _ rfl; have q2 := Hw5.out.kq.cell 2 _ rfl; have q3 := Hw5.out.kq.cell 3 _ rfl; have q4 := Hw5.out.kq.cell 4 _ rfl
          have x0 := Hw5.out.kx.cell 0 _ rfl; have x1 := Hw5.out.kx.cell 1 _ rfl
          go_wp2_with fail
          refine (works_any _ (HE.out.bel Hw5.out.bel)).mono ?_
          rintro e wz ⟨rfl, hbz⟩
          have HZ := Lib.hid (Hw5.out.bel.trans (hbz.mono Hw5.out.bel.size))
          clear hbz
          go_wp2_with fail
          go_ret
          exact ⟨by simp, HZ.out⟩
        · by_cases hr : 3000 < r.length
          · clear f1 f2
            have r0 := Hw3.out.kr.cell 0 _ rfl; have r1 := Hw3.out.kr.cell 1 _ rfl; have r2 := Hw3.out.kr.cell 2 _ rfl; have r3 := Hw3.out.kr.cell 3 _ rfl; have r4 := Hw3.out.kr.cell 4 _ rfl
            have q0 := Hw3.out.kq.cell 0 _ rfl; have q1 := Hw3.out.kq.cell 1 _ rfl; have q2 := Hw3.out.kq.cell 2 _ rfl; have q3 := Hw3.out.kq.cell 3 _ rfl; have q4 := Hw3.out.kq.cell 4 _ rfl
            have x0 := Hw3.out.kx.cell 0 _ rfl; have x1 := Hw3.out.kx.cell 1 _ rfl
            go_enter Tryz.func7, Tryz.ntmps7
            go_wp2_with fail
            generalize (((w.alloc (.cells #[.string (bs m), .string (bs t), .int .i64 n, .slice A l.length c, .string (bs b)] 25)).alloc (.cells #[.int .i64 c0, .string (bs r), .int .i64 o, .slice A2 l2.length c2, .string (bs b2)] 32)).alloc (.cells #[.string (bs X), .int .u16 (k : Int)] 56)) = w3 at *
            refine (HFR.out _ Hw3.out.fr).mono ?_
            rintro e w4 ⟨rfl, hb⟩
            clear r0 r1 r2 r3 r4 q0 q1 q2 q3 q4 x0 x1
            have Hw4 := Lib.hid (Hw3.out.step hb)
            clear hb Hw3
            have r0 := Hw4.out.kr.cell 0 _ rfl; have r1 := Hw4.out.kr.cell 1 _ rfl; have r2 := Hw4.out.kr.cell 2 _ rfl; have r3 := Hw4.out.kr.cell 3 _ rfl; have r4 := Hw4.out.kr.cell 4 _ rfl
            have q0 := Hw4.out.kq.cell 0 _ rfl; have q1 := Hw4.out.kq.cell 1 _ rfl; have q2 := Hw4.out.kq.cell 2 _ rfl; have q3 := Hw4.out.kq.cell 3 _ rfl; have q4 := Hw4.out.kq.cell 4 _ rfl
            have x0 := Hw4.out.kx.cell 0 _ rfl; have x1 := Hw4.out.kx.cell 1 _ rfl
            go_wp2_with fail
            refine (HFQ.out _ Hw4.out.fq).mono ?_
            rintro e w5 ⟨rfl, hb⟩
            clear r0 r1 r2 r3 r4 q0 q1 q2 q3 q4 x0 x1
            have Hw5 := Lib.hid (Hw4.out.step hb)
            clear hb Hw4
            have r0 := Hw5.out.kr.cell 0 _ rfl; have r1 := Hw5.out.kr.cell 1 _ rfl; have r2 := Hw5.out.kr.cell 2 _ rfl; have r3 := Hw5.out.kr.cell 3 _ rfl; have r4 := Hw5.out.kr.cell 4 _ rfl
            have q0 := Hw5.out.kq.cell 0 _ rfl; have q1 := Hw5.out.kq.cell 1 _ rfl; have q2 := Hw5.out.kq.cell 2 _ rfl; have q3 := Hw5.out.kq.cell 3 _ rfl; have q4 := Hw5.out.kq.cell 4 _ rfl
            have x0 := Hw5.out.kx.cell 0 _ rfl; have x1 := Hw5.out.kx.cell 1 _ rfl
            go_wp2_with fail
            refine (works_any _ (HE.out.bel Hw5.out.bel)).mono ?_
            rintro e wz ⟨rfl, hbz⟩
            have HZ := Lib.hid (Hw5.out.bel.trans (hbz.mono Hw5.out.bel.size))
            clear hbz
            go_wp2_with fail
            go_ret
            exact ⟨by simp, HZ.out⟩
          · by_cases hX : 3000 < X.length
            · clear f1 f2
              have r0 := Hw3.out.kr.cell 0 _ rfl; have r1 := Hw3.out.kr.cell 1 _ rfl; have r2 := Hw3.out.kr.cell 2 _ rfl; have r3 := Hw3.out.kr.cell 3 _ rfl; have r4 := Hw3.out.kr.cell 4 _ rfl
              have q0 := Hw3.out.kq.cell 0 _ rfl; have q1 := Hw3.out.kq.cell 1 _ rfl; have q2 := Hw3.out.kq.cell 2 _ rfl; have q3 := Hw3.out.kq.cell 3 _ rfl; have q4 := Hw3.out.kq.cell 4 _ rfl
              have x0 := Hw3.out.kx.cell 0 _ rfl; have x1 := Hw3.out.kx.cell 1 _ rfl
              go_enter Tryz.func7, Tryz.ntmps7
              go_wp2_with fail
              generalize (((w.alloc (.cells #[.string (bs m), .string (bs t), .int .i64 n, .slice A l.length c, .string (bs b)] 25)).alloc (.cells #[.int .i64 c0, .string (bs r), .int .i64 o, .slice A2 l2.length c2, .string (bs b2)] 32)).alloc (.cells #[.string (bs X), .int .u16 (k : Int)] 56)) = w3 at *
              refine (HFR.out _ Hw3.out.fr).mono ?_
              rintro e w4 ⟨rfl, hb⟩
              clear r0 r1 r2 r3 r4 q0 q1 q2 q3 q4 x0 x1
              have Hw4 := Lib.hid (Hw3.out.step hb)
              clear hb Hw3
              have r0 := Hw4.out.kr.cell 0 _ rfl; have r1 := Hw4.out.kr.cell 1 _ rfl; have r2 := Hw4.out.kr.cell 2 _ rfl; have r3 := Hw4.out.kr.cell 3 _ rfl; have r4 := Hw4.out.kr.cell 4 _ rfl
              have q0 := Hw4.out.kq.cell 0 _ rfl; have q1 := Hw4.out.kq.cell 1 _ rfl; have q2 := Hw4.out.kq.cell 2 _ rfl; have q3 := Hw4.out.kq.cell 3 _ rfl; have q4 := Hw4.out.kq.cell 4 _ rfl
              have x0 := Hw4.out.kx.cell 0 _ rfl; have x1 := Hw4.out.kx.cell 1 _ rfl
              go_wp2_with fail
              refine (HFQ.out _ Hw4.out.fq).mono ?_
              rintro e w5 ⟨rfl, hb⟩
              clear r0 r1 r2 r3 r4 q0 q1 q2 q3 q4 x0 x1
              have Hw5 := Lib.hid (Hw4.out.step hb)
              clear hb Hw4
              have r0 := Hw5.out.kr.cell 0 _ rfl; have r1 := Hw5.out.kr.cell 1 _ rfl; have r2 := Hw5.out.kr.cell 2 _ rfl; have r3 := Hw5.out.kr.cell 3 _ rfl; have r4 := Hw5.out.kr.cell 4 _ rfl
              have q0 := Hw5.out.kq.cell 0 _ rfl; have q1 := Hw5.out.kq.cell 1 _ rfl; have q2 := Hw5.out.kq.cell 2 _ rfl; have q3 := Hw5.out.kq.cell 3 _ rfl; have q4 := Hw5.out.kq.cell 4 _ rfl
              have x0 := Hw5.out.kx.cell 0 _ rfl; have x1 := Hw5.out.kx.cell 1 _ rfl
              go_wp2_with fail
              refine (works_any _ (HE.out.bel Hw5.out.bel)).mono ?_
              rintro e wz ⟨rfl, hbz⟩
              have HZ := Lib.hid (Hw5.out.bel.trans (hbz.mono Hw5.out.bel.size))
              clear hbz
              go_wp2_with fail
              go_ret
              exact ⟨by simp, HZ.out⟩
            · obtain ⟨g1, g2⟩ := f1 rfl
              obtain ⟨g3, g4⟩ := f2 rfl
              obtain ⟨s1, -, s2⟩ := few_small g1
              obtain ⟨s3, -, s4⟩ := few_small g3
              clear f1 f2 g1 g3
              rcases hP : putQ m t n l b with ⟨S, e⟩
              rcases hP2 : putY c0 r o l2 b2 false with ⟨T, e2⟩
              have HP1 : Hid (∀ W, Below w.heap.size w W → FL W (.slice A l.length c) l → Calls Tryz.prog 18 #[.agg #[.string (bs m), .string (bs t), .int .i64 n, .slice A l.length c, .string (bs b)]] W fun en w' => en = .returned (.tuple #[.string (bs S), .int .i64 e]) ∧ Below W.heap.size W w') :=
                fun W hb hfl => by
                  have h := msgPutQ_any m t b n _ l W (HE.out.bel hb) hfl s2 (by omega) (by omega) (by omega) (by omega)
                  rw [hP] at h
                  exact h
              have HP2 : Hid (∀ W, Below w.heap.size w W → FL W (.slice A2 l2.length c2) l2 → Calls Tryz.prog 20 #[.agg #[.int .i64 c0, .string (bs r), .int .i64 o, .slice A2 l2.length c2, .string (bs b2)], .bool false] W fun en w' => en = .returned (.tuple #[.string (bs T), .int .i64 e2]) ∧ Below W.heap.size W w') :=
                fun W hb hfl => by
                  have h := msgPutY_any c0 o r b2 false _ l2 W (HE.out.bel hb) hfl s4 (by omega) (by omega) (by omega)
                  rw [hP2] at h
                  exact h
              have r0 := Hw3.out.kr.cell 0 _ rfl; have r1 := Hw3.out.kr.cell 1 _ rfl; have r2 := Hw3.out.kr.cell 2 _ rfl; have r3 := Hw3.out.kr.cell 3 _ rfl; have r4 := Hw3.out.kr.cell 4 _ rfl
              have q0 := Hw3.out.kq.cell 0 _ rfl; have q1 := Hw3.out.kq.cell 1 _ rfl; have q2 := Hw3.out.kq.cell 2 _ rfl; have q3 := Hw3.out.kq.cell 3 _ rfl; have q4 := Hw3.out.kq.cell 4 _ rfl
              have x0 := Hw3.out.kx.cell 0 _ rfl; have x1 := Hw3.out.kx.cell 1 _ rfl
              go_enter Tryz.func7, Tryz.ntmps7
              go_wp2_with fail
              generalize (((w.alloc (.cells #[.string (bs m), .string (bs t), .int .i64 n, .slice A l.length c, .string (bs b)] 25)).alloc (.cells #[.int .i64 c0, .string (bs r), .int .i64 o, .slice A2 l2.length c2, .string (bs b2)] 32)).alloc (.cells #[.string (bs X), .int .u16 (k : Int)] 56)) = w3 at *
              refine (HFR.out _ Hw3.out.fr).mono ?_
              rintro e w4 ⟨rfl, hb⟩
              clear r0 r1 r2 r3 r4 q0 q1 q2 q3 q4 x0 x1
              have Hw4 := Lib.hid (Hw3.out.step hb)
              clear hb Hw3
              have r0 := Hw4.out.kr.cell 0 _ rfl; have r1 := Hw4.out.kr.cell 1 _ rfl; have r2 := Hw4.out.kr.cell 2 _ rfl; have r3 := Hw4.out.kr.cell 3 _ rfl; have r4 := Hw4.out.kr.cell 4 _ rfl
              have q0 := Hw4.out.kq.cell 0 _ rfl; have q1 := Hw4.out.kq.cell 1 _ rfl; have q2 := Hw4.out.kq.cell 2 _ rfl; have q3 := Hw4.out.kq.cell 3 _ rfl; have q4 := Hw4.out.kq.cell 4 _ rfl
              have x0 := Hw4.out.kx.cell 0 _ rfl; have x1 := Hw4.out.kx.cell 1 _ rfl
              go_wp2_with fail
              refine (HFQ.out _ Hw4.out.fq).mono ?_
              rintro e w5 ⟨rfl, hb⟩
              clear r0 r1 r2 r3 r4 q0 q1 q2 q3 q4 x0 x1
              have Hw5 := Lib.hid (Hw4.out.step hb)
              clear hb Hw4
              have r0 := Hw5.out.kr.cell 0 _ rfl; have r1 := Hw5.out.kr.cell 1 _ rfl; have r2 := Hw5.out.kr.cell 2 _ rfl; have r3 := Hw5.out.kr.cell 3 _ rfl; have r4 := Hw5.out.kr.cell 4 _ rfl
              have q0 := Hw5.out.kq.cell 0 _ rfl; have q1 := Hw5.out.kq.cell 1 _ rfl; have q2 := Hw5.out.kq.cell 2 _ rfl; have q3 := Hw5.out.kq.cell 3 _ rfl; have q4 := Hw5.out.kq.cell 4 _ rfl
              have x0 := Hw5.out.kx.cell 0 _ rfl; have x1 := Hw5.out.kx.cell 1 _ rfl
              go_wp2_with fail
              refine (HP1.out _ Hw5.out.bel Hw5.out.fr).mono ?_
              rintro en w6 ⟨rfl, hb⟩
              clear r0 r1 r2 r3 r4 q0 q1 q2 q3 q4 x0 x1
              have Hw6 := Lib.hid (Hw5.out.step hb)
              clear hb Hw5
              have r0 := Hw6.out.kr.cell 0 _ rfl; have r1 := Hw6.out.kr.cell 1 _ rfl; have r2 := Hw6.out.kr.cell 2 _ rfl; have r3 := Hw6.out.kr.cell 3 _ rfl; have r4 := Hw6.out.kr.cell 4 _ rfl
              have q0 := Hw6.out.kq.cell 0 _ rfl; have q1 := Hw6.out.kq.cell 1 _ rfl; have q2 := Hw6.out.kq.cell 2 _ rfl; have q3 := Hw6.out.kq.cell 3 _ rfl; have q4 := Hw6.out.kq.cell 4 _ rfl
              have x0 := Hw6.out.kx.cell 0 _ rfl; have x1 := Hw6.out.kx.cell 1 _ rfl
              by_cases he : e = 0
              · subst he
                obtain ⟨b1, b2', b3, b4⟩ := back_ask hP
                have hne : (bs S).toList.isEmpty = false := by rw [Lib.toList_data, bs_data]; cases S; exact absurd rfl b1; rfl
                have hpos : 0 < S.length := by rcases S with _ | ⟨x, y⟩; exact absurd rfl b1; simp
                have HRQ : Hid (∀ W, Below w.heap.size w W → Calls Tryz.prog 11 #[.string (bs S ++ bs X)] W fun en w' => ∃ v, en = .returned (.tuple #[.agg #[.string (bs m), .string (bs t), .int .i64 n, v, .string (bs b)], .int .i64 S.length, .int .i64 0]) ∧ ownF w' W.heap.size v (writL l b.length (tellQ m b)) ∧ Below W.heap.size W w') := fun W hb => by
                  have h := msgRequest_any (S ++ X) W (HE.out.bel hb) (by rw [List.length_append]; omega)
                  unfold RetQ at h
                  rw [(b3 X).1, (b3 X).2.1, (b3 X).2.2.1, (b3 X).2.2.2, ← bs_append] at h
                  exact h
                have HRC : Hid (∀ W, Below w.heap.size w W → ∀ j, j < S.length → Calls Tryz.prog 11 #[.string (bs (S.take j))] W fun en w' => ∃ A c, en = .returned (.tuple #[.agg #[.string ⟨#[]⟩, .string ⟨#[]⟩, .int .i64 0, .slice A 0 c, .string ⟨#[]⟩], .int .i64 0, .int .i64 6]) ∧ Below W.heap.size W w') := fun W hb j hj => by
                  have h := msgRequest_any (S.take j) W (HE.out.bel hb) (by rw [List.length_take]; omega)
                  have hz : (askM (S.take j)).2.2.2 ≠ 0 := by rw [b4 j hj]; decide
                  unfold RetQ mM tM nM at h
                  rw [if_neg hz, if_neg hz, if_neg hz, b4 j hj] at h
                  refine h.mono ?_
                  rintro en w' ⟨v, rfl, ho, hb⟩
                  obtain ⟨A, c, rfl⟩ := ho.form
                  exact ⟨A, c, rfl, hb⟩
                have HPM : Hid (∀ W, FL W (.slice A l.length c) l → Calls Tryz.prog 23 #[.slice A l.length c] W (RetF W (delL l [clN, teN]))) := fun W hW => plain_any _ l W hW s2 (by omega)
                have HPW : Hid (∀ v W, FL W v (writL l b.length (tellQ m b)) → Calls Tryz.prog 23 #[v] W (RetF W (delL l [clN, teN]))) := fun v W hW => by
                  have h := plain_any v (writL l b.length (tellQ m b)) W hW (smallW s2 (by omega)) (Nat.le_trans (writ_len _ _ _) (by omega))
                  rw [plain_writ] at h
                  exact h
                have hDl : (delL l [clN, teN]).length ≤ 4294967296 := Nat.le_trans (List.length_filter_le _ _) (by omega)
                generalize delL l [clN, teN] = D1 at *
                have hmod : k % S.length < S.length := Nat.mod_lt _ hpos
                have hrem : (k : Int).tmod (S.length : Int) = ((k % S.length : Nat) : Int) := by rw [Int.tmod_eq_emod_of_nonneg (by omega)]; rfl
                have HEX : Hid ((bs S).extract 0 (k % S.length) = bs (S.take (k % S.length))) := Lib.hid (ext_upto (by rw [bs_data]) _)
                generalize k % S.length = j at *
                clear b1 b3 b4
                go_wp2_with fail
                refine (HRQ.out _ Hw6.out.bel).mono ?_
                rintro en w7 ⟨v3, rfl, ho, hb⟩
                obtain ⟨A3, c3, rfl⟩ := ho.form
                clear r0 r1 r2 r3 r4 q0 q1 q2 q3 q4 x0 x1
                have Ha := Lib.hid (Hw6.out.step hb)
                have hd : Below w7.heap.size w7 (w7.alloc (.cells #[.string (bs m), .string (bs t), .int .i64 n, .slice A3 (writL l b.length (tellQ m b)).length c3, .string (bs b)] 25)) := (Below.refl _ _).alloc (Nat.le_refl _) _
                have KB := Lib.hid (blk.new w7 #[.string (bs m), .string (bs t), .int .i64 n, .slice A3 (writL l b.length (tellQ m b)).length c3, .string (bs b)] 25)
                have Hw8 := Lib.hid (Ha.out.step hd)
                have HPL : Hid (∀ W, Below (w7.alloc (.cells #[.string (bs m), .string (bs t), .int .i64 n, .slice A3 (writL l b.length (tellQ m b)).length c3, .string (bs b)] 25)).heap.size (w7.alloc (.cells #[.string (bs m), .string (bs t), .int .i64 n, .slice A3 (writL l b.length (tellQ m b)).length c3, .string (bs b)] 25)) W → Calls Tryz.prog 23 #[.slice A3 (writL l b.length (tellQ m b)).length c3] W (RetF W D1)) := fun W hW => HPW.out _ W ((ho.fl.bel hd).bel hW)
                clear hb ho hd Hw6 Ha HPW HRQ
                go_wp2_with fail
                generalize (w7.alloc (.cells #[.string (bs m), .string (bs t), .int .i64 n, .slice A3 (writL l b.length (tellQ m b)).length c3, .string (bs b)] 25)) = w8 at *
                generalize w7.heap.size = g7 at *
                apply wp_meet (fun g A' k' W => blk W g #[.string (bs m), .string (bs t), .int .i64 n, .slice A' D1.length k', .string (bs b)] ∧ FL W (.slice A' D1.length k') D1 ∧ Below w8.heap.size w8 W)
                case h1 =>
                  refine wp_region_growS (.one 0 false (.one 1 false (.one 2 false (.one 3 false (.one 4 false (.one 5 false (.one 6 false (.one 7 false (.one 9 false (.one 10 false (.two 8 12 (.one 11 false (.one 12 true (.one 13 true .done))) (.one 8 true (.one 11 false (.one 13 true .done))))))))))))))
                    (fun W => Below w8.heap.size w8 W) (by kernel_rfl) (by kernel_rfl) rfl (by kernel_rfl) (by kernel_rfl) ((Below.refl _ _).drew) (fun ops hops => ?_)
                  simp only [GT.ins, List.getD_cons_zero, List.getD_cons_succ]
                  clear hops
                  iterate 10
                    refine growS_take (by rfl) ?_
                    apply Exists.intro
                    refine ⟨fun w' hE => ?_, ?_⟩
                    · have y0 := (KB.out.below hE).cell 0 _ rfl; have y1 := (KB.out.below hE).cell 1 _ rfl; have y2 := (KB.out.below hE).cell 2 _ rfl; have y3 := (KB.out.below hE).cell 3 _ rfl; have y4 := (KB.out.below hE).cell 4 _ rfl
                      go_simp
                      try with_reducible rfl
                    simp only [Act.put, List.setIfInBounds_toArray, List.set_cons_zero, List.set_cons_succ]
                  refine growS_two (by rfl) (by rfl) (fun K hK => ?_) (fun K hK => ?_)
                  · go_simp
                    refine (HPL.out _ ((Below.refl _ _).drew)).mono ?_
                    rintro en z2 ⟨v2, rfl, ho2, hb2⟩
                    obtain ⟨Az, kz, rfl⟩ := ho2.form
                    have hE2 : Below w8.heap.size w8 z2 := ((Below.refl _ _).drew : Below w8.heap.size w8 w8.drew).trans hb2
                    refine hK.out _ _ hE2 ?_
                    have HF2 := Lib.hid ho2.fl; have HE2 := Lib.hid hE2
                    clear hK K ho2 hb2 hE2
                    iterate 1
                      refine growS_take (by rfl) ?_
                      apply Exists.intro
                      refine ⟨fun w' hE => ?_, ?_⟩
                      · have y0 := (KB.out.below hE).cell 0 _ rfl; have y1 := (KB.out.below hE).cell 1 _ rfl; have y2 := (KB.out.below hE).cell 2 _ rfl; have y3 := (KB.out.below hE).cell 3 _ rfl; have y4 := (KB.out.below hE).cell 4 _ rfl
                        go_simp
                        try with_reducible rfl
                      simp only [Act.put, List.setIfInBounds_toArray, List.set_cons_zero, List.set_cons_succ]
                    refine growS_call (by rfl) (fun K hK => ?_)
                    go_simp
                    have hd3 : Below z2.heap.size z2 (z2.alloc (.cells #[.string ⟨#[]⟩, .string ⟨#[]⟩, .int .i64 0, .slice none 0 0, .string ⟨#[]⟩] 25)) := (Below.refl _ _).alloc (Nat.le_refl _) _
                    have hz3 := blk.new z2 #[.string ⟨#[]⟩, .string ⟨#[]⟩, .int .i64 0, .slice none 0 0, .string ⟨#[]⟩] 25
                    have hE3 := HE2.out.trans (hd3.mono HE2.out.size)
                    refine hK.out _ _ hE3 ?_
                    have HF4 := Lib.hid (HF2.out.bel (put5_below hd3 (Nat.le_refl _) (.string (bs m)) (.string (bs t)) (.int .i64 n) (.slice Az D1.length kz) (.string (bs b)))); have HE3 := Lib.hid hE3; have HLT := Lib.hid HE2.out.size
                    clear hK K hd3 hE3 HF2 HE2
                    generalize z2.alloc (.cells #[.string ⟨#[]⟩, .string ⟨#[]⟩, .int .i64 0, .slice none 0 0, .string ⟨#[]⟩] 25) = z3 at *
                    generalize z2.heap.size = g at *
                    obtain ⟨⟨s0, j0⟩, ⟨s1, j1⟩, ⟨s2, j2⟩, ⟨s3, j3⟩, ⟨s4, j4⟩⟩ := hz3.asks5 (.string (bs m)) (.string (bs t)) (.int .i64 n) (.slice Az D1.length kz)
                    refine growS_call (by rfl) (fun K hK => ?_)
                    go_simp
                    have hE4 := put5_below HE3.out HLT.out (.string (bs m)) (.string (bs t)) (.int .i64 n) (.slice Az D1.length kz) (.string (bs b))
                    refine hK.out _ _ hE4 ?_
                    have hz4 := hz3.put5 (.string (bs m)) (.string (bs t)) (.int .i64 n) (.slice Az D1.length kz) (.string (bs b))
                    clear hK K
                    refine growS_done (NoPanic.normal ?_)
                    exact ⟨g, Az, kz, rfl, rfl, hz4, HF4.out, hE4⟩
                  · go_simp
                    have hd1 : Below w8.heap.size w8 (w8.alloc (.cells #[.string ⟨#[]⟩, .string ⟨#[]⟩, .int .i64 0, .slice none 0 0, .string ⟨#[]⟩] 25)).drew := ((Below.refl _ _).alloc (Nat.le_refl _) _).drew
                    have hz1 := (blk.new w8 #[.string ⟨#[]⟩, .string ⟨#[]⟩, .int .i64 0, .slice none 0 0, .string ⟨#[]⟩] 25).below ((Below.refl _ _).drew)
                    have hsz : (w8.alloc (.cells #[.string ⟨#[]⟩, .string ⟨#[]⟩, .int .i64 0, .slice none 0 0, .string ⟨#[]⟩] 25)).drew.heap.size = w8.heap.size + 1 := by simp
                    refine hK.out _ _ hd1 ?_
                    have HD1 := Lib.hid hd1; have HZ1 := Lib.hid hz1; have HSZ := Lib.hid hsz
                    clear hK K hd1 hz1 hsz
                    generalize (w8.alloc (.cells #[.string ⟨#[]⟩, .string ⟨#[]⟩, .int .i64 0, .slice none 0 0, .string ⟨#[]⟩] 25)).drew = z1 at *
                    refine growS_call (by rfl) (fun K hK => ?_)
                    go_simp
                    refine (HPL.out _ HD1.out).mono ?_
                    rintro en z2 ⟨v2, rfl, ho2, hb2⟩
                    obtain ⟨Az, kz, rfl⟩ := ho2.form
                    have hE2 : Below w8.heap.size w8 z2 := HD1.out.trans (hb2.mono HD1.out.size)
                    refine hK.out _ _ hE2 ?_
                    have HO2 := Lib.hid ho2; have HE2 := Lib.hid hE2; have HZ2 := Lib.hid (HZ1.out.below hb2)
                    clear hK K ho2 hb2 hE2
                    iterate 1
                      refine growS_take (by rfl) ?_
                      apply Exists.intro
                      refine ⟨fun w' hE => ?_, ?_⟩
                      · have y0 := (KB.out.below hE).cell 0 _ rfl; have y1 := (KB.out.below hE).cell 1 _ rfl; have y2 := (KB.out.below hE).cell 2 _ rfl; have y3 := (KB.out.below hE).cell 3 _ rfl; have y4 := (KB.out.below hE).cell 4 _ rfl
                        go_simp
                        try with_reducible rfl
                      simp only [Act.put, List.setIfInBounds_toArray, List.set_cons_zero, List.set_cons_succ]
                    have hlt := Lib.hid (show w8.heap.size < z1.heap.size by have := HSZ.out; omega)
                    have HF4 := Lib.hid ((HO2.out.far hlt.out (put5_grown z2 w8.heap.size (.string (bs m)) (.string (bs t)) (.int .i64 n) (.slice Az D1.length kz) (.string (bs b)))).fl)
                    have HE4 := Lib.hid (put5_below HE2.out (Nat.le_refl _) (.string (bs m)) (.string (bs t)) (.int .i64 n) (.slice Az D1.length kz) (.string (bs b)))
                    generalize w8.heap.size = g at *
                    obtain ⟨⟨s0, j0⟩, ⟨s1, j1⟩, ⟨s2, j2⟩, ⟨s3, j3⟩, ⟨s4, j4⟩⟩ := HZ2.out.asks5 (.string (bs m)) (.string (bs t)) (.int .i64 n) (.slice Az D1.length kz)
                    refine growS_call (by rfl) (fun K hK => ?_)
                    go_simp
                    refine hK.out _ _ HE4.out ?_
                    have hz4 := HZ2.out.put5 (.string (bs m)) (.string (bs t)) (.int .i64 n) (.slice Az D1.length kz) (.string (bs b))
                    clear hK K
                    refine growS_done (NoPanic.normal ?_)
                    exact ⟨g, Az, kz, rfl, rfl, hz4, HF4.out, HE4.out⟩
                case h2 =>
                  rintro g9 A9 k9 w9 ⟨hg1, hg2, hg3⟩
                  have Hw9 := Lib.hid (Hw8.out.step hg3)
                  have HG := Lib.hid hg1; have HGF := Lib.hid hg2
                  clear hg1 hg2 hg3 HPL KB Hw8
                  go_wp2_with fail
                  have HPN : Hid (∀ W, Below w9.heap.size w9 W → Calls Tryz.prog 23 #[.slice A l.length c] W (RetF W D1)) := fun W hW => HPM.out W (Hw9.out.fr.bel hW)
                  have KR := Lib.hid Hw9.out.kr
                  apply wp_meet (fun g A' k' W => blk W g #[.string (bs m), .string (bs t), .int .i64 n, .slice A' D1.length k', .string (bs b)] ∧ FL W (.slice A' D1.length k') D1 ∧ Below w9.heap.size w9 W)
                  case h1 =>
                    refine wp_region_growS (.one 0 false (.one 1 false (.one 2 false (.one 3 false (.one 4 false (.one 5 false (.one 6 false (.one 7 false (.one 9 false (.one 10 false (.two 8 12 (.one 11 false (.one 12 true (.one 13 true .done))) (.one 8 true (.one 11 false (.one 13 true .done))))))))))))))
                      (fun W => Below w9.heap.size w9 W) (by kernel_rfl) (by kernel_rfl) rfl (by kernel_rfl) (by kernel_rfl) ((Below.refl _ _).drew) (fun ops hops => ?_)
                    simp only [GT.ins, List.getD_cons_zero, List.getD_cons_succ]
                    clear hops
                    iterate 10
                      refine growS_take (by rfl) ?_
                      apply Exists.intro
                      refine ⟨fun w' hE => ?_, ?_⟩
                      · have y0 := (KR.out.below hE).cell 0 _ rfl; have y1 := (KR.out.below hE).cell 1 _ rfl; have y2 := (KR.out.below hE).cell 2 _ rfl; have y3 := (KR.out.below hE).cell 3 _ rfl; have y4 := (KR.out.below hE).cell 4 _ rfl
                        go_simp
                        try with_reducible rfl
                      simp only [Act.put, List.setIfInBounds_toArray, List.set_cons_zero, List.set_cons_succ]
                    refine growS_two (by rfl) (by rfl) (fun K hK => ?_) (fun K hK => ?_)
                    · go_simp
                      refine (HPN.out _ ((Below.refl _ _).drew)).mono ?_
                      rintro en z2 ⟨v2, rfl, ho2, hb2⟩
                      obtain ⟨Az, kz, rfl⟩ := ho2.form
                      have hE2 : Below w9.heap.size w9 z2 := ((Below.refl _ _).drew : Below w9.heap.size w9 w9.drew).trans hb2
                      refine hK.out _ _ hE2 ?_
                      have HF2 := Lib.hid ho2.fl; have HE2 := Lib.hid hE2
                      clear hK K ho2 hb2 hE2
                      iterate 1
                        refine growS_take (by rfl) ?_
                        apply Exists.intro
                        refine ⟨fun w' hE => ?_, ?_⟩
                        · have y0 := (KR.out.below hE).cell 0 _ rfl; have y1 := (KR.out.below hE).cell 1 _ rfl; have y2 := (KR.out.below hE).cell 2 _ rfl; have y3 := (KR.out.below hE).cell 3 _ rfl; have y4 := (KR.out.below hE).cell 4 _ rfl
                          go_simp
                          try with_reducible rfl
                        simp only [Act.put, List.setIfInBounds_toArray, List.set_cons_zero, List.set_cons_succ]
                      refine growS_call (by rfl) (fun K hK => ?_)
                      go_simp
                      have hd3 : Below z2.heap.size z2 (z2.alloc (.cells #[.string ⟨#[]⟩, .string ⟨#[]⟩, .int .i64 0, .slice none 0 0, .string ⟨#[]⟩] 25)) := (Below.refl _ _).alloc (Nat.le_refl _) _
                      have hz3 := blk.new z2 #[.string ⟨#[]⟩, .string ⟨#[]⟩, .int .i64 0, .slice none 0 0, .string ⟨#[]⟩] 25
                      have hE3 := HE2.out.trans (hd3.mono HE2.out.size)
                      refine hK.out _ _ hE3 ?_
                      have HF4 := Lib.hid (HF2.out.bel (put5_below hd3 (Nat.le_refl _) (.string (bs m)) (.string (bs t)) (.int .i64 n) (.slice Az D1.length kz) (.string (bs b)))); have HE3 := Lib.hid hE3; have HLT := Lib.hid HE2.out.size
                      clear hK K hd3 hE3 HF2 HE2
                      generalize z2.alloc (.cells #[.string ⟨#[]⟩, .string ⟨#[]⟩, .int .i64 0, .slice none 0 0, .string ⟨#[]⟩] 25) = z3 at *
                      generalize z2.heap.size = g at *
                      obtain ⟨⟨s0, j0⟩, ⟨s1, j1⟩, ⟨s2, j2⟩, ⟨s3, j3⟩, ⟨s4, j4⟩⟩ := hz3.asks5 (.string (bs m)) (.string (bs t)) (.int .i64 n) (.slice Az D1.length kz)
                      refine growS_call (by rfl) (fun K hK => ?_)
                      go_simp
                      have hE4 := put5_below HE3.out HLT.out (.string (bs m)) (.string (bs t)) (.int .i64 n) (.slice Az D1.length kz) (.string (bs b))
                      refine hK.out _ _ hE4 ?_
                      have hz4 := hz3.put5 (.string (bs m)) (.string (bs t)) (.int .i64 n) (.slice Az D1.length kz) (.string (bs b))
                      clear hK K
                      refine growS_done (NoPanic.normal ?_)
                      exact ⟨g, Az, kz, rfl, rfl, hz4, HF4.out, hE4⟩
                    · go_simp
                      have hd1 : Below w9.heap.size w9 (w9.alloc (.cells #[.string ⟨#[]⟩, .string ⟨#[]⟩, .int .i64 0, .slice none 0 0, .string ⟨#[]⟩] 25)).drew := ((Below.refl _ _).alloc (Nat.le_refl _) _).drew
                      have hz1 := (blk.new w9 #[.string ⟨#[]⟩, .string ⟨#[]⟩, .int .i64 0, .slice none 0 0, .string ⟨#[]⟩] 25).below ((Below.refl _ _).drew)
                      have hsz : (w9.alloc (.cells #[.string ⟨#[]⟩, .string ⟨#[]⟩, .int .i64 0, .slice none 0 0, .string ⟨#[]⟩] 25)).drew.heap.size = w9.heap.size + 1 := by simp
                      refine hK.out _ _ hd1 ?_
                      have HD1 := Lib.hid hd1; have HZ1 := Lib.hid hz1; have HSZ := Lib.hid hsz
                      clear hK K hd1 hz1 hsz
                      generalize (w9.alloc (.cells #[.string ⟨#[]⟩, .string ⟨#[]⟩, .int .i64 0, .slice none 0 0, .string ⟨#[]⟩] 25)).drew = z1 at *
                      refine growS_call (by rfl) (fun K hK => ?_)
                      go_simp
                      refine (HPN.out _ HD1.out).mono ?_
                      rintro en z2 ⟨v2, rfl, ho2, hb2⟩
                      obtain ⟨Az, kz, rfl⟩ := ho2.form
                      have hE2 : Below w9.heap.size w9 z2 := HD1.out.trans (hb2.mono HD1.out.size)
                      refine hK.out _ _ hE2 ?_
                      have HO2 := Lib.hid ho2; have HE2 := Lib.hid hE2; have HZ2 := Lib.hid (HZ1.out.below hb2)
                      clear hK K ho2 hb2 hE2
                      iterate 1
                        refine growS_take (by rfl) ?_
                        apply Exists.intro
                        refine ⟨fun w' hE => ?_, ?_⟩
                        · have y0 := (KR.out.below hE).cell 0 _ rfl; have y1 := (KR.out.below hE).cell 1 _ rfl; have y2 := (KR.out.below hE).cell 2 _ rfl; have y3 := (KR.out.below hE).cell 3 _ rfl; have y4 := (KR.out.below hE).cell 4 _ rfl
                          go_simp
                          try with_reducible rfl
                        simp only [Act.put, List.setIfInBounds_toArray, List.set_cons_zero, List.set_cons_succ]
                      have hlt := Lib.hid (show w9.heap.size < z1.heap.size by have := HSZ.out; omega)
                      have HF4 := Lib.hid ((HO2.out.far hlt.out (put5_grown z2 w9.heap.size (.string (bs m)) (.string (bs t)) (.int .i64 n) (.slice Az D1.length kz) (.string (bs b)))).fl)
                      have HE4 := Lib.hid (put5_below HE2.out (Nat.le_refl _) (.string (bs m)) (.string (bs t)) (.int .i64 n) (.slice Az D1.length kz) (.string (bs b)))
                      generalize w9.heap.size = g at *
                      obtain ⟨⟨s0, j0⟩, ⟨s1, j1⟩, ⟨s2, j2⟩, ⟨s3, j3⟩, ⟨s4, j4⟩⟩ := HZ2.out.asks5 (.string (bs m)) (.string (bs t)) (.int .i64 n) (.slice Az D1.length kz)
                      refine growS_call (by rfl) (fun K hK => ?_)
                      go_simp
                      refine hK.out _ _ HE4.out ?_
                      have hz4 := HZ2.out.put5 (.string (bs m)) (.string (bs t)) (.int .i64 n) (.slice Az D1.length kz) (.string (bs b))
                      clear hK K
                      refine growS_done (NoPanic.normal ?_)
                      exact ⟨g, Az, kz, rfl, rfl, hz4, HF4.out, HE4.out⟩
                  case h2 =>
                    rintro g10 A10 k10 w10 ⟨hg1, hg2, hg3⟩
                    have Hw10 := Lib.hid (Hw9.out.step hg3)
                    have HG2 := Lib.hid (HG.out.below hg3); have HGF2 := Lib.hid (HGF.out.bel hg3)
                    have HJ := Lib.hid hg1; have HJF := Lib.hid hg2
                    clear hg1 hg2 hg3 HPN KR Hw9 HG HGF HPM
                    have r0 := Hw10.out.kr.cell 0 _ rfl; have r1 := Hw10.out.kr.cell 1 _ rfl; have r2 := Hw10.out.kr.cell 2 _ rfl; have r3 := Hw10.out.kr.cell 3 _ rfl; have r4 := Hw10.out.kr.cell 4 _ rfl
                    have q0 := Hw10.out.kq.cell 0 _ rfl; have q1 := Hw10.out.kq.cell 1 _ rfl; have q2 := Hw10.out.kq.cell 2 _ rfl; have q3 := Hw10.out.kq.cell 3 _ rfl; have q4 := Hw10.out.kq.cell 4 _ rfl
                    have x0 := Hw10.out.kx.cell 0 _ rfl; have x1 := Hw10.out.kx.cell 1 _ rfl
                    go_wp2_with fail
                    rw [HEX.out]
                    refine (HRC.out _ Hw10.out.bel j hmod).mono ?_
                    rintro en w11 ⟨A5, c5, rfl, hb⟩
                    have hb2 := hb.trans (((Below.refl _ _).alloc (Nat.le_refl _) _ : Below w11.heap.size w11 (w11.alloc (.cells #[.string ⟨#[]⟩, .string ⟨#[]⟩, .int .i64 0, .slice A5 0 c5, .string ⟨#[]⟩] 25))).mono hb.size)
                    clear r0 r1 r2 r3 r4 q0 q1 q2 q3 q4 x0 x1
                    have Hw12 := Lib.hid (Hw10.out.step hb2)
                    have HG3 := Lib.hid (HG2.out.below hb2); have HGF3 := Lib.hid (HGF2.out.bel hb2)
                    have HJ3 := Lib.hid (HJ.out.below hb2); have HJF3 := Lib.hid (HJF.out.bel hb2)
                    clear hb hb2 Hw10 HG2 HGF2 HJ HJF HRC HEX
                    have p0 := HG3.out.cell 0 _ rfl; have p1 := HG3.out.cell 1 _ rfl; have p2 := HG3.out.cell 2 _ rfl; have p3 := HG3.out.cell 3 _ rfl; have p4 := HG3.out.cell 4 _ rfl
                    have o0 := HJ3.out.cell 0 _ rfl; have o1 := HJ3.out.cell 1 _ rfl; have o2 := HJ3.out.cell 2 _ rfl; have o3 := HJ3.out.cell 3 _ rfl; have o4 := HJ3.out.cell 4 _ rfl
                    go_wp2_with fail
                    generalize (w11.alloc (.cells #[.string ⟨#[]⟩, .string ⟨#[]⟩, .int .i64 0, .slice A5 0 c5, .string ⟨#[]⟩] 25)) = w12 at *
                    refine (sameQ_any m t b n _ _ D1 _ HGF3.out HJF3.out hDl).mono ?_
                    rintro en w13 ⟨rfl, hb⟩
                    clear p0 p1 p2 p3 p4 o0 o1 o2 o3 o4 HG3 HGF3 HJ3 HJF3 hDl hmod hrem
                    have Hw13 := Lib.hid (Hw12.out.step hb)
                    clear hb Hw12
                    have r0 := Hw13.out.kr.cell 0 _ rfl; have r1 := Hw13.out.kr.cell 1 _ rfl; have r2 := Hw13.out.kr.cell 2 _ rfl; have r3 := Hw13.out.kr.cell 3 _ rfl; have r4 := Hw13.out.kr.cell 4 _ rfl
                    have q0 := Hw13.out.kq.cell 0 _ rfl; have q1 := Hw13.out.kq.cell 1 _ rfl; have q2 := Hw13.out.kq.cell 2 _ rfl; have q3 := Hw13.out.kq.cell 3 _ rfl; have q4 := Hw13.out.kq.cell 4 _ rfl
                    have x0 := Hw13.out.kx.cell 0 _ rfl; have x1 := Hw13.out.kx.cell 1 _ rfl
                    go_wp2_with fail
                    refine (HP2.out _ Hw13.out.bel Hw13.out.fq).mono ?_
                    rintro en w14 ⟨rfl, hb⟩
                    clear r0 r1 r2 r3 r4 q0 q1 q2 q3 q4 x0 x1
                    have Hw14 := Lib.hid (Hw13.out.step hb)
                    clear hb Hw13
                    have r0 := Hw14.out.kr.cell 0 _ rfl; have r1 := Hw14.out.kr.cell 1 _ rfl; have r2 := Hw14.out.kr.cell 2 _ rfl; have r3 := Hw14.out.kr.cell 3 _ rfl; have r4 := Hw14.out.kr.cell 4 _ rfl
                    have q0 := Hw14.out.kq.cell 0 _ rfl; have q1 := Hw14.out.kq.cell 1 _ rfl; have q2 := Hw14.out.kq.cell 2 _ rfl; have q3 := Hw14.out.kq.cell 3 _ rfl; have q4 := Hw14.out.kq.cell 4 _ rfl
                    have x0 := Hw14.out.kx.cell 0 _ rfl; have x1 := Hw14.out.kx.cell 1 _ rfl
                    by_cases h2 : e2 = 0
                    · subst h2
                      obtain ⟨b1, b2', b3, b4⟩ := back_tell hP2
                      have hne : (bs T).toList.isEmpty = false := by rw [Lib.toList_data, bs_data]; cases T; exact absurd rfl b1; rfl
                      have hpos : 0 < T.length := by rcases T with _ | ⟨x, y⟩; exact absurd rfl b1; simp
                      have HRQ : Hid (∀ W, Below w.heap.size w W → Calls Tryz.prog 13 #[.string (bs T ++ bs X), .bool false] W fun en w' => ∃ v, en = .returned (.tuple #[.agg #[.int .i64 c0, .string (bs r), .int .i64 o, v, .string (bs b2)], .int .i64 T.length, .int .i64 0]) ∧ ownF w' W.heap.size v (writL l2 b2.length (!bareB c0)) ∧ Below W.heap.size W w') := fun W hb => by
                        have h := msgReply_any (T ++ X) false W (HE.out.bel hb) (by rw [List.length_append]; omega)
                        unfold RetY at h
                        rw [(b3 X).1, (b3 X).2.1, (b3 X).2.2.1, (b3 X).2.2.2, ← bs_append] at h
                        exact h
                      have HRC : Hid (∀ W, Below w.heap.size w W → ∀ j, j < T.length → Calls Tryz.prog 13 #[.string (bs (T.take j)), .bool false] W fun en w' => ∃ A c, en = .returned (.tuple #[.agg #[.int .i64 0, .string ⟨#[]⟩, .int .i64 0, .slice A 0 c, .string ⟨#[]⟩], .int .i64 0, .int .i64 6]) ∧ Below W.heap.size W w') := fun W hb j hj => by
                        have h := msgReply_any (T.take j) false W (HE.out.bel hb) (by rw [List.length_take]; omega)
                        have hz : (tellM (T.take j) false).2.2.2 ≠ 0 := by rw [b4 j hj]; decide
                        unfold RetY cM rM oM at h
                        rw [if_neg hz, if_neg hz, if_neg hz, b4 j hj] at h
                        refine h.mono ?_
                        rintro en w' ⟨v, rfl, ho, hb⟩
                        obtain ⟨A, c, rfl⟩ := ho.form
                        exact ⟨A, c, rfl, hb⟩
                      have HPM : Hid (∀ W, FL W (.slice A2 l2.length c2) l2 → Calls Tryz.prog 23 #[.slice A2 l2.length c2] W (RetF W (delL l2 [clN, teN]))) := fun W hW => plain_any _ l2 W hW s4 (by omega)
                      have HPW : Hid (∀ v W, FL W v (writL l2 b2.length (!bareB c0)) → Calls Tryz.prog 23 #[v] W (RetF W (delL l2 [clN, teN]))) := fun v W hW => by
                        have h := plain_any v (writL l2 b2.length (!bareB c0)) W hW (smallW s4 (by omega)) (Nat.le_trans (writ_len _ _ _) (by omega))
                        rw [plain_writ] at h
                        exact h
                      have hDl : (delL l2 [clN, teN]).length ≤ 4294967296 := Nat.le_trans (List.length_filter_le _ _) (by omega)
                      generalize delL l2 [clN, teN] = D2 at *
                      have hmod : k % T.length < T.length := Nat.mod_lt _ hpos
                      have hrem : (k : Int).tmod (T.length : Int) = ((k % T.length : Nat) : Int) := by rw [Int.tmod_eq_emod_of_nonneg (by omega)]; rfl
                      have HEX : Hid ((bs T).extract 0 (k % T.length) = bs (T.take (k % T.length))) := Lib.hid (ext_upto (by rw [bs_data]) _)
                      generalize k % T.length = j at *
                      clear b1 b3 b4
                      go_wp2_with fail
                      refine (HRQ.out _ Hw14.out.bel).mono ?_
                      rintro en w15 ⟨v3, rfl, ho, hb⟩
                      obtain ⟨A3, c3, rfl⟩ := ho.form
                      clear r0 r1 r2 r3 r4 q0 q1 q2 q3 q4 x0 x1
                      have Ha := Lib.hid (Hw14.out.step hb)
                      have hd : Below w15.heap.size w15 (w15.alloc (.cells #[.int .i64 c0, .string (bs r), .int .i64 o, .slice A3 (writL l2 b2.length (!bareB c0)).length c3, .string (bs b2)] 32)) := (Below.refl _ _).alloc (Nat.le_refl _) _
                      have KB := Lib.hid (blk.new w15 #[.int .i64 c0, .string (bs r), .int .i64 o, .slice A3 (writL l2 b2.length (!bareB c0)).length c3, .string (bs b2)] 32)
                      have Hw16 := Lib.hid (Ha.out.step hd)
                      have HPL : Hid (∀ W, Below (w15.alloc (.cells #[.int .i64 c0, .string (bs r), .int .i64 o, .slice A3 (writL l2 b2.length (!bareB c0)).length c3, .string (bs b2)] 32)).heap.size (w15.alloc (.cells #[.int .i64 c0, .string (bs r), .int .i64 o, .slice A3 (writL l2 b2.length (!bareB c0)).length c3, .string (bs b2)] 32)) W → Calls Tryz.prog 23 #[.slice A3 (writL l2 b2.length (!bareB c0)).length c3] W (RetF W D2)) := fun W hW => HPW.out _ W ((ho.fl.bel hd).bel hW)
                      clear hb ho hd Hw14 Ha HPW HRQ
                      go_wp2_with fail
                      generalize (w15.alloc (.cells #[.int .i64 c0, .string (bs r), .int .i64 o, .slice A3 (writL l2 b2.length (!bareB c0)).length c3, .string (bs b2)] 32)) = w16 at *
                      generalize w15.heap.size = g15 at *
                      apply wp_meet (fun g A' k' W => blk W g #[.int .i64 c0, .string (bs r), .int .i64 o, .slice A' D2.length k', .string (bs b2)] ∧ FL W (.slice A' D2.length k') D2 ∧ Below w16.heap.size w16 W)
                      case h1 =>
                        refine wp_region_growS (.one 0 false (.one 1 false (.one 2 false (.one 3 false (.one 4 false (.one 5 false (.one 6 false (.one 7 false (.one 9 false (.one 10 false (.two 8 12 (.one 11 false (.one 12 true (.one 13 true .done))) (.one 8 true (.one 11 false (.one 13 true .done))))))))))))))
                          (fun W => Below w16.heap.size w16 W) (by kernel_rfl) (by kernel_rfl) rfl (by kernel_rfl) (by kernel_rfl) ((Below.refl _ _).drew) (fun ops hops => ?_)
                        simp only [GT.ins, List.getD_cons_zero, List.getD_cons_succ]
                        clear hops
                        iterate 10
                          refine growS_take (by rfl) ?_
                          apply Exists.intro
                          refine ⟨fun w' hE => ?_, ?_⟩
                          · have y0 := (KB.out.below hE).cell 0 _ rfl; have y1 := (KB.out.below hE).cell 1 _ rfl; have y2 := (KB.out.below hE).cell 2 _ rfl; have y3 := (KB.out.below hE).cell 3 _ rfl; have y4 := (KB.out.below hE).cell 4 _ rfl
                            go_simp
                            try with_reducible rfl
                          simp only [Act.put, List.setIfInBounds_toArray, List.set_cons_zero, List.set_cons_succ]
                        refine growS_two (by rfl) (by rfl) (fun K hK => ?_) (fun K hK => ?_)
                        · go_simp
                          refine (HPL.out _ ((Below.refl _ _).drew)).mono ?_
                          rintro en z2 ⟨v2, rfl, ho2, hb2⟩
                          obtain ⟨Az, kz, rfl⟩ := ho2.form
                          have hE2 : Below w16.heap.size w16 z2 := ((Below.refl _ _).drew : Below w16.heap.size w16 w16.drew).trans hb2
                          refine hK.out _ _ hE2 ?_
                          have HF2 := Lib.hid ho2.fl; have HE2 := Lib.hid hE2
                          clear hK K ho2 hb2 hE2
                          iterate 1
                            refine growS_take (by rfl) ?_
                            apply Exists.intro
                            refine ⟨fun w' hE => ?_, ?_⟩
                            · have y0 := (KB.out.below hE).cell 0 _ rfl; have y1 := (KB.out.below hE).cell 1 _ rfl; have y2 := (KB.out.below hE).cell 2 _ rfl; have y3 := (KB.out.below hE).cell 3 _ rfl; have y4 := (KB.out.below hE).cell 4 _ rfl
                              go_simp
                              try with_reducible rfl
                            simp only [Act.put, List.setIfInBounds_toArray, List.set_cons_zero, List.set_cons_succ]
                          refine growS_call (by rfl) (fun K hK => ?_)
                          go_simp
                          have hd3 : Below z2.heap.size z2 (z2.alloc (.cells #[.int .i64 0, .string ⟨#[]⟩, .int .i64 0, .slice none 0 0, .string ⟨#[]⟩] 32)) := (Below.refl _ _).alloc (Nat.le_refl _) _
                          have hz3 := blk.new z2 #[.int .i64 0, .string ⟨#[]⟩, .int .i64 0, .slice none 0 0, .string ⟨#[]⟩] 32
                          have hE3 := HE2.out.trans (hd3.mono HE2.out.size)
                          refine hK.out _ _ hE3 ?_
                          have HF4 := Lib.hid (HF2.out.bel (put5_below hd3 (Nat.le_refl _) (.int .i64 c0) (.string (bs r)) (.int .i64 o) (.slice Az D2.length kz) (.string (bs b2)))); have HE3 := Lib.hid hE3; have HLT := Lib.hid HE2.out.size
                          clear hK K hd3 hE3 HF2 HE2
                          generalize z2.alloc (.cells #[.int .i64 0, .string ⟨#[]⟩, .int .i64 0, .slice none 0 0, .string ⟨#[]⟩] 32) = z3 at *
                          generalize z2.heap.size = g at *
                          obtain ⟨⟨s0, j0⟩, ⟨s1, j1⟩, ⟨s2, j2⟩, ⟨s3, j3⟩, ⟨s4, j4⟩⟩ := hz3.asks5 (.int .i64 c0) (.string (bs r)) (.int .i64 o) (.slice Az D2.length kz)
                          refine growS_call (by rfl) (fun K hK => ?_)
                          go_simp
                          have hE4 := put5_below HE3.out HLT.out (.int .i64 c0) (.string (bs r)) (.int .i64 o) (.slice Az D2.length kz) (.string (bs b2))
                          refine hK.out _ _ hE4 ?_
                          have hz4 := hz3.put5 (.int .i64 c0) (.string (bs r)) (.int .i64 o) (.slice Az D2.length kz) (.string (bs b2))
                          clear hK K
                          refine growS_done (NoPanic.normal ?_)
                          exact ⟨g, Az, kz, rfl, rfl, hz4, HF4.out, hE4⟩
                        · go_simp
                          have hd1 : Below w16.heap.size w16 (w16.alloc (.cells #[.int .i64 0, .string ⟨#[]⟩, .int .i64 0, .slice none 0 0, .string ⟨#[]⟩] 32)).drew := ((Below.refl _ _).alloc (Nat.le_refl _) _).drew
                          have hz1 := (blk.new w16 #[.int .i64 0, .string ⟨#[]⟩, .int .i64 0, .slice none 0 0, .string ⟨#[]⟩] 32).below ((Below.refl _ _).drew)
                          have hsz : (w16.alloc (.cells #[.int .i64 0, .string ⟨#[]⟩, .int .i64 0, .slice none 0 0, .string ⟨#[]⟩] 32)).drew.heap.size = w16.heap.size + 1 := by simp
                          refine hK.out _ _ hd1 ?_
                          have HD1 := Lib.hid hd1; have HZ1 := Lib.hid hz1; have HSZ := Lib.hid hsz
                          clear hK K hd1 hz1 hsz
                          generalize (w16.alloc (.cells #[.int .i64 0, .string ⟨#[]⟩, .int .i64 0, .slice none 0 0, .string ⟨#[]⟩] 32)).drew = z1 at *
                          refine growS_call (by rfl) (fun K hK => ?_)
                          go_simp
                          refine (HPL.out _ HD1.out).mono ?_
                          rintro en z2 ⟨v2, rfl, ho2, hb2⟩
                          obtain ⟨Az, kz, rfl⟩ := ho2.form
                          have hE2 : Below w16.heap.size w16 z2 := HD1.out.trans (hb2.mono HD1.out.size)
                          refine hK.out _ _ hE2 ?_
                          have HO2 := Lib.hid ho2; have HE2 := Lib.hid hE2; have HZ2 := Lib.hid (HZ1.out.below hb2)
                          clear hK K ho2 hb2 hE2
                          iterate 1
                            refine growS_take (by rfl) ?_
                            apply Exists.intro
                            refine ⟨fun w' hE => ?_, ?_⟩
                            · have y0 := (KB.out.below hE).cell 0 _ rfl; have y1 := (KB.out.below hE).cell 1 _ rfl; have y2 := (KB.out.below hE).cell 2 _ rfl; have y3 := (KB.out.below hE).cell 3 _ rfl; have y4 := (KB.out.below hE).cell 4 _ rfl
                              go_simp
                              try with_reducible rfl
                            simp only [Act.put, List.setIfInBounds_toArray, List.set_cons_zero, List.set_cons_succ]
                          have hlt := Lib.hid (show w16.heap.size < z1.heap.size by have := HSZ.out; omega)
                          have HF4 := Lib.hid ((HO2.out.far hlt.out (put5_grown z2 w16.heap.size (.int .i64 c0) (.string (bs r)) (.int .i64 o) (.slice Az D2.length kz) (.string (bs b2)))).fl)
                          have HE4 := Lib.hid (put5_below HE2.out (Nat.le_refl _) (.int .i64 c0) (.string (bs r)) (.int .i64 o) (.slice Az D2.length kz) (.string (bs b2)))
                          generalize w16.heap.size = g at *
                          obtain ⟨⟨s0, j0⟩, ⟨s1, j1⟩, ⟨s2, j2⟩, ⟨s3, j3⟩, ⟨s4, j4⟩⟩ := HZ2.out.asks5 (.int .i64 c0) (.string (bs r)) (.int .i64 o) (.slice Az D2.length kz)
                          refine growS_call (by rfl) (fun K hK => ?_)
                          go_simp
                          refine hK.out _ _ HE4.out ?_
                          have hz4 := HZ2.out.put5 (.int .i64 c0) (.string (bs r)) (.int .i64 o) (.slice Az D2.length kz) (.string (bs b2))
                          clear hK K
                          refine growS_done (NoPanic.normal ?_)
                          exact ⟨g, Az, kz, rfl, rfl, hz4, HF4.out, HE4.out⟩
                      case h2 =>
                        rintro g17 A17 k17 w17 ⟨hg1, hg2, hg3⟩
                        have Hw17 := Lib.hid (Hw16.out.step hg3)
                        have HG := Lib.hid hg1; have HGF := Lib.hid hg2
                        clear hg1 hg2 hg3 HPL KB Hw16
                        go_wp2_with fail
                        have HPN : Hid (∀ W, Below w17.heap.size w17 W → Calls Tryz.prog 23 #[.slice A2 l2.length c2] W (RetF W D2)) := fun W hW => HPM.out W (Hw17.out.fq.bel hW)
                        have KR := Lib.hid Hw17.out.kq
                        apply wp_meet (fun g A' k' W => blk W g #[.int .i64 c0, .string (bs r), .int .i64 o, .slice A' D2.length k', .string (bs b2)] ∧ FL W (.slice A' D2.length k') D2 ∧ Below w17.heap.size w17 W)
                        case h1 =>
                          refine wp_region_growS (.one 0 false (.one 1 false (.one 2 false (.one 3 false (.one 4 false (.one 5 false (.one 6 false (.one 7 false (.one 9 false (.one 10 false (.two 8 12 (.one 11 false (.one 12 true (.one 13 true .done))) (.one 8 true (.one 11 false (.one 13 true .done))))))))))))))
                            (fun W => Below w17.heap.size w17 W) (by kernel_rfl) (by kernel_rfl) rfl (by kernel_rfl) (by kernel_rfl) ((Below.refl _ _).drew) (fun ops hops => ?_)
                          simp only [GT.ins, List.getD_cons_zero, List.getD_cons_succ]
                          clear hops
                          iterate 10
                            refine growS_take (by rfl) ?_
                            apply Exists.intro
                            refine ⟨fun w' hE => ?_, ?_⟩
                            · have y0 := (KR.out.below hE).cell 0 _ rfl; have y1 := (KR.out.below hE).cell 1 _ rfl; have y2 := (KR.out.below hE).cell 2 _ rfl; have y3 := (KR.out.below hE).cell 3 _ rfl; have y4 := (KR.out.below hE).cell 4 _ rfl
                              go_simp
                              try with_reducible rfl
                            simp only [Act.put, List.setIfInBounds_toArray, List.set_cons_zero, List.set_cons_succ]
                          refine growS_two (by rfl) (by rfl) (fun K hK => ?_) (fun K hK => ?_)
                          · go_simp
                            refine (HPN.out _ ((Below.refl _ _).drew)).mono ?_
                            rintro en z2 ⟨v2, rfl, ho2, hb2⟩
                            obtain ⟨Az, kz, rfl⟩ := ho2.form
                            have hE2 : Below w17.heap.size w17 z2 := ((Below.refl _ _).drew : Below w17.heap.size w17 w17.drew).trans hb2
                            refine hK.out _ _ hE2 ?_
                            have HF2 := Lib.hid ho2.fl; have HE2 := Lib.hid hE2
                            clear hK K ho2 hb2 hE2
                            iterate 1
                              refine growS_take (by rfl) ?_
                              apply Exists.intro
                              refine ⟨fun w' hE => ?_, ?_⟩
                              · have y0 := (KR.out.below hE).cell 0 _ rfl; have y1 := (KR.out.below hE).cell 1 _ rfl; have y2 := (KR.out.below hE).cell 2 _ rfl; have y3 := (KR.out.below hE).cell 3 _ rfl; have y4 := (KR.out.below hE).cell 4 _ rfl
                                go_simp
                                try with_reducible rfl
                              simp only [Act.put, List.setIfInBounds_toArray, List.set_cons_zero, List.set_cons_succ]
                            refine growS_call (by rfl) (fun K hK => ?_)
                            go_simp
                            have hd3 : Below z2.heap.size z2 (z2.alloc (.cells #[.int .i64 0, .string ⟨#[]⟩, .int .i64 0, .slice none 0 0, .string ⟨#[]⟩] 32)) := (Below.refl _ _).alloc (Nat.le_refl _) _
                            have hz3 := blk.new z2 #[.int .i64 0, .string ⟨#[]⟩, .int .i64 0, .slice none 0 0, .string ⟨#[]⟩] 32
                            have hE3 := HE2.out.trans (hd3.mono HE2.out.size)
                            refine hK.out _ _ hE3 ?_
                            have HF4 := Lib.hid (HF2.out.bel (put5_below hd3 (Nat.le_refl _) (.int .i64 c0) (.string (bs r)) (.int .i64 o) (.slice Az D2.length kz) (.string (bs b2)))); have HE3 := Lib.hid hE3; have HLT := Lib.hid HE2.out.size
                            clear hK K hd3 hE3 HF2 HE2
                            generalize z2.alloc (.cells #[.int .i64 0, .string ⟨#[]⟩, .int .i64 0, .slice none 0 0, .string ⟨#[]⟩] 32) = z3 at *
                            generalize z2.heap.size = g at *
                            obtain ⟨⟨s0, j0⟩, ⟨s1, j1⟩, ⟨s2, j2⟩, ⟨s3, j3⟩, ⟨s4, j4⟩⟩ := hz3.asks5 (.int .i64 c0) (.string (bs r)) (.int .i64 o) (.slice Az D2.length kz)
                            refine growS_call (by rfl) (fun K hK => ?_)
                            go_simp
                            have hE4 := put5_below HE3.out HLT.out (.int .i64 c0) (.string (bs r)) (.int .i64 o) (.slice Az D2.length kz) (.string (bs b2))
                            refine hK.out _ _ hE4 ?_
                            have hz4 := hz3.put5 (.int .i64 c0) (.string (bs r)) (.int .i64 o) (.slice Az D2.length kz) (.string (bs b2))
                            clear hK K
                            refine growS_done (NoPanic.normal ?_)
                            exact ⟨g, Az, kz, rfl, rfl, hz4, HF4.out, hE4⟩
                          · go_simp
                            have hd1 : Below w17.heap.size w17 (w17.alloc (.cells #[.int .i64 0, .string ⟨#[]⟩, .int .i64 0, .slice none 0 0, .string ⟨#[]⟩] 32)).drew := ((Below.refl _ _).alloc (Nat.le_refl _) _).drew
                            have hz1 := (blk.new w17 #[.int .i64 0, .string ⟨#[]⟩, .int .i64 0, .slice none 0 0, .string ⟨#[]⟩] 32).below ((Below.refl _ _).drew)
                            have hsz : (w17.alloc (.cells #[.int .i64 0, .string ⟨#[]⟩, .int .i64 0, .slice none 0 0, .string ⟨#[]⟩] 32)).drew.heap.size = w17.heap.size + 1 := by simp
                            refine hK.out _ _ hd1 ?_
                            have HD1 := Lib.hid hd1; have HZ1 := Lib.hid hz1; have HSZ := Lib.hid hsz
                            clear hK K hd1 hz1 hsz
                            generalize (w17.alloc (.cells #[.int .i64 0, .string ⟨#[]⟩, .int .i64 0, .slice none 0 0, .string ⟨#[]⟩] 32)).drew = z1 at *
                            refine growS_call (by rfl) (fun K hK => ?_)
                            go_simp
                            refine (HPN.out _ HD1.out).mono ?_
                            rintro en z2 ⟨v2, rfl, ho2, hb2⟩
                            obtain ⟨Az, kz, rfl⟩ := ho2.form
                            have hE2 : Below w17.heap.size w17 z2 := HD1.out.trans (hb2.mono HD1.out.size)
                            refine hK.out _ _ hE2 ?_
                            have HO2 := Lib.hid ho2; have HE2 := Lib.hid hE2; have HZ2 := Lib.hid (HZ1.out.below hb2)
                            clear hK K ho2 hb2 hE2
                            iterate 1
                              refine growS_take (by rfl) ?_
                              apply Exists.intro
                              refine ⟨fun w' hE => ?_, ?_⟩
                              · have y0 := (KR.out.below hE).cell 0 _ rfl; have y1 := (KR.out.below hE).cell 1 _ rfl; have y2 := (KR.out.below hE).cell 2 _ rfl; have y3 := (KR.out.below hE).cell 3 _ rfl; have y4 := (KR.out.below hE).cell 4 _ rfl
                                go_simp
                                try with_reducible rfl
                              simp only [Act.put, List.setIfInBounds_toArray, List.set_cons_zero, List.set_cons_succ]
                            have hlt := Lib.hid (show w17.heap.size < z1.heap.size by have := HSZ.out; omega)
                            have HF4 := Lib.hid ((HO2.out.far hlt.out (put5_grown z2 w17.heap.size (.int .i64 c0) (.string (bs r)) (.int .i64 o) (.slice Az D2.length kz) (.string (bs b2)))).fl)
                            have HE4 := Lib.hid (put5_below HE2.out (Nat.le_refl _) (.int .i64 c0) (.string (bs r)) (.int .i64 o) (.slice Az D2.length kz) (.string (bs b2)))
                            generalize w17.heap.size = g at *
                            obtain ⟨⟨s0, j0⟩, ⟨s1, j1⟩, ⟨s2, j2⟩, ⟨s3, j3⟩, ⟨s4, j4⟩⟩ := HZ2.out.asks5 (.int .i64 c0) (.string (bs r)) (.int .i64 o) (.slice Az D2.length kz)
                            refine growS_call (by rfl) (fun K hK => ?_)
                            go_simp
                            refine hK.out _ _ HE4.out ?_
                            have hz4 := HZ2.out.put5 (.int .i64 c0) (.string (bs r)) (.int .i64 o) (.slice Az D2.length kz) (.string (bs b2))
                            clear hK K
                            refine growS_done (NoPanic.normal ?_)
                            exact ⟨g, Az, kz, rfl, rfl, hz4, HF4.out, HE4.out⟩
                        case h2 =>
                          rintro g18 A18 k18 w18 ⟨hg1, hg2, hg3⟩
                          have Hw18 := Lib.hid (Hw17.out.step hg3)
                          have HG2 := Lib.hid (HG.out.below hg3); have HGF2 := Lib.hid (HGF.out.bel hg3)
                          have HJ := Lib.hid hg1; have HJF := Lib.hid hg2
                          clear hg1 hg2 hg3 HPN KR Hw17 HG HGF HPM
                          have r0 := Hw18.out.kr.cell 0 _ rfl; have r1 := Hw18.out.kr.cell 1 _ rfl; have r2 := Hw18.out.kr.cell 2 _ rfl; have r3 := Hw18.out.kr.cell 3 _ rfl; have r4 := Hw18.out.kr.cell 4 _ rfl
                          have q0 := Hw18.out.kq.cell 0 _ rfl; have q1 := Hw18.out.kq.cell 1 _ rfl; have q2 := Hw18.out.kq.cell 2 _ rfl; have q3 := Hw18.out.kq.cell 3 _ rfl; have q4 := Hw18.out.kq.cell 4 _ rfl
                          have x0 := Hw18.out.kx.cell 0 _ rfl; have x1 := Hw18.out.kx.cell 1 _ rfl
                          go_wp2_with fail
                          rw [HEX.out]
                          refine (HRC.out _ Hw18.out.bel j hmod).mono ?_
                          rintro en w19 ⟨A5, c5, rfl, hb⟩
                          have hb2 := hb.trans (((Below.refl _ _).alloc (Nat.le_refl _) _ : Below w19.heap.size w19 (w19.alloc (.cells #[.int .i64 0, .string ⟨#[]⟩, .int .i64 0, .slice A5 0 c5, .string ⟨#[]⟩] 32))).mono hb.size)
                          clear r0 r1 r2 r3 r4 q0 q1 q2 q3 q4 x0 x1
                          have Hw20 := Lib.hid (Hw18.out.step hb2)
                          have HG3 := Lib.hid (HG2.out.below hb2); have HGF3 := Lib.hid (HGF2.out.bel hb2)
                          have HJ3 := Lib.hid (HJ.out.below hb2); have HJF3 := Lib.hid (HJF.out.bel hb2)
                          clear hb hb2 Hw18 HG2 HGF2 HJ HJF HRC HEX
                          have p0 := HG3.out.cell 0 _ rfl; have p1 := HG3.out.cell 1 _ rfl; have p2 := HG3.out.cell 2 _ rfl; have p3 := HG3.out.cell 3 _ rfl; have p4 := HG3.out.cell 4 _ rfl
                          have o0 := HJ3.out.cell 0 _ rfl; have o1 := HJ3.out.cell 1 _ rfl; have o2 := HJ3.out.cell 2 _ rfl; have o3 := HJ3.out.cell 3 _ rfl; have o4 := HJ3.out.cell 4 _ rfl
                          go_wp2_with fail
                          generalize (w19.alloc (.cells #[.int .i64 0, .string ⟨#[]⟩, .int .i64 0, .slice A5 0 c5, .string ⟨#[]⟩] 32)) = w20 at *
                          refine (sameP_any r b2 c0 o _ _ D2 _ HGF3.out HJF3.out hDl).mono ?_
                          rintro en w21 ⟨rfl, hb⟩
                          clear p0 p1 p2 p3 p4 o0 o1 o2 o3 o4 HG3 HGF3 HJ3 HJF3 hDl hmod hrem
                          have Hw21 := Lib.hid (Hw20.out.step hb)
                          clear hb Hw20
                          have r0 := Hw21.out.kr.cell 0 _ rfl; have r1 := Hw21.out.kr.cell 1 _ rfl; have r2 := Hw21.out.kr.cell 2 _ rfl; have r3 := Hw21.out.kr.cell 3 _ rfl; have r4 := Hw21.out.kr.cell 4 _ rfl
                          have q0 := Hw21.out.kq.cell 0 _ rfl; have q1 := Hw21.out.kq.cell 1 _ rfl; have q2 := Hw21.out.kq.cell 2 _ rfl; have q3 := Hw21.out.kq.cell 3 _ rfl; have q4 := Hw21.out.kq.cell 4 _ rfl
                          have x0 := Hw21.out.kx.cell 0 _ rfl; have x1 := Hw21.out.kx.cell 1 _ rfl
                          go_wp2_with fail
                          refine (works_any _ (HE.out.bel Hw21.out.bel)).mono ?_
                          rintro en wz ⟨rfl, hbz⟩
                          have HZ := Lib.hid (Hw21.out.bel.trans (hbz.mono Hw21.out.bel.size))
                          clear hbz
                          go_wp2_with fail
                          go_ret
                          exact ⟨by simp, HZ.out⟩
                    · have hT : T = [] := by
                        have h := putY_bad (c := c0) (n := o) (r := r) (b := b2) (l := l2) (d := false) (by rw [hP2]; exact h2)
                        rw [hP2] at h
                        exact h
                      subst hT
                      have hte : (bs []).toList.isEmpty = true := by rw [Lib.toList_data]; rfl
                      have hn2 : (e2 != 0) = true := by simpa using h2
                      go_wp2_with fail
                      refine (works_any _ (HE.out.bel Hw14.out.bel)).mono ?_
                      rintro en wz ⟨rfl, hbz⟩
                      have HZ := Lib.hid (Hw14.out.bel.trans (hbz.mono Hw14.out.bel.size))
                      clear hbz
                      go_wp2_with fail
                      go_ret
                      exact ⟨by simp, HZ.out⟩
              · have hS : S = [] := by
                  have h := putQ_bad (m := m) (t := t) (n := n) (b := b) (l := l) (by rw [hP]; exact he)
                  rw [hP] at h
                  exact h
                subst hS
                have hse : (bs []).toList.isEmpty = true := by rw [Lib.toList_data]; rfl
                have hn1 : (e == 0) = false := by simpa using he
                go_wp2_with fail
                refine (HP2.out _ Hw6.out.bel Hw6.out.fq).mono ?_
                rintro en w7 ⟨rfl, hb⟩
                clear r0 r1 r2 r3 r4 q0 q1 q2 q3 q4 x0 x1
                have Hw7 := Lib.hid (Hw6.out.step hb)
                clear hb Hw6
                have r0 := Hw7.out.kr.cell 0 _ rfl; have r1 := Hw7.out.kr.cell 1 _ rfl; have r2 := Hw7.out.kr.cell 2 _ rfl; have r3 := Hw7.out.kr.cell 3 _ rfl; have r4 := Hw7.out.kr.cell 4 _ rfl
                have q0 := Hw7.out.kq.cell 0 _ rfl; have q1 := Hw7.out.kq.cell 1 _ rfl; have q2 := Hw7.out.kq.cell 2 _ rfl; have q3 := Hw7.out.kq.cell 3 _ rfl; have q4 := Hw7.out.kq.cell 4 _ rfl
                have x0 := Hw7.out.kx.cell 0 _ rfl; have x1 := Hw7.out.kx.cell 1 _ rfl
                by_cases h2 : e2 = 0
                · subst h2
                  obtain ⟨b1, b2', b3, b4⟩ := back_tell hP2
                  have hne : (bs T).toList.isEmpty = false := by rw [Lib.toList_data, bs_data]; cases T; exact absurd rfl b1; rfl
                  have hpos : 0 < T.length := by rcases T with _ | ⟨x, y⟩; exact absurd rfl b1; simp
                  have HRQ : Hid (∀ W, Below w.heap.size w W → Calls Tryz.prog 13 #[.string (bs T ++ bs X), .bool false] W fun en w' => ∃ v, en = .returned (.tuple #[.agg #[.int .i64 c0, .string (bs r), .int .i64 o, v, .string (bs b2)], .int .i64 T.length, .int .i64 0]) ∧ ownF w' W.heap.size v (writL l2 b2.length (!bareB c0)) ∧ Below W.heap.size W w') := fun W hb => by
                    have h := msgReply_any (T ++ X) false W (HE.out.bel hb) (by rw [List.length_append]; omega)
                    unfold RetY at h
                    rw [(b3 X).1, (b3 X).2.1, (b3 X).2.2.1, (b3 X).2.2.2, ← bs_append] at h
                    exact h
                  have HRC : Hid (∀ W, Below w.heap.size w W → ∀ j, j < T.length → Calls Tryz.prog 13 #[.string (bs (T.take j)), .bool false] W fun en w' => ∃ A c, en = .returned (.tuple #[.agg #[.int .i64 0, .string ⟨#[]⟩, .int .i64 0, .slice A 0 c, .string ⟨#[]⟩], .int .i64 0, .int .i64 6]) ∧ Below W.heap.size W w') := fun W hb j hj => by
                    have h := msgReply_any (T.take j) false W (HE.out.bel hb) (by rw [List.length_take]; omega)
                    have hz : (tellM (T.take j) false).2.2.2 ≠ 0 := by rw [b4 j hj]; decide
                    unfold RetY cM rM oM at h
                    rw [if_neg hz, if_neg hz, if_neg hz, b4 j hj] at h
                    refine h.mono ?_
                    rintro en w' ⟨v, rfl, ho, hb⟩
                    obtain ⟨A, c, rfl⟩ := ho.form
                    exact ⟨A, c, rfl, hb⟩
                  have HPM : Hid (∀ W, FL W (.slice A2 l2.length c2) l2 → Calls Tryz.prog 23 #[.slice A2 l2.length c2] W (RetF W (delL l2 [clN, teN]))) := fun W hW => plain_any _ l2 W hW s4 (by omega)
                  have HPW : Hid (∀ v W, FL W v (writL l2 b2.length (!bareB c0)) → Calls Tryz.prog 23 #[v] W (RetF W (delL l2 [clN, teN]))) := fun v W hW => by
                    have h := plain_any v (writL l2 b2.length (!bareB c0)) W hW (smallW s4 (by omega)) (Nat.le_trans (writ_len _ _ _) (by omega))
                    rw [plain_writ] at h
                    exact h
                  have hDl : (delL l2 [clN, teN]).length ≤ 4294967296 := Nat.le_trans (List.length_filter_le _ _) (by omega)
                  generalize delL l2 [clN, teN] = D2 at *
                  have hmod : k % T.length < T.length := Nat.mod_lt _ hpos
                  have hrem : (k : Int).tmod (T.length : Int) = ((k % T.length : Nat) : Int) := by rw [Int.tmod_eq_emod_of_nonneg (by omega)]; rfl
                  have HEX : Hid ((bs T).extract 0 (k % T.length) = bs (T.take (k % T.length))) := Lib.hid (ext_upto (by rw [bs_data]) _)
                  generalize k % T.length = j at *
                  clear b1 b3 b4
                  go_wp2_with fail
                  refine (HRQ.out _ Hw7.out.bel).mono ?_
                  rintro en w8 ⟨v3, rfl, ho, hb⟩
                  obtain ⟨A3, c3, rfl⟩ := ho.form
                  clear r0 r1 r2 r3 r4 q0 q1 q2 q3 q4 x0 x1
                  have Ha := Lib.hid (Hw7.out.step hb)
                  have hd : Below w8.heap.size w8 (w8.alloc (.cells #[.int .i64 c0, .string (bs r), .int .i64 o, .slice A3 (writL l2 b2.length (!bareB c0)).length c3, .string (bs b2)] 32)) := (Below.refl _ _).alloc (Nat.le_refl _) _
                  have KB := Lib.hid (blk.new w8 #[.int .i64 c0, .string (bs r), .int .i64 o, .slice A3 (writL l2 b2.length (!bareB c0)).length c3, .string (bs b2)] 32)
                  have Hw9 := Lib.hid (Ha.out.step hd)
                  have HPL : Hid (∀ W, Below (w8.alloc (.cells #[.int .i64 c0, .string (bs r), .int .i64 o, .slice A3 (writL l2 b2.length (!bareB c0)).length c3, .string (bs b2)] 32)).heap.size (w8.alloc (.cells #[.int .i64 c0, .string (bs r), .int .i64 o, .slice A3 (writL l2 b2.length (!bareB c0)).length c3, .string (bs b2)] 32)) W → Calls Tryz.prog 23 #[.slice A3 (writL l2 b2.length (!bareB c0)).length c3] W (RetF W D2)) := fun W hW => HPW.out _ W ((ho.fl.bel hd).bel hW)
                  clear hb ho hd Hw7 Ha HPW HRQ
                  go_wp2_with fail
                  generalize (w8.alloc (.cells #[.int .i64 c0, .string (bs r), .int .i64 o, .slice A3 (writL l2 b2.length (!bareB c0)).length c3, .string (bs b2)] 32)) = w9 at *
                  generalize w8.heap.size = g8 at *
                  apply wp_meet (fun g A' k' W => blk W g #[.int .i64 c0, .string (bs r), .int .i64 o, .slice A' D2.length k', .string (bs b2)] ∧ FL W (.slice A' D2.length k') D2 ∧ Below w9.heap.size w9 W)
                  case h1 =>
                    refine wp_region_growS (.one 0 false (.one 1 false (.one 2 false (.one 3 false (.one 4 false (.one 5 false (.one 6 false (.one 7 false (.one 9 false (.one 10 false (.two 8 12 (.one 11 false (.one 12 true (.one 13 true .done))) (.one 8 true (.one 11 false (.one 13 true .done))))))))))))))
                      (fun W => Below w9.heap.size w9 W) (by kernel_rfl) (by kernel_rfl) rfl (by kernel_rfl) (by kernel_rfl) ((Below.refl _ _).drew) (fun ops hops => ?_)
                    simp only [GT.ins, List.getD_cons_zero, List.getD_cons_succ]
                    clear hops
                    iterate 10
                      refine growS_take (by rfl) ?_
                      apply Exists.intro
                      refine ⟨fun w' hE => ?_, ?_⟩
                      · have y0 := (KB.out.below hE).cell 0 _ rfl; have y1 := (KB.out.below hE).cell 1 _ rfl; have y2 := (KB.out.below hE).cell 2 _ rfl; have y3 := (KB.out.below hE).cell 3 _ rfl; have y4 := (KB.out.below hE).cell 4 _ rfl
                        go_simp
                        try with_reducible rfl
                      simp only [Act.put, List.setIfInBounds_toArray, List.set_cons_zero, List.set_cons_succ]
                    refine growS_two (by rfl) (by rfl) (fun K hK => ?_) (fun K hK => ?_)
                    · go_simp
                      refine (HPL.out _ ((Below.refl _ _).drew)).mono ?_
                      rintro en z2 ⟨v2, rfl, ho2, hb2⟩
                      obtain ⟨Az, kz, rfl⟩ := ho2.form
                      have hE2 : Below w9.heap.size w9 z2 := ((Below.refl _ _).drew : Below w9.heap.size w9 w9.drew).trans hb2
                      refine hK.out _ _ hE2 ?_
                      have HF2 := Lib.hid ho2.fl; have HE2 := Lib.hid hE2
                      clear hK K ho2 hb2 hE2
                      iterate 1
                        refine growS_take (by rfl) ?_
                        apply Exists.intro
                        refine ⟨fun w' hE => ?_, ?_⟩
                        · have y0 := (KB.out.below hE).cell 0 _ rfl; have y1 := (KB.out.below hE).cell 1 _ rfl; have y2 := (KB.out.below hE).cell 2 _ rfl; have y3 := (KB.out.below hE).cell 3 _ rfl; have y4 := (KB.out.below hE).cell 4 _ rfl
                          go_simp
                          try with_reducible rfl
                        simp only [Act.put, List.setIfInBounds_toArray, List.set_cons_zero, List.set_cons_succ]
                      refine growS_call (by rfl) (fun K hK => ?_)
                      go_simp
                      have hd3 : Below z2.heap.size z2 (z2.alloc (.cells #[.int .i64 0, .string ⟨#[]⟩, .int .i64 0, .slice none 0 0, .string ⟨#[]⟩] 32)) := (Below.refl _ _).alloc (Nat.le_refl _) _
                      have hz3 := blk.new z2 #[.int .i64 0, .string ⟨#[]⟩, .int .i64 0, .slice none 0 0, .string ⟨#[]⟩] 32
                      have hE3 := HE2.out.trans (hd3.mono HE2.out.size)
                      refine hK.out _ _ hE3 ?_
                      have HF4 := Lib.hid (HF2.out.bel (put5_below hd3 (Nat.le_refl _) (.int .i64 c0) (.string (bs r)) (.int .i64 o) (.slice Az D2.length kz) (.string (bs b2)))); have HE3 := Lib.hid hE3; have HLT := Lib.hid HE2.out.size
                      clear hK K hd3 hE3 HF2 HE2
                      generalize z2.alloc (.cells #[.int .i64 0, .string ⟨#[]⟩, .int .i64 0, .slice none 0 0, .string ⟨#[]⟩] 32) = z3 at *
                      generalize z2.heap.size = g at *
                      obtain ⟨⟨s0, j0⟩, ⟨s1, j1⟩, ⟨s2, j2⟩, ⟨s3, j3⟩, ⟨s4, j4⟩⟩ := hz3.asks5 (.int .i64 c0) (.string (bs r)) (.int .i64 o) (.slice Az D2.length kz)
                      refine growS_call (by rfl) (fun K hK => ?_)
                      go_simp
                      have hE4 := put5_below HE3.out HLT.out (.int .i64 c0) (.string (bs r)) (.int .i64 o) (.slice Az D2.length kz) (.string (bs b2))
                      refine hK.out _ _ hE4 ?_
                      have hz4 := hz3.put5 (.int .i64 c0) (.string (bs r)) (.int .i64 o) (.slice Az D2.length kz) (.string (bs b2))
                      clear hK K
                      refine growS_done (NoPanic.normal ?_)
                      exact ⟨g, Az, kz, rfl, rfl, hz4, HF4.out, hE4⟩
                    · go_simp
                      have hd1 : Below w9.heap.size w9 (w9.alloc (.cells #[.int .i64 0, .string ⟨#[]⟩, .int .i64 0, .slice none 0 0, .string ⟨#[]⟩] 32)).drew := ((Below.refl _ _).alloc (Nat.le_refl _) _).drew
                      have hz1 := (blk.new w9 #[.int .i64 0, .string ⟨#[]⟩, .int .i64 0, .slice none 0 0, .string ⟨#[]⟩] 32).below ((Below.refl _ _).drew)
                      have hsz : (w9.alloc (.cells #[.int .i64 0, .string ⟨#[]⟩, .int .i64 0, .slice none 0 0, .string ⟨#[]⟩] 32)).drew.heap.size = w9.heap.size + 1 := by simp
                      refine hK.out _ _ hd1 ?_
                      have HD1 := Lib.hid hd1; have HZ1 := Lib.hid hz1; have HSZ := Lib.hid hsz
                      clear hK K hd1 hz1 hsz
                      generalize (w9.alloc (.cells #[.int .i64 0, .string ⟨#[]⟩, .int .i64 0, .slice none 0 0, .string ⟨#[]⟩] 32)).drew = z1 at *
                      refine growS_call (by rfl) (fun K hK => ?_)
                      go_simp
                      refine (HPL.out _ HD1.out).mono ?_
                      rintro en z2 ⟨v2, rfl, ho2, hb2⟩
                      obtain ⟨Az, kz, rfl⟩ := ho2.form
                      have hE2 : Below w9.heap.size w9 z2 := HD1.out.trans (hb2.mono HD1.out.size)
                      refine hK.out _ _ hE2 ?_
                      have HO2 := Lib.hid ho2; have HE2 := Lib.hid hE2; have HZ2 := Lib.hid (HZ1.out.below hb2)
                      clear hK K ho2 hb2 hE2
                      iterate 1
                        refine growS_take (by rfl) ?_
                        apply Exists.intro
                        refine ⟨fun w' hE => ?_, ?_⟩
                        · have y0 := (KB.out.below hE).cell 0 _ rfl; have y1 := (KB.out.below hE).cell 1 _ rfl; have y2 := (KB.out.below hE).cell 2 _ rfl; have y3 := (KB.out.below hE).cell 3 _ rfl; have y4 := (KB.out.below hE).cell 4 _ rfl
                          go_simp
                          try with_reducible rfl
                        simp only [Act.put, List.setIfInBounds_toArray, List.set_cons_zero, List.set_cons_succ]
                      have hlt := Lib.hid (show w9.heap.size < z1.heap.size by have := HSZ.out; omega)
                      have HF4 := Lib.hid ((HO2.out.far hlt.out (put5_grown z2 w9.heap.size (.int .i64 c0) (.string (bs r)) (.int .i64 o) (.slice Az D2.length kz) (.string (bs b2)))).fl)
                      have HE4 := Lib.hid (put5_below HE2.out (Nat.le_refl _) (.int .i64 c0) (.string (bs r)) (.int .i64 o) (.slice Az D2.length kz) (.string (bs b2)))
                      generalize w9.heap.size = g at *
                      obtain ⟨⟨s0, j0⟩, ⟨s1, j1⟩, ⟨s2, j2⟩, ⟨s3, j3⟩, ⟨s4, j4⟩⟩ := HZ2.out.asks5 (.int .i64 c0) (.string (bs r)) (.int .i64 o) (.slice Az D2.length kz)
                      refine growS_call (by rfl) (fun K hK => ?_)
                      go_simp
                      refine hK.out _ _ HE4.out ?_
                      have hz4 := HZ2.out.put5 (.int .i64 c0) (.string (bs r)) (.int .i64 o) (.slice Az D2.length kz) (.string (bs b2))
                      clear hK K
                      refine growS_done (NoPanic.normal ?_)
                      exact ⟨g, Az, kz, rfl, rfl, hz4, HF4.out, HE4.out⟩
                  case h2 =>
                    rintro g10 A10 k10 w10 ⟨hg1, hg2, hg3⟩
                    have Hw10 := Lib.hid (Hw9.out.step hg3)
                    have HG := Lib.hid hg1; have HGF := Lib.hid hg2
                    clear hg1 hg2 hg3 HPL KB Hw9
                    go_wp2_with fail
                    have HPN : Hid (∀ W, Below w10.heap.size w10 W → Calls Tryz.prog 23 #[.slice A2 l2.length c2] W (RetF W D2)) := fun W hW => HPM.out W (Hw10.out.fq.bel hW)
                    have KR := Lib.hid Hw10.out.kq
                    apply wp_meet (fun g A' k' W => blk W g #[.int .i64 c0, .string (bs r), .int .i64 o, .slice A' D2.length k', .string (bs b2)] ∧ FL W (.slice A' D2.length k') D2 ∧ Below w10.heap.size w10 W)
                    case h1 =>
                      refine wp_region_growS (.one 0 false (.one 1 false (.one 2 false (.one 3 false (.one 4 false (.one 5 false (.one 6 false (.one 7 false (.one 9 false (.one 10 false (.two 8 12 (.one 11 false (.one 12 true (.one 13 true .done))) (.one 8 true (.one 11 false (.one 13 true .done))))))))))))))
                        (fun W => Below w10.heap.size w10 W) (by kernel_rfl) (by kernel_rfl) rfl (by kernel_rfl) (by kernel_rfl) ((Below.refl _ _).drew) (fun ops hops => ?_)
                      simp only [GT.ins, List.getD_cons_zero, List.getD_cons_succ]
                      clear hops
                      iterate 10
                        refine growS_take (by rfl) ?_
                        apply Exists.intro
                        refine ⟨fun w' hE => ?_, ?_⟩
                        · have y0 := (KR.out.below hE).cell 0 _ rfl; have y1 := (KR.out.below hE).cell 1 _ rfl; have y2 := (KR.out.below hE).cell 2 _ rfl; have y3 := (KR.out.below hE).cell 3 _ rfl; have y4 := (KR.out.below hE).cell 4 _ rfl
                          go_simp
                          try with_reducible rfl
                        simp only [Act.put, List.setIfInBounds_toArray, List.set_cons_zero, List.set_cons_succ]
                      refine growS_two (by rfl) (by rfl) (fun K hK => ?_) (fun K hK => ?_)
                      · go_simp
                        refine (HPN.out _ ((Below.refl _ _).drew)).mono ?_
                        rintro en z2 ⟨v2, rfl, ho2, hb2⟩
                        obtain ⟨Az, kz, rfl⟩ := ho2.form
                        have hE2 : Below w10.heap.size w10 z2 := ((Below.refl _ _).drew : Below w10.heap.size w10 w10.drew).trans hb2
                        refine hK.out _ _ hE2 ?_
                        have HF2 := Lib.hid ho2.fl; have HE2 := Lib.hid hE2
                        clear hK K ho2 hb2 hE2
                        iterate 1
                          refine growS_take (by rfl) ?_
                          apply Exists.intro
                          refine ⟨fun w' hE => ?_, ?_⟩
                          · have y0 := (KR.out.below hE).cell 0 _ rfl; have y1 := (KR.out.below hE).cell 1 _ rfl; have y2 := (KR.out.below hE).cell 2 _ rfl; have y3 := (KR.out.below hE).cell 3 _ rfl; have y4 := (KR.out.below hE).cell 4 _ rfl
                            go_simp
                            try with_reducible rfl
                          simp only [Act.put, List.setIfInBounds_toArray, List.set_cons_zero, List.set_cons_succ]
                        refine growS_call (by rfl) (fun K hK => ?_)
                        go_simp
                        have hd3 : Below z2.heap.size z2 (z2.alloc (.cells #[.int .i64 0, .string ⟨#[]⟩, .int .i64 0, .slice none 0 0, .string ⟨#[]⟩] 32)) := (Below.refl _ _).alloc (Nat.le_refl _) _
                        have hz3 := blk.new z2 #[.int .i64 0, .string ⟨#[]⟩, .int .i64 0, .slice none 0 0, .string ⟨#[]⟩] 32
                        have hE3 := HE2.out.trans (hd3.mono HE2.out.size)
                        refine hK.out _ _ hE3 ?_
                        have HF4 := Lib.hid (HF2.out.bel (put5_below hd3 (Nat.le_refl _) (.int .i64 c0) (.string (bs r)) (.int .i64 o) (.slice Az D2.length kz) (.string (bs b2)))); have HE3 := Lib.hid hE3; have HLT := Lib.hid HE2.out.size
                        clear hK K hd3 hE3 HF2 HE2
                        generalize z2.alloc (.cells #[.int .i64 0, .string ⟨#[]⟩, .int .i64 0, .slice none 0 0, .string ⟨#[]⟩] 32) = z3 at *
                        generalize z2.heap.size = g at *
                        obtain ⟨⟨s0, j0⟩, ⟨s1, j1⟩, ⟨s2, j2⟩, ⟨s3, j3⟩, ⟨s4, j4⟩⟩ := hz3.asks5 (.int .i64 c0) (.string (bs r)) (.int .i64 o) (.slice Az D2.length kz)
                        refine growS_call (by rfl) (fun K hK => ?_)
                        go_simp
                        have hE4 := put5_below HE3.out HLT.out (.int .i64 c0) (.string (bs r)) (.int .i64 o) (.slice Az D2.length kz) (.string (bs b2))
                        refine hK.out _ _ hE4 ?_
                        have hz4 := hz3.put5 (.int .i64 c0) (.string (bs r)) (.int .i64 o) (.slice Az D2.length kz) (.string (bs b2))
                        clear hK K
                        refine growS_done (NoPanic.normal ?_)
                        exact ⟨g, Az, kz, rfl, rfl, hz4, HF4.out, hE4⟩
                      · go_simp
                        have hd1 : Below w10.heap.size w10 (w10.alloc (.cells #[.int .i64 0, .string ⟨#[]⟩, .int .i64 0, .slice none 0 0, .string ⟨#[]⟩] 32)).drew := ((Below.refl _ _).alloc (Nat.le_refl _) _).drew
                        have hz1 := (blk.new w10 #[.int .i64 0, .string ⟨#[]⟩, .int .i64 0, .slice none 0 0, .string ⟨#[]⟩] 32).below ((Below.refl _ _).drew)
                        have hsz : (w10.alloc (.cells #[.int .i64 0, .string ⟨#[]⟩, .int .i64 0, .slice none 0 0, .string ⟨#[]⟩] 32)).drew.heap.size = w10.heap.size + 1 := by simp
                        refine hK.out _ _ hd1 ?_
                        have HD1 := Lib.hid hd1; have HZ1 := Lib.hid hz1; have HSZ := Lib.hid hsz
                        clear hK K hd1 hz1 hsz
                        generalize (w10.alloc (.cells #[.int .i64 0, .string ⟨#[]⟩, .int .i64 0, .slice none 0 0, .string ⟨#[]⟩] 32)).drew = z1 at *
                        refine growS_call (by rfl) (fun K hK => ?_)
                        go_simp
                        refine (HPN.out _ HD1.out).mono ?_
                        rintro en z2 ⟨v2, rfl, ho2, hb2⟩
                        obtain ⟨Az, kz, rfl⟩ := ho2.form
                        have hE2 : Below w10.heap.size w10 z2 := HD1.out.trans (hb2.mono HD1.out.size)
                        refine hK.out _ _ hE2 ?_
                        have HO2 := Lib.hid ho2; have HE2 := Lib.hid hE2; have HZ2 := Lib.hid (HZ1.out.below hb2)
                        clear hK K ho2 hb2 hE2
                        iterate 1
                          refine growS_take (by rfl) ?_
                          apply Exists.intro
                          refine ⟨fun w' hE => ?_, ?_⟩
                          · have y0 := (KR.out.below hE).cell 0 _ rfl; have y1 := (KR.out.below hE).cell 1 _ rfl; have y2 := (KR.out.below hE).cell 2 _ rfl; have y3 := (KR.out.below hE).cell 3 _ rfl; have y4 := (KR.out.below hE).cell 4 _ rfl
                            go_simp
                            try with_reducible rfl
                          simp only [Act.put, List.setIfInBounds_toArray, List.set_cons_zero, List.set_cons_succ]
                        have hlt := Lib.hid (show w10.heap.size < z1.heap.size by have := HSZ.out; omega)
                        have HF4 := Lib.hid ((HO2.out.far hlt.out (put5_grown z2 w10.heap.size (.int .i64 c0) (.string (bs r)) (.int .i64 o) (.slice Az D2.length kz) (.string (bs b2)))).fl)
                        have HE4 := Lib.hid (put5_below HE2.out (Nat.le_refl _) (.int .i64 c0) (.string (bs r)) (.int .i64 o) (.slice Az D2.length kz) (.string (bs b2)))
                        generalize w10.heap.size = g at *
                        obtain ⟨⟨s0, j0⟩, ⟨s1, j1⟩, ⟨s2, j2⟩, ⟨s3, j3⟩, ⟨s4, j4⟩⟩ := HZ2.out.asks5 (.int .i64 c0) (.string (bs r)) (.int .i64 o) (.slice Az D2.length kz)
                        refine growS_call (by rfl) (fun K hK => ?_)
                        go_simp
                        refine hK.out _ _ HE4.out ?_
                        have hz4 := HZ2.out.put5 (.int .i64 c0) (.string (bs r)) (.int .i64 o) (.slice Az D2.length kz) (.string (bs b2))
                        clear hK K
                        refine growS_done (NoPanic.normal ?_)
                        exact ⟨g, Az, kz, rfl, rfl, hz4, HF4.out, HE4.out⟩
                    case h2 =>
                      rintro g11 A11 k11 w11 ⟨hg1, hg2, hg3⟩
                      have Hw11 := Lib.hid (Hw10.out.step hg3)
                      have HG2 := Lib.hid (HG.out.below hg3); have HGF2 := Lib.hid (HGF.out.bel hg3)
                      have HJ := Lib.hid hg1; have HJF := Lib.hid hg2
                      clear hg1 hg2 hg3 HPN KR Hw10 HG HGF HPM
                      have r0 := Hw11.out.kr.cell 0 _ rfl; have r1 := Hw11.out.kr.cell 1 _ rfl; have r2 := Hw11.out.kr.cell 2 _ rfl; have r3 := Hw11.out.kr.cell 3 _ rfl; have r4 := Hw11.out.kr.cell 4 _ rfl
                      have q0 := Hw11.out.kq.cell 0 _ rfl; have q1 := Hw11.out.kq.cell 1 _ rfl; have q2 := Hw11.out.kq.cell 2 _ rfl; have q3 := Hw11.out.kq.cell 3 _ rfl; have q4 := Hw11.out.kq.cell 4 _ rfl
                      have x0 := Hw11.out.kx.cell 0 _ rfl; have x1 := Hw11.out.kx.cell 1 _ rfl
                      go_wp2_with fail
                      rw [HEX.out]
                      refine (HRC.out _ Hw11.out.bel j hmod).mono ?_
                      rintro en w12 ⟨A5, c5, rfl, hb⟩
                      have hb2 := hb.trans (((Below.refl _ _).alloc (Nat.le_refl _) _ : Below w12.heap.size w12 (w12.alloc (.cells #[.int .i64 0, .string ⟨#[]⟩, .int .i64 0, .slice A5 0 c5, .string ⟨#[]⟩] 32))).mono hb.size)
                      clear r0 r1 r2 r3 r4 q0 q1 q2 q3 q4 x0 x1
                      have Hw13 := Lib.hid (Hw11.out.step hb2)
                      have HG3 := Lib.hid (HG2.out.below hb2); have HGF3 := Lib.hid (HGF2.out.bel hb2)
                      have HJ3 := Lib.hid (HJ.out.below hb2); have HJF3 := Lib.hid (HJF.out.bel hb2)
                      clear hb hb2 Hw11 HG2 HGF2 HJ HJF HRC HEX
                      have p0 := HG3.out.cell 0 _ rfl; have p1 := HG3.out.cell 1 _ rfl; have p2 := HG3.out.cell 2 _ rfl; have p3 := HG3.out.cell 3 _ rfl; have p4 := HG3.out.cell 4 _ rfl
                      have o0 := HJ3.out.cell 0 _ rfl; have o1 := HJ3.out.cell 1 _ rfl; have o2 := HJ3.out.cell 2 _ rfl; have o3 := HJ3.out.cell 3 _ rfl; have o4 := HJ3.out.cell 4 _ rfl
                      go_wp2_with fail
                      generalize (w12.alloc (.cells #[.int .i64 0, .string ⟨#[]⟩, .int .i64 0, .slice A5 0 c5, .string ⟨#[]⟩] 32)) = w13 at *
                      refine (sameP_any r b2 c0 o _ _ D2 _ HGF3.out HJF3.out hDl).mono ?_
                      rintro en w14 ⟨rfl, hb⟩
                      clear p0 p1 p2 p3 p4 o0 o1 o2 o3 o4 HG3 HGF3 HJ3 HJF3 hDl hmod hrem
                      have Hw14 := Lib.hid (Hw13.out.step hb)
                      clear hb Hw13
                      have r0 := Hw14.out.kr.cell 0 _ rfl; have r1 := Hw14.out.kr.cell 1 _ rfl; have r2 := Hw14.out.kr.cell 2 _ rfl; have r3 := Hw14.out.kr.cell 3 _ rfl; have r4 := Hw14.out.kr.cell 4 _ rfl
                      have q0 := Hw14.out.kq.cell 0 _ rfl; have q1 := Hw14.out.kq.cell 1 _ rfl; have q2 := Hw14.out.kq.cell 2 _ rfl; have q3 := Hw14.out.kq.cell 3 _ rfl; have q4 := Hw14.out.kq.cell 4 _ rfl
                      have x0 := Hw14.out.kx.cell 0 _ rfl; have x1 := Hw14.out.kx.cell 1 _ rfl
                      go_wp2_with fail
                      refine (works_any _ (HE.out.bel Hw14.out.bel)).mono ?_
                      rintro en wz ⟨rfl, hbz⟩
                      have HZ := Lib.hid (Hw14.out.bel.trans (hbz.mono Hw14.out.bel.size))
                      clear hbz
                      go_wp2_with fail
                      go_ret
                      exact ⟨by simp, HZ.out⟩
                · have hT : T = [] := by
                    have h := putY_bad (c := c0) (n := o) (r := r) (b := b2) (l := l2) (d := false) (by rw [hP2]; exact h2)
                    rw [hP2] at h
                    exact h
                  subst hT
                  have hte : (bs []).toList.isEmpty = true := by rw [Lib.toList_data]; rfl
                  have hn2 : (e2 != 0) = true := by simpa using h2
                  go_wp2_with fail
                  refine (works_any _ (HE.out.bel Hw7.out.bel)).mono ?_
                  rintro en wz ⟨rfl, hbz⟩
                  have HZ := Lib.hid (Hw7.out.bel.trans (hbz.mono Hw7.out.bel.size))
                  clear hbz
                  go_wp2_with fail
                  go_ret
                  exact ⟨by simp, HZ.out⟩
end Go.Proofs.YtgkjjmcjlobbpaaGreatDoor
