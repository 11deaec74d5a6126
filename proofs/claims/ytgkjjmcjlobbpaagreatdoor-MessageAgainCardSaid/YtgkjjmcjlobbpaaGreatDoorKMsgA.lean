/- A message's head, its body and its first line, taken out of bytes: the message layer's steps. -/
import Derived.Test.YtgkjjmcjlobbpaaGreatDoorKChunkA
import Derived.Test.YtgkjjmcjlobbpaaGreatDoorKFramingE
import Derived.Test.YtgkjjmcjlobbpaaGreatDoorKLineE
import Derived.Test.YtgkjjmcjlobbpaaGreatDoorKPlain
namespace Go.Proofs.YtgkjjmcjlobbpaaGreatDoor
open Go.RowKit

/-- what the walks of messages ask of Go's library -/
def EnvM (w : World) : Prop := EnvC w ∧ Env w
theorem EnvM.below {B : Nat} {w w' : World} (h : EnvM w) (hb : Below B w w') (hB : w.heap.size ≤ B) : EnvM w' := ⟨h.1.below hb hB, h.2.below hb hB⟩
theorem EnvM.bel {w w' : World} (h : EnvM w) (hb : Below w.heap.size w w') : EnvM w' := h.below hb (Nat.le_refl _)
theorem ownF.far {w w' : World} {base R : Nat} {v : Value} {l : List Fld} (h : ownF w base v l) (hR : R < base) (hg : w.grownBy w' (some R)) : ownF w' base v l := by
  refine ⟨h.1, ?_⟩
  rcases h.2 with hn | ⟨g, cap, cur, hv, hbg, hk, r⟩
  · exact .inl hn
  · exact .inr ⟨g, cap, cur, hv, hbg, by rw [hg.block g (Array.getElem?_eq_some_iff.1 hk).1 (by simp; omega)]; exact hk, r⟩
theorem blk.grown {w w' : World} {b R : Nat} {cs : Array Value} (h : blk w b cs) (hR : b ≠ R) (hg : w.grownBy w' (some R)) : blk w' b cs := h.keep (hg.block b h.lt (by simpa using hR))

def headV (s : List UInt8) : Int := if (headF s).2 = 0 then (headN s : Int) else 0
set_option maxHeartbeats 1000000 in
set_option maxRecDepth 100000 in
theorem headLen_any (s : List UInt8) (w : World) (hm : MaxL w) (hs : s.length ≤ 1048576) :
    Calls Tryz.prog 56 #[.string (bs s)] w fun e w' => e = .returned (.tuple #[.int .i64 (headV s), .int .i64 (headF s).2]) ∧ w = w' := by
  have hi := index_any (s.take 8192) [13, 10, 13, 10] w hm (by rw [List.length_take]; omega)
  have hF : headF s = if 0 ≤ Lib.index (s.take 8192) [13, 10, 13, 10] then ((Lib.index (s.take 8192) [13, 10, 13, 10]).toNat, 0) else if 8192 ≤ s.length then (0, 3) else (0, 6) := rfl
  have hV : headV s = if (headF s).2 = 0 then ((headF s).1 : Int) + 4 else 0 := rfl
  generalize headV s = V at hV ⊢
  generalize headF s = F at hF hV ⊢
  obtain ⟨f1, f2⟩ := F
  have HV := Lib.hid hV; clear hV
  obtain ⟨S, hSe, hSl, hSz⟩ := text_of s
  rw [← hSe]
  obtain ⟨n, hn, hn1, hn2⟩ : ∃ n : Nat, min (S.size : Int) 8192 = (n : Int) ∧ n ≤ S.size ∧ s.take n = s.take 8192 := by
    by_cases h : S.size ≤ 8192
    · refine ⟨S.size, by omega, Nat.le_refl _, ?_⟩
      rw [hSz, List.take_length, List.take_of_length_le (by omega)]
    · exact ⟨8192, by omega, by omega, rfl⟩
  have hex : S.extract 0 n = bs (s.take 8192) := by rw [ext_upto hSl, hn2]
  rw [← hex] at hi
  have hup : Lib.index (s.take 8192) [13, 10, 13, 10] ≤ 8192 := by
    rcases Lib.index_spec (s.take 8192) [13, 10, 13, 10] with ⟨h1, _⟩ | ⟨i, h1, h2, h3, h4⟩
    · omega
    · have hr := occ_room h3 (by simp)
      rw [List.length_take] at hr
      simp at hr
      omega
  have HI := Lib.hid hi; clear hi hex hn2
  rw [← hSz] at hs hF
  clear hSe hSl hSz
  have hge := Lib.index_ge (s.take 8192) [13, 10, 13, 10]
  generalize Lib.index (s.take 8192) [13, 10, 13, 10] = i at *
  have HF := Lib.hid hF; clear hF
  by_cases h0 : 0 ≤ i
  · have HR : Hid (i = f1 ∧ f2 = 0) := by
      have h := HF.out
      rw [if_pos h0] at h
      obtain ⟨rfl, rfl⟩ := Prod.mk.inj h
      exact ⟨by omega, rfl⟩
    go_enter Tryz.func56, Tryz.ntmps56
    go_wp2_with (go_at_call 97; refine HI.out.mono ?_; rintro e w1 ⟨rfl, rfl⟩)
    go_ret2
    exact ⟨ret_two (i64_eq (by rw [HV.out, if_pos HR.out.2, HR.out.1])) (i64_eq HR.out.2.symm), rfl⟩
  · have h1 : ¬ 0 ≤ i := h0
    by_cases hl : 8192 ≤ S.size
    · have HR : Hid (f1 = 0 ∧ f2 = 3) := by
        have h := HF.out
        rw [if_neg h0, if_pos hl] at h
        obtain ⟨rfl, rfl⟩ := Prod.mk.inj h
        exact ⟨rfl, rfl⟩
      go_enter Tryz.func56, Tryz.ntmps56
      go_wp2_with (go_at_call 97; refine HI.out.mono ?_; rintro e w1 ⟨rfl, rfl⟩)
      go_ret2
      exact ⟨ret_two (i64_eq (by rw [HV.out, HR.out.2]; rfl)) (i64_eq HR.out.2.symm), rfl⟩
    · have HR : Hid (f1 = 0 ∧ f2 = 6) := by
        have h := HF.out
        rw [if_neg h0, if_neg hl] at h
        obtain ⟨rfl, rfl⟩ := Prod.mk.inj h
        exact ⟨rfl, rfl⟩
      go_enter Tryz.func56, Tryz.ntmps56
      go_wp2_with (go_at_call 97; refine HI.out.mono ?_; rintro e w1 ⟨rfl, rfl⟩)
      go_ret2
      exact ⟨ret_two (i64_eq (by rw [HV.out, HR.out.2]; rfl)) (i64_eq HR.out.2.symm), rfl⟩

/-- so many bytes -/
def takeM (s : List UInt8) (n most : Int) : List UInt8 × Int × Int := if most < n then ([], 0, 3) else if (s.length : Int) < n then ([], 0, 6) else (s.take n.toNat, n, 0)
/-- what a body's taking leaves: the block, if there was no error -/
def TookM (w : World) (R : Nat) (cs : Array Value) (r : List UInt8 × Int × Int) (e : Ending) (w' : World) : Prop :=
  e = .returned (.tuple #[.int .i64 r.2.1, .int .i64 r.2.2]) ∧ (r.2.2 = 0 → blk w' R (cs.setIfInBounds 2 (.string (bs r.1)))) ∧ w.grownBy w' (some R)
set_option maxHeartbeats 1000000 in
set_option maxRecDepth 100000 in
theorem takeBytes_any (R : Nat) (cs : Array Value) (s : List UInt8) (n most : Int) (w : World) (hb : blk w R cs) (h2 : cs[2]? = some (.string (bs []))) (h3 : cs[3]? = some (.int .i64 most)) (hs : s.length ≤ 1048576) (hn : 0 ≤ n) :
    Calls Tryz.prog 100 #[.pointer (some ⟨R, 0, none⟩), .string (bs s), .int .i64 n] w (TookM w R cs (takeM s n most)) := by
  have c2 := hb.cell 2 _ h2
  have c3 := hb.cell 3 _ h3
  have f2 := hb.free 2
  have hlt := hb.lt
  obtain ⟨S, hSe, hSl, hSz⟩ := text_of s
  rw [← hSe]
  rw [← hSz] at hs
  have hT : takeM s n most = if most < n then ([], 0, 3) else if (S.size : Int) < n then ([], 0, 6) else (s.take n.toNat, n, 0) := by unfold takeM; rw [← hSz]
  have hsl := hSl; have hsz := hSz
  have HB := Lib.hid hb; have HT := Lib.hid hT; have HSL := Lib.hid hsl; clear hb hT hSe hSl hSz hsl hsz h2 h3
  by_cases h1 : most < n
  · have HR : Hid (takeM s n most = ([], 0, 3)) := by have h := HT.out; rw [if_pos h1] at h; exact h
    go_enter Tryz.func100, Tryz.ntmps100
    go_wp2_with fail
    go_ret2
    exact ⟨by rw [HR.out]; rfl, fun h => by rw [HR.out] at h; exact absurd h (by decide), grown_refl _ _⟩
  · by_cases h4 : (S.size : Int) < n
    · have HR : Hid (takeM s n most = ([], 0, 6)) := by have h := HT.out; rw [if_neg h1, if_pos h4] at h; exact h
      go_enter Tryz.func100, Tryz.ntmps100
      go_wp2_with fail
      go_ret2
      exact ⟨by rw [HR.out]; rfl, fun h => by rw [HR.out] at h; exact absurd h (by decide), grown_refl _ _⟩
    · have HR : Hid (takeM s n most = (s.take n.toNat, n, 0)) := by have h := HT.out; rw [if_neg h1, if_neg h4] at h; exact h
      obtain ⟨k, rfl⟩ : ∃ k : Nat, n = (k : Int) := ⟨n.toNat, by omega⟩
      have hex : S.extract 0 k = bs (s.take k) := ext_upto HSL.out k
      have HEX := Lib.hid hex; clear hex
      go_enter Tryz.func100, Tryz.ntmps100
      go_wp2_with fail
      refine (clone_any _ _ (by simp; omega)).mono ?_
      rintro e w1 ⟨rfl, hb1⟩
      have d2 : w1.cell? ⟨R, 2, none⟩ = some (.string (bs [])) := (hb1.cell (p := ⟨R, 2, none⟩) hlt).trans c2
      have g2 : w1.frozen? ⟨R, 2, none⟩ = false := (hb1.frozen (p := ⟨R, 2, none⟩) hlt).trans f2
      have HB1 := Lib.hid (HB.out.below hb1); have HG := Lib.hid (grown_below hb1 (some R))
      clear hb1 c2 c3 f2
      go_wp2_with fail
      go_ret2
      refine ⟨by rw [HR.out]; rfl, fun _ => ?_, grown_trans HG.out (grown_set _ _ _ _)⟩
      rw [HR.out]
      have h := HB1.out.set 2 (.string (bs (s.take k)))
      rw [← HEX.out] at h
      simpa [HEX.out] using h

theorem body_kind1 {k n most : Int} {s : List UInt8} (h : k = 1) : bodyM s (k, n) most = takeM s n most := by subst h; rfl
theorem body_kind2 {k n most : Int} {s : List UInt8} (h : k = 2) : bodyM s (k, n) most = ((decodeL s most).1, ((decodeL s most).2.1 : Int), (decodeL s most).2.2.2) := by subst h; rfl
theorem body_kind3 {k n most : Int} {s : List UInt8} (h : k = 3) : bodyM s (k, n) most = takeM s s.length most := by
  subst h
  unfold bodyM takeM
  simp only [Int.reduceEq, if_false, if_true]
  split
  · rfl
  · rw [if_neg (by omega)]; simp
theorem body_kind0 {k n most : Int} {s : List UInt8} (h1 : ¬ k = 1) (h2 : ¬ k = 2) (h3 : ¬ k = 3) : bodyM s (k, n) most = ([], 0, 0) := by
  unfold bodyM; rw [if_neg h1, if_neg h2, if_neg h3]
theorem set_same {cs : Array Value} {j : Nat} {v : Value} (h : cs[j]? = some v) : cs.setIfInBounds j v = cs := by
  apply Array.ext_getElem?
  intro i
  rw [Array.getElem?_setIfInBounds]
  split
  · rename_i e; subst e
    split
    · exact h.symm
    · rename_i hn; rw [Array.getElem?_eq_none (by omega)] at h; cases h
  · rfl
theorem tookM_of {w w1 : World} {R : Nat} {cs : Array Value} {r : List UInt8 × Int × Int} {e : Ending} {w' : World} (hg : w.grownBy w1 (some R)) (h : TookM w1 R cs r e w') : TookM w R cs r e w' := ⟨h.1, h.2.1, grown_trans hg h.2.2⟩
set_option maxHeartbeats 1000000 in
set_option maxRecDepth 100000 in
theorem takeBody_any (R : Nat) (cs : Array Value) (s : List UInt8) (k n most : Int) (w : World) (he : EnvC w) (hb : blk w R cs) (h2 : cs[2]? = some (.string (bs []))) (h3 : cs[3]? = some (.int .i64 most)) (hs : s.length ≤ 1048576) (hn : 0 ≤ n) :
    Calls Tryz.prog 59 #[.pointer (some ⟨R, 0, none⟩), .string (bs s), .agg #[.int .i64 k, .int .i64 n]] w (TookM w R cs (bodyM s (k, n) most)) := by
  have hal : Below w.heap.size w (w.alloc (.cells #[.int .i64 k, .int .i64 n] 116)) := (Below.refl _ _).alloc (Nat.le_refl _) _
  have hba := hb.below hal
  have c3 := hba.cell 3 _ h3
  have hpar := blk.new w #[.int .i64 k, .int .i64 n] 116
  have p0 := hpar.cell 0 _ rfl
  have p1 := hpar.cell 1 _ rfl
  have HG := Lib.hid (grown_below hal (some R))
  have HB := Lib.hid hba
  have HE := Lib.hid (he.bel hal)
  have HT : Hid (∀ x : Int, 0 ≤ x → Calls Tryz.prog 100 #[.pointer (some ⟨R, 0, none⟩), .string (bs s), .int .i64 x] (w.alloc (.cells #[.int .i64 k, .int .i64 n] 116)) (TookM (w.alloc (.cells #[.int .i64 k, .int .i64 n] 116)) R cs (takeM s x most))) := fun x hx => takeBytes_any R cs s x most _ hba h2 h3 hs hx
  have HD : Hid (Calls Tryz.prog 101 #[.string (bs s), .int .i64 most] (w.alloc (.cells #[.int .i64 k, .int .i64 n] 116)) (RetD (w.alloc (.cells #[.int .i64 k, .int .i64 n] 116)) (decodeL s most))) := decode_any s most _ HE.out hs
  have H2 := Lib.hid h2
  have hsz : (bs s).size = s.length := bs_size s
  clear he hb hba hpar hal h2 h3
  by_cases k1 : k = 1
  · have HR := Lib.hid (body_kind1 (n := n) (most := most) (s := s) k1)
    subst k1
    go_enter Tryz.func59, Tryz.ntmps59
    go_wp2_with fail
    refine (HT.out n hn).mono ?_
    rintro e w2 ⟨rfl, hb2, hg2⟩
    have HB2 := Lib.hid hb2; have HG2 := Lib.hid hg2; clear hb2 hg2
    go_wp2_with fail
    go_ret2
    exact ⟨by rw [HR.out]; rfl, by rw [HR.out]; exact HB2.out, grown_trans HG.out HG2.out⟩
  · have hd1 : (k == 1) = false := beq_eq_false_iff_ne.2 k1
    by_cases k2 : k = 2
    · have HR := Lib.hid (body_kind2 (n := n) (most := most) (s := s) k2)
      subst k2
      clear hd1 k1
      go_enter Tryz.func59, Tryz.ntmps59
      go_wp2_with fail
      refine HD.out.mono ?_
      rintro e w2 ⟨v2, rfl, ho2, hb2⟩
      have HB2 := Lib.hid (HB.out.below hb2); have HG2 := Lib.hid (grown_below hb2 (some R)); clear ho2 hb2
      have c2 := HB2.out.cell 2 _ H2.out
      have f2 := HB2.out.free 2
      go_wp2_with fail
      go_ret2
      exact ⟨by rw [HR.out]; rfl, fun _ => by rw [HR.out]; exact HB2.out.set 2 _, grown_trans HG.out (grown_trans HG2.out (grown_set _ _ _ _))⟩
    · have hd2 : (k == 2) = false := beq_eq_false_iff_ne.2 k2
      by_cases k3 : k = 3
      · have HR := Lib.hid (body_kind3 (n := n) (most := most) (s := s) k3)
        subst k3
        clear hd1 k1 hd2 k2
        have HT3 := Lib.hid (HT.out (s.length : Int) (by omega))
        go_enter Tryz.func59, Tryz.ntmps59
        go_wp2_with fail
        refine HT3.out.mono ?_
        rintro e w2 ⟨rfl, hb2, hg2⟩
        have HB2 := Lib.hid hb2; have HG2 := Lib.hid hg2; clear hb2 hg2
        go_wp2_with fail
        go_ret2
        exact ⟨by rw [HR.out]; rfl, by rw [HR.out]; exact HB2.out, grown_trans HG.out HG2.out⟩
      · have hd3 : (k == 3) = false := beq_eq_false_iff_ne.2 k3
        have HR := Lib.hid (body_kind0 (n := n) (most := most) (s := s) k1 k2 k3)
        clear k1 k2 k3
        go_enter Tryz.func59, Tryz.ntmps59
        go_wp2_with fail
        go_ret2
        exact ⟨by rw [HR.out]; rfl, fun _ => by rw [HR.out]; rw [set_same H2.out]; exact HB.out, HG.out⟩

/-- the blocks of a request and of a reply that are being read -/
def qCells (n : Int) (v b : Value) (most : Int) (m t : List UInt8) : Array Value := #[.int .i64 n, v, b, .int .i64 most, .string (bs m), .string (bs t)]
def pCells (n : Int) (v b : Value) (most c : Int) (r : List UInt8) (d : Bool) : Array Value := #[.int .i64 n, v, b, .int .i64 most, .int .i64 c, .string (bs r), .bool d]
set_option maxHeartbeats 1000000 in
set_option maxRecDepth 100000 in
theorem takeStartQ_any (R : Nat) (s : List UInt8) (most : Int) (w : World) (he : EnvM w) (hb : blk w R (qCells 0 (.slice none 0 0) (.string (bs [])) most [] [])) (hs : s.length ≤ 1048576) :
    Calls Tryz.prog 28 #[.pointer (some ⟨R, 0, none⟩), .string (bs s)] w fun e w' =>
      e = .returned (.int .i64 (reqE s)) ∧ blk w' R (qCells (reqN s) (.slice none 0 0) (.string (bs [])) most (reqM s) (reqT s)) ∧ w.grownBy w' (some R) := by
  have hq := request_any (bs s) w he.2 (by rw [bs_size]; exact hs)
  rw [bs_data] at hq
  unfold qCells at hb
  have HQ := Lib.hid hq; have HB := Lib.hid hb; clear hq hb he
  go_enter Tryz.func28, Tryz.ntmps28
  go_wp2_with fail
  refine HQ.out.mono ?_
  rintro e w2 ⟨rfl, hb2⟩
  have HB2 := Lib.hid (HB.out.below hb2); have HG2 := Lib.hid (grown_below hb2 (some R)); clear hb2
  have c4 := HB2.out.cell 4 _ rfl
  have f4 := HB2.out.free 4
  have c5 := (HB2.out.set 4 (.string (bs (reqM s)))).cell 5 _ rfl
  have f5 := (HB2.out.set 4 (.string (bs (reqM s)))).free 5
  have c0 := ((HB2.out.set 4 (.string (bs (reqM s)))).set 5 (.string (bs (reqT s)))).cell 0 _ rfl
  have f0 := ((HB2.out.set 4 (.string (bs (reqM s)))).set 5 (.string (bs (reqT s)))).free 0
  go_wp2_with fail
  go_ret
  exact ⟨rfl, ((HB2.out.set 4 (.string (bs (reqM s)))).set 5 (.string (bs (reqT s)))).set 0 (.int .i64 (reqN s)), grown_trans HG2.out (grown_trans (grown_trans (grown_set _ _ _ _) (grown_set _ _ _ _)) (grown_set _ _ _ _))⟩
set_option maxHeartbeats 1000000 in
set_option maxRecDepth 100000 in
theorem takeStartP_any (R : Nat) (s : List UInt8) (most : Int) (d : Bool) (w : World) (he : EnvM w) (hb : blk w R (pCells 0 (.slice none 0 0) (.string (bs [])) most 0 [] d)) (hs : s.length ≤ 1048576) :
    Calls Tryz.prog 35 #[.pointer (some ⟨R, 0, none⟩), .string (bs s)] w fun e w' =>
      e = .returned (.int .i64 (staE s)) ∧ blk w' R (pCells (staN s) (.slice none 0 0) (.string (bs [])) most (staC s) (staR s) d) ∧ w.grownBy w' (some R) := by
  have hq := status_any (bs s) w he.2 (by rw [bs_size]; exact hs)
  rw [bs_data] at hq
  unfold pCells at hb
  have HQ := Lib.hid hq; have HB := Lib.hid hb; clear hq hb he
  go_enter Tryz.func35, Tryz.ntmps35
  go_wp2_with fail
  refine HQ.out.mono ?_
  rintro e w2 ⟨rfl, hb2⟩
  have HB2 := Lib.hid (HB.out.below hb2); have HG2 := Lib.hid (grown_below hb2 (some R)); clear hb2
  have c4 := HB2.out.cell 4 _ rfl
  have f4 := HB2.out.free 4
  have c5 := (HB2.out.set 4 (.int .i64 (staC s))).cell 5 _ rfl
  have f5 := (HB2.out.set 4 (.int .i64 (staC s))).free 5
  have c0 := ((HB2.out.set 4 (.int .i64 (staC s))).set 5 (.string (bs (staR s)))).cell 0 _ rfl
  have f0 := ((HB2.out.set 4 (.int .i64 (staC s))).set 5 (.string (bs (staR s)))).free 0
  go_wp2_with fail
  go_ret
  exact ⟨rfl, ((HB2.out.set 4 (.int .i64 (staC s))).set 5 (.string (bs (staR s)))).set 0 (.int .i64 (staN s)), grown_trans HG2.out (grown_trans (grown_trans (grown_set _ _ _ _) (grown_set _ _ _ _)) (grown_set _ _ _ _))⟩

set_option maxHeartbeats 1000000 in
set_option maxRecDepth 100000 in
theorem frameQ_any (R : Nat) (n most : Int) (v b : Value) (m t : List UInt8) (l : List Fld) (w : World) (he : EnvM w) (hb : blk w R (qCells n v b most m t)) (h : FL w v l) (hs : smallF l) (hl : l.length ≤ 1048576) :
    Calls Tryz.prog 29 #[.pointer (some ⟨R, 0, none⟩)] w fun e w' => e = .returned (ansV (askR l)) ∧ Below w.heap.size w w' := by
  have hal : Below w.heap.size w (w.alloc (.cells #[.int .i64 0, .int .i64 0] 116)) := (Below.refl _ _).alloc (Nat.le_refl _) _
  have hba := hb.below hal
  unfold qCells at hba
  have c1 := hba.cell 1 v rfl
  have hbn := blk.new w #[.int .i64 0, .int .i64 0] 116
  have hq := frameAsk_any v l _ (he.bel hal).2 (h.bel hal) hs hl
  have HQ := Lib.hid hq; have HBN := Lib.hid hbn; have HAL := Lib.hid hal; clear hq hba hb hbn hal he h hs hl
  go_enter Tryz.func29, Tryz.ntmps29
  go_wp2_with fail
  refine HQ.out.mono ?_
  rintro e w2 ⟨rfl, hb2⟩
  generalize hr : askR l = r at *
  have HRR := Lib.hid hr; clear hr
  obtain ⟨r0, r1, r2⟩ := r
  unfold ansV
  obtain ⟨⟨s1, s2⟩, ⟨s3, s4⟩, m1, m2⟩ := (HBN.out.below hb2).asks2 (.int .i64 r0) (.int .i64 r1)
  have HB4 := Lib.hid (((HAL.out.trans (hb2.mono HAL.out.size)).setCell (p := ⟨w.heap.size, 0, none⟩) (Nat.le_refl w.heap.size) (.int .i64 r0)).setCell (p := ⟨w.heap.size, 1, none⟩) (Nat.le_refl w.heap.size) (.int .i64 r1))
  clear hb2
  go_wp2_with fail
  exact bodyPost_ret (v := ansV (r0, r1, r2)) (by simp [results, Tryz.results29, go_sem, m1, m2, ansV]) rfl ⟨by rw [HRR.out], HB4.out⟩
set_option maxHeartbeats 1000000 in
set_option maxRecDepth 100000 in
theorem frameP_any (R : Nat) (n most c : Int) (v b : Value) (rs : List UInt8) (d : Bool) (l : List Fld) (w : World) (he : EnvM w) (hb : blk w R (pCells n v b most c rs d)) (h : FL w v l) (hs : smallF l) (hl : l.length ≤ 1048576) :
    Calls Tryz.prog 36 #[.pointer (some ⟨R, 0, none⟩)] w fun e w' => e = .returned (ansV (tellR l c d)) ∧ Below w.heap.size w w' := by
  have hal : Below w.heap.size w (w.alloc (.cells #[.int .i64 0, .int .i64 0] 116)).drew := ((Below.refl _ _).alloc (Nat.le_refl _) _).drew
  have hba := hb.below hal
  unfold pCells at hba
  have c1 := hba.cell 1 v rfl
  have c4 := hba.cell 4 _ rfl
  have c6 := hba.cell 6 _ rfl
  have hbn : blk (w.alloc (.cells #[.int .i64 0, .int .i64 0] 116)).drew w.heap.size #[.int .i64 0, .int .i64 0] := blk.new w #[.int .i64 0, .int .i64 0] 116
  have hq := frameTell_any v l c d _ (he.bel hal).2 (h.bel hal) hs hl
  have HS := Lib.hid hba; have HNE : Hid (R ≠ w.heap.size) := Nat.ne_of_lt hb.lt
  have HQ := Lib.hid hq; have HBN := Lib.hid hbn; have HAL := Lib.hid hal; clear hq hba hb hbn hal he h hs hl
  go_enter Tryz.func36, Tryz.ntmps36
  go_wp2_with fail
  -- REGION 1
  refine wp_region_growS (.one 0 false (.one 1 false (.one 2 false (.one 3 false (.one 4 false (.one 5 false (.one 6 false (.one 7 false (.one 8 false (.one 9 false (.one 10 false (.one 11 false (.one 12 false (.one 13 true (.one 14 false (.one 15 false (.one 16 true (.one 17 false .done))))))))))))))))))
    (fun W => blk W R #[.int .i64 n, v, b, .int .i64 most, .int .i64 c, .string (bs rs), .bool d]) (by kernel_rfl) (by kernel_rfl) rfl (by kernel_rfl) (by kernel_rfl) HS.out (fun ops hops => ?_)
  simp only [GT.ins, List.getD_cons_zero, List.getD_cons_succ]
  clear hops
  iterate 13
    refine growS_take (by rfl) ?_
    apply Exists.intro
    refine ⟨fun w' hE => ?_, ?_⟩
    · have q1 := hE.cell 1 v rfl; have q4 := hE.cell 4 (.int .i64 c) rfl; have q6 := hE.cell 6 (.bool d) rfl
      go_simp
      try with_reducible rfl
    simp only [Act.put, List.setIfInBounds_toArray, List.set_cons_zero, List.set_cons_succ]
  refine growS_call (by rfl) (fun K hK => ?_)
  go_simp
  refine HQ.out.mono ?_
  rintro e w2 ⟨rfl, hb2⟩
  generalize hr : tellR l c d = r at *
  have HRR := Lib.hid hr; clear hr
  obtain ⟨r0, r1, r2⟩ := r
  have HS2 := Lib.hid (HS.out.below hb2)
  refine hK.out _ _ HS2.out ?_
  clear hK K
  unfold ansV
  obtain ⟨⟨s1, s2⟩, ⟨s3, s4⟩, m1, m2⟩ := (HBN.out.below hb2).asks2 (.int .i64 r0) (.int .i64 r1)
  have HB4 := Lib.hid (((HAL.out.trans (hb2.mono HAL.out.size)).setCell (p := ⟨w.heap.size, 0, none⟩) (Nat.le_refl w.heap.size) (.int .i64 r0)).setCell (p := ⟨w.heap.size, 1, none⟩) (Nat.le_refl w.heap.size) (.int .i64 r1))
  clear hb2
  iterate 2
    refine growS_take (by rfl) ?_
    apply Exists.intro
    refine ⟨fun w' hE => ?_, ?_⟩
    · have q1 := hE.cell 1 v rfl; have q4 := hE.cell 4 (.int .i64 c) rfl; have q6 := hE.cell 6 (.bool d) rfl
      go_simp
      try with_reducible rfl
    simp only [Act.put, List.setIfInBounds_toArray, List.set_cons_zero, List.set_cons_succ]
  refine growS_call (by rfl) (fun K hK => ?_)
  go_simp
  refine hK.out _ _ ((HS2.out.other HNE.out _).other HNE.out _) ?_
  clear hK K
  iterate 1
    refine growS_take (by rfl) ?_
    apply Exists.intro
    refine ⟨fun w' hE => ?_, ?_⟩
    · have q1 := hE.cell 1 v rfl; have q4 := hE.cell 4 (.int .i64 c) rfl; have q6 := hE.cell 6 (.bool d) rfl
      go_simp
      try with_reducible rfl
    simp only [Act.put, List.setIfInBounds_toArray, List.set_cons_zero, List.set_cons_succ]
  refine growS_done (NoPanic.normal ?_)
  -- END
  go_wp2_with fail
  exact bodyPost_ret (v := ansV (r0, r1, r2)) (by simp [results, Tryz.results36, go_sem, m1, m2, ansV]) rfl ⟨by rw [HRR.out], HB4.out⟩
end Go.Proofs.YtgkjjmcjlobbpaaGreatDoor

/- A message, read: its head, its first line, its fields, its body. -/
namespace Go.Proofs.YtgkjjmcjlobbpaaGreatDoor
open Go.RowKit

theorem used_behind {c : List UInt8} {k n m : Nat} {d : Dec} (h1 : k + d.2.1 ≤ n) (h2 : c.length + d.1.length ≤ m) : (behind c k d).2.1 ≤ n ∧ (behind c k d).1.length ≤ m := by
  unfold behind
  split
  · exact ⟨h1, by simpa using h2⟩
  · exact ⟨Nat.zero_le _, Nat.zero_le _⟩
theorem decF_used : ∀ (k : Nat) (r : List UInt8) (room : Nat), (decF k r room).2.1 ≤ r.length ∧ (decF k r room).1.length ≤ room
  | 0, _, _ => ⟨Nat.zero_le _, Nat.zero_le _⟩
  | k + 1, r, room => by
    unfold decF
    by_cases h : (headL r room).2.2 = 0
    · obtain ⟨_, h2, h3, _⟩ := head_ok h
      rw [if_pos h]
      by_cases hz : (headL r room).1 = 0
      · rw [if_pos hz]
        by_cases h5 : (lastsL (r.drop (headL r room).2.1)).2.2 = 0
        · have := (lasts_ok h5).2
          rw [List.length_drop] at this
          unfold lastsD
          rw [if_pos h5]
          exact used_behind (by simp only; omega) (by simp)
        · unfold lastsD
          rw [if_neg h5]
          exact used_behind (by simpa [bad] using h2) (by simp [bad])
      · rw [if_neg hz]
        by_cases h5 : (chunkL (r.drop (headL r room).2.1) (headL r room).1).2.2 = 0
        · rw [if_pos h5]
          obtain ⟨c1, c2, c3, _⟩ := chunk_ok h5
          have ih := decF_used k ((r.drop (headL r room).2.1).drop (chunkL (r.drop (headL r room).2.1) (headL r room).1).2.1) (room - (headL r room).1)
          have hl : (chunkL (r.drop (headL r room).2.1) (headL r room).1).1.length ≤ (headL r room).1 := by rw [c1]; exact List.length_take_le _ _
          rw [List.length_drop, List.length_drop] at ih
          rw [List.length_drop] at c3
          have hB := used_behind (c := (chunkL (r.drop (headL r room).2.1) (headL r room).1).1) (k := (chunkL (r.drop (headL r room).2.1) (headL r room).1).2.1) (n := r.length - (headL r room).2.1) (m := room)
            (d := decF k ((r.drop (headL r room).2.1).drop (chunkL (r.drop (headL r room).2.1) (headL r room).1).2.1) (room - (headL r room).1)) (by omega) (by omega)
          exact used_behind (by omega) (by simpa using hB.2)
        · rw [if_neg h5]
          exact used_behind (by simpa [bad] using h2) (by simp [bad])
    · rw [if_neg h]
      exact ⟨Nat.zero_le _, Nat.zero_le _⟩
theorem dec_used (s : List UInt8) (most : Int) : (decodeL s most).2.1 ≤ s.length ∧ (decodeL s most).1.length ≤ roomOf most := decF_used _ _ _
theorem body_used (s : List UInt8) (f : Int × Int) (most : Int) (h0 : 0 ≤ f.2) : 0 ≤ (bodyM s f most).2.1 ∧ (bodyM s f most).2.1 ≤ s.length := by
  unfold bodyM
  split
  · split
    · simp
    · split
      · simp
      · simp only; omega
  · split
    · have := (dec_used s most).1
      simp only; omega
    · split
      · split
        · simp
        · simp
      · simp
theorem topM_start (s : List UInt8) : (startM s).length ≤ s.length ∧ (fieldM s).length ≤ s.length := by
  have h1 : (topM s).length ≤ s.length := by unfold topM; exact List.length_take_le' _ _
  have h2 := cut_le (topM s) [13, 10]
  exact ⟨Nat.le_trans h2.1 h1, Nat.le_trans h2.2 h1⟩
/-- where a message's parts lie while it is read: the cells once the first line is taken, by its fields and its body -/
structure Cells (cs : Value → Value → Array Value) (most : Int) : Prop where
  get1 : ∀ v b, (cs v b)[1]? = some v
  get2 : ∀ v b, (cs v b)[2]? = some b
  get3 : ∀ v b, (cs v b)[3]? = some (.int .i64 most)
  set1 : ∀ v b x, (cs v b).setIfInBounds 1 x = cs x b
  set2 : ∀ v b x, (cs v b).setIfInBounds 2 x = cs v x
/-- what reading leaves -/
def ReadM (w0 : World) (R : Nat) (cs : Value → Value → Array Value) (m : Msg) (e : Ending) (w' : World) : Prop :=
  ∃ u, e = .returned (.tuple #[.int .i64 u, .int .i64 m.2.2.2]) ∧ (m.2.2.2 = 0 → u = m.2.2.1 ∧ ∃ v base, blk w' R (cs v (.string (bs m.2.1))) ∧ R < base ∧ ownF w' base v m.1) ∧ Below w0.heap.size w0 w'
theorem readM_bad {w0 w' : World} {R : Nat} {cs : Value → Value → Array Value} {m : Msg} {E : Int} (h : m = badM E) (hE : E ≠ 0) (u : Int) (hb : Below w0.heap.size w0 w') : ReadM w0 R cs m (.returned (.tuple #[.int .i64 u, .int .i64 E])) w' := by
  subst h
  exact ⟨u, rfl, fun h => absurd h hE, hb⟩

section
variable {fr : List Fld → Int × Int × Int} {most : Int} {s : List UInt8} {l : List Fld} {P : List Fld × Int} {F : Int × Int × Int} {k n : Int} {B : List UInt8 × Int × Int}
theorem behind_parse (hp : parseL (fieldM s) = P) (h : P.2 ≠ 0) : behindM fr most s = badM P.2 := by
  subst hp; exact if_pos h
theorem behind_frame (hp : parseL (fieldM s) = (l, 0)) (hF : fr l = F) (h : F.2.2 ≠ 0) : behindM fr most s = badM F.2.2 := by
  subst hF
  unfold behindM
  rw [hp, if_neg (by simp), if_pos h]
theorem behind_body (hp : parseL (fieldM s) = (l, 0)) (hF : fr l = (k, n, 0)) (hB : bodyM (restM s) (k, n) most = B) (h : B.2.2 ≠ 0) : behindM fr most s = badM B.2.2 := by
  subst hB
  unfold behindM
  rw [hp]
  simp only [hF]
  rw [if_neg (by simp), if_neg (by simp), if_pos h]
theorem behind_all (hp : parseL (fieldM s) = (l, 0)) (hF : fr l = (k, n, 0)) (hB : bodyM (restM s) (k, n) most = B) (h : B.2.2 = 0) : behindM fr most s = (l, B.1, headN s + B.2.1, 0) := by
  subst hB
  unfold behindM
  rw [hp]
  simp only [hF]
  rw [if_neg (by simp), if_neg (by simp), if_neg (by rw [h]; simp)]
end
theorem smallF_parse {s : List UInt8} : smallF (parseL s).1 ∧ (parseL s).1.length ≤ 64 := by
  obtain ⟨h1, h2⟩ := check_zero (parse_check s).1
  refine ⟨fun j hj => ?_, h1⟩
  have := (chkF_zero (h2 _ (List.getElem_mem hj))).2
  unfold lenF at this
  omega

set_option maxHeartbeats 2000000 in
set_option maxRecDepth 100000 in
theorem readM_any (F1 F2 : FuncId) (e1 : ∀ args w, (callFunc F1 args).run Tryz.prog w = .ok (.enter F1 args) w) (e2 : ∀ args w, (callFunc F2 args).run Tryz.prog w = .ok (.enter F2 args) w)
    (R : Nat) (cs0 : Array Value) (cs : Value → Value → Array Value) (most : Int) (hcs : Cells cs most) (s : List UInt8) (se : Int) (fr : List Fld → Int × Int × Int) (w0 w : World)
    (he : EnvM w0) (h0 : Below w0.heap.size w0 w) (hR : w0.heap.size ≤ R) (hb : blk w R cs0) (hs : s.length ≤ 1048576)
    (hst : ∀ W, Below w0.heap.size w0 W → blk W R cs0 → Calls Tryz.prog F1 #[.pointer (some ⟨R, 0, none⟩), .string (bs (startM s))] W fun e w' => e = .returned (.int .i64 se) ∧ blk w' R (cs (.slice none 0 0) (.string (bs []))) ∧ W.grownBy w' (some R))
    (hfr : ∀ W v l, Below w0.heap.size w0 W → blk W R (cs v (.string (bs []))) → FL W v l → smallF l → l.length ≤ 1048576 → Calls Tryz.prog F2 #[.pointer (some ⟨R, 0, none⟩)] W fun e w' => e = .returned (ansV (fr l)) ∧ Below W.heap.size W w')
    (hkn : ∀ l, 0 ≤ (fr l).2.1) :
    Calls Tryz.prog 27 #[.pointer (some ⟨R, 0, none⟩), .string (bs s), .func (.func F1) #[.pointer (some ⟨R, 0, none⟩)] #[], .func (.func F2) #[.pointer (some ⟨R, 0, none⟩)] #[]] w (ReadM w0 R cs (msgL se fr most s)) := by
  have hhl := headLen_any s w (he.below h0 (Nat.le_refl _)).1.1 hs
  have HM : Hid (∀ m, msgL se fr most s = m → ReadM w0 R cs (msgL se fr most s) = ReadM w0 R cs m) := fun m h => by rw [h]
  obtain ⟨S, hSe, hSl, hSz⟩ := text_of s
  rw [← hSe] at hhl ⊢
  have HHL := Lib.hid hhl; have HSL := Lib.hid hSl; have HSZ := Lib.hid hSz
  have hsz : S.size ≤ 1048576 := by rw [hSz]; exact hs
  clear hhl hSe hSl hSz
  by_cases hq : (headF s).2 = 0
  · obtain ⟨hn1, hn2, hn3, _⟩ := headF_hit hq
    have hV : headV s = (headN s : Int) := if_pos hq
    have hR : msgL se fr most s = if se ≠ 0 then badM se else behindM fr most s := if_neg (by rw [hq]; decide)
    have hhl := HHL.out
    rw [hV, hq] at hhl
    have HR := Lib.hid hR
    obtain ⟨k, hk⟩ : ∃ k, headN s = k + 2 := ⟨headN s - 2, by omega⟩
    have htop : topM s = s.take k := by unfold topM; rw [hk]; rfl
    have hcut := fun W (hm : MaxL W) => cut_any (topM s) [13, 10] W hm (by rw [htop, List.length_take]; omega)
    rw [htop] at hcut
    rw [← ext_upto HSL.out k] at hcut
    have hls := topM_start s
    have hst1 : (Lib.cut (s.take k) [13, 10]).1 = startM s ∧ (Lib.cut (s.take k) [13, 10]).2.1 = fieldM s := by rw [← htop]; exact ⟨rfl, rfl⟩
    rw [hst1.1, hst1.2] at hcut
    rw [hk] at hhl hn1 hn2 hn3
    have hrest : restM s = s.drop (k + 2) := by unfold restM; rw [hk]
    have HC := Lib.hid hcut; have HHL2 := Lib.hid hhl; have HREST := Lib.hid hrest; have HK := Lib.hid hk; have HLS := Lib.hid hls
    clear hcut hhl hV hR hst1 htop hrest hq HHL hk hls
    generalize startM s = ST at *
    generalize hFD : fieldM s = FD at *
    have HFD := Lib.hid hFD; clear hFD
    have HRS := Lib.hid (restM_len s)
    generalize hRS : restM s = RS at *
    have HRE := Lib.hid hRS; clear hRS
    rw [← HSZ.out] at hn2
    go_enter Tryz.func27, Tryz.ntmps27
    go_wp2_with fail
    refine HHL2.out.mono ?_
    rintro e w1 ⟨rfl, rfl⟩
    go_wp2_with fail
    refine (HC.out _ (he.below h0 (Nat.le_refl _)).1.1).mono ?_
    rintro e w1 ⟨rfl, hb1⟩
    have HB1 := Lib.hid (h0.trans (hb1.mono h0.size)); have HK1 := Lib.hid (hb.below hb1)
    clear hb h0 hb1 HC HHL2
    by_cases hz : se = 0
    · subst hz
      have HR2 : Hid (msgL 0 fr most s = behindM fr most s) := HR.out
      clear HR
      go_wp2_with (go_at_fn F1; refine (hst w1 HB1.out HK1.out).mono ?_; rintro e w2 ⟨rfl, hb2, hg2⟩)
      have HB2 : Hid (Below w0.heap.size w0 w2) := HB1.out.grown hg2 HB1.out.size (by intro k hk; cases hk; exact hR)
      have HK2 := Lib.hid hb2
      clear hb2 hg2 HK1 HB1 hst
      refine (parse_any FD w2 (he.below HB2.out (Nat.le_refl _)).1.1 (Nat.le_trans HLS.out.2 hs)).mono ?_
      rintro e w3 ⟨v, rfl, ho3, hb3⟩
      have hsm := smallF_parse (s := FD)
      have HPE : Hid (parseL (fieldM s) = parseL FD) := congrArg parseL HFD.out
      have HB3 := Lib.hid (HB2.out.trans (hb3.mono HB2.out.size))
      have HK3 := Lib.hid (HK2.out.below hb3)
      have hRlt : R < w2.heap.size := HK2.out.lt
      clear HK2 HB2 hb3
      obtain ⟨A, c, rfl⟩ := ho3.form
      generalize parseL FD = P at *
      obtain ⟨l, pe⟩ := P
      have c1 := HK3.out.cell 1 _ (hcs.get1 _ _)
      have f1 := HK3.out.free 1
      have HO3 : Hid (ownF w3 w2.heap.size (.slice A l.length c) l) := ho3
      have HSM := Lib.hid hsm
      clear ho3 hsm
      have HK4 : Hid (blk (w3.setCell ⟨R, 1, none⟩ (.slice A l.length c)) R (cs (.slice A l.length c) (.string (bs [])))) := by
        have h := HK3.out.set 1 (.slice A l.length c)
        rw [hcs.set1] at h
        exact h
      have HO4 : Hid (ownF (w3.setCell ⟨R, 1, none⟩ (.slice A l.length c)) w2.heap.size (.slice A l.length c) l) := HO3.out.far hRlt (grown_set _ _ _ _)
      have HB4 : Hid (Below w0.heap.size w0 (w3.setCell ⟨R, 1, none⟩ (.slice A l.length c))) := HB3.out.setCell hR _
      by_cases hz : pe = 0
      · subst hz
        have HF : Hid (Calls Tryz.prog F2 #[.pointer (some ⟨R, 0, none⟩)] (w3.setCell ⟨R, 1, none⟩ (.slice A l.length c)) fun e w' => e = .returned (ansV (fr l)) ∧ Below (w3.setCell ⟨R, 1, none⟩ (.slice A l.length c)).heap.size (w3.setCell ⟨R, 1, none⟩ (.slice A l.length c)) w') :=
          hfr _ _ l HB4.out HK4.out HO4.out.fl HSM.out.1 (Nat.le_trans HSM.out.2 (by decide))
        have hkl := hkn l
        clear hfr hkn HK3 HO3 HB3 HSM
        generalize hF : fr l = F at *
        have HFE := Lib.hid hF
        clear hF
        obtain ⟨q0, q1, q2⟩ := F
        unfold ansV at HF
        by_cases hq : q2 = 0
        · subst hq
          go_wp2_with (go_at_fn F2; refine HF.out.mono ?_; rintro e w5 ⟨rfl, hb5⟩)
          have hd5 : Below w5.heap.size w5 (w5.alloc (.cells #[.int .i64 q0, .int .i64 q1] 116)).drew := ((Below.refl _ _).alloc (Nat.le_refl _) _).drew
          have hn5 : blk (w5.alloc (.cells #[.int .i64 q0, .int .i64 q1] 116)).drew w5.heap.size #[.int .i64 q0, .int .i64 q1] := blk.new w5 _ 116
          have HB6 := Lib.hid ((HB4.out.trans (hb5.mono HB4.out.size)).trans (hd5.mono (HB4.out.trans (hb5.mono HB4.out.size)).size))
          have HK6 := Lib.hid ((HK4.out.below hb5).below hd5)
          have HO6 := Lib.hid ((HO4.out.bel hb5).bel hd5)
          have HN6 := Lib.hid hn5
          have HNE : Hid (w5.heap.size ≠ R) := by have := HK4.out.below hb5; have := this.lt; show _ ≠ _; omega
          have hex : S.extract (k + 2) S.size = bs RS := by rw [ext_from HSL.out, HREST.out]
          clear HF HB4 HK4 HO4 hb5 hd5 hn5 c1 f1
          generalize hw6 : (w5.alloc (.cells #[.int .i64 q0, .int .i64 q1] 116)).drew = w6 at *
          have HW6 := Lib.hid hw6; clear hw6
          have htb := takeBody_any R (cs (.slice A l.length c) (.string (bs []))) RS q0 q1 most w6 (he.below HB6.out (Nat.le_refl _)).1 HK6.out (hcs.get2 _ _) (hcs.get3 _ _) (Nat.le_trans HRS.out hs) hkl
          have hbu := body_used RS (q0, q1) most hkl
          have HBE : Hid (∀ B, bodyM RS (q0, q1) most = B → bodyM (restM s) (q0, q1) most = B) := fun B h => (congrArg (fun x => bodyM x (q0, q1) most) HRE.out).trans h
          generalize hB : bodyM RS (q0, q1) most = B at *
          have HBD := Lib.hid (HBE.out B rfl)
          clear hB HBE
          obtain ⟨b0, b1, b2⟩ := B
          rw [← hex] at htb
          have HTB := Lib.hid htb
          have hb2 : b1 ≤ 1048576 := by have := HRS.out; simp only at hbu; omega
          have hb1 : 0 ≤ b1 := hbu.1
          clear htb hex hbu
          -- REGION 14
          refine wp_region_growS (.one 0 false (.one 1 false (.one 2 false (.one 3 false (.one 4 false (.one 5 true (.one 6 false (.one 7 false (.one 8 false (.one 9 false (.one 10 false .done)))))))))))
            (fun W => blk W w5.heap.size #[.int .i64 q0, .int .i64 q1]) (by kernel_rfl) (by kernel_rfl) rfl (by kernel_rfl) (by kernel_rfl) (by rw [HW6.out]; exact HN6.out) (fun ops hops => ?_)
          simp only [GT.ins, List.getD_cons_zero, List.getD_cons_succ]
          rw [HW6.out]
          clear hops
          iterate 5
            refine growS_take (by rfl) ?_
            apply Exists.intro
            refine ⟨fun w' hE => ?_, ?_⟩
            · have q0' := hE.cell 0 (.int .i64 q0) rfl; have q1' := hE.cell 1 (.int .i64 q1) rfl; have hk1 : 0 ≤ (k : Int) + 2 := (by omega); have hk2 : (k : Int) + 2 ≤ (S.size : Int) := (by omega); have hk3 : ((k : Int) + 2).toNat = k + 2 := (by omega)
              go_simp
              try with_reducible rfl
            simp only [Act.put, List.setIfInBounds_toArray, List.set_cons_zero, List.set_cons_succ]
          refine growS_call (by rfl) (fun K hK => ?_)
          go_simp
          refine HTB.out.mono ?_
          rintro e w7 ⟨rfl, hk7, hg7⟩
          have HK7 := Lib.hid hk7; have HG7 := Lib.hid hg7
          have HS7 := Lib.hid (HN6.out.grown HNE.out hg7)
          clear hk7 hg7
          refine hK.out _ _ HS7.out ?_
          clear hK K
          iterate 5
            refine growS_take (by rfl) ?_
            apply Exists.intro
            refine ⟨fun w' hE => ?_, ?_⟩
            · have q0' := hE.cell 0 (.int .i64 q0) rfl; have q1' := hE.cell 1 (.int .i64 q1) rfl; have hk1 : 0 ≤ (k : Int) + 2 := (by omega); have hk2 : (k : Int) + 2 ≤ (S.size : Int) := (by omega); have hk3 : ((k : Int) + 2).toNat = k + 2 := (by omega)
              go_simp
              try with_reducible rfl
            simp only [Act.put, List.setIfInBounds_toArray, List.set_cons_zero, List.set_cons_succ]
          refine growS_done (NoPanic.normal ?_)
          -- END
          go_wp2_with fail
          go_ret2
          have hb7 := HB6.out.grown HG7.out HB6.out.size (by intro k hk; cases hk; exact hR)
          by_cases hbz : b2 = 0
          · subst hbz
            have hA := HR2.out.trans (behind_all HPE.out HFE.out HBD.out rfl)
            rw [hA, HK.out]
            refine ⟨_, rfl, fun _ => ⟨by simp only; omega, .slice A l.length c, w2.heap.size, ?_, hRlt, HO6.out.far hRlt HG7.out⟩, hb7⟩
            have h := HK7.out rfl
            rw [hcs.set2] at h
            exact h
          · have hA := HR2.out.trans (behind_body HPE.out HFE.out HBD.out hbz)
            exact readM_bad hA hbz _ hb7
        · have hd : (q2 != 0) = true := bne_iff_ne.2 hq
          have HR3 : Hid (msgL 0 fr most s = badM q2) := HR2.out.trans (behind_frame HPE.out HFE.out hq)
          have HZ := Lib.hid hq
          clear HR2 hq
          go_wp2_with (go_at_fn F2; refine HF.out.mono ?_; rintro e w5 ⟨rfl, hb5⟩)
          go_ret2
          exact readM_bad HR3.out HZ.out _ ((HB4.out.trans (hb5.mono HB4.out.size)).alloc (Nat.le_trans HB4.out.size hb5.size) _)
      · have hd : (pe != 0) = true := bne_iff_ne.2 hz
        have HR3 : Hid (msgL 0 fr most s = badM pe) := HR2.out.trans (behind_parse HPE.out hz)
        have HZ := Lib.hid hz
        clear HR2 hz
        go_wp2_with fail
        go_ret2
        exact readM_bad HR3.out HZ.out _ HB4.out
    · have hd : (se != 0) = true := bne_iff_ne.2 hz
      have HR2 : Hid (msgL se fr most s = badM se) := HR.out.trans (if_pos hz)
      have HZ := Lib.hid hz
      clear HR hz
      go_wp2_with (go_at_fn F1; refine (hst w1 HB1.out HK1.out).mono ?_; rintro e w2 ⟨rfl, hb2, hg2⟩)
      go_ret2
      exact readM_bad HR2.out HZ.out _ (HB1.out.grown hg2 HB1.out.size (by intro k hk; cases hk; exact hR))
  · have hd : ((headF s).2 != 0) = true := bne_iff_ne.2 hq
    have HR : Hid (msgL se fr most s = badM (headF s).2) := if_pos hq
    have HQ := Lib.hid hq; have H0 := Lib.hid h0
    clear hq
    generalize (headF s).2 = E at *
    go_enter Tryz.func27, Tryz.ntmps27
    go_wp2_with fail
    refine HHL.out.mono ?_
    rintro e w1 ⟨rfl, rfl⟩
    go_wp2_with fail
    go_ret2
    exact readM_bad HR.out HQ.out _ H0.out
end Go.Proofs.YtgkjjmcjlobbpaaGreatDoor

/- A request and a reply, read: the message layer's Request and Reply. -/
namespace Go.Proofs.YtgkjjmcjlobbpaaGreatDoor
open Go.RowKit

theorem blk.asks5 {W : World} {R : Nat} {z0 z1 z2 z3 z4 : Value} (h : blk W R #[z0, z1, z2, z3, z4]) (u0 u1 u2 u3 : Value) :
    (W.cell? ⟨R, 0, none⟩ = some z0 ∧ W.frozen? ⟨R, 0, none⟩ = false) ∧
    ((W.setCell ⟨R, 0, none⟩ u0).cell? ⟨R, 1, none⟩ = some z1 ∧ (W.setCell ⟨R, 0, none⟩ u0).frozen? ⟨R, 1, none⟩ = false) ∧
    (((W.setCell ⟨R, 0, none⟩ u0).setCell ⟨R, 1, none⟩ u1).cell? ⟨R, 2, none⟩ = some z2 ∧ ((W.setCell ⟨R, 0, none⟩ u0).setCell ⟨R, 1, none⟩ u1).frozen? ⟨R, 2, none⟩ = false) ∧
    ((((W.setCell ⟨R, 0, none⟩ u0).setCell ⟨R, 1, none⟩ u1).setCell ⟨R, 2, none⟩ u2).cell? ⟨R, 3, none⟩ = some z3 ∧ (((W.setCell ⟨R, 0, none⟩ u0).setCell ⟨R, 1, none⟩ u1).setCell ⟨R, 2, none⟩ u2).frozen? ⟨R, 3, none⟩ = false) ∧
    (((((W.setCell ⟨R, 0, none⟩ u0).setCell ⟨R, 1, none⟩ u1).setCell ⟨R, 2, none⟩ u2).setCell ⟨R, 3, none⟩ u3).cell? ⟨R, 4, none⟩ = some z4 ∧ ((((W.setCell ⟨R, 0, none⟩ u0).setCell ⟨R, 1, none⟩ u1).setCell ⟨R, 2, none⟩ u2).setCell ⟨R, 3, none⟩ u3).frozen? ⟨R, 4, none⟩ = false) :=
  ⟨⟨h.cell 0 _ rfl, h.free 0⟩, ⟨(h.set 0 _).cell 1 _ rfl, (h.set 0 _).free 1⟩, ⟨((h.set 0 _).set 1 _).cell 2 _ rfl, ((h.set 0 _).set 1 _).free 2⟩, ⟨(((h.set 0 _).set 1 _).set 2 _).cell 3 _ rfl, (((h.set 0 _).set 1 _).set 2 _).free 3⟩, ⟨((((h.set 0 _).set 1 _).set 2 _).set 3 _).cell 4 _ rfl, ((((h.set 0 _).set 1 _).set 2 _).set 3 _).free 4⟩⟩
/-- five cells stored, one behind the other -/
def put5 (W : World) (R : Nat) (u0 u1 u2 u3 u4 : Value) : World := ((((W.setCell ⟨R, 0, none⟩ u0).setCell ⟨R, 1, none⟩ u1).setCell ⟨R, 2, none⟩ u2).setCell ⟨R, 3, none⟩ u3).setCell ⟨R, 4, none⟩ u4
theorem blk.put5 {W : World} {R : Nat} {z0 z1 z2 z3 z4 : Value} (h : blk W R #[z0, z1, z2, z3, z4]) (u0 u1 u2 u3 u4 : Value) : blk (put5 W R u0 u1 u2 u3 u4) R #[u0, u1, u2, u3, u4] :=
  ((((h.set 0 u0).set 1 u1).set 2 u2).set 3 u3).set 4 u4
theorem put5_grown (W : World) (R : Nat) (u0 u1 u2 u3 u4 : Value) : W.grownBy (put5 W R u0 u1 u2 u3 u4) (some R) :=
  grown_trans (grown_trans (grown_trans (grown_trans (grown_set _ _ _ _) (grown_set _ _ _ _)) (grown_set _ _ _ _)) (grown_set _ _ _ _)) (grown_set _ _ _ _)
theorem put5_below {B : Nat} {w W : World} {R : Nat} (hb : Below B w W) (hR : B ≤ R) (u0 u1 u2 u3 u4 : Value) : Below B w (put5 W R u0 u1 u2 u3 u4) :=
  ((((hb.setCell hR _).setCell hR _).setCell hR _).setCell hR _).setCell hR _

theorem endN_pos (a b : List (List UInt8)) : 0 ≤ endN a b := by unfold endN; split <;> omega
theorem ask_pos (l : List Fld) : 0 ≤ (askR l).2.1 := by
  unfold askR askV
  split
  · exact Int.le_refl 0
  · split
    · exact Int.le_refl 0
    · exact endN_pos _ _
theorem tell_pos (l : List Fld) (n : Int) (d : Bool) : 0 ≤ (tellR l n d).2.1 := by
  unfold tellR tellV
  split
  · exact Int.le_refl 0
  · split
    · exact Int.le_refl 0
    · split
      · exact Int.le_refl 0
      · split
        · exact Int.le_refl 0
        · exact endN_pos _ _
/-- what a request that is read is -/
def RetQ (w : World) (s : List UInt8) (e : Ending) (w' : World) : Prop :=
  ∃ v, e = .returned (.tuple #[.agg #[.string (bs (mM s)), .string (bs (tM s)), .int .i64 (nM s), v, .string (bs (askM s).2.1)], .int .i64 (askM s).2.2.1, .int .i64 (askM s).2.2.2]) ∧ ownF w' w.heap.size v (askM s).1 ∧ Below w.heap.size w w'
/-- what a reply that is read is -/
def RetY (w : World) (s : List UInt8) (d : Bool) (e : Ending) (w' : World) : Prop :=
  ∃ v, e = .returned (.tuple #[.agg #[.int .i64 (cM s d), .string (bs (rM s d)), .int .i64 (oM s d), v, .string (bs (tellM s d).2.1)], .int .i64 (tellM s d).2.2.1, .int .i64 (tellM s d).2.2.2]) ∧ ownF w' w.heap.size v (tellM s d).1 ∧ Below w.heap.size w w'

set_option maxHeartbeats 2000000 in
set_option maxRecDepth 100000 in
theorem msgRequest_any (s : List UInt8) (w : World) (he : EnvM w) (hs : s.length ≤ 1048576) :
    Calls Tryz.prog 11 #[.string (bs s)] w (RetQ w s) := by
  have hal0 : Below w.heap.size w (w.alloc (.cells #[.string ⟨#[]⟩, .string ⟨#[]⟩, .int .i64 0, .slice none 0 0, .string ⟨#[]⟩] 25)) := (Below.refl _ _).alloc (Nat.le_refl _) _
  have hbx0 := blk.new w #[.string ⟨#[]⟩, .string ⟨#[]⟩, .int .i64 0, .slice none 0 0, .string ⟨#[]⟩] 25
  have hsz0 : (w.alloc (.cells #[.string ⟨#[]⟩, .string ⟨#[]⟩, .int .i64 0, .slice none 0 0, .string ⟨#[]⟩] 25)).heap.size = w.heap.size + 1 := by simp
  have hR : RetQ w s = fun e w' => ∃ v, e = .returned (.tuple #[.agg #[.string (bs (mM s)), .string (bs (tM s)), .int .i64 (nM s), v, .string (bs (askM s).2.1)], .int .i64 (askM s).2.2.1, .int .i64 (askM s).2.2.2]) ∧ ownF w' w.heap.size v (askM s).1 ∧ Below w.heap.size w w' := rfl
  rw [hR]
  clear hR
  generalize hw0 : w.alloc (.cells #[.string ⟨#[]⟩, .string ⟨#[]⟩, .int .i64 0, .slice none 0 0, .string ⟨#[]⟩] 25) = w0 at *
  have hal1 : Below w0.heap.size w0 (w0.alloc (.cells (qCells 0 (.slice none 0 0) (.string (bs [])) 65536 [] []) 67)) := (Below.refl _ _).alloc (Nat.le_refl _) _
  have hbx1 := blk.new w0 (qCells 0 (.slice none 0 0) (.string (bs [])) 65536 [] []) 67
  have he0 : EnvM w0 := he.bel hal0
  have hst := (topM_start s).1
  have hrd := readM_any 28 29 (enters_of Tryz.func28 (by kernel_rfl) rfl) (enters_of Tryz.func29 (by kernel_rfl) rfl) w0.heap.size (qCells 0 (.slice none 0 0) (.string (bs [])) 65536 [] []) (fun v b => qCells (reqN (startM s)) v b 65536 (reqM (startM s)) (reqT (startM s))) 65536
    ⟨fun _ _ => rfl, fun _ _ => rfl, fun _ _ => rfl, fun _ _ _ => rfl, fun _ _ _ => rfl⟩ s (reqE (startM s)) askR w0 _ he0 hal1 (Nat.le_refl _) hbx1 hs
    (fun W hb hk => takeStartQ_any _ _ _ W (he0.below hb (Nat.le_refl _)) hk (Nat.le_trans hst hs))
    (fun W v l hb hk hl h1 h2 => frameQ_any _ _ _ v _ _ _ l W (he0.below hb (Nat.le_refl _)) hk hl h1 h2) ask_pos
  have hm : askM s = msgL (reqE (startM s)) askR 65536 s := rfl
  rw [← hm] at hrd
  have HW0 := Lib.hid hw0; have HRD := Lib.hid hrd; have HBX := Lib.hid hbx0; have HAL := Lib.hid hal0; have HSZ := Lib.hid hsz0
  clear hm hst he he0 hal0 hal1 hbx0 hbx1 hrd hsz0
  unfold qCells at HRD
  by_cases hq : (askM s).2.2.2 = 0
  · have HV : Hid ((mM s = reqM (startM s) ∧ tM s = reqT (startM s)) ∧ nM s = reqN (startM s)) := ⟨⟨if_pos hq, if_pos hq⟩, if_pos hq⟩
    generalize mM s = M1 at *; generalize tM s = M2 at *; generalize nM s = M3 at *
    generalize askM s = m at *
    obtain ⟨l, bd, us, er⟩ := m
    simp only at hq
    subst hq
    simp only
    go_enter Tryz.func11, Tryz.ntmps11
    go_wp2_with fail
    refine HRD.out.mono ?_
    rintro e w2 ⟨u, rfl, hok, hb2⟩
    obtain ⟨rfl, v, base, hk, hbase, ho⟩ := hok rfl
    obtain ⟨⟨rfl, rfl⟩, rfl⟩ := HV.out
    obtain ⟨A, c, rfl⟩ := ho.form
    simp only at hk
    have c0 := hk.cell 0 _ rfl
    have c1 := hk.cell 1 _ rfl
    have c2 := hk.cell 2 _ rfl
    have c4 := hk.cell 4 _ rfl
    have c5 := hk.cell 5 _ rfl
    have hbx : blk w2 w.heap.size #[.string ⟨#[]⟩, .string ⟨#[]⟩, .int .i64 0, .slice none 0 0, .string ⟨#[]⟩] := HBX.out.below hb2
    obtain ⟨⟨s0, z0⟩, ⟨s1, z1⟩, ⟨s2, z2⟩, ⟨s3, z3⟩, ⟨s4, z4⟩⟩ := hbx.asks5 (.string (bs (reqM (startM s)))) (.string (bs (reqT (startM s)))) (.int .i64 (reqN (startM s))) (.slice A l.length c)
    have hp := hbx.put5 (.string (bs (reqM (startM s)))) (.string (bs (reqT (startM s)))) (.int .i64 (reqN (startM s))) (.slice A l.length c) (.string (bs bd))
    have m0 := hp.cell 0 _ rfl
    have m1 := hp.cell 1 _ rfl
    have m2 := hp.cell 2 _ rfl
    have m3 := hp.cell 3 _ rfl
    have m4 := hp.cell 4 _ rfl
    have HO := Lib.hid ((ho.far (show w.heap.size < base by have := HSZ.out; omega) (put5_grown w2 w.heap.size (.string (bs (reqM (startM s)))) (.string (bs (reqT (startM s)))) (.int .i64 (reqN (startM s))) (.slice A l.length c) (.string (bs bd)))).mono (show w.heap.size ≤ base by have := HSZ.out; omega))
    have HB := Lib.hid (put5_below (HAL.out.trans (hb2.mono HAL.out.size)) (Nat.le_refl w.heap.size) (.string (bs (reqM (startM s)))) (.string (bs (reqT (startM s)))) (.int .i64 (reqN (startM s))) (.slice A l.length c) (.string (bs bd)))
    unfold put5 at m0 m1 m2 m3 m4
    clear hok hk hbx hp ho hb2 HW0 HRD HBX HAL HV
    go_wp2_with fail
    exact bodyPost_ret (v := .tuple #[.agg #[.string (bs (reqM (startM s))), .string (bs (reqT (startM s))), .int .i64 (reqN (startM s)), .slice A l.length c, .string (bs bd)], .int .i64 u, .int .i64 0]) (by simp [results, Tryz.results11, go_sem, m0, m1, m2, m3, m4]) rfl ⟨_, rfl, HO.out, HB.out⟩
  · have HP : Hid (askM s = badM (askM s).2.2.2) := msg_plain _ _ _ _ hq
    have HV : Hid ((mM s = [] ∧ tM s = []) ∧ nM s = 0) := ⟨⟨if_neg hq, if_neg hq⟩, if_neg hq⟩
    have hd : ((askM s).2.2.2 != 0) = true := bne_iff_ne.2 hq
    clear hq
    generalize mM s = M1 at *; generalize tM s = M2 at *; generalize nM s = M3 at *
    generalize askM s = m at *
    obtain ⟨l, bd, us, er⟩ := m
    simp only at hd
    simp only
    go_enter Tryz.func11, Tryz.ntmps11
    go_wp2_with fail
    refine HRD.out.mono ?_
    rintro e w2 ⟨u, rfl, -, hb2⟩
    have hbx : blk w2 w.heap.size #[.string ⟨#[]⟩, .string ⟨#[]⟩, .int .i64 0, .slice none 0 0, .string ⟨#[]⟩] := HBX.out.below hb2
    obtain ⟨⟨s0, z0⟩, ⟨s1, z1⟩, ⟨s2, z2⟩, ⟨s3, z3⟩, ⟨s4, z4⟩⟩ := hbx.asks5 (.string ⟨#[]⟩) (.string ⟨#[]⟩) (.int .i64 0) (.slice none 0 0)
    have hp := hbx.put5 (.string ⟨#[]⟩) (.string ⟨#[]⟩) (.int .i64 0) (.slice none 0 0) (.string ⟨#[]⟩)
    have m0 := hp.cell 0 _ rfl
    have m1 := hp.cell 1 _ rfl
    have m2 := hp.cell 2 _ rfl
    have m3 := hp.cell 3 _ rfl
    have m4 := hp.cell 4 _ rfl
    have HB := Lib.hid (put5_below (HAL.out.trans (hb2.mono HAL.out.size)) (Nat.le_refl w.heap.size) (.string ⟨#[]⟩) (.string ⟨#[]⟩) (.int .i64 0) (.slice none 0 0) (.string ⟨#[]⟩))
    unfold put5 at m0 m1 m2 m3 m4
    clear hbx hp hb2 HW0 HRD HBX HAL
    go_wp2_with fail
    refine bodyPost_ret (v := .tuple #[.agg #[.string ⟨#[]⟩, .string ⟨#[]⟩, .int .i64 0, .slice none 0 0, .string ⟨#[]⟩], .int .i64 0, .int .i64 er]) (by simp [results, Tryz.results11, go_sem, m0, m1, m2, m3, m4]) rfl ?_
    obtain ⟨⟨rfl, rfl⟩, rfl⟩ := HV.out
    have h := HP.out
    simp only [badM, Prod.mk.injEq, and_true] at h
    obtain ⟨rfl, rfl, rfl⟩ := h
    exact ⟨_, rfl, ownF_nil _ _, HB.out⟩

set_option maxHeartbeats 2000000 in
set_option maxRecDepth 100000 in
theorem msgReply_any (s : List UInt8) (d : Bool) (w : World) (he : EnvM w) (hs : s.length ≤ 1048576) :
    Calls Tryz.prog 13 #[.string (bs s), .bool d] w (RetY w s d) := by
  have hal0 : Below w.heap.size w (w.alloc (.cells #[.int .i64 0, .string ⟨#[]⟩, .int .i64 0, .slice none 0 0, .string ⟨#[]⟩] 32)) := (Below.refl _ _).alloc (Nat.le_refl _) _
  have hbx0 := blk.new w #[.int .i64 0, .string ⟨#[]⟩, .int .i64 0, .slice none 0 0, .string ⟨#[]⟩] 32
  have hsz0 : (w.alloc (.cells #[.int .i64 0, .string ⟨#[]⟩, .int .i64 0, .slice none 0 0, .string ⟨#[]⟩] 32)).heap.size = w.heap.size + 1 := by simp
  have hR : RetY w s d = fun e w' => ∃ v, e = .returned (.tuple #[.agg #[.int .i64 (cM s d), .string (bs (rM s d)), .int .i64 (oM s d), v, .string (bs (tellM s d).2.1)], .int .i64 (tellM s d).2.2.1, .int .i64 (tellM s d).2.2.2]) ∧ ownF w' w.heap.size v (tellM s d).1 ∧ Below w.heap.size w w' := rfl
  rw [hR]
  clear hR
  generalize hw0 : w.alloc (.cells #[.int .i64 0, .string ⟨#[]⟩, .int .i64 0, .slice none 0 0, .string ⟨#[]⟩] 32) = w0 at *
  have hal1 : Below w0.heap.size w0 (w0.alloc (.cells (pCells 0 (.slice none 0 0) (.string (bs [])) 262144 0 [] d) 83)) := (Below.refl _ _).alloc (Nat.le_refl _) _
  have hbx1 := blk.new w0 (pCells 0 (.slice none 0 0) (.string (bs [])) 262144 0 [] d) 83
  have he0 : EnvM w0 := he.bel hal0
  have hst := (topM_start s).1
  have hrd := readM_any 35 36 (enters_of Tryz.func35 (by kernel_rfl) rfl) (enters_of Tryz.func36 (by kernel_rfl) rfl) w0.heap.size (pCells 0 (.slice none 0 0) (.string (bs [])) 262144 0 [] d) (fun v b => pCells (staN (startM s)) v b 262144 (staC (startM s)) (staR (startM s)) d) 262144
    ⟨fun _ _ => rfl, fun _ _ => rfl, fun _ _ => rfl, fun _ _ _ => rfl, fun _ _ _ => rfl⟩ s (staE (startM s)) (fun l => tellR l (staC (startM s)) d) w0 _ he0 hal1 (Nat.le_refl _) hbx1 hs
    (fun W hb hk => takeStartP_any _ _ _ _ W (he0.below hb (Nat.le_refl _)) hk (Nat.le_trans hst hs))
    (fun W v l hb hk hl h1 h2 => frameP_any _ _ _ _ v _ _ _ l W (he0.below hb (Nat.le_refl _)) hk hl h1 h2) (fun l => tell_pos l _ _)
  have hm : tellM s d = msgL (staE (startM s)) (fun l => tellR l (staC (startM s)) d) 262144 s := rfl
  rw [← hm] at hrd
  have HW0 := Lib.hid hw0; have HRD := Lib.hid hrd; have HBX := Lib.hid hbx0; have HAL := Lib.hid hal0; have HSZ := Lib.hid hsz0
  clear hm hst he he0 hal0 hal1 hbx0 hbx1 hrd hsz0
  unfold pCells at HRD
  by_cases hq : (tellM s d).2.2.2 = 0
  · have HV : Hid ((cM s d = staC (startM s) ∧ rM s d = staR (startM s)) ∧ oM s d = staN (startM s)) := ⟨⟨if_pos hq, if_pos hq⟩, if_pos hq⟩
    generalize cM s d = M1 at *; generalize rM s d = M2 at *; generalize oM s d = M3 at *
    generalize tellM s d = m at *
    obtain ⟨l, bd, us, er⟩ := m
    simp only at hq
    subst hq
    simp only
    go_enter Tryz.func13, Tryz.ntmps13
    go_wp2_with fail
    refine HRD.out.mono ?_
    rintro e w2 ⟨u, rfl, hok, hb2⟩
    obtain ⟨rfl, v, base, hk, hbase, ho⟩ := hok rfl
    obtain ⟨⟨rfl, rfl⟩, rfl⟩ := HV.out
    obtain ⟨A, c, rfl⟩ := ho.form
    simp only at hk
    have c0 := hk.cell 0 _ rfl
    have c1 := hk.cell 1 _ rfl
    have c2 := hk.cell 2 _ rfl
    have c4 := hk.cell 4 _ rfl
    have c5 := hk.cell 5 _ rfl
    have hbx : blk w2 w.heap.size #[.int .i64 0, .string ⟨#[]⟩, .int .i64 0, .slice none 0 0, .string ⟨#[]⟩] := HBX.out.below hb2
    obtain ⟨⟨s0, z0⟩, ⟨s1, z1⟩, ⟨s2, z2⟩, ⟨s3, z3⟩, ⟨s4, z4⟩⟩ := hbx.asks5 (.int .i64 (staC (startM s))) (.string (bs (staR (startM s)))) (.int .i64 (staN (startM s))) (.slice A l.length c)
    have hp := hbx.put5 (.int .i64 (staC (startM s))) (.string (bs (staR (startM s)))) (.int .i64 (staN (startM s))) (.slice A l.length c) (.string (bs bd))
    have m0 := hp.cell 0 _ rfl
    have m1 := hp.cell 1 _ rfl
    have m2 := hp.cell 2 _ rfl
    have m3 := hp.cell 3 _ rfl
    have m4 := hp.cell 4 _ rfl
    have HO := Lib.hid ((ho.far (show w.heap.size < base by have := HSZ.out; omega) (put5_grown w2 w.heap.size (.int .i64 (staC (startM s))) (.string (bs (staR (startM s)))) (.int .i64 (staN (startM s))) (.slice A l.length c) (.string (bs bd)))).mono (show w.heap.size ≤ base by have := HSZ.out; omega))
    have HB := Lib.hid (put5_below (HAL.out.trans (hb2.mono HAL.out.size)) (Nat.le_refl w.heap.size) (.int .i64 (staC (startM s))) (.string (bs (staR (startM s)))) (.int .i64 (staN (startM s))) (.slice A l.length c) (.string (bs bd)))
    unfold put5 at m0 m1 m2 m3 m4
    clear hok hk hbx hp ho hb2 HW0 HRD HBX HAL HV
    go_wp2_with fail
    exact bodyPost_ret (v := .tuple #[.agg #[.int .i64 (staC (startM s)), .string (bs (staR (startM s))), .int .i64 (staN (startM s)), .slice A l.length c, .string (bs bd)], .int .i64 u, .int .i64 0]) (by simp [results, Tryz.results13, go_sem, m0, m1, m2, m3, m4]) rfl ⟨_, rfl, HO.out, HB.out⟩
  · have HP : Hid (tellM s d = badM (tellM s d).2.2.2) := msg_plain _ _ _ _ hq
    have HV : Hid ((cM s d = 0 ∧ rM s d = []) ∧ oM s d = 0) := ⟨⟨if_neg hq, if_neg hq⟩, if_neg hq⟩
    have hd : ((tellM s d).2.2.2 != 0) = true := bne_iff_ne.2 hq
    clear hq
    generalize cM s d = M1 at *; generalize rM s d = M2 at *; generalize oM s d = M3 at *
    generalize tellM s d = m at *
    obtain ⟨l, bd, us, er⟩ := m
    simp only at hd
    simp only
    go_enter Tryz.func13, Tryz.ntmps13
    go_wp2_with fail
    refine HRD.out.mono ?_
    rintro e w2 ⟨u, rfl, -, hb2⟩
    have hbx : blk w2 w.heap.size #[.int .i64 0, .string ⟨#[]⟩, .int .i64 0, .slice none 0 0, .string ⟨#[]⟩] := HBX.out.below hb2
    obtain ⟨⟨s0, z0⟩, ⟨s1, z1⟩, ⟨s2, z2⟩, ⟨s3, z3⟩, ⟨s4, z4⟩⟩ := hbx.asks5 (.int .i64 0) (.string ⟨#[]⟩) (.int .i64 0) (.slice none 0 0)
    have hp := hbx.put5 (.int .i64 0) (.string ⟨#[]⟩) (.int .i64 0) (.slice none 0 0) (.string ⟨#[]⟩)
    have m0 := hp.cell 0 _ rfl
    have m1 := hp.cell 1 _ rfl
    have m2 := hp.cell 2 _ rfl
    have m3 := hp.cell 3 _ rfl
    have m4 := hp.cell 4 _ rfl
    have HB := Lib.hid (put5_below (HAL.out.trans (hb2.mono HAL.out.size)) (Nat.le_refl w.heap.size) (.int .i64 0) (.string ⟨#[]⟩) (.int .i64 0) (.slice none 0 0) (.string ⟨#[]⟩))
    unfold put5 at m0 m1 m2 m3 m4
    clear hbx hp hb2 HW0 HRD HBX HAL
    go_wp2_with fail
    refine bodyPost_ret (v := .tuple #[.agg #[.int .i64 0, .string ⟨#[]⟩, .int .i64 0, .slice none 0 0, .string ⟨#[]⟩], .int .i64 0, .int .i64 er]) (by simp [results, Tryz.results13, go_sem, m0, m1, m2, m3, m4]) rfl ?_
    obtain ⟨⟨rfl, rfl⟩, rfl⟩ := HV.out
    have h := HP.out
    simp only [badM, Prod.mk.injEq, and_true] at h
    obtain ⟨rfl, rfl, rfl⟩ := h
    exact ⟨_, rfl, ownF_nil _ _, HB.out⟩
end Go.Proofs.YtgkjjmcjlobbpaaGreatDoor
