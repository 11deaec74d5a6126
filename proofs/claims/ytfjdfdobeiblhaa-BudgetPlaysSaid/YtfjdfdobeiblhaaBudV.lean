/- The document's budget: what is put, and what goes then; what is asked for. -/
import Derived.Test.YtfjdfdobeiblhaaBudU
import Derived.Test.YtfjdfdobeiblhaaGrow3
namespace Go.Proofs.Ytfjdfdobeiblhaa
open Go.RowKit
theorem own_litS {w : World} {base : Nat} (x : List UInt8) (hb : base ≤ w.heap.size) : ownS (w.alloc (.cells #[.string (bs x)] 9)) base (.slice (some ⟨w.heap.size, 0, none⟩) 1 1) [x] :=
  World.ownsRow_lit w _ 1 hb (by unfold maxLen; omega) rfl
theorem src_one (w : World) (y : It Int) : Src Try.prog 3 27 (.slice (some ⟨w.heap.size, 0, none⟩) 1 1) [y].length (onCs [y]) (w.alloc (.cells #[.string (bs y.1), .int .i64 y.2.1, .int .i64 y.2.2] 62)) :=
  Src.ofSlice _ Try.underlying27 ⟨w.heap.size, 0, none⟩ 1 1 (onCs [y]) (onCs_len [y])
    (World.news_of_block (cs := #[.string (bs y.1), .int .i64 y.2.1, .int .i64 y.2.2]) (t := 62) (fr := (0, 0)) (heap_alloc_new w _)) (onCs_one [y])
/-- what stands when the list has grown -/
theorem put_end {w w3 w4 : World} {rb n m : Nat} {v v4 : Value} {l : List (It Int)} (hr : bk w rb #[.int .i64 n, .int .i64 m, v]) (hne : v.ownBlock ≠ some rb) (hb : Below w.heap.size w w3)
    (h2 : w3.grownBy w4 v.ownBlock) (hv : v4.ownBlock = v.ownBlock ∨ ∀ g, v4.ownBlock = some g → w3.heap.size ≤ g) (ho : OL w4 v4 l) :
    bk w4 rb #[.int .i64 n, .int .i64 m, v] ∧ RB (w4.setCell ⟨rb, 2, none⟩ v4) rb (fun k => k = rb ∨ v4.ownBlock = some k) n m l ∧ Did (fun k => k = rb ∨ v.ownBlock = some k) (fun k => k = rb ∨ v4.ownBlock = some k) w (w4.setCell ⟨rb, 2, none⟩ v4) := by
  have hk : ∀ k, k < w.heap.size → v.ownBlock ≠ some k → w4.heap[k]? = w.heap[k]? := fun k hk hn => (h2.block k (Nat.lt_of_lt_of_le hk hb.size) (fun e => hn e.symm)).trans (hb.block k hk)
  have hbb := hr.keep (hk rb hr.lt hne)
  have hn4 : v4.ownBlock ≠ some rb := by
    rcases hv with e | h
    · rw [e]; exact hne
    · intro e
      have h3 := h rb e
      have h4 := hr.lt
      have h5 := hb.size
      omega
  refine ⟨hbb, ⟨v4, hbb.set 2 v4, ho.keep (fun g hg => Below.heap_setCell _ _ _ _ (fun e => hn4 (by rw [hg, e]))), hn4, rfl⟩, h2.os.trans hb.os, h2.tape.trans hb.tape, h2.output.trans hb.output, ?_, ?_, ?_⟩
  · rw [size_setCell]; exact Nat.le_trans hb.size h2.size
  · intro k hlt hx
    exact (Below.heap_setCell _ _ _ _ (fun e => hx (.inl e))).trans (hk k hlt (fun e => hx (.inr e)))
  · rintro k (rfl | e)
    · exact .inl (.inl rfl)
    · rcases hv with q | h
      · rw [q] at e; exact .inl (.inr e)
      · exact .inr (Nat.le_trans hb.size (h k e))
theorem Did.thenB {X X' : Nat → Prop} {a b c : World} (h : Did X X' a b) (k : Below a.heap.size b c) : Did X X' a c :=
  ⟨k.os.trans h.os, k.tape.trans h.tape, k.output.trans h.output, Nat.le_trans h.size k.size, fun i hi hx => (k.block i hi).trans (h.keep i hi hx), h.new⟩
theorem tail_end {w : World} {rb n m g off c : Nat} {v : Value} {r : List (It Int)} (hr : bk w rb #[.int .i64 n, .int .i64 m, v]) (hne : rb ≠ g) (hat : OLat w g off c r) :
    RB (w.setCell ⟨rb, 2, none⟩ (.slice (some ⟨g, off, none⟩) r.length c)) rb (fun k => k = rb ∨ some g = some k) n m r :=
  ⟨_, hr.set 2 _, .inr ⟨g, off, c, rfl, hat.keep (Below.heap_setCell _ _ _ _ hne.symm)⟩, fun e => hne (Option.some.inj e).symm, rfl⟩
theorem Did.dnR {X X' : Nat → Prop} {w w' : World} {k : Nat} (h : Did X X' w w') : Did X X' w (w'.drewN k) := ⟨h.os, h.tape, h.output, h.size, h.keep, h.new⟩
/-- the first entry is taken off -/
theorem OL.tail {w : World} {g off c : Nat} {y : It Int} {r : List (It Int)} (h : OLat w g off c (y :: r)) : (c = 1 → OLat w g off 0 r ∧ r = []) ∧ OLat w g (off + 3) (c - 1) r := by
  have h1 := OLat.drop (a := [y]) (b := r) h
  refine ⟨fun hc => ?_, h1⟩
  have h2 := h.le
  rw [hc] at h2
  have hr : r = [] := by simpa using h2
  subst hr
  exact ⟨⟨Nat.le_refl _, by unfold maxLen; omega, fun j hj => absurd hj (by omega), fun j hj => absurd hj (by simp), h.lt⟩, rfl⟩
section
variable {w : World} {rb n m : Nat} {X : Nat → Prop} {l : List (It Int)}
set_option maxRecDepth 100000 in
set_option maxHeartbeats 4000000 in
theorem rput_any (h : RB w rb X n m l) (hok : OkK n m l) (n1 : 1 ≤ n) (n2 : n ≤ 4096) (m2 : m ≤ 1073741824) (k : List UInt8) (s : Int) (hs1 : -9223372036854775808 ≤ s) (hs2 : s ≤ 9223372036854775807) (x : Int) :
    Calls Try.prog 29 #[.pointer (some ⟨rb, 0, none⟩), .string (bs k), .int .i64 s, .int .i64 x] w fun e w' => ∃ v, e = .returned v ∧ ownS w' w.heap.size v (putK n m k s.toNat x l).1 ∧ ∃ X', RB w' rb X' n m (putK n m k s.toNat x l).2 ∧ Did X X' w w' := by
  have hll : l.length ≤ 100000 := by have := hok.len; omega
  have HDR := Lib.hid (rdrop_any h hll hok.nd k)
  have HOD := Lib.hid (hok.drop k)
  have HN : Hid (1 ≤ n ∧ n ≤ 4096 ∧ m ≤ 1073741824) := ⟨n1, n2, m2⟩
  have HG := Lib.hid (show putK n m k s.toNat x l = if m < s.toNat then ((if hasK k l then [k] else []), dropK k l) else ((roomK n m s.toNat (dropK k l)).1, (roomK n m s.toNat (dropK k l)).2 ++ [(k, s.toNat, x)]) from rfl)
  have HTR : Hid (¬ m < s.toNat → trimK n m (dropK k l ++ [(k, s.toNat, x)]) = ((roomK n m s.toNat (dropK k l)).1, (roomK n m s.toNat (dropK k l)).2 ++ [(k, s.toNat, x)])) := fun h => trim_room n1 (by omega) k x _
  clear h hok n1 n2 m2 hll
  generalize putK n m k s.toNat x l = G at *
  by_cases hs0 : s < 0
  · have hsz : s.toNat = 0 := by omega
    generalize s.toNat = z at *
    subst hsz
    generalize hasK k l = had at *
    generalize dropK k l = d at *
    clear hs1 hs2
    go_enter Try.func29, Try.ntmps29
    go_wp2_with fail
    refine HDR.out.mono ?_
    rintro e w1 ⟨rfl, X1, hB1, hD1⟩
    have HD1 := Lib.hid hD1
    obtain ⟨v1, hr1, ho1, hn1, hX1⟩ := hB1
    subst hX1
    have HR1 := Lib.hid hr1; have HO1 := Lib.hid ho1; have HNE1 := Lib.hid hn1
    have c1 := hr1.cell 1 (.int .i64 (m : Int)) rfl
    clear hr1 ho1 hn1 hD1 HDR
    have hms : ¬ m < 0 := by omega
    have hgt : ¬ (m : Int) < 0 := by omega
    have HG2 := Lib.hid (HG.out.trans (if_neg hms))
    have HTR2 := Lib.hid (HTR.out hms)
    rw [← HTR2.out] at HG2
    have HSM : Hid (0 ≤ m) := by show _ ≤ _; omega
    clear hms HG HTR HTR2
    have HDL : Hid (d.length + 1 ≤ 1000000 ∧ totK d ≤ m) := ⟨by have h1 := HOD.out.len; have h2 := HN.out; omega, HOD.out.tot⟩
    have c2 := HR1.out.cell 2 v1 rfl
    have hal : Below w1.heap.size w1 (w1.alloc (.cells #[.string (bs k), .int .i64 0, .int .i64 x] 62)) := (Below.refl _ _).alloc (Nat.le_refl _) _
    have HAL := Lib.hid hal
    have HOA := Lib.hid (HO1.out.keep (w' := w1.alloc (.cells #[.string (bs k), .int .i64 0, .int .i64 x] 62)) (fun g hg => hal.block g (HO1.out.lt g hg)))
    have HSRC : Hid (Src Try.prog 3 27 (.slice (some ⟨w1.heap.size, 0, none⟩) 1 1) ([((k, 0, x) : It Int)] : List (It Int)).length (onCs [((k, 0, x) : It Int)]) (w1.alloc (.cells #[.string (bs k), .int .i64 0, .int .i64 x] 62))) := src_one w1 (k, 0, x)
    clear hal
    obtain ⟨A1, k1, hvf⟩ := HO1.out.form
    obtain ⟨nd, hnd⟩ : ∃ nd, d.length = nd := ⟨_, rfl⟩
    rw [hnd] at hvf
    have HND := Lib.hid hnd
    clear hnd
    subst hvf
    go_wp2_with (at_builtin; refine wpList_appO (w := w1.alloc (.cells #[.string (bs k), .int .i64 0, .int .i64 x] 62)) rfl (.tmp 29) (.tmp 34) rfl _ _ d [(k, 0, x)] rfl HOA.out rfl HSRC.out (by have := HDL.out; simp; omega) ?_; intro v4 w4 HO4 HG4 HV4; have HEND := Lib.hid (put_end HR1.out HNE1.out HAL.out HG4.out HV4.out HO4.out); obtain ⟨A4, n4, k4, rfl⟩ : ∃ A4 n4 k4, v4 = .slice A4 n4 k4 := (by obtain ⟨A, c, e⟩ := HO4.out.form; exact ⟨A, _, c, e⟩); have c4 := HEND.out.1.cell 2 (.slice A1 nd k1) rfl; have f4 := HEND.out.1.free 2; clear c1 c2)
    have HL2 : Hid ((d ++ [(k, 0, x)]).length ≤ 1000000 ∧ totK (d ++ [(k, 0, x)]) ≤ 4294967296) := ⟨by have := HDL.out; simp; omega, by have h1 := HDL.out; have h2 := HSM.out; have h3 := HN.out; rw [totK_append]; simp only [totK]; omega⟩
    have HD4 := Lib.hid (HD1.out.trans HEND.out.2.2)
    have HRB4 := Lib.hid HEND.out.2.1
    clear c4 f4 HEND HOA HSRC HAL HO4 HG4 HV4 HR1 HO1 HNE1 HD1 HND
    generalize w4.setCell ⟨rb, 2, none⟩ (.slice A4 n4 k4) = w5 at *
    generalize (fun k => k = rb ∨ (Value.slice A4 n4 k4).ownBlock = some k) = X5 at *
    generalize d ++ [(k, 0, x)] = L at *
    have HXL := Lib.hid HRB4.out.lt
    go_loopg [10] L.length (fun c o wr => ∃ q rest, rest.length = c ∧ Hid (trimK n m L = (q ++ (trimK n m rest).1, (trimK n m rest).2) ∧ ownS wr w5.heap.size o q ∧ RB wr rb X5 n m rest ∧ q.length + rest.length = L.length ∧ totK rest ≤ 4294967296 ∧ Did X5 X5 w5 wr))
    case atStart => exact ⟨[], L, rfl, by simp, ownS_nil _ _, HRB4.out, by simp, HL2.out.2, Did.refl _ _⟩
    case round =>
      obtain ⟨q, rest, hlen, hq⟩ := hrel
      have HTK := Lib.hid hq.out.1; have HO := Lib.hid hq.out.2.1; have HRB := Lib.hid hq.out.2.2.1; have HQL := Lib.hid hq.out.2.2.2.1; have HTL := Lib.hid hq.out.2.2.2.2.1; have HD := Lib.hid hq.out.2.2.2.2.2
      have HLE := Lib.hid hlen
      clear hq hlen HRB4
      obtain ⟨vr, hbr, hor, hnr, hXr⟩ := HRB.out
      have r0 := hbr.cell 0 (.int .i64 (n : Int)) rfl
      have r1 := hbr.cell 1 (.int .i64 (m : Int)) rfl
      have HBR := Lib.hid hbr; have HOR := Lib.hid hor; have HNR := Lib.hid hnr; have HXR := Lib.hid hXr
      have HBY : Hid (∀ nq, Calls Try.prog 12 #[.pointer (some ⟨rb, 0, none⟩)] (wr.drewN nq) fun e w' => e = .returned (.int .i64 (totK rest : Int)) ∧ w' = wr.drewN nq) := fun nq => (rbytes_any (w := wr.drewN nq) (HBR.out.keep rfl) (HOR.out.keep (fun _ _ => rfl)) (by have h1 := HQL.out; have h2 := HL2.out; omega) HTL.out).mono fun _ _ h => ⟨h.1, h.2.symm⟩
      clear hbr hor hnr hXr
      cases rest with
      | nil =>
        obtain ⟨A, c, rfl⟩ := HOR.out.form
        have r2 : wr.cell? ⟨rb, 2, none⟩ = some (.slice A 0 c) := HBR.out.cell 2 _ rfl
        have hd : decide ((n : Int) < 0) = false := decide_eq_false (by omega)
        have hd2 : decide ((m : Int) < (totK ([] : List (It Int)) : Int)) = false := decide_eq_false (by simp [totK])
        generalize (totK ([] : List (It Int)) : Int) = tot at *
        go_wp2_with fail
        go_quiet ((go_at_call 12; exact Calls.quiet_of_same (HBY.out _)))
        go_wp2_with fail
        go_ret
        have hg := HG2.out
        rw [HTK.out] at hg
        subst hg
        have hO2 : ownS (wr.drewN nq) w5.heap.size _ q := HO.out.heap rfl
        exact ⟨_, rfl, by have h := hO2.mono HD4.out.size; simpa [trimK] using h, X5, HRB.out.keep (fun _ _ => rfl), (HD4.out.trans HD.out).dnR⟩
      | cons y r =>
        have hol : ∃ g off c, vr = .slice (some ⟨g, off, none⟩) (y :: r).length c ∧ OLat wr g off c (y :: r) := by
          rcases HOR.out with ⟨-, e⟩ | h
          · cases e
          · exact h
        obtain ⟨g, off, c, rfl, hat⟩ := hol
        have r2 : wr.cell? ⟨rb, 2, none⟩ = some (.slice (some ⟨g, off, none⟩) (r.length + 1) c) := HBR.out.cell 2 _ rfl
        by_cases hgo : n < (y :: r).length ∨ m < totK (y :: r)
        · have HST := Lib.hid (trimK_step hgo)
          have hyk := (hat.holds 0 (by simp))
          have y0 : wr.cell? ⟨g, off, none⟩ = some (.string (bs y.1)) := hyk
          have htl := OL.tail hat
          have HAT := Lib.hid hat; have HTA := Lib.hid htl
          have HAX : Hid (q.length + 1 ≤ 4294967296) := by have h1 := HQL.out; have h2 := HL2.out; show _ ≤ _; omega
          have hcz : 1 ≤ c := by have := hat.le; simp at this; omega
          have hci : (1 : Int) ≤ (r.length : Int) + 1 := by omega
          have hcj : (r.length : Int) + 1 ≤ (c : Int) := by have := hat.le; simp at this; omega
          have hpos : (0 : Int) < (r.length : Int) + 1 := by omega
          have HNEW : Hid (trimK n m L = ((q ++ [y.1]) ++ (trimK n m r).1, (trimK n m r).2)) := by
            show _ = _
            rw [HTK.out, HST.out]; simp
          have HTOT : Hid (totK r ≤ 4294967296) := by have h1 : y.2.1 + totK r ≤ 4294967296 := HTL.out; show _ ≤ _; omega
          have HR3 : Hid (r.length < gk) := by have := HLE.out; simp at this; show _ < _; omega
          have HQ2 : Hid ((q ++ [y.1]).length + r.length = L.length) := by have := HQL.out; simp at this ⊢; show _ = _; omega
          clear hat htl hyk HTK HST HTL HLE HQL
          obtain ⟨Ao, co, hov⟩ := HO.out.form
          subst hov
          have HGO := Lib.hid hgo
          by_cases hg1 : n < (y :: r).length
          · have hd : (n : Int) < (r.length : Int) + 1 := by simp at hg1; omega
            have hd2 : True := trivial
            clear hgo hg1
            go_wp2_with fail
            go_quiet ((go_at_call 12; exact Calls.quiet_of_same (HBY.out _)))
            by_cases hc1 : c = 1
            · subst hc1
              have HRN := Lib.hid ((HTA.out.1 rfl).1)
              go_wp2_with (at_builtin; refine wpList_appS (w0 := wr) rfl (.tmp 57) (.tmp 65) rfl w5.heap.size w5.heap.size _ q y.1 rfl (HO.out.heap rfl) ⟨rfl, rfl, rfl, Nat.le_refl _, fun _ _ => rfl⟩ (Nat.le_refl _) HD.out.size rfl HAX.out ?_; intro v' w8 HO8 HB8 HK8; have HBR8 := Lib.hid (HBR.out.keep (HK8.out rb (HXL.out rb (by rw [HXR.out]; exact .inl rfl)))); have s2 := HBR8.out.cell 2 (.slice (some ⟨g, off, none⟩) (r.length + 1) 1) rfl; have sf := HBR8.out.free 2)
              go_roundg r.length
              case measure => exact HR3.out
              case rel =>
                have hgx : X5 g := by rw [HXR.out]; exact .inr rfl
                have hrx : X5 rb := by rw [HXR.out]; exact .inl rfl
                have hne : rb ≠ g := fun e => HNR.out (by rw [e]; rfl)
                have hat8 := HRN.out.keep (HK8.out g (HXL.out g hgx))
                refine ⟨q ++ [y.1], r, rfl, HNEW.out, ownS.setLow HO8.out (HXL.out rb hrx) _, ?_, HQ2.out, HTOT.out, ?_⟩
                · rw [HXR.out]; exact tail_end HBR8.out hne hat8
                · exact (HD.out.thenB HB8.out).trans (Twin.did1 (Twin.refl _) hrx)
            · have HRN := Lib.hid HTA.out.2
              go_wp2_with (at_builtin; refine wpList_appS (w0 := wr) rfl (.tmp 57) (.tmp 65) rfl w5.heap.size w5.heap.size _ q y.1 rfl (HO.out.heap rfl) ⟨rfl, rfl, rfl, Nat.le_refl _, fun _ _ => rfl⟩ (Nat.le_refl _) HD.out.size rfl HAX.out ?_; intro v' w8 HO8 HB8 HK8; have HBR8 := Lib.hid (HBR.out.keep (HK8.out rb (HXL.out rb (by rw [HXR.out]; exact .inl rfl)))); have s2 := HBR8.out.cell 2 (.slice (some ⟨g, off, none⟩) (r.length + 1) c) rfl; have sf := HBR8.out.free 2)
              go_roundg r.length
              case measure => exact HR3.out
              case rel =>
                have hgx : X5 g := by rw [HXR.out]; exact .inr rfl
                have hrx : X5 rb := by rw [HXR.out]; exact .inl rfl
                have hne : rb ≠ g := fun e => HNR.out (by rw [e]; rfl)
                have hat8 := HRN.out.keep (HK8.out g (HXL.out g hgx))
                refine ⟨q ++ [y.1], r, rfl, HNEW.out, ownS.setLow HO8.out (HXL.out rb hrx) _, ?_, HQ2.out, HTOT.out, ?_⟩
                · rw [HXR.out]; exact tail_end HBR8.out hne hat8
                · exact (HD.out.thenB HB8.out).trans (Twin.did1 (Twin.refl _) hrx)
          · have hd : decide ((n : Int) < (r.length : Int) + 1) = false := decide_eq_false (by simp at hg1; omega)
            have hd2 : (m : Int) < (totK (y :: r) : Int) := by rcases hgo with h | h; exact absurd h hg1; omega
            clear hgo hg1
            generalize (totK (y :: r) : Int) = tot at *
            go_wp2_with fail
            go_quiet ((go_at_call 12; exact Calls.quiet_of_same (HBY.out _)))
            by_cases hc1 : c = 1
            · subst hc1
              have HRN := Lib.hid ((HTA.out.1 rfl).1)
              go_wp2_with (at_builtin; refine wpList_appS (w0 := wr) rfl (.tmp 57) (.tmp 65) rfl w5.heap.size w5.heap.size _ q y.1 rfl (HO.out.heap rfl) ⟨rfl, rfl, rfl, Nat.le_refl _, fun _ _ => rfl⟩ (Nat.le_refl _) HD.out.size rfl HAX.out ?_; intro v' w8 HO8 HB8 HK8; have HBR8 := Lib.hid (HBR.out.keep (HK8.out rb (HXL.out rb (by rw [HXR.out]; exact .inl rfl)))); have s2 := HBR8.out.cell 2 (.slice (some ⟨g, off, none⟩) (r.length + 1) 1) rfl; have sf := HBR8.out.free 2)
              go_roundg r.length
              case measure => exact HR3.out
              case rel =>
                have hgx : X5 g := by rw [HXR.out]; exact .inr rfl
                have hrx : X5 rb := by rw [HXR.out]; exact .inl rfl
                have hne : rb ≠ g := fun e => HNR.out (by rw [e]; rfl)
                have hat8 := HRN.out.keep (HK8.out g (HXL.out g hgx))
                refine ⟨q ++ [y.1], r, rfl, HNEW.out, ownS.setLow HO8.out (HXL.out rb hrx) _, ?_, HQ2.out, HTOT.out, ?_⟩
                · rw [HXR.out]; exact tail_end HBR8.out hne hat8
                · exact (HD.out.thenB HB8.out).trans (Twin.did1 (Twin.refl _) hrx)
            · have HRN := Lib.hid HTA.out.2
              go_wp2_with (at_builtin; refine wpList_appS (w0 := wr) rfl (.tmp 57) (.tmp 65) rfl w5.heap.size w5.heap.size _ q y.1 rfl (HO.out.heap rfl) ⟨rfl, rfl, rfl, Nat.le_refl _, fun _ _ => rfl⟩ (Nat.le_refl _) HD.out.size rfl HAX.out ?_; intro v' w8 HO8 HB8 HK8; have HBR8 := Lib.hid (HBR.out.keep (HK8.out rb (HXL.out rb (by rw [HXR.out]; exact .inl rfl)))); have s2 := HBR8.out.cell 2 (.slice (some ⟨g, off, none⟩) (r.length + 1) c) rfl; have sf := HBR8.out.free 2)
              go_roundg r.length
              case measure => exact HR3.out
              case rel =>
                have hgx : X5 g := by rw [HXR.out]; exact .inr rfl
                have hrx : X5 rb := by rw [HXR.out]; exact .inl rfl
                have hne : rb ≠ g := fun e => HNR.out (by rw [e]; rfl)
                have hat8 := HRN.out.keep (HK8.out g (HXL.out g hgx))
                refine ⟨q ++ [y.1], r, rfl, HNEW.out, ownS.setLow HO8.out (HXL.out rb hrx) _, ?_, HQ2.out, HTOT.out, ?_⟩
                · rw [HXR.out]; exact tail_end HBR8.out hne hat8
                · exact (HD.out.thenB HB8.out).trans (Twin.did1 (Twin.refl _) hrx)
        · have hx : trimK n m (y :: r) = ([], y :: r) := trimK_done (by omega) (by omega)
          have HX := Lib.hid hx
          have hd : decide ((n : Int) < (r.length : Int) + 1) = false := decide_eq_false (by simp at hgo; omega)
          have hd2 : decide ((m : Int) < (totK (y :: r) : Int)) = false := decide_eq_false (by omega)
          clear hgo hx hat
          generalize (totK (y :: r) : Int) = tot at *
          go_wp2_with fail
          go_quiet ((go_at_call 12; exact Calls.quiet_of_same (HBY.out _)))
          go_wp2_with fail
          go_ret
          have hg := HG2.out
          rw [HTK.out, HX.out] at hg
          subst hg
          have hO2 : ownS (wr.drewN nq) w5.heap.size _ q := HO.out.heap rfl
          exact ⟨_, rfl, by have h := hO2.mono HD4.out.size; simpa using h, X5, HRB.out.keep (fun _ _ => rfl), (HD4.out.trans HD.out).dnR⟩
  · have hsz : (s.toNat : Int) = s := by omega
    generalize s.toNat = sz at *
    subst hsz
    generalize hasK k l = had at *
    generalize dropK k l = d at *
    clear hs1 hs2
    go_enter Try.func29, Try.ntmps29
    go_wp2_with fail
    refine HDR.out.mono ?_
    rintro e w1 ⟨rfl, X1, hB1, hD1⟩
    have HD1 := Lib.hid hD1
    obtain ⟨v1, hr1, ho1, hn1, hX1⟩ := hB1
    subst hX1
    have HR1 := Lib.hid hr1; have HO1 := Lib.hid ho1; have HNE1 := Lib.hid hn1
    have c1 := hr1.cell 1 (.int .i64 (m : Int)) rfl
    clear hr1 ho1 hn1 hD1 HDR
    by_cases hms : m < sz
    · have hgt : (m : Int) < (sz : Int) := by omega
      have HG2 := Lib.hid (HG.out.trans (if_pos hms))
      clear hms HG HTR
      cases had
      · go_wp2_with fail
        go_ret
        have hg := HG2.out
        subst hg
        exact ⟨_, rfl, ownS_nil _ _, _, ⟨v1, HR1.out, HO1.out, HNE1.out, rfl⟩, HD1.out⟩
      · have hlit := own_litS (w := w1) (base := w.heap.size) k HD1.out.size
        have hal : Below w1.heap.size w1 (w1.alloc (.cells #[.string (bs k)] 9)) := (Below.refl _ _).alloc (Nat.le_refl _) _
        have HLIT := Lib.hid hlit; have HAL := Lib.hid hal
        clear hlit hal
        go_wp2_with fail
        go_ret
        have hg := HG2.out
        subst hg
        exact ⟨_, rfl, HLIT.out, _, ⟨v1, HR1.out.below HAL.out, HO1.out.keep (fun g hg => HAL.out.block g (HO1.out.lt g hg)), HNE1.out, rfl⟩, HD1.out.trans (Did.of_below HAL.out)⟩
    · have hgt : ¬ (m : Int) < (sz : Int) := by omega
      have HG2 := Lib.hid (HG.out.trans (if_neg hms))
      have HTR2 := Lib.hid (HTR.out hms)
      rw [← HTR2.out] at HG2
      have HSM : Hid (sz ≤ m) := by show _ ≤ _; omega
      clear hms HG HTR HTR2
      have HDL : Hid (d.length + 1 ≤ 1000000 ∧ totK d ≤ m) := ⟨by have h1 := HOD.out.len; have h2 := HN.out; omega, HOD.out.tot⟩
      have c2 := HR1.out.cell 2 v1 rfl
      have hal : Below w1.heap.size w1 (w1.alloc (.cells #[.string (bs k), .int .i64 sz, .int .i64 x] 62)) := (Below.refl _ _).alloc (Nat.le_refl _) _
      have HAL := Lib.hid hal
      have HOA := Lib.hid (HO1.out.keep (w' := w1.alloc (.cells #[.string (bs k), .int .i64 sz, .int .i64 x] 62)) (fun g hg => hal.block g (HO1.out.lt g hg)))
      have HSRC := Lib.hid (src_one w1 (k, sz, x))
      clear hal
      obtain ⟨A1, k1, hvf⟩ := HO1.out.form
      obtain ⟨nd, hnd⟩ : ∃ nd, d.length = nd := ⟨_, rfl⟩
      rw [hnd] at hvf
      have HND := Lib.hid hnd
      clear hnd
      subst hvf
      go_wp2_with (at_builtin; refine wpList_appO (w := w1.alloc (.cells #[.string (bs k), .int .i64 sz, .int .i64 x] 62)) rfl (.tmp 29) (.tmp 34) rfl _ _ d [(k, sz, x)] rfl HOA.out rfl HSRC.out (by have := HDL.out; simp; omega) ?_; intro v4 w4 HO4 HG4 HV4; have HEND := Lib.hid (put_end HR1.out HNE1.out HAL.out HG4.out HV4.out HO4.out); obtain ⟨A4, n4, k4, rfl⟩ : ∃ A4 n4 k4, v4 = .slice A4 n4 k4 := (by obtain ⟨A, c, e⟩ := HO4.out.form; exact ⟨A, _, c, e⟩); have c4 := HEND.out.1.cell 2 (.slice A1 nd k1) rfl; have f4 := HEND.out.1.free 2; clear c1 c2)
      have HL2 : Hid ((d ++ [(k, sz, x)]).length ≤ 1000000 ∧ totK (d ++ [(k, sz, x)]) ≤ 4294967296) := ⟨by have := HDL.out; simp; omega, by have h1 := HDL.out; have h2 := HSM.out; have h3 := HN.out; rw [totK_append]; simp only [totK]; omega⟩
      have HD4 := Lib.hid (HD1.out.trans HEND.out.2.2)
      have HRB4 := Lib.hid HEND.out.2.1
      clear c4 f4 HEND HOA HSRC HAL HO4 HG4 HV4 HR1 HO1 HNE1 HD1 HND
      generalize w4.setCell ⟨rb, 2, none⟩ (.slice A4 n4 k4) = w5 at *
      generalize (fun k => k = rb ∨ (Value.slice A4 n4 k4).ownBlock = some k) = X5 at *
      generalize d ++ [(k, sz, x)] = L at *
      have HXL := Lib.hid HRB4.out.lt
      go_loopg [10] L.length (fun c o wr => ∃ q rest, rest.length = c ∧ Hid (trimK n m L = (q ++ (trimK n m rest).1, (trimK n m rest).2) ∧ ownS wr w5.heap.size o q ∧ RB wr rb X5 n m rest ∧ q.length + rest.length = L.length ∧ totK rest ≤ 4294967296 ∧ Did X5 X5 w5 wr))
      case atStart => exact ⟨[], L, rfl, by simp, ownS_nil _ _, HRB4.out, by simp, HL2.out.2, Did.refl _ _⟩
      case round =>
        obtain ⟨q, rest, hlen, hq⟩ := hrel
        have HTK := Lib.hid hq.out.1; have HO := Lib.hid hq.out.2.1; have HRB := Lib.hid hq.out.2.2.1; have HQL := Lib.hid hq.out.2.2.2.1; have HTL := Lib.hid hq.out.2.2.2.2.1; have HD := Lib.hid hq.out.2.2.2.2.2
        have HLE := Lib.hid hlen
        clear hq hlen HRB4
        obtain ⟨vr, hbr, hor, hnr, hXr⟩ := HRB.out
        have r0 := hbr.cell 0 (.int .i64 (n : Int)) rfl
        have r1 := hbr.cell 1 (.int .i64 (m : Int)) rfl
        have HBR := Lib.hid hbr; have HOR := Lib.hid hor; have HNR := Lib.hid hnr; have HXR := Lib.hid hXr
        have HBY : Hid (∀ nq, Calls Try.prog 12 #[.pointer (some ⟨rb, 0, none⟩)] (wr.drewN nq) fun e w' => e = .returned (.int .i64 (totK rest : Int)) ∧ w' = wr.drewN nq) := fun nq => (rbytes_any (w := wr.drewN nq) (HBR.out.keep rfl) (HOR.out.keep (fun _ _ => rfl)) (by have h1 := HQL.out; have h2 := HL2.out; omega) HTL.out).mono fun _ _ h => ⟨h.1, h.2.symm⟩
        clear hbr hor hnr hXr
        cases rest with
        | nil =>
          obtain ⟨A, c, rfl⟩ := HOR.out.form
          have r2 : wr.cell? ⟨rb, 2, none⟩ = some (.slice A 0 c) := HBR.out.cell 2 _ rfl
          have hd : decide ((n : Int) < 0) = false := decide_eq_false (by omega)
          have hd2 : decide ((m : Int) < (totK ([] : List (It Int)) : Int)) = false := decide_eq_false (by simp [totK])
          generalize (totK ([] : List (It Int)) : Int) = tot at *
          go_wp2_with fail
          go_quiet ((go_at_call 12; exact Calls.quiet_of_same (HBY.out _)))
          go_wp2_with fail
          go_ret
          have hg := HG2.out
          rw [HTK.out] at hg
          subst hg
          have hO2 : ownS (wr.drewN nq) w5.heap.size _ q := HO.out.heap rfl
          exact ⟨_, rfl, by have h := hO2.mono HD4.out.size; simpa [trimK] using h, X5, HRB.out.keep (fun _ _ => rfl), (HD4.out.trans HD.out).dnR⟩
        | cons y r =>
          have hol : ∃ g off c, vr = .slice (some ⟨g, off, none⟩) (y :: r).length c ∧ OLat wr g off c (y :: r) := by
            rcases HOR.out with ⟨-, e⟩ | h
            · cases e
            · exact h
          obtain ⟨g, off, c, rfl, hat⟩ := hol
          have r2 : wr.cell? ⟨rb, 2, none⟩ = some (.slice (some ⟨g, off, none⟩) (r.length + 1) c) := HBR.out.cell 2 _ rfl
          by_cases hgo : n < (y :: r).length ∨ m < totK (y :: r)
          · have HST := Lib.hid (trimK_step hgo)
            have hyk := (hat.holds 0 (by simp))
            have y0 : wr.cell? ⟨g, off, none⟩ = some (.string (bs y.1)) := hyk
            have htl := OL.tail hat
            have HAT := Lib.hid hat; have HTA := Lib.hid htl
            have HAX : Hid (q.length + 1 ≤ 4294967296) := by have h1 := HQL.out; have h2 := HL2.out; show _ ≤ _; omega
            have hcz : 1 ≤ c := by have := hat.le; simp at this; omega
            have hci : (1 : Int) ≤ (r.length : Int) + 1 := by omega
            have hcj : (r.length : Int) + 1 ≤ (c : Int) := by have := hat.le; simp at this; omega
            have hpos : (0 : Int) < (r.length : Int) + 1 := by omega
            have HNEW : Hid (trimK n m L = ((q ++ [y.1]) ++ (trimK n m r).1, (trimK n m r).2)) := by
              show _ = _
              rw [HTK.out, HST.out]; simp
            have HTOT : Hid (totK r ≤ 4294967296) := by have h1 : y.2.1 + totK r ≤ 4294967296 := HTL.out; show _ ≤ _; omega
            have HR3 : Hid (r.length < gk) := by have := HLE.out; simp at this; show _ < _; omega
            have HQ2 : Hid ((q ++ [y.1]).length + r.length = L.length) := by have := HQL.out; simp at this ⊢; show _ = _; omega
            clear hat htl hyk HTK HST HTL HLE HQL
            obtain ⟨Ao, co, hov⟩ := HO.out.form
            subst hov
            have HGO := Lib.hid hgo
            by_cases hg1 : n < (y :: r).length
            · have hd : (n : Int) < (r.length : Int) + 1 := by simp at hg1; omega
              have hd2 : True := trivial
              clear hgo hg1
              go_wp2_with fail
              go_quiet ((go_at_call 12; exact Calls.quiet_of_same (HBY.out _)))
              by_cases hc1 : c = 1
              · subst hc1
                have HRN := Lib.hid ((HTA.out.1 rfl).1)
                go_wp2_with (at_builtin; refine wpList_appS (w0 := wr) rfl (.tmp 57) (.tmp 65) rfl w5.heap.size w5.heap.size _ q y.1 rfl (HO.out.heap rfl) ⟨rfl, rfl, rfl, Nat.le_refl _, fun _ _ => rfl⟩ (Nat.le_refl _) HD.out.size rfl HAX.out ?_; intro v' w8 HO8 HB8 HK8; have HBR8 := Lib.hid (HBR.out.keep (HK8.out rb (HXL.out rb (by rw [HXR.out]; exact .inl rfl)))); have s2 := HBR8.out.cell 2 (.slice (some ⟨g, off, none⟩) (r.length + 1) 1) rfl; have sf := HBR8.out.free 2)
                go_roundg r.length
                case measure => exact HR3.out
                case rel =>
                  have hgx : X5 g := by rw [HXR.out]; exact .inr rfl
                  have hrx : X5 rb := by rw [HXR.out]; exact .inl rfl
                  have hne : rb ≠ g := fun e => HNR.out (by rw [e]; rfl)
                  have hat8 := HRN.out.keep (HK8.out g (HXL.out g hgx))
                  refine ⟨q ++ [y.1], r, rfl, HNEW.out, ownS.setLow HO8.out (HXL.out rb hrx) _, ?_, HQ2.out, HTOT.out, ?_⟩
                  · rw [HXR.out]; exact tail_end HBR8.out hne hat8
                  · exact (HD.out.thenB HB8.out).trans (Twin.did1 (Twin.refl _) hrx)
              · have HRN := Lib.hid HTA.out.2
                go_wp2_with (at_builtin; refine wpList_appS (w0 := wr) rfl (.tmp 57) (.tmp 65) rfl w5.heap.size w5.heap.size _ q y.1 rfl (HO.out.heap rfl) ⟨rfl, rfl, rfl, Nat.le_refl _, fun _ _ => rfl⟩ (Nat.le_refl _) HD.out.size rfl HAX.out ?_; intro v' w8 HO8 HB8 HK8; have HBR8 := Lib.hid (HBR.out.keep (HK8.out rb (HXL.out rb (by rw [HXR.out]; exact .inl rfl)))); have s2 := HBR8.out.cell 2 (.slice (some ⟨g, off, none⟩) (r.length + 1) c) rfl; have sf := HBR8.out.free 2)
                go_roundg r.length
                case measure => exact HR3.out
                case rel =>
                  have hgx : X5 g := by rw [HXR.out]; exact .inr rfl
                  have hrx : X5 rb := by rw [HXR.out]; exact .inl rfl
                  have hne : rb ≠ g := fun e => HNR.out (by rw [e]; rfl)
                  have hat8 := HRN.out.keep (HK8.out g (HXL.out g hgx))
                  refine ⟨q ++ [y.1], r, rfl, HNEW.out, ownS.setLow HO8.out (HXL.out rb hrx) _, ?_, HQ2.out, HTOT.out, ?_⟩
                  · rw [HXR.out]; exact tail_end HBR8.out hne hat8
                  · exact (HD.out.thenB HB8.out).trans (Twin.did1 (Twin.refl _) hrx)
            · have hd : decide ((n : Int) < (r.length : Int) + 1) = false := decide_eq_false (by simp at hg1; omega)
              have hd2 : (m : Int) < (totK (y :: r) : Int) := by rcases hgo with h | h; exact absurd h hg1; omega
              clear hgo hg1
              generalize (totK (y :: r) : Int) = tot at *
              go_wp2_with fail
              go_quiet ((go_at_call 12; exact Calls.quiet_of_same (HBY.out _)))
              by_cases hc1 : c = 1
              · subst hc1
                have HRN := Lib.hid ((HTA.out.1 rfl).1)
                go_wp2_with (at_builtin; refine wpList_appS (w0 := wr) rfl (.tmp 57) (.tmp 65) rfl w5.heap.size w5.heap.size _ q y.1 rfl (HO.out.heap rfl) ⟨rfl, rfl, rfl, Nat.le_refl _, fun _ _ => rfl⟩ (Nat.le_refl _) HD.out.size rfl HAX.out ?_; intro v' w8 HO8 HB8 HK8; have HBR8 := Lib.hid (HBR.out.keep (HK8.out rb (HXL.out rb (by rw [HXR.out]; exact .inl rfl)))); have s2 := HBR8.out.cell 2 (.slice (some ⟨g, off, none⟩) (r.length + 1) 1) rfl; have sf := HBR8.out.free 2)
                go_roundg r.length
                case measure => exact HR3.out
                case rel =>
                  have hgx : X5 g := by rw [HXR.out]; exact .inr rfl
                  have hrx : X5 rb := by rw [HXR.out]; exact .inl rfl
                  have hne : rb ≠ g := fun e => HNR.out (by rw [e]; rfl)
                  have hat8 := HRN.out.keep (HK8.out g (HXL.out g hgx))
                  refine ⟨q ++ [y.1], r, rfl, HNEW.out, ownS.setLow HO8.out (HXL.out rb hrx) _, ?_, HQ2.out, HTOT.out, ?_⟩
                  · rw [HXR.out]; exact tail_end HBR8.out hne hat8
                  · exact (HD.out.thenB HB8.out).trans (Twin.did1 (Twin.refl _) hrx)
              · have HRN := Lib.hid HTA.out.2
                go_wp2_with (at_builtin; refine wpList_appS (w0 := wr) rfl (.tmp 57) (.tmp 65) rfl w5.heap.size w5.heap.size _ q y.1 rfl (HO.out.heap rfl) ⟨rfl, rfl, rfl, Nat.le_refl _, fun _ _ => rfl⟩ (Nat.le_refl _) HD.out.size rfl HAX.out ?_; intro v' w8 HO8 HB8 HK8; have HBR8 := Lib.hid (HBR.out.keep (HK8.out rb (HXL.out rb (by rw [HXR.out]; exact .inl rfl)))); have s2 := HBR8.out.cell 2 (.slice (some ⟨g, off, none⟩) (r.length + 1) c) rfl; have sf := HBR8.out.free 2)
                go_roundg r.length
                case measure => exact HR3.out
                case rel =>
                  have hgx : X5 g := by rw [HXR.out]; exact .inr rfl
                  have hrx : X5 rb := by rw [HXR.out]; exact .inl rfl
                  have hne : rb ≠ g := fun e => HNR.out (by rw [e]; rfl)
                  have hat8 := HRN.out.keep (HK8.out g (HXL.out g hgx))
                  refine ⟨q ++ [y.1], r, rfl, HNEW.out, ownS.setLow HO8.out (HXL.out rb hrx) _, ?_, HQ2.out, HTOT.out, ?_⟩
                  · rw [HXR.out]; exact tail_end HBR8.out hne hat8
                  · exact (HD.out.thenB HB8.out).trans (Twin.did1 (Twin.refl _) hrx)
          · have hx : trimK n m (y :: r) = ([], y :: r) := trimK_done (by omega) (by omega)
            have HX := Lib.hid hx
            have hd : decide ((n : Int) < (r.length : Int) + 1) = false := decide_eq_false (by simp at hgo; omega)
            have hd2 : decide ((m : Int) < (totK (y :: r) : Int)) = false := decide_eq_false (by omega)
            clear hgo hx hat
            generalize (totK (y :: r) : Int) = tot at *
            go_wp2_with fail
            go_quiet ((go_at_call 12; exact Calls.quiet_of_same (HBY.out _)))
            go_wp2_with fail
            go_ret
            have hg := HG2.out
            rw [HTK.out, HX.out] at hg
            subst hg
            have hO2 : ownS (wr.drewN nq) w5.heap.size _ q := HO.out.heap rfl
            exact ⟨_, rfl, by have h := hO2.mono HD4.out.size; simpa using h, X5, HRB.out.keep (fun _ _ => rfl), (HD4.out.trans HD.out).dnR⟩
end
end Go.Proofs.Ytfjdfdobeiblhaa
