/- What a 304 makes of an entry, by the document: its With. -/
import Derived.Test.YtdaiielhohdgiaaGreatDoorRefB
import Derived.Test.YtdaiielhohdgiaaGreatDoorRefD
import Derived.Test.YtdaiielhohdgiaaGreatDoorKHopR
import Derived.Test.YtdaiielhohdgiaaGreatDoorRefE
namespace Go.Proofs.YtdaiielhohdgiaaGreatDoor
open Go.RowKit Go.Shelf

def bringB (rep : List Fld) (f : Fld) : Bool := !hasN (hopL rep) f.1 && !hasN fiveN f.1
/-- the fields that are brought, and the names that go with them, k fields on -/
structure WQ (W wr : World) (br nm : Value) (bl : List Fld) (nl : List (List UInt8)) : Prop where
  bel : Below W.heap.size W wr
  br : ownF wr W.heap.size br bl
  nm : ownS wr W.heap.size nm nl
theorem WQ.call {W wr wr' : World} {br nm : Value} {bl : List Fld} {nl : List (List UInt8)} (h : WQ W wr br nm bl nl) (hb : Below wr.heap.size wr wr') : WQ W wr' br nm bl nl :=
  ⟨h.bel.trans (hb.mono h.bel.size), h.br.bel hb, h.nm.bel hb⟩
/-- rows of fields and rows of texts share no block -/
theorem apartQ {w : World} {B : Nat} {v u : Value} {l : List Fld} {L : List (List UInt8)} (h : ownF w B v l) (k : ownS w B u L) : ∀ g, v.ownBlock = some g → u.ownBlock ≠ some g := by
  intro g h1 h2
  rcases h.2 with ⟨rfl, _⟩ | ⟨g1, cap1, cur1, rfl, _, hg1, _⟩
  · cases h1
  rcases k.2 with ⟨rfl, _⟩ | ⟨g2, cap2, cur2, rfl, _, hg2, _⟩
  · cases h2
  have e1 : g1 = g := by simpa [Value.ownBlock] using h1
  have e2 : g2 = g := by simpa [Value.ownBlock] using h2
  subst e1; subst e2
  rw [hg1] at hg2
  injection hg2 with hg2
  injection hg2 with _ hty _
  exact absurd hty (by decide)
theorem ownF_at {w w' : World} {base : Nat} {v : Value} {l : List Fld} (h : ownF w base v l) (hk : ∀ g, v.ownBlock = some g → w'.heap[g]? = w.heap[g]?) : ownF w' base v l := by
  rcases h with ⟨h1, h2⟩
  refine ⟨h1, ?_⟩
  rcases h2 with h2 | ⟨g, cap, cur, e, hb, hg, hnc, hrest⟩
  · exact .inl h2
  · exact .inr ⟨g, cap, cur, e, hb, by rw [hk g (by rw [e]; rfl)]; exact hg, hnc, hrest⟩
theorem ownS_at {w w' : World} {base : Nat} {v : Value} {l : List (List UInt8)} (h : ownS w base v l) (hk : ∀ g, v.ownBlock = some g → w'.heap[g]? = w.heap[g]?) : ownS w' base v l := by
  rcases h with ⟨h1, h2⟩
  refine ⟨h1, ?_⟩
  rcases h2 with h2 | ⟨g, cap, cur, e, hb, hg, hnc, hrest⟩
  · exact .inl h2
  · exact .inr ⟨g, cap, cur, e, hb, by rw [hk g (by rw [e]; rfl)]; exact hg, hnc, hrest⟩
theorem bring_step {rep : List Fld} {k : Nat} (h : k < rep.length) : (rep.take (k + 1)).filter (bringB rep) = if bringB rep rep[k] then (rep.take k).filter (bringB rep) ++ [rep[k]] else (rep.take k).filter (bringB rep) := by
  rw [List.take_succ_eq_append_getElem h, List.filter_append]
  cases hb : bringB rep rep[k] <;> simp [hb]
theorem bring_all (rep : List Fld) : rep.filter (bringB rep) = updL rep := (upd_eq rep).symm
theorem gone_snoc (l : List Fld) (f : Fld) : goneN (l ++ [f]) = goneN l ++ [f.1] := by unfold goneN; rw [List.map_append, ← List.append_assoc]; rfl
theorem stay_step {fs : List Fld} {G : List (List UInt8)} {k : Nat} (h : k < fs.length) : delL (fs.take (k + 1)) G = if hasN G fs[k].1 then delL (fs.take k) G else delL (fs.take k) G ++ [fs[k]] := del_step h
/-- a block of a type -/
def bkT (w : World) (b : Nat) (T : TypeId) : Prop := ∃ cs, w.heap[b]? = some (.cells cs T (0, 0))
theorem bkT.cells {b : Nat} {T : TypeId} : ∀ (l : List Value) (o : Nat) {w : World}, bkT w b T → bkT (w.setCells b o l) b T
  | [], _, _, h => h
  | v :: r, o, _, ⟨_, h⟩ => bkT.cells r (o + 1) ⟨_, Lib.heap_setCell_same (i := o) h v⟩
theorem bkT.keep {w w' : World} {b : Nat} {T : TypeId} (h : bkT w b T) (hk : w'.heap[b]? = w.heap[b]?) : bkT w' b T := by
  obtain ⟨cs, h⟩ := h
  exact ⟨cs, hk.trans h⟩
theorem bkT.apart {w : World} {b B : Nat} {v : Value} {l : List Fld} (h : bkT w b 26) (k : ownF w B v l) : v.ownBlock ≠ some b := by
  intro h1
  obtain ⟨cs, h⟩ := h
  rcases k.2 with ⟨rfl, _⟩ | ⟨g1, cap1, cur1, rfl, _, hg1, _⟩
  · cases h1
  have e1 : g1 = b := by simpa [Value.ownBlock] using h1
  subst e1
  rw [hg1] at h
  injection h with h
  injection h with _ hty _
  exact absurd hty (by decide)
theorem ownF_ne {w : World} {base : Nat} {v : Value} {l : List Fld} (h : ownF w base v l) {a : Addr} (ha : v.ownBlock ≠ some a.block) (u : Value) : ownF (w.setCell a u) base v l :=
  ownF_at h fun g hg => Below.heap_setCell _ _ _ _ (fun e => ha (by rw [hg, e]))
theorem own_ad (w : World) : ownS (w.alloc (.cells #[.string ⟨#[97, 103, 101]⟩, .string ⟨#[100, 97, 116, 101]⟩] 9)) w.heap.size (.slice (some ⟨w.heap.size, 0, none⟩) 2 2) adN := own_lit w _ adN rfl (by decide)

set_option maxRecDepth 100000 in
set_option maxHeartbeats 4000000 in
theorem rwithQ_any {st mi : Int} {re bo : ByteArray} (e : En) (vf vv vr : Value) (rep : List Fld) (asked got : Int) (w : World) (hf : FL w vf e.fs) (hv : FL w vv e.vy) (hr : FL w vr rep) (q1 : QF e.fs) (q3 : QH rep) :
    Calls Tryz.prog 13 #[entV e vf vv, .agg #[.int .i64 st, .string re, .int .i64 mi, vr, .string bo], .int .i64 asked, .int .i64 got] w fun r w' => ∃ vf', r = .returned (entV (ent2 e (madeL e.fs rep) asked got) vf' vv) ∧ ownF w' w.heap.size vf' (madeL e.fs rep) ∧ Below w.heap.size w w' := by
  obtain ⟨Af, cf, rfl⟩ := hf.form
  obtain ⟨Av, cv, rfl⟩ := hv.form
  obtain ⟨Ar, cr, rfl⟩ := hr.form
  have hb : Below w.heap.size w (((w.alloc (.cells #[.int .i64 e.st, .string (bs e.re), .int .i64 e.mi, .slice Af e.fs.length cf, .string (bs e.bo), .int .i64 e.ak, .int .i64 e.gt, .slice Av e.vy.length cv] 26)).alloc (.cells #[.int .i64 st, .string re, .int .i64 mi, .slice Ar rep.length cr, .string bo] 24)).alloc (.cells #[.int .i64 0, .string ⟨#[]⟩, .int .i64 0, .slice none 0 0, .string ⟨#[]⟩, .int .i64 0, .int .i64 0, .slice none 0 0] 26)) := (((Below.refl _ _).alloc (Nat.le_refl _) _).alloc (by simp) _).alloc (by simp; omega) _
  have hp : bk (((w.alloc (.cells #[.int .i64 e.st, .string (bs e.re), .int .i64 e.mi, .slice Af e.fs.length cf, .string (bs e.bo), .int .i64 e.ak, .int .i64 e.gt, .slice Av e.vy.length cv] 26)).alloc (.cells #[.int .i64 st, .string re, .int .i64 mi, .slice Ar rep.length cr, .string bo] 24)).alloc (.cells #[.int .i64 0, .string ⟨#[]⟩, .int .i64 0, .slice none 0 0, .string ⟨#[]⟩, .int .i64 0, .int .i64 0, .slice none 0 0] 26)) w.heap.size #[.int .i64 e.st, .string (bs e.re), .int .i64 e.mi, .slice Af e.fs.length cf, .string (bs e.bo), .int .i64 e.ak, .int .i64 e.gt, .slice Av e.vy.length cv] := ((bk.new w _ _).alloc _).alloc _
  have hy := (bk.new (w.alloc (.cells #[.int .i64 e.st, .string (bs e.re), .int .i64 e.mi, .slice Af e.fs.length cf, .string (bs e.bo), .int .i64 e.ak, .int .i64 e.gt, .slice Av e.vy.length cv] 26)) #[.int .i64 st, .string re, .int .i64 mi, .slice Ar rep.length cr, .string bo] 24).alloc (.cells #[.int .i64 0, .string ⟨#[]⟩, .int .i64 0, .slice none 0 0, .string ⟨#[]⟩, .int .i64 0, .int .i64 0, .slice none 0 0] 26)
  have hr0 := bk.new ((w.alloc (.cells #[.int .i64 e.st, .string (bs e.re), .int .i64 e.mi, .slice Af e.fs.length cf, .string (bs e.bo), .int .i64 e.ak, .int .i64 e.gt, .slice Av e.vy.length cv] 26)).alloc (.cells #[.int .i64 st, .string re, .int .i64 mi, .slice Ar rep.length cr, .string bo] 24)) #[.int .i64 0, .string ⟨#[]⟩, .int .i64 0, .slice none 0 0, .string ⟨#[]⟩, .int .i64 0, .int .i64 0, .slice none 0 0] 26
  simp only [World.size_alloc] at hy hr0
  have HB := Lib.hid hb; have HP := Lib.hid hp; have HY := Lib.hid hy; have HR := Lib.hid hr0
  have HF := Lib.hid hf; have HV := Lib.hid hv; have HRP := Lib.hid hr; have HQ1 := Lib.hid q1; have HQ3 := Lib.hid q3
  have HLR : Hid (rep.length ≤ 80) := q3.len
  have HLF : Hid (e.fs.length ≤ 160) := q1.len
  clear hb hp hy hr0 hf hv hr q1 q3
  unfold entV
  go_enter Tryz.func13, Tryz.ntmps13
  have y3 := HY.out.cell 3 (.slice Ar rep.length cr) rfl
  go_wp2_with fail
  clear y3
  generalize ((w.alloc (.cells #[.int .i64 e.st, .string (bs e.re), .int .i64 e.mi, .slice Af e.fs.length cf, .string (bs e.bo), .int .i64 e.ak, .int .i64 e.gt, .slice Av e.vy.length cv] 26)).alloc (.cells #[.int .i64 st, .string re, .int .i64 mi, .slice Ar rep.length cr, .string bo] 24)).alloc (.cells #[.int .i64 0, .string ⟨#[]⟩, .int .i64 0, .slice none 0 0, .string ⟨#[]⟩, .int .i64 0, .int .i64 0, .slice none 0 0] 26) = W0 at *
  refine (rhop_any _ rep W0 (HRP.out.bel HB.out) HQ3.out.small (by have := HQ3.out.len; omega) (by have := HQ3.out.size; omega)).mono ?_
  rintro r y1 ⟨v1, rfl, ho, hb⟩
  have HHL : Hid ((hopL rep).length ≤ 4294967296) := by have h := hopL_len rep; have := HLR.out; show _ ≤ _; omega
  have HHM : Hid (∀ x ∈ hopL rep, x.length ≤ 4294967296) := fun x hx => by have h := hopL_lenTo rep x hx; have := HQ3.out.size; omega
  obtain ⟨H, hH⟩ : ∃ H, H = hopL rep := ⟨_, rfl⟩
  rw [← hH] at ho HHL HHM
  have HEH := Lib.hid hH; clear hH
  obtain ⟨AH, cH, rfl⟩ := ho.form
  have hal : Below y1.heap.size y1 (y1.alloc (.cells #[.string ⟨#[99, 111, 110, 116, 101, 110, 116, 45, 108, 101, 110, 103, 116, 104]⟩, .string ⟨#[99, 111, 110, 116, 101, 110, 116, 45, 101, 110, 99, 111, 100, 105, 110, 103]⟩, .string ⟨#[99, 111, 110, 116, 101, 110, 116, 45, 116, 121, 112, 101]⟩, .string ⟨#[99, 111, 110, 116, 101, 110, 116, 45, 114, 97, 110, 103, 101]⟩, .string ⟨#[118, 97, 114, 121]⟩] 9)) := (Below.refl _ _).alloc (Nat.le_refl _) _
  have HB1 := Lib.hid (HB.out.trans ((hb.trans (hal.mono hb.size)).mono HB.out.size)); have HP1 := Lib.hid ((HP.out.below hb).below hal); have HY1 := Lib.hid ((HY.out.below hb).below hal); have HR1 := Lib.hid ((HR.out.below hb).below hal)
  have HSH := Lib.hid (ho.sl.bel hal); have HS5 := Lib.hid (litFive y1)
  clear ho hb hal HB HP HY HR
  have HWQ0 : Hid (WQ (y1.alloc (.cells #[.string ⟨#[99, 111, 110, 116, 101, 110, 116, 45, 108, 101, 110, 103, 116, 104]⟩, .string ⟨#[99, 111, 110, 116, 101, 110, 116, 45, 101, 110, 99, 111, 100, 105, 110, 103]⟩, .string ⟨#[99, 111, 110, 116, 101, 110, 116, 45, 116, 121, 112, 101]⟩, .string ⟨#[99, 111, 110, 116, 101, 110, 116, 45, 114, 97, 110, 103, 101]⟩, .string ⟨#[118, 97, 114, 121]⟩] 9)) ((y1.alloc (.cells #[.string ⟨#[99, 111, 110, 116, 101, 110, 116, 45, 108, 101, 110, 103, 116, 104]⟩, .string ⟨#[99, 111, 110, 116, 101, 110, 116, 45, 101, 110, 99, 111, 100, 105, 110, 103]⟩, .string ⟨#[99, 111, 110, 116, 101, 110, 116, 45, 116, 121, 112, 101]⟩, .string ⟨#[99, 111, 110, 116, 101, 110, 116, 45, 114, 97, 110, 103, 101]⟩, .string ⟨#[118, 97, 114, 121]⟩] 9)).alloc (.cells #[.string ⟨#[97, 103, 101]⟩, .string ⟨#[100, 97, 116, 101]⟩] 9)) (.slice none 0 0) (.slice (some ⟨(y1.alloc (.cells #[.string ⟨#[99, 111, 110, 116, 101, 110, 116, 45, 108, 101, 110, 103, 116, 104]⟩, .string ⟨#[99, 111, 110, 116, 101, 110, 116, 45, 101, 110, 99, 111, 100, 105, 110, 103]⟩, .string ⟨#[99, 111, 110, 116, 101, 110, 116, 45, 116, 121, 112, 101]⟩, .string ⟨#[99, 111, 110, 116, 101, 110, 116, 45, 114, 97, 110, 103, 101]⟩, .string ⟨#[118, 97, 114, 121]⟩] 9)).heap.size, 0, none⟩) 2 2) [] adN) := ⟨(Below.refl _ _).alloc (Nat.le_refl _) _, ownF_nil _ _, own_ad _⟩
  go_wp2_with fail
  have HZ1 : Hid ((y1.alloc (.cells #[.string ⟨#[99, 111, 110, 116, 101, 110, 116, 45, 108, 101, 110, 103, 116, 104]⟩, .string ⟨#[99, 111, 110, 116, 101, 110, 116, 45, 101, 110, 99, 111, 100, 105, 110, 103]⟩, .string ⟨#[99, 111, 110, 116, 101, 110, 116, 45, 116, 121, 112, 101]⟩, .string ⟨#[99, 111, 110, 116, 101, 110, 116, 45, 114, 97, 110, 103, 101]⟩, .string ⟨#[118, 97, 114, 121]⟩] 9)).heap.size = y1.heap.size + 1) := by show _ = _; rw [World.size_alloc]
  generalize y1.alloc (.cells #[.string ⟨#[99, 111, 110, 116, 101, 110, 116, 45, 108, 101, 110, 103, 116, 104]⟩, .string ⟨#[99, 111, 110, 116, 101, 110, 116, 45, 101, 110, 99, 111, 100, 105, 110, 103]⟩, .string ⟨#[99, 111, 110, 116, 101, 110, 116, 45, 116, 121, 112, 101]⟩, .string ⟨#[99, 111, 110, 116, 101, 110, 116, 45, 114, 97, 110, 103, 101]⟩, .string ⟨#[118, 97, 114, 121]⟩] 9) = W1 at *
  clear W0
  generalize W1.alloc (.cells #[.string ⟨#[97, 103, 101]⟩, .string ⟨#[100, 97, 116, 101]⟩] 9) = W2 at *
  go_loopw [11, 13, 14] (fun br nm i wr => ∃ k : Nat, k ≤ rep.length ∧ i = .int .i64 k ∧ Hid (WQ W1 wr br nm ((rep.take k).filter (bringB rep)) (goneN ((rep.take k).filter (bringB rep))))) (fun _ _ i _ => rep.length - (intOf i).toNat)
  case atStart => exact ⟨0, Nat.zero_le _, rfl, by have h := HWQ0.out; rw [HZ1.out] at h; exact h⟩
  case round =>
    obtain ⟨k, hk, rfl, HWr⟩ := hrel
    have hnl : rep.length ≤ 80 := HLR.out
    by_cases hlt : k < rep.length
    · have hki : (k : Int) < (rep.length : Int) := by omega
      have HBk : Hid (((rep.take k).filter (bringB rep)).length ≤ 80) := by have h1 := List.length_filter_le (bringB rep) (rep.take k); have h2 : (rep.take k).length ≤ rep.length := List.length_take_le' _ _; show _ ≤ _; omega
      have HT := Lib.hid (bring_step hlt)
      have hsz := HQ3.out.qf.mem (List.getElem_mem hlt)
      obtain ⟨b0, off, rfl, hbb, hc1, hc2⟩ := (HRP.out.bel (HB1.out.trans (HWr.out.bel.mono HB1.out.size))).get k hlt
      generalize rep[k] = f at *
      obtain ⟨n, x⟩ := f; simp only at hc1 hc2 hsz
      have HTT : Hid ((rep.take (k + 1)).filter (bringB rep) = if bringB rep (n, x) then (rep.take k).filter (bringB rep) ++ [(n, x)] else (rep.take k).filter (bringB rep)) := HT.out
      have hbq : bringB rep (n, x) = (!hasN H n && !hasN fiveN n) := by unfold bringB; rw [HEH.out]
      rw [hbq] at HTT
      clear HT hbq
      have HEG0 : Hid (goneN ((rep.take k).filter (bringB rep)) = goneN ((rep.take k).filter (bringB rep))) := rfl
      generalize hBg : (rep.take k).filter (bringB rep) = B at *
      clear hBg
      obtain ⟨G, hG⟩ : ∃ G, G = goneN B := ⟨_, rfl⟩
      have HEG : Hid (goneN B = G) := hG.symm
      rw [← hG] at HWr
      have HGL : Hid (G.length + 1 ≤ 4294967296) := by show _ ≤ _; rw [hG, goneN_len]; have := HBk.out; omega
      have HBL : Hid (B.length + [(n, x)].length ≤ 4294967296) := by have := HBk.out; show _ ≤ _; simp; omega
      clear hG HEG0
      obtain ⟨Ab, cb, rfl⟩ := HWr.out.br.form
      obtain ⟨An, cn, rfl⟩ := HWr.out.nm.form
      have y3 := (HY1.out.below HWr.out.bel).cell 3 (.slice (some ⟨b0, off, none⟩) rep.length cr) rfl
      have hal : Below wr.heap.size wr (wr.alloc (.cells #[.string (bs n), .string (bs x)] 38)) := (Below.refl _ _).alloc (Nat.le_refl _) _
      have HWa := Lib.hid (HWr.out.call hal)
      have HFB := Lib.hid (bk.new wr #[.string (bs n), .string (bs x)] 38)
      have HSZa : Hid ((wr.alloc (.cells #[.string (bs n), .string (bs x)] 38)).heap.size = wr.heap.size + 1) := by show _ = _; rw [World.size_alloc]
      have hsn : n.length ≤ 4294967296 := by omega
      have hi1 : ∀ W, Below (wr.alloc (.cells #[.string (bs n), .string (bs x)] 38)).heap.size (wr.alloc (.cells #[.string (bs n), .string (bs x)] 38)) W → Calls Tryz.prog 28 #[.slice AH H.length cH, .string (bs n)] W fun r w' => r = .returned (.bool (hasN H n)) ∧ Below W.heap.size W w' := fun W hW => rinQ_any _ H n W (HSH.out.bel (HWa.out.call hW).bel) HHM.out HHL.out hsn
      have hi2 : ∀ W, Below (wr.alloc (.cells #[.string (bs n), .string (bs x)] 38)).heap.size (wr.alloc (.cells #[.string (bs n), .string (bs x)] 38)) W → Calls Tryz.prog 28 #[.slice (some ⟨y1.heap.size, 0, none⟩) 5 5, .string (bs n)] W fun r w' => r = .returned (.bool (hasN fiveN n)) ∧ Below W.heap.size W w' := fun W hW => rinQ_any _ fiveN n W (HS5.out.bel (HWa.out.call hW).bel) fiveN_mem (by rw [fiveN_len]; omega) hsn
      have HI1 := Lib.hid hi1; have HI2 := Lib.hid hi2
      clear hal hi1 hi2 hsn hsz
      generalize hasN H n = p1 at *
      generalize hasN fiveN n = p2 at *
      cases p1
      · cases p2
        · have HR : Hid ((rep.take (k + 1)).filter (bringB rep) = B ++ [(n, x)]) := HTT.out
          clear HTT
          go_wp2_with fail
          generalize wr.alloc (.cells #[.string (bs n), .string (bs x)] 38) = wa at *
          refine (HI1.out wa (Below.refl _ _)).mono ?_; rintro r w1 ⟨rfl, hb⟩
          have HB1x := Lib.hid hb; clear hb
          have HK1 := Lib.hid (HFB.out.below HB1x.out)
          have g0 := HK1.out.cell 0 (.string (bs n)) rfl
          go_wp2_with fail
          refine (HI2.out w1 HB1x.out).mono ?_; rintro r w2 ⟨rfl, hb⟩
          have HB2x : Hid (Below wa.heap.size wa w2) := HB1x.out.trans (hb.mono HB1x.out.size)
          clear hb g0
          have HK2 := Lib.hid (HFB.out.below HB2x.out)
          have HWQ2 := Lib.hid (HWa.out.call HB2x.out)
          have g0 := HK2.out.cell 0 (.string (bs n)) rfl
          have g1 := HK2.out.cell 1 (.string (bs x)) rfl
          have hal2 : Below w2.heap.size w2 (w2.alloc (.cells #[.string (bs n), .string (bs x)] 38)) := (Below.refl _ _).alloc (Nat.le_refl _) _
          have HWQ3 := Lib.hid (HWQ2.out.call hal2); have HK3 := Lib.hid (HK2.out.below hal2)
          have HFL := Lib.hid (FL_lit w2 (n, x))
          have HNE : Hid (∀ g, (Value.slice Ab B.length cb).ownBlock = some g → g < wa.heap.size ∧ g ≠ wr.heap.size) := fun g hg => by have h := (World.ownsRow.lt HWr.out.br g hg).2; have h2 := HSZa.out; omega
          have HLT : Hid (wr.heap.size < (w2.alloc (.cells #[.string (bs n), .string (bs x)] 38)).heap.size) := by have h1 := HB2x.out.size; have h2 := HSZa.out; have h3 := hal2.size; show _ < _; omega
          clear hal2 HWQ2 HK2
          go_wp2_with (first | (at_builtin; refine wpList_appFX (w0 := W1) rfl (.tmp 47) (.tmp 49) rfl W1.heap.size W1.heap.size _ _ B [(n, x)] rfl HWQ3.out.br HWQ3.out.bel (Nat.le_refl _) HWQ3.out.bel.size rfl HFL.out HBL.out ?_; intro v3 w3 HO3 HB3 HKX3; have HN3 := Lib.hid (ownS_at HWQ3.out.nm (fun g hg => HKX3.out g (World.ownsRow.lt HWQ3.out.nm g hg).2 (fun h => apartQ HWQ3.out.br HWQ3.out.nm g h hg))); have HKb := Lib.hid (HK3.out.keep (HKX3.out wr.heap.size HLT.out (fun h => (HNE.out _ h).2 rfl))); clear g0 g1; have g0 := HKb.out.cell 0 (.string (bs n)) rfl; clear HK3 HKX3 HWQ3 HFL HLT HNE) | (at_builtin; refine wpList_appG (w0 := W1) rfl (.tmp 51) (.tmp 54) rfl W1.heap.size W1.heap.size (fun g => v3.ownBlock = some g) _ G n rfl HN3.out (fun g hg h => apartQ HO3.out HN3.out g h hg) (fun g hg => (World.ownsRow.lt HO3.out g hg).2) HB3.out (Nat.le_refl _) HB3.out.size rfl HGL.out ?_; intro v4 w4 HO4 HN4 HB4 HKF HS4; have HO5 := Lib.hid (ownF_at HO3.out (fun g hg => HKF.out g hg))))
          have HWE : Hid (WQ W1 w4 v3 v4 (B ++ [(n, x)]) (G ++ [n])) := ⟨HB4.out, HO5.out, HO4.out⟩
          go_roundw
          case rel => exact ⟨k + 1, by omega, by go_num, by rw [HR.out, gone_snoc, HEG.out]; exact HWE.out⟩
          case measure => simp [intOf]; omega
        · have HR : Hid ((rep.take (k + 1)).filter (bringB rep) = B) := HTT.out
          clear HTT
          go_wp2_with fail
          generalize wr.alloc (.cells #[.string (bs n), .string (bs x)] 38) = wa at *
          refine (HI1.out wa (Below.refl _ _)).mono ?_; rintro r w1 ⟨rfl, hb⟩
          have HB1x := Lib.hid hb; clear hb
          have HK1 := Lib.hid (HFB.out.below HB1x.out)
          have g0 := HK1.out.cell 0 (.string (bs n)) rfl
          go_wp2_with fail
          refine (HI2.out w1 HB1x.out).mono ?_; rintro r w2 ⟨rfl, hb⟩
          have HB2x : Hid (Below wa.heap.size wa w2) := HB1x.out.trans (hb.mono HB1x.out.size)
          clear hb g0
          go_wp2_with fail
          have HWE := Lib.hid (HWa.out.call HB2x.out)
          go_roundw
          case rel => exact ⟨k + 1, by omega, by go_num, by rw [HR.out, HEG.out]; exact HWE.out⟩
          case measure => simp [intOf]; omega
      · have HR : Hid ((rep.take (k + 1)).filter (bringB rep) = B) := by have h := HTT.out; simp only [Bool.not_true, Bool.false_and] at h; exact h
        clear HTT
        go_wp2_with fail
        generalize wr.alloc (.cells #[.string (bs n), .string (bs x)] 38) = wa at *
        refine (HI1.out wa (Below.refl _ _)).mono ?_; rintro r w1 ⟨rfl, hb⟩
        have HB1x := Lib.hid hb; clear hb
        go_wp2_with fail
        have HWE := Lib.hid ((HWa.out.call HB1x.out))
        go_roundw
        case rel => exact ⟨k + 1, by omega, by go_num, by rw [HR.out, HEG.out]; exact HWE.out⟩
        case measure => simp [intOf]; omega
    · have hkn : k = rep.length := by omega
      subst hkn
      rw [List.take_length, bring_all] at HWr
      obtain ⟨Ab, cb, rfl⟩ := HWr.out.br.form
      obtain ⟨An, cn, rfl⟩ := HWr.out.nm.form
      have y3 := (HY1.out.below HWr.out.bel).cell 3 (.slice Ar rep.length cr) rfl
      have HMADE : Hid (madeL e.fs rep = delL e.fs (goneN (updL rep)) ++ updL rep) := rfl
      have HQU := Lib.hid HQ3.out.upd
      generalize updL rep = U at *
      have HGM : Hid (∀ x ∈ goneN U, x.length ≤ 4294967296) := fun x hx => by have := goneN_mem HQU.out.qf hx; omega
      have HGL : Hid ((goneN U).length ≤ 4294967296) := by show _ ≤ _; rw [goneN_len]; have := HQU.out.len; omega
      have HUL : Hid (U.length ≤ 80) := HQU.out.len
      generalize goneN U = G at *
      have HB3 := Lib.hid (HB1.out.trans (HWr.out.bel.mono HB1.out.size))
      have HP3 := Lib.hid (HP1.out.below HWr.out.bel); have HR3 := Lib.hid (HR1.out.below HWr.out.bel)
      have HSG := Lib.hid HWr.out.nm.sl; have HFU := Lib.hid HWr.out.br.fl
      go_wp2_with fail
      clear y3 HWr HWQ0 HB1 HP1 HR1 HY1 HSH HS5 HHL HHM HEH HZ1
      generalize wr = X3 at *
      go_loopw [12, 16] (fun st i wq => ∃ k : Nat, k ≤ e.fs.length ∧ i = .int .i64 k ∧ Hid (Below X3.heap.size X3 wq) ∧ Hid (ownF wq X3.heap.size st (delL (e.fs.take k) G))) (fun _ i _ => e.fs.length - (intOf i).toNat)
      case atStart => exact ⟨0, Nat.zero_le _, rfl, Below.refl _ _, ownF_nil _ _⟩
      case round =>
        obtain ⟨k, hk, rfl, HBq, HOq⟩ := hrel
        have hfl : e.fs.length ≤ 160 := HLF.out
        have c3 := (HP3.out.below HBq.out).cell 3 (.slice Af e.fs.length cf) rfl
        by_cases hlt : k < e.fs.length
        · have hki : (k : Int) < (e.fs.length : Int) := by omega
          have HT := Lib.hid (stay_step (G := G) hlt)
          have HBk : Hid ((delL (e.fs.take k) G).length + 1 ≤ 4294967296) := by have h1 := del_le (e.fs.take k) G; have h2 : (e.fs.take k).length ≤ e.fs.length := List.length_take_le' _ _; show _ ≤ _; omega
          have hsz := HQ1.out.mem (List.getElem_mem hlt)
          obtain ⟨b0, off, rfl, hbb, hc1, hc2⟩ := HF.out.get k hlt
          have hc1 := Lib.hid hc1; have hc2 := Lib.hid hc2
          generalize e.fs[k] = f at *
          obtain ⟨n, x⟩ := f
          have HC1 : Hid (w.cell? ⟨b0, off + k * 2, none⟩ = some (.string (bs n))) := hc1.out
          have HC2 : Hid (w.cell? ⟨b0, off + k * 2 + 1, none⟩ = some (.string (bs x))) := hc2.out
          have HTT : Hid (delL (e.fs.take (k + 1)) G = if hasN G n then delL (e.fs.take k) G else delL (e.fs.take k) G ++ [(n, x)]) := HT.out
          have hsn : n.length ≤ 4294967296 := by have h : n.length ≤ 12000 := hsz.1; omega
          have HI := Lib.hid (rinQ_any _ G n wr (HSG.out.bel HBq.out) HGM.out HGL.out hsn)
          have HBw : Hid (Below w.heap.size w wr) := HB3.out.trans (HBq.out.mono HB3.out.size)
          have d1 := (HBw.out.cell (p := ⟨b0, off + k * 2, none⟩) hbb).trans HC1.out
          clear HT hc1 hc2 hsz hsn
          generalize delL (e.fs.take k) G = acc at *
          generalize hasN G n = p at *
          cases p
          · have HRR : Hid (delL (e.fs.take (k + 1)) G = acc ++ [(n, x)]) := HTT.out
            clear HTT
            go_wp2_with fail
            refine HI.out.mono ?_; rintro r w1 ⟨rfl, hb⟩
            have HB5 := Lib.hid (HBq.out.trans (hb.mono HBq.out.size)); have HO5 := Lib.hid (HOq.out.bel hb)
            have HB6 : Hid (Below w.heap.size w w1) := HB3.out.trans (HB5.out.mono HB3.out.size)
            clear hb c3 d1
            have c3 := (HP3.out.below HB5.out).cell 3 (.slice (some ⟨b0, off, none⟩) e.fs.length cf) rfl
            have d1 := (HB6.out.cell (p := ⟨b0, off + k * 2, none⟩) hbb).trans HC1.out
            have d2 := (HB6.out.cell (p := ⟨b0, off + k * 2 + 1, none⟩) hbb).trans HC2.out
            go_wp2_with (at_builtin; refine wpList_appF rfl (.tmp 74) (.tmp 81) rfl X3.heap.size X3.heap.size _ _ n x rfl HO5.out HB5.out (Nat.le_refl _) HB5.out.size rfl HBk.out ?_; intro v' w' HO7 HB7 _)
            go_roundw
            case rel => exact ⟨k + 1, by omega, by go_num, HB7, by rw [HRR.out]; exact HO7⟩
            case measure => simp [intOf]; omega
          · have HRR : Hid (delL (e.fs.take (k + 1)) G = acc) := HTT.out
            clear HTT
            go_wp2_with fail
            refine HI.out.mono ?_; rintro r w1 ⟨rfl, hb⟩
            have HB5 := Lib.hid (HBq.out.trans (hb.mono HBq.out.size)); have HO5 := Lib.hid (HOq.out.bel hb)
            clear hb c3 d1
            go_wp2_with fail
            go_roundw
            case rel => exact ⟨k + 1, by omega, by go_num, HB5, by rw [HRR.out]; exact HO5⟩
            case measure => simp [intOf]; omega
        · have hkn : k = e.fs.length := by omega
          subst hkn
          rw [List.take_length] at HOq
          have HLD := Lib.hid ((HP3.out.below HBq.out).range0 (l := [.int .i64 e.st, .string (bs e.re), .int .i64 e.mi, .slice Af e.fs.length cf, .string (bs e.bo), .int .i64 e.ak, .int .i64 e.gt, .slice Av e.vy.length cv]))
          have HBw : Hid (Below w.heap.size w wr) := HB3.out.trans (HBq.out.mono HB3.out.size)
          have HR4 := Lib.hid (HR3.out.below HBq.out); have HFU4 := Lib.hid (HFU.out.bel HBq.out)
          have HL1L : Hid ((delL e.fs G).length + U.length ≤ 4294967296) := by have h1 := del_le e.fs G; have h2 := HUL.out; show _ ≤ _; omega
          have HON : Hid ((#[.int .i64 e.st, .string (bs e.re), .int .i64 e.mi, .slice Af e.fs.length cf, .string (bs e.bo), .int .i64 e.ak, .int .i64 e.gt, .slice Av e.vy.length cv] : Array Value).all (·.oneCell') = true) := ent_one e (.slice Af e.fs.length cf) (.slice Av e.vy.length cv) HF.out HV.out
          have HXS : Hid (w.heap.size + 3 ≤ X3.heap.size) := by have h := HR3.out.lt; show _ ≤ _; omega
          generalize delL e.fs G = L1 at *
          obtain ⟨Ast, cst, rfl⟩ := HOq.out.form
          clear HP3 HR3 HFU HSG HGM HGL HB3
          generalize wr = X4 at *
          obtain ⟨M, hM⟩ : ∃ M, M = madeL e.fs rep := ⟨_, rfl⟩
          have HEM := Lib.hid hM
          have hmm : L1 ++ U = M := by rw [hM]; exact HMADE.out.symm
          have HMM := Lib.hid hmm
          clear hmm hM HMADE
          have hY : Below X4.heap.size X4 ((X4.alloc (.cells #[.int .i64 0, .string ⟨#[]⟩, .int .i64 0, .slice none 0 0, .string ⟨#[]⟩, .int .i64 0, .int .i64 0, .slice none 0 0] 26)).setCells X4.heap.size 0 [.int .i64 e.st, .string (bs e.re), .int .i64 e.mi, .slice Af e.fs.length cf, .string (bs e.bo), .int .i64 e.ak, .int .i64 e.gt, .slice Av e.vy.length cv]) := Below.cells ((Below.refl _ _).alloc (Nat.le_refl _) _) _ (Nat.le_refl _) _ 0
          have hn0 := bk.new X4 #[.int .i64 0, .string ⟨#[]⟩, .int .i64 0, .slice none 0 0, .string ⟨#[]⟩, .int .i64 0, .int .i64 0, .slice none 0 0] 26
          have HST : Hid (World.there (X4.alloc (.cells #[.int .i64 0, .string ⟨#[]⟩, .int .i64 0, .slice none 0 0, .string ⟨#[]⟩, .int .i64 0, .int .i64 0, .slice none 0 0] 26)) X4.heap.size 0 8) := hn0.there 0 8 (by decide)
          have HO1 : Hid (bk ((X4.alloc (.cells #[.int .i64 0, .string ⟨#[]⟩, .int .i64 0, .slice none 0 0, .string ⟨#[]⟩, .int .i64 0, .int .i64 0, .slice none 0 0] 26)).setCells X4.heap.size 0 [.int .i64 e.st, .string (bs e.re), .int .i64 e.mi, .slice Af e.fs.length cf, .string (bs e.bo), .int .i64 e.ak, .int .i64 e.gt, .slice Av e.vy.length cv]) X4.heap.size #[.int .i64 e.st, .string (bs e.re), .int .i64 e.mi, .slice Af e.fs.length cf, .string (bs e.bo), .int .i64 e.ak, .int .i64 e.gt, .slice Av e.vy.length cv]) := hn0.setAll [.int .i64 e.st, .string (bs e.re), .int .i64 e.mi, .slice Af e.fs.length cf, .string (bs e.bo), .int .i64 e.ak, .int .i64 e.gt, .slice Av e.vy.length cv] rfl
          have HT1 : Hid (bkT ((X4.alloc (.cells #[.int .i64 0, .string ⟨#[]⟩, .int .i64 0, .slice none 0 0, .string ⟨#[]⟩, .int .i64 0, .int .i64 0, .slice none 0 0] 26)).setCells X4.heap.size 0 [.int .i64 e.st, .string (bs e.re), .int .i64 e.mi, .slice Af e.fs.length cf, .string (bs e.bo), .int .i64 e.ak, .int .i64 e.gt, .slice Av e.vy.length cv]) X4.heap.size 26) := bkT.cells _ 0 ⟨_, heap_alloc_new X4 _⟩
          have HR5 := Lib.hid (HR4.out.below hY); have HFU5 := Lib.hid (HFU4.out.bel hY); have HOq5 := Lib.hid (HOq.out.bel hY); have HBw5 := Lib.hid (HBw.out.trans (hY.mono HBw.out.size))
          have HNE : Hid (∀ g, (Value.slice Ast L1.length cst).ownBlock = some g → X3.heap.size ≤ g ∧ g < X4.heap.size) := fun g h => World.ownsRow.lt HOq.out g h
          have HSZ : Hid (X4.heap.size < ((X4.alloc (.cells #[.int .i64 0, .string ⟨#[]⟩, .int .i64 0, .slice none 0 0, .string ⟨#[]⟩, .int .i64 0, .int .i64 0, .slice none 0 0] 26)).setCells X4.heap.size 0 [.int .i64 e.st, .string (bs e.re), .int .i64 e.mi, .slice Af e.fs.length cf, .string (bs e.bo), .int .i64 e.ak, .int .i64 e.gt, .slice Av e.vy.length cv]).heap.size) := by show _ < _; rw [size_setCells, World.size_alloc]; omega
          have HX34 : Hid (X3.heap.size ≤ X4.heap.size) := HBq.out.size
          clear hY hn0 HR4 HFU4 HOq HBw HBq
          go_wp2_with (first | (refine wpList_load_mid rfl 26 (.tmp 4) rfl _ 0 rfl [.int .i64 e.st, .string (bs e.re), .int .i64 e.mi, .slice Af e.fs.length cf, .string (bs e.bo), .int .i64 e.ak, .int .i64 e.gt, .slice Av e.vy.length cv] _ HLD.out Tryz.underlying26 rfl infoEn.out ?_; clear HLD) | (refine wpList_store_mid rfl 26 (.tmp 17) (.tmp 83) rfl _ 0 #[.int .i64 e.st, .string (bs e.re), .int .i64 e.mi, .slice Af e.fs.length cf, .string (bs e.bo), .int .i64 e.ak, .int .i64 e.gt, .slice Av e.vy.length cv] rfl rfl HST.out infoEn.out HON.out ?_; clear HST HON; generalize (X4.alloc (.cells #[.int .i64 0, .string ⟨#[]⟩, .int .i64 0, .slice none 0 0, .string ⟨#[]⟩, .int .i64 0, .int .i64 0, .slice none 0 0] 26)).setCells X4.heap.size 0 [.int .i64 e.st, .string (bs e.re), .int .i64 e.mi, .slice Af e.fs.length cf, .string (bs e.bo), .int .i64 e.ak, .int .i64 e.gt, .slice Av e.vy.length cv] = Y1 at *; generalize X4.heap.size = m0 at *) | (at_builtin; (refine wpList_appFX (w0 := w) rfl (.tmp 84) (.tmp 85) rfl X3.heap.size w.heap.size _ _ L1 U rfl HOq5.out HBw5.out (by have := HXS.out; omega) (by have h1 := HSZ.out; have h2 := HX34.out; omega) rfl HFU5.out HL1L.out ?_; intro v6 Y6 HO6 HB6 HK6; rw [HMM.out] at HO6; obtain ⟨A6, k6, rfl⟩ := HO6.out.form; have HX6 := Lib.hid (HO1.out.keep (HK6.out m0 HSZ.out (fun h => by have := (HNE.out _ h).2; omega))); have HT6 := Lib.hid (HT1.out.keep (HK6.out m0 HSZ.out (fun h => by have := (HNE.out _ h).2; omega))); have HR6 := Lib.hid (HR5.out.keep (HK6.out (w.heap.size + 1 + 1) HR5.out.lt (fun h => by have h1 := (HNE.out _ h).1; have h2 := HXS.out; omega))); have HAP := Lib.hid (HT6.out.apart HO6.out); clear HO1 HT1 HR5 HFU5 HOq5 HBw5 HK6 HNE HMM HL1L HT6; have c3 := HX6.out.cell 3 _ rfl; have f3 := HX6.out.free 3; have hp := HX6.out.set 3 (.slice A6 M.length k6); simp only [List.setIfInBounds_toArray, List.set_cons_zero, List.set_cons_succ] at hp; have HX7 := Lib.hid hp; clear hp; have HR7 := Lib.hid (HR6.out.other (a := ⟨m0, 3, none⟩) (by show w.heap.size + 1 + 1 ≠ m0; have h1 := HXS.out; have h2 := HX34.out; omega) (.slice A6 M.length k6)); have HB7 := Lib.hid (HB6.out.setCell (p := ⟨m0, 3, none⟩) (by show w.heap.size ≤ m0; have h1 := HXS.out; have h2 := HX34.out; omega) (.slice A6 M.length k6)); have HO7 := Lib.hid (ownF_ne HO6.out (a := ⟨m0, 3, none⟩) HAP.out (.slice A6 M.length k6)); clear HX6 HR6 HB6 HO6; have c5 := HX7.out.cell 5 _ rfl; have f5 := HX7.out.free 5; have hp := HX7.out.set 5 (.int .i64 asked); simp only [List.setIfInBounds_toArray, List.set_cons_zero, List.set_cons_succ] at hp; have HX8 := Lib.hid hp; clear hp; have HR8 := Lib.hid (HR7.out.other (a := ⟨m0, 5, none⟩) (by show w.heap.size + 1 + 1 ≠ m0; have h1 := HXS.out; have h2 := HX34.out; omega) (.int .i64 asked)); have HB8 := Lib.hid (HB7.out.setCell (p := ⟨m0, 5, none⟩) (by show w.heap.size ≤ m0; have h1 := HXS.out; have h2 := HX34.out; omega) (.int .i64 asked)); have HO8 := Lib.hid (ownF_ne HO7.out (a := ⟨m0, 5, none⟩) HAP.out (.int .i64 asked)); clear HX7 HR7 HB7 HO7; have c6 := HX8.out.cell 6 _ rfl; have f6 := HX8.out.free 6; have hp := HX8.out.set 6 (.int .i64 got); simp only [List.setIfInBounds_toArray, List.set_cons_zero, List.set_cons_succ] at hp; have HX9 := Lib.hid hp; clear hp; have HR9 := Lib.hid (HR8.out.other (a := ⟨m0, 6, none⟩) (by show w.heap.size + 1 + 1 ≠ m0; have h1 := HXS.out; have h2 := HX34.out; omega) (.int .i64 got)); have HB9 := Lib.hid (HB8.out.setCell (p := ⟨m0, 6, none⟩) (by show w.heap.size ≤ m0; have h1 := HXS.out; have h2 := HX34.out; omega) (.int .i64 got)); have HO9 := Lib.hid (ownF_ne HO8.out (a := ⟨m0, 6, none⟩) HAP.out (.int .i64 got)); clear HX8 HR8 HB8 HO8; have HLD9 := Lib.hid (HX9.out.range0 (l := [.int .i64 e.st, .string (bs e.re), .int .i64 e.mi, .slice A6 M.length k6, .string (bs e.bo), .int .i64 asked, .int .i64 got, .slice Av e.vy.length cv])); have HST9 : Hid (World.there (((Y6.setCell ⟨m0, 3, none⟩ (.slice A6 M.length k6)).setCell ⟨m0, 5, none⟩ (.int .i64 asked)).setCell ⟨m0, 6, none⟩ (.int .i64 got)) (w.heap.size + 1 + 1) 0 8) := HR9.out.there 0 8 (by decide); have HQ := Lib.hid (HR9.out.setAll [.int .i64 e.st, .string (bs e.re), .int .i64 e.mi, .slice A6 M.length k6, .string (bs e.bo), .int .i64 asked, .int .i64 got, .slice Av e.vy.length cv] rfl); have HB13 := Lib.hid (Below.cells HB9.out (w.heap.size + 1 + 1) (by omega) [.int .i64 e.st, .string (bs e.re), .int .i64 e.mi, .slice A6 M.length k6, .string (bs e.bo), .int .i64 asked, .int .i64 got, .slice Av e.vy.length cv] 0); have HO13 := Lib.hid (ownF.stay HO9.out (fun k hk => heap_setCells (w.heap.size + 1 + 1) [.int .i64 e.st, .string (bs e.re), .int .i64 e.mi, .slice A6 M.length k6, .string (bs e.bo), .int .i64 asked, .int .i64 got, .slice Av e.vy.length cv] 0 _ k (by have h := HXS.out; omega))); have HON9 : Hid ((#[.int .i64 e.st, .string (bs e.re), .int .i64 e.mi, .slice A6 M.length k6, .string (bs e.bo), .int .i64 asked, .int .i64 got, .slice Av e.vy.length cv] : Array Value).all (·.oneCell') = true) := ent_one (ent2 e M asked got) (.slice A6 M.length k6) (.slice Av e.vy.length cv) HO9.out.fl HV.out; clear HX9 HR9 HB9 HO9)) | (refine wpList_load_mid rfl 26 (.tmp 17) rfl _ 0 rfl [.int .i64 e.st, .string (bs e.re), .int .i64 e.mi, .slice A6 M.length k6, .string (bs e.bo), .int .i64 asked, .int .i64 got, .slice Av e.vy.length cv] _ HLD9.out Tryz.underlying26 rfl infoEn.out ?_; clear HLD9) | (refine wpList_store_mid rfl 26 (.tmp 8) (.tmp 93) rfl _ 0 #[.int .i64 e.st, .string (bs e.re), .int .i64 e.mi, .slice A6 M.length k6, .string (bs e.bo), .int .i64 asked, .int .i64 got, .slice Av e.vy.length cv] rfl rfl HST9.out infoEn.out HON9.out ?_; clear HST9))
          have hM := HEM.out; clear HEM; subst hM
          have r0 := HQ.out.cell 0 (.int .i64 e.st) rfl
          have r1 := HQ.out.cell 1 (.string (bs e.re)) rfl
          have r2 := HQ.out.cell 2 (.int .i64 e.mi) rfl
          have r3 := HQ.out.cell 3 (.slice A6 (madeL e.fs rep).length k6) rfl
          have r4 := HQ.out.cell 4 (.string (bs e.bo)) rfl
          have r5 := HQ.out.cell 5 (.int .i64 asked) rfl
          have r6 := HQ.out.cell 6 (.int .i64 got) rfl
          have r7 := HQ.out.cell 7 (.slice Av e.vy.length cv) rfl
          refine bodyPost_ret (v := .agg #[.int .i64 e.st, .string (bs e.re), .int .i64 e.mi, .slice A6 (madeL e.fs rep).length k6, .string (bs e.bo), .int .i64 asked, .int .i64 got, .slice Av e.vy.length cv]) (by simp [results, Tryz.results13, go_sem, r0, r1, r2, r3, r4, r5, r6, r7]) rfl ⟨_, rfl, HO13.out.mono (by have h := HXS.out; omega), HB13.out⟩
end Go.Proofs.YtdaiielhohdgiaaGreatDoor
