/- The document's: what an element states, and values. -/
import Derived.Test.YtonioemenjjajaaSurB
import Derived.Test.YtonioemenjjajaaDirI
namespace Go.Proofs.Ytonioemenjjajaa
open Go.RowKit

theorem rsplit_of (s : List UInt8) (sep : UInt8) (hs : s.length ≤ 4294967200) : ∀ W, Calls Try.prog 23 #[.string (bs s), .int .u8 (sep.toNat : Int)] W fun e w' => ∃ v, e = .returned (.tuple #[v, .int .i64 (splitE s sep)]) ∧ ownS w' W.heap.size v (splitL s sep) ∧ Below W.heap.size W w' := fun W => by
  have h := rsplit_any (bs s) sep W (by rw [bs_size]; omega)
  rw [bs_data] at h
  exact h
theorem rsay_none {p : List UInt8} (h : sayD p = none) (hp : p.length ≤ 4294967200) : ∀ W, Calls Try.prog 38 #[.string (bs p)] W fun e w' => e = .returned (.tuple #[.agg #[.string ⟨#[]⟩, .string ⟨#[]⟩, .bool false, .string ⟨#[]⟩], .bool false]) ∧ Below W.heap.size W w' := fun W => by
  have h2 := rsay_any (bs p) W (by rw [bs_size]; exact hp)
  rw [bs_data, h] at h2
  exact h2
theorem rsay_some {p : List UInt8} {d : Dv} (h : sayD p = some d) (hp : p.length ≤ 4294967200) : ∀ W, Calls Try.prog 38 #[.string (bs p)] W fun e w' => e = .returned (.tuple #[.agg #[.string (bs d.1), .string (bs d.2.1), .bool d.2.2.1, .string (bs d.2.2.2)], .bool true]) ∧ Below W.heap.size W w' := fun W => by
  have h2 := rsay_any (bs p) W (by rw [bs_size]; exact hp)
  rw [bs_data, h] at h2
  exact h2
theorem parts_three (N : List (List UInt8)) : N = [] ∨ (∃ p, N = [p]) ∨ (∃ p f, N = [p, f]) ∨ 3 ≤ N.length := by
  match N with
  | [] => exact .inl rfl
  | [p] => exact .inr (.inl ⟨p, rfl⟩)
  | [p, f] => exact .inr (.inr (.inl ⟨p, f, rfl⟩))
  | _ :: _ :: _ :: _ => exact .inr (.inr (.inr (by simp)))

theorem say_len (p : List UInt8) : (sayD p).toList.length ≤ 1 := by cases sayD p <;> simp
theorem elemD_len (e : List UInt8) : (elemD e).length ≤ 1 := by
  unfold elemD
  split
  · split
    · exact say_len _
    · split
      · rw [List.length_map]; exact say_len _
      · simp
    · simp
  · simp
theorem listS_len (L : List (List UInt8)) : (listS L).length ≤ L.length * 4096 := by rw [← list_eq]; exact listP_len L
set_option maxRecDepth 100000 in
set_option maxHeartbeats 4000000 in
theorem ssay_any (s : List UInt8) (w : World) (hs : s.length ≤ 4294967200) :
    Calls Try.prog 24 #[.string (bs s)] w (RetD w (elemD s)) := by
  have hsp := rsplit_of s 59 hs
  have hat := fun x h => splitS_at (l := s) (sep := 59) (x := x) h
  have HSP := Lib.hid hsp; have HAT := Lib.hid hat
  clear hsp hat
  by_cases hE : splitE s 59 = 0
  · rcases parts_three (splitL s 59) with hN | ⟨p, hN⟩ | ⟨p, f, hN⟩ | hN
    · have hZ : elemD s = [] := by unfold elemD; rw [if_pos hE, hN]
      rw [hZ]
      have HS2 : Hid (∀ W, Calls Try.prog 23 #[.string (bs s), .int .u8 59] W fun e w' => ∃ v, e = .returned (.tuple #[v, .int .i64 0]) ∧ ownS w' W.heap.size v [] ∧ Below W.heap.size W w') := fun W => by have h := HSP.out W; rw [hE, hN] at h; exact h
      clear HSP HAT hZ hN hE hs
      go_enter Try.func24, Try.ntmps24
      go_wp2_with fail
      refine (HS2.out _).mono ?_
      rintro e w1 ⟨vs, rfl, hos, hb1⟩
      obtain ⟨A, c, rfl⟩ := hos.form
      have HB1 := Lib.hid hb1
      clear hb1 hos HS2
      simp only [List.length_nil]
      go_wp2_with fail
      go_ret
      exact ⟨_, rfl, ownD_nil _ _, HB1.out⟩
    · have hpl : p.length ≤ 4294967200 := Nat.le_trans (HAT.out p (by rw [hN]; simp)) hs
      have hZ : elemD s = (sayD p).toList := by unfold elemD; rw [if_pos hE, hN]
      rw [hZ]
      have HS2 : Hid (∀ W, Calls Try.prog 23 #[.string (bs s), .int .u8 59] W fun e w' => ∃ v, e = .returned (.tuple #[v, .int .i64 0]) ∧ ownS w' W.heap.size v [p] ∧ Below W.heap.size W w') := fun W => by have h := HSP.out W; rw [hE, hN] at h; exact h
      clear HSP HAT hZ hN hE hs
      cases hd : sayD p with
      | none =>
        have HSY := Lib.hid (rsay_none hd hpl)
        clear hd hpl
        go_enter Try.func24, Try.ntmps24
        go_wp2_with fail
        refine (HS2.out _).mono ?_
        rintro e w1 ⟨vs, rfl, hos, hb1⟩
        obtain ⟨A, c, rfl⟩ := hos.form
        obtain ⟨g, rfl, hc0⟩ := hos.cell 0 (by simp)
        have HB1 := Lib.hid hb1
        have hc0' : w1.cell? ⟨g, 0, none⟩ = some (.string (bs p)) := hc0
        clear hb1 hos HS2 hc0
        simp only [List.length_cons, List.length_nil, Nat.zero_add]
        go_wp2_with fail
        refine (HSY.out _).mono ?_
        rintro e w2 ⟨rfl, hb2⟩
        have hq : Below w2.heap.size w2 (w2.alloc (.cells #[.string ⟨#[]⟩, .string ⟨#[]⟩, .bool false, .string ⟨#[]⟩] 39)) := (Below.refl _ _).alloc (Nat.le_refl _) _
        have hb3 := hb2.trans (hq.mono hb2.size)
        have HB2 := Lib.hid (HB1.out.trans (hb3.mono HB1.out.size))
        clear hb2 hq hb3
        go_wp2_with fail
        go_ret
        exact ⟨_, rfl, ownD_nil _ _, HB2.out⟩
      | some d =>
        have HSY := Lib.hid (rsay_some hd hpl)
        clear hd hpl
        go_enter Try.func24, Try.ntmps24
        go_wp2_with fail
        refine (HS2.out _).mono ?_
        rintro e w1 ⟨vs, rfl, hos, hb1⟩
        obtain ⟨A, c, rfl⟩ := hos.form
        obtain ⟨g, rfl, hc0⟩ := hos.cell 0 (by simp)
        have HB1 := Lib.hid hb1
        have hc0' : w1.cell? ⟨g, 0, none⟩ = some (.string (bs p)) := hc0
        clear hb1 hos HS2 hc0
        simp only [List.length_cons, List.length_nil, Nat.zero_add]
        go_wp2_with fail
        refine (HSY.out _).mono ?_
        rintro e w2 ⟨rfl, hb2⟩
        have hx : dbk (w2.alloc (.cells #[.string (bs d.1), .string (bs d.2.1), .bool d.2.2.1, .string (bs d.2.2.2)] 39)) w2.heap.size (dvA d) := dbk.new w2 _ _
        obtain ⟨p0, p1, p2, p3⟩ := hx.four
        have HB12 := Lib.hid (HB1.out.trans (hb2.mono HB1.out.size))
        have HB2 := Lib.hid (HB12.out.alloc HB12.out.size (.cells #[.string (bs d.1), .string (bs d.2.1), .bool d.2.2.1, .string (bs d.2.2.2)] 39))
        clear hb2
        have ho := ownD_lit (w2.alloc (.cells #[.string (bs d.1), .string (bs d.2.1), .bool d.2.2.1, .string (bs d.2.2.2)] 39)) d HB2.out.size
        have HB3 := Lib.hid (HB2.out.alloc HB2.out.size (.cells #[.string (bs d.1), .string (bs d.2.1), .bool d.2.2.1, .string (bs d.2.2.2)] 39))
        have HO := Lib.hid ho; clear ho
        rw [World.size_alloc] at HO
        go_wp2_with fail
        go_ret
        exact ⟨_, rfl, HO.out, HB3.out⟩
    · have hpl : p.length ≤ 4294967200 := Nat.le_trans (HAT.out p (by rw [hN]; simp)) hs
      have hfl : f.length ≤ 4294967200 := Nat.le_trans (HAT.out f (by rw [hN]; simp)) hs
      have hZ : elemD s = if token f then (sayD p).toList.map (forD f) else [] := by unfold elemD; rw [if_pos hE, hN]
      rw [hZ]
      have HS2 : Hid (∀ W, Calls Try.prog 23 #[.string (bs s), .int .u8 59] W fun e w' => ∃ v, e = .returned (.tuple #[v, .int .i64 0]) ∧ ownS w' W.heap.size v [p, f] ∧ Below W.heap.size W w') := fun W => by have h := HSP.out W; rw [hE, hN] at h; exact h
      have HT := Lib.hid (fun W => rtoken_any (bs f) W (by rw [bs_size]; unfold maxLen; omega))
      clear HSP HAT hZ hN hE hs hfl
      cases hd : sayD p with
      | none =>
        rw [show (if token f = true then List.map (forD f) (none : Option Dv).toList else []) = [] from by split <;> rfl]
        have HSY := Lib.hid (rsay_none hd hpl)
        clear hd hpl HT
        go_enter Try.func24, Try.ntmps24
        go_wp2_with fail
        refine (HS2.out _).mono ?_
        rintro e w1 ⟨vs, rfl, hos, hb1⟩
        obtain ⟨A, c, rfl⟩ := hos.form
        obtain ⟨g, rfl, hc0⟩ := hos.cell 0 (by simp)
        have HB1 := Lib.hid hb1
        have hc0' : w1.cell? ⟨g, 0, none⟩ = some (.string (bs p)) := hc0
        clear hb1 hos HS2 hc0
        simp only [List.length_cons, List.length_nil, Nat.zero_add]
        go_wp2_with fail
        refine (HSY.out _).mono ?_
        rintro e w2 ⟨rfl, hb2⟩
        have hq : Below w2.heap.size w2 (w2.alloc (.cells #[.string ⟨#[]⟩, .string ⟨#[]⟩, .bool false, .string ⟨#[]⟩] 39)) := (Below.refl _ _).alloc (Nat.le_refl _) _
        have hb3 := hb2.trans (hq.mono hb2.size)
        have HB2 := Lib.hid (HB1.out.trans (hb3.mono HB1.out.size))
        clear hb2 hq hb3
        go_wp2_with fail
        go_ret
        exact ⟨_, rfl, ownD_nil _ _, HB2.out⟩
      | some d =>
        have HSY := Lib.hid (rsay_some hd hpl)
        clear hd hpl
        cases hf : token f
        · simp only [Bool.false_eq_true, if_false]
          go_enter Try.func24, Try.ntmps24
          go_wp2_with fail
          refine (HS2.out _).mono ?_
          rintro e w1 ⟨vs, rfl, hos, hb1⟩
          obtain ⟨A, c, rfl⟩ := hos.form
          obtain ⟨g, rfl, hc0⟩ := hos.cell 0 (by simp)
          obtain ⟨g', hg', hc1⟩ := hos.cell 1 (by simp)
          cases hg'
          have HB1 := Lib.hid hb1
          have hgl : g < w1.heap.size := block_lt_of_cell hc0
          have hc0' : w1.cell? ⟨g, 0, none⟩ = some (.string (bs p)) := hc0
          have hc1' : w1.cell? ⟨g, 1, none⟩ = some (.string (bs f)) := hc1
          clear hb1 hos HS2 hc0 hc1
          simp only [List.length_cons, List.length_nil, Nat.zero_add]
          go_wp2_with fail
          refine (HSY.out _).mono ?_
          rintro e w2 ⟨rfl, hb2⟩
          have HC1 := Lib.hid ((hb2.cell (p := ⟨g, 1, none⟩) hgl).trans hc1')
          have hx : dbk (w2.alloc (.cells #[.string (bs d.1), .string (bs d.2.1), .bool d.2.2.1, .string (bs d.2.2.2)] 39)) w2.heap.size (dvA d) := dbk.new w2 _ _
          obtain ⟨p0, p1, p2, p3⟩ := hx.four
          have HB12 := Lib.hid (HB1.out.trans (hb2.mono HB1.out.size))
          have HB2 := Lib.hid (HB12.out.alloc HB12.out.size (.cells #[.string (bs d.1), .string (bs d.2.1), .bool d.2.2.1, .string (bs d.2.2.2)] 39))
          have hgl2 := Nat.lt_of_lt_of_le hgl hb2.size
          clear hb2 hgl
          have hc2 := (Below.cell (p := ⟨g, 1, none⟩) ((Below.refl w2.heap.size w2).alloc (Nat.le_refl _) (.cells #[.string (bs d.1), .string (bs d.2.1), .bool d.2.2.1, .string (bs d.2.2.2)] 39)) hgl2).trans HC1.out
          clear hc1'
          go_wp2_with fail
          refine (HT.out _).mono ?_
          rw [bs_data, hf]
          rintro e w3 ⟨rfl, rfl⟩
          go_wp2_with fail
          go_ret
          exact ⟨_, rfl, ownD_nil _ _, HB2.out⟩
        · simp only [if_true]
          go_enter Try.func24, Try.ntmps24
          go_wp2_with fail
          refine (HS2.out _).mono ?_
          rintro e w1 ⟨vs, rfl, hos, hb1⟩
          obtain ⟨A, c, rfl⟩ := hos.form
          obtain ⟨g, rfl, hc0⟩ := hos.cell 0 (by simp)
          obtain ⟨g', hg', hc1⟩ := hos.cell 1 (by simp)
          cases hg'
          have HB1 := Lib.hid hb1
          have hgl : g < w1.heap.size := block_lt_of_cell hc0
          have hc0' : w1.cell? ⟨g, 0, none⟩ = some (.string (bs p)) := hc0
          have hc1' : w1.cell? ⟨g, 1, none⟩ = some (.string (bs f)) := hc1
          clear hb1 hos HS2 hc0 hc1
          simp only [List.length_cons, List.length_nil, Nat.zero_add]
          go_wp2_with fail
          refine (HSY.out _).mono ?_
          rintro e w2 ⟨rfl, hb2⟩
          have HC1 := Lib.hid ((hb2.cell (p := ⟨g, 1, none⟩) hgl).trans hc1')
          have hx : dbk (w2.alloc (.cells #[.string (bs d.1), .string (bs d.2.1), .bool d.2.2.1, .string (bs d.2.2.2)] 39)) w2.heap.size (dvA d) := dbk.new w2 _ _
          obtain ⟨p0, p1, p2, p3⟩ := hx.four
          have HB12 := Lib.hid (HB1.out.trans (hb2.mono HB1.out.size))
          have HB2 := Lib.hid (HB12.out.alloc HB12.out.size (.cells #[.string (bs d.1), .string (bs d.2.1), .bool d.2.2.1, .string (bs d.2.2.2)] 39))
          have hgl2 := Nat.lt_of_lt_of_le hgl hb2.size
          clear hb2 hgl
          have hc2 := (Below.cell (p := ⟨g, 1, none⟩) ((Below.refl w2.heap.size w2).alloc (Nat.le_refl _) (.cells #[.string (bs d.1), .string (bs d.2.1), .bool d.2.2.1, .string (bs d.2.2.2)] 39)) hgl2).trans HC1.out
          clear hc1'
          go_wp2_with fail
          refine (HT.out _).mono ?_
          rw [bs_data, hf]
          rintro e w3 ⟨rfl, rfl⟩
          have hs3 : dbk (w2.alloc (.cells #[.string (bs d.1), .string (bs d.2.1), .bool d.2.2.1, .string (bs f)] 39)) w2.heap.size (dvA (forD f d)) := dbk.new w2 _ _
          obtain ⟨r0, r1, r2, r3⟩ := hs3.four
          have fz := hx.free 3
          have HB3 := Lib.hid (HB12.out.alloc HB12.out.size (.cells #[.string (bs d.1), .string (bs d.2.1), .bool d.2.2.1, .string (bs f)] 39))
          have ho := ownD_lit (w2.alloc (.cells #[.string (bs d.1), .string (bs d.2.1), .bool d.2.2.1, .string (bs f)] 39)) (forD f d) HB3.out.size
          rw [World.size_alloc] at ho
          have HB4 := Lib.hid (HB3.out.alloc HB3.out.size (.cells #[.string (bs (forD f d).1), .string (bs (forD f d).2.1), .bool (forD f d).2.2.1, .string (bs (forD f d).2.2.2)] 39))
          have HO := Lib.hid ho; clear ho hs3 hx
          simp only [forD] at r0 r1 r2 r3
          go_wp2_with fail
          go_ret
          exact ⟨_, rfl, HO.out, HB4.out⟩
    · have hZ : elemD s = [] := by
        unfold elemD
        rw [if_pos hE]
        split
        · rename_i h; rw [h] at hN; simp at hN
        · rename_i h; rw [h] at hN; simp at hN
        · rfl
      rw [hZ]
      have HS2 : Hid (∀ W, Calls Try.prog 23 #[.string (bs s), .int .u8 59] W fun e w' => ∃ v, e = .returned (.tuple #[v, .int .i64 0]) ∧ ownS w' W.heap.size v (splitL s 59) ∧ Below W.heap.size W w') := fun W => by have h := HSP.out W; rw [hE] at h; exact h
      have n1 : (((splitL s 59).length : Int) == 0) = false := by rw [beq_eq_false_iff_ne]; omega
      have n2 : (2 : Int) < ((splitL s 59).length : Int) := by omega
      generalize splitL s 59 = N at *
      clear HSP HAT hZ hE hs hN
      go_enter Try.func24, Try.ntmps24
      go_wp2_with fail
      refine (HS2.out _).mono ?_
      rintro e w1 ⟨vs, rfl, hos, hb1⟩
      obtain ⟨A, c, rfl⟩ := hos.form
      have HB1 := Lib.hid hb1
      clear hb1 hos HS2
      go_wp2_with fail
      go_ret
      exact ⟨_, rfl, ownD_nil _ _, HB1.out⟩
  · have hZ : elemD s = [noStore] := if_neg hE
    have hne : ((splitE s 59) != 0) = true := bne_iff_ne.2 hE
    rw [hZ]
    have HS2 : Hid (∀ W, Calls Try.prog 23 #[.string (bs s), .int .u8 59] W fun e w' => ∃ v, e = .returned (.tuple #[v, .int .i64 (splitE s 59)]) ∧ ownS w' W.heap.size v (splitL s 59) ∧ Below W.heap.size W w') := HSP.out
    clear HSP HAT hZ hE hs
    generalize splitE s 59 = E at *
    generalize splitL s 59 = N at *
    go_enter Try.func24, Try.ntmps24
    go_wp2_with fail
    refine (HS2.out _).mono ?_
    rintro e w1 ⟨vs, rfl, hos, hb1⟩
    obtain ⟨A, c, rfl⟩ := hos.form
    have HO := Lib.hid (ownD_lit w1 noStore hb1.size)
    have HB1 := Lib.hid (hb1.alloc hb1.size (.cells #[.string (bs noStore.1), .string (bs noStore.2.1), .bool noStore.2.2.1, .string (bs noStore.2.2.2)] 39))
    clear hb1 hos HS2
    go_wp2_with fail
    go_ret
    exact ⟨_, rfl, HO.out, HB1.out⟩

set_option maxRecDepth 100000 in
set_option maxHeartbeats 4000000 in
theorem rslist_any (v : Value) (L : List (List UInt8)) (w : World) (hv : SL w v L) (hs : ∀ x ∈ L, x.length ≤ 4294967200) (hl : L.length ≤ 1000000) :
    Calls Try.prog 12 #[v] w (RetD w (listS L)) := by
  obtain ⟨A, c, rfl⟩ := hv.form
  have hdef : listS L = L.flatMap valD := rfl
  rw [hdef]
  have HV := Lib.hid hv; have HS := Lib.hid hs; clear hv hs hdef
  go_enter Try.func12, Try.ntmps12
  go_wp2_with fail
  go_loopw [3, 4] (fun u i wr => ∃ k : Nat, k ≤ L.length ∧ i = .int .i64 k ∧ ownD wr w.heap.size u ((L.take k).flatMap valD) ∧ Below w.heap.size w wr) (fun _ i _ => L.length - (intOf i).toNat)
  case atStart => exact ⟨0, Nat.zero_le _, rfl, ownD_nil _ _, Below.refl _ _⟩
  case round =>
    obtain ⟨k, hk, rfl, ho, hb⟩ := hrel
    have HO := Lib.hid ho; have HB := Lib.hid hb
    clear ho hb
    by_cases hlt : k < L.length
    · obtain ⟨b, off, rfl, hbl, hce⟩ := (HV.out.bel HB.out).get k hlt
      have hle : L[k].length ≤ 4294967200 := HS.out _ (List.getElem_mem hlt)
      have hsp := rsplit_of L[k] 44 hle
      have hln := fun X : List (List UInt8) => listS_len X
      have hlk := hln (L.take k)
      rw [List.length_take] at hlk
      have hlm : ((L.take k).flatMap valD).length ≤ 4096000000 := by
        have h : ((L.take k).flatMap valD).length ≤ min k L.length * 4096 := hlk
        omega
      have hsn := flat_snoc valD L k hlt
      generalize L[k] = x at *
      have hat := fun y h => splitS_at (l := x) (sep := 44) (x := y) h
      have hl64 := splitS_len x 44
      generalize (L.take k).flatMap valD = M at *
      have HSP := Lib.hid hsp; have HSN := Lib.hid hsn; have HAT := Lib.hid hat; have HLM := Lib.hid hlm; have HLE := Lib.hid hle; have HL64 := Lib.hid hl64
      clear hsp hsn hat hlm hln hle hl64 hlk
      go_wp2_with fail
      refine (HSP.out _).mono ?_
      rintro e w1 ⟨vs, rfl, hos, hb1⟩
      have HOS := Lib.hid hos; have HB1 := Lib.hid (HB.out.trans (hb1.mono HB.out.size)); have HO1 := Lib.hid (HO.out.bel hb1)
      clear hos hb1 HO HB hce
      by_cases hE : splitE x 44 = 0
      · have hD : valD x = (splitL x 44).flatMap elemD := if_pos hE
        rw [hE]
        have HD := Lib.hid hD; clear hD hE
        generalize splitL x 44 = N at *
        obtain ⟨A1, c1, rfl⟩ := HOS.out.form
        obtain ⟨A0, c0, rfl⟩ := HO1.out.form
        go_wp2_with fail
        go_loopw [3, 7] (fun u i wr2 => ∃ j : Nat, j ≤ N.length ∧ i = .int .i64 j ∧ ownD wr2 w.heap.size u (M ++ (N.take j).flatMap elemD) ∧ Below w.heap.size w wr2 ∧ ownS wr2 wr.heap.size (.slice A1 N.length c1) N) (fun _ i _ => N.length - (intOf i).toNat)
        case atStart => exact ⟨0, Nat.zero_le _, rfl, by simpa using HO1.out, HB1.out, HOS.out⟩
        case round =>
          obtain ⟨j, hj, rfl, ho, hb, hos⟩ := hrel
          have HO := Lib.hid ho; have HB := Lib.hid hb; have HN := Lib.hid hos; clear ho hb hos HOS HO1 HB1
          have hn64 := HL64.out
          by_cases hjt : j < N.length
          · obtain ⟨g, rfl, hce⟩ := HN.out.cell j hjt
            rw [show N.getD j [] = N[j] from by simp [List.getD, hjt]] at hce
            have hyl : N[j].length ≤ 4294967200 := Nat.le_trans (HAT.out _ (List.getElem_mem hjt)) HLE.out
            have hsy := fun W => ssay_any N[j] W hyl
            have hfs := flat_snoc elemD N j hjt
            have hfl := flatMap_len (f := elemD) (n := 1) (L := N.take j) fun x _ => elemD_len x
            rw [List.length_take] at hfl
            have h1 := elemD_len N[j]
            have hql : (M ++ (N.take j).flatMap elemD).length + (elemD N[j]).length ≤ 4294967296 := by rw [List.length_append]; have := HLM.out; omega
            generalize N[j] = y at *
            generalize elemD y = m at *
            obtain ⟨Q, hQ⟩ : ∃ Q, M ++ (N.take j).flatMap elemD = Q := ⟨_, rfl⟩
            have hQn : M ++ (N.take (j + 1)).flatMap elemD = Q ++ m := by rw [hfs, ← List.append_assoc, hQ]
            rw [hQ] at HO hql
            have HQN := Lib.hid hQn; have HQL := Lib.hid hql; have HSY := Lib.hid hsy
            clear hyl hfs hfl hQ hQn hql hsy h1
            obtain ⟨A2, c2, rfl⟩ := HO.out.form
            go_wp2_with fail
            refine (HSY.out _).mono ?_
            rintro e w2 ⟨u, rfl, ho2, hb2⟩
            have HD2 := Lib.hid ho2.dl
            have HO2 := Lib.hid (HO.out.bel hb2); have HB2 := Lib.hid (HB.out.trans (hb2.mono HB.out.size)); have HN2 := Lib.hid (HN.out.bel hb2)
            clear ho2 hb2 HO HB HN HSY hce
            obtain ⟨A3, c3, rfl⟩ := HD2.out.form
            go_wp2_with (at_builtin; refine wpList_appDD rfl (.tmp 40) (.tmp 41) rfl w.heap.size w.heap.size _ _ Q m rfl HO2.out HB2.out (Nat.le_refl _) HB2.out.size rfl HD2.out HQL.out ?_; intro v' w' HO4 HB4 HK4; have HN4 := Lib.hid (HN2.out.kx HK4.out))
            go_roundw
            case rel => exact ⟨j + 1, by omega, by go_num, by rw [HQN.out]; exact HO4.out, HB4.out, HN4.out⟩
            case measure => simp [intOf]; omega
          · have hF : (L.take (k + 1)).flatMap valD = M ++ (N.take j).flatMap elemD := by rw [HSN.out, HD.out, flat_all elemD N j hjt]
            have HF := Lib.hid hF; clear hF
            go_wp2_with fail
            go_roundw
            case rel => exact ⟨k + 1, by omega, by go_num, by rw [HF.out]; exact HO.out, HB.out⟩
            case measure => simp [intOf]; omega
      · have hD : valD x = [noStore] := if_neg hE
        have hne : ((splitE x 44) != 0) = true := bne_iff_ne.2 hE
        generalize splitE x 44 = E at *
        generalize splitL x 44 = N at *
        rw [hD] at HSN
        clear hD hE
        obtain ⟨A1, c1, rfl⟩ := HOS.out.form
        obtain ⟨A0, c0, rfl⟩ := HO1.out.form
        have HQL : Hid (M.length + 1 ≤ 4294967296) := by show _ ≤ _; have := HLM.out; omega
        go_wp2_with (at_builtin; refine wpList_appDS rfl (.tmp 25) (.tmp 27) rfl w.heap.size w.heap.size _ _ noStore rfl HO1.out HB1.out (Nat.le_refl _) HB1.out.size rfl HQL.out ?_; intro v' w' HO4 HB4 HK4)
        go_roundw
        case rel => exact ⟨k + 1, by omega, by go_num, by rw [HSN.out]; exact HO4.out, HB4.out⟩
        case measure => simp [intOf]; omega
    · have HE := Lib.hid (flat_all valD L k hlt)
      have HO4 := HO.out
      rw [HE.out] at HO4
      have HO5 := Lib.hid HO4
      clear HO4 HE
      obtain ⟨A2, c2, rfl⟩ := HO5.out.form
      go_wp2_with fail
      go_ret
      exact ⟨_, rfl, HO5.out, HB.out⟩
end Go.Proofs.Ytonioemenjjajaa
