/- The directives of a device: the surctl layer's Mine (a set of names in a map). -/
import Derived.Test.YtfobjaccpnondaaGreatDoorKDirE
import Derived.Test.YtfobjaccpnondaaGreatDoorKSurA
import Derived.Test.YtfobjaccpnondaaGreatDoorKTick
import Derived.Maps.OwnSet
import Derived.StringKeys
namespace Go.Proofs.YtfobjaccpnondaaGreatDoor
open Go.RowKit

theorem beq_bs (a b : List UInt8) : ((bs a).toList == (bs b).toList) = (a == b) := by rw [Lib.toList_data, Lib.toList_data, bs_data, bs_data]
theorem beq_bl (a b : List UInt8) : ((bs a).toList == b) = (a == b) := by rw [Lib.toList_data, bs_data]
/-! A set of names. -/
theorem lawN : Go.Maps.Keyed Tryz.prog 9 := Go.Maps.string_keyed Tryz.underlying9
theorem zeroN (w : World) : (zeroValue 101).run Tryz.prog w = .ok (.agg #[]) w := by kernel_rfl
/-- block m is a map whose keys are the texts L -/
def nset (w : World) (m k : Nat) (L : List (List UInt8)) : Prop := w.ownsMap (H := Unit) Tryz.prog 9 unitElem m k (Go.Maps.setOf (.agg []) (L.map Lit.string))
theorem grown_bel {w w' : World} (hb : Below w.heap.size w w') : w.grownBy w' none := ⟨hb.os, hb.tape, hb.output, hb.size, fun k hk _ => hb.block k hk⟩
theorem nset.bel {w w' : World} {m k : Nat} {L : List (List UInt8)} (h : nset w m k L) (hb : Below w.heap.size w w') : nset w' m k L := World.ownsMap.kept h (grown_bel hb) (by simp)
theorem nset.grown {w w' : World} {m k : Nat} {L : List (List UInt8)} {o : Option Nat} (h : nset w m k L) (hg : w.grownBy w' o) (hne : some m ≠ o) : nset w' m k L := World.ownsMap.kept h hg hne
theorem nset.lt {w : World} {m k : Nat} {L : List (List UInt8)} (h : nset w m k L) : m < w.heap.size := World.ownsMap.lt h
theorem nset_new (w : World) : nset (w.alloc (.map #[] 0)) w.heap.size 0 [] := World.ownsMap_made w _ _ _
theorem nkeys (L : List (List UInt8)) : ∀ x ∈ L.map Lit.string, WideAt.IsKeyLit x := by
  intro x hx
  obtain ⟨y, _, rfl⟩ := List.mem_map.1 hx
  trivial
theorem has_names (L : List (List UInt8)) (n : List UInt8) : Go.Maps.has (Go.Maps.setOf (.agg [] : DataW Unit) (L.map Lit.string)) (.string n) = L.any (· == n) := by
  rw [Go.Maps.has_setOf _ _ _ (nkeys L), List.any_map]
  rfl
theorem key_n (n : List UInt8) (h : n.length ≤ maxLen) : keyOf Tryz.prog 9 (.string (bs n)) = some (.string n) := by
  have := Go.WideMaps.keyOf_string_mk (P := Tryz.prog) (k := 9) Tryz.underlying9 (s := bs n) (by rw [bs_size]; exact h)
  rwa [bs_data] at this
theorem nset.look {w : World} {m k : Nat} {L : List (List UInt8)} (h : nset w m k L) (n : List UInt8) (hn : n.length ≤ maxLen) :
    (Instr.lookup 100 (.map (some m)) (.string (bs n)) true).run Tryz.prog w = .ok (.tuple #[.agg #[], .bool (L.any (· == n))]) w := by
  obtain ⟨v, ps, hrun, hv⟩ := World.ownsMap.look_ok (t := 100) h lawN Tryz.underlying100 (zeroN w) (zd := .agg []) (zp := []) unitElem_mk (key_n n hn)
  obtain ⟨rfl, _⟩ := unitElem_inv hv
  rw [has_names] at hrun
  exact hrun
theorem nset.put {w : World} {m k : Nat} {L : List (List UInt8)} (h : nset w m k L) (n : List UInt8) (hn : n.length ≤ maxLen) (hk : k < maxLen) :
    ∃ w', (Instr.mapUpdate 100 (.map (some m)) (.string (bs n)) (.agg #[])).run Tryz.prog w = .ok () w' ∧ nset w' m (k + 1) (L ++ [n]) ∧ w.grownBy w' (some m) := by
  obtain ⟨w', hrun, h1, h2⟩ := World.ownsMap.update (t := 100) h lawN Tryz.underlying100 hk (key_n n hn) (unitElem_mk (H := Unit))
  refine ⟨w', hrun, ?_, h2⟩
  unfold nset
  rw [List.map_append, List.map_cons, List.map_nil, Go.Maps.setOf_snoc]
  exact h1

set_option maxRecDepth 100000 in
set_option maxHeartbeats 2000000 in
theorem copiedS_any (d : Dv) (w : World) (h1 : d.1.length ≤ 140737488351232) (h2 : d.2.1.length ≤ 140737488351232) (h3 : d.2.2.2.length ≤ 140737488351232) :
    Calls Tryz.prog 129 #[.agg #[.string (bs d.1), .string (bs d.2.1), .bool d.2.2.1, .string (bs d.2.2.2)]] w fun e w' => e = .returned (.agg #[.string (bs d.1), .string (bs d.2.1), .bool d.2.2.1, .string (bs d.2.2.2)]) ∧ Below w.heap.size w w' := by
  have hD : dbk ((w.alloc (.cells #[.string (bs d.1), .string (bs d.2.1), .bool d.2.2.1, .string (bs d.2.2.2)] 79)).alloc (.cells #[.string ⟨#[]⟩, .string ⟨#[]⟩, .bool false, .string ⟨#[]⟩] 79)) w.heap.size (dvA d) := (dbk.new w _ _).alloc _
  have hR := res_new (w.alloc (.cells #[.string (bs d.1), .string (bs d.2.1), .bool d.2.2.1, .string (bs d.2.2.2)] 79))
  rw [World.size_alloc] at hR
  have hB : Below w.heap.size w ((w.alloc (.cells #[.string (bs d.1), .string (bs d.2.1), .bool d.2.2.1, .string (bs d.2.2.2)] 79)).alloc (.cells #[.string ⟨#[]⟩, .string ⟨#[]⟩, .bool false, .string ⟨#[]⟩] 79)) := ((Below.refl _ _).alloc (Nat.le_refl _) _).alloc (by simp) _
  have C1 := Lib.hid (fun W => clone_any (bs d.1) W (by rw [bs_size]; omega))
  have C2 := Lib.hid (fun W => clone_any (bs d.2.1) W (by rw [bs_size]; omega))
  have C3 := Lib.hid (fun W => clone_any (bs d.2.2.2) W (by rw [bs_size]; omega))
  have HD := Lib.hid hD; have HR := Lib.hid hR; have HB := Lib.hid hB
  clear hD hR hB h1 h2 h3
  go_enter Tryz.func129, Tryz.ntmps129
  obtain ⟨c0, c1, c2, c3⟩ := HD.out.four
  go_wp2_with fail
  refine (C1.out _).mono ?_
  rintro e w1 ⟨rfl, hb⟩
  have HD1 := Lib.hid (HD.out.below hb); have HR1 := Lib.hid (HR.out.below hb); have HB1 := Lib.hid (HB.out.trans (hb.mono HB.out.size))
  clear HD HR HB hb c0 c1 c2 c3
  obtain ⟨c0, c1, c2, c3⟩ := HD1.out.four
  have f0 := HD1.out.free 0
  have q1 := HD1.out.same0.cell 1 _ rfl
  have HD2 := Lib.hid HD1.out.same0; have HR2 := Lib.hid (HR1.out.other (a := ⟨w.heap.size, 0, none⟩) (Nat.ne_of_gt (Nat.lt_succ_self _)) (.string (bs d.1))); have HB2 := Lib.hid (HB1.out.setCell (p := ⟨w.heap.size, 0, none⟩) (Nat.le_refl _) (.string (bs d.1)))
  clear HD1 HR1 HB1
  go_wp2_with fail
  refine (C2.out _).mono ?_
  rintro e w2 ⟨rfl, hb⟩
  have HDa2 := Lib.hid (HD2.out.below hb); have HRa2 := Lib.hid (HR2.out.below hb); have HBa2 := Lib.hid (HB2.out.trans (hb.mono HB2.out.size))
  clear HD2 HR2 HB2 hb c0 c1 c2 c3 f0 q1
  obtain ⟨c0, c1, c2, c3⟩ := HDa2.out.four
  have f0 := HDa2.out.free 1
  have q1 := HDa2.out.same1.four
  obtain ⟨q0, q1, q2, q3⟩ := q1
  have HD3 := Lib.hid HDa2.out.same1; have HR3 := Lib.hid (HRa2.out.other (a := ⟨w.heap.size, 1, none⟩) (Nat.ne_of_gt (Nat.lt_succ_self _)) (.string (bs d.2.1))); have HB3 := Lib.hid (HBa2.out.setCell (p := ⟨w.heap.size, 1, none⟩) (Nat.le_refl _) (.string (bs d.2.1)))
  clear HDa2 HRa2 HBa2
  go_wp2_with fail
  refine (C3.out _).mono ?_
  rintro e w3 ⟨rfl, hb⟩
  have HDa3 := Lib.hid (HD3.out.below hb); have HRa3 := Lib.hid (HR3.out.below hb); have HBa3 := Lib.hid (HB3.out.trans (hb.mono HB3.out.size))
  clear HD3 HR3 HB3 hb c0 c1 c2 c3 f0 q0 q1 q2 q3
  obtain ⟨c0, c1, c2, c3⟩ := HDa3.out.four
  have f0 := HDa3.out.free 3
  obtain ⟨z0, z1, z2, z3⟩ := HRa3.out.four
  have n0 := HRa3.out.free 0
  have n1 := HRa3.out.free 1
  have n2 := HRa3.out.free 2
  have n3 := HRa3.out.free 3
  have hr := HRa3.out.other (a := ⟨w.heap.size, 3, none⟩) (Nat.ne_of_gt (Nat.lt_succ_self _)) (.string (bs d.2.2.2))
  obtain ⟨g0, g1, g2, g3⟩ := hr.got d
  have hq := putD_below (b := w.heap.size + 1) (HBa3.out.setCell (p := ⟨w.heap.size, 3, none⟩) (Nat.le_refl _) (.string (bs d.2.2.2))) (Nat.le_succ _) d
  simp only [putD, dv0, bs_nil] at hq z0 z1 z2 z3 g0 g1 g2 g3
  have HQ := Lib.hid hq; have HG := Lib.hid (And.intro g0 (And.intro g1 (And.intro g2 g3))); clear hq hr HDa3 HRa3 HBa3 g0 g1 g2 g3
  go_wp2_with fail
  obtain ⟨g0, g1, g2, g3⟩ := HG.out
  refine bodyPost_ret (v := .agg #[.string (bs d.1), .string (bs d.2.1), .bool d.2.2.1, .string (bs d.2.2.2)]) (by simp [results, Tryz.results129, go_sem, g0, g1, g2, g3]) rfl ?_
  exact ⟨rfl, HQ.out⟩

/-- 'append(l, d)': what lies below the slice's base stands -/
theorem wpList_appDN {w0 w : World} {ops : Array Oper} {rest : List Oper} {o : Oper} {a : Act} {Q : Exit → Act → World → Prop} (hgd : o.guard = none) (s x : Operand)
    (ho : o.op = .call { callee := .builtin .append, args := #[s, x], argTypes := #[68, 68] })
    (base B : Nat) (v : Value) (l : List Dv) (d : Dv) (hs : a.eval s = v) (hown : ownD w base v l) (hb : Below B w0 w) (hBb : B ≤ base) (hbase : base ≤ w.heap.size)
    {g : Nat} (hx : a.eval x = .slice (some ⟨g, 0, none⟩) 1 1) (hlen : l.length + 1 ≤ 4294967296)
    (h : ∀ v' w', Hid (ownD w' base v' (l ++ [d])) → Hid (Below B w0 w') → Hid (∀ b, b < base → w'.heap[b]? = w.heap[b]?) → wpList Tryz.prog ops Q rest (a.put o.dst v') w') (hg : g = w.heap.size := by simp) :
    wpList Tryz.prog ops Q (o :: rest) a (w.alloc (.cells #[.string (bs d.1), .string (bs d.2.1), .bool d.2.2.1, .string (bs d.2.2.2)] 79)) := by
  exact wpList_appD hgd s x ho base B v l d hs hown hb hBb hbase hx hlen h hg
theorem nset.keep {w w' : World} {m k : Nat} {L : List (List UInt8)} (h : nset w m k L) (hk : w'.heap[m]? = w.heap[m]?) (_ : m < w.heap.size) : nset w' m k L := by
  obtain ⟨es, clock, h1, h2⟩ := h
  exact ⟨es, clock, hk.trans h1, h2⟩

/-! Mine. -/
/-- the names of a device's own directives -/
def ownL (l : List Dv) (dev : List UInt8) : List (List UInt8) := (l.filter fun d => d.2.2.2 == dev).map fun d => d.1
theorem ownL_any (l : List Dv) (dev n : List UInt8) : (ownL l dev).any (· == n) = ownN l dev n := by
  unfold ownL ownN
  rw [List.any_map, List.any_filter]
  rfl
theorem ownL_step {l : List Dv} {k : Nat} (hk : k < l.length) (dev : List UInt8) : ownL (l.take (k + 1)) dev = ownL (l.take k) dev ++ (if l[k].2.2.2 == dev then [l[k].1] else []) := by
  unfold ownL
  rw [List.take_succ_eq_append_getElem hk, List.filter_append, List.map_append]
  congr 1
  rw [List.filter_cons]
  split <;> rfl
theorem filter_stepD {l : List Dv} {k : Nat} (hk : k < l.length) (p : Dv → Bool) : (l.take (k + 1)).filter p = (l.take k).filter p ++ (if p l[k] then [l[k]] else []) := by
  rw [List.take_succ_eq_append_getElem hk, List.filter_append]
  congr 1
  rw [List.filter_cons]
  split <;> rfl
/-- texts as long as may be -/
def DvX (d : Dv) : Prop := d.1.length ≤ 140737488351232 ∧ d.2.1.length ≤ 140737488351232 ∧ d.2.2.2.length ≤ 140737488351232

set_option maxRecDepth 100000 in
set_option maxHeartbeats 8000000 in
theorem smine_any (v : Value) (l : List Dv) (dev : List UInt8) (w : World) (hv : DL w v l) (hl : ∀ j (hj : j < l.length), DvX l[j]) (hlen : l.length ≤ 4294967295) :
    Calls Tryz.prog 81 #[v, .string (bs dev)] w (RetD w (mineS l dev)) := by
  obtain ⟨A, c, rfl⟩ := hv.form
  have hmk := @run_makeMap Tryz.prog
  have HV := Lib.hid hv; have HL := Lib.hid hl; clear hv hl
  go_enter Tryz.func81, Tryz.ntmps81
  go_wp2_with fail
  clear hmk
  go_loopw [16] (fun i wr => ∃ k q : Nat, k ≤ l.length ∧ q ≤ k ∧ i = .int .i64 k ∧ nset wr w.heap.size q (ownL (l.take k) dev) ∧ Below w.heap.size w wr) (fun i _ => l.length - (intOf i).toNat)
  case atStart => exact ⟨0, 0, Nat.zero_le _, Nat.zero_le _, rfl, nset_new w, (Below.refl _ _).alloc (Nat.le_refl _) _⟩
  case round =>
    obtain ⟨k, q, hk, hq, rfl, hn, hb⟩ := hrel
    have HN := Lib.hid hn; have HB := Lib.hid hb; clear hn hb
    by_cases hlt : k < l.length
    · obtain ⟨b, off, rfl, hbl, e0, e1, e2, e3⟩ := (HV.out.bel HB.out).get k hlt
      have hst := ownL_step hlt dev
      have hz := (HL.out k hlt).1
      have hal : Below wr.heap.size wr (wr.alloc (.cells (dvA l[k]) 79)) := (Below.refl _ _).alloc (Nat.le_refl _) _
      have hn1 := HN.out.bel hal
      have hb1 := HB.out.trans (hal.mono HB.out.size)
      have hd := dbk.new wr (dvA l[k]) 79
      generalize l[k] = d at *
      obtain ⟨p0, p1, p2, p3⟩ := hd.four
      simp only [dvA] at p0 p1 p2 p3 hn1 hb1
      have HN1 := Lib.hid hn1; have HB1 := Lib.hid hb1
      clear hal hn1 hb1 hd HN HB
      cases hf : d.2.2.2 == dev
      · have hq1 : ((bs d.2.2.2).toList == (bs dev).toList) = false := by rw [beq_bs]; exact hf
        rw [hf] at hst
        simp only [Bool.false_eq_true, if_false, List.append_nil] at hst
        have HST := Lib.hid hst
        clear hst hf hz
        go_wp2_with fail
        go_roundw
        case rel => exact ⟨k + 1, q, by omega, by omega, by go_num, by rw [HST.out]; exact HN1.out, HB1.out⟩
        case measure => simp [intOf]; omega
      · have hq1 : ((bs d.2.2.2).toList == (bs dev).toList) = true := by rw [beq_bs]; exact hf
        rw [hf] at hst
        simp only [if_true] at hst
        have HST := Lib.hid hst
        obtain ⟨w2, hrun, hm2, hg2⟩ := HN1.out.put d.1 (by unfold maxLen; omega) (by unfold maxLen; omega)
        have HN2 := Lib.hid hm2
        have HB2 := Lib.hid (HB1.out.grown hg2 HB1.out.size (fun k hk => by cases hk; exact Nat.le_refl _))
        clear hst hf hz hm2 hg2
        go_wp2_with fail
        go_roundw
        case rel => exact ⟨k + 1, q + 1, by omega, by omega, by go_num, by rw [HST.out]; exact HN2.out, HB2.out⟩
        case measure => simp [intOf]; omega
    · have hE : l.take k = l := List.take_of_length_le (by omega)
      rw [hE] at HN
      clear hE
      have HO := Lib.hid (fun n => ownL_any l dev n)
      generalize ownL l dev = names at *
      have hdef : mineS l dev = l.filter fun d => d.2.2.2 == dev || (d.2.2.2 == [] && !names.any (· == d.1)) := by
        unfold mineS
        congr 1
        funext d
        rw [HO.out]
      generalize hpf : (fun d : Dv => d.2.2.2 == dev || (d.2.2.2 == [] && !names.any (· == d.1))) = pf at *
      have HP : Hid (∀ d, pf d = (d.2.2.2 == dev || (d.2.2.2 == [] && !names.any (· == d.1)))) := fun d => by rw [← hpf]
      have HML := Lib.hid HN.out.lt
      have HDEF := Lib.hid hdef
      clear hdef HO hpf
      go_wp2_with fail
      go_loopw [8, 31] (fun u i wr2 => ∃ j : Nat, j ≤ l.length ∧ i = .int .i64 j ∧ ownD wr2 (w.heap.size + 1) u ((l.take j).filter pf) ∧ nset wr2 w.heap.size q names ∧ Below w.heap.size w wr2 ∧ w.heap.size < wr2.heap.size) (fun _ i _ => l.length - (intOf i).toNat)
      case atStart => exact ⟨0, Nat.zero_le _, rfl, ownD_nil _ _, HN.out, HB.out, HML.out⟩
      case round =>
        obtain ⟨j, hj, rfl, ho, hn, hb, hsz⟩ := hrel
        have HO := Lib.hid ho; have HN2 := Lib.hid hn; have HB2 := Lib.hid hb; have HSZ := Lib.hid hsz; clear ho hn hb hsz HN HB HML
        by_cases hjt : j < l.length
        · obtain ⟨b, off, rfl, hbl, e0, e1, e2, e3⟩ := (HV.out.bel HB2.out).get j hjt
          have hst := filter_stepD hjt pf
          have hpd := HP.out l[j]
          obtain ⟨z1, z2, z3⟩ := HL.out j hjt
          have hfl := List.length_filter_le pf (l.take j)
          rw [List.length_take] at hfl
          generalize l[j] = d at *
          have HQL : Hid (((l.take j).filter pf).length + 1 ≤ 4294967296) := by show _ ≤ _; omega
          generalize (l.take j).filter pf = M at *
          have hal : Below wr.heap.size wr (wr.alloc (.cells (dvA d) 79)) := (Below.refl _ _).alloc (Nat.le_refl _) _
          have hal2 : Below wr.heap.size wr ((wr.alloc (.cells (dvA d) 79)).alloc (.cells #[] 101)) := hal.alloc hal.size _
          have hd0 := dbk.new wr (dvA d) 79
          have hd := hd0.alloc (.cells #[] 101)
          have hlk := (HN2.out.bel hal).look d.1 (by unfold maxLen; omega)
          have HN3 := Lib.hid (HN2.out.bel hal2)
          have HO3 := Lib.hid (HO.out.bel hal2)
          have HB3 := Lib.hid (HB2.out.trans (hal2.mono HB2.out.size))
          have HSZ3 : Hid (w.heap.size + 1 ≤ ((wr.alloc (.cells (dvA d) 79)).alloc (.cells #[] 101)).heap.size) := by show _ ≤ _; have := HSZ.out; simp; omega
          have hC := copiedS_any d ((wr.alloc (.cells (dvA d) 79)).alloc (.cells #[] 101)) z1 z2 z3
          obtain ⟨p0, p1, p2, p3⟩ := hd0.four
          obtain ⟨r0, r1, r2, r3⟩ := hd.four
          simp only [dvA] at p0 p1 p2 p3 r0 r1 r2 r3 hlk hC HN3 HO3 HB3 HSZ3
          have HC := Lib.hid hC
          obtain ⟨A0, c0, rfl⟩ := HO3.out.form
          clear hal hal2 hd0 hd hC hfl hbl HO HN2 HB2 z1 z2 z3 HSZ
          cases hf : d.2.2.2 == dev
          · have hq1 : ((bs d.2.2.2).toList == (bs dev).toList) = false := by rw [beq_bs]; exact hf
            cases hg : d.2.2.2 == []
            · have hq2 : ((bs d.2.2.2).toList == []) = false := by rw [beq_bl]; exact hg
              have hq3 : (bs d.2.2.2).toList.isEmpty = false := by rw [← hq2]; cases (bs d.2.2.2).toList <;> rfl
              have hp : pf d = false := by rw [hpd, hf, hg]; rfl
              rw [hp] at hst
              simp only [Bool.false_eq_true, if_false, List.append_nil] at hst
              have HST := Lib.hid hst
              clear hst hp hpd
              go_wp2_with fail
              go_roundw
              case rel => exact ⟨j + 1, by omega, by go_num, by rw [HST.out]; exact HO3.out, HN3.out, HB3.out, HSZ3.out⟩
              case measure => simp [intOf]; omega
            · have hq2 : ((bs d.2.2.2).toList == []) = true := by rw [beq_bl]; exact hg
              have hq3 : (bs d.2.2.2).toList.isEmpty = true := by rw [beq_bl] at hq2; rw [Lib.toList_data, bs_data, beq_iff_eq.1 hq2]; rfl
              cases hh : names.any (· == d.1)
              · have hp : pf d = true := by rw [hpd, hf, hg, hh]; rfl
                rw [hp] at hst
                simp only [if_true] at hst
                rw [hh] at hlk
                have HST := Lib.hid hst
                clear hst hp hpd
                go_wp2_with fail
                refine HC.out.mono ?_
                rintro e w3 ⟨rfl, hb3⟩
                have HN4 := Lib.hid (HN3.out.bel hb3); have HO4 := Lib.hid (HO3.out.bel hb3); have HB4 := Lib.hid (HB3.out.trans (hb3.mono HB3.out.size)); have HSZ4 : Hid (w.heap.size + 1 ≤ w3.heap.size) := Nat.le_trans HSZ3.out hb3.size
                clear hb3 HC HN3 HO3 HB3 HSZ3 hlk
                go_wp2_with (at_builtin; refine wpList_appDN rfl (.tmp 55) (.tmp 58) rfl (w.heap.size + 1) w.heap.size _ _ d rfl HO4.out HB4.out (Nat.le_succ _) HSZ4.out rfl HQL.out ?_; intro v' w' HO5 HB5 HG5; have HN5 := Lib.hid (HN4.out.keep (HG5.out _ (Nat.lt_succ_self _)) (by have := HSZ4.out; omega)); have HSZ5 : Hid (w.heap.size < w'.heap.size) := HN5.out.lt)
                go_roundw
                case rel => exact ⟨j + 1, by omega, by go_num, by rw [HST.out]; exact HO5.out, HN5.out, HB5.out, HSZ5.out⟩
                case measure => simp [intOf]; omega
              · have hp : pf d = false := by rw [hpd, hf, hg, hh]; rfl
                rw [hp] at hst
                simp only [Bool.false_eq_true, if_false, List.append_nil] at hst
                rw [hh] at hlk
                have HST := Lib.hid hst
                clear hst hp hpd
                go_wp2_with fail
                go_roundw
                case rel => exact ⟨j + 1, by omega, by go_num, by rw [HST.out]; exact HO3.out, HN3.out, HB3.out, HSZ3.out⟩
                case measure => simp [intOf]; omega
          · have hq1 : ((bs d.2.2.2).toList == (bs dev).toList) = true := by rw [beq_bs]; exact hf
            have hp : pf d = true := by rw [hpd, hf]; rfl
            rw [hp] at hst
            simp only [if_true] at hst
            have HST := Lib.hid hst
            clear hst hp hpd
            go_wp2_with fail
            refine HC.out.mono ?_
            rintro e w3 ⟨rfl, hb3⟩
            have HN4 := Lib.hid (HN3.out.bel hb3); have HO4 := Lib.hid (HO3.out.bel hb3); have HB4 := Lib.hid (HB3.out.trans (hb3.mono HB3.out.size)); have HSZ4 : Hid (w.heap.size + 1 ≤ w3.heap.size) := Nat.le_trans HSZ3.out hb3.size
            clear hb3 HC HN3 HO3 HB3 HSZ3 hlk
            go_wp2_with (at_builtin; refine wpList_appDN rfl (.tmp 55) (.tmp 58) rfl (w.heap.size + 1) w.heap.size _ _ d rfl HO4.out HB4.out (Nat.le_succ _) HSZ4.out rfl HQL.out ?_; intro v' w' HO5 HB5 HG5; have HN5 := Lib.hid (HN4.out.keep (HG5.out _ (Nat.lt_succ_self _)) (by have := HSZ4.out; omega)); have HSZ5 : Hid (w.heap.size < w'.heap.size) := HN5.out.lt)
            go_roundw
            case rel => exact ⟨j + 1, by omega, by go_num, by rw [HST.out]; exact HO5.out, HN5.out, HB5.out, HSZ5.out⟩
            case measure => simp [intOf]; omega
        · have hE : (l.take j).filter pf = l.filter pf := by rw [List.take_of_length_le (by omega)]
          have HO4 := HO.out
          rw [hE] at HO4
          have HO5 := Lib.hid (HO4.mono (Nat.le_succ _))
          clear HO4 hE
          obtain ⟨A2, c2, rfl⟩ := HO5.out.form
          go_wp2_with fail
          go_ret
          exact ⟨_, rfl, by rw [HDEF.out]; exact HO5.out, HB2.out⟩
end Go.Proofs.YtfobjaccpnondaaGreatDoor

/- The document's: a device's directives, the first of a name, words, one or two deltas. -/
namespace Go.Proofs.YtfobjaccpnondaaGreatDoor
open Go.RowKit

/-- one of the first j is of this name, and a device's own -/
def ownK (l : List Dv) (dev n : List UInt8) (j : Nat) : Bool := (l.take j).any fun d => dev != [] && d.2.2.2 == dev && d.1 == n
theorem ownK_step {l : List Dv} {j : Nat} (hj : j < l.length) (dev n : List UInt8) : ownK l dev n (j + 1) = (ownK l dev n j || (dev != [] && l[j].2.2.2 == dev && l[j].1 == n)) := by
  unfold ownK
  rw [List.take_succ_eq_append_getElem hj, List.any_append]
  simp
theorem ownK_all {l : List Dv} {j : Nat} (hj : ¬ j < l.length) (dev n : List UInt8) : ownK l dev n j = ownR l dev n := by
  unfold ownK ownR
  rw [List.take_of_length_le (by omega)]

set_option maxRecDepth 100000 in
set_option maxHeartbeats 8000000 in
theorem rmine_any (v : Value) (l : List Dv) (dev : List UInt8) (w : World) (hv : DL w v l) (hlen : l.length ≤ 4294967295) :
    Calls Tryz.prog 94 #[v, .string (bs dev)] w (RetD w (mineS l dev)) := by
  obtain ⟨A, c, rfl⟩ := hv.form
  have HDEF := Lib.hid (mineR_eq l dev)
  have HV := Lib.hid hv; clear hv
  go_enter Tryz.func94, Tryz.ntmps94
  go_wp2_with fail
  go_loopw [5, 6] (fun u i wr => ∃ k : Nat, k ≤ l.length ∧ i = .int .i64 k ∧ ownD wr w.heap.size u ((l.take k).filter (isMine l dev)) ∧ Below w.heap.size w wr) (fun _ i _ => l.length - (intOf i).toNat)
  case atStart => exact ⟨0, Nat.zero_le _, rfl, ownD_nil _ _, Below.refl _ _⟩
  case round =>
    obtain ⟨k, hk, rfl, ho, hb⟩ := hrel
    have HO := Lib.hid ho; have HB := Lib.hid hb; clear ho hb
    by_cases hlt : k < l.length
    · obtain ⟨b, off, rfl, hbl, e0, e1, e2, e3⟩ := (HV.out.bel HB.out).get k hlt
      have hst := filter_stepD hlt (isMine l dev)
      have hOK := fun j (hj : j < l.length) => ownK_step hj dev l[k].1
      have hOA := fun j (hj : ¬ j < l.length) => ownK_all hj dev l[k].1
      have hpd : isMine l dev l[k] = ((dev != [] && l[k].2.2.2 == dev) || (l[k].2.2.2 == [] && !ownR l dev l[k].1)) := rfl
      have hfl := List.length_filter_le (isMine l dev) (l.take k)
      rw [List.length_take] at hfl
      have HQL : Hid (((l.take k).filter (isMine l dev)).length + 1 ≤ 4294967296) := by show _ ≤ _; omega
      have HGET := Lib.hid (fun j (hj : j < l.length) => (HV.out.bel HB.out).get j hj)
      generalize l[k] = d at *
      generalize (l.take k).filter (isMine l dev) = M at *
      have HST := Lib.hid hst; have HOK := Lib.hid hOK; have HOA := Lib.hid hOA; have HPD := Lib.hid hpd
      clear hst hOK hOA hpd hfl
      obtain ⟨A0, c0, rfl⟩ := HO.out.form
      go_wp2_with fail
      go_loopw [7, 8] (fun o i wr2 => ∃ j : Nat, j ≤ l.length ∧ i = .int .i64 j ∧ o = .bool (ownK l dev d.1 j) ∧ ∃ n, wr2 = wr.drewN n) (fun _ i _ => l.length - (intOf i).toNat)
      case atStart => exact ⟨0, Nat.zero_le _, rfl, rfl, 0, rfl⟩
      case round =>
        obtain ⟨j, hj, rfl, rfl, n, rfl⟩ := hrel
        by_cases hjt : j < l.length
        · obtain ⟨b2, off2, hbo, hbl2, f0, f1, f2, f3⟩ := HGET.out j hjt
          obtain ⟨rfl, rfl⟩ : b = b2 ∧ off = off2 := by simpa using hbo
          have hk1 := HOK.out j hjt
          generalize l[j] = x at *
          generalize ownK l dev d.1 j = o at *
          have HK1 := Lib.hid hk1
          clear hbo hk1 e1 e2 e3 f1 f2
          have g0 : (wr.drewN n).cell? ⟨b, off + k * 4, none⟩ = some (.string (bs d.1)) := e0
          have g1 : (wr.drewN n).cell? ⟨b, off + j * 4, none⟩ = some (.string (bs x.1)) := f0
          have g2 : (wr.drewN n).cell? ⟨b, off + j * 4 + 3, none⟩ = some (.string (bs x.2.2.2)) := f3
          cases o
          · cases hd : dev == []
            · have q1 : ((bs dev).toList == []) = false := by rw [beq_bl]; exact hd
              have q2 : (bs dev).toList.isEmpty = false := by rw [← q1]; cases (bs dev).toList <;> rfl
              cases hf : x.2.2.2 == dev
              · have q3 : ((bs x.2.2.2).toList == (bs dev).toList) = false := by rw [beq_bs]; exact hf
                have HV2 : Hid (ownK l dev d.1 (j + 1) = false) := by show _ = _; rw [HK1.out, hf]; simp
                clear HK1
                go_wp2_with fail
                go_quiet (fail)
                go_wp2_with fail
                go_roundw
                case rel => exact ⟨j + 1, by omega, by go_num, by rw [HV2.out], _, rfl⟩
                case measure => simp [intOf]; omega
              · have q3 : ((bs x.2.2.2).toList == (bs dev).toList) = true := by rw [beq_bs]; exact hf
                cases hn : x.1 == d.1
                · have q4 : ((bs x.1).toList == (bs d.1).toList) = false := by rw [beq_bs]; exact hn
                  have HV2 : Hid (ownK l dev d.1 (j + 1) = false) := by show _ = _; rw [HK1.out, hn]; simp
                  clear HK1
                  go_wp2_with fail
                  go_quiet (fail)
                  go_wp2_with fail
                  go_roundw
                  case rel => exact ⟨j + 1, by omega, by go_num, by rw [HV2.out], _, rfl⟩
                  case measure => simp [intOf]; omega
                · have q4 : ((bs x.1).toList == (bs d.1).toList) = true := by rw [beq_bs]; exact hn
                  have HV2 : Hid (ownK l dev d.1 (j + 1) = true) := by show _ = _; rw [HK1.out, hn, hf, bne, hd]; rfl
                  clear HK1
                  go_wp2_with fail
                  go_quiet (fail)
                  go_wp2_with fail
                  go_roundw
                  case rel => exact ⟨j + 1, by omega, by go_num, by rw [HV2.out], _, rfl⟩
                  case measure => simp [intOf]; omega
            · have q1 : ((bs dev).toList == []) = true := by rw [beq_bl]; exact hd
              have q2 : (bs dev).toList.isEmpty = true := by rw [Lib.toList_data, bs_data, beq_iff_eq.1 hd]; rfl
              have HV2 : Hid (ownK l dev d.1 (j + 1) = false) := by show _ = _; rw [HK1.out, bne, hd]; rfl
              clear HK1
              go_wp2_with fail
              go_quiet (fail)
              go_wp2_with fail
              go_roundw
              case rel => exact ⟨j + 1, by omega, by go_num, by rw [HV2.out], _, rfl⟩
              case measure => simp [intOf]; omega
          · have HV2 : Hid (ownK l dev d.1 (j + 1) = true) := by show _ = _; rw [HK1.out]; rfl
            clear HK1
            go_wp2_with fail
            go_quiet (fail)
            go_wp2_with fail
            go_roundw
            case rel => exact ⟨j + 1, by omega, by go_num, by rw [HV2.out], _, rfl⟩
            case measure => simp [intOf]; omega
        · have ha := HOA.out j hjt
          rw [ha]
          have HPD2 := Lib.hid HPD.out
          generalize ownR l dev d.1 = o at *
          clear ha HPD
          have HO2 : Hid (ownD (wr.drewN n) w.heap.size (.slice A0 M.length c0) M) := HO.out
          have HB2 : Hid (Below w.heap.size w (wr.drewN n)) := below_dnD HB.out n
          have g0 : (wr.drewN n).cell? ⟨b, off + k * 4, none⟩ = some (.string (bs d.1)) := e0
          have g1 : (wr.drewN n).cell? ⟨b, off + k * 4 + 1, none⟩ = some (.string (bs d.2.1)) := e1
          have g2 : (wr.drewN n).cell? ⟨b, off + k * 4 + 2, none⟩ = some (.bool d.2.2.1) := e2
          have g3 : (wr.drewN n).cell? ⟨b, off + k * 4 + 3, none⟩ = some (.string (bs d.2.2.2)) := e3
          clear e0 e1 e2 e3 HO HB HOK HOA HGET
          generalize wr.drewN n = W at *
          cases hd : dev == []
          · have q1 : ((bs dev).toList == []) = false := by rw [beq_bl]; exact hd
            have q2 : (bs dev).toList.isEmpty = false := by rw [← q1]; cases (bs dev).toList <;> rfl
            cases hf : d.2.2.2 == dev
            · have q3 : ((bs d.2.2.2).toList == (bs dev).toList) = false := by rw [beq_bs]; exact hf
              cases hg : d.2.2.2 == []
              · have q4 : ((bs d.2.2.2).toList == []) = false := by rw [beq_bl]; exact hg
                have q5 : (bs d.2.2.2).toList.isEmpty = false := by rw [← q4]; cases (bs d.2.2.2).toList <;> rfl
                have HPD3 : isMine l dev d = false := by rw [HPD2.out, hf, hg]; simp
                have HST2 := Lib.hid HST.out
                rw [HPD3] at HST2
                simp only [Bool.false_eq_true, if_false, List.append_nil] at HST2
                clear HPD3 HPD2 HST
                go_wp2_with fail
                go_roundw
                case rel => exact ⟨k + 1, by omega, by go_num, by rw [HST2.out]; exact HO2.out, HB2.out⟩
                case measure => simp [intOf]; omega
              · have q4 : ((bs d.2.2.2).toList == []) = true := by rw [beq_bl]; exact hg
                have q5 : (bs d.2.2.2).toList.isEmpty = true := by rw [Lib.toList_data, bs_data, beq_iff_eq.1 hg]; rfl
                cases o
                · have HPD3 : isMine l dev d = true := by rw [HPD2.out, hg]; simp
                  have HST2 := Lib.hid HST.out
                  rw [HPD3] at HST2
                  simp only [if_true] at HST2
                  clear HPD3 HPD2 HST
                  go_wp2_with (at_builtin; refine wpList_appDN rfl (.tmp 71) (.tmp 76) rfl w.heap.size w.heap.size _ _ d rfl HO2.out HB2.out (Nat.le_refl _) HB2.out.size rfl HQL.out ?_; intro v' w' HO5 HB5 HG5)
                  go_roundw
                  case rel => exact ⟨k + 1, by omega, by go_num, by rw [HST2.out]; exact HO5.out, HB5.out⟩
                  case measure => simp [intOf]; omega
                · have HPD3 : isMine l dev d = false := by rw [HPD2.out, hf]; simp
                  have HST2 := Lib.hid HST.out
                  rw [HPD3] at HST2
                  simp only [Bool.false_eq_true, if_false, List.append_nil] at HST2
                  clear HPD3 HPD2 HST
                  go_wp2_with fail
                  go_roundw
                  case rel => exact ⟨k + 1, by omega, by go_num, by rw [HST2.out]; exact HO2.out, HB2.out⟩
                  case measure => simp [intOf]; omega
            · have q3 : ((bs d.2.2.2).toList == (bs dev).toList) = true := by rw [beq_bs]; exact hf
              have HPD3 : isMine l dev d = true := by rw [HPD2.out, hf, bne, hd]; rfl
              have HST2 := Lib.hid HST.out
              rw [HPD3] at HST2
              simp only [if_true] at HST2
              clear HPD3 HPD2 HST
              go_wp2_with (at_builtin; refine wpList_appDN rfl (.tmp 71) (.tmp 76) rfl w.heap.size w.heap.size _ _ d rfl HO2.out HB2.out (Nat.le_refl _) HB2.out.size rfl HQL.out ?_; intro v' w' HO5 HB5 HG5)
              go_roundw
              case rel => exact ⟨k + 1, by omega, by go_num, by rw [HST2.out]; exact HO5.out, HB5.out⟩
              case measure => simp [intOf]; omega
          · have q1 : ((bs dev).toList == []) = true := by rw [beq_bl]; exact hd
            have q2 : (bs dev).toList.isEmpty = true := by rw [Lib.toList_data, bs_data, beq_iff_eq.1 hd]; rfl
            cases hg : d.2.2.2 == []
            · have q4 : ((bs d.2.2.2).toList == []) = false := by rw [beq_bl]; exact hg
              have q5 : (bs d.2.2.2).toList.isEmpty = false := by rw [← q4]; cases (bs d.2.2.2).toList <;> rfl
              have HPD3 : isMine l dev d = false := by rw [HPD2.out, bne, hd, hg]; simp
              have HST2 := Lib.hid HST.out
              rw [HPD3] at HST2
              simp only [Bool.false_eq_true, if_false, List.append_nil] at HST2
              clear HPD3 HPD2 HST
              go_wp2_with fail
              go_roundw
              case rel => exact ⟨k + 1, by omega, by go_num, by rw [HST2.out]; exact HO2.out, HB2.out⟩
              case measure => simp [intOf]; omega
            · have q4 : ((bs d.2.2.2).toList == []) = true := by rw [beq_bl]; exact hg
              have q5 : (bs d.2.2.2).toList.isEmpty = true := by rw [Lib.toList_data, bs_data, beq_iff_eq.1 hg]; rfl
              cases o
              · have HPD3 : isMine l dev d = true := by rw [HPD2.out, hg]; simp
                have HST2 := Lib.hid HST.out
                rw [HPD3] at HST2
                simp only [if_true] at HST2
                clear HPD3 HPD2 HST
                go_wp2_with (at_builtin; refine wpList_appDN rfl (.tmp 71) (.tmp 76) rfl w.heap.size w.heap.size _ _ d rfl HO2.out HB2.out (Nat.le_refl _) HB2.out.size rfl HQL.out ?_; intro v' w' HO5 HB5 HG5)
                go_roundw
                case rel => exact ⟨k + 1, by omega, by go_num, by rw [HST2.out]; exact HO5.out, HB5.out⟩
                case measure => simp [intOf]; omega
              · have HPD3 : isMine l dev d = false := by rw [HPD2.out, bne, hd]; simp
                have HST2 := Lib.hid HST.out
                rw [HPD3] at HST2
                simp only [Bool.false_eq_true, if_false, List.append_nil] at HST2
                clear HPD3 HPD2 HST
                go_wp2_with fail
                go_roundw
                case rel => exact ⟨k + 1, by omega, by go_num, by rw [HST2.out]; exact HO2.out, HB2.out⟩
                case measure => simp [intOf]; omega
    · have hE : (l.take k).filter (isMine l dev) = l.filter (isMine l dev) := by rw [List.take_of_length_le (by omega)]
      have HO4 := HO.out
      rw [hE] at HO4
      have HO5 := Lib.hid HO4
      clear HO4 hE
      obtain ⟨A2, c2, rfl⟩ := HO5.out.form
      go_wp2_with fail
      go_ret
      exact ⟨_, rfl, by rw [← HDEF.out]; exact HO5.out, HB.out⟩

/-! The first of a name. -/
theorem first_miss {l : List Dv} {n : List UInt8} {k : Nat} (h : k < l.length) (hf : firstS (l.drop k) n = firstS l n) (he : (l[k].1 == n) = false) : firstS (l.drop (k + 1)) n = firstS l n := by
  rw [← hf, List.drop_eq_getElem_cons h]; unfold firstS; rw [List.find?_cons, he]
theorem first_hit {l : List Dv} {n : List UInt8} {k : Nat} (h : k < l.length) (hf : firstS (l.drop k) n = firstS l n) (he : (l[k].1 == n) = true) : firstS l n = (l[k].2.1, true) := by
  rw [← hf, List.drop_eq_getElem_cons h]; unfold firstS; rw [List.find?_cons, he]
theorem first_none {l : List Dv} {n : List UInt8} {k : Nat} (h : ¬ k < l.length) (hf : firstS (l.drop k) n = firstS l n) : firstS l n = ([], false) := by
  rw [← hf, List.drop_of_length_le (by omega)]; rfl
set_option maxRecDepth 100000 in
set_option maxHeartbeats 2000000 in
theorem rfirst_any (v : Value) (l : List Dv) (n : List UInt8) (w : World) (hv : DL w v l) (hlen : l.length ≤ 4294967295) :
    Calls Tryz.prog 96 #[v, .string (bs n)] w fun e w' => e = .returned (.tuple #[.string (bs (firstS l n).1), .bool (firstS l n).2]) ∧ w = w' := by
  obtain ⟨A, c, rfl⟩ := hv.form
  have HV := Lib.hid hv; clear hv
  go_enter Tryz.func96, Tryz.ntmps96
  go_wp2_with fail
  go_loop [6] (fun i => ∃ k : Nat, k ≤ l.length ∧ i = .int .i64 k ∧ firstS (l.drop k) n = firstS l n) (fun i => l.length - (intOf i).toNat)
  case atStart => exact ⟨0, Nat.zero_le _, rfl, rfl⟩
  case round =>
    obtain ⟨k, hk, rfl, hf⟩ := hrel
    have HF := Lib.hid hf; clear hf
    by_cases hlt : k < l.length
    · obtain ⟨b, off, rfl, hbl, e0, e1, e2, e3⟩ := HV.out.get k hlt
      have hm := fun h => first_miss hlt HF.out h
      have hh := fun h => first_hit hlt HF.out h
      generalize l[k] = d at *
      cases he : d.1 == n
      · have q1 : ((bs d.1).toList == (bs n).toList) = false := by rw [beq_bs]; exact he
        have HM := Lib.hid (hm he)
        clear hm hh he
        go_wp2_with fail
        go_round
        case rel => exact ⟨k + 1, by omega, by go_num, HM.out⟩
        case measure => simp [intOf]; omega
      · have q1 : ((bs d.1).toList == (bs n).toList) = true := by rw [beq_bs]; exact he
        have HM := Lib.hid (hh he)
        clear hm hh he
        go_wp2_with fail
        go_ret2
        exact ⟨by rw [HM.out]; rfl, rfl⟩
    · have HM := Lib.hid (first_none hlt HF.out)
      go_wp2_with fail
      go_ret2
      exact ⟨by rw [HM.out]; rfl, rfl⟩

/-! A word. -/
theorem hasW_blank {w cur : List UInt8} {c : UInt8} {r : List UInt8} (h : blankB c = true) : hasW w cur (c :: r) = (cur == w || hasW w [] r) := by rw [hasW, if_pos h]
theorem hasW_other {w cur : List UInt8} {c : UInt8} {r : List UInt8} (h : blankB c = false) : hasW w cur (c :: r) = hasW w (cur ++ [c]) r := by rw [hasW, if_neg (by rw [h]; simp)]
theorem ex_mid (S : ByteArray) (f k : Nat) : (S.extract f k).toList = mid S f k := by rw [Lib.toList_data, Lib.extract_data]; rfl
set_option maxRecDepth 100000 in
set_option maxHeartbeats 4000000 in
theorem rword_any (S W : ByteArray) (w : World) (hs : S.size ≤ 4294967200) :
    Calls Tryz.prog 97 #[.string S, .string W] w fun e w' => e = .returned (.bool (hasW W.data.toList [] S.data.toList)) ∧ w = w' := by
  generalize hH : hasW W.data.toList [] S.data.toList = H
  have HH := Lib.hid hH; clear hH
  go_enter Tryz.func97, Tryz.ntmps97
  go_wp2_with fail
  go_loop [5, 6] (fun f i => ∃ a k : Nat, i = .int .i64 k ∧ f = .int .i64 a ∧ ((k ≤ S.size ∧ a ≤ k ∧ Hid (hasW W.data.toList (mid S a k) (S.data.toList.drop k) = H)) ∨ (k = S.size + 1 ∧ Hid (H = false)))) (fun _ i => S.size + 1 - (intOf i).toNat)
  case atStart => exact ⟨0, 0, rfl, rfl, .inl ⟨Nat.zero_le _, Nat.le_refl _, by show _ = _; rw [← HH.out]; rfl⟩⟩
  case round =>
    obtain ⟨a, k, rfl, rfl, h⟩ := hrel
    rcases h with ⟨hk, hak, HR⟩ | ⟨rfl, HF⟩
    · have hki : (k : Int) ≤ (S.size : Int) := by omega
      have hai : (a : Int) ≤ (k : Int) := by omega
      have hw1 : IntKind.i64.wrap ((k : Int) + 1) = (k : Int) + 1 := by rw [IntKind.wrap_i64]; omega
      have hcmp : ((S.extract a k).toList == W.toList) = (mid S a k == W.data.toList) := by rw [ex_mid, Lib.toList_data]
      by_cases hlt : k < S.size
      · have hne : ((k : Int) == (S.size : Int)) = false := by rw [beq_eq_false_iff_ne]; omega
        have hd := drop_at hlt
        have hm1 := mid_snoc S a k hak hlt
        have hm2 : mid S (k + 1) (k + 1) = [] := by unfold mid; simp
        cases hb : blankB S[k]
        · obtain ⟨b1, b2⟩ := blankI_no hb
          have HN : Hid (hasW W.data.toList (mid S a (k + 1)) (S.data.toList.drop (k + 1)) = H) := by
            show _ = _
            rw [← HR.out, hd, hasW_other hb, hm1]
          clear hb hd hm1 hm2 hcmp
          go_wp2_with fail
          go_round
          case rel => exact ⟨a, k + 1, by go_num, rfl, .inl ⟨by omega, by omega, HN⟩⟩
          case measure => simp [intOf]; omega
        · cases hc : mid S a k == W.data.toList
          · rw [hc] at hcmp
            have HN : Hid (hasW W.data.toList (mid S (k + 1) (k + 1)) (S.data.toList.drop (k + 1)) = H) := by
              show _ = _
              rw [← HR.out, hd, hasW_blank hb, hc, Bool.false_or, hm2]
            rcases blankI_or hb with b1 | ⟨b1, b2⟩
            · clear hb hd hm1 hm2 hc
              go_wp2_with fail
              go_round
              case rel => exact ⟨k + 1, k + 1, by go_num, by go_num, .inl ⟨by omega, by omega, HN⟩⟩
              case measure => simp [intOf]; omega
            · clear hb hd hm1 hm2 hc
              go_wp2_with fail
              go_round
              case rel => exact ⟨k + 1, k + 1, by go_num, by go_num, .inl ⟨by omega, by omega, HN⟩⟩
              case measure => simp [intOf]; omega
          · rw [hc] at hcmp
            have HN : Hid (H = true) := by
              show _ = _
              rw [← HR.out, hd, hasW_blank hb, hc, Bool.true_or]
            rcases blankI_or hb with b1 | ⟨b1, b2⟩
            · clear hb hd hm1 hm2 hc
              go_wp2_with fail
              go_ret
              exact ⟨ret_bool HN.out.symm, rfl⟩
            · clear hb hd hm1 hm2 hc
              go_wp2_with fail
              go_ret
              exact ⟨ret_bool HN.out.symm, rfl⟩
      · obtain rfl : k = S.size := by omega
        have hne : ((S.size : Int) == (S.size : Int)) = true := by simp
        have hd := drop_nil (s := S) (Nat.le_refl _)
        cases hc : mid S a S.size == W.data.toList
        · rw [hc] at hcmp
          have HN : Hid (H = false) := by
            show _ = _
            rw [← HR.out, hd, hasW, hc]
          clear hd hc
          go_wp2_with fail
          go_round
          case rel => exact ⟨S.size + 1, S.size + 1, by go_num, by go_num, .inr ⟨rfl, HN⟩⟩
          case measure => simp [intOf] <;> omega
        · rw [hc] at hcmp
          have HN : Hid (H = true) := by
            show _ = _
            rw [← HR.out, hd, hasW, hc]
          clear hd hc
          go_wp2_with fail
          go_ret
          exact ⟨ret_bool HN.out.symm, rfl⟩
    · have hki : ¬ ((S.size + 1 : Nat) : Int) ≤ (S.size : Int) := by omega
      go_wp2_with fail
      go_ret
      exact ⟨ret_bool HF.out.symm, rfl⟩

/-! One or two deltas. -/
theorem ret_two {a b c d : Int} (h : (a, b) = (c, d)) : Ending.returned (.tuple #[.int .i64 a, .int .i64 b]) = .returned (.tuple #[.int .i64 c, .int .i64 d]) := by
  obtain ⟨rfl, rfl⟩ := Prod.mk.inj h
  rfl
set_option maxRecDepth 100000 in
set_option maxHeartbeats 4000000 in
theorem rages_any (S : ByteArray) (w : World) (hs : S.size ≤ 4294967200) :
    Calls Tryz.prog 98 #[.string S] w fun e w' => e = .returned (.tuple #[.int .i64 (agesP S.data.toList).1, .int .i64 (agesP S.data.toList).2]) ∧ w = w' := by
  have HT0 := Lib.hid (fun W => rdelta_any S W (by unfold maxLen; omega))
  have hsl : S.data.toList.length = S.size := (size_len S).symm
  cases hdl : isDel S.data.toList
  · have hhit := fun k hk hc h => ages_hit (s := S.data.toList) (k := k) hk hc h
    have hnon := ages_none hdl
    generalize agesP S.data.toList = R at *
    obtain ⟨r1, r2⟩ := R
    have HHIT := Lib.hid hhit; have HNON := Lib.hid hnon
    clear hhit hnon
    have HT1 := Lib.hid (fun W => rdelta_any S W (by unfold maxLen; omega))
    rw [hdl] at HT0
    clear HT1
    go_enter Tryz.func98, Tryz.ntmps98
    go_wp2_with fail
    refine (HT0.out _).mono ?_
    rintro e w1 ⟨rfl, rfl⟩
    go_wp2_with fail
    go_loop [6] (fun i => ∃ k : Nat, i = .int .i64 k ∧ k ≤ S.size ∧ Hid (∀ j (hj : j < S.data.toList.length), j < k → S.data.toList[j] = 43 → hit43 S.data.toList j = false)) (fun i => S.size - (intOf i).toNat)
    case atStart => exact ⟨0, rfl, Nat.zero_le _, fun j _ h => absurd h (Nat.not_lt_zero _)⟩
    case round =>
      obtain ⟨k, rfl, hk, HZ⟩ := hrel
      by_cases hlt : k < S.size
      · have hlt2 : k < S.data.toList.length := by omega
        have hat : S.data.toList[k] = S[k] := by simp [ByteArray.getElem_eq_getElem_data]
        have hi1 : (k : Int) < (S.size : Int) := by omega
        by_cases hc : (S[k].toNat : Int) = 43
        · have hq : ((S[k].toNat : Int) != 43) = false := by rw [bne_eq_false_iff_eq]; exact hc
          have h43 : S.data.toList[k] = 43 := by rw [hat]; exact UInt8.toNat_inj.1 (by simp; omega)
          have hex1 : (S.extract 0 k).data.toList = S.data.toList.take k := by rw [Lib.extract_data]; simp
          have hex2 : (S.extract (k + 1) S.size).data.toList = S.data.toList.drop (k + 1) := by rw [Lib.extract_data, List.take_of_length_le (by simp)]
          have hz1 : (S.extract 0 k).size ≤ maxLen := by unfold maxLen; simp; omega
          have hz2 : (S.extract (k + 1) S.size).size ≤ maxLen := by unfold maxLen; simp; omega
          have d1 := fun W => rdelta_any (S.extract 0 k) W hz1
          have d2 := fun W => rdelta_any (S.extract (k + 1) S.size) W hz2
          rw [hex1] at d1
          rw [hex2] at d2
          have hhk := HHIT.out k hlt2 h43
          have hh0 : hit43 S.data.toList k = (isDel (S.data.toList.take k) && isDel (S.data.toList.drop (k + 1))) := rfl
          have hnx : hit43 S.data.toList k = false → ∀ j (hj : j < S.data.toList.length), j < k + 1 → S.data.toList[j] = 43 → hit43 S.data.toList j = false := by
            intro hf j hj h1 h2
            rcases Nat.lt_or_eq_of_le (Nat.le_of_lt_succ h1) with h3 | h3
            · exact HZ.out j hj h3 h2
            · subst h3; exact hf
          have hw1 : IntKind.i64.wrap ((k : Int) + 1) = (k : Int) + 1 := by rw [IntKind.wrap_i64]; omega
          have hle1 : (k : Int) + 1 ≤ (S.size : Int) := by omega
          have htn : ((k : Int) + 1).toNat = k + 1 := by omega
          have h00 : (0 : Int) ≤ (k : Int) + 1 := by omega
          have D1 := Lib.hid d1; have D2 := Lib.hid d2
          clear hex1 hex2 hz1 hz2 d1 d2 hat h43 hc HT0
          cases hA : isDel (S.data.toList.take k)
          · have HNX := Lib.hid (hnx (by rw [hh0, hA]; rfl))
            rw [hA] at D1
            cases hB : isDel (S.data.toList.drop (k + 1))
            · rw [hB] at D2
              clear hhk hh0 hnx hA hB
              generalize delI (S.data.toList.take k) = x at *
              generalize delI (S.data.toList.drop (k + 1)) = y at *
              go_wp2_with fail
              refine (D1.out _).mono ?_
              rintro e w2 ⟨rfl, rfl⟩
              go_wp2_with fail
              refine (D2.out _).mono ?_
              rintro e w2 ⟨rfl, rfl⟩
              go_wp2_with fail
              go_round
              case rel => exact ⟨k + 1, by go_num, by omega, HNX⟩
              case measure => simp [intOf]; omega
            · rw [hB] at D2
              clear hhk hh0 hnx hA hB
              generalize delI (S.data.toList.take k) = x at *
              generalize delI (S.data.toList.drop (k + 1)) = y at *
              go_wp2_with fail
              refine (D1.out _).mono ?_
              rintro e w2 ⟨rfl, rfl⟩
              go_wp2_with fail
              refine (D2.out _).mono ?_
              rintro e w2 ⟨rfl, rfl⟩
              go_wp2_with fail
              go_round
              case rel => exact ⟨k + 1, by go_num, by omega, HNX⟩
              case measure => simp [intOf]; omega
          · rw [hA] at D1
            cases hB : isDel (S.data.toList.drop (k + 1))
            · have HNX := Lib.hid (hnx (by rw [hh0, hB, Bool.and_false]))
              rw [hB] at D2
              clear hhk hh0 hnx hA hB
              generalize delI (S.data.toList.take k) = x at *
              generalize delI (S.data.toList.drop (k + 1)) = y at *
              go_wp2_with fail
              refine (D1.out _).mono ?_
              rintro e w2 ⟨rfl, rfl⟩
              go_wp2_with fail
              refine (D2.out _).mono ?_
              rintro e w2 ⟨rfl, rfl⟩
              go_wp2_with fail
              go_round
              case rel => exact ⟨k + 1, by go_num, by omega, HNX⟩
              case measure => simp [intOf]; omega
            · have HR := Lib.hid (hhk (by rw [hh0, hA, hB]; rfl))
              rw [hB] at D2
              clear hhk hh0 hnx hA hB
              generalize delI (S.data.toList.take k) = x at *
              generalize delI (S.data.toList.drop (k + 1)) = y at *
              go_wp2_with fail
              refine (D1.out _).mono ?_
              rintro e w2 ⟨rfl, rfl⟩
              go_wp2_with fail
              refine (D2.out _).mono ?_
              rintro e w2 ⟨rfl, rfl⟩
              go_wp2_with fail
              go_ret2
              exact ⟨ret_two HR.out.symm, rfl⟩
        · have hq : ((S[k].toNat : Int) != 43) = true := bne_iff_ne.2 hc
          have HNX : Hid (∀ j (hj : j < S.data.toList.length), j < k + 1 → S.data.toList[j] = 43 → hit43 S.data.toList j = false) := by
            intro j hj h1 h2
            rcases Nat.lt_or_eq_of_le (Nat.le_of_lt_succ h1) with h3 | h3
            · exact HZ.out j hj h3 h2
            · subst h3; rw [hat] at h2; rw [h2] at hc; exact absurd rfl hc
          clear hat hc HT0
          go_wp2_with fail
          go_round
          case rel => exact ⟨k + 1, by go_num, by omega, HNX⟩
          case measure => simp [intOf]; omega
      · have HR := Lib.hid (HNON.out fun j hj h => HZ.out j hj (by omega) h)
        go_wp2_with fail
        go_ret2
        exact ⟨ret_two HR.out.symm, rfl⟩
  · have HR := Lib.hid (ages_whole hdl)
    rw [hdl] at HT0
    generalize agesP S.data.toList = R at *
    obtain ⟨r1, r2⟩ := R
    generalize delI S.data.toList = x at *
    clear hdl
    go_enter Tryz.func98, Tryz.ntmps98
    go_wp2_with fail
    refine (HT0.out _).mono ?_
    rintro e w1 ⟨rfl, rfl⟩
    go_wp2_with fail
    go_ret2
    exact ⟨ret_two HR.out.symm, rfl⟩
end Go.Proofs.YtfobjaccpnondaaGreatDoor
