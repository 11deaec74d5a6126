/- The directives of a device: the surctl layer's Mine (a set of names in a map). -/
import Derived.Test.YtonioemenjjajaaSurB
import Derived.Test.YtonioemenjjajaaDirI
import Derived.Maps.OwnSet
import Derived.StringKeys
namespace Go.Proofs.Ytonioemenjjajaa
open Go.RowKit

theorem beq_bs (a b : List UInt8) : ((bs a).toList == (bs b).toList) = (a == b) := by rw [Lib.toList_data, Lib.toList_data, bs_data, bs_data]
theorem beq_bl (a b : List UInt8) : ((bs a).toList == b) = (a == b) := by rw [Lib.toList_data, bs_data]
/-! A set of names. -/
theorem lawN : Go.Maps.Keyed Try.prog 9 := Go.Maps.string_keyed Try.underlying9
theorem zeroN (w : World) : (zeroValue 47).run Try.prog w = .ok (.agg #[]) w := by kernel_rfl
/-- block m is a map whose keys are the texts L -/
def nset (w : World) (m k : Nat) (L : List (List UInt8)) : Prop := w.ownsMap (H := Unit) Try.prog 9 unitElem m k (Go.Maps.setOf (.agg []) (L.map Lit.string))
theorem grown_bel {w w' : World} (hb : Below w.heap.size w w') : w.grownBy w' none := ⟨hb.os, hb.tape, hb.output, hb.size, fun k hk _ => hb.block k hk⟩
theorem nset.bel {w w' : World} {m k : Nat} {L : List (List UInt8)} (h : nset w m k L) (hb : Below w.heap.size w w') : nset w' m k L := World.ownsMap.kept h (grown_bel hb) (by simp)
theorem nset.grown {w w' : World} {m k : Nat} {L : List (List UInt8)} {o : Option Nat} (h : nset w m k L) (hg : w.grownBy w' o) (hne : some m ≠ o) : nset w' m k L := World.ownsMap.kept h hg hne
theorem nset.lt {w : World} {m k : Nat} {L : List (List UInt8)} (h : nset w m k L) : m < w.heap.size := World.ownsMap.lt h
theorem nset_new (w : World) : nset (w.alloc (.map #[] 0)) w.heap.size 0 [] := World.ownsMap_made w _ _ _
theorem nkeys (L : List (List UInt8)) : ∀ x ∈ L.map Lit.string, WideAt.IsKeyLit x := by
  intro x hx
  obtain ⟨y, _, rfl⟩ := List.mem_map.1 hx
  trivial
theorem has_names (L : List (List UInt8)) (n : List UInt8) : Go.Maps.has (Go.Maps.setOf (.agg [] : DataW Unit) (L.map Lit.string)) (.string n) = L.any (· == n) := by
  rw [Go.Maps.has_setOf _ _ _ (nkeys L), List.any_map]
  rfl
theorem key_n (n : List UInt8) (h : n.length ≤ maxLen) : keyOf Try.prog 9 (.string (bs n)) = some (.string n) := by
  have := Go.WideMaps.keyOf_string_mk (P := Try.prog) (k := 9) Try.underlying9 (s := bs n) (by rw [bs_size]; exact h)
  rwa [bs_data] at this
theorem nset.look {w : World} {m k : Nat} {L : List (List UInt8)} (h : nset w m k L) (n : List UInt8) (hn : n.length ≤ maxLen) :
    (Instr.lookup 46 (.map (some m)) (.string (bs n)) true).run Try.prog w = .ok (.tuple #[.agg #[], .bool (L.any (· == n))]) w := by
  obtain ⟨v, ps, hrun, hv⟩ := World.ownsMap.look_ok (t := 46) h lawN Try.underlying46 (zeroN w) (zd := .agg []) (zp := []) unitElem_mk (key_n n hn)
  obtain ⟨rfl, _⟩ := unitElem_inv hv
  rw [has_names] at hrun
  exact hrun
theorem nset.put {w : World} {m k : Nat} {L : List (List UInt8)} (h : nset w m k L) (n : List UInt8) (hn : n.length ≤ maxLen) (hk : k < maxLen) :
    ∃ w', (Instr.mapUpdate 46 (.map (some m)) (.string (bs n)) (.agg #[])).run Try.prog w = .ok () w' ∧ nset w' m (k + 1) (L ++ [n]) ∧ w.grownBy w' (some m) := by
  obtain ⟨w', hrun, h1, h2⟩ := World.ownsMap.update (t := 46) h lawN Try.underlying46 hk (key_n n hn) (unitElem_mk (H := Unit))
  refine ⟨w', hrun, ?_, h2⟩
  unfold nset
  rw [List.map_append, List.map_cons, List.map_nil, Go.Maps.setOf_snoc]
  exact h1

set_option maxRecDepth 100000 in
set_option maxHeartbeats 2000000 in
theorem copiedS_any (d : Dv) (w : World) (h1 : d.1.length ≤ 140737488351232) (h2 : d.2.1.length ≤ 140737488351232) (h3 : d.2.2.2.length ≤ 140737488351232) :
    Calls Try.prog 25 #[.agg #[.string (bs d.1), .string (bs d.2.1), .bool d.2.2.1, .string (bs d.2.2.2)]] w fun e w' => e = .returned (.agg #[.string (bs d.1), .string (bs d.2.1), .bool d.2.2.1, .string (bs d.2.2.2)]) ∧ Below w.heap.size w w' := by
  have hD : dbk ((w.alloc (.cells #[.string (bs d.1), .string (bs d.2.1), .bool d.2.2.1, .string (bs d.2.2.2)] 39)).alloc (.cells #[.string ⟨#[]⟩, .string ⟨#[]⟩, .bool false, .string ⟨#[]⟩] 39)) w.heap.size (dvA d) := (dbk.new w _ _).alloc _
  have hR := res_new (w.alloc (.cells #[.string (bs d.1), .string (bs d.2.1), .bool d.2.2.1, .string (bs d.2.2.2)] 39))
  rw [World.size_alloc] at hR
  have hB : Below w.heap.size w ((w.alloc (.cells #[.string (bs d.1), .string (bs d.2.1), .bool d.2.2.1, .string (bs d.2.2.2)] 39)).alloc (.cells #[.string ⟨#[]⟩, .string ⟨#[]⟩, .bool false, .string ⟨#[]⟩] 39)) := ((Below.refl _ _).alloc (Nat.le_refl _) _).alloc (by simp) _
  have C1 := Lib.hid (fun W => clone_any (bs d.1) W (by rw [bs_size]; omega))
  have C2 := Lib.hid (fun W => clone_any (bs d.2.1) W (by rw [bs_size]; omega))
  have C3 := Lib.hid (fun W => clone_any (bs d.2.2.2) W (by rw [bs_size]; omega))
  have HD := Lib.hid hD; have HR := Lib.hid hR; have HB := Lib.hid hB
  clear hD hR hB h1 h2 h3
  go_enter Try.func25, Try.ntmps25
  obtain ⟨c0, c1, c2, c3⟩ := HD.out.four
  go_wp2_with fail
  refine (C1.out _).mono ?_
  rintro e w1 ⟨rfl, hb⟩
  have HD1 := Lib.hid (HD.out.below hb); have HR1 := Lib.hid (HR.out.below hb); have HB1 := Lib.hid (HB.out.trans (hb.mono HB.out.size))
  clear HD HR HB hb c0 c1 c2 c3
  obtain ⟨c0, c1, c2, c3⟩ := HD1.out.four
  have f0 := HD1.out.free 0
  have q1 := HD1.out.same0.cell 1 _ rfl
  have HD2 := Lib.hid HD1.out.same0; have HR2 := Lib.hid (HR1.out.other (a := ⟨w.heap.size, 0, none⟩) (Nat.ne_of_gt (Nat.lt_succ_self _)) (.string (bs d.1))); have HB2 := Lib.hid (HB1.out.setCell (p := ⟨w.heap.size, 0, none⟩) (Nat.le_refl _) (.string (bs d.1)))
  clear HD1 HR1 HB1
  go_wp2_with fail
  refine (C2.out _).mono ?_
  rintro e w2 ⟨rfl, hb⟩
  have HDa2 := Lib.hid (HD2.out.below hb); have HRa2 := Lib.hid (HR2.out.below hb); have HBa2 := Lib.hid (HB2.out.trans (hb.mono HB2.out.size))
  clear HD2 HR2 HB2 hb c0 c1 c2 c3 f0 q1
  obtain ⟨c0, c1, c2, c3⟩ := HDa2.out.four
  have f0 := HDa2.out.free 1
  have q1 := HDa2.out.same1.four
  obtain ⟨q0, q1, q2, q3⟩ := q1
  have HD3 := Lib.hid HDa2.out.same1; have HR3 := Lib.hid (HRa2.out.other (a := ⟨w.heap.size, 1, none⟩) (Nat.ne_of_gt (Nat.lt_succ_self _)) (.string (bs d.2.1))); have HB3 := Lib.hid (HBa2.out.setCell (p := ⟨w.heap.size, 1, none⟩) (Nat.le_refl _) (.string (bs d.2.1)))
  clear HDa2 HRa2 HBa2
  go_wp2_with fail
  refine (C3.out _).mono ?_
  rintro e w3 ⟨rfl, hb⟩
  have HDa3 := Lib.hid (HD3.out.below hb); have HRa3 := Lib.hid (HR3.out.below hb); have HBa3 := Lib.hid (HB3.out.trans (hb.mono HB3.out.size))
  clear HD3 HR3 HB3 hb c0 c1 c2 c3 f0 q0 q1 q2 q3
  obtain ⟨c0, c1, c2, c3⟩ := HDa3.out.four
  have f0 := HDa3.out.free 3
  obtain ⟨z0, z1, z2, z3⟩ := HRa3.out.four
  have n0 := HRa3.out.free 0
  have n1 := HRa3.out.free 1
  have n2 := HRa3.out.free 2
  have n3 := HRa3.out.free 3
  have hr := HRa3.out.other (a := ⟨w.heap.size, 3, none⟩) (Nat.ne_of_gt (Nat.lt_succ_self _)) (.string (bs d.2.2.2))
  obtain ⟨g0, g1, g2, g3⟩ := hr.got d
  have hq := putD_below (b := w.heap.size + 1) (HBa3.out.setCell (p := ⟨w.heap.size, 3, none⟩) (Nat.le_refl _) (.string (bs d.2.2.2))) (Nat.le_succ _) d
  simp only [putD, dv0, bs_nil] at hq z0 z1 z2 z3 g0 g1 g2 g3
  have HQ := Lib.hid hq; have HG := Lib.hid (And.intro g0 (And.intro g1 (And.intro g2 g3))); clear hq hr HDa3 HRa3 HBa3 g0 g1 g2 g3
  go_wp2_with fail
  obtain ⟨g0, g1, g2, g3⟩ := HG.out
  refine bodyPost_ret (v := .agg #[.string (bs d.1), .string (bs d.2.1), .bool d.2.2.1, .string (bs d.2.2.2)]) (by simp [results, Try.results25, go_sem, g0, g1, g2, g3]) rfl ?_
  exact ⟨rfl, HQ.out⟩

/-- 'append(l, d)': what lies below the slice's base stands -/
theorem wpList_appDN {w0 w : World} {ops : Array Oper} {rest : List Oper} {o : Oper} {a : Act} {Q : Exit → Act → World → Prop} (hgd : o.guard = none) (s x : Operand)
    (ho : o.op = .call { callee := .builtin .append, args := #[s, x], argTypes := #[26, 26] })
    (base B : Nat) (v : Value) (l : List Dv) (d : Dv) (hs : a.eval s = v) (hown : ownD w base v l) (hb : Below B w0 w) (hBb : B ≤ base) (hbase : base ≤ w.heap.size)
    {g : Nat} (hx : a.eval x = .slice (some ⟨g, 0, none⟩) 1 1) (hlen : l.length + 1 ≤ 4294967296)
    (h : ∀ v' w', Hid (ownD w' base v' (l ++ [d])) → Hid (Below B w0 w') → Hid (∀ b, b < base → w'.heap[b]? = w.heap[b]?) → wpList Try.prog ops Q rest (a.put o.dst v') w') (hg : g = w.heap.size := by simp) :
    wpList Try.prog ops Q (o :: rest) a (w.alloc (.cells #[.string (bs d.1), .string (bs d.2.1), .bool d.2.2.1, .string (bs d.2.2.2)] 39)) := by
  exact wpList_appD hgd s x ho base B v l d hs hown hb hBb hbase hx hlen h hg
theorem nset.keep {w w' : World} {m k : Nat} {L : List (List UInt8)} (h : nset w m k L) (hk : w'.heap[m]? = w.heap[m]?) (_ : m < w.heap.size) : nset w' m k L := by
  obtain ⟨es, clock, h1, h2⟩ := h
  exact ⟨es, clock, hk.trans h1, h2⟩

/-! Mine. -/
/-- the names of a device's own directives -/
def ownL (l : List Dv) (dev : List UInt8) : List (List UInt8) := (l.filter fun d => d.2.2.2 == dev).map fun d => d.1
theorem ownL_any (l : List Dv) (dev n : List UInt8) : (ownL l dev).any (· == n) = ownN l dev n := by
  unfold ownL ownN
  rw [List.any_map, List.any_filter]
  rfl
theorem ownL_step {l : List Dv} {k : Nat} (hk : k < l.length) (dev : List UInt8) : ownL (l.take (k + 1)) dev = ownL (l.take k) dev ++ (if l[k].2.2.2 == dev then [l[k].1] else []) := by
  unfold ownL
  rw [List.take_succ_eq_append_getElem hk, List.filter_append, List.map_append]
  congr 1
  rw [List.filter_cons]
  split <;> rfl
theorem filter_step {l : List Dv} {k : Nat} (hk : k < l.length) (p : Dv → Bool) : (l.take (k + 1)).filter p = (l.take k).filter p ++ (if p l[k] then [l[k]] else []) := by
  rw [List.take_succ_eq_append_getElem hk, List.filter_append]
  congr 1
  rw [List.filter_cons]
  split <;> rfl
/-- texts as long as may be -/
def DvX (d : Dv) : Prop := d.1.length ≤ 140737488351232 ∧ d.2.1.length ≤ 140737488351232 ∧ d.2.2.2.length ≤ 140737488351232

set_option maxRecDepth 100000 in
set_option maxHeartbeats 8000000 in
theorem smine_any (v : Value) (l : List Dv) (dev : List UInt8) (w : World) (hv : DL w v l) (hl : ∀ j (hj : j < l.length), DvX l[j]) (hlen : l.length ≤ 4294967295) :
    Calls Try.prog 14 #[v, .string (bs dev)] w (RetD w (mineS l dev)) := by
  obtain ⟨A, c, rfl⟩ := hv.form
  have hmk := @run_makeMap Try.prog
  have HV := Lib.hid hv; have HL := Lib.hid hl; clear hv hl
  go_enter Try.func14, Try.ntmps14
  go_wp2_with fail
  clear hmk
  go_loopw [16] (fun i wr => ∃ k q : Nat, k ≤ l.length ∧ q ≤ k ∧ i = .int .i64 k ∧ nset wr w.heap.size q (ownL (l.take k) dev) ∧ Below w.heap.size w wr) (fun i _ => l.length - (intOf i).toNat)
  case atStart => exact ⟨0, 0, Nat.zero_le _, Nat.zero_le _, rfl, nset_new w, (Below.refl _ _).alloc (Nat.le_refl _) _⟩
  case round =>
    obtain ⟨k, q, hk, hq, rfl, hn, hb⟩ := hrel
    have HN := Lib.hid hn; have HB := Lib.hid hb; clear hn hb
    by_cases hlt : k < l.length
    · obtain ⟨b, off, rfl, hbl, e0, e1, e2, e3⟩ := (HV.out.bel HB.out).get k hlt
      have hst := ownL_step hlt dev
      have hz := (HL.out k hlt).1
      have hal : Below wr.heap.size wr (wr.alloc (.cells (dvA l[k]) 39)) := (Below.refl _ _).alloc (Nat.le_refl _) _
      have hn1 := HN.out.bel hal
      have hb1 := HB.out.trans (hal.mono HB.out.size)
      have hd := dbk.new wr (dvA l[k]) 39
      generalize l[k] = d at *
      obtain ⟨p0, p1, p2, p3⟩ := hd.four
      simp only [dvA] at p0 p1 p2 p3 hn1 hb1
      have HN1 := Lib.hid hn1; have HB1 := Lib.hid hb1
      clear hal hn1 hb1 hd HN HB
      cases hf : d.2.2.2 == dev
      · have hq1 : ((bs d.2.2.2).toList == (bs dev).toList) = false := by rw [beq_bs]; exact hf
        rw [hf] at hst
        simp only [Bool.false_eq_true, if_false, List.append_nil] at hst
        have HST := Lib.hid hst
        clear hst hf hz
        go_wp2_with fail
        go_roundw
        case rel => exact ⟨k + 1, q, by omega, by omega, by go_num, by rw [HST.out]; exact HN1.out, HB1.out⟩
        case measure => simp [intOf]; omega
      · have hq1 : ((bs d.2.2.2).toList == (bs dev).toList) = true := by rw [beq_bs]; exact hf
        rw [hf] at hst
        simp only [if_true] at hst
        have HST := Lib.hid hst
        obtain ⟨w2, hrun, hm2, hg2⟩ := HN1.out.put d.1 (by unfold maxLen; omega) (by unfold maxLen; omega)
        have HN2 := Lib.hid hm2
        have HB2 := Lib.hid (HB1.out.grown hg2 HB1.out.size (fun k hk => by cases hk; exact Nat.le_refl _))
        clear hst hf hz hm2 hg2
        go_wp2_with fail
        go_roundw
        case rel => exact ⟨k + 1, q + 1, by omega, by omega, by go_num, by rw [HST.out]; exact HN2.out, HB2.out⟩
        case measure => simp [intOf]; omega
    · have hE : l.take k = l := List.take_of_length_le (by omega)
      rw [hE] at HN
      clear hE
      have HO := Lib.hid (fun n => ownL_any l dev n)
      generalize ownL l dev = names at *
      have hdef : mineS l dev = l.filter fun d => d.2.2.2 == dev || (d.2.2.2 == [] && !names.any (· == d.1)) := by
        unfold mineS
        congr 1
        funext d
        rw [HO.out]
      generalize hpf : (fun d : Dv => d.2.2.2 == dev || (d.2.2.2 == [] && !names.any (· == d.1))) = pf at *
      have HP : Hid (∀ d, pf d = (d.2.2.2 == dev || (d.2.2.2 == [] && !names.any (· == d.1)))) := fun d => by rw [← hpf]
      have HML := Lib.hid HN.out.lt
      have HDEF := Lib.hid hdef
      clear hdef HO hpf
      go_wp2_with fail
      go_loopw [8, 31] (fun u i wr2 => ∃ j : Nat, j ≤ l.length ∧ i = .int .i64 j ∧ ownD wr2 (w.heap.size + 1) u ((l.take j).filter pf) ∧ nset wr2 w.heap.size q names ∧ Below w.heap.size w wr2 ∧ w.heap.size < wr2.heap.size) (fun _ i _ => l.length - (intOf i).toNat)
      case atStart => exact ⟨0, Nat.zero_le _, rfl, ownD_nil _ _, HN.out, HB.out, HML.out⟩
      case round =>
        obtain ⟨j, hj, rfl, ho, hn, hb, hsz⟩ := hrel
        have HO := Lib.hid ho; have HN2 := Lib.hid hn; have HB2 := Lib.hid hb; have HSZ := Lib.hid hsz; clear ho hn hb hsz HN HB HML
        by_cases hjt : j < l.length
        · obtain ⟨b, off, rfl, hbl, e0, e1, e2, e3⟩ := (HV.out.bel HB2.out).get j hjt
          have hst := filter_step hjt pf
          have hpd := HP.out l[j]
          obtain ⟨z1, z2, z3⟩ := HL.out j hjt
          have hfl := List.length_filter_le pf (l.take j)
          rw [List.length_take] at hfl
          generalize l[j] = d at *
          have HQL : Hid (((l.take j).filter pf).length + 1 ≤ 4294967296) := by show _ ≤ _; omega
          generalize (l.take j).filter pf = M at *
          have hal : Below wr.heap.size wr (wr.alloc (.cells (dvA d) 39)) := (Below.refl _ _).alloc (Nat.le_refl _) _
          have hal2 : Below wr.heap.size wr ((wr.alloc (.cells (dvA d) 39)).alloc (.cells #[] 47)) := hal.alloc hal.size _
          have hd0 := dbk.new wr (dvA d) 39
          have hd := hd0.alloc (.cells #[] 47)
          have hlk := (HN2.out.bel hal).look d.1 (by unfold maxLen; omega)
          have HN3 := Lib.hid (HN2.out.bel hal2)
          have HO3 := Lib.hid (HO.out.bel hal2)
          have HB3 := Lib.hid (HB2.out.trans (hal2.mono HB2.out.size))
          have HSZ3 : Hid (w.heap.size + 1 ≤ ((wr.alloc (.cells (dvA d) 39)).alloc (.cells #[] 47)).heap.size) := by show _ ≤ _; have := HSZ.out; simp; omega
          have hC := copiedS_any d ((wr.alloc (.cells (dvA d) 39)).alloc (.cells #[] 47)) z1 z2 z3
          obtain ⟨p0, p1, p2, p3⟩ := hd0.four
          obtain ⟨r0, r1, r2, r3⟩ := hd.four
          simp only [dvA] at p0 p1 p2 p3 r0 r1 r2 r3 hlk hC HN3 HO3 HB3 HSZ3
          have HC := Lib.hid hC
          obtain ⟨A0, c0, rfl⟩ := HO3.out.form
          clear hal hal2 hd0 hd hC hfl hbl HO HN2 HB2 z1 z2 z3 HSZ
          cases hf : d.2.2.2 == dev
          · have hq1 : ((bs d.2.2.2).toList == (bs dev).toList) = false := by rw [beq_bs]; exact hf
            cases hg : d.2.2.2 == []
            · have hq2 : ((bs d.2.2.2).toList == []) = false := by rw [beq_bl]; exact hg
              have hq3 : (bs d.2.2.2).toList.isEmpty = false := by rw [← hq2]; cases (bs d.2.2.2).toList <;> rfl
              have hp : pf d = false := by rw [hpd, hf, hg]; rfl
              rw [hp] at hst
              simp only [Bool.false_eq_true, if_false, List.append_nil] at hst
              have HST := Lib.hid hst
              clear hst hp hpd
              go_wp2_with fail
              go_roundw
              case rel => exact ⟨j + 1, by omega, by go_num, by rw [HST.out]; exact HO3.out, HN3.out, HB3.out, HSZ3.out⟩
              case measure => simp [intOf]; omega
            · have hq2 : ((bs d.2.2.2).toList == []) = true := by rw [beq_bl]; exact hg
              have hq3 : (bs d.2.2.2).toList.isEmpty = true := by rw [beq_bl] at hq2; rw [Lib.toList_data, bs_data, beq_iff_eq.1 hq2]; rfl
              cases hh : names.any (· == d.1)
              · have hp : pf d = true := by rw [hpd, hf, hg, hh]; rfl
                rw [hp] at hst
                simp only [if_true] at hst
                rw [hh] at hlk
                have HST := Lib.hid hst
                clear hst hp hpd
                go_wp2_with fail
                refine HC.out.mono ?_
                rintro e w3 ⟨rfl, hb3⟩
                have HN4 := Lib.hid (HN3.out.bel hb3); have HO4 := Lib.hid (HO3.out.bel hb3); have HB4 := Lib.hid (HB3.out.trans (hb3.mono HB3.out.size)); have HSZ4 : Hid (w.heap.size + 1 ≤ w3.heap.size) := Nat.le_trans HSZ3.out hb3.size
                clear hb3 HC HN3 HO3 HB3 HSZ3 hlk
                go_wp2_with (at_builtin; refine wpList_appDN rfl (.tmp 55) (.tmp 58) rfl (w.heap.size + 1) w.heap.size _ _ d rfl HO4.out HB4.out (Nat.le_succ _) HSZ4.out rfl HQL.out ?_; intro v' w' HO5 HB5 HG5; have HN5 := Lib.hid (HN4.out.keep (HG5.out _ (Nat.lt_succ_self _)) (by have := HSZ4.out; omega)); have HSZ5 : Hid (w.heap.size < w'.heap.size) := HN5.out.lt)
                go_roundw
                case rel => exact ⟨j + 1, by omega, by go_num, by rw [HST.out]; exact HO5.out, HN5.out, HB5.out, HSZ5.out⟩
                case measure => simp [intOf]; omega
              · have hp : pf d = false := by rw [hpd, hf, hg, hh]; rfl
                rw [hp] at hst
                simp only [Bool.false_eq_true, if_false, List.append_nil] at hst
                rw [hh] at hlk
                have HST := Lib.hid hst
                clear hst hp hpd
                go_wp2_with fail
                go_roundw
                case rel => exact ⟨j + 1, by omega, by go_num, by rw [HST.out]; exact HO3.out, HN3.out, HB3.out, HSZ3.out⟩
                case measure => simp [intOf]; omega
          · have hq1 : ((bs d.2.2.2).toList == (bs dev).toList) = true := by rw [beq_bs]; exact hf
            have hp : pf d = true := by rw [hpd, hf]; rfl
            rw [hp] at hst
            simp only [if_true] at hst
            have HST := Lib.hid hst
            clear hst hp hpd
            go_wp2_with fail
            refine HC.out.mono ?_
            rintro e w3 ⟨rfl, hb3⟩
            have HN4 := Lib.hid (HN3.out.bel hb3); have HO4 := Lib.hid (HO3.out.bel hb3); have HB4 := Lib.hid (HB3.out.trans (hb3.mono HB3.out.size)); have HSZ4 : Hid (w.heap.size + 1 ≤ w3.heap.size) := Nat.le_trans HSZ3.out hb3.size
            clear hb3 HC HN3 HO3 HB3 HSZ3 hlk
            go_wp2_with (at_builtin; refine wpList_appDN rfl (.tmp 55) (.tmp 58) rfl (w.heap.size + 1) w.heap.size _ _ d rfl HO4.out HB4.out (Nat.le_succ _) HSZ4.out rfl HQL.out ?_; intro v' w' HO5 HB5 HG5; have HN5 := Lib.hid (HN4.out.keep (HG5.out _ (Nat.lt_succ_self _)) (by have := HSZ4.out; omega)); have HSZ5 : Hid (w.heap.size < w'.heap.size) := HN5.out.lt)
            go_roundw
            case rel => exact ⟨j + 1, by omega, by go_num, by rw [HST.out]; exact HO5.out, HN5.out, HB5.out, HSZ5.out⟩
            case measure => simp [intOf]; omega
        · have hE : (l.take j).filter pf = l.filter pf := by rw [List.take_of_length_le (by omega)]
          have HO4 := HO.out
          rw [hE] at HO4
          have HO5 := Lib.hid (HO4.mono (Nat.le_succ _))
          clear HO4 hE
          obtain ⟨A2, c2, rfl⟩ := HO5.out.form
          go_wp2_with fail
          go_ret
          exact ⟨_, rfl, by rw [HDEF.out]; exact HO5.out, HB2.out⟩
end Go.Proofs.Ytonioemenjjajaa
