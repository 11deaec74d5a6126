/- A strings.Builder that a call has made: one more text written to it, and what it holds. (The library's copyCheck has, in this translation, no panic of its own: so its shelf contract is not laid here.) -/
import Derived.Test.YtopgeclecpaecaaGreatDoorKBytes
import Derived.Test.YtopgeclecpaecaaGreatDoorKFieldsA
import Derived.Test.YtopgeclecpaecaaGreatDoorShelf
import Derived.Lib.Builder
import Derived.Shelf.Strings.Builder1
import Derived.Laws.EntriesVeiled
import Derived.Lib.AppendStr
import Derived.Laws.StructEq
namespace Go.Proofs.YtopgeclecpaecaaGreatDoor
open Go.RowKit Go.Shelf

theorem sizeBl : (Tryz.prog.info? 80).map (·.size) = some 2 := by kernel_rfl
theorem liesBl : liesAt Tryz.prog Tryz.prog.depth 80 (2 / Tryz.prog.cellsOf 80) 0 80 1 = true := by kernel_rfl
/-- block b is a builder that holds the bytes l -/
def bldr (w : World) (B b : Nat) (l : List UInt8) : Prop := Lib.IsBuilder 80 5 B b (Lib.byteCells l) w
theorem bldr_new (w : World) (B : Nat) (hB : B ≤ w.heap.size) : bldr (w.alloc (.cells #[.pointer none, .slice none 0 0] 80)) B w.heap.size [] :=
  .inl ⟨hB, _, heap_alloc_new w _, World.ownsRow_nil _ _ _ _, by simp [Value.ownBlock]⟩

set_option maxHeartbeats 1000000 in
set_option maxRecDepth 100000 in
theorem copyCheck_any (B b : Nat) (bs' : List Value) (w : World) (h : Lib.IsBuilder 80 5 B b bs' w) :
    Calls Tryz.prog 64 #[.pointer (some ⟨b, 0, none⟩)] w fun e w' => e = .returned (.tuple #[]) ∧ Lib.BuilderAt 80 5 B b (.pointer (some ⟨b, 0, none⟩)) bs' w' ∧ Below B w w' := by
  obtain ⟨j, hj, hjs⟩ := Option.map_eq_some_iff.1 sizeBl
  rcases h with h | h
  · have h0 := h.cell0
    have hfz := h.frozen0
    have hto := Lib.run_to_unsafe (P := Tryz.prog) w (⟨b, 0, none⟩ : Addr) Tryz.underlying77 Tryz.underlying126 hj (by rw [hjs]; decide) h.shape (Nat.zero_lt_succ 1)
    have hne : (callFunc 78 #[.pointer (some ⟨b, 0, none⟩)]).run Tryz.prog w = .ok (.value (.pointer (some ⟨b, 0, none⟩))) w := by
      rw [run_callFunc_extern Tryz.func78 (by kernel_rfl) (by kernel_rfl) (by kernel_rfl) (e := Extern.AbiNoEscape.same) (by kernel_rfl), Lib.run_noEscape]
      rfl
    have hfr := Lib.run_from_unsafe (P := Tryz.prog) w (⟨b, 0, none⟩ : Addr) Tryz.underlying126 Tryz.underlying77 hj h.shape liesBl
    have HH := Lib.hid h; clear h
    go_enter Tryz.func64, Tryz.ntmps64
    go_wp2_with (simp only [hne])
    go_end0
    exact ⟨rfl, HH.out.used _, (Below.refl B w).setCell (p := ⟨b, 0, none⟩) HH.out.1 _⟩
  · have h0 := h.cell0
    have HH := Lib.hid h; clear h
    go_enter Tryz.func64, Tryz.ntmps64
    go_wp2
    rw [Lib.run_neq_ptr_same _ _ Tryz.underlying77 hj]
    go_wp2
    go_end0
    exact ⟨rfl, HH.out, Below.refl B _⟩

set_option maxHeartbeats 1000000 in
set_option maxRecDepth 100000 in
theorem write_any (B b : Nat) (l s : List UInt8) (w : World) (h : bldr w B b l) (hlen : l.length + s.length ≤ 140737488355328) (hBw : B ≤ w.heap.size) :
    Calls Tryz.prog 39 #[.pointer (some ⟨b, 0, none⟩), .string (bs s)] w fun e w' => e = .returned (.tuple #[.int .i64 s.length, .nilIface]) ∧ bldr w' B b (l ++ s) ∧ Below B w w' := by
  obtain ⟨i0, hi, hz0, hz1, hz2⟩ := info_parts infoB
  have hcc := copyCheck_any B b (Lib.byteCells l) w h
  have HCC := Lib.hid hcc; clear hcc h
  go_enter Tryz.func39, Tryz.ntmps39
  go_wp2_with (go_at_call 64; refine HCC.out.mono ?_)
  rintro e w1 ⟨rfl, h1, hb1⟩
  obtain ⟨hB, v, hbk, hown, hne⟩ := h1
  have hl := Lib.byteCells_length l
  have hsz : (bs s).size = s.length := bs_size s
  have hwz := hb1.size
  have c0 : w1.cell? ⟨b, 0, none⟩ = some (.pointer (some ⟨b, 0, none⟩)) := by rw [Lib.cell_of_heap hbk]; rfl
  have c1 : w1.cell? ⟨b, 1, none⟩ = some v := by rw [Lib.cell_of_heap hbk]; rfl
  have HO := Lib.hid hown; have HK := Lib.hid hbk; have HB1 := Lib.hid hb1; have HNE := Lib.hid hne
  have HL := Lib.hid hl; have HSZ := Lib.hid hsz
  clear hown hbk hb1 hne hl hsz
  go_wp2_with (at_builtin; refine Lib.wpList_append_own_string _ rfl _ _ 78 9 rfl B 5 i0 Tryz.underlying78 Tryz.underlying9 hi hz0 hz1 hz2 _ _ _ rfl HO.out (bs s) rfl ?c3 ?c4 ?c5 ?_)
  case c3 => rw [HL.out, HSZ.out]; unfold maxLen; omega
  case c4 => rw [HL.out, HSZ.out]; omega
  case c5 => omega
  intro v' w2 hown' hgrow _
  have hlt : b < w1.heap.size := (Array.getElem?_eq_some_iff.1 HK.out).1
  have hb2 : w2.heap[b]? = some (.cells #[.pointer (some ⟨b, 0, none⟩), v] 80 (0, 0)) := by
    rw [hgrow.block b hlt (fun e => HNE.out e.symm)]
    exact HK.out
  have d0 : w2.cell? ⟨b, 0, none⟩ = some (.pointer (some ⟨b, 0, none⟩)) := by rw [Lib.cell_of_heap hb2]; rfl
  have d1 : w2.cell? ⟨b, 1, none⟩ = some v := by rw [Lib.cell_of_heap hb2]; rfl
  have f1 : w2.frozen? ⟨b, 1, none⟩ = false := Lib.frozen_of_heap hb2 1
  obtain ⟨ao, n', cap, rfl⟩ : ∃ ao n' cap, v' = .slice ao n' cap := by
    rcases hown'.2 with ⟨hv, _⟩ | ⟨g, cap, cur, hv, _⟩
    · exact ⟨_, _, _, hv⟩
    · exact ⟨_, _, _, hv⟩
  have HB2 : Hid (Below B w w2) := HB1.out.grown hgrow (by omega) (fun k hk => (HO.out.lt k hk).1)
  have HK2 := Lib.hid hb2; have HO2 := Lib.hid hown'
  clear hb2 hown' hgrow
  go_wp2
  go_ret2
  refine ⟨by show Ending.returned (.tuple #[.int .i64 ((bs s).size : Int), .nilIface]) = _; rw [HSZ.out], .inr ?_, HB2.out.setCell (p := ⟨b, 1, none⟩) hB _⟩
  refine Lib.BuilderAt.put (T := 80) (e := 5) hB HK2.out (bs' := Lib.byteCells (l ++ s)) ?_ (by decide)
  have h := HO2.out
  rw [Lib.byteCells_append, List.length_append]
  have e : Lib.strCells (bs s) = Lib.byteCells s := by simp [Lib.strCells, Lib.byteCells]
  rw [e] at h
  rw [Lib.byteCells_length s]
  exact h

end Go.Proofs.YtopgeclecpaecaaGreatDoor

/- Fields without those of names; the values of a name: the fields layer's functions. -/
namespace Go.Proofs.YtopgeclecpaecaaGreatDoor
open Go.RowKit Go.Shelf

theorem eg1 (args : Array Value) (w : World) : (callFunc 110 args).run Tryz.prog w = .ok (.enter 110 args) w := enters_of Tryz.func110 (by kernel_rfl) rfl args w

theorem named_pred {w : World} {b : Nat} {L : List (List UInt8)} (h : knows w b (lowsOf L)) : PredF w 110 #[.pointer (some ⟨b, 0, none⟩)] (fun f => hasN L f.1) := fun W f hb h1 => by
  have := named1_any f b (lowsOf L) W (h.bel hb) h1
  rw [lowsOf_any] at this
  exact this



theorem PredF.later {w w' : World} {g : Nat} {lb : Array Value} {p : Fld → Bool} (h : PredF w g lb p) (hb : Below w.heap.size w w') : PredF w' g lb p :=
  fun W f hW h1 => h W f (hb.trans (hW.mono hb.size)) h1
theorem ownF.later {w w' : World} {B : Nat} {v : Value} {l : List Fld} (h : ownF w B v l) (hb : Below w.heap.size w w') : ownF w' B v l := h.bel hb
theorem RetF.carry {w0 w : World} {l : List Fld} {e : Ending} {w' : World} (hb : Below w0.heap.size w0 w) (h : RetF w l e w') : RetF w0 l e w' := by
  obtain ⟨v', he, ho, hb'⟩ := h
  exact ⟨v', he, ho.mono hb.size, hb.trans (hb'.mono hb.size)⟩
theorem RetS.carry {w0 w : World} {l : List (List UInt8)} {e : Ending} {w' : World} (hb : Below w0.heap.size w0 w) (h : RetS w l e w') : RetS w0 l e w' := by
  obtain ⟨v', he, ho, hb'⟩ := h
  exact ⟨v', he, ho.mono hb.size, hb.trans (hb'.mono hb.size)⟩


theorem smallF_filter {l : List Fld} (h : smallF l) (p : Fld → Bool) : smallF (l.filter p) := fun j hj => by
  have hm : (l.filter p)[j] ∈ l := (List.mem_filter.1 (List.getElem_mem hj)).1
  obtain ⟨i, hi, he⟩ := List.getElem_of_mem hm
  have := h i hi
  rw [he] at this
  exact this

set_option maxHeartbeats 1000000 in
set_option maxRecDepth 100000 in
theorem values_any (v : Value) (l : List Fld) (n : List UInt8) (w : World) (h : FL w v l) (hs : smallF l) (hl : l.length ≤ 1048576) (hn : n.length ≤ 4294967296) :
    Calls Tryz.prog 83 #[v, .string (bs n)] w (RetS w (valsL l n)) := by
  obtain ⟨A, c, rfl⟩ := h.form
  have HF := Lib.hid h; clear h
  have HSm : Hid (smallF l) := hs
  have hal : Below w.heap.size w (w.alloc (.cells #[.string (bs n)] 9)) := (Below.refl _ _).alloc (Nat.le_refl _) _
  have hnm := named_any _ [n] _ (SL_lit w n) (by intro x hx; rw [List.mem_singleton.1 hx]; exact hn) (by simp)
  simp only [World.size_alloc] at hnm
  have HFa := Lib.hid (HF.out.bel hal)
  have HBa := Lib.hid hal; clear hal
  have HNM := Lib.hid hnm; clear hnm
  go_enter Tryz.func83, Tryz.ntmps83
  go_wp2_with fail
  refine HNM.out.mono ?_
  rintro e w1 ⟨rfl, hk1, hb1⟩
  have hp1 := named_pred hk1
  replace hb1 : Below (w.alloc (.cells #[.string (bs n)] 9)).heap.size (w.alloc (.cells #[.string (bs n)] 9)) w1 := by simp only [World.size_alloc]; exact hb1
  have hkp := kept_any _ _ eg1 _ (.slice A l.length c) l _ hp1 (HFa.out.bel hb1) HSm.out hl
  have HB1 := Lib.hid (HBa.out.trans (hb1.mono HBa.out.size))
  have HKP := Lib.hid hkp
  clear hkp hp1 hk1 hb1
  go_wp2_with fail
  refine HKP.out.mono ?_
  rintro e w2 ⟨v2, rfl, ho2, hb2⟩
  have HFk := Lib.hid ho2.fl; have HB2 := Lib.hid (HB1.out.trans (hb2.mono HB1.out.size)); obtain ⟨A2, c2, rfl⟩ := ho2.form
  clear ho2 hb2
  have HV : Hid (valsL l n = (l.filter fun f => hasN [n] f.1).map (·.2)) := by
    show _ = _
    unfold valsL
    congr 1
    exact filter_same fun f _ => by rw [hasN_one, sameN_symm]
  have HSk := Lib.hid (smallF_filter HSm.out fun f => hasN [n] f.1)
  have hkl : (l.filter fun f => hasN [n] f.1).length ≤ 1048576 := Nat.le_trans (List.length_filter_le _ _) hl
  generalize (l.filter fun f => hasN [n] f.1) = m at *
  go_wp2_with fail
  go_loopw [5, 14] (fun o i wr => ∃ k : Nat, k ≤ m.length ∧ i = .int .i64 k ∧ ownS wr w2.heap.size o ((m.take k).map (·.2)) ∧ Below w2.heap.size w2 wr) (fun _ i _ => m.length - (intOf i).toNat)
  case atStart => exact ⟨0, Nat.zero_le _, rfl, ownS_nil _ _, Below.refl _ _⟩
  case round =>
    obtain ⟨k, hk, rfl, ho, hb⟩ := hrel
    have HO := Lib.hid ho; have HB := Lib.hid hb; clear ho hb
    by_cases hlt : k < m.length
    · obtain ⟨b, off, rfl, hbb, hc1, hc2⟩ := (HFk.out.bel HB.out).get k hlt
      have HT : Hid ((m.take (k + 1)).map (·.2) = (m.take k).map (·.2) ++ [m[k].2]) := by show _ = _; rw [List.take_succ_eq_append_getElem hlt, List.map_append]; rfl
      have hlen : ((m.take k).map (·.2)).length ≤ 1048576 := by rw [List.length_map]; exact Nat.le_trans (List.length_take_le' _ _) hkl
      generalize m[k] = f at *
      obtain ⟨x, y⟩ := f; simp only at hc1 hc2
      have HT2 : Hid ((m.take (k + 1)).map (·.2) = (m.take k).map (·.2) ++ [y]) := HT.out
      clear HT
      have HL : Hid (((m.take k).map (·.2)).length + 1 ≤ 4294967296) := by show _ ≤ _; omega
      clear hlen
      generalize (m.take k).map (·.2) = acc at *
      have hal : Below wr.heap.size wr (wr.alloc (.cells #[.string (bs x), .string (bs y)] 66)) := (Below.refl _ _).alloc (Nat.le_refl _) _
      have HOa := Lib.hid (HO.out.bel hal)
      have HBa2 := Lib.hid (HB.out.trans (hal.mono HB.out.size))
      clear hal
      go_wp2_with (at_builtin; refine wpList_appS rfl (.tmp 18) (.tmp 21) rfl w2.heap.size w2.heap.size _ _ y rfl HOa.out HBa2.out (Nat.le_refl _) HBa2.out.size rfl HL.out ?_; intro v' w' HO3 HB3 _)
      go_roundw
      case rel => exact ⟨k + 1, by omega, by go_num, by rw [HT2.out]; exact HO3.out, HB3.out⟩
      case measure => simp [intOf]; omega
    · have HTT : Hid ((m.take k).map (·.2) = valsL l n) := by show _ = _; rw [HV.out, List.take_of_length_le (by omega)]
      go_wp2_with fail
      go_ret
      exact ⟨_, rfl, by rw [← HTT.out]; exact HO.out.mono HB2.out.size, HB2.out.trans (HB.out.mono HB2.out.size)⟩
end Go.Proofs.YtopgeclecpaecaaGreatDoor

/- The text of a list of fields: the fields layer's Put, and the document's own. -/
namespace Go.Proofs.YtopgeclecpaecaaGreatDoor
open Go.RowKit

theorem ownsRow_bel {w w' : World} {base : Nat} {e : TypeId} {size : Nat} {v : Value} {n : Nat} {xs : List Value} (h : w.ownsRow base e size v n xs) (hb : Below w.heap.size w w') : w'.ownsRow base e size v n xs := by
  refine ⟨h.1, ?_⟩
  rcases h.2 with hn | ⟨g, cap, cur, hv, hbg, hg, r⟩
  · exact .inl hn
  · exact .inr ⟨g, cap, cur, hv, hbg, (hb.block g (Array.getElem?_eq_some_iff.1 hg).1).trans hg, r⟩
theorem ownB.bel {w w' : World} {base : Nat} {v : Value} {l : List UInt8} (h : ownB w base v l) (hb : Below w.heap.size w w') : ownB w' base v l := ownsRow_bel h hb
theorem bldr.bel {w w' : World} {B b : Nat} {l : List UInt8} (h : bldr w B b l) (hb : Below w.heap.size w w') : bldr w' B b l := by
  rcases h with ⟨h1, v, h2, h3, h4⟩ | ⟨h1, v, h2, h3, h4⟩
  · exact .inl ⟨h1, v, (hb.block b (Array.getElem?_eq_some_iff.1 h2).1).trans h2, ownsRow_bel h3 hb, h4⟩
  · exact .inr ⟨h1, v, (hb.block b (Array.getElem?_eq_some_iff.1 h2).1).trans h2, ownsRow_bel h3 hb, h4⟩
theorem lines_step {l : List Fld} {k : Nat} (h : k < l.length) : linesL (l.take (k + 1)) = linesL (l.take k) ++ (lineL l[k] ++ [13, 10]) := by
  rw [List.take_succ_eq_append_getElem h, lines_snoc]
theorem lines_take_len {l : List Fld} (h : ∀ f ∈ l, chkF f = 0) (hl : l.length ≤ 64) (k : Nat) : (linesL (l.take k)).length ≤ 131200 := by
  have := lines_len (l := l.take k) fun f hf => h f (List.mem_of_mem_take hf)
  have h2 : (l.take k).length ≤ 64 := Nat.le_trans (List.length_take_le' _ _) hl
  omega


/-- 'append(b, s...)', s a text. -/
theorem wpList_appStr {w0 w : World} {ops : Array Oper} {rest : List Oper} {o : Oper} {a : Act} {Q : Exit → Act → World → Prop} (hgd : o.guard = none) (s x : Operand)
    (ho : o.op = .call { callee := .builtin .append, args := #[s, x], argTypes := #[78, 9] })
    (base B : Nat) (v : Value) (l t : List UInt8) (hs : a.eval s = v) (hown : ownB w base v l) (hb : Below B w0 w) (hBb : B ≤ base) (hbase : base ≤ w.heap.size)
    (hx : a.eval x = .string (bs t)) (hlen : l.length + t.length ≤ 140737488355328)
    (h : ∀ v' w', Hid (ownB w' base v' (l ++ t)) → Hid (Below B w0 w') → wpList Tryz.prog ops Q rest (a.put o.dst v') w') :
    wpList Tryz.prog ops Q (o :: rest) a w := by
  obtain ⟨i0, hi, hz0, hz1, hz2⟩ := info_parts infoB
  have hsz : (bs t).size = t.length := bs_size t
  refine Lib.wpList_append_own_string _ hgd s x 78 9 ho base 5 i0 Tryz.underlying78 Tryz.underlying9 hi hz0 hz1 hz2 v l.length _ hs hown (bs t) hx ?_ ?_ hbase ?_
  · rw [hsz]; unfold maxLen; omega
  · rw [hsz]; omega
  · intro v' w' h1 h2 _
    refine h v' w' ?_ (hb.grown h2 (by omega) (fun k hk => Nat.le_trans hBb (hown.ge k hk)))
    show World.ownsRow _ _ _ _ _ _ _
    rw [List.length_append, Lib.byteCells_append, ← hsz]
    have e : Lib.strCells (bs t) = Lib.byteCells t := by simp [Lib.strCells, Lib.byteCells]
    rw [e] at h1
    exact h1
/-- 'append(b, c, d)'. -/
theorem wpList_appTwo {w0 w : World} {ops : Array Oper} {rest : List Oper} {o : Oper} {a : Act} {Q : Exit → Act → World → Prop} (hgd : o.guard = none) (s x : Operand)
    (ho : o.op = .call { callee := .builtin .append, args := #[s, x], argTypes := #[78, 78] })
    (base B : Nat) (v : Value) (l : List UInt8) (c d : Int) (u1 u2 : UInt8) (hs : a.eval s = v) (hown : ownB w base v l) (hb : Below B w0 w) (hBb : B ≤ base) (hbase : base ≤ w.heap.size) (hu : c = (u1.toNat : Int)) (hd : d = (u2.toNat : Int))
    {g : Nat} (hx : a.eval x = .slice (some ⟨g, 0, none⟩) 2 2) (hlen : l.length + 2 ≤ 140737488355328)
    (h : ∀ v' w', Hid (ownB w' base v' (l ++ [u1, u2])) → Hid (Below B w0 w') → wpList Tryz.prog ops Q rest (a.put o.dst v') w') (hg : g = w.heap.size := by simp) :
    wpList Tryz.prog ops Q (o :: rest) a (w.alloc (.cells #[.int .u8 c, .int .u8 d] 5)) := by
  obtain ⟨i0, hi, hz0, hz1, hz2⟩ := info_parts infoB
  subst hu hd hg
  refine wpList_append_own _ hgd s x 78 ho base 5 i0 (.int .u8 0) 1 1 Tryz.underlying78 hi hz0 hz1 hz2 rfl (by decide) v l.length _ hs (hown.alloc _) ⟨w.heap.size, 0, none⟩ 2 2 [.int .u8 u1.toNat, .int .u8 u2.toNat] hx rfl ?_ ?_ ?_ ?_ ?_ ?_
  · exact World.news_of_block (heap_alloc_new w _)
  · intro v hv; simp at hv; rcases hv with rfl | rfl <;> rfl
  · unfold maxLen; omega
  · omega
  · simp; omega
  · intro v' w' h1 h2 _
    refine h v' w' ?_ ?_
    · have : (l ++ [u1, u2]).length = l.length + 2 := by simp
      show ownB _ _ _ _
      unfold ownB
      rw [this, Lib.byteCells_append]
      exact h1
    · exact (hb.alloc (by omega) _).grown h2 (by simp; omega) (fun k hk => Nat.le_trans hBb (hown.ge k hk))

end Go.Proofs.YtopgeclecpaecaaGreatDoor

/- What the document's own functions tell of names: has, Values, Del, Set; lists held against each other. -/
namespace Go.Proofs.YtopgeclecpaecaaGreatDoor
open Go.RowKit

theorem beq_bsF (a b : List UInt8) : ((bs a).toList == (bs b).toList) = (a == b) := by rw [Lib.toList_data, Lib.toList_data, bs_data, bs_data]


theorem vals_step {l : List Fld} {n : List UInt8} {k : Nat} (h : k < l.length) : valsL (l.take (k + 1)) n = if (lower l[k].1 == lower n) then valsL (l.take k) n ++ [l[k].2] else valsL (l.take k) n := by
  rw [List.take_succ_eq_append_getElem h]
  unfold valsL
  rw [List.filter_append, List.map_append]
  cases hs : (lower l[k].1 == lower n) <;> simp [sameN, hs]


theorem del_step {l : List Fld} {L : List (List UInt8)} {k : Nat} (h : k < l.length) : delL (l.take (k + 1)) L = if hasN L l[k].1 then delL (l.take k) L else delL (l.take k) L ++ [l[k]] := by
  rw [List.take_succ_eq_append_getElem h]
  unfold delL
  rw [List.filter_append]
  cases hs : hasN L l[k].1 <;> simp [hs]

end Go.Proofs.YtopgeclecpaecaaGreatDoor

/- Lists held against each other; the values of a name as one text; the document's Set. -/
namespace Go.Proofs.YtopgeclecpaecaaGreatDoor
open Go.RowKit

theorem below_dn {B : Nat} {w0 w : World} (h : Below B w0 w) (n : Nat) : Below B w0 (w.drewN n) := ⟨h.os, h.tape, h.output, h.size, h.block⟩
theorem take_grow {α : Type} {L1 L2 : List α} {k : Nat} (h1 : k < L1.length) (h2 : k < L2.length) (h : L1.take k = L2.take k) (he : L1[k] = L2[k]) : L1.take (k + 1) = L2.take (k + 1) := by
  rw [List.take_succ_eq_append_getElem h1, List.take_succ_eq_append_getElem h2, h, he]


/-- two fields held against each other -/
theorem run_neqF (x y : Fld) (w : World) : (binOp .neq 66 (.agg #[.string (bs x.1), .string (bs x.2)]) (.agg #[.string (bs y.1), .string (bs y.2)])).run Tryz.prog w = .ok (.bool (!(x == y))) w := by
  have e : (x == y) = ((x.1 == y.1) && (x.2 == y.2)) := rfl
  have u9 := Tryz.underlying9
  have a9 := Tryz.isAgg9
  have z9 := Tryz.sizeOf9
  have hS : Tryz.prog.underlying 66 = some (.struct (Tryz.prog.fieldsOf 66)) := by kernel_rfl
  have hp : Tryz.prog.stoodInHeld 66 = false := by kernel_rfl
  rw [e, run_neq_struct, show (10000 : Nat) = 9999 + 1 from rfl, run_equalIn_agg w 9999 66 _ _ hS hp]
  simp only [Program.fieldsOf, Tryz.underlying66]
  go_simp
  by_cases h1 : x.1 = y.1 <;> by_cases h2 : x.2 = y.2 <;> simp [h1, h2, Lib.toList_data]

end Go.Proofs.YtopgeclecpaecaaGreatDoor
