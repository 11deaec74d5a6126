/- Fields without those of names; the values of a name: the fields layer's functions. -/
import Derived.Test.YtdaiielhohdgiaaDoorKBytes
import Derived.Test.YtdaiielhohdgiaaDoorKFieldsA
import Derived.Laws.EntriesVeiled
import Derived.Test.YtdaiielhohdgiaaDoorShelf
import Derived.Lib.Builder
import Derived.Shelf.Strings.Builder1
import Derived.Lib.AppendStr
import Derived.Laws.StructEq
namespace Go.Proofs.YtdaiielhohdgiaaDoor
open Go.RowKit Go.Shelf

theorem eg1 (args : Array Value) (w : World) : (callFunc 39 args).run Tryd.prog w = .ok (.enter 39 args) w := enters_of Tryd.func39 (by kernel_rfl) rfl args w
theorem eg2 (args : Array Value) (w : World) : (callFunc 23 args).run Tryd.prog w = .ok (.enter 23 args) w := enters_of Tryd.func23 (by kernel_rfl) rfl args w

theorem named_pred {w : World} {b : Nat} {L : List (List UInt8)} (h : knows w b (lowsOf L)) : PredF w 39 #[.pointer (some ⟨b, 0, none⟩)] (fun f => hasN L f.1) := fun W f hb h1 => by
  have := named1_any f b (lowsOf L) W (h.bel hb) h1
  rw [lowsOf_any] at this
  exact this

set_option maxHeartbeats 400000 in
set_option maxRecDepth 100000 in
theorem del1_any (f : Fld) (b g : Nat) (lb : Array Value) (eg : ∀ args w, (callFunc g args).run Tryd.prog w = .ok (.enter g args) w) (p : Fld → Bool) (w0 w : World) (hb0 : Below w0.heap.size w0 w) (hp : PredF w0 g lb p)
    (hh : w0.heap[b]? = some (.cells #[.func (.func g) #[] lb] 46 (0, 0))) (h1 : f.1.length ≤ 4294967296) :
    Calls Tryd.prog 23 #[fv f, .pointer (some ⟨b, 0, none⟩)] w fun e w' => e = .returned (.bool (!p f)) ∧ Below w.heap.size w w' := by
  have hbl : b < w0.heap.size := (Array.getElem?_eq_some_iff.1 hh).1
  have hc := cell_of_one ((hb0.block b hbl).trans hh)
  have hbw : b < w.heap.size := Nat.lt_of_lt_of_le hbl hb0.size
  have hcall := hp (w.alloc (.cells #[.string (bs f.1), .string (bs f.2)] 42)) f (hb0.alloc hb0.size _) h1
  obtain ⟨n, v⟩ := f; simp only at h1
  unfold fv at hcall ⊢
  simp only at hcall ⊢
  generalize p (n, v) = B at *
  have HC := Lib.hid hcall; clear hcall hp hb0 hh
  go_enter Tryd.func23, Tryd.ntmps23
  go_wp2_with (go_at_fn g; refine HC.out.mono ?_; rintro e w1 ⟨rfl, hb1⟩)
  go_ret
  exact ⟨rfl, ((Below.refl _ _).alloc (Nat.le_refl _) _).trans (hb1.mono (by simp))⟩

theorem del_pred {w : World} {b g : Nat} {lb : Array Value} {p : Fld → Bool} (eg : ∀ args w, (callFunc g args).run Tryd.prog w = .ok (.enter g args) w) (hp : PredF w g lb p)
    (hh : w.heap[b]? = some (.cells #[.func (.func g) #[] lb] 46 (0, 0))) : PredF w 23 #[.pointer (some ⟨b, 0, none⟩)] (fun f => !p f) :=
  fun W f hb h1 => del1_any f b g lb eg p w W hb hp hh h1

theorem PredF.later {w w' : World} {g : Nat} {lb : Array Value} {p : Fld → Bool} (h : PredF w g lb p) (hb : Below w.heap.size w w') : PredF w' g lb p :=
  fun W f hW h1 => h W f (hb.trans (hW.mono hb.size)) h1
theorem ownF.later {w w' : World} {B : Nat} {v : Value} {l : List Fld} (h : ownF w B v l) (hb : Below w.heap.size w w') : ownF w' B v l := h.bel hb
theorem RetF.carry {w0 w : World} {l : List Fld} {e : Ending} {w' : World} (hb : Below w0.heap.size w0 w) (h : RetF w l e w') : RetF w0 l e w' := by
  obtain ⟨v', he, ho, hb'⟩ := h
  exact ⟨v', he, ho.mono hb.size, hb.trans (hb'.mono hb.size)⟩
theorem RetS.carry {w0 w : World} {l : List (List UInt8)} {e : Ending} {w' : World} (hb : Below w0.heap.size w0 w) (h : RetS w l e w') : RetS w0 l e w' := by
  obtain ⟨v', he, ho, hb'⟩ := h
  exact ⟨v', he, ho.mono hb.size, hb.trans (hb'.mono hb.size)⟩

set_option maxHeartbeats 1000000 in
set_option maxRecDepth 100000 in
theorem del_any (v vn : Value) (l : List Fld) (L : List (List UInt8)) (w : World) (h : FL w v l) (hn : SL w vn L) (hs : smallF l) (hl : l.length ≤ 1048576) (hL : ∀ x ∈ L, x.length ≤ 4294967296) (hLl : L.length ≤ 4294967296) :
    Calls Tryd.prog 9 #[v, vn] w (RetF w (delL l L)) := by
  obtain ⟨A, c, rfl⟩ := h.form
  obtain ⟨A2, c2, rfl⟩ := hn.form
  have hnm := named_any _ L w hn hL hLl
  have HNM := Lib.hid hnm; have HF := Lib.hid h; clear hnm h hn hL
  have HS : Hid (smallF l) := hs
  go_enter Tryd.func9, Tryd.ntmps9
  go_wp2_with fail
  refine HNM.out.mono ?_
  rintro e w1 ⟨rfl, hk1, hb1⟩
  have hp1 := named_pred hk1
  have hal : Below w1.heap.size w1 (w1.alloc (.cells #[.func (.func 39) #[] #[.pointer (some ⟨w.heap.size + 1, 0, none⟩)]] 46)) := (Below.refl _ _).alloc (Nat.le_refl _) _
  have hp2 := del_pred eg1 (hp1.later hal) (heap_alloc_new w1 (.cells #[.func (.func 39) #[] #[.pointer (some ⟨w.heap.size + 1, 0, none⟩)]] 46))
  have hkp := kept_any _ _ eg2 _ (.slice A l.length c) l _ hp2 ((HF.out.bel hb1).bel hal) HS.out hl
  have HBa := Lib.hid (hb1.trans (hal.mono hb1.size))
  have HKP := Lib.hid hkp
  clear hkp hp2 hal hp1 hk1 hb1
  go_wp2_with (go_at_call 22; refine HKP.out.mono ?_; rintro e w2 ⟨v2, rfl, ho2, hb2⟩; have HO2 := Lib.hid ho2; have HB2 := Lib.hid hb2; clear ho2 hb2)
  go_ret
  exact ⟨v2, rfl, HO2.out.mono HBa.out.size, HBa.out.trans (HB2.out.mono HBa.out.size)⟩

theorem smallF_filter {l : List Fld} (h : smallF l) (p : Fld → Bool) : smallF (l.filter p) := fun j hj => by
  have hm : (l.filter p)[j] ∈ l := (List.mem_filter.1 (List.getElem_mem hj)).1
  obtain ⟨i, hi, he⟩ := List.getElem_of_mem hm
  have := h i hi
  rw [he] at this
  exact this

set_option maxHeartbeats 1000000 in
set_option maxRecDepth 100000 in
theorem values_any (v : Value) (l : List Fld) (n : List UInt8) (w : World) (h : FL w v l) (hs : smallF l) (hl : l.length ≤ 1048576) (hn : n.length ≤ 4294967296) :
    Calls Tryd.prog 12 #[v, .string (bs n)] w (RetS w (valsL l n)) := by
  obtain ⟨A, c, rfl⟩ := h.form
  have HF := Lib.hid h; clear h
  have HSm : Hid (smallF l) := hs
  have hal : Below w.heap.size w (w.alloc (.cells #[.string (bs n)] 9)) := (Below.refl _ _).alloc (Nat.le_refl _) _
  have hnm := named_any _ [n] _ (SL_lit w n) (by intro x hx; rw [List.mem_singleton.1 hx]; exact hn) (by simp)
  simp only [World.size_alloc] at hnm
  have HFa := Lib.hid (HF.out.bel hal)
  have HBa := Lib.hid hal; clear hal
  have HNM := Lib.hid hnm; clear hnm
  go_enter Tryd.func12, Tryd.ntmps12
  go_wp2_with fail
  refine HNM.out.mono ?_
  rintro e w1 ⟨rfl, hk1, hb1⟩
  have hp1 := named_pred hk1
  replace hb1 : Below (w.alloc (.cells #[.string (bs n)] 9)).heap.size (w.alloc (.cells #[.string (bs n)] 9)) w1 := by simp only [World.size_alloc]; exact hb1
  have hkp := kept_any _ _ eg1 _ (.slice A l.length c) l _ hp1 (HFa.out.bel hb1) HSm.out hl
  have HB1 := Lib.hid (HBa.out.trans (hb1.mono HBa.out.size))
  have HKP := Lib.hid hkp
  clear hkp hp1 hk1 hb1
  go_wp2_with fail
  refine HKP.out.mono ?_
  rintro e w2 ⟨v2, rfl, ho2, hb2⟩
  have HFk := Lib.hid ho2.fl; have HB2 := Lib.hid (HB1.out.trans (hb2.mono HB1.out.size)); obtain ⟨A2, c2, rfl⟩ := ho2.form
  clear ho2 hb2
  have HV : Hid (valsL l n = (l.filter fun f => hasN [n] f.1).map (·.2)) := by
    show _ = _
    unfold valsL
    congr 1
    exact filter_same fun f _ => by rw [hasN_one, sameN_symm]
  have HSk := Lib.hid (smallF_filter HSm.out fun f => hasN [n] f.1)
  have hkl : (l.filter fun f => hasN [n] f.1).length ≤ 1048576 := Nat.le_trans (List.length_filter_le _ _) hl
  generalize (l.filter fun f => hasN [n] f.1) = m at *
  go_wp2_with fail
  go_loopw [5, 14] (fun o i wr => ∃ k : Nat, k ≤ m.length ∧ i = .int .i64 k ∧ ownS wr w2.heap.size o ((m.take k).map (·.2)) ∧ Below w2.heap.size w2 wr) (fun _ i _ => m.length - (intOf i).toNat)
  case atStart => exact ⟨0, Nat.zero_le _, rfl, ownS_nil _ _, Below.refl _ _⟩
  case round =>
    obtain ⟨k, hk, rfl, ho, hb⟩ := hrel
    have HO := Lib.hid ho; have HB := Lib.hid hb; clear ho hb
    by_cases hlt : k < m.length
    · obtain ⟨b, off, rfl, hbb, hc1, hc2⟩ := (HFk.out.bel HB.out).get k hlt
      have HT : Hid ((m.take (k + 1)).map (·.2) = (m.take k).map (·.2) ++ [m[k].2]) := by show _ = _; rw [List.take_succ_eq_append_getElem hlt, List.map_append]; rfl
      have hlen : ((m.take k).map (·.2)).length ≤ 1048576 := by rw [List.length_map]; exact Nat.le_trans (List.length_take_le' _ _) hkl
      generalize m[k] = f at *
      obtain ⟨x, y⟩ := f; simp only at hc1 hc2
      have HT2 : Hid ((m.take (k + 1)).map (·.2) = (m.take k).map (·.2) ++ [y]) := HT.out
      clear HT
      have HL : Hid (((m.take k).map (·.2)).length + 1 ≤ 4294967296) := by show _ ≤ _; omega
      clear hlen
      generalize (m.take k).map (·.2) = acc at *
      have hal : Below wr.heap.size wr (wr.alloc (.cells #[.string (bs x), .string (bs y)] 42)) := (Below.refl _ _).alloc (Nat.le_refl _) _
      have HOa := Lib.hid (HO.out.bel hal)
      have HBa2 := Lib.hid (HB.out.trans (hal.mono HB.out.size))
      clear hal
      go_wp2_with (at_builtin; refine wpList_appS rfl (.tmp 18) (.tmp 21) rfl w2.heap.size w2.heap.size _ _ y rfl HOa.out HBa2.out (Nat.le_refl _) HBa2.out.size rfl HL.out ?_; intro v' w' HO3 HB3 _)
      go_roundw
      case rel => exact ⟨k + 1, by omega, by go_num, by rw [HT2.out]; exact HO3.out, HB3.out⟩
      case measure => simp [intOf]; omega
    · have HTT : Hid ((m.take k).map (·.2) = valsL l n) := by show _ = _; rw [HV.out, List.take_of_length_le (by omega)]
      go_wp2_with fail
      go_ret
      exact ⟨_, rfl, by rw [← HTT.out]; exact HO.out.mono HB2.out.size, HB2.out.trans (HB.out.mono HB2.out.size)⟩
end Go.Proofs.YtdaiielhohdgiaaDoor

/- A strings.Builder that a call has made: one more text written to it, and what it holds. (The library's copyCheck has, in this translation, no panic of its own: so its shelf contract is not laid here.) -/
namespace Go.Proofs.YtdaiielhohdgiaaDoor
open Go.RowKit Go.Shelf

theorem sizeBl : (Tryd.prog.info? 60).map (·.size) = some 2 := by kernel_rfl
theorem liesBl : liesAt Tryd.prog Tryd.prog.depth 60 (2 / Tryd.prog.cellsOf 60) 0 60 1 = true := by kernel_rfl
/-- block b is a builder that holds the bytes l -/
def bldr (w : World) (B b : Nat) (l : List UInt8) : Prop := Lib.IsBuilder 60 5 B b (Lib.byteCells l) w
theorem bldr_new (w : World) (B : Nat) (hB : B ≤ w.heap.size) : bldr (w.alloc (.cells #[.pointer none, .slice none 0 0] 60)) B w.heap.size [] :=
  .inl ⟨hB, _, heap_alloc_new w _, World.ownsRow_nil _ _ _ _, by simp [Value.ownBlock]⟩

set_option maxHeartbeats 1000000 in
set_option maxRecDepth 100000 in
theorem copyCheck_any (B b : Nat) (bs' : List Value) (w : World) (h : Lib.IsBuilder 60 5 B b bs' w) :
    Calls Tryd.prog 50 #[.pointer (some ⟨b, 0, none⟩)] w fun e w' => e = .returned (.tuple #[]) ∧ Lib.BuilderAt 60 5 B b (.pointer (some ⟨b, 0, none⟩)) bs' w' ∧ Below B w w' := by
  obtain ⟨j, hj, hjs⟩ := Option.map_eq_some_iff.1 sizeBl
  rcases h with h | h
  · have h0 := h.cell0
    have hfz := h.frozen0
    have hto := Lib.run_to_unsafe (P := Tryd.prog) w (⟨b, 0, none⟩ : Addr) Tryd.underlying58 Tryd.underlying99 hj (by rw [hjs]; decide) h.shape (Nat.zero_lt_succ 1)
    have hne : (callFunc 67 #[.pointer (some ⟨b, 0, none⟩)]).run Tryd.prog w = .ok (.value (.pointer (some ⟨b, 0, none⟩))) w := by
      rw [run_callFunc_extern Tryd.func67 (by kernel_rfl) (by kernel_rfl) (by kernel_rfl) (e := Extern.AbiNoEscape.same) (by kernel_rfl), Lib.run_noEscape]
      rfl
    have hfr := Lib.run_from_unsafe (P := Tryd.prog) w (⟨b, 0, none⟩ : Addr) Tryd.underlying99 Tryd.underlying58 hj h.shape liesBl
    have HH := Lib.hid h; clear h
    go_enter Tryd.func50, Tryd.ntmps50
    go_wp2_with (simp only [hne])
    go_end0
    exact ⟨rfl, HH.out.used _, (Below.refl B w).setCell (p := ⟨b, 0, none⟩) HH.out.1 _⟩
  · have h0 := h.cell0
    have HH := Lib.hid h; clear h
    go_enter Tryd.func50, Tryd.ntmps50
    go_wp2
    rw [Lib.run_neq_ptr_same _ _ Tryd.underlying58 hj]
    go_wp2
    go_end0
    exact ⟨rfl, HH.out, Below.refl B _⟩

set_option maxHeartbeats 1000000 in
set_option maxRecDepth 100000 in
theorem write_any (B b : Nat) (l s : List UInt8) (w : World) (h : bldr w B b l) (hlen : l.length + s.length ≤ 140737488355328) (hBw : B ≤ w.heap.size) :
    Calls Tryd.prog 28 #[.pointer (some ⟨b, 0, none⟩), .string (bs s)] w fun e w' => e = .returned (.tuple #[.int .i64 s.length, .nilIface]) ∧ bldr w' B b (l ++ s) ∧ Below B w w' := by
  obtain ⟨i0, hi, hz0, hz1, hz2⟩ := info_parts infoB
  have hcc := copyCheck_any B b (Lib.byteCells l) w h
  have HCC := Lib.hid hcc; clear hcc h
  go_enter Tryd.func28, Tryd.ntmps28
  go_wp2_with (go_at_call 50; refine HCC.out.mono ?_)
  rintro e w1 ⟨rfl, h1, hb1⟩
  obtain ⟨hB, v, hbk, hown, hne⟩ := h1
  have hl := Lib.byteCells_length l
  have hsz : (bs s).size = s.length := bs_size s
  have hwz := hb1.size
  have c0 : w1.cell? ⟨b, 0, none⟩ = some (.pointer (some ⟨b, 0, none⟩)) := by rw [Lib.cell_of_heap hbk]; rfl
  have c1 : w1.cell? ⟨b, 1, none⟩ = some v := by rw [Lib.cell_of_heap hbk]; rfl
  have HO := Lib.hid hown; have HK := Lib.hid hbk; have HB1 := Lib.hid hb1; have HNE := Lib.hid hne
  have HL := Lib.hid hl; have HSZ := Lib.hid hsz
  clear hown hbk hb1 hne hl hsz
  go_wp2_with (at_builtin; refine Lib.wpList_append_own_string _ rfl _ _ 49 9 rfl B 5 i0 Tryd.underlying49 Tryd.underlying9 hi hz0 hz1 hz2 _ _ _ rfl HO.out (bs s) rfl ?c3 ?c4 ?c5 ?_)
  case c3 => rw [HL.out, HSZ.out]; unfold maxLen; omega
  case c4 => rw [HL.out, HSZ.out]; omega
  case c5 => omega
  intro v' w2 hown' hgrow _
  have hlt : b < w1.heap.size := (Array.getElem?_eq_some_iff.1 HK.out).1
  have hb2 : w2.heap[b]? = some (.cells #[.pointer (some ⟨b, 0, none⟩), v] 60 (0, 0)) := by
    rw [hgrow.block b hlt (fun e => HNE.out e.symm)]
    exact HK.out
  have d0 : w2.cell? ⟨b, 0, none⟩ = some (.pointer (some ⟨b, 0, none⟩)) := by rw [Lib.cell_of_heap hb2]; rfl
  have d1 : w2.cell? ⟨b, 1, none⟩ = some v := by rw [Lib.cell_of_heap hb2]; rfl
  have f1 : w2.frozen? ⟨b, 1, none⟩ = false := Lib.frozen_of_heap hb2 1
  obtain ⟨ao, n', cap, rfl⟩ : ∃ ao n' cap, v' = .slice ao n' cap := by
    rcases hown'.2 with ⟨hv, _⟩ | ⟨g, cap, cur, hv, _⟩
    · exact ⟨_, _, _, hv⟩
    · exact ⟨_, _, _, hv⟩
  have HB2 : Hid (Below B w w2) := HB1.out.grown hgrow (by omega) (fun k hk => (HO.out.lt k hk).1)
  have HK2 := Lib.hid hb2; have HO2 := Lib.hid hown'
  clear hb2 hown' hgrow
  go_wp2
  go_ret2
  refine ⟨by show Ending.returned (.tuple #[.int .i64 ((bs s).size : Int), .nilIface]) = _; rw [HSZ.out], .inr ?_, HB2.out.setCell (p := ⟨b, 1, none⟩) hB _⟩
  refine Lib.BuilderAt.put (T := 60) (e := 5) hB HK2.out (bs' := Lib.byteCells (l ++ s)) ?_ (by decide)
  have h := HO2.out
  rw [Lib.byteCells_append, List.length_append]
  have e : Lib.strCells (bs s) = Lib.byteCells s := by simp [Lib.strCells, Lib.byteCells]
  rw [e] at h
  rw [Lib.byteCells_length s]
  exact h

theorem string_any (B b : Nat) (l : List UInt8) (w : World) (h : bldr w B b l) (hBw : B ≤ w.heap.size) :
    Calls Tryd.prog 30 #[.pointer (some ⟨b, 0, none⟩)] w fun e w' => e = .returned (.string (bs l)) ∧ Below B w w' :=
  Tryd.Builder_String_any B b l w h hBw
end Go.Proofs.YtdaiielhohdgiaaDoor

/- The text of a list of fields: the fields layer's Put, and the document's own. -/
namespace Go.Proofs.YtdaiielhohdgiaaDoor
open Go.RowKit

theorem ownsRow_bel {w w' : World} {base : Nat} {e : TypeId} {size : Nat} {v : Value} {n : Nat} {xs : List Value} (h : w.ownsRow base e size v n xs) (hb : Below w.heap.size w w') : w'.ownsRow base e size v n xs := by
  refine ⟨h.1, ?_⟩
  rcases h.2 with hn | ⟨g, cap, cur, hv, hbg, hg, r⟩
  · exact .inl hn
  · exact .inr ⟨g, cap, cur, hv, hbg, (hb.block g (Array.getElem?_eq_some_iff.1 hg).1).trans hg, r⟩
theorem ownB.bel {w w' : World} {base : Nat} {v : Value} {l : List UInt8} (h : ownB w base v l) (hb : Below w.heap.size w w') : ownB w' base v l := ownsRow_bel h hb
theorem bldr.bel {w w' : World} {B b : Nat} {l : List UInt8} (h : bldr w B b l) (hb : Below w.heap.size w w') : bldr w' B b l := by
  rcases h with ⟨h1, v, h2, h3, h4⟩ | ⟨h1, v, h2, h3, h4⟩
  · exact .inl ⟨h1, v, (hb.block b (Array.getElem?_eq_some_iff.1 h2).1).trans h2, ownsRow_bel h3 hb, h4⟩
  · exact .inr ⟨h1, v, (hb.block b (Array.getElem?_eq_some_iff.1 h2).1).trans h2, ownsRow_bel h3 hb, h4⟩
theorem lines_step {l : List Fld} {k : Nat} (h : k < l.length) : linesL (l.take (k + 1)) = linesL (l.take k) ++ (lineL l[k] ++ [13, 10]) := by
  rw [List.take_succ_eq_append_getElem h, lines_snoc]
theorem lines_take_len {l : List Fld} (h : ∀ f ∈ l, chkF f = 0) (hl : l.length ≤ 64) (k : Nat) : (linesL (l.take k)).length ≤ 131200 := by
  have := lines_len (l := l.take k) fun f hf => h f (List.mem_of_mem_take hf)
  have h2 : (l.take k).length ≤ 64 := Nat.le_trans (List.length_take_le' _ _) hl
  omega

set_option maxHeartbeats 2000000 in
theorem put_any (v : Value) (l : List Fld) (w : World) (h : FL w v l) (hs : smallF l) (hl : l.length ≤ 4294967296) :
    Calls Tryd.prog 16 #[v] w fun e w' => e = .returned (.string (bs (putL l))) ∧ Below w.heap.size w w' := by
  obtain ⟨A, c, rfl⟩ := h.form
  have hck := check_any _ l w h hs hl
  have HF := Lib.hid h; clear h
  by_cases hz : checkL l = 0
  · obtain ⟨hl64, hall⟩ := check_zero hz
    have HP : Hid (putL l = linesL l) := by show _ = _; unfold putL; rw [if_pos hz]
    rw [hz] at hck
    have HCK := Lib.hid hck; have HA := Lib.hid hall; clear hck hall hz hs
    go_enter Tryd.func16, Tryd.ntmps16
    go_wp2_with (go_at_call 27; refine HCK.out.mono ?_; rintro e w1 ⟨rfl, hb1⟩; have HB1 := Lib.hid hb1; clear hb1)
    have hal : Below w1.heap.size w1 (w1.alloc (.cells #[.pointer none, .slice none 0 0] 60)) := (Below.refl _ _).alloc (Nat.le_refl _) _
    have HN : Hid (bldr (w1.alloc (.cells #[.pointer none, .slice none 0 0] 60)) w.heap.size w1.heap.size []) := bldr_new w1 _ HB1.out.size
    have HBa := Lib.hid (HB1.out.trans (hal.mono HB1.out.size)); clear hal
    go_loopw [11] (fun i wr => ∃ k : Nat, k ≤ l.length ∧ i = .int .i64 k ∧ bldr wr w.heap.size w1.heap.size (linesL (l.take k)) ∧ Below w.heap.size w wr) (fun i _ => l.length - (intOf i).toNat)
    case atStart => exact ⟨0, Nat.zero_le _, rfl, HN.out, HBa.out⟩
    case round =>
      obtain ⟨k, hk, rfl, ho, hb⟩ := hrel
      have HO := Lib.hid ho; have HB := Lib.hid hb; clear ho hb
      by_cases hlt : k < l.length
      · obtain ⟨b, off, rfl, hbb, hc1, hc2⟩ := (HF.out.bel HB.out).get k hlt
        obtain ⟨_, hlen⟩ := chkF_zero (HA.out l[k] (List.getElem_mem hlt))
        have HT := Lib.hid (lines_step hlt)
        have HLn : Hid ((linesL (l.take k)).length ≤ 131200) := lines_take_len HA.out hl64 k
        have hll := line_len l[k]
        generalize l[k] = f at *
        obtain ⟨n, x⟩ := f
        have hz1 : n.length ≤ 4294967296 := by unfold lenF at hlen; simp only at hlen; omega
        have hz2 : x.length ≤ 4294967296 := by unfold lenF at hlen; simp only at hlen; omega
        have hlo := fun w => lineOf_any (n, x) w hz1 hz2
        unfold fv at hlo; simp only at hlo hc1 hc2
        have HLL : Hid ((lineL (n, x)).length ≤ 2048) := by show _ ≤ _; omega
        generalize lineL (n, x) = L at *
        have s1 := fun w => add_l L [13, 10] w (by have := HLL.out; simp only [List.length_cons, List.length_nil]; omega)
        rw [show bs [13, 10] = ⟨#[13, 10]⟩ from rfl] at s1
        have hwr := fun w1' h1 h2 => write_any w.heap.size w1.heap.size (linesL (l.take k)) (L ++ [13, 10]) w1' h1 (by have := HLL.out; have := HLn.out; simp only [List.length_append, List.length_cons, List.length_nil]; omega) h2
        have HLO := Lib.hid hlo; have HWR := Lib.hid hwr
        clear hlo hwr hll hlen hz1 hz2
        generalize linesL (l.take k) = acc at *
        have hal : Below wr.heap.size wr (wr.alloc (.cells #[.string (bs n), .string (bs x)] 42)) := (Below.refl _ _).alloc (Nat.le_refl _) _
        have HBb := Lib.hid (HB.out.trans (hal.mono HB.out.size))
        have HOb := Lib.hid (HO.out.bel hal); clear hal
        go_wp2_with (first
          | (go_at_call 29; refine (HLO.out _).mono ?_; rintro e w2 ⟨rfl, hb2⟩; have HB2 := Lib.hid (HBb.out.trans (hb2.mono HBb.out.size)); have HO2 := Lib.hid (HOb.out.bel hb2); clear hb2)
          | (go_at_call 28; refine (HWR.out _ HO2.out HB2.out.size).mono ?_; rintro e w3 ⟨rfl, ho3, hb3⟩; have HB3 := Lib.hid (HB2.out.trans hb3); have HO3 := Lib.hid ho3; clear ho3 hb3))
        go_roundw
        case rel => exact ⟨k + 1, by omega, by go_num, by rw [HT.out]; exact HO3.out, HB3.out⟩
        case measure => simp [intOf]; omega
      · have HT : Hid (linesL (l.take k) = linesL l) := by show _ = _; rw [List.take_of_length_le (by omega)]
        go_wp2_with (go_at_call 30; refine (string_any w.heap.size w1.heap.size _ _ HO.out HB.out.size).mono ?_; rintro e w4 ⟨rfl, hb4⟩)
        go_ret
        exact ⟨ret_str (by rw [HT.out, HP.out]), HB.out.trans hb4⟩
  · have HP : Hid (putL l = []) := put_bad hz
    have hz2 : (checkL l != 0) = true := by simp [hz]
    generalize checkL l = E at *
    have HCK := Lib.hid hck; clear hck hz hs
    go_enter Tryd.func16, Tryd.ntmps16
    go_wp2_with (go_at_call 27; refine HCK.out.mono ?_; rintro e w1 ⟨rfl, hb1⟩)
    go_ret
    exact ⟨ret_str (by rw [HP.out]; rfl), hb1⟩

/-- 'append(b, s...)', s a text. -/
theorem wpList_appStr {w0 w : World} {ops : Array Oper} {rest : List Oper} {o : Oper} {a : Act} {Q : Exit → Act → World → Prop} (hgd : o.guard = none) (s x : Operand)
    (ho : o.op = .call { callee := .builtin .append, args := #[s, x], argTypes := #[49, 9] })
    (base B : Nat) (v : Value) (l t : List UInt8) (hs : a.eval s = v) (hown : ownB w base v l) (hb : Below B w0 w) (hBb : B ≤ base) (hbase : base ≤ w.heap.size)
    (hx : a.eval x = .string (bs t)) (hlen : l.length + t.length ≤ 140737488355328)
    (h : ∀ v' w', Hid (ownB w' base v' (l ++ t)) → Hid (Below B w0 w') → wpList Tryd.prog ops Q rest (a.put o.dst v') w') :
    wpList Tryd.prog ops Q (o :: rest) a w := by
  obtain ⟨i0, hi, hz0, hz1, hz2⟩ := info_parts infoB
  have hsz : (bs t).size = t.length := bs_size t
  refine Lib.wpList_append_own_string _ hgd s x 49 9 ho base 5 i0 Tryd.underlying49 Tryd.underlying9 hi hz0 hz1 hz2 v l.length _ hs hown (bs t) hx ?_ ?_ hbase ?_
  · rw [hsz]; unfold maxLen; omega
  · rw [hsz]; omega
  · intro v' w' h1 h2 _
    refine h v' w' ?_ (hb.grown h2 (by omega) (fun k hk => Nat.le_trans hBb (hown.ge k hk)))
    show World.ownsRow _ _ _ _ _ _ _
    rw [List.length_append, Lib.byteCells_append, ← hsz]
    have e : Lib.strCells (bs t) = Lib.byteCells t := by simp [Lib.strCells, Lib.byteCells]
    rw [e] at h1
    exact h1
/-- 'append(b, c, d)'. -/
theorem wpList_appTwo {w0 w : World} {ops : Array Oper} {rest : List Oper} {o : Oper} {a : Act} {Q : Exit → Act → World → Prop} (hgd : o.guard = none) (s x : Operand)
    (ho : o.op = .call { callee := .builtin .append, args := #[s, x], argTypes := #[49, 49] })
    (base B : Nat) (v : Value) (l : List UInt8) (c d : Int) (u1 u2 : UInt8) (hs : a.eval s = v) (hown : ownB w base v l) (hb : Below B w0 w) (hBb : B ≤ base) (hbase : base ≤ w.heap.size) (hu : c = (u1.toNat : Int)) (hd : d = (u2.toNat : Int))
    {g : Nat} (hx : a.eval x = .slice (some ⟨g, 0, none⟩) 2 2) (hlen : l.length + 2 ≤ 140737488355328)
    (h : ∀ v' w', Hid (ownB w' base v' (l ++ [u1, u2])) → Hid (Below B w0 w') → wpList Tryd.prog ops Q rest (a.put o.dst v') w') (hg : g = w.heap.size := by simp) :
    wpList Tryd.prog ops Q (o :: rest) a (w.alloc (.cells #[.int .u8 c, .int .u8 d] 5)) := by
  obtain ⟨i0, hi, hz0, hz1, hz2⟩ := info_parts infoB
  subst hu hd hg
  refine wpList_append_own _ hgd s x 49 ho base 5 i0 (.int .u8 0) 1 1 Tryd.underlying49 hi hz0 hz1 hz2 rfl (by decide) v l.length _ hs (hown.alloc _) ⟨w.heap.size, 0, none⟩ 2 2 [.int .u8 u1.toNat, .int .u8 u2.toNat] hx rfl ?_ ?_ ?_ ?_ ?_ ?_
  · exact World.news_of_block (heap_alloc_new w _)
  · intro v hv; simp at hv; rcases hv with rfl | rfl <;> rfl
  · unfold maxLen; omega
  · omega
  · simp; omega
  · intro v' w' h1 h2 _
    refine h v' w' ?_ ?_
    · have : (l ++ [u1, u2]).length = l.length + 2 := by simp
      show ownB _ _ _ _
      unfold ownB
      rw [this, Lib.byteCells_append]
      exact h1
    · exact (hb.alloc (by omega) _).grown h2 (by simp; omega) (fun k hk => Nat.le_trans hBb (hown.ge k hk))

end Go.Proofs.YtdaiielhohdgiaaDoor

/- What the document's own functions tell of names: has, Values, Del, Set; lists held against each other. -/
namespace Go.Proofs.YtdaiielhohdgiaaDoor
open Go.RowKit

theorem beq_bsF (a b : List UInt8) : ((bs a).toList == (bs b).toList) = (a == b) := by rw [Lib.toList_data, Lib.toList_data, bs_data, bs_data]
def LowR (x lx : List UInt8) : Prop := ∀ w : World, Calls Tryd.prog 13 #[.string (bs x)] w fun e w' => e = .returned (.string (bs lx)) ∧ Below w.heap.size w w'
theorem lowR (x : List UInt8) (h : x.length ≤ 4294967296) : LowR x (lower x) := fun w => rlower_l x w (by omega)


theorem vals_step {l : List Fld} {n : List UInt8} {k : Nat} (h : k < l.length) : valsL (l.take (k + 1)) n = if (lower l[k].1 == lower n) then valsL (l.take k) n ++ [l[k].2] else valsL (l.take k) n := by
  rw [List.take_succ_eq_append_getElem h]
  unfold valsL
  rw [List.filter_append, List.map_append]
  cases hs : (lower l[k].1 == lower n) <;> simp [sameN, hs]


theorem del_step {l : List Fld} {L : List (List UInt8)} {k : Nat} (h : k < l.length) : delL (l.take (k + 1)) L = if hasN L l[k].1 then delL (l.take k) L else delL (l.take k) L ++ [l[k]] := by
  rw [List.take_succ_eq_append_getElem h]
  unfold delL
  rw [List.filter_append]
  cases hs : hasN L l[k].1 <;> simp [hs]

end Go.Proofs.YtdaiielhohdgiaaDoor

/- Lists held against each other; the values of a name as one text; the document's Set. -/
namespace Go.Proofs.YtdaiielhohdgiaaDoor
open Go.RowKit

theorem below_dn {B : Nat} {w0 w : World} (h : Below B w0 w) (n : Nat) : Below B w0 (w.drewN n) := ⟨h.os, h.tape, h.output, h.size, h.block⟩
theorem take_grow {α : Type} {L1 L2 : List α} {k : Nat} (h1 : k < L1.length) (h2 : k < L2.length) (h : L1.take k = L2.take k) (he : L1[k] = L2[k]) : L1.take (k + 1) = L2.take (k + 1) := by
  rw [List.take_succ_eq_append_getElem h1, List.take_succ_eq_append_getElem h2, h, he]

set_option maxHeartbeats 1000000 in
set_option maxRecDepth 100000 in
theorem sameT_any (v1 v2 : Value) (L1 L2 : List (List UInt8)) (w : World) (h1 : SL w v1 L1) (h2 : SL w v2 L2) (hl : L1.length ≤ 4294967296) :
    Calls Tryd.prog 11 #[v1, v2] w fun e w' => e = .returned (.bool (L1 == L2)) ∧ Below w.heap.size w w' := by
  obtain ⟨a1, c1, rfl⟩ := h1.form
  obtain ⟨a2, c2, rfl⟩ := h2.form
  have H1 := Lib.hid h1; have H2 := Lib.hid h2
  clear h1 h2
  by_cases hlen : L1.length = L2.length
  · have hne : ((L1.length : Int) != (L2.length : Int)) = false := by rw [bne_eq_false_iff_eq]; omega
    have HLen := Lib.hid hlen; clear hlen
    go_enter Tryd.func11, Tryd.ntmps11
    go_wp2_with fail
    go_loopw [5] (fun i wr => ∃ k : Nat, k ≤ L1.length ∧ i = .int .i64 k ∧ L1.take k = L2.take k ∧ Below w.heap.size w wr) (fun i _ => L1.length - (intOf i).toNat)
    case atStart => exact ⟨0, Nat.zero_le _, rfl, rfl, Below.refl _ _⟩
    case round =>
      obtain ⟨k, hk, rfl, ht, hb⟩ := hrel
      have HT := Lib.hid ht; clear ht
      have HB := Lib.hid hb; clear hb
      by_cases hlt : k < L1.length
      · have hlt2 : k < L2.length := by have := HLen.out; omega
        have hi1 : (k : Int) < (L1.length : Int) := by omega
        have hi2 : (k : Int) < (L2.length : Int) := by omega
        obtain ⟨g1, o1, rfl, _, hc1⟩ := (H1.out.bel HB.out).get k hlt
        obtain ⟨g2, o2, rfl, _, hc2⟩ := (H2.out.bel HB.out).get k hlt2
        by_cases he : L1[k] = L2[k]
        · have HS := Lib.hid (take_grow hlt hlt2 HT.out he)
          rw [he] at hc1
          clear he
          generalize L2[k] = x at *
          generalize bs x = y at *
          go_wp2_with fail
          go_quiet (fail)
          go_wp2_with fail
          go_roundw
          case rel => exact ⟨k + 1, by omega, by go_num, HS.out, below_dn HB.out _⟩
          case measure => simp [intOf]; omega
        · have hx : ((bs L1[k]).toList == (bs L2[k]).toList) = false := by rw [beq_bsF]; exact beq_eq_false_iff_ne.2 he
          have HN : Hid (¬ L1 = L2) := fun e => he (by subst e; rfl)
          clear he
          generalize L1[k] = x at *
          generalize L2[k] = y at *
          generalize bs x = x at *
          generalize bs y = y at *
          go_wp2_with fail
          go_quiet (fail)
          go_wp2_with fail
          go_ret
          exact ⟨ret_bool (beq_eq_false_iff_ne.2 HN.out).symm, below_dn HB.out _⟩
      · have HE : Hid (L1 = L2) := by
          have h := HT.out
          have h3 := HLen.out
          rwa [List.take_of_length_le (by omega), List.take_of_length_le (by omega)] at h
        go_wp2_with fail
        go_ret
        exact ⟨ret_bool (beq_iff_eq.2 HE.out).symm, HB.out⟩
  · have hne : ((L1.length : Int) != (L2.length : Int)) = true := bne_iff_ne.2 (by omega)
    have HN : Hid (¬ L1 = L2) := fun e => hlen (by rw [e])
    clear hlen
    go_enter Tryd.func11, Tryd.ntmps11
    go_wp2_with fail
    go_ret
    exact ⟨ret_bool (beq_eq_false_iff_ne.2 HN.out).symm, Below.refl _ _⟩

/-- two fields held against each other -/
theorem run_neqF (x y : Fld) (w : World) : (binOp .neq 42 (.agg #[.string (bs x.1), .string (bs x.2)]) (.agg #[.string (bs y.1), .string (bs y.2)])).run Tryd.prog w = .ok (.bool (!(x == y))) w := by
  have e : (x == y) = ((x.1 == y.1) && (x.2 == y.2)) := rfl
  have u9 := Tryd.underlying9
  have a9 := Tryd.isAgg9
  have z9 := Tryd.sizeOf9
  have hS : Tryd.prog.underlying 42 = some (.struct (Tryd.prog.fieldsOf 42)) := by kernel_rfl
  have hp : Tryd.prog.stoodInHeld 42 = false := by kernel_rfl
  rw [e, run_neq_struct, show (10000 : Nat) = 9999 + 1 from rfl, run_equalIn_agg w 9999 42 _ _ hS hp]
  simp only [Program.fieldsOf, Tryd.underlying42]
  go_simp
  by_cases h1 : x.1 = y.1 <;> by_cases h2 : x.2 = y.2 <;> simp [h1, h2, Lib.toList_data]

set_option maxHeartbeats 1000000 in
set_option maxRecDepth 100000 in
theorem sameF_any (v1 v2 : Value) (L1 L2 : List Fld) (w : World) (h1 : FL w v1 L1) (h2 : FL w v2 L2) (hl : L1.length ≤ 4294967296) :
    Calls Tryd.prog 8 #[v1, v2] w fun e w' => e = .returned (.bool (L1 == L2)) ∧ Below w.heap.size w w' := by
  obtain ⟨a1, c1, rfl⟩ := h1.form
  obtain ⟨a2, c2, rfl⟩ := h2.form
  have H1 := Lib.hid h1; have H2 := Lib.hid h2
  clear h1 h2
  by_cases hlen : L1.length = L2.length
  · have hne : ((L1.length : Int) != (L2.length : Int)) = false := by rw [bne_eq_false_iff_eq]; omega
    have HLen := Lib.hid hlen; clear hlen
    go_enter Tryd.func8, Tryd.ntmps8
    go_wp2_with fail
    go_loopw [5] (fun i wr => ∃ k : Nat, k ≤ L1.length ∧ i = .int .i64 k ∧ L1.take k = L2.take k ∧ Below w.heap.size w wr) (fun i _ => L1.length - (intOf i).toNat)
    case atStart => exact ⟨0, Nat.zero_le _, rfl, rfl, Below.refl _ _⟩
    case round =>
      obtain ⟨k, hk, rfl, ht, hb⟩ := hrel
      have HT := Lib.hid ht; clear ht
      have HB := Lib.hid hb; clear hb
      by_cases hlt : k < L1.length
      · have hlt2 : k < L2.length := by have := HLen.out; omega
        have hi1 : (k : Int) < (L1.length : Int) := by omega
        have hi2 : (k : Int) < (L2.length : Int) := by omega
        obtain ⟨g1, o1, rfl, _, hc1, hc3⟩ := (H1.out.bel HB.out).get k hlt
        obtain ⟨g2, o2, rfl, _, hc2, hc4⟩ := (H2.out.bel HB.out).get k hlt2
        have hcmp := fun w => run_neqF L1[k] L2[k] w
        by_cases he : L1[k] = L2[k]
        · have HS := Lib.hid (take_grow hlt hlt2 HT.out he)
          rw [show (!(L1[k] == L2[k])) = false from by rw [he]; simp] at hcmp
          clear he
          generalize L1[k] = x at *
          generalize L2[k] = y at *
          generalize bs x.1 = x1 at *
          generalize bs x.2 = x2 at *
          generalize bs y.1 = y1 at *
          generalize bs y.2 = y2 at *
          go_wp2_with fail
          go_quiet (fail)
          go_wp2_with fail
          go_roundw
          case rel => exact ⟨k + 1, by omega, by go_num, HS.out, below_dn HB.out _⟩
          case measure => simp [intOf]; omega
        · have HN : Hid (¬ L1 = L2) := fun e => he (by subst e; rfl)
          rw [show (!(L1[k] == L2[k])) = true from by rw [beq_eq_false_iff_ne.2 he]; rfl] at hcmp
          clear he
          generalize L1[k] = x at *
          generalize L2[k] = y at *
          generalize bs x.1 = x1 at *
          generalize bs x.2 = x2 at *
          generalize bs y.1 = y1 at *
          generalize bs y.2 = y2 at *
          go_wp2_with fail
          go_quiet (fail)
          go_wp2_with fail
          go_ret
          exact ⟨ret_bool (beq_eq_false_iff_ne.2 HN.out).symm, below_dn HB.out _⟩
      · have HE : Hid (L1 = L2) := by
          have h := HT.out
          have h3 := HLen.out
          rwa [List.take_of_length_le (by omega), List.take_of_length_le (by omega)] at h
        go_wp2_with fail
        go_ret
        exact ⟨ret_bool (beq_iff_eq.2 HE.out).symm, HB.out⟩
  · have hne : ((L1.length : Int) != (L2.length : Int)) = true := bne_iff_ne.2 (by omega)
    have HN : Hid (¬ L1 = L2) := fun e => hlen (by rw [e])
    clear hlen
    go_enter Tryd.func8, Tryd.ntmps8
    go_wp2_with fail
    go_ret
    exact ⟨ret_bool (beq_eq_false_iff_ne.2 HN.out).symm, Below.refl _ _⟩
end Go.Proofs.YtdaiielhohdgiaaDoor

/- The values of a name as one text; the document's Set. -/
namespace Go.Proofs.YtdaiielhohdgiaaDoor
open Go.RowKit

theorem bs_listsF (l : List (List UInt8)) : (l.map bs).map (fun x => x.data.toList) = l := by
  rw [List.map_map]
  have : (fun x : ByteArray => x.data.toList) ∘ bs = id := by funext x; simp
  rw [this, List.map_id]
/-- 'strings.Join' of a slice of texts. -/
theorem joinS_any (v : Value) (L : List (List UInt8)) (sep : List UInt8) (w : World) (h : SL w v L) (hc : ∀ A n c, v = .slice A n c → n ≤ c ∨ L = []) (hl : L.length ≤ 4294967296) (hlen : (Lib.join L sep).length ≤ 140737488355328) :
    Calls Tryd.prog 41 #[v, .string (bs sep)] w fun e w' => e = .returned (.string (bs (Lib.join L sep))) ∧ Below w.heap.size w w' := by
  rcases h with ⟨rfl, A, c, rfl⟩ | ⟨b, off, c, rfl, hb, hx⟩
  · refine (Tryd.strings_Join_none A c (bs sep) w).mono ?_
    rintro e w' ⟨rfl, rfl⟩
    exact ⟨rfl, Below.refl _ _⟩
  · rcases hc _ _ _ rfl with hcap | rfl
    · have hcc := Tryd.strings_Join b off c (L.map bs) (bs sep) w (fun j x hj => by
        have hj2 : j < L.length := by have := (List.getElem?_eq_some_iff.1 hj).1; simpa using this
        rw [List.getElem?_map, List.getElem?_eq_getElem hj2] at hj
        rw [hx j hj2]; simpa using hj) hb (by rw [List.length_map]; omega) (by rw [List.length_map]; exact hcap) (by rw [bs_listsF, bs_data]; exact hlen)
      rw [bs_listsF, List.length_map, bs_data] at hcc
      exact hcc
    · refine (Tryd.strings_Join_none (some ⟨b, off, none⟩) c (bs sep) w).mono ?_
      rintro e w' ⟨rfl, rfl⟩
      exact ⟨rfl, Below.refl _ _⟩
theorem ownS.capF {w : World} {base : Nat} {v : Value} {L : List (List UInt8)} (h : ownS w base v L) : ∀ A n c, v = .slice A n c → n ≤ c ∨ L = [] := by
  intro A n c hv
  rcases h.2 with ⟨rfl, hn⟩ | ⟨g, cap, cur, rfl, hb, hg, hnc, _⟩
  · exact .inr (List.eq_nil_of_length_eq_zero hn)
  · simp only [Value.slice.injEq] at hv
    obtain ⟨_, rfl, rfl⟩ := hv
    exact .inl hnc

theorem join_le (L : List (List UInt8)) : (Lib.join L [44, 32]).length ≤ L.flatten.length + 2 * L.length := by
  cases L with
  | nil => simp [Lib.join_nil]
  | cons x r =>
    rw [Lib.join_cons, List.length_append, List.flatten_cons, List.length_append, List.length_cons]
    have : (Lib.joinTail [44, 32] r).length = r.flatten.length + 2 * r.length := by
      unfold Lib.joinTail
      induction r with
      | nil => rfl
      | cons y r ih => simp only [List.map_cons, List.flatten_cons, List.length_append, List.length_cons, ih, List.length_nil]; omega
    omega
theorem flat_take (L : List (List UInt8)) (k : Nat) : (L.take k).flatten.length ≤ L.flatten.length := by
  have h : L.flatten = (L.take k).flatten ++ (L.drop k).flatten := by rw [← List.flatten_append, List.take_append_drop]
  rw [h, List.length_append]; omega
theorem flat_mem {L : List (List UInt8)} {x : List UInt8} (h : x ∈ L) : x.length ≤ L.flatten.length := by
  induction L with
  | nil => cases h
  | cons y r ih =>
    rw [List.flatten_cons, List.length_append]
    rcases List.mem_cons.1 h with rfl | h
    · omega
    · have := ih h; omega
theorem ret_sb {a b : List UInt8} {x y : Bool} (h : a = b) (k : x = y) : Ending.returned (.tuple #[.string (bs a), .bool x]) = .returned (.tuple #[.string (bs b), .bool y]) := by rw [h, k]
/-- is there a field of the name -/
def hasF (l : List Fld) (n : List UInt8) : Bool := decide (0 < (valsL l n).length)

set_option maxHeartbeats 1000000 in
set_option maxRecDepth 100000 in
theorem get_any (v : Value) (l : List Fld) (n : List UInt8) (w : World) (h : FL w v l) (hs : smallF l) (hl : l.length ≤ 1048576) (hz : sizeL l ≤ 1073741824) (hn : n.length ≤ 4294967296) :
    Calls Tryd.prog 24 #[v, .string (bs n)] w fun e w' => e = .returned (.tuple #[.string (bs (getL l n)), .bool (hasF l n)]) ∧ Below w.heap.size w w' := by
  have hv := values_any v l n w h hs hl hn
  have hgl := get_len l n
  have hvl := vals_len l n
  unfold getL at hgl ⊢
  unfold hasF
  generalize valsL l n = L at *
  have HV := Lib.hid hv; clear hv h hs
  go_enter Tryd.func24, Tryd.ntmps24
  go_wp2_with fail
  refine HV.out.mono ?_
  rintro e w1 ⟨v1, rfl, ho1, hb1⟩
  have hj := joinS_any v1 L [44, 32] w1 ho1.sl ho1.capF (by omega) (by omega)
  rw [show bs [44, 32] = ⟨#[44, 32]⟩ from rfl] at hj
  obtain ⟨A1, c1, rfl⟩ := ho1.form
  have HJ := Lib.hid hj; have HB1 := Lib.hid hb1; clear hj ho1 hb1
  go_wp2_with fail
  refine HJ.out.mono ?_
  rintro e w2 ⟨rfl, hb2⟩
  go_wp2_with fail
  go_ret2
  exact ⟨ret_sb rfl rfl, HB1.out.trans (hb2.mono HB1.out.size)⟩


/-- what the document's Set has made of the first fields -/
def setT (l : List Fld) (n v : List UInt8) : List Fld := if l.any (fun f => sameN f.1 n) then setL l n v else l
theorem del_none {l : List Fld} {n : List UInt8} (h : l.any (fun f => sameN f.1 n) = false) : delL l [n] = l := by
  unfold delL
  rw [List.filter_eq_self]
  intro f hf
  rw [hasN_one, sameN_symm, Bool.not_eq_true']
  rw [List.any_eq_false] at h
  simpa using h f hf
theorem set_snoc {n v : List UInt8} (f : Fld) : ∀ (l : List Fld), l.any (fun f => sameN f.1 n) = true → setL (l ++ [f]) n v = setL l n v ++ delL [f] [n]
  | [], h => by cases h
  | g :: r, h => by
    rw [List.cons_append]
    unfold setL
    cases hg : sameN g.1 n
    · simp only [Bool.false_eq_true, if_false, List.cons_append]
      rw [set_snoc f r (by simpa [hg] using h)]
    · simp only [if_true, List.cons_append]
      congr 1
      unfold delL; rw [List.filter_append]
theorem set_first {n v : List UInt8} (f : Fld) (hf : sameN f.1 n = true) : ∀ (l : List Fld), l.any (fun f => sameN f.1 n) = false → setL (l ++ [f]) n v = l ++ [(f.1, v)]
  | [], _ => by simp [setL, hf, delL]
  | g :: r, h => by
    simp only [List.any_cons, Bool.or_eq_false_iff] at h
    rw [List.cons_append]
    unfold setL
    simp only [h.1, Bool.false_eq_true, if_false, List.cons_append]
    rw [set_first f hf r h.2]
def anyN (l : List Fld) (n : List UInt8) : Bool := l.any fun f => sameN f.1 n
theorem anyN_snoc (l : List Fld) (f : Fld) (n : List UInt8) : anyN (l ++ [f]) n = (anyN l n || sameN f.1 n) := by unfold anyN; rw [List.any_append]; simp
theorem setT_other {l : List Fld} {f : Fld} {n v : List UInt8} (h : sameN f.1 n = false) : setT (l ++ [f]) n v = setT l n v ++ [f] := by
  have hd : delL [f] [n] = [f] := by unfold delL; rw [List.filter_cons, hasN_one, sameN_symm, h]; rfl
  unfold setT
  have e := anyN_snoc l f n
  unfold anyN at e
  rw [e, h, Bool.or_false]
  cases ha : l.any (fun f => sameN f.1 n)
  · simp
  · simp only [if_true]; rw [set_snoc f l ha, hd]
theorem setT_first {l : List Fld} {f : Fld} {n v : List UInt8} (h : sameN f.1 n = true) (ha : anyN l n = false) : setT (l ++ [f]) n v = setT l n v ++ [(f.1, v)] := by
  unfold setT
  have e := anyN_snoc l f n
  unfold anyN at e ha
  rw [e, h, Bool.or_true, ha]
  simp only [if_true, Bool.false_eq_true, if_false]
  exact set_first f h l ha
theorem setT_again {l : List Fld} {f : Fld} {n v : List UInt8} (h : sameN f.1 n = true) (ha : anyN l n = true) : setT (l ++ [f]) n v = setT l n v := by
  have hd : delL [f] [n] = [] := by unfold delL; rw [List.filter_cons, hasN_one, sameN_symm, h]; rfl
  unfold setT
  have e := anyN_snoc l f n
  unfold anyN at e ha
  rw [e, h, Bool.or_true, ha]
  simp only [if_true]
  rw [set_snoc f l ha, hd, List.append_nil]
theorem setT_all {l : List Fld} {n v : List UInt8} : (anyN l n = true → setT l n v = setL l n v) ∧ (anyN l n = false → setT l n v ++ [(n, v)] = setL l n v) := by
  unfold setT anyN
  constructor
  · intro h; rw [h]; rfl
  · intro h; rw [h, set_none v h, del_none h]; rfl
theorem setT_len (l : List Fld) (n v : List UInt8) : (setT l n v).length ≤ l.length := by
  unfold setT
  split
  · rename_i h
    have hk : ∀ (l : List Fld), l.any (fun f => sameN f.1 n) = true → (setL l n v).length ≤ l.length := by
      intro l
      induction l with
      | nil => intro h; cases h
      | cons f r ih =>
        intro h
        unfold setL
        cases hf : sameN f.1 n
        · simp only [Bool.false_eq_true, if_false, List.length_cons]
          have := ih (by simpa [hf] using h)
          omega
        · simp only [if_true, List.length_cons]
          have := del_le r [n]
          omega
    exact hk l h
  · exact Nat.le_refl _
end Go.Proofs.YtdaiielhohdgiaaDoor
