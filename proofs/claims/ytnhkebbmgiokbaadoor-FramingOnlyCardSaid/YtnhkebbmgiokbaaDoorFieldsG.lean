/- Fields without those of names; the values of a name: the fields layer's functions. -/
import Derived.Test.YtnhkebbmgiokbaaDoorFieldsF
import Derived.Laws.EntriesVeiled
namespace Go.Proofs.YtnhkebbmgiokbaaDoor
open Go.RowKit Go.Shelf

theorem eg1 (args : Array Value) (w : World) : (callFunc 42 args).run Tryd.prog w = .ok (.enter 42 args) w := enters_of Tryd.func42 (by kernel_rfl) rfl args w

theorem named_pred {w : World} {b : Nat} {L : List (List UInt8)} (h : knows w b (lowsOf L)) : PredF w 42 #[.pointer (some ⟨b, 0, none⟩)] (fun f => hasN L f.1) := fun W f hb h1 => by
  have := named1_any f b (lowsOf L) W (h.bel hb) h1
  rw [lowsOf_any] at this
  exact this



theorem PredF.later {w w' : World} {g : Nat} {lb : Array Value} {p : Fld → Bool} (h : PredF w g lb p) (hb : Below w.heap.size w w') : PredF w' g lb p :=
  fun W f hW h1 => h W f (hb.trans (hW.mono hb.size)) h1
theorem ownF.later {w w' : World} {B : Nat} {v : Value} {l : List Fld} (h : ownF w B v l) (hb : Below w.heap.size w w') : ownF w' B v l := h.bel hb
theorem RetF.carry {w0 w : World} {l : List Fld} {e : Ending} {w' : World} (hb : Below w0.heap.size w0 w) (h : RetF w l e w') : RetF w0 l e w' := by
  obtain ⟨v', he, ho, hb'⟩ := h
  exact ⟨v', he, ho.mono hb.size, hb.trans (hb'.mono hb.size)⟩
theorem RetS.carry {w0 w : World} {l : List (List UInt8)} {e : Ending} {w' : World} (hb : Below w0.heap.size w0 w) (h : RetS w l e w') : RetS w0 l e w' := by
  obtain ⟨v', he, ho, hb'⟩ := h
  exact ⟨v', he, ho.mono hb.size, hb.trans (hb'.mono hb.size)⟩


theorem smallF_filter {l : List Fld} (h : smallF l) (p : Fld → Bool) : smallF (l.filter p) := fun j hj => by
  have hm : (l.filter p)[j] ∈ l := (List.mem_filter.1 (List.getElem_mem hj)).1
  obtain ⟨i, hi, he⟩ := List.getElem_of_mem hm
  have := h i hi
  rw [he] at this
  exact this

set_option maxHeartbeats 1000000 in
set_option maxRecDepth 100000 in
theorem values_any (v : Value) (l : List Fld) (n : List UInt8) (w : World) (h : FL w v l) (hs : smallF l) (hl : l.length ≤ 1048576) (hn : n.length ≤ 4294967296) :
    Calls Tryd.prog 14 #[v, .string (bs n)] w (RetS w (valsL l n)) := by
  obtain ⟨A, c, rfl⟩ := h.form
  have HF := Lib.hid h; clear h
  have HSm : Hid (smallF l) := hs
  have hal : Below w.heap.size w (w.alloc (.cells #[.string (bs n)] 9)) := (Below.refl _ _).alloc (Nat.le_refl _) _
  have hnm := named_any _ [n] _ (SL_lit w n) (by intro x hx; rw [List.mem_singleton.1 hx]; exact hn) (by simp)
  simp only [World.size_alloc] at hnm
  have HFa := Lib.hid (HF.out.bel hal)
  have HBa := Lib.hid hal; clear hal
  have HNM := Lib.hid hnm; clear hnm
  go_enter Tryd.func14, Tryd.ntmps14
  go_wp2_with fail
  refine HNM.out.mono ?_
  rintro e w1 ⟨rfl, hk1, hb1⟩
  have hp1 := named_pred hk1
  replace hb1 : Below (w.alloc (.cells #[.string (bs n)] 9)).heap.size (w.alloc (.cells #[.string (bs n)] 9)) w1 := by simp only [World.size_alloc]; exact hb1
  have hkp := kept_any _ _ eg1 _ (.slice A l.length c) l _ hp1 (HFa.out.bel hb1) HSm.out hl
  have HB1 := Lib.hid (HBa.out.trans (hb1.mono HBa.out.size))
  have HKP := Lib.hid hkp
  clear hkp hp1 hk1 hb1
  go_wp2_with fail
  refine HKP.out.mono ?_
  rintro e w2 ⟨v2, rfl, ho2, hb2⟩
  have HFk := Lib.hid ho2.fl; have HB2 := Lib.hid (HB1.out.trans (hb2.mono HB1.out.size)); obtain ⟨A2, c2, rfl⟩ := ho2.form
  clear ho2 hb2
  have HV : Hid (valsL l n = (l.filter fun f => hasN [n] f.1).map (·.2)) := by
    show _ = _
    unfold valsL
    congr 1
    exact filter_same fun f _ => by rw [hasN_one, sameN_symm]
  have HSk := Lib.hid (smallF_filter HSm.out fun f => hasN [n] f.1)
  have hkl : (l.filter fun f => hasN [n] f.1).length ≤ 1048576 := Nat.le_trans (List.length_filter_le _ _) hl
  generalize (l.filter fun f => hasN [n] f.1) = m at *
  go_wp2_with fail
  go_loopw [5, 14] (fun o i wr => ∃ k : Nat, k ≤ m.length ∧ i = .int .i64 k ∧ ownS wr w2.heap.size o ((m.take k).map (·.2)) ∧ Below w2.heap.size w2 wr) (fun _ i _ => m.length - (intOf i).toNat)
  case atStart => exact ⟨0, Nat.zero_le _, rfl, ownS_nil _ _, Below.refl _ _⟩
  case round =>
    obtain ⟨k, hk, rfl, ho, hb⟩ := hrel
    have HO := Lib.hid ho; have HB := Lib.hid hb; clear ho hb
    by_cases hlt : k < m.length
    · obtain ⟨b, off, rfl, hbb, hc1, hc2⟩ := (HFk.out.bel HB.out).get k hlt
      have HT : Hid ((m.take (k + 1)).map (·.2) = (m.take k).map (·.2) ++ [m[k].2]) := by show _ = _; rw [List.take_succ_eq_append_getElem hlt, List.map_append]; rfl
      have hlen : ((m.take k).map (·.2)).length ≤ 1048576 := by rw [List.length_map]; exact Nat.le_trans (List.length_take_le' _ _) hkl
      generalize m[k] = f at *
      obtain ⟨x, y⟩ := f; simp only at hc1 hc2
      have HT2 : Hid ((m.take (k + 1)).map (·.2) = (m.take k).map (·.2) ++ [y]) := HT.out
      clear HT
      have HL : Hid (((m.take k).map (·.2)).length + 1 ≤ 4294967296) := by show _ ≤ _; omega
      clear hlen
      generalize (m.take k).map (·.2) = acc at *
      have hal : Below wr.heap.size wr (wr.alloc (.cells #[.string (bs x), .string (bs y)] 38)) := (Below.refl _ _).alloc (Nat.le_refl _) _
      have HOa := Lib.hid (HO.out.bel hal)
      have HBa2 := Lib.hid (HB.out.trans (hal.mono HB.out.size))
      clear hal
      go_wp2_with (at_builtin; refine wpList_appS rfl (.tmp 18) (.tmp 21) rfl w2.heap.size w2.heap.size _ _ y rfl HOa.out HBa2.out (Nat.le_refl _) HBa2.out.size rfl HL.out ?_; intro v' w' HO3 HB3 _)
      go_roundw
      case rel => exact ⟨k + 1, by omega, by go_num, by rw [HT2.out]; exact HO3.out, HB3.out⟩
      case measure => simp [intOf]; omega
    · have HTT : Hid ((m.take k).map (·.2) = valsL l n) := by show _ = _; rw [HV.out, List.take_of_length_le (by omega)]
      go_wp2_with fail
      go_ret
      exact ⟨_, rfl, by rw [← HTT.out]; exact HO.out.mono HB2.out.size, HB2.out.trans (HB.out.mono HB2.out.size)⟩
end Go.Proofs.YtnhkebbmgiokbaaDoor
