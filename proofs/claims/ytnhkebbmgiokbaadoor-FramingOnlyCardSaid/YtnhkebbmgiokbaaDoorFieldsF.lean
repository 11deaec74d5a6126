/- The fields that stay, and the place of the first one, by whatever closure tells; Del, Values. -/
import Derived.Test.YtnhkebbmgiokbaaDoorFieldsE
import Derived.Test.YtnhkebbmgiokbaaDoorFieldsC
import Derived.Shelf.GgClosure.Gives
namespace Go.Proofs.YtnhkebbmgiokbaaDoor
open Go.RowKit Go.Shelf

/-- a function value that tells p of fields, in every later world -/
def PredF (w : World) (g : Nat) (lb : Array Value) (p : Fld → Bool) : Prop :=
  ∀ (W : World) (f : Fld), Below w.heap.size w W → f.1.length ≤ 4294967296 → Calls Tryd.prog g (#[fv f] ++ lb) W fun e w' => e = .returned (.bool (p f)) ∧ Below W.heap.size W w'
/-- a new slice of fields is handed back -/
def RetF (w : World) (l : List Fld) (e : Ending) (w' : World) : Prop := ∃ v', e = .returned v' ∧ ownF w' w.heap.size v' l ∧ Below w.heap.size w w'
/-- a new slice of texts is handed back -/
def RetS (w : World) (l : List (List UInt8)) (e : Ending) (w' : World) : Prop := ∃ v', e = .returned v' ∧ ownS w' w.heap.size v' l ∧ Below w.heap.size w w'

theorem filter_step {l : List Fld} {p : Fld → Bool} {k : Nat} (h : k < l.length) : (l.take (k + 1)).filter p = if p l[k] then (l.take k).filter p ++ [l[k]] else (l.take k).filter p := by
  rw [List.take_succ_eq_append_getElem h, List.filter_append]
  cases hp : p l[k] <;> simp [hp]
theorem filter_len {l : List Fld} {p : Fld → Bool} (k : Nat) : ((l.take k).filter p).length ≤ l.length := Nat.le_trans (List.length_filter_le _ _) (List.length_take_le' _ _)

set_option maxHeartbeats 2000000 in
set_option maxRecDepth 100000 in
theorem kept_any (g : Nat) (lb : Array Value) (eg : ∀ args w, (callFunc g args).run Tryd.prog w = .ok (.enter g args) w) (p : Fld → Bool) (v : Value) (l : List Fld) (w : World) (hp : PredF w g lb p) (h : FL w v l) (hs : smallF l) (hl : l.length ≤ 1048576) :
    Calls Tryd.prog 22 #[v, .func (.func g) #[] lb] w (RetF w (l.filter p)) := by
  obtain ⟨A, c, rfl⟩ := h.form
  have HF := Lib.hid h; clear h
  have HP := Lib.hid hp; clear hp
  have HL : Hid (l.length ≤ 1048576) := hl
  go_enter Tryd.func22, Tryd.ntmps22
  go_wp2_with fail
  go_loopw [5, 10] (fun o i wr => ∃ k : Nat, k ≤ l.length ∧ i = .int .i64 k ∧ ownF wr w.heap.size o ((l.take k).filter p) ∧ Below w.heap.size w wr) (fun _ i _ => l.length - (intOf i).toNat)
  case atStart => exact ⟨0, Nat.zero_le _, rfl, ownF_nil _ _, Below.refl _ _⟩
  case round =>
    obtain ⟨k, hk, rfl, ho, hb⟩ := hrel
    have HO := Lib.hid ho; have HB := Lib.hid hb; clear ho hb
    by_cases hlt : k < l.length
    · obtain ⟨b, off, rfl, hbb, hc1, hc2⟩ := (HF.out.bel HB.out).get k hlt
      obtain ⟨s1, s2⟩ := hs k hlt
      have HT : Hid ((l.take (k + 1)).filter p = if p l[k] then (l.take k).filter p ++ [l[k]] else (l.take k).filter p) := filter_step hlt
      have HN : Hid (((l.take k).filter p).length ≤ l.length) := filter_len k
      generalize l[k] = f at *
      obtain ⟨n, x⟩ := f; simp only at s1 s2 hc1 hc2
      generalize (l.take k).filter p = acc at *
      have hal : Below wr.heap.size wr (wr.alloc (.cells #[.string (bs n), .string (bs x)] 38)) := (Below.refl _ _).alloc (Nat.le_refl _) _
      have HBa := Lib.hid (HB.out.trans (hal.mono HB.out.size))
      have HOa := Lib.hid (HO.out.bel hal)
      have HPa := Lib.hid (oneF2.new wr (.string (bs n)) (.string (bs x)))
      clear hal
      have hcall := HP.out _ (n, x) HBa.out s1
      unfold fv at hcall
      have hcp := fun w => copied_any (n, x) w (by simp only; omega) (by simp only; omega)
      unfold fv at hcp; simp only at hcp
      have HCP := Lib.hid hcp; clear hcp
      simp only at hcall
      cases hq : p (n, x)
      · rw [hq] at HT hcall
        have HTT : Hid ((l.take (k + 1)).filter p = acc) := HT.out
        have HCA := Lib.hid hcall; clear hcall HT hq
        go_wp2_with (go_at_fn g; refine HCA.out.mono ?_; rintro e w1 ⟨rfl, hb1⟩; have HO1 := Lib.hid (HOa.out.bel hb1); have HB1 := Lib.hid (HBa.out.trans (hb1.mono HBa.out.size)); clear hb1)
        go_roundw
        case rel => exact ⟨k + 1, by omega, by go_num, by rw [HTT.out]; exact HO1.out, HB1.out⟩
        case measure => simp [intOf]; omega
      · rw [hq] at HT hcall
        have HTT : Hid ((l.take (k + 1)).filter p = acc ++ [(n, x)]) := HT.out
        have HCA := Lib.hid hcall; clear hcall HT hq
        go_wp2_with (first
          | (go_at_fn g; refine HCA.out.mono ?_; rintro e w1 ⟨rfl, hb1⟩; have HO1 := Lib.hid (HOa.out.bel hb1); have HB1 := Lib.hid (HBa.out.trans (hb1.mono HBa.out.size)); obtain ⟨d1, d2, d3, d4⟩ := (HPa.out.bel hb1).cells; clear hb1)
          | (go_at_call 40; refine (HCP.out _).mono ?_; rintro e w2 ⟨rfl, hb2⟩; have HO2 := Lib.hid (HO1.out.bel hb2); have HB2 := Lib.hid (HB1.out.trans (hb2.mono HB1.out.size)); clear hb2)
          | (at_builtin; refine wpList_appF rfl (.tmp 17) (.tmp 20) rfl w.heap.size w.heap.size _ _ n x rfl HO2.out HB2.out (Nat.le_refl _) HB2.out.size rfl (by have := HN.out; have := HL.out; omega) ?_; intro v' w' HO3 HB3 _))
        go_roundw
        case rel => exact ⟨k + 1, by omega, by go_num, by rw [HTT.out]; exact HO3.out, HB3.out⟩
        case measure => simp [intOf]; omega
    · have HTT : Hid ((l.take k).filter p = l.filter p) := by show _ = _; rw [List.take_of_length_le (by omega)]
      go_wp2_with fail
      go_ret
      exact ⟨_, rfl, by rw [← HTT.out]; exact HO.out, HB.out⟩

/-- the place of the first field of which p holds -/
def placeOf (l : List Fld) (p : Fld → Bool) : Int := match l.findIdx? p with | some k => (k : Int) | none => -1

end Go.Proofs.YtnhkebbmgiokbaaDoor
