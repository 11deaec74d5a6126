/- The names that go no further: the closure that adds a name. -/
import Derived.Test.YtdaiielhohdgiaaDoorKFieldsG
import Derived.Test.YtdaiielhohdgiaaDoorKTextT
namespace Go.Proofs.YtdaiielhohdgiaaDoor
open Go.RowKit

theorem make_map0 (w : World) : (Instr.makeMap 74 none).run Tryd.prog w = .ok (.map (some w.heap.size)) (w.alloc (.map #[] 0)) := by
  simp [Instr.makeMap, Result.andThen]

/-- a name that is not among those is put behind them -/
def addK (acc : List (List UInt8)) (x : List UInt8) : List (List UInt8) := if acc.any (· == x) then acc else acc ++ [x]

/-- Hop's memory: the names gathered (in no block of those that F guards), the map that knows them. -/
structure HMem (N : Nat) (F : Nat → Prop) (w0 w : World) (acc : List (List UInt8)) : Prop where
  out : ∃ v, w.heap[N]? = some (.cells #[v] 33 (0, 0)) ∧ ownS w (N + 3) v acc ∧ ∀ g, v.ownBlock = some g → ¬ F g
  kn : w.heap[N + 2]? = some (.cells #[.map (some (N + 1))] 74 (0, 0))
  mp : mapAt w (N + 1) acc.length acc
  bel : Below N w0 w
theorem HMem.size {N : Nat} {F : Nat → Prop} {w0 w : World} {acc : List (List UInt8)} (h : HMem N F w0 w acc) : N + 3 ≤ w.heap.size := by
  have := (Array.getElem?_eq_some_iff.1 h.kn).1; omega
theorem HMem.later {N : Nat} {F : Nat → Prop} {w0 w w' : World} {acc : List (List UInt8)} (h : HMem N F w0 w acc) (hb : Below w.heap.size w w') : HMem N F w0 w' acc := by
  obtain ⟨v, h1, h2, h3⟩ := h.out
  have hz := h.size
  exact ⟨⟨v, (hb.block N (by omega)).trans h1, h2.bel hb, h3⟩, (hb.block (N + 2) (by omega)).trans h.kn, h.mp.bel hb, h.bel.trans (hb.mono (by omega))⟩
/-- blocks that were not there yet may be guarded too -/
theorem HMem.guard {N : Nat} {F G : Nat → Prop} {w0 w : World} {acc : List (List UInt8)} (h : HMem N F w0 w acc) (hG : ∀ g, G g → F g ∨ w.heap.size ≤ g) : HMem N G w0 w acc := by
  obtain ⟨v, h1, h2, h3⟩ := h.out
  refine ⟨⟨v, h1, h2, fun g hg hG' => ?_⟩, h.kn, h.mp, h.bel⟩
  rcases hG g hG' with h4 | h4
  · exact h3 g hg h4
  · have := (World.ownsRow.lt h2 g hg).2; omega
theorem HMem.start (w : World) : HMem w.heap.size (fun _ => False) w (((w.alloc (.cells #[.slice none 0 0] 33)).alloc (.map #[] 0)).alloc (.cells #[.map (some (w.heap.size + 1))] 74)) [] := by
  have hm := mapAt_new (w.alloc (.cells #[.slice none 0 0] 33))
  rw [World.size_alloc] at hm
  refine ⟨⟨.slice none 0 0, ?_, ownS_nil _ _, fun _ _ h => h⟩, ?_, hm.bel ((Below.refl _ _).alloc (Nat.le_refl _) _), ((((Below.refl _ _).alloc (Nat.le_refl _) _).alloc (by simp) _).alloc (by simp; omega) _)⟩
  · rw [Below.heap_alloc _ _ _ (by simp <;> omega), Below.heap_alloc _ _ _ (by simp)]
    exact heap_alloc_new w _
  · have h := heap_alloc_new ((w.alloc (.cells #[.slice none 0 0] 33)).alloc (.map #[] 0)) (.cells #[.map (some (w.heap.size + 1))] 74)
    simp only [World.size_alloc] at h
    exact h

theorem mapAt.at {w w' : World} {m k : Nat} {L : List (List UInt8)} (h : mapAt w m k L) (he : w'.heap[m]? = w.heap[m]?) : mapAt w' m k L := by
  obtain ⟨es, clock, hb, r⟩ := h
  exact ⟨es, clock, he.trans hb, r⟩
theorem ownS.at {w w' : World} {base : Nat} {v : Value} {l : List (List UInt8)} (h : ownS w base v l) (he : ∀ g, base ≤ g → g < w.heap.size → w'.heap[g]? = w.heap[g]?) : ownS w' base v l := by
  refine ⟨h.1, ?_⟩
  rcases h.2 with hn | ⟨g, cap, cur, hv, hbg, hg, r⟩
  · exact .inl hn
  · exact .inr ⟨g, cap, cur, hv, hbg, by rw [he g hbg (Array.getElem?_eq_some_iff.1 hg).1]; exact hg, r⟩
theorem SL.at {w w' : World} {v : Value} {L : List (List UInt8)} (h : SL w v L) (he : ∀ g, v.ownBlock = some g → w'.heap[g]? = w.heap[g]?) : SL w' v L := by
  rcases h with h | ⟨b, off, c, hv, hlt, hc⟩
  · exact .inl h
  · have hb := he b (by rw [hv]; rfl)
    refine .inr ⟨b, off, c, hv, ?_, fun j hj => ?_⟩
    · rcases Nat.lt_or_ge b w'.heap.size with h1 | h1
      · exact h1
      · rw [Array.getElem?_eq_none h1, Array.getElem?_eq_getElem hlt] at hb; cases hb
    · have h2 := hc j hj
      unfold World.cell? at h2 ⊢
      rw [hb]; exact h2
theorem SL.lt {w : World} {v : Value} {L : List (List UInt8)} (h : ownS w 0 v L) : ∀ g, v.ownBlock = some g → g < w.heap.size := fun g hg => (World.ownsRow.lt h g hg).2

/-- what the closure leaves -/
def HopP (N : Nat) (F : Nat → Prop) (w0 w : World) (acc : List (List UInt8)) (w' : World) : Prop := HMem N F w0 w' acc ∧ (∀ k, F k → w'.heap[k]? = w.heap[k]?) ∧ w.heap.size ≤ w'.heap.size

theorem hop1_fin {N g cap vc : Nat} {va : Option Addr} {F : Nat → Prop} {acc : List (List UInt8)} {x : List UInt8} {O O2 : Obj} {w0 w w2 w3 : World} (hx : acc.any (· == x) = false) (hF : ∀ g, F g → N + 3 ≤ g ∧ g < w.heap.size)
    (hnb : ∀ k, (Value.slice va acc.length vc).ownBlock = some k → N + 3 ≤ k ∧ ¬ F k) (hg2 : (w.alloc O).grownBy w2 (some (N + 1)))
    (hv : w2.heap[N]? = some (.cells #[.slice va acc.length vc] 33 (0, 0)))
    (hk : w2.heap[N + 2]? = some (.cells #[.map (some (N + 1))] 74 (0, 0))) (hm : mapAt w2 (N + 1) (acc.length + 1) (acc ++ [x])) (hb2 : Below N w0 w2)
    (hown3 : w3.ownsRow (N + 3) 9 1 (.slice (some ⟨g, 0, none⟩) (acc.length + 1) cap) (acc.length + 1) (strCs acc ++ [.string (bs x)]))
    (hgrow : (w2.alloc O2).grownBy w3 (Value.slice va acc.length vc).ownBlock) (hat : (Value.slice va acc.length vc).ownBlock = some g ∨ g = w2.heap.size + 1) :
    HopP N F w0 w (addK acc x) (w3.setCell ⟨N, 0, none⟩ (.slice (some ⟨g, 0, none⟩) (acc.length + 1) cap)) := by
  have e : addK acc x = acc ++ [x] := by simp [addK, hx]
  have hz1 := hg2.size
  have hz2 := (Array.getElem?_eq_some_iff.1 hk).1
  have hz3 := hgrow.size
  rw [World.size_alloc] at hz1 hz3
  have hfar : ∀ k, k < w2.heap.size → (Value.slice va acc.length vc).ownBlock ≠ some k → w3.heap[k]? = w2.heap[k]? := fun k hk hne =>
    (hgrow.block k (by simp; omega) (Ne.symm hne)).trans (Below.heap_alloc _ _ _ hk)
  have hlow : ∀ k, k < N + 3 → w3.heap[k]? = w2.heap[k]? := fun k hk => hfar k (by omega) fun h => by have := (hnb k h).1; omega
  have hB : Below N w2 w3 := ⟨hgrow.os, hgrow.tape, hgrow.output, by omega, fun k hk => hlow k (by omega)⟩
  rw [e]
  refine ⟨⟨⟨_, one_setCell ((hlow N (by omega)).trans hv), ?_, ?_⟩, ?_, ?_, (hb2.trans hB).setCell (Nat.le_refl _) _⟩, ?_, ?_⟩
  · refine ownS.setLow (a := ⟨N, 0, none⟩) ?_ (by simp) _
    show World.ownsRow _ _ _ _ _ _ _
    rw [List.length_append]
    simpa [strCs] using hown3
  · intro k hk hFk
    have hk' : g = k := by simpa [Value.ownBlock] using hk
    subst hk'
    rcases hat with h | h
    · exact (hnb g h).2 hFk
    · have := (hF g hFk).2; omega
  · rw [Below.heap_setCell _ _ _ _ (by simp)]; exact (hlow (N + 2) (by omega)).trans hk
  · rw [List.length_append]
    exact hm.at ((Below.heap_setCell _ _ _ _ (by simp)).trans (hlow (N + 1) (by omega)))
  · intro k hk
    have hk2 := hF k hk
    rw [Below.heap_setCell _ _ _ _ (by simp; omega), hfar k (by omega) (fun h => (hnb k h).2 hk), hg2.block k (by simp; omega) (by simp; omega), Below.heap_alloc _ _ _ hk2.2]
  · rw [World.size_setCell]; omega

set_option maxHeartbeats 2000000 in
set_option maxRecDepth 100000 in
theorem hop1_any {N : Nat} {F : Nat → Prop} {w0 w : World} {acc : List (List UInt8)} (h : HMem N F w0 w acc) (hF : ∀ g, F g → N + 3 ≤ g ∧ g < w.heap.size) (x : List UInt8) (hx : x.length ≤ 4294967296) (hacc : acc.length ≤ 1048576) :
    Calls Tryd.prog 71 #[.string (bs x), .pointer (some ⟨N + 2, 0, none⟩), .pointer (some ⟨N, 0, none⟩)] w fun e w' => e = .returned (.tuple #[]) ∧ HopP N F w0 w (addK acc x) w' := by
  have hz := h.size
  have k1 := cell_of_one h.kn
  have hlook := h.mp.look x (by unfold maxLen; omega)
  have hal : Below w.heap.size w (w.alloc (.cells #[] 75)) := (Below.refl _ _).alloc (Nat.le_refl _) _
  have HA := Lib.hid (h.later hal); clear h
  have HF := Lib.hid hF; clear hF
  cases hin : acc.any (· == x)
  · rw [hin] at hlook
    have hz2 := HA.out.size
    have k2 := cell_of_one HA.out.kn
    obtain ⟨w2, hput, hm2, hg2⟩ := HA.out.mp.put x (by unfold maxLen; omega) (by unfold maxLen; omega)
    obtain ⟨v, ho1, ho2, ho3⟩ := HA.out.out
    obtain ⟨va, vc, rfl⟩ := ho2.form
    have HO2 := Lib.hid (ho2.at (w' := w2) fun g hg hl => hg2.block g hl (by simp; omega))
    have HNB : Hid (∀ k, (Value.slice va acc.length vc).ownBlock = some k → N + 3 ≤ k ∧ ¬ F k) := fun k hk => ⟨(World.ownsRow.lt ho2 k hk).1, ho3 k hk⟩
    have hv2 : w2.heap[N]? = some (.cells #[.slice va acc.length vc] 33 (0, 0)) := (hg2.block N (by omega) (by simp)).trans ho1
    have hk2 : w2.heap[N + 2]? = some (.cells #[.map (some (N + 1))] 74 (0, 0)) := (hg2.block (N + 2) (by omega) (by simp)).trans HA.out.kn
    have HB2 : Hid (Below N w0 w2) := HA.out.bel.grown hg2 (by omega) (fun k hk => by cases hk; omega)
    have hsz : N + 3 ≤ w2.heap.size := Nat.le_trans hz2 hg2.size
    have k3 := cell_of_one hv2
    have HV2 := Lib.hid hv2; have HK2 := Lib.hid hk2; have HM2 := Lib.hid hm2; have HIN := Lib.hid hin; have HG2 := Lib.hid hg2
    clear hv2 hk2 hm2 hg2 ho1 ho2 ho3 HA hin hal
    obtain ⟨i0, hi0, hz0, hz1, hz2'⟩ := info_parts infoS
    go_enter Tryd.func71, Tryd.ntmps71
    go_wp2_with (at_builtin; refine wpList_append_lies _ rfl (.tmp 17) (.tmp 19) 33 rfl (N + 3) 9 i0 _ 1 16 Tryd.underlying33 hi0 hz0 hz1 hz2' rfl (by omega) (.slice va acc.length vc) acc.length (strCs acc) rfl (HO2.out.alloc _) ⟨w2.heap.size, 0, none⟩ 1 1 [.string (bs x)] rfl rfl (World.news_of_block (cs := #[.string (bs x)]) (t := 9) (fr := (0, 0)) (heap_alloc_new w2 _)) (by simp [Value.oneCell']) (by omega) (by unfold maxLen; omega) (by omega) (by simp; omega) (w2.heap.size + 1) (by simp) ?_; intro gg cap w3 hown3 hgrow hat _; have hne : ∀ b, b < N + 3 → (Value.slice va acc.length vc).ownBlock ≠ some b := (fun b hb he => by have := (HNB.out b he).1; omega); have hb3 : w3.heap[N]? = some (.cells #[.slice va acc.length vc] 33 (0, 0)) := ((hgrow.block N (by simp; omega) (Ne.symm (hne N (by omega)))).trans (Below.heap_alloc _ _ _ (by omega))).trans HV2.out; have k4 := cell_of_one hb3; have k5 := free_of_one hb3)
    go_end0
    exact ⟨rfl, hop1_fin HIN.out HF.out HNB.out HG2.out HV2.out HK2.out HM2.out HB2.out hown3 hgrow hat⟩
  · rw [hin] at hlook
    have e : addK acc x = acc := by simp [addK, hin]
    rw [e]
    go_enter Tryd.func71, Tryd.ntmps71
    go_wp2_with fail
    go_end0
    exact ⟨rfl, HA.out, fun k hk => hal.block k (HF.out k hk).2, hal.size⟩
end Go.Proofs.YtdaiielhohdgiaaDoor
