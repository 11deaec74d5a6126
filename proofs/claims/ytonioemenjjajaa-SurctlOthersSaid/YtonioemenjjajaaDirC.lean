/- The directives of a value, one by one: the directive layer's range function. -/
import Derived.RangeFuncNested
import Derived.RangeFuncBound
import Derived.RangeFuncCalls
import Derived.RangeFuncLeaves
import Derived.Shelf.Abstract
import Derived.Shelf.RegionOpen
import Derived.WalkKit
import Derived.OwnWalkIn
import Derived.TacticsInMore
import Derived.LoopNIn
import Derived.LoopIn
import Derived.Maps.AppendAt
import Derived.Test.YtonioemenjjajaaDirB
import Derived.Test.YtonioemenjjajaaTextX
namespace Go.Proofs.Ytonioemenjjajaa
open Go.RowKit Go.Shelf
attribute [local go_sem] Oper.semAt_some

theorem splitL_at {l : List UInt8} {sep : UInt8} {x : List UInt8} (h : x ∈ splitL l sep) : x.length ≤ l.length := by
  refine Nat.le_trans ?_ (splitL_flat l sep)
  generalize splitL l sep = L at h
  induction L with
  | nil => cases h
  | cons y r ih =>
    rw [List.flatten_cons, List.length_append]
    rcases List.mem_cons.1 h with rfl | h
    · omega
    · have := ih h; omega
theorem dirs_len (l : List UInt8) : (dirs l).length ≤ 64 := by
  unfold dirs
  split
  · exact Nat.le_trans (List.length_filterMap_le _ _) (splitL_len l 44)
  · simp

/-- what a round keeps that goes on: the blocks of texts, and the library's variable -/
def Kd (W W' : World) : Prop := (∀ (b : Nat) (cs : Array Value) (r : Nat × Nat), W.heap[b]? = some (Obj.cells cs 9 r) → W'.heap[b]? = some (Obj.cells cs 9 r)) ∧ (MaxD W → MaxD W')
theorem Kd.trans {A B C : World} (h : Kd A B) (k : Kd B C) : Kd A C := ⟨fun b cs r e => k.1 b cs r (h.1 b cs r e), fun e => k.2 (h.2 e)⟩
theorem Kd.book {w : World} (W : World) (l : Nat) (o o' : Obj) (_ : w.heap.size ≤ l) (h : W.heap[l]? = some o) (hc : o.isCells = false) (_ : o.isWalk = false) : Kd W (W.putObj l o') := by
  refine ⟨fun b cs r e => ?_, fun ⟨m, hm⟩ => ?_⟩
  · by_cases hb : b = l
    · subst hb; rw [h] at e; cases e; cases hc
    · exact (World.putObj_heap_other hb).trans e
  · exact ⟨m, cell_kept hm (grownBy_putObj' W l o') (fun r e => by cases e; exact ⟨o, h, hc⟩)⟩
theorem Kd.bel {W W' : World} (h : Below W.heap.size W W') : Kd W W' := ⟨fun b cs r e => by rw [h.block b (Array.getElem?_eq_some_iff.1 e).1]; exact e, fun e => e.bel h⟩
theorem ownS.kd {W W' : World} {base : Nat} {v : Value} {L : List (List UInt8)} (h : ownS W base v L) (k : Kd W W') : ownS W' base v L := by
  refine ⟨h.1, ?_⟩
  rcases h.2 with hn | ⟨g, cap, cur, hv, hbg, hg, r⟩
  · exact .inl hn
  · exact .inr ⟨g, cap, cur, hv, hbg, k.1 _ _ _ hg, r⟩
theorem grown_of {W W' : World} (hb : Below W.heap.size W W') : W.grownBy W' none := ⟨hb.os, hb.tape, hb.output, hb.size, fun k hk _ => hb.block k hk⟩
theorem abidesD {β : Type} {B : Nat} {J : β → World → Prop} (h : AbidesFrom B J) {s : β} {W W' : World} (hs : J s W) (hb : Below W.heap.size W W') : J s W' :=
  h s W W' none hs (grown_of hb) (fun r e => by cases e)

theorem directives_any (s : List UInt8) (w : World) :
    Calls Try.prog 69 #[.string (bs s)] w fun e w' => e = .returned (.func (.func 74) #[] #[.pointer (some ⟨w.heap.size, 0, none⟩)]) ∧ w' = w.alloc (.cells #[.string (bs s)] 9) := by
  go_enter Try.func69, Try.ntmps69
  go_wp2_with fail
  go_ret
  exact ⟨rfl, rfl⟩

theorem fmap_snoc {α β : Type} (f : α → Option β) (L : List α) (k : Nat) (h : k < L.length) : (L.take (k + 1)).filterMap f = (L.take k).filterMap f ++ (f L[k]).toList := by
  rw [List.take_succ_eq_append_getElem h, List.filterMap_append]
  congr 1
theorem fmap_lt {α β : Type} (f : α → Option β) (L : List α) (k : Nat) (h : k < L.length) {d : β} (hd : f L[k] = some d) : ((L.take k).filterMap f).length < (L.filterMap f).length := by
  have h1 : L.filterMap f = (L.take (k + 1)).filterMap f ++ (L.drop (k + 1)).filterMap f := by rw [← List.filterMap_append, List.take_append_drop]
  rw [h1, fmap_snoc f L k h, hd]
  simp

set_option maxRecDepth 100000 in
set_option maxHeartbeats 4000000 in
theorem iter_stops (s : List UInt8) (Bs : Nat) (w : World) (hm : MaxD w) (hB : Bs < w.heap.size) (hc : w.cell? ⟨Bs, 0, none⟩ = some (.string (bs s))) (hs : s.length ≤ 4294967200) :
    SeqStopsK Fence.wide 8 Try.prog 74 #[.pointer (some ⟨Bs, 0, none⟩)] (fun d : Dv => #[dvV d]) Kd (fun xs => xs = dirs s) (fun _ => True) (dirs s).length w := fun l J Jx W hW hJ hJx hY h0 => by
  have hcW : W.cell? ⟨Bs, 0, none⟩ = some (.string (bs s)) := (hW.cell (p := ⟨Bs, 0, none⟩) hB).trans hc
  have hmW := hm.bel hW
  have hsp := split_any (bs s) 44 W (by rw [bs_size]; omega)
  rw [bs_data] at hsp
  have HSP := Lib.hid hsp; have HMW := Lib.hid hmW; have HY := Lib.hid hY; have H0 := Lib.hid h0; have HJ := Lib.hid hJ; have HJX := Lib.hid hJx
  clear hsp hmW hY h0 hJ hJx hm hc hW
  refine callsIn_of_wp Try.func74 rfl trivial ?_ rfl
  simp only [Try.ntmps74, List.size_toArray, List.length_cons, List.length_nil, Nat.reduceAdd, Nat.reduceSub, Array.replicate_succ, Array.replicate_zero, List.push_toArray, List.append_toArray, List.nil_append, List.cons_append]
  gi_wp2_with fail
  refine ⟨trivial, (callsIn_wide.2 HSP.out).mono ?_⟩
  rintro e W1 ⟨v, rfl, ho, hb1⟩
  have HB1 := Lib.hid hb1; have HO := Lib.hid ho; have HM1 := Lib.hid (HMW.out.bel hb1)
  have HJ1 := Lib.hid (abidesD HJ.out H0.out hb1)
  clear hb1 ho HSP H0 hcW
  by_cases hE : splitE s 44 = 0
  · have hD : dirs s = (splitL s 44).filterMap sayD := if_pos hE
    have hat := fun x h => splitL_at (l := s) (sep := 44) (x := x) h
    rw [hE]
    have HD := Lib.hid hD; clear hD hE
    rw [HD.out] at HY
    have hl64 := splitL_len s 44
    generalize splitL s 44 = L at *
    have HAT := Lib.hid hat; clear hat
    obtain ⟨A, c, rfl⟩ := HO.out.form
    gi_wp2_with fail
    gi_loopw [21] (fun i wr => ∃ k : Nat, k ≤ L.length ∧ i = .int .i64 k ∧ J ((L.take k).filterMap sayD) wr ∧ ownS wr W.heap.size (.slice A L.length c) L ∧ MaxD wr) (fun i _ => L.length - (intOf i).toNat)
    case atStart => exact ⟨0, Nat.zero_le _, rfl, HJ1.out, HO.out, HM1.out⟩
    case round =>
      obtain ⟨k, hk, rfl, hj, ho, hm⟩ := hrel
      have HK := Lib.hid hj; have HO2 := Lib.hid ho; have HM2 := Lib.hid hm
      clear hj ho hm HO HM1 HJ1
      by_cases hlt : k < L.length
      · obtain ⟨g, rfl, hcell⟩ := HO2.out.cell k hlt
        rw [show L.getD k [] = L[k] from by simp [List.getD, hlt]] at hcell
        have hle : L[k].length ≤ 4294967200 := Nat.le_trans (HAT.out _ (List.getElem_mem hlt)) hs
        have hrd := readD_any L[k] wr HM2.out hle
        have hsn := fmap_snoc sayD L k hlt
        have hfl := fun d => fmap_lt sayD L k hlt (d := d)
        have HRD := Lib.hid hrd; have HSN := Lib.hid hsn; have HFL := Lib.hid hfl
        clear hrd hsn hfl hle
        cases hd : sayD L[k] with
        | none =>
          have hr2 : RetR wr none = fun e w' => e = .returned (.tuple #[.agg #[.string ⟨#[]⟩, .string ⟨#[]⟩, .bool false, .string ⟨#[]⟩], .bool false]) ∧ Below wr.heap.size wr w' := rfl
          rw [hd, hr2] at HRD
          rw [hd, Option.toList_none, List.append_nil] at HSN
          clear hr2 HFL hd HY
          gi_wp2_with fail
          refine ⟨trivial, (callsIn_wide.2 HRD.out).mono ?_⟩
          rintro e W2 ⟨rfl, hb2⟩
          have hq : Below W2.heap.size W2 (W2.alloc (.cells #[.string ⟨#[]⟩, .string ⟨#[]⟩, .bool false, .string ⟨#[]⟩] 39)) := (Below.refl _ _).alloc (Nat.le_refl _) _
          have HQ := Lib.hid (hb2.trans (hq.mono hb2.size)); clear hb2 hq
          gi_wp2_with fail
          refine ⟨fun _ h => (by cases h), ?_⟩
          gi_wp2_with fail
          go_roundw
          case rel => exact ⟨k + 1, by omega, by go_num, by rw [HSN.out]; exact abidesD HJ.out HK.out HQ.out, HO2.out.bel HQ.out, HM2.out.bel HQ.out⟩
          case measure => simp [intOf]; omega
        | some d =>
          have hr2 : RetR wr (some d) = fun e w' => e = .returned (.tuple #[.agg #[.string (bs d.1), .string (bs d.2.1), .bool d.2.2.1, .string (bs d.2.2.2)], .bool true]) ∧ Below wr.heap.size wr w' := rfl
          rw [hd, hr2] at HRD
          rw [hd] at HSN
          have hfl := HFL.out d hd
          have HF := Lib.hid hfl
          clear hr2 HFL hd hfl
          gi_wp2_with fail
          refine ⟨trivial, (callsIn_wide.2 HRD.out).mono ?_⟩
          rintro e W2 ⟨rfl, hb2⟩
          have hx : dbk (W2.alloc (.cells #[.string (bs d.1), .string (bs d.2.1), .bool d.2.2.1, .string (bs d.2.2.2)] 39)) W2.heap.size (dvA d) := dbk.new W2 _ _
          obtain ⟨c0, c1, c2, c3⟩ := hx.four
          have hq : Below W2.heap.size W2 (W2.alloc (.cells #[.string (bs d.1), .string (bs d.2.1), .bool d.2.2.1, .string (bs d.2.2.2)] 39)) := (Below.refl _ _).alloc (Nat.le_refl _) _
          have HQ := Lib.hid (hb2.trans (hq.mono hb2.size)); clear hb2 hq hx
          obtain ⟨fn, tmps, assign, body, hy, hR⟩ := HY.out _ d _ (abidesD HJ.out HK.out HQ.out) HF.out
          dsimp only [dvV] at hy
          have HR := Lib.hid hR; clear hR
          gi_wp2_with fail
          refine HR.out.mono ?_
          rintro e W3 (⟨rfl, hj3, hk3⟩ | ⟨rfl, hj3⟩)
          · have hk4 := (Kd.bel HQ.out).trans hk3
            have HJ3 := Lib.hid hj3; have HO3 := Lib.hid (HO2.out.kd hk4); have HM3 := Lib.hid (hk4.2 HM2.out)
            clear hj3 hk3 hk4
            gi_wp2_with fail
            go_roundw
            case rel => exact ⟨k + 1, by omega, by go_num, by rw [HSN.out]; exact HJ3.out, HO3.out, HM3.out⟩
            case measure => simp [intOf]; omega
          · have HJ3 := Lib.hid hj3; clear hj3
            gi_wp2_with fail
            refine bodyPost_ret (results_none rfl _ _ _) rfl ?_
            exact ⟨⟨_, rfl⟩, .inr ⟨_, trivial, HJ3.out⟩⟩
      · gi_wp2_with fail
        go_end0
        refine ⟨⟨_, rfl⟩, .inl ⟨_, rfl, ?_⟩⟩
        rw [HD.out]
        have h := HK.out
        rw [List.take_of_length_le (by omega)] at h
        exact h
  · have hD : dirs s = [noStore] := if_neg hE
    have hne : ((splitE s 44) != 0) = true := bne_iff_ne.2 hE
    generalize splitE s 44 = E at *
    obtain ⟨fn, tmps, assign, body, hy, hR⟩ := HY.out [] noStore W1 HJ1.out (by rw [hD]; simp)
    have hy2 : (Instr.yield l #[.agg #[.string ⟨#[110, 111, 45, 115, 116, 111, 114, 101]⟩, .string ⟨#[]⟩, .bool false, .string ⟨#[]⟩]]).run Try.prog W1 = .ok (.round l fn tmps assign body) W1 := hy
    have HR := Lib.hid hR; have HD := Lib.hid hD; clear hy hR hD hE HY
    obtain ⟨A, c, rfl⟩ := HO.out.form
    gi_wp2_with fail
    refine HR.out.mono ?_
    rintro e W2 (⟨rfl, hj, _⟩ | ⟨rfl, hj⟩)
    · have HJ2 := Lib.hid hj; clear hj
      gi_wp2_with fail
      refine bodyPost_ret (results_none rfl _ _ _) rfl ?_
      exact ⟨⟨_, rfl⟩, .inl ⟨_, HD.out.symm, HJ2.out⟩⟩
    · have HJ2 := Lib.hid hj; clear hj
      gi_wp2_with fail
      refine bodyPost_ret (results_none rfl _ _ _) rfl ?_
      exact ⟨⟨_, rfl⟩, .inr ⟨_, trivial, HJ2.out⟩⟩
end Go.Proofs.Ytonioemenjjajaa
