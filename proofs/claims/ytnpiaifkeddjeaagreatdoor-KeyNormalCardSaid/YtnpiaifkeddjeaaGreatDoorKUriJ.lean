/- A path without dots: the uri layer's Dots. -/
import Derived.Test.YtnpiaifkeddjeaaGreatDoorKPlainU
import Derived.Test.YtnpiaifkeddjeaaGreatDoorKUriA
import Derived.Test.YtnpiaifkeddjeaaGreatDoorKUriG
import Derived.ArgAppend
import Derived.Lib.AppendZeros
import Derived.Lib.BufferMore
import Derived.Lib.ConvBytes
namespace Go.Proofs.YtnpiaifkeddjeaaGreatDoor
open Go.RowKit

theorem infoSU : (Tryz.prog.info? 9).map (fun i => (i.zero, i.size, i.bytes)) = some (some (.string ⟨#[]⟩), 1, 16) := by kernel_rfl
/-- 'append(s[:k:c], x)' where there is room: the cell behind is x. -/
theorem wpList_appR {w : World} {ops : Array Oper} {rest : List Oper} {o : Oper} {a : Act} {Q : Exit → Act → World → Prop} (hgd : o.guard = none) (s x : Operand)
    (ho : o.op = .call { callee := .builtin .append, args := #[s, x], argTypes := #[34, 34] })
    (b k cap : Nat) (u old : Value) (hs : a.eval s = .slice (some ⟨b, 0, none⟩) k cap) {g : Nat} (hx : a.eval x = .slice (some ⟨g, 0, none⟩) 1 1) (hu : w.cell? ⟨g, 0, none⟩ = some u) (h1 : u.oneCell' = true) (hroom : k + 1 ≤ cap)
    (hc : w.cell? ⟨b, k, none⟩ = some old) (hf : w.frozen? ⟨b, k, none⟩ = false)
    (h : wpList Tryz.prog ops Q rest (a.put o.dst (.slice (some ⟨b, 0, none⟩) (k + 1) cap)) (w.setCell ⟨b, k, none⟩ u)) : wpList Tryz.prog ops Q (o :: rest) a w := by
  obtain ⟨i0, hi, hz0, hz1, hz2⟩ := info_parts infoSU
  have hrun := run_append_room_cells (P := Tryz.prog) w 34 o.type 9 i0 Tryz.underlying34 hi b 0 k cap ⟨g, 0, none⟩ 1 1 [u] (by rw [hz1]; rfl)
    (fun j v hj => by
      match j, hj with
      | 0, hj => simp at hj; subst hj; simpa [Addr.add] using hu)
    (fun v hv => by simp at hv; subst hv; exact h1) hroom
    (fun j hj => by
      have : j = 0 := by simpa using hj
      subst this
      rw [hz1]; simp [hc])
    (fun j hj => by
      have : j = 0 := by simpa using hj
      subst this
      rw [hz1]; simpa using hf)
  refine Lib.wpList_append_run _ hgd s x 34 34 ho _ _ hs hx _ _ hrun ?_
  rw [hz1]
  show wpList _ _ _ _ _ (w.setCell ⟨b, 0 + k * 1, none⟩ u)
  rw [Nat.zero_add, Nat.mul_one]
  exact h

/-- a block of texts -/
def rowU (w : World) (b : Nat) (C : List (List UInt8)) : Prop := ∃ T, w.heap[b]? = some (.cells (C.map fun x => Value.string (bs x)).toArray T (0, 0))
theorem rowU.cell {w : World} {b : Nat} {C : List (List UInt8)} (h : rowU w b C) (j : Nat) (hj : j < C.length) : w.cell? ⟨b, j, none⟩ = some (.string (bs C[j])) := by
  obtain ⟨T, h⟩ := h
  refine (cell_of_row w b j _ T _ h).trans ?_
  simp [hj]
theorem rowU.free {w : World} {b : Nat} {C : List (List UInt8)} (h : rowU w b C) (j : Nat) : w.frozen? ⟨b, j, none⟩ = false := by
  obtain ⟨T, h⟩ := h
  simp [World.frozen?, h]
theorem rowU.set {w : World} {b : Nat} {C : List (List UInt8)} (h : rowU w b C) (j : Nat) (x : List UInt8) : rowU (w.setCell ⟨b, j, none⟩ (.string (bs x))) b (C.set j x) := by
  obtain ⟨T, h⟩ := h
  refine ⟨T, (Lib.heap_setCell_same h _).trans ?_⟩
  simp
theorem rowU.keep {w w' : World} {b : Nat} {C : List (List UInt8)} (h : rowU w b C) (hk : w'.heap[b]? = w.heap[b]?) : rowU w' b C := by
  obtain ⟨T, h⟩ := h
  exact ⟨T, hk.trans h⟩
theorem rowU.lt {w : World} {b : Nat} {C : List (List UInt8)} (h : rowU w b C) : b < w.heap.size := by
  obtain ⟨T, h⟩ := h
  exact (Array.getElem?_eq_some_iff.1 h).1

theorem splitU_any (s : List UInt8) (w : World) (hm : EnvU w) (hs : s.length < 4294967281) :
    Calls Tryz.prog 68 #[.string (bs s), .string ⟨#[47]⟩] w fun e w' => e = .returned (.slice (some ⟨w.heap.size, 0, none⟩) (segs s).length (segs s).length) ∧ rowU w' w.heap.size (segs s) ∧ Below w.heap.size w w' ∧ w.heap.size < w'.heap.size := by
  obtain ⟨⟨m, hm⟩, -⟩ := hm
  have hsp := split_segs _ (bs s) (Nat.le_refl _)
  rw [bs_data] at hsp
  have hln := Lib.splitB_all ⟨#[47]⟩ (by decide) 0 _ (bs s) rfl
  have hl2 : (segs s).length = Lib.countB (bs s) ⟨#[47]⟩ + 1 := by rw [← hsp, List.length_map]; exact hln
  refine (Tryz.strings_Split (bs s) ⟨#[47]⟩ m w (by rw [bs_size]; exact hs) hm (by decide)).mono ?_
  rintro e w' ⟨he, rfl⟩
  refine ⟨by rw [hl2]; exact he, ⟨9, (heap_alloc_new w _).trans ?_⟩, (Below.refl _ _).alloc (Nat.le_refl _) _, by simp⟩
  rw [← hsp, List.map_map]
  have hf : (fun x => Value.string (bs x)) ∘ (fun x : ByteArray => x.data.toList) = Value.string := by funext x; simp
  rw [hf]
theorem joinU_any (b cap : Nat) (C K : List (List UInt8)) (w : World) (h : rowU w b C) (hk : C.take K.length = K) (hkl : K.length ≤ C.length) (hcap : K.length ≤ cap) (hl : jl K ≤ 140737488355328) :
    Calls Tryz.prog 24 #[.slice (some ⟨b, 0, none⟩) K.length cap, .string ⟨#[47]⟩] w fun e w' => e = .returned (.string (bs (Lib.join K [47]))) ∧ Below w.heap.size w w' := by
  have hml : (K.map bs).map (fun x => x.data.toList) = K := by
    rw [List.map_map]
    have : (fun x : ByteArray => x.data.toList) ∘ bs = id := by funext x; simp
    rw [this, List.map_id]
  have hlen : K.length ≤ jl K := by
    clear hk hkl hcap hl hml
    induction K with
    | nil => exact Nat.zero_le _
    | cons x K ih => rw [jl_cons, List.length_cons]; omega
  by_cases h0 : K = []
  · subst h0
    refine (Tryz.strings_Join_none _ _ _ w).mono ?_
    rintro e w' ⟨rfl, rfl⟩
    exact ⟨rfl, Below.refl _ _⟩
  · have hc := Tryz.strings_Join b 0 cap (K.map bs) ⟨#[47]⟩ w (fun j x hx => by
      have hj : j < K.length := by
        have := (List.getElem?_eq_some_iff.1 hx).1; simpa using this
      rw [Nat.zero_add, h.cell j (by omega)]
      have h2 : C[j]'(by omega) = K[j] := by
        have h3 : (C.take K.length)[j]'(by rw [List.length_take]; omega) = K[j] := by simp only [hk]
        rw [List.getElem_take] at h3; exact h3
      rw [h2]
      simp only [List.getElem?_map, List.getElem?_eq_getElem hj, Option.map_some, Option.some.injEq] at hx
      rw [hx]) h.lt (by rw [List.length_map]; omega) (by rw [List.length_map]; exact hcap) (by rw [hml]; exact Nat.le_trans (join_le K) hl)
    rw [hml, List.length_map] at hc
    exact hc

/-- the row of segments behind k of them: what is kept stands ahead, what is to come behind -/
structure DIn (w0 : World) (b : Nat) (S : List (List UInt8)) (k : Nat) (C : List (List UInt8)) (W : World) : Prop where
  row : rowU W b C
  len : C.length = S.length
  hd : C.take (keptL (S.take k)).length = keptL (S.take k)
  tl : ∀ j, k ≤ j → ∀ h : j < S.length, C[j]? = some S[j]
  bel : Below w0.heap.size w0 W
theorem DIn.cell {w0 : World} {b : Nat} {S : List (List UInt8)} {k : Nat} {C : List (List UInt8)} {W : World} (h : DIn w0 b S k C W) (hk : k < S.length) : W.cell? ⟨b, k, none⟩ = some (.string (bs S[k])) := by
  have h1 := h.tl k (Nat.le_refl _) hk
  have h2 : k < C.length := by rw [h.len]; exact hk
  rw [h.row.cell k h2]
  rw [List.getElem?_eq_getElem h2] at h1
  rw [Option.some.inj h1]
theorem DIn.same {w0 : World} {b : Nat} {S : List (List UInt8)} {k : Nat} {C : List (List UInt8)} {W : World} (h : DIn w0 b S k C W) (he : keptL (S.take (k + 1)) = keptL (S.take k)) : DIn w0 b S (k + 1) C W :=
  ⟨h.row, h.len, by rw [he]; exact h.hd, fun j hj hl => h.tl j (by omega) hl, h.bel⟩
theorem DIn.less {w0 : World} {b : Nat} {S : List (List UInt8)} {k : Nat} {C : List (List UInt8)} {W : World} (h : DIn w0 b S k C W) (he : keptL (S.take (k + 1)) = (keptL (S.take k)).dropLast) : DIn w0 b S (k + 1) C W := by
  refine ⟨h.row, h.len, ?_, fun j hj hl => h.tl j (by omega) hl, h.bel⟩
  rw [he]
  have h1 := h.hd
  generalize keptL (S.take k) = K at h1
  rw [List.length_dropLast, List.dropLast_eq_take]
  have : C.take (K.length - 1) = (C.take K.length).take (K.length - 1) := by rw [List.take_take, Nat.min_eq_left (by omega)]
  rw [this, h1]
theorem DIn.more {w0 : World} {b : Nat} {S : List (List UInt8)} {k : Nat} {C : List (List UInt8)} {W W' : World} (h : DIn w0 b S k C W) (hk : k < S.length) (he : keptL (S.take (k + 1)) = keptL (S.take k) ++ [S[k]])
    (hr : rowU W' b (C.set (keptL (S.take k)).length S[k])) (hb : Below w0.heap.size w0 W') : DIn w0 b S (k + 1) (C.set (keptL (S.take k)).length S[k]) W' := by
  have hkl := kept_len (S := S) k
  refine ⟨hr, by rw [List.length_set]; exact h.len, ?_, fun j hj hl => ?_, hb⟩
  · rw [he]
    have h1 := h.hd
    have h2 : (keptL (S.take k)).length < C.length := by rw [h.len]; omega
    generalize keptL (S.take k) = K at *
    rw [List.length_append, List.length_singleton, List.take_succ_eq_append_getElem (by rw [List.length_set]; exact h2), List.getElem_set_self, List.take_set, h1, List.set_eq_of_length_le (Nat.le_refl _)]
  · rw [List.getElem?_set_ne (by omega)]
    exact h.tl j (by omega) hl

theorem dots_eq (p : List UInt8) : dotsL (47 :: p) = dotsK (keptL (segs p)) (47 :: p) := rfl
theorem dots_no {p : List UInt8} (h : Lib.hasPrefix p [47] = false) : dotsL p = [] := by unfold dotsL; rw [h]; rfl
theorem slash_of {p : List UInt8} (h : Lib.hasPrefix p [47] = true) : ∃ r, p = 47 :: r ∧ Lib.trimPrefix p [47] = r := by
  have h2 := h
  match p with
  | [] => simp [Lib.hasPrefix, List.isPrefixOf] at h
  | c :: r =>
    simp [Lib.hasPrefix, List.isPrefixOf] at h
    subst h
    refine ⟨r, rfl, ?_⟩
    unfold Lib.trimPrefix
    rw [h2]; rfl

set_option maxHeartbeats 4000000 in
set_option maxRecDepth 100000 in
theorem dots_any (p : List UInt8) (w : World) (he : EnvU w) (hl : p.length ≤ 1000000000) :
    Calls Tryz.prog 40 #[.string (bs p)] w fun r w' => r = .returned (.string (bs (dotsL p))) ∧ Below w.heap.size w w' := by
  have hcp := cutPrefixU_any p [47] w
  cases hp : Lib.hasPrefix p [47]
  · rw [hp] at hcp
    rw [dots_no hp]
    have HC := Lib.hid hcp; clear hcp hp
    go_enter Tryz.func40, Tryz.ntmps40
    go_wp2_with fail
    refine HC.out.mono ?_
    rintro r w' ⟨rfl, rfl⟩
    go_wp2_with fail
    go_ret
    exact ⟨rfl, Below.refl _ _⟩
  · obtain ⟨q, rfl, hq⟩ := slash_of hp
    rw [hp, hq] at hcp
    have HC := Lib.hid hcp; clear hcp hp hq
    rw [dots_eq]
    have hsl : q.length < 4294967281 := by simp only [List.length_cons] at hl; omega
    have hsp := splitU_any q w he hsl
    have hcl := segs_len q
    have hjl := jl_segs q
    have hS0 : (segs q).length ≤ 1000000000 := by simp only [List.length_cons] at hl; omega
    have HJ : Hid (jl (segs q) ≤ 140737488355328) := by show _ ≤ _; simp only [List.length_cons] at hl; omega
    have HPL : Hid ((47 :: q).length ≤ 9223372036854775807) := by show _ ≤ _; omega
    generalize hSg : segs q = S at *
    clear hcl hjl hsl hSg
    have HSP := Lib.hid hsp; have HE := Lib.hid he; clear hsp he hl
    go_enter Tryz.func40, Tryz.ntmps40
    go_wp2_with fail
    refine HC.out.mono ?_
    rintro r w' ⟨rfl, rfl⟩
    go_wp2_with fail
    refine HSP.out.mono ?_
    rintro r w1 ⟨rfl, hr1, hb1, hsz1⟩
    have HD0 : Hid (DIn w w.heap.size S 0 S w1) := ⟨hr1, rfl, rfl, fun j _ h => List.getElem?_eq_getElem h, hb1⟩
    have HZ1 := Lib.hid hsz1
    clear hr1 hb1 hsz1 HSP
    go_wp2_with fail
    go_loopw [6, 24] (fun v i wr => ∃ (k cap : Nat) (C : List (List UInt8)), k ≤ S.length ∧ i = .int .i64 k ∧ v = .slice (some ⟨w.heap.size, 0, none⟩) (keptL (S.take k)).length cap ∧ (keptL (S.take k)).length ≤ cap ∧ Hid (DIn w w.heap.size S k C wr)) (fun _ i _ => S.length - (intOf i).toNat)
    case atStart => exact ⟨0, 0, S, Nat.zero_le _, rfl, rfl, Nat.le_refl _, HD0⟩
    case round =>
      obtain ⟨k, cap, C, hk, rfl, rfl, hcap, HD⟩ := hrel
      by_cases hlt : k < S.length
      · have hkl := kept_len (S := S) k
        have hcell := HD.out.cell hlt
        have HKT := Lib.hid (kept_take hlt)
        by_cases e1 : S[k] = [46]
        · have HK : Hid (keptL (S.take (k + 1)) = keptL (S.take k)) := by show _ = _; rw [HKT.out]; exact if_pos e1
          have q1 : ((bs S[k]).toList == [46]) = true := by rw [beq_lit]; exact beq_iff_eq.2 e1
          have HDN := Lib.hid (HD.out.same HK.out)
          clear e1 HKT
          generalize S[k] = x at *
          go_wp2_with fail
          go_roundw
          case rel => exact ⟨k + 1, cap, C, by omega, by go_num, by rw [HK.out], by rw [HK.out]; exact hcap, HDN⟩
          case measure => simp [intOf]; omega
        · have q1 : ((bs S[k]).toList == [46]) = false := by rw [beq_lit]; exact beq_eq_false_iff_ne.2 e1
          by_cases e2 : S[k] = [46, 46]
          · have HK : Hid (keptL (S.take (k + 1)) = (keptL (S.take k)).dropLast) := by show _ = _; rw [HKT.out]; unfold keepS; rw [if_neg e1, if_pos e2]
            have q2 : ((bs S[k]).toList == [46, 46]) = true := by rw [beq_lit]; exact beq_iff_eq.2 e2
            have HDN := Lib.hid (HD.out.less HK.out)
            have HLN : Hid ((keptL (S.take (k + 1))).length = (keptL (S.take k)).length - 1) := by show _ = _; rw [HK.out, List.length_dropLast]
            have hmx : max (((keptL (S.take k)).length : Int) - 1) 0 = (((keptL (S.take k)).length - 1 : Nat) : Int) := by omega
            have hsz : (keptL (S.take k)).length - 1 ≤ k + 1 := by omega
            generalize (keptL (S.take k)).length = n at *
            generalize hm : n - 1 = m at *
            have hmk : m ≤ k := by omega
            clear e1 e2 HKT hm HK
            generalize S[k] = x at *
            go_wp2_with fail
            go_roundw
            case rel => exact ⟨k + 1, k + 1, C, by omega, by go_num, by rw [HLN.out], by rw [HLN.out]; omega, HDN⟩
            case measure => simp [intOf]; omega
          · have HK : Hid (keptL (S.take (k + 1)) = keptL (S.take k) ++ [S[k]]) := by show _ = _; rw [HKT.out]; unfold keepS; rw [if_neg e1, if_neg e2]
            have q2 : ((bs S[k]).toList == [46, 46]) = false := by rw [beq_lit]; exact beq_eq_false_iff_ne.2 e2
            have hnl : (keptL (S.take k)).length < C.length := by rw [HD.out.len]; omega
            have hc1 := HD.out.row.cell _ hnl
            have hf1 := HD.out.row.free (keptL (S.take k)).length
            have hbl := HD.out.row.lt
            have hal : ∀ O, Below wr.heap.size wr (wr.alloc O) := fun O => (Below.refl _ _).alloc (Nat.le_refl _) O
            have hc2 : ∀ O, (wr.alloc O).cell? ⟨w.heap.size, (keptL (S.take k)).length, none⟩ = some (.string (bs C[(keptL (S.take k)).length])) := fun O => ((hal O).cell (p := ⟨w.heap.size, (keptL (S.take k)).length, none⟩) hbl).trans hc1
            have hf2 : ∀ O, (wr.alloc O).frozen? ⟨w.heap.size, (keptL (S.take k)).length, none⟩ = false := fun O => ((hal O).frozen (p := ⟨w.heap.size, (keptL (S.take k)).length, none⟩) hbl).trans hf1
            have hbs : Below w.heap.size w (wr.setCell ⟨w.heap.size, (keptL (S.take k)).length, none⟩ (.string (bs S[k]))) := HD.out.bel.setCell (Nat.le_refl _) _
            have HDN : Hid (∀ O, DIn w w.heap.size S (k + 1) (C.set (keptL (S.take k)).length S[k]) ((wr.setCell ⟨w.heap.size, (keptL (S.take k)).length, none⟩ (.string (bs S[k]))).alloc O)) := fun O =>
              HD.out.more hlt HK.out ((HD.out.row.set (keptL (S.take k)).length S[k]).keep (Below.heap_alloc _ _ _ (HD.out.row.set (keptL (S.take k)).length S[k]).lt)) (hbs.alloc hbs.size _)
            have HLN : Hid ((keptL (S.take (k + 1))).length = (keptL (S.take k)).length + 1) := by show _ = _; rw [HK.out]; simp
            clear e1 e2 HKT HK hc1 hf1 hbs
            generalize (keptL (S.take k)).length = n at *
            generalize S[k] = x at *
            have hn : (wr.alloc (.cells #[.string (bs x)] 9)).cell? ⟨wr.heap.size, 0, none⟩ = some (.string (bs x)) := cell_of_one (heap_alloc_new wr _)
            go_wp2_with (at_builtin; refine wpList_appR rfl (.tmp 36) (.tmp 38) rfl w.heap.size n (k + 1) (.string (bs x)) _ rfl rfl hn rfl (by omega) (hc2 _) (hf2 _) ?_)
            go_roundw
            case rel => exact ⟨k + 1, k + 1, _, by omega, by go_num, by rw [HLN.out], by rw [HLN.out]; omega, Lib.hid (HDN.out _)⟩
            case measure => simp [intOf]; omega
      · have hkk : k = S.length := by omega
        subst hkk
        have HST : Hid (S.take S.length = S) := List.take_length
        have hkl := kept_len (S := S) S.length
        rw [HST.out] at hcap hkl ⊢
        have hjn := joinU_any w.heap.size cap C (keptL S) wr HD.out.row (by have h := HD.out.hd; rwa [HST.out] at h) (by rw [HD.out.len]; exact hkl) hcap (Nat.le_trans (jl_sub (kept_sub S)) HJ.out)
        have hjl : (Lib.join (keptL S) [47]).length ≤ 140737488355328 := Nat.le_trans (join_le _) (Nat.le_trans (jl_sub (kept_sub S)) HJ.out)
        have HDK : Hid (dotsK (keptL S) (47 :: q) = 47 :: Lib.join (keptL S) [47] ++ (if (!(keptL S).isEmpty) && (Lib.hasSuffix (47 :: q) [47, 46] || Lib.hasSuffix (47 :: q) [47, 46, 46]) then [47] else [])) := rfl
        have HS1 := Lib.hid (fun W => suffixU_any (47 :: q) [47, 46] W HPL.out)
        have HS2 := Lib.hid (fun W => suffixU_any (47 :: q) [47, 46, 46] W HPL.out)
        have HBW := Lib.hid HD.out.bel
        have hem : (keptL S).isEmpty = decide ((keptL S).length = 0) := by cases keptL S <;> simp
        have hdk := HDK.out
        rw [hem] at hdk
        clear HDK hem HC
        generalize Lib.hasSuffix (47 :: q) [47, 46] = f1 at *
        generalize Lib.hasSuffix (47 :: q) [47, 46, 46] = f2 at *
        generalize Lib.join (keptL S) [47] = J at hjn hjl hdk
        generalize (keptL S).length = n at hjn hdk hkl hcap ⊢
        have HJN := Lib.hid hjn; have HDK := Lib.hid hdk; clear HD hjn hdk
        by_cases h0 : n = 0
        · subst h0
          go_wp2_with fail
          refine HJN.out.mono ?_
          rintro r w2 ⟨rfl, hb2⟩
          have HB := Lib.hid (HBW.out.trans (hb2.mono HBW.out.size)); clear hb2
          go_wp2_with fail
          go_ret
          exact ⟨ret_str (bs_of (by rw [HDK.out]; simp)), HB.out⟩
        · have hn0 : 0 < n := by omega
          have hd0 : decide (n = 0) = false := decide_eq_false h0
          cases f1
          · cases f2
            all_goals
              go_wp2_with fail
              refine HJN.out.mono ?_
              rintro r w2 ⟨rfl, hb2⟩
              have HB := Lib.hid (HBW.out.trans (hb2.mono HBW.out.size)); clear hb2
              go_wp2_with fail
              refine (HS1.out _).mono ?_
              rintro r w3 ⟨rfl, rfl⟩
              go_wp2_with fail
              refine (HS2.out _).mono ?_
              rintro r w4 ⟨rfl, rfl⟩
              go_wp2_with fail
              go_ret
              exact ⟨ret_str (bs_of (by rw [HDK.out, hd0]; simp)), HB.out⟩
          · go_wp2_with fail
            refine HJN.out.mono ?_
            rintro r w2 ⟨rfl, hb2⟩
            have HB := Lib.hid (HBW.out.trans (hb2.mono HBW.out.size)); clear hb2
            go_wp2_with fail
            refine (HS1.out _).mono ?_
            rintro r w3 ⟨rfl, rfl⟩
            go_wp2_with fail
            go_ret
            exact ⟨ret_str (bs_of (by rw [HDK.out, hd0]; simp)), HB.out⟩
end Go.Proofs.YtnpiaifkeddjeaaGreatDoor

/- A URI's normal form: the uri layer's Normal. -/
namespace Go.Proofs.YtnpiaifkeddjeaaGreatDoor
open Go.RowKit

set_option maxHeartbeats 4000000 in
set_option maxRecDepth 100000 in
theorem normal_any (u : Ur) (w : World) (he : EnvU w) (hu : u.okW) :
    Calls Tryz.prog 22 #[.agg #[.string (bs u.sc), .string (bs u.ho), .int .i64 u.po, .string (bs u.pa), .string (bs u.qu), .bool u.hq]] w fun r w' => r = .returned (.agg #[.string (bs u.normal.sc), .string (bs u.normal.ho), .int .i64 u.normal.po, .string (bs u.normal.pa), .string (bs u.normal.qu), .bool u.normal.hq]) ∧ Below w.heap.size w w' := by
  have hnm : u.normal = if u.check = 0 then u.norm else ur0 := rfl
  rw [hnm]
  clear hnm
  have hck := uriCheck_any u ((w.alloc (.cells #[.string (bs u.sc), .string (bs u.ho), .int .i64 u.po, .string (bs u.pa), .string (bs u.qu), .bool u.hq] 23)).alloc (.cells #[.string ⟨#[]⟩, .string ⟨#[]⟩, .int .i64 0, .string ⟨#[]⟩, .string ⟨#[]⟩, .bool false] 23)) ((he.alloc _).alloc _) hu
  have hlen := hu.len
  have hal : Below w.heap.size w ((w.alloc (.cells #[.string (bs u.sc), .string (bs u.ho), .int .i64 u.po, .string (bs u.pa), .string (bs u.qu), .bool u.hq] 23)).alloc (.cells #[.string ⟨#[]⟩, .string ⟨#[]⟩, .int .i64 0, .string ⟨#[]⟩, .string ⟨#[]⟩, .bool false] 23)) := ((Below.refl _ _).alloc (Nat.le_refl _) _).alloc (by simp) _
  have hbn := (ubk.new w #[.string (bs u.sc), .string (bs u.ho), .int .i64 u.po, .string (bs u.pa), .string (bs u.qu), .bool u.hq] 23).alloc (.cells #[.string ⟨#[]⟩, .string ⟨#[]⟩, .int .i64 0, .string ⟨#[]⟩, .string ⟨#[]⟩, .bool false] 23)
  have hbr := ubk.new (w.alloc (.cells #[.string (bs u.sc), .string (bs u.ho), .int .i64 u.po, .string (bs u.pa), .string (bs u.qu), .bool u.hq] 23)) #[.string ⟨#[]⟩, .string ⟨#[]⟩, .int .i64 0, .string ⟨#[]⟩, .string ⟨#[]⟩, .bool false] 23
  rw [World.size_alloc] at hbr
  have hno : u.norm = ⟨u.sc, lower u.ho, if u.po = usual u.sc then 0 else u.po, dotsL (undo u.pa), undo u.qu, u.hq⟩ := rfl
  rw [hno]
  clear hno hu
  generalize u.check = k at *
  obtain ⟨sc, ho, po, pa, qu, hq⟩ := u
  simp only at hck hlen hal hbn hbr ⊢
  have HLC : Hid (sc.length ≤ 281474976710656) := by show _ ≤ _; omega
  have HLL : Hid (ho.length ≤ maxLen) := by show _ ≤ _; unfold maxLen; omega
  have HLP : Hid (pa.length ≤ 100000000) := by show _ ≤ _; omega
  have HLQ : Hid (qu.length ≤ 100000000) := by show _ ≤ _; omega
  have HLD : Hid ((undo pa).length ≤ 1000000000) := by
    have h1 := rends_len (toks pa)
    have h2 := toks_len pa.length pa (Nat.le_refl _)
    show ((toks pa).flatMap rend).length ≤ _
    omega
  have HUP := Lib.hid (usualPort_any sc)
  have HCK := Lib.hid hck; have HAL := Lib.hid hal; have HBN := Lib.hid hbn; have HBR := Lib.hid hbr; have HE := Lib.hid he
  clear hck hlen hal hbn hbr he
  by_cases hk0 : k = 0
  · subst hk0
    rw [if_pos rfl]
    by_cases hpo : po = usual sc
    · rw [if_pos hpo]
      have hpb : (po == usual sc) = true := beq_iff_eq.2 hpo
      clear hpo
      generalize usual sc = us at *
      go_enter Tryz.func22, Tryz.ntmps22
      go_wp2_with fail
      refine HCK.out.mono ?_
      rintro r w1 ⟨rfl, hb1⟩
      have hn1 := HBN.out.below hb1
      have hr1 := HBR.out.below hb1
      have HB1 := Lib.hid (HAL.out.trans (hb1.mono HAL.out.size)); clear hb1
      have ac0 := hn1.cell 0 (.string (bs sc)) rfl
      have af0 := hn1.free 0
      have ac1 := hn1.cell 1 (.string (bs ho)) rfl
      have af1 := hn1.free 1
      have ac2 := hn1.cell 2 (.int .i64 po) rfl
      have af2 := hn1.free 2
      have ac3 := hn1.cell 3 (.string (bs pa)) rfl
      have af3 := hn1.free 3
      have ac4 := hn1.cell 4 (.string (bs qu)) rfl
      have af4 := hn1.free 4
      have ac5 := hn1.cell 5 (.bool hq) rfl
      have af5 := hn1.free 5
      go_wp2_with fail
      go_quiet ((go_at_call 38; exact Calls.quiet_of_same ((HUP.out _).mono fun _ _ h => ⟨h.1, h.2.symm⟩)))
      have hnq : ubk (w1.drewN nq) w.heap.size #[.string (bs sc), .string (bs ho), .int .i64 po, .string (bs pa), .string (bs qu), .bool hq] := hn1.keep rfl
      have hrq : ubk (w1.drewN nq) (w.heap.size + 1) #[.string ⟨#[]⟩, .string ⟨#[]⟩, .int .i64 0, .string ⟨#[]⟩, .string ⟨#[]⟩, .bool false] := hr1.keep rfl
      have HBq : Hid (Below w.heap.size w (w1.drewN nq)) := ⟨HB1.out.os, HB1.out.tape, HB1.out.output, HB1.out.size, HB1.out.block⟩
      clear hn1 hr1 HB1 ac0 af0 ac1 af1 ac2 af2 ac3 af3 ac4 af4 ac5 af5
      generalize w1.drewN nq = x1 at *
      have hn1 := hnq; have hr1 := hrq; have HB1 := HBq; clear hnq hrq HBq
      have ac0 := hn1.cell 0 (.string (bs sc)) rfl
      have af0 := hn1.free 0
      have ac1 := hn1.cell 1 (.string (bs ho)) rfl
      have af1 := hn1.free 1
      have ac2 := hn1.cell 2 (.int .i64 po) rfl
      have af2 := hn1.free 2
      have ac3 := hn1.cell 3 (.string (bs pa)) rfl
      have af3 := hn1.free 3
      have ac4 := hn1.cell 4 (.string (bs qu)) rfl
      have af4 := hn1.free 4
      have ac5 := hn1.cell 5 (.bool hq) rfl
      have af5 := hn1.free 5
      have hn := hn1.set 2 (.int .i64 0)
      simp only [List.setIfInBounds_toArray, List.set_cons_zero, List.set_cons_succ] at hn
      have hr : ubk (x1.setCell ⟨w.heap.size, 2, none⟩ (.int .i64 0)) (w.heap.size + 1) #[.string ⟨#[]⟩, .string ⟨#[]⟩, .int .i64 0, .string ⟨#[]⟩, .string ⟨#[]⟩, .bool false] := hr1.other (a := ⟨w.heap.size, 2, none⟩) (Nat.succ_ne_self _) _
      have HS1 : Hid (Below w.heap.size w (x1.setCell ⟨w.heap.size, 2, none⟩ (.int .i64 0))) := HB1.out.setCell (p := ⟨w.heap.size, 2, none⟩) (Nat.le_refl _) _
      have HN1 := Lib.hid hn; have HR1 := Lib.hid hr; clear hn hr hn1 hr1
      go_wp2_with fail
      refine (cloneU_any _ _ HLC.out).mono ?_
      rintro r w2 ⟨rfl, hb2⟩
      have hn2 := HN1.out.below hb2
      have hr2 := HR1.out.below hb2
      have HB2 := Lib.hid (HS1.out.trans (hb2.mono HS1.out.size)); clear hb2
      clear ac0 af0 ac1 af1 ac2 af2 ac3 af3 ac4 af4 ac5 af5
      have bc0 := hn2.cell 0 (.string (bs sc)) rfl
      have bf0 := hn2.free 0
      have bc1 := hn2.cell 1 (.string (bs ho)) rfl
      have bf1 := hn2.free 1
      have bc2 := hn2.cell 2 (.int .i64 0) rfl
      have bf2 := hn2.free 2
      have bc3 := hn2.cell 3 (.string (bs pa)) rfl
      have bf3 := hn2.free 3
      have bc4 := hn2.cell 4 (.string (bs qu)) rfl
      have bf4 := hn2.free 4
      have bc5 := hn2.cell 5 (.bool hq) rfl
      have bf5 := hn2.free 5
      have hn := hn2.set 0 (.string (bs sc))
      simp only [List.setIfInBounds_toArray, List.set_cons_zero] at hn
      have hr : ubk (w2.setCell ⟨w.heap.size, 0, none⟩ (.string (bs sc))) (w.heap.size + 1) #[.string ⟨#[]⟩, .string ⟨#[]⟩, .int .i64 0, .string ⟨#[]⟩, .string ⟨#[]⟩, .bool false] := hr2.other (a := ⟨w.heap.size, 0, none⟩) (Nat.succ_ne_self _) _
      have HS2 : Hid (Below w.heap.size w (w2.setCell ⟨w.heap.size, 0, none⟩ (.string (bs sc)))) := HB2.out.setCell (p := ⟨w.heap.size, 0, none⟩) (Nat.le_refl _) _
      have HN2 := Lib.hid hn; have HR2 := Lib.hid hr; clear hn hr hn2 hr2
      go_wp2_with fail
      refine (lowerU_any _ _ HLL.out).mono ?_
      rintro r w3 ⟨rfl, hb3⟩
      have hn3 := HN2.out.below hb3
      have hr3 := HR2.out.below hb3
      have HB3 := Lib.hid (HS2.out.trans (hb3.mono HS2.out.size)); clear hb3
      clear bc0 bf0 bc1 bf1 bc2 bf2 bc3 bf3 bc4 bf4 bc5 bf5
      have ac0 := hn3.cell 0 (.string (bs sc)) rfl
      have af0 := hn3.free 0
      have ac1 := hn3.cell 1 (.string (bs ho)) rfl
      have af1 := hn3.free 1
      have ac2 := hn3.cell 2 (.int .i64 0) rfl
      have af2 := hn3.free 2
      have ac3 := hn3.cell 3 (.string (bs pa)) rfl
      have af3 := hn3.free 3
      have ac4 := hn3.cell 4 (.string (bs qu)) rfl
      have af4 := hn3.free 4
      have ac5 := hn3.cell 5 (.bool hq) rfl
      have af5 := hn3.free 5
      have hn := hn3.set 1 (.string (bs (lower ho)))
      simp only [List.setIfInBounds_toArray, List.set_cons_zero, List.set_cons_succ] at hn
      have hr : ubk (w3.setCell ⟨w.heap.size, 1, none⟩ (.string (bs (lower ho)))) (w.heap.size + 1) #[.string ⟨#[]⟩, .string ⟨#[]⟩, .int .i64 0, .string ⟨#[]⟩, .string ⟨#[]⟩, .bool false] := hr3.other (a := ⟨w.heap.size, 1, none⟩) (Nat.succ_ne_self _) _
      have HS3 : Hid (Below w.heap.size w (w3.setCell ⟨w.heap.size, 1, none⟩ (.string (bs (lower ho))))) := HB3.out.setCell (p := ⟨w.heap.size, 1, none⟩) (Nat.le_refl _) _
      have HN3 := Lib.hid hn; have HR3 := Lib.hid hr; clear hn hr hn3 hr3
      go_wp2_with fail
      refine (unescaped_any _ _ (HE.out.below HS3.out (Nat.le_refl _)) HLP.out).mono ?_
      rintro r w4 ⟨rfl, hb4⟩
      have hn4 := HN3.out.below hb4
      have hr4 := HR3.out.below hb4
      have HB4 := Lib.hid (HS3.out.trans (hb4.mono HS3.out.size)); clear hb4
      clear ac0 af0 ac1 af1 ac2 af2 ac3 af3 ac4 af4 ac5 af5
      go_wp2_with fail
      refine (dots_any _ _ (HE.out.below HB4.out (Nat.le_refl _)) HLD.out).mono ?_
      rintro r w5 ⟨rfl, hb5⟩
      have hn5 := hn4.below hb5
      have hr5 := hr4.below hb5
      have HB5 := Lib.hid (HB4.out.trans (hb5.mono HB4.out.size)); clear hb5
      clear hn4 hr4
      have bc0 := hn5.cell 0 (.string (bs sc)) rfl
      have bf0 := hn5.free 0
      have bc1 := hn5.cell 1 (.string (bs (lower ho))) rfl
      have bf1 := hn5.free 1
      have bc2 := hn5.cell 2 (.int .i64 0) rfl
      have bf2 := hn5.free 2
      have bc3 := hn5.cell 3 (.string (bs pa)) rfl
      have bf3 := hn5.free 3
      have bc4 := hn5.cell 4 (.string (bs qu)) rfl
      have bf4 := hn5.free 4
      have bc5 := hn5.cell 5 (.bool hq) rfl
      have bf5 := hn5.free 5
      have hn := hn5.set 3 (.string (bs (dotsL (undo pa))))
      simp only [List.setIfInBounds_toArray, List.set_cons_zero, List.set_cons_succ] at hn
      have hr : ubk (w5.setCell ⟨w.heap.size, 3, none⟩ (.string (bs (dotsL (undo pa))))) (w.heap.size + 1) #[.string ⟨#[]⟩, .string ⟨#[]⟩, .int .i64 0, .string ⟨#[]⟩, .string ⟨#[]⟩, .bool false] := hr5.other (a := ⟨w.heap.size, 3, none⟩) (Nat.succ_ne_self _) _
      have HS5 : Hid (Below w.heap.size w (w5.setCell ⟨w.heap.size, 3, none⟩ (.string (bs (dotsL (undo pa)))))) := HB5.out.setCell (p := ⟨w.heap.size, 3, none⟩) (Nat.le_refl _) _
      have HN5 := Lib.hid hn; have HR5 := Lib.hid hr; clear hn hr hn5 hr5
      go_wp2_with fail
      refine (unescaped_any _ _ (HE.out.below HS5.out (Nat.le_refl _)) HLQ.out).mono ?_
      rintro r w6 ⟨rfl, hb6⟩
      have hn6 := HN5.out.below hb6
      have hr6 := HR5.out.below hb6
      have HB6 := Lib.hid (HS5.out.trans (hb6.mono HS5.out.size)); clear hb6
      clear bc0 bf0 bc1 bf1 bc2 bf2 bc3 bf3 bc4 bf4 bc5 bf5
      have ac0 := hn6.cell 0 (.string (bs sc)) rfl
      have af0 := hn6.free 0
      have ac1 := hn6.cell 1 (.string (bs (lower ho))) rfl
      have af1 := hn6.free 1
      have ac2 := hn6.cell 2 (.int .i64 0) rfl
      have af2 := hn6.free 2
      have ac3 := hn6.cell 3 (.string (bs (dotsL (undo pa)))) rfl
      have af3 := hn6.free 3
      have ac4 := hn6.cell 4 (.string (bs qu)) rfl
      have af4 := hn6.free 4
      have ac5 := hn6.cell 5 (.bool hq) rfl
      have af5 := hn6.free 5
      have rc0 := hr6.cell 0 (.string ⟨#[]⟩) rfl
      have rf0 := hr6.free 0
      have rc1 := hr6.cell 1 (.string ⟨#[]⟩) rfl
      have rf1 := hr6.free 1
      have rc2 := hr6.cell 2 (.int .i64 0) rfl
      have rf2 := hr6.free 2
      have rc3 := hr6.cell 3 (.string ⟨#[]⟩) rfl
      have rf3 := hr6.free 3
      have rc4 := hr6.cell 4 (.string ⟨#[]⟩) rfl
      have rf4 := hr6.free 4
      have rc5 := hr6.cell 5 (.bool false) rfl
      have rf5 := hr6.free 5
      have hn := hn6.set 4 (.string (bs (undo qu)))
      simp only [List.setIfInBounds_toArray, List.set_cons_zero, List.set_cons_succ] at hn
      have hr : ubk (w6.setCell ⟨w.heap.size, 4, none⟩ (.string (bs (undo qu)))) (w.heap.size + 1) #[.string ⟨#[]⟩, .string ⟨#[]⟩, .int .i64 0, .string ⟨#[]⟩, .string ⟨#[]⟩, .bool false] := hr6.other (a := ⟨w.heap.size, 4, none⟩) (Nat.succ_ne_self _) _
      have HS6 : Hid (Below w.heap.size w (w6.setCell ⟨w.heap.size, 4, none⟩ (.string (bs (undo qu))))) := HB6.out.setCell (p := ⟨w.heap.size, 4, none⟩) (Nat.le_refl _) _
      have HN6 := Lib.hid hn; have HR6 := Lib.hid hr; clear hn hr hn6 hr6
      have hq0 := ((((((HR6.out.set 0 (.string (bs sc))).set 1 (.string (bs (lower ho)))).set 2 (.int .i64 0)).set 3 (.string (bs (dotsL (undo pa))))).set 4 (.string (bs (undo qu)))).set 5 (.bool hq))
      simp only [List.setIfInBounds_toArray, List.set_cons_zero, List.set_cons_succ] at hq0
      have HQ0 := Lib.hid hq0; clear hq0
      have HBF : Hid (Below w.heap.size w (((((((w6.setCell ⟨w.heap.size, 4, none⟩ (.string (bs (undo qu)))).setCell ⟨(w.heap.size + 1), 0, none⟩ (.string (bs sc))).setCell ⟨(w.heap.size + 1), 1, none⟩ (.string (bs (lower ho)))).setCell ⟨(w.heap.size + 1), 2, none⟩ (.int .i64 0)).setCell ⟨(w.heap.size + 1), 3, none⟩ (.string (bs (dotsL (undo pa))))).setCell ⟨(w.heap.size + 1), 4, none⟩ (.string (bs (undo qu)))).setCell ⟨(w.heap.size + 1), 5, none⟩ (.bool hq))) := ((((((HS6.out.setCell (p := ⟨(w.heap.size + 1), 0, none⟩) (Nat.le_succ _) (.string (bs sc))).setCell (p := ⟨(w.heap.size + 1), 1, none⟩) (Nat.le_succ _) (.string (bs (lower ho)))).setCell (p := ⟨(w.heap.size + 1), 2, none⟩) (Nat.le_succ _) (.int .i64 0)).setCell (p := ⟨(w.heap.size + 1), 3, none⟩) (Nat.le_succ _) (.string (bs (dotsL (undo pa))))).setCell (p := ⟨(w.heap.size + 1), 4, none⟩) (Nat.le_succ _) (.string (bs (undo qu)))).setCell (p := ⟨(w.heap.size + 1), 5, none⟩) (Nat.le_succ _) (.bool hq))
      go_wp2_with fail
      have m0 := HQ0.out.cell 0 (.string (bs sc)) rfl
      have m1 := HQ0.out.cell 1 (.string (bs (lower ho))) rfl
      have m2 := HQ0.out.cell 2 (.int .i64 0) rfl
      have m3 := HQ0.out.cell 3 (.string (bs (dotsL (undo pa)))) rfl
      have m4 := HQ0.out.cell 4 (.string (bs (undo qu))) rfl
      have m5 := HQ0.out.cell 5 (.bool hq) rfl
      exact bodyPost_ret (v := .agg #[.string (bs sc), .string (bs (lower ho)), .int .i64 0, .string (bs (dotsL (undo pa))), .string (bs (undo qu)), .bool hq]) (by simp [results, Tryz.results22, go_sem, m0, m1, m2, m3, m4, m5]) rfl ⟨rfl, HBF.out⟩
    · rw [if_neg hpo]
      have hpb : (po == usual sc) = false := beq_eq_false_iff_ne.2 hpo
      clear hpo
      generalize usual sc = us at *
      go_enter Tryz.func22, Tryz.ntmps22
      go_wp2_with fail
      refine HCK.out.mono ?_
      rintro r w1 ⟨rfl, hb1⟩
      have hn1 := HBN.out.below hb1
      have hr1 := HBR.out.below hb1
      have HB1 := Lib.hid (HAL.out.trans (hb1.mono HAL.out.size)); clear hb1
      have ac0 := hn1.cell 0 (.string (bs sc)) rfl
      have af0 := hn1.free 0
      have ac1 := hn1.cell 1 (.string (bs ho)) rfl
      have af1 := hn1.free 1
      have ac2 := hn1.cell 2 (.int .i64 po) rfl
      have af2 := hn1.free 2
      have ac3 := hn1.cell 3 (.string (bs pa)) rfl
      have af3 := hn1.free 3
      have ac4 := hn1.cell 4 (.string (bs qu)) rfl
      have af4 := hn1.free 4
      have ac5 := hn1.cell 5 (.bool hq) rfl
      have af5 := hn1.free 5
      go_wp2_with fail
      go_quiet ((go_at_call 38; exact Calls.quiet_of_same ((HUP.out _).mono fun _ _ h => ⟨h.1, h.2.symm⟩)))
      have hnq : ubk (w1.drewN nq) w.heap.size #[.string (bs sc), .string (bs ho), .int .i64 po, .string (bs pa), .string (bs qu), .bool hq] := hn1.keep rfl
      have hrq : ubk (w1.drewN nq) (w.heap.size + 1) #[.string ⟨#[]⟩, .string ⟨#[]⟩, .int .i64 0, .string ⟨#[]⟩, .string ⟨#[]⟩, .bool false] := hr1.keep rfl
      have HBq : Hid (Below w.heap.size w (w1.drewN nq)) := ⟨HB1.out.os, HB1.out.tape, HB1.out.output, HB1.out.size, HB1.out.block⟩
      clear hn1 hr1 HB1 ac0 af0 ac1 af1 ac2 af2 ac3 af3 ac4 af4 ac5 af5
      generalize w1.drewN nq = x1 at *
      have hn1 := hnq; have hr1 := hrq; have HB1 := HBq; clear hnq hrq HBq
      have ac0 := hn1.cell 0 (.string (bs sc)) rfl
      have af0 := hn1.free 0
      have ac1 := hn1.cell 1 (.string (bs ho)) rfl
      have af1 := hn1.free 1
      have ac2 := hn1.cell 2 (.int .i64 po) rfl
      have af2 := hn1.free 2
      have ac3 := hn1.cell 3 (.string (bs pa)) rfl
      have af3 := hn1.free 3
      have ac4 := hn1.cell 4 (.string (bs qu)) rfl
      have af4 := hn1.free 4
      have ac5 := hn1.cell 5 (.bool hq) rfl
      have af5 := hn1.free 5
      have HS1 := HB1; have HN1 := Lib.hid hn1; have HR1 := Lib.hid hr1; clear hn1 hr1
      go_wp2_with fail
      refine (cloneU_any _ _ HLC.out).mono ?_
      rintro r w2 ⟨rfl, hb2⟩
      have hn2 := HN1.out.below hb2
      have hr2 := HR1.out.below hb2
      have HB2 := Lib.hid (HS1.out.trans (hb2.mono HS1.out.size)); clear hb2
      clear ac0 af0 ac1 af1 ac2 af2 ac3 af3 ac4 af4 ac5 af5
      have bc0 := hn2.cell 0 (.string (bs sc)) rfl
      have bf0 := hn2.free 0
      have bc1 := hn2.cell 1 (.string (bs ho)) rfl
      have bf1 := hn2.free 1
      have bc2 := hn2.cell 2 (.int .i64 po) rfl
      have bf2 := hn2.free 2
      have bc3 := hn2.cell 3 (.string (bs pa)) rfl
      have bf3 := hn2.free 3
      have bc4 := hn2.cell 4 (.string (bs qu)) rfl
      have bf4 := hn2.free 4
      have bc5 := hn2.cell 5 (.bool hq) rfl
      have bf5 := hn2.free 5
      have hn := hn2.set 0 (.string (bs sc))
      simp only [List.setIfInBounds_toArray, List.set_cons_zero] at hn
      have hr : ubk (w2.setCell ⟨w.heap.size, 0, none⟩ (.string (bs sc))) (w.heap.size + 1) #[.string ⟨#[]⟩, .string ⟨#[]⟩, .int .i64 0, .string ⟨#[]⟩, .string ⟨#[]⟩, .bool false] := hr2.other (a := ⟨w.heap.size, 0, none⟩) (Nat.succ_ne_self _) _
      have HS2 : Hid (Below w.heap.size w (w2.setCell ⟨w.heap.size, 0, none⟩ (.string (bs sc)))) := HB2.out.setCell (p := ⟨w.heap.size, 0, none⟩) (Nat.le_refl _) _
      have HN2 := Lib.hid hn; have HR2 := Lib.hid hr; clear hn hr hn2 hr2
      go_wp2_with fail
      refine (lowerU_any _ _ HLL.out).mono ?_
      rintro r w3 ⟨rfl, hb3⟩
      have hn3 := HN2.out.below hb3
      have hr3 := HR2.out.below hb3
      have HB3 := Lib.hid (HS2.out.trans (hb3.mono HS2.out.size)); clear hb3
      clear bc0 bf0 bc1 bf1 bc2 bf2 bc3 bf3 bc4 bf4 bc5 bf5
      have ac0 := hn3.cell 0 (.string (bs sc)) rfl
      have af0 := hn3.free 0
      have ac1 := hn3.cell 1 (.string (bs ho)) rfl
      have af1 := hn3.free 1
      have ac2 := hn3.cell 2 (.int .i64 po) rfl
      have af2 := hn3.free 2
      have ac3 := hn3.cell 3 (.string (bs pa)) rfl
      have af3 := hn3.free 3
      have ac4 := hn3.cell 4 (.string (bs qu)) rfl
      have af4 := hn3.free 4
      have ac5 := hn3.cell 5 (.bool hq) rfl
      have af5 := hn3.free 5
      have hn := hn3.set 1 (.string (bs (lower ho)))
      simp only [List.setIfInBounds_toArray, List.set_cons_zero, List.set_cons_succ] at hn
      have hr : ubk (w3.setCell ⟨w.heap.size, 1, none⟩ (.string (bs (lower ho)))) (w.heap.size + 1) #[.string ⟨#[]⟩, .string ⟨#[]⟩, .int .i64 0, .string ⟨#[]⟩, .string ⟨#[]⟩, .bool false] := hr3.other (a := ⟨w.heap.size, 1, none⟩) (Nat.succ_ne_self _) _
      have HS3 : Hid (Below w.heap.size w (w3.setCell ⟨w.heap.size, 1, none⟩ (.string (bs (lower ho))))) := HB3.out.setCell (p := ⟨w.heap.size, 1, none⟩) (Nat.le_refl _) _
      have HN3 := Lib.hid hn; have HR3 := Lib.hid hr; clear hn hr hn3 hr3
      go_wp2_with fail
      refine (unescaped_any _ _ (HE.out.below HS3.out (Nat.le_refl _)) HLP.out).mono ?_
      rintro r w4 ⟨rfl, hb4⟩
      have hn4 := HN3.out.below hb4
      have hr4 := HR3.out.below hb4
      have HB4 := Lib.hid (HS3.out.trans (hb4.mono HS3.out.size)); clear hb4
      clear ac0 af0 ac1 af1 ac2 af2 ac3 af3 ac4 af4 ac5 af5
      go_wp2_with fail
      refine (dots_any _ _ (HE.out.below HB4.out (Nat.le_refl _)) HLD.out).mono ?_
      rintro r w5 ⟨rfl, hb5⟩
      have hn5 := hn4.below hb5
      have hr5 := hr4.below hb5
      have HB5 := Lib.hid (HB4.out.trans (hb5.mono HB4.out.size)); clear hb5
      clear hn4 hr4
      have bc0 := hn5.cell 0 (.string (bs sc)) rfl
      have bf0 := hn5.free 0
      have bc1 := hn5.cell 1 (.string (bs (lower ho))) rfl
      have bf1 := hn5.free 1
      have bc2 := hn5.cell 2 (.int .i64 po) rfl
      have bf2 := hn5.free 2
      have bc3 := hn5.cell 3 (.string (bs pa)) rfl
      have bf3 := hn5.free 3
      have bc4 := hn5.cell 4 (.string (bs qu)) rfl
      have bf4 := hn5.free 4
      have bc5 := hn5.cell 5 (.bool hq) rfl
      have bf5 := hn5.free 5
      have hn := hn5.set 3 (.string (bs (dotsL (undo pa))))
      simp only [List.setIfInBounds_toArray, List.set_cons_zero, List.set_cons_succ] at hn
      have hr : ubk (w5.setCell ⟨w.heap.size, 3, none⟩ (.string (bs (dotsL (undo pa))))) (w.heap.size + 1) #[.string ⟨#[]⟩, .string ⟨#[]⟩, .int .i64 0, .string ⟨#[]⟩, .string ⟨#[]⟩, .bool false] := hr5.other (a := ⟨w.heap.size, 3, none⟩) (Nat.succ_ne_self _) _
      have HS5 : Hid (Below w.heap.size w (w5.setCell ⟨w.heap.size, 3, none⟩ (.string (bs (dotsL (undo pa)))))) := HB5.out.setCell (p := ⟨w.heap.size, 3, none⟩) (Nat.le_refl _) _
      have HN5 := Lib.hid hn; have HR5 := Lib.hid hr; clear hn hr hn5 hr5
      go_wp2_with fail
      refine (unescaped_any _ _ (HE.out.below HS5.out (Nat.le_refl _)) HLQ.out).mono ?_
      rintro r w6 ⟨rfl, hb6⟩
      have hn6 := HN5.out.below hb6
      have hr6 := HR5.out.below hb6
      have HB6 := Lib.hid (HS5.out.trans (hb6.mono HS5.out.size)); clear hb6
      clear bc0 bf0 bc1 bf1 bc2 bf2 bc3 bf3 bc4 bf4 bc5 bf5
      have ac0 := hn6.cell 0 (.string (bs sc)) rfl
      have af0 := hn6.free 0
      have ac1 := hn6.cell 1 (.string (bs (lower ho))) rfl
      have af1 := hn6.free 1
      have ac2 := hn6.cell 2 (.int .i64 po) rfl
      have af2 := hn6.free 2
      have ac3 := hn6.cell 3 (.string (bs (dotsL (undo pa)))) rfl
      have af3 := hn6.free 3
      have ac4 := hn6.cell 4 (.string (bs qu)) rfl
      have af4 := hn6.free 4
      have ac5 := hn6.cell 5 (.bool hq) rfl
      have af5 := hn6.free 5
      have rc0 := hr6.cell 0 (.string ⟨#[]⟩) rfl
      have rf0 := hr6.free 0
      have rc1 := hr6.cell 1 (.string ⟨#[]⟩) rfl
      have rf1 := hr6.free 1
      have rc2 := hr6.cell 2 (.int .i64 0) rfl
      have rf2 := hr6.free 2
      have rc3 := hr6.cell 3 (.string ⟨#[]⟩) rfl
      have rf3 := hr6.free 3
      have rc4 := hr6.cell 4 (.string ⟨#[]⟩) rfl
      have rf4 := hr6.free 4
      have rc5 := hr6.cell 5 (.bool false) rfl
      have rf5 := hr6.free 5
      have hn := hn6.set 4 (.string (bs (undo qu)))
      simp only [List.setIfInBounds_toArray, List.set_cons_zero, List.set_cons_succ] at hn
      have hr : ubk (w6.setCell ⟨w.heap.size, 4, none⟩ (.string (bs (undo qu)))) (w.heap.size + 1) #[.string ⟨#[]⟩, .string ⟨#[]⟩, .int .i64 0, .string ⟨#[]⟩, .string ⟨#[]⟩, .bool false] := hr6.other (a := ⟨w.heap.size, 4, none⟩) (Nat.succ_ne_self _) _
      have HS6 : Hid (Below w.heap.size w (w6.setCell ⟨w.heap.size, 4, none⟩ (.string (bs (undo qu))))) := HB6.out.setCell (p := ⟨w.heap.size, 4, none⟩) (Nat.le_refl _) _
      have HN6 := Lib.hid hn; have HR6 := Lib.hid hr; clear hn hr hn6 hr6
      have hq0 := ((((((HR6.out.set 0 (.string (bs sc))).set 1 (.string (bs (lower ho)))).set 2 (.int .i64 po)).set 3 (.string (bs (dotsL (undo pa))))).set 4 (.string (bs (undo qu)))).set 5 (.bool hq))
      simp only [List.setIfInBounds_toArray, List.set_cons_zero, List.set_cons_succ] at hq0
      have HQ0 := Lib.hid hq0; clear hq0
      have HBF : Hid (Below w.heap.size w (((((((w6.setCell ⟨w.heap.size, 4, none⟩ (.string (bs (undo qu)))).setCell ⟨(w.heap.size + 1), 0, none⟩ (.string (bs sc))).setCell ⟨(w.heap.size + 1), 1, none⟩ (.string (bs (lower ho)))).setCell ⟨(w.heap.size + 1), 2, none⟩ (.int .i64 po)).setCell ⟨(w.heap.size + 1), 3, none⟩ (.string (bs (dotsL (undo pa))))).setCell ⟨(w.heap.size + 1), 4, none⟩ (.string (bs (undo qu)))).setCell ⟨(w.heap.size + 1), 5, none⟩ (.bool hq))) := ((((((HS6.out.setCell (p := ⟨(w.heap.size + 1), 0, none⟩) (Nat.le_succ _) (.string (bs sc))).setCell (p := ⟨(w.heap.size + 1), 1, none⟩) (Nat.le_succ _) (.string (bs (lower ho)))).setCell (p := ⟨(w.heap.size + 1), 2, none⟩) (Nat.le_succ _) (.int .i64 po)).setCell (p := ⟨(w.heap.size + 1), 3, none⟩) (Nat.le_succ _) (.string (bs (dotsL (undo pa))))).setCell (p := ⟨(w.heap.size + 1), 4, none⟩) (Nat.le_succ _) (.string (bs (undo qu)))).setCell (p := ⟨(w.heap.size + 1), 5, none⟩) (Nat.le_succ _) (.bool hq))
      go_wp2_with fail
      have m0 := HQ0.out.cell 0 (.string (bs sc)) rfl
      have m1 := HQ0.out.cell 1 (.string (bs (lower ho))) rfl
      have m2 := HQ0.out.cell 2 (.int .i64 po) rfl
      have m3 := HQ0.out.cell 3 (.string (bs (dotsL (undo pa)))) rfl
      have m4 := HQ0.out.cell 4 (.string (bs (undo qu))) rfl
      have m5 := HQ0.out.cell 5 (.bool hq) rfl
      exact bodyPost_ret (v := .agg #[.string (bs sc), .string (bs (lower ho)), .int .i64 po, .string (bs (dotsL (undo pa))), .string (bs (undo qu)), .bool hq]) (by simp [results, Tryz.results22, go_sem, m0, m1, m2, m3, m4, m5]) rfl ⟨rfl, HBF.out⟩
  · rw [if_neg hk0]
    have hkn : (k != 0) = true := bne_iff_ne.2 hk0
    clear hk0
    go_enter Tryz.func22, Tryz.ntmps22
    go_wp2_with fail
    refine HCK.out.mono ?_
    rintro r w1 ⟨rfl, hb1⟩
    have hn1 := HBN.out.below hb1
    have hr1 := HBR.out.below hb1
    have HB1 := Lib.hid (HAL.out.trans (hb1.mono HAL.out.size)); clear hb1
    have rc0 := hr1.cell 0 (.string ⟨#[]⟩) rfl
    have rf0 := hr1.free 0
    have rc1 := hr1.cell 1 (.string ⟨#[]⟩) rfl
    have rf1 := hr1.free 1
    have rc2 := hr1.cell 2 (.int .i64 0) rfl
    have rf2 := hr1.free 2
    have rc3 := hr1.cell 3 (.string ⟨#[]⟩) rfl
    have rf3 := hr1.free 3
    have rc4 := hr1.cell 4 (.string ⟨#[]⟩) rfl
    have rf4 := hr1.free 4
    have rc5 := hr1.cell 5 (.bool false) rfl
    have rf5 := hr1.free 5
    have hq0 := ((((((hr1.set 0 (.string ⟨#[]⟩)).set 1 (.string ⟨#[]⟩)).set 2 (.int .i64 0)).set 3 (.string ⟨#[]⟩)).set 4 (.string ⟨#[]⟩)).set 5 (.bool false))
    simp only [List.setIfInBounds_toArray, List.set_cons_zero, List.set_cons_succ] at hq0
    have HQ0 := Lib.hid hq0; clear hq0 hr1 hn1
    have HBF : Hid (Below w.heap.size w ((((((w1.setCell ⟨(w.heap.size + 1), 0, none⟩ (.string ⟨#[]⟩)).setCell ⟨(w.heap.size + 1), 1, none⟩ (.string ⟨#[]⟩)).setCell ⟨(w.heap.size + 1), 2, none⟩ (.int .i64 0)).setCell ⟨(w.heap.size + 1), 3, none⟩ (.string ⟨#[]⟩)).setCell ⟨(w.heap.size + 1), 4, none⟩ (.string ⟨#[]⟩)).setCell ⟨(w.heap.size + 1), 5, none⟩ (.bool false))) := ((((((HB1.out.setCell (p := ⟨(w.heap.size + 1), 0, none⟩) (Nat.le_succ _) (.string ⟨#[]⟩)).setCell (p := ⟨(w.heap.size + 1), 1, none⟩) (Nat.le_succ _) (.string ⟨#[]⟩)).setCell (p := ⟨(w.heap.size + 1), 2, none⟩) (Nat.le_succ _) (.int .i64 0)).setCell (p := ⟨(w.heap.size + 1), 3, none⟩) (Nat.le_succ _) (.string ⟨#[]⟩)).setCell (p := ⟨(w.heap.size + 1), 4, none⟩) (Nat.le_succ _) (.string ⟨#[]⟩)).setCell (p := ⟨(w.heap.size + 1), 5, none⟩) (Nat.le_succ _) (.bool false))
    go_wp2_with fail
    have m0 := HQ0.out.cell 0 (.string ⟨#[]⟩) rfl
    have m1 := HQ0.out.cell 1 (.string ⟨#[]⟩) rfl
    have m2 := HQ0.out.cell 2 (.int .i64 0) rfl
    have m3 := HQ0.out.cell 3 (.string ⟨#[]⟩) rfl
    have m4 := HQ0.out.cell 4 (.string ⟨#[]⟩) rfl
    have m5 := HQ0.out.cell 5 (.bool false) rfl
    exact bodyPost_ret (v := .agg #[.string ⟨#[]⟩, .string ⟨#[]⟩, .int .i64 0, .string ⟨#[]⟩, .string ⟨#[]⟩, .bool false]) (by simp [results, Tryz.results22, go_sem, m0, m1, m2, m3, m4, m5]) rfl ⟨rfl, HBF.out⟩
end Go.Proofs.YtnpiaifkeddjeaaGreatDoor
