/- Which fields of a request select a reply, plainly: names, values, matches; what the laws say of them. -/
import Derived.Test.YtfobjaccpnondaaGreatDoorKFieldsA
import Derived.Test.YtfobjaccpnondaaGreatDoorKFieldsG
import Derived.Test.YtfobjaccpnondaaGreatDoorKPlain
import Derived.Test.YtfobjaccpnondaaGreatDoorKTextT
import Derived.Maps.OwnSet
import Derived.Deep.AppendLies
import Derived.Shelf.Abstract
namespace Go.Proofs.YtfobjaccpnondaaGreatDoor

/-- an element that names no field -/
def namelessB (x : List UInt8) : Bool := x == [42] || !token x
/-- a value by which a reply varies by everything -/
def badV (v : List UInt8) : Bool := splitE v 44 != 0 || (splitL v 44).any namelessB
def putN (a : List (List UInt8)) (x : List UInt8) : List (List UInt8) := if a.any (· == lower x) then a else a ++ [lower x]
def putV (a : List (List UInt8)) (v : List UInt8) : List (List UInt8) := (splitL v 44).foldl putN a
def namesOf (vs : List (List UInt8)) : List (List UInt8) := vs.foldl putV []
def allB (vs : List (List UInt8)) : Bool := vs.any badV
def namesA (vs : List (List UInt8)) : List (List UInt8) := if allB vs then [] else namesOf vs
/-- what a value comes to -/
def partsV (v : List UInt8) : List (List UInt8) := if splitE v 44 = 0 then splitL v 44 else [trim v]
def partsN (l : List Fld) (n : List UInt8) : List (List UInt8) := (valsL l n).flatMap partsV
def valueL (l : List Fld) (n : List UInt8) : List UInt8 := Lib.join (partsN l n) [44, 32]
def selectL (names : List (List UInt8)) (l : List Fld) : List Fld := names.map fun n => (n, valueL l n)
def matchB (vary l : List Fld) : Bool := vary.all fun f => f.2 == valueL l f.1

/-! No part is empty. -/
theorem dropWhile_nil {p : UInt8 → Bool} : ∀ {l : List UInt8}, l.dropWhile p = [] → ∀ x ∈ l, p x = true
  | [], _, _, h => by cases h
  | c :: r, h, x, hx => by
    cases hc : p c with
    | false => rw [List.dropWhile_cons, hc] at h; cases h
    | true =>
      rw [List.dropWhile_cons, hc, if_pos rfl] at h
      rcases List.mem_cons.1 hx with rfl | hx
      · exact hc
      · exact dropWhile_nil h x hx
theorem trim_nil {v : List UInt8} (h : trim v = []) : gaps v := by
  have h1 : (ltrim v).reverse.dropWhile blankB = [] := by
    have h2 : ((ltrim v).reverse.dropWhile blankB).reverse = [] := h
    simpa using h2
  replace h1 := dropWhile_nil h1
  have h3 : ltrim v = [] := by
    cases hl : ltrim v with
    | nil => rfl
    | cons c r =>
      have := dropWhile_head (p := blankB) (l := v) hl
      rw [hl] at h1
      have h4 := h1 c (by simp)
      rw [this] at h4; cases h4
  unfold ltrim at h3
  exact dropWhile_nil h3
theorem trim_ne {v : List UInt8} (h : ¬ splitE v 44 = 0) : trim v ≠ [] := fun e => by
  have hg := trim_nil e
  apply h
  have hc := cut_plain (sep := 44) v [] [] (gap_plain hg)
  have hb : badSep 44 = false := by decide
  unfold splitE
  rw [if_neg (by rw [hb]; simp), hc]
  simp [addP, trim_blank hg]
theorem addP_ne {A : List (List UInt8)} {cur : List UInt8} (h : ∀ x ∈ A, x ≠ []) : ∀ x ∈ addP A cur, x ≠ [] := by
  unfold addP
  split
  · exact h
  · rename_i hc
    intro x hx
    rcases List.mem_append.1 hx with hx | hx
    · exact h x hx
    · obtain rfl : x = trim cur := by simpa using hx
      intro e; rw [e] at hc; exact hc rfl
theorem cutAt_ne {sep : UInt8} : ∀ (l : List UInt8) (o e : Bool) (cur : List UInt8) (A R : List (List UInt8)), (∀ x ∈ A, x ≠ []) → cutAt sep l o e cur A = some R → ∀ x ∈ R, x ≠ []
  | [], o, e, cur, A, R, hA, h => by
    unfold cutAt at h
    split at h
    · cases h
    · cases h; exact addP_ne hA
  | c :: r, o, e, cur, A, R, hA, h => by
    unfold cutAt at h
    split at h
    · exact cutAt_ne r _ _ _ _ _ (addP_ne hA) h
    · exact cutAt_ne r _ _ _ _ _ hA h
theorem splitL_ne (l : List UInt8) (sep : UInt8) : ∀ x ∈ splitL l sep, x ≠ [] := by
  unfold splitL
  split
  · simp
  · split
    · simp
    · rename_i a h
      split
      · simp
      · exact cutAt_ne _ _ _ _ _ _ (by simp) h
theorem partsV_ne (v : List UInt8) : ∀ x ∈ partsV v, x ≠ [] := by
  unfold partsV
  split
  · exact splitL_ne v 44
  · rename_i h
    intro x hx
    obtain rfl : x = trim v := by simpa using hx
    exact trim_ne h
theorem partsN_ne (l : List Fld) (n : List UInt8) : ∀ x ∈ partsN l n, x ≠ [] := by
  intro x hx
  obtain ⟨v, _, hv⟩ := List.mem_flatMap.1 hx
  exact partsV_ne v x hv

/-! Parts put together one by one. -/
def glueP (s x : List UInt8) : List UInt8 := (if x ≠ [] ∧ s ≠ [] then s ++ [44, 32] else s) ++ x
theorem join_ne {L : List (List UInt8)} (h : ∀ x ∈ L, x ≠ []) (hL : L ≠ []) : Lib.join L [44, 32] ≠ [] := by
  cases L with
  | nil => exact absurd rfl hL
  | cons x r =>
    cases r with
    | nil => simpa [Lib.join, List.intercalate] using h x (by simp)
    | cons y t => simp [Lib.join, List.intercalate]
theorem glue_step {L : List (List UInt8)} {x : List UInt8} (h : ∀ y ∈ L, y ≠ []) (hx : x ≠ []) : Lib.join (L ++ [x]) [44, 32] = glueP (Lib.join L [44, 32]) x := by
  unfold glueP
  by_cases hL : L = []
  · subst hL
    simp [Lib.join, List.intercalate]
  · rw [join_snoc L x [44, 32] hL, if_pos ⟨hx, join_ne h hL⟩]

/-! Names. -/
theorem lower_star {x : List UInt8} (h : lower x = [42]) : x = [42] := by
  unfold lower at h
  match x, h with
  | [], h => cases h
  | [c], h =>
    have h1 : lowB c = 42 := by simpa using h
    have h2 : c = 42 := by
      unfold lowB at h1
      split at h1
      · rename_i hc
        have h3 := congrArg UInt8.toNat h1
        rw [UInt8.toNat_add] at h3
        have e1 : (32 : UInt8).toNat = 32 := rfl
        have e2 : (42 : UInt8).toNat = 42 := rfl
        rw [e1, e2] at h3
        omega
      · exact h1
    rw [h2]
  | c :: d :: r, h => simp at h
/-- a name that a reply may tell -/
def NameB (x : List UInt8) : Prop := token x = true ∧ lower x = x ∧ x ≠ [42]
theorem name_of {x : List UInt8} (h : namelessB x = false) : NameB (lower x) := by
  unfold namelessB at h
  rw [Bool.or_eq_false_iff] at h
  have h1 : x ≠ [42] := by simpa using h.1
  have h2 : token x = true := by simpa using h.2
  exact ⟨token_lower h2, lower_idem x, fun e => h1 (lower_star e)⟩
theorem putN_mem {a : List (List UInt8)} {x : List UInt8} (ha : ∀ y ∈ a, NameB y) (hx : namelessB x = false) : ∀ y ∈ putN a x, NameB y := by
  unfold putN
  split
  · exact ha
  · intro y hy
    rcases List.mem_append.1 hy with hy | hy
    · exact ha y hy
    · obtain rfl : y = lower x := by simpa using hy
      exact name_of hx
theorem foldN_mem : ∀ (L : List (List UInt8)) {a : List (List UInt8)}, (∀ y ∈ a, NameB y) → (∀ x ∈ L, namelessB x = false) → ∀ y ∈ L.foldl putN a, NameB y
  | [], _, ha, _ => ha
  | x :: r, _, ha, h => foldN_mem r (putN_mem ha (h x (by simp))) (fun z hz => h z (by simp [hz]))
theorem badV_false {v : List UInt8} (h : badV v = false) : splitE v 44 = 0 ∧ ∀ x ∈ splitL v 44, namelessB x = false := by
  unfold badV at h
  rw [Bool.or_eq_false_iff] at h
  refine ⟨by simpa using h.1, fun x hx => ?_⟩
  have := h.2
  rw [List.any_eq_false] at this
  simpa using this x hx
theorem foldV_mem : ∀ (vs : List (List UInt8)) {a : List (List UInt8)}, (∀ y ∈ a, NameB y) → (∀ v ∈ vs, badV v = false) → ∀ y ∈ vs.foldl putV a, NameB y
  | [], _, ha, _ => ha
  | v :: r, _, ha, h => foldV_mem r (foldN_mem _ ha (badV_false (h v (by simp))).2) (fun z hz => h z (by simp [hz]))
theorem allB_false {vs : List (List UInt8)} (h : allB vs = false) : ∀ v ∈ vs, badV v = false := by
  unfold allB at h
  rw [List.any_eq_false] at h
  intro v hv
  simpa using h v hv
theorem names_mem {vs : List (List UInt8)} (h : allB vs = false) : ∀ y ∈ namesA vs, NameB y := by
  unfold namesA
  rw [h]
  exact foldV_mem vs (by simp) (allB_false h)

/-! How many names, how long. -/
theorem putN_len (a : List (List UInt8)) (x : List UInt8) : (putN a x).length ≤ a.length + 1 := by
  unfold putN; split <;> simp
theorem foldN_len : ∀ (L a : List (List UInt8)), (L.foldl putN a).length ≤ a.length + L.length
  | [], _ => by simp
  | x :: r, a => by
    have h1 := foldN_len r (putN a x)
    have h2 := putN_len a x
    simp only [List.foldl_cons, List.length_cons]
    omega
theorem foldN_size {B : Nat} : ∀ (L : List (List UInt8)) {a : List (List UInt8)}, (∀ y ∈ a, y.length ≤ B) → (∀ x ∈ L, x.length ≤ B) → ∀ y ∈ L.foldl putN a, y.length ≤ B
  | [], _, ha, _ => ha
  | x :: r, a, ha, h => by
    refine foldN_size r ?_ (fun z hz => h z (by simp [hz]))
    unfold putN
    split
    · exact ha
    · intro y hy
      rcases List.mem_append.1 hy with hy | hy
      · exact ha y hy
      · obtain rfl : y = lower x := by simpa using hy
        rw [lower_len]; exact h x (by simp)

/-! An entry whose fields were selected. -/
theorem match_select (names : List (List UInt8)) (a b : List Fld) : matchB (selectL names a) b = (selectL names a == selectL names b) := by
  unfold matchB selectL
  rw [List.all_map]
  induction names with
  | nil => rfl
  | cons n r ih =>
    rw [List.all_cons, ih, List.map_cons, List.map_cons, List.cons_beq_cons]
    congr 1
    show (valueL a n == valueL b n) = ((n == n) && (valueL a n == valueL b n))
    simp
theorem match_self (names : List (List UInt8)) (a : List Fld) : matchB (selectL names a) a = true := by
  rw [match_select]; simp
theorem select_len (names : List (List UInt8)) (a : List Fld) : (selectL names a).length = names.length := by simp [selectL]

/-! A line of a list: tokens, blanks around each, a comma behind each. -/
/-- x stands for the tokens P: whatever stands behind it -/
def lineP (x : List UInt8) (P : List (List UInt8)) : Prop := ∀ (r : List UInt8) (A : List (List UInt8)), cutAt 44 (x ++ r) false false [] A = cutAt 44 r false false [] (A ++ P)
theorem lineP_nil : lineP [] [] := fun r A => by rw [List.nil_append, List.append_nil]
theorem trim_wide {g h t : List UInt8} (hg : gaps g) (hh : gaps h) (ht : token t = true) : trim (g ++ t ++ h) = t := by
  have hx := piece_token ht
  show rtrim (ltrim (g ++ t ++ h)) = t
  rw [List.append_assoc, ltrim_gap hg]
  have h1 : ltrim (t ++ h) = t ++ h := ltrim_idem_of fun c r e => by
    cases t with
    | nil => exact absurd rfl hx.ne
    | cons d q => exact (List.cons.inj e).1 ▸ hx.head d q rfl
  rw [h1, rtrim_gap t h hh]
  exact rtrim_idem_of hx.last
theorem lineP_put {x : List UInt8} {P : List (List UInt8)} (hx : lineP x P) {g h t : List UInt8} (hg : gaps g) (hh : gaps h) (ht : token t = true) : lineP (x ++ g ++ t ++ h ++ [44]) (P ++ [t]) := fun r A => by
  have hp := piece_token ht
  have e : x ++ g ++ t ++ h ++ [44] ++ r = x ++ (g ++ (t ++ (h ++ (44 :: r)))) := by simp
  rw [e, hx, cut_plain2 g _ _ _ (gap_plain hg), hp.bal, cut_plain2 h _ _ _ (gap_plain hh), cut_comma]
  rw [List.nil_append, show addP (A ++ P) (g ++ t ++ h) = A ++ (P ++ [t]) from by
    unfold addP
    rw [trim_wide hg hh ht, if_neg (by have := hp.ne; simp [this]), List.append_assoc]]
theorem lineP_split {x : List UInt8} {P : List (List UInt8)} (hx : lineP x P) (hl : P.length ≤ 64) : splitE x 44 = 0 ∧ splitL x 44 = P := by
  have hc : cutAt 44 x false false [] [] = some P := by
    have h := hx [] []
    rw [List.append_nil, List.nil_append] at h
    rw [h]
    simp [cutAt, addP, trim, ltrim, rtrim]
  have hb : badSep 44 = false := by decide
  refine ⟨?_, ?_⟩
  · unfold splitE; rw [if_neg (by rw [hb]; simp), hc]; simp only; rw [if_neg (by omega)]
  · unfold splitL; rw [if_neg (by rw [hb]; simp), hc]; simp only; rw [if_neg (by omega)]
theorem lineP_parts {x : List UInt8} {P : List (List UInt8)} (hx : lineP x P) (hl : P.length ≤ 64) : partsV x = P := by
  obtain ⟨h1, h2⟩ := lineP_split hx hl
  unfold partsV; rw [if_pos h1, h2]
theorem partsN_app (a b : List Fld) (n : List UInt8) : partsN (a ++ b) n = partsN a n ++ partsN b n := by
  unfold partsN valsL
  rw [List.filter_append, List.map_append, List.flatMap_append]
theorem partsN_one (f : Fld) (n : List UInt8) : partsN [f] n = if sameN f.1 n then partsV f.2 else [] := by
  unfold partsN valsL
  cases h : sameN f.1 n <;> simp [h]
end Go.Proofs.YtfobjaccpnondaaGreatDoor

/- 'append(l, x)' on texts beside blocks that stay: a slice of the call's own, lists that are read. -/
namespace Go.Proofs.YtfobjaccpnondaaGreatDoor
open Go.RowKit

theorem SL.keepG {w w' : World} {v : Value} {L : List (List UInt8)} (h : SL w v L) (hk : ∀ g, v.ownBlock = some g → w'.heap[g]? = w.heap[g]?) (hz : w.heap.size ≤ w'.heap.size) : SL w' v L := by
  rcases h with h | ⟨b, off, c, rfl, hb, hc⟩
  · exact .inl h
  · refine .inr ⟨b, off, c, rfl, by omega, fun j hj => ?_⟩
    rw [World.cell?_of_block (hk b rfl)]
    exact hc j hj
theorem SL.lt {w : World} {A : Option Addr} {n c : Nat} {L : List (List UInt8)} (h : SL w (.slice A n c) L) (hn : 0 < L.length) : ∀ g, (Value.slice A n c).ownBlock = some g → g < w.heap.size := by
  rcases h with ⟨rfl, _⟩ | ⟨b, off, c', hv, hb, hc⟩
  · cases hn
  · intro g hg
    cases hv
    have : b = g := by simpa [Value.ownBlock] using hg
    omega
/-- a list that is read, and the list that is made; what lies below stands -/
structure NR (w0 w : World) (vN : Value) (N : List (List UInt8)) (vM : Value) (M : List (List UInt8)) (o : Value) (acc : List (List UInt8)) : Prop where
  own : ownS w w0.heap.size o acc
  oN : ∀ g, vN.ownBlock = some g → o.ownBlock ≠ some g ∧ g < w.heap.size
  oM : ∀ g, vM.ownBlock = some g → o.ownBlock ≠ some g ∧ g < w.heap.size
  sN : SL w vN N
  sM : SL w vM M
  bel : Below w0.heap.size w0 w
theorem NR.call {w0 w w' : World} {vN vM o : Value} {N M acc : List (List UInt8)} (h : NR w0 w vN N vM M o acc) (hb : Below w.heap.size w w') : NR w0 w' vN N vM M o acc :=
  ⟨h.own.bel hb, fun g hg => ⟨(h.oN g hg).1, Nat.lt_of_lt_of_le (h.oN g hg).2 hb.size⟩, fun g hg => ⟨(h.oM g hg).1, Nat.lt_of_lt_of_le (h.oM g hg).2 hb.size⟩, h.sN.bel hb, h.sM.bel hb, h.bel.trans (hb.mono h.bel.size)⟩
/-- the second list is another one now: one made since -/
theorem NR.next {w0 w w' : World} {vN vM o u : Value} {N M acc U : List (List UInt8)} (h : NR w0 w vN N vM M o acc) (hb : Below w.heap.size w w') (hu : ownS w' w.heap.size u U) : NR w0 w' vN N u U o acc := by
  have h' := h.call hb
  refine ⟨h'.own, h'.oN, fun g hg => ⟨fun e => ?_, (World.ownsRow.lt hu g hg).2⟩, h'.sN, hu.sl, h'.bel⟩
  have h1 := (World.ownsRow.lt h.own g e).2
  have h2 := (World.ownsRow.lt hu g hg).1
  omega
theorem NR.drop {w0 w : World} {vN vM o : Value} {N M acc : List (List UInt8)} (h : NR w0 w vN N vM M o acc) : NR w0 w vN N (.slice none 0 0) [] o acc :=
  ⟨h.own, h.oN, fun g hg => by simp [Value.ownBlock] at hg, h.sN, SL_nil _, h.bel⟩
/-- a block is written (a map's), which none of them is -/
theorem NR.turn {w0 w w' : World} {vN vM o : Value} {N M acc : List (List UInt8)} {m : Nat} (h : NR w0 w vN N vM M o acc) (hg : w.grownBy w' (some m)) (hm : w0.heap.size ≤ m) (ho : o.ownBlock ≠ some m) (hN : vN.ownBlock ≠ some m) (hM : vM.ownBlock ≠ some m) : NR w0 w' vN N vM M o acc := by
  refine ⟨World.ownsRow.kept h.own hg (.inr ho), fun g hq => ⟨(h.oN g hq).1, Nat.lt_of_lt_of_le (h.oN g hq).2 hg.size⟩, fun g hq => ⟨(h.oM g hq).1, Nat.lt_of_lt_of_le (h.oM g hq).2 hg.size⟩, ?_, ?_, h.bel.grown hg h.bel.size (fun k hk => by cases hk; exact hm)⟩
  · exact h.sN.keepG (fun g hq => hg.block g (h.oN g hq).2 (fun e => hN (hq.trans e))) hg.size
  · exact h.sM.keepG (fun g hq => hg.block g (h.oM g hq).2 (fun e => hM (hq.trans e))) hg.size
/-- 'append(o, t)' beside them, and beside the blocks G -/
theorem wpList_appNR {w0 w : World} {ops : Array Oper} {rest : List Oper} {o : Oper} {a : Act} {Q : Exit → Act → World → Prop} (hgd : o.guard = none) (s x : Operand)
    (ho : o.op = .call { callee := .builtin .append, args := #[s, x], argTypes := #[36, 36] })
    (G : Nat → Prop) (v vN vM : Value) (N M l : List (List UInt8)) (t : List UInt8) (hs : a.eval s = v) (h : NR w0 w vN N vM M v l) (hG : ∀ g, G g → v.ownBlock ≠ some g ∧ g < w.heap.size)
    {g : Nat} (hx : a.eval x = .slice (some ⟨g, 0, none⟩) 1 1) (hlen : l.length + 1 ≤ 4294967296)
    (hc : ∀ v' w', Hid (NR w0 w' vN N vM M v' (l ++ [t])) → Hid (∀ k, G k → v'.ownBlock ≠ some k) → Hid (∀ k, G k → w'.heap[k]? = w.heap[k]?) → wpList Tryz.prog ops Q rest (a.put o.dst v') w') (hg : g = w.heap.size := by simp) :
    wpList Tryz.prog ops Q (o :: rest) a (w.alloc (.cells #[.string (bs t)] 9)) := by
  obtain ⟨i0, hi, hz0, hz1, hz2⟩ := info_parts infoS
  subst hg
  have hbase := h.bel.size
  refine wpList_append_lies _ hgd s x 36 ho w0.heap.size 9 i0 (.string ⟨#[]⟩) 1 16 Tryz.underlying36 hi hz0 hz1 hz2 rfl (by decide) v l.length _ hs (h.own.alloc _) ⟨w.heap.size, 0, none⟩ 1 1 [.string (bs t)] hx rfl
    (World.news_of_block (cs := #[.string (bs t)]) (t := 9) (fr := (0, 0)) (heap_alloc_new w _)) ?_ (by omega) ?_ ?_ ?_ (w.heap.size + 1) (by simp) ?_
  · intro v hv; simp at hv; subst hv; rfl
  · unfold maxLen; omega
  · omega
  · simp; omega
  · intro g cap w' h1 h2 hat hlt
    have hz := h2.size
    rw [World.size_alloc] at hz
    have hnew : ∀ k, v.ownBlock ≠ some k → k < w.heap.size → (Value.slice (some ⟨g, 0, none⟩) (l.length + 1) cap).ownBlock ≠ some k := by
      intro k hv hk e
      have hk' : g = k := by simpa [Value.ownBlock] using e
      subst hk'
      rcases hat with h3 | h3
      · exact hv h3
      · omega
    have hsame : ∀ k, v.ownBlock ≠ some k → k < w.heap.size → w'.heap[k]? = w.heap[k]? := by
      intro k hv hk
      rw [h2.block k (by simp; omega) (fun e => hv e.symm)]
      exact Below.heap_alloc _ _ _ hk
    refine hc _ w' ⟨?_, fun k hk => ⟨hnew k (h.oN k hk).1 (h.oN k hk).2, by have := (h.oN k hk).2; omega⟩, fun k hk => ⟨hnew k (h.oM k hk).1 (h.oM k hk).2, by have := (h.oM k hk).2; omega⟩, ?_, ?_, ?_⟩ (fun k hk => hnew k (hG k hk).1 (hG k hk).2) (fun k hk => hsame k (hG k hk).1 (hG k hk).2)
    · have : (l ++ [t]).length = l.length + 1 := by simp
      show ownS _ _ _ _
      unfold ownS
      rw [this]
      simpa [strCs] using h1
    · exact h.sN.keepG (fun k hk => hsame k (h.oN k hk).1 (h.oN k hk).2) (by omega)
    · exact h.sM.keepG (fun k hk => hsame k (h.oM k hk).1 (h.oM k hk).2) (by omega)
    · exact (h.bel.alloc hbase _).grown h2 (by simp; omega) (fun k hk => (World.ownsRow.lt h.own k hk).1)
end Go.Proofs.YtfobjaccpnondaaGreatDoor

/- Which elements name no field: the vary layer's nameless; the first element of which a function holds. -/
namespace Go.Proofs.YtfobjaccpnondaaGreatDoor
open Go.RowKit Go.Shelf

theorem beqV (a b : List UInt8) : ((bs a).toList == b) = (a == b) := by rw [Lib.toList_data, bs_data]
theorem beqVV (a b : List UInt8) : ((bs a).toList == (bs b).toList) = (a == b) := by rw [Lib.toList_data, Lib.toList_data, bs_data, bs_data]

theorem nameless_any (x : List UInt8) (w : World) (h : x.length ≤ 281474976710656) : Calls Tryz.prog 88 #[.string (bs x)] w fun e w' => e = .returned (.bool (namelessB x)) ∧ Below w.heap.size w w' := by
  have ht := fun W => token_l x W (by unfold maxLen; omega)
  have HD : Hid (namelessB x = (x == [42] || !token x)) := rfl
  cases hx : x == [42]
  · have hq : ((bs x).toList == [42]) = false := by rw [beqV]; exact hx
    cases hk : token x
    all_goals
      rw [hk] at ht
      rw [hx, hk] at HD
      have HT := Lib.hid ht; clear ht hx hk
      generalize bs x = s at *
      go_enter Tryz.func88, Tryz.ntmps88
      go_wp2_with (go_at_call 137; refine (HT.out _).mono ?_; rintro e w1 ⟨rfl, rfl⟩)
      go_ret
      exact ⟨ret_bool HD.out.symm, Below.refl _ _⟩
  · have hq : ((bs x).toList == [42]) = true := by rw [beqV]; exact hx
    rw [hx, Bool.true_or] at HD
    clear ht hx
    generalize bs x = s at *
    go_enter Tryz.func88, Tryz.ntmps88
    go_wp2_with fail
    go_ret
    exact ⟨ret_bool HD.out.symm, Below.refl _ _⟩
theorem eNameless : ∀ args w, (callFunc 88 args).run Tryz.prog w = .ok (.enter 88 args) w := enters_of Tryz.func88 (by kernel_rfl) rfl

/-- the place of the first text of which p holds -/
def placeT (L : List (List UInt8)) (p : List UInt8 → Bool) : Int := match L.findIdx? p with | some k => (k : Int) | none => -1
theorem placeT_any (L : List (List UInt8)) (p : List UInt8 → Bool) : decide (0 ≤ placeT L p) = L.any p := by
  unfold placeT
  cases h : L.findIdx? p with
  | some k =>
    obtain ⟨hk, hp, _⟩ := List.findIdx?_eq_some_iff_getElem.1 h
    rw [show L.any p = true from List.any_eq_true.2 ⟨L[k], List.getElem_mem hk, hp⟩]
    exact decide_eq_true (Int.natCast_nonneg k)
  | none =>
    rw [List.findIdx?_eq_none_iff] at h
    rw [show L.any p = false from List.any_eq_false.2 fun x hx => by rw [h x hx]; simp]
    rfl

set_option maxRecDepth 100000 in
set_option maxHeartbeats 2000000 in
theorem indexT_any (g : Nat) (eg : ∀ args w, (callFunc g args).run Tryz.prog w = .ok (.enter g args) w) (p : List UInt8 → Bool) (B : Nat)
    (hp : ∀ (x : List UInt8) (w : World), x.length ≤ B → Calls Tryz.prog g #[.string (bs x)] w fun e w' => e = .returned (.bool (p x)) ∧ Below w.heap.size w w')
    (v : Value) (L : List (List UInt8)) (w : World) (h : SL w v L) (hL : ∀ x ∈ L, x.length ≤ B) (hl : L.length ≤ 1048576) :
    Calls Tryz.prog 136 #[v, .func (.func g) #[] #[]] w fun e w' => e = .returned (.int .i64 (placeT L p)) ∧ Below w.heap.size w w' := by
  obtain ⟨A, c, rfl⟩ := h.form
  have HF := Lib.hid h; clear h
  have HP := Lib.hid hp; clear hp
  have HS := Lib.hid hL; clear hL
  go_enter Tryz.func136, Tryz.ntmps136
  go_wp2_with fail
  go_loopw [8] (fun i wr => ∃ k : Nat, k ≤ L.length ∧ i = .int .i64 k ∧ (∀ j (hj : j < k) (hk : k ≤ L.length), p (L[j]'(by omega)) = false) ∧ Below w.heap.size w wr) (fun i _ => L.length - (intOf i).toNat)
  case atStart => exact ⟨0, Nat.zero_le _, rfl, fun j hj => absurd hj (by omega), Below.refl _ _⟩
  case round =>
    obtain ⟨k, hk, rfl, hn, hb⟩ := hrel
    have HNo := Lib.hid hn; have HB := Lib.hid hb; clear hn hb
    by_cases hlt : k < L.length
    · obtain ⟨b, off, rfl, hbb, hc1⟩ := (HF.out.bel HB.out).get k hlt
      have hcall := HP.out L[k] wr (HS.out _ (List.getElem_mem hlt))
      cases hq : p L[k]
      · rw [hq] at hcall
        have HNN : Hid (∀ j (hj : j < k + 1) (hk : k + 1 ≤ L.length), p (L[j]'(by omega)) = false) := by
          intro j hj hk2
          rcases Nat.lt_or_eq_of_le (Nat.le_of_lt_succ hj) with h1 | h1
          · exact HNo.out j h1 (by omega)
          · subst h1; exact hq
        clear hq
        generalize L[k] = f at *
        have HCA := Lib.hid hcall; clear hcall
        go_wp2_with (go_at_fn g; refine HCA.out.mono ?_; rintro e w1 ⟨rfl, hb1⟩; have HB1 := Lib.hid (HB.out.trans (hb1.mono HB.out.size)); clear hb1)
        go_roundw
        case rel => exact ⟨k + 1, by omega, by go_num, HNN.out, HB1.out⟩
        case measure => simp [intOf]; omega
      · rw [hq] at hcall
        have HNN : Hid (placeT L p = (k : Int)) := by
          show _ = _
          unfold placeT
          rw [show L.findIdx? p = some k from List.findIdx?_eq_some_iff_getElem.2 ⟨hlt, hq, fun j hj => by rw [HNo.out j hj (by omega)]; simp⟩]
        clear hq
        generalize L[k] = f at *
        have HCA := Lib.hid hcall; clear hcall
        go_wp2_with (go_at_fn g; refine HCA.out.mono ?_; rintro e w1 ⟨rfl, hb1⟩; have HB1 := Lib.hid (HB.out.trans (hb1.mono HB.out.size)); clear hb1)
        go_ret
        exact ⟨ret_i64 HNN.out.symm, HB1.out⟩
    · have HNN : Hid (placeT L p = -1) := by
        show _ = _
        unfold placeT
        rw [show L.findIdx? p = none from List.findIdx?_eq_none_iff.2 fun x hx => by
          obtain ⟨j, hj, rfl⟩ := List.getElem_of_mem hx
          exact HNo.out j (by omega) (by omega)]
      go_wp2_with fail
      go_ret
      exact ⟨ret_i64 HNN.out.symm, HB.out⟩

theorem containsT_any (g : Nat) (eg : ∀ args w, (callFunc g args).run Tryz.prog w = .ok (.enter g args) w) (p : List UInt8 → Bool) (B : Nat)
    (hp : ∀ (x : List UInt8) (w : World), x.length ≤ B → Calls Tryz.prog g #[.string (bs x)] w fun e w' => e = .returned (.bool (p x)) ∧ Below w.heap.size w w')
    (v : Value) (L : List (List UInt8)) (w : World) (h : SL w v L) (hL : ∀ x ∈ L, x.length ≤ B) (hl : L.length ≤ 1048576) :
    Calls Tryz.prog 87 #[v, .func (.func g) #[] #[]] w fun e w' => e = .returned (.bool (L.any p)) ∧ Below w.heap.size w w' := by
  have HI := Lib.hid (indexT_any g eg p B hp v L w h hL hl)
  have HA := Lib.hid (placeT_any L p)
  obtain ⟨A, c, rfl⟩ := h.form
  clear h hL hp
  generalize placeT L p = q at *
  generalize L.any p = z at *
  go_enter Tryz.func87, Tryz.ntmps87
  go_wp2_with (go_at_call 136; refine HI.out.mono ?_; rintro e w1 ⟨rfl, hb1⟩; have HB1 := Lib.hid hb1; clear hb1)
  go_ret
  exact ⟨ret_bool HA.out, HB1.out⟩
end Go.Proofs.YtfobjaccpnondaaGreatDoor

/- The names of a reply: the vary layer's Names (a map of what is known). -/
namespace Go.Proofs.YtfobjaccpnondaaGreatDoor
open Go.RowKit

def varyN : List UInt8 := [118, 97, 114, 121]
/-- fields as long as may be -/
def VfB (l : List Fld) : Prop := l.length ≤ 1000 ∧ ∀ f ∈ l, f.1.length ≤ 65536 ∧ f.2.length ≤ 65536
theorem VfB.small {l : List Fld} (h : VfB l) : smallF l := fun j hj => by
  have := h.2 l[j] (List.getElem_mem hj); omega
theorem VfB.vals {l : List Fld} (h : VfB l) (n : List UInt8) : (valsL l n).length ≤ 1000 ∧ ∀ v ∈ valsL l n, v.length ≤ 65536 := by
  refine ⟨Nat.le_trans (vals_len l n) h.1, fun v hv => ?_⟩
  unfold valsL at hv
  obtain ⟨f, hf, rfl⟩ := List.mem_map.1 hv
  exact (h.2 f (List.mem_filter.1 hf).1).2
theorem flat_memV {x : List UInt8} : ∀ {L : List (List UInt8)}, x ∈ L → x.length ≤ L.flatten.length
  | [], h => by cases h
  | y :: r, h => by
    rw [List.flatten_cons, List.length_append]
    rcases List.mem_cons.1 h with rfl | h
    · omega
    · have := flat_memV h; omega
theorem splitL_mem {v x : List UInt8} (h : x ∈ splitL v 44) : x.length ≤ v.length := Nat.le_trans (flat_memV h) (splitL_flat v 44)
theorem foldV_len : ∀ (vs a : List (List UInt8)), (vs.foldl putV a).length ≤ a.length + 64 * vs.length
  | [], _ => by simp
  | v :: r, a => by
    have h1 := foldV_len r (putV a v)
    have h2 : (putV a v).length ≤ a.length + (splitL v 44).length := foldN_len _ _
    have h3 := splitL_len v 44
    simp only [List.foldl_cons, List.length_cons]
    omega
theorem putV_step {N : List (List UInt8)} {k : Nat} (h : k < N.length) : (N.take (k + 1)).foldl putV [] = (splitL N[k] 44).foldl putN ((N.take k).foldl putV []) := by
  rw [List.take_succ_eq_append_getElem h, List.foldl_append]; rfl
theorem putN_step {M : List (List UInt8)} {a : List (List UInt8)} {j : Nat} (h : j < M.length) : (M.take (j + 1)).foldl putN a = putN ((M.take j).foldl putN a) M[j] := by
  rw [List.take_succ_eq_append_getElem h, List.foldl_append]; rfl
theorem allB_is {N : List (List UInt8)} {k : Nat} (h : k < N.length) (hb : badV N[k] = true) : allB N = true := List.any_eq_true.2 ⟨N[k], List.getElem_mem h, hb⟩
theorem allB_next {N : List (List UInt8)} {k : Nat} (h : k < N.length) (ht : allB (N.take k) = false) (hb : badV N[k] = false) : allB (N.take (k + 1)) = false := by
  unfold allB at ht ⊢
  rw [List.take_succ_eq_append_getElem h, List.any_append, ht]
  simp [hb]
/-- names, and whether they are all -/
def RetN (w : World) (vs : List (List UInt8)) (e : Ending) (w' : World) : Prop := ∃ v', e = .returned (.tuple #[v', .bool (!allB vs)]) ∧ ownS w' w.heap.size v' (namesA vs) ∧ Below w.heap.size w w'
theorem RetN.bad {w w' : World} {N : List (List UInt8)} (h : allB N = true) (hb : Below w.heap.size w w') : RetN w N (.returned (.tuple #[.slice none 0 0, .bool false])) w' := by
  refine ⟨_, by rw [h]; rfl, ?_, hb⟩
  unfold namesA; rw [h]; exact ownS_nil _ _
theorem RetN.good {w w' : World} {N : List (List UInt8)} {v : Value} (h : allB N = false) (ho : ownS w' w.heap.size v (N.foldl putV [])) (hb : Below w.heap.size w w') : RetN w N (.returned (.tuple #[v, .bool true])) w' := by
  refine ⟨_, by rw [h]; rfl, ?_, hb⟩
  unfold namesA namesOf; rw [h]; exact ho
theorem split44 (x : List UInt8) (w : World) (h : x.length ≤ 4294967290) : Calls Tryz.prog 86 #[.string (bs x), .int .u8 44] w (SplitPost x 44 w) := by
  have := split_any (bs x) 44 w (by rw [bs_size]; omega)
  rwa [bs_data] at this
theorem rsplit44V (x : List UInt8) (w : World) (h : x.length ≤ 4294967290) : Calls Tryz.prog 53 #[.string (bs x), .int .u8 44] w (SplitPost x 44 w) := by
  have := rsplit_any (bs x) 44 w (by rw [bs_size]; omega)
  rwa [bs_data] at this

/-- a map's block, beside the lists -/
structure MN (w0 w : World) (m : Nat) (vN vM o : Value) (L : List (List UInt8)) : Prop where
  low : w0.heap.size ≤ m
  oo : o.ownBlock ≠ some m
  nN : vN.ownBlock ≠ some m
  nM : vM.ownBlock ≠ some m
  map : mapAt w m L.length L
theorem MN.call {w0 w w' : World} {m : Nat} {vN vM o : Value} {L : List (List UInt8)} (h : MN w0 w m vN vM o L) (hb : Below w.heap.size w w') : MN w0 w' m vN vM o L := ⟨h.low, h.oo, h.nN, h.nM, h.map.bel hb⟩
theorem MN.next {w0 w w' : World} {m : Nat} {vN vM o u : Value} {L U : List (List UInt8)} (h : MN w0 w m vN vM o L) (hb : Below w.heap.size w w') (hu : ownS w' w.heap.size u U) : MN w0 w' m vN u o L :=
  ⟨h.low, h.oo, h.nN, fun e => by have h1 := (World.ownsRow.lt hu m e).1; have h2 := h.map.lt; omega, h.map.bel hb⟩
theorem MN.drop {w0 w : World} {m : Nat} {vN vM o : Value} {L : List (List UInt8)} (h : MN w0 w m vN vM o L) : MN w0 w m vN (.slice none 0 0) o L := ⟨h.low, h.oo, h.nN, by simp [Value.ownBlock], h.map⟩
theorem mapAt.keepV {w w' : World} {m k : Nat} {L : List (List UInt8)} (h : mapAt w m k L) (hk : w'.heap[m]? = w.heap[m]?) : mapAt w' m k L := by
  obtain ⟨es, clock, h1, h2⟩ := h
  exact ⟨es, clock, hk.trans h1, h2⟩

set_option maxRecDepth 100000 in
set_option maxHeartbeats 8000000 in
theorem vnames_any {v : Value} {l : List Fld} {st mi : Int} {re bo : ByteArray} (w : World) (hv : FL w v l) (hs : VfB l) :
    Calls Tryz.prog 41 #[.agg #[.int .i64 st, .string re, .int .i64 mi, v, .string bo]] w (RetN w (valsL l varyN)) := by
  obtain ⟨A, c, rfl⟩ := hv.form
  have hmk := @run_makeMap Tryz.prog
  have hb0 : Below w.heap.size w ((w.alloc (.cells #[.int .i64 st, .string re, .int .i64 mi, .slice A l.length c, .string bo] 26)).alloc (.map #[] 0)) := ((Below.refl _ _).alloc (Nat.le_refl _) _).alloc (by simp) _
  have hva := values_any (.slice A l.length c) l varyN _ (hv.bel hb0) hs.small (by have := hs.1; omega) (by decide)
  obtain ⟨hNl, hNs⟩ := hs.vals varyN
  have hmp := (mapAt_new (w.alloc (.cells #[.int .i64 st, .string re, .int .i64 mi, .slice A l.length c, .string bo] 26)))
  rw [World.size_alloc] at hmp
  have hsz : ((w.alloc (.cells #[.int .i64 st, .string re, .int .i64 mi, .slice A l.length c, .string bo] 26)).alloc (.map #[] 0)).heap.size = w.heap.size + 2 := by simp
  have HVA := Lib.hid hva; have HB0 := Lib.hid hb0; have HMP := Lib.hid hmp; have HSZ := Lib.hid hsz; have HNS := Lib.hid hNs; have HNL := Lib.hid hNl
  clear hva hb0 hmp hsz hv hs hNs hNl
  generalize valsL l varyN = N at *
  go_enter Tryz.func41, Tryz.ntmps41
  go_wp2_with fail
  clear hmk
  refine HVA.out.mono ?_
  rintro e w1 ⟨vN, rfl, hoN, hb1⟩
  have hNR1 : NR w w1 vN N (.slice none 0 0) [] (.slice none 0 0) [] :=
    ⟨ownS_nil _ _, fun g hg => ⟨by simp [Value.ownBlock], (World.ownsRow.lt hoN g hg).2⟩, fun g hg => by simp [Value.ownBlock] at hg, hoN.sl, SL_nil _, HB0.out.trans (hb1.mono HB0.out.size)⟩
  have hMN1 : MN w w1 (w.heap.size + 1) vN (.slice none 0 0) (.slice none 0 0) [] :=
    ⟨Nat.le_succ _, by simp [Value.ownBlock], fun e => by have h := (World.ownsRow.lt hoN _ e).1; rw [HSZ.out] at h; omega, by simp [Value.ownBlock], HMP.out.bel hb1⟩
  obtain ⟨A1, c1, rfl⟩ := hoN.form
  have HNR1 := Lib.hid hNR1; have HMN1 := Lib.hid hMN1
  clear hNR1 hMN1 hoN hb1 HVA HB0 HMP HSZ
  go_wp2_with fail
  go_loopw [4, 20] (fun o i wr => ∃ k : Nat, k ≤ N.length ∧ i = .int .i64 k ∧ allB (N.take k) = false ∧ NR w wr (.slice A1 N.length c1) N (.slice none 0 0) [] o ((N.take k).foldl putV []) ∧ MN w wr (w.heap.size + 1) (.slice A1 N.length c1) (.slice none 0 0) o ((N.take k).foldl putV [])) (fun _ i _ => N.length - (intOf i).toNat)
  case atStart => exact ⟨0, Nat.zero_le _, rfl, rfl, HNR1.out, HMN1.out⟩
  case round =>
    obtain ⟨k, hk, rfl, ha, hnr, hmn⟩ := hrel
    have HA := Lib.hid ha; have HNR := Lib.hid hnr; have HMN := Lib.hid hmn
    clear ha hnr hmn HNR1 HMN1
    have hNl := HNL.out
    by_cases hlt : k < N.length
    · obtain ⟨b, off, rfl, hbb, hc⟩ := HNR.out.sN.get k hlt
      have hxl := HNS.out N[k] (List.getElem_mem hlt)
      have HST := Lib.hid (putV_step hlt)
      have HBI : Hid (badV N[k] = true → allB N = true) := allB_is hlt
      have HBN : Hid (badV N[k] = false → allB (N.take (k + 1)) = false) := allB_next hlt HA.out
      have hfl := foldV_len (N.take k) []
      have htl : (N.take k).length ≤ N.length := List.length_take_le' _ _
      have HFL : Hid (((N.take k).foldl putV []).length ≤ 64000) := by show _ ≤ _; simp only [List.length_nil] at hfl; omega
      generalize N[k] = x at *
      generalize (N.take k).foldl putV [] = acc at *
      have hsp := fun W => split44 x W (by omega)
      have HML := Lib.hid (splitL_len x 44)
      have HMS : Hid (∀ y ∈ splitL x 44, y.length ≤ 65536) := fun y hy => by have := splitL_mem hy; omega
      have HBD : Hid (badV x = (splitE x 44 != 0 || (splitL x 44).any namelessB)) := rfl
      have HSP := Lib.hid hsp
      clear hsp hxl hfl htl
      rcases (show splitE x 44 = 0 ∨ splitE x 44 ≠ 0 from Decidable.em _) with hE | hE
      · have HS2 : Hid (∀ W, Calls Tryz.prog 86 #[.string (bs x), .int .u8 44] W fun e w' => ∃ v, e = .returned (.tuple #[v, .int .i64 0]) ∧ ownS w' W.heap.size v (splitL x 44) ∧ Below W.heap.size W w') := fun W => by have h := HSP.out W; unfold SplitPost at h; rw [hE] at h; exact h
        rw [hE] at HBD
        clear HSP hE
        generalize splitL x 44 = M at *
        have HCF := Lib.hid fun v W (h : SL W v M) => containsT_any 88 eNameless namelessB 65536 (fun x w hx => nameless_any x w (by omega)) v M W h HMS.out (by have := HML.out; omega)
        cases hn : M.any namelessB
        · rw [hn] at HCF
          have HBN2 : Hid (allB (N.take (k + 1)) = false) := HBN.out (by rw [HBD.out, hn]; rfl)
          clear hn HBD HBN HBI
          go_wp2_with (go_at_call 86; refine (HS2.out _).mono ?_; rintro e w3 ⟨vM, rfl, hoM, hb3⟩; have HNR3 := Lib.hid (HNR.out.next hb3 hoM); have HMN3 := Lib.hid (HMN.out.next hb3 hoM); obtain ⟨A3, c3, rfl⟩ := hoM.form; clear hb3 hoM HNR HMN)
          go_wp2_with (go_at_call 87; refine (HCF.out _ _ HNR3.out.sM).mono ?_; rintro e w4 ⟨rfl, hb4⟩; have HNR4 := Lib.hid (HNR3.out.call hb4); have HMN4 := Lib.hid (HMN3.out.call hb4); clear hb4 HNR3 HMN3)
          go_loopw [4, 37] (fun o i wr => ∃ j : Nat, j ≤ M.length ∧ i = .int .i64 j ∧ NR w wr (.slice (some ⟨b, off, none⟩) N.length c1) N (.slice A3 M.length c3) M o ((M.take j).foldl putN acc) ∧ MN w wr (w.heap.size + 1) (.slice (some ⟨b, off, none⟩) N.length c1) (.slice A3 M.length c3) o ((M.take j).foldl putN acc)) (fun _ i _ => M.length - (intOf i).toNat)
          case atStart => exact ⟨0, Nat.zero_le _, rfl, HNR4.out, HMN4.out⟩
          case round =>
            obtain ⟨j, hj, rfl, hnr, hmn⟩ := hrel
            have HNR := Lib.hid hnr; have HMN := Lib.hid hmn
            clear hnr hmn HNR4 HMN4
            by_cases hjt : j < M.length
            · obtain ⟨b2, off2, rfl, hbb2, hc2⟩ := HNR.out.sM.get j hjt
              have hMl := HML.out
              have hyl := HMS.out M[j] (List.getElem_mem hjt)
              have HSN := Lib.hid (putN_step (a := acc) hjt)
              have hfl := foldN_len (M.take j) acc
              have htl : (M.take j).length ≤ M.length := List.length_take_le' _ _
              have HQL : Hid (((M.take j).foldl putN acc).length + 1 ≤ 100000) := by show _ ≤ _; have := HML.out; have := HFL.out; omega
              generalize M[j] = y at *
              generalize (M.take j).foldl putN acc = cur at *
              have HLO := Lib.hid (fun W => lower_l y W (by unfold maxLen; omega))
              have HPN : Hid (putN cur y = if cur.any (· == lower y) then cur else cur ++ [lower y]) := rfl
              have HLL : Hid ((lower y).length ≤ 65536) := by show _ ≤ _; rw [lower_len]; exact hyl
              generalize lower y = nm at *
              clear hfl htl hyl
              cases hh : cur.any (· == nm)
              · rw [hh] at HPN
                simp only [Bool.false_eq_true, if_false] at HPN
                go_wp2_with (first
                  | (go_at_call 70; refine (HLO.out _).mono ?_; rintro e w5 ⟨rfl, hb5⟩; have HNR5 := Lib.hid (HNR.out.call hb5); have HMN5 := Lib.hid (HMN.out.call hb5); have hlk := HMN5.out.map.look nm (by have := HLL.out; unfold maxLen; omega); rw [hh] at hlk; have hal5 : Below w5.heap.size w5 (w5.alloc (.cells #[] 101)) := (Below.refl _ _).alloc (Nat.le_refl _) _; have HNR6 := Lib.hid (HNR5.out.call hal5); have HMN6 := Lib.hid (HMN5.out.call hal5); clear hal5 HNR5 HMN5 hb5 HNR HMN; obtain ⟨w7, hrun, hm7, hg7⟩ := HMN6.out.map.put nm (by have := HLL.out; unfold maxLen; omega) (by have := HQL.out; unfold maxLen; omega); have HNR7 := Lib.hid (HNR6.out.turn hg7 HMN6.out.low HMN6.out.oo HMN6.out.nN HMN6.out.nM); have HMP7 : Hid (mapAt w7 (w.heap.size + 1) (cur ++ [nm]).length (cur ++ [nm])) := (by show mapAt _ _ _ _; rw [List.length_append]; exact hm7); have HMO := Lib.hid HMN6.out.oo; have HMQ := Lib.hid HMN6.out.nN; have HMR := Lib.hid HMN6.out.nM; have HLW := Lib.hid HMN6.out.low; clear hm7 hg7 hh HNR6 HMN6)
                  | (at_builtin; refine wpList_appNR rfl (.tmp 54) (.tmp 56) rfl (fun g => g = w.heap.size + 1) _ _ _ N M cur nm rfl HNR7.out (fun g hg => ⟨by rw [hg]; exact HMO.out, by rw [hg]; exact HMP7.out.lt⟩) rfl (by have := HQL.out; omega) ?_; intro v' w8 HNR8 HG8 HK8; have HMN8 : Hid (MN w w8 (w.heap.size + 1) _ _ v' (cur ++ [nm])) := ⟨HLW.out, HG8.out _ rfl, HMQ.out, HMR.out, HMP7.out.keepV (HK8.out _ rfl)⟩))
                go_roundw
                case rel => exact ⟨j + 1, by omega, by go_num, by rw [HSN.out, HPN.out]; exact HNR8.out, by rw [HSN.out, HPN.out]; exact HMN8.out⟩
                case measure => simp [intOf]; omega
              · rw [hh] at HPN
                simp only [if_true] at HPN
                go_wp2_with (go_at_call 70; refine (HLO.out _).mono ?_; rintro e w5 ⟨rfl, hb5⟩; have HNR5 := Lib.hid (HNR.out.call hb5); have HMN5 := Lib.hid (HMN.out.call hb5); have hlk := HMN5.out.map.look nm (by have := HLL.out; unfold maxLen; omega); rw [hh] at hlk; have hal5 : Below w5.heap.size w5 (w5.alloc (.cells #[] 101)) := (Below.refl _ _).alloc (Nat.le_refl _) _; have HNR6 := Lib.hid (HNR5.out.call hal5); have HMN6 := Lib.hid (HMN5.out.call hal5); clear hal5 HNR5 HMN5 hb5 HNR HMN; clear hh)
                go_roundw
                case rel => exact ⟨j + 1, by omega, by go_num, by rw [HSN.out, HPN.out]; exact HNR6.out, by rw [HSN.out, HPN.out]; exact HMN6.out⟩
                case measure => simp [intOf]; omega
            · have HE2 : Hid ((M.take j).foldl putN acc = M.foldl putN acc) := by show _ = _; rw [List.take_of_length_le (by omega)]
              go_wp2_with fail
              go_roundw
              case rel => exact ⟨k + 1, by omega, by go_num, HBN2.out, by rw [HST.out, ← HE2.out]; exact HNR.out.drop, by rw [HST.out, ← HE2.out]; exact HMN.out.drop⟩
              case measure => simp [intOf]; omega
        · rw [hn] at HCF
          have HBI2 : Hid (allB N = true) := HBI.out (by rw [HBD.out, hn]; rfl)
          clear hn HBD HBN HBI
          go_wp2_with (go_at_call 86; refine (HS2.out _).mono ?_; rintro e w3 ⟨vM, rfl, hoM, hb3⟩; have HNR3 := Lib.hid (HNR.out.next hb3 hoM); obtain ⟨A3, c3, rfl⟩ := hoM.form; clear hb3 hoM HNR HMN)
          go_wp2_with (go_at_call 87; refine (HCF.out _ _ HNR3.out.sM).mono ?_; rintro e w4 ⟨rfl, hb4⟩; have HB4 := Lib.hid (HNR3.out.call hb4).bel; clear hb4 HNR3)
          go_ret2
          exact RetN.bad HBI2.out HB4.out
      · have hne : (splitE x 44 != 0) = true := bne_iff_ne.2 hE
        have HBI2 : Hid (allB N = true) := HBI.out (by rw [HBD.out, hne]; rfl)
        clear HBD HBN HBI hE
        have HS2 := HSP
        unfold SplitPost at HS2
        clear HSP
        generalize splitE x 44 = E at *
        generalize splitL x 44 = M at *
        go_wp2_with (go_at_call 86; refine (HS2.out _).mono ?_; rintro e w3 ⟨vM, rfl, hoM, hb3⟩; have HB3 := Lib.hid (HNR.out.call hb3).bel; obtain ⟨A3, c3, rfl⟩ := hoM.form; clear hb3 hoM HNR HMN)
        go_ret2
        exact RetN.bad HBI2.out HB3.out
    · have HE : Hid (N.take k = N) := List.take_of_length_le (by omega)
      go_wp2_with fail
      go_ret2
      exact RetN.good (by rw [← HE.out]; exact HA.out) (by rw [← HE.out]; exact HNR.out.own) HNR.out.bel
end Go.Proofs.YtfobjaccpnondaaGreatDoor

/- The document's names of a reply. -/
namespace Go.Proofs.YtfobjaccpnondaaGreatDoor
open Go.RowKit

theorem anyT_snoc {E : List (List UInt8)} {p : List UInt8 → Bool} {k : Nat} (h : k < E.length) (hp : (E.take k).any p = false) (hq : p E[k] = false) : (E.take (k + 1)).any p = false := by
  rw [List.take_succ_eq_append_getElem h, List.any_append, hp]; simp [hq]
theorem anyT_is {E : List (List UInt8)} {p : List UInt8 → Bool} {k : Nat} (h : k < E.length) (hq : p E[k] = true) : E.any p = true := List.any_eq_true.2 ⟨E[k], List.getElem_mem h, hq⟩

set_option maxRecDepth 100000 in
set_option maxHeartbeats 1000000 in
theorem rin_any (v : Value) (L : List (List UInt8)) (s : List UInt8) (w : World) (h : SL w v L) (hl : L.length ≤ 4294967296) :
    Calls Tryz.prog 56 #[v, .string (bs s)] w fun e w' => e = .returned (.bool (L.any (· == s))) ∧ Below w.heap.size w w' := by
  obtain ⟨A, c, rfl⟩ := h.form
  have HS := Lib.hid h
  clear h
  go_enter Tryz.func56, Tryz.ntmps56
  go_wp2_with fail
  go_loopw [5] (fun i wr => ∃ k : Nat, k ≤ L.length ∧ i = .int .i64 k ∧ (L.take k).any (· == s) = false ∧ Below w.heap.size w wr) (fun i _ => L.length - (intOf i).toNat)
  case atStart => exact ⟨0, Nat.zero_le _, rfl, rfl, Below.refl _ _⟩
  case round =>
    obtain ⟨k, hk, rfl, ht, hb⟩ := hrel
    have HT := Lib.hid ht; have HB := Lib.hid hb; clear ht hb
    by_cases hlt : k < L.length
    · obtain ⟨b, off, rfl, _, hc⟩ := (HS.out.bel HB.out).get k hlt
      have HN : Hid ((L[k] == s) = false → (L.take (k + 1)).any (· == s) = false) := fun h => anyT_snoc hlt HT.out h
      have HI : Hid ((L[k] == s) = true → L.any (· == s) = true) := fun h => anyT_is (p := (· == s)) hlt h
      have hq := beqVV L[k] s
      generalize L[k] = x at *
      cases hx : x == s
      · rw [hx] at hq
        have HN2 := Lib.hid (HN.out hx)
        clear hx HN HI
        generalize bs x = xx at *
        generalize bs s = ss at *
        go_wp2_with fail
        go_roundw
        case rel => exact ⟨k + 1, by omega, by go_num, HN2.out, HB.out⟩
        case measure => simp [intOf]; omega
      · rw [hx] at hq
        have HI2 := Lib.hid (HI.out hx)
        clear hx HN HI
        generalize bs x = xx at *
        generalize bs s = ss at *
        go_wp2_with fail
        go_ret
        exact ⟨ret_bool HI2.out.symm, HB.out⟩
    · have HE : Hid (L.any (· == s) = false) := by have := HT.out; rwa [List.take_of_length_le (by omega)] at this
      go_wp2_with fail
      go_ret
      exact ⟨ret_bool HE.out.symm, HB.out⟩
theorem rtokenV (x : List UInt8) (w : World) (h : x.length ≤ maxLen) : Calls Tryz.prog 54 #[.string (bs x)] w fun e w' => e = .returned (.bool (token x)) ∧ w = w' := by
  have := rtoken_any (bs x) w (by rw [bs_size]; exact h)
  rwa [bs_data] at this

set_option maxRecDepth 100000 in
set_option maxHeartbeats 8000000 in
theorem rvnames_any {v : Value} {l : List Fld} {st mi : Int} {re bo : ByteArray} (w : World) (hv : FL w v l) (hs : VfB l) :
    Calls Tryz.prog 19 #[.agg #[.int .i64 st, .string re, .int .i64 mi, v, .string bo]] w (RetN w (valsL l varyN)) := by
  obtain ⟨A, c, rfl⟩ := hv.form
  have hb0 : Below w.heap.size w (w.alloc (.cells #[.int .i64 st, .string re, .int .i64 mi, .slice A l.length c, .string bo] 26)) := (Below.refl _ _).alloc (Nat.le_refl _) _
  have hva := rvalues_any (.slice A l.length c) l varyN _ (hv.bel hb0) hs.small (by have := hs.1; omega) (by decide)
  obtain ⟨hNl, hNs⟩ := hs.vals varyN
  have HVA := Lib.hid hva; have HB0 := Lib.hid hb0; have HNS := Lib.hid hNs; have HNL := Lib.hid hNl
  clear hva hb0 hv hs hNs hNl
  generalize valsL l varyN = N at *
  go_enter Tryz.func19, Tryz.ntmps19
  go_wp2_with fail
  refine HVA.out.mono ?_
  rintro e w1 ⟨vN, rfl, hoN, hb1⟩
  have hNR1 : NR w w1 vN N (.slice none 0 0) [] (.slice none 0 0) [] :=
    ⟨ownS_nil _ _, fun g hg => ⟨by simp [Value.ownBlock], (World.ownsRow.lt hoN g hg).2⟩, fun g hg => by simp [Value.ownBlock] at hg, hoN.sl, SL_nil _, HB0.out.trans (hb1.mono HB0.out.size)⟩
  obtain ⟨A1, c1, rfl⟩ := hoN.form
  have HNR1 := Lib.hid hNR1
  clear hNR1 hoN hb1 HVA HB0
  go_wp2_with fail
  go_loopw [4, 6] (fun o i wr => ∃ k : Nat, k ≤ N.length ∧ i = .int .i64 k ∧ allB (N.take k) = false ∧ NR w wr (.slice A1 N.length c1) N (.slice none 0 0) [] o ((N.take k).foldl putV [])) (fun _ i _ => N.length - (intOf i).toNat)
  case atStart => exact ⟨0, Nat.zero_le _, rfl, rfl, HNR1.out⟩
  case round =>
    obtain ⟨k, hk, rfl, ha, hnr⟩ := hrel
    have HA := Lib.hid ha; have HNR := Lib.hid hnr
    clear ha hnr HNR1
    have hNl := HNL.out
    by_cases hlt : k < N.length
    · obtain ⟨b, off, rfl, hbb, hc⟩ := HNR.out.sN.get k hlt
      have hxl := HNS.out N[k] (List.getElem_mem hlt)
      have HST := Lib.hid (putV_step hlt)
      have HBI : Hid (badV N[k] = true → allB N = true) := allB_is hlt
      have HBN : Hid (badV N[k] = false → allB (N.take (k + 1)) = false) := allB_next hlt HA.out
      have hfl := foldV_len (N.take k) []
      have htl : (N.take k).length ≤ N.length := List.length_take_le' _ _
      have HFL : Hid (((N.take k).foldl putV []).length ≤ 64000) := by show _ ≤ _; simp only [List.length_nil] at hfl; omega
      generalize N[k] = x at *
      generalize (N.take k).foldl putV [] = acc at *
      have hsp := fun W => rsplit44V x W (by omega)
      have HML := Lib.hid (splitL_len x 44)
      have HMS : Hid (∀ y ∈ splitL x 44, y.length ≤ 65536) := fun y hy => by have := splitL_mem hy; omega
      have HBD : Hid (badV x = (splitE x 44 != 0 || (splitL x 44).any namelessB)) := rfl
      have HSP := Lib.hid hsp
      clear hsp hxl hfl htl
      rcases (show splitE x 44 = 0 ∨ splitE x 44 ≠ 0 from Decidable.em _) with hE | hE
      · have HS2 : Hid (∀ W, Calls Tryz.prog 53 #[.string (bs x), .int .u8 44] W fun e w' => ∃ v, e = .returned (.tuple #[v, .int .i64 0]) ∧ ownS w' W.heap.size v (splitL x 44) ∧ Below W.heap.size W w') := fun W => by have h := HSP.out W; unfold SplitPost at h; rw [hE] at h; exact h
        rw [hE] at HBD
        clear HSP hE
        generalize splitL x 44 = M at *
        have HBT : Hid (M.any namelessB = true → allB N = true) := fun h => HBI.out (by rw [HBD.out, h]; rfl)
        have HBF : Hid (M.any namelessB = false → allB (N.take (k + 1)) = false) := fun h => HBN.out (by rw [HBD.out, h]; rfl)
        clear HBD HBI HBN
        go_wp2_with (go_at_call 53; refine (HS2.out _).mono ?_; rintro e w3 ⟨vM, rfl, hoM, hb3⟩; have HNR3 := Lib.hid (HNR.out.next hb3 hoM); obtain ⟨A3, c3, rfl⟩ := hoM.form; clear hb3 hoM HNR)
        go_loopw [4, 9] (fun o i wr => ∃ j : Nat, j ≤ M.length ∧ i = .int .i64 j ∧ (M.take j).any namelessB = false ∧ NR w wr (.slice (some ⟨b, off, none⟩) N.length c1) N (.slice A3 M.length c3) M o ((M.take j).foldl putN acc)) (fun _ i _ => M.length - (intOf i).toNat)
        case atStart => exact ⟨0, Nat.zero_le _, rfl, rfl, HNR3.out⟩
        case round =>
          obtain ⟨j, hj, rfl, hnn, hnr⟩ := hrel
          have HNN := Lib.hid hnn; have HNR := Lib.hid hnr
          clear hnn hnr HNR3
          by_cases hjt : j < M.length
          · obtain ⟨b2, off2, rfl, hbb2, hc2⟩ := HNR.out.sM.get j hjt
            have hMl := HML.out
            have hyl := HMS.out M[j] (List.getElem_mem hjt)
            have HSN := Lib.hid (putN_step (a := acc) hjt)
            have HTN : Hid (namelessB M[j] = false → (M.take (j + 1)).any namelessB = false) := fun h => anyT_snoc hjt HNN.out h
            have HTI : Hid (namelessB M[j] = true → allB N = true) := fun h => HBT.out (anyT_is hjt h)
            have hfl := foldN_len (M.take j) acc
            have htl : (M.take j).length ≤ M.length := List.length_take_le' _ _
            have HQL : Hid (((M.take j).foldl putN acc).length + 1 ≤ 100000) := by show _ ≤ _; have := HFL.out; omega
            generalize M[j] = y at *
            generalize (M.take j).foldl putN acc = cur at *
            have HDN : Hid (namelessB y = (y == [42] || !token y)) := rfl
            have htk := fun W => rtokenV y W (by unfold maxLen; omega)
            have hst := beqV y [42]
            have HB2 := Lib.hid HNR.out.bel
            cases hx : y == [42]
            · rw [hx] at hst HDN
              cases hk : token y
              · rw [hk] at htk HDN
                have HTI2 := Lib.hid (HTI.out HDN.out)
                have HTK := Lib.hid htk
                clear hx hk htk HDN HTI HTN
                generalize bs y = yy at *
                go_wp2_with (go_at_call 54; refine (HTK.out _).mono ?_; rintro e w5 ⟨rfl, rfl⟩)
                go_ret2
                exact RetN.bad HTI2.out HB2.out
              · rw [hk] at htk HDN
                have HTN2 := Lib.hid (HTN.out HDN.out)
                have HTK := Lib.hid htk
                have HLO := Lib.hid (fun W => rlower_l y W (by omega))
                have HPN : Hid (putN cur y = if cur.any (· == lower y) then cur else cur ++ [lower y]) := rfl
                generalize lower y = nm at *
                have HIN := Lib.hid fun v W (h : SL W v cur) => rin_any v cur nm W h (by have := HQL.out; omega)
                clear hx hk htk HDN HTI HTN hfl htl hyl
                generalize bs y = yy at *
                cases hh : cur.any (· == nm)
                · rw [hh] at HPN HIN
                  simp only [Bool.false_eq_true, if_false] at HPN
                  clear hh
                  go_wp2_with (first
                    | (go_at_call 54; refine (HTK.out _).mono ?_; rintro e w5 ⟨rfl, rfl⟩)
                    | (go_at_call 55; refine (HLO.out _).mono ?_; rintro e w6 ⟨rfl, hb6⟩; have HNR6 := Lib.hid (HNR.out.call hb6); clear hb6)
                    | (go_at_call 56; refine (HIN.out _ _ HNR6.out.own.sl).mono ?_; rintro e w7 ⟨rfl, hb7⟩; have HNR7 := Lib.hid (HNR6.out.call hb7); clear hb7; obtain ⟨A0, c0, rfl⟩ := HNR7.out.own.form)
                    | (at_builtin; refine wpList_appNR rfl (.tmp 58) (.tmp 60) rfl (fun _ => False) _ _ _ N M cur nm rfl HNR7.out (fun g hg => hg.elim) rfl (by have := HQL.out; omega) ?_; intro v' w8 HNR8 HG8 HK8))
                  go_roundw
                  case rel => exact ⟨j + 1, by omega, by go_num, HTN2.out, by rw [HSN.out, HPN.out]; exact HNR8.out⟩
                  case measure => simp [intOf]; omega
                · rw [hh] at HPN HIN
                  simp only [if_true] at HPN
                  clear hh
                  go_wp2_with (first
                    | (go_at_call 54; refine (HTK.out _).mono ?_; rintro e w5 ⟨rfl, rfl⟩)
                    | (go_at_call 55; refine (HLO.out _).mono ?_; rintro e w6 ⟨rfl, hb6⟩; have HNR6 := Lib.hid (HNR.out.call hb6); clear hb6)
                    | (go_at_call 56; refine (HIN.out _ _ HNR6.out.own.sl).mono ?_; rintro e w7 ⟨rfl, hb7⟩; have HNR7 := Lib.hid (HNR6.out.call hb7); clear hb7))
                  go_roundw
                  case rel => exact ⟨j + 1, by omega, by go_num, HTN2.out, by rw [HSN.out, HPN.out]; exact HNR7.out⟩
                  case measure => simp [intOf]; omega
            · rw [hx] at hst HDN
              rw [Bool.true_or] at HDN
              have HTI2 := Lib.hid (HTI.out HDN.out)
              clear hx htk HDN HTI HTN
              generalize bs y = yy at *
              go_wp2_with fail
              go_ret2
              exact RetN.bad HTI2.out HB2.out
          · have HE2 : Hid (M.take j = M) := List.take_of_length_le (by omega)
            have HBF2 : Hid (allB (N.take (k + 1)) = false) := HBF.out (by rw [← HE2.out]; exact HNN.out)
            go_wp2_with fail
            go_roundw
            case rel => exact ⟨k + 1, by omega, by go_num, HBF2.out, by rw [HST.out]; have h := HNR.out.drop; rw [HE2.out] at h; exact h⟩
            case measure => simp [intOf]; omega
      · have hne : (splitE x 44 != 0) = true := bne_iff_ne.2 hE
        have HBI2 : Hid (allB N = true) := HBI.out (by rw [HBD.out, hne]; rfl)
        clear HBD HBN HBI hE
        have HS2 := HSP
        unfold SplitPost at HS2
        clear HSP
        generalize splitE x 44 = E at *
        generalize splitL x 44 = M at *
        go_wp2_with (go_at_call 53; refine (HS2.out _).mono ?_; rintro e w3 ⟨vM, rfl, hoM, hb3⟩; have HB3 := Lib.hid (HNR.out.call hb3).bel; obtain ⟨A3, c3, rfl⟩ := hoM.form; clear hb3 hoM HNR)
        go_ret2
        exact RetN.bad HBI2.out HB3.out
    · have HE : Hid (N.take k = N) := List.take_of_length_le (by omega)
      go_wp2_with fail
      go_ret2
      exact RetN.good (by rw [← HE.out]; exact HA.out) (by rw [← HE.out]; exact HNR.out.own) HNR.out.bel
end Go.Proofs.YtfobjaccpnondaaGreatDoor
