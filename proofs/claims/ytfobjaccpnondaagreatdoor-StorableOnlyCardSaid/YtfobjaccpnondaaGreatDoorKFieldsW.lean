/- The values of a name as one text; the document's Set. -/
import Derived.Test.YtfobjaccpnondaaGreatDoorKFieldsG
namespace Go.Proofs.YtfobjaccpnondaaGreatDoor
open Go.RowKit

theorem bs_listsF (l : List (List UInt8)) : (l.map bs).map (fun x => x.data.toList) = l := by
  rw [List.map_map]
  have : (fun x : ByteArray => x.data.toList) ∘ bs = id := by funext x; simp
  rw [this, List.map_id]
/-- 'strings.Join' of a slice of texts. -/
theorem joinS_any (v : Value) (L : List (List UInt8)) (sep : List UInt8) (w : World) (h : SL w v L) (hc : ∀ A n c, v = .slice A n c → n ≤ c ∨ L = []) (hl : L.length ≤ 4294967296) (hlen : (Lib.join L sep).length ≤ 140737488355328) :
    Calls Tryz.prog 142 #[v, .string (bs sep)] w fun e w' => e = .returned (.string (bs (Lib.join L sep))) ∧ Below w.heap.size w w' := by
  rcases h with ⟨rfl, A, c, rfl⟩ | ⟨b, off, c, rfl, hb, hx⟩
  · refine (Tryz.strings_Join_none A c (bs sep) w).mono ?_
    rintro e w' ⟨rfl, rfl⟩
    exact ⟨rfl, Below.refl _ _⟩
  · rcases hc _ _ _ rfl with hcap | rfl
    · have hcc := Tryz.strings_Join b off c (L.map bs) (bs sep) w (fun j x hj => by
        have hj2 : j < L.length := by have := (List.getElem?_eq_some_iff.1 hj).1; simpa using this
        rw [List.getElem?_map, List.getElem?_eq_getElem hj2] at hj
        rw [hx j hj2]; simpa using hj) hb (by rw [List.length_map]; omega) (by rw [List.length_map]; exact hcap) (by rw [bs_listsF, bs_data]; exact hlen)
      rw [bs_listsF, List.length_map, bs_data] at hcc
      exact hcc
    · refine (Tryz.strings_Join_none (some ⟨b, off, none⟩) c (bs sep) w).mono ?_
      rintro e w' ⟨rfl, rfl⟩
      exact ⟨rfl, Below.refl _ _⟩
theorem ownS.capF {w : World} {base : Nat} {v : Value} {L : List (List UInt8)} (h : ownS w base v L) : ∀ A n c, v = .slice A n c → n ≤ c ∨ L = [] := by
  intro A n c hv
  rcases h.2 with ⟨rfl, hn⟩ | ⟨g, cap, cur, rfl, hb, hg, hnc, _⟩
  · exact .inr (List.eq_nil_of_length_eq_zero hn)
  · simp only [Value.slice.injEq] at hv
    obtain ⟨_, rfl, rfl⟩ := hv
    exact .inl hnc

theorem join_le (L : List (List UInt8)) : (Lib.join L [44, 32]).length ≤ L.flatten.length + 2 * L.length := by
  cases L with
  | nil => simp [Lib.join_nil]
  | cons x r =>
    rw [Lib.join_cons, List.length_append, List.flatten_cons, List.length_append, List.length_cons]
    have : (Lib.joinTail [44, 32] r).length = r.flatten.length + 2 * r.length := by
      unfold Lib.joinTail
      induction r with
      | nil => rfl
      | cons y r ih => simp only [List.map_cons, List.flatten_cons, List.length_append, List.length_cons, ih, List.length_nil]; omega
    omega
theorem flat_take (L : List (List UInt8)) (k : Nat) : (L.take k).flatten.length ≤ L.flatten.length := by
  have h : L.flatten = (L.take k).flatten ++ (L.drop k).flatten := by rw [← List.flatten_append, List.take_append_drop]
  rw [h, List.length_append]; omega
theorem flat_mem {L : List (List UInt8)} {x : List UInt8} (h : x ∈ L) : x.length ≤ L.flatten.length := by
  induction L with
  | nil => cases h
  | cons y r ih =>
    rw [List.flatten_cons, List.length_append]
    rcases List.mem_cons.1 h with rfl | h
    · omega
    · have := ih h; omega
theorem ret_sb {a b : List UInt8} {x y : Bool} (h : a = b) (k : x = y) : Ending.returned (.tuple #[.string (bs a), .bool x]) = .returned (.tuple #[.string (bs b), .bool y]) := by rw [h, k]
/-- is there a field of the name -/
def hasF (l : List Fld) (n : List UInt8) : Bool := decide (0 < (valsL l n).length)

set_option maxHeartbeats 1000000 in
set_option maxRecDepth 100000 in
theorem get_any (v : Value) (l : List Fld) (n : List UInt8) (w : World) (h : FL w v l) (hs : smallF l) (hl : l.length ≤ 1048576) (hz : sizeL l ≤ 1073741824) (hn : n.length ≤ 4294967296) :
    Calls Tryz.prog 91 #[v, .string (bs n)] w fun e w' => e = .returned (.tuple #[.string (bs (getL l n)), .bool (hasF l n)]) ∧ Below w.heap.size w w' := by
  have hv := values_any v l n w h hs hl hn
  have hgl := get_len l n
  have hvl := vals_len l n
  unfold getL at hgl ⊢
  unfold hasF
  generalize valsL l n = L at *
  have HV := Lib.hid hv; clear hv h hs
  go_enter Tryz.func91, Tryz.ntmps91
  go_wp2_with fail
  refine HV.out.mono ?_
  rintro e w1 ⟨v1, rfl, ho1, hb1⟩
  have hj := joinS_any v1 L [44, 32] w1 ho1.sl ho1.capF (by omega) (by omega)
  rw [show bs [44, 32] = ⟨#[44, 32]⟩ from rfl] at hj
  obtain ⟨A1, c1, rfl⟩ := ho1.form
  have HJ := Lib.hid hj; have HB1 := Lib.hid hb1; clear hj ho1 hb1
  go_wp2_with fail
  refine HJ.out.mono ?_
  rintro e w2 ⟨rfl, hb2⟩
  go_wp2_with fail
  go_ret2
  exact ⟨ret_sb rfl rfl, HB1.out.trans (hb2.mono HB1.out.size)⟩

set_option maxHeartbeats 1000000 in
set_option maxRecDepth 100000 in
theorem rget_any (v : Value) (l : List Fld) (n : List UInt8) (w : World) (h : FL w v l) (hs : smallF l) (hl : l.length ≤ 1048576) (hz : sizeL l ≤ 1073741824) (hn : n.length ≤ 4294967296) :
    Calls Tryz.prog 22 #[v, .string (bs n)] w fun e w' => e = .returned (.tuple #[.string (bs (getL l n)), .bool (hasF l n)]) ∧ Below w.heap.size w w' := by
  have hv := rvalues_any v l n w h hs hl hn
  have hfl := vals_flat l n
  have hvl := vals_len l n
  unfold getL hasF
  generalize valsL l n = L at *
  have HV := Lib.hid hv; clear hv h hs
  go_enter Tryz.func22, Tryz.ntmps22
  go_wp2_with fail
  refine HV.out.mono ?_
  rintro e w1 ⟨v1, rfl, ho1, hb1⟩
  have HS := Lib.hid ho1.sl
  obtain ⟨A1, c1, rfl⟩ := ho1.form
  have HB1 := Lib.hid hb1; clear ho1 hb1
  go_wp2_with fail
  go_loop [7, 8] (fun s i => ∃ k : Nat, k ≤ L.length ∧ i = .int .i64 k ∧ s = .string (bs (Lib.join (L.take k) [44, 32]))) (fun _ i => L.length - (intOf i).toNat)
  case atStart => exact ⟨0, Nat.zero_le _, rfl, rfl⟩
  case round =>
    obtain ⟨k, hk, rfl, rfl⟩ := hrel
    by_cases hlt : k < L.length
    · obtain ⟨b, off, rfl, hbb, hc⟩ := HS.out.get k hlt
      have hjl := join_le (L.take k)
      have hft := flat_take L k
      have hfm := flat_mem (List.getElem_mem hlt)
      have htl : (L.take k).length ≤ k := List.length_take_le _ _
      have HJL : Hid ((Lib.join (L.take k) [44, 32]).length + 2 + L[k].length ≤ 4294967296) := by show _ ≤ _; omega
      clear hjl hft hfm htl
      have HT : Hid (L.take (k + 1) = L.take k ++ [L[k]]) := List.take_succ_eq_append_getElem hlt
      generalize L[k] = x at *
      rcases Nat.eq_zero_or_pos k with h0 | h0
      · subst h0
        have HJ : Hid (Lib.join (L.take 1) [44, 32] = x) := by show _ = _; rw [HT.out]; simp [Lib.join_one]
        have s1 := fun w => add_l [] x w (by have := HJL.out; simp only [List.length_nil]; omega)
        rw [List.nil_append, show bs [] = ⟨#[]⟩ from rfl] at s1
        rw [show Lib.join (L.take 0) [44, 32] = [] from rfl, show bs [] = ⟨#[]⟩ from rfl]
        rw [Nat.add_zero] at hc
        go_wp2_with fail
        go_round
        case rel => exact ⟨1, by omega, by go_num, by rw [HJ.out]⟩
        case measure => simp [intOf]; omega
      · have hk0 : (0 : Int) < (k : Int) := by omega
        have HJ : Hid (Lib.join (L.take (k + 1)) [44, 32] = Lib.join (L.take k) [44, 32] ++ [44, 32] ++ x) := by
          show _ = _
          rw [HT.out]
          exact join_snoc _ _ _ (by intro e; have := congrArg List.length e; rw [List.length_take, List.length_nil] at this; omega)
        generalize Lib.join (L.take k) [44, 32] = J at *
        have s1 := fun w => add_l J [44, 32] w (by have := HJL.out; simp only [List.length_cons, List.length_nil]; omega)
        have s2 := fun w => add_l (J ++ [44, 32]) x w (by have := HJL.out; simp only [List.length_append, List.length_cons, List.length_nil]; omega)
        rw [show bs [44, 32] = ⟨#[44, 32]⟩ from rfl] at s1
        go_wp2_with fail
        go_round
        case rel => exact ⟨k + 1, by omega, by go_num, by rw [HJ.out]; simp only [List.append_assoc, List.cons_append, List.nil_append]⟩
        case measure => simp [intOf]; omega
    · have HT : Hid (L.take k = L) := List.take_of_length_le (by omega)
      go_wp2_with fail
      go_ret2
      exact ⟨ret_sb (by rw [HT.out]) rfl, HB1.out⟩

/-- what the document's Set has made of the first fields -/
def setT (l : List Fld) (n v : List UInt8) : List Fld := if l.any (fun f => sameN f.1 n) then setL l n v else l
theorem del_none {l : List Fld} {n : List UInt8} (h : l.any (fun f => sameN f.1 n) = false) : delL l [n] = l := by
  unfold delL
  rw [List.filter_eq_self]
  intro f hf
  rw [hasN_one, sameN_symm, Bool.not_eq_true']
  rw [List.any_eq_false] at h
  simpa using h f hf
theorem set_snoc {n v : List UInt8} (f : Fld) : ∀ (l : List Fld), l.any (fun f => sameN f.1 n) = true → setL (l ++ [f]) n v = setL l n v ++ delL [f] [n]
  | [], h => by cases h
  | g :: r, h => by
    rw [List.cons_append]
    unfold setL
    cases hg : sameN g.1 n
    · simp only [Bool.false_eq_true, if_false, List.cons_append]
      rw [set_snoc f r (by simpa [hg] using h)]
    · simp only [if_true, List.cons_append]
      congr 1
      unfold delL; rw [List.filter_append]
theorem set_first {n v : List UInt8} (f : Fld) (hf : sameN f.1 n = true) : ∀ (l : List Fld), l.any (fun f => sameN f.1 n) = false → setL (l ++ [f]) n v = l ++ [(f.1, v)]
  | [], _ => by simp [setL, hf, delL]
  | g :: r, h => by
    simp only [List.any_cons, Bool.or_eq_false_iff] at h
    rw [List.cons_append]
    unfold setL
    simp only [h.1, Bool.false_eq_true, if_false, List.cons_append]
    rw [set_first f hf r h.2]
def anyN (l : List Fld) (n : List UInt8) : Bool := l.any fun f => sameN f.1 n
theorem anyN_snoc (l : List Fld) (f : Fld) (n : List UInt8) : anyN (l ++ [f]) n = (anyN l n || sameN f.1 n) := by unfold anyN; rw [List.any_append]; simp
theorem setT_other {l : List Fld} {f : Fld} {n v : List UInt8} (h : sameN f.1 n = false) : setT (l ++ [f]) n v = setT l n v ++ [f] := by
  have hd : delL [f] [n] = [f] := by unfold delL; rw [List.filter_cons, hasN_one, sameN_symm, h]; rfl
  unfold setT
  have e := anyN_snoc l f n
  unfold anyN at e
  rw [e, h, Bool.or_false]
  cases ha : l.any (fun f => sameN f.1 n)
  · simp
  · simp only [if_true]; rw [set_snoc f l ha, hd]
theorem setT_first {l : List Fld} {f : Fld} {n v : List UInt8} (h : sameN f.1 n = true) (ha : anyN l n = false) : setT (l ++ [f]) n v = setT l n v ++ [(f.1, v)] := by
  unfold setT
  have e := anyN_snoc l f n
  unfold anyN at e ha
  rw [e, h, Bool.or_true, ha]
  simp only [if_true, Bool.false_eq_true, if_false]
  exact set_first f h l ha
theorem setT_again {l : List Fld} {f : Fld} {n v : List UInt8} (h : sameN f.1 n = true) (ha : anyN l n = true) : setT (l ++ [f]) n v = setT l n v := by
  have hd : delL [f] [n] = [] := by unfold delL; rw [List.filter_cons, hasN_one, sameN_symm, h]; rfl
  unfold setT
  have e := anyN_snoc l f n
  unfold anyN at e ha
  rw [e, h, Bool.or_true, ha]
  simp only [if_true]
  rw [set_snoc f l ha, hd, List.append_nil]
theorem setT_all {l : List Fld} {n v : List UInt8} : (anyN l n = true → setT l n v = setL l n v) ∧ (anyN l n = false → setT l n v ++ [(n, v)] = setL l n v) := by
  unfold setT anyN
  constructor
  · intro h; rw [h]; rfl
  · intro h; rw [h, set_none v h, del_none h]; rfl
theorem setT_len (l : List Fld) (n v : List UInt8) : (setT l n v).length ≤ l.length := by
  unfold setT
  split
  · rename_i h
    have hk : ∀ (l : List Fld), l.any (fun f => sameN f.1 n) = true → (setL l n v).length ≤ l.length := by
      intro l
      induction l with
      | nil => intro h; cases h
      | cons f r ih =>
        intro h
        unfold setL
        cases hf : sameN f.1 n
        · simp only [Bool.false_eq_true, if_false, List.length_cons]
          have := ih (by simpa [hf] using h)
          omega
        · simp only [if_true, List.length_cons]
          have := del_le r [n]
          omega
    exact hk l h
  · exact Nat.le_refl _
end Go.Proofs.YtfobjaccpnondaaGreatDoor
