/- The values of a name as one text; the document's Set. -/
import Derived.Test.YtilaalfehnngcaaDoorFieldsV
namespace Go.Proofs.YtilaalfehnngcaaDoor
open Go.RowKit

theorem bs_lists (l : List (List UInt8)) : (l.map bs).map (fun x => x.data.toList) = l := by
  rw [List.map_map]
  have : (fun x : ByteArray => x.data.toList) ∘ bs = id := by funext x; simp
  rw [this, List.map_id]
/-- 'strings.Join' of a slice of texts. -/
theorem joinS_any (v : Value) (L : List (List UInt8)) (sep : List UInt8) (w : World) (h : SL w v L) (hc : ∀ A n c, v = .slice A n c → n ≤ c ∨ L = []) (hl : L.length ≤ 4294967296) (hlen : (Lib.join L sep).length ≤ 140737488355328) :
    Calls Tryd.prog 37 #[v, .string (bs sep)] w fun e w' => e = .returned (.string (bs (Lib.join L sep))) ∧ Below w.heap.size w w' := by
  rcases h with ⟨rfl, A, c, rfl⟩ | ⟨b, off, c, rfl, hb, hx⟩
  · refine (Tryd.strings_Join_none A c (bs sep) w).mono ?_
    rintro e w' ⟨rfl, rfl⟩
    exact ⟨rfl, Below.refl _ _⟩
  · rcases hc _ _ _ rfl with hcap | rfl
    · have hcc := Tryd.strings_Join b off c (L.map bs) (bs sep) w (fun j x hj => by
        have hj2 : j < L.length := by have := (List.getElem?_eq_some_iff.1 hj).1; simpa using this
        rw [List.getElem?_map, List.getElem?_eq_getElem hj2] at hj
        rw [hx j hj2]; simpa using hj) hb (by rw [List.length_map]; omega) (by rw [List.length_map]; exact hcap) (by rw [bs_lists, bs_data]; exact hlen)
      rw [bs_lists, List.length_map, bs_data] at hcc
      exact hcc
    · refine (Tryd.strings_Join_none (some ⟨b, off, none⟩) c (bs sep) w).mono ?_
      rintro e w' ⟨rfl, rfl⟩
      exact ⟨rfl, Below.refl _ _⟩
theorem ownS.cap {w : World} {base : Nat} {v : Value} {L : List (List UInt8)} (h : ownS w base v L) : ∀ A n c, v = .slice A n c → n ≤ c ∨ L = [] := by
  intro A n c hv
  rcases h.2 with ⟨rfl, hn⟩ | ⟨g, cap, cur, rfl, hb, hg, hnc, _⟩
  · exact .inr (List.eq_nil_of_length_eq_zero hn)
  · simp only [Value.slice.injEq] at hv
    obtain ⟨_, rfl, rfl⟩ := hv
    exact .inl hnc

theorem join_le (L : List (List UInt8)) : (Lib.join L [44, 32]).length ≤ L.flatten.length + 2 * L.length := by
  cases L with
  | nil => simp [Lib.join_nil]
  | cons x r =>
    rw [Lib.join_cons, List.length_append, List.flatten_cons, List.length_append, List.length_cons]
    have : (Lib.joinTail [44, 32] r).length = r.flatten.length + 2 * r.length := by
      unfold Lib.joinTail
      induction r with
      | nil => rfl
      | cons y r ih => simp only [List.map_cons, List.flatten_cons, List.length_append, List.length_cons, ih, List.length_nil]; omega
    omega
theorem flat_take (L : List (List UInt8)) (k : Nat) : (L.take k).flatten.length ≤ L.flatten.length := by
  have h : L.flatten = (L.take k).flatten ++ (L.drop k).flatten := by rw [← List.flatten_append, List.take_append_drop]
  rw [h, List.length_append]; omega
theorem flat_mem {L : List (List UInt8)} {x : List UInt8} (h : x ∈ L) : x.length ≤ L.flatten.length := by
  induction L with
  | nil => cases h
  | cons y r ih =>
    rw [List.flatten_cons, List.length_append]
    rcases List.mem_cons.1 h with rfl | h
    · omega
    · have := ih h; omega
theorem ret_sb {a b : List UInt8} {x y : Bool} (h : a = b) (k : x = y) : Ending.returned (.tuple #[.string (bs a), .bool x]) = .returned (.tuple #[.string (bs b), .bool y]) := by rw [h, k]
/-- is there a field of the name -/
def hasF (l : List Fld) (n : List UInt8) : Bool := decide (0 < (valsL l n).length)

set_option maxHeartbeats 1000000 in
set_option maxRecDepth 100000 in
theorem get_any (v : Value) (l : List Fld) (n : List UInt8) (w : World) (h : FL w v l) (hs : smallF l) (hl : l.length ≤ 1048576) (hz : sizeL l ≤ 1073741824) (hn : n.length ≤ 4294967296) :
    Calls Tryd.prog 15 #[v, .string (bs n)] w fun e w' => e = .returned (.tuple #[.string (bs (getL l n)), .bool (hasF l n)]) ∧ Below w.heap.size w w' := by
  have hv := values_any v l n w h hs hl hn
  have hgl := get_len l n
  have hvl := vals_len l n
  unfold getL at hgl ⊢
  unfold hasF
  generalize valsL l n = L at *
  have HV := Lib.hid hv; clear hv h hs
  go_enter Tryd.func15, Tryd.ntmps15
  go_wp2_with fail
  refine HV.out.mono ?_
  rintro e w1 ⟨v1, rfl, ho1, hb1⟩
  have hj := joinS_any v1 L [44, 32] w1 ho1.sl ho1.cap (by omega) (by omega)
  rw [show bs [44, 32] = ⟨#[44, 32]⟩ from rfl] at hj
  obtain ⟨A1, c1, rfl⟩ := ho1.form
  have HJ := Lib.hid hj; have HB1 := Lib.hid hb1; clear hj ho1 hb1
  go_wp2_with fail
  refine HJ.out.mono ?_
  rintro e w2 ⟨rfl, hb2⟩
  go_wp2_with fail
  go_ret2
  exact ⟨ret_sb rfl rfl, HB1.out.trans (hb2.mono HB1.out.size)⟩

set_option maxRecDepth 100000 in

/-- what the document's Set has made of the first fields -/
def setT (l : List Fld) (n v : List UInt8) : List Fld := if l.any (fun f => sameN f.1 n) then setL l n v else l
theorem del_none {l : List Fld} {n : List UInt8} (h : l.any (fun f => sameN f.1 n) = false) : delL l [n] = l := by
  unfold delL
  rw [List.filter_eq_self]
  intro f hf
  rw [hasN_one, sameN_symm, Bool.not_eq_true']
  rw [List.any_eq_false] at h
  simpa using h f hf
theorem set_snoc {n v : List UInt8} (f : Fld) : ∀ (l : List Fld), l.any (fun f => sameN f.1 n) = true → setL (l ++ [f]) n v = setL l n v ++ delL [f] [n]
  | [], h => by cases h
  | g :: r, h => by
    rw [List.cons_append]
    unfold setL
    cases hg : sameN g.1 n
    · simp only [Bool.false_eq_true, if_false, List.cons_append]
      rw [set_snoc f r (by simpa [hg] using h)]
    · simp only [if_true, List.cons_append]
      congr 1
      unfold delL; rw [List.filter_append]
theorem set_first {n v : List UInt8} (f : Fld) (hf : sameN f.1 n = true) : ∀ (l : List Fld), l.any (fun f => sameN f.1 n) = false → setL (l ++ [f]) n v = l ++ [(f.1, v)]
  | [], _ => by simp [setL, hf, delL]
  | g :: r, h => by
    simp only [List.any_cons, Bool.or_eq_false_iff] at h
    rw [List.cons_append]
    unfold setL
    simp only [h.1, Bool.false_eq_true, if_false, List.cons_append]
    rw [set_first f hf r h.2]
def anyN (l : List Fld) (n : List UInt8) : Bool := l.any fun f => sameN f.1 n
theorem anyN_snoc (l : List Fld) (f : Fld) (n : List UInt8) : anyN (l ++ [f]) n = (anyN l n || sameN f.1 n) := by unfold anyN; rw [List.any_append]; simp
theorem setT_other {l : List Fld} {f : Fld} {n v : List UInt8} (h : sameN f.1 n = false) : setT (l ++ [f]) n v = setT l n v ++ [f] := by
  have hd : delL [f] [n] = [f] := by unfold delL; rw [List.filter_cons, hasN_one, sameN_symm, h]; rfl
  unfold setT
  have e := anyN_snoc l f n
  unfold anyN at e
  rw [e, h, Bool.or_false]
  cases ha : l.any (fun f => sameN f.1 n)
  · simp
  · simp only [if_true]; rw [set_snoc f l ha, hd]
theorem setT_first {l : List Fld} {f : Fld} {n v : List UInt8} (h : sameN f.1 n = true) (ha : anyN l n = false) : setT (l ++ [f]) n v = setT l n v ++ [(f.1, v)] := by
  unfold setT
  have e := anyN_snoc l f n
  unfold anyN at e ha
  rw [e, h, Bool.or_true, ha]
  simp only [if_true, Bool.false_eq_true, if_false]
  exact set_first f h l ha
theorem setT_again {l : List Fld} {f : Fld} {n v : List UInt8} (h : sameN f.1 n = true) (ha : anyN l n = true) : setT (l ++ [f]) n v = setT l n v := by
  have hd : delL [f] [n] = [] := by unfold delL; rw [List.filter_cons, hasN_one, sameN_symm, h]; rfl
  unfold setT
  have e := anyN_snoc l f n
  unfold anyN at e ha
  rw [e, h, Bool.or_true, ha]
  simp only [if_true]
  rw [set_snoc f l ha, hd, List.append_nil]
theorem setT_all {l : List Fld} {n v : List UInt8} : (anyN l n = true → setT l n v = setL l n v) ∧ (anyN l n = false → setT l n v ++ [(n, v)] = setL l n v) := by
  unfold setT anyN
  constructor
  · intro h; rw [h]; rfl
  · intro h; rw [h, set_none v h, del_none h]; rfl
theorem setT_len (l : List Fld) (n v : List UInt8) : (setT l n v).length ≤ l.length := by
  unfold setT
  split
  · rename_i h
    have hk : ∀ (l : List Fld), l.any (fun f => sameN f.1 n) = true → (setL l n v).length ≤ l.length := by
      intro l
      induction l with
      | nil => intro h; cases h
      | cons f r ih =>
        intro h
        unfold setL
        cases hf : sameN f.1 n
        · simp only [Bool.false_eq_true, if_false, List.length_cons]
          have := ih (by simpa [hf] using h)
          omega
        · simp only [if_true, List.length_cons]
          have := del_le r [n]
          omega
    exact hk l h
  · exact Nat.le_refl _
end Go.Proofs.YtilaalfehnngcaaDoor
