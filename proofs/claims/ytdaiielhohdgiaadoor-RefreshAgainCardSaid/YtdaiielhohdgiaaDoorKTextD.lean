/- Texts put in quotes: the text layer's function and the document's own. -/
import Derived.Test.YtdaiielhohdgiaaDoorKBytes
import Derived.Test.YtdaiielhohdgiaaDoorKPlain
import Derived.OneCell
import Derived.Lib.SmallJoins
import Derived.Deep.RegionLaw
import Derived.Deep.RegionHeld3
namespace Go.Proofs.YtdaiielhohdgiaaDoor
open Go.RowKit

theorem ret_pair {a b : ByteArray} {x y : Int} (h : a = b) (k : x = y) : Ending.returned (.tuple #[.string a, .int .i64 x]) = .returned (.tuple #[.string b, .int .i64 y]) := by rw [h, k]

end Go.Proofs.YtdaiielhohdgiaaDoor

/- Texts in quotes: the document's own two functions, and the closure that tells what each byte is to the quotes. -/
namespace Go.Proofs.YtdaiielhohdgiaaDoor
open Go.RowKit


end Go.Proofs.YtdaiielhohdgiaaDoor

/- What each byte is to the quotes (a closure over two variables), and texts in quotes read by it. -/
namespace Go.Proofs.YtdaiielhohdgiaaDoor
open Go.RowKit

/-- block b is one variable that holds the truth value x -/
def oneT (w : World) (b : Nat) (x : Bool) : Prop := w.heap[b]? = some (.cells #[.bool x] 4 (0, 0))
theorem oneT.cell {w : World} {b : Nat} {x : Bool} (h : oneT w b x) : w.cell? ⟨b, 0, none⟩ = some (.bool x) := cell_of_one h
theorem oneT.free {w : World} {b : Nat} {x : Bool} (h : oneT w b x) : w.frozen? ⟨b, 0, none⟩ = false := free_of_one h
theorem oneT.set {w : World} {b : Nat} {x : Bool} (h : oneT w b x) (y : Bool) : oneT (w.setCell ⟨b, 0, none⟩ (.bool y)) b y := one_setCell h
theorem oneT.other {w : World} {b : Nat} {x : Bool} (h : oneT w b x) {c : Nat} (hc : b ≠ c) (v : Value) : oneT (w.setCell ⟨c, 0, none⟩ v) b x := (Below.heap_setCell _ _ _ _ (by simpa using hc)).trans h
theorem oneT.keep {w w' : World} {b : Nat} {x : Bool} (h : oneT w b x) (hk : w'.heap[b]? = w.heap[b]?) : oneT w' b x := hk.trans h
theorem oneT.new (w : World) (x : Bool) : oneT (w.alloc (.cells #[.bool x] 4)) w.heap.size x := heap_alloc_new w _

abbrev qfn (b1 b2 : Nat) : Value := .func (.func 95) #[] #[.pointer (some ⟨b1, 0, none⟩), .pointer (some ⟨b2, 0, none⟩)]

set_option maxHeartbeats 400000 in
theorem quotes_any (w : World) :
    Calls Tryd.prog 87 #[] w fun e w' => e = .returned (qfn w.heap.size (w.heap.size + 1)) ∧ w' = (w.alloc (.cells #[.bool false] 4)).alloc (.cells #[.bool false] 4) := by
  go_enter Tryd.func87, Tryd.ntmps87
  go_wp2
  go_ret
  exact ⟨rfl, rfl⟩

section
variable (c : Int) (b1 b2 : Nat) (w : World)
set_option maxHeartbeats 400000 in
theorem q_out (e : Bool) (H1 : oneT w b1 false) (_H2 : oneT w b2 e) (hc : (c != 34) = true) :
    Calls Tryd.prog 95 #[.int .u8 c, .pointer (some ⟨b1, 0, none⟩), .pointer (some ⟨b2, 0, none⟩)] w fun e w' => e = .returned (.int .i64 0) ∧ w = w' := by
  have h1 := H1.cell
  clear H1
  go_enter Tryd.func95, Tryd.ntmps95
  go_wp2
  go_ret
  exact ⟨rfl, rfl⟩

set_option maxHeartbeats 400000 in
theorem q_open (e : Bool) (H1 : oneT w b1 false) (_H2 : oneT w b2 e) (hc : (c != 34) = false) :
    Calls Tryd.prog 95 #[.int .u8 c, .pointer (some ⟨b1, 0, none⟩), .pointer (some ⟨b2, 0, none⟩)] w fun e w' => e = .returned (.int .i64 1) ∧ w.setCell ⟨b1, 0, none⟩ (.bool true) = w' := by
  have h1 := H1.cell
  have h2 := H1.free
  clear H1
  go_enter Tryd.func95, Tryd.ntmps95
  go_wp2
  go_ret
  exact ⟨rfl, rfl⟩

set_option maxHeartbeats 400000 in
theorem q_esc (H1 : oneT w b1 true) (H2 : oneT w b2 true) :
    Calls Tryd.prog 95 #[.int .u8 c, .pointer (some ⟨b1, 0, none⟩), .pointer (some ⟨b2, 0, none⟩)] w fun e w' => e = .returned (.int .i64 3) ∧ w.setCell ⟨b2, 0, none⟩ (.bool false) = w' := by
  have h1 := H1.cell
  have h2 := H2.cell
  have h3 := H2.free
  clear H1 H2
  go_enter Tryd.func95, Tryd.ntmps95
  go_wp2
  go_ret
  exact ⟨rfl, rfl⟩

set_option maxHeartbeats 400000 in
theorem q_back (H1 : oneT w b1 true) (H2 : oneT w b2 false) (hc : (c == 92) = true) :
    Calls Tryd.prog 95 #[.int .u8 c, .pointer (some ⟨b1, 0, none⟩), .pointer (some ⟨b2, 0, none⟩)] w fun e w' => e = .returned (.int .i64 2) ∧ w.setCell ⟨b2, 0, none⟩ (.bool true) = w' := by
  have h1 := H1.cell
  have h2 := H2.cell
  have h3 := H2.free
  clear H1 H2
  go_enter Tryd.func95, Tryd.ntmps95
  go_wp2
  go_ret
  exact ⟨rfl, rfl⟩

set_option maxHeartbeats 400000 in
theorem q_close (H1 : oneT w b1 true) (H2 : oneT w b2 false) (hc : (c == 92) = false) (hc2 : (c == 34) = true) :
    Calls Tryd.prog 95 #[.int .u8 c, .pointer (some ⟨b1, 0, none⟩), .pointer (some ⟨b2, 0, none⟩)] w fun e w' => e = .returned (.int .i64 4) ∧ w.setCell ⟨b1, 0, none⟩ (.bool false) = w' := by
  have h1 := H1.cell
  have h2 := H2.cell
  have h3 := H1.free
  clear H1 H2
  go_enter Tryd.func95, Tryd.ntmps95
  go_wp2
  go_ret
  exact ⟨rfl, rfl⟩

set_option maxHeartbeats 400000 in
theorem q_held (H1 : oneT w b1 true) (H2 : oneT w b2 false) (hc : (c == 92) = false) (hc2 : (c == 34) = false) :
    Calls Tryd.prog 95 #[.int .u8 c, .pointer (some ⟨b1, 0, none⟩), .pointer (some ⟨b2, 0, none⟩)] w fun e w' => e = .returned (.int .i64 3) ∧ w = w' := by
  have h1 := H1.cell
  have h2 := H2.cell
  clear H1 H2
  go_enter Tryd.func95, Tryd.ntmps95
  go_wp2
  go_ret
  exact ⟨rfl, rfl⟩
end

/-- where a reader of quotes stands ahead of byte k: what was open, what the last byte was, what has been read -/
def QInv (s : ByteArray) (k : Nat) (o e : Bool) (last : Int) (out : List UInt8) : Prop :=
  (k = 0 ∧ o = false ∧ e = false ∧ last = 0 ∧ out = []) ∨
  (o = true ∧ e = false ∧ (last = 1 ∨ last = 3) ∧ unquote s.data.toList = unq (s.data.toList.drop k) false out) ∨
  (o = true ∧ e = true ∧ last = 2 ∧ unquote s.data.toList = unq (s.data.toList.drop k) true out) ∨
  (o = false ∧ e = false ∧ last = 4 ∧ k = s.size ∧ unquote s.data.toList = some out)

end Go.Proofs.YtdaiielhohdgiaaDoor

/- Lists cut at a byte: the text layer's closure that adds a piece. -/
namespace Go.Proofs.YtdaiielhohdgiaaDoor
open Go.RowKit

theorem cutS_le (l : List UInt8) (a b : Nat) : ((l.drop a).take b).length ≤ l.length := Nat.le_trans (List.length_take_le' _ _) (by rw [List.length_drop]; exact Nat.sub_le _ _)
def addL (acc : List (List UInt8)) (cur : List UInt8) : List (List UInt8) := if (trim cur).isEmpty then acc else if acc.length ≤ 64 then acc ++ [trim cur] else acc

structure AddPost (B base b1 b2 : Nat) (acc : List (List UInt8)) (cur : List UInt8) (tt : Nat) (w w' : World) : Prop where
  out : ∃ v', w'.heap[b1]? = some (.cells #[v'] 33 (0, 0)) ∧ ownS w' base v' (addL acc cur)
  fr : w'.heap[b2]? = some (.cells #[.int .i64 ((tt + 1 : Nat) : Int)] 3 (0, 0))
  keep : ∀ k, k < base → k ≠ b1 → k ≠ b2 → w'.heap[k]? = w.heap[k]?
  bel : Below B w w'

theorem add_fin {B base b1 b2 tt : Nat} {acc : List (List UInt8)} {cur : List UInt8} {w w2 w3 : World} {O : Obj} {va : Option Addr} {vc : Nat} {v' v2 : Value} (hE : (trim cur).isEmpty = false) (hl : acc.length ≤ 64)
    (n1 : B ≤ b1) (n2 : B ≤ b2) (m1 : b1 < base) (m2 : b2 < base) (hbase : base ≤ w.heap.size) (d3 : b2 ≠ b1)
    (hN : ∀ k, k < base → (Value.slice va acc.length vc).ownBlock ≠ some k)
    (H1 : w.heap[b1]? = some (.cells #[.slice va acc.length vc] 33 (0, 0))) (H2 : w.heap[b2]? = some (.cells #[v2] 3 (0, 0)))
    (hb2 : Below w.drew.heap.size w.drew w2) (hgrow : (w2.alloc O).grownBy w3 (Value.slice va acc.length vc).ownBlock)
    (hown3 : w3.ownsRow base 9 1 v' (acc.length + 1) (strCs acc ++ [.string (bs (trim cur))])) :
    AddPost B base b1 b2 acc cur tt w ((w3.setCell ⟨b1, 0, none⟩ v').setCell ⟨b2, 0, none⟩ (.int .i64 ((tt : Int) + 1))) := by
  have h9 : w.heap.size ≤ w2.heap.size := hb2.size
  have keep3 : ∀ k, k < base → w3.heap[k]? = w.heap[k]? := fun k hk => by
    rw [hgrow.block k (by simp; omega) (fun e => hN k hk e.symm), Below.heap_alloc _ _ _ (by omega)]
    exact hb2.block k (by show k < w.heap.size; omega)
  have bel3 : Below base w w3 := ⟨hgrow.os.trans hb2.os, hgrow.tape.trans hb2.tape, hgrow.output.trans hb2.output, by have := hgrow.size; simp at this; omega, keep3⟩
  have hB : B ≤ base := by omega
  refine ⟨⟨v', ?_, ?_⟩, ?_, ?_, ?_⟩
  · rw [Below.heap_setCell _ _ _ _ (by simpa using Ne.symm d3)]
    exact one_setCell ((keep3 b1 m1).trans H1)
  · refine ownS.setLow (ownS.setLow (a := ⟨b1, 0, none⟩) ?_ m1 _) (a := ⟨b2, 0, none⟩) m2 _
    have e : addL acc cur = acc ++ [trim cur] := by simp [addL, hE, hl]
    rw [e]
    show World.ownsRow _ _ _ _ _ _ _
    have e2 : (acc ++ [trim cur]).length = acc.length + 1 := by simp
    rw [e2]
    simpa [strCs] using hown3
  · have h : (w3.setCell ⟨b1, 0, none⟩ v').heap[b2]? = some (.cells #[v2] 3 (0, 0)) := (Below.heap_setCell _ _ _ _ (by simpa using d3)).trans ((keep3 b2 m2).trans H2)
    have := one_setCell (u := .int .i64 ((tt : Int) + 1)) h
    rw [this]; congr 1
  · intro k hk k1 k2
    rw [Below.heap_setCell _ _ _ _ (by simpa using k2), Below.heap_setCell _ _ _ _ (by simpa using k1)]
    exact keep3 k hk
  · exact ((bel3.mono hB).setCell n1 _).setCell n2 _

theorem add_not {B base b1 b2 tt : Nat} {acc : List (List UInt8)} {cur : List UInt8} {w : World} {v v2 : Value} (hn : addL acc cur = acc)
    (n2 : B ≤ b2) (m2 : b2 < base) (d3 : b2 ≠ b1) (H1 : w.heap[b1]? = some (.cells #[v] 33 (0, 0))) (H2 : w.heap[b2]? = some (.cells #[v2] 3 (0, 0))) (hown : ownS w base v acc) :
    AddPost B base b1 b2 acc cur tt w (w.setCell ⟨b2, 0, none⟩ (.int .i64 ((tt : Int) + 1))) := by
  refine ⟨⟨v, ?_, by rw [hn]; exact hown.setLow (a := ⟨b2, 0, none⟩) m2 _⟩, ?_, ?_, (Below.refl _ _).setCell n2 _⟩
  · rw [Below.heap_setCell _ _ _ _ (by simpa using Ne.symm d3)]; exact H1
  · have := one_setCell (u := .int .i64 ((tt : Int) + 1)) H2
    rw [this]; congr 1
  · intro k _ _ k2
    exact Below.heap_setCell _ _ _ _ (by simpa using k2)

set_option maxHeartbeats 2000000 in
set_option maxRecDepth 100000 in
theorem add_any (B base b0 b1 b2 f tt : Nat) (s : ByteArray) (v : Value) (acc : List (List UInt8)) (w : World) (hs : s.size ≤ 4294967296)
    (h0 : w.heap[b0]? = some (.cells #[.string s] 9 (0, 0))) (h1 : w.heap[b1]? = some (.cells #[v] 33 (0, 0))) (h2 : w.heap[b2]? = some (.cells #[.int .i64 (f : Int)] 3 (0, 0)))
    (n1 : B ≤ b1) (n2 : B ≤ b2) (m1 : b1 < base) (m2 : b2 < base) (hbase : base ≤ w.heap.size) (d3 : b2 ≠ b1)
    (hown : ownS w base v acc) (hf : f ≤ tt) (ht : tt ≤ s.size) :
    Calls Tryd.prog 85 #[.int .i64 (tt : Int), .pointer (some ⟨b0, 0, none⟩), .pointer (some ⟨b2, 0, none⟩), .pointer (some ⟨b1, 0, none⟩)] w fun e w' =>
      e = .returned (.tuple #[]) ∧ AddPost B base b1 b2 acc ((s.data.toList.drop f).take (tt - f)) tt w w' := by
  obtain ⟨va, vc, rfl⟩ := hown.form
  have c0 := cell_of_one h0
  have c1 := cell_of_one h1
  have c2 := cell_of_one h2
  have f1 := free_of_one h1
  have f2 := free_of_one h2
  have H1 := Lib.hid h1; clear h1
  have H2 := Lib.hid h2; clear h2 h0
  have HO := Lib.hid hown; clear hown
  have hcl : (trim ((s.data.toList.drop f).take (tt - f))).length ≤ 4294967296 := Nat.le_trans (trim_le _) (Nat.le_trans (cutS_le _ _ _) hs)
  generalize hcur : (s.data.toList.drop f).take (tt - f) = cur at *
  have HC := Lib.hid hcur; clear hcur
  go_enter Tryd.func85, Tryd.ntmps85
  go_wp2_with fail
  refine (trimmed_any _ _ (by unfold maxLen; simp; omega)).mono ?_
  rw [Lib.extract_data, HC.out]
  rintro e w' ⟨rfl, rfl⟩
  cases hE : (trim cur).isEmpty
  · have hne : (bs (trim cur)).toList.isEmpty = false := by rw [Lib.toList_data, bs_data]; exact hE
    by_cases hl : acc.length ≤ 64
    · obtain ⟨i0, hi0, hz0, hz1, hz2⟩ := info_parts infoS
      have hnb : ∀ k, k < base → (Value.slice va acc.length vc).ownBlock ≠ some k := fun k hk e => by have := (World.ownsRow.lt HO.out k e).1; omega
      have HN := Lib.hid hnb; clear hnb
      have hlim : (bs (trim cur)).size ≤ 281474976710656 := by rw [bs_size]; omega
      have hb1w : b1 < w.heap.size := by omega
      have hb2w : b2 < w.heap.size := by omega
      go_wp2_with fail
      go_region_law (first | (refine step_append_lies _ (by rfl) _ _ _ (by rfl) base 9 i0 _ 1 16 Tryd.underlying33 hi0 hz0 hz1 hz2 rfl (by omega) (.slice va acc.length vc) acc.length (strCs acc) (by rfl) ((HO.out.drew.below hb2 (Nat.le_refl _)).alloc _) ⟨w2.heap.size, 0, none⟩ 1 1 [.string (bs (trim cur))] (by rfl) (by rfl) (World.news_of_block (cs := #[.string (bs (trim cur))]) (t := 9) (fr := (0, 0)) (heap_alloc_new w2 _)) (by simp [Value.oneCell']) (by omega) (by unfold maxLen; omega) (by omega) (by simp; omega) (w2.heap.size + 1) (by simp) ?_; intro gg cap w3 hown3 hgrow hat hlt; have hfz : w3.frozen? ⟨b1, 0, none⟩ = false := (hgrow.frozen_far _ (by simp; omega) (Ne.symm (HN.out b1 m1))).trans ((((Below.refl w2.heap.size w2).alloc (Nat.le_refl _) _).frozen (p := ⟨b1, 0, none⟩) (by simp; omega)).trans ((hb2.frozen (p := ⟨b1, 0, none⟩) hb1w).trans f1)); have hc3 : w3.cell? ⟨b2, 0, none⟩ = some (.int .i64 (f : Int)) := (hgrow.cell_far _ (by simp; omega) (Ne.symm (HN.out b2 m2))).trans ((((Below.refl w2.heap.size w2).alloc (Nat.le_refl _) _).cell (p := ⟨b2, 0, none⟩) (by simp; omega)).trans ((hb2.cell (p := ⟨b2, 0, none⟩) hb2w).trans c2)); have hf3 : w3.frozen? ⟨b2, 0, none⟩ = false := (hgrow.frozen_far _ (by simp; omega) (Ne.symm (HN.out b2 m2))).trans ((((Below.refl w2.heap.size w2).alloc (Nat.le_refl _) _).frozen (p := ⟨b2, 0, none⟩) (by simp; omega)).trans ((hb2.frozen (p := ⟨b2, 0, none⟩) hb2w).trans f2)); have hcz : w3.cell? ⟨b1, 0, none⟩ = some (.slice va acc.length vc) := (hgrow.cell_far _ (by simp; omega) (Ne.symm (HN.out b1 m1))).trans ((((Below.refl w2.heap.size w2).alloc (Nat.le_refl _) _).cell (p := ⟨b1, 0, none⟩) (by simp; omega)).trans hc2)) | (go_simp; go_at_call 19; refine (clone_any _ _ hlim).mono ?_; rintro e w2 ⟨rfl, hb2⟩; have h9 : w.heap.size ≤ w2.heap.size := hb2.size; have hc2 : w2.cell? ⟨b1, 0, none⟩ = some (.slice va acc.length vc) := (hb2.cell (p := ⟨b1, 0, none⟩) hb1w).trans c1; have ha2 : (w2.alloc (.cells #[.string (bs (trim cur))] 9)).cell? ⟨b1, 0, none⟩ = some (.slice va acc.length vc) := (((Below.refl w2.heap.size w2).alloc (Nat.le_refl _) _).cell (p := ⟨b1, 0, none⟩) (by simp; omega)).trans hc2))
      all_goals go_wp2_with fail
      all_goals go_end0
      all_goals exact ⟨rfl, add_fin hE hl n1 n2 m1 m2 hbase d3 HN.out H1.out H2.out hb2 hgrow hown3⟩
    · go_wp2_with fail
      go_end0
      exact ⟨rfl, add_not (by simp [addL, hl]) n2 m2 d3 H1.out H2.out HO.out⟩
  · have hne : (bs (trim cur)).toList.isEmpty = true := by rw [Lib.toList_data, bs_data]; exact hE
    go_wp2_with fail
    go_end0
    exact ⟨rfl, add_not (by simp [addL, hE]) n2 m2 d3 H1.out H2.out HO.out⟩
end Go.Proofs.YtdaiielhohdgiaaDoor
