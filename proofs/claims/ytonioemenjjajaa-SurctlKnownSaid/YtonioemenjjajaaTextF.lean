/- What each byte is to the quotes (a closure over two variables), and texts in quotes read by it. -/
import Derived.Test.YtonioemenjjajaaTextE
namespace Go.Proofs.Ytonioemenjjajaa
open Go.RowKit

/-- block b is one variable that holds the truth value x -/
def oneT (w : World) (b : Nat) (x : Bool) : Prop := w.heap[b]? = some (.cells #[.bool x] 4 (0, 0))
theorem oneT.cell {w : World} {b : Nat} {x : Bool} (h : oneT w b x) : w.cell? ⟨b, 0, none⟩ = some (.bool x) := cell_of_one h
theorem oneT.free {w : World} {b : Nat} {x : Bool} (h : oneT w b x) : w.frozen? ⟨b, 0, none⟩ = false := free_of_one h
theorem oneT.set {w : World} {b : Nat} {x : Bool} (h : oneT w b x) (y : Bool) : oneT (w.setCell ⟨b, 0, none⟩ (.bool y)) b y := one_setCell h
theorem oneT.other {w : World} {b : Nat} {x : Bool} (h : oneT w b x) {c : Nat} (hc : b ≠ c) (v : Value) : oneT (w.setCell ⟨c, 0, none⟩ v) b x := (Below.heap_setCell _ _ _ _ (by simpa using hc)).trans h
theorem oneT.keep {w w' : World} {b : Nat} {x : Bool} (h : oneT w b x) (hk : w'.heap[b]? = w.heap[b]?) : oneT w' b x := hk.trans h
theorem oneT.new (w : World) (x : Bool) : oneT (w.alloc (.cells #[.bool x] 4)) w.heap.size x := heap_alloc_new w _

abbrev qfn (b1 b2 : Nat) : Value := .func (.func 68) #[] #[.pointer (some ⟨b1, 0, none⟩), .pointer (some ⟨b2, 0, none⟩)]

set_option maxHeartbeats 400000 in
theorem quotes_any (w : World) :
    Calls Try.prog 54 #[] w fun e w' => e = .returned (qfn w.heap.size (w.heap.size + 1)) ∧ w' = (w.alloc (.cells #[.bool false] 4)).alloc (.cells #[.bool false] 4) := by
  go_enter Try.func54, Try.ntmps54
  go_wp2
  go_ret
  exact ⟨rfl, rfl⟩

section
variable (c : Int) (b1 b2 : Nat) (w : World)
set_option maxHeartbeats 400000 in
theorem q_out (e : Bool) (H1 : oneT w b1 false) (_H2 : oneT w b2 e) (hc : (c != 34) = true) :
    Calls Try.prog 68 #[.int .u8 c, .pointer (some ⟨b1, 0, none⟩), .pointer (some ⟨b2, 0, none⟩)] w fun e w' => e = .returned (.int .i64 0) ∧ w = w' := by
  have h1 := H1.cell
  clear H1
  go_enter Try.func68, Try.ntmps68
  go_wp2
  go_ret
  exact ⟨rfl, rfl⟩

set_option maxHeartbeats 400000 in
theorem q_open (e : Bool) (H1 : oneT w b1 false) (_H2 : oneT w b2 e) (hc : (c != 34) = false) :
    Calls Try.prog 68 #[.int .u8 c, .pointer (some ⟨b1, 0, none⟩), .pointer (some ⟨b2, 0, none⟩)] w fun e w' => e = .returned (.int .i64 1) ∧ w.setCell ⟨b1, 0, none⟩ (.bool true) = w' := by
  have h1 := H1.cell
  have h2 := H1.free
  clear H1
  go_enter Try.func68, Try.ntmps68
  go_wp2
  go_ret
  exact ⟨rfl, rfl⟩

set_option maxHeartbeats 400000 in
theorem q_esc (H1 : oneT w b1 true) (H2 : oneT w b2 true) :
    Calls Try.prog 68 #[.int .u8 c, .pointer (some ⟨b1, 0, none⟩), .pointer (some ⟨b2, 0, none⟩)] w fun e w' => e = .returned (.int .i64 3) ∧ w.setCell ⟨b2, 0, none⟩ (.bool false) = w' := by
  have h1 := H1.cell
  have h2 := H2.cell
  have h3 := H2.free
  clear H1 H2
  go_enter Try.func68, Try.ntmps68
  go_wp2
  go_ret
  exact ⟨rfl, rfl⟩

set_option maxHeartbeats 400000 in
theorem q_back (H1 : oneT w b1 true) (H2 : oneT w b2 false) (hc : (c == 92) = true) :
    Calls Try.prog 68 #[.int .u8 c, .pointer (some ⟨b1, 0, none⟩), .pointer (some ⟨b2, 0, none⟩)] w fun e w' => e = .returned (.int .i64 2) ∧ w.setCell ⟨b2, 0, none⟩ (.bool true) = w' := by
  have h1 := H1.cell
  have h2 := H2.cell
  have h3 := H2.free
  clear H1 H2
  go_enter Try.func68, Try.ntmps68
  go_wp2
  go_ret
  exact ⟨rfl, rfl⟩

set_option maxHeartbeats 400000 in
theorem q_close (H1 : oneT w b1 true) (H2 : oneT w b2 false) (hc : (c == 92) = false) (hc2 : (c == 34) = true) :
    Calls Try.prog 68 #[.int .u8 c, .pointer (some ⟨b1, 0, none⟩), .pointer (some ⟨b2, 0, none⟩)] w fun e w' => e = .returned (.int .i64 4) ∧ w.setCell ⟨b1, 0, none⟩ (.bool false) = w' := by
  have h1 := H1.cell
  have h2 := H2.cell
  have h3 := H1.free
  clear H1 H2
  go_enter Try.func68, Try.ntmps68
  go_wp2
  go_ret
  exact ⟨rfl, rfl⟩

set_option maxHeartbeats 400000 in
theorem q_held (H1 : oneT w b1 true) (H2 : oneT w b2 false) (hc : (c == 92) = false) (hc2 : (c == 34) = false) :
    Calls Try.prog 68 #[.int .u8 c, .pointer (some ⟨b1, 0, none⟩), .pointer (some ⟨b2, 0, none⟩)] w fun e w' => e = .returned (.int .i64 3) ∧ w = w' := by
  have h1 := H1.cell
  have h2 := H2.cell
  clear H1 H2
  go_enter Try.func68, Try.ntmps68
  go_wp2
  go_ret
  exact ⟨rfl, rfl⟩
end

/-- where a reader of quotes stands ahead of byte k: what was open, what the last byte was, what has been read -/
def QInv (s : ByteArray) (k : Nat) (o e : Bool) (last : Int) (out : List UInt8) : Prop :=
  (k = 0 ∧ o = false ∧ e = false ∧ last = 0 ∧ out = []) ∨
  (o = true ∧ e = false ∧ (last = 1 ∨ last = 3) ∧ unquote s.data.toList = unq (s.data.toList.drop k) false out) ∨
  (o = true ∧ e = true ∧ last = 2 ∧ unquote s.data.toList = unq (s.data.toList.drop k) true out) ∨
  (o = false ∧ e = false ∧ last = 4 ∧ k = s.size ∧ unquote s.data.toList = some out)

set_option maxHeartbeats 1000000 in
theorem unquote_any (s : ByteArray) (w : World) (hs : s.size ≤ 4294967296) :
    Calls Try.prog 77 #[.string s] w fun e w' => e = .returned (.tuple #[.string (bs (unqS s.data.toList)), .int .i64 (unqE s.data.toList)]) ∧ Below w.heap.size w w' := by
  go_enter Try.func77, Try.ntmps77
  go_wp2_with (go_at_call 54; refine (quotes_any _).mono ?_; rintro e w' ⟨rfl, rfl⟩)
  go_loopw [4, 6, 12] (fun v l i wr => ∃ (k : Nat) (o e : Bool) (last : Int) (out : List UInt8), k ≤ s.size ∧ i = .int .i64 k ∧ l = .int .i64 last ∧ out.length ≤ k ∧ QInv s k o e last out ∧
      oneT wr w.heap.size o ∧ oneT wr (w.heap.size + 1) e ∧ ownB wr (w.heap.size + 2) v out ∧ Below w.heap.size w wr) (fun _ _ i _ => s.size - (intOf i).toNat)
  case atStart =>
    refine ⟨0, false, false, 0, [], Nat.zero_le _, rfl, rfl, Nat.le_refl _, .inl ⟨rfl, rfl, rfl, rfl, rfl⟩, ?_, by simpa using oneT.new (w.alloc (.cells #[.bool false] 4)) false, ownB_nil _ _, ((Below.refl _ _).alloc (Nat.le_refl _) _).alloc (by simp) _⟩
    exact (oneT.new w false).keep (Below.heap_alloc _ _ _ (by simp))
  case round =>
    obtain ⟨k, o, e, last, out, hk, rfl, rfl, hol, hinv, ho, he, hown, hbel⟩ := hrel
    have HO := Lib.hid hown; clear hown
    have HB := Lib.hid hbel; clear hbel
    have Ho := Lib.hid ho; clear ho
    have He := Lib.hid he; clear he
    have HZ : Hid (w.heap.size + 2 ≤ wr.heap.size) := by have := lt_of_block He.out; show _ ≤ _; omega
    by_cases hlt : k < s.size
    · rcases hinv with ⟨rfl, rfl, rfl, rfl, rfl⟩ | ⟨rfl, rfl, hl, hu⟩ | ⟨rfl, rfl, rfl, hu⟩ | ⟨rfl, rfl, rfl, hke, hu⟩
      · rcases unq_first s hlt with ⟨hc, hu⟩ | ⟨hc, hm, hu⟩
        · have HU := Lib.hid hu; clear hu
          go_wp2_with (first | (go_at_call 68; refine (q_out _ _ _ _ false Ho.out He.out hc).mono ?_; rintro e w' ⟨rfl, rfl⟩) | (go_at_call 82; refine (quotable_any _ _).mono ?_; rintro e w' ⟨rfl, rfl⟩))
          go_ret2
          exact ⟨ret_pair (by rw [unqS, HU.out]; rfl) (by rw [unqE, HU.out]; rfl), HB.out⟩
        · have HU := Lib.hid hu; clear hu
          go_wp2_with (first | (go_at_call 68; refine (q_open _ _ _ _ false Ho.out He.out hc).mono ?_; rintro e w' ⟨rfl, rfl⟩) | (go_at_call 82; refine (quotable_any _ _).mono ?_; rintro e w' ⟨rfl, rfl⟩))
          go_roundw
          case rel => exact ⟨1, true, false, 1, [], by omega, rfl, rfl, by simp, .inr (.inl ⟨rfl, rfl, .inl rfl, HU.out⟩), Ho.out.set _, He.out.other (by omega) _, HO.out.setLow (by simp) _, HB.out.setCell (Nat.le_refl _) _⟩
          case measure => simp [intOf]; omega
      · clear hl
        have HQ := Lib.hid hu; clear hu
        rcases unq_in s k hlt out with ⟨h1, h2, hm, h3, hu⟩ | ⟨h1, h2, h3, hu⟩ | ⟨h1, hm, hu⟩ | ⟨h1, h2, hm, hu⟩ | ⟨h1, h2, hm, hu⟩
        · have HU : Hid (unquote s.data.toList = some out) := HQ.out.trans hu
          clear hu
          go_wp2_with (first | (go_at_call 68; refine (q_close _ _ _ _ Ho.out He.out h1 h2).mono ?_; rintro e w' ⟨rfl, rfl⟩) | (go_at_call 82; refine (quotable_any _ _).mono ?_; rintro e w' ⟨rfl, rfl⟩))
          go_roundw
          case rel => exact ⟨k + 1, false, false, 4, out, by omega, by go_num, rfl, by omega, .inr (.inr (.inr ⟨rfl, rfl, rfl, by omega, HU.out⟩)), Ho.out.set _, He.out.other (by omega) _, HO.out.setLow (by simp) _, HB.out.setCell (Nat.le_refl _) _⟩
          case measure => simp [intOf]; omega
        · have HU : Hid (unquote s.data.toList = none) := HQ.out.trans hu
          clear hu
          go_wp2_with (first | (go_at_call 68; refine (q_close _ _ _ _ Ho.out He.out h1 h2).mono ?_; rintro e w' ⟨rfl, rfl⟩) | (go_at_call 82; refine (quotable_any _ _).mono ?_; rintro e w' ⟨rfl, rfl⟩))
          go_ret2
          exact ⟨ret_pair (by rw [unqS, HU.out]; rfl) (by rw [unqE, HU.out]; rfl), HB.out.setCell (Nat.le_refl _) _⟩
        · have HU : Hid (unquote s.data.toList = unq (s.data.toList.drop (k + 1)) true out) := HQ.out.trans hu
          clear hu
          go_wp2_with (first | (go_at_call 68; refine (q_back _ _ _ _ Ho.out He.out h1).mono ?_; rintro e w' ⟨rfl, rfl⟩) | (go_at_call 82; refine (quotable_any _ _).mono ?_; rintro e w' ⟨rfl, rfl⟩))
          go_roundw
          case rel => exact ⟨k + 1, true, true, 2, out, by omega, by go_num, rfl, by omega, .inr (.inr (.inl ⟨rfl, rfl, rfl, HU.out⟩)), Ho.out.other (by omega) _, He.out.set _, HO.out.setLow (by simp) _, HB.out.setCell (Nat.le_succ _) _⟩
          case measure => simp [intOf]; omega
        · have HU : Hid (unquote s.data.toList = none) := HQ.out.trans hu
          clear hu
          go_wp2_with (first | (go_at_call 68; refine (q_held _ _ _ _ Ho.out He.out h1 h2).mono ?_; rintro e w' ⟨rfl, rfl⟩) | (go_at_call 82; refine (quotable_any _ _).mono ?_; rintro e w' ⟨rfl, rfl⟩))
          go_ret2
          exact ⟨ret_pair (by rw [unqS, HU.out]; rfl) (by rw [unqE, HU.out]; rfl), HB.out⟩
        · have HU : Hid (unquote s.data.toList = unq (s.data.toList.drop (k + 1)) false (out ++ [s[k]])) := HQ.out.trans hu
          clear hu
          have HO' := HO
          have HB' := HB
          go_wp2_with (first | (go_at_call 68; refine (q_held _ _ _ _ Ho.out He.out h1 h2).mono ?_; rintro e w' ⟨rfl, rfl⟩) | (go_at_call 82; refine (quotable_any _ _).mono ?_; rintro e w' ⟨rfl, rfl⟩) | (at_builtin; refine wpList_appB rfl (.tmp 41) (.tmp 43) rfl (w.heap.size + 2) w.heap.size _ _ _ s[k] rfl HO'.out HB'.out (Nat.le_add_right _ _) HZ.out rfl rfl (by omega) ?_; intro v' w' HO2 HB2 HK2))
          go_roundw
          case rel => exact ⟨k + 1, true, false, 3, _, by omega, by go_num, rfl, by simp; omega, .inr (.inl ⟨rfl, rfl, .inr rfl, HU.out⟩), Ho.out.keep (HK2.out _ (by omega)), He.out.keep (HK2.out _ (by omega)), HO2.out, HB2.out⟩
          case measure => simp [intOf]; omega
      · have HQ := Lib.hid hu; clear hu
        rcases unq_esc s k hlt out with ⟨hm, hu⟩ | ⟨hm, hu⟩
        · have HU : Hid (unquote s.data.toList = none) := HQ.out.trans hu
          clear hu
          go_wp2_with (first | (go_at_call 68; refine (q_esc _ _ _ _ Ho.out He.out).mono ?_; rintro e w' ⟨rfl, rfl⟩) | (go_at_call 82; refine (quotable_any _ _).mono ?_; rintro e w' ⟨rfl, rfl⟩))
          go_ret2
          exact ⟨ret_pair (by rw [unqS, HU.out]; rfl) (by rw [unqE, HU.out]; rfl), HB.out.setCell (Nat.le_succ _) _⟩
        · have HU : Hid (unquote s.data.toList = unq (s.data.toList.drop (k + 1)) false (out ++ [s[k]])) := HQ.out.trans hu
          clear hu
          have HO' : Hid (ownB (wr.setCell ⟨w.heap.size + 1, 0, none⟩ (.bool false)) (w.heap.size + 2) u4 out) := HO.out.setLow (by simp) _
          have HB' : Hid (Below w.heap.size w (wr.setCell ⟨w.heap.size + 1, 0, none⟩ (.bool false))) := HB.out.setCell (Nat.le_succ _) _
          have HZ : Hid (w.heap.size + 2 ≤ (wr.setCell ⟨w.heap.size + 1, 0, none⟩ (.bool false)).heap.size) := by show _ ≤ _; simpa using HZ.out
          have Ho' : Hid (oneT (wr.setCell ⟨w.heap.size + 1, 0, none⟩ (.bool false)) w.heap.size true) := Ho.out.other (by omega) _
          have He' : Hid (oneT (wr.setCell ⟨w.heap.size + 1, 0, none⟩ (.bool false)) (w.heap.size + 1) false) := He.out.set _
          go_wp2_with (first | (go_at_call 68; refine (q_esc _ _ _ _ Ho.out He.out).mono ?_; rintro e w' ⟨rfl, rfl⟩) | (go_at_call 82; refine (quotable_any _ _).mono ?_; rintro e w' ⟨rfl, rfl⟩) | (at_builtin; refine wpList_appB rfl (.tmp 41) (.tmp 43) rfl (w.heap.size + 2) w.heap.size _ _ _ s[k] rfl HO'.out HB'.out (Nat.le_add_right _ _) HZ.out rfl rfl (by omega) ?_; intro v' w' HO2 HB2 HK2))
          go_roundw
          case rel => exact ⟨k + 1, true, false, 3, _, by omega, by go_num, rfl, by simp; omega, .inr (.inl ⟨rfl, rfl, .inr rfl, HU.out⟩), Ho'.out.keep (HK2.out _ (by omega)), He'.out.keep (HK2.out _ (by omega)), HO2.out, HB2.out⟩
          case measure => simp [intOf]; omega
      · exact absurd hke (by omega)
    · rcases hinv with ⟨rfl, rfl, rfl, rfl, rfl⟩ | ⟨rfl, rfl, hl, hu⟩ | ⟨rfl, rfl, rfl, hu⟩ | ⟨rfl, rfl, rfl, hke, hu⟩
      · have HU : Hid (unquote s.data.toList = none) := by show _ = _; rw [nil_of (by omega)]; rfl
        go_wp2_with fail
        go_ret2
        exact ⟨ret_pair (by rw [unqS, HU.out]; rfl) (by rw [unqE, HU.out]; rfl), HB.out⟩
      · have HU : Hid (unquote s.data.toList = none) := by show _ = _; rw [hu, drop_nil (by omega)]; rfl
        clear hu
        rcases hl with rfl | rfl
        all_goals
          go_wp2_with fail
          go_ret2
          exact ⟨ret_pair (by rw [unqS, HU.out]; rfl) (by rw [unqE, HU.out]; rfl), HB.out⟩
      · have HU : Hid (unquote s.data.toList = none) := by show _ = _; rw [hu, drop_nil (by omega)]; rfl
        clear hu
        go_wp2_with fail
        go_ret2
        exact ⟨ret_pair (by rw [unqS, HU.out]; rfl) (by rw [unqE, HU.out]; rfl), HB.out⟩
      · have HU := Lib.hid hu; clear hu hke
        have hback := HO.out.back
        go_wp2_with fail
        go_ret2
        exact ⟨ret_pair (by rw [unqS, HU.out]; rfl) (by rw [unqE, HU.out]; rfl), HB.out⟩
end Go.Proofs.Ytonioemenjjajaa
