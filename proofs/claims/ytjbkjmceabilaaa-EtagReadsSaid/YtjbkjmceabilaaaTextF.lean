/- What each byte is to the quotes (a closure over two variables), and texts in quotes read by it. -/
import Derived.Test.YtjbkjmceabilaaaTextE
namespace Go.Proofs.Ytjbkjmceabilaaa
open Go.RowKit

/-- block b is one variable that holds the truth value x -/
def oneT (w : World) (b : Nat) (x : Bool) : Prop := w.heap[b]? = some (.cells #[.bool x] 4 (0, 0))
theorem oneT.cell {w : World} {b : Nat} {x : Bool} (h : oneT w b x) : w.cell? ⟨b, 0, none⟩ = some (.bool x) := cell_of_one h
theorem oneT.free {w : World} {b : Nat} {x : Bool} (h : oneT w b x) : w.frozen? ⟨b, 0, none⟩ = false := free_of_one h
theorem oneT.set {w : World} {b : Nat} {x : Bool} (h : oneT w b x) (y : Bool) : oneT (w.setCell ⟨b, 0, none⟩ (.bool y)) b y := one_setCell h
theorem oneT.other {w : World} {b : Nat} {x : Bool} (h : oneT w b x) {c : Nat} (hc : b ≠ c) (v : Value) : oneT (w.setCell ⟨c, 0, none⟩ v) b x := (Below.heap_setCell _ _ _ _ (by simpa using hc)).trans h
theorem oneT.keep {w w' : World} {b : Nat} {x : Bool} (h : oneT w b x) (hk : w'.heap[b]? = w.heap[b]?) : oneT w' b x := hk.trans h
theorem oneT.new (w : World) (x : Bool) : oneT (w.alloc (.cells #[.bool x] 4)) w.heap.size x := heap_alloc_new w _

abbrev qfn (b1 b2 : Nat) : Value := .func (.func 37) #[] #[.pointer (some ⟨b1, 0, none⟩), .pointer (some ⟨b2, 0, none⟩)]

set_option maxHeartbeats 400000 in
theorem quotes_any (w : World) :
    Calls Try.prog 31 #[] w fun e w' => e = .returned (qfn w.heap.size (w.heap.size + 1)) ∧ w' = (w.alloc (.cells #[.bool false] 4)).alloc (.cells #[.bool false] 4) := by
  go_enter Try.func31, Try.ntmps31
  go_wp2
  go_ret
  exact ⟨rfl, rfl⟩

section
variable (c : Int) (b1 b2 : Nat) (w : World)
set_option maxHeartbeats 400000 in
theorem q_out (e : Bool) (H1 : oneT w b1 false) (_H2 : oneT w b2 e) (hc : (c != 34) = true) :
    Calls Try.prog 37 #[.int .u8 c, .pointer (some ⟨b1, 0, none⟩), .pointer (some ⟨b2, 0, none⟩)] w fun e w' => e = .returned (.int .i64 0) ∧ w = w' := by
  have h1 := H1.cell
  clear H1
  go_enter Try.func37, Try.ntmps37
  go_wp2
  go_ret
  exact ⟨rfl, rfl⟩

set_option maxHeartbeats 400000 in
theorem q_open (e : Bool) (H1 : oneT w b1 false) (_H2 : oneT w b2 e) (hc : (c != 34) = false) :
    Calls Try.prog 37 #[.int .u8 c, .pointer (some ⟨b1, 0, none⟩), .pointer (some ⟨b2, 0, none⟩)] w fun e w' => e = .returned (.int .i64 1) ∧ w.setCell ⟨b1, 0, none⟩ (.bool true) = w' := by
  have h1 := H1.cell
  have h2 := H1.free
  clear H1
  go_enter Try.func37, Try.ntmps37
  go_wp2
  go_ret
  exact ⟨rfl, rfl⟩

set_option maxHeartbeats 400000 in
theorem q_esc (H1 : oneT w b1 true) (H2 : oneT w b2 true) :
    Calls Try.prog 37 #[.int .u8 c, .pointer (some ⟨b1, 0, none⟩), .pointer (some ⟨b2, 0, none⟩)] w fun e w' => e = .returned (.int .i64 3) ∧ w.setCell ⟨b2, 0, none⟩ (.bool false) = w' := by
  have h1 := H1.cell
  have h2 := H2.cell
  have h3 := H2.free
  clear H1 H2
  go_enter Try.func37, Try.ntmps37
  go_wp2
  go_ret
  exact ⟨rfl, rfl⟩

set_option maxHeartbeats 400000 in
theorem q_back (H1 : oneT w b1 true) (H2 : oneT w b2 false) (hc : (c == 92) = true) :
    Calls Try.prog 37 #[.int .u8 c, .pointer (some ⟨b1, 0, none⟩), .pointer (some ⟨b2, 0, none⟩)] w fun e w' => e = .returned (.int .i64 2) ∧ w.setCell ⟨b2, 0, none⟩ (.bool true) = w' := by
  have h1 := H1.cell
  have h2 := H2.cell
  have h3 := H2.free
  clear H1 H2
  go_enter Try.func37, Try.ntmps37
  go_wp2
  go_ret
  exact ⟨rfl, rfl⟩

set_option maxHeartbeats 400000 in
theorem q_close (H1 : oneT w b1 true) (H2 : oneT w b2 false) (hc : (c == 92) = false) (hc2 : (c == 34) = true) :
    Calls Try.prog 37 #[.int .u8 c, .pointer (some ⟨b1, 0, none⟩), .pointer (some ⟨b2, 0, none⟩)] w fun e w' => e = .returned (.int .i64 4) ∧ w.setCell ⟨b1, 0, none⟩ (.bool false) = w' := by
  have h1 := H1.cell
  have h2 := H2.cell
  have h3 := H1.free
  clear H1 H2
  go_enter Try.func37, Try.ntmps37
  go_wp2
  go_ret
  exact ⟨rfl, rfl⟩

set_option maxHeartbeats 400000 in
theorem q_held (H1 : oneT w b1 true) (H2 : oneT w b2 false) (hc : (c == 92) = false) (hc2 : (c == 34) = false) :
    Calls Try.prog 37 #[.int .u8 c, .pointer (some ⟨b1, 0, none⟩), .pointer (some ⟨b2, 0, none⟩)] w fun e w' => e = .returned (.int .i64 3) ∧ w = w' := by
  have h1 := H1.cell
  have h2 := H2.cell
  clear H1 H2
  go_enter Try.func37, Try.ntmps37
  go_wp2
  go_ret
  exact ⟨rfl, rfl⟩
end

/-- where a reader of quotes stands ahead of byte k: what was open, what the last byte was, what has been read -/
def QInv (s : ByteArray) (k : Nat) (o e : Bool) (last : Int) (out : List UInt8) : Prop :=
  (k = 0 ∧ o = false ∧ e = false ∧ last = 0 ∧ out = []) ∨
  (o = true ∧ e = false ∧ (last = 1 ∨ last = 3) ∧ unquote s.data.toList = unq (s.data.toList.drop k) false out) ∨
  (o = true ∧ e = true ∧ last = 2 ∧ unquote s.data.toList = unq (s.data.toList.drop k) true out) ∨
  (o = false ∧ e = false ∧ last = 4 ∧ k = s.size ∧ unquote s.data.toList = some out)

end Go.Proofs.Ytjbkjmceabilaaa
