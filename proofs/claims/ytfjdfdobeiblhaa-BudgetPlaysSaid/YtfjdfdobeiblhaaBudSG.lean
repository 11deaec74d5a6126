/- A budget that was made since a world: its calls, with what stands below (values: string). -/
import Derived.Test.YtfjdfdobeiblhaaBudSF
namespace Go.Proofs.Ytfjdfdobeiblhaa.BS
open Go.RowKit
/-- a budget that was made since w0 -/
def Bq (w0 w : World) (b n m : Nat) (l : List (It (List UInt8))) : Prop := ∃ X, Bd w b X n m l ∧ Below w0.heap.size w0 w ∧ ∀ k, X k → w0.heap.size ≤ k
section
variable {w0 w w' : World} {b n m : Nat} {l : List (It (List UInt8))}
theorem Bq.below (h : Bq w0 w b n m l) : Below w0.heap.size w0 w := by obtain ⟨X, -, h, -⟩ := h; exact h
theorem Bq.ok (h : Bq w0 w b n m l) : OkK n m l := by obtain ⟨X, h, -⟩ := h; exact h.ok
theorem Bq.bounds (h : Bq w0 w b n m l) : 1 ≤ n ∧ n ≤ 4096 ∧ 1 ≤ m ∧ m ≤ 1073741824 := by obtain ⟨X, h, -⟩ := h; exact h.bounds
theorem Bq.bel (h : Bq w0 w b n m l) (hb : Below w.heap.size w w') : Bq w0 w' b n m l := by
  obtain ⟨X, h1, h2, h3⟩ := h
  exact ⟨X, h1.bel hb, h2.trans (hb.mono h2.size), h3⟩
theorem Bq.step {X X' : Nat → Prop} {l' : List (It (List UInt8))} (h2 : Below w0.heap.size w0 w) (h3 : ∀ k, X k → w0.heap.size ≤ k) (h1 : Bd w' b X' n m l') (hd : Did X X' w w') : Bq w0 w' b n m l' :=
  ⟨X', h1, h2.trans (hd.below h2.size h3), fun k hk => (hd.new k hk).elim (h3 k) (fun e => Nat.le_trans h2.size e)⟩
theorem new_q (n m : Nat) (n1 : 1 ≤ n) (n2 : n ≤ 4096) (m1 : 1 ≤ m) (m2 : m ≤ 1073741824) (hb : Below w0.heap.size w0 w) :
    Calls Try.prog 18 #[.int .i64 n, .int .i64 m] w fun e w' => ∃ b, e = .returned (.pointer (some ⟨b, 0, none⟩)) ∧ w.heap.size ≤ b ∧ Bq w0 w' b n m [] := by
  refine (new_any n m w n1 n2 m1 m2).mono ?_
  rintro e w' ⟨b, X, rfl, h1, h2, h3⟩
  refine ⟨b, rfl, h3 b ?_, X, h1, hb.trans (h2.mono hb.size), fun k hk => Nat.le_trans hb.size (h3 k hk)⟩
  obtain ⟨sb, mb, ns, -, rfl, -⟩ := h1
  exact .inl rfl
theorem put_q (h : Bq w0 w b n m l) (k : List UInt8) (hl : k.length ≤ KL) (s : Int) (hs1 : -9223372036854775808 ≤ s) (hs2 : s ≤ 9223372036854775807) (x : (List UInt8)) :
    Calls Try.prog 19 #[.pointer (some ⟨b, 0, none⟩), .string (bs k), .int .i64 s, .string (bs x)] w fun e w' => ∃ v, e = .returned v ∧ ownS w' w.heap.size v (putK n m k s.toNat x l).1 ∧ Bq w0 w' b n m (putK n m k s.toNat x l).2 := by
  obtain ⟨X, h1, h2, h3⟩ := h
  refine (put_any h1 k hl s hs1 hs2 x).mono ?_
  rintro e w' ⟨v, rfl, hv, X', h1', hd⟩
  exact ⟨v, rfl, hv, Bq.step h2 h3 h1' hd⟩
theorem get_q (h : Bq w0 w b n m l) (k : List UInt8) (hl : k.length ≤ KL) :
    Calls Try.prog 28 #[.pointer (some ⟨b, 0, none⟩), .string (bs k)] w fun e w' => e = .returned (.tuple #[.string (bs (valK ([] : List UInt8) (findK k l))), .bool (findK k l).isSome]) ∧ Bq w0 w' b n m (getK k l) := by
  obtain ⟨X, h1, h2, h3⟩ := h
  refine (get_any h1 k hl).mono ?_
  rintro e w' ⟨rfl, X', h1', hd⟩
  exact ⟨rfl, Bq.step h2 h3 h1' hd⟩
theorem peek_q (h : Bq w0 w b n m l) (k : List UInt8) (hl : k.length ≤ KL) :
    Calls Try.prog 22 #[.pointer (some ⟨b, 0, none⟩), .string (bs k)] w fun e w' => e = .returned (.tuple #[.string (bs (valK ([] : List UInt8) (findK k l))), .bool (findK k l).isSome]) ∧ w = w' := by
  obtain ⟨X, h1, h2, h3⟩ := h
  exact peek_any h1 k hl
theorem drop_q (h : Bq w0 w b n m l) (k : List UInt8) (hl : k.length ≤ KL) :
    Calls Try.prog 24 #[.pointer (some ⟨b, 0, none⟩), .string (bs k)] w fun e w' => e = .returned (.bool (hasK k l)) ∧ Bq w0 w' b n m (dropK k l) := by
  obtain ⟨X, h1, h2, h3⟩ := h
  refine (drop_any h1 k hl).mono ?_
  rintro e w' ⟨rfl, X', h1', hd⟩
  exact ⟨rfl, Bq.step h2 h3 h1' hd⟩
theorem keys_q (h : Bq w0 w b n m l) : Calls Try.prog 40 #[.pointer (some ⟨b, 0, none⟩)] w fun e w' => ∃ v, e = .returned v ∧ ownS w' w.heap.size v (keysK l) ∧ Below w.heap.size w w' := by
  obtain ⟨X, h1, h2, h3⟩ := h
  exact keys_any h1
theorem len_q (h : Bq w0 w b n m l) : Calls Try.prog 21 #[.pointer (some ⟨b, 0, none⟩)] w fun e w' => e = .returned (.int .i64 (l.length : Int)) ∧ w = w' := by
  obtain ⟨X, h1, h2, h3⟩ := h
  exact len_any h1
theorem bytes_q (h : Bq w0 w b n m l) : Calls Try.prog 23 #[.pointer (some ⟨b, 0, none⟩)] w fun e w' => e = .returned (.int .i64 (totK l : Int)) ∧ w = w' := by
  obtain ⟨X, h1, h2, h3⟩ := h
  exact bytes_any h1
/-! ### at what is known -/
theorem put_none (h : Bq w0 w b n m l) (k : List UInt8) (s : Int) (x : (List UInt8)) (l' : List (It (List UInt8))) (hp : putK n m k s.toNat x l = ([], l')) (hl : k.length ≤ 100) (hs1 : -100 ≤ s) (hs2 : s ≤ 100) :
    Calls Try.prog 19 #[.pointer (some ⟨b, 0, none⟩), .string (bs k), .int .i64 s, .string (bs x)] w fun e w' => ∃ A c, e = .returned (.slice A 0 c) ∧ Bq w0 w' b n m l' := by
  refine (put_q h k (by unfold KL; omega) s (by omega) (by omega) x).mono ?_
  rintro e w' ⟨v, rfl, hv, hq⟩
  rw [hp] at hv hq
  obtain ⟨A, c, rfl⟩ := hv.form
  exact ⟨A, c, rfl, hq⟩
theorem put_one (h : Bq w0 w b n m l) (k : List UInt8) (s : Int) (x : (List UInt8)) (g : List UInt8) (l' : List (It (List UInt8))) (hp : putK n m k s.toNat x l = ([g], l')) (hl : k.length ≤ 100) (hs1 : -100 ≤ s) (hs2 : s ≤ 100) :
    Calls Try.prog 19 #[.pointer (some ⟨b, 0, none⟩), .string (bs k), .int .i64 s, .string (bs x)] w fun e w' => ∃ g0 c, e = .returned (.slice (some ⟨g0, 0, none⟩) 1 c) ∧ w'.cell? ⟨g0, 0, none⟩ = some (.string (bs g)) ∧ Bq w0 w' b n m l' := by
  refine (put_q h k (by unfold KL; omega) s (by omega) (by omega) x).mono ?_
  rintro e w' ⟨v, rfl, hv, hq⟩
  rw [hp] at hv hq
  obtain ⟨A, c, rfl⟩ := hv.form
  obtain ⟨g0, rfl, hc⟩ := hv.cell 0 (by simp)
  exact ⟨g0, c, rfl, hc, hq⟩
end
end Go.Proofs.Ytfjdfdobeiblhaa.BS
