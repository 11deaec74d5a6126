/- A []string that comes in: what is read of it, and how much of the bound it takes. -/
import Derived.Test.YthoaogcndchjjaaTextJ
import Derived.Test.YthoaogcndchjjaaRows
import Derived.SliceStrings
namespace Go.Proofs.Ythoaogcndchjjaa
open Go.ChangeShapes Go.WideShapes Go.ChangeAt Go.RowKit

theorem bulk_strs {H : Type} : ∀ (l : List ByteArray) (x : ByteArray), x ∈ l → x.size + 1 ≤ Rows.uptoBulkAll (strs (H := H) l)
  | [], x, h => by cases h
  | y :: r, x, h => by
    have e : Rows.uptoBulkAll (strs (H := H) (y :: r)) = (y.data.toList.length + 1) + Rows.uptoBulkAll (strs (H := H) r) := by simp [strs, Rows.uptoBulkAll, Rows.uptoBulk]
    rw [e, ← size_len]
    rcases List.mem_cons.1 h with rfl | h
    · omega
    · have := bulk_strs (H := H) r x h; omega

theorem add_at (a : Addr) (i : Nat) {w : World} {v u : Value} (h0 : w.cell? (a.add 0) = some v) (h : w.cell? (a.add i) = some u) : ∃ b off, a = ⟨b, off, none⟩ ∧ w.cell? ⟨b, off + i, none⟩ = some u := by
  obtain ⟨b, off, spot⟩ := a
  cases spot with
  | none =>
    refine ⟨b, off, rfl, ?_⟩
    rw [show (⟨b, off, none⟩ : Addr).add i = ⟨b, off + i, none⟩ from by unfold Addr.add; split <;> simp_all] at h
    exact h
  | some s =>
    unfold Addr.add World.cell? at h0
    split at h0 <;> simp_all

theorem open_argS {H : Type} {enc : TypeId × Value → H} {W : World} {base : Nat} {v : Value} {d : DataW H} {ps : List MemPlace}
    (hv : Value.okWide Try.prog W .any base 31 v) (h : DataW.Trod enc Try.prog W 0 (fun _ => true) true 31 v d ps) :
    ∃ L : List ByteArray, argS W v L ∧ ∀ x ∈ L, x.size + 1 ≤ Rows.uptoBulk d := by
  obtain ⟨a0, len, cap, rfl⟩ := okWide_slice Try.underlying31 hv
  obtain ⟨fuel, hf⟩ := h
  rcases open_strings Try.underlying31 Try.underlying9 (by kernel_rfl) hf with ⟨hcs, hx⟩ | ⟨a, len', cap', ss, hcs, _, hl, hm, hz, hx, hcell, hws⟩
  · have e : a0 = none ∧ len = 0 ∧ cap = 0 := by simpa [Value.cells] using hcs
    obtain ⟨rfl, rfl, rfl⟩ := e
    exact ⟨[], .inl ⟨rfl, rfl⟩, by simp⟩
  · have e : a0 = some a ∧ len = len' ∧ cap = cap' := by simpa [Value.cells] using hcs
    obtain ⟨rfl, rfl, rfl⟩ := e
    have hd : d = .slice (strs (ss.take len)) (strs (ss.drop len)) := (Prod.mk.inj hx).1
    have hlen : (ss.take len).length = len := by rw [List.length_take, hz]; simp; omega
    refine ⟨ss.take len, ?_, fun x hx => ?_⟩
    · refine .inr ⟨a, cap, by rw [hlen], fun i hi => ?_⟩
      have hi2 : i < ss.length := by rw [List.length_take] at hi; omega
      obtain ⟨b, off, rfl, h1⟩ := add_at a i (hcell 0 (by omega)) (hcell i hi2)
      refine ⟨b, off, rfl, ?_⟩
      rw [h1]
      simp [List.getD, show i < len from by rw [hlen] at hi; exact hi]
    · rw [hd]
      have := bulk_strs (H := H) (ss.take len) x hx
      simp only [Rows.uptoBulk]
      omega
end Go.Proofs.Ythoaogcndchjjaa
