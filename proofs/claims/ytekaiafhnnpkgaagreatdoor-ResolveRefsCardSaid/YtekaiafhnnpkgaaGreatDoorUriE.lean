/- What the walks of URIs ask of Go's library; the library's functions on texts of bytes. -/
import Derived.Test.YtekaiafhnnpkgaaGreatDoorEnv
import Derived.Test.YtekaiafhnnpkgaaGreatDoorTextB
import Derived.Test.YtekaiafhnnpkgaaGreatDoorUri0
import Derived.Test.YtekaiafhnnpkgaaGreatDoorText2
import Derived.HandedShaped
namespace Go.Proofs.YtekaiafhnnpkgaaGreatDoor
open Go.RowKit

/-- the library's variable that strings.Index looks at holds a number -/
def MaxU (w : World) : Prop := ∃ m : Int, w.cell? ⟨0, 0, none⟩ = some (.int .i64 m)
def EnvU (w : World) : Prop := MaxU w ∧ Env w
theorem MaxU.below {w w' : World} {B : Nat} (h : MaxU w) (hb : Below B w w') (hB : w.heap.size ≤ B) : MaxU w' := by
  obtain ⟨m, h⟩ := h
  have hlt : 0 < w.heap.size := block_lt_of_cell h
  exact ⟨m, (hb.cell (p := ⟨0, 0, none⟩) (by show 0 < B; omega)).trans h⟩
theorem EnvU.below {B : Nat} {w w' : World} (h : EnvU w) (hb : Below B w w') (hB : w.heap.size ≤ B) : EnvU w' := ⟨h.1.below hb hB, h.2.below hb hB⟩
theorem EnvU.bel {w w' : World} (h : EnvU w) (hb : Below w.heap.size w w') : EnvU w' := h.below hb (Nat.le_refl _)
theorem EnvU.alloc {w : World} (h : EnvU w) (o : Obj) : EnvU (w.alloc o) := h.bel ((Below.refl w.heap.size _).alloc (Nat.le_refl _) _)
theorem maxU_of (W : World) (h : W.ShapedOpen Tryz.prog) : MaxU W :=
  Go.Proofs.cell_of_shapedOpen_int (zero := #[.int .i64 0]) (t := 3) h (of_decide_eq_true (by kernel_rfl)) (by kernel_rfl) rfl (by kernel_rfl) (by kernel_rfl) Tryz.underlying3

theorem cutU_any (s sep : List UInt8) (w : World) (hm : EnvU w) (hs : s.length < 4294967281) :
    Calls Tryz.prog 14 #[.string (bs s), .string (bs sep)] w fun e w' => e = .returned (.tuple #[.string (bs (Lib.cut s sep).1), .string (bs (Lib.cut s sep).2.1), .bool (Lib.cut s sep).2.2]) ∧ Below w.heap.size w w' := by
  obtain ⟨⟨m, hm⟩, -⟩ := hm
  refine (Tryz.strings_Cut (bs s) (bs sep) m w (by rw [bs_size]; exact hs) hm).mono ?_
  rw [bs_data, bs_data]
  rintro e w' ⟨he, n, rfl⟩
  have h := Below.refl w.heap.size w
  exact ⟨he, h.os, h.tape, h.output, h.size, h.block⟩
theorem prefixU_any (s p : List UInt8) (w : World) :
    Calls Tryz.prog 33 #[.string (bs s), .string (bs p)] w fun e w' => e = .returned (.bool (Lib.hasPrefix s p)) ∧ w = w' := by
  refine (Tryz.strings_HasPrefix (bs s) (bs p) w).mono ?_
  rw [bs_data, bs_data]
  rintro e w' ⟨he, hw⟩
  exact ⟨he, hw.symm⟩
theorem suffixU_any (s p : List UInt8) (w : World) (hs : s.length ≤ 9223372036854775807) :
    Calls Tryz.prog 50 #[.string (bs s), .string (bs p)] w fun e w' => e = .returned (.bool (Lib.hasSuffix s p)) ∧ w = w' := by
  refine (Tryz.strings_HasSuffix (bs s) (bs p) w (by rw [bs_size]; exact hs)).mono ?_
  rw [bs_data, bs_data]
  rintro e w' ⟨he, hw⟩
  exact ⟨he, hw.symm⟩
theorem cutPrefixU_any (s p : List UInt8) (w : World) :
    Calls Tryz.prog 47 #[.string (bs s), .string (bs p)] w fun e w' => e = .returned (.tuple #[.string (bs (Lib.trimPrefix s p)), .bool (Lib.hasPrefix s p)]) ∧ w = w' := by
  refine (Tryz.strings_CutPrefix (bs s) (bs p) w).mono ?_
  rw [bs_data, bs_data]
  rintro e w' ⟨he, hw⟩
  exact ⟨he, hw.symm⟩
theorem index_in (m : List UInt8) (c : UInt8) : decide ((0 : Int) ≤ Lib.indexByte m c) = inI (c.toNat : Int) m := by
  have key : ∀ m : List UInt8, (Lib.indexByte m c = -1 ∧ inI (c.toNat : Int) m = false) ∨ (0 ≤ Lib.indexByte m c ∧ inI (c.toNat : Int) m = true) := by
    intro m
    induction m with
    | nil => exact .inl ⟨rfl, rfl⟩
    | cons b l ih =>
      have h2 : inI (c.toNat : Int) (b :: l) = (((b.toNat : Int) == (c.toNat : Int)) || inI (c.toNat : Int) l) := rfl
      have h3 : ((b.toNat : Int) == (c.toNat : Int)) = (b == c) := by
        rw [Bool.eq_iff_iff, beq_iff_eq, beq_iff_eq]
        exact ⟨fun h => UInt8.toNat_inj.1 (by omega), fun h => by rw [h]⟩
      rw [h2, h3]
      unfold Lib.indexByte
      cases hb : b == c
      · rcases ih with ⟨h4, h5⟩ | ⟨h4, h5⟩
        · exact .inl ⟨by simp [h4], by simp [h5]⟩
        · have h6 : (Lib.indexByte l c == -1) = false := by rw [beq_eq_false_iff_ne]; omega
          exact .inr ⟨by simp [h6]; omega, by simp [h5]⟩
      · exact .inr ⟨by simp, by simp⟩
  rcases key m with ⟨h1, h2⟩ | ⟨h1, h2⟩
  · rw [h2, h1]; rfl
  · rw [h2]; exact decide_eq_true h1
theorem indexU_any (m : List UInt8) (c : UInt8) (w : World) :
    Calls Tryz.prog 71 #[.string (bs m), .int .u8 (c.toNat : Int)] w fun e w' => e = .returned (.int .i64 (Lib.indexByte m c)) ∧ w = w' := by
  refine (Tryz.strings_IndexByte (bs m) (c.toNat : Int) w).mono ?_
  rw [bs_data]
  rintro e w' ⟨he, hw⟩
  refine ⟨?_, hw.symm⟩
  rw [he, Int.toNat_natCast]
  simp
theorem cloneU_any (s : List UInt8) (w : World) (hlim : s.length ≤ 281474976710656) :
    Calls Tryz.prog 26 #[.string (bs s)] w fun e w' => e = .returned (.string (bs s)) ∧ Below w.heap.size w w' := clone_any (bs s) w (by rw [bs_size]; exact hlim)
theorem itoaU_any (n : Int) (w : World) (h0 : -9223372036854775808 ≤ n) (h1 : n ≤ 9223372036854775807) (ht : EnvU w) :
    Calls Tryz.prog 45 #[.int .i64 n] w fun e w' => e = .returned (.string (bs (Lib.itoa n))) ∧ Below w.heap.size w w' := by
  refine (Tryz.strconv_Itoa n h0 h1 w ht.2.1).mono ?_
  rintro e w' ⟨rfl, k, os, rfl⟩
  exact ⟨rfl, Lib.below_grow _ w (Nat.le_refl _) k os⟩
theorem atoiU_any (s : List UInt8) (w : World) (hlim : s.length ≤ 281474976710656) (ht : EnvU w) :
    Calls Tryz.prog 88 #[.string (bs s)] w fun e w' => ∃ v, e = .returned (.tuple #[.int .i64 (atoiV s), v]) ∧ Below w.heap.size w w' := by
  have h := atoi_any (bs s) w (by rw [bs_size]; exact hlim) ht.2
  rwa [bs_data] at h
theorem lowerU_any (s : List UInt8) (w : World) (hs : s.length ≤ maxLen) :
    Calls Tryz.prog 27 #[.string (bs s)] w fun e w' => e = .returned (.string (bs (lower s))) ∧ Below w.heap.size w w' := by
  have h := lower_any (bs s) w (by rw [bs_size]; exact hs)
  rwa [bs_data] at h
end Go.Proofs.YtekaiafhnnpkgaaGreatDoor
