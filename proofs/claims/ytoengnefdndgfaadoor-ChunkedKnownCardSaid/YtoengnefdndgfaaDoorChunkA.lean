/- What the walks of bodies in chunks ask of Go's library: one table, two errors, one number; hexadecimal digits read as a number. -/
import Derived.Test.YtoengnefdndgfaaDoorSen
import Derived.Test.YtoengnefdndgfaaDoorShelf
import Derived.Test.YtoengnefdndgfaaDoorChunk0
import Derived.Test.YtoengnefdndgfaaDoorFieldsT
import Derived.Lib.LaidTab
import Derived.Lib.ConvBytes
import Derived.Lib.Walk
import Derived.Laws.Closers25
import Derived.Laws.Closers25b
import Derived.Laws.Strings3
import Derived.WalkKit
import Derived.BigCall
import Derived.BigGuard
namespace Go.Proofs.YtoengnefdndgfaaDoor
open Go.RowKit
/-- math/bits' table -/
def deBr : List Int := [0, 1, 56, 2, 57, 49, 28, 3, 61, 58, 42, 50, 38, 29, 17, 4, 62, 47, 59, 36, 45, 43, 51, 22, 53, 39, 33, 30, 24, 18, 12, 5, 63, 55, 48, 27, 60, 41, 37, 16, 46, 35, 44, 21, 52, 32, 23, 11, 54, 26, 40, 15, 34, 20, 31, 10, 25, 14, 19, 9, 13, 8, 7, 6]
def EnvC (w : World) : Prop := MaxL w ∧ (Sen w "strconv.ErrSyntax" ∧ Sen w "strconv.ErrRange") ∧ Lib.TabIs Tryd.prog w "math/bits.deBruijn64tab" .u8 deBr
theorem gBr : Tryd.prog.globalNamed "math/bits.deBruijn64tab" = some 5 := by kernel_rfl
theorem gBrType : (Tryd.prog.globals[5]?).map (·.type) = some 132 := by kernel_rfl
theorem cellsBr : Tryd.prog.cellsOf 132 = 64 := by kernel_rfl
theorem cellsB8 : Tryd.prog.cellsOf 5 = 1 := by kernel_rfl
theorem EnvC.below {B : Nat} {w w' : World} (h : EnvC w) (hb : Below B w w') (hB : w.heap.size ≤ B) : EnvC w' := by
  obtain ⟨h1, ⟨h2, h3⟩, h4⟩ := h
  refine ⟨h1.bel hb hB, ⟨h2.below hb hB, h3.below hb hB⟩, ?_⟩
  unfold Lib.TabIs at *
  exact var_keep h4 fun g _ hl => hb.block g (by omega)
theorem EnvC.bel {w w' : World} (h : EnvC w) (hb : Below w.heap.size w w') : EnvC w' := h.below hb (Nat.le_refl _)
theorem EnvC.alloc {w : World} (h : EnvC w) (o : Obj) : EnvC (w.alloc o) := h.bel ((Below.refl w.heap.size _).alloc (Nat.le_refl _) _)
/-- the rest, from what a row lists -/
theorem envc_of {W : World} {l : List (String × DataW Unit)} (hm : MaxL W) (h : laidMetH Tryd.prog l W)
    (hf : (l.filter (fun x => x.1 == "strconv.ErrSyntax"), l.filter (fun x => x.1 == "strconv.ErrRange")) =
      ([("strconv.ErrSyntax", senData [105, 110, 118, 97, 108, 105, 100, 32, 115, 121, 110, 116, 97, 120])], [("strconv.ErrRange", senData [118, 97, 108, 117, 101, 32, 111, 117, 116, 32, 111, 102, 32, 114, 97, 110, 103, 101])]))
    (hf2 : l.filter (fun x => x.1 == "math/bits.deBruijn64tab") = [("math/bits.deBruijn64tab", Lib.tabData .u8 deBr)]) : EnvC W := by
  refine ⟨hm, sen_of h hf, ?_⟩
  have h1 := laidMetH.filter (fun x => x.1 == "math/bits.deBruijn64tab") h
  rw [hf2, MakeChecks.laidMetH_plain _ _ _ (by rfl)] at h1
  exact Lib.tabIs_of_head (rest := []) gBr gBrType Tryd.underlying132 Tryd.underlying5 cellsB8 cellsBr h1

theorem index_any (s sep : List UInt8) (w : World) (hm : MaxL w) (hs : s.length < 4294967281) :
    Calls Tryd.prog 42 #[.string (bs s), .string (bs sep)] w fun e w' => e = .returned (.int .i64 (Lib.index s sep)) ∧ w = w' := by
  obtain ⟨m, hm⟩ := hm
  refine (Tryd.strings_Index (bs s) (bs sep) m w (by rw [bs_size]; exact hs) hm).mono ?_
  rw [bs_data, bs_data]
  rintro e w' ⟨he, hw⟩
  exact ⟨he, hw.symm⟩
theorem prefix_any (s p : List UInt8) (w : World) :
    Calls Tryd.prog 33 #[.string (bs s), .string (bs p)] w fun e w' => e = .returned (.bool (Lib.hasPrefix s p)) ∧ w = w' := by
  refine (Tryd.strings_HasPrefix (bs s) (bs p) w).mono ?_
  rw [bs_data, bs_data]
  rintro e w' ⟨he, hw⟩
  exact ⟨he, hw.symm⟩

/-- digits read to the end: the number, and the error's kind -/
def pu : List UInt8 → Nat → Nat × Nat
  | [], n => (n, 0)
  | c :: r, n => if hexB c then (if 1152921504606846976 ≤ n then (18446744073709551615, 1) else pu r (16 * n + hexD c)) else (0, 2)
/-- as the library's error -/
def puV (p : Nat × Nat) : Value := if p.2 = 0 then .tuple #[.int .u64 p.1, .nilIface] else .tuple #[.int .u64 p.1, .iface 103 (.int .i64 p.2)]
theorem hexD_lt (c : UInt8) : hexD c < 16 := by have := hexI_lt (c.toNat : Int); unfold hexD; omega
/-- a byte, and the byte with 32: what the walk asks -/
def hexQ (c L : Int) : Prop :=
  ((48 ≤ c ∧ c ≤ 57) ∧ hexI c = c - 48) ∨ (57 < c ∧ 97 ≤ L ∧ L ≤ 102 ∧ hexI c = L - 87) ∨ (57 < c ∧ 103 ≤ L ∧ L ≤ 122 ∧ hexI c = -1) ∨
  (c < 48 ∧ L < 97 ∧ hexI c = -1) ∨ (57 < c ∧ L < 97 ∧ hexI c = -1) ∨ (57 < c ∧ 122 < L ∧ hexI c = -1)
instance (c L : Int) : Decidable (hexQ c L) := by unfold hexQ; infer_instance
theorem hexQ_all : (List.range 256).all (fun n => decide (hexQ n (Go.bits .or .u8 n 32) ∧ ((n : Int) = 95 → Go.bits .or .u8 n 32 = 127))) = true := by kernel_rfl
theorem hex_cases (c : UInt8) : hexQ (c.toNat : Int) (Go.bits .or .u8 (c.toNat : Int) 32) ∧ ((c.toNat : Int) = 95 → Go.bits .or .u8 (c.toNat : Int) 32 = 127) := by
  have h := List.all_eq_true.1 hexQ_all c.toNat (List.mem_range.2 c.toNat_lt)
  exact of_decide_eq_true h
end Go.Proofs.YtoengnefdndgfaaDoor
