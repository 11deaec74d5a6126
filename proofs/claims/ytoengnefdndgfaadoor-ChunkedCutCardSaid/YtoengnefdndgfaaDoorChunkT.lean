/- What the walks ask of Go's library, from a row's own conditions. -/
import Derived.Test.YtoengnefdndgfaaDoorChunkA
import Derived.HandedShaped
namespace Go.Proofs.YtoengnefdndgfaaDoor
open Go.RowKit
def LibC (w : World) : Prop := (Sen w "strconv.ErrSyntax" ∧ Sen w "strconv.ErrRange") ∧ Lib.TabIs Tryd.prog w "math/bits.deBruijn64tab" .u8 deBr
theorem libC_of {W : World} {l : List (String × DataW Unit)} (h : laidMetH Tryd.prog l W)
    (hf : ((l.filter (fun x => x.1 == "strconv.ErrSyntax"), l.filter (fun x => x.1 == "strconv.ErrRange")), l.filter (fun x => x.1 == "math/bits.deBruijn64tab")) =
      (([("strconv.ErrSyntax", senData [105, 110, 118, 97, 108, 105, 100, 32, 115, 121, 110, 116, 97, 120])], [("strconv.ErrRange", senData [118, 97, 108, 117, 101, 32, 111, 117, 116, 32, 111, 102, 32, 114, 97, 110, 103, 101])]), [("math/bits.deBruijn64tab", Lib.tabData .u8 deBr)])) : LibC W := by
  obtain ⟨f1, f2⟩ := Prod.mk.inj hf
  refine ⟨sen_of h f1, ?_⟩
  have h1 := laidMetH.filter (fun x => x.1 == "math/bits.deBruijn64tab") h
  rw [f2, MakeChecks.laidMetH_plain _ _ _ (by rfl)] at h1
  exact Lib.tabIs_of_head (rest := []) gBr gBrType Tryd.underlying132 Tryd.underlying5 cellsB8 cellsBr h1
theorem envC {w : World} (hm : MaxL w) (hl : LibC w) : EnvC w := ⟨hm, hl.1, hl.2⟩
theorem maxC_of (W : World) (h : W.ShapedOpen Tryd.prog) : MaxL W :=
  Go.Proofs.cell_of_shapedOpen_int (zero := #[.int .i64 0]) (t := 3) h (of_decide_eq_true (by kernel_rfl)) (by kernel_rfl) rfl (by kernel_rfl) (by kernel_rfl) Tryd.underlying3
end Go.Proofs.YtoengnefdndgfaaDoor
