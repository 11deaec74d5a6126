/- From what a row lists, and from the world's shape, to what the walks ask. -/
import Derived.Test.YtilaalfehnngcaaDoorFieldsK
import Derived.Test.YtilaalfehnngcaaDoorFieldsY
import Derived.LaidSub
import Derived.MakeChecks
import Derived.HandedShaped
namespace Go.Proofs.YtilaalfehnngcaaDoor
open Go.RowKit
theorem gSp : Tryd.prog.globalNamed "strings.asciiSpace" = some 0 := by kernel_rfl
theorem gSpType : (Tryd.prog.globals[0]?).map (·.type) = some 87 := by kernel_rfl
theorem cellsSp : Tryd.prog.cellsOf 87 = 256 := by kernel_rfl
theorem cellsU8 : Tryd.prog.cellsOf 5 = 1 := by kernel_rfl
theorem spc_of {W : World} {l : List (String × DataW Unit)} (h : laidMetH Tryd.prog l W)
    (hf : l.filter (fun x => x.1 == "strings.asciiSpace") = [("strings.asciiSpace", Lib.tabData .u8 Lib.asciiSpaceTab)]) : Spc W := by
  have h2 := laidMetH.filter (fun x => x.1 == "strings.asciiSpace") h
  rw [hf, MakeChecks.laidMetH_plain _ _ _ (by rfl)] at h2
  exact Lib.tabIs_of_head (rest := []) gSp gSpType Tryd.underlying87 Tryd.underlying5 cellsU8 cellsSp h2
theorem maxL_of (W : World) (h : W.ShapedOpen Tryd.prog) : MaxL W :=
  Go.Proofs.cell_of_shapedOpen_int (zero := #[.int .i64 0]) (t := 3) h (of_decide_eq_true (by kernel_rfl)) (by kernel_rfl) rfl (by kernel_rfl) (by kernel_rfl) Tryd.underlying3
end Go.Proofs.YtilaalfehnngcaaDoor
