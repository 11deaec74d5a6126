/- From what a row lists to what the store's walks ask. -/
import Derived.Test.YtopgeclecpaecaaGreatDoorKKpN
import Derived.Test.YtopgeclecpaecaaGreatDoorKKpP
import Derived.Test.YtopgeclecpaecaaGreatDoorKTick
import Derived.HandedShaped
import Derived.OpenShut
namespace Go.Proofs.YtopgeclecpaecaaGreatDoor
open Go.RowKit
theorem maxK_of (W : World) (h : W.ShapedOpen Tryz.prog) : ∃ m : Int, W.cell? ⟨0, 0, none⟩ = some (.int .i64 m) :=
  Go.Proofs.cell_of_shapedOpen_int (zero := #[.int .i64 0]) (t := 3) h (of_decide_eq_true (by kernel_rfl)) (by kernel_rfl) rfl (by kernel_rfl) (by kernel_rfl) Tryz.underlying3
theorem storeBound_fr (b0 m0 : Int) (v : Value) (L : List Ac) (w : World) (he : (Lit.int .u16 b0).wf = true) (hm : (Lit.int .u16 m0).wf = true) (hv : AL w v L) (hL : ∀ j (hj : j < L.length), AcOk w L[j]) (hl : L.length ≤ 9223372036854775807) (hs : ∃ m : Int, w.cell? ⟨0, 0, none⟩ = some (.int .i64 m)) (ht : Tab w) :
    Calls Tryz.prog 6 #[.agg #[.int .u16 b0, .int .u16 m0], v] w fun e w' => e = .returned (.bool true) ∧ Below w.heap.size w w' := storeBound_law b0 m0 v L w he hm hv hL hl ⟨ht, hs⟩
theorem storeHonest_fr (b0 m0 : Int) (v : Value) (L : List Ac) (w : World) (he : (Lit.int .u16 b0).wf = true) (hm : (Lit.int .u16 m0).wf = true) (hv : AL w v L) (hL : ∀ j (hj : j < L.length), AcOk w L[j]) (hl : L.length ≤ 9223372036854775807) (hs : ∃ m : Int, w.cell? ⟨0, 0, none⟩ = some (.int .i64 m)) (ht : Tab w) :
    Calls Tryz.prog 4 #[.agg #[.int .u16 b0, .int .u16 m0], v] w fun e w' => e = .returned (.bool true) ∧ Below w.heap.size w w' := storeHonest_law b0 m0 v L w he hm hv hL hl ⟨ht, hs⟩
end Go.Proofs.YtopgeclecpaecaaGreatDoor
