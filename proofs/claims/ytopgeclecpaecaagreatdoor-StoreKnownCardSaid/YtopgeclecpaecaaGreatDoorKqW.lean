/- From what StoreKnown's row lists to what its walk asks. -/
import Derived.Test.YtopgeclecpaecaaGreatDoorKqK
import Derived.Test.YtopgeclecpaecaaGreatDoorKKpV
namespace Go.Proofs.YtopgeclecpaecaaGreatDoor
open Go.RowKit
theorem storeKnown_fr (w : World) (hs : ∃ m : Int, w.cell? ⟨0, 0, none⟩ = some (.int .i64 m)) (ht : Tab w) : Calls Tryz.prog 3 #[] w fun r w' => r = .returned (.bool true) ∧ Below w.heap.size w w' := storeKnown_law w ⟨ht, hs⟩
end Go.Proofs.YtopgeclecpaecaaGreatDoor
