/- A region whose new block may come up at several places: what follows is told of the block and the world alone. -/
import Derived.Test.YtopgeclecpaecaaGreatDoorKOpen
namespace Go.Proofs.YtopgeclecpaecaaGreatDoor
open Go.RowKit

theorem wp_meetG {P : Program} {c : Code} {Q : Exit → Act → World → Prop} {a : Act} {w : World} {act : Nat → Act} (Good : Nat → World → Prop)
    (h1 : c.wp P (fun e a' w' => ∃ g, e = .normal ∧ a' = act g ∧ Good g w') a w)
    (h2 : ∀ g w', Good g w' → Q .normal (act g) w') : c.wp P Q a w :=
  Code.wp_mono (by rintro e a' w' ⟨g, rfl, rfl, h⟩; exact h2 g w' h) h1
end Go.Proofs.YtopgeclecpaecaaGreatDoor
