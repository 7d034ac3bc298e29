/- The law ProgPlaces. -/
import Derived.Test.YtkoflhohokdllaaGreatDoorGq
namespace Go.Proofs.YtkoflhohokdllaaGreatDoor
open Go.RowKit

theorem progPlaces_law (x : ByteArray) (W : World) (hT : TabL W.heap.size W) : Calls Tryz.prog 4 #[.string x] W fun e w' => e = .returned (.bool true) ∧ Below W.heap.size W w' := places_law x hT

end Go.Proofs.YtkoflhohokdllaaGreatDoor
