/- The shape law's anchor; what the laws need of Parse. -/
import Derived.Test.YtefgobmpleoafaaGreatDoorJSxd
import Derived.Test.YtefgobmpleoafaaGreatDoorJPY
import Derived.Test.YtefgobmpleoafaaGreatDoorJModel
namespace Go.Proofs.YtefgobmpleoafaaGreatDoor
open Go.RowKit
open Go.Proofs.YtefgobmpleoafaaGreatDoor.Cl (Rg)
variable {w w' : World}

def shapeNd : Nd := .mk 3 0 0 0 0 [] [.mk 4 2 3 0 0 [] [.mk 1 0 0 0 0 [(97, 97)] []], .mk 4 0 (-1) 0 0 [] [.mk 1 0 0 0 0 [(98, 98)] []]]
theorem shape1 : parse 1026 [97, 123, 50, 44, 51, 125, 124, 98, 42] = .ok (shapeNd, 0, false) := by kernel_rfl
def starNd : Nd := .mk 4 0 (-1) 0 0 [] [.mk 1 0 0 0 0 [(97, 97)] []]
theorem shape2 : parse 1026 [97, 42] = .ok (starNd, 0, false) := by kernel_rfl
theorem shape_wf : Wf shapeNd := parse_wf shape1
theorem shape_least : least shapeNd = 0 := by kernel_rfl
theorem shape_most : most shapeNd = -1 := by kernel_rfl
theorem shape_size : ndSize shapeNd = 11 := by kernel_rfl
theorem shape_verdict : verdictN shapeNd = 0 := by kernel_rfl
theorem run_eql_errno (a b : Int) : (binOp .eql 40 (.int .i64 a) (.int .i64 b)).run Tryz.prog w = .ok (.bool (a == b)) w := by rfl

end Go.Proofs.YtefgobmpleoafaaGreatDoor

