/- The laws' anchor; whether entries can be gone through with. -/
import Derived.Test.YtefgobmpleoafaaGreatPkL
import Derived.Test.YtefgobmpleoafaaGreatPkN
namespace Go.Proofs.YtefgobmpleoafaaGreat
open Go.RowKit
variable {w w' : World}

def r0 : Rc := ⟨1, 5, 3, []⟩
theorem r0_ok : r0.ok = true := by decide
theorem r0_bytes : eC r0 = [0, 0, 0, 0, 0, 2, 0, 0, 0, 0, 0, 6, 0, 0, 0, 0, 0, 4, 0, 0, 0, 0, 0, 1] := by decide
theorem r0_dec : dC (eC r0) = some r0 := dC_some.2 ⟨by decide, r0_ok, rfl⟩
def smallE (e : En) : Bool := decide (e.d.put.length ≤ 20) && decide (e.d.drop.length ≤ 20) && e.d.put.all fun r => decide (r.pat.size ≤ 300)
def smallL (l : List En) : Bool := l.all smallE && decide (l.length ≤ 70)
end Go.Proofs.YtefgobmpleoafaaGreat
