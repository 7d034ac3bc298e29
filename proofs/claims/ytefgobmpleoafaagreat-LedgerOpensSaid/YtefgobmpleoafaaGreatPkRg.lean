/- The document's Parse and ParseRecord. -/
import Derived.Test.YtefgobmpleoafaaGreatMRe
import Derived.Test.YtefgobmpleoafaaGreatPkXa
import Derived.Test.YtefgobmpleoafaaGreatPkN
namespace Go.Proofs.YtefgobmpleoafaaGreat
open Go.RowKit
variable {w w' w'' : World} {n₀ rb : Nat} {b s : List UInt8} {wr : Bool}

theorem FrR.belowN (h : FrR rb w w') {n : Nat} (h1 : n ≤ rb) (h2 : n ≤ w.heap.size) : Below n w w' := ⟨h.os, h.tape, h.output, h.size, fun i hi => h.block i (by omega) (by omega)⟩
theorem dM_big (h : 65536 < b.length) : dM b = none := by unfold dM; rw [if_pos h]
theorem dC_big (h : 65536 < b.length) : dC b = none := by unfold dC; rw [if_pos h]
theorem dM_noneA (h : pM b = none) : dM b = none := by
  rcases Nat.lt_or_ge 65536 b.length with hl | hl
  · exact dM_big hl
  · exact dM_none hl h
theorem dC_noneA (h : pRc b = none) : dC b = none := by
  rcases Nat.lt_or_ge 65536 b.length with hl | hl
  · exact dC_big hl
  · exact dC_none hl h
theorem dM_restA {x : Ms} {t : S} (h : pM b = some (x, t)) (ht : t ≠ []) : dM b = none := by
  rcases Nat.lt_or_ge 65536 b.length with hl | hl
  · exact dM_big hl
  · exact dM_rest hl h ht
theorem dC_restA {x : Rc} {t : S} (h : pRc b = some (x, t)) (ht : t ≠ []) : dC b = none := by
  rcases Nat.lt_or_ge 65536 b.length with hl | hl
  · exact dC_big hl
  · exact dC_rest hl h ht
theorem Blk.drew_ {g : Nat} {t : TypeId} {cs : Array Value} (h : Blk w g t cs) : Blk w.drew g t cs := h
/-- What Parse answers. -/
def ParseM (w : World) (b : List UInt8) (e : Ending) (w' : World) : Prop :=
  Below w.heap.size w w' ∧ ∃ x A c ok, e = .returned (.tuple #[x.val (.slice A x.log.length c), .bool ok]) ∧ OwnE 78 125 w.heap.size w' (.slice A x.log.length c) x.log ∧ ((ok = true ∧ dM b = some x) ∨ (ok = false ∧ dM b = none))
def ParseC (w : World) (b : List UInt8) (e : Ending) (w' : World) : Prop :=
  Below w.heap.size w w' ∧ ∃ x A c ok, e = .returned (.tuple #[x.val (.slice A x.log.length c), .bool ok]) ∧ OwnE 78 125 w.heap.size w' (.slice A x.log.length c) x.log ∧ ((ok = true ∧ dC b = some x) ∨ (ok = false ∧ dC b = none))
end Go.Proofs.YtefgobmpleoafaaGreat
