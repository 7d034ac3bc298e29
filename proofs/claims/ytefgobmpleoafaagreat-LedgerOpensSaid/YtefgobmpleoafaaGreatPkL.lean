/- Package pack: Decode. -/
import Derived.Test.YtefgobmpleoafaaGreatPkK
namespace Go.Proofs.YtefgobmpleoafaaGreat
open Go.RowKit
variable {w w' : World} {n₀ rb : Nat} {s : List UInt8} {wr : Bool}

theorem dM_none (hl : s.length ≤ 65536) (h : pM s = none) : dM s = none := by unfold dM; rw [if_neg (by omega), h]
theorem dM_at {x : Ms} (hl : s.length ≤ 65536) (h : pM s = some (x, [])) : dM s = if x.ok then some x else none := by unfold dM; rw [if_neg (by omega), h]
theorem dM_rest {x : Ms} {t : S} (hl : s.length ≤ 65536) (h : pM s = some (x, t)) (ht : t ≠ []) : dM s = none := by
  unfold dM
  rw [if_neg (by omega), h]
  cases t with
  | nil => exact absurd rfl ht
  | cons a t => rfl
/-- What decode answers, with a reader of its own. -/
def DecRM (rb : Nat) (w : World) (r : Option Ms) (e : Ending) (w' : World) : Prop :=
  FrR rb w w' ∧ ((∃ m v, r = some m ∧ e = .returned (.tuple #[v, .int .i64 0]) ∧ MsgV w.heap.size w' v m) ∨ (r = none ∧ e = .returned (.tuple #[.agg #[.int .i64 0, .int .i64 0, .int .i64 0, .int .i64 0, .int .i64 0, .int .i64 0, .int .i64 0, .slice none 0 0], .int .i64 10])))
/-- What Decode answers. -/
def DecPM (w : World) (r : Option Ms) (e : Ending) (w' : World) : Prop :=
  Below w.heap.size w w' ∧ ((∃ m v, r = some m ∧ e = .returned (.tuple #[v, .int .i64 0]) ∧ MsgV w.heap.size w' v m) ∨ (r = none ∧ e = .returned (.tuple #[.agg #[.int .i64 0, .int .i64 0, .int .i64 0, .int .i64 0, .int .i64 0, .int .i64 0, .int .i64 0, .slice none 0 0], .int .i64 10])))
end Go.Proofs.YtefgobmpleoafaaGreat
