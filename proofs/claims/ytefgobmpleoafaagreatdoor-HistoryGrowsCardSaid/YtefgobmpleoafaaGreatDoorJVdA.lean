/- Layer 8's laws: two verdicts the same; the anchor. -/
import Derived.Test.YtefgobmpleoafaaGreatDoorJVd
import Derived.Test.YtefgobmpleoafaaGreatDoorJRc
import Derived.Laws.StructEq
namespace Go.Proofs.YtefgobmpleoafaaGreatDoor
open Go.RowKit
variable {w w' : World}

theorem run_eql_verdict (a b c a' b' c' : Int) (w : World) : (binOp .eql 42 (.agg #[.int .i64 a, .int .i64 b, .int .i64 c]) (.agg #[.int .i64 a', .int .i64 b', .int .i64 c'])).run Tryz.prog w = .ok (.bool (a == a' && b == b' && c == c')) w := by
  have u3 := Tryz.underlying3
  have a3 := Tryz.isAgg3
  have z3 := Tryz.sizeOf3
  have u30 := Tryz.underlying40
  have hS : Tryz.prog.underlying 42 = some (.struct (Tryz.prog.fieldsOf 42)) := by kernel_rfl
  have hp : Tryz.prog.stoodInHeld 42 = false := by kernel_rfl
  rw [run_eql_struct, show (10000 : Nat) = 9999 + 1 from rfl, run_equalIn_agg w 9999 42 _ _ hS hp]
  simp only [Program.fieldsOf, Tryz.underlying42]
  go_simp
  by_cases h1 : a = a' <;> by_cases h2 : b = b' <;> by_cases h3 : c = c' <;> simp [h1, h2, h3]
theorem fault40 : parse 1026 [40] = .error (20, 0) := by kernel_rfl
theorem pv_star : pvM ⟨#[97, 42, 42]⟩ = (23, 2) := by
  show pvR (parse 1026 [97, 42, 42]) = _
  rw [show parse 1026 [97, 42, 42] = .error (23, 2) by kernel_rfl]
  rfl
theorem pv_paren : pvM ⟨#[40]⟩ = (20, 0) := by
  show pvR (parse 1026 [40]) = _
  rw [fault40]
  rfl
def s8 : RS := ⟨0, 255, 10000, 500, [⟨3, 0, 0, 1, ⟨#[40]⟩⟩, ⟨7, 0, 0, 1, ⟨#[41]⟩⟩]⟩
theorem rules8M : rulesM pvM s8 = (20, 3, 0) := by
  have h : s8.Ok := by
    refine ⟨by decide, by decide, ?_, by simp [s8]⟩
    intro r hr
    simp only [s8, List.mem_cons, List.not_mem_nil, or_false] at hr
    rcases hr with rfl | rfl <;> decide
  unfold rulesM
  rw [if_pos h]
  show (if (pvM ⟨#[40]⟩).1 = 0 then _ else ((pvM ⟨#[40]⟩).1, (3 : Int), (pvM ⟨#[40]⟩).2)) = _
  rw [pv_paren]
  rfl
theorem rulesFirst : rulesM pvM RS.first = (0, 0, 0) := by
  have h1 : RS.first.Ok := by refine ⟨by decide, by decide, by simp [RS.first], by simp [RS.first]⟩
  unfold rulesM
  rw [if_pos h1]
  rfl
theorem two_rules (w : World) (r q : Ru) : RulesV (w.alloc (.cells #[.int .i64 r.id, .int .i64 r.pr, .int .i64 r.ac, .int .i64 r.sc, .string r.pat, .int .i64 q.id, .int .i64 q.pr, .int .i64 q.ac, .int .i64 q.sc, .string q.pat] 72)).heap.size (w.alloc (.cells #[.int .i64 r.id, .int .i64 r.pr, .int .i64 r.ac, .int .i64 r.sc, .string r.pat, .int .i64 q.id, .int .i64 q.pr, .int .i64 q.ac, .int .i64 q.sc, .string q.pat] 72)) (.slice (some ⟨w.heap.size, 0, none⟩) 2 2) [r, q] := by
  refine ⟨_, 2, rfl, Nat.le_refl _, fun _ => ⟨w.heap.size, 0, rfl, by simp, fun i x hx => ?_⟩⟩
  have h := Blk.new w 72 #[.int .i64 r.id, .int .i64 r.pr, .int .i64 r.ac, .int .i64 r.sc, .string r.pat, .int .i64 q.id, .int .i64 q.pr, .int .i64 q.ac, .int .i64 q.sc, .string q.pat]
  match i, hx with
  | 0, hx =>
    simp at hx
    subst hx
    exact ⟨h.cell 0, h.cell 1, h.cell 2, h.cell 3, h.cell 4⟩
  | 1, hx =>
    simp at hx
    subst hx
    exact ⟨h.cell 5, h.cell 6, h.cell 7, h.cell 8, h.cell 9⟩
  | i + 2, hx => simp at hx

end Go.Proofs.YtefgobmpleoafaaGreatDoor

