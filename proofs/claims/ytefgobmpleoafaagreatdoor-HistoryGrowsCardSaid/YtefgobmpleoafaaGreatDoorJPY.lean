/- The parse law's anchor: four short patterns. -/
import Derived.Test.YtefgobmpleoafaaGreatDoorJPe
import Derived.Test.YtefgobmpleoafaaGreatDoorJPa
namespace Go.Proofs.YtefgobmpleoafaaGreatDoor
open Go.RowKit
open Go.Proofs.YtefgobmpleoafaaGreatDoor.Cl (Rg)
variable {w w' : World}

theorem tabs_on {n n' : Nat} (h : TabsAt n w) (hb : Below n w w') (hn : n ≤ n') : TabsAt n' w' := ⟨by have := h.1; omega, (h.below hb).2⟩
def anchorNd : Nd := .mk 3 0 0 0 0 [] [.mk 1 0 0 0 0 [(97, 97)] [], .mk 4 0 (-1) 1 0 [] [.mk 1 0 0 0 0 [(98, 98)] []]]
theorem anchor1 : parse 1026 [97, 124, 98, 42, 63] = .ok (anchorNd, 0, false) := by kernel_rfl
theorem anchor2 : parse 1026 [97, 42, 42] = .error (23, 2) := by kernel_rfl
theorem anchor3 : parse 1026 [40, 97] = .error (20, 0) := by kernel_rfl
theorem anchor4 : parse 1026 [92, 49] = .error (26, 0) := by kernel_rfl

theorem run_eql_fault (a b c d : Int) (w : World) : (binOp .eql 121 (.agg #[.int .i64 a, .int .i64 b]) (.agg #[.int .i64 c, .int .i64 d])).run Tryz.prog w = .ok (.bool (a == c && b == d)) w := by
  have u3 := Tryz.underlying3
  have a3 := Tryz.isAgg3
  have z3 := Tryz.sizeOf3
  have u30 := Tryz.underlying40
  have hS : Tryz.prog.underlying 121 = some (.struct (Tryz.prog.fieldsOf 121)) := by kernel_rfl
  have hp : Tryz.prog.stoodInHeld 121 = false := by kernel_rfl
  rw [run_eql_struct, show (10000 : Nat) = 9999 + 1 from rfl, run_equalIn_agg w 9999 121 _ _ hS hp]
  simp only [Program.fieldsOf, Tryz.underlying121]
  go_simp
  by_cases h1 : a = c <;> by_cases h2 : b = d <;> simp [h1, h2]

/-- What a call of Parse and the two variables behind it leave. -/
structure Put (w v : World) (g : Nat) (cs fs : Array Value) : Prop where
  node : Blk v g 119 cs
  flt : Blk v (g + 1) 121 fs
  keep : Below w.heap.size w v
theorem put_new (w w1 : World) (cs fs : Array Value) (h : Below w.heap.size w w1) : Put w ((w1.alloc (.cells cs 119)).alloc (.cells fs 121)) w1.heap.size cs fs :=
  ⟨(Blk.new _ _ _).alloc _, Blk.new_at _ _ (by simp) _ _, (h.alloc h.size _).alloc (by have := h.size; simp; omega) _⟩

/-! ### What Parse gives, told at once -/
def ndOf : Except Flt (Nd × Nat × Bool) → Nd | .ok x => x.1 | .error _ => emptyN
def gOf : Except Flt (Nd × Nat × Bool) → Nat | .ok x => x.2.1 | .error _ => 0
def foOf : Except Flt (Nd × Nat × Bool) → Bool | .ok x => x.2.2 | .error _ => false
def fOf : Except Flt (Nd × Nat × Bool) → Flt | .ok _ => (0, 0) | .error f => f
theorem ParsePost.uni {r : Except Flt (Nd × Nat × Bool)} {e : Ending} (h : ParsePost w r e w') : ∃ A1 A2 p1 p2, e = .returned (.tuple #[.agg (pCells (ndOf r) A1 A2 p1 p2 (gOf r) (foOf r)), .agg #[.int .i64 (fOf r).1, .int .i64 (fOf r).2]]) ∧
    NodeV (fun b => b < w'.heap.size) w' (ndOf r) (.slice A1 (ndOf r).set.length p1) (.slice A2 (ndOf r).kids.length p2) ∧ Below w.heap.size w w' := by
  cases r with
  | ok x => exact h
  | error f => exact ⟨none, none, 0, 0, h.1, NodeV.leaf (SetK.nil _ _) (by simp), h.2⟩
theorem NodeV.on {nd : Nd} {sv kv : Value} (h : NodeV (fun b => b < w.heap.size) w nd sv kv) (hb : Below w.heap.size w w') : NodeV (fun b => b < w'.heap.size) w' nd sv kv :=
  h.keep fun b hk => ⟨Nat.lt_of_lt_of_le hk hb.size, hb.block b hk⟩
theorem put_on (w1 : World) (cs fs : Array Value) : Below w1.heap.size w1 ((w1.alloc (.cells cs 119)).alloc (.cells fs 121)) := ((Below.refl _ _).alloc (Nat.le_refl _) _).alloc (by simp) _

end Go.Proofs.YtefgobmpleoafaaGreatDoor

