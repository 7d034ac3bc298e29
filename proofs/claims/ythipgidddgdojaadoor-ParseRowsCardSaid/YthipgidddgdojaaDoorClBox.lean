/- A range in a block of its own. -/
import Derived.Test.YthipgidddgdojaaDoorClWords
namespace Go.Proofs.YthipgidddgdojaaDoor.Cl
open Go.RowKit

/-- A set and OK. -/
def Gives (P : List Rg → Prop) (w : World) (e : Ending) (w' : World) : Prop :=
  ∃ v' m, e = .returned (.tuple #[v', .int .i64 0]) ∧ SetV w'.heap.size w' v' m ∧ P m ∧ Below w.heap.size w w'

def Box2 (W : World) (B : Nat) (lo hi : Int) : Prop := W.heap[B]? = some (.cells #[.int .i64 lo, .int .i64 hi] 39)
section
variable {W W' : World} {B : Nat} {lo hi : Int}
theorem Box2.new (w : World) (lo hi : Int) : Box2 (w.alloc (.cells #[.int .i64 lo, .int .i64 hi] 39)) w.heap.size lo hi := heap_alloc_new w _
theorem Box2.cell0 (h : Box2 W B lo hi) : W.cell? ⟨B, 0, none⟩ = some (.int .i64 lo) := by rw [cell_of_row W B 0 _ _ _ h]; rfl
theorem Box2.cell1 (h : Box2 W B lo hi) : W.cell? ⟨B, 1, none⟩ = some (.int .i64 hi) := by rw [cell_of_row W B 1 _ _ _ h]; rfl
theorem Box2.frozen (h : Box2 W B lo hi) (j : Nat) : W.frozen? ⟨B, j, none⟩ = false := frozen_of_row W B j _ _ h
theorem Box2.lt (h : Box2 W B lo hi) : B < W.heap.size := by
  rcases Nat.lt_or_ge B W.heap.size with hlt | hge
  · exact hlt
  · unfold Box2 at h
    rw [Array.getElem?_eq_none hge] at h
    cases h
theorem Box2.alloc (h : Box2 W B lo hi) (o : Obj) : Box2 (W.alloc o) B lo hi := (Below.heap_alloc W o B h.lt).trans h
theorem Box2.kept {row : Option Nat} (h : Box2 W B lo hi) (hg : W.grownBy W' row) (hne : some B ≠ row) : Box2 W' B lo hi := (hg.block B h.lt hne).trans h
theorem Box2.below {n : Nat} (h : Box2 W B lo hi) (hB : Below n W W') (hn : B < n) : Box2 W' B lo hi := (hB.block B hn).trans h
theorem Box2.drewN (h : Box2 W B lo hi) (n : Nat) : Box2 (W.drewN n) B lo hi := h
theorem Box2.store (h : Box2 W B lo hi) (x : Int) : Box2 (W.setCell ⟨B, 1, none⟩ (.int .i64 x)) B lo x := by
  have := heap_setCell_same W B 1 _ _ (.int .i64 x) h
  simpa [Box2] using this
end

end Go.Proofs.YthipgidddgdojaaDoor.Cl
