/- A row of ints of the call's own. -/
import Derived.Test.YtifpfpgibjmibaaRuX
import Derived.Test.YtifpfpgibjmibaaRuI
namespace Go.Proofs.Ytifpfpgibjmibaa
open Go.RowKit Go.Maps
variable {w w' : World}

theorem infoInt : (Try.prog.info? 3).map (fun i => (i.zero, i.size, i.bytes)) = some (some (.int .i64 0), 1, 8) := by kernel_rfl
theorem zI_one (l : List Int) : ∀ y ∈ zI l, y.oneCell' = true := by
  intro y hy
  obtain ⟨z, _, rfl⟩ := List.mem_map.1 hy
  rfl
def OwnI (w : World) (base : Nat) (v : Value) (l : List Int) : Prop := w.ownsRow base 3 1 v l.length (zI l)
theorem OwnI.row {base : Nat} {v : Value} {l : List Int} (h : OwnI w base v l) : Row w.heap.size w v (zI l) := Row.of_own h
theorem OwnI.form {base : Nat} {v : Value} {l : List Int} (h : OwnI w base v l) : ∃ A c, v = .slice A l.length c := by
  obtain ⟨A, c, hv, _⟩ := h.row
  exact ⟨A, c, by simpa [zI] using hv⟩

theorem OwnI.alloc {base : Nat} {v : Value} {l : List Int} (h : OwnI w base v l) (o : Obj) : OwnI (w.alloc o) base v l := World.ownsRow.alloc h o
theorem OwnI.on {base : Nat} {v : Value} {l : List Int} (h : OwnI w base v l) (hB : Below w.heap.size w w') : OwnI w' base v l :=
  own_keep h fun i hi => hB.block i (World.ownsRow.lt h i hi.symm).2
theorem OwnI.nil (w : World) (base : Nat) : OwnI w base (.slice none 0 0) [] := World.ownsRow_nil _ _ _ _
/-- do two numbers have a bit in common? -/
def andI (x y : Int) : Int := bits BinOp.and IntKind.i64 x y
def hsB (scope : Int) (r : Ru) : Bool := andI r.sc scope != 0

end Go.Proofs.Ytifpfpgibjmibaa
