import Derived.Test.YtpginkdkblmnbaaGreatDoorXMRc
namespace Go.Proofs.YtpginkdkblmnbaaGreatDoor
section
open Go.RowKit Go.Maps
variable {w w' : World}
theorem Îi : (Tryz.prog.info? 3).map (fun i => (i.zero, i.size, i.bytes)) = some (some (.int .i64 0), 1, 8) := by kernel_rfl
theorem Íi (l : List Int) : ∀ y ∈ zI l, y.oneCell' = true := by
 intro y hy;obtain ⟨z, _, rfl⟩ := List.mem_map.1 hy;rfl
def Áq (w : World) (base : Nat) (v : Value) (l : List Int) : Prop := w.ownsRow base 3 1 v l.length (zI l)
theorem Áq.row {base : Nat} {v : Value} {l : List Int} (h : Áq w base v l) : Row w.heap.size w v (zI l) := Row.of_own h
theorem Áq.form {base : Nat} {v : Value} {l : List Int} (h : Áq w base v l) : ∃ A c, v = .slice A l.length c := by
 obtain ⟨A, c, hv, _⟩ := h.row
 exact ⟨A, c, by simpa [zI] using hv⟩
theorem Áq.alloc {base : Nat} {v : Value} {l : List Int} (h : Áq w base v l) (o : Obj) : Áq (w.alloc o) base v l := World.ownsRow.alloc h o
theorem Áq.on {base : Nat} {v : Value} {l : List Int} (h : Áq w base v l) (hB : Below w.heap.size w w') : Áq w' base v l :=
 ã h fun i hi => hB.block i (World.ownsRow.lt h i hi.symm).2
theorem Áq.nil (w : World) (base : Nat) : Áq w base (.slice none 0 0) [] := World.ownsRow_nil _ _ _ _
end
end Go.Proofs.YtpginkdkblmnbaaGreatDoor
