/- ProgRows: the law. -/
import Derived.Test.YtfngkclfdkeiaaaGreatDoorZGv1
import Derived.Test.YtfngkclfdkeiaaaGreatDoorZGv2
import Derived.Test.YtfngkclfdkeiaaaGreatDoorZGv3
import Derived.Test.YtfngkclfdkeiaaaGreatDoorZGv4
namespace Go.Proofs.YtfngkclfdkeiaaaGreatDoor
open Go.RowKit

theorem progRows_law (x y : ByteArray) (W : World) (hT : TabL W.heap.size W) : Calls Tryz.prog 5 #[.string x, .string y] W fun e w' => e = .returned (.bool true) ∧ Below W.heap.size W w' := by
  by_cases hg : Good x y
  · have h := hg
    obtain ⟨_, _, z1, z2, _, _, _, _, hfx, hfy⟩ := h
    have px := noI_of z1 hfx
    have py := noI_of z2 hfy
    cases hx : decide (3 < x.size) <;> cases hy : decide (3 < y.size) <;> rw [hx] at px <;> rw [hy] at py
    · exact prows_false_false x y hT hg px py
    · exact prows_false_true x y hT hg px py
    · exact prows_true_false x y hT hg px py
    · exact prows_true_true x y hT hg px py
  · exact prows_exit x y hT hg

end Go.Proofs.YtfngkclfdkeiaaaGreatDoor
