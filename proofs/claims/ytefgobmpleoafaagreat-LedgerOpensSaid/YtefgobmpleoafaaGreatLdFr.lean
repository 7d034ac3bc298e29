/- A state that is handed in, opened. -/
import Derived.Test.YtefgobmpleoafaaGreatPkFr
import Derived.Test.YtefgobmpleoafaaGreatLdW
namespace Go.Proofs.YtefgobmpleoafaaGreat
open Go.ChangeShapes Go.WideShapes Go.ChangeAt Go.RowKit
section
variable {H : Type} {enc : TypeId × Value → H} {W : World} {base : Nat} {v : Value} {d : DataW H} {p : List MemPlace}
set_option maxRecDepth 100000 in
theorem open_state (hv : Value.okWide Tryz.prog W .any base 41 v) (h : DataW.Trod enc Tryz.prog W 0 (fun _ => true) true 41 v d p) :
    ∃ (m : St) (c : Value), v = m.val c ∧ EntsV W.heap.size W c m.log ∧ m.log.length ≤ 9223372036854775807 := by
  obtain ⟨cs, rfl, _⟩ := okWide_struct Tryz.underlying41 hv
  obtain ⟨fuel, h⟩ := h
  obtain ⟨xs, n, _, _, hl, hlen, hf⟩ := DataW.trod_struct Tryz.underlying41 h
  obtain ⟨cs⟩ := cs
  simp only [Value.cells] at hl hf
  rw [show Tryz.prog.cellsOf 41 = 5 by kernel_rfl] at hl
  obtain ⟨c0, c1, c2, c3, c4, rfl⟩ := list5 hl
  obtain ⟨y0, y1, y2, y3, y4, rfl⟩ := list5 hlen
  have k : Tryz.prog.cellsOf 3 = 1 := by kernel_rfl
  have ks : Tryz.prog.cellsOf 39 = 1 := by kernel_rfl
  have h0 := hf 0 _ rfl
  have h1 := hf 1 _ rfl
  have h2 := hf 2 _ rfl
  have h3 := hf 3 _ rfl
  have h4 := hf 4 _ rfl
  simp [k, ks] at h0 h1 h2 h3 h4
  obtain ⟨z0, rfl, _⟩ := int_cell h0
  obtain ⟨z1, rfl, _⟩ := int_cell h1
  obtain ⟨z2, rfl, _⟩ := int_cell h2
  obtain ⟨z3, rfl, _⟩ := int_cell h3
  obtain ⟨l, hr, hm⟩ := ents_cell h4
  exact ⟨⟨z0, z1, z2, z3, l⟩, c4, rfl, hr, hm⟩
end
end Go.Proofs.YtefgobmpleoafaaGreat
