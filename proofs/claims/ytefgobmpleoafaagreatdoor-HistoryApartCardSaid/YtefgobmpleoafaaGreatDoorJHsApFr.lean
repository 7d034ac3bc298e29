/- What is handed in to HistoryApart, opened: an entry; and how long a row of entries may be. -/
import Derived.Test.YtefgobmpleoafaaGreatDoorJHpf
import Derived.SizedLaws
namespace Go.Proofs.YtefgobmpleoafaaGreatDoor
open Go.ChangeShapes Go.WideShapes Go.ChangeAt Go.RowKit Go.Shelf
section
variable {H : Type} {enc : TypeId × Value → H} {W : World} {base : Nat} {v : Value} {d : DataW H} {p : List MemPlace}
set_option maxRecDepth 100000 in
theorem open_entry14 (hv : Value.okWide Tryz.prog W .any base 39 v) (h : DataW.Trod enc Tryz.prog W 0 (fun _ => true) true 39 v d p) :
    ∃ (x : En) (p' d' : Value), v = x.val p' d' ∧ RulesV W.heap.size W p' x.d.put ∧ Row W.heap.size W d' (zI x.d.drop) := by
  obtain ⟨cs, rfl, _⟩ := okWide_struct Tryz.underlying39 hv
  obtain ⟨fuel, h⟩ := h
  obtain ⟨cs⟩ := cs
  obtain ⟨e, p, d, hcs, hp, hd⟩ := entry_cells h
  simp only [Value.cells] at hcs
  subst hcs
  exact ⟨e, p, d, rfl, hp, hd⟩
set_option maxRecDepth 100000 in
theorem ents_sized {ts : List TypeId} {ds : List (DataW H)} {l : List En} (h0 : DataW.Trod enc Tryz.prog W 0 (fun _ => true) true 22 v d p) (hs : (DataW.weightsEach Tryz.prog ts (d :: ds)).all (· ≤ reachBytes) = true) (ht : ts[0]? = some 22) (hV : EntsV W.heap.size W v l) : l.length * 104 ≤ 140737488351232 := by
  obtain ⟨A, c, rfl⟩ := hV.form
  obtain ⟨fuel, hm⟩ := h0
  rcases Go.Deep.open_slice Tryz.underlying22 hm with ⟨hcs, _⟩ | ⟨a, len, cap, m2, k, D, Pl, hcs, _, hl, hmx, hmm, hx, hi⟩
  · simp [Value.cells] at hcs
    obtain ⟨_, h2, _⟩ := hcs
    rw [h2]
    decide
  · have hlen : l.length = len := by
      simp [Value.cells] at hcs
      exact hcs.2.1
    injection hx with hd _
    subst hd
    have h := sized_slice hs (j := 0) (t := 22) (e := 39) ht rfl Tryz.underlying22
    rw [show Tryz.prog.bytesOf 39 = 104 by kernel_rfl] at h
    simp only [List.length_map, List.length_range] at h
    have hr : reachBytes = 140737488351232 := by decide
    rw [hr] at h
    rw [hlen]
    omega
end
end Go.Proofs.YtefgobmpleoafaaGreatDoor

