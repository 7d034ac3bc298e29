/- A list of states that is handed in, opened. -/
import Derived.Test.YtgddcbjlhplmgaaLdFr
import Derived.Test.YtgddcbjlhplmgaaLdLg
namespace Go.Proofs.Ytgddcbjlhplmgaa
open Go.ChangeShapes Go.WideShapes Go.ChangeAt Go.RowKit
section
variable {H : Type} {enc : TypeId × Value → H} {W : World} {sp : Nat → Bool} {held : Bool}
set_option maxRecDepth 100000 in
theorem state_cells {fuel : Nat} {cs : List Value} {x : DataW H × List MemPlace} (h : DataW.trod enc Try.prog W 0 sp held fuel 24 cs = some x) :
    ∃ (s : St) (c : Value), cs = [.int .i64 s.vi, .int .i64 s.no, .int .i64 s.co, .int .i64 s.ac, c] ∧ EntsV W.heap.size W c s.log ∧ s.log.length ≤ 9223372036854775807 := by
  obtain ⟨xs, n, _, _, hl, hlen, hf⟩ := DataW.trod_struct Try.underlying24 h
  rw [show Try.prog.cellsOf 24 = 5 by kernel_rfl] at hl
  obtain ⟨c0, c1, c2, c3, c4, rfl⟩ := list5 hl
  obtain ⟨y0, y1, y2, y3, y4, rfl⟩ := list5 hlen
  have k : Try.prog.cellsOf 3 = 1 := by kernel_rfl
  have ks : Try.prog.cellsOf 22 = 1 := by kernel_rfl
  have h0 := hf 0 _ rfl
  have h1 := hf 1 _ rfl
  have h2 := hf 2 _ rfl
  have h3 := hf 3 _ rfl
  have h4 := hf 4 _ rfl
  simp [k, ks] at h0 h1 h2 h3 h4
  obtain ⟨z0, rfl, _⟩ := int_cell h0
  obtain ⟨z1, rfl, _⟩ := int_cell h1
  obtain ⟨z2, rfl, _⟩ := int_cell h2
  obtain ⟨z3, rfl, _⟩ := int_cell h3
  obtain ⟨l, hr, hm⟩ := ents_cell h4
  exact ⟨⟨z0, z1, z2, z3, l⟩, c4, rfl, hr, hm⟩
set_option maxRecDepth 100000 in
theorem states_cell {n : Nat} {c : Value} {y : DataW H × List MemPlace} (h : DataW.trod enc Try.prog W 0 sp held n 44 [c] = some y) : ∃ l : List St, StatesV W.heap.size W c l ∧ l.length ≤ 9223372036854775807 := by
  rcases Go.Deep.open_slice Try.underlying44 h with ⟨hcs, _⟩ | ⟨a, len, cap, m, k, D, Pl, hcs, _, hl, hmx, hmm, _, hi⟩
  · obtain rfl : c = .slice none 0 0 := by simpa using hcs
    exact ⟨[], ⟨none, 0, rfl, Nat.le_refl _, fun h => absurd rfl h⟩, by simp⟩
  · obtain rfl : c = .slice (some a) len cap := by simpa using hcs
    have hlm : len ≤ m := by rw [hmm]; split <;> omega
    have each : ∀ i, i < len → ∃ r : St × Value, (∀ j u, ([.int .i64 r.1.vi, .int .i64 r.1.no, .int .i64 r.1.co, .int .i64 r.1.ac, r.2] : List Value)[j]? = some u → W.cell? ((a.add (i * 5)).add j) = some u) ∧ EntsV W.heap.size W r.2 r.1.log ∧ r.1.log.length ≤ 9223372036854775807 := by
      intro i hil
      obtain ⟨cs', h1, h2⟩ := hi i (by omega)
      rw [show Try.prog.cellsOf 24 = 5 by kernel_rfl] at h1
      obtain ⟨r, p, rfl, hp, hd⟩ := state_cells h2
      obtain ⟨_, _, hc⟩ := World.cells?_some h1
      refine ⟨(r, p), fun j u hu => ?_, hp, hd⟩
      have hj : j < 5 := by
        have := (List.getElem?_eq_some_iff.1 hu).1
        simpa using this
      rw [hc j hj, hu]
    haveI : Inhabited (St × Value) := ⟨(⟨0, 0, 0, 0, []⟩, .slice none 0 0)⟩
    obtain ⟨q, hq⟩ := Go.Deep.choose_lt (α := St × Value) each
    have hlen : ((List.range len).map fun i => (q i).1).length = len := by simp
    refine ⟨(List.range len).map fun i => (q i).1, ⟨some a, cap, by rw [hlen], by rw [hlen]; exact hl, fun hne => ?_⟩, by rw [hlen]; unfold maxLen at hmx; omega⟩
    have hpos : 0 < len := by
      rcases Nat.eq_zero_or_pos len with h0 | h0
      · subst h0; simp at hne
      · exact h0
    obtain ⟨b, off, spot⟩ := a
    have hspot : spot = none := by
      have := World.cell?_spot ((hq 0 hpos).1 0 _ rfl)
      simpa [Addr.add] using this
    subst hspot
    have cell : ∀ i, i < len → ∀ j u, ([.int .i64 (q i).1.vi, .int .i64 (q i).1.no, .int .i64 (q i).1.co, .int .i64 (q i).1.ac, (q i).2] : List Value)[j]? = some u → W.cell? ⟨b, off + i * 5 + j, none⟩ = some u := fun i hil j u hu => by
      have := (hq i hil).1 j u hu
      rwa [add_at, add_at] at this
    refine ⟨b, off, rfl, block_lt_of_cell (cell 0 hpos 0 _ rfl), fun i r hr => ?_⟩
    obtain ⟨hil, hre⟩ := List.getElem?_eq_some_iff.1 hr
    rw [hlen] at hil
    have hre : (q i).1 = r := by simpa using hre
    subst hre
    exact ⟨(q i).2, cell i hil 0 _ rfl, cell i hil 1 _ rfl, cell i hil 2 _ rfl, cell i hil 3 _ rfl, cell i hil 4 _ rfl, (hq i hil).2.1, (hq i hil).2.2⟩
end
section
variable {H : Type} {enc : TypeId × Value → H} {W : World} {base : Nat} {v : Value} {d : DataW H} {p : List MemPlace}
set_option maxRecDepth 100000 in
theorem open_states (hv : Value.okWide Try.prog W .any base 44 v) (h : DataW.Trod enc Try.prog W 0 (fun _ => true) true 44 v d p) : ∃ l : List St, StatesV W.heap.size W v l ∧ l.length ≤ 9223372036854775807 := by
  obtain ⟨a, len, cap, rfl⟩ := okWide_slice Try.underlying44 hv
  obtain ⟨fuel, h⟩ := h
  exact states_cell h
end
end Go.Proofs.Ytgddcbjlhplmgaa
