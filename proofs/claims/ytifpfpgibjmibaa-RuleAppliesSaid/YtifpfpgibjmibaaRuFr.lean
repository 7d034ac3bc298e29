/- What each row's proof of layer 7 needs beside its walk: the arguments opened. -/
import Derived.Test.YtifpfpgibjmibaaRows
import Derived.Test.YtifpfpgibjmibaaRuH
import Derived.ProofKit
import Derived.OpenShut
import Derived.Deep.Slices
import Derived.SizedLaws
namespace Go.Proofs.Ytifpfpgibjmibaa
open Go.ChangeShapes Go.WideShapes Go.ChangeAt Go.RowKit

theorem own : ownKnob Try.prog.godebug = none := by kernel_rfl
theorem laidOut : laidOutB Try.prog = true := by kernel_rfl
theorem list5 {α : Type} {l : List α} (h : l.length = 5) : ∃ a b c d e, l = [a, b, c, d, e] := by
  match l, h with
  | [a, b, c, d, e], _ => exact ⟨a, b, c, d, e, rfl⟩
theorem list6 {α : Type} {l : List α} (h : l.length = 6) : ∃ a b c d e f, l = [a, b, c, d, e, f] := by
  match l, h with
  | [a, b, c, d, e, f], _ => exact ⟨a, b, c, d, e, f, rfl⟩
section
variable {H : Type} {enc : TypeId × Value → H} {W : World} {sp : Nat → Bool} {held : Bool}
theorem int_cell {n : Nat} {c : Value} {y : DataW H × List MemPlace} (h : DataW.trod enc Try.prog W 0 sp held n 3 [c] = some y) : ∃ z : Int, c = .int .i64 z ∧ (Lit.int .i64 z).wf = true := by
  obtain ⟨z, hz, _, hw⟩ := DataW.trod_int Try.underlying3 h
  exact ⟨z, by simpa using hz, hw⟩
theorem str_cell {n : Nat} {c : Value} {y : DataW H × List MemPlace} (h : DataW.trod enc Try.prog W 0 sp held n 9 [c] = some y) : ∃ s : ByteArray, c = .string s := by
  obtain ⟨s, hs, _⟩ := DataW.trod_string Try.underlying9 h
  exact ⟨s, by simpa using hs⟩
theorem rule_cells {fuel : Nat} {cs : List Value} {x : DataW H × List MemPlace} (h : DataW.trod enc Try.prog W 0 sp held fuel 44 cs = some x) : ∃ r : Ru, cs = r.cells := by
  obtain ⟨xs, n, _, _, hl, hlen, hf⟩ := DataW.trod_struct Try.underlying44 h
  rw [show Try.prog.cellsOf 44 = 5 by kernel_rfl] at hl
  obtain ⟨c0, c1, c2, c3, c4, rfl⟩ := list5 hl
  obtain ⟨y0, y1, y2, y3, y4, rfl⟩ := list5 hlen
  have k : Try.prog.cellsOf 3 = 1 := by kernel_rfl
  have ks : Try.prog.cellsOf 9 = 1 := by kernel_rfl
  have h0 := hf 0 _ rfl
  have h1 := hf 1 _ rfl
  have h2 := hf 2 _ rfl
  have h3 := hf 3 _ rfl
  have h4 := hf 4 _ rfl
  simp [k, ks] at h0 h1 h2 h3 h4
  obtain ⟨z0, rfl, _⟩ := int_cell h0
  obtain ⟨z1, rfl, _⟩ := int_cell h1
  obtain ⟨z2, rfl, _⟩ := int_cell h2
  obtain ⟨z3, rfl, _⟩ := int_cell h3
  obtain ⟨s4, rfl⟩ := str_cell h4
  exact ⟨⟨z0, z1, z2, z3, s4⟩, rfl⟩
theorem add_at (b off j : Nat) : (⟨b, off, none⟩ : Addr).add j = ⟨b, off + j, none⟩ := by unfold Addr.add; split <;> simp_all
/-- a slice of rules, opened -/
theorem rules_cell {n : Nat} {c : Value} {y : DataW H × List MemPlace} (h : DataW.trod enc Try.prog W 0 sp held n 22 [c] = some y) : ∃ l : List Ru, RulesV W.heap.size W c l := by
  rcases Go.Deep.open_slice Try.underlying22 h with ⟨hcs, _⟩ | ⟨a, len, cap, m, k, D, Pl, hcs, _, hl, _, hmm, _, hi⟩
  · obtain rfl : c = .slice none 0 0 := by simpa using hcs
    exact ⟨[], RulesV.nil _ _⟩
  · obtain rfl : c = .slice (some a) len cap := by simpa using hcs
    have hlm : len ≤ m := by rw [hmm]; split <;> omega
    have each : ∀ i, i < len → ∃ r : Ru, ∀ j u, r.cells[j]? = some u → W.cell? ((a.add (i * 5)).add j) = some u := by
      intro i hil
      obtain ⟨cs', h1, h2⟩ := hi i (by omega)
      rw [show Try.prog.cellsOf 44 = 5 by kernel_rfl] at h1
      obtain ⟨r, rfl⟩ := rule_cells h2
      obtain ⟨_, _, hc⟩ := World.cells?_some h1
      refine ⟨r, fun j u hu => ?_⟩
      have hj : j < 5 := by
        have := (List.getElem?_eq_some_iff.1 hu).1
        simpa [Ru.cells] using this
      rw [hc j hj, hu]
    obtain ⟨q, hq⟩ := Go.Deep.choose_lt (α := Ru) each
    have hlen : ((List.range len).map q).length = len := by simp
    refine ⟨(List.range len).map q, some a, cap, by rw [hlen], by rw [hlen]; exact hl, fun hne => ?_⟩
    have hpos : 0 < len := by
      rcases Nat.eq_zero_or_pos len with h0 | h0
      · subst h0; simp at hne
      · exact h0
    obtain ⟨b, off, spot⟩ := a
    have hspot : spot = none := by
      have := World.cell?_spot (hq 0 hpos 0 _ rfl)
      simpa [Addr.add] using this
    subst hspot
    have cell : ∀ i, i < len → ∀ j u, (q i).cells[j]? = some u → W.cell? ⟨b, off + i * 5 + j, none⟩ = some u := fun i hil j u hu => by
      have := hq i hil j u hu
      rwa [add_at, add_at] at this
    refine ⟨b, off, rfl, block_lt_of_cell (cell 0 hpos 0 _ rfl), fun i r hr => ?_⟩
    obtain ⟨hil, hre⟩ := List.getElem?_eq_some_iff.1 hr
    rw [hlen] at hil
    have hre : q i = r := by simpa using hre
    subst hre
    exact ⟨cell i hil 0 _ rfl, cell i hil 1 _ rfl, cell i hil 2 _ rfl, cell i hil 3 _ rfl, cell i hil 4 _ rfl⟩
/-- a slice of numbers, opened -/
theorem ints_cell {n : Nat} {c : Value} {y : DataW H × List MemPlace} (h : DataW.trod enc Try.prog W 0 sp held n 25 [c] = some y) : ∃ l : List Int, Row W.heap.size W c (zI l) ∧ ∀ z ∈ l, (Lit.int .i64 z).wf = true := by
  rcases Go.Deep.open_slice1 Try.underlying25 (by kernel_rfl) h with ⟨hcs, _⟩ | ⟨a, len, cap, m, k, V, D, Pl, hcs, _, hl, _, hmm, _, hi⟩
  · obtain rfl : c = .slice none 0 0 := by simpa using hcs
    exact ⟨[], ⟨none, 0, rfl, Nat.le_refl _, fun h => absurd rfl h⟩, by simp⟩
  · obtain rfl : c = .slice (some a) len cap := by simpa using hcs
    have hlm : len ≤ m := by rw [hmm]; split <;> omega
    have each : ∀ i, i < len → ∃ z : Int, W.cell? (a.add i) = some (.int .i64 z) ∧ (Lit.int .i64 z).wf = true := by
      intro i hil
      obtain ⟨h1, h2⟩ := hi i (by omega)
      obtain ⟨z, hz, hw⟩ := int_cell h2
      exact ⟨z, by rw [h1, hz], hw⟩
    obtain ⟨q, hq⟩ := Go.Deep.choose_lt (α := Int) each
    have hlen : (zI ((List.range len).map q)).length = len := by simp [zI]
    refine ⟨(List.range len).map q, ⟨some a, cap, by rw [hlen], by rw [hlen]; exact hl, fun hne => ?_⟩, fun z hz => ?_⟩
    · have hpos : 0 < len := by
        rcases Nat.eq_zero_or_pos len with h0 | h0
        · subst h0; simp [zI] at hne
        · exact h0
      obtain ⟨b, off, spot⟩ := a
      have hspot : spot = none := by
        have := World.cell?_spot (hq 0 hpos).1
        simpa [Addr.add] using this
      subst hspot
      refine ⟨b, off, rfl, ?_, fun j u hu => ?_⟩
      · have := block_lt_of_cell (hq 0 hpos).1
        rwa [add_at] at this
      · obtain ⟨hj, he⟩ := List.getElem?_eq_some_iff.1 hu
        rw [hlen] at hj
        have := (hq j hj).1
        rw [add_at] at this
        rw [this, ← he]
        simp [zI]
    · obtain ⟨i, hi', rfl⟩ := List.mem_map.1 hz
      exact (hq i (List.mem_range.1 hi')).2
end
section
variable {H : Type} {enc : TypeId × Value → H} {W : World} {base : Nat} {v : Value} {d : DataW H} {p : List MemPlace}
set_option maxRecDepth 100000 in
theorem open_set7 (hv : Value.okWide Try.prog W .any base 24 v) (h : DataW.Trod enc Try.prog W 0 (fun _ => true) true 24 v d p) :
    ∃ (s : RS) (c : Value), v = .agg #[.int .i64 s.de, .int .i64 s.cl, .int .i64 s.fu, .int .i64 s.st, c] ∧ RulesV W.heap.size W c s.rs := by
  obtain ⟨cs, rfl, _⟩ := okWide_struct Try.underlying24 hv
  obtain ⟨fuel, h⟩ := h
  obtain ⟨xs, n, _, _, hl, hlen, hf⟩ := DataW.trod_struct Try.underlying24 h
  obtain ⟨cs⟩ := cs
  simp only [Value.cells] at hl hf
  rw [show Try.prog.cellsOf 24 = 5 by kernel_rfl] at hl
  obtain ⟨c0, c1, c2, c3, c4, rfl⟩ := list5 hl
  obtain ⟨y0, y1, y2, y3, y4, rfl⟩ := list5 hlen
  have k : Try.prog.cellsOf 3 = 1 := by kernel_rfl
  have ks : Try.prog.cellsOf 22 = 1 := by kernel_rfl
  have h0 := hf 0 _ rfl
  have h1 := hf 1 _ rfl
  have h2 := hf 2 _ rfl
  have h3 := hf 3 _ rfl
  have h4 := hf 4 _ rfl
  simp [k, ks] at h0 h1 h2 h3 h4
  obtain ⟨z0, rfl, _⟩ := int_cell h0
  obtain ⟨z1, rfl, _⟩ := int_cell h1
  obtain ⟨z2, rfl, _⟩ := int_cell h2
  obtain ⟨z3, rfl, _⟩ := int_cell h3
  obtain ⟨l, hr⟩ := rules_cell h4
  exact ⟨⟨z0, z1, z2, z3, l⟩, c4, rfl, hr⟩
set_option maxRecDepth 100000 in
theorem open_delta7 (hv : Value.okWide Try.prog W .any base 27 v) (h : DataW.Trod enc Try.prog W 0 (fun _ => true) true 27 v d p) :
    ∃ (s : Dl) (c e : Value), v = .agg #[.int .i64 s.de, .int .i64 s.cl, .int .i64 s.fu, .int .i64 s.st, c, e] ∧ RulesV W.heap.size W c s.put ∧ Row W.heap.size W e (zI s.drop) ∧ ∀ z ∈ s.drop, (Lit.int .i64 z).wf = true := by
  obtain ⟨cs, rfl, _⟩ := okWide_struct Try.underlying27 hv
  obtain ⟨fuel, h⟩ := h
  obtain ⟨xs, n, _, _, hl, hlen, hf⟩ := DataW.trod_struct Try.underlying27 h
  obtain ⟨cs⟩ := cs
  simp only [Value.cells] at hl hf
  rw [show Try.prog.cellsOf 27 = 6 by kernel_rfl] at hl
  obtain ⟨c0, c1, c2, c3, c4, c5, rfl⟩ := list6 hl
  obtain ⟨y0, y1, y2, y3, y4, y5, rfl⟩ := list6 hlen
  have k : Try.prog.cellsOf 3 = 1 := by kernel_rfl
  have ks : Try.prog.cellsOf 22 = 1 := by kernel_rfl
  have ki : Try.prog.cellsOf 25 = 1 := by kernel_rfl
  have h0 := hf 0 _ rfl
  have h1 := hf 1 _ rfl
  have h2 := hf 2 _ rfl
  have h3 := hf 3 _ rfl
  have h4 := hf 4 _ rfl
  have h5 := hf 5 _ rfl
  simp [k, ks, ki] at h0 h1 h2 h3 h4 h5
  obtain ⟨z0, rfl, _⟩ := int_cell h0
  obtain ⟨z1, rfl, _⟩ := int_cell h1
  obtain ⟨z2, rfl, _⟩ := int_cell h2
  obtain ⟨z3, rfl, _⟩ := int_cell h3
  obtain ⟨l, hr⟩ := rules_cell h4
  obtain ⟨q, hq, hw⟩ := ints_cell h5
  exact ⟨⟨z0, z1, z2, z3, l, q⟩, c4, c5, rfl, hr, hq, hw⟩
set_option maxRecDepth 100000 in
theorem open_rule7 (hv : Value.okWide Try.prog W .any base 44 v) (h : DataW.Trod enc Try.prog W 0 (fun _ => true) true 44 v d p) :
    ∃ r : Ru, v = .agg #[.int .i64 r.id, .int .i64 r.pr, .int .i64 r.ac, .int .i64 r.sc, .string r.pat] := by
  obtain ⟨cs, rfl, _⟩ := okWide_struct Try.underlying44 hv
  obtain ⟨fuel, h⟩ := h
  obtain ⟨cs⟩ := cs
  obtain ⟨r, hr⟩ := rule_cells h
  simp only [Value.cells] at hr
  exact ⟨r, by rw [hr]; rfl⟩
end

end Go.Proofs.Ytifpfpgibjmibaa
