/- Joined: HpFr, HsFr. -/
import Derived.Test.YtefgobmpleoafaaGreatDoorJFr
import Derived.Test.YtefgobmpleoafaaGreatDoorJHpx
/- Entries that are handed in, opened. -/
namespace Go.Proofs.YtefgobmpleoafaaGreatDoor
open Go.ChangeShapes Go.WideShapes Go.ChangeAt Go.RowKit
instance : Inhabited En := ⟨⟨0, 0, 0, ⟨0, 0, 0, 0, [], []⟩⟩⟩
section
variable {H : Type} {enc : TypeId × Value → H} {W : World} {sp : Nat → Bool} {held : Bool}
theorem list4 {α : Type} {l : List α} (h : l.length = 4) : ∃ a b c d, l = [a, b, c, d] := by
  match l, h with
  | [a, b, c, d], _ => exact ⟨a, b, c, d, rfl⟩
theorem list9 {α : Type} {l : List α} (h : l.length = 9) : ∃ a b c d e f g i j, l = [a, b, c, d, e, f, g, i, j] := by
  match l, h with
  | [a, b, c, d, e, f, g, i, j], _ => exact ⟨a, b, c, d, e, f, g, i, j, rfl⟩
theorem delta_cells {fuel : Nat} {cs : List Value} {x : DataW H × List MemPlace} (h : DataW.trod enc Tryz.prog W 0 sp held fuel 37 cs = some x) :
    ∃ (s : Dl) (c e : Value), cs = [.int .i64 s.de, .int .i64 s.cl, .int .i64 s.fu, .int .i64 s.st, c, e] ∧ RulesV W.heap.size W c s.put ∧ Row W.heap.size W e (zI s.drop) := by
  obtain ⟨xs, n, _, _, hl, hlen, hf⟩ := DataW.trod_struct Tryz.underlying37 h
  rw [show Tryz.prog.cellsOf 37 = 6 by kernel_rfl] at hl
  obtain ⟨c0, c1, c2, c3, c4, c5, rfl⟩ := list6 hl
  obtain ⟨y0, y1, y2, y3, y4, y5, rfl⟩ := list6 hlen
  have k : Tryz.prog.cellsOf 3 = 1 := by kernel_rfl
  have ks : Tryz.prog.cellsOf 34 = 1 := by kernel_rfl
  have ki : Tryz.prog.cellsOf 35 = 1 := by kernel_rfl
  have h0 := hf 0 _ rfl
  have h1 := hf 1 _ rfl
  have h2 := hf 2 _ rfl
  have h3 := hf 3 _ rfl
  have h4 := hf 4 _ rfl
  have h5 := hf 5 _ rfl
  simp [k, ks, ki] at h0 h1 h2 h3 h4 h5
  obtain ⟨z0, rfl, _⟩ := int_cell h0
  obtain ⟨z1, rfl, _⟩ := int_cell h1
  obtain ⟨z2, rfl, _⟩ := int_cell h2
  obtain ⟨z3, rfl, _⟩ := int_cell h3
  obtain ⟨l, hr⟩ := rules_cell h4
  obtain ⟨q, hq, _⟩ := ints_cell h5
  exact ⟨⟨z0, z1, z2, z3, l, q⟩, c4, c5, rfl, hr, hq⟩
theorem entry_cells {fuel : Nat} {cs : List Value} {x : DataW H × List MemPlace} (h : DataW.trod enc Tryz.prog W 0 sp held fuel 39 cs = some x) :
    ∃ (e : En) (p d : Value), cs = e.cells p d ∧ RulesV W.heap.size W p e.d.put ∧ Row W.heap.size W d (zI e.d.drop) := by
  obtain ⟨xs, n, _, _, hl, hlen, hf⟩ := DataW.trod_struct Tryz.underlying39 h
  rw [show Tryz.prog.cellsOf 39 = 9 by kernel_rfl] at hl
  obtain ⟨c0, c1, c2, c3, c4, c5, c6, c7, c8, rfl⟩ := list9 hl
  obtain ⟨y0, y1, y2, y3, rfl⟩ := list4 hlen
  have k : Tryz.prog.cellsOf 3 = 1 := by kernel_rfl
  have kd : Tryz.prog.cellsOf 37 = 6 := by kernel_rfl
  have h0 := hf 0 _ rfl
  have h1 := hf 1 _ rfl
  have h2 := hf 2 _ rfl
  have h3 := hf 3 _ rfl
  simp [k, kd] at h0 h1 h2 h3
  obtain ⟨z0, rfl, _⟩ := int_cell h0
  obtain ⟨z1, rfl, _⟩ := int_cell h1
  obtain ⟨z2, rfl, _⟩ := int_cell h2
  obtain ⟨s, c, e, hcs, hp, hd⟩ := delta_cells h3
  simp only [List.cons.injEq, and_true] at hcs
  obtain ⟨rfl, rfl, rfl, rfl, rfl, rfl⟩ := hcs
  exact ⟨⟨z0, z1, z2, s⟩, _, _, rfl, hp, hd⟩
set_option maxRecDepth 100000 in
theorem ents_cell {n : Nat} {c : Value} {y : DataW H × List MemPlace} (h : DataW.trod enc Tryz.prog W 0 sp held n 22 [c] = some y) : ∃ l : List En, EntsV W.heap.size W c l ∧ l.length ≤ 9223372036854775807 := by
  rcases Go.Deep.open_slice Tryz.underlying22 h with ⟨hcs, _⟩ | ⟨a, len, cap, m, k, D, Pl, hcs, _, hl, hmx, hmm, _, hi⟩
  · obtain rfl : c = .slice none 0 0 := by simpa using hcs
    exact ⟨[], EntsV.nil _ _, by simp⟩
  · obtain rfl : c = .slice (some a) len cap := by simpa using hcs
    have hlm : len ≤ m := by rw [hmm]; split <;> omega
    have each : ∀ i, i < len → ∃ r : En × Value × Value, (∀ j u, (r.1.cells r.2.1 r.2.2)[j]? = some u → W.cell? ((a.add (i * 9)).add j) = some u) ∧ RulesV W.heap.size W r.2.1 r.1.d.put ∧ Row W.heap.size W r.2.2 (zI r.1.d.drop) := by
      intro i hil
      obtain ⟨cs', h1, h2⟩ := hi i (by omega)
      rw [show Tryz.prog.cellsOf 39 = 9 by kernel_rfl] at h1
      obtain ⟨r, p, d, rfl, hp, hd⟩ := entry_cells h2
      obtain ⟨_, _, hc⟩ := World.cells?_some h1
      refine ⟨(r, p, d), fun j u hu => ?_, hp, hd⟩
      have hj : j < 9 := by
        have := (List.getElem?_eq_some_iff.1 hu).1
        simpa [En.cells] using this
      rw [hc j hj, hu]
    obtain ⟨q, hq⟩ := Go.Deep.choose_lt (α := En × Value × Value) each
    have hlen : ((List.range len).map fun i => (q i).1).length = len := by simp
    refine ⟨(List.range len).map fun i => (q i).1, ⟨some a, cap, by rw [hlen], by rw [hlen]; exact hl, fun hne => ?_⟩, by rw [hlen]; unfold maxLen at hmx; omega⟩
    have hpos : 0 < len := by
      rcases Nat.eq_zero_or_pos len with h0 | h0
      · subst h0; simp at hne
      · exact h0
    obtain ⟨b, off, spot⟩ := a
    have hspot : spot = none := by
      have := World.cell?_spot ((hq 0 hpos).1 0 _ rfl)
      simpa [Addr.add] using this
    subst hspot
    have cell : ∀ i, i < len → ∀ j u, ((q i).1.cells (q i).2.1 (q i).2.2)[j]? = some u → W.cell? ⟨b, off + i * 9 + j, none⟩ = some u := fun i hil j u hu => by
      have := (hq i hil).1 j u hu
      rwa [add_at, add_at] at this
    refine ⟨b, off, rfl, block_lt_of_cell (cell 0 hpos 0 _ rfl), fun i r hr => ?_⟩
    obtain ⟨hil, hre⟩ := List.getElem?_eq_some_iff.1 hr
    rw [hlen] at hil
    have hre : (q i).1 = r := by simpa using hre
    subst hre
    exact ⟨(q i).2.1, (q i).2.2, ⟨cell i hil 0 _ rfl, cell i hil 1 _ rfl, cell i hil 2 _ rfl, cell i hil 3 _ rfl, cell i hil 4 _ rfl, cell i hil 5 _ rfl, cell i hil 6 _ rfl, cell i hil 7 _ rfl, cell i hil 8 _ rfl⟩, (hq i hil).2.1, (hq i hil).2.2⟩
end
section
variable {H : Type} {enc : TypeId × Value → H} {W : World} {base : Nat} {v : Value} {d : DataW H} {p : List MemPlace}
set_option maxRecDepth 100000 in
theorem open_ents (hv : Value.okWide Tryz.prog W .any base 22 v) (h : DataW.Trod enc Tryz.prog W 0 (fun _ => true) true 22 v d p) : ∃ l : List En, EntsV W.heap.size W v l ∧ l.length ≤ 9223372036854775807 := by
  obtain ⟨a, len, cap, rfl⟩ := okWide_slice Tryz.underlying22 hv
  obtain ⟨fuel, h⟩ := h
  exact ents_cell h
end
end Go.Proofs.YtefgobmpleoafaaGreatDoor

/- What is handed in to layer 14's laws, opened. -/
namespace Go.Proofs.YtefgobmpleoafaaGreatDoor
open Go.ChangeShapes Go.WideShapes Go.ChangeAt Go.RowKit Go.Shelf
section
variable {H : Type} {enc : TypeId × Value → H} {W : World} {base : Nat} {v : Value} {d : DataW H} {p : List MemPlace}
theorem row_len14 {n : Nat} {c : Value} {l : List Int} {m : Nat} {y : DataW H × List MemPlace} {sp : Nat → Bool} {held : Bool} (h : DataW.trod enc Tryz.prog W 0 sp held n 35 [c] = some y) (hr : Row m W c (zI l)) : l.length ≤ 9223372036854775807 := by
  obtain ⟨A, k, rfl⟩ := hr.form
  rcases Go.Deep.open_slice Tryz.underlying35 h with ⟨hcs, _⟩ | ⟨a, len, cap, m, k, D, Pl, hcs, _, hl, hc, _, _, _⟩
  · simp at hcs
    obtain ⟨_, h2, _⟩ := hcs
    have : (zI l).length = 0 := by rw [h2]; rfl
    rw [zI_len] at this
    omega
  · simp at hcs
    rw [zI_len] at hcs
    have hc' : cap ≤ 9223372036854775807 := hc
    omega
set_option maxRecDepth 100000 in
theorem open_rints (hv : Value.okWide Tryz.prog W .any base 35 v) (h : DataW.Trod enc Tryz.prog W 0 (fun _ => true) true 35 v d p) : ∃ l : List Int, Row W.heap.size W v (zI l) ∧ l.length ≤ 9223372036854775807 := by
  obtain ⟨a, len, cap, rfl⟩ := okWide_slice Tryz.underlying35 hv
  obtain ⟨fuel, h⟩ := h
  obtain ⟨l, h1, _⟩ := ints_cell h
  exact ⟨l, h1, row_len14 h h1⟩
end
end Go.Proofs.YtefgobmpleoafaaGreatDoor

