/- What each row's proof of layer 11 needs beside its walk: the arguments opened. -/
import Derived.Test.YtefgobmpleoafaaGreatRows
import Derived.Test.YtefgobmpleoafaaGreatMCd
import Derived.ProofKit
import Derived.OpenShut
import Derived.Deep.Slices
import Derived.SizedLaws
namespace Go.Proofs.YtefgobmpleoafaaGreat
open Go.ChangeShapes Go.WideShapes Go.ChangeAt Go.RowKit

instance : Inhabited Ru := ⟨Ru.none⟩
instance : Inhabited En := ⟨⟨0, 0, 0, ⟨0, 0, 0, 0, [], []⟩⟩⟩
theorem own : ownKnob Tryz.prog.godebug = none := by kernel_rfl
theorem laidOut : laidOutB Tryz.prog = true := by kernel_rfl
theorem list9 {α : Type} {l : List α} (h : l.length = 9) : ∃ a b c d e f g i j, l = [a, b, c, d, e, f, g, i, j] := by
  match l, h with
  | [a, b, c, d, e, f, g, i, j], _ => exact ⟨a, b, c, d, e, f, g, i, j, rfl⟩
theorem list8 {α : Type} {l : List α} (h : l.length = 8) : ∃ a b c d e f g i, l = [a, b, c, d, e, f, g, i] := by
  match l, h with
  | [a, b, c, d, e, f, g, i], _ => exact ⟨a, b, c, d, e, f, g, i, rfl⟩
theorem list4 {α : Type} {l : List α} (h : l.length = 4) : ∃ a b c d, l = [a, b, c, d] := by
  match l, h with
  | [a, b, c, d], _ => exact ⟨a, b, c, d, rfl⟩
theorem list5 {α : Type} {l : List α} (h : l.length = 5) : ∃ a b c d e, l = [a, b, c, d, e] := by
  match l, h with
  | [a, b, c, d, e], _ => exact ⟨a, b, c, d, e, rfl⟩
theorem list6 {α : Type} {l : List α} (h : l.length = 6) : ∃ a b c d e f, l = [a, b, c, d, e, f] := by
  match l, h with
  | [a, b, c, d, e, f], _ => exact ⟨a, b, c, d, e, f, rfl⟩
section
variable {H : Type} {enc : TypeId × Value → H} {W : World} {sp : Nat → Bool} {held : Bool}
theorem int_cell {n : Nat} {c : Value} {y : DataW H × List MemPlace} (h : DataW.trod enc Tryz.prog W 0 sp held n 3 [c] = some y) : ∃ z : Int, c = .int .i64 z ∧ (Lit.int .i64 z).wf = true := by
  obtain ⟨z, hz, _, hw⟩ := DataW.trod_int Tryz.underlying3 h
  exact ⟨z, by simpa using hz, hw⟩
theorem str_cell {n : Nat} {c : Value} {y : DataW H × List MemPlace} (h : DataW.trod enc Tryz.prog W 0 sp held n 9 [c] = some y) : ∃ s : ByteArray, c = .string s := by
  obtain ⟨s, hs, _⟩ := DataW.trod_string Tryz.underlying9 h
  exact ⟨s, by simpa using hs⟩
theorem rule_cells {fuel : Nat} {cs : List Value} {x : DataW H × List MemPlace} (h : DataW.trod enc Tryz.prog W 0 sp held fuel 114 cs = some x) : ∃ r : Ru, cs = r.cells := by
  obtain ⟨xs, n, _, _, hl, hlen, hf⟩ := DataW.trod_struct Tryz.underlying114 h
  rw [show Tryz.prog.cellsOf 114 = 5 by kernel_rfl] at hl
  obtain ⟨c0, c1, c2, c3, c4, rfl⟩ := list5 hl
  obtain ⟨y0, y1, y2, y3, y4, rfl⟩ := list5 hlen
  have k : Tryz.prog.cellsOf 3 = 1 := by kernel_rfl
  have ks : Tryz.prog.cellsOf 9 = 1 := by kernel_rfl
  have h0 := hf 0 _ rfl
  have h1 := hf 1 _ rfl
  have h2 := hf 2 _ rfl
  have h3 := hf 3 _ rfl
  have h4 := hf 4 _ rfl
  simp [k, ks] at h0 h1 h2 h3 h4
  obtain ⟨z0, rfl, _⟩ := int_cell h0
  obtain ⟨z1, rfl, _⟩ := int_cell h1
  obtain ⟨z2, rfl, _⟩ := int_cell h2
  obtain ⟨z3, rfl, _⟩ := int_cell h3
  obtain ⟨s4, rfl⟩ := str_cell h4
  exact ⟨⟨z0, z1, z2, z3, s4⟩, rfl⟩
theorem add_at (b off j : Nat) : (⟨b, off, none⟩ : Addr).add j = ⟨b, off + j, none⟩ := by unfold Addr.add; split <;> simp_all
/-- a slice of rules, opened -/
theorem rules_cell {n : Nat} {c : Value} {y : DataW H × List MemPlace} (h : DataW.trod enc Tryz.prog W 0 sp held n 89 [c] = some y) : ∃ l : List Ru, RulesV W.heap.size W c l := by
  rcases Go.Deep.open_slice Tryz.underlying89 h with ⟨hcs, _⟩ | ⟨a, len, cap, m, k, D, Pl, hcs, _, hl, _, hmm, _, hi⟩
  · obtain rfl : c = .slice none 0 0 := by simpa using hcs
    exact ⟨[], RulesV.nil _ _⟩
  · obtain rfl : c = .slice (some a) len cap := by simpa using hcs
    have hlm : len ≤ m := by rw [hmm]; split <;> omega
    have each : ∀ i, i < len → ∃ r : Ru, ∀ j u, r.cells[j]? = some u → W.cell? ((a.add (i * 5)).add j) = some u := by
      intro i hil
      obtain ⟨cs', h1, h2⟩ := hi i (by omega)
      rw [show Tryz.prog.cellsOf 114 = 5 by kernel_rfl] at h1
      obtain ⟨r, rfl⟩ := rule_cells h2
      obtain ⟨_, _, hc⟩ := World.cells?_some h1
      refine ⟨r, fun j u hu => ?_⟩
      have hj : j < 5 := by
        have := (List.getElem?_eq_some_iff.1 hu).1
        simpa [Ru.cells] using this
      rw [hc j hj, hu]
    obtain ⟨q, hq⟩ := Go.Deep.choose_lt (α := Ru) each
    have hlen : ((List.range len).map q).length = len := by simp
    refine ⟨(List.range len).map q, some a, cap, by rw [hlen], by rw [hlen]; exact hl, fun hne => ?_⟩
    have hpos : 0 < len := by
      rcases Nat.eq_zero_or_pos len with h0 | h0
      · subst h0; simp at hne
      · exact h0
    obtain ⟨b, off, spot⟩ := a
    have hspot : spot = none := by
      have := World.cell?_spot (hq 0 hpos 0 _ rfl)
      simpa [Addr.add] using this
    subst hspot
    have cell : ∀ i, i < len → ∀ j u, (q i).cells[j]? = some u → W.cell? ⟨b, off + i * 5 + j, none⟩ = some u := fun i hil j u hu => by
      have := hq i hil j u hu
      rwa [add_at, add_at] at this
    refine ⟨b, off, rfl, block_lt_of_cell (cell 0 hpos 0 _ rfl), fun i r hr => ?_⟩
    obtain ⟨hil, hre⟩ := List.getElem?_eq_some_iff.1 hr
    rw [hlen] at hil
    have hre : q i = r := by simpa using hre
    subst hre
    exact ⟨cell i hil 0 _ rfl, cell i hil 1 _ rfl, cell i hil 2 _ rfl, cell i hil 3 _ rfl, cell i hil 4 _ rfl⟩
/-- a slice of numbers, opened -/
theorem ints_cell {n : Nat} {c : Value} {y : DataW H × List MemPlace} (h : DataW.trod enc Tryz.prog W 0 sp held n 74 [c] = some y) : ∃ l : List Int, Row W.heap.size W c (zI l) ∧ ∀ z ∈ l, (Lit.int .i64 z).wf = true := by
  rcases Go.Deep.open_slice1 Tryz.underlying74 (by kernel_rfl) h with ⟨hcs, _⟩ | ⟨a, len, cap, m, k, V, D, Pl, hcs, _, hl, _, hmm, _, hi⟩
  · obtain rfl : c = .slice none 0 0 := by simpa using hcs
    exact ⟨[], ⟨none, 0, rfl, Nat.le_refl _, fun h => absurd rfl h⟩, by simp⟩
  · obtain rfl : c = .slice (some a) len cap := by simpa using hcs
    have hlm : len ≤ m := by rw [hmm]; split <;> omega
    have each : ∀ i, i < len → ∃ z : Int, W.cell? (a.add i) = some (.int .i64 z) ∧ (Lit.int .i64 z).wf = true := by
      intro i hil
      obtain ⟨h1, h2⟩ := hi i (by omega)
      obtain ⟨z, hz, hw⟩ := int_cell h2
      exact ⟨z, by rw [h1, hz], hw⟩
    obtain ⟨q, hq⟩ := Go.Deep.choose_lt (α := Int) each
    have hlen : (zI ((List.range len).map q)).length = len := by simp [zI]
    refine ⟨(List.range len).map q, ⟨some a, cap, by rw [hlen], by rw [hlen]; exact hl, fun hne => ?_⟩, fun z hz => ?_⟩
    · have hpos : 0 < len := by
        rcases Nat.eq_zero_or_pos len with h0 | h0
        · subst h0; simp [zI] at hne
        · exact h0
      obtain ⟨b, off, spot⟩ := a
      have hspot : spot = none := by
        have := World.cell?_spot (hq 0 hpos).1
        simpa [Addr.add] using this
      subst hspot
      refine ⟨b, off, rfl, ?_, fun j u hu => ?_⟩
      · have := block_lt_of_cell (hq 0 hpos).1
        rwa [add_at] at this
      · obtain ⟨hj, he⟩ := List.getElem?_eq_some_iff.1 hu
        rw [hlen] at hj
        have := (hq j hj).1
        rw [add_at] at this
        rw [this, ← he]
        simp [zI]
    · obtain ⟨i, hi', rfl⟩ := List.mem_map.1 hz
      exact (hq i (List.mem_range.1 hi')).2
theorem byte_cell {n : Nat} {c : Value} {y : DataW H × List MemPlace} (h : DataW.trod enc Tryz.prog W 0 sp held n 5 [c] = some y) : ∃ z : UInt8, c = .int .u8 ((z.toNat : Nat) : Int) := by
  obtain ⟨z, hz, _, hw⟩ := DataW.trod_int Tryz.underlying5 h
  have hb : 0 ≤ z ∧ z ≤ 255 := by simpa [Lit.wf, IntKind.min, IntKind.max, IntKind.signed, IntKind.bits] using hw
  refine ⟨z.toNat.toUInt8, ?_⟩
  rw [u8 _ (by omega)]
  have : ((z.toNat : Nat) : Int) = z := by omega
  rw [this]
  simpa using hz
theorem bytes_cell {n : Nat} {c : Value} {y : DataW H × List MemPlace} (h : DataW.trod enc Tryz.prog W 0 sp held n 22 [c] = some y) : ∃ s : List UInt8, Bytes W.heap.size W c s ∧ s.length ≤ 9223372036854775807 := by
  rcases Go.Deep.open_slice1 Tryz.underlying22 (by kernel_rfl) h with ⟨hcs, _⟩ | ⟨a, len, cap, m, k, V, D, Pl, hcs, _, hl, hmx, hmm, _, hi⟩
  · obtain rfl : c = .slice none 0 0 := by simpa using hcs
    exact ⟨[], bytes_nil _ _, by simp⟩
  · obtain rfl : c = .slice (some a) len cap := by simpa using hcs
    have hlm : len ≤ m := by rw [hmm]; split <;> omega
    have each : ∀ i, i < len → ∃ z : UInt8, W.cell? (a.add i) = some (.int .u8 ((z.toNat : Nat) : Int)) := by
      intro i hil
      obtain ⟨h1, h2⟩ := hi i (by omega)
      obtain ⟨z, hz⟩ := byte_cell h2
      exact ⟨z, by rw [h1, hz]⟩
    obtain ⟨q, hq⟩ := Go.Deep.choose_lt (α := UInt8) each
    have hlen : ((List.range len).map q).length = len := by simp
    refine ⟨(List.range len).map q, ⟨some a, cap, by rw [hlen], by rw [hlen]; exact hl, fun hne => ?_⟩, by rw [hlen]; unfold maxLen at hmx; omega⟩
    have hpos : 0 < len := by
      rcases Nat.eq_zero_or_pos len with h0 | h0
      · subst h0; simp at hne
      · exact h0
    obtain ⟨b, off, spot⟩ := a
    have hspot : spot = none := by
      have := World.cell?_spot (hq 0 hpos)
      simpa [Addr.add] using this
    subst hspot
    refine ⟨b, off, rfl, ?_, fun j hj => ?_⟩
    · have := block_lt_of_cell (hq 0 hpos)
      rwa [add_at] at this
    · rw [hlen] at hj
      have := hq j hj
      rw [add_at] at this
      rw [this]
      simp [at_, List.getD_eq_getElem?_getD, hj]
theorem delta_cells {fuel : Nat} {cs : List Value} {x : DataW H × List MemPlace} (h : DataW.trod enc Tryz.prog W 0 sp held fuel 91 cs = some x) :
    ∃ (s : Dl) (c e : Value), cs = [.int .i64 s.de, .int .i64 s.cl, .int .i64 s.fu, .int .i64 s.st, c, e] ∧ RulesV W.heap.size W c s.put ∧ Row W.heap.size W e (zI s.drop) := by
  obtain ⟨xs, n, _, _, hl, hlen, hf⟩ := DataW.trod_struct Tryz.underlying91 h
  rw [show Tryz.prog.cellsOf 91 = 6 by kernel_rfl] at hl
  obtain ⟨c0, c1, c2, c3, c4, c5, rfl⟩ := list6 hl
  obtain ⟨y0, y1, y2, y3, y4, y5, rfl⟩ := list6 hlen
  have k : Tryz.prog.cellsOf 3 = 1 := by kernel_rfl
  have ks : Tryz.prog.cellsOf 89 = 1 := by kernel_rfl
  have ki : Tryz.prog.cellsOf 74 = 1 := by kernel_rfl
  have h0 := hf 0 _ rfl
  have h1 := hf 1 _ rfl
  have h2 := hf 2 _ rfl
  have h3 := hf 3 _ rfl
  have h4 := hf 4 _ rfl
  have h5 := hf 5 _ rfl
  simp [k, ks, ki] at h0 h1 h2 h3 h4 h5
  obtain ⟨z0, rfl, _⟩ := int_cell h0
  obtain ⟨z1, rfl, _⟩ := int_cell h1
  obtain ⟨z2, rfl, _⟩ := int_cell h2
  obtain ⟨z3, rfl, _⟩ := int_cell h3
  obtain ⟨l, hr⟩ := rules_cell h4
  obtain ⟨q, hq, _⟩ := ints_cell h5
  exact ⟨⟨z0, z1, z2, z3, l, q⟩, c4, c5, rfl, hr, hq⟩
theorem entry_cells {fuel : Nat} {cs : List Value} {x : DataW H × List MemPlace} (h : DataW.trod enc Tryz.prog W 0 sp held fuel 93 cs = some x) :
    ∃ (e : En) (p d : Value), cs = e.cells p d ∧ RulesV W.heap.size W p e.d.put ∧ Row W.heap.size W d (zI e.d.drop) := by
  obtain ⟨xs, n, _, _, hl, hlen, hf⟩ := DataW.trod_struct Tryz.underlying93 h
  rw [show Tryz.prog.cellsOf 93 = 9 by kernel_rfl] at hl
  obtain ⟨c0, c1, c2, c3, c4, c5, c6, c7, c8, rfl⟩ := list9 hl
  obtain ⟨y0, y1, y2, y3, rfl⟩ := list4 hlen
  have k : Tryz.prog.cellsOf 3 = 1 := by kernel_rfl
  have kd : Tryz.prog.cellsOf 91 = 6 := by kernel_rfl
  have h0 := hf 0 _ rfl
  have h1 := hf 1 _ rfl
  have h2 := hf 2 _ rfl
  have h3 := hf 3 _ rfl
  simp [k, kd] at h0 h1 h2 h3
  obtain ⟨z0, rfl, _⟩ := int_cell h0
  obtain ⟨z1, rfl, _⟩ := int_cell h1
  obtain ⟨z2, rfl, _⟩ := int_cell h2
  obtain ⟨s, c, e, hcs, hp, hd⟩ := delta_cells h3
  simp only [List.cons.injEq, and_true] at hcs
  obtain ⟨rfl, rfl, rfl, rfl, rfl, rfl⟩ := hcs
  exact ⟨⟨z0, z1, z2, s⟩, _, _, rfl, hp, hd⟩
set_option maxRecDepth 100000 in
theorem ents_cell {n : Nat} {c : Value} {y : DataW H × List MemPlace} (h : DataW.trod enc Tryz.prog W 0 sp held n 39 [c] = some y) : ∃ l : List En, EntsV W.heap.size W c l ∧ l.length ≤ 9223372036854775807 := by
  rcases Go.Deep.open_slice Tryz.underlying39 h with ⟨hcs, _⟩ | ⟨a, len, cap, m, k, D, Pl, hcs, _, hl, hmx, hmm, _, hi⟩
  · obtain rfl : c = .slice none 0 0 := by simpa using hcs
    exact ⟨[], EntsV.nil _ _, by simp⟩
  · obtain rfl : c = .slice (some a) len cap := by simpa using hcs
    have hlm : len ≤ m := by rw [hmm]; split <;> omega
    have each : ∀ i, i < len → ∃ r : En × Value × Value, (∀ j u, (r.1.cells r.2.1 r.2.2)[j]? = some u → W.cell? ((a.add (i * 9)).add j) = some u) ∧ RulesV W.heap.size W r.2.1 r.1.d.put ∧ Row W.heap.size W r.2.2 (zI r.1.d.drop) := by
      intro i hil
      obtain ⟨cs', h1, h2⟩ := hi i (by omega)
      rw [show Tryz.prog.cellsOf 93 = 9 by kernel_rfl] at h1
      obtain ⟨r, p, d, rfl, hp, hd⟩ := entry_cells h2
      obtain ⟨_, _, hc⟩ := World.cells?_some h1
      refine ⟨(r, p, d), fun j u hu => ?_, hp, hd⟩
      have hj : j < 9 := by
        have := (List.getElem?_eq_some_iff.1 hu).1
        simpa [En.cells] using this
      rw [hc j hj, hu]
    obtain ⟨q, hq⟩ := Go.Deep.choose_lt (α := En × Value × Value) each
    have hlen : ((List.range len).map fun i => (q i).1).length = len := by simp
    refine ⟨(List.range len).map fun i => (q i).1, ⟨some a, cap, by rw [hlen], by rw [hlen]; exact hl, fun hne => ?_⟩, by rw [hlen]; unfold maxLen at hmx; omega⟩
    have hpos : 0 < len := by
      rcases Nat.eq_zero_or_pos len with h0 | h0
      · subst h0; simp at hne
      · exact h0
    obtain ⟨b, off, spot⟩ := a
    have hspot : spot = none := by
      have := World.cell?_spot ((hq 0 hpos).1 0 _ rfl)
      simpa [Addr.add] using this
    subst hspot
    have cell : ∀ i, i < len → ∀ j u, ((q i).1.cells (q i).2.1 (q i).2.2)[j]? = some u → W.cell? ⟨b, off + i * 9 + j, none⟩ = some u := fun i hil j u hu => by
      have := (hq i hil).1 j u hu
      rwa [add_at, add_at] at this
    refine ⟨b, off, rfl, block_lt_of_cell (cell 0 hpos 0 _ rfl), fun i r hr => ?_⟩
    obtain ⟨hil, hre⟩ := List.getElem?_eq_some_iff.1 hr
    rw [hlen] at hil
    have hre : (q i).1 = r := by simpa using hre
    subst hre
    exact ⟨(q i).2.1, (q i).2.2, ⟨cell i hil 0 _ rfl, cell i hil 1 _ rfl, cell i hil 2 _ rfl, cell i hil 3 _ rfl, cell i hil 4 _ rfl, cell i hil 5 _ rfl, cell i hil 6 _ rfl, cell i hil 7 _ rfl, cell i hil 8 _ rfl⟩, (hq i hil).2.1, (hq i hil).2.2⟩
end
section
variable {H : Type} {enc : TypeId × Value → H} {W : World} {base : Nat} {v : Value} {d : DataW H} {p : List MemPlace}
set_option maxRecDepth 100000 in
theorem open_bytes (hv : Value.okWide Tryz.prog W .any base 22 v) (h : DataW.Trod enc Tryz.prog W 0 (fun _ => true) true 22 v d p) : ∃ s : List UInt8, Bytes W.heap.size W v s ∧ s.length ≤ 9223372036854775807 := by
  obtain ⟨a, len, cap, rfl⟩ := okWide_slice Tryz.underlying22 hv
  obtain ⟨fuel, h⟩ := h
  exact bytes_cell h
set_option maxRecDepth 100000 in
theorem open_ents (hv : Value.okWide Tryz.prog W .any base 39 v) (h : DataW.Trod enc Tryz.prog W 0 (fun _ => true) true 39 v d p) : ∃ l : List En, EntsV W.heap.size W v l ∧ l.length ≤ 9223372036854775807 := by
  obtain ⟨a, len, cap, rfl⟩ := okWide_slice Tryz.underlying39 hv
  obtain ⟨fuel, h⟩ := h
  exact ents_cell h
set_option maxRecDepth 100000 in
theorem open_rec (hv : Value.okWide Tryz.prog W .any base 82 v) (h : DataW.Trod enc Tryz.prog W 0 (fun _ => true) true 82 v d p) :
    ∃ (m : Rc) (c : Value), v = m.val c ∧ EntsV W.heap.size W c m.log ∧ m.log.length ≤ 9223372036854775807 := by
  obtain ⟨cs, rfl, _⟩ := okWide_struct Tryz.underlying82 hv
  obtain ⟨fuel, h⟩ := h
  obtain ⟨xs, n, _, _, hl, hlen, hf⟩ := DataW.trod_struct Tryz.underlying82 h
  obtain ⟨cs⟩ := cs
  simp only [Value.cells] at hl hf
  rw [show Tryz.prog.cellsOf 82 = 4 by kernel_rfl] at hl
  obtain ⟨c0, c1, c2, c3, rfl⟩ := list4 hl
  obtain ⟨y0, y1, y2, y3, rfl⟩ := list4 hlen
  have k : Tryz.prog.cellsOf 3 = 1 := by kernel_rfl
  have ks : Tryz.prog.cellsOf 39 = 1 := by kernel_rfl
  have h0 := hf 0 _ rfl
  have h1 := hf 1 _ rfl
  have h2 := hf 2 _ rfl
  have h3 := hf 3 _ rfl
  simp [k, ks] at h0 h1 h2 h3
  obtain ⟨z0, rfl, _⟩ := int_cell h0
  obtain ⟨z1, rfl, _⟩ := int_cell h1
  obtain ⟨z2, rfl, _⟩ := int_cell h2
  obtain ⟨l, hr, hm⟩ := ents_cell h3
  exact ⟨⟨z0, z1, z2, l⟩, c3, rfl, hr, hm⟩
end
theorem i64_bounds {z : Int} (h : (Lit.int .i64 z).wf = true) : -9223372036854775808 ≤ z ∧ z ≤ 9223372036854775807 := by
  simpa [Lit.wf, IntKind.min, IntKind.max, IntKind.signed, IntKind.bits] using h

end Go.Proofs.YtefgobmpleoafaaGreat
