/- What each row's proof of layer 12 needs beside its walk: the arguments opened. -/
import Derived.Test.YtjnhjpjebklalaaRows
import Derived.Test.YtjnhjpjebklalaaTpH
import Derived.ProofKit
import Derived.OpenShut
import Derived.Deep.Slices
import Derived.SizedLaws
namespace Go.Proofs.Ytjnhjpjebklalaa
open Go.ChangeShapes Go.WideShapes Go.ChangeAt Go.RowKit

instance : Inhabited Op12 := ⟨⟨0, 0, []⟩⟩
theorem own : ownKnob Try.prog.godebug = none := by kernel_rfl
theorem laidOut : laidOutB Try.prog = true := by kernel_rfl
theorem list3 {α : Type} {l : List α} (h : l.length = 3) : ∃ a b c, l = [a, b, c] := by
  match l, h with
  | [a, b, c], _ => exact ⟨a, b, c, rfl⟩
theorem i64_bounds {z : Int} (h : (Lit.int .i64 z).wf = true) : -9223372036854775808 ≤ z ∧ z ≤ 9223372036854775807 := by
  simpa [Lit.wf, IntKind.min, IntKind.max, IntKind.signed, IntKind.bits] using h
section
variable {H : Type} {enc : TypeId × Value → H} {W : World} {sp : Nat → Bool} {held : Bool}
theorem int_cell {n : Nat} {c : Value} {y : DataW H × List MemPlace} (h : DataW.trod enc Try.prog W 0 sp held n 3 [c] = some y) : ∃ z : Int, c = .int .i64 z ∧ (Lit.int .i64 z).wf = true := by
  obtain ⟨z, hz, _, hw⟩ := DataW.trod_int Try.underlying3 h
  exact ⟨z, by simpa using hz, hw⟩
theorem add_at (b off j : Nat) : (⟨b, off, none⟩ : Addr).add j = ⟨b, off + j, none⟩ := by unfold Addr.add; split <;> simp_all
theorem byte_cell {n : Nat} {c : Value} {y : DataW H × List MemPlace} (h : DataW.trod enc Try.prog W 0 sp held n 5 [c] = some y) : ∃ z : UInt8, c = .int .u8 ((z.toNat : Nat) : Int) := by
  obtain ⟨z, hz, _, hw⟩ := DataW.trod_int Try.underlying5 h
  have hb : 0 ≤ z ∧ z ≤ 255 := by simpa [Lit.wf, IntKind.min, IntKind.max, IntKind.signed, IntKind.bits] using hw
  refine ⟨z.toNat.toUInt8, ?_⟩
  rw [u8 _ (by omega)]
  have : ((z.toNat : Nat) : Int) = z := by omega
  rw [this]
  simpa using hz
theorem bytes_cell {n : Nat} {c : Value} {y : DataW H × List MemPlace} (h : DataW.trod enc Try.prog W 0 sp held n 27 [c] = some y) : ∃ s : List UInt8, Bytes W.heap.size W c s ∧ s.length ≤ 9223372036854775807 := by
  rcases Go.Deep.open_slice1 Try.underlying27 (by kernel_rfl) h with ⟨hcs, _⟩ | ⟨a, len, cap, m, k, V, D, Pl, hcs, _, hl, hmx, hmm, _, hi⟩
  · obtain rfl : c = .slice none 0 0 := by simpa using hcs
    exact ⟨[], bytes_nil _ _, by simp⟩
  · obtain rfl : c = .slice (some a) len cap := by simpa using hcs
    have hlm : len ≤ m := by rw [hmm]; split <;> omega
    have each : ∀ i, i < len → ∃ z : UInt8, W.cell? (a.add i) = some (.int .u8 ((z.toNat : Nat) : Int)) := by
      intro i hil
      obtain ⟨h1, h2⟩ := hi i (by omega)
      obtain ⟨z, hz⟩ := byte_cell h2
      exact ⟨z, by rw [h1, hz]⟩
    obtain ⟨q, hq⟩ := Go.Deep.choose_lt (α := UInt8) each
    have hlen : ((List.range len).map q).length = len := by simp
    refine ⟨(List.range len).map q, ⟨some a, cap, by rw [hlen], by rw [hlen]; exact hl, fun hne => ?_⟩, by rw [hlen]; unfold maxLen at hmx; omega⟩
    have hpos : 0 < len := by
      rcases Nat.eq_zero_or_pos len with h0 | h0
      · subst h0; simp at hne
      · exact h0
    obtain ⟨b, off, spot⟩ := a
    have hspot : spot = none := by
      have := World.cell?_spot (hq 0 hpos)
      simpa [Addr.add] using this
    subst hspot
    refine ⟨b, off, rfl, ?_, fun j hj => ?_⟩
    · have := block_lt_of_cell (hq 0 hpos)
      rwa [add_at] at this
    · rw [hlen] at hj
      have := hq j hj
      rw [add_at] at this
      rw [this]
      simp [at_, List.getD_eq_getElem?_getD, hj]
theorem op_cells {fuel : Nat} {cs : List Value} {x : DataW H × List MemPlace} (h : DataW.trod enc Try.prog W 0 sp held fuel 31 cs = some x) : ∃ (o : Op12) (u : Value), cs = [.int .i64 o.k, .int .i64 o.n, u] ∧ Bytes W.heap.size W u o.d ∧ o.d.length ≤ 9223372036854775807 ∧ -9223372036854775808 ≤ o.n ∧ o.n ≤ 9223372036854775807 := by
  obtain ⟨xs, n, _, _, hl, hlen, hf⟩ := DataW.trod_struct Try.underlying31 h
  rw [show Try.prog.cellsOf 31 = 3 by kernel_rfl] at hl
  obtain ⟨c0, c1, c2, rfl⟩ := list3 hl
  obtain ⟨y0, y1, y2, rfl⟩ := list3 hlen
  have k : Try.prog.cellsOf 3 = 1 := by kernel_rfl
  have ks : Try.prog.cellsOf 27 = 1 := by kernel_rfl
  have h0 := hf 0 _ rfl
  have h1 := hf 1 _ rfl
  have h2 := hf 2 _ rfl
  simp [k, ks] at h0 h1 h2
  obtain ⟨z0, rfl, _⟩ := int_cell h0
  obtain ⟨z1, rfl, w1⟩ := int_cell h1
  obtain ⟨s, hs, hm⟩ := bytes_cell h2
  exact ⟨⟨z0, z1, s⟩, _, rfl, hs, hm, i64_bounds w1⟩
set_option maxRecDepth 100000 in
theorem ops_cell {n : Nat} {c : Value} {y : DataW H × List MemPlace} (h : DataW.trod enc Try.prog W 0 sp held n 22 [c] = some y) : ∃ l : List Op12, OpsV W.heap.size W c l ∧ l.length ≤ 9223372036854775807 := by
  rcases Go.Deep.open_slice Try.underlying22 h with ⟨hcs, _⟩ | ⟨a, len, cap, m, k, D, Pl, hcs, _, hl, hmx, hmm, _, hi⟩
  · obtain rfl : c = .slice none 0 0 := by simpa using hcs
    exact ⟨[], ⟨none, 0, rfl, Nat.le_refl _, fun h => absurd rfl h⟩, by simp⟩
  · obtain rfl : c = .slice (some a) len cap := by simpa using hcs
    have hlm : len ≤ m := by rw [hmm]; split <;> omega
    have each : ∀ i, i < len → ∃ r : Op12 × Value, (∀ j u, ([Value.int .i64 r.1.k, .int .i64 r.1.n, r.2] : List Value)[j]? = some u → W.cell? ((a.add (i * 3)).add j) = some u) ∧ Bytes W.heap.size W r.2 r.1.d ∧ r.1.d.length ≤ 9223372036854775807 ∧ -9223372036854775808 ≤ r.1.n ∧ r.1.n ≤ 9223372036854775807 := by
      intro i hil
      obtain ⟨cs', h1, h2⟩ := hi i (by omega)
      rw [show Try.prog.cellsOf 31 = 3 by kernel_rfl] at h1
      obtain ⟨o, u, rfl, hu⟩ := op_cells h2
      obtain ⟨_, _, hc⟩ := World.cells?_some h1
      refine ⟨(o, u), fun j u hu => ?_, hu⟩
      have hj : j < 3 := by
        have := (List.getElem?_eq_some_iff.1 hu).1
        simpa using this
      rw [hc j hj, hu]
    obtain ⟨q, hq⟩ := Go.Deep.choose_lt (α := Op12 × Value) each
    have hlen : ((List.range len).map fun i => (q i).1).length = len := by simp
    refine ⟨(List.range len).map fun i => (q i).1, ⟨some a, cap, by rw [hlen], by rw [hlen]; exact hl, fun hne => ?_⟩, by rw [hlen]; unfold maxLen at hmx; omega⟩
    have hpos : 0 < len := by
      rcases Nat.eq_zero_or_pos len with h0 | h0
      · subst h0; simp at hne
      · exact h0
    obtain ⟨b, off, spot⟩ := a
    have hspot : spot = none := by
      have := World.cell?_spot ((hq 0 hpos).1 0 _ rfl)
      simpa [Addr.add] using this
    subst hspot
    have cell : ∀ i, i < len → ∀ j u, ([Value.int .i64 (q i).1.k, .int .i64 (q i).1.n, (q i).2] : List Value)[j]? = some u → W.cell? ⟨b, off + i * 3 + j, none⟩ = some u := fun i hil j u hu => by
      have := (hq i hil).1 j u hu
      rwa [add_at, add_at] at this
    refine ⟨b, off, rfl, block_lt_of_cell (cell 0 hpos 0 _ rfl), fun i r hr => ?_⟩
    obtain ⟨hil, hre⟩ := List.getElem?_eq_some_iff.1 hr
    rw [hlen] at hil
    have hre : (q i).1 = r := by simpa using hre
    subst hre
    exact ⟨(q i).2, ⟨cell i hil 0 _ rfl, cell i hil 1 _ rfl, cell i hil 2 _ rfl⟩, (hq i hil).2.1, (hq i hil).2.2⟩
end
section
variable {H : Type} {enc : TypeId × Value → H} {W : World} {base : Nat} {v : Value} {d : DataW H} {p : List MemPlace}
set_option maxRecDepth 100000 in
theorem open_bytes (hv : Value.okWide Try.prog W .any base 27 v) (h : DataW.Trod enc Try.prog W 0 (fun _ => true) true 27 v d p) : ∃ s : List UInt8, Bytes W.heap.size W v s ∧ s.length ≤ 9223372036854775807 := by
  obtain ⟨a, len, cap, rfl⟩ := okWide_slice Try.underlying27 hv
  obtain ⟨fuel, h⟩ := h
  exact bytes_cell h
set_option maxRecDepth 100000 in
theorem open_ops (hv : Value.okWide Try.prog W .any base 22 v) (h : DataW.Trod enc Try.prog W 0 (fun _ => true) true 22 v d p) : ∃ l : List Op12, OpsV W.heap.size W v l ∧ l.length ≤ 9223372036854775807 := by
  obtain ⟨a, len, cap, rfl⟩ := okWide_slice Try.underlying22 hv
  obtain ⟨fuel, h⟩ := h
  exact ops_cell h
end
end Go.Proofs.Ytjnhjpjebklalaa
