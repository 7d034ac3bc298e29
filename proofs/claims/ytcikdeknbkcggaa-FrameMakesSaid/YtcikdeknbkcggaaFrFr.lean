/- What each row's proof of layer 10 needs beside its walk: the arguments opened. -/
import Derived.Test.YtcikdeknbkcggaaRows
import Derived.Test.YtcikdeknbkcggaaFrK
import Derived.ProofKit
import Derived.OpenShut
import Derived.Deep.Slices
import Derived.SizedLaws
namespace Go.Proofs.Ytcikdeknbkcggaa
open Go.ChangeShapes Go.WideShapes Go.ChangeAt Go.RowKit

theorem own : ownKnob Try.prog.godebug = none := by kernel_rfl
theorem laidOut : laidOutB Try.prog = true := by kernel_rfl
/-- A slice whose values read as texts. -/
def Mat (n₀ : Nat) (w : World) (v : Value) (bs : List (List UInt8)) (vals : List Value) : Prop :=
  vals.length = bs.length ∧ Row n₀ w v vals ∧ ∀ (i : Nat) x t, vals[i]? = some x → bs[i]? = some t → Bytes n₀ w x t
section
variable {H : Type} {enc : TypeId × Value → H} {W : World} {sp : Nat → Bool} {held : Bool}
theorem add_at (b off j : Nat) : (⟨b, off, none⟩ : Addr).add j = ⟨b, off + j, none⟩ := by unfold Addr.add; split <;> simp_all
theorem byte_cell {n : Nat} {c : Value} {y : DataW H × List MemPlace} (h : DataW.trod enc Try.prog W 0 sp held n 5 [c] = some y) : ∃ z : UInt8, c = .int .u8 ((z.toNat : Nat) : Int) := by
  obtain ⟨z, hz, _, hw⟩ := DataW.trod_int Try.underlying5 h
  have hb : 0 ≤ z ∧ z ≤ 255 := by simpa [Lit.wf, IntKind.min, IntKind.max, IntKind.signed, IntKind.bits] using hw
  refine ⟨z.toNat.toUInt8, ?_⟩
  rw [u8 _ (by omega)]
  have : ((z.toNat : Nat) : Int) = z := by omega
  rw [this]
  simpa using hz
theorem bytes_cell {n : Nat} {c : Value} {y : DataW H × List MemPlace} (h : DataW.trod enc Try.prog W 0 sp held n 22 [c] = some y) : ∃ s : List UInt8, Bytes W.heap.size W c s ∧ s.length ≤ 9223372036854775807 := by
  rcases Go.Deep.open_slice1 Try.underlying22 (by kernel_rfl) h with ⟨hcs, _⟩ | ⟨a, len, cap, m, k, V, D, Pl, hcs, _, hl, hmx, hmm, _, hi⟩
  · obtain rfl : c = .slice none 0 0 := by simpa using hcs
    exact ⟨[], bytes_nil _ _, by simp⟩
  · obtain rfl : c = .slice (some a) len cap := by simpa using hcs
    have hlm : len ≤ m := by rw [hmm]; split <;> omega
    have each : ∀ i, i < len → ∃ z : UInt8, W.cell? (a.add i) = some (.int .u8 ((z.toNat : Nat) : Int)) := by
      intro i hil
      obtain ⟨h1, h2⟩ := hi i (by omega)
      obtain ⟨z, hz⟩ := byte_cell h2
      exact ⟨z, by rw [h1, hz]⟩
    obtain ⟨q, hq⟩ := Go.Deep.choose_lt (α := UInt8) each
    have hlen : ((List.range len).map q).length = len := by simp
    refine ⟨(List.range len).map q, ⟨some a, cap, by rw [hlen], by rw [hlen]; exact hl, fun hne => ?_⟩, by rw [hlen]; unfold maxLen at hmx; omega⟩
    have hpos : 0 < len := by
      rcases Nat.eq_zero_or_pos len with h0 | h0
      · subst h0; simp at hne
      · exact h0
    obtain ⟨b, off, spot⟩ := a
    have hspot : spot = none := by
      have := World.cell?_spot (hq 0 hpos)
      simpa [Addr.add] using this
    subst hspot
    refine ⟨b, off, rfl, ?_, fun j hj => ?_⟩
    · have := block_lt_of_cell (hq 0 hpos)
      rwa [add_at] at this
    · rw [hlen] at hj
      have := hq j hj
      rw [add_at] at this
      rw [this]
      simp [at_, List.getD_eq_getElem?_getD, hj]
theorem mat_cell {n : Nat} {c : Value} {y : DataW H × List MemPlace} (h : DataW.trod enc Try.prog W 0 sp held n 35 [c] = some y) : ∃ bs vals, Mat W.heap.size W c bs vals ∧ bs.length ≤ 9223372036854775807 ∧ ∀ t ∈ bs, t.length ≤ 9223372036854775807 := by
  rcases Go.Deep.open_slice1 Try.underlying35 (by kernel_rfl) h with ⟨hcs, _⟩ | ⟨a, len, cap, m, k, V, D, Pl, hcs, _, hl, hmx, hmm, _, hi⟩
  · obtain rfl : c = .slice none 0 0 := by simpa using hcs
    exact ⟨[], [], ⟨rfl, ⟨none, 0, rfl, Nat.le_refl _, fun h => absurd rfl h⟩, fun i x t h => by simp at h⟩, by simp, by simp⟩
  · obtain rfl : c = .slice (some a) len cap := by simpa using hcs
    have hlm : len ≤ m := by rw [hmm]; split <;> omega
    have each : ∀ i, i < len → ∃ z : Value × List UInt8, W.cell? (a.add i) = some z.1 ∧ Bytes W.heap.size W z.1 z.2 ∧ z.2.length ≤ 9223372036854775807 := by
      intro i hil
      obtain ⟨h1, h2⟩ := hi i (by omega)
      obtain ⟨s, hs⟩ := bytes_cell h2
      exact ⟨(_, s), h1, hs⟩
    obtain ⟨q, hq⟩ := Go.Deep.choose_lt (α := Value × List UInt8) each
    have hlen : ((List.range len).map fun i => (q i).1).length = len := by simp
    refine ⟨(List.range len).map fun i => (q i).2, (List.range len).map fun i => (q i).1, ⟨by simp, ⟨some a, cap, by rw [hlen], by rw [hlen]; exact hl, fun hne => ?_⟩, fun i x t hx ht => ?_⟩, by simp; unfold maxLen at hmx; omega, fun t ht => ?_⟩
    · have hpos : 0 < len := by
        rcases Nat.eq_zero_or_pos len with h0 | h0
        · subst h0; simp at hne
        · exact h0
      obtain ⟨b, off, spot⟩ := a
      have hspot : spot = none := by
        have := World.cell?_spot (hq 0 hpos).1
        simpa [Addr.add] using this
      subst hspot
      refine ⟨b, off, rfl, ?_, fun j u hu => ?_⟩
      · have := block_lt_of_cell (hq 0 hpos).1
        rwa [add_at] at this
      · obtain ⟨hj, he⟩ := List.getElem?_eq_some_iff.1 hu
        rw [hlen] at hj
        have := (hq j hj).1
        rw [add_at] at this
        rw [this, ← he]
        simp
    · have hil : i < len := by
        have := (List.getElem?_eq_some_iff.1 hx).1
        rwa [hlen] at this
      simp [hil] at hx ht
      rw [← hx, ← ht]
      exact (hq i hil).2.1
    · obtain ⟨i, hi', rfl⟩ := List.mem_map.1 ht
      exact (hq i (List.mem_range.1 hi')).2.2
end
section
variable {H : Type} {enc : TypeId × Value → H} {W : World} {base : Nat} {v : Value} {d : DataW H} {p : List MemPlace}
theorem open_bytes (hv : Value.okWide Try.prog W .any base 22 v) (h : DataW.Trod enc Try.prog W 0 (fun _ => true) true 22 v d p) : ∃ s : List UInt8, Bytes W.heap.size W v s ∧ s.length ≤ 9223372036854775807 := by
  obtain ⟨a, len, cap, rfl⟩ := okWide_slice Try.underlying22 hv
  obtain ⟨fuel, h⟩ := h
  exact bytes_cell h
theorem open_mat (hv : Value.okWide Try.prog W .any base 35 v) (h : DataW.Trod enc Try.prog W 0 (fun _ => true) true 35 v d p) : ∃ bs vals, Mat W.heap.size W v bs vals ∧ bs.length ≤ 9223372036854775807 ∧ ∀ t ∈ bs, t.length ≤ 9223372036854775807 := by
  obtain ⟨a, len, cap, rfl⟩ := okWide_slice Try.underlying35 hv
  obtain ⟨fuel, h⟩ := h
  exact mat_cell h
end
theorem i64_bounds {z : Int} (h : (Lit.int .i64 z).wf = true) : -9223372036854775808 ≤ z ∧ z ≤ 9223372036854775807 := by
  simpa [Lit.wf, IntKind.min, IntKind.max, IntKind.signed, IntKind.bits] using h

end Go.Proofs.Ytcikdeknbkcggaa
