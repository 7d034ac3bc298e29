/- A row of steps in memory; what is safe grows. -/
import Derived.Test.YtjnhjpjebklalaaTpF
namespace Go.Proofs.Ytjnhjpjebklalaa
open Go.RowKit
variable {w w' : World} {n₀ : Nat} {S : Nat → Prop} {g : Nat} {T : Tp}

/-- A step's three cells from a place on. -/
structure OpAt (w : World) (b o : Nat) (x : Op12) (u : Value) : Prop where
  k : w.cell? ⟨b, o, none⟩ = some (.int .i64 x.k)
  n : w.cell? ⟨b, o + 1, none⟩ = some (.int .i64 x.n)
  d : w.cell? ⟨b, o + 2, none⟩ = some u
/-- A slice that reads as a row of steps; below n₀. -/
def OpsV (n₀ : Nat) (w : World) (v : Value) (l : List Op12) : Prop :=
  ∃ A cap, v = .slice A l.length cap ∧ l.length ≤ cap ∧ (l ≠ [] → ∃ b off, A = some ⟨b, off, none⟩ ∧ b < n₀ ∧ ∀ i o, l[i]? = some o → ∃ u, OpAt w b (off + i * 3) o u ∧ Bytes n₀ w u o.d ∧ o.d.length ≤ 9223372036854775807 ∧ -9223372036854775808 ≤ o.n ∧ o.n ≤ 9223372036854775807)
theorem OpsV.below {v : Value} {l : List Op12} (h : OpsV n₀ w v l) (hB : Below n₀ w w') : OpsV n₀ w' v l := by
  obtain ⟨A, cap, hv, hc, h⟩ := h
  refine ⟨A, cap, hv, hc, fun hs => ?_⟩
  obtain ⟨b, off, hA, hb, ht⟩ := h hs
  refine ⟨b, off, hA, hb, fun i e he => ?_⟩
  obtain ⟨u, h1, h2, h3⟩ := ht i e he
  exact ⟨u, ⟨(hB.cell (p := ⟨b, off + i * 3, none⟩) hb).trans h1.k, (hB.cell (p := ⟨b, off + i * 3 + 1, none⟩) hb).trans h1.n, (hB.cell (p := ⟨b, off + i * 3 + 2, none⟩) hb).trans h1.d⟩, h2.below hB, h3⟩
theorem OpsV.at_ {n cap k : Nat} {A : Option Addr} {l : List Op12} (h : OpsV n₀ w (.slice A n cap) l) (hk : k < l.length) :
    ∃ b off u, A = some ⟨b, off, none⟩ ∧ b < n₀ ∧ OpAt w b (off + k * 3) l[k] u ∧ Bytes n₀ w u l[k].d ∧ l[k].d.length ≤ 9223372036854775807 ∧ -9223372036854775808 ≤ l[k].n ∧ l[k].n ≤ 9223372036854775807 := by
  obtain ⟨A', cap', hv, _, h⟩ := h
  have : A = A' := by injection hv
  subst this
  obtain ⟨b, off, hA, hb, ht⟩ := h (by rintro rfl; simp at hk)
  obtain ⟨u, h1, h2, h3⟩ := ht k l[k] (List.getElem?_eq_getElem hk)
  exact ⟨b, off, u, hA, hb, h1, h2, h3⟩
theorem OpsV.form {v : Value} {l : List Op12} (h : OpsV n₀ w v l) : ∃ A cap, v = .slice A l.length cap := by
  obtain ⟨A, cap, hv, _⟩ := h
  exact ⟨A, cap, hv⟩

/-- A string of bytes, its length, and its beginning. -/
theorem str_size (l : List UInt8) : (⟨l.toArray⟩ : ByteArray).size = l.length := by simp [ByteArray.size]
theorem str_take (l : List UInt8) (n : Nat) : (⟨l.toArray⟩ : ByteArray).extract 0 n = ⟨(l.take n).toArray⟩ := by
  apply ByteArray.ext
  simp [ByteArray.data_extract]

/-- What is safe stays the beginning, if nothing is trimmed or turned. -/
theorem Tp.grows (h : T.ok) (o : Op12) (h3 : o.k ≠ 3) : T.safe ≤ (T.does o).safe ∧ (T.does o).bs.take T.safe = T.bs.take T.safe := by
  have hs := h.safe
  unfold Tp.does
  split
  · unfold Tp.app
    split
    · exact ⟨Nat.le_refl _, rfl⟩
    · split
      · exact ⟨Nat.le_refl _, rfl⟩
      · simp only [Tp.more, Tp.spent_bs, Tp.spent_safe]
        exact ⟨Nat.le_refl _, List.take_append_of_le_length hs⟩
  · split
    · unfold Tp.sync
      split
      · exact ⟨Nat.le_refl _, rfl⟩
      · split
        · rw [Tp.spent_safe, Tp.spent_bs]; exact ⟨Nat.le_refl _, rfl⟩
        · simp only [Tp.kept, Tp.spent_bs, List.take_length]; exact ⟨hs, trivial⟩
    · split
      · exact ⟨Nat.le_refl _, rfl⟩
      · split
        · simp only [Tp.crash]
          rw [List.take_append_of_le_length (by simp; omega), List.take_take, Nat.min_self]
          exact ⟨Nat.le_add_right _ _, rfl⟩
        · exact ⟨Nat.le_refl _, rfl⟩
end Go.Proofs.Ytjnhjpjebklalaa
