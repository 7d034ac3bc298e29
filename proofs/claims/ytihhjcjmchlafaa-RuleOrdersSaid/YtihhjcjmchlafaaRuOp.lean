/- Of layer 7, without a program: the order of a scope's rules by a comparison that reads the rules' places. -/
import Derived.Test.YtihhjcjmchlafaaRuO
namespace Go.Proofs.Ytihhjcjmchlafaa
variable {l : List Ru} {hs : Ru → Bool}

/-- a place that is there -/
def inn (l : List Ru) (z : Int) : Int := if 0 ≤ z ∧ z < (l.length : Int) then z else 0
theorem inn_of {z : Int} (h : 0 ≤ z ∧ z < (l.length : Int)) : inn l z = z := by unfold inn; rw [if_pos h]
theorem inn_in (hl : l ≠ []) (z : Int) : ∃ k : Nat, inn l z = (k : Int) ∧ k < l.length := by
  have := List.length_pos_iff.2 hl
  unfold inn
  split
  · exact ⟨z.toNat, by omega, by omega⟩
  · exact ⟨0, rfl, this⟩
def prC (l : List Ru) (z : Int) : Int := prAt l (inn l z)
theorem picked_at {n : Nat} {x : Int} (h : x ∈ picked l hs n) : 0 ≤ x ∧ x < (l.length : Int) := by
  obtain ⟨i, rfl, _, h2⟩ := mem_picked.1 h
  refine ⟨by omega, ?_⟩
  unfold hasAt at h2
  cases h : l[i]? with
  | none => rw [h] at h2; cases h2
  | some r => have := (List.getElem?_eq_some_iff.1 h).1; omega
/-- what the sort by insertion makes of the picked places is the document's order -/
theorem ord_sort {lt : Int → Int → Bool} (hlt : ∀ x y, lt x y = decide (prC l y < prC l x)) (hpr : ∀ r ∈ l, 0 ≤ r.pr ∧ r.pr ≤ 1000) : (Sort.insertionSort lt (picked l hs l.length).toArray 0 (picked l hs l.length).toArray.size).toList = ordR l hs 1001 := by
  have hd : ∀ k p, k < p → p < (picked l hs l.length).toArray.size → (picked l hs l.length).toArray[k]! < (picked l hs l.length).toArray[p]! := fun k p hkp hp => by
    have hp' : p < (picked l hs l.length).length := by simpa using hp
    have hk' : k < (picked l hs l.length).length := by omega
    have h := List.pairwise_iff_getElem.1 (picked_rise (l := l) (hs := hs) (n := l.length)) k p hk' hp' hkp
    rw [getElem!_pos (picked l hs l.length).toArray k (by simpa using hk'), getElem!_pos (picked l hs l.length).toArray p hp]
    simpa using h
  obtain ⟨h1, h2⟩ := stable (f := prC l) hlt hd
  refine ord_one hpr rfl h1 fun i j h0 hij hj => ?_
  have h3 := h2 i j h0 hij hj
  have hsz := h1.1
  have hmem : ∀ k, k < (picked l hs l.length).toArray.size → 0 ≤ (Sort.insertionSort lt (picked l hs l.length).toArray 0 (picked l hs l.length).toArray.size)[k]! ∧ (Sort.insertionSort lt (picked l hs l.length).toArray 0 (picked l hs l.length).toArray.size)[k]! < (l.length : Int) := fun k hk => by
    refine Sort.permIn_all _ _ 0 _ (fun x => 0 ≤ x ∧ x < (l.length : Int)) (Nat.le_refl _) h1 (fun q _ hq => ?_) k (Nat.zero_le _) hk
    rw [getElem!_pos (picked l hs l.length).toArray q hq]
    exact picked_at (l := l) (hs := hs) (n := l.length) (by simp)
  have hj0 : j < (picked l hs l.length).toArray.size := hj
  have hi := hmem i (by omega)
  have hj' := hmem j hj0
  simp only [lexI, prC, inn_of hi, inn_of hj'] at h3 ⊢
  exact h3

end Go.Proofs.Ytihhjcjmchlafaa
