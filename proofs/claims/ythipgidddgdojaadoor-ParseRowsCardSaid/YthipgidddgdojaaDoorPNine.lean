/- Patterns, read: no more than nine groups. -/
import Derived.Test.YthipgidddgdojaaDoorPCode
namespace Go.Proofs.YthipgidddgdojaaDoor
open Go.Proofs.YthipgidddgdojaaDoor.Cl
variable {σ σ1 : St}

theorem opening_nine {sh : Int × Int × Int} (h : opening σ = .ok (sh, σ1)) (hg : σ.g ≤ 9) : σ1.g ≤ 9 := by
  unfold opening at h
  repeat' split at h
  all_goals first
    | (injection h with h; injection h with h1 h2; subst h1 h2
       simp only [adv_g, opened]
       omega)
    | cases h
theorem run_nine : ∀ (n : Nat), (∀ d acc σ r σ1, run n 0 d acc σ = .ok (r, σ1) → σ.g ≤ 9 → σ1.g ≤ 9) ∧
    (∀ d acc σ r σ1, run n 1 d acc σ = .ok (r, σ1) → σ.g ≤ 9 → σ1.g ≤ 9) ∧
    (∀ d acc σ r σ1, σ.t ≠ [] → run n 2 d acc σ = .ok (r, σ1) → σ.g ≤ 9 → σ1.g ≤ 9) ∧
    (∀ d acc σ r σ1, run n 3 d acc σ = .ok (r, σ1) → σ.g ≤ 9 → σ1.g ≤ 9) := by
  intro n
  induction n with
  | zero => refine ⟨?_, ?_, ?_, ?_⟩ <;> intros <;> simp [run] at *
  | succ n ih =>
    obtain ⟨ih0, ih1, ih2, ih3⟩ := ih
    refine ⟨?_, ?_, ?_, ?_⟩
    · intro d acc σ r σ1 h hg
      rw [run_alts] at h
      split at h
      · cases h
      · rename_i ra σa ha
        have ga := ih1 _ _ _ _ _ ha hg
        split at h
        · exact ih0 _ _ _ _ _ h (by rw [adv_g]; exact ga)
        · injection h with h; injection h with h1 h2; subst h1 h2
          exact ga
    · intro d acc σ r σ1 h hg
      rw [run_row] at h
      split at h
      · injection h with h; injection h with h1 h2; subst h1 h2
        exact hg
      · rename_i c
        have hn : σ.t ≠ [] := by
          intro e
          rw [e] at c
          exact c rfl
        split at h
        · cases h
        · rename_i a σa ha
          exact ih1 _ _ _ _ _ h (ih2 _ _ _ _ _ hn ha hg)
    · intro d acc σ r σ1 hn h hg
      rw [run_quant] at h
      split at h
      · cases h
      · rename_i a σa ha
        have gq := (quantRest_len h).2
        rw [gq]
        split at ha
        · exact ih3 _ _ _ _ _ ha hg
        · have := (atomP_len ha hn).2
          omega
    · intro d acc σ r σ1 h hg
      rw [run_paren] at h
      split at h
      · cases h
      · split at h
        · cases h
        · rename_i sh σa ho
          have ga := opening_nine ho hg
          split at h
          · cases h
          · rename_i kid σb hk
            have gb := ih0 _ _ _ _ _ hk ga
            split at h
            · injection h with h; injection h with h1 h2; subst h1 h2
              rw [adv_g]
              exact gb
            · cases h
theorem parse_nine {N : Nat} {s : List UInt8} {nd : Nd} {g : Nat} {fo : Bool} (h : parse N s = .ok (nd, g, fo)) : g ≤ 9 := by
  unfold parse at h
  split at h
  · cases h
  · split at h
    · cases h
    · rename_i r σ hr
      have hg := (run_nine N).1 _ _ _ _ _ hr (by unfold begins; split <;> simp)
      unfold ended at h
      split at h
      · cases h
      · split at h
        · cases h
        · injection h with h; injection h with h1 h2; injection h2 with h2 h3; subst h2
          exact hg

end Go.Proofs.YthipgidddgdojaaDoor
