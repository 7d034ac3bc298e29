/- Patterns, read: a fault has a code. -/
import Derived.Test.YthipgidddgdojaaDoorPTop
namespace Go.Proofs.YthipgidddgdojaaDoor
open Go.Proofs.YthipgidddgdojaaDoor.Cl
variable {σ σ1 : St} {f : Flt}

theorem escUnit_code (h : escUnit σ = .error f) : f.1 ≠ 0 := by
  unfold escUnit at h
  repeat' split at h
  all_goals first
    | (injection h with h; subst h; simp)
    | cases h
theorem mUnit_code (h : mUnit σ = .error f) : f.1 ≠ 0 := by
  unfold mUnit at h
  split at h
  · exact escUnit_code h
  · cases h
theorem member_code (h : member σ = .error f) : f.1 ≠ 0 := by
  unfold member at h
  split at h
  · injection h with h; subst h; simp
  split at h
  · cases h
  · split at h
    · rename_i e he
      injection h with h; subst h
      exact mUnit_code he
    · split at h
      · split at h
        · split at h
          · rename_i e he
            injection h with h; subst h
            exact mUnit_code he
          · split at h
            · injection h with h; subst h; simp
            · cases h
        · injection h with h; subst h; simp
      · cases h
theorem members_code {op : Nat} {neg : Bool} : ∀ {k : Nat} {acc : List Rg} {σ : St}, σ.t.length < k → members op neg k acc σ = .error f → f.1 ≠ 0
  | 0, _, _, hk, _ => by omega
  | k + 1, acc, σ, hk, h => by
    unfold members at h
    split at h
    · split at h
      · injection h with h; subst h; simp
      · cases h
    · split at h
      · injection h with h; subst h; simp
      · rename_i c2
        have hn : σ.t ≠ [] := by intro e; rw [e] at c2; simp at c2
        split at h
        · rename_i e he
          injection h with h; subst h
          exact member_code he
        · rename_i l1 σa hm
          have h1 := member_len hm hn
          exact members_code (by omega) h
theorem brackets_code (hl : σ.t.length ≤ 256) (h : brackets σ = .error f) : f.1 ≠ 0 := by
  unfold brackets at h
  split at h
  · rename_i e he
    injection h with h; subst h
    refine members_code ?_ he
    unfold behindNeg
    split <;> simp only [adv_len] <;> omega
  · cases h
theorem escape_code (h : escape σ = .error f) : f.1 ≠ 0 := by
  unfold escape at h
  split at h
  · cases h
  split at h
  · cases h
  split at h
  · cases h
  split at h
  · cases h
  · split at h
    · rename_i e he
      injection h with h; subst h
      exact escUnit_code he
    · cases h
theorem atomP_code (hl : σ.t.length ≤ 256) (h : atomP σ = .error f) : f.1 ≠ 0 := by
  unfold atomP at h
  split at h
  · exact brackets_code hl h
  split at h
  · exact escape_code h
  repeat' split at h
  all_goals first
    | (injection h with h; subst h; simp)
    | cases h
theorem quantRest_code {gr : Bool} {a : Nd} (h : quantRest gr a σ = .error f) : f.1 ≠ 0 := by
  unfold quantRest at h
  repeat' split at h
  all_goals first
    | (injection h with h; subst h; simp)
    | cases h
theorem opening_code (h : opening σ = .error f) : f.1 ≠ 0 := by
  unfold opening at h
  repeat' split at h
  all_goals first
    | (injection h with h; subst h; simp)
    | cases h

theorem run_code : ∀ (n : Nat), (∀ d acc σ, σ.t.length ≤ 256 → 4 * σ.t.length + 2 ≤ n → run n 0 d acc σ = .error f → f.1 ≠ 0) ∧
    (∀ d acc σ, σ.t.length ≤ 256 → 4 * σ.t.length + 1 ≤ n → run n 1 d acc σ = .error f → f.1 ≠ 0) ∧
    (∀ d acc σ, σ.t ≠ [] → σ.t.length ≤ 256 → 4 * σ.t.length ≤ n → run n 2 d acc σ = .error f → f.1 ≠ 0) ∧
    (∀ d acc σ, at_ σ.t 0 = 40 → σ.t.length ≤ 256 → 4 * σ.t.length ≤ n + 1 → run n 3 d acc σ = .error f → f.1 ≠ 0) := by
  intro n
  induction n with
  | zero =>
    refine ⟨fun _ _ _ _ h => by omega, fun _ _ _ _ h => by omega, fun _ _ σ hn _ h => ?_, fun _ _ σ hc _ h => ?_⟩
    · have := len_ne hn
      omega
    · have := len_ne (at_ne (t := σ.t) (by omega))
      omega
  | succ n ih =>
    obtain ⟨ih0, ih1, ih2, ih3⟩ := ih
    obtain ⟨l0, l1, l2, l3⟩ := run_len n
    refine ⟨?_, ?_, ?_, ?_⟩
    · intro d acc σ h256 hN h
      rw [run_alts] at h
      split at h
      · rename_i e he
        injection h with h; subst h
        exact ih1 _ _ _ h256 (by omega) he
      · rename_i ra σa ha
        have ga := (l1 _ _ _ _ _ ha).1
        split at h
        · rename_i c
          have := len_ne (at_ne (t := σa.t) (by omega))
          exact ih0 _ _ _ (by rw [adv_len]; omega) (by rw [adv_len]; omega) h
        · cases h
    · intro d acc σ h256 hN h
      rw [run_row] at h
      split at h
      · cases h
      · rename_i c
        have hn : σ.t ≠ [] := by
          intro e
          rw [e] at c
          exact c rfl
        split at h
        · rename_i e he
          injection h with h; subst h
          exact ih2 _ _ _ hn h256 (by omega) he
        · rename_i a σa ha
          have ga := (l2 _ _ _ _ _ hn ha).1
          exact ih1 _ _ _ (by omega) (by omega) h
    · intro d acc σ hn h256 hN h
      rw [run_quant] at h
      split at h
      · rename_i e he
        injection h with h; subst h
        split at he
        · rename_i c
          exact ih3 _ _ _ c h256 (by omega) he
        · exact atomP_code h256 he
      · exact quantRest_code h
    · intro d acc σ hc h256 hN h
      rw [run_paren] at h
      split at h
      · injection h with h; subst h; simp
      · split at h
        · rename_i e he
          injection h with h; subst h
          exact opening_code he
        · rename_i sh σa ho
          have ga := (opening_len ho hc).1
          split at h
          · rename_i e he
            injection h with h; subst h
            exact ih0 _ _ _ (by omega) (by omega) he
          · split at h
            · cases h
            · injection h with h; subst h; simp
theorem begins_le (s : List UInt8) : (begins s).t.length ≤ s.length := by
  unfold begins
  split <;> simp
theorem parse_code {N : Nat} {s : List UInt8} (hN : 1026 ≤ N) (h : parse N s = .error f) : f.1 ≠ 0 := by
  unfold parse at h
  split at h
  · injection h with h; subst h; simp
  · have hb := begins_le s
    split at h
    · rename_i e he
      injection h with h; subst h
      exact (run_code N).1 _ _ _ (by omega) (by omega) he
    · unfold ended at h
      repeat' split at h
      all_goals first
        | (injection h with h; subst h; simp)
        | cases h

end Go.Proofs.YthipgidddgdojaaDoor
