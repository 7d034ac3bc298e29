/- Patterns, read: the reader goes on; what it reads is right. -/
import Derived.Test.YthipgidddgdojaaDoorPmSim
namespace Go.Proofs.YthipgidddgdojaaDoor
open Go.Proofs.YthipgidddgdojaaDoor.Cl
variable {σ σ1 : St}

theorem adv_len (σ : St) (n : Nat) : (σ.adv n).t.length = σ.t.length - n := by simp [St.adv]
theorem adv_g (σ : St) (n : Nat) : (σ.adv n).g = σ.g := rfl
theorem sign_lt (t : List UInt8) : sign t < 256 := by
  unfold sign
  split
  · exact at_lt t 1
  · omega
theorem isHex_le {c : Nat} (h : isHex c = true) : hexV c ≤ 15 := by
  simp [isHex] at h
  unfold hexV
  split <;> omega
theorem escUnit_len {u : Nat} (h : escUnit σ = .ok (u, σ1)) : σ1.t.length + 1 ≤ σ.t.length ∧ u ≤ 255 ∧ σ1.g = σ.g := by
  have hz := sign_len (escUnit_sign h)
  have hl := sign_lt σ.t
  unfold escUnit at h
  repeat' split at h
  all_goals first
    | (injection h with h; injection h with h1 h2; subst h1 h2
       simp only [adv_len, adv_g, and_true]
       first
         | omega
         | (rename_i c
            simp only [Bool.and_eq_true] at c
            have a := isHex_le c.1
            have b := isHex_le c.2
            omega))
    | cases h
theorem nx_max (t : List UInt8) (h : t ≠ []) : (nx t).1 ≤ 1114367 := by
  rcases nx_right t h with h1 | h1
  · have := h1.1
    omega
  · exact h1.2
theorem mUnit_len {u : Nat} (h : mUnit σ = .ok (u, σ1)) (hn : σ.t ≠ []) : σ1.t.length + 1 ≤ σ.t.length ∧ u ≤ 1114367 ∧ σ1.g = σ.g := by
  unfold mUnit at h
  split at h
  · have := escUnit_len h
    omega
  · injection h with h; injection h with h1 h2; subst h1 h2
    have := nx_le σ.t hn
    have := nx_max σ.t hn
    simp only [adv_len, adv_g, and_true]
    omega
theorem lowOf_ok {c : Nat} {l : List Rg} (h : lowOf c = some l) : Norm l ∧ l.length ≤ 4 := by
  unfold lowOf at h
  repeat' split at h
  all_goals first
    | (injection h with h; subst h; simp [Norm, Rt])
    | cases h
theorem units_ok {c : Nat} {l : List Rg} (h : units c = some l) : (∀ r ∈ l, Rt r) ∧ l.length ≤ 5 := by
  unfold units at h
  split at h
  · obtain ⟨l', hl, rfl⟩ := Option.map_eq_some_iff.1 h
    obtain ⟨h1, h2⟩ := lowOf_ok hl
    have h3 := gaps_len l' 0
    exact ⟨(gaps_ok l' 0 (by omega) h1 (fun r hr => (h1.1 r hr).1)).1.1, by omega⟩
  · obtain ⟨h1, h2⟩ := lowOf_ok h
    exact ⟨h1.1, by omega⟩
theorem member_len {l : List Rg} (h : member σ = .ok (l, σ1)) (hn : σ.t ≠ []) : σ1.t.length + 1 ≤ σ.t.length ∧ (∀ r ∈ l, Rt r) ∧ l.length ≤ 5 ∧ σ1.g = σ.g := by
  unfold member at h
  split at h
  · cases h
  split at h
  · rename_i l' hu
    injection h with h; injection h with h1 h2; subst h1 h2
    have := (sign_len (units_some hu)).1
    obtain ⟨a, b⟩ := units_ok hu
    exact ⟨by rw [adv_len]; omega, a, b, rfl⟩
  · split at h
    · cases h
    · rename_i lo σa hm
      obtain ⟨a1, a2, a3⟩ := mUnit_len hm hn
      split at h
      · rename_i c
        split at h
        · rename_i hs
          split at h
          · cases h
          · rename_i hi σb hm2
            obtain ⟨b1, b2, b3⟩ := mUnit_len hm2 (seesUnit_ne hs)
            rw [adv_len] at b1
            rw [adv_g] at b3
            split at h
            · cases h
            · injection h with h; injection h with h1 h2; subst h1 h2
              refine ⟨by omega, ?_, by simp, by omega⟩
              intro r hr
              obtain rfl := List.mem_singleton.1 hr
              unfold Rt
              simp only
              omega
        · cases h
      · injection h with h; injection h with h1 h2; subst h1 h2
        refine ⟨by omega, ?_, by simp, a3⟩
        intro r hr
        obtain rfl := List.mem_singleton.1 hr
        unfold Rt
        simp only
        omega
theorem members_len {op : Nat} {neg : Bool} : ∀ {k : Nat} {acc l : List Rg} {σ σ1 : St}, members op neg k acc σ = .ok (l, σ1) → σ1.t.length + 1 ≤ σ.t.length ∧ σ1.g = σ.g
  | 0, _, _, _, _, h => by simp [members] at h
  | k + 1, acc, l, σ, σ1, h => by
    unfold members at h
    split at h
    · rename_i c
      have := len_ne (at_ne (t := σ.t) (by omega))
      split at h
      · cases h
      · injection h with h; injection h with h1 h2; subst h1 h2
        exact ⟨by rw [adv_len]; omega, rfl⟩
    · split at h
      · cases h
      · rename_i c2
        have hn : σ.t ≠ [] := by intro e; rw [e] at c2; simp at c2
        split at h
        · cases h
        · rename_i l1 σa hm
          have h1 := member_len hm hn
          have h2 := members_len h
          omega
theorem brackets_len {r : Nd} (h : brackets σ = .ok (r, σ1)) (hc : at_ σ.t 0 = 91) : σ1.t.length + 1 ≤ σ.t.length ∧ σ1.g = σ.g := by
  have h0 := len_ne (at_ne (t := σ.t) (by omega))
  unfold brackets at h
  split at h
  · cases h
  · rename_i l σa hm
    injection h with h; injection h with h1 h2; subst h1 h2
    have := members_len hm
    have hb : (behindNeg σ).t.length ≤ σ.t.length - 1 ∧ (behindNeg σ).g = σ.g := by
      unfold behindNeg
      split
      · exact ⟨by rw [adv_len, adv_len]; omega, rfl⟩
      · exact ⟨by rw [adv_len]; omega, rfl⟩
    omega
theorem escape_len {r : Nd} (h : escape σ = .ok (r, σ1)) : σ1.t.length + 1 ≤ σ.t.length ∧ σ1.g = σ.g := by
  unfold escape at h
  split at h
  · have := (sign_len (t := σ.t) (by omega)).1
    injection h with h; injection h with h1 h2; subst h1 h2
    exact ⟨by rw [adv_len]; omega, rfl⟩
  split at h
  · have := (sign_len (t := σ.t) (by omega)).1
    injection h with h; injection h with h1 h2; subst h1 h2
    exact ⟨by rw [adv_len]; omega, rfl⟩
  split at h
  · have := (sign_len (t := σ.t) (by omega)).1
    injection h with h; injection h with h1 h2; subst h1 h2
    refine ⟨?_, rfl⟩
    simp only [refAt, List.length_drop]
    omega
  split at h
  · rename_i hu
    have := (sign_len (units_some hu)).1
    injection h with h; injection h with h1 h2; subst h1 h2
    exact ⟨by rw [adv_len]; omega, rfl⟩
  · split at h
    · cases h
    · rename_i hm
      injection h with h; injection h with h1 h2; subst h1 h2
      have := escUnit_len hm
      omega
theorem atomP_len {r : Nd} (h : atomP σ = .ok (r, σ1)) (hn : σ.t ≠ []) : σ1.t.length + 1 ≤ σ.t.length ∧ σ1.g = σ.g := by
  have h1l := len_ne hn
  unfold atomP at h
  split at h
  · rename_i c
    exact brackets_len h c
  split at h
  · exact escape_len h
  split at h
  · cases h
  split at h
  · cases h
  have hnx := nx_le σ.t hn
  repeat' split at h
  all_goals
    injection h with h; injection h with h1 h2; subst h1 h2
    exact ⟨by rw [adv_len]; omega, rfl⟩
theorem braces_len {x : Int × Int} (h : braces σ = some (x, σ1)) : σ1.t.length ≤ σ.t.length ∧ σ1.g = σ.g := by
  unfold braces at h
  repeat' split at h
  all_goals first
    | (injection h with h; injection h with h1 h2; subst h1 h2
       simp only [adv_len, adv_g, and_true]
       omega)
    | cases h
theorem times_len {x : Int × Int} (h : times σ = some (x, σ1)) : σ1.t.length ≤ σ.t.length ∧ σ1.g = σ.g := by
  unfold times at h
  split at h
  · injection h with h; injection h with h1 h2; subst h1 h2
    exact ⟨by rw [adv_len]; omega, rfl⟩
  split at h
  · injection h with h; injection h with h1 h2; subst h1 h2
    exact ⟨by rw [adv_len]; omega, rfl⟩
  split at h
  · injection h with h; injection h with h1 h2; subst h1 h2
    exact ⟨by rw [adv_len]; omega, rfl⟩
  exact braces_len h
theorem behindMode_len (σ : St) : (behindMode σ).t.length ≤ σ.t.length ∧ (behindMode σ).g = σ.g := by
  unfold behindMode
  split
  · exact ⟨Nat.le_refl _, rfl⟩
  · exact ⟨by rw [adv_len]; omega, rfl⟩
theorem quantRest_len {gr : Bool} {a r : Nd} (h : quantRest gr a σ = .ok (r, σ1)) : σ1.t.length ≤ σ.t.length ∧ σ1.g = σ.g := by
  unfold quantRest at h
  split at h
  · split at h
    · cases h
    · split at h
      · cases h
      · rename_i lo hi σa ht
        injection h with h; injection h with h1 h2; subst h1 h2
        have a := times_len ht
        have b := behindMode_len σa
        omega
  · injection h with h; injection h with h1 h2; subst h1 h2
    exact ⟨Nat.le_refl _, rfl⟩
theorem opening_len {sh : Int × Int × Int} (h : opening σ = .ok (sh, σ1)) (hc : at_ σ.t 0 = 40) : σ1.t.length + 1 ≤ σ.t.length ∧ σ.g ≤ σ1.g := by
  have h0 := len_ne (at_ne (t := σ.t) (by omega))
  unfold opening at h
  repeat' split at h
  all_goals first
    | (injection h with h; injection h with h1 h2; subst h1 h2
       first
         | exact ⟨by rw [adv_len]; omega, Nat.le_refl _⟩
         | exact ⟨by simp only [opened, List.length_drop]; omega, by simp only [opened]; omega⟩)
    | cases h

/-- What is left gets less; groups get more. -/
theorem run_len : ∀ (n : Nat), (∀ d acc σ r σ1, run n 0 d acc σ = .ok (r, σ1) → σ1.t.length ≤ σ.t.length ∧ σ.g ≤ σ1.g) ∧
    (∀ d acc σ r σ1, run n 1 d acc σ = .ok (r, σ1) → σ1.t.length ≤ σ.t.length ∧ σ.g ≤ σ1.g) ∧
    (∀ d acc σ r σ1, σ.t ≠ [] → run n 2 d acc σ = .ok (r, σ1) → σ1.t.length + 1 ≤ σ.t.length ∧ σ.g ≤ σ1.g) ∧
    (∀ d acc σ r σ1, at_ σ.t 0 = 40 → run n 3 d acc σ = .ok (r, σ1) → σ1.t.length + 1 ≤ σ.t.length ∧ σ.g ≤ σ1.g) := by
  intro n
  induction n with
  | zero => refine ⟨?_, ?_, ?_, ?_⟩ <;> intros <;> simp [run] at *
  | succ n ih =>
    obtain ⟨i0, i1, i2, i3⟩ := ih
    refine ⟨?_, ?_, ?_, ?_⟩
    · intro d acc σ r σ1 h
      rw [run_alts] at h
      split at h
      · cases h
      · rename_i r1 σa ha
        have a := i1 _ _ _ _ _ ha
        split at h
        · have b := i0 _ _ _ _ _ h
          rw [adv_len, adv_g] at b
          omega
        · injection h with h; injection h with h1 h2; subst h1 h2
          exact a
    · intro d acc σ r σ1 h
      rw [run_row] at h
      split at h
      · injection h with h; injection h with h1 h2; subst h1 h2
        exact ⟨Nat.le_refl _, Nat.le_refl _⟩
      · rename_i c
        have hn : σ.t ≠ [] := by intro e; rw [e] at c; simp at c
        split at h
        · cases h
        · rename_i r1 σa ha
          have a := i2 _ _ _ _ _ hn ha
          have b := i1 _ _ _ _ _ h
          omega
    · intro d acc σ r σ1 hn h
      rw [run_quant] at h
      split at h
      · cases h
      · rename_i r1 σa ha
        have b := quantRest_len h
        split at ha
        · rename_i c
          have a := i3 _ _ _ _ _ c ha
          omega
        · have a := atomP_len ha hn
          omega
    · intro d acc σ r σ1 hc h
      rw [run_paren] at h
      split at h
      · cases h
      · split at h
        · cases h
        · rename_i sh σa ho
          have a := opening_len ho hc
          split at h
          · cases h
          · rename_i kid σb hb
            have b := i0 _ _ _ _ _ hb
            split at h
            · injection h with h; injection h with h1 h2; subst h1 h2
              rw [adv_len, adv_g]
              omega
            · cases h

end Go.Proofs.YthipgidddgdojaaDoor
