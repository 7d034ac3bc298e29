/- Patterns, read: what stands behind a closing parenthesis, and where the text begins, play no part. -/
import Derived.Test.YthipgidddgdojaaDoorPm
namespace Go.Proofs.YthipgidddgdojaaDoor
open Go.Proofs.YthipgidddgdojaaDoor.Cl

/-- What may stand behind: nothing, or a closing parenthesis and what you like. -/
def Tail (q : List UInt8) : Prop := q = [] ∨ ∃ p, q = 41 :: p
theorem at_nil (i : Nat) : at_ [] i = 0 := by simp [at_]
theorem at_tail0 {q : List UInt8} (h : Tail q) : at_ q 0 = 0 ∨ at_ q 0 = 41 := by
  rcases h with rfl | ⟨p, rfl⟩
  · exact .inl (at_nil 0)
  · exact .inr rfl
theorem at_app0 {t : List UInt8} (q : List UInt8) (h : t ≠ []) : at_ (t ++ q) 0 = at_ t 0 := at_app_l (by cases t <;> simp_all)
theorem at_sim {t q : List UInt8} (h : Tail q) {c : Nat} (h0 : c ≠ 0) (h1 : c ≠ 41) : at_ (t ++ q) 0 = c ↔ at_ t 0 = c := by
  by_cases ht : t = []
  · subst ht
    rw [List.nil_append, at_nil]
    rcases at_tail0 h with e | e <;> rw [e] <;> omega
  · rw [at_app0 q ht]
theorem at_ne {t : List UInt8} (h : at_ t 0 ≠ 0) : t ≠ [] := by
  rintro rfl
  exact h (at_nil 0)
theorem len_ne {t : List UInt8} (h : t ≠ []) : 1 ≤ t.length := by cases t <;> simp_all
theorem starts_tail {q : List UInt8} (h : Tail q) : starts q := by
  unfold starts
  rcases at_tail0 h with e | e <;> rw [e] <;> omega

theorem pre_nil (t : List UInt8) : pre [] t = true := by simp [pre]
theorem pre_len {w t : List UInt8} (h : pre w t = true) : w.length ≤ t.length := by
  unfold pre at h
  exact (List.isPrefixOf_iff_prefix.1 h).length_le
theorem pre_sim (w : List UInt8) {q : List UInt8} (h : Tail q) (hw : (41 : UInt8) ∉ w) : ∀ t, pre w (t ++ q) = pre w t := by
  induction w with
  | nil => intro t; simp [pre]
  | cons a w ih =>
    intro t
    cases t with
    | nil =>
      rcases h with rfl | ⟨p, rfl⟩
      · rfl
      · have : ¬ a = 41 := fun e => hw (by simp [e])
        simp [pre, List.isPrefixOf, this]
    | cons b t =>
      have := ih (fun e => hw (List.mem_cons_of_mem _ e)) t
      simp only [pre] at this
      simp only [pre, List.cons_append, List.isPrefixOf, this]

structure Sim (γ : Nat) (B : List Nat) (q : List UInt8) (σ σ' : St) : Prop where
  ht : σ'.t = σ.t ++ q
  hg : σ'.g = σ.g + γ
  hb : σ'.bk.map (·.1) = B ++ σ.bk.map (·.1)

variable {γ δ : Nat} {B : List Nat} {q : List UInt8} {σ σ' σ1 : St}
theorem Sim.adv (h : Sim γ B q σ σ') {n : Nat} (hn : n ≤ σ.t.length) : Sim γ B q (σ.adv n) (σ'.adv n) :=
  ⟨by simp only [St.adv]; rw [h.ht, List.drop_append_of_le_length hn], h.hg, h.hb⟩
theorem Sim.at_ (h : Sim γ B q σ σ') (hq : Tail q) {c : Nat} (h0 : c ≠ 0) (h1 : c ≠ 41) : at_ σ'.t 0 = c ↔ at_ σ.t 0 = c := by rw [h.ht]; exact at_sim hq h0 h1
theorem Sim.at0 (h : Sim γ B q σ σ') (hn : σ.t ≠ []) : Go.Proofs.YthipgidddgdojaaDoor.at_ σ'.t 0 = Go.Proofs.YthipgidddgdojaaDoor.at_ σ.t 0 := by rw [h.ht]; exact at_app0 q hn
theorem Sim.pre (h : Sim γ B q σ σ') (hq : Tail q) (w : List UInt8) (hw : (41 : UInt8) ∉ w) : pre w σ'.t = pre w σ.t := by rw [h.ht]; exact pre_sim w hq hw _

theorem sign_len {t : List UInt8} (h : sign t ≠ 0) : 2 ≤ t.length ∧ at_ t 0 = 92 := by
  unfold sign at h
  split at h
  · rename_i h0
    refine ⟨?_, h0⟩
    rcases Nat.lt_or_ge t.length 2 with hl | hl
    · exact absurd (at_out (by omega)) h
    · exact hl
  · exact absurd rfl h
theorem sign_app {t : List UInt8} (q : List UInt8) (h : sign t ≠ 0) : sign (t ++ q) = sign t := by
  obtain ⟨hl, h0⟩ := sign_len h
  unfold sign
  rw [at_app_l (by omega), at_app_l (by omega)]
theorem sign_else {t : List UInt8} (h : at_ t 0 ≠ 92) : sign t = 0 := by
  unfold sign
  rw [if_neg h]
theorem units_zero : units 0 = none := by simp [units, lowOf]

theorem escUnit_sign {u : Nat} (h : escUnit σ = .ok (u, σ1)) : sign σ.t ≠ 0 := by
  intro e
  unfold escUnit at h
  rw [e] at h
  simp [isMark] at h
theorem escUnit_sim {u : Nat} (h : escUnit σ = .ok (u, σ1)) (hs : Sim γ B q σ σ') : ∃ σ1', escUnit σ' = .ok (u, σ1') ∧ Sim γ B q σ1 σ1' := by
  have hz := escUnit_sign h
  obtain ⟨hl, _⟩ := sign_len hz
  have e : sign σ'.t = sign σ.t := by rw [hs.ht]; exact sign_app q hz
  unfold escUnit at h ⊢
  rw [e]
  by_cases c1 : sign σ.t = 120
  · rw [if_pos c1] at h ⊢
    by_cases c2 : σ.t.length < 4
    · rw [if_pos c2] at h; cases h
    · rw [if_neg c2] at h
      rw [if_neg (by rw [hs.ht, List.length_append]; omega)]
      have e2 : at_ σ'.t 2 = at_ σ.t 2 := by rw [hs.ht]; exact at_app_l (by omega)
      have e3 : at_ σ'.t 3 = at_ σ.t 3 := by rw [hs.ht]; exact at_app_l (by omega)
      rw [e2, e3]
      split at h
      · rename_i c3
        rw [if_pos c3]
        injection h with h
        injection h with h1 h2
        subst h1 h2
        exact ⟨_, rfl, hs.adv (by omega)⟩
      · cases h
  · rw [if_neg c1] at h ⊢
    by_cases c2 : sign σ.t = 110
    · rw [if_pos c2] at h ⊢
      injection h with h; injection h with h1 h2; subst h1 h2
      exact ⟨_, rfl, hs.adv hl⟩
    · rw [if_neg c2] at h ⊢
      by_cases c3 : sign σ.t = 116
      · rw [if_pos c3] at h ⊢
        injection h with h; injection h with h1 h2; subst h1 h2
        exact ⟨_, rfl, hs.adv hl⟩
      · rw [if_neg c3] at h ⊢
        by_cases c4 : sign σ.t = 114
        · rw [if_pos c4] at h ⊢
          injection h with h; injection h with h1 h2; subst h1 h2
          exact ⟨_, rfl, hs.adv hl⟩
        · rw [if_neg c4] at h ⊢
          by_cases c5 : isMark (sign σ.t) = true
          · rw [if_pos c5] at h ⊢
            injection h with h; injection h with h1 h2; subst h1 h2
            exact ⟨_, rfl, hs.adv hl⟩
          · rw [if_neg c5] at h; cases h
theorem mUnit_sim {u : Nat} (h : mUnit σ = .ok (u, σ1)) (hq : Tail q) (hs : Sim γ B q σ σ') (hn : σ.t ≠ []) : ∃ σ1', mUnit σ' = .ok (u, σ1') ∧ Sim γ B q σ1 σ1' := by
  unfold mUnit at h ⊢
  rw [hs.at0 hn]
  by_cases c : at_ σ.t 0 = 92
  · rw [if_pos c] at h ⊢
    exact escUnit_sim h hs
  · rw [if_neg c] at h ⊢
    injection h with h; injection h with h1 h2; subst h1 h2
    have e : nx σ'.t = nx σ.t := by rw [hs.ht]; exact nx_app _ _ hn (starts_tail hq)
    rw [e]
    exact ⟨_, rfl, hs.adv (nx_le _ hn).2.2⟩
theorem units_some {c : Nat} {l : List Rg} (h : units c = some l) : c ≠ 0 := by
  rintro rfl
  rw [units_zero] at h
  cases h
theorem units_sim {t : List UInt8} (hq : Tail q) (h : at_ t 0 = 92 → sign t ≠ 0) : units (sign (t ++ q)) = units (sign t) := by
  by_cases c : at_ t 0 = 92
  · rw [sign_app q (h c)]
  · rw [sign_else c, sign_else (fun e => c ((at_sim hq (by omega) (by omega)).1 e))]
theorem mUnit_sign {u : Nat} (h : mUnit σ = .ok (u, σ1)) : at_ σ.t 0 = 92 → sign σ.t ≠ 0 := by
  intro c
  unfold mUnit at h
  rw [if_pos c] at h
  exact escUnit_sign h
theorem seesUnit_sim {t : List UInt8} (hq : Tail q) (h : at_ t 0 = 92 → sign t ≠ 0) (hu : seesUnit t = true) : seesUnit (t ++ q) = true := by
  have hn : t ≠ [] := by rintro rfl; simp [seesUnit] at hu
  unfold seesUnit at hu ⊢
  rw [units_sim hq h, at_app0 q hn]
  simp only [Bool.and_eq_true, Bool.not_eq_true'] at hu ⊢
  exact ⟨⟨by cases t <;> simp_all, hu.1.2⟩, hu.2⟩
theorem seesUnit_ne {t : List UInt8} (hu : seesUnit t = true) : t ≠ [] := by rintro rfl; simp [seesUnit] at hu

theorem member_sim {l : List Rg} (h : member σ = .ok (l, σ1)) (hq : Tail q) (hs : Sim γ B q σ σ') (hn : σ.t ≠ []) : ∃ σ1', member σ' = .ok (l, σ1') ∧ Sim γ B q σ1 σ1' := by
  unfold member at h ⊢
  rw [hs.at0 hn]
  split at h
  · cases h
  · rename_i c
    rw [if_neg c]
    split at h
    · rename_i l' hu
      injection h with h; injection h with h1 h2; subst h1 h2
      have hz := units_some hu
      have e : sign σ'.t = sign σ.t := by rw [hs.ht]; exact sign_app q hz
      rw [e, hu]
      exact ⟨_, rfl, hs.adv (sign_len hz).1⟩
    · rename_i hu
      split at h
      · cases h
      · rename_i lo σa hm
        have e : units (sign σ'.t) = none := by rw [hs.ht, units_sim hq (mUnit_sign hm), hu]
        rw [e]
        obtain ⟨σa', hm', hs1⟩ := mUnit_sim hm hq hs hn
        simp only [hm']
        have ei := hs1.at_ hq (c := 45) (by omega) (by omega)
        by_cases c2 : at_ σa.t 0 = 45
        · rw [if_pos c2] at h
          rw [if_pos (ei.2 c2)]
          have hs2 := hs1.adv (n := 1) (len_ne (at_ne (by omega)))
          split at h
          · rename_i hu2
            split at h
            · cases h
            · rename_i hi σb hm2
              have hu2' : seesUnit (σa'.adv 1).t = true := by rw [hs2.ht]; exact seesUnit_sim hq (mUnit_sign hm2) hu2
              rw [if_pos hu2']
              obtain ⟨σb', hm2', hs3⟩ := mUnit_sim hm2 hq hs2 (seesUnit_ne hu2)
              simp only [hm2']
              split at h
              · cases h
              · rename_i c3
                rw [if_neg c3]
                injection h with h; injection h with h1 h2; subst h1 h2
                exact ⟨_, rfl, hs3⟩
          · cases h
        · rw [if_neg c2] at h
          rw [if_neg (fun x => c2 (ei.1 x))]
          injection h with h; injection h with h1 h2; subst h1 h2
          exact ⟨_, rfl, hs1⟩
theorem members_sim {op op' : Nat} {neg : Bool} : ∀ {k : Nat} {acc l : List Rg} {σ σ' σ1 : St}, members op neg k acc σ = .ok (l, σ1) → Tail q → Sim γ B q σ σ' → ∃ σ1', members op' neg k acc σ' = .ok (l, σ1') ∧ Sim γ B q σ1 σ1'
  | 0, _, _, _, _, _, h, _, _ => by simp [members] at h
  | k + 1, acc, l, σ, σ', σ1, h, hq, hs => by
    have ei := hs.at_ hq (c := 93) (by omega) (by omega)
    unfold members at h ⊢
    by_cases c : at_ σ.t 0 = 93
    · rw [if_pos c] at h
      rw [if_pos (ei.2 c)]
      split at h
      · cases h
      · rename_i c2
        rw [if_neg c2]
        injection h with h; injection h with h1 h2; subst h1 h2
        exact ⟨_, rfl, hs.adv (len_ne (at_ne (by omega)))⟩
    · rw [if_neg c] at h
      rw [if_neg (fun x => c (ei.1 x))]
      split at h
      · cases h
      · rename_i c2
        have hn : σ.t ≠ [] := by intro e; rw [e] at c2; simp at c2
        have hn' : ¬ σ'.t.isEmpty = true := by rw [hs.ht]; cases ht : σ.t <;> simp_all
        rw [if_neg hn']
        split at h
        · cases h
        · rename_i l1 σa hm
          obtain ⟨σa', hm', hs1⟩ := member_sim hm hq hs hn
          simp only [hm']
          exact members_sim h hq hs1
theorem brackets_sim {r : Nd} (h : brackets σ = .ok (r, σ1)) (hc : at_ σ.t 0 = 91) (hq : Tail q) (hs : Sim γ B q σ σ') : ∃ σ1', brackets σ' = .ok (r, σ1') ∧ Sim γ B q σ1 σ1' := by
  have hs1 := hs.adv (n := 1) (len_ne (at_ne (by omega)))
  have ei := hs1.at_ hq (c := 94) (by omega) (by omega)
  have en : negAt σ' = negAt σ := by unfold negAt; simp only [ei]
  have hs2 : Sim γ B q (behindNeg σ) (behindNeg σ') := by
    unfold behindNeg
    rw [en]
    split
    · rename_i c
      have : at_ (σ.adv 1).t 0 = 94 := by simpa [negAt] using c
      exact hs1.adv (len_ne (at_ne (by omega)))
    · exact hs1
  unfold brackets at h ⊢
  rw [en]
  split at h
  · cases h
  · rename_i l σa hm
    obtain ⟨σa', hm', hs3⟩ := members_sim (op' := σ'.pos) hm hq hs2
    rw [hm']
    injection h with h; injection h with h1 h2; subst h1 h2
    exact ⟨_, rfl, hs3⟩

theorem escape_sim {r : Nd} (h : escape σ = .ok (r, σ1)) (hs : Sim γ B q σ σ') : ∃ σ1', escape σ' = .ok (r, σ1') ∧ Sim γ B q σ1 σ1' := by
  have hz : sign σ.t ≠ 0 := by
    intro e
    unfold escape at h
    rw [e, units_zero] at h
    simp only [show ¬ (0 : Nat) = 98 by omega, show ¬ (0 : Nat) = 66 by omega, show ¬ (49 ≤ (0 : Nat) ∧ (0 : Nat) ≤ 57) by omega, if_false] at h
    split at h
    · cases h
    · rename_i hm
      exact absurd e (escUnit_sign hm)
  obtain ⟨hl, _⟩ := sign_len hz
  have e : sign σ'.t = sign σ.t := by rw [hs.ht]; exact sign_app q hz
  have hr : Sim γ B q (refAt σ) (refAt σ') := by
    have := hs.adv hl
    refine ⟨this.ht, hs.hg, ?_⟩
    simp only [refAt, List.map_append, hs.hb, e, List.map_cons, List.map_nil, List.append_assoc]
  unfold escape at h ⊢
  rw [e]
  split at h
  · rename_i c
    rw [if_pos c]
    injection h with h; injection h with h1 h2; subst h1 h2
    exact ⟨_, rfl, hs.adv hl⟩
  · rename_i c
    rw [if_neg c]
    split at h
    · rename_i c2
      rw [if_pos c2]
      injection h with h; injection h with h1 h2; subst h1 h2
      exact ⟨_, rfl, hs.adv hl⟩
    · rename_i c2
      rw [if_neg c2]
      split at h
      · rename_i c3
        rw [if_pos c3]
        injection h with h; injection h with h1 h2; subst h1 h2
        exact ⟨_, rfl, hr⟩
      · rename_i c3
        rw [if_neg c3]
        split at h
        · rename_i l hu
          injection h with h; injection h with h1 h2; subst h1 h2
          exact ⟨_, rfl, hs.adv hl⟩
        · split at h
          · cases h
          · rename_i u σa hm
            obtain ⟨σa', hm', hs1⟩ := escUnit_sim hm hs
            rw [hm']
            injection h with h; injection h with h1 h2; subst h1 h2
            exact ⟨_, rfl, hs1⟩

theorem atomP_sim {r : Nd} (h : atomP σ = .ok (r, σ1)) (hq : Tail q) (hs : Sim γ B q σ σ') (hn : σ.t ≠ []) : ∃ σ1', atomP σ' = .ok (r, σ1') ∧ Sim γ B q σ1 σ1' := by
  have h1l := len_ne hn
  unfold atomP at h ⊢
  rw [hs.at0 hn]
  split at h
  · rename_i c
    rw [if_pos c]
    exact brackets_sim h c hq hs
  · rename_i c
    rw [if_neg c]
    split at h
    · rename_i c2
      rw [if_pos c2]
      exact escape_sim h hs
    · rename_i c2
      rw [if_neg c2]
      split at h
      · cases h
      · rename_i c3
        rw [if_neg c3]
        split at h
        · cases h
        · rename_i c4
          rw [if_neg c4]
          have e : nx σ'.t = nx σ.t := by rw [hs.ht]; exact nx_app _ _ hn (starts_tail hq)
          rw [e]
          split at h
          · rename_i c5
            rw [if_pos c5]
            injection h with h; injection h with h1 h2; subst h1 h2
            exact ⟨_, rfl, hs.adv h1l⟩
          · rename_i c5
            rw [if_neg c5]
            split at h
            · rename_i c6
              rw [if_pos c6]
              injection h with h; injection h with h1 h2; subst h1 h2
              exact ⟨_, rfl, hs.adv h1l⟩
            · rename_i c6
              rw [if_neg c6]
              split at h
              · rename_i c7
                rw [if_pos c7]
                injection h with h; injection h with h1 h2; subst h1 h2
                exact ⟨_, rfl, hs.adv h1l⟩
              · rename_i c7
                rw [if_neg c7]
                injection h with h; injection h with h1 h2; subst h1 h2
                exact ⟨_, rfl, hs.adv (nx_le _ hn).2.2⟩

theorem dig_iff (c : Nat) : dig c = true ↔ 48 ≤ c ∧ c ≤ 57 := by simp [dig]
theorem dig_no {c : Nat} (h : c < 48) : dig c = false := by simp [dig]; omega
theorem num_sim (hq : Tail q) (t : List UInt8) : numOf (t ++ q) = numOf t ∧ numLen (t ++ q) = numLen t ∧ numOk (t ++ q) = numOk t ∧ numLen t ≤ t.length := by
  have hq0 : dig (at_ q 0) = false := dig_no (by rcases at_tail0 hq with e | e <;> omega)
  match t with
  | [] =>
    have e0 : dig (at_ ([] : List UInt8) 0) = false := dig_no (by rw [at_nil]; omega)
    simp only [List.nil_append, numOk, numOf, numLen, hq0, e0, Bool.false_and]
    simp
  | [a] =>
    have e0 : at_ ([a] ++ q) 0 = at_ [a] 0 := rfl
    have e1 : at_ ([a] ++ q) 1 = at_ q 0 := by rw [at_app_r (by simp)]; rfl
    have e2 : dig (at_ [a] 1) = false := dig_no (by rw [at_out (by simp)]; omega)
    unfold numOk numOf numLen
    rw [e0, e1, hq0, e2]
    refine ⟨rfl, rfl, rfl, ?_⟩
    split <;> simp
  | a :: b :: r =>
    have e0 : at_ (a :: b :: r ++ q) 0 = at_ (a :: b :: r) 0 := rfl
    have e1 : at_ (a :: b :: r ++ q) 1 = at_ (a :: b :: r) 1 := rfl
    unfold numOk numOf numLen
    rw [e0, e1]
    refine ⟨rfl, rfl, rfl, ?_⟩
    split
    · split <;> simp
    · simp
theorem numLen_le (t : List UInt8) : numLen t ≤ t.length := (num_sim (.inl rfl) t).2.2.2
theorem Sim.num (hs : Sim γ B q σ σ') (hq : Tail q) : numOf σ'.t = numOf σ.t ∧ numLen σ'.t = numLen σ.t ∧ numOk σ'.t = numOk σ.t := by
  obtain ⟨a, b, c, _⟩ := num_sim hq σ.t
  rw [hs.ht]
  exact ⟨a, b, c⟩

theorem braces_sim {x : Int × Int} (h : braces σ = some (x, σ1)) (hc : at_ σ.t 0 ≠ 0) (hq : Tail q) (hs : Sim γ B q σ σ') : ∃ σ1', braces σ' = some (x, σ1') ∧ Sim γ B q σ1 σ1' := by
  have hs1 := hs.adv (n := 1) (len_ne (at_ne hc))
  obtain ⟨n1, n2, n3⟩ := hs1.num hq
  have hs2 := hs1.adv (numLen_le (σ.adv 1).t)
  unfold braces at h ⊢
  simp only [n1, n2, n3]
  have hs2' : Sim γ B q ((σ.adv 1).adv (numLen (σ.adv 1).t)) ((σ'.adv 1).adv (numLen (σ.adv 1).t)) := hs2
  have hp := hs2'.pre hq [44, 125] (by decide)
  have e44 := hs2'.at_ hq (c := 44) (by omega) (by omega)
  have e125 := hs2'.at_ hq (c := 125) (by omega) (by omega)
  rw [hp]
  split at h
  · rename_i c1
    rw [if_pos c1]
    split at h
    · rename_i c2
      rw [if_pos c2]
      injection h with h; injection h with h1 h2; subst h1 h2
      exact ⟨_, rfl, hs2'.adv (pre_len c2)⟩
    · rename_i c2
      rw [if_neg c2]
      split at h
      · rename_i c3
        rw [if_pos (e44.2 c3)]
        have hs3 := hs2'.adv (n := 1) (len_ne (at_ne (by omega)))
        obtain ⟨m1, m2, m3⟩ := hs3.num hq
        have hs4 := hs3.adv (numLen_le _)
        have e4 := hs4.at_ hq (c := 125) (by omega) (by omega)
        simp only [m1, m2, m3, e4]
        split at h
        · rename_i c4
          rw [if_pos c4]
          simp only [Bool.and_eq_true, decide_eq_true_eq] at c4
          injection h with h; injection h with h1 h2; subst h1 h2
          exact ⟨_, rfl, hs4.adv (len_ne (at_ne (by omega)))⟩
        · cases h
      · rename_i c3
        rw [if_neg (fun x => c3 (e44.1 x))]
        split at h
        · rename_i c4
          rw [if_pos (e125.2 c4)]
          injection h with h; injection h with h1 h2; subst h1 h2
          exact ⟨_, rfl, hs2'.adv (len_ne (at_ne (by omega)))⟩
        · cases h
  · cases h
theorem times_sim {x : Int × Int} (h : times σ = some (x, σ1)) (hn : σ.t ≠ []) (hc : at_ σ.t 0 ≠ 0) (hq : Tail q) (hs : Sim γ B q σ σ') : ∃ σ1', times σ' = some (x, σ1') ∧ Sim γ B q σ1 σ1' := by
  have h1l := len_ne hn
  unfold times at h ⊢
  rw [hs.at0 hn]
  split at h
  · rename_i c
    rw [if_pos c]
    injection h with h; injection h with h1 h2; subst h1 h2
    exact ⟨_, rfl, hs.adv h1l⟩
  · rename_i c
    rw [if_neg c]
    split at h
    · rename_i c
      rw [if_pos c]
      injection h with h; injection h with h1 h2; subst h1 h2
      exact ⟨_, rfl, hs.adv h1l⟩
    · rename_i c
      rw [if_neg c]
      split at h
      · rename_i c
        rw [if_pos c]
        injection h with h; injection h with h1 h2; subst h1 h2
        exact ⟨_, rfl, hs.adv h1l⟩
      · rename_i c
        rw [if_neg c]
        exact braces_sim h hc hq hs
theorem isQ_zero : isQ 0 = false := by decide
theorem isQ_sim (hs : Sim γ B q σ σ') (hq : Tail q) : isQ (at_ σ'.t 0) = isQ (at_ σ.t 0) := by
  by_cases hn : σ.t = []
  · rw [hs.ht, hn, List.nil_append, at_nil, isQ_zero]
    rcases at_tail0 hq with e | e <;> rw [e] <;> decide
  · rw [hs.at0 hn]
theorem mode_sim (hs : Sim γ B q σ σ') (hq : Tail q) : modeOf σ'.t = modeOf σ.t ∧ Sim γ B q (behindMode σ) (behindMode σ') := by
  have e1 := hs.at_ hq (c := 63) (by omega) (by omega)
  have e2 := hs.at_ hq (c := 43) (by omega) (by omega)
  have e : modeOf σ'.t = modeOf σ.t := by unfold modeOf; simp only [e1, e2]
  refine ⟨e, ?_⟩
  unfold behindMode
  rw [e]
  split
  · exact hs
  · rename_i c
    refine hs.adv (len_ne ?_)
    intro h0
    rw [h0] at c
    exact c (by simp [modeOf, at_nil])
theorem quantRest_sim {gr : Bool} {a r : Nd} (h : quantRest gr a σ = .ok (r, σ1)) (hq : Tail q) (hs : Sim γ B q σ σ') : ∃ σ1', quantRest gr a σ' = .ok (r, σ1') ∧ Sim γ B q σ1 σ1' := by
  unfold quantRest at h ⊢
  rw [isQ_sim hs hq]
  split at h
  · rename_i c
    rw [if_pos c]
    have hc : at_ σ.t 0 ≠ 0 := by intro e; rw [e, isQ_zero] at c; cases c
    split at h
    · cases h
    · rename_i c2
      rw [if_neg c2]
      split at h
      · cases h
      · rename_i lo hi σa ht
        obtain ⟨σa', ht', hs1⟩ := times_sim ht (at_ne hc) hc hq hs
        simp only [ht']
        obtain ⟨e, hs2⟩ := mode_sim hs1 hq
        rw [e]
        injection h with h; injection h with h1 h2; subst h1 h2
        exact ⟨_, rfl, hs2⟩
  · rename_i c
    rw [if_neg c]
    injection h with h; injection h with h1 h2; subst h1 h2
    exact ⟨_, rfl, hs⟩

theorem opening_sim {sh : Int × Int × Int} (h : opening σ = .ok (sh, σ1)) (hc : at_ σ.t 0 = 40) (hq : Tail q) (hγ : γ = 0 ∨ σ1.g = σ.g) (hs : Sim γ B q σ σ') : ∃ σ1', opening σ' = .ok (sh, σ1') ∧ Sim γ B q σ1 σ1' := by
  have h1l := len_ne (at_ne (t := σ.t) (by omega))
  unfold opening at h ⊢
  rw [hs.pre hq [40, 63, 58] (by decide), hs.pre hq [40, 63, 61] (by decide), hs.pre hq [40, 63, 33] (by decide), hs.pre hq [40, 63, 60, 61] (by decide), hs.pre hq [40, 63, 60, 33] (by decide), hs.pre hq [40, 63, 62] (by decide), hs.pre hq [40, 63] (by decide)]
  split at h
  · rename_i c
    rw [if_pos c]
    injection h with h; injection h with h1 h2; subst h1 h2
    exact ⟨_, rfl, hs.adv (pre_len c)⟩
  rename_i c
  rw [if_neg c]
  split at h
  · rename_i c
    rw [if_pos c]
    injection h with h; injection h with h1 h2; subst h1 h2
    exact ⟨_, rfl, hs.adv (pre_len c)⟩
  rename_i c
  rw [if_neg c]
  split at h
  · rename_i c
    rw [if_pos c]
    injection h with h; injection h with h1 h2; subst h1 h2
    exact ⟨_, rfl, hs.adv (pre_len c)⟩
  rename_i c
  rw [if_neg c]
  split at h
  · rename_i c
    rw [if_pos c]
    injection h with h; injection h with h1 h2; subst h1 h2
    exact ⟨_, rfl, hs.adv (pre_len c)⟩
  rename_i c
  rw [if_neg c]
  split at h
  · rename_i c
    rw [if_pos c]
    injection h with h; injection h with h1 h2; subst h1 h2
    exact ⟨_, rfl, hs.adv (pre_len c)⟩
  rename_i c
  rw [if_neg c]
  split at h
  · rename_i c
    rw [if_pos c]
    injection h with h; injection h with h1 h2; subst h1 h2
    exact ⟨_, rfl, hs.adv (pre_len c)⟩
  rename_i c
  rw [if_neg c]
  split at h
  · cases h
  rename_i c
  rw [if_neg c]
  split at h
  · cases h
  rename_i c
  injection h with h; injection h with h1 h2; subst h1 h2
  have hγ0 : γ = 0 := by
    rcases hγ with h | h
    · exact h
    · simp [opened] at h
  subst hγ0
  have eg : σ'.g = σ.g := hs.hg
  rw [eg, if_neg c]
  refine ⟨_, rfl, ?_, ?_, hs.hb⟩
  · simp only [opened]
    rw [hs.ht, List.drop_append_of_le_length h1l]
  · simp only [opened, eg, Nat.add_zero]

end Go.Proofs.YthipgidddgdojaaDoor
