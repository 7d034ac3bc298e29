/- Plain mathematics of sets of numbers: lists of ranges; normal lists; what they have; how many numbers they have. Of no program. -/
namespace Go.Proofs.YthipgidddgdojaaDoor.Cl

abbrev Rg := Int × Int

/-- A range is right. -/
def Rt (r : Rg) : Prop := 0 ≤ r.1 ∧ r.1 ≤ r.2 ∧ r.2 ≤ 1114367
def rightB (r : Rg) : Bool := decide (0 ≤ r.1 ∧ r.1 ≤ r.2 ∧ r.2 ≤ 1114367)
theorem rightB_iff (r : Rg) : rightB r = true ↔ Rt r := by simp [rightB, Rt]
def inB (r : Rg) (u : Int) : Bool := decide (r.1 ≤ u ∧ u ≤ r.2)
def hasB (l : List Rg) (u : Int) : Bool := l.any fun r => inB r u
theorem hasB_nil (u : Int) : hasB [] u = false := rfl
theorem hasB_cons (r : Rg) (l : List Rg) (u : Int) : hasB (r :: l) u = (inB r u || hasB l u) := rfl
theorem hasB_append (a b : List Rg) (u : Int) : hasB (a ++ b) u = (hasB a u || hasB b u) := by simp [hasB]
theorem hasB_iff (l : List Rg) (u : Int) : hasB l u = true ↔ ∃ r ∈ l, r.1 ≤ u ∧ u ≤ r.2 := by simp [hasB, inB]
theorem inB_iff (r : Rg) (u : Int) : inB r u = true ↔ r.1 ≤ u ∧ u ≤ r.2 := by simp [inB]
theorem hasB_perm {a b : List Rg} (h : a.Perm b) (u : Int) : hasB a u = hasB b u := by
  rw [Bool.eq_iff_iff, hasB_iff, hasB_iff]
  exact ⟨fun ⟨r, hr, hu⟩ => ⟨r, h.mem_iff.1 hr, hu⟩, fun ⟨r, hr, hu⟩ => ⟨r, h.mem_iff.2 hr, hu⟩⟩

/-- A normal set. -/
def Norm (l : List Rg) : Prop := (∀ r ∈ l, Rt r) ∧ l.Pairwise fun a b => a.2 + 2 ≤ b.1
theorem norm_nil : Norm [] := ⟨by simp, List.Pairwise.nil⟩
theorem norm_cons {r : Rg} {l : List Rg} : Norm (r :: l) ↔ Rt r ∧ (∀ s ∈ l, r.2 + 2 ≤ s.1) ∧ Norm l := by
  simp only [Norm, List.mem_cons, forall_eq_or_imp, List.pairwise_cons]
  exact ⟨fun ⟨⟨a, b⟩, c, d⟩ => ⟨a, c, b, d⟩, fun ⟨a, c, b, d⟩ => ⟨⟨a, b⟩, c, d⟩⟩

/-- .. told place by place. -/
def okAt (l : List Rg) (k : Nat) : Prop := ∀ r, l[k]? = some r → Rt r ∧ ∀ s, 0 < k → l[k - 1]? = some s → s.2 + 2 ≤ r.1
theorem okAt_cons_succ {r : Rg} {l : List Rg} (h : ∀ k, okAt (r :: l) k) : ∀ k, okAt l k := by
  intro k x hx
  have := h (k + 1) x (by simpa using hx)
  refine ⟨this.1, fun s hk hs => this.2 s (by omega) ?_⟩
  obtain ⟨m, rfl⟩ : ∃ m, k = m + 1 := ⟨k - 1, by omega⟩
  simpa using hs
theorem norm_of_ok : ∀ (l : List Rg), (∀ k, okAt l k) → Norm l
  | [], _ => norm_nil
  | r :: l, h => by
    have hl := norm_of_ok l (okAt_cons_succ h)
    have hr := (h 0 r rfl).1
    refine norm_cons.2 ⟨hr, ?_, hl⟩
    match l, h, hl with
    | [], _, _ => simp
    | s :: t, h, hl =>
      have h1 := (h 1 s rfl).2 r (by omega) rfl
      have h2 := norm_cons.1 hl
      intro x hx
      rcases List.mem_cons.1 hx with rfl | hx
      · exact h1
      · have := h2.2.1 x hx
        have := h2.1
        unfold Rt at this
        omega
theorem ok_of_norm : ∀ {l : List Rg}, Norm l → ∀ k, okAt l k
  | [], _, k => by intro r h; simp at h
  | r :: l, h, k => by
    obtain ⟨h1, h2, h3⟩ := norm_cons.1 h
    intro x hx
    match k, hx with
    | 0, hx =>
      simp at hx
      subst hx
      exact ⟨h1, fun s h => absurd h (by omega)⟩
    | k + 1, hx =>
      simp at hx
      have hk := ok_of_norm h3 k x hx
      refine ⟨hk.1, fun s _ hs => ?_⟩
      match k, hs, hx with
      | 0, hs, hx =>
        simp at hs
        subst hs
        exact h2 x (List.mem_of_getElem? hx)
      | k + 1, hs, hx =>
        simp at hs
        exact hk.2 s (by omega) (by simpa using hs)
open Classical in
noncomputable def normB (l : List Rg) : Bool := decide (Norm l)
theorem normB_true {l : List Rg} (h : Norm l) : normB l = true := by simp [normB, h]
theorem normB_false {l : List Rg} (h : ¬ Norm l) : normB l = false := by simp [normB, h]

theorem norm_low {r : Rg} {l : List Rg} {u : Int} (h : Norm (r :: l)) (hu : hasB l u = true) : r.2 + 2 ≤ u := by
  obtain ⟨s, hs, hu⟩ := (hasB_iff _ _).1 hu
  have := (norm_cons.1 h).2.1 s hs
  omega
theorem norm_first {r : Rg} {l : List Rg} {u : Int} (h : Norm (r :: l)) (hu : hasB (r :: l) u = true) : r.1 ≤ u := by
  rw [hasB_cons, Bool.or_eq_true, inB_iff] at hu
  have h1 := (norm_cons.1 h).1
  unfold Rt at h1
  rcases hu with hu | hu
  · omega
  · have := norm_low h hu
    omega
theorem norm_has_first {r : Rg} {l : List Rg} (h : Norm (r :: l)) : hasB (r :: l) r.1 = true ∧ hasB (r :: l) r.2 = true := by
  have h1 := (norm_cons.1 h).1
  unfold Rt at h1
  rw [hasB_cons, hasB_cons]
  simp [inB]
  omega

/-- Two normal sets that have the same numbers are the same. -/
theorem norm_ext : ∀ {a b : List Rg}, Norm a → Norm b → (∀ u, hasB a u = hasB b u) → a = b
  | [], [], _, _, _ => rfl
  | [], s :: b, _, hb, h => by have := h s.1; rw [(norm_has_first hb).1, hasB_nil] at this; cases this
  | r :: a, [], ha, _, h => by have := h r.1; rw [(norm_has_first ha).1, hasB_nil] at this; cases this
  | r :: a, s :: b, ha, hb, h => by
    have ra := (norm_cons.1 ha).1
    have rb := (norm_cons.1 hb).1
    unfold Rt at ra rb
    have h1 : s.1 ≤ r.1 := norm_first hb (by rw [← h]; exact (norm_has_first ha).1)
    have h2 : r.1 ≤ s.1 := norm_first ha (by rw [h]; exact (norm_has_first hb).1)
    have h3 : s.2 ≤ r.2 := by
      refine Decidable.byContradiction fun hn => ?_
      have := h (r.2 + 1)
      rw [hasB_cons s, (inB_iff s _).2 (by omega), Bool.true_or, hasB_cons, Bool.or_eq_true, inB_iff] at this
      rcases this with this | this
      · omega
      · have := norm_low ha this
        omega
    have h4 : r.2 ≤ s.2 := by
      refine Decidable.byContradiction fun hn => ?_
      have := h (s.2 + 1)
      rw [hasB_cons r, (inB_iff r _).2 (by omega), Bool.true_or, eq_comm, hasB_cons, Bool.or_eq_true, inB_iff] at this
      rcases this with this | this
      · omega
      · have := norm_low hb this
        omega
    obtain rfl : r = s := Prod.ext (by omega) (by omega)
    have := norm_ext (norm_cons.1 ha).2.2 (norm_cons.1 hb).2.2 (fun u => by
      have hu := h u
      rw [hasB_cons, hasB_cons] at hu
      by_cases hi : inB r u = true
      · rw [inB_iff] at hi
        have e1 : hasB a u = false := Bool.eq_false_iff.2 fun e => by have := norm_low ha e; omega
        have e2 : hasB b u = false := Bool.eq_false_iff.2 fun e => by have := norm_low hb e; omega
        rw [e1, e2]
      · rw [Bool.not_eq_true] at hi
        simpa [hi] using hu)
    rw [this]

/-! ### How many numbers -/
def cnt (p : Int → Bool) : Nat → Int
  | 0 => 0
  | n + 1 => cnt p n + if p (n : Int) then 1 else 0
theorem cnt_congr {p q : Int → Bool} (h : ∀ u, p u = q u) : ∀ n, cnt p n = cnt q n
  | 0 => rfl
  | n + 1 => by rw [cnt, cnt, cnt_congr h n, h]
theorem cnt_or_and (p q : Int → Bool) : ∀ n, cnt (fun u => p u || q u) n + cnt (fun u => p u && q u) n = cnt p n + cnt q n
  | 0 => rfl
  | n + 1 => by
    have := cnt_or_and p q n
    simp only [cnt]
    by_cases hp : p (n : Int) = true <;> by_cases hq : q (n : Int) = true <;> simp [hp, hq] <;> omega
theorem cnt_none : ∀ n, cnt (fun _ => false) n = 0
  | 0 => rfl
  | n + 1 => by rw [cnt, cnt_none n]; rfl
theorem cnt_not (p : Int → Bool) : ∀ n, cnt p n + cnt (fun u => !p u) n = n
  | 0 => rfl
  | n + 1 => by
    have := cnt_not p n
    simp only [cnt]
    by_cases hp : p (n : Int) = true <;> simp [hp] <;> omega
theorem cnt_inside (lo hi : Int) (h0 : 0 ≤ lo) (h1 : lo ≤ hi) : ∀ (n : Nat), cnt (inB (lo, hi)) n = max 0 (min (n : Int) (hi + 1) - lo)
  | 0 => by simp [cnt]; omega
  | n + 1 => by
    rw [cnt, cnt_inside lo hi h0 h1 n]
    by_cases h : inB (lo, hi) (n : Int) = true
    · rw [if_pos h]
      rw [inB_iff] at h
      simp only at h
      omega
    · rw [if_neg h]
      rw [inB_iff] at h
      simp only at h
      omega
/-- The sum of the ranges' lengths. -/
def total (l : List Rg) : Int := (l.map fun r => r.2 - r.1 + 1).sum
theorem total_cons (r : Rg) (l : List Rg) : total (r :: l) = r.2 - r.1 + 1 + total l := by simp [total]
theorem total_snoc (l : List Rg) (r : Rg) : total (l ++ [r]) = total l + (r.2 - r.1 + 1) := by simp [total]
theorem total_nil : total [] = 0 := rfl
theorem total_bound : ∀ (l : List Rg), (∀ r ∈ l, Rt r) → 0 ≤ total l ∧ total l ≤ 1114368 * l.length
  | [], _ => by simp [total]
  | r :: l, h => by
    have h1 := total_bound l fun x hx => h x (List.mem_cons_of_mem _ hx)
    have h2 := h r (List.mem_cons_self ..)
    unfold Rt at h2
    rw [total_cons, List.length_cons]
    omega
/-- A normal set's sum is how many numbers it has. -/
theorem total_cnt (N : Nat) (hN : 1114368 ≤ (N : Int)) : ∀ {l : List Rg}, Norm l → total l = cnt (hasB l) N
  | [], _ => by rw [cnt_congr (p := hasB []) (q := fun _ => false) (fun _ => rfl), cnt_none]; rfl
  | r :: l, h => by
    obtain ⟨h1, _, h3⟩ := norm_cons.1 h
    unfold Rt at h1
    have hl := total_cnt N hN h3
    have hi := cnt_inside r.1 r.2 h1.1 h1.2.1 N
    have ho := cnt_or_and (inB r) (hasB l) N
    have hz : cnt (fun u => inB r u && hasB l u) N = 0 := by
      rw [cnt_congr (q := fun _ => false), cnt_none]
      intro u
      rw [Bool.and_eq_false_iff]
      by_cases hu : hasB l u = true
      · left
        have := norm_low h hu
        exact Bool.eq_false_iff.2 fun e => by rw [inB_iff] at e; omega
      · right
        simpa using hu
    rw [total_cons, hl, cnt_congr (p := hasB (r :: l)) (q := fun u => inB r u || hasB l u) (fun _ => rfl)]
    have e : cnt (inB r) N = r.2 - r.1 + 1 := by
      rw [show inB r = inB (r.1, r.2) from rfl, hi]
      omega
    omega

/-! ### What a set hasn't -/
def gaps : Int → List Rg → List Rg
  | from_, [] => if from_ ≤ 1114367 then [(from_, 1114367)] else []
  | from_, r :: l => (if from_ < r.1 then [(from_, r.1 - 1)] else []) ++ gaps (r.2 + 1) l
theorem gaps_ok : ∀ (l : List Rg) (f : Int), 0 ≤ f → Norm l → (∀ r ∈ l, f ≤ r.1) →
    Norm (gaps f l) ∧ (∀ g ∈ gaps f l, f ≤ g.1) ∧ ∀ u, hasB (gaps f l) u = (decide (f ≤ u ∧ u ≤ 1114367) && !hasB l u)
  | [], f, h0, _, _ => by
    unfold gaps
    split
    · refine ⟨norm_cons.2 ⟨by unfold Rt; simp only; omega, by simp, norm_nil⟩, by simp, fun u => ?_⟩
      simp [hasB, inB]
    · refine ⟨norm_nil, by simp, fun u => ?_⟩
      simp [hasB]
      omega
  | r :: l, f, h0, hn, hf => by
    obtain ⟨h1, h2, h3⟩ := norm_cons.1 hn
    have hr := hf r (List.mem_cons_self ..)
    unfold Rt at h1
    obtain ⟨g1, g2, g3⟩ := gaps_ok l (r.2 + 1) (by omega) h3 (fun s hs => by have := h2 s hs; omega)
    have hh : ∀ u, hasB (gaps f (r :: l)) u = (decide (f ≤ u ∧ u ≤ 1114367) && !hasB (r :: l) u) := by
      intro u
      rw [gaps, hasB_append, g3, hasB_cons]
      have hlow : hasB l u = true → r.2 + 2 ≤ u := norm_low hn
      rw [Bool.eq_iff_iff]
      by_cases hu : hasB l u = true
      · have := hlow hu
        split <;> simp [hasB, inB] at * <;> grind
      · rw [Bool.not_eq_true] at hu
        simp only [hu, Bool.not_false, Bool.and_true, Bool.or_false]
        split <;> simp [hasB, inB] <;> omega
    refine ⟨?_, ?_, hh⟩
    · rw [gaps]
      split
      · exact norm_cons.2 ⟨by unfold Rt; simp only; omega, fun s hs => by have := g2 s hs; simp only; omega, g1⟩
      · exact g1
    · intro g hg
      rw [gaps, List.mem_append] at hg
      rcases hg with hg | hg
      · split at hg
        · simp at hg
          subst hg
          simp
        · simp at hg
      · have := g2 g hg
        omega
theorem gaps_len : ∀ (l : List Rg) (f : Int), (gaps f l).length ≤ l.length + 1
  | [], f => by unfold gaps; split <;> simp
  | r :: l, f => by
    have := gaps_len l (r.2 + 1)
    rw [gaps]
    split <;> simp <;> omega

/-! ### What both have -/
def shr (r s : Rg) : Rg := (max r.1 s.1, min r.2 s.2)
def part (r s : Rg) : List Rg := if (shr r s).1 ≤ (shr r s).2 then [shr r s] else []
def ands : List Rg → List Rg → List Rg
  | [], _ => []
  | _ :: _, [] => []
  | r :: l, s :: o => part r s ++ if r.2 < s.2 then ands l (s :: o) else ands (r :: l) o
termination_by l o => l.length + o.length
theorem ands_nil_right (l : List Rg) : ands l [] = [] := by cases l <;> simp [ands]
theorem part_has (r s : Rg) (u : Int) : hasB (part r s) u = (inB r u && inB s u) := by
  unfold part shr
  rw [Bool.eq_iff_iff]
  split <;> simp [hasB, inB] at * <;> omega
theorem ands_ok : ∀ (l o : List Rg), Norm l → Norm o → Norm (ands l o) ∧ (∀ u, hasB (ands l o) u = (hasB l u && hasB o u))
  | [], o, _, _ => by simp [ands, norm_nil, hasB]
  | r :: l, [], _, _ => by simp [ands, norm_nil, hasB]
  | r :: l, s :: o, hl, ho => by
    obtain ⟨r1, r2, r3⟩ := norm_cons.1 hl
    obtain ⟨s1, s2, s3⟩ := norm_cons.1 ho
    unfold Rt at r1 s1
    -- the numbers of the rest, and that they lie behind the part
    have key : ∀ (R : List Rg), Norm R → (∀ u, hasB R u = if r.2 < s.2 then (hasB l u && hasB (s :: o) u) else (hasB (r :: l) u && hasB o u)) →
        Norm (part r s ++ R) ∧ ∀ u, hasB (part r s ++ R) u = (hasB (r :: l) u && hasB (s :: o) u) := by
      intro R hR hu
      refine ⟨?_, fun u => ?_⟩
      · unfold part
        split
        · rename_i hp
          refine norm_cons.2 ⟨by unfold Rt; simp only [shr] at hp ⊢; omega, fun x hx => ?_, hR⟩
          have hx1 : hasB R x.1 = true := (hasB_iff _ _).2 ⟨x, hx, by have := hR.1 x hx; unfold Rt at this; omega⟩
          rw [hu] at hx1
          simp only [shr] at hp ⊢
          split at hx1
          · rw [Bool.and_eq_true] at hx1
            have := norm_low hl hx1.1
            omega
          · rw [Bool.and_eq_true] at hx1
            have := norm_low ho hx1.2
            omega
        · exact hR
      · rw [hasB_append, part_has, hu]
        have a1 : hasB l u = true → r.2 + 2 ≤ u := norm_low hl
        have a2 : hasB o u = true → s.2 + 2 ≤ u := norm_low ho
        rw [hasB_cons, hasB_cons]
        rw [Bool.eq_iff_iff]
        simp only [inB] at *
        split <;> grind
    rw [ands]
    split
    · rename_i hlt
      have ih := ands_ok l (s :: o) r3 ho
      exact key _ ih.1 fun u => by rw [if_pos hlt]; exact ih.2 u
    · rename_i hlt
      have ih := ands_ok (r :: l) o hl s3
      exact key _ ih.1 fun u => by rw [if_neg hlt]; exact ih.2 u
termination_by l o => l.length + o.length
theorem ands_len : ∀ (l o : List Rg), (ands l o).length ≤ l.length + o.length
  | [], o => by simp [ands]
  | r :: l, [] => by simp [ands]
  | r :: l, s :: o => by
    have h1 := ands_len l (s :: o)
    have h2 := ands_len (r :: l) o
    rw [ands]
    have hp : (part r s).length ≤ 1 := by unfold part; split <;> simp
    split <;> simp at * <;> omega
termination_by l o => l.length + o.length

/-! ### Ranges that rise, put together -/
def merge : Rg → List Rg → List Rg
  | r, [] => [r]
  | r, n :: t => if r.2 + 1 < n.1 then r :: merge n t else merge (r.1, max r.2 n.2) t
def together : List Rg → List Rg
  | [] => []
  | r :: t => merge r t
theorem merge_ok : ∀ (t : List Rg) (r : Rg), Rt r → (∀ x ∈ t, Rt x) → (∀ x ∈ t, r.1 ≤ x.1) → t.Pairwise (fun a b => a.1 ≤ b.1) →
    Norm (merge r t) ∧ (∀ g ∈ merge r t, r.1 ≤ g.1) ∧ ∀ u, hasB (merge r t) u = (inB r u || hasB t u)
  | [], r, hr, _, _, _ => ⟨norm_cons.2 ⟨hr, by simp, norm_nil⟩, by simp [merge], fun u => by simp [merge, hasB]⟩
  | n :: t, r, hr, ht, hs, hp => by
    have hn := ht n (List.mem_cons_self ..)
    have hrn := hs n (List.mem_cons_self ..)
    rw [List.pairwise_cons] at hp
    rw [merge]
    split
    · rename_i hlt
      obtain ⟨a, b, c⟩ := merge_ok t n hn (fun x hx => ht x (List.mem_cons_of_mem _ hx)) hp.1 hp.2
      refine ⟨norm_cons.2 ⟨hr, fun x hx => by have := b x hx; omega, a⟩, fun g hg => ?_, fun u => by rw [hasB_cons, c, hasB_cons]⟩
      rcases List.mem_cons.1 hg with rfl | hg
      · omega
      · have := b g hg
        omega
    · rename_i hlt
      obtain ⟨a, b, c⟩ := merge_ok t (r.1, max r.2 n.2) (by unfold Rt at *; simp only; omega) (fun x hx => ht x (List.mem_cons_of_mem _ hx)) (fun x hx => by have := hp.1 x hx; simp only; omega) hp.2
      refine ⟨a, b, fun u => ?_⟩
      rw [c, hasB_cons, ← Bool.or_assoc]
      congr 1
      rw [Bool.eq_iff_iff]
      unfold Rt at *
      simp [inB]
      omega
theorem together_ok (l : List Rg) (hr : ∀ x ∈ l, Rt x) (hp : l.Pairwise fun a b => a.1 ≤ b.1) : Norm (together l) ∧ ∀ u, hasB (together l) u = hasB l u := by
  match l, hr, hp with
  | [], _, _ => exact ⟨norm_nil, fun _ => rfl⟩
  | r :: t, hr, hp =>
    rw [List.pairwise_cons] at hp
    obtain ⟨a, _, c⟩ := merge_ok t r (hr r (List.mem_cons_self ..)) (fun x hx => hr x (List.mem_cons_of_mem _ hx)) hp.1 hp.2
    exact ⟨a, fun u => by rw [together, c, hasB_cons]⟩
theorem merge_len : ∀ (t : List Rg) (r : Rg), (merge r t).length ≤ t.length + 1
  | [], r => by simp [merge]
  | n :: t, r => by
    have h1 := merge_len t n
    have h2 := merge_len t (r.1, max r.2 n.2)
    rw [merge]
    split <;> simp <;> omega
theorem together_len (l : List Rg) : (together l).length ≤ l.length := by
  cases l with
  | nil => simp [together]
  | cons r t => simpa [together] using merge_len t r

/-! ### Twins -/
def tw (u : Int) : Int := if 97 ≤ u ∧ u ≤ 122 then u - 32 else if 65 ≤ u ∧ u ≤ 90 then u + 32 else u
theorem tw_tw (u : Int) : tw (tw u) = u := by unfold tw; repeat' split
                                              all_goals omega
def tpart (r s : Rg) : List Rg := if (shr r s).1 ≤ (shr r s).2 then [(tw (shr r s).1, tw (shr r s).2)] else []
def lowR : Rg := (97, 122)
def uppR : Rg := (65, 90)
def twins (r : Rg) : List Rg := tpart r lowR ++ tpart r uppR
theorem tpart_len (r s : Rg) : (tpart r s).length ≤ 1 := by unfold tpart; split <;> simp
theorem twins_len (r : Rg) : (twins r).length ≤ 2 := by
  have h1 := tpart_len r lowR
  have h2 := tpart_len r uppR
  unfold twins
  simp only [List.length_append]
  omega
theorem twins_has (r : Rg) (u : Int) : (inB r u || hasB (twins r) u) = (inB r u || inB r (tw u)) := by
  rw [Bool.eq_iff_iff]
  simp only [twins, hasB_append, Bool.or_eq_true]
  have h1 : hasB (tpart r lowR) u = true ↔ (65 ≤ u ∧ u ≤ 90 ∧ r.1 ≤ u + 32 ∧ u + 32 ≤ r.2) := by
    unfold tpart shr lowR tw
    simp only [Int.max_def, Int.min_def]
    repeat' split
    all_goals simp only [hasB, inB, List.any_cons, List.any_nil, Bool.or_false, decide_eq_true_eq, Bool.false_eq_true, false_iff] at *
    all_goals omega
  have h2 : hasB (tpart r uppR) u = true ↔ (97 ≤ u ∧ u ≤ 122 ∧ r.1 ≤ u - 32 ∧ u - 32 ≤ r.2) := by
    unfold tpart shr uppR tw
    simp only [Int.max_def, Int.min_def]
    repeat' split
    all_goals simp only [hasB, inB, List.any_cons, List.any_nil, Bool.or_false, decide_eq_true_eq, Bool.false_eq_true, false_iff] at *
    all_goals omega
  rw [h1, h2, inB_iff, inB_iff]
  unfold tw
  repeat' split
  all_goals omega
theorem tpart_right (r s : Rg) (h : s = lowR ∨ s = uppR) : ∀ x ∈ tpart r s, Rt x := by
  intro x hx
  unfold tpart at hx
  split at hx
  · rename_i hle
    obtain rfl : x = _ := List.mem_singleton.1 hx
    unfold Rt tw shr at *
    simp only at *
    rcases h with rfl | rfl
    all_goals
      simp only [lowR, uppR] at *
      repeat' split
      all_goals omega
  · simp at hx
theorem twins_right (r : Rg) : ∀ x ∈ twins r, Rt x := by
  intro x hx
  unfold twins at hx
  rw [List.mem_append] at hx
  rcases hx with hx | hx
  · exact tpart_right r _ (.inl rfl) x hx
  · exact tpart_right r _ (.inr rfl) x hx
def folds (l : List Rg) : List Rg := l.flatMap twins
theorem folds_snoc (l : List Rg) (r : Rg) : folds (l ++ [r]) = folds l ++ twins r := by simp [folds]
theorem folds_len : ∀ (l : List Rg), (folds l).length ≤ 2 * l.length
  | [] => by simp [folds]
  | r :: l => by
    have h1 := folds_len l
    have h2 := twins_len r
    simp only [folds, List.flatMap_cons, List.length_append, List.length_cons] at *
    omega
theorem folds_right (l : List Rg) : ∀ x ∈ folds l, Rt x := by
  intro x hx
  obtain ⟨r, _, hx⟩ := List.mem_flatMap.1 hx
  exact twins_right r x hx
theorem folds_has : ∀ (l : List Rg) (u : Int), (hasB l u || hasB (folds l) u) = (hasB l u || hasB l (tw u))
  | [], u => rfl
  | r :: l, u => by
    have h1 := folds_has l u
    have h2 := twins_has r u
    have e : hasB (folds (r :: l)) u = (hasB (twins r) u || hasB (folds l) u) := by simp [folds, hasB_append]
    rw [e, hasB_cons, hasB_cons]
    revert h1 h2
    cases inB r u <;> cases inB r (tw u) <;> cases hasB l u <;> cases hasB l (tw u) <;> cases hasB (twins r) u <;> cases hasB (folds l) u <;> simp

end Go.Proofs.YthipgidddgdojaaDoor.Cl
