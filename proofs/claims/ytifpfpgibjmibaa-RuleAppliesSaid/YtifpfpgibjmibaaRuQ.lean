/- Of layer 7, without a program: what comes of deltas. -/
import Derived.Test.YtifpfpgibjmibaaRuP
namespace Go.Proofs.Ytifpfpgibjmibaa

theorem mem_puts : ∀ {p l : List Ru} {x : Ru}, (p.map Ru.id).Nodup → (x ∈ puts l p ↔ x ∈ p ∨ (x ∈ l ∧ x.id ∉ p.map Ru.id))
  | [], l, x, _ => by simp [puts]
  | r :: p, l, x, h => by
    obtain ⟨h1, h2⟩ := List.nodup_cons.1 h
    show x ∈ puts (ins r l) p ↔ _
    rw [mem_puts h2, mem_ins]
    simp only [List.mem_cons, List.map_cons, not_or]
    constructor
    · rintro (h | ⟨rfl | ⟨h3, h4⟩, h5⟩)
      · exact .inl (.inr h)
      · exact .inl (.inl rfl)
      · exact .inr ⟨h3, h4, h5⟩
    · rintro ((rfl | h) | ⟨h3, h4, h5⟩)
      · exact .inr ⟨.inl rfl, h1⟩
      · exact .inl h
      · exact .inr ⟨.inr ⟨h3, h4⟩, h5⟩
theorem mem_drops {l : List Ru} {ids : List Int} {x : Ru} : x ∈ drops l ids ↔ x ∈ l ∧ x.id ∉ ids := by simp [drops]
theorem mem_gone {l : List Ru} {i : Int} {x : Ru} : x ∈ gone i l ↔ x ∈ l ∧ x.id ≠ i := by simp [gone]
theorem gone_len {i : Int} : ∀ {l : List Ru}, Rise l → (gone i l).length + (if i ∈ l.map Ru.id then 1 else 0) = l.length
  | [], _ => rfl
  | x :: l, h => by
    obtain ⟨a1, a2⟩ := List.pairwise_cons.1 h
    have ih := gone_len (i := i) a2
    by_cases e : x.id = i
    · have hn : i ∉ l.map Ru.id := fun hm => by
        obtain ⟨y, hy, e'⟩ := List.mem_map.1 hm
        have := a1 y hy
        omega
      rw [if_neg hn] at ih
      have g : gone i (x :: l) = gone i l := by simp [gone, e]
      rw [g, if_pos (by simp [e])]
      simp only [List.length_cons]
      omega
    · have g : gone i (x :: l) = x :: gone i l := by simp [gone, e]
      rw [g]
      have : (i ∈ (x :: l).map Ru.id) ↔ i ∈ l.map Ru.id := by
        simp only [List.map_cons, List.mem_cons]
        constructor
        · rintro (h | h)
          · exact absurd h.symm e
          · exact h
        · exact .inr
      simp only [this, List.length_cons]
      omega
theorem gone_split {r : Ru} (l : List Ru) : (l.filter fun x => decide (x.id < r.id)).length + (l.filter fun x => decide (r.id < x.id)).length = (gone r.id l).length := by
  induction l with
  | nil => rfl
  | cons x l ih =>
    unfold gone at ih ⊢
    rcases Int.lt_trichotomy x.id r.id with h | h | h
    · have h1 : ¬ r.id < x.id := by omega
      have h2 : x.id ≠ r.id := by omega
      simp [h, h1, h2] at ih ⊢
      omega
    · have h1 : ¬ r.id < x.id := by omega
      have h2 : ¬ x.id < r.id := by omega
      simp [h] at ih ⊢
      omega
    · have h1 : ¬ x.id < r.id := by omega
      have h2 : x.id ≠ r.id := by omega
      simp [h, h1, h2] at ih ⊢
      omega
theorem ins_length {r : Ru} {l : List Ru} (h : Rise l) : (ins r l).length + (if r.id ∈ l.map Ru.id then 1 else 0) = l.length + 1 := by
  have h1 := gone_split (r := r) l
  have h2 := gone_len (i := r.id) h
  unfold ins
  rw [List.length_append, List.length_cons]
  omega
theorem orK_neg (n : Int) : orK (-1) n = n := by simp [orK]
theorem rise_nodup {l : List Ru} (h : Rise l) : (l.map Ru.id).Nodup := List.pairwise_map.2 (h.imp fun h => by omega)
theorem look_mem {l : List Ru} (h : Rise l) {x : Ru} (hx : x ∈ l) : look l x.id = x := by
  unfold look
  cases hf : l.find? fun y => decide (y.id = x.id) with
  | none => have := List.find?_eq_none.1 hf x hx; simp at this
  | some y =>
    have h1 := List.mem_of_find?_eq_some hf
    have h2 : y.id = x.id := by simpa using List.find?_some hf
    exact rise_inj h h1 hx h2

/-- when a change is taken -/
structure Taken (s : RS) (d : Dl) : Prop where
  ok : s.Ok
  num : (nums s d).num = true
  put : ∀ r ∈ d.put, r.ok = true
  once : d.ids.Nodup
  drop : ∀ i ∈ d.drop, i ∈ s.rs.map Ru.id
  few : (after s d).length ≤ 16
theorem taken_eq {s : RS} {d : Dl} (h : Taken s d) : applyM s d = ({ nums s d with rs := after s d }, 0) := by
  obtain ⟨h1, h2, h3, h4, h5, h6⟩ := h
  unfold applyM
  rw [if_neg (by simpa using h1), if_neg (by
    rintro (h | ⟨r, hr, h⟩)
    · rw [h2] at h; cases h
    · rw [h3 r hr] at h; cases h), if_neg (by simpa using h4), if_neg (fun ⟨i, a, b⟩ => b (h5 i a)), if_neg (by omega)]
theorem taken_iff {s : RS} {d : Dl} : (applyM s d).2 = 0 ↔ Taken s d := by
  constructor
  · intro h
    unfold applyM at h
    by_cases h1 : s.Ok
    · rw [if_neg (by simpa using h1)] at h
      by_cases h2 : (nums s d).num = false ∨ ∃ r ∈ d.put, r.ok = false
      · rw [if_pos h2] at h; exact absurd h (by decide)
      · rw [if_neg h2] at h
        by_cases h3 : d.ids.Nodup
        · rw [if_neg (by simpa using h3)] at h
          by_cases h4 : ∃ i ∈ d.drop, i ∉ s.rs.map Ru.id
          · rw [if_pos h4] at h; exact absurd h (by decide)
          · rw [if_neg h4] at h
            by_cases h5 : 16 < (after s d).length
            · rw [if_pos h5] at h; exact absurd h (by decide)
            · refine ⟨h1, ?_, fun r hr => ?_, h3, fun i hi => ?_, by omega⟩
              · cases hn : (nums s d).num with
                | true => rfl
                | false => exact absurd (.inl hn) h2
              · cases hn : r.ok with
                | true => rfl
                | false => exact absurd (.inr ⟨r, hr, hn⟩) h2
              · exact Classical.byContradiction fun hn => h4 ⟨i, hi, hn⟩
        · rw [if_pos (by simpa using h3)] at h; exact absurd h (by decide)
    · rw [if_pos h1] at h; exact absurd h (by decide)
  · intro h
    rw [taken_eq h]
theorem after_rise {s : RS} {d : Dl} (h : s.Ok) : Rise (after s d) := (h.2.2.2.drops _).puts _
theorem Taken.put_nodup {s : RS} {d : Dl} (h : Taken s d) : (d.put.map Ru.id).Nodup := (List.nodup_append.1 h.once).1
theorem mem_after {s : RS} {d : Dl} (h : Taken s d) {x : Ru} : x ∈ after s d ↔ x ∈ d.put ∨ (x ∈ s.rs ∧ x.id ∉ d.drop ∧ x.id ∉ d.put.map Ru.id) := by
  unfold after
  rw [mem_puts h.put_nodup, mem_drops, and_assoc]
/-- what comes of a change is right -/
theorem Taken.right {s : RS} {d : Dl} (h : Taken s d) : RS.Ok { nums s d with rs := after s d } := by
  refine ⟨h.num, h.few, fun r hr => ?_, after_rise h.ok⟩
  rcases (mem_after h).1 hr with h' | ⟨h', _⟩
  · exact h.put r h'
  · exact h.ok.2.2.1 r h'

/-! ### RuleKeeps -/
def dNone : Dl := ⟨-1, -1, -1, -1, [], []⟩
theorem num_none {s : RS} {p : List Ru} {q : List Int} : nums s ⟨-1, -1, -1, -1, p, q⟩ = { s with rs := [] } := by simp [nums, orK]
theorem keeps_none {s : RS} (h : s.Ok) : applyM s ⟨-1, -1, -1, -1, [], []⟩ = (s, 0) := by
  have e : after s ⟨-1, -1, -1, -1, [], []⟩ = s.rs := by simp [after, drops, puts]
  rw [taken_eq ⟨h, by rw [num_none]; exact h.1, by simp, by simp [Dl.ids], by simp, by rw [e]; exact h.2.1⟩, num_none, e]
theorem keeps_put {s : RS} (h : s.Ok) : applyM s ⟨-1, -1, -1, -1, s.rs, []⟩ = (s, 0) := by
  have e : after s ⟨-1, -1, -1, -1, s.rs, []⟩ = s.rs := by
    refine rise_ext (after_rise h) h.2.2.2 fun x => ?_
    unfold after
    rw [mem_puts (rise_nodup h.2.2.2)]
    constructor
    · rintro (h | ⟨h1, _⟩)
      · exact h
      · exact (mem_drops.1 h1).1
    · exact .inl
  rw [taken_eq ⟨h, by rw [num_none]; exact h.1, h.2.2.1, by simpa [Dl.ids] using rise_nodup h.2.2.2, by simp, by rw [e]; exact h.2.1⟩, num_none, e]

end Go.Proofs.Ytifpfpgibjmibaa
