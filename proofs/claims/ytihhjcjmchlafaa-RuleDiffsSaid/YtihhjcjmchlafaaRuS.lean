/- Of layer 7, without a program: a rule that is put and dropped behind it. -/
import Derived.Test.YtihhjcjmchlafaaRuQ
namespace Go.Proofs.Ytihhjcjmchlafaa

theorem drop1_ok {s : RS} {x : Ru} (h : s.Ok) (hx : x.ok = true) (hf : (ins x s.rs).length ≤ 16) : applyM s ⟨-1, -1, -1, -1, [x], []⟩ = ({ s with rs := ins x s.rs }, 0) := by
  have e : after s ⟨-1, -1, -1, -1, [x], []⟩ = ins x s.rs := by simp [after, drops_nil, puts]
  rw [taken_eq ⟨h, by rw [num_none]; exact h.1, by simpa using hx, by simp [Dl.ids], by simp, by rw [e]; exact hf⟩, num_none, e]
theorem drop1_right {s : RS} {x : Ru} (h : s.Ok) (hx : x.ok = true) (hf : (ins x s.rs).length ≤ 16) : RS.Ok { s with rs := ins x s.rs } := by
  refine ⟨h.1, hf, fun r hr => ?_, Rise.ins h.2.2.2⟩
  rcases mem_ins.1 hr with rfl | ⟨h', _⟩
  · exact hx
  · exact h.2.2.1 r h'
theorem drop1_full {s : RS} {x : Ru} (h : s.Ok) (hx : x.ok = true) (hf : ¬ (ins x s.rs).length ≤ 16) : applyM s ⟨-1, -1, -1, -1, [x], []⟩ = (.zero, 33) ∧ x.id ∉ s.rs.map Ru.id ∧ s.rs.length = 16 := by
  have e : after s ⟨-1, -1, -1, -1, [x], []⟩ = ins x s.rs := by simp [after, drops_nil, puts]
  have hl := ins_length (r := x) h.2.2.2
  have h16 := h.2.1
  have hn : x.id ∉ s.rs.map Ru.id := fun hm => by
    rw [if_pos hm] at hl
    omega
  rw [if_neg hn] at hl
  refine ⟨?_, hn, by omega⟩
  unfold applyM
  rw [if_neg (by simpa using h), if_neg (by
    rintro (h' | ⟨r, hr, h'⟩)
    · rw [num_none] at h'; exact absurd (h.1.symm.trans h') (by decide)
    · simp only [List.mem_singleton] at hr
      subst hr
      rw [hx] at h'; cases h'), if_neg (by simp [Dl.ids]), if_neg (by simp), if_pos (by rw [e]; omega)]
theorem drops_one (l : List Ru) (i : Int) : drops l [i] = gone i l := by
  unfold drops gone
  apply List.filter_congr
  intro x _
  simp
theorem drop2_ok {s : RS} {i : Int} (h : s.Ok) (hi : i ∈ s.rs.map Ru.id) : applyM s ⟨-1, -1, -1, -1, [], [i]⟩ = ({ s with rs := gone i s.rs }, 0) := by
  have e : after s ⟨-1, -1, -1, -1, [], [i]⟩ = gone i s.rs := by simp [after, drops_one, puts]
  rw [taken_eq ⟨h, by rw [num_none]; exact h.1, by simp, by simp [Dl.ids], by simpa using hi, by rw [e]; exact Nat.le_trans (List.length_filter_le _ _) h.2.1⟩, num_none, e]
theorem drop2_right {s : RS} {i : Int} (h : s.Ok) : RS.Ok { s with rs := gone i s.rs } :=
  ⟨h.1, Nat.le_trans (List.length_filter_le _ _) h.2.1, fun r hr => h.2.2.1 r (mem_gone.1 hr).1, h.2.2.2.filter _⟩
theorem drop2_none {s : RS} {i : Int} (h : s.Ok) (hi : i ∉ s.rs.map Ru.id) : applyM s ⟨-1, -1, -1, -1, [], [i]⟩ = (.zero, 32) := by
  unfold applyM
  rw [if_neg (by simpa using h), if_neg (by
    rintro (h' | ⟨r, hr, h'⟩)
    · rw [num_none] at h'; exact absurd (h.1.symm.trans h') (by decide)
    · simp at hr), if_neg (by simp [Dl.ids]), if_pos ⟨i, by simp, hi⟩]
theorem gone_ins {x : Ru} {l : List Ru} (h : Rise l) : gone x.id (ins x l) = gone x.id l := by
  refine rise_ext (h.ins.filter _) (h.filter _) fun y => ?_
  rw [mem_gone, mem_gone, mem_ins]
  constructor
  · rintro ⟨rfl | ⟨h1, _⟩, h2⟩
    · exact absurd rfl h2
    · exact ⟨h1, h2⟩
  · rintro ⟨h1, h2⟩
    exact ⟨.inr ⟨h1, h2⟩, h2⟩
theorem gone_not (i : Int) (l : List Ru) : i ∉ (gone i l).map Ru.id := fun h => by
  obtain ⟨y, hy, e⟩ := List.mem_map.1 h
  exact (mem_gone.1 hy).2 e

end Go.Proofs.Ytihhjcjmchlafaa
