/- Of layer 7, without a program: what is told between two sets. -/
import Derived.Test.YtihhjcjmchlafaaRuS
namespace Go.Proofs.Ytihhjcjmchlafaa

instance : DecidableEq Ru := fun a b => by
  cases a; cases b
  simp only [Ru.mk.injEq]
  infer_instance
def unl (old new : Int) : Int := if old = new then -1 else new
def unlike (a b : List Ru) : List Ru := b.filter fun r => decide (look a r.id ≠ r)
def lost (a b : List Ru) : List Int := (a.filter fun r => decide (r.id ∉ b.map Ru.id)).map Ru.id
def diffM (a b : RS) : Dl := ⟨unl a.de b.de, unl a.cl b.cl, unl a.fu b.fu, unl a.st b.st, unlike a.rs b.rs, lost a.rs b.rs⟩
theorem orK_unl {old new : Int} (h : new ≠ -1) : orK (unl old new) old = new := by
  unfold orK unl
  by_cases e : old = new
  · rw [if_pos e, if_pos rfl, e]
  · rw [if_neg e, if_neg h]
theorem unl_neg {old new : Int} (h : new ≠ -1) : unl old new = -1 ↔ old = new := by
  unfold unl
  by_cases e : old = new
  · simp [e]
  · simp [e, h]
section
variable {a b : RS}
theorem num_range (h : a.num = true) : 0 ≤ a.de ∧ 0 ≤ a.cl ∧ 1 ≤ a.fu ∧ 0 ≤ a.st := by
  simp only [RS.num, decide_eq_true_eq] at h
  omega
theorem diff_nums (hb : b.Ok) : nums a (diffM a b) = { b with rs := [] } := by
  have h := num_range hb.1
  unfold nums diffM
  simp only
  rw [orK_unl (by omega), orK_unl (by omega), orK_unl (by omega), orK_unl (by omega)]
theorem mem_unlike {x : Ru} : x ∈ unlike a.rs b.rs ↔ x ∈ b.rs ∧ look a.rs x.id ≠ x := by simp [unlike]
theorem mem_lost {i : Int} : i ∈ lost a.rs b.rs ↔ i ∈ a.rs.map Ru.id ∧ i ∉ b.rs.map Ru.id := by
  unfold lost
  simp only [List.mem_map, List.mem_filter, decide_eq_true_eq]
  constructor
  · rintro ⟨r, ⟨h1, h2⟩, rfl⟩; exact ⟨⟨r, h1, rfl⟩, h2⟩
  · rintro ⟨⟨r, h1, rfl⟩, h2⟩; exact ⟨r, ⟨h1, h2⟩, rfl⟩
theorem unlike_rise (hb : b.Ok) : Rise (unlike a.rs b.rs) := hb.2.2.2.filter _
theorem lost_rise (ha : a.Ok) : (lost a.rs b.rs).Pairwise (· < ·) := List.pairwise_map.2 (ha.2.2.2.filter _)
theorem look_there {l : List Ru} {x : Ru} (hx : x.ok = true) (h : look l x.id = x) : x ∈ l := by
  unfold look at h
  cases hf : l.find? fun y => decide (y.id = x.id) with
  | none =>
    rw [hf] at h
    simp only [Option.getD_none] at h
    rw [← h] at hx
    exact absurd hx (by decide)
  | some y =>
    rw [hf] at h
    simp only [Option.getD_some] at h
    rw [← h]
    exact List.mem_of_find?_eq_some hf
theorem diff_after (ha : a.Ok) (hb : b.Ok) : after a (diffM a b) = b.rs := by
  refine rise_ext (after_rise ha) hb.2.2.2 fun x => ?_
  have hn : ((diffM a b).put.map Ru.id).Nodup := rise_nodup (unlike_rise hb)
  unfold after
  rw [mem_puts hn, mem_drops]
  show x ∈ unlike a.rs b.rs ∨ ((x ∈ a.rs ∧ x.id ∉ lost a.rs b.rs) ∧ x.id ∉ (unlike a.rs b.rs).map Ru.id) ↔ _
  constructor
  · rintro (h | ⟨⟨h1, h2⟩, h3⟩)
    · exact (mem_unlike.1 h).1
    · have h4 : x.id ∈ b.rs.map Ru.id := Classical.byContradiction fun h => h2 (mem_lost.2 ⟨List.mem_map_of_mem h1, h⟩)
      obtain ⟨y, hy, e⟩ := List.mem_map.1 h4
      have h5 : look a.rs y.id = y := Classical.byContradiction fun h => h3 (List.mem_map.2 ⟨y, mem_unlike.2 ⟨hy, h⟩, e⟩)
      rw [e, look_mem ha.2.2.2 h1] at h5
      rw [h5]; exact hy
  · intro h
    by_cases h1 : look a.rs x.id = x
    · refine .inr ⟨⟨look_there (hb.2.2.1 x h) h1, fun h2 => (mem_lost.1 h2).2 (List.mem_map_of_mem h)⟩, fun h3 => ?_⟩
      obtain ⟨y, hy, e⟩ := List.mem_map.1 h3
      obtain ⟨h4, h5⟩ := mem_unlike.1 hy
      have := rise_inj hb.2.2.2 h4 h e
      subst this
      exact h5 h1
    · exact .inl (mem_unlike.2 ⟨h, h1⟩)
theorem diff_taken (ha : a.Ok) (hb : b.Ok) : Taken a (diffM a b) := by
  refine ⟨ha, by rw [diff_nums hb]; exact hb.1, fun r hr => hb.2.2.1 r (mem_unlike.1 hr).1, ?_, fun i hi => (mem_lost.1 hi).1, by rw [diff_after ha hb]; exact hb.2.1⟩
  refine List.nodup_append.2 ⟨rise_nodup (unlike_rise hb), (lost_rise ha).imp fun h => by omega, fun i hi j hj e => ?_⟩
  subst e
  obtain ⟨r, hr, e⟩ := List.mem_map.1 hi
  have := (mem_lost.1 hj).2
  exact this (e ▸ List.mem_map_of_mem (mem_unlike.1 hr).1)
theorem diff_apply (ha : a.Ok) (hb : b.Ok) : applyM a (diffM a b) = (b, 0) := by
  rw [taken_eq (diff_taken ha hb), diff_nums hb, diff_after ha hb]
theorem diff_same (ha : a.Ok) : unlike a.rs a.rs = [] ∧ lost a.rs a.rs = [] := by
  constructor
  · refine List.filter_eq_nil_iff.2 fun x hx => ?_
    have := look_mem ha.2.2.2 hx
    simp [this]
  · unfold lost
    rw [List.filter_eq_nil_iff.2 fun x hx => by simpa using ⟨x, hx, rfl⟩]
    rfl
end

end Go.Proofs.Ytihhjcjmchlafaa
