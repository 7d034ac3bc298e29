/- Of layer 7, without a program: a delta that is applied twice; two deltas that have nothing in common. -/
import Derived.Test.YtdbddbelhgkelaaRuS
namespace Go.Proofs.Ytdbddbelhgkelaa

theorem orK_idem (a n : Int) : orK a (orK a n) = orK a n := by
  unfold orK
  split <;> simp_all
theorem nums_idem {s : RS} {d : Dl} {l : List Ru} : nums { nums s d with rs := l } d = nums s d := by
  simp [nums, orK_idem]
/-- A delta without Drop changes nothing the second time. -/
theorem twice_same {s : RS} {d : Dl} (h : Taken s d) (hd : d.drop = []) : applyM { nums s d with rs := after s d } d = ({ nums s d with rs := after s d }, 0) := by
  have hr := h.right
  have e : after { nums s d with rs := after s d } d = after s d := by
    refine rise_ext (after_rise hr) (after_rise h.ok) fun x => ?_
    have key : ∀ {s' : RS}, (d.put.map Ru.id).Nodup → (x ∈ after s' d ↔ x ∈ d.put ∨ (x ∈ s'.rs ∧ x.id ∉ d.put.map Ru.id)) := fun {s'} hn => by
      unfold after
      rw [mem_puts hn, mem_drops, hd]
      simp
    rw [key h.put_nodup, key h.put_nodup]
    clear key
    by_cases m1 : x ∈ d.put <;> by_cases m2 : x.id ∈ d.put.map Ru.id <;> by_cases m3 : x ∈ s.rs <;> simp only [m1, m2, m3, true_or, or_true, false_or, or_false, not_true_eq_false, not_false_eq_true, and_true, and_false, and_self]
  have ht : Taken { nums s d with rs := after s d } d := ⟨hr, by rw [nums_idem]; exact h.num, h.put, h.once, by rw [hd]; simp, by rw [e]; exact h.few⟩
  rw [taken_eq ht, nums_idem, e]

theorem orK_comm {a b n : Int} (h : a = -1 ∨ b = -1) : orK b (orK a n) = orK a (orK b n) := by
  unfold orK
  rcases h with rfl | rfl <;> simp
/-- Two deltas that touch no rule and no number in common come to the same in both orders. -/
theorem both_same {s : RS} {d o : Dl} (hd : Taken s d) (ho : Taken s o) (hto : Taken { nums s d with rs := after s d } o) (hqd : Taken { nums s o with rs := after s o } d)
    (hids : ∀ i ∈ d.ids, i ∉ o.ids) (h1 : d.de = -1 ∨ o.de = -1) (h2 : d.cl = -1 ∨ o.cl = -1) (h3 : d.fu = -1 ∨ o.fu = -1) (h4 : d.st = -1 ∨ o.st = -1) :
    ({ nums { nums s d with rs := after s d } o with rs := after { nums s d with rs := after s d } o } : RS) = { nums { nums s o with rs := after s o } d with rs := after { nums s o with rs := after s o } d } := by
  have e : after { nums s d with rs := after s d } o = after { nums s o with rs := after s o } d := by
    refine rise_ext (after_rise hto.ok) (after_rise hqd.ok) fun x => ?_
    have p1 : x ∈ d.put → x.id ∈ d.put.map Ru.id := fun h => List.mem_map_of_mem h
    have p2 : x ∈ o.put → x.id ∈ o.put.map Ru.id := fun h => List.mem_map_of_mem h
    have q := hids x.id
    simp only [Dl.ids, List.mem_append, not_or] at q
    rw [mem_after hto, mem_after hqd]
    simp only
    rw [mem_after hd, mem_after ho]
    have q1 : x.id ∈ d.put.map Ru.id → x.id ∉ o.put.map Ru.id ∧ x.id ∉ o.drop := fun h => q (.inl h)
    have q2 : x.id ∈ d.drop → x.id ∉ o.put.map Ru.id ∧ x.id ∉ o.drop := fun h => q (.inr h)
    clear q hids hto hqd hd ho h1 h2 h3 h4
    generalize (x.id ∈ d.put.map Ru.id) = c1 at *
    generalize (x.id ∈ o.put.map Ru.id) = c2 at *
    generalize (x.id ∈ d.drop) = c3 at *
    generalize (x.id ∈ o.drop) = c4 at *
    generalize (x ∈ d.put) = m1 at *
    generalize (x ∈ o.put) = m2 at *
    generalize (x ∈ s.rs) = m3 at *
    by_cases c1 <;> by_cases c2 <;> by_cases c3 <;> by_cases c4 <;> by_cases m1 <;> by_cases m2 <;> by_cases m3 <;> simp_all
  rw [e]
  simp only [nums, orK_comm h1, orK_comm h2, orK_comm h3, orK_comm h4]

end Go.Proofs.Ytdbddbelhgkelaa
