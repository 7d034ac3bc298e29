/- Package rule: all, rise. -/
import Derived.Test.YtiheeafmplccoaaRuA
namespace Go.Proofs.Ytiheeafmplccoaa
open Go.RowKit
variable {w w' : World}

theorem all_take_succ {l : List Ru} {k : Nat} {r : Ru} (h : l[k]? = some r) : (l.take (k + 1)).all Ru.ok = ((l.take k).all Ru.ok && r.ok) := by
  obtain ⟨hk, rfl⟩ := List.getElem?_eq_some_iff.1 h
  rw [List.take_succ_eq_append_getElem hk, List.all_append]
  simp
theorem all_false {l : List Ru} {k : Nat} {r : Ru} (h : l[k]? = some r) (hr : r.ok = false) : l.all Ru.ok = false := by
  rw [List.all_eq_false]
  exact ⟨r, List.mem_of_getElem? h, by simp [hr]⟩

end Go.Proofs.Ytiheeafmplccoaa
