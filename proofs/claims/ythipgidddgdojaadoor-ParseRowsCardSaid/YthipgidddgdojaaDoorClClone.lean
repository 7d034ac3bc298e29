/- slices.Clone of a set, at both instances: the same ranges in a row of the call's own. -/
import Derived.Test.YthipgidddgdojaaDoorClWords
import Derived.Lib.SliceRun
namespace Go.Proofs.YthipgidddgdojaaDoor.Cl
open Go.RowKit

theorem own_empty (w : World) (base : Nat) (e : TypeId) (h : base ≤ w.heap.size) : Own (w.alloc (.cells #[] e)) base e (.slice (some ⟨w.heap.size, 0, none⟩) 0 0) [] :=
  World.ownsRow_made w #[] 0 h (by unfold maxLen; omega) (by simp)

set_option maxHeartbeats 1000000 in
theorem clone_any (v : Value) (l : List Rg) (w : World) (hmax : l.length ≤ 1000000) (hS : SetV w.heap.size w v l) :
    Calls Tryd.prog 52 #[v] w fun e w' => ∃ v', e = .returned v' ∧ Own w' w.heap.size 39 v' l ∧ Below w.heap.size w w' := by
  obtain ⟨A, cap, rfl, hcap, hS0⟩ := id hS
  obtain ⟨i0, hi, hz0, hz1, hz2⟩ := info_three info46
  have q : ∀ (w : World) (a : Option Addr) (n c n' c' : Nat), (binOp .eql 23 (.slice a n c) (.slice none n' c')).run Tryd.prog w = .ok (.bool a.isNone) w := fun w a n c n' c' => Lib.run_eql_slice_nil w _ _ a n c n' c' Tryd.underlying23
  cases A with
  | none =>
    obtain rfl : l = [] := by
      refine Decidable.byContradiction fun hne => ?_
      obtain ⟨b, off, h, _⟩ := hS0 hne
      cases h
    clear hS0 hS
    go_enter Tryd.func52, Tryd.ntmps52
    go_wp2
    go_ret
    exact ⟨_, rfl, Own.nil _ _ _, Below.refl _ _⟩
  | some a =>
    clear hS0
    have hB := (Below.refl w.heap.size w).alloc (Nat.le_refl _) (.cells #[] 39)
    have hO := own_empty w w.heap.size 39 (Nat.le_refl _)
    have hS1 := hS.below hB
    go_enter Tryd.func52, Tryd.ntmps52
    go_wp2_with (at_builtin; refine wpList_append_set _ rfl _ _ 23 rfl w.heap.size 39 i0 (.agg #[.int .i64 0, .int .i64 0]) 16 Tryd.underlying23 hi hz0 hz1 hz2 rfl _ _ rfl hO w.heap.size _ l rfl hS1 (by unfold maxLen; simp; omega) (by simp; omega) (by simp) ?_; intro v' w1 hown' hgrow)
    go_ret
    exact ⟨_, rfl, hown', below_append hB hO (Nat.le_refl _) hgrow (by simp)⟩

end Go.Proofs.YthipgidddgdojaaDoor.Cl
