/- Package shape: the smallest functions. -/
import Derived.Test.YtefgobmpleoafaaGreatDoorJModel
import Derived.Test.YtefgobmpleoafaaGreatDoorJClass
import Derived.BigQuiet
import Derived.IntWalk
namespace Go.Proofs.YtefgobmpleoafaaGreatDoor
open Go.RowKit
variable {w w' : World}

theorem bounded_any (x : Int) : Calls Tryz.prog 81 #[.int .i64 x] w fun e w' => e = .returned (.int .i64 (capF x)) ∧ w = w' := by
  by_cases h : (1048576 : Int) < x
  · have e : capF x = 1048576 := by unfold capF far; rw [if_pos h]
    rw [e]
    go_enter Tryz.func81, Tryz.ntmps81
    go_wp2
    go_ret
    exact ⟨rfl, rfl⟩
  · have e : capF x = x := by unfold capF far; rw [if_neg h]
    have h' : ¬ (1048576 : Int) < x := h
    rw [e]
    clear h
    go_enter Tryz.func81, Tryz.ntmps81
    go_wp2
    go_ret
    exact ⟨rfl, rfl⟩
theorem greatest_any (x : Int) : Calls Tryz.prog 117 #[.int .i64 x] w fun e w' => e = .returned (.int .i64 (capE x)) ∧ w = w' := by
  by_cases h : (1048576 : Int) < x
  · have e : capE x = -1 := by unfold capE far; rw [if_pos h]
    rw [e]
    go_enter Tryz.func117, Tryz.ntmps117
    go_wp2
    go_ret
    exact ⟨rfl, rfl⟩
  · have e : capE x = x := by unfold capE far; rw [if_neg h]
    rw [e]
    go_enter Tryz.func117, Tryz.ntmps117
    go_wp2
    go_ret
    exact ⟨rfl, rfl⟩
theorem together_any (a b : Int) (ha : -1 ≤ a ∧ a ≤ 1048576) (hb : -1 ≤ b ∧ b ≤ 1048576) : Calls Tryz.prog 95 #[.int .i64 a, .int .i64 b] w fun e w' => e = .returned (.int .i64 (addE a b)) ∧ w = w' := by
  obtain ⟨a1, a2⟩ := ha
  obtain ⟨b1, b2⟩ := hb
  by_cases h1 : a = -1
  · subst h1
    have e : addE (-1) b = -1 := by simp [addE]
    rw [e]
    go_enter Tryz.func95, Tryz.ntmps95
    go_wp2
    go_ret
    exact ⟨rfl, rfl⟩
  by_cases h2 : b = -1
  · subst h2
    have e : addE a (-1) = -1 := by simp [addE]
    have h1' : (a == -1) = false := by simp [h1]
    rw [e]
    go_enter Tryz.func95, Tryz.ntmps95
    go_wp2
    go_ret
    exact ⟨rfl, rfl⟩
  have e : addE a b = capE (a + b) := by simp [addE, h1, h2]
  have h1' : (a == -1) = false := by simp [h1]
  have h2' : (b == -1) = false := by simp [h2]
  have HG := Lib.hid (greatest_any (w := w) (a + b))
  rw [e]
  clear e
  go_enter Tryz.func95, Tryz.ntmps95
  go_wp2_with fail
  refine HG.out.mono ?_
  rintro e w1 ⟨rfl, rfl⟩
  go_wp2
  go_ret
  exact ⟨rfl, rfl⟩
theorem wider_any (a b : Int) (ha : -1 ≤ a ∧ a ≤ 1048576) (hb : -1 ≤ b ∧ b ≤ 1048576) : Calls Tryz.prog 133 #[.int .i64 a, .int .i64 b] w fun e w' => e = .returned (.int .i64 (maxE a b)) ∧ w = w' := by
  obtain ⟨a1, a2⟩ := ha
  obtain ⟨b1, b2⟩ := hb
  by_cases h1 : a = -1
  · subst h1
    have e : maxE (-1) b = -1 := by simp [maxE]
    rw [e]
    go_enter Tryz.func133, Tryz.ntmps133
    go_wp2
    go_ret
    exact ⟨rfl, rfl⟩
  by_cases h2 : b = -1
  · subst h2
    have e : maxE a (-1) = -1 := by simp [maxE]
    have h1' : (a == -1) = false := by simp [h1]
    rw [e]
    go_enter Tryz.func133, Tryz.ntmps133
    go_wp2
    go_ret
    exact ⟨rfl, rfl⟩
  have h1' : (a == -1) = false := by simp [h1]
  have h2' : (b == -1) = false := by simp [h2]
  by_cases h3 : a < b
  · have e : maxE a b = b := by simp [maxE, h1, h2]; omega
    rw [e]
    clear e
    go_enter Tryz.func133, Tryz.ntmps133
    go_wp2
    go_ret
    exact ⟨rfl, rfl⟩
  · have e : maxE a b = a := by simp [maxE, h1, h2]; omega
    rw [e]
    clear e
    go_enter Tryz.func133, Tryz.ntmps133
    go_wp2
    go_ret
    exact ⟨rfl, rfl⟩
theorem mulTimes_any (m x : Int) (hm : -1 ≤ m ∧ m ≤ 64) (hx : -1 ≤ x ∧ x ≤ 1048576) : Calls Tryz.prog 116 #[.int .i64 m, .int .i64 x] w fun e w' => e = .returned (.int .i64 (mulE m x)) ∧ w = w' := by
  obtain ⟨a1, a2⟩ := hm
  obtain ⟨b1, b2⟩ := hx
  by_cases h1 : m = 0
  · subst h1
    have e : mulE 0 x = 0 := by simp [mulE]
    rw [e]
    go_enter Tryz.func116, Tryz.ntmps116
    go_wp2
    go_ret
    exact ⟨rfl, rfl⟩
  have h1' : (m == 0) = false := by simp [h1]
  by_cases h2 : x = 0
  · subst h2
    have e : mulE m 0 = 0 := by simp [mulE]
    rw [e]
    go_enter Tryz.func116, Tryz.ntmps116
    go_wp2
    go_ret
    exact ⟨rfl, rfl⟩
  have h2' : (x == 0) = false := by simp [h2]
  by_cases h3 : m = -1
  · subst h3
    have e : mulE (-1) x = -1 := by simp [mulE, h2]
    rw [e]
    go_enter Tryz.func116, Tryz.ntmps116
    go_wp2
    go_ret
    exact ⟨rfl, rfl⟩
  have h3' : (m == -1) = false := by simp [h3]
  by_cases h4 : x = -1
  · subst h4
    have e : mulE m (-1) = -1 := by simp [mulE, h1]
    rw [e]
    go_enter Tryz.func116, Tryz.ntmps116
    go_wp2
    go_ret
    exact ⟨rfl, rfl⟩
  have h4' : (x == -1) = false := by simp [h4]
  have e : mulE m x = capE (m * x) := by simp [mulE, h1, h2, h3, h4]
  have HG := Lib.hid (greatest_any (w := w) (m * x))
  have p0 : 0 ≤ m * x := Int.mul_nonneg (by omega) (by omega)
  have p1 : m * x ≤ 64 * 1048576 := Int.mul_le_mul (by omega) b2 (by omega) (by omega)
  rw [e]
  clear e
  go_enter Tryz.func116, Tryz.ntmps116
  go_wp2_with fail
  refine HG.out.mono ?_
  rintro e w1 ⟨rfl, rfl⟩
  go_wp2
  go_ret
  exact ⟨rfl, rfl⟩

end Go.Proofs.YtefgobmpleoafaaGreatDoor

