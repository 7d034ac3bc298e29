/- The small functions on ranges, as contracts. -/
import Derived.Test.YthipgidddgdojaaDoorClWords
namespace Go.Proofs.YthipgidddgdojaaDoor.Cl
open Go.RowKit

theorem has_any (lo hi u : Int) (w : World) : Calls Tryd.prog 18 #[.agg #[.int .i64 lo, .int .i64 hi], .int .i64 u] w fun e w' => e = .returned (.bool (inB (lo, hi) u)) ∧ Below w.heap.size w w' := by
  by_cases h1 : lo ≤ u
  · by_cases h2 : u ≤ hi
    · go_enter Tryd.func18, Tryd.ntmps18
      go_wp2
      go_ret
      exact ⟨ret_bool (by simp [inB]; omega), (Below.refl _ _).alloc (Nat.le_refl _) _⟩
    · go_enter Tryd.func18, Tryd.ntmps18
      go_wp2
      go_ret
      exact ⟨ret_bool (by simp [inB]; omega), (Below.refl _ _).alloc (Nat.le_refl _) _⟩
  · go_enter Tryd.func18, Tryd.ntmps18
    go_wp2
    go_ret
    exact ⟨ret_bool (by simp [inB]; omega), (Below.refl _ _).alloc (Nat.le_refl _) _⟩

theorem right_any (lo hi : Int) (w : World) : Calls Tryd.prog 51 #[.agg #[.int .i64 lo, .int .i64 hi]] w fun e w' => e = .returned (.bool (rightB (lo, hi))) ∧ Below w.heap.size w w' := by
  by_cases h1 : 0 ≤ lo
  · by_cases h2 : lo ≤ hi
    · by_cases h3 : hi ≤ 1114367
      · go_enter Tryd.func51, Tryd.ntmps51
        go_wp2
        go_ret
        exact ⟨ret_bool (by simp [rightB]; omega), (Below.refl _ _).alloc (Nat.le_refl _) _⟩
      · go_enter Tryd.func51, Tryd.ntmps51
        go_wp2
        go_ret
        exact ⟨ret_bool (by simp [rightB]; omega), (Below.refl _ _).alloc (Nat.le_refl _) _⟩
    · go_enter Tryd.func51, Tryd.ntmps51
      go_wp2
      go_ret
      exact ⟨ret_bool (by simp [rightB]; omega), (Below.refl _ _).alloc (Nat.le_refl _) _⟩
  · go_enter Tryd.func51, Tryd.ntmps51
    go_wp2
    go_ret
    exact ⟨ret_bool (by simp [rightB]; omega), (Below.refl _ _).alloc (Nat.le_refl _) _⟩

end Go.Proofs.YthipgidddgdojaaDoor.Cl
