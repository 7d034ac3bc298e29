/- The small functions of the unit layer and of its reference, as contracts. -/
import Derived.Test.YtphpcdnefjbopaaDoorChecked
import Derived.WalkKit
import Derived.WalkSpells
import Derived.Outline
namespace Go.Proofs.YtphpcdnefjbopaaDoor
open Go.RowKit

def strayB (n : Int) : Bool := decide (1114240 ≤ n ∧ n ≤ 1114367)
def charB (n : Int) : Bool := decide (0 ≤ n ∧ n ≤ 1114111 ∧ (n < 55296 ∨ 57343 < n))

theorem ret_bool {a b : Bool} (h : a = b) : Ending.returned (.bool a) = .returned (.bool b) := by rw [h]

theorem stray_any (n : Int) (w : World) : Calls Tryd.prog 18 #[.int .i64 n] w fun e w' => e = .returned (.bool (strayB n)) ∧ w = w' := by
  by_cases h1 : 1114240 ≤ n
  · by_cases h2 : n ≤ 1114367
    · go_enter Tryd.func18, Tryd.ntmps18
      go_wp2
      go_ret
      exact ⟨ret_bool (by simp [strayB]; omega), rfl⟩
    · go_enter Tryd.func18, Tryd.ntmps18
      go_wp2
      go_ret
      exact ⟨ret_bool (by simp [strayB]; omega), rfl⟩
  · go_enter Tryd.func18, Tryd.ntmps18
    go_wp2
    go_ret
    exact ⟨ret_bool (by simp [strayB]; omega), rfl⟩

theorem char_any (n : Int) (w : World) : Calls Tryd.prog 20 #[.int .i64 n] w fun e w' => e = .returned (.bool (charB n)) ∧ w = w' := by
  by_cases h1 : 0 ≤ n
  · by_cases h2 : n ≤ 1114111
    · by_cases h3 : n < 55296
      · go_enter Tryd.func20, Tryd.ntmps20
        go_wp2
        go_ret
        exact ⟨ret_bool (by simp [charB]; omega), rfl⟩
      · by_cases h4 : 57343 < n
        · go_enter Tryd.func20, Tryd.ntmps20
          go_wp2
          go_ret
          exact ⟨ret_bool (by simp [charB]; omega), rfl⟩
        · go_enter Tryd.func20, Tryd.ntmps20
          go_wp2
          go_ret
          exact ⟨ret_bool (by simp [charB]; omega), rfl⟩
    · go_enter Tryd.func20, Tryd.ntmps20
      go_wp2
      go_ret
      exact ⟨ret_bool (by simp [charB]; omega), rfl⟩
  · go_enter Tryd.func20, Tryd.ntmps20
    go_wp2
    go_ret
    exact ⟨ret_bool (by simp [charB]; omega), rfl⟩

def charR (n : Int) : Int := if 0 ≤ n ∧ n ≤ 1114111 then n else 0
def rightB (n : Int) : Bool := charB n || strayB n

theorem valid_any (n : Int) (w : World) : Calls Tryd.prog 28 #[.int .i32 n] w fun e w' => e = .returned (.bool (charB n)) ∧ w = w' := by
  by_cases h1 : 0 ≤ n
  · by_cases h3 : n < 55296
    · go_enter Tryd.func28, Tryd.ntmps28
      go_wp2
      go_ret
      exact ⟨ret_bool (by simp [charB]; omega), rfl⟩
    · by_cases h4 : 57343 < n
      · by_cases h2 : n ≤ 1114111
        · go_enter Tryd.func28, Tryd.ntmps28
          go_wp2
          go_ret
          exact ⟨ret_bool (by simp [charB]; omega), rfl⟩
        · go_enter Tryd.func28, Tryd.ntmps28
          go_wp2
          go_ret
          exact ⟨ret_bool (by simp [charB]; omega), rfl⟩
      · go_enter Tryd.func28, Tryd.ntmps28
        go_wp2
        go_ret
        exact ⟨ret_bool (by simp [charB]; omega), rfl⟩
  · have h4 : ¬ 57343 < n := by omega
    go_enter Tryd.func28, Tryd.ntmps28
    go_wp2
    go_ret
    exact ⟨ret_bool (by simp [charB]; omega), rfl⟩

theorem ret_int_bool {k : IntKind} {a b : Int} {c d : Bool} (h : a = b) (h' : c = d) : Ending.returned (.tuple #[.int k a, .bool c]) = .returned (.tuple #[.int k b, .bool d]) := by rw [h, h']

theorem character_any (n : Int) (w : World) : Calls Tryd.prog 24 #[.int .i64 n] w fun e w' => e = .returned (.tuple #[.int .i32 (charR n), .bool (charB n)]) ∧ w = w' := by
  by_cases h1 : n < 0
  · go_enter Tryd.func24, Tryd.ntmps24
    go_wp2
    go_ret2
    exact ⟨ret_int_bool (by simp [charR]; omega) (by simp [charB]; omega), rfl⟩
  · by_cases h2 : 1114111 < n
    · go_enter Tryd.func24, Tryd.ntmps24
      go_wp2
      go_ret2
      exact ⟨ret_int_bool (by simp [charR]; omega) (by simp [charB]; omega), rfl⟩
    · have h0 : 0 ≤ n := by omega
      have h3 : n ≤ 1114111 := by omega
      go_enter Tryd.func24, Tryd.ntmps24
      go_wp2_with (go_at_call 28; refine (valid_any _ _).mono ?_; rintro e w' ⟨rfl, rfl⟩)
      go_ret2
      exact ⟨ret_int_bool (by simp [charR]; omega) rfl, rfl⟩

theorem right_any (n : Int) (w : World) : Calls Tryd.prog 15 #[.int .i64 n] w fun e w' => e = .returned (.bool (rightB n)) ∧ w = w' := by
  cases h : charB n
  · go_enter Tryd.func15, Tryd.ntmps15
    go_wp2_with (first | (go_at_call 24; refine (character_any _ _).mono ?_; rintro e w' ⟨rfl, rfl⟩) | (go_at_call 18; refine (stray_any _ _).mono ?_; rintro e w' ⟨rfl, rfl⟩))
    go_ret
    exact ⟨ret_bool (by simp [rightB, h]), rfl⟩
  · go_enter Tryd.func15, Tryd.ntmps15
    go_wp2_with (first | (go_at_call 24; refine (character_any _ _).mono ?_; rintro e w' ⟨rfl, rfl⟩) | (go_at_call 18; refine (stray_any _ _).mono ?_; rintro e w' ⟨rfl, rfl⟩))
    go_ret
    exact ⟨ret_bool (by simp [rightB, h]), rfl⟩

theorem rightRef_any (n : Int) (w : World) : Calls Tryd.prog 17 #[.int .i64 n] w fun e w' => e = .returned (.bool (rightB n)) ∧ w = w' := by
  cases h : charB n
  · by_cases h1 : 1114240 ≤ n
    · by_cases h2 : n ≤ 1114367
      · go_enter Tryd.func17, Tryd.ntmps17
        go_wp2_with (go_at_call 20; refine (char_any _ _).mono ?_; rintro e w' ⟨rfl, rfl⟩)
        go_ret
        exact ⟨ret_bool (by simp [rightB, h, strayB]; omega), rfl⟩
      · go_enter Tryd.func17, Tryd.ntmps17
        go_wp2_with (go_at_call 20; refine (char_any _ _).mono ?_; rintro e w' ⟨rfl, rfl⟩)
        go_ret
        exact ⟨ret_bool (by simp [rightB, h, strayB]; omega), rfl⟩
    · go_enter Tryd.func17, Tryd.ntmps17
      go_wp2_with (go_at_call 20; refine (char_any _ _).mono ?_; rintro e w' ⟨rfl, rfl⟩)
      go_ret
      exact ⟨ret_bool (by simp [rightB, h, strayB]; omega), rfl⟩
  · go_enter Tryd.func17, Tryd.ntmps17
    go_wp2_with (go_at_call 20; refine (char_any _ _).mono ?_; rintro e w' ⟨rfl, rfl⟩)
    go_ret
    exact ⟨ret_bool (by simp [rightB, h]), rfl⟩

/-- guess: the number that a lead byte begins, and how many bytes follow. -/
def guessN (c : Int) : Int := if c < 128 then c else if 192 ≤ c ∧ c < 224 then c - 192 else if 224 ≤ c ∧ c < 240 then c - 224 else if 240 ≤ c ∧ c < 248 then c - 240 else -1
def guessM (c : Int) : Nat := if c < 128 then 0 else if 192 ≤ c ∧ c < 224 then 1 else if 224 ≤ c ∧ c < 240 then 2 else if 240 ≤ c ∧ c < 248 then 3 else 0
theorem ret_int_int {k l : IntKind} {a b : Int} {c d : Int} (h : a = b) (h' : c = d) : Ending.returned (.tuple #[.int k a, .int l c]) = .returned (.tuple #[.int k b, .int l d]) := by rw [h, h']
theorem guess_any (c : Int) (h0 : 0 ≤ c) (h9 : c < 256) (w : World) : Calls Tryd.prog 22 #[.int .i64 c] w fun e w' => e = .returned (.tuple #[.int .i64 (guessN c), .int .i64 (guessM c)]) ∧ w = w' := by
  have hc : c < 128 ∨ (128 ≤ c ∧ c < 192) ∨ (192 ≤ c ∧ c < 224) ∨ (224 ≤ c ∧ c < 240) ∨ (240 ≤ c ∧ c < 248) ∨ 248 ≤ c := by omega
  rcases hc with h | ⟨h, h'⟩ | ⟨h, h'⟩ | ⟨h, h'⟩ | ⟨h, h'⟩ | h
  all_goals
    go_enter Tryd.func22, Tryd.ntmps22
    go_wp2
    go_ret2
    exact ⟨ret_int_int (by unfold guessN; repeat' split
                           all_goals omega) (by unfold guessM; repeat' split
                                                all_goals omega), rfl⟩

end Go.Proofs.YtphpcdnefjbopaaDoor
