/- Layer 13: whether a record can be applied. -/
import Derived.Test.YtefgobmpleoafaaGreatMLa
namespace Go.Proofs.YtefgobmpleoafaaGreat
open Go.RowKit
variable {w w' : World}

/-- A record as a value. -/
abbrev stCells (s : St) (v : Value) : Array Value := #[.int .i64 s.vi, .int .i64 s.no, .int .i64 s.co, .int .i64 s.ac, v]
set_option maxRecDepth 100000 in
set_option maxHeartbeats 8000000 in
theorem applies_any (s : St) (r : Rc) (A B : Option Addr) (n c m d : Nat) (hn : n = s.log.length) (w : World) :
    Calls Tryz.prog 37 #[s.val (.slice A n c), r.val (.slice B m d)] w fun e w' => e = .returned (.bool (fits s r)) ∧ Below w.heap.size w w' := by
  obtain ⟨vi, no, co, ac, log⟩ := s
  obtain ⟨k, a, b, rl⟩ := r
  simp only at hn ⊢
  obtain ⟨q, hk⟩ : ∃ q, q = fits ⟨vi, no, co, ac, log⟩ ⟨k, a, b, rl⟩ := ⟨_, rfl⟩
  rw [← hk]
  unfold fits at hk
  simp only at hk
  rw [← hn] at hk
  have BEL := Lib.hid (((Below.refl w.heap.size w).alloc (Nat.le_refl _) (.cells #[.int .i64 vi, .int .i64 no, .int .i64 co, .int .i64 ac, .slice A n c] 41)).alloc (by simp) (.cells #[.int .i64 k, .int .i64 a, .int .i64 b, .slice B m d] 82))
  have C1 := Lib.hid (lin_any b no a)
  have C3 := Lib.hid (lin_any a co (n : Int))
  generalize inR no a b = q1 at C1 hk
  generalize inR co (n : Int) a = q3 at C3 hk
  clear hn
  by_cases h1 : k = 1
  · subst h1
    rw [if_pos rfl] at hk
    by_cases h : vi ≤ a
    · rw [decide_eq_true h, Bool.true_and] at hk
      subst hk
      go_enter Tryz.func37, Tryz.ntmps37
      go_wp2_with fail
      refine (C1.out _).mono ?_
      rintro e w1 ⟨rfl, rfl⟩
      go_wp2
      go_ret
      exact ⟨rfl, BEL.out⟩
    · rw [decide_eq_false h, Bool.false_and] at hk
      subst hk
      go_enter Tryz.func37, Tryz.ntmps37
      go_wp2
      go_ret
      exact ⟨rfl, BEL.out⟩
  rw [if_neg h1] at hk
  by_cases h2 : k = 2
  · subst h2
    rw [if_pos rfl] at hk
    by_cases h : n < 64
    · rw [decide_eq_true h] at hk
      subst hk
      go_enter Tryz.func37, Tryz.ntmps37
      go_wp2
      go_ret
      exact ⟨ret_bool (decide_eq_true (by omega)), BEL.out⟩
    · rw [decide_eq_false h] at hk
      subst hk
      go_enter Tryz.func37, Tryz.ntmps37
      go_wp2
      go_ret
      exact ⟨ret_bool (decide_eq_false (by omega)), BEL.out⟩
  rw [if_neg h2] at hk
  by_cases h3 : k = 3
  · subst h3
    rw [if_pos (Or.inl rfl)] at hk
    subst hk
    go_enter Tryz.func37, Tryz.ntmps37
    go_wp2_with fail
    refine (C3.out _).mono ?_
    rintro e w1 ⟨rfl, rfl⟩
    go_wp2
    go_ret
    exact ⟨rfl, BEL.out⟩
  by_cases h4 : k = 4
  · subst h4
    rw [if_pos (Or.inr rfl)] at hk
    subst hk
    go_enter Tryz.func37, Tryz.ntmps37
    go_wp2_with fail
    refine (C3.out _).mono ?_
    rintro e w1 ⟨rfl, rfl⟩
    go_wp2
    go_ret
    exact ⟨rfl, BEL.out⟩
  rw [if_neg (by omega)] at hk
  by_cases h5 : k = 5
  · subst h5
    rw [if_pos rfl] at hk
    by_cases h : a ≤ 64
    · rw [decide_eq_true h] at hk
      subst hk
      go_enter Tryz.func37, Tryz.ntmps37
      go_wp2
      go_ret
      exact ⟨rfl, BEL.out⟩
    · rw [decide_eq_false h] at hk
      subst hk
      go_enter Tryz.func37, Tryz.ntmps37
      go_wp2
      go_ret
      exact ⟨rfl, BEL.out⟩
  rw [if_neg h5] at hk
  subst hk
  go_enter Tryz.func37, Tryz.ntmps37
  go_wp2
  go_ret
  exact ⟨rfl, BEL.out⟩
end Go.Proofs.YtefgobmpleoafaaGreat
