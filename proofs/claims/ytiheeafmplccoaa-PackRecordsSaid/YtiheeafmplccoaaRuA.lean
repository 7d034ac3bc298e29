/- Package rule: within, Rule.Right, all, rise, Set.Right, First. -/
import Derived.Test.YtiheeafmplccoaaRuW
namespace Go.Proofs.Ytiheeafmplccoaa
open Go.RowKit
variable {w w' : World}

theorem within_any (n lo hi : Int) (w : World) : Calls Try.prog 101 #[.int .i64 n, .int .i64 lo, .int .i64 hi] w fun e w' => e = .returned (.bool (decide (lo ≤ n ∧ n ≤ hi))) ∧ w' = w := by
  go_enter Try.func101, Try.ntmps101
  by_cases h1 : lo ≤ n
  · by_cases h2 : n ≤ hi
    · rw [decide_eq_true ⟨h1, h2⟩]
      go_wp2
      go_ret
      exact ⟨rfl, rfl⟩
    · rw [decide_eq_false (fun h => h2 h.2)]
      go_wp2
      go_ret
      exact ⟨rfl, rfl⟩
  · rw [decide_eq_false (fun h => h1 h.1)]
    go_wp2
    go_ret
    exact ⟨rfl, rfl⟩

set_option maxRecDepth 100000 in
set_option maxHeartbeats 2000000 in
theorem ruleRight_any (r : Ru) (w : World) : Calls Try.prog 100 #[.agg #[.int .i64 r.id, .int .i64 r.pr, .int .i64 r.ac, .int .i64 r.sc, .string r.pat]] w fun e w' => e = .returned (.bool r.ok) ∧ Below w.heap.size w w' := by
  obtain ⟨id, pr, ac, sc, pat⟩ := r
  simp only
  have hb := (Below.refl w.heap.size w).alloc (Nat.le_refl _) (.cells #[.int .i64 id, .int .i64 pr, .int .i64 ac, .int .i64 sc, .string pat] 72)
  have HB := Lib.hid hb
  clear hb
  obtain ⟨k, hk⟩ : ∃ k, k = Ru.ok ⟨id, pr, ac, sc, pat⟩ := ⟨_, rfl⟩
  rw [← hk]
  have c1 := within_any id 1 1099511627776
  have c2 := within_any pr 0 1000
  have c3 := within_any ac 0 255
  have c4 := within_any sc 1 65535
  have hok : Ru.ok ⟨id, pr, ac, sc, pat⟩ = (decide (1 ≤ id ∧ id ≤ 1099511627776) && decide (0 ≤ pr ∧ pr ≤ 1000) && decide (0 ≤ ac ∧ ac ≤ 255) && decide (1 ≤ sc ∧ sc ≤ 65535) && decide (pat.size ≤ 256)) := by
    simp only [Ru.ok, ← Bool.decide_and]
    congr 1
    simp only [eq_iff_iff]
    omega
  rw [hok] at hk
  clear hok
  generalize decide (1 ≤ id ∧ id ≤ 1099511627776) = b1 at c1 hk
  generalize decide (0 ≤ pr ∧ pr ≤ 1000) = b2 at c2 hk
  generalize decide (0 ≤ ac ∧ ac ≤ 255) = b3 at c3 hk
  generalize decide (1 ≤ sc ∧ sc ≤ 65535) = b4 at c4 hk
  have C1 := Lib.hid c1
  have C2 := Lib.hid c2
  have C3 := Lib.hid c3
  have C4 := Lib.hid c4
  clear c1 c2 c3 c4
  have fin : ∀ {b : Bool} {w1 : World}, b = k → w1 = w.alloc (.cells #[.int .i64 id, .int .i64 pr, .int .i64 ac, .int .i64 sc, .string pat] 72) → Ending.returned (.bool b) = Ending.returned (.bool k) ∧ Below w.heap.size w w1 := fun e e' => ⟨by rw [e], by rw [e']; exact HB.out⟩
  cases b1 with
  | false =>
    go_enter Try.func100, Try.ntmps100
    go_wp2_with fail
    refine (C1.out _).mono ?_
    rintro e w1 ⟨rfl, rfl⟩
    go_wp2
    go_ret
    exact fin (by rw [hk]; rfl) rfl
  | true =>
  cases b2 with
  | false =>
    go_enter Try.func100, Try.ntmps100
    go_wp2_with fail
    refine (C1.out _).mono ?_
    rintro e w1 ⟨rfl, rfl⟩
    go_wp2_with fail
    refine (C2.out _).mono ?_
    rintro e w1 ⟨rfl, rfl⟩
    go_wp2
    go_ret
    exact fin (by rw [hk]; rfl) rfl
  | true =>
  cases b3 with
  | false =>
    go_enter Try.func100, Try.ntmps100
    go_wp2_with fail
    refine (C1.out _).mono ?_
    rintro e w1 ⟨rfl, rfl⟩
    go_wp2_with fail
    refine (C2.out _).mono ?_
    rintro e w1 ⟨rfl, rfl⟩
    go_wp2_with fail
    refine (C3.out _).mono ?_
    rintro e w1 ⟨rfl, rfl⟩
    go_wp2
    go_ret
    exact fin (by rw [hk]; rfl) rfl
  | true =>
  cases b4 with
  | false =>
    go_enter Try.func100, Try.ntmps100
    go_wp2_with fail
    refine (C1.out _).mono ?_
    rintro e w1 ⟨rfl, rfl⟩
    go_wp2_with fail
    refine (C2.out _).mono ?_
    rintro e w1 ⟨rfl, rfl⟩
    go_wp2_with fail
    refine (C3.out _).mono ?_
    rintro e w1 ⟨rfl, rfl⟩
    go_wp2_with fail
    refine (C4.out _).mono ?_
    rintro e w1 ⟨rfl, rfl⟩
    go_wp2
    go_ret
    exact fin (by rw [hk]; rfl) rfl
  | true =>
    by_cases h5 : pat.size ≤ 256
    · have h5i : (pat.size : Int) ≤ 256 := by omega
      rw [decide_eq_true h5] at hk
      go_enter Try.func100, Try.ntmps100
      go_wp2_with fail
      refine (C1.out _).mono ?_
      rintro e w1 ⟨rfl, rfl⟩
      go_wp2_with fail
      refine (C2.out _).mono ?_
      rintro e w1 ⟨rfl, rfl⟩
      go_wp2_with fail
      refine (C3.out _).mono ?_
      rintro e w1 ⟨rfl, rfl⟩
      go_wp2_with fail
      refine (C4.out _).mono ?_
      rintro e w1 ⟨rfl, rfl⟩
      go_wp2
      go_ret
      exact fin (by rw [hk]; rfl) rfl
    · have h5i : ¬ (pat.size : Int) ≤ 256 := by omega
      rw [decide_eq_false h5] at hk
      go_enter Try.func100, Try.ntmps100
      go_wp2_with fail
      refine (C1.out _).mono ?_
      rintro e w1 ⟨rfl, rfl⟩
      go_wp2_with fail
      refine (C2.out _).mono ?_
      rintro e w1 ⟨rfl, rfl⟩
      go_wp2_with fail
      refine (C3.out _).mono ?_
      rintro e w1 ⟨rfl, rfl⟩
      go_wp2_with fail
      refine (C4.out _).mono ?_
      rintro e w1 ⟨rfl, rfl⟩
      go_wp2
      go_ret
      exact fin (by rw [hk, decide_eq_false (by omega)]; rfl) rfl

end Go.Proofs.Ytiheeafmplccoaa
