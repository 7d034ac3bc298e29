/- The document's rules: Rule.Right, Set.Numbered, or, find. -/
import Derived.Test.YtifpfpgibjmibaaRuM2
import Derived.Test.YtifpfpgibjmibaaRuX
namespace Go.Proofs.Ytifpfpgibjmibaa
open Go.RowKit
variable {w w' : World}

set_option maxRecDepth 100000 in
set_option maxHeartbeats 4000000 in
theorem xruleRight_at (r : Ru) (w : World) : Calls Try.prog 23 #[.agg #[.int .i64 r.id, .int .i64 r.pr, .int .i64 r.ac, .int .i64 r.sc, .string r.pat]] w fun e w' => e = .returned (.bool r.ok) ∧ w' = w.alloc (.cells #[.int .i64 r.id, .int .i64 r.pr, .int .i64 r.ac, .int .i64 r.sc, .string r.pat] 57) := by
  obtain ⟨id, pr, ac, sc, pat⟩ := r
  simp only
  obtain ⟨k, hk⟩ : ∃ k, k = Ru.ok ⟨id, pr, ac, sc, pat⟩ := ⟨_, rfl⟩
  rw [← hk]
  unfold Ru.ok at hk
  simp only at hk
  have fin : ∀ {b : Bool} {w1 : World}, b = k → w1 = w.alloc (.cells #[.int .i64 id, .int .i64 pr, .int .i64 ac, .int .i64 sc, .string pat] 57) → Ending.returned (.bool b) = Ending.returned (.bool k) ∧ w1 = w.alloc (.cells #[.int .i64 id, .int .i64 pr, .int .i64 ac, .int .i64 sc, .string pat] 57) := fun e e' => ⟨by rw [e], e'⟩
  by_cases h0 : 1 ≤ id
  · by_cases h1 : id ≤ 1099511627776
    · by_cases h2 : 0 ≤ pr
      · by_cases h3 : pr ≤ 1000
        · by_cases h4 : 0 ≤ ac
          · by_cases h5 : ac ≤ 255
            · by_cases h6 : 1 ≤ sc
              · by_cases h7 : sc ≤ 65535
                · by_cases h8 : (pat.size : Int) ≤ 256
                  · go_enter Try.func23, Try.ntmps23
                    go_wp2
                    go_ret
                    exact fin (by rw [hk]; exact (decide_eq_true (by omega)).symm) rfl
                  · go_enter Try.func23, Try.ntmps23
                    go_wp2
                    go_ret
                    exact fin (by rw [hk]; exact (decide_eq_false (by omega)).symm) rfl
                · go_enter Try.func23, Try.ntmps23
                  go_wp2
                  go_ret
                  exact fin (by rw [hk]; exact (decide_eq_false (by omega)).symm) rfl
              · go_enter Try.func23, Try.ntmps23
                go_wp2
                go_ret
                exact fin (by rw [hk]; exact (decide_eq_false (by omega)).symm) rfl
            · go_enter Try.func23, Try.ntmps23
              go_wp2
              go_ret
              exact fin (by rw [hk]; exact (decide_eq_false (by omega)).symm) rfl
          · go_enter Try.func23, Try.ntmps23
            go_wp2
            go_ret
            exact fin (by rw [hk]; exact (decide_eq_false (by omega)).symm) rfl
        · go_enter Try.func23, Try.ntmps23
          go_wp2
          go_ret
          exact fin (by rw [hk]; exact (decide_eq_false (by omega)).symm) rfl
      · go_enter Try.func23, Try.ntmps23
        go_wp2
        go_ret
        exact fin (by rw [hk]; exact (decide_eq_false (by omega)).symm) rfl
    · go_enter Try.func23, Try.ntmps23
      go_wp2
      go_ret
      exact fin (by rw [hk]; exact (decide_eq_false (by omega)).symm) rfl
  · go_enter Try.func23, Try.ntmps23
    go_wp2
    go_ret
    exact fin (by rw [hk]; exact (decide_eq_false (by omega)).symm) rfl

theorem xruleRight_any (r : Ru) (w : World) : Calls Try.prog 23 #[.agg #[.int .i64 r.id, .int .i64 r.pr, .int .i64 r.ac, .int .i64 r.sc, .string r.pat]] w fun e w' => e = .returned (.bool r.ok) ∧ Below w.heap.size w w' :=
  (xruleRight_at r w).mono fun _ _ ⟨he, hw⟩ => ⟨he, by rw [hw]; exact (Below.refl _ _).alloc (Nat.le_refl _) _⟩

set_option maxRecDepth 100000 in
set_option maxHeartbeats 4000000 in
theorem numR_any (s : RS) (v : Value) (hv : ∃ A n c, v = .slice A n c) (w : World) : Calls Try.prog 22 #[.agg #[.int .i64 s.de, .int .i64 s.cl, .int .i64 s.fu, .int .i64 s.st, v]] w fun e w' => e = .returned (.bool s.num) ∧ Below w.heap.size w w' := by
  obtain ⟨A, n, c, rfl⟩ := hv
  obtain ⟨de, cl, fu, st, rs⟩ := s
  simp only
  have HB := Lib.hid ((Below.refl w.heap.size w).alloc (Nat.le_refl _) (.cells #[.int .i64 de, .int .i64 cl, .int .i64 fu, .int .i64 st, .slice A n c] 35))
  obtain ⟨k, hk⟩ : ∃ k, k = RS.num ⟨de, cl, fu, st, rs⟩ := ⟨_, rfl⟩
  rw [← hk]
  unfold RS.num at hk
  simp only at hk
  have fin : ∀ {b : Bool} {w1 : World}, b = k → w1 = w.alloc (.cells #[.int .i64 de, .int .i64 cl, .int .i64 fu, .int .i64 st, .slice A n c] 35) → Ending.returned (.bool b) = Ending.returned (.bool k) ∧ Below w.heap.size w w1 := fun e e' => ⟨by rw [e], by rw [e']; exact HB.out⟩
  by_cases h0 : 0 ≤ de
  · by_cases h1 : de ≤ 255
    · by_cases h2 : 0 ≤ cl
      · by_cases h3 : cl ≤ 255
        · by_cases h4 : 1 ≤ fu
          · by_cases h5 : fu ≤ 1048576
            · by_cases h6 : 0 ≤ st
              · by_cases h7 : st ≤ 4096
                · go_enter Try.func22, Try.ntmps22
                  go_wp2
                  go_ret
                  exact fin (by rw [hk]; exact (decide_eq_true (by omega)).symm) rfl
                · go_enter Try.func22, Try.ntmps22
                  go_wp2
                  go_ret
                  exact fin (by rw [hk]; exact (decide_eq_false (by omega)).symm) rfl
              · go_enter Try.func22, Try.ntmps22
                go_wp2
                go_ret
                exact fin (by rw [hk]; exact (decide_eq_false (by omega)).symm) rfl
            · go_enter Try.func22, Try.ntmps22
              go_wp2
              go_ret
              exact fin (by rw [hk]; exact (decide_eq_false (by omega)).symm) rfl
          · go_enter Try.func22, Try.ntmps22
            go_wp2
            go_ret
            exact fin (by rw [hk]; exact (decide_eq_false (by omega)).symm) rfl
        · go_enter Try.func22, Try.ntmps22
          go_wp2
          go_ret
          exact fin (by rw [hk]; exact (decide_eq_false (by omega)).symm) rfl
      · go_enter Try.func22, Try.ntmps22
        go_wp2
        go_ret
        exact fin (by rw [hk]; exact (decide_eq_false (by omega)).symm) rfl
    · go_enter Try.func22, Try.ntmps22
      go_wp2
      go_ret
      exact fin (by rw [hk]; exact (decide_eq_false (by omega)).symm) rfl
  · go_enter Try.func22, Try.ntmps22
    go_wp2
    go_ret
    exact fin (by rw [hk]; exact (decide_eq_false (by omega)).symm) rfl

theorem orR_any (n keep : Int) (w : World) : Calls Try.prog 21 #[.int .i64 n, .int .i64 keep] w fun e w' => e = .returned (.int .i64 (orK n keep)) ∧ w' = w := by
  go_enter Try.func21, Try.ntmps21
  unfold orK
  by_cases h : n = -1
  · subst h
    go_wp2
    go_ret
    exact ⟨rfl, rfl⟩
  · rw [if_neg h]
    go_wp2
    go_ret
    exact ⟨rfl, rfl⟩

end Go.Proofs.Ytifpfpgibjmibaa
