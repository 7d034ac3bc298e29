/- Package rule: Set.Right, First. -/
import Derived.Test.YtifpfpgibjmibaaRuB
namespace Go.Proofs.Ytifpfpgibjmibaa
open Go.RowKit
variable {w w' : World}

theorem ok_eq (de cl fu st : Int) (rs : List Ru) : decide (RS.Ok ⟨de, cl, fu, st, rs⟩) = (decide (0 ≤ de ∧ de ≤ 255) && decide (0 ≤ cl ∧ cl ≤ 255) && decide (1 ≤ fu ∧ fu ≤ 1048576) && decide (0 ≤ st ∧ st ≤ 4096) && decide (rs.length ≤ 16) && rs.all Ru.ok && riseB 0 rs) := by
  rw [Bool.eq_iff_iff]
  simp only [Bool.and_eq_true, decide_eq_true_eq, RS.Ok, RS.num, List.all_eq_true, riseB_iff]
  constructor
  · rintro ⟨h1, h2, h3, h4⟩
    exact ⟨⟨⟨⟨⟨⟨by omega, by omega⟩, by omega⟩, by omega⟩, h2⟩, h3⟩, h4, fun r hr => by have := h3 r hr; simp only [Ru.ok, decide_eq_true_eq] at this; omega⟩
  · rintro ⟨⟨⟨⟨⟨⟨h1, h2⟩, h3⟩, h4⟩, h5⟩, h6⟩, h7, _⟩
    exact ⟨by omega, h5, h6, h7⟩

set_option maxRecDepth 100000 in
set_option maxHeartbeats 4000000 in
theorem setRight_any (s : RS) (v : Value) (w : World) (hmax : s.rs.length ≤ 1000000) (hS : RulesV w.heap.size w v s.rs) :
    Calls Try.prog 10 #[.agg #[.int .i64 s.de, .int .i64 s.cl, .int .i64 s.fu, .int .i64 s.st, v]] w fun e w' => e = .returned (.bool (decide s.Ok)) ∧ Below w.heap.size w w' := by
  obtain ⟨de, cl, fu, st, rs⟩ := s
  simp only at hmax hS ⊢
  obtain ⟨A, cap, rfl⟩ := hS.form
  have hb := (Below.refl w.heap.size w).alloc (Nat.le_refl _) (.cells #[.int .i64 de, .int .i64 cl, .int .i64 fu, .int .i64 st, .slice A rs.length cap] 24)
  have hx := Blk.new w 24 #[.int .i64 de, .int .i64 cl, .int .i64 fu, .int .i64 st, .slice A rs.length cap]
  have HB := Lib.hid hb
  have HX := Lib.hid hx
  have hS1 := hS.on ((Below.refl w.heap.size w).alloc (Nat.le_refl _) (.cells #[.int .i64 de, .int .i64 cl, .int .i64 fu, .int .i64 st, .slice A rs.length cap] 24))
  have HS := Lib.hid hS1
  clear hb hx hS hS1
  obtain ⟨k, hk⟩ : ∃ k, k = decide (RS.Ok ⟨de, cl, fu, st, rs⟩) := ⟨_, rfl⟩
  rw [← hk]
  have c1 := within_any de 0 255
  have c2 := within_any cl 0 255
  have c3 := within_any fu 1 1048576
  have c4 := within_any st 0 4096
  have c6 := fun (w : World) => ruall_any (.slice A rs.length cap) rs w hmax
  have c7 := fun (w : World) => rise_any (.slice A rs.length cap) rs w hmax
  rw [ok_eq] at hk
  generalize decide (0 ≤ de ∧ de ≤ 255) = b1 at c1 hk
  generalize decide (0 ≤ cl ∧ cl ≤ 255) = b2 at c2 hk
  generalize decide (1 ≤ fu ∧ fu ≤ 1048576) = b3 at c3 hk
  generalize decide (0 ≤ st ∧ st ≤ 4096) = b4 at c4 hk
  generalize rs.all Ru.ok = b6 at c6 hk
  generalize riseB 0 rs = b7 at c7 hk
  have C1 := Lib.hid c1
  have C2 := Lib.hid c2
  have C3 := Lib.hid c3
  have C4 := Lib.hid c4
  have C6 := Lib.hid c6
  have C7 := Lib.hid c7
  clear c1 c2 c3 c4 c6 c7
  have fin : ∀ {b : Bool} {w1 : World}, b = k → Below w.heap.size w w1 → Ending.returned (.bool b) = Ending.returned (.bool k) ∧ Below w.heap.size w w1 := fun e e' => ⟨by rw [e], e'⟩
  cases b1 with
  | false =>
    go_enter Try.func10, Try.ntmps10
    go_wp2_with fail
    refine (C1.out _).mono ?_
    rintro e w1 ⟨rfl, rfl⟩
    go_wp2
    go_ret
    exact fin (by rw [hk]; rfl) HB.out
  | true =>
  cases b2 with
  | false =>
    go_enter Try.func10, Try.ntmps10
    go_wp2_with fail
    refine (C1.out _).mono ?_
    rintro e w1 ⟨rfl, rfl⟩
    go_wp2_with fail
    refine (C2.out _).mono ?_
    rintro e w1 ⟨rfl, rfl⟩
    go_wp2
    go_ret
    exact fin (by rw [hk]; rfl) HB.out
  | true =>
  cases b3 with
  | false =>
    go_enter Try.func10, Try.ntmps10
    go_wp2_with fail
    refine (C1.out _).mono ?_
    rintro e w1 ⟨rfl, rfl⟩
    go_wp2_with fail
    refine (C2.out _).mono ?_
    rintro e w1 ⟨rfl, rfl⟩
    go_wp2_with fail
    refine (C3.out _).mono ?_
    rintro e w1 ⟨rfl, rfl⟩
    go_wp2
    go_ret
    exact fin (by rw [hk]; rfl) HB.out
  | true =>
  cases b4 with
  | false =>
    go_enter Try.func10, Try.ntmps10
    go_wp2_with fail
    refine (C1.out _).mono ?_
    rintro e w1 ⟨rfl, rfl⟩
    go_wp2_with fail
    refine (C2.out _).mono ?_
    rintro e w1 ⟨rfl, rfl⟩
    go_wp2_with fail
    refine (C3.out _).mono ?_
    rintro e w1 ⟨rfl, rfl⟩
    go_wp2_with fail
    refine (C4.out _).mono ?_
    rintro e w1 ⟨rfl, rfl⟩
    go_wp2
    go_ret
    exact fin (by rw [hk]; rfl) HB.out
  | true =>
  by_cases h5 : rs.length ≤ 16
  · have h5i : (rs.length : Int) ≤ 16 := by omega
    rw [decide_eq_true h5] at hk
    cases b6 with
    | false =>
      go_enter Try.func10, Try.ntmps10
      go_wp2_with fail
      refine (C1.out _).mono ?_
      rintro e w1 ⟨rfl, rfl⟩
      go_wp2_with fail
      refine (C2.out _).mono ?_
      rintro e w1 ⟨rfl, rfl⟩
      go_wp2_with fail
      refine (C3.out _).mono ?_
      rintro e w1 ⟨rfl, rfl⟩
      go_wp2_with fail
      refine (C4.out _).mono ?_
      rintro e w1 ⟨rfl, rfl⟩
      go_wp2_with fail
      refine (C6.out _ HS.out).mono ?_
      rintro e w1 ⟨rfl, hb1⟩
      have hv : w1.cell? ⟨w.heap.size, 4, none⟩ = some (.slice A rs.length cap) := (HX.out.on hb1).cell 4
      have HB1 := Lib.hid (HB.out.trans (hb1.mono HB.out.size))
      have HS1 := Lib.hid (HS.out.on hb1)
      clear hb1
      go_wp2
      go_ret
      exact fin (by rw [hk]; rfl) HB1.out
    | true =>
    go_enter Try.func10, Try.ntmps10
    go_wp2_with fail
    refine (C1.out _).mono ?_
    rintro e w1 ⟨rfl, rfl⟩
    go_wp2_with fail
    refine (C2.out _).mono ?_
    rintro e w1 ⟨rfl, rfl⟩
    go_wp2_with fail
    refine (C3.out _).mono ?_
    rintro e w1 ⟨rfl, rfl⟩
    go_wp2_with fail
    refine (C4.out _).mono ?_
    rintro e w1 ⟨rfl, rfl⟩
    go_wp2_with fail
    refine (C6.out _ HS.out).mono ?_
    rintro e w1 ⟨rfl, hb1⟩
    have hv : w1.cell? ⟨w.heap.size, 4, none⟩ = some (.slice A rs.length cap) := (HX.out.on hb1).cell 4
    have HB1 := Lib.hid (HB.out.trans (hb1.mono HB.out.size))
    have HS1 := Lib.hid (HS.out.on hb1)
    clear hb1
    go_wp2_with fail
    refine (C7.out _ HS1.out).mono ?_
    rintro e w2 ⟨rfl, hb2⟩
    have HB2 := Lib.hid (HB1.out.trans (hb2.mono HB1.out.size))
    clear hb2
    go_wp2
    go_ret
    exact fin (by rw [hk]; simp) HB2.out
  · have h5i : ¬ (rs.length : Int) ≤ 16 := by omega
    rw [decide_eq_false h5] at hk
    go_enter Try.func10, Try.ntmps10
    go_wp2_with fail
    refine (C1.out _).mono ?_
    rintro e w1 ⟨rfl, rfl⟩
    go_wp2_with fail
    refine (C2.out _).mono ?_
    rintro e w1 ⟨rfl, rfl⟩
    go_wp2_with fail
    refine (C3.out _).mono ?_
    rintro e w1 ⟨rfl, rfl⟩
    go_wp2_with fail
    refine (C4.out _).mono ?_
    rintro e w1 ⟨rfl, rfl⟩
    go_wp2
    go_ret
    exact ⟨rfl, HB.out⟩

set_option maxRecDepth 100000 in
theorem first_any (w : World) : Calls Try.prog 14 #[] w fun e w' => e = .returned (.agg #[.int .i64 0, .int .i64 255, .int .i64 10000, .int .i64 500, .slice none 0 0]) ∧ Below w.heap.size w w' := by
  go_enter Try.func14, Try.ntmps14
  go_wp2
  exact bodyPost_ret (v := .agg #[.int .i64 0, .int .i64 255, .int .i64 10000, .int .i64 500, .slice none 0 0]) (by simp [results, Try.results14, go_sem]) rfl ⟨rfl, by first | exact (Below.refl _ _).alloc (Nat.le_refl _) _ | skip⟩

end Go.Proofs.Ytifpfpgibjmibaa
