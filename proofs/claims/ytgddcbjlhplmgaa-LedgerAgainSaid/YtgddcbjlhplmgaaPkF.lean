/- Package pack: a message's and a record's Right. -/
import Derived.Test.YtgddcbjlhplmgaaPkE
namespace Go.Proofs.Ytgddcbjlhplmgaa
open Go.RowKit
variable {w w' : World}

theorem recEntries_any (k : Int) (w : World) : Calls Try.prog 42 #[.int .i64 k] w fun e w' => e = .returned (.int .i64 (many k)) ∧ w' = w := by
  go_enter Try.func42, Try.ntmps42
  unfold many
  by_cases h1 : k = 2
  · subst h1
    go_wp2
    go_ret
    exact ⟨rfl, rfl⟩
  · rw [if_neg h1]
    go_wp2
    go_ret
    exact ⟨rfl, rfl⟩
set_option maxRecDepth 100000 in
set_option maxHeartbeats 4000000 in
theorem prec_any (m : Rc) (v : Value) (w : World) (hV : EntsV w.heap.size w v m.log) :
    Calls Try.prog 25 #[m.val v] w fun e w' => e = .returned (.bool m.ok) ∧ Below w.heap.size w w' := by
  obtain ⟨A, c, rfl⟩ := hV.form
  obtain ⟨k, a, b, log⟩ := m
  simp only at hV ⊢
  obtain ⟨q, hk⟩ : ∃ q, q = Rc.ok ⟨k, a, b, log⟩ := ⟨_, rfl⟩
  rw [← hk]
  unfold Rc.ok at hk
  simp only at hk
  have bel := ((Below.refl w.heap.size w).alloc (Nat.le_refl _) (.cells #[.int .i64 k, .int .i64 a, .int .i64 b, .slice A log.length c] 26))
  have BEL0 := Lib.hid bel
  have me := recEntries_any k
  have hmo := many_le k
  have c1 := pin_any k 1 5
  generalize inR 1 5 k = b1 at c1 hk
  have C1 := Lib.hid c1
  have c2 := pin_any a 0 1099511627776
  generalize inR 0 1099511627776 a = b2 at c2 hk
  have C2 := Lib.hid c2
  have c3 := pin_any b 0 1099511627776
  generalize inR 0 1099511627776 b = b3 at c3 hk
  have C3 := Lib.hid c3
  generalize many k = mo at *
  have c9 := fun W v h H => allRightE_any v log W h H
  generalize log.all En.ok = b9 at c9 hk
  have C9 := Lib.hid c9
  have ME := Lib.hid me
  have HV := Lib.hid (hV.on bel)
  have hsz : w.heap.size ≤ (w.alloc (.cells #[.int .i64 k, .int .i64 a, .int .i64 b, .slice A log.length c] 26)).heap.size := bel.size
  clear bel c1 c2 c3 c9 me hV
  cases b1 with
  | false =>
    go_enter Try.func25, Try.ntmps25
    go_wp2_with fail
    refine (ME.out _).mono ?_
    rintro e w0 ⟨rfl, rfl⟩
    go_wp2_with fail
    refine (C1.out _).mono ?_
    rintro e w1 ⟨rfl, rfl⟩
    go_wp2
    go_ret
    exact ⟨ret_bool (by first | rfl | (rw [hk]; simp)), BEL0.out⟩
  | true =>
    cases b2 with
    | false =>
      go_enter Try.func25, Try.ntmps25
      go_wp2_with fail
      refine (ME.out _).mono ?_
      rintro e w0 ⟨rfl, rfl⟩
      go_wp2_with fail
      refine (C1.out _).mono ?_
      rintro e w1 ⟨rfl, rfl⟩
      go_wp2_with fail
      refine (C2.out _).mono ?_
      rintro e w2 ⟨rfl, rfl⟩
      go_wp2
      go_ret
      exact ⟨ret_bool (by first | rfl | (rw [hk]; simp)), BEL0.out⟩
    | true =>
      cases b3 with
      | false =>
        go_enter Try.func25, Try.ntmps25
        go_wp2_with fail
        refine (ME.out _).mono ?_
        rintro e w0 ⟨rfl, rfl⟩
        go_wp2_with fail
        refine (C1.out _).mono ?_
        rintro e w1 ⟨rfl, rfl⟩
        go_wp2_with fail
        refine (C2.out _).mono ?_
        rintro e w2 ⟨rfl, rfl⟩
        go_wp2_with fail
        refine (C3.out _).mono ?_
        rintro e w3 ⟨rfl, rfl⟩
        go_wp2
        go_ret
        exact ⟨ret_bool (by first | rfl | (rw [hk]; simp)), BEL0.out⟩
      | true =>
        by_cases h4 : (log.length : Int) = mo
        · rw [decide_eq_true h4] at hk
          go_enter Try.func25, Try.ntmps25
          go_wp2_with fail
          refine (ME.out _).mono ?_
          rintro e w0 ⟨rfl, rfl⟩
          go_wp2_with fail
          refine (C1.out _).mono ?_
          rintro e w1 ⟨rfl, rfl⟩
          go_wp2_with fail
          refine (C2.out _).mono ?_
          rintro e w2 ⟨rfl, rfl⟩
          go_wp2_with fail
          refine (C3.out _).mono ?_
          rintro e w3 ⟨rfl, rfl⟩
          go_wp2_with fail
          refine (C9.out _ _ (by omega) HV.out).mono ?_
          rintro e w9 ⟨rfl, hb9⟩
          have HB9 := Lib.hid (BEL0.out.trans (hb9.mono hsz))
          clear hb9
          go_wp2
          go_ret
          exact ⟨ret_bool (by first | rfl | (rw [hk]; simp)), HB9.out⟩
        · rw [decide_eq_false h4] at hk
          go_enter Try.func25, Try.ntmps25
          go_wp2_with fail
          refine (ME.out _).mono ?_
          rintro e w0 ⟨rfl, rfl⟩
          go_wp2_with fail
          refine (C1.out _).mono ?_
          rintro e w1 ⟨rfl, rfl⟩
          go_wp2_with fail
          refine (C2.out _).mono ?_
          rintro e w2 ⟨rfl, rfl⟩
          go_wp2_with fail
          refine (C3.out _).mono ?_
          rintro e w3 ⟨rfl, rfl⟩
          go_wp2
          go_ret
          exact ⟨ret_bool (by first | rfl | (rw [hk]; simp)), BEL0.out⟩
end Go.Proofs.Ytgddcbjlhplmgaa
