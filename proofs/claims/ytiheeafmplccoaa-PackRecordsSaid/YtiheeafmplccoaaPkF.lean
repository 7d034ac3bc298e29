/- Package pack: a message's and a record's Right. -/
import Derived.Test.YtiheeafmplccoaaPkE
namespace Go.Proofs.Ytiheeafmplccoaa
open Go.RowKit
variable {w w' : World}

theorem msgEntries_any (k : Int) (w : World) : Calls Try.prog 35 #[.int .i64 k] w fun e w' => e = .returned (.tuple #[.int .i64 (least k), .int .i64 (most k)]) ∧ w' = w := by
  go_enter Try.func35, Try.ntmps35
  unfold least most
  by_cases h1 : k = 1
  · subst h1
    go_wp2
    go_ret2
    exact ⟨rfl, rfl⟩
  · by_cases h5 : k = 5
    · subst h5
      go_wp2
      go_ret2
      exact ⟨rfl, rfl⟩
    · by_cases h6 : k = 6
      · subst h6
        go_wp2
        go_ret2
        exact ⟨rfl, rfl⟩
      · by_cases h8 : k = 8
        · subst h8
          go_wp2
          go_ret2
          exact ⟨rfl, rfl⟩
        · rw [if_neg h1, if_neg h1, if_neg (by omega)]
          go_wp2
          go_ret2
          exact ⟨rfl, rfl⟩
theorem recEntries_any (k : Int) (w : World) : Calls Try.prog 48 #[.int .i64 k] w fun e w' => e = .returned (.int .i64 (many k)) ∧ w' = w := by
  go_enter Try.func48, Try.ntmps48
  unfold many
  by_cases h1 : k = 2
  · subst h1
    go_wp2
    go_ret
    exact ⟨rfl, rfl⟩
  · rw [if_neg h1]
    go_wp2
    go_ret
    exact ⟨rfl, rfl⟩
set_option maxRecDepth 100000 in
set_option maxHeartbeats 4000000 in
theorem pmsg_any (m : Ms) (v : Value) (w : World) (hV : EntsV w.heap.size w v m.log) :
    Calls Try.prog 14 #[m.val v] w fun e w' => e = .returned (.bool m.ok) ∧ Below w.heap.size w w' := by
  obtain ⟨A, c, rfl⟩ := hV.form
  obtain ⟨k, vi, fr, to, op, co, no, log⟩ := m
  simp only at hV ⊢
  obtain ⟨q, hk⟩ : ∃ q, q = Ms.ok ⟨k, vi, fr, to, op, co, no, log⟩ := ⟨_, rfl⟩
  rw [← hk]
  unfold Ms.ok at hk
  simp only at hk
  have bel := ((Below.refl w.heap.size w).alloc (Nat.le_refl _) (.cells #[.int .i64 k, .int .i64 vi, .int .i64 fr, .int .i64 to, .int .i64 op, .int .i64 co, .int .i64 no, .slice A log.length c] 24))
  have BEL0 := Lib.hid bel
  have me := msgEntries_any k
  have hmo := most_le k
  have c1 := pin_any k 1 8
  generalize inR 1 8 k = b1 at c1 hk
  have C1 := Lib.hid c1
  have c2 := pin_any vi 0 1099511627776
  generalize inR 0 1099511627776 vi = b2 at c2 hk
  have C2 := Lib.hid c2
  have c3 := pin_any no 0 1099511627776
  generalize inR 0 1099511627776 no = b3 at c3 hk
  have C3 := Lib.hid c3
  have c4 := pin_any fr 0 6
  generalize inR 0 6 fr = b4 at c4 hk
  have C4 := Lib.hid c4
  have c5 := pin_any to 0 6
  generalize inR 0 6 to = b5 at c5 hk
  have C5 := Lib.hid c5
  have c6 := pin_any op 0 64
  generalize inR 0 64 op = b6 at c6 hk
  have C6 := Lib.hid c6
  have c7 := pin_any co 0 64
  generalize inR 0 64 co = b7 at c7 hk
  have C7 := Lib.hid c7
  have hlen : inR (least k) (most k) (log.length : Int) = true → log.length ≤ 1000000 := fun h => by have := (inR_iff.1 h).2; omega
  generalize least k = le at *
  generalize most k = mo at *
  have c8 := pin_any (log.length : Int) le mo
  generalize inR le mo (log.length : Int) = b8 at c8 hk hlen
  have C8 := Lib.hid c8
  have c9 := fun W v h H => allRightE_any v log W h H
  generalize log.all En.ok = b9 at c9 hk
  have C9 := Lib.hid c9
  have ME := Lib.hid me
  have HL := Lib.hid hlen
  have HV := Lib.hid (hV.on bel)
  have hsz : w.heap.size ≤ (w.alloc (.cells #[.int .i64 k, .int .i64 vi, .int .i64 fr, .int .i64 to, .int .i64 op, .int .i64 co, .int .i64 no, .slice A log.length c] 24)).heap.size := bel.size
  clear bel c1 c2 c3 c4 c5 c6 c7 c8 c9 me hlen hV hmo
  cases b1 with
  | false =>
    go_enter Try.func14, Try.ntmps14
    go_wp2_with fail
    refine (ME.out _).mono ?_
    rintro e w0 ⟨rfl, rfl⟩
    go_wp2_with fail
    refine (C1.out _).mono ?_
    rintro e w1 ⟨rfl, rfl⟩
    go_wp2
    go_ret
    exact ⟨ret_bool (by first | rfl | (rw [hk]; simp)), BEL0.out⟩
  | true =>
    cases b2 with
    | false =>
      go_enter Try.func14, Try.ntmps14
      go_wp2_with fail
      refine (ME.out _).mono ?_
      rintro e w0 ⟨rfl, rfl⟩
      go_wp2_with fail
      refine (C1.out _).mono ?_
      rintro e w1 ⟨rfl, rfl⟩
      go_wp2_with fail
      refine (C2.out _).mono ?_
      rintro e w2 ⟨rfl, rfl⟩
      go_wp2
      go_ret
      exact ⟨ret_bool (by first | rfl | (rw [hk]; simp)), BEL0.out⟩
    | true =>
      cases b3 with
      | false =>
        go_enter Try.func14, Try.ntmps14
        go_wp2_with fail
        refine (ME.out _).mono ?_
        rintro e w0 ⟨rfl, rfl⟩
        go_wp2_with fail
        refine (C1.out _).mono ?_
        rintro e w1 ⟨rfl, rfl⟩
        go_wp2_with fail
        refine (C2.out _).mono ?_
        rintro e w2 ⟨rfl, rfl⟩
        go_wp2_with fail
        refine (C3.out _).mono ?_
        rintro e w3 ⟨rfl, rfl⟩
        go_wp2
        go_ret
        exact ⟨ret_bool (by first | rfl | (rw [hk]; simp)), BEL0.out⟩
      | true =>
        cases b4 with
        | false =>
          go_enter Try.func14, Try.ntmps14
          go_wp2_with fail
          refine (ME.out _).mono ?_
          rintro e w0 ⟨rfl, rfl⟩
          go_wp2_with fail
          refine (C1.out _).mono ?_
          rintro e w1 ⟨rfl, rfl⟩
          go_wp2_with fail
          refine (C2.out _).mono ?_
          rintro e w2 ⟨rfl, rfl⟩
          go_wp2_with fail
          refine (C3.out _).mono ?_
          rintro e w3 ⟨rfl, rfl⟩
          go_wp2_with fail
          refine (C4.out _).mono ?_
          rintro e w4 ⟨rfl, rfl⟩
          go_wp2
          go_ret
          exact ⟨ret_bool (by first | rfl | (rw [hk]; simp)), BEL0.out⟩
        | true =>
          cases b5 with
          | false =>
            go_enter Try.func14, Try.ntmps14
            go_wp2_with fail
            refine (ME.out _).mono ?_
            rintro e w0 ⟨rfl, rfl⟩
            go_wp2_with fail
            refine (C1.out _).mono ?_
            rintro e w1 ⟨rfl, rfl⟩
            go_wp2_with fail
            refine (C2.out _).mono ?_
            rintro e w2 ⟨rfl, rfl⟩
            go_wp2_with fail
            refine (C3.out _).mono ?_
            rintro e w3 ⟨rfl, rfl⟩
            go_wp2_with fail
            refine (C4.out _).mono ?_
            rintro e w4 ⟨rfl, rfl⟩
            go_wp2_with fail
            refine (C5.out _).mono ?_
            rintro e w5 ⟨rfl, rfl⟩
            go_wp2
            go_ret
            exact ⟨ret_bool (by first | rfl | (rw [hk]; simp)), BEL0.out⟩
          | true =>
            cases b6 with
            | false =>
              go_enter Try.func14, Try.ntmps14
              go_wp2_with fail
              refine (ME.out _).mono ?_
              rintro e w0 ⟨rfl, rfl⟩
              go_wp2_with fail
              refine (C1.out _).mono ?_
              rintro e w1 ⟨rfl, rfl⟩
              go_wp2_with fail
              refine (C2.out _).mono ?_
              rintro e w2 ⟨rfl, rfl⟩
              go_wp2_with fail
              refine (C3.out _).mono ?_
              rintro e w3 ⟨rfl, rfl⟩
              go_wp2_with fail
              refine (C4.out _).mono ?_
              rintro e w4 ⟨rfl, rfl⟩
              go_wp2_with fail
              refine (C5.out _).mono ?_
              rintro e w5 ⟨rfl, rfl⟩
              go_wp2_with fail
              refine (C6.out _).mono ?_
              rintro e w6 ⟨rfl, rfl⟩
              go_wp2
              go_ret
              exact ⟨ret_bool (by first | rfl | (rw [hk]; simp)), BEL0.out⟩
            | true =>
              cases b7 with
              | false =>
                go_enter Try.func14, Try.ntmps14
                go_wp2_with fail
                refine (ME.out _).mono ?_
                rintro e w0 ⟨rfl, rfl⟩
                go_wp2_with fail
                refine (C1.out _).mono ?_
                rintro e w1 ⟨rfl, rfl⟩
                go_wp2_with fail
                refine (C2.out _).mono ?_
                rintro e w2 ⟨rfl, rfl⟩
                go_wp2_with fail
                refine (C3.out _).mono ?_
                rintro e w3 ⟨rfl, rfl⟩
                go_wp2_with fail
                refine (C4.out _).mono ?_
                rintro e w4 ⟨rfl, rfl⟩
                go_wp2_with fail
                refine (C5.out _).mono ?_
                rintro e w5 ⟨rfl, rfl⟩
                go_wp2_with fail
                refine (C6.out _).mono ?_
                rintro e w6 ⟨rfl, rfl⟩
                go_wp2_with fail
                refine (C7.out _).mono ?_
                rintro e w7 ⟨rfl, rfl⟩
                go_wp2
                go_ret
                exact ⟨ret_bool (by first | rfl | (rw [hk]; simp)), BEL0.out⟩
              | true =>
                cases b8 with
                | false =>
                  go_enter Try.func14, Try.ntmps14
                  go_wp2_with fail
                  refine (ME.out _).mono ?_
                  rintro e w0 ⟨rfl, rfl⟩
                  go_wp2_with fail
                  refine (C1.out _).mono ?_
                  rintro e w1 ⟨rfl, rfl⟩
                  go_wp2_with fail
                  refine (C2.out _).mono ?_
                  rintro e w2 ⟨rfl, rfl⟩
                  go_wp2_with fail
                  refine (C3.out _).mono ?_
                  rintro e w3 ⟨rfl, rfl⟩
                  go_wp2_with fail
                  refine (C4.out _).mono ?_
                  rintro e w4 ⟨rfl, rfl⟩
                  go_wp2_with fail
                  refine (C5.out _).mono ?_
                  rintro e w5 ⟨rfl, rfl⟩
                  go_wp2_with fail
                  refine (C6.out _).mono ?_
                  rintro e w6 ⟨rfl, rfl⟩
                  go_wp2_with fail
                  refine (C7.out _).mono ?_
                  rintro e w7 ⟨rfl, rfl⟩
                  go_wp2_with fail
                  refine (C8.out _).mono ?_
                  rintro e w8 ⟨rfl, rfl⟩
                  go_wp2
                  go_ret
                  exact ⟨ret_bool (by first | rfl | (rw [hk]; simp)), BEL0.out⟩
                | true =>
                  go_enter Try.func14, Try.ntmps14
                  go_wp2_with fail
                  refine (ME.out _).mono ?_
                  rintro e w0 ⟨rfl, rfl⟩
                  go_wp2_with fail
                  refine (C1.out _).mono ?_
                  rintro e w1 ⟨rfl, rfl⟩
                  go_wp2_with fail
                  refine (C2.out _).mono ?_
                  rintro e w2 ⟨rfl, rfl⟩
                  go_wp2_with fail
                  refine (C3.out _).mono ?_
                  rintro e w3 ⟨rfl, rfl⟩
                  go_wp2_with fail
                  refine (C4.out _).mono ?_
                  rintro e w4 ⟨rfl, rfl⟩
                  go_wp2_with fail
                  refine (C5.out _).mono ?_
                  rintro e w5 ⟨rfl, rfl⟩
                  go_wp2_with fail
                  refine (C6.out _).mono ?_
                  rintro e w6 ⟨rfl, rfl⟩
                  go_wp2_with fail
                  refine (C7.out _).mono ?_
                  rintro e w7 ⟨rfl, rfl⟩
                  go_wp2_with fail
                  refine (C8.out _).mono ?_
                  rintro e w8 ⟨rfl, rfl⟩
                  go_wp2_with fail
                  refine (C9.out _ _ (HL.out (by simp)) HV.out).mono ?_
                  rintro e w9 ⟨rfl, hb9⟩
                  have HB9 := Lib.hid (BEL0.out.trans (hb9.mono hsz))
                  clear hb9
                  go_wp2
                  go_ret
                  exact ⟨ret_bool (by first | rfl | (rw [hk]; simp)), HB9.out⟩
set_option maxRecDepth 100000 in
set_option maxHeartbeats 4000000 in
theorem prec_any (m : Rc) (v : Value) (w : World) (hV : EntsV w.heap.size w v m.log) :
    Calls Try.prog 22 #[m.val v] w fun e w' => e = .returned (.bool m.ok) ∧ Below w.heap.size w w' := by
  obtain ⟨A, c, rfl⟩ := hV.form
  obtain ⟨k, a, b, log⟩ := m
  simp only at hV ⊢
  obtain ⟨q, hk⟩ : ∃ q, q = Rc.ok ⟨k, a, b, log⟩ := ⟨_, rfl⟩
  rw [← hk]
  unfold Rc.ok at hk
  simp only at hk
  have bel := ((Below.refl w.heap.size w).alloc (Nat.le_refl _) (.cells #[.int .i64 k, .int .i64 a, .int .i64 b, .slice A log.length c] 44))
  have BEL0 := Lib.hid bel
  have me := recEntries_any k
  have hmo := many_le k
  have c1 := pin_any k 1 5
  generalize inR 1 5 k = b1 at c1 hk
  have C1 := Lib.hid c1
  have c2 := pin_any a 0 1099511627776
  generalize inR 0 1099511627776 a = b2 at c2 hk
  have C2 := Lib.hid c2
  have c3 := pin_any b 0 1099511627776
  generalize inR 0 1099511627776 b = b3 at c3 hk
  have C3 := Lib.hid c3
  generalize many k = mo at *
  have c9 := fun W v h H => allRightE_any v log W h H
  generalize log.all En.ok = b9 at c9 hk
  have C9 := Lib.hid c9
  have ME := Lib.hid me
  have HV := Lib.hid (hV.on bel)
  have hsz : w.heap.size ≤ (w.alloc (.cells #[.int .i64 k, .int .i64 a, .int .i64 b, .slice A log.length c] 44)).heap.size := bel.size
  clear bel c1 c2 c3 c9 me hV
  cases b1 with
  | false =>
    go_enter Try.func22, Try.ntmps22
    go_wp2_with fail
    refine (ME.out _).mono ?_
    rintro e w0 ⟨rfl, rfl⟩
    go_wp2_with fail
    refine (C1.out _).mono ?_
    rintro e w1 ⟨rfl, rfl⟩
    go_wp2
    go_ret
    exact ⟨ret_bool (by first | rfl | (rw [hk]; simp)), BEL0.out⟩
  | true =>
    cases b2 with
    | false =>
      go_enter Try.func22, Try.ntmps22
      go_wp2_with fail
      refine (ME.out _).mono ?_
      rintro e w0 ⟨rfl, rfl⟩
      go_wp2_with fail
      refine (C1.out _).mono ?_
      rintro e w1 ⟨rfl, rfl⟩
      go_wp2_with fail
      refine (C2.out _).mono ?_
      rintro e w2 ⟨rfl, rfl⟩
      go_wp2
      go_ret
      exact ⟨ret_bool (by first | rfl | (rw [hk]; simp)), BEL0.out⟩
    | true =>
      cases b3 with
      | false =>
        go_enter Try.func22, Try.ntmps22
        go_wp2_with fail
        refine (ME.out _).mono ?_
        rintro e w0 ⟨rfl, rfl⟩
        go_wp2_with fail
        refine (C1.out _).mono ?_
        rintro e w1 ⟨rfl, rfl⟩
        go_wp2_with fail
        refine (C2.out _).mono ?_
        rintro e w2 ⟨rfl, rfl⟩
        go_wp2_with fail
        refine (C3.out _).mono ?_
        rintro e w3 ⟨rfl, rfl⟩
        go_wp2
        go_ret
        exact ⟨ret_bool (by first | rfl | (rw [hk]; simp)), BEL0.out⟩
      | true =>
        by_cases h4 : (log.length : Int) = mo
        · rw [decide_eq_true h4] at hk
          go_enter Try.func22, Try.ntmps22
          go_wp2_with fail
          refine (ME.out _).mono ?_
          rintro e w0 ⟨rfl, rfl⟩
          go_wp2_with fail
          refine (C1.out _).mono ?_
          rintro e w1 ⟨rfl, rfl⟩
          go_wp2_with fail
          refine (C2.out _).mono ?_
          rintro e w2 ⟨rfl, rfl⟩
          go_wp2_with fail
          refine (C3.out _).mono ?_
          rintro e w3 ⟨rfl, rfl⟩
          go_wp2_with fail
          refine (C9.out _ _ (by omega) HV.out).mono ?_
          rintro e w9 ⟨rfl, hb9⟩
          have HB9 := Lib.hid (BEL0.out.trans (hb9.mono hsz))
          clear hb9
          go_wp2
          go_ret
          exact ⟨ret_bool (by first | rfl | (rw [hk]; simp)), HB9.out⟩
        · rw [decide_eq_false h4] at hk
          go_enter Try.func22, Try.ntmps22
          go_wp2_with fail
          refine (ME.out _).mono ?_
          rintro e w0 ⟨rfl, rfl⟩
          go_wp2_with fail
          refine (C1.out _).mono ?_
          rintro e w1 ⟨rfl, rfl⟩
          go_wp2_with fail
          refine (C2.out _).mono ?_
          rintro e w2 ⟨rfl, rfl⟩
          go_wp2_with fail
          refine (C3.out _).mono ?_
          rintro e w3 ⟨rfl, rfl⟩
          go_wp2
          go_ret
          exact ⟨ret_bool (by first | rfl | (rw [hk]; simp)), BEL0.out⟩
end Go.Proofs.Ytiheeafmplccoaa
