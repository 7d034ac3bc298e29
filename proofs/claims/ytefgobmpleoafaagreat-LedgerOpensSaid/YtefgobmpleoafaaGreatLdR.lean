/- Layer 13: a state's Right. (Written by genLdR.py.) -/
import Derived.Test.YtefgobmpleoafaaGreatMLa
namespace Go.Proofs.YtefgobmpleoafaaGreat
open Go.RowKit
variable {w w' : World}
set_option maxRecDepth 100000 in
set_option maxHeartbeats 8000000 in
theorem sright_any (s : St) (v : Value) (w : World) (hV : EntsV w.heap.size w v s.log) :
    Calls Tryz.prog 42 #[s.val v] w fun e w' => e = .returned (.bool s.ok) ∧ Below w.heap.size w w' := by
  obtain ⟨A, c, rfl⟩ := hV.form
  obtain ⟨vi, no, co, ac, log⟩ := s
  simp only at hV ⊢
  obtain ⟨q, hk⟩ : ∃ q, q = St.ok ⟨vi, no, co, ac, log⟩ := ⟨_, rfl⟩
  rw [← hk]
  unfold St.ok at hk
  simp only at hk
  have bel := ((Below.refl w.heap.size w).alloc (Nat.le_refl _) (.cells #[.int .i64 vi, .int .i64 no, .int .i64 co, .int .i64 ac, .slice A log.length c] 41))
  have BEL0 := Lib.hid bel
  have c1 := lin_any vi 0 1099511627776
  generalize inR 0 1099511627776 vi = b1 at c1 hk
  have C1 := Lib.hid c1
  have c2 := lin_any no 0 vi
  generalize inR 0 vi no = b2 at c2 hk
  have C2 := Lib.hid c2
  have c4 := fun h => contains_any _ log _ h (hV.on bel)
  generalize log.all En.ok = b4 at c4 hk
  have C4 := Lib.hid c4
  have c5 := lin_any co 0 (log.length : Int)
  generalize inR 0 (log.length : Int) co = b5 at c5 hk
  have C5 := Lib.hid c5
  have c6 := lin_any ac 0 64
  generalize inR 0 64 ac = b6 at c6 hk
  have C6 := Lib.hid c6
  have hsz : w.heap.size ≤ (w.alloc (.cells #[.int .i64 vi, .int .i64 no, .int .i64 co, .int .i64 ac, .slice A log.length c] 41)).heap.size := bel.size
  clear bel c1 c2 c4 c5 c6 hV
  cases b1 with
  | false =>
    go_enter Tryz.func42, Tryz.ntmps42
    go_wp2_with fail
    refine (C1.out _).mono ?_
    rintro e w1 ⟨rfl, rfl⟩
    go_wp2
    go_ret
    exact ⟨ret_bool (by first | rfl | (rw [hk]; simp)), BEL0.out⟩
  | true =>
    cases b2 with
    | false =>
      go_enter Tryz.func42, Tryz.ntmps42
      go_wp2_with fail
      refine (C1.out _).mono ?_
      rintro e w1 ⟨rfl, rfl⟩
      go_wp2_with fail
      refine (C2.out _).mono ?_
      rintro e w2 ⟨rfl, rfl⟩
      go_wp2
      go_ret
      exact ⟨ret_bool (by first | rfl | (rw [hk]; simp)), BEL0.out⟩
    | true =>
      by_cases h3 : log.length ≤ 64
      · rw [decide_eq_true h3] at hk
        cases b4 with
        | false =>
          go_enter Tryz.func42, Tryz.ntmps42
          go_wp2_with fail
          refine (C1.out _).mono ?_
          rintro e w1 ⟨rfl, rfl⟩
          go_wp2_with fail
          refine (C2.out _).mono ?_
          rintro e w2 ⟨rfl, rfl⟩
          go_wp2_with fail
          refine (C4.out (by omega)).mono ?_
          rintro e w4 ⟨rfl, hb4⟩
          have hX : Blk w4 w.heap.size 41 #[.int .i64 vi, .int .i64 no, .int .i64 co, .int .i64 ac, .slice A log.length c] := (Blk.new w _ _).on hb4
          have g2 := hX.cell 2
          have g3 := hX.cell 3
          have g4 := hX.cell 4
          have hl4 := hX.lt
          have HB4 := Lib.hid (BEL0.out.trans (hb4.mono hsz))
          clear hb4
          go_wp2
          go_ret
          exact ⟨ret_bool (by first | rfl | (rw [hk]; simp)), HB4.out⟩
        | true =>
          cases b5 with
          | false =>
            go_enter Tryz.func42, Tryz.ntmps42
            go_wp2_with fail
            refine (C1.out _).mono ?_
            rintro e w1 ⟨rfl, rfl⟩
            go_wp2_with fail
            refine (C2.out _).mono ?_
            rintro e w2 ⟨rfl, rfl⟩
            go_wp2_with fail
            refine (C4.out (by omega)).mono ?_
            rintro e w4 ⟨rfl, hb4⟩
            have hX : Blk w4 w.heap.size 41 #[.int .i64 vi, .int .i64 no, .int .i64 co, .int .i64 ac, .slice A log.length c] := (Blk.new w _ _).on hb4
            have g2 := hX.cell 2
            have g3 := hX.cell 3
            have g4 := hX.cell 4
            have hl4 := hX.lt
            have HB4 := Lib.hid (BEL0.out.trans (hb4.mono hsz))
            clear hb4
            go_wp2_with fail
            refine (C5.out _).mono ?_
            rintro e w5 ⟨rfl, rfl⟩
            go_wp2
            go_ret
            exact ⟨ret_bool (by first | rfl | (rw [hk]; simp)), HB4.out⟩
          | true =>
            cases b6 with
            | false =>
              go_enter Tryz.func42, Tryz.ntmps42
              go_wp2_with fail
              refine (C1.out _).mono ?_
              rintro e w1 ⟨rfl, rfl⟩
              go_wp2_with fail
              refine (C2.out _).mono ?_
              rintro e w2 ⟨rfl, rfl⟩
              go_wp2_with fail
              refine (C4.out (by omega)).mono ?_
              rintro e w4 ⟨rfl, hb4⟩
              have hX : Blk w4 w.heap.size 41 #[.int .i64 vi, .int .i64 no, .int .i64 co, .int .i64 ac, .slice A log.length c] := (Blk.new w _ _).on hb4
              have g2 := hX.cell 2
              have g3 := hX.cell 3
              have g4 := hX.cell 4
              have hl4 := hX.lt
              have HB4 := Lib.hid (BEL0.out.trans (hb4.mono hsz))
              clear hb4
              go_wp2_with fail
              refine (C5.out _).mono ?_
              rintro e w5 ⟨rfl, rfl⟩
              go_wp2_with fail
              refine (C6.out _).mono ?_
              rintro e w6 ⟨rfl, rfl⟩
              go_wp2
              go_ret
              exact ⟨ret_bool (by first | rfl | (rw [hk]; simp)), HB4.out⟩
            | true =>
              go_enter Tryz.func42, Tryz.ntmps42
              go_wp2_with fail
              refine (C1.out _).mono ?_
              rintro e w1 ⟨rfl, rfl⟩
              go_wp2_with fail
              refine (C2.out _).mono ?_
              rintro e w2 ⟨rfl, rfl⟩
              go_wp2_with fail
              refine (C4.out (by omega)).mono ?_
              rintro e w4 ⟨rfl, hb4⟩
              have hX : Blk w4 w.heap.size 41 #[.int .i64 vi, .int .i64 no, .int .i64 co, .int .i64 ac, .slice A log.length c] := (Blk.new w _ _).on hb4
              have g2 := hX.cell 2
              have g3 := hX.cell 3
              have g4 := hX.cell 4
              have hl4 := hX.lt
              have HB4 := Lib.hid (BEL0.out.trans (hb4.mono hsz))
              clear hb4
              go_wp2_with fail
              refine (C5.out _).mono ?_
              rintro e w5 ⟨rfl, rfl⟩
              go_wp2_with fail
              refine (C6.out _).mono ?_
              rintro e w6 ⟨rfl, rfl⟩
              go_wp2
              go_ret
              exact ⟨ret_bool (by first | rfl | (rw [hk]; simp)), HB4.out⟩
      · rw [decide_eq_false h3] at hk
        go_enter Tryz.func42, Tryz.ntmps42
        go_wp2_with fail
        refine (C1.out _).mono ?_
        rintro e w1 ⟨rfl, rfl⟩
        go_wp2_with fail
        refine (C2.out _).mono ?_
        rintro e w2 ⟨rfl, rfl⟩
        go_wp2
        go_ret
        exact ⟨ret_bool (by first | rfl | (rw [hk]; simp)), BEL0.out⟩
end Go.Proofs.YtefgobmpleoafaaGreat
