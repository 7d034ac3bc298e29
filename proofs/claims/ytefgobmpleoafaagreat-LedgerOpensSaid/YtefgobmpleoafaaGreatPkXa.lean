/- The document's Rights of messages and records. -/
import Derived.Test.YtefgobmpleoafaaGreatPkX
namespace Go.Proofs.YtefgobmpleoafaaGreat
open Go.RowKit
variable {w w' : World}

theorem inR_point {a n : Int} : inR a a n = decide (n = a) := by
  unfold inR
  exact decide_eq_decide.2 (by omega)
theorem inR_zero {b : Int} {n : Nat} : inR 0 b (n : Int) = decide ((n : Int) ≤ b) := by
  unfold inR
  exact decide_eq_decide.2 (by omega)
theorem all_nil0 {l : List En} (h : (l.length : Int) = 0) : l.all En.ok = true := by
  cases l with
  | nil => rfl
  | cons _ _ => exfalso; simp at h; omega
set_option maxRecDepth 100000 in
set_option maxHeartbeats 4000000 in
theorem xrec_any (m : Rc) (v : Value) (w : World) (hm : m.log.length ≤ 9223372036854775807) (hV : EntsV w.heap.size w v m.log) :
    Calls Tryz.prog 34 #[m.val v] w fun e w' => e = .returned (.bool m.ok) ∧ Below w.heap.size w w' := by
  obtain ⟨A, c, rfl⟩ := hV.form
  obtain ⟨k, a, b, log⟩ := m
  simp only at hV hm ⊢
  obtain ⟨q, hk⟩ : ∃ q, q = Rc.ok ⟨k, a, b, log⟩ := ⟨_, rfl⟩
  rw [← hk]
  unfold Rc.ok at hk
  simp only at hk
  have bel := ((Below.refl w.heap.size w).alloc (Nat.le_refl _) (.cells #[.int .i64 k, .int .i64 a, .int .i64 b, .slice A log.length c] 52))
  have BEL0 := Lib.hid bel
  have c1 := xin_any k 1 5
  generalize inR 1 5 k = b1 at c1 hk
  have C1 := Lib.hid c1
  have c2 := xin_any a 0 1099511627776
  generalize inR 0 1099511627776 a = b2 at c2 hk
  have C2 := Lib.hid c2
  have c3 := xin_any b 0 1099511627776
  generalize inR 0 1099511627776 b = b3 at c3 hk
  have C3 := Lib.hid c3
  have HV := Lib.hid (hV.on bel)
  have HM := Lib.hid hm
  have HK := Lib.hid hk
  have hsz : w.heap.size ≤ (w.alloc (.cells #[.int .i64 k, .int .i64 a, .int .i64 b, .slice A log.length c] 52)).heap.size := bel.size
  clear bel hV hm c1 c2 c3
  cases b1 with
  | false =>
    go_enter Tryz.func34, Tryz.ntmps34
    go_wp2_with fail
    refine (C1.out _).mono ?_
    rintro e w1 ⟨rfl, rfl⟩
    go_wp2
    go_ret
    exact ⟨ret_bool (by first | rfl | (rw [hk]; simp)), BEL0.out⟩
  | true =>
    cases b2 with
    | false =>
      go_enter Tryz.func34, Tryz.ntmps34
      go_wp2_with fail
      refine (C1.out _).mono ?_
      rintro e w1 ⟨rfl, rfl⟩
      go_wp2_with fail
      refine (C2.out _).mono ?_
      rintro e w2 ⟨rfl, rfl⟩
      go_wp2
      go_ret
      exact ⟨ret_bool (by first | rfl | (rw [hk]; simp)), BEL0.out⟩
    | true =>
      cases b3 with
      | false =>
        go_enter Tryz.func34, Tryz.ntmps34
        go_wp2_with fail
        refine (C1.out _).mono ?_
        rintro e w1 ⟨rfl, rfl⟩
        go_wp2_with fail
        refine (C2.out _).mono ?_
        rintro e w2 ⟨rfl, rfl⟩
        go_wp2_with fail
        refine (C3.out _).mono ?_
        rintro e w3 ⟨rfl, rfl⟩
        go_wp2
        go_ret
        exact ⟨ret_bool (by first | rfl | (rw [hk]; simp)), BEL0.out⟩
      | true =>
        go_enter Tryz.func34, Tryz.ntmps34
        go_wp2_with fail
        refine (C1.out _).mono ?_
        rintro e w1 ⟨rfl, rfl⟩
        go_wp2_with fail
        refine (C2.out _).mono ?_
        rintro e w2 ⟨rfl, rfl⟩
        go_wp2_with fail
        refine (C3.out _).mono ?_
        rintro e w3 ⟨rfl, rfl⟩
        clear hk
        by_cases hk1 : k = 2
        · subst hk1
          have hq : q = (decide ((log.length : Int) = 1) && log.all En.ok) := by have := HK.out; simpa [many] using this
          by_cases h1 : (log.length : Int) = 1
          · rw [decide_eq_true h1] at hq
            go_wp2_with fail
            refine (xall_any _ log 1 _ HM.out (by decide) HV.out).mono ?_
            rintro e w9 ⟨rfl, hb9⟩
            have HB9 := Lib.hid (BEL0.out.trans (hb9.mono hsz))
            clear hb9
            rw [decide_eq_true (by omega : (log.length : Int) ≤ 1)]
            generalize log.all En.ok = ba at hq ⊢
            cases ba
            all_goals
              go_wp2
              go_ret
              exact ⟨ret_bool (by rw [hq]; rfl), HB9.out⟩
          · rw [decide_eq_false h1] at hq
            go_wp2
            go_ret
            exact ⟨ret_bool (by rw [hq]; rfl), BEL0.out⟩
        · have hlm : many k = 0 := by unfold many; rw [if_neg hk1]
          have hq : q = (decide ((log.length : Int) = 0) && log.all En.ok) := by have := HK.out; simpa [hlm] using this
          by_cases h1 : (log.length : Int) = 0
          · rw [decide_eq_true h1, all_nil0 h1] at hq
            go_wp2
            go_ret
            exact ⟨ret_bool (by rw [hq]; first | rfl | (rw [show ((log.length : Int) == 0) = false by simpa using h1]; rfl)), BEL0.out⟩
          · rw [decide_eq_false h1] at hq
            go_wp2
            go_ret
            exact ⟨ret_bool (by rw [hq]; first | rfl | (rw [show ((log.length : Int) == 0) = false by simpa using h1]; rfl)), BEL0.out⟩
end Go.Proofs.YtefgobmpleoafaaGreat
