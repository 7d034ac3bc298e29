/- The document's Rights of entries. -/
import Derived.Test.YtefgobmpleoafaaGreatPkP
namespace Go.Proofs.YtefgobmpleoafaaGreat
open Go.RowKit
variable {w w' : World}

set_option maxRecDepth 100000 in
set_option maxHeartbeats 4000000 in
theorem xruleRight_at (r : Ru) (w : World) : Calls Tryz.prog 80 #[.agg #[.int .i64 r.id, .int .i64 r.pr, .int .i64 r.ac, .int .i64 r.sc, .string r.pat]] w fun e w' => e = .returned (.bool r.ok) ∧ w' = w.alloc (.cells #[.int .i64 r.id, .int .i64 r.pr, .int .i64 r.ac, .int .i64 r.sc, .string r.pat] 125) := by
  obtain ⟨id, pr, ac, sc, pat⟩ := r
  simp only
  obtain ⟨k, hk⟩ : ∃ k, k = Ru.ok ⟨id, pr, ac, sc, pat⟩ := ⟨_, rfl⟩
  rw [← hk]
  unfold Ru.ok at hk
  simp only at hk
  have fin : ∀ {b : Bool} {w1 : World}, b = k → w1 = w.alloc (.cells #[.int .i64 id, .int .i64 pr, .int .i64 ac, .int .i64 sc, .string pat] 125) → Ending.returned (.bool b) = Ending.returned (.bool k) ∧ w1 = w.alloc (.cells #[.int .i64 id, .int .i64 pr, .int .i64 ac, .int .i64 sc, .string pat] 125) := fun e e' => ⟨by rw [e], e'⟩
  by_cases h0 : 1 ≤ id
  · by_cases h1 : id ≤ 1099511627776
    · by_cases h2 : 0 ≤ pr
      · by_cases h3 : pr ≤ 1000
        · by_cases h4 : 0 ≤ ac
          · by_cases h5 : ac ≤ 255
            · by_cases h6 : 1 ≤ sc
              · by_cases h7 : sc ≤ 65535
                · by_cases h8 : (pat.size : Int) ≤ 256
                  · go_enter Tryz.func80, Tryz.ntmps80
                    go_wp2
                    go_ret
                    exact fin (by rw [hk]; exact (decide_eq_true (by omega)).symm) rfl
                  · go_enter Tryz.func80, Tryz.ntmps80
                    go_wp2
                    go_ret
                    exact fin (by rw [hk]; exact (decide_eq_false (by omega)).symm) rfl
                · go_enter Tryz.func80, Tryz.ntmps80
                  go_wp2
                  go_ret
                  exact fin (by rw [hk]; exact (decide_eq_false (by omega)).symm) rfl
              · go_enter Tryz.func80, Tryz.ntmps80
                go_wp2
                go_ret
                exact fin (by rw [hk]; exact (decide_eq_false (by omega)).symm) rfl
            · go_enter Tryz.func80, Tryz.ntmps80
              go_wp2
              go_ret
              exact fin (by rw [hk]; exact (decide_eq_false (by omega)).symm) rfl
          · go_enter Tryz.func80, Tryz.ntmps80
            go_wp2
            go_ret
            exact fin (by rw [hk]; exact (decide_eq_false (by omega)).symm) rfl
        · go_enter Tryz.func80, Tryz.ntmps80
          go_wp2
          go_ret
          exact fin (by rw [hk]; exact (decide_eq_false (by omega)).symm) rfl
      · go_enter Tryz.func80, Tryz.ntmps80
        go_wp2
        go_ret
        exact fin (by rw [hk]; exact (decide_eq_false (by omega)).symm) rfl
    · go_enter Tryz.func80, Tryz.ntmps80
      go_wp2
      go_ret
      exact fin (by rw [hk]; exact (decide_eq_false (by omega)).symm) rfl
  · go_enter Tryz.func80, Tryz.ntmps80
    go_wp2
    go_ret
    exact fin (by rw [hk]; exact (decide_eq_false (by omega)).symm) rfl

theorem xruleRight_any (r : Ru) (w : World) : Calls Tryz.prog 80 #[.agg #[.int .i64 r.id, .int .i64 r.pr, .int .i64 r.ac, .int .i64 r.sc, .string r.pat]] w fun e w' => e = .returned (.bool r.ok) ∧ Below w.heap.size w w' :=
  (xruleRight_at r w).mono fun _ _ ⟨he, hw⟩ => ⟨he, by rw [hw]; exact (Below.refl _ _).alloc (Nat.le_refl _) _⟩

theorem xin_any (n lo hi : Int) (w : World) : Calls Tryz.prog 49 #[.int .i64 n, .int .i64 lo, .int .i64 hi] w fun e w' => e = .returned (.bool (inR lo hi n)) ∧ w' = w := by
  go_enter Tryz.func49, Tryz.ntmps49
  unfold inR
  by_cases h1 : lo ≤ n
  · by_cases h2 : n ≤ hi
    · rw [decide_eq_true ⟨h1, h2⟩]
      go_wp2
      go_ret
      exact ⟨rfl, rfl⟩
    · rw [decide_eq_false (fun h => h2 h.2)]
      go_wp2
      go_ret
      exact ⟨rfl, rfl⟩
  · rw [decide_eq_false (fun h => h1 h.1)]
    go_wp2
    go_ret
    exact ⟨rfl, rfl⟩
set_option maxRecDepth 100000 in
set_option maxHeartbeats 4000000 in
theorem xentry_any (x : En) (p d : Value) (w : World) (hp : RulesV w.heap.size w p x.d.put) (hd : Row w.heap.size w d (zI x.d.drop)) :
    Calls Tryz.prog 69 #[x.val p d] w fun e w' => e = .returned (.bool x.ok) ∧ Below w.heap.size w w' := by
  obtain ⟨Ap, cp, rfl⟩ := hp.form
  obtain ⟨Ad, cd, rfl⟩ := hd.form
  obtain ⟨vi, cl, re, x⟩ := x
  obtain ⟨de, dcl, fu, st, put, drop⟩ := x
  simp only at hp hd ⊢
  rw [zI_len] at hd ⊢
  obtain ⟨np, hnp⟩ : ∃ np, np = put.length := ⟨_, rfl⟩
  obtain ⟨nd, hnd⟩ : ∃ nd, nd = drop.length := ⟨_, rfl⟩
  obtain ⟨k, hk⟩ : ∃ k, k = En.ok ⟨vi, cl, re, ⟨de, dcl, fu, st, put, drop⟩⟩ := ⟨_, rfl⟩
  rw [← hk]
  have hk : k = (inR 0 1099511627776 vi && inR 1 1099511627776 cl && inR 1 1099511627776 re && (decide (np ≤ 16) && decide (nd ≤ 16) && (inR (-1) 1099511627776 de && inR (-1) 1099511627776 dcl && inR (-1) 1099511627776 fu && inR (-1) 1099511627776 st && put.all Ru.ok && drop.all (inR 1 1099511627776)))) := by
    rw [hk, hnp, hnd]
    unfold En.ok Dl.okP
    simp only [List.all_cons, List.all_nil, Bool.and_true]
    generalize inR 0 1099511627776 vi = b1
    generalize inR 1 1099511627776 cl = b2
    generalize inR 1 1099511627776 re = b3
    generalize inR (-1) 1099511627776 de = b4
    generalize inR (-1) 1099511627776 dcl = b5
    generalize inR (-1) 1099511627776 fu = b6
    generalize inR (-1) 1099511627776 st = b7
    generalize decide (put.length ≤ 16) = b8
    generalize decide (drop.length ≤ 16) = b9
    generalize put.all Ru.ok = b10
    generalize drop.all (inR 1 1099511627776) = b11
    cases b1 <;> cases b2 <;> cases b3 <;> cases b4 <;> cases b5 <;> cases b6 <;> cases b7 <;> cases b8 <;> cases b9 <;> cases b10 <;> rfl
  rw [← hnp] at hp ⊢
  rw [← hnd] at hd ⊢
  have bel : Below w.heap.size w ((w.alloc (.cells #[.int .i64 vi, .int .i64 cl, .int .i64 re, .int .i64 de, .int .i64 dcl, .int .i64 fu, .int .i64 st, .slice Ap np cp, .slice Ad nd cd] 78)).alloc (.cells #[.int .i64 de, .int .i64 dcl, .int .i64 fu, .int .i64 st, .slice Ap np cp, .slice Ad nd cd] 76)) := ((Below.refl w.heap.size w).alloc (Nat.le_refl _) _).alloc (by simp) _
  have BEL := Lib.hid bel
  have HB : Hid (Blk ((w.alloc (.cells #[.int .i64 vi, .int .i64 cl, .int .i64 re, .int .i64 de, .int .i64 dcl, .int .i64 fu, .int .i64 st, .slice Ap np cp, .slice Ad nd cd] 78)).alloc (.cells #[.int .i64 de, .int .i64 dcl, .int .i64 fu, .int .i64 st, .slice Ap np cp, .slice Ad nd cd] 76)) (w.heap.size + 1) 76 #[.int .i64 de, .int .i64 dcl, .int .i64 fu, .int .i64 st, .slice Ap np cp, .slice Ad nd cd]) := Lib.hid (Blk.at_new _ _ (by simp) _ _)
  have HP := Lib.hid (hp.on bel)
  have HD := Lib.hid ((hd.below bel).more bel.size)
  have HNP := Lib.hid hnp
  have HND := Lib.hid hnd
  have hsz : w.heap.size + 1 < ((w.alloc (.cells #[.int .i64 vi, .int .i64 cl, .int .i64 re, .int .i64 de, .int .i64 dcl, .int .i64 fu, .int .i64 st, .slice Ap np cp, .slice Ad nd cd] 78)).alloc (.cells #[.int .i64 de, .int .i64 dcl, .int .i64 fu, .int .i64 st, .slice Ap np cp, .slice Ad nd cd] 76)).heap.size := by simp
  clear bel hp hd hnp hnd
  have c1 := xin_any vi 0 1099511627776
  generalize inR 0 1099511627776 vi = b1 at c1 hk
  have C1 := Lib.hid c1
  clear c1
  have c2 := xin_any cl 1 1099511627776
  generalize inR 1 1099511627776 cl = b2 at c2 hk
  have C2 := Lib.hid c2
  clear c2
  have c3 := xin_any re 1 1099511627776
  generalize inR 1 1099511627776 re = b3 at c3 hk
  have C3 := Lib.hid c3
  clear c3
  have c4 := xin_any de (-1) 1099511627776
  generalize inR (-1) 1099511627776 de = b4 at c4 hk
  have C4 := Lib.hid c4
  clear c4
  have c5 := xin_any dcl (-1) 1099511627776
  generalize inR (-1) 1099511627776 dcl = b5 at c5 hk
  have C5 := Lib.hid c5
  clear c5
  have c6 := xin_any fu (-1) 1099511627776
  generalize inR (-1) 1099511627776 fu = b6 at c6 hk
  have C6 := Lib.hid c6
  clear c6
  have c7 := xin_any st (-1) 1099511627776
  generalize inR (-1) 1099511627776 st = b7 at c7 hk
  have C7 := Lib.hid c7
  clear c7
  cases b1 with
  | false =>
    go_enter Tryz.func69, Tryz.ntmps69
    go_wp2_with fail
    refine (C1.out _).mono ?_
    rintro e w1 ⟨rfl, rfl⟩
    go_wp2
    go_ret
    exact ⟨ret_bool (by first | rfl | (rw [hk]; simp)), BEL.out⟩
  | true =>
    cases b2 with
    | false =>
      go_enter Tryz.func69, Tryz.ntmps69
      go_wp2_with fail
      refine (C1.out _).mono ?_
      rintro e w1 ⟨rfl, rfl⟩
      go_wp2_with fail
      refine (C2.out _).mono ?_
      rintro e w2 ⟨rfl, rfl⟩
      go_wp2
      go_ret
      exact ⟨ret_bool (by first | rfl | (rw [hk]; simp)), BEL.out⟩
    | true =>
      cases b3 with
      | false =>
        go_enter Tryz.func69, Tryz.ntmps69
        go_wp2_with fail
        refine (C1.out _).mono ?_
        rintro e w1 ⟨rfl, rfl⟩
        go_wp2_with fail
        refine (C2.out _).mono ?_
        rintro e w2 ⟨rfl, rfl⟩
        go_wp2_with fail
        refine (C3.out _).mono ?_
        rintro e w3 ⟨rfl, rfl⟩
        go_wp2
        go_ret
        exact ⟨ret_bool (by first | rfl | (rw [hk]; simp)), BEL.out⟩
      | true =>
        by_cases h4 : np ≤ 16
        · rw [decide_eq_true h4] at hk
          have h4i : ¬ (16 : Int) < (np : Int) := by omega
          by_cases h5 : nd ≤ 16
          · rw [decide_eq_true h5] at hk
            have h5i : ¬ (16 : Int) < (nd : Int) := by omega
            cases b4 with
            | false =>
              go_enter Tryz.func69, Tryz.ntmps69
              go_wp2_with fail
              refine (C1.out _).mono ?_
              rintro e w1 ⟨rfl, rfl⟩
              go_wp2_with fail
              refine (C2.out _).mono ?_
              rintro e w2 ⟨rfl, rfl⟩
              go_wp2_with fail
              refine (C3.out _).mono ?_
              rintro e w3 ⟨rfl, rfl⟩
              go_wp2_with fail
              refine (C4.out _).mono ?_
              rintro e w4 ⟨rfl, rfl⟩
              go_wp2
              go_ret
              exact ⟨ret_bool (by first | rfl | (rw [hk]; simp)), BEL.out⟩
            | true =>
              cases b5 with
              | false =>
                go_enter Tryz.func69, Tryz.ntmps69
                go_wp2_with fail
                refine (C1.out _).mono ?_
                rintro e w1 ⟨rfl, rfl⟩
                go_wp2_with fail
                refine (C2.out _).mono ?_
                rintro e w2 ⟨rfl, rfl⟩
                go_wp2_with fail
                refine (C3.out _).mono ?_
                rintro e w3 ⟨rfl, rfl⟩
                go_wp2_with fail
                refine (C4.out _).mono ?_
                rintro e w4 ⟨rfl, rfl⟩
                go_wp2_with fail
                refine (C5.out _).mono ?_
                rintro e w5 ⟨rfl, rfl⟩
                go_wp2
                go_ret
                exact ⟨ret_bool (by first | rfl | (rw [hk]; simp)), BEL.out⟩
              | true =>
                cases b6 with
                | false =>
                  go_enter Tryz.func69, Tryz.ntmps69
                  go_wp2_with fail
                  refine (C1.out _).mono ?_
                  rintro e w1 ⟨rfl, rfl⟩
                  go_wp2_with fail
                  refine (C2.out _).mono ?_
                  rintro e w2 ⟨rfl, rfl⟩
                  go_wp2_with fail
                  refine (C3.out _).mono ?_
                  rintro e w3 ⟨rfl, rfl⟩
                  go_wp2_with fail
                  refine (C4.out _).mono ?_
                  rintro e w4 ⟨rfl, rfl⟩
                  go_wp2_with fail
                  refine (C5.out _).mono ?_
                  rintro e w5 ⟨rfl, rfl⟩
                  go_wp2_with fail
                  refine (C6.out _).mono ?_
                  rintro e w6 ⟨rfl, rfl⟩
                  go_wp2
                  go_ret
                  exact ⟨ret_bool (by first | rfl | (rw [hk]; simp)), BEL.out⟩
                | true =>
                  cases b7 with
                  | false =>
                    go_enter Tryz.func69, Tryz.ntmps69
                    go_wp2_with fail
                    refine (C1.out _).mono ?_
                    rintro e w1 ⟨rfl, rfl⟩
                    go_wp2_with fail
                    refine (C2.out _).mono ?_
                    rintro e w2 ⟨rfl, rfl⟩
                    go_wp2_with fail
                    refine (C3.out _).mono ?_
                    rintro e w3 ⟨rfl, rfl⟩
                    go_wp2_with fail
                    refine (C4.out _).mono ?_
                    rintro e w4 ⟨rfl, rfl⟩
                    go_wp2_with fail
                    refine (C5.out _).mono ?_
                    rintro e w5 ⟨rfl, rfl⟩
                    go_wp2_with fail
                    refine (C6.out _).mono ?_
                    rintro e w6 ⟨rfl, rfl⟩
                    go_wp2_with fail
                    refine (C7.out _).mono ?_
                    rintro e w7 ⟨rfl, rfl⟩
                    go_wp2
                    go_ret
                    exact ⟨ret_bool (by first | rfl | (rw [hk]; simp)), BEL.out⟩
                  | true =>
                    go_enter Tryz.func69, Tryz.ntmps69
                    go_wp2_with fail
                    refine (C1.out _).mono ?_
                    rintro e w1 ⟨rfl, rfl⟩
                    go_wp2_with fail
                    refine (C2.out _).mono ?_
                    rintro e w2 ⟨rfl, rfl⟩
                    go_wp2_with fail
                    refine (C3.out _).mono ?_
                    rintro e w3 ⟨rfl, rfl⟩
                    go_wp2_with fail
                    refine (C4.out _).mono ?_
                    rintro e w4 ⟨rfl, rfl⟩
                    go_wp2_with fail
                    refine (C5.out _).mono ?_
                    rintro e w5 ⟨rfl, rfl⟩
                    go_wp2_with fail
                    refine (C6.out _).mono ?_
                    rintro e w6 ⟨rfl, rfl⟩
                    go_wp2_with fail
                    refine (C7.out _).mono ?_
                    rintro e w7 ⟨rfl, rfl⟩
                    go_upto_region 6 with (fail)
                    generalize ((w.alloc (.cells #[.int .i64 vi, .int .i64 cl, .int .i64 re, .int .i64 de, .int .i64 dcl, .int .i64 fu, .int .i64 st, .slice Ap np cp, .slice Ad nd cd] 78)).alloc (.cells #[.int .i64 de, .int .i64 dcl, .int .i64 fu, .int .i64 st, .slice Ap np cp, .slice Ad nd cd] 76)) = w0 at *
                    have HK := Lib.hid hk
                    clear hk
                    go_wp2
                    go_loopw [4] (fun i wr => ∃ j : Nat, j ≤ np ∧ i = .int .i64 j ∧ Hid ((put.take j).all Ru.ok = true) ∧ Hid (Below w0.heap.size w0 wr)) (fun i _ => np - (intOf i).toNat)
                    case atStart => exact ⟨0, Nat.zero_le _, rfl, Lib.hid rfl, Lib.hid (Below.refl _ _)⟩
                    case round =>
                      obtain ⟨j, hj, rfl, HH, HBl⟩ := hrel
                      have hszr : w0.heap.size ≤ wr.heap.size := HBl.out.size
                      have y4 := (HB.out.on HBl.out).cell 4
                      by_cases hlt : j < np
                      · have hjl : j < put.length := by rw [← HNP.out]; exact hlt
                        have hlti : (j : Int) < (np : Int) := by omega
                        obtain ⟨b, off, rfl, hb, c0, c1, c2, c3, c4⟩ := (HP.out.below HBl.out).at_ hjl
                        have HG := Lib.hid (List.getElem?_eq_getElem hjl)
                        generalize put[j] = r at HG c0 c1 c2 c3 c4
                        clear hjl
                        cases hok : r.ok
                        · have HI := Lib.hid hok
                          clear hok
                          go_wp2_with fail
                          refine (xruleRight_any r _).mono ?_
                          rintro e w1 ⟨rfl, hb1⟩
                          rw [HI.out]
                          go_wp2
                          go_ret
                          exact ⟨ret_bool (by rw [HK.out, allB_false HG.out HI.out]; simp), BEL.out.trans ((HBl.out.trans (hb1.mono hszr)).mono (by omega))⟩
                        · have HI := Lib.hid hok
                          clear hok
                          go_wp2_with fail
                          refine (xruleRight_any r _).mono ?_
                          rintro e w1 ⟨rfl, hb1⟩
                          rw [HI.out]
                          have HB1 := Lib.hid (HBl.out.trans (hb1.mono hszr))
                          clear hb1
                          go_wp2
                          go_roundw
                          case rel => exact ⟨j + 1, by omega, by go_num, Lib.hid (by rw [allB_take HG.out, HH.out, HI.out]; rfl), HB1⟩
                          case measure => simp [intOf]; omega
                      · obtain rfl : j = np := by omega
                        have HAll : Hid (put.all Ru.ok = true) := Lib.hid (by have := HH.out; rwa [List.take_of_length_le (by rw [← HNP.out]; omega)] at this)
                        clear HH hlt hj
                        go_wp2
                        go_loopw [5] (fun i wr' => ∃ q : Nat, q ≤ nd ∧ i = .int .i64 q ∧ Hid ((drop.take q).all (inR 1 1099511627776) = true) ∧ wr' = wr) (fun i _ => nd - (intOf i).toNat)
                        case atStart => exact ⟨0, Nat.zero_le _, rfl, Lib.hid rfl, rfl⟩
                        case round =>
                          obtain ⟨q, hq, rfl, HQ, rfl⟩ := hrel
                          have y5 := (HB.out.on HBl.out).cell 5
                          by_cases hlt : q < nd
                          · have hql : q < drop.length := by rw [← HND.out]; exact hlt
                            have hlti : (q : Int) < (nd : Int) := by omega
                            obtain ⟨b, off, rfl, hb, c0⟩ := (HD.out.below HBl.out).at_ hql
                            have HG := Lib.hid (List.getElem?_eq_getElem hql)
                            generalize drop[q] = r at HG c0
                            clear hql
                            cases hok : inR 1 1099511627776 r
                            · have HI := Lib.hid hok
                              clear hok
                              go_wp2_with fail
                              refine (xin_any r 1 1099511627776 _).mono ?_
                              rintro e w1 ⟨rfl, rfl⟩
                              rw [HI.out]
                              go_wp2
                              go_ret
                              exact ⟨ret_bool (by rw [HK.out, allB_false HG.out HI.out]; simp), BEL.out.trans (HBl.out.mono (by omega))⟩
                            · have HI := Lib.hid hok
                              clear hok
                              go_wp2_with fail
                              refine (xin_any r 1 1099511627776 _).mono ?_
                              rintro e w1 ⟨rfl, rfl⟩
                              rw [HI.out]
                              go_wp2
                              go_roundw
                              case rel => exact ⟨q + 1, by omega, by go_num, Lib.hid (by rw [allB_take HG.out, HQ.out, HI.out]; rfl), by first | trivial | rfl⟩
                              case measure => simp [intOf]; omega
                          · obtain rfl : q = nd := by omega
                            have HAd : Hid (drop.all (inR 1 1099511627776) = true) := Lib.hid (by have := HQ.out; rwa [List.take_of_length_le (by rw [← HND.out]; omega)] at this)
                            go_wp2
                            go_ret
                            exact ⟨ret_bool (by rw [HK.out, HAll.out, HAd.out]; rfl), BEL.out.trans (HBl.out.mono (by omega))⟩
          · rw [decide_eq_false h5] at hk
            have h5i : (16 : Int) < (nd : Int) := by omega
            go_enter Tryz.func69, Tryz.ntmps69
            go_wp2_with fail
            refine (C1.out _).mono ?_
            rintro e w1 ⟨rfl, rfl⟩
            go_wp2_with fail
            refine (C2.out _).mono ?_
            rintro e w2 ⟨rfl, rfl⟩
            go_wp2_with fail
            refine (C3.out _).mono ?_
            rintro e w3 ⟨rfl, rfl⟩
            go_wp2
            go_ret
            exact ⟨ret_bool (by first | rfl | (rw [hk]; simp)), BEL.out⟩
        · rw [decide_eq_false h4] at hk
          have h4i : (16 : Int) < (np : Int) := by omega
          go_enter Tryz.func69, Tryz.ntmps69
          go_wp2_with fail
          refine (C1.out _).mono ?_
          rintro e w1 ⟨rfl, rfl⟩
          go_wp2_with fail
          refine (C2.out _).mono ?_
          rintro e w2 ⟨rfl, rfl⟩
          go_wp2_with fail
          refine (C3.out _).mono ?_
          rintro e w3 ⟨rfl, rfl⟩
          go_wp2
          go_ret
          exact ⟨ret_bool (by first | rfl | (rw [hk]; simp)), BEL.out⟩
set_option maxRecDepth 100000 in
set_option maxHeartbeats 4000000 in
theorem xall_any (v : Value) (l : List En) (most : Int) (w : World) (hm : l.length ≤ 9223372036854775807) (hmost : most ≤ 1000000) (hS : EntsV w.heap.size w v l) :
    Calls Tryz.prog 50 #[v, .int .i64 most] w fun e w' => e = .returned (.bool (decide ((l.length : Int) ≤ most) && l.all En.ok)) ∧ Below w.heap.size w w' := by
  obtain ⟨A, cap, rfl⟩ := hS.form
  have HS := Lib.hid hS
  obtain ⟨n, hn⟩ : ∃ n, n = l.length := ⟨_, rfl⟩
  rw [← hn] at HS hm ⊢
  have HN := Lib.hid hn
  clear hS hn
  by_cases hle : (n : Int) ≤ most
  · rw [decide_eq_true hle]
    have hgt : ¬ most < (n : Int) := by omega
    go_enter Tryz.func50, Tryz.ntmps50
    go_wp2
    go_loopw [5] (fun i wr => ∃ k : Nat, k ≤ n ∧ i = .int .i64 k ∧ Hid ((l.take k).all En.ok = true) ∧ Hid (Below w.heap.size w wr)) (fun i _ => n - (intOf i).toNat)
    case atStart => exact ⟨0, Nat.zero_le _, rfl, Lib.hid rfl, Lib.hid (Below.refl _ _)⟩
    case round =>
      obtain ⟨k, hk, rfl, HH, HB⟩ := hrel
      have hsz : w.heap.size ≤ wr.heap.size := HB.out.size
      by_cases hlt : k < n
      · have hkl : k < l.length := by rw [← HN.out]; exact hlt
        have hlti : (k : Int) < (n : Int) := by omega
        obtain ⟨b, off, p, d, rfl, hb, ⟨c0, c1, c2, c3, c4, c5, c6, c7, c8⟩, hp, hd⟩ := (HS.out.below HB.out).at_ hkl
        have HG := Lib.hid (List.getElem?_eq_getElem hkl)
        generalize l[k] = r at HG c0 c1 c2 c3 c4 c5 c6 c7 c8 hp hd
        obtain ⟨Ap, cp, rfl⟩ := hp.form
        obtain ⟨Ad, cd, rfl⟩ := hd.form
        have HP := Lib.hid (hp.more hsz)
        have HD := Lib.hid (hd.more hsz)
        clear hp hd hkl
        cases hok : r.ok
        · have HI := Lib.hid hok
          clear hok
          go_wp2_with fail
          refine (xentry_any r _ _ _ HP.out HD.out).mono ?_
          rintro e w1 ⟨rfl, hb1⟩
          rw [HI.out]
          go_wp2
          go_ret
          exact ⟨ret_bool (by rw [allB_false HG.out HI.out]; rfl), HB.out.trans (hb1.mono hsz)⟩
        · have HI := Lib.hid hok
          clear hok
          go_wp2_with fail
          refine (xentry_any r _ _ _ HP.out HD.out).mono ?_
          rintro e w1 ⟨rfl, hb1⟩
          rw [HI.out]
          have HB1 := Lib.hid (HB.out.trans (hb1.mono hsz))
          clear hb1
          go_wp2
          go_roundw
          case rel => exact ⟨k + 1, by omega, by go_num, Lib.hid (by rw [allB_take HG.out, HH.out, HI.out]; rfl), HB1⟩
          case measure => simp [intOf]; omega
      · obtain rfl : k = n := by omega
        have HAll : Hid (l.all En.ok = true) := Lib.hid (by have := HH.out; rwa [List.take_of_length_le (by rw [← HN.out]; omega)] at this)
        go_wp2
        go_ret
        exact ⟨ret_bool (by rw [HAll.out]; rfl), HB.out⟩
  · rw [decide_eq_false hle]
    have hgt : most < (n : Int) := by omega
    go_enter Tryz.func50, Tryz.ntmps50
    go_wp2
    go_ret
    exact ⟨rfl, Below.refl _ _⟩
end Go.Proofs.YtefgobmpleoafaaGreat
