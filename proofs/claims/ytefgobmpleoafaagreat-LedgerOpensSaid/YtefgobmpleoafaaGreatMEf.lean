/- Joined: PkE, PkF. -/
import Derived.Test.YtefgobmpleoafaaGreatMCd
/- Package pack: the Rights. -/
namespace Go.Proofs.YtefgobmpleoafaaGreat
open Go.RowKit
variable {w w' : World}

theorem pin_any (n lo hi : Int) (w : World) : Calls Tryz.prog 84 #[.int .i64 n, .int .i64 lo, .int .i64 hi] w fun e w' => e = .returned (.bool (inR lo hi n)) ∧ w' = w := by
  go_enter Tryz.func84, Tryz.ntmps84
  unfold inR
  by_cases h1 : lo ≤ n
  · by_cases h2 : n ≤ hi
    · rw [decide_eq_true ⟨h1, h2⟩]
      go_wp2
      go_ret
      exact ⟨rfl, rfl⟩
    · rw [decide_eq_false (fun h => h2 h.2)]
      go_wp2
      go_ret
      exact ⟨rfl, rfl⟩
  · rw [decide_eq_false (fun h => h1 h.1)]
    go_wp2
    go_ret
    exact ⟨rfl, rfl⟩
theorem Row.lit_at (w : World) (n : Nat) (h : w.heap.size = n) (cs : Array Value) (e : TypeId) (fr : Nat × Nat) : Row (n + 1) (w.alloc (.cells cs e fr)) (.slice (some ⟨n, 0, none⟩) cs.size cs.size) cs.toList := h ▸ Row.lit w cs e fr
theorem allB_take {α : Type} {f : α → Bool} {l : List α} {k : Nat} {r : α} (h : l[k]? = some r) : (l.take (k + 1)).all f = ((l.take k).all f && f r) := by
  obtain ⟨hk, rfl⟩ := List.getElem?_eq_some_iff.1 h
  rw [List.take_succ_eq_append_getElem hk, List.all_append]
  simp
theorem allB_false {α : Type} {f : α → Bool} {l : List α} {k : Nat} {r : α} (h : l[k]? = some r) (hr : f r = false) : l.all f = false := by
  rw [List.all_eq_false]
  exact ⟨r, List.mem_of_getElem? h, by simp [hr]⟩
set_option maxRecDepth 100000 in
set_option maxHeartbeats 4000000 in
theorem allWithin_any (l : List Int) (lo hi : Int) (n₀ : Nat) (v : Value) (w : World) (hV : Row n₀ w v (zI l)) (hm : l.length ≤ 1000000) :
    Calls Tryz.prog 93 #[v, .int .i64 lo, .int .i64 hi] w fun e w' => e = .returned (.bool (l.all (inR lo hi))) ∧ w' = w := by
  obtain ⟨A, cap, rfl⟩ := hV.form
  have HV := Lib.hid hV
  obtain ⟨n, hn⟩ : ∃ n, n = l.length := ⟨_, rfl⟩
  rw [zI_len] at HV ⊢
  rw [← hn] at HV hm ⊢
  have HL := Lib.hid hn
  clear hV hn
  go_enter Tryz.func93, Tryz.ntmps93
  go_wp2
  go_loop [11] (fun i => ∃ k : Nat, k ≤ n ∧ i = .int .i64 (k : Int) ∧ Hid ((l.take k).all (inR lo hi) = true)) (fun i => n - (intOf i).toNat)
  case atStart => exact ⟨0, by omega, rfl, Lib.hid rfl⟩
  case round =>
    obtain ⟨k, hk, rfl, HH⟩ := hrel
    by_cases hlt : k < n
    · have hkl : k < l.length := by rw [← HL.out]; exact hlt
      obtain ⟨b, off, rfl, hb, c0⟩ := HV.out.at_ hkl
      have HG := Lib.hid (List.getElem?_eq_getElem hkl)
      generalize l[k] = r at HG c0
      clear hkl
      cases hok : inR lo hi r
      · have HI := Lib.hid hok
        clear hok
        go_wp2_with fail
        refine (pin_any r lo hi _).mono ?_
        rintro e w1 ⟨rfl, rfl⟩
        rw [HI.out]
        go_wp2
        go_ret
        exact ⟨ret_bool (allB_false HG.out HI.out).symm, rfl⟩
      · have HI := Lib.hid hok
        clear hok
        go_wp2_with fail
        refine (pin_any r lo hi _).mono ?_
        rintro e w1 ⟨rfl, rfl⟩
        rw [HI.out]
        go_wp2
        go_round
        case rel => exact ⟨k + 1, by omega, by go_num, Lib.hid (by rw [allB_take HG.out, HH.out, HI.out]; rfl)⟩
        case measure => simp [intOf]; omega
    · obtain rfl : k = n := by omega
      go_wp2
      go_ret
      exact ⟨ret_bool (by have := HH.out; rw [List.take_of_length_le (by rw [← HL.out]; omega)] at this; exact this.symm), rfl⟩
set_option maxRecDepth 100000 in
set_option maxHeartbeats 4000000 in
theorem allRightR_any (v : Value) (l : List Ru) (w : World) (hmax : l.length ≤ 1000000) (hS : RulesV w.heap.size w v l) :
    Calls Tryz.prog 94 #[v] w fun e w' => e = .returned (.bool (l.all Ru.ok)) ∧ Below w.heap.size w w' := by
  obtain ⟨A, cap, rfl⟩ := hS.form
  go_enter Tryz.func94, Tryz.ntmps94
  go_wp2
  go_loopw [7] (fun i wr => ∃ k : Nat, k ≤ l.length ∧ i = .int .i64 k ∧ Hid ((l.take k).all Ru.ok = true) ∧ Below w.heap.size w wr) (fun i _ => l.length - (intOf i).toNat)
  case atStart => exact ⟨0, Nat.zero_le _, rfl, rfl, Below.refl _ _⟩
  case round =>
    obtain ⟨k, hk, rfl, HH, hbel⟩ := hrel
    have hsz := hbel.size
    by_cases hlt : k < l.length
    · obtain ⟨b, off, rfl, hb, c0, c1, c2, c3, c4⟩ := (hS.below hbel).at_ hlt
      have HG := Lib.hid (List.getElem?_eq_getElem hlt)
      generalize l[k] = r at HG c0 c1 c2 c3 c4
      cases hok : r.ok
      · have HI := Lib.hid hok
        clear hok
        go_wp2_with fail
        refine (ruleRight_any r _).mono ?_
        rintro e w1 ⟨rfl, hb1⟩
        rw [HI.out]
        go_wp2
        go_ret
        exact ⟨ret_bool (allB_false HG.out HI.out).symm, below_call hbel hsz hb1⟩
      · have HI := Lib.hid hok
        clear hok
        go_wp2_with fail
        refine (ruleRight_any r _).mono ?_
        rintro e w1 ⟨rfl, hb1⟩
        rw [HI.out]
        have HB := Lib.hid (below_call hbel hsz hb1)
        clear hb1
        go_wp2
        go_roundw
        case rel => exact ⟨k + 1, by omega, by go_num, Lib.hid (by rw [allB_take HG.out, HH.out, HI.out]; rfl), HB.out⟩
        case measure => simp [intOf]; omega
    · obtain rfl : k = l.length := by omega
      go_wp2
      go_ret
      exact ⟨ret_bool (by have := HH.out; rw [List.take_length] at this; exact this.symm), hbel⟩
set_option maxRecDepth 100000 in
set_option maxHeartbeats 4000000 in
theorem rightDelta_any (x : Dl) (p d : Value) (w : World) (hp : RulesV w.heap.size w p x.put) (hd : Row w.heap.size w d (zI x.drop)) :
    Calls Tryz.prog 85 #[x.val p d] w fun e w' => e = .returned (.bool x.okP) ∧ Below w.heap.size w w' := by
  obtain ⟨Ap, cp, rfl⟩ := hp.form
  obtain ⟨Ad, cd, rfl⟩ := hd.form
  obtain ⟨de, cl, fu, st, put, drop⟩ := x
  simp only at hp hd ⊢
  rw [zI_len] at hd ⊢
  obtain ⟨k, hk⟩ : ∃ k, k = Dl.okP ⟨de, cl, fu, st, put, drop⟩ := ⟨_, rfl⟩
  rw [← hk]
  unfold Dl.okP at hk
  simp only at hk
  have bel := (((Below.refl w.heap.size w).alloc (Nat.le_refl _) (.cells #[.int .i64 de, .int .i64 cl, .int .i64 fu, .int .i64 st, .slice Ap put.length cp, .slice Ad drop.length cd] 91)).alloc (by simp) (.cells #[.int .i64 de, .int .i64 cl, .int .i64 fu, .int .i64 st] 3))
  have BEL0 := Lib.hid bel
  have blk : Blk ((w.alloc (.cells #[.int .i64 de, .int .i64 cl, .int .i64 fu, .int .i64 st, .slice Ap put.length cp, .slice Ad drop.length cd] 91)).alloc (.cells #[.int .i64 de, .int .i64 cl, .int .i64 fu, .int .i64 st] 3)) w.heap.size 91 #[.int .i64 de, .int .i64 cl, .int .i64 fu, .int .i64 st, .slice Ap put.length cp, .slice Ad drop.length cd] := (Blk.new _ _ _).alloc _
  have BLK := Lib.hid blk
  have c1 := fun W n₀ v h => allWithin_any [de, cl, fu, st] (-1) 1099511627776 n₀ v W h (by simp)
  generalize List.all [de, cl, fu, st] (inR (-1) 1099511627776) = b1 at c1 hk
  have C1 := Lib.hid c1
  have c3 := fun (h : put.length ≤ 1000000) W v H => allRightR_any v put W h H
  generalize List.all put Ru.ok = b3 at c3 hk
  have C3 := Lib.hid c3
  have c5 := fun (h : drop.length ≤ 1000000) W n₀ v H => allWithin_any drop 1 1099511627776 n₀ v W H h
  generalize List.all drop (inR 1 1099511627776) = b5 at c5 hk
  have C5 := Lib.hid c5
  have HP := Lib.hid (hp.on bel)
  have HD := Lib.hid (hd.below bel)
  have hsz : w.heap.size ≤ ((w.alloc (.cells #[.int .i64 de, .int .i64 cl, .int .i64 fu, .int .i64 st, .slice Ap put.length cp, .slice Ad drop.length cd] 91)).alloc (.cells #[.int .i64 de, .int .i64 cl, .int .i64 fu, .int .i64 st] 3)).heap.size := bel.size
  clear bel blk c1 c3 c5 hp hd
  cases b1 with
  | false =>
    go_enter Tryz.func85, Tryz.ntmps85
    go_wp2_with fail
    refine (C1.out _ (w.heap.size + 1 + 1) _ (Row.lit_at _ _ (by simp) #[.int .i64 de, .int .i64 cl, .int .i64 fu, .int .i64 st] 3 (0, 0))).mono ?_
    rintro e w1 ⟨rfl, rfl⟩
    go_wp2
    go_ret
    exact ⟨ret_bool (by first | rfl | (rw [hk]; simp)), BEL0.out⟩
  | true =>
    by_cases h2 : put.length ≤ 16
    · rw [decide_eq_true h2] at hk
      have h2i : (put.length : Int) ≤ 16 := by omega
      cases b3 with
      | false =>
        go_enter Tryz.func85, Tryz.ntmps85
        go_wp2_with fail
        refine (C1.out _ (w.heap.size + 1 + 1) _ (Row.lit_at _ _ (by simp) #[.int .i64 de, .int .i64 cl, .int .i64 fu, .int .i64 st] 3 (0, 0))).mono ?_
        rintro e w1 ⟨rfl, rfl⟩
        go_wp2_with fail
        refine (C3.out (by omega) _ _ HP.out).mono ?_
        rintro e w3 ⟨rfl, hb3⟩
        have HB3 := Lib.hid (BEL0.out.trans (hb3.mono hsz))
        have l3 := (BLK.out.on hb3).cell 5
        have HD3 := Lib.hid (HD.out.below (hb3.mono hsz))
        clear hb3
        go_wp2
        go_ret
        exact ⟨ret_bool (by first | rfl | (rw [hk]; simp)), HB3.out⟩
      | true =>
        by_cases h4 : drop.length ≤ 16
        · rw [decide_eq_true h4] at hk
          have h4i : (drop.length : Int) ≤ 16 := by omega
          go_enter Tryz.func85, Tryz.ntmps85
          go_wp2_with fail
          refine (C1.out _ (w.heap.size + 1 + 1) _ (Row.lit_at _ _ (by simp) #[.int .i64 de, .int .i64 cl, .int .i64 fu, .int .i64 st] 3 (0, 0))).mono ?_
          rintro e w1 ⟨rfl, rfl⟩
          go_wp2_with fail
          refine (C3.out (by omega) _ _ HP.out).mono ?_
          rintro e w3 ⟨rfl, hb3⟩
          have HB3 := Lib.hid (BEL0.out.trans (hb3.mono hsz))
          have l3 := (BLK.out.on hb3).cell 5
          have HD3 := Lib.hid (HD.out.below (hb3.mono hsz))
          clear hb3
          go_wp2_with fail
          refine (C5.out (by omega) _ _ _ HD3.out).mono ?_
          rintro e w5 ⟨rfl, rfl⟩
          go_wp2
          go_ret
          exact ⟨ret_bool (by first | rfl | (rw [hk]; simp)), HB3.out⟩
        · rw [decide_eq_false h4] at hk
          have h4i : ¬ (drop.length : Int) ≤ 16 := by omega
          go_enter Tryz.func85, Tryz.ntmps85
          go_wp2_with fail
          refine (C1.out _ (w.heap.size + 1 + 1) _ (Row.lit_at _ _ (by simp) #[.int .i64 de, .int .i64 cl, .int .i64 fu, .int .i64 st] 3 (0, 0))).mono ?_
          rintro e w1 ⟨rfl, rfl⟩
          go_wp2_with fail
          refine (C3.out (by omega) _ _ HP.out).mono ?_
          rintro e w3 ⟨rfl, hb3⟩
          have HB3 := Lib.hid (BEL0.out.trans (hb3.mono hsz))
          have l3 := (BLK.out.on hb3).cell 5
          have HD3 := Lib.hid (HD.out.below (hb3.mono hsz))
          clear hb3
          go_wp2
          go_ret
          exact ⟨ret_bool (by first | rfl | (rw [hk]; simp)), HB3.out⟩
    · rw [decide_eq_false h2] at hk
      have h2i : ¬ (put.length : Int) ≤ 16 := by omega
      go_enter Tryz.func85, Tryz.ntmps85
      go_wp2_with fail
      refine (C1.out _ (w.heap.size + 1 + 1) _ (Row.lit_at _ _ (by simp) #[.int .i64 de, .int .i64 cl, .int .i64 fu, .int .i64 st] 3 (0, 0))).mono ?_
      rintro e w1 ⟨rfl, rfl⟩
      go_wp2
      go_ret
      exact ⟨ret_bool (by first | rfl | (rw [hk]; simp)), BEL0.out⟩
set_option maxRecDepth 100000 in
set_option maxHeartbeats 4000000 in
theorem pentry_any (x : En) (p d : Value) (w : World) (hp : RulesV w.heap.size w p x.d.put) (hd : Row w.heap.size w d (zI x.d.drop)) :
    Calls Tryz.prog 75 #[x.val p d] w fun e w' => e = .returned (.bool x.ok) ∧ Below w.heap.size w w' := by
  obtain ⟨Ap, cp, rfl⟩ := hp.form
  obtain ⟨Ad, cd, rfl⟩ := hd.form
  obtain ⟨vi, cl, re, x⟩ := x
  obtain ⟨de, dcl, fu, st, put, drop⟩ := x
  simp only at hp hd ⊢
  rw [zI_len] at hd ⊢
  obtain ⟨k, hk⟩ : ∃ k, k = En.ok ⟨vi, cl, re, ⟨de, dcl, fu, st, put, drop⟩⟩ := ⟨_, rfl⟩
  rw [← hk]
  unfold En.ok at hk
  simp only at hk
  have bel := ((Below.refl w.heap.size w).alloc (Nat.le_refl _) (.cells #[.int .i64 vi, .int .i64 cl, .int .i64 re, .int .i64 de, .int .i64 dcl, .int .i64 fu, .int .i64 st, .slice Ap put.length cp, .slice Ad drop.length cd] 93))
  have BEL0 := Lib.hid bel
  have c1 := pin_any vi 0 1099511627776
  generalize inR 0 1099511627776 vi = b1 at c1 hk
  have C1 := Lib.hid c1
  have c2 := pin_any cl 1 1099511627776
  generalize inR 1 1099511627776 cl = b2 at c2 hk
  have C2 := Lib.hid c2
  have c3 := pin_any re 1 1099511627776
  generalize inR 1 1099511627776 re = b3 at c3 hk
  have C3 := Lib.hid c3
  have c4 := fun W p d h1 h2 => rightDelta_any ⟨de, dcl, fu, st, put, drop⟩ p d W h1 h2
  generalize Dl.okP ⟨de, dcl, fu, st, put, drop⟩ = b4 at c4 hk
  have C4 := Lib.hid c4
  have HP := Lib.hid (hp.on bel)
  have HD := Lib.hid ((hd.below bel).more bel.size)
  have hsz : w.heap.size ≤ (w.alloc (.cells #[.int .i64 vi, .int .i64 cl, .int .i64 re, .int .i64 de, .int .i64 dcl, .int .i64 fu, .int .i64 st, .slice Ap put.length cp, .slice Ad drop.length cd] 93)).heap.size := bel.size
  clear bel c1 c2 c3 c4 hp hd
  cases b1 with
  | false =>
    go_enter Tryz.func75, Tryz.ntmps75
    go_wp2_with fail
    refine (C1.out _).mono ?_
    rintro e w1 ⟨rfl, rfl⟩
    go_wp2
    go_ret
    exact ⟨ret_bool (by first | rfl | (rw [hk]; simp)), BEL0.out⟩
  | true =>
    cases b2 with
    | false =>
      go_enter Tryz.func75, Tryz.ntmps75
      go_wp2_with fail
      refine (C1.out _).mono ?_
      rintro e w1 ⟨rfl, rfl⟩
      go_wp2_with fail
      refine (C2.out _).mono ?_
      rintro e w2 ⟨rfl, rfl⟩
      go_wp2
      go_ret
      exact ⟨ret_bool (by first | rfl | (rw [hk]; simp)), BEL0.out⟩
    | true =>
      cases b3 with
      | false =>
        go_enter Tryz.func75, Tryz.ntmps75
        go_wp2_with fail
        refine (C1.out _).mono ?_
        rintro e w1 ⟨rfl, rfl⟩
        go_wp2_with fail
        refine (C2.out _).mono ?_
        rintro e w2 ⟨rfl, rfl⟩
        go_wp2_with fail
        refine (C3.out _).mono ?_
        rintro e w3 ⟨rfl, rfl⟩
        go_wp2
        go_ret
        exact ⟨ret_bool (by first | rfl | (rw [hk]; simp)), BEL0.out⟩
      | true =>
        go_enter Tryz.func75, Tryz.ntmps75
        go_wp2_with fail
        refine (C1.out _).mono ?_
        rintro e w1 ⟨rfl, rfl⟩
        go_wp2_with fail
        refine (C2.out _).mono ?_
        rintro e w2 ⟨rfl, rfl⟩
        go_wp2_with fail
        refine (C3.out _).mono ?_
        rintro e w3 ⟨rfl, rfl⟩
        go_wp2_with fail
        refine (C4.out _ _ _ HP.out HD.out).mono ?_
        rintro e w4 ⟨rfl, hb4⟩
        have HB4 := Lib.hid (BEL0.out.trans (hb4.mono hsz))
        clear hb4
        go_wp2
        go_ret
        exact ⟨ret_bool (by first | rfl | (rw [hk]; simp)), HB4.out⟩
set_option maxRecDepth 100000 in
set_option maxHeartbeats 4000000 in
theorem allRightE_any (v : Value) (l : List En) (w : World) (hmax : l.length ≤ 1000000) (hS : EntsV w.heap.size w v l) :
    Calls Tryz.prog 121 #[v] w fun e w' => e = .returned (.bool (l.all En.ok)) ∧ Below w.heap.size w w' := by
  obtain ⟨A, cap, rfl⟩ := hS.form
  go_enter Tryz.func121, Tryz.ntmps121
  go_wp2
  go_loopw [7] (fun i wr => ∃ k : Nat, k ≤ l.length ∧ i = .int .i64 k ∧ Hid ((l.take k).all En.ok = true) ∧ Below w.heap.size w wr) (fun i _ => l.length - (intOf i).toNat)
  case atStart => exact ⟨0, Nat.zero_le _, rfl, rfl, Below.refl _ _⟩
  case round =>
    obtain ⟨k, hk, rfl, HH, hbel⟩ := hrel
    have hsz := hbel.size
    by_cases hlt : k < l.length
    · obtain ⟨b, off, p, d, rfl, hb, ⟨c0, c1, c2, c3, c4, c5, c6, c7, c8⟩, hp, hd⟩ := (hS.below hbel).at_ hlt
      have HG := Lib.hid (List.getElem?_eq_getElem hlt)
      generalize l[k] = r at HG c0 c1 c2 c3 c4 c5 c6 c7 c8 hp hd
      obtain ⟨Ap, cp, rfl⟩ := hp.form
      obtain ⟨Ad, cd, rfl⟩ := hd.form
      have BO : Hid (∀ o, Below w.heap.size wr (wr.alloc o)) := Lib.hid fun o => (Below.refl _ _).alloc hsz o
      have HP : Hid (∀ o, RulesV (wr.alloc o).heap.size (wr.alloc o) (.slice Ap r.d.put.length cp) r.d.put) := Lib.hid fun o => (hp.below (BO.out o)).more (by simp; omega)
      have HD : Hid (∀ o, Row (wr.alloc o).heap.size (wr.alloc o) (.slice Ad (zI r.d.drop).length cd) (zI r.d.drop)) := Lib.hid fun o => (hd.below (BO.out o)).more (by simp; omega)
      clear hp hd
      cases hok : r.ok
      · have HI := Lib.hid hok
        clear hok
        go_wp2_with fail
        refine (pentry_any r _ _ _ (HP.out _) (HD.out _)).mono ?_
        rintro e w1 ⟨rfl, hb1⟩
        rw [HI.out]
        go_wp2
        go_ret
        exact ⟨ret_bool (allB_false HG.out HI.out).symm, below_call hbel hsz hb1⟩
      · have HI := Lib.hid hok
        clear hok
        go_wp2_with fail
        refine (pentry_any r _ _ _ (HP.out _) (HD.out _)).mono ?_
        rintro e w1 ⟨rfl, hb1⟩
        rw [HI.out]
        have HB := Lib.hid (below_call hbel hsz hb1)
        clear hb1
        go_wp2
        go_roundw
        case rel => exact ⟨k + 1, by omega, by go_num, Lib.hid (by rw [allB_take HG.out, HH.out, HI.out]; rfl), HB.out⟩
        case measure => simp [intOf]; omega
    · obtain rfl : k = l.length := by omega
      go_wp2
      go_ret
      exact ⟨ret_bool (by have := HH.out; rw [List.take_length] at this; exact this.symm), hbel⟩
end Go.Proofs.YtefgobmpleoafaaGreat

/- Package pack: a message's and a record's Right. -/
namespace Go.Proofs.YtefgobmpleoafaaGreat
open Go.RowKit
variable {w w' : World}

theorem recEntries_any (k : Int) (w : World) : Calls Tryz.prog 120 #[.int .i64 k] w fun e w' => e = .returned (.int .i64 (many k)) ∧ w' = w := by
  go_enter Tryz.func120, Tryz.ntmps120
  unfold many
  by_cases h1 : k = 2
  · subst h1
    go_wp2
    go_ret
    exact ⟨rfl, rfl⟩
  · rw [if_neg h1]
    go_wp2
    go_ret
    exact ⟨rfl, rfl⟩
set_option maxRecDepth 100000 in
set_option maxHeartbeats 4000000 in
theorem prec_any (m : Rc) (v : Value) (w : World) (hV : EntsV w.heap.size w v m.log) :
    Calls Tryz.prog 119 #[m.val v] w fun e w' => e = .returned (.bool m.ok) ∧ Below w.heap.size w w' := by
  obtain ⟨A, c, rfl⟩ := hV.form
  obtain ⟨k, a, b, log⟩ := m
  simp only at hV ⊢
  obtain ⟨q, hk⟩ : ∃ q, q = Rc.ok ⟨k, a, b, log⟩ := ⟨_, rfl⟩
  rw [← hk]
  unfold Rc.ok at hk
  simp only at hk
  have bel := ((Below.refl w.heap.size w).alloc (Nat.le_refl _) (.cells #[.int .i64 k, .int .i64 a, .int .i64 b, .slice A log.length c] 82))
  have BEL0 := Lib.hid bel
  have me := recEntries_any k
  have hmo := many_le k
  have c1 := pin_any k 1 5
  generalize inR 1 5 k = b1 at c1 hk
  have C1 := Lib.hid c1
  have c2 := pin_any a 0 1099511627776
  generalize inR 0 1099511627776 a = b2 at c2 hk
  have C2 := Lib.hid c2
  have c3 := pin_any b 0 1099511627776
  generalize inR 0 1099511627776 b = b3 at c3 hk
  have C3 := Lib.hid c3
  generalize many k = mo at *
  have c9 := fun W v h H => allRightE_any v log W h H
  generalize log.all En.ok = b9 at c9 hk
  have C9 := Lib.hid c9
  have ME := Lib.hid me
  have HV := Lib.hid (hV.on bel)
  have hsz : w.heap.size ≤ (w.alloc (.cells #[.int .i64 k, .int .i64 a, .int .i64 b, .slice A log.length c] 82)).heap.size := bel.size
  clear bel c1 c2 c3 c9 me hV
  cases b1 with
  | false =>
    go_enter Tryz.func119, Tryz.ntmps119
    go_wp2_with fail
    refine (ME.out _).mono ?_
    rintro e w0 ⟨rfl, rfl⟩
    go_wp2_with fail
    refine (C1.out _).mono ?_
    rintro e w1 ⟨rfl, rfl⟩
    go_wp2
    go_ret
    exact ⟨ret_bool (by first | rfl | (rw [hk]; simp)), BEL0.out⟩
  | true =>
    cases b2 with
    | false =>
      go_enter Tryz.func119, Tryz.ntmps119
      go_wp2_with fail
      refine (ME.out _).mono ?_
      rintro e w0 ⟨rfl, rfl⟩
      go_wp2_with fail
      refine (C1.out _).mono ?_
      rintro e w1 ⟨rfl, rfl⟩
      go_wp2_with fail
      refine (C2.out _).mono ?_
      rintro e w2 ⟨rfl, rfl⟩
      go_wp2
      go_ret
      exact ⟨ret_bool (by first | rfl | (rw [hk]; simp)), BEL0.out⟩
    | true =>
      cases b3 with
      | false =>
        go_enter Tryz.func119, Tryz.ntmps119
        go_wp2_with fail
        refine (ME.out _).mono ?_
        rintro e w0 ⟨rfl, rfl⟩
        go_wp2_with fail
        refine (C1.out _).mono ?_
        rintro e w1 ⟨rfl, rfl⟩
        go_wp2_with fail
        refine (C2.out _).mono ?_
        rintro e w2 ⟨rfl, rfl⟩
        go_wp2_with fail
        refine (C3.out _).mono ?_
        rintro e w3 ⟨rfl, rfl⟩
        go_wp2
        go_ret
        exact ⟨ret_bool (by first | rfl | (rw [hk]; simp)), BEL0.out⟩
      | true =>
        by_cases h4 : (log.length : Int) = mo
        · rw [decide_eq_true h4] at hk
          go_enter Tryz.func119, Tryz.ntmps119
          go_wp2_with fail
          refine (ME.out _).mono ?_
          rintro e w0 ⟨rfl, rfl⟩
          go_wp2_with fail
          refine (C1.out _).mono ?_
          rintro e w1 ⟨rfl, rfl⟩
          go_wp2_with fail
          refine (C2.out _).mono ?_
          rintro e w2 ⟨rfl, rfl⟩
          go_wp2_with fail
          refine (C3.out _).mono ?_
          rintro e w3 ⟨rfl, rfl⟩
          go_wp2_with fail
          refine (C9.out _ _ (by omega) HV.out).mono ?_
          rintro e w9 ⟨rfl, hb9⟩
          have HB9 := Lib.hid (BEL0.out.trans (hb9.mono hsz))
          clear hb9
          go_wp2
          go_ret
          exact ⟨ret_bool (by first | rfl | (rw [hk]; simp)), HB9.out⟩
        · rw [decide_eq_false h4] at hk
          go_enter Tryz.func119, Tryz.ntmps119
          go_wp2_with fail
          refine (ME.out _).mono ?_
          rintro e w0 ⟨rfl, rfl⟩
          go_wp2_with fail
          refine (C1.out _).mono ?_
          rintro e w1 ⟨rfl, rfl⟩
          go_wp2_with fail
          refine (C2.out _).mono ?_
          rintro e w2 ⟨rfl, rfl⟩
          go_wp2_with fail
          refine (C3.out _).mono ?_
          rintro e w3 ⟨rfl, rfl⟩
          go_wp2
          go_ret
          exact ⟨ret_bool (by first | rfl | (rw [hk]; simp)), BEL0.out⟩
end Go.Proofs.YtefgobmpleoafaaGreat

