/- The document's ParseRecord. -/
import Derived.Test.YtefgobmpleoafaaGreatPkRg
import Derived.Test.YtefgobmpleoafaaGreatPkXa
import Derived.Test.YtefgobmpleoafaaGreatPkN
namespace Go.Proofs.YtefgobmpleoafaaGreat
open Go.RowKit
variable {w w' w'' : World} {n₀ rb : Nat} {b s : List UInt8} {wr : Bool}

set_option maxRecDepth 100000 in
set_option maxHeartbeats 16000000 in
theorem parseC_any (n₀ : Nat) (v : Value) (b : List UInt8) (w : World) (hn : n₀ ≤ w.heap.size) (h : Bytes n₀ w v b) (hl : b.length ≤ 100000) :
    Calls Tryz.prog 20 #[v] w (ParseC w b) := by
  have HBY := Lib.hid h
  obtain ⟨A, cap, hv, hcap, _⟩ := h
  obtain ⟨m, hm⟩ : ∃ m, m = b.length := ⟨_, rfl⟩
  rw [← hm] at hv hcap hl
  have HM := Lib.hid hm
  subst hv
  clear hm
  have B0 := Lib.hid (show Below w.heap.size w ((w.alloc (.cells #[.int .i64 0, .int .i64 0, .int .i64 0, .slice none 0 0] 52)).alloc (.cells #[.slice A m cap, .int .i64 0, .bool false] 71)) from ((Below.refl _ _).alloc (Nat.le_refl _) _).alloc (by simp) _)
  have Z0 : Hid (Blk ((w.alloc (.cells #[.int .i64 0, .int .i64 0, .int .i64 0, .slice none 0 0] 52)).alloc (.cells #[.slice A m cap, .int .i64 0, .bool false] 71)) w.heap.size 52 #[.int .i64 0, .int .i64 0, .int .i64 0, .slice none 0 0]) := Lib.hid ((Blk.new _ _ _).alloc _)
  have R0 : Blk ((w.alloc (.cells #[.int .i64 0, .int .i64 0, .int .i64 0, .slice none 0 0] 52)).alloc (.cells #[.slice A m cap, .int .i64 0, .bool false] 71)) (w.heap.size + 1) 71 #[.slice A m cap, .int .i64 0, .bool false] := Blk.at_new _ _ (by simp) _ _
  have hs0 : w.heap.size + 2 ≤ ((w.alloc (.cells #[.int .i64 0, .int .i64 0, .int .i64 0, .slice none 0 0] 52)).alloc (.cells #[.slice A m cap, .int .i64 0, .bool false] 71)).heap.size := by simp
  have H0 : Hid (Rx n₀ (w.heap.size + 1) (.slice A m cap) b ((w.alloc (.cells #[.int .i64 0, .int .i64 0, .int .i64 0, .slice none 0 0] 52)).alloc (.cells #[.slice A m cap, .int .i64 0, .bool false] 71)) b false) := Lib.hid ⟨0, R0, HBY.out.below (B0.out.mono hn), by omega, Nat.zero_le _, by rw [← HM.out]; exact hl, rfl⟩
  clear R0
  go_enter Tryz.func20, Tryz.ntmps20
  go_upto_region 2 with (fail)
  generalize (w.alloc _).alloc _ = w0 at *
  obtain ⟨rb, hrb⟩ : ∃ rb, rb = w.heap.size + 1 := ⟨_, rfl⟩
  rw [← hrb] at H0 ⊢
  have hzr : w.heap.size ≠ rb := by omega
  have hrs : rb < w0.heap.size := by omega
  have hwr : w.heap.size < rb := by omega
  clear hrb
  have F0 : Hid (FrR rb w0 w0) := Lib.hid (FrR.refl _)
  go_wp2_with fail
  refine (xrnum_any H0.out).mono ?_
  rintro e w1 ⟨x1, t1, wr1, _, rfl, ⟨rfl, _, _⟩, h1, h2, h3⟩
  have H1 := Lib.hid h1
  have F1 := Lib.hid (F0.out.trans h2)
  have Z1 := Lib.hid (h2.blk Z0.out hzr)
  have O1 := Lib.hid h3
  clear h1 h2 h3 H0 Z0
  go_wp2_with fail
  refine (xrnum_any H1.out).mono ?_
  rintro e w2 ⟨x2, t2, wr2, _, rfl, ⟨rfl, _, _⟩, h1, h2, h3⟩
  have H2 := Lib.hid h1
  have F2 := Lib.hid (F1.out.trans h2)
  have Z2 := Lib.hid (h2.blk Z1.out hzr)
  have O2 := Lib.hid h3
  clear h1 h2 h3 H1 Z1
  go_wp2_with fail
  refine (xrnum_any H2.out).mono ?_
  rintro e w3 ⟨x3, t3, wr3, _, rfl, ⟨rfl, _, _⟩, h1, h2, h3⟩
  have H3 := Lib.hid h1
  have F3 := Lib.hid (F2.out.trans h2)
  have Z3 := Lib.hid (h2.blk Z2.out hzr)
  have O3 := Lib.hid h3
  clear h1 h2 h3 H2 Z2
  go_upto_region 3 with (fail)
  have H8 := Lib.hid (H3.out.alloc (.cells #[.int .i64 x1, .int .i64 x2, .int .i64 x3, .slice none 0 0] 52))
  have F8 := Lib.hid (F3.out.alloc (.cells #[.int .i64 x1, .int .i64 x2, .int .i64 x3, .slice none 0 0] 52))
  have Z8 := Lib.hid (Z3.out.alloc (.cells #[.int .i64 x1, .int .i64 x2, .int .i64 x3, .slice none 0 0] 52))
  have Y8 := Lib.hid (Blk.new w3 52 #[.int .i64 x1, .int .i64 x2, .int .i64 x3, .slice none 0 0])
  have s8 : w3.heap.size < (w3.alloc (.cells #[.int .i64 x1, .int .i64 x2, .int .i64 x3, .slice none 0 0] 52)).heap.size := by simp
  have hs7 : w0.heap.size ≤ w3.heap.size := F3.out.size
  generalize w3.alloc _ = w8 at *
  obtain ⟨yb, hyb⟩ : ∃ yb, yb = w3.heap.size := ⟨_, rfl⟩
  rw [← hyb] at Y8 s8 hs7 ⊢
  have hyr : rb < yb := by omega
  have hyz : w.heap.size ≠ yb := by omega
  clear hyb H3 Z3
  go_wp2_with fail
  refine (xrlog_any H8.out).mono ?_
  rintro e w9 ⟨l, t9, wr9, U, rfl, hU, h1, h2, h3⟩
  obtain ⟨A9, c9, rfl⟩ := hU.len
  have O8 := Lib.hid h3
  have Y9 := Lib.hid (Y8.out.blk0 h2 hyr)
  have F9 := Lib.hid ((F8.out.trans h2).set_ (q := ⟨yb, 3, none⟩) (.inr (by simp only; omega)) (.slice A9 l.length c9))
  have Z9 := Lib.hid ((h2.blk Z8.out hzr).far (p := ⟨yb, 3, none⟩) hyz (.slice A9 l.length c9))
  have R9 := Lib.hid (h1.far (q := ⟨yb, 3, none⟩) hyr (.slice A9 l.length c9))
  have V9 := Lib.hid (hU.set_ (q := ⟨yb, 3, none⟩) s8 (.slice A9 l.length c9))
  have Y9a : Hid (Blk (w9.setCell ⟨yb, 3, none⟩ (.slice A9 l.length c9)) yb 52 #[.int .i64 x1, .int .i64 x2, .int .i64 x3, .slice A9 l.length c9]) := Lib.hid (Y9.out.set_ 3 _)
  have y7 := Y9.out.cell 3
  have g7 := Y9.out.frozen
  have l7 := Y9.out.lt
  clear h1 h2 h3 hU H8 F8 Z8 Y8
  go_upto_region 4 with (fail)
  clear y7 g7 l7 Y9
  generalize w9.setCell _ _ = wa at *
  have OP : Hid (Out (pRc b) false (⟨x1, x2, x3, l⟩ : Rc) t9 wr9) := Lib.hid (by unfold pRc; exact Out.bind O1.out (Out.bind O2.out (Out.bind O3.out (Out.bind O8.out (Out.pure _ _ _)))))
  obtain ⟨p, hB, _, _, hp, _, hs⟩ := R9.out
  have HBR := Lib.hid hB
  have HS9 := Lib.hid hs
  rw [← HM.out] at hp
  have hsa : w.heap.size ≤ wa.heap.size := by have := F9.out.size; omega
  have BA := Lib.hid (B0.out.trans (F9.out.belowN (n := w.heap.size) (by omega) (by omega)))
  have EV := Lib.hid V9.out.read
  clear hB hs
  cases wr9 with
  | true =>
    have HD := Lib.hid (dC_noneA (b := b) (by rcases OP.out.2 rfl with h | h; cases h; exact h))
    refine wp_region_held_drew (S := fun w' => Blk w' yb 52 #[.int .i64 x1, .int .i64 x2, .int .i64 x3, .slice A9 l.length c9] ∧ Blk w' rb 71 #[.slice A m cap, .int .i64 p, .bool true]) (by kernel_rfl) ⟨Y9a.out, HBR.out⟩ (fun hHeld => ?_)
    refine take_d 0 19 (.agg #[.int .i64 x1, .int .i64 x2, .int .i64 x3, .slice A9 l.length c9]) _ rfl rfl (by kernel_rfl) (by kernel_rfl) (by kernel_rfl) (fun _ _ _ h => h) (Or.inl ⟨by rfl, fun w' hSw => ?_⟩) hHeld ?_
    · have q0 := hSw.1.cell 0
      have q1 := hSw.1.cell 1
      have q2 := hSw.1.cell 2
      have q3 := hSw.1.cell 3
      go_simp
    simp only [List.setIfInBounds_toArray, List.set_cons_zero, List.set_cons_succ]
    refine take_d 1 20 (.pointer (some ⟨rb, 0, none⟩)) _ rfl rfl (by kernel_rfl) (by kernel_rfl) (by kernel_rfl) (fun _ _ _ h => h) (Or.inl ⟨by rfl, fun w' hSw => ?_⟩) hHeld ?_
    · go_simp
    simp only [List.setIfInBounds_toArray, List.set_cons_zero, List.set_cons_succ]
    refine take_d 2 21 (.pointer (some ⟨rb, 0, none⟩)) _ rfl rfl (by kernel_rfl) (by kernel_rfl) (by kernel_rfl) (fun _ _ _ h => h) (Or.inl ⟨by rfl, fun w' hSw => ?_⟩) hHeld ?_
    · go_simp
    simp only [List.setIfInBounds_toArray, List.set_cons_zero, List.set_cons_succ]
    refine take_d 3 22 (.pointer (some ⟨rb, 2, none⟩)) _ rfl rfl (by kernel_rfl) (by kernel_rfl) (by kernel_rfl) (fun _ _ _ h => h) (Or.inl ⟨by rfl, fun w' hSw => ?_⟩) hHeld ?_
    · go_simp
    simp only [List.setIfInBounds_toArray, List.set_cons_zero, List.set_cons_succ]
    refine take_d 4 23 (.bool true) _ rfl rfl (by kernel_rfl) (by kernel_rfl) (by kernel_rfl) (fun _ _ _ h => h) (Or.inl ⟨by rfl, fun w' hSw => ?_⟩) hHeld ?_
    · have q0 := hSw.2.cell 0
      have q1 := hSw.2.cell 1
      have q2 := hSw.2.cell 2
      go_simp
    simp only [List.setIfInBounds_toArray, List.set_cons_zero, List.set_cons_succ]
    refine take_d 5 24 (.bool false) _ rfl rfl (by kernel_rfl) (by kernel_rfl) (by kernel_rfl) (fun _ _ _ h => h) (Or.inl ⟨by rfl, fun w' hSw => ?_⟩) hHeld ?_
    · go_simp
    simp only [List.setIfInBounds_toArray, List.set_cons_zero, List.set_cons_succ]
    refine take_d 6 25 (.bool false) _ rfl rfl (by kernel_rfl) (by kernel_rfl) (by kernel_rfl) (fun _ _ _ h => h) (Or.inl ⟨by rfl, fun w' hSw => ?_⟩) hHeld ?_
    · go_simp
    simp only [List.setIfInBounds_toArray, List.set_cons_zero, List.set_cons_succ]
    refine take_d 7 26 undef _ rfl rfl (by kernel_rfl) (by kernel_rfl) (by kernel_rfl) (fun _ _ _ h => h) (Or.inr ⟨by rfl, rfl⟩) hHeld ?_
    simp only [List.setIfInBounds_toArray, List.set_cons_zero, List.set_cons_succ]
    refine take_d 8 27 undef _ rfl rfl (by kernel_rfl) (by kernel_rfl) (by kernel_rfl) (fun _ _ _ h => h) (Or.inr ⟨by rfl, rfl⟩) hHeld ?_
    simp only [List.setIfInBounds_toArray, List.set_cons_zero, List.set_cons_succ]
    refine take_d 9 28 undef _ rfl rfl (by kernel_rfl) (by kernel_rfl) (by kernel_rfl) (fun _ _ _ h => h) (Or.inr ⟨by rfl, rfl⟩) hHeld ?_
    simp only [List.setIfInBounds_toArray, List.set_cons_zero, List.set_cons_succ]
    refine take_d 10 29 undef _ rfl rfl (by kernel_rfl) (by kernel_rfl) (by kernel_rfl) (fun _ _ _ h => h) (Or.inr ⟨by rfl, rfl⟩) hHeld ?_
    simp only [List.setIfInBounds_toArray, List.set_cons_zero, List.set_cons_succ]
    refine take_d 11 30 undef _ rfl rfl (by kernel_rfl) (by kernel_rfl) (by kernel_rfl) (fun _ _ _ h => h) (Or.inr ⟨by rfl, rfl⟩) hHeld ?_
    simp only [List.setIfInBounds_toArray, List.set_cons_zero, List.set_cons_succ]
    refine take_d 12 31 undef _ rfl rfl (by kernel_rfl) (by kernel_rfl) (by kernel_rfl) (fun _ _ _ h => h) (Or.inr ⟨by rfl, rfl⟩) hHeld ?_
    simp only [List.setIfInBounds_toArray, List.set_cons_zero, List.set_cons_succ]
    refine take_d 13 32 undef _ rfl rfl (by kernel_rfl) (by kernel_rfl) (by kernel_rfl) (fun _ _ _ h => h) (Or.inr ⟨by rfl, rfl⟩) hHeld ?_
    simp only [List.setIfInBounds_toArray, List.set_cons_zero, List.set_cons_succ]
    refine take_d 14 33 (.bool false) _ rfl rfl (by kernel_rfl) (by kernel_rfl) (by kernel_rfl) (fun _ _ _ h => h) (Or.inl ⟨by rfl, fun w' hSw => ?_⟩) hHeld ?_
    · go_simp
    simp only [List.setIfInBounds_toArray, List.set_cons_zero, List.set_cons_succ]
    refine take_d 15 34 (.bool false) _ rfl rfl (by kernel_rfl) (by kernel_rfl) (by kernel_rfl) (fun _ _ _ h => h) (Or.inl ⟨by rfl, fun w' hSw => ?_⟩) hHeld ?_
    · go_simp
    simp only [List.setIfInBounds_toArray, List.set_cons_zero, List.set_cons_succ]
    refine take_d 16 35 undef _ rfl rfl (by kernel_rfl) (by kernel_rfl) (by kernel_rfl) (fun _ _ _ h => h) (Or.inr ⟨by rfl, rfl⟩) hHeld ?_
    simp only [List.setIfInBounds_toArray, List.set_cons_zero, List.set_cons_succ]
    refine take_d 17 36 undef _ rfl rfl (by kernel_rfl) (by kernel_rfl) (by kernel_rfl) (fun _ _ _ h => h) (Or.inr ⟨by rfl, rfl⟩) hHeld ?_
    simp only [List.setIfInBounds_toArray, List.set_cons_zero, List.set_cons_succ]
    refine take_d 18 37 undef _ rfl rfl (by kernel_rfl) (by kernel_rfl) (by kernel_rfl) (fun _ _ _ h => h) (Or.inr ⟨by rfl, rfl⟩) hHeld ?_
    simp only [List.setIfInBounds_toArray, List.set_cons_zero, List.set_cons_succ]
    refine take_d 19 38 (.bool false) _ rfl rfl (by kernel_rfl) (by kernel_rfl) (by kernel_rfl) (fun _ _ _ h => h) (Or.inl ⟨by rfl, fun w' hSw => ?_⟩) hHeld ?_
    · go_simp
    simp only [List.setIfInBounds_toArray, List.set_cons_zero, List.set_cons_succ]
    refine take_d 20 39 (.bool false) _ rfl rfl (by kernel_rfl) (by kernel_rfl) (by kernel_rfl) (fun _ _ _ h => h) (Or.inl ⟨by rfl, fun w' hSw => ?_⟩) hHeld ?_
    · go_simp
    simp only [List.setIfInBounds_toArray, List.set_cons_zero, List.set_cons_succ]
    refine take_d 21 40 undef _ rfl rfl (by kernel_rfl) (by kernel_rfl) (by kernel_rfl) (fun _ _ _ h => h) (Or.inr ⟨by rfl, rfl⟩) hHeld ?_
    simp only [List.setIfInBounds_toArray, List.set_cons_zero, List.set_cons_succ]
    refine take_d 22 41 undef _ rfl rfl (by kernel_rfl) (by kernel_rfl) (by kernel_rfl) (fun _ _ _ h => h) (Or.inr ⟨by rfl, rfl⟩) hHeld ?_
    simp only [List.setIfInBounds_toArray, List.set_cons_zero, List.set_cons_succ]
    refine take_d 23 42 (.bool false) _ rfl rfl (by kernel_rfl) (by kernel_rfl) (by kernel_rfl) (fun _ _ _ h => h) (Or.inl ⟨by rfl, fun w' hSw => ?_⟩) hHeld ?_
    · go_simp
    simp only [List.setIfInBounds_toArray, List.set_cons_zero, List.set_cons_succ]
    refine wpAnyH_ready (rs := [24]) (by kernel_rfl) (by simp) ?_
    refine AllReadyH.cons rfl (fun K hK => ?_) AllReadyH.nil
    have ZC := Z9
    have z0 := ZC.out.cell 0
    have z1 := ZC.out.cell 1
    have z2 := ZC.out.cell 2
    have z3 := ZC.out.cell 3
    have zf := ZC.out.frozen
    have zl := ZC.out.lt
    go_simp
    refine hK.out _ _ ⟨Blk.drew_ (((((Y9a.out).far (p := ⟨w.heap.size, 0, none⟩) (fun h => hyz h.symm) _).far (p := ⟨w.heap.size, 1, none⟩) (fun h => hyz h.symm) _).far (p := ⟨w.heap.size, 2, none⟩) (fun h => hyz h.symm) _).far (p := ⟨w.heap.size, 3, none⟩) (fun h => hyz h.symm) _), Blk.drew_ (((((HBR.out).far (p := ⟨w.heap.size, 0, none⟩) (fun h => hzr h.symm) _).far (p := ⟨w.heap.size, 1, none⟩) (fun h => hzr h.symm) _).far (p := ⟨w.heap.size, 2, none⟩) (fun h => hzr h.symm) _).far (p := ⟨w.heap.size, 3, none⟩) (fun h => hzr h.symm) _)⟩ (fun hHeld => ?_)
    clear hK K
    refine take_d 25 3 (.bool false) _ rfl rfl (by kernel_rfl) (by kernel_rfl) (by kernel_rfl) (fun _ _ _ h => h) (Or.inl ⟨by rfl, fun w' hSw => ?_⟩) hHeld ?_
    · go_simp
    simp only [List.setIfInBounds_toArray, List.set_cons_zero, List.set_cons_succ]
    refine wpAnyH_done (by kernel_rfl) ?_ _
    have zc := ZC.out
    go_wp2
    refine bodyPost_ret (v := .tuple #[.agg #[.int .i64 x1, .int .i64 x2, .int .i64 x3, .slice A9 l.length c9], .bool false]) (by simp [results, Tryz.results20, go_sem, *]) rfl ⟨(Below.drewN' ((((BA.out.setCell (p := ⟨w.heap.size, 0, none⟩) (Nat.le_refl _) _).setCell (p := ⟨w.heap.size, 1, none⟩) (Nat.le_refl _) _).setCell (p := ⟨w.heap.size, 2, none⟩) (Nat.le_refl _) _).setCell (p := ⟨w.heap.size, 3, none⟩) (Nat.le_refl _) _) 1), (⟨x1, x2, x3, l⟩ : Rc), A9, c9, false, rfl, (((((V9.out.set_ (q := ⟨w.heap.size, 0, none⟩) (by simp only; omega) _).set_ (q := ⟨w.heap.size, 1, none⟩) (by simp only; omega) _).set_ (q := ⟨w.heap.size, 2, none⟩) (by simp only; omega) _).set_ (q := ⟨w.heap.size, 3, none⟩) (by simp only; omega) _)).drew.low (by omega), .inr ⟨rfl, HD.out⟩⟩
  | false =>
    have HPS := Lib.hid (OP.out.1 rfl).2
    by_cases hpm : p = m
    · have ht : t9 = [] := by rw [HS9.out]; exact List.drop_of_length_le (by rw [← HM.out]; omega)
      have HT := Lib.hid ht
      clear ht
      have v13 : ((p : Int) == (m : Int)) = true := by simp [hpm]
      have hpm' : (p : Int) = (m : Int) := by omega
      by_cases h65 : m ≤ 65536
      · have h65' : (m : Int) ≤ 65536 := by omega
        have hDA := HPS.out
        rw [HT.out] at hDA
        have hD0 := dC_at (by rw [← HM.out]; exact h65) hDA
        have hln : l.length ≤ 100000 := by
          have hbw := okC.bwd _ _ _ HPS.out
          have h3 := congrArg List.length hbw
          rw [← HM.out] at h3
          have h4 := flat_len eE_pos l
          simp only [eC, eL, List.length_append, n6_len] at h3
          omega
        have HD0 := Lib.hid hD0
        have HPM := Lib.hid hpm
        clear hD0 hDA hpm
        cases hok : (⟨x1, x2, x3, l⟩ : Rc).ok
        · have HD : Hid (dC b = none) := Lib.hid (by rw [HD0.out, hok]; rfl)
          refine wp_region_held_drew (S := fun w' => Blk w' yb 52 #[.int .i64 x1, .int .i64 x2, .int .i64 x3, .slice A9 l.length c9] ∧ Blk w' rb 71 #[.slice A m cap, .int .i64 p, .bool false]) (by kernel_rfl) ⟨Y9a.out, HBR.out⟩ (fun hHeld => ?_)
          refine take_d 0 19 (.agg #[.int .i64 x1, .int .i64 x2, .int .i64 x3, .slice A9 l.length c9]) _ rfl rfl (by kernel_rfl) (by kernel_rfl) (by kernel_rfl) (fun _ _ _ h => h) (Or.inl ⟨by rfl, fun w' hSw => ?_⟩) hHeld ?_
          · have q0 := hSw.1.cell 0
            have q1 := hSw.1.cell 1
            have q2 := hSw.1.cell 2
            have q3 := hSw.1.cell 3
            go_simp
          simp only [List.setIfInBounds_toArray, List.set_cons_zero, List.set_cons_succ]
          refine take_d 1 20 (.pointer (some ⟨rb, 0, none⟩)) _ rfl rfl (by kernel_rfl) (by kernel_rfl) (by kernel_rfl) (fun _ _ _ h => h) (Or.inl ⟨by rfl, fun w' hSw => ?_⟩) hHeld ?_
          · go_simp
          simp only [List.setIfInBounds_toArray, List.set_cons_zero, List.set_cons_succ]
          refine take_d 2 21 (.pointer (some ⟨rb, 0, none⟩)) _ rfl rfl (by kernel_rfl) (by kernel_rfl) (by kernel_rfl) (fun _ _ _ h => h) (Or.inl ⟨by rfl, fun w' hSw => ?_⟩) hHeld ?_
          · go_simp
          simp only [List.setIfInBounds_toArray, List.set_cons_zero, List.set_cons_succ]
          refine take_d 3 22 (.pointer (some ⟨rb, 2, none⟩)) _ rfl rfl (by kernel_rfl) (by kernel_rfl) (by kernel_rfl) (fun _ _ _ h => h) (Or.inl ⟨by rfl, fun w' hSw => ?_⟩) hHeld ?_
          · go_simp
          simp only [List.setIfInBounds_toArray, List.set_cons_zero, List.set_cons_succ]
          refine take_d 4 23 (.bool false) _ rfl rfl (by kernel_rfl) (by kernel_rfl) (by kernel_rfl) (fun _ _ _ h => h) (Or.inl ⟨by rfl, fun w' hSw => ?_⟩) hHeld ?_
          · have q0 := hSw.2.cell 0
            have q1 := hSw.2.cell 1
            have q2 := hSw.2.cell 2
            go_simp
          simp only [List.setIfInBounds_toArray, List.set_cons_zero, List.set_cons_succ]
          refine take_d 5 24 (.bool true) _ rfl rfl (by kernel_rfl) (by kernel_rfl) (by kernel_rfl) (fun _ _ _ h => h) (Or.inl ⟨by rfl, fun w' hSw => ?_⟩) hHeld ?_
          · go_simp
          simp only [List.setIfInBounds_toArray, List.set_cons_zero, List.set_cons_succ]
          refine take_d 6 25 (.bool true) _ rfl rfl (by kernel_rfl) (by kernel_rfl) (by kernel_rfl) (fun _ _ _ h => h) (Or.inl ⟨by rfl, fun w' hSw => ?_⟩) hHeld ?_
          · go_simp
          simp only [List.setIfInBounds_toArray, List.set_cons_zero, List.set_cons_succ]
          refine take_d 7 26 (.pointer (some ⟨rb, 0, none⟩)) _ rfl rfl (by kernel_rfl) (by kernel_rfl) (by kernel_rfl) (fun _ _ _ h => h) (Or.inl ⟨by rfl, fun w' hSw => ?_⟩) hHeld ?_
          · go_simp
          simp only [List.setIfInBounds_toArray, List.set_cons_zero, List.set_cons_succ]
          refine take_d 8 27 (.pointer (some ⟨rb, 0, none⟩)) _ rfl rfl (by kernel_rfl) (by kernel_rfl) (by kernel_rfl) (fun _ _ _ h => h) (Or.inl ⟨by rfl, fun w' hSw => ?_⟩) hHeld ?_
          · go_simp
          simp only [List.setIfInBounds_toArray, List.set_cons_zero, List.set_cons_succ]
          refine take_d 9 28 (.pointer (some ⟨rb, 1, none⟩)) _ rfl rfl (by kernel_rfl) (by kernel_rfl) (by kernel_rfl) (fun _ _ _ h => h) (Or.inl ⟨by rfl, fun w' hSw => ?_⟩) hHeld ?_
          · go_simp
          simp only [List.setIfInBounds_toArray, List.set_cons_zero, List.set_cons_succ]
          refine take_d 10 29 (.int .i64 p) _ rfl rfl (by kernel_rfl) (by kernel_rfl) (by kernel_rfl) (fun _ _ _ h => h) (Or.inl ⟨by rfl, fun w' hSw => ?_⟩) hHeld ?_
          · have q0 := hSw.2.cell 0
            have q1 := hSw.2.cell 1
            have q2 := hSw.2.cell 2
            go_simp
          simp only [List.setIfInBounds_toArray, List.set_cons_zero, List.set_cons_succ]
          refine take_d 11 30 (.slice A m cap) _ rfl rfl (by kernel_rfl) (by kernel_rfl) (by kernel_rfl) (fun _ _ _ h => h) (Or.inl ⟨by rfl, fun w' hSw => ?_⟩) hHeld ?_
          · go_simp
          simp only [List.setIfInBounds_toArray, List.set_cons_zero, List.set_cons_succ]
          refine take_d 12 31 (.int .i64 (m : Int)) _ rfl rfl (by kernel_rfl) (by kernel_rfl) (by kernel_rfl) (fun _ _ _ h => h) (Or.inl ⟨by rfl, fun w' hSw => ?_⟩) hHeld ?_
          · go_simp
          simp only [List.setIfInBounds_toArray, List.set_cons_zero, List.set_cons_succ]
          refine take_d 13 32 (.bool true) _ rfl rfl (by kernel_rfl) (by kernel_rfl) (by kernel_rfl) (fun _ _ _ h => h) (Or.inl ⟨by rfl, fun w' hSw => ?_⟩) hHeld ?_
          · go_simp
          simp only [List.setIfInBounds_toArray, List.set_cons_zero, List.set_cons_succ]
          refine take_d 14 33 (.bool true) _ rfl rfl (by kernel_rfl) (by kernel_rfl) (by kernel_rfl) (fun _ _ _ h => h) (Or.inl ⟨by rfl, fun w' hSw => ?_⟩) hHeld ?_
          · go_simp
          simp only [List.setIfInBounds_toArray, List.set_cons_zero, List.set_cons_succ]
          refine take_d 15 34 (.bool true) _ rfl rfl (by kernel_rfl) (by kernel_rfl) (by kernel_rfl) (fun _ _ _ h => h) (Or.inl ⟨by rfl, fun w' hSw => ?_⟩) hHeld ?_
          · go_simp
          simp only [List.setIfInBounds_toArray, List.set_cons_zero, List.set_cons_succ]
          refine take_d 16 35 (.slice A m cap) _ rfl rfl (by kernel_rfl) (by kernel_rfl) (by kernel_rfl) (fun _ _ _ h => h) (Or.inl ⟨by rfl, fun w' hSw => ?_⟩) hHeld ?_
          · go_simp
          simp only [List.setIfInBounds_toArray, List.set_cons_zero, List.set_cons_succ]
          refine take_d 17 36 (.int .i64 (m : Int)) _ rfl rfl (by kernel_rfl) (by kernel_rfl) (by kernel_rfl) (fun _ _ _ h => h) (Or.inl ⟨by rfl, fun w' hSw => ?_⟩) hHeld ?_
          · go_simp
          simp only [List.setIfInBounds_toArray, List.set_cons_zero, List.set_cons_succ]
          refine take_d 18 37 (.bool true) _ rfl rfl (by kernel_rfl) (by kernel_rfl) (by kernel_rfl) (fun _ _ _ h => h) (Or.inl ⟨by rfl, fun w' hSw => ?_⟩) hHeld ?_
          · go_simp
          simp only [List.setIfInBounds_toArray, List.set_cons_zero, List.set_cons_succ]
          refine take_d 19 38 (.bool true) _ rfl rfl (by kernel_rfl) (by kernel_rfl) (by kernel_rfl) (fun _ _ _ h => h) (Or.inl ⟨by rfl, fun w' hSw => ?_⟩) hHeld ?_
          · go_simp
          simp only [List.setIfInBounds_toArray, List.set_cons_zero, List.set_cons_succ]
          refine take_d 20 39 (.bool true) _ rfl rfl (by kernel_rfl) (by kernel_rfl) (by kernel_rfl) (fun _ _ _ h => h) (Or.inl ⟨by rfl, fun w' hSw => ?_⟩) hHeld ?_
          · go_simp
          simp only [List.setIfInBounds_toArray, List.set_cons_zero, List.set_cons_succ]
          refine take_d 21 40 (.agg #[.int .i64 x1, .int .i64 x2, .int .i64 x3, .slice A9 l.length c9]) _ rfl rfl (by kernel_rfl) (by kernel_rfl) (by kernel_rfl) (fun _ _ _ h => h) (Or.inl ⟨by rfl, fun w' hSw => ?_⟩) hHeld ?_
          · have q0 := hSw.1.cell 0
            have q1 := hSw.1.cell 1
            have q2 := hSw.1.cell 2
            have q3 := hSw.1.cell 3
            go_simp
          simp only [List.setIfInBounds_toArray, List.set_cons_zero, List.set_cons_succ]
          refine wpAnyH_ready (rs := [22]) (by kernel_rfl) (by simp) ?_
          refine AllReadyH.cons rfl (fun K hK => ?_) AllReadyH.nil
          go_simp
          refine (xrec_any (⟨x1, x2, x3, l⟩ : Rc) _ _ (by have := hln; simp only; omega) (EV.out.on (Below.drewN' (Below.refl _ _) 1))).mono ?_
          rintro e w10 ⟨rfl, b10⟩
          rw [hok]
          have HB10 := Lib.hid b10
          refine hK.out _ _ ⟨hHeld.1.on b10, hHeld.2.on b10⟩ (fun hHeld => ?_)
          clear hK K b10
          refine take_d 23 42 (.bool false) _ rfl rfl (by kernel_rfl) (by kernel_rfl) (by kernel_rfl) (fun _ _ _ h => h) (Or.inl ⟨by rfl, fun w' hSw => ?_⟩) hHeld ?_
          · go_simp
          simp only [List.setIfInBounds_toArray, List.set_cons_zero, List.set_cons_succ]
          refine wpAnyH_ready (rs := [24]) (by kernel_rfl) (by simp) ?_
          refine AllReadyH.cons rfl (fun K hK => ?_) AllReadyH.nil
          have ZC := Lib.hid ((show Blk wa.drew w.heap.size 52 #[.int .i64 0, .int .i64 0, .int .i64 0, .slice none 0 0] from Z9.out).on HB10.out)
          have z0 := ZC.out.cell 0
          have z1 := ZC.out.cell 1
          have z2 := ZC.out.cell 2
          have z3 := ZC.out.cell 3
          have zf := ZC.out.frozen
          have zl := ZC.out.lt
          go_simp
          refine hK.out _ _ ⟨((((hHeld.1).far (p := ⟨w.heap.size, 0, none⟩) (fun h => hyz h.symm) _).far (p := ⟨w.heap.size, 1, none⟩) (fun h => hyz h.symm) _).far (p := ⟨w.heap.size, 2, none⟩) (fun h => hyz h.symm) _).far (p := ⟨w.heap.size, 3, none⟩) (fun h => hyz h.symm) _, ((((hHeld.2).far (p := ⟨w.heap.size, 0, none⟩) (fun h => hzr h.symm) _).far (p := ⟨w.heap.size, 1, none⟩) (fun h => hzr h.symm) _).far (p := ⟨w.heap.size, 2, none⟩) (fun h => hzr h.symm) _).far (p := ⟨w.heap.size, 3, none⟩) (fun h => hzr h.symm) _⟩ (fun hHeld => ?_)
          clear hK K
          refine take_d 25 3 (.bool false) _ rfl rfl (by kernel_rfl) (by kernel_rfl) (by kernel_rfl) (fun _ _ _ h => h) (Or.inl ⟨by rfl, fun w' hSw => ?_⟩) hHeld ?_
          · go_simp
          simp only [List.setIfInBounds_toArray, List.set_cons_zero, List.set_cons_succ]
          refine wpAnyH_done (by kernel_rfl) ?_ _
          have zc := ZC.out
          go_wp2
          refine bodyPost_ret (v := .tuple #[.agg #[.int .i64 x1, .int .i64 x2, .int .i64 x3, .slice A9 l.length c9], .bool false]) (by simp [results, Tryz.results20, go_sem, *]) rfl ⟨((((((BA.out.trans ((Below.drewN' (Below.refl _ _) 1).mono hsa)).trans (HB10.out.mono hsa)).setCell (p := ⟨w.heap.size, 0, none⟩) (Nat.le_refl _) _).setCell (p := ⟨w.heap.size, 1, none⟩) (Nat.le_refl _) _).setCell (p := ⟨w.heap.size, 2, none⟩) (Nat.le_refl _) _).setCell (p := ⟨w.heap.size, 3, none⟩) (Nat.le_refl _) _), (⟨x1, x2, x3, l⟩ : Rc), A9, c9, false, rfl, (((((OwnE.on (w := wa.drew) (V9.out.on (Below.drewN' (Below.refl _ _) 1)) HB10.out).set_ (q := ⟨w.heap.size, 0, none⟩) (by simp only; omega) _).set_ (q := ⟨w.heap.size, 1, none⟩) (by simp only; omega) _).set_ (q := ⟨w.heap.size, 2, none⟩) (by simp only; omega) _).set_ (q := ⟨w.heap.size, 3, none⟩) (by simp only; omega) _).low (by omega), .inr ⟨rfl, HD.out⟩⟩
        · have HD : Hid (dC b = some (⟨x1, x2, x3, l⟩ : Rc)) := Lib.hid (by rw [HD0.out, hok]; rfl)
          refine wp_region_held_drew (S := fun w' => Blk w' yb 52 #[.int .i64 x1, .int .i64 x2, .int .i64 x3, .slice A9 l.length c9] ∧ Blk w' rb 71 #[.slice A m cap, .int .i64 p, .bool false]) (by kernel_rfl) ⟨Y9a.out, HBR.out⟩ (fun hHeld => ?_)
          refine take_d 0 19 (.agg #[.int .i64 x1, .int .i64 x2, .int .i64 x3, .slice A9 l.length c9]) _ rfl rfl (by kernel_rfl) (by kernel_rfl) (by kernel_rfl) (fun _ _ _ h => h) (Or.inl ⟨by rfl, fun w' hSw => ?_⟩) hHeld ?_
          · have q0 := hSw.1.cell 0
            have q1 := hSw.1.cell 1
            have q2 := hSw.1.cell 2
            have q3 := hSw.1.cell 3
            go_simp
          simp only [List.setIfInBounds_toArray, List.set_cons_zero, List.set_cons_succ]
          refine take_d 1 20 (.pointer (some ⟨rb, 0, none⟩)) _ rfl rfl (by kernel_rfl) (by kernel_rfl) (by kernel_rfl) (fun _ _ _ h => h) (Or.inl ⟨by rfl, fun w' hSw => ?_⟩) hHeld ?_
          · go_simp
          simp only [List.setIfInBounds_toArray, List.set_cons_zero, List.set_cons_succ]
          refine take_d 2 21 (.pointer (some ⟨rb, 0, none⟩)) _ rfl rfl (by kernel_rfl) (by kernel_rfl) (by kernel_rfl) (fun _ _ _ h => h) (Or.inl ⟨by rfl, fun w' hSw => ?_⟩) hHeld ?_
          · go_simp
          simp only [List.setIfInBounds_toArray, List.set_cons_zero, List.set_cons_succ]
          refine take_d 3 22 (.pointer (some ⟨rb, 2, none⟩)) _ rfl rfl (by kernel_rfl) (by kernel_rfl) (by kernel_rfl) (fun _ _ _ h => h) (Or.inl ⟨by rfl, fun w' hSw => ?_⟩) hHeld ?_
          · go_simp
          simp only [List.setIfInBounds_toArray, List.set_cons_zero, List.set_cons_succ]
          refine take_d 4 23 (.bool false) _ rfl rfl (by kernel_rfl) (by kernel_rfl) (by kernel_rfl) (fun _ _ _ h => h) (Or.inl ⟨by rfl, fun w' hSw => ?_⟩) hHeld ?_
          · have q0 := hSw.2.cell 0
            have q1 := hSw.2.cell 1
            have q2 := hSw.2.cell 2
            go_simp
          simp only [List.setIfInBounds_toArray, List.set_cons_zero, List.set_cons_succ]
          refine take_d 5 24 (.bool true) _ rfl rfl (by kernel_rfl) (by kernel_rfl) (by kernel_rfl) (fun _ _ _ h => h) (Or.inl ⟨by rfl, fun w' hSw => ?_⟩) hHeld ?_
          · go_simp
          simp only [List.setIfInBounds_toArray, List.set_cons_zero, List.set_cons_succ]
          refine take_d 6 25 (.bool true) _ rfl rfl (by kernel_rfl) (by kernel_rfl) (by kernel_rfl) (fun _ _ _ h => h) (Or.inl ⟨by rfl, fun w' hSw => ?_⟩) hHeld ?_
          · go_simp
          simp only [List.setIfInBounds_toArray, List.set_cons_zero, List.set_cons_succ]
          refine take_d 7 26 (.pointer (some ⟨rb, 0, none⟩)) _ rfl rfl (by kernel_rfl) (by kernel_rfl) (by kernel_rfl) (fun _ _ _ h => h) (Or.inl ⟨by rfl, fun w' hSw => ?_⟩) hHeld ?_
          · go_simp
          simp only [List.setIfInBounds_toArray, List.set_cons_zero, List.set_cons_succ]
          refine take_d 8 27 (.pointer (some ⟨rb, 0, none⟩)) _ rfl rfl (by kernel_rfl) (by kernel_rfl) (by kernel_rfl) (fun _ _ _ h => h) (Or.inl ⟨by rfl, fun w' hSw => ?_⟩) hHeld ?_
          · go_simp
          simp only [List.setIfInBounds_toArray, List.set_cons_zero, List.set_cons_succ]
          refine take_d 9 28 (.pointer (some ⟨rb, 1, none⟩)) _ rfl rfl (by kernel_rfl) (by kernel_rfl) (by kernel_rfl) (fun _ _ _ h => h) (Or.inl ⟨by rfl, fun w' hSw => ?_⟩) hHeld ?_
          · go_simp
          simp only [List.setIfInBounds_toArray, List.set_cons_zero, List.set_cons_succ]
          refine take_d 10 29 (.int .i64 p) _ rfl rfl (by kernel_rfl) (by kernel_rfl) (by kernel_rfl) (fun _ _ _ h => h) (Or.inl ⟨by rfl, fun w' hSw => ?_⟩) hHeld ?_
          · have q0 := hSw.2.cell 0
            have q1 := hSw.2.cell 1
            have q2 := hSw.2.cell 2
            go_simp
          simp only [List.setIfInBounds_toArray, List.set_cons_zero, List.set_cons_succ]
          refine take_d 11 30 (.slice A m cap) _ rfl rfl (by kernel_rfl) (by kernel_rfl) (by kernel_rfl) (fun _ _ _ h => h) (Or.inl ⟨by rfl, fun w' hSw => ?_⟩) hHeld ?_
          · go_simp
          simp only [List.setIfInBounds_toArray, List.set_cons_zero, List.set_cons_succ]
          refine take_d 12 31 (.int .i64 (m : Int)) _ rfl rfl (by kernel_rfl) (by kernel_rfl) (by kernel_rfl) (fun _ _ _ h => h) (Or.inl ⟨by rfl, fun w' hSw => ?_⟩) hHeld ?_
          · go_simp
          simp only [List.setIfInBounds_toArray, List.set_cons_zero, List.set_cons_succ]
          refine take_d 13 32 (.bool true) _ rfl rfl (by kernel_rfl) (by kernel_rfl) (by kernel_rfl) (fun _ _ _ h => h) (Or.inl ⟨by rfl, fun w' hSw => ?_⟩) hHeld ?_
          · go_simp
          simp only [List.setIfInBounds_toArray, List.set_cons_zero, List.set_cons_succ]
          refine take_d 14 33 (.bool true) _ rfl rfl (by kernel_rfl) (by kernel_rfl) (by kernel_rfl) (fun _ _ _ h => h) (Or.inl ⟨by rfl, fun w' hSw => ?_⟩) hHeld ?_
          · go_simp
          simp only [List.setIfInBounds_toArray, List.set_cons_zero, List.set_cons_succ]
          refine take_d 15 34 (.bool true) _ rfl rfl (by kernel_rfl) (by kernel_rfl) (by kernel_rfl) (fun _ _ _ h => h) (Or.inl ⟨by rfl, fun w' hSw => ?_⟩) hHeld ?_
          · go_simp
          simp only [List.setIfInBounds_toArray, List.set_cons_zero, List.set_cons_succ]
          refine take_d 16 35 (.slice A m cap) _ rfl rfl (by kernel_rfl) (by kernel_rfl) (by kernel_rfl) (fun _ _ _ h => h) (Or.inl ⟨by rfl, fun w' hSw => ?_⟩) hHeld ?_
          · go_simp
          simp only [List.setIfInBounds_toArray, List.set_cons_zero, List.set_cons_succ]
          refine take_d 17 36 (.int .i64 (m : Int)) _ rfl rfl (by kernel_rfl) (by kernel_rfl) (by kernel_rfl) (fun _ _ _ h => h) (Or.inl ⟨by rfl, fun w' hSw => ?_⟩) hHeld ?_
          · go_simp
          simp only [List.setIfInBounds_toArray, List.set_cons_zero, List.set_cons_succ]
          refine take_d 18 37 (.bool true) _ rfl rfl (by kernel_rfl) (by kernel_rfl) (by kernel_rfl) (fun _ _ _ h => h) (Or.inl ⟨by rfl, fun w' hSw => ?_⟩) hHeld ?_
          · go_simp
          simp only [List.setIfInBounds_toArray, List.set_cons_zero, List.set_cons_succ]
          refine take_d 19 38 (.bool true) _ rfl rfl (by kernel_rfl) (by kernel_rfl) (by kernel_rfl) (fun _ _ _ h => h) (Or.inl ⟨by rfl, fun w' hSw => ?_⟩) hHeld ?_
          · go_simp
          simp only [List.setIfInBounds_toArray, List.set_cons_zero, List.set_cons_succ]
          refine take_d 20 39 (.bool true) _ rfl rfl (by kernel_rfl) (by kernel_rfl) (by kernel_rfl) (fun _ _ _ h => h) (Or.inl ⟨by rfl, fun w' hSw => ?_⟩) hHeld ?_
          · go_simp
          simp only [List.setIfInBounds_toArray, List.set_cons_zero, List.set_cons_succ]
          refine take_d 21 40 (.agg #[.int .i64 x1, .int .i64 x2, .int .i64 x3, .slice A9 l.length c9]) _ rfl rfl (by kernel_rfl) (by kernel_rfl) (by kernel_rfl) (fun _ _ _ h => h) (Or.inl ⟨by rfl, fun w' hSw => ?_⟩) hHeld ?_
          · have q0 := hSw.1.cell 0
            have q1 := hSw.1.cell 1
            have q2 := hSw.1.cell 2
            have q3 := hSw.1.cell 3
            go_simp
          simp only [List.setIfInBounds_toArray, List.set_cons_zero, List.set_cons_succ]
          refine wpAnyH_ready (rs := [22]) (by kernel_rfl) (by simp) ?_
          refine AllReadyH.cons rfl (fun K hK => ?_) AllReadyH.nil
          go_simp
          refine (xrec_any (⟨x1, x2, x3, l⟩ : Rc) _ _ (by have := hln; simp only; omega) (EV.out.on (Below.drewN' (Below.refl _ _) 1))).mono ?_
          rintro e w10 ⟨rfl, b10⟩
          rw [hok]
          have HB10 := Lib.hid b10
          refine hK.out _ _ ⟨hHeld.1.on b10, hHeld.2.on b10⟩ (fun hHeld => ?_)
          clear hK K b10
          refine take_d 23 42 (.bool true) _ rfl rfl (by kernel_rfl) (by kernel_rfl) (by kernel_rfl) (fun _ _ _ h => h) (Or.inl ⟨by rfl, fun w' hSw => ?_⟩) hHeld ?_
          · go_simp
          simp only [List.setIfInBounds_toArray, List.set_cons_zero, List.set_cons_succ]
          refine wpAnyH_ready (rs := [24]) (by kernel_rfl) (by simp) ?_
          refine AllReadyH.cons rfl (fun K hK => ?_) AllReadyH.nil
          have ZC := Lib.hid ((show Blk wa.drew w.heap.size 52 #[.int .i64 0, .int .i64 0, .int .i64 0, .slice none 0 0] from Z9.out).on HB10.out)
          have z0 := ZC.out.cell 0
          have z1 := ZC.out.cell 1
          have z2 := ZC.out.cell 2
          have z3 := ZC.out.cell 3
          have zf := ZC.out.frozen
          have zl := ZC.out.lt
          go_simp
          refine hK.out _ _ ⟨((((hHeld.1).far (p := ⟨w.heap.size, 0, none⟩) (fun h => hyz h.symm) _).far (p := ⟨w.heap.size, 1, none⟩) (fun h => hyz h.symm) _).far (p := ⟨w.heap.size, 2, none⟩) (fun h => hyz h.symm) _).far (p := ⟨w.heap.size, 3, none⟩) (fun h => hyz h.symm) _, ((((hHeld.2).far (p := ⟨w.heap.size, 0, none⟩) (fun h => hzr h.symm) _).far (p := ⟨w.heap.size, 1, none⟩) (fun h => hzr h.symm) _).far (p := ⟨w.heap.size, 2, none⟩) (fun h => hzr h.symm) _).far (p := ⟨w.heap.size, 3, none⟩) (fun h => hzr h.symm) _⟩ (fun hHeld => ?_)
          clear hK K
          refine take_d 25 3 (.bool true) _ rfl rfl (by kernel_rfl) (by kernel_rfl) (by kernel_rfl) (fun _ _ _ h => h) (Or.inl ⟨by rfl, fun w' hSw => ?_⟩) hHeld ?_
          · go_simp
          simp only [List.setIfInBounds_toArray, List.set_cons_zero, List.set_cons_succ]
          refine wpAnyH_done (by kernel_rfl) ?_ _
          have zc := ZC.out
          go_wp2
          refine bodyPost_ret (v := .tuple #[.agg #[.int .i64 x1, .int .i64 x2, .int .i64 x3, .slice A9 l.length c9], .bool true]) (by simp [results, Tryz.results20, go_sem, *]) rfl ⟨((((((BA.out.trans ((Below.drewN' (Below.refl _ _) 1).mono hsa)).trans (HB10.out.mono hsa)).setCell (p := ⟨w.heap.size, 0, none⟩) (Nat.le_refl _) _).setCell (p := ⟨w.heap.size, 1, none⟩) (Nat.le_refl _) _).setCell (p := ⟨w.heap.size, 2, none⟩) (Nat.le_refl _) _).setCell (p := ⟨w.heap.size, 3, none⟩) (Nat.le_refl _) _), (⟨x1, x2, x3, l⟩ : Rc), A9, c9, true, rfl, (((((OwnE.on (w := wa.drew) (V9.out.on (Below.drewN' (Below.refl _ _) 1)) HB10.out).set_ (q := ⟨w.heap.size, 0, none⟩) (by simp only; omega) _).set_ (q := ⟨w.heap.size, 1, none⟩) (by simp only; omega) _).set_ (q := ⟨w.heap.size, 2, none⟩) (by simp only; omega) _).set_ (q := ⟨w.heap.size, 3, none⟩) (by simp only; omega) _).low (by omega), .inl ⟨rfl, HD.out⟩⟩
      · have h65' : ¬ (m : Int) ≤ 65536 := by omega
        have HPM := Lib.hid hpm
        clear hpm
        have HD := Lib.hid (dC_big (b := b) (by rw [← HM.out]; omega))
        refine wp_region_held_drew (S := fun w' => Blk w' yb 52 #[.int .i64 x1, .int .i64 x2, .int .i64 x3, .slice A9 l.length c9] ∧ Blk w' rb 71 #[.slice A m cap, .int .i64 p, .bool false]) (by kernel_rfl) ⟨Y9a.out, HBR.out⟩ (fun hHeld => ?_)
        refine take_d 0 19 (.agg #[.int .i64 x1, .int .i64 x2, .int .i64 x3, .slice A9 l.length c9]) _ rfl rfl (by kernel_rfl) (by kernel_rfl) (by kernel_rfl) (fun _ _ _ h => h) (Or.inl ⟨by rfl, fun w' hSw => ?_⟩) hHeld ?_
        · have q0 := hSw.1.cell 0
          have q1 := hSw.1.cell 1
          have q2 := hSw.1.cell 2
          have q3 := hSw.1.cell 3
          go_simp
        simp only [List.setIfInBounds_toArray, List.set_cons_zero, List.set_cons_succ]
        refine take_d 1 20 (.pointer (some ⟨rb, 0, none⟩)) _ rfl rfl (by kernel_rfl) (by kernel_rfl) (by kernel_rfl) (fun _ _ _ h => h) (Or.inl ⟨by rfl, fun w' hSw => ?_⟩) hHeld ?_
        · go_simp
        simp only [List.setIfInBounds_toArray, List.set_cons_zero, List.set_cons_succ]
        refine take_d 2 21 (.pointer (some ⟨rb, 0, none⟩)) _ rfl rfl (by kernel_rfl) (by kernel_rfl) (by kernel_rfl) (fun _ _ _ h => h) (Or.inl ⟨by rfl, fun w' hSw => ?_⟩) hHeld ?_
        · go_simp
        simp only [List.setIfInBounds_toArray, List.set_cons_zero, List.set_cons_succ]
        refine take_d 3 22 (.pointer (some ⟨rb, 2, none⟩)) _ rfl rfl (by kernel_rfl) (by kernel_rfl) (by kernel_rfl) (fun _ _ _ h => h) (Or.inl ⟨by rfl, fun w' hSw => ?_⟩) hHeld ?_
        · go_simp
        simp only [List.setIfInBounds_toArray, List.set_cons_zero, List.set_cons_succ]
        refine take_d 4 23 (.bool false) _ rfl rfl (by kernel_rfl) (by kernel_rfl) (by kernel_rfl) (fun _ _ _ h => h) (Or.inl ⟨by rfl, fun w' hSw => ?_⟩) hHeld ?_
        · have q0 := hSw.2.cell 0
          have q1 := hSw.2.cell 1
          have q2 := hSw.2.cell 2
          go_simp
        simp only [List.setIfInBounds_toArray, List.set_cons_zero, List.set_cons_succ]
        refine take_d 5 24 (.bool true) _ rfl rfl (by kernel_rfl) (by kernel_rfl) (by kernel_rfl) (fun _ _ _ h => h) (Or.inl ⟨by rfl, fun w' hSw => ?_⟩) hHeld ?_
        · go_simp
        simp only [List.setIfInBounds_toArray, List.set_cons_zero, List.set_cons_succ]
        refine take_d 6 25 (.bool true) _ rfl rfl (by kernel_rfl) (by kernel_rfl) (by kernel_rfl) (fun _ _ _ h => h) (Or.inl ⟨by rfl, fun w' hSw => ?_⟩) hHeld ?_
        · go_simp
        simp only [List.setIfInBounds_toArray, List.set_cons_zero, List.set_cons_succ]
        refine take_d 7 26 (.pointer (some ⟨rb, 0, none⟩)) _ rfl rfl (by kernel_rfl) (by kernel_rfl) (by kernel_rfl) (fun _ _ _ h => h) (Or.inl ⟨by rfl, fun w' hSw => ?_⟩) hHeld ?_
        · go_simp
        simp only [List.setIfInBounds_toArray, List.set_cons_zero, List.set_cons_succ]
        refine take_d 8 27 (.pointer (some ⟨rb, 0, none⟩)) _ rfl rfl (by kernel_rfl) (by kernel_rfl) (by kernel_rfl) (fun _ _ _ h => h) (Or.inl ⟨by rfl, fun w' hSw => ?_⟩) hHeld ?_
        · go_simp
        simp only [List.setIfInBounds_toArray, List.set_cons_zero, List.set_cons_succ]
        refine take_d 9 28 (.pointer (some ⟨rb, 1, none⟩)) _ rfl rfl (by kernel_rfl) (by kernel_rfl) (by kernel_rfl) (fun _ _ _ h => h) (Or.inl ⟨by rfl, fun w' hSw => ?_⟩) hHeld ?_
        · go_simp
        simp only [List.setIfInBounds_toArray, List.set_cons_zero, List.set_cons_succ]
        refine take_d 10 29 (.int .i64 p) _ rfl rfl (by kernel_rfl) (by kernel_rfl) (by kernel_rfl) (fun _ _ _ h => h) (Or.inl ⟨by rfl, fun w' hSw => ?_⟩) hHeld ?_
        · have q0 := hSw.2.cell 0
          have q1 := hSw.2.cell 1
          have q2 := hSw.2.cell 2
          go_simp
        simp only [List.setIfInBounds_toArray, List.set_cons_zero, List.set_cons_succ]
        refine take_d 11 30 (.slice A m cap) _ rfl rfl (by kernel_rfl) (by kernel_rfl) (by kernel_rfl) (fun _ _ _ h => h) (Or.inl ⟨by rfl, fun w' hSw => ?_⟩) hHeld ?_
        · go_simp
        simp only [List.setIfInBounds_toArray, List.set_cons_zero, List.set_cons_succ]
        refine take_d 12 31 (.int .i64 (m : Int)) _ rfl rfl (by kernel_rfl) (by kernel_rfl) (by kernel_rfl) (fun _ _ _ h => h) (Or.inl ⟨by rfl, fun w' hSw => ?_⟩) hHeld ?_
        · go_simp
        simp only [List.setIfInBounds_toArray, List.set_cons_zero, List.set_cons_succ]
        refine take_d 13 32 (.bool true) _ rfl rfl (by kernel_rfl) (by kernel_rfl) (by kernel_rfl) (fun _ _ _ h => h) (Or.inl ⟨by rfl, fun w' hSw => ?_⟩) hHeld ?_
        · go_simp
        simp only [List.setIfInBounds_toArray, List.set_cons_zero, List.set_cons_succ]
        refine take_d 14 33 (.bool true) _ rfl rfl (by kernel_rfl) (by kernel_rfl) (by kernel_rfl) (fun _ _ _ h => h) (Or.inl ⟨by rfl, fun w' hSw => ?_⟩) hHeld ?_
        · go_simp
        simp only [List.setIfInBounds_toArray, List.set_cons_zero, List.set_cons_succ]
        refine take_d 15 34 (.bool true) _ rfl rfl (by kernel_rfl) (by kernel_rfl) (by kernel_rfl) (fun _ _ _ h => h) (Or.inl ⟨by rfl, fun w' hSw => ?_⟩) hHeld ?_
        · go_simp
        simp only [List.setIfInBounds_toArray, List.set_cons_zero, List.set_cons_succ]
        refine take_d 16 35 (.slice A m cap) _ rfl rfl (by kernel_rfl) (by kernel_rfl) (by kernel_rfl) (fun _ _ _ h => h) (Or.inl ⟨by rfl, fun w' hSw => ?_⟩) hHeld ?_
        · go_simp
        simp only [List.setIfInBounds_toArray, List.set_cons_zero, List.set_cons_succ]
        refine take_d 17 36 (.int .i64 (m : Int)) _ rfl rfl (by kernel_rfl) (by kernel_rfl) (by kernel_rfl) (fun _ _ _ h => h) (Or.inl ⟨by rfl, fun w' hSw => ?_⟩) hHeld ?_
        · go_simp
        simp only [List.setIfInBounds_toArray, List.set_cons_zero, List.set_cons_succ]
        refine take_d 18 37 (.bool false) _ rfl rfl (by kernel_rfl) (by kernel_rfl) (by kernel_rfl) (fun _ _ _ h => h) (Or.inl ⟨by rfl, fun w' hSw => ?_⟩) hHeld ?_
        · go_simp
        simp only [List.setIfInBounds_toArray, List.set_cons_zero, List.set_cons_succ]
        refine take_d 19 38 (.bool false) _ rfl rfl (by kernel_rfl) (by kernel_rfl) (by kernel_rfl) (fun _ _ _ h => h) (Or.inl ⟨by rfl, fun w' hSw => ?_⟩) hHeld ?_
        · go_simp
        simp only [List.setIfInBounds_toArray, List.set_cons_zero, List.set_cons_succ]
        refine take_d 20 39 (.bool false) _ rfl rfl (by kernel_rfl) (by kernel_rfl) (by kernel_rfl) (fun _ _ _ h => h) (Or.inl ⟨by rfl, fun w' hSw => ?_⟩) hHeld ?_
        · go_simp
        simp only [List.setIfInBounds_toArray, List.set_cons_zero, List.set_cons_succ]
        refine take_d 21 40 undef _ rfl rfl (by kernel_rfl) (by kernel_rfl) (by kernel_rfl) (fun _ _ _ h => h) (Or.inr ⟨by rfl, rfl⟩) hHeld ?_
        simp only [List.setIfInBounds_toArray, List.set_cons_zero, List.set_cons_succ]
        refine take_d 22 41 undef _ rfl rfl (by kernel_rfl) (by kernel_rfl) (by kernel_rfl) (fun _ _ _ h => h) (Or.inr ⟨by rfl, rfl⟩) hHeld ?_
        simp only [List.setIfInBounds_toArray, List.set_cons_zero, List.set_cons_succ]
        refine take_d 23 42 (.bool false) _ rfl rfl (by kernel_rfl) (by kernel_rfl) (by kernel_rfl) (fun _ _ _ h => h) (Or.inl ⟨by rfl, fun w' hSw => ?_⟩) hHeld ?_
        · go_simp
        simp only [List.setIfInBounds_toArray, List.set_cons_zero, List.set_cons_succ]
        refine wpAnyH_ready (rs := [24]) (by kernel_rfl) (by simp) ?_
        refine AllReadyH.cons rfl (fun K hK => ?_) AllReadyH.nil
        have ZC := Z9
        have z0 := ZC.out.cell 0
        have z1 := ZC.out.cell 1
        have z2 := ZC.out.cell 2
        have z3 := ZC.out.cell 3
        have zf := ZC.out.frozen
        have zl := ZC.out.lt
        go_simp
        refine hK.out _ _ ⟨Blk.drew_ (((((Y9a.out).far (p := ⟨w.heap.size, 0, none⟩) (fun h => hyz h.symm) _).far (p := ⟨w.heap.size, 1, none⟩) (fun h => hyz h.symm) _).far (p := ⟨w.heap.size, 2, none⟩) (fun h => hyz h.symm) _).far (p := ⟨w.heap.size, 3, none⟩) (fun h => hyz h.symm) _), Blk.drew_ (((((HBR.out).far (p := ⟨w.heap.size, 0, none⟩) (fun h => hzr h.symm) _).far (p := ⟨w.heap.size, 1, none⟩) (fun h => hzr h.symm) _).far (p := ⟨w.heap.size, 2, none⟩) (fun h => hzr h.symm) _).far (p := ⟨w.heap.size, 3, none⟩) (fun h => hzr h.symm) _)⟩ (fun hHeld => ?_)
        clear hK K
        refine take_d 25 3 (.bool false) _ rfl rfl (by kernel_rfl) (by kernel_rfl) (by kernel_rfl) (fun _ _ _ h => h) (Or.inl ⟨by rfl, fun w' hSw => ?_⟩) hHeld ?_
        · go_simp
        simp only [List.setIfInBounds_toArray, List.set_cons_zero, List.set_cons_succ]
        refine wpAnyH_done (by kernel_rfl) ?_ _
        have zc := ZC.out
        go_wp2
        refine bodyPost_ret (v := .tuple #[.agg #[.int .i64 x1, .int .i64 x2, .int .i64 x3, .slice A9 l.length c9], .bool false]) (by simp [results, Tryz.results20, go_sem, *]) rfl ⟨(Below.drewN' ((((BA.out.setCell (p := ⟨w.heap.size, 0, none⟩) (Nat.le_refl _) _).setCell (p := ⟨w.heap.size, 1, none⟩) (Nat.le_refl _) _).setCell (p := ⟨w.heap.size, 2, none⟩) (Nat.le_refl _) _).setCell (p := ⟨w.heap.size, 3, none⟩) (Nat.le_refl _) _) 1), (⟨x1, x2, x3, l⟩ : Rc), A9, c9, false, rfl, (((((V9.out.set_ (q := ⟨w.heap.size, 0, none⟩) (by simp only; omega) _).set_ (q := ⟨w.heap.size, 1, none⟩) (by simp only; omega) _).set_ (q := ⟨w.heap.size, 2, none⟩) (by simp only; omega) _).set_ (q := ⟨w.heap.size, 3, none⟩) (by simp only; omega) _)).drew.low (by omega), .inr ⟨rfl, HD.out⟩⟩
    · have hpm' : ¬ (p : Int) = (m : Int) := by omega
      have v13 : ((p : Int) == (m : Int)) = false := by simpa using hpm'
      have HD := Lib.hid (dC_restA HPS.out (by rw [HS9.out]; intro h; have := congrArg List.length h; rw [List.length_drop, ← HM.out] at this; simp at this; omega))
      refine wp_region_held_drew (S := fun w' => Blk w' yb 52 #[.int .i64 x1, .int .i64 x2, .int .i64 x3, .slice A9 l.length c9] ∧ Blk w' rb 71 #[.slice A m cap, .int .i64 p, .bool false]) (by kernel_rfl) ⟨Y9a.out, HBR.out⟩ (fun hHeld => ?_)
      refine take_d 0 19 (.agg #[.int .i64 x1, .int .i64 x2, .int .i64 x3, .slice A9 l.length c9]) _ rfl rfl (by kernel_rfl) (by kernel_rfl) (by kernel_rfl) (fun _ _ _ h => h) (Or.inl ⟨by rfl, fun w' hSw => ?_⟩) hHeld ?_
      · have q0 := hSw.1.cell 0
        have q1 := hSw.1.cell 1
        have q2 := hSw.1.cell 2
        have q3 := hSw.1.cell 3
        go_simp
      simp only [List.setIfInBounds_toArray, List.set_cons_zero, List.set_cons_succ]
      refine take_d 1 20 (.pointer (some ⟨rb, 0, none⟩)) _ rfl rfl (by kernel_rfl) (by kernel_rfl) (by kernel_rfl) (fun _ _ _ h => h) (Or.inl ⟨by rfl, fun w' hSw => ?_⟩) hHeld ?_
      · go_simp
      simp only [List.setIfInBounds_toArray, List.set_cons_zero, List.set_cons_succ]
      refine take_d 2 21 (.pointer (some ⟨rb, 0, none⟩)) _ rfl rfl (by kernel_rfl) (by kernel_rfl) (by kernel_rfl) (fun _ _ _ h => h) (Or.inl ⟨by rfl, fun w' hSw => ?_⟩) hHeld ?_
      · go_simp
      simp only [List.setIfInBounds_toArray, List.set_cons_zero, List.set_cons_succ]
      refine take_d 3 22 (.pointer (some ⟨rb, 2, none⟩)) _ rfl rfl (by kernel_rfl) (by kernel_rfl) (by kernel_rfl) (fun _ _ _ h => h) (Or.inl ⟨by rfl, fun w' hSw => ?_⟩) hHeld ?_
      · go_simp
      simp only [List.setIfInBounds_toArray, List.set_cons_zero, List.set_cons_succ]
      refine take_d 4 23 (.bool false) _ rfl rfl (by kernel_rfl) (by kernel_rfl) (by kernel_rfl) (fun _ _ _ h => h) (Or.inl ⟨by rfl, fun w' hSw => ?_⟩) hHeld ?_
      · have q0 := hSw.2.cell 0
        have q1 := hSw.2.cell 1
        have q2 := hSw.2.cell 2
        go_simp
      simp only [List.setIfInBounds_toArray, List.set_cons_zero, List.set_cons_succ]
      refine take_d 5 24 (.bool true) _ rfl rfl (by kernel_rfl) (by kernel_rfl) (by kernel_rfl) (fun _ _ _ h => h) (Or.inl ⟨by rfl, fun w' hSw => ?_⟩) hHeld ?_
      · go_simp
      simp only [List.setIfInBounds_toArray, List.set_cons_zero, List.set_cons_succ]
      refine take_d 6 25 (.bool true) _ rfl rfl (by kernel_rfl) (by kernel_rfl) (by kernel_rfl) (fun _ _ _ h => h) (Or.inl ⟨by rfl, fun w' hSw => ?_⟩) hHeld ?_
      · go_simp
      simp only [List.setIfInBounds_toArray, List.set_cons_zero, List.set_cons_succ]
      refine take_d 7 26 (.pointer (some ⟨rb, 0, none⟩)) _ rfl rfl (by kernel_rfl) (by kernel_rfl) (by kernel_rfl) (fun _ _ _ h => h) (Or.inl ⟨by rfl, fun w' hSw => ?_⟩) hHeld ?_
      · go_simp
      simp only [List.setIfInBounds_toArray, List.set_cons_zero, List.set_cons_succ]
      refine take_d 8 27 (.pointer (some ⟨rb, 0, none⟩)) _ rfl rfl (by kernel_rfl) (by kernel_rfl) (by kernel_rfl) (fun _ _ _ h => h) (Or.inl ⟨by rfl, fun w' hSw => ?_⟩) hHeld ?_
      · go_simp
      simp only [List.setIfInBounds_toArray, List.set_cons_zero, List.set_cons_succ]
      refine take_d 9 28 (.pointer (some ⟨rb, 1, none⟩)) _ rfl rfl (by kernel_rfl) (by kernel_rfl) (by kernel_rfl) (fun _ _ _ h => h) (Or.inl ⟨by rfl, fun w' hSw => ?_⟩) hHeld ?_
      · go_simp
      simp only [List.setIfInBounds_toArray, List.set_cons_zero, List.set_cons_succ]
      refine take_d 10 29 (.int .i64 p) _ rfl rfl (by kernel_rfl) (by kernel_rfl) (by kernel_rfl) (fun _ _ _ h => h) (Or.inl ⟨by rfl, fun w' hSw => ?_⟩) hHeld ?_
      · have q0 := hSw.2.cell 0
        have q1 := hSw.2.cell 1
        have q2 := hSw.2.cell 2
        go_simp
      simp only [List.setIfInBounds_toArray, List.set_cons_zero, List.set_cons_succ]
      refine take_d 11 30 (.slice A m cap) _ rfl rfl (by kernel_rfl) (by kernel_rfl) (by kernel_rfl) (fun _ _ _ h => h) (Or.inl ⟨by rfl, fun w' hSw => ?_⟩) hHeld ?_
      · go_simp
      simp only [List.setIfInBounds_toArray, List.set_cons_zero, List.set_cons_succ]
      refine take_d 12 31 (.int .i64 (m : Int)) _ rfl rfl (by kernel_rfl) (by kernel_rfl) (by kernel_rfl) (fun _ _ _ h => h) (Or.inl ⟨by rfl, fun w' hSw => ?_⟩) hHeld ?_
      · go_simp
      simp only [List.setIfInBounds_toArray, List.set_cons_zero, List.set_cons_succ]
      refine take_d 13 32 (.bool false) _ rfl rfl (by kernel_rfl) (by kernel_rfl) (by kernel_rfl) (fun _ _ _ h => h) (Or.inl ⟨by rfl, fun w' hSw => ?_⟩) hHeld ?_
      · go_simp
      simp only [List.setIfInBounds_toArray, List.set_cons_zero, List.set_cons_succ]
      refine take_d 14 33 (.bool false) _ rfl rfl (by kernel_rfl) (by kernel_rfl) (by kernel_rfl) (fun _ _ _ h => h) (Or.inl ⟨by rfl, fun w' hSw => ?_⟩) hHeld ?_
      · go_simp
      simp only [List.setIfInBounds_toArray, List.set_cons_zero, List.set_cons_succ]
      refine take_d 15 34 (.bool false) _ rfl rfl (by kernel_rfl) (by kernel_rfl) (by kernel_rfl) (fun _ _ _ h => h) (Or.inl ⟨by rfl, fun w' hSw => ?_⟩) hHeld ?_
      · go_simp
      simp only [List.setIfInBounds_toArray, List.set_cons_zero, List.set_cons_succ]
      refine take_d 16 35 undef _ rfl rfl (by kernel_rfl) (by kernel_rfl) (by kernel_rfl) (fun _ _ _ h => h) (Or.inr ⟨by rfl, rfl⟩) hHeld ?_
      simp only [List.setIfInBounds_toArray, List.set_cons_zero, List.set_cons_succ]
      refine take_d 17 36 undef _ rfl rfl (by kernel_rfl) (by kernel_rfl) (by kernel_rfl) (fun _ _ _ h => h) (Or.inr ⟨by rfl, rfl⟩) hHeld ?_
      simp only [List.setIfInBounds_toArray, List.set_cons_zero, List.set_cons_succ]
      refine take_d 18 37 undef _ rfl rfl (by kernel_rfl) (by kernel_rfl) (by kernel_rfl) (fun _ _ _ h => h) (Or.inr ⟨by rfl, rfl⟩) hHeld ?_
      simp only [List.setIfInBounds_toArray, List.set_cons_zero, List.set_cons_succ]
      refine take_d 19 38 (.bool false) _ rfl rfl (by kernel_rfl) (by kernel_rfl) (by kernel_rfl) (fun _ _ _ h => h) (Or.inl ⟨by rfl, fun w' hSw => ?_⟩) hHeld ?_
      · go_simp
      simp only [List.setIfInBounds_toArray, List.set_cons_zero, List.set_cons_succ]
      refine take_d 20 39 (.bool false) _ rfl rfl (by kernel_rfl) (by kernel_rfl) (by kernel_rfl) (fun _ _ _ h => h) (Or.inl ⟨by rfl, fun w' hSw => ?_⟩) hHeld ?_
      · go_simp
      simp only [List.setIfInBounds_toArray, List.set_cons_zero, List.set_cons_succ]
      refine take_d 21 40 undef _ rfl rfl (by kernel_rfl) (by kernel_rfl) (by kernel_rfl) (fun _ _ _ h => h) (Or.inr ⟨by rfl, rfl⟩) hHeld ?_
      simp only [List.setIfInBounds_toArray, List.set_cons_zero, List.set_cons_succ]
      refine take_d 22 41 undef _ rfl rfl (by kernel_rfl) (by kernel_rfl) (by kernel_rfl) (fun _ _ _ h => h) (Or.inr ⟨by rfl, rfl⟩) hHeld ?_
      simp only [List.setIfInBounds_toArray, List.set_cons_zero, List.set_cons_succ]
      refine take_d 23 42 (.bool false) _ rfl rfl (by kernel_rfl) (by kernel_rfl) (by kernel_rfl) (fun _ _ _ h => h) (Or.inl ⟨by rfl, fun w' hSw => ?_⟩) hHeld ?_
      · go_simp
      simp only [List.setIfInBounds_toArray, List.set_cons_zero, List.set_cons_succ]
      refine wpAnyH_ready (rs := [24]) (by kernel_rfl) (by simp) ?_
      refine AllReadyH.cons rfl (fun K hK => ?_) AllReadyH.nil
      have ZC := Z9
      have z0 := ZC.out.cell 0
      have z1 := ZC.out.cell 1
      have z2 := ZC.out.cell 2
      have z3 := ZC.out.cell 3
      have zf := ZC.out.frozen
      have zl := ZC.out.lt
      go_simp
      refine hK.out _ _ ⟨Blk.drew_ (((((Y9a.out).far (p := ⟨w.heap.size, 0, none⟩) (fun h => hyz h.symm) _).far (p := ⟨w.heap.size, 1, none⟩) (fun h => hyz h.symm) _).far (p := ⟨w.heap.size, 2, none⟩) (fun h => hyz h.symm) _).far (p := ⟨w.heap.size, 3, none⟩) (fun h => hyz h.symm) _), Blk.drew_ (((((HBR.out).far (p := ⟨w.heap.size, 0, none⟩) (fun h => hzr h.symm) _).far (p := ⟨w.heap.size, 1, none⟩) (fun h => hzr h.symm) _).far (p := ⟨w.heap.size, 2, none⟩) (fun h => hzr h.symm) _).far (p := ⟨w.heap.size, 3, none⟩) (fun h => hzr h.symm) _)⟩ (fun hHeld => ?_)
      clear hK K
      refine take_d 25 3 (.bool false) _ rfl rfl (by kernel_rfl) (by kernel_rfl) (by kernel_rfl) (fun _ _ _ h => h) (Or.inl ⟨by rfl, fun w' hSw => ?_⟩) hHeld ?_
      · go_simp
      simp only [List.setIfInBounds_toArray, List.set_cons_zero, List.set_cons_succ]
      refine wpAnyH_done (by kernel_rfl) ?_ _
      have zc := ZC.out
      go_wp2
      refine bodyPost_ret (v := .tuple #[.agg #[.int .i64 x1, .int .i64 x2, .int .i64 x3, .slice A9 l.length c9], .bool false]) (by simp [results, Tryz.results20, go_sem, *]) rfl ⟨(Below.drewN' ((((BA.out.setCell (p := ⟨w.heap.size, 0, none⟩) (Nat.le_refl _) _).setCell (p := ⟨w.heap.size, 1, none⟩) (Nat.le_refl _) _).setCell (p := ⟨w.heap.size, 2, none⟩) (Nat.le_refl _) _).setCell (p := ⟨w.heap.size, 3, none⟩) (Nat.le_refl _) _) 1), (⟨x1, x2, x3, l⟩ : Rc), A9, c9, false, rfl, (((((V9.out.set_ (q := ⟨w.heap.size, 0, none⟩) (by simp only; omega) _).set_ (q := ⟨w.heap.size, 1, none⟩) (by simp only; omega) _).set_ (q := ⟨w.heap.size, 2, none⟩) (by simp only; omega) _).set_ (q := ⟨w.heap.size, 3, none⟩) (by simp only; omega) _)).drew.low (by omega), .inr ⟨rfl, HD.out⟩⟩
end Go.Proofs.YtefgobmpleoafaaGreat
