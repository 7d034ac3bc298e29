/- Layer 13: LedgerApplies. (Written by genLdLa.py.) -/
import Derived.Test.YtgddcbjlhplmgaaLdY
import Derived.Test.YtgddcbjlhplmgaaPkXa
namespace Go.Proofs.Ytgddcbjlhplmgaa
open Go.RowKit
variable {w w' : World}

theorem chg_small {s : St} {r : Rc} (h1 : ∀ e ∈ s.log, smallE e = true) (h2 : ∀ e ∈ r.log, smallE e = true) : ∀ e ∈ (chg s r).log, smallE e = true := by
  intro e he
  unfold chg at he
  split at he
  · exact h1 e he
  split at he
  · exact (List.mem_append.1 he).elim (h1 e) (h2 e)
  split at he
  · exact h1 e (List.mem_of_mem_take he)
  split at he
  · exact h1 e he
  split at he
  · exact h1 e he
  · exact h1 e he
theorem apT_small {s : St} {r : Rc} (h1 : ∀ e ∈ s.log, smallE e = true) (h2 : ∀ e ∈ r.log, smallE e = true) : (∀ e ∈ (apT s r).log, smallE e = true) ∧ (apT s r).log.length ≤ 70 := by
  unfold apT
  split
  · rename_i hok
    split
    · rename_i hf
      simp only [Bool.and_eq_true] at hok
      exact ⟨chg_small h1 h2, by have := (St.ok_iff.1 (chg_ok hok.1 hok.2 hf)).2.2.1; omega⟩
    · exact ⟨fun e h => (by cases h), Nat.zero_le _⟩
  · exact ⟨fun e h => (by cases h), Nat.zero_le _⟩
theorem small_short {l : List En} (h : ∀ e ∈ l, smallE e = true) : ∀ e ∈ l, e.d.put.length ≤ 1000000 ∧ e.d.drop.length ≤ 1000000 := fun e he => smallE_len (h e he)
theorem LogV.of_ownX {S : Nat → Prop} {n₀ base : Nat} {v : Value} {l : List En} (h : OwnX n₀ base w v l) (hb : ∀ i, S i → i < base) (hn : ∀ i, S i → n₀ ≤ i) (hnw : n₀ ≤ w.heap.size) : LogV S w v l := by
  obtain ⟨L, rfl, h, hx⟩ := h
  refine LogV.of_row h hb fun x hm w2 k2 => ?_
  obtain ⟨h1, h2⟩ := hx x hm
  refine ⟨?_, (h2.below (k2.old hnw hn)).more hnw⟩
  have a := OwnU.set (own_kept (w' := w2) h1 fun i p1 p2 _ => k2.block i p1 fun e => by have := hb i e; omega)
  obtain ⟨A, cap, hv, hc, hr⟩ := OwnU.set h1
  obtain ⟨A', cap', hv', _, hr'⟩ := a
  rw [hv] at hv'
  injection hv' with e1 e2 e3
  refine ⟨A, cap, hv, hc, fun hs => ?_⟩
  obtain ⟨b, off, hA, hb2, _⟩ := hr hs
  obtain ⟨b', off', hA', _, ht⟩ := hr' hs
  rw [← e1, hA] at hA'
  injection hA' with hA'
  injection hA' with q1 q2 _
  exact ⟨b, off, hA, hb2, by rw [q1, q2]; exact ht⟩
set_option maxRecDepth 100000 in
set_option maxHeartbeats 16000000 in
theorem ledgerApplies_law (s : St) (v : Value) (r : Rc) (u : Value) (w : World) (hV : EntsV w.heap.size w v s.log) (hm : s.log.length ≤ 9223372036854775807) (hU : EntsV w.heap.size w u r.log) (hmu : r.log.length ≤ 9223372036854775807) :
    Calls Try.prog 3 #[s.val v, r.val u] w fun e w' => e = .returned (.bool true) ∧ Below w.heap.size w w' := by
  obtain ⟨A, c, rfl⟩ := hV.form
  obtain ⟨B, d, rfl⟩ := hU.form
  obtain ⟨n, hn⟩ : ∃ n, n = s.log.length := ⟨_, rfl⟩
  obtain ⟨m, hmm⟩ : ∃ m, m = r.log.length := ⟨_, rfl⟩
  rw [← hn] at hV ⊢
  rw [← hmm] at hU ⊢
  have HN := Lib.hid hn
  have HMM := Lib.hid hmm
  have HV := Lib.hid hV
  have HU := Lib.hid hU
  have HM1 := Lib.hid hm
  have HM2 := Lib.hid hmu
  have b0 : Below w.heap.size w ((w.alloc (.cells #[.int .i64 s.vi, .int .i64 s.no, .int .i64 s.co, .int .i64 s.ac, .slice A n c] 24)).alloc (.cells #[.int .i64 r.k, .int .i64 r.a, .int .i64 r.b, .slice B m d] 26)) := ((Below.refl _ _).alloc (Nat.le_refl _) _).alloc (by simp) _
  have HX : Hid (Blk ((w.alloc (.cells #[.int .i64 s.vi, .int .i64 s.no, .int .i64 s.co, .int .i64 s.ac, .slice A n c] 24)).alloc (.cells #[.int .i64 r.k, .int .i64 r.a, .int .i64 r.b, .slice B m d] 26)) w.heap.size 24 #[.int .i64 s.vi, .int .i64 s.no, .int .i64 s.co, .int .i64 s.ac, .slice A n c]) := Lib.hid ((Blk.new _ _ _).alloc _)
  have HR : Hid (Blk ((w.alloc (.cells #[.int .i64 s.vi, .int .i64 s.no, .int .i64 s.co, .int .i64 s.ac, .slice A n c] 24)).alloc (.cells #[.int .i64 r.k, .int .i64 r.a, .int .i64 r.b, .slice B m d] 26)) (w.heap.size + 1) 26 #[.int .i64 r.k, .int .i64 r.a, .int .i64 r.b, .slice B m d]) := Lib.hid (Blk.at_new _ _ (by simp) _ _)
  clear hn hmm hV hU hm hmu
  go_enter Try.func3, Try.ntmps3
  go_upto_region 1 with (fail)
  generalize (w.alloc _).alloc _ = w0 at *
  have B0 := Lib.hid b0
  clear b0
  go_wp2_with fail
  refine (anchor13_any _).mono ?_
  rintro e w1 ⟨rfl, hb1⟩
  have B1 := Lib.hid (B0.out.trans (hb1.mono B0.out.size))
  have X1 := Lib.hid (HX.out.on hb1)
  have R1 := Lib.hid (HR.out.on hb1)
  have SM := Lib.hid (smallSt_any s (.slice A n c) w1 HM1.out (HV.out.on B1.out))
  clear hb1
  have x0 := X1.out.cell 0
  have x1 := X1.out.cell 1
  have x2 := X1.out.cell 2
  have x3 := X1.out.cell 3
  have x4 := X1.out.cell 4
  have xln := X1.out.lt
  obtain ⟨q1, hq1⟩ : ∃ q, q = smallL s.log := ⟨_, rfl⟩
  rw [← hq1] at SM
  have HQ1 := Lib.hid hq1
  clear hq1
  go_wp2_with fail
  refine SM.out.mono ?_
  rintro e w2 ⟨rfl, hb2⟩
  have B2 := Lib.hid (B1.out.trans (hb2.mono B1.out.size))
  have X2 := Lib.hid (X1.out.on hb2)
  have R2 := Lib.hid (R1.out.on hb2)
  clear hb2 SM
  clear x0 x1 x2 x3 x4 xln
  cases q1 with
  | false =>
    go_wp2
    go_ret
    exact ⟨rfl, B2.out⟩
  | true =>
    have SL := Lib.hid (small_any (.slice B m d) r.log w2 HM2.out (HU.out.on B2.out))
    obtain ⟨q2, hq2⟩ : ∃ q, q = smallL r.log := ⟨_, rfl⟩
    rw [← hq2] at SL
    have HQ2 := Lib.hid hq2
    clear hq2
    have r0 := R2.out.cell 0
    have r1 := R2.out.cell 1
    have r2 := R2.out.cell 2
    have r3 := R2.out.cell 3
    have rln := R2.out.lt
    go_wp2_with fail
    refine SL.out.mono ?_
    rintro e w3 ⟨rfl, hb3⟩
    have B3 := Lib.hid (B2.out.trans (hb3.mono B2.out.size))
    have X3 := Lib.hid (X2.out.on hb3)
    have R3 := Lib.hid (R2.out.on hb3)
    clear hb3 SL
    clear r0 r1 r2 r3 rln
    cases q2 with
    | false =>
      go_wp2
      go_ret
      exact ⟨rfl, B3.out⟩
    | true =>
      have HS1 := Lib.hid (smallL_iff.1 HQ1.out.symm)
      have HS2 := Lib.hid (smallL_iff.1 HQ2.out.symm)
      have AP := Lib.hid (apply13_any s r (.slice A n c) (.slice B m d) w3 (HV.out.on B3.out) (HU.out.on B3.out))
      have x0 := X3.out.cell 0
      have x1 := X3.out.cell 1
      have x2 := X3.out.cell 2
      have x3 := X3.out.cell 3
      have x4 := X3.out.cell 4
      have xln := X3.out.lt
      have r0 := R3.out.cell 0
      have r1 := R3.out.cell 1
      have r2 := R3.out.cell 2
      have r3 := R3.out.cell 3
      have rln := R3.out.lt
      go_wp2_with fail
      refine AP.out.mono ?_
      rintro e w4 ⟨A4, n4, c4, rfl, hn4, he4, hb4⟩
      obtain ⟨t, ht⟩ : ∃ t, t = apT s r := ⟨_, rfl⟩
      obtain ⟨x, hx⟩ : ∃ x, x = apX s r := ⟨_, rfl⟩
      rw [← ht] at hn4 he4 ⊢
      rw [← hx]
      have HT := Lib.hid ht
      have HXX := Lib.hid hx
      have HTS : Hid ((∀ e ∈ t.log, smallE e = true) ∧ t.log.length ≤ 70) := Lib.hid (by rw [ht]; exact apT_small HS1.out.1 HS2.out.1)
      have b4 := (Below.refl w4.heap.size w4).alloc (Nat.le_refl _) (.cells #[.int .i64 t.vi, .int .i64 t.no, .int .i64 t.co, .int .i64 t.ac, .slice A4 n4 c4] 24)
      have T4 := Lib.hid (Blk.new w4 24 #[.int .i64 t.vi, .int .i64 t.no, .int .i64 t.co, .int .i64 t.ac, .slice A4 n4 c4])
      have E4 := Lib.hid (he4.on b4).read
      have N4 := Lib.hid hn4
      have B4 := Lib.hid ((B3.out.trans (hb4.mono B3.out.size)).trans (b4.mono (by have := B3.out.size; have := hb4.size; omega)))
      have X4 := Lib.hid ((X3.out.on hb4).on b4)
      have R4 := Lib.hid ((R3.out.on hb4).on b4)
      clear ht hx hn4 he4 hb4 b4 AP
      clear x0 x1 x2 x3 x4 xln r0 r1 r2 r3 rln
      go_upto_region 6 with (fail)
      generalize hbt : w4.heap.size = bt at *
      generalize w4.alloc _ = w4a at *
      clear hbt
      have MS := Lib.hid (madeState_any w.heap.size s (.slice A n c) w4a B4.out.size HS1.out.2 HS1.out.1 (HV.out.below B4.out))
      rw [← HN.out] at MS
      have x0 := X4.out.cell 0
      have x1 := X4.out.cell 1
      have x2 := X4.out.cell 2
      have x3 := X4.out.cell 3
      have x4 := X4.out.cell 4
      have xln := X4.out.lt
      go_wp2_with fail
      refine MS.out.mono ?_
      rintro e w5 ⟨A5, c5, rfl, o5, hb5⟩
      have b5 := (Below.refl w5.heap.size w5).alloc (Nat.le_refl _) (.cells #[.int .i64 s.vi, .int .i64 s.no, .int .i64 s.co, .int .i64 s.ac, .slice A5 n c5] 35)
      have hs5 : w.heap.size ≤ w5.heap.size := Nat.le_trans B4.out.size hb5.size
      have Y5 := Lib.hid (Blk.new w5 35 #[.int .i64 s.vi, .int .i64 s.no, .int .i64 s.co, .int .i64 s.ac, .slice A5 n c5])
      have E5 := Lib.hid ((o5.read hs5).on b5)
      have B5 := Lib.hid ((B4.out.trans (hb5.mono B4.out.size)).trans (b5.mono hs5))
      have X5 := Lib.hid ((X4.out.on hb5).on b5)
      have R5 := Lib.hid ((R4.out.on hb5).on b5)
      have T5 := Lib.hid ((T4.out.on hb5).on b5)
      have F5 := Lib.hid ((E4.out.on hb5).on b5)
      clear o5 hb5 b5 MS hs5
      clear x0 x1 x2 x3 x4 xln
      go_upto_region 7 with (fail)
      generalize hbx : w5.heap.size = bx at *
      generalize w5.alloc _ = w5a at *
      clear hbx
      have B5d : Hid (Below w.heap.size w w5a.drew) := Lib.hid (Below.drewN' B5.out 1)
      have E5d : Hid (EntsV w5a.drew.heap.size w5a.drew (.slice A5 n c5) s.log) := Lib.hid (E5.out.on (Below.drewN' (Below.refl _ _) 1))
      have T5d : Hid (Blk w5a.drew bt 24 #[.int .i64 t.vi, .int .i64 t.no, .int .i64 t.co, .int .i64 t.ac, .slice A4 n4 c4]) := Lib.hid T5.out
      have R5d : Hid (Blk w5a.drew (w.heap.size + 1) 26 #[.int .i64 r.k, .int .i64 r.a, .int .i64 r.b, .slice B m d]) := Lib.hid R5.out
      have F5d : Hid (EntsV w5a.drew.heap.size w5a.drew (.slice A4 n4 c4) t.log) := Lib.hid (F5.out.on (Below.drewN' (Below.refl _ _) 1))
      refine wp_region_held_drew (S := fun w' => Blk w' w.heap.size 24 #[.int .i64 s.vi, .int .i64 s.no, .int .i64 s.co, .int .i64 s.ac, .slice A n c] ∧ Blk w' bx 35 #[.int .i64 s.vi, .int .i64 s.no, .int .i64 s.co, .int .i64 s.ac, .slice A5 n c5]) (by kernel_rfl) ⟨X5.out, Y5.out⟩ (fun hHeld => ?_)
      refine take_d 0 29 (.agg #[.int .i64 s.vi, .int .i64 s.no, .int .i64 s.co, .int .i64 s.ac, .slice A n c]) _ rfl rfl (by kernel_rfl) (by kernel_rfl) (by kernel_rfl) (fun _ _ _ h => h) (Or.inl ⟨by rfl, fun w' hSw => ?_⟩) hHeld ?_
      · have q0 := hSw.1.cell 0
        have q1 := hSw.1.cell 1
        have q2 := hSw.1.cell 2
        have q3 := hSw.1.cell 3
        have q4 := hSw.1.cell 4
        go_simp
      simp only [List.setIfInBounds_toArray, List.set_cons_zero, List.set_cons_succ]
      refine take_d 2 31 (.agg #[.int .i64 s.vi, .int .i64 s.no, .int .i64 s.co, .int .i64 s.ac, .slice A5 n c5]) _ rfl rfl (by kernel_rfl) (by kernel_rfl) (by kernel_rfl) (fun _ _ _ h => h) (Or.inl ⟨by rfl, fun w' hSw => ?_⟩) hHeld ?_
      · have q0 := hSw.2.cell 0
        have q1 := hSw.2.cell 1
        have q2 := hSw.2.cell 2
        have q3 := hSw.2.cell 3
        have q4 := hSw.2.cell 4
        go_simp
      simp only [List.setIfInBounds_toArray, List.set_cons_zero, List.set_cons_succ]
      refine wpAnyH_ready (rs := [1]) (by kernel_rfl) (by simp) ?_
      refine AllReadyH.cons rfl (fun K hK => ?_) AllReadyH.nil
      go_simp
      refine (sright_any s (.slice A n c) _ (HV.out.on B5d.out)).mono ?_
      rintro e w6 ⟨rfl, hb6⟩
      have hS6 : Blk w6 w.heap.size 24 #[.int .i64 s.vi, .int .i64 s.no, .int .i64 s.co, .int .i64 s.ac, .slice A n c] ∧ Blk w6 bx 35 #[.int .i64 s.vi, .int .i64 s.no, .int .i64 s.co, .int .i64 s.ac, .slice A5 n c5] := ⟨hHeld.1.on hb6, hHeld.2.on hb6⟩
      have V6 := Lib.hid hb6
      refine hK.out _ _ hS6 (fun hHeld => ?_)
      clear hK K hS6 hb6
      refine wpAnyH_ready (rs := [3]) (by kernel_rfl) (by simp) ?_
      refine AllReadyH.cons rfl (fun K hK => ?_) AllReadyH.nil
      go_simp
      refine (xsright_any s (.slice A5 n c5) _ (E5d.out.on V6.out) (by have := HS1.out.2; omega)).mono ?_
      rintro e w7 ⟨rfl, hb7⟩
      have hS7 : Blk w7 w.heap.size 24 #[.int .i64 s.vi, .int .i64 s.no, .int .i64 s.co, .int .i64 s.ac, .slice A n c] ∧ Blk w7 bx 35 #[.int .i64 s.vi, .int .i64 s.no, .int .i64 s.co, .int .i64 s.ac, .slice A5 n c5] := ⟨hHeld.1.on hb7, hHeld.2.on hb7⟩
      have V7 := Lib.hid (V6.out.trans (hb7.mono V6.out.size))
      refine hK.out _ _ hS7 (fun hHeld => ?_)
      clear hK K hS7 hb7
      refine take_d 4 33 (.bool false) _ rfl rfl (by kernel_rfl) (by kernel_rfl) (by kernel_rfl) (fun _ _ _ h => h) (Or.inl ⟨by rfl, fun w' hSw => ?_⟩) hHeld ?_
      · have q : (s.ok != s.ok) = false := by cases s.ok <;> rfl
        go_simp
      simp only [List.setIfInBounds_toArray, List.set_cons_zero, List.set_cons_succ]
      refine wpAnyH_done (by kernel_rfl) ?_ _
      have B7 := Lib.hid (B5d.out.trans (V7.out.mono B5d.out.size))
      have X7 := Lib.hid hHeld.1
      have Y7 := Lib.hid hHeld.2
      have T7 := Lib.hid (T5d.out.on V7.out)
      have R7 := Lib.hid (R5d.out.on V7.out)
      have F7 := Lib.hid (F5d.out.on V7.out)
      have E7 := Lib.hid (E5d.out.on V7.out)
      clear hHeld
      have XR := Lib.hid (xsright_any s (.slice A5 n c5) w7 E7.out (by have := HS1.out.2; omega))
      have y0 := Y7.out.cell 0
      have y1 := Y7.out.cell 1
      have y2 := Y7.out.cell 2
      have y3 := Y7.out.cell 3
      have y4 := Y7.out.cell 4
      have yln := Y7.out.lt
      go_wp2_with fail
      refine XR.out.mono ?_
      rintro e w8 ⟨rfl, hb8⟩
      have B8 := Lib.hid (B7.out.trans (hb8.mono B7.out.size))
      have X8 := Lib.hid (X7.out.on hb8)
      have Y8 := Lib.hid (Y7.out.on hb8)
      have T8 := Lib.hid (T7.out.on hb8)
      have R8 := Lib.hid (R7.out.on hb8)
      have F8 := Lib.hid (F7.out.on hb8)
      have E8 := Lib.hid (E7.out.on hb8)
      clear hb8 XR
      clear y0 y1 y2 y3 y4 yln
      cases hso : s.ok with
      | false =>
        have HBAD : Hid ((s.ok && r.ok) = false) := Lib.hid (by rw [hso]; rfl)
        clear hso
        have hx10 : x = 10 := by rw [HXX.out]; unfold apX; rw [if_neg (by have := HBAD.out; rw [this]; simp)]
        have ht0 : t = .zero := by rw [HT.out]; unfold apT; rw [if_neg (by have := HBAD.out; rw [this]; simp)]
        have HT0 := Lib.hid ht0
        clear ht0
        have SA := Lib.hid (same13_any t .zero (.slice A4 n4 c4) (.slice none 0 0) w8 HTS.out.2 HTS.out.1 (fun e h => by cases h) F8.out (EntsV.nil _ _))
        subst hx10
        have z0 := T8.out.cell 0
        have z1 := T8.out.cell 1
        have z2 := T8.out.cell 2
        have z3 := T8.out.cell 3
        have z4 := T8.out.cell 4
        have zln := T8.out.lt
        go_wp2_with fail
        refine SA.out.mono ?_
        rintro e w20 ⟨cc, rfl, hcc, hb20⟩
        have hct : cc = true := hcc.2 HT0.out
        subst hct
        have BF := Lib.hid (B8.out.trans (hb20.mono B8.out.size))
        clear hb20 hcc SA
        go_wp2
        go_ret
        exact ⟨rfl, BF.out⟩
      | true =>
        have HSO := Lib.hid hso
        clear hso
        have MR := Lib.hid (madeRec_any w.heap.size r (.slice B m d) w8 B8.out.size HS2.out.2 HS2.out.1 (HU.out.below B8.out))
        have r0 := R8.out.cell 0
        have r1 := R8.out.cell 1
        have r2 := R8.out.cell 2
        have r3 := R8.out.cell 3
        have rln := R8.out.lt
        go_wp2_with fail
        refine MR.out.mono ?_
        rintro e w9 ⟨V9, rfl, ⟨A9, c9, rfl, o9⟩, hb9⟩
        have hs9 : w.heap.size ≤ w9.heap.size := Nat.le_trans B8.out.size hb9.size
        have B9 := Lib.hid (B8.out.trans (hb9.mono B8.out.size))
        have X9 := Lib.hid (X8.out.on hb9)
        have Y9 := Lib.hid (Y8.out.on hb9)
        have T9 := Lib.hid (T8.out.on hb9)
        have R9 := Lib.hid (R8.out.on hb9)
        have F9 := Lib.hid (F8.out.on hb9)
        have E9 := Lib.hid (E8.out.on hb9)
        have XRR := Lib.hid (xrec_any r (.slice A9 r.log.length c9) w9 (by have := HS2.out.2; omega) (o9.read hs9))
        obtain ⟨m9, hm9⟩ : ∃ m9, m9 = r.log.length := ⟨_, rfl⟩
        rw [← hm9] at XRR ⊢
        clear hb9 MR o9 hm9
        clear r0 r1 r2 r3 rln
        go_wp2_with fail
        refine XRR.out.mono ?_
        rintro e w10 ⟨rfl, hb10⟩
        have B10 := Lib.hid (B9.out.trans (hb10.mono B9.out.size))
        have X10 := Lib.hid (X9.out.on hb10)
        have Y10 := Lib.hid (Y9.out.on hb10)
        have T10 := Lib.hid (T9.out.on hb10)
        have R10 := Lib.hid (R9.out.on hb10)
        have F10 := Lib.hid (F9.out.on hb10)
        have E10 := Lib.hid (E9.out.on hb10)
        clear hb10 XRR
        cases hro : r.ok with
        | false =>
          have HBAD : Hid ((s.ok && r.ok) = false) := Lib.hid (by rw [HSO.out, hro]; rfl)
          clear hro
          have hx10 : x = 10 := by rw [HXX.out]; unfold apX; rw [if_neg (by have := HBAD.out; rw [this]; simp)]
          have ht0 : t = .zero := by rw [HT.out]; unfold apT; rw [if_neg (by have := HBAD.out; rw [this]; simp)]
          have HT0 := Lib.hid ht0
          clear ht0
          have SA := Lib.hid (same13_any t .zero (.slice A4 n4 c4) (.slice none 0 0) w10 HTS.out.2 HTS.out.1 (fun e h => by cases h) F10.out (EntsV.nil _ _))
          subst hx10
          have z0 := T10.out.cell 0
          have z1 := T10.out.cell 1
          have z2 := T10.out.cell 2
          have z3 := T10.out.cell 3
          have z4 := T10.out.cell 4
          have zln := T10.out.lt
          go_wp2_with fail
          refine SA.out.mono ?_
          rintro e w20 ⟨cc, rfl, hcc, hb20⟩
          have hct : cc = true := hcc.2 HT0.out
          subst hct
          have BF := Lib.hid (B10.out.trans (hb20.mono B10.out.size))
          clear hb20 hcc SA
          go_wp2
          go_ret
          exact ⟨rfl, BF.out⟩
        | true =>
          have HRO := Lib.hid hro
          clear hro
          have HOKB : Hid ((s.ok && r.ok) = true) := Lib.hid (by rw [HSO.out, HRO.out]; rfl)
          go_upto_region 11 with (fail)
          refine wp_region_held_drew (S := fun w' => Blk w' bx 35 #[.int .i64 s.vi, .int .i64 s.no, .int .i64 s.co, .int .i64 s.ac, .slice A5 n c5] ∧ Blk w' (w.heap.size + 1) 26 #[.int .i64 r.k, .int .i64 r.a, .int .i64 r.b, .slice B m d] ∧ Blk w' bt 24 #[.int .i64 t.vi, .int .i64 t.no, .int .i64 t.co, .int .i64 t.ac, .slice A4 n4 c4]) (by kernel_rfl) ⟨Y10.out, R10.out, T10.out⟩ (fun hHeld => ?_)
          have Bd : Hid (Below w.heap.size w w10.drew) := Lib.hid (Below.drewN' B10.out 1)
          have Ed : Hid (EntsV w10.drew.heap.size w10.drew (.slice A5 n c5) s.log) := Lib.hid (E10.out.on (Below.drewN' (Below.refl _ _) 1))
          have Fd : Hid (EntsV w10.drew.heap.size w10.drew (.slice A4 n4 c4) t.log) := Lib.hid (F10.out.on (Below.drewN' (Below.refl _ _) 1))
          have Yd := Lib.hid hHeld.1
          have Rd := Lib.hid hHeld.2.1
          have Td := Lib.hid hHeld.2.2
          generalize w10.drew = wd at *
          have Vd : Hid (Below wd.heap.size wd wd) := Lib.hid (Below.refl _ _)
          refine take_d 0 51 (.agg #[.int .i64 s.vi, .int .i64 s.no, .int .i64 s.co, .int .i64 s.ac, .slice A5 n c5]) _ rfl rfl (by kernel_rfl) (by kernel_rfl) (by kernel_rfl) (fun _ _ _ h => h) (Or.inl ⟨by rfl, fun w' hSw => ?_⟩) hHeld ?_
          · have q0 := hSw.1.cell 0
            have q1 := hSw.1.cell 1
            have q2 := hSw.1.cell 2
            have q3 := hSw.1.cell 3
            have q4 := hSw.1.cell 4
            go_simp
          simp only [List.setIfInBounds_toArray, List.set_cons_zero, List.set_cons_succ]
          refine take_d 1 52 (.agg #[.int .i64 r.k, .int .i64 r.a, .int .i64 r.b, .slice B m d]) _ rfl rfl (by kernel_rfl) (by kernel_rfl) (by kernel_rfl) (fun _ _ _ h => h) (Or.inl ⟨by rfl, fun w' hSw => ?_⟩) hHeld ?_
          · have q0 := hSw.2.1.cell 0
            have q1 := hSw.2.1.cell 1
            have q2 := hSw.2.1.cell 2
            have q3 := hSw.2.1.cell 3
            go_simp
          simp only [List.setIfInBounds_toArray, List.set_cons_zero, List.set_cons_succ]
          refine wpAnyH_ready (rs := [2, 7]) (by kernel_rfl) (by simp) ?_
          refine AllReadyH.cons rfl (fun K hK => ?_) (AllReadyH.cons rfl (fun K hK => ?_) (AllReadyH.nil))
          · go_simp
            refine (madeRec_any w.heap.size r (.slice B m d) _ Bd.out.size HS2.out.2 HS2.out.1 (HU.out.below Bd.out)).mono ?_
            rintro e w11 ⟨V11v, rfl, ⟨A11, c11, rfl, o11⟩, hb11⟩
            have V11 := Lib.hid (Vd.out.trans (hb11.mono Vd.out.size))
            have B11 := Lib.hid (Bd.out.trans (hb11.mono Bd.out.size))
            have O11 : Hid (LogV (fun _ => False) w11 (.slice A11 r.log.length c11) r.log) := Lib.hid (LogV.of_ents (o11.read B11.out.size))
            refine hK.out _ _ ⟨Yd.out.on V11.out, Rd.out.on V11.out, Td.out.on V11.out⟩ (fun hHeld => ?_)
            clear hK K hb11 o11
            refine wpAnyH_ready (rs := [3, 7]) (by kernel_rfl) (by simp) ?_
            refine AllReadyH.cons rfl (fun K hK => ?_) (AllReadyH.cons rfl (fun K hK => ?_) (AllReadyH.nil))
            · go_simp
              refine (xapply13_any s r (.slice A5 n c5) (.slice A11 r.log.length c11) w11 (fun _ => False) HSO.out HRO.out ((LogV.of_ents Ed.out).on V11.out) O11.out (fun _ e => e.elim)).mono ?_
              rintro e w12 hap
              have HAP : Hid (ApOut (fun _ => False) w11 t x e w12) := Lib.hid (by
                rw [HT.out, HXX.out]
                unfold apT apX
                rw [if_pos HOKB.out, if_pos HOKB.out]
                by_cases hf : fits s r = true
                · rw [if_pos hf, if_pos hf]; exact hap.1 hf
                · rw [if_neg hf, if_neg hf]; exact hap.2 hf)
              obtain ⟨A12, n12, c12, rfl, hn12, he12, hb12⟩ := HAP.out
              have V12 := Lib.hid (V11.out.trans (hb12.mono V11.out.size))
              have B12 := Lib.hid (B11.out.trans (hb12.mono B11.out.size))
              have E12 := Lib.hid he12
              refine hK.out _ _ ⟨Yd.out.on V12.out, Rd.out.on V12.out, Td.out.on V12.out⟩ (fun hHeld => ?_)
              clear hK K hb12 he12 hn12 hap HAP
              refine take_d 4 50 (.tuple #[.agg #[.int .i64 t.vi, .int .i64 t.no, .int .i64 t.co, .int .i64 t.ac, .slice A12 n12 c12], .int .i64 x]) _ rfl rfl (by kernel_rfl) (by kernel_rfl) (by kernel_rfl) (fun _ _ _ h => h) (Or.inl ⟨by rfl, fun w' hSw => ?_⟩) hHeld ?_
              · go_simp
              simp only [List.setIfInBounds_toArray, List.set_cons_zero, List.set_cons_succ]
              refine take_d 5 55 (.agg #[.int .i64 t.vi, .int .i64 t.no, .int .i64 t.co, .int .i64 t.ac, .slice A12 n12 c12]) _ rfl rfl (by kernel_rfl) (by kernel_rfl) (by kernel_rfl) (fun _ _ _ h => h) (Or.inl ⟨by rfl, fun w' hSw => ?_⟩) hHeld ?_
              · go_simp
              simp only [List.setIfInBounds_toArray, List.set_cons_zero, List.set_cons_succ]
              refine take_d 6 56 (.int .i64 x) _ rfl rfl (by kernel_rfl) (by kernel_rfl) (by kernel_rfl) (fun _ _ _ h => h) (Or.inl ⟨by rfl, fun w' hSw => ?_⟩) hHeld ?_
              · go_simp
              simp only [List.setIfInBounds_toArray, List.set_cons_zero, List.set_cons_succ]
              refine wpAnyH_ready (rs := [7]) (by kernel_rfl) (by simp) ?_
              refine AllReadyH.cons rfl (fun K hK => ?_) AllReadyH.nil
              go_simp
              obtain ⟨bz, hbz⟩ : ∃ z, z = w12.heap.size := ⟨_, rfl⟩
              have hzd : wd.heap.size ≤ bz := by rw [hbz]; exact V12.out.size
              have hzw : w.heap.size ≤ bz := by rw [hbz]; exact B12.out.size
              have Va : Hid (Below wd.heap.size wd (w12.alloc (.cells #[.int .i64 0, .int .i64 0, .int .i64 0, .int .i64 0, .slice none 0 0] 35))) := Lib.hid (V12.out.alloc V12.out.size _)
              have Ba : Hid (Below w.heap.size w (w12.alloc (.cells #[.int .i64 0, .int .i64 0, .int .i64 0, .int .i64 0, .slice none 0 0] 35))) := Lib.hid (B12.out.alloc B12.out.size _)
              have Za : Hid (Blk (w12.alloc (.cells #[.int .i64 0, .int .i64 0, .int .i64 0, .int .i64 0, .slice none 0 0] 35)) bz 35 #[.int .i64 0, .int .i64 0, .int .i64 0, .int .i64 0, .slice none 0 0]) := Lib.hid (by rw [hbz]; exact Blk.new _ _ _)
              have Ea : Hid (LogV (fun i => i = bz) (w12.alloc (.cells #[.int .i64 0, .int .i64 0, .int .i64 0, .int .i64 0, .slice none 0 0] 35)) (.slice A12 n12 c12) t.log) := Lib.hid ((E12.out.sub (fun i hi => .inr (by omega))).alloc _)
              refine hK.out _ _ ⟨Yd.out.on Va.out, Rd.out.on Va.out, Td.out.on Va.out⟩ (fun hHeld => ?_)
              clear hK K
              have HBz := Lib.hid hbz
              rw [← hbz]
              clear hbz
              generalize w12.alloc _ = wa at *
              refine wpAnyH_ready (rs := [8]) (by kernel_rfl) (by simp) ?_
              refine AllReadyH.cons rfl (fun K hK => ?_) AllReadyH.nil
              have z0 := Za.out.cell 0
              have z1 := Za.out.cell 1
              have z2 := Za.out.cell 2
              have z3 := Za.out.cell 3
              have z4 := Za.out.cell 4
              have zf := Za.out.frozen
              have zl := Za.out.lt
              go_simp
              have B13 : Hid (Below w.heap.size w (((((wa.setCell ⟨bz, 0, none⟩ (.int .i64 t.vi)).setCell ⟨bz, 1, none⟩ (.int .i64 t.no)).setCell ⟨bz, 2, none⟩ (.int .i64 t.co)).setCell ⟨bz, 3, none⟩ (.int .i64 t.ac)).setCell ⟨bz, 4, none⟩ (.slice A12 n12 c12))) := Lib.hid (((((Ba.out.setCell (p := ⟨bz, 0, none⟩) hzw (.int .i64 t.vi)).setCell (p := ⟨bz, 1, none⟩) hzw (.int .i64 t.no)).setCell (p := ⟨bz, 2, none⟩) hzw (.int .i64 t.co)).setCell (p := ⟨bz, 3, none⟩) hzw (.int .i64 t.ac)).setCell (p := ⟨bz, 4, none⟩) hzw (.slice A12 n12 c12))
              have V13 : Hid (Below wd.heap.size wd (((((wa.setCell ⟨bz, 0, none⟩ (.int .i64 t.vi)).setCell ⟨bz, 1, none⟩ (.int .i64 t.no)).setCell ⟨bz, 2, none⟩ (.int .i64 t.co)).setCell ⟨bz, 3, none⟩ (.int .i64 t.ac)).setCell ⟨bz, 4, none⟩ (.slice A12 n12 c12))) := Lib.hid (((((Va.out.setCell (p := ⟨bz, 0, none⟩) hzd (.int .i64 t.vi)).setCell (p := ⟨bz, 1, none⟩) hzd (.int .i64 t.no)).setCell (p := ⟨bz, 2, none⟩) hzd (.int .i64 t.co)).setCell (p := ⟨bz, 3, none⟩) hzd (.int .i64 t.ac)).setCell (p := ⟨bz, 4, none⟩) hzd (.slice A12 n12 c12))
              have Y13 : Hid (Blk (((((wa.setCell ⟨bz, 0, none⟩ (.int .i64 t.vi)).setCell ⟨bz, 1, none⟩ (.int .i64 t.no)).setCell ⟨bz, 2, none⟩ (.int .i64 t.co)).setCell ⟨bz, 3, none⟩ (.int .i64 t.ac)).setCell ⟨bz, 4, none⟩ (.slice A12 n12 c12)) bz 35 #[.int .i64 t.vi, .int .i64 t.no, .int .i64 t.co, .int .i64 t.ac, .slice A12 n12 c12]) := Lib.hid (by simpa using (((((Za.out.set_ 0 (.int .i64 t.vi)).set_ 1 (.int .i64 t.no)).set_ 2 (.int .i64 t.co)).set_ 3 (.int .i64 t.ac)).set_ 4 (.slice A12 n12 c12)))
              have E13 : Hid (LogV (fun i => i = bz) (((((wa.setCell ⟨bz, 0, none⟩ (.int .i64 t.vi)).setCell ⟨bz, 1, none⟩ (.int .i64 t.no)).setCell ⟨bz, 2, none⟩ (.int .i64 t.co)).setCell ⟨bz, 3, none⟩ (.int .i64 t.ac)).setCell ⟨bz, 4, none⟩ (.slice A12 n12 c12)) (.slice A12 n12 c12) t.log) := Lib.hid (Ea.out.next ((((((Fr.refl (S := fun i => i = bz) wa).set_ (q := ⟨bz, 0, none⟩) (.inl (show bz = bz from rfl)) (.int .i64 t.vi)).set_ (q := ⟨bz, 1, none⟩) (.inl (show bz = bz from rfl)) (.int .i64 t.no)).set_ (q := ⟨bz, 2, none⟩) (.inl (show bz = bz from rfl)) (.int .i64 t.co)).set_ (q := ⟨bz, 3, none⟩) (.inl (show bz = bz from rfl)) (.int .i64 t.ac)).set_ (q := ⟨bz, 4, none⟩) (.inl (show bz = bz from rfl)) (.slice A12 n12 c12)))
              generalize (((((wa.setCell ⟨bz, 0, none⟩ (.int .i64 t.vi)).setCell ⟨bz, 1, none⟩ (.int .i64 t.no)).setCell ⟨bz, 2, none⟩ (.int .i64 t.co)).setCell ⟨bz, 3, none⟩ (.int .i64 t.ac)).setCell ⟨bz, 4, none⟩ (.slice A12 n12 c12)) = w13 at *
              refine hK.out _ _ ⟨Yd.out.on V13.out, Rd.out.on V13.out, Td.out.on V13.out⟩ (fun hHeld => ?_)
              clear hK K z0 z1 z2 z3 z4 zf zl
              refine take_d 9 9 (.int .i64 x) _ rfl rfl (by kernel_rfl) (by kernel_rfl) (by kernel_rfl) (fun _ _ _ h => h) (Or.inl ⟨by rfl, fun w' hSw => ?_⟩) hHeld ?_
              · go_simp
              simp only [List.setIfInBounds_toArray, List.set_cons_zero, List.set_cons_succ]
              refine wpAnyH_done (by kernel_rfl) ?_ _
              have T13 := Lib.hid hHeld.2.2
              have F13 := Lib.hid (Fd.out.on V13.out)
              clear hHeld
              have SA := Lib.hid (same13_any t t (.slice A4 n4 c4) (.slice A12 n12 c12) w13 HTS.out.2 HTS.out.1 (small_short HTS.out.1) F13.out E13.out.read)
              have t0 := T13.out.cell 0
              have t1 := T13.out.cell 1
              have t2 := T13.out.cell 2
              have t3 := T13.out.cell 3
              have t4 := T13.out.cell 4
              have tln := T13.out.lt
              have y0 := Y13.out.cell 0
              have y1 := Y13.out.cell 1
              have y2 := Y13.out.cell 2
              have y3 := Y13.out.cell 3
              have y4 := Y13.out.cell 4
              have yln := Y13.out.lt
              go_wp2_with fail
              refine SA.out.mono ?_
              rintro e w20 ⟨cc, rfl, hcc, hb20⟩
              have hct : cc = true := hcc.2 (by first | rfl | trivial)
              subst hct
              have B20 := Lib.hid (B13.out.trans (hb20.mono B13.out.size))
              have T20 := Lib.hid (T13.out.on hb20)
              have F20 := Lib.hid (F13.out.on hb20)
              clear hb20 hcc SA
              clear t0 t1 t2 t3 t4 tln y0 y1 y2 y3 y4 yln
              by_cases hx0 : x = 0
              · have hto : t.ok = true := by
                  have h1 := HXX.out
                  unfold apX at h1
                  rw [if_pos HOKB.out] at h1
                  by_cases hf : fits s r = true
                  · rw [HT.out]; unfold apT; rw [if_pos HOKB.out, if_pos hf]; exact chg_ok HSO.out HRO.out hf
                  · rw [if_neg hf, hx0] at h1; cases h1
                have HTO := Lib.hid hto
                subst hx0
                clear hto
                have SR := Lib.hid (sright_any t (.slice A4 n4 c4) w20 F20.out)
                rw [HTO.out] at SR
                have t0 := T20.out.cell 0
                have t1 := T20.out.cell 1
                have t2 := T20.out.cell 2
                have t3 := T20.out.cell 3
                have t4 := T20.out.cell 4
                have tln := T20.out.lt
                go_wp2_with fail
                refine SR.out.mono ?_
                rintro e w21 ⟨rfl, hb21⟩
                have BF := Lib.hid (B20.out.trans (hb21.mono B20.out.size))
                clear hb21 SR
                go_wp2
                go_ret
                exact ⟨rfl, BF.out⟩
              · go_wp2
                go_ret
                exact ⟨rfl, B20.out⟩
            · go_simp
              obtain ⟨bz, hbz⟩ : ∃ z, z = w11.heap.size := ⟨_, rfl⟩
              have hzd : wd.heap.size ≤ bz := by rw [hbz]; exact V11.out.size
              have hzw : w.heap.size ≤ bz := by rw [hbz]; exact B11.out.size
              have Va : Hid (Below wd.heap.size wd (w11.alloc (.cells #[.int .i64 0, .int .i64 0, .int .i64 0, .int .i64 0, .slice none 0 0] 35))) := Lib.hid (V11.out.alloc V11.out.size _)
              have Ba : Hid (Below w.heap.size w (w11.alloc (.cells #[.int .i64 0, .int .i64 0, .int .i64 0, .int .i64 0, .slice none 0 0] 35))) := Lib.hid (B11.out.alloc B11.out.size _)
              have Za : Hid (Blk (w11.alloc (.cells #[.int .i64 0, .int .i64 0, .int .i64 0, .int .i64 0, .slice none 0 0] 35)) bz 35 #[.int .i64 0, .int .i64 0, .int .i64 0, .int .i64 0, .slice none 0 0]) := Lib.hid (by rw [hbz]; exact Blk.new _ _ _)
              have Oa : Hid (LogV (fun i => i = bz) (w11.alloc (.cells #[.int .i64 0, .int .i64 0, .int .i64 0, .int .i64 0, .slice none 0 0] 35)) (.slice A11 r.log.length c11) r.log) := Lib.hid ((O11.out.sub (fun i hi => .inr (by omega))).alloc _)
              refine hK.out _ _ ⟨Yd.out.on Va.out, Rd.out.on Va.out, Td.out.on Va.out⟩ (fun hHeld => ?_)
              clear hK K
              have HBz := Lib.hid hbz
              rw [← hbz]
              clear hbz
              generalize w11.alloc _ = wa at *
              refine wpAnyH_ready (rs := [3]) (by kernel_rfl) (by simp) ?_
              refine AllReadyH.cons rfl (fun K hK => ?_) AllReadyH.nil
              go_simp
              refine (xapply13_any s r (.slice A5 n c5) (.slice A11 r.log.length c11) wa (fun i => i = bz) HSO.out HRO.out (((LogV.of_ents Ed.out).sub (S' := (fun i => i = bz)) (fun i hi => .inr (by have := hzd; omega))).on Va.out) Oa.out (fun i hi => by subst hi; exact Za.out.lt)).mono ?_
              rintro e w12 hap
              have HAP : Hid (ApOut (fun i => i = bz) wa t x e w12) := Lib.hid (by
                rw [HT.out, HXX.out]
                unfold apT apX
                rw [if_pos HOKB.out, if_pos HOKB.out]
                by_cases hf : fits s r = true
                · rw [if_pos hf, if_pos hf]; exact hap.1 hf
                · rw [if_neg hf, if_neg hf]; exact hap.2 hf)
              obtain ⟨A12, n12, c12, rfl, hn12, he12, hb12⟩ := HAP.out
              have V12 := Lib.hid (Va.out.trans (hb12.mono Va.out.size))
              have B12 := Lib.hid (Ba.out.trans (hb12.mono Ba.out.size))
              have E12 := Lib.hid he12
              have Z12 := Lib.hid (Za.out.on hb12)
              refine hK.out _ _ ⟨Yd.out.on V12.out, Rd.out.on V12.out, Td.out.on V12.out⟩ (fun hHeld => ?_)
              clear hK K hb12 he12 hn12 hap HAP
              refine take_d 4 50 (.tuple #[.agg #[.int .i64 t.vi, .int .i64 t.no, .int .i64 t.co, .int .i64 t.ac, .slice A12 n12 c12], .int .i64 x]) _ rfl rfl (by kernel_rfl) (by kernel_rfl) (by kernel_rfl) (fun _ _ _ h => h) (Or.inl ⟨by rfl, fun w' hSw => ?_⟩) hHeld ?_
              · go_simp
              simp only [List.setIfInBounds_toArray, List.set_cons_zero, List.set_cons_succ]
              refine take_d 5 55 (.agg #[.int .i64 t.vi, .int .i64 t.no, .int .i64 t.co, .int .i64 t.ac, .slice A12 n12 c12]) _ rfl rfl (by kernel_rfl) (by kernel_rfl) (by kernel_rfl) (fun _ _ _ h => h) (Or.inl ⟨by rfl, fun w' hSw => ?_⟩) hHeld ?_
              · go_simp
              simp only [List.setIfInBounds_toArray, List.set_cons_zero, List.set_cons_succ]
              refine take_d 6 56 (.int .i64 x) _ rfl rfl (by kernel_rfl) (by kernel_rfl) (by kernel_rfl) (fun _ _ _ h => h) (Or.inl ⟨by rfl, fun w' hSw => ?_⟩) hHeld ?_
              · go_simp
              simp only [List.setIfInBounds_toArray, List.set_cons_zero, List.set_cons_succ]
              refine wpAnyH_ready (rs := [8]) (by kernel_rfl) (by simp) ?_
              refine AllReadyH.cons rfl (fun K hK => ?_) AllReadyH.nil
              have z0 := Z12.out.cell 0
              have z1 := Z12.out.cell 1
              have z2 := Z12.out.cell 2
              have z3 := Z12.out.cell 3
              have z4 := Z12.out.cell 4
              have zf := Z12.out.frozen
              have zl := Z12.out.lt
              go_simp
              have B13 : Hid (Below w.heap.size w (((((w12.setCell ⟨bz, 0, none⟩ (.int .i64 t.vi)).setCell ⟨bz, 1, none⟩ (.int .i64 t.no)).setCell ⟨bz, 2, none⟩ (.int .i64 t.co)).setCell ⟨bz, 3, none⟩ (.int .i64 t.ac)).setCell ⟨bz, 4, none⟩ (.slice A12 n12 c12))) := Lib.hid (((((B12.out.setCell (p := ⟨bz, 0, none⟩) hzw (.int .i64 t.vi)).setCell (p := ⟨bz, 1, none⟩) hzw (.int .i64 t.no)).setCell (p := ⟨bz, 2, none⟩) hzw (.int .i64 t.co)).setCell (p := ⟨bz, 3, none⟩) hzw (.int .i64 t.ac)).setCell (p := ⟨bz, 4, none⟩) hzw (.slice A12 n12 c12))
              have V13 : Hid (Below wd.heap.size wd (((((w12.setCell ⟨bz, 0, none⟩ (.int .i64 t.vi)).setCell ⟨bz, 1, none⟩ (.int .i64 t.no)).setCell ⟨bz, 2, none⟩ (.int .i64 t.co)).setCell ⟨bz, 3, none⟩ (.int .i64 t.ac)).setCell ⟨bz, 4, none⟩ (.slice A12 n12 c12))) := Lib.hid (((((V12.out.setCell (p := ⟨bz, 0, none⟩) hzd (.int .i64 t.vi)).setCell (p := ⟨bz, 1, none⟩) hzd (.int .i64 t.no)).setCell (p := ⟨bz, 2, none⟩) hzd (.int .i64 t.co)).setCell (p := ⟨bz, 3, none⟩) hzd (.int .i64 t.ac)).setCell (p := ⟨bz, 4, none⟩) hzd (.slice A12 n12 c12))
              have Y13 : Hid (Blk (((((w12.setCell ⟨bz, 0, none⟩ (.int .i64 t.vi)).setCell ⟨bz, 1, none⟩ (.int .i64 t.no)).setCell ⟨bz, 2, none⟩ (.int .i64 t.co)).setCell ⟨bz, 3, none⟩ (.int .i64 t.ac)).setCell ⟨bz, 4, none⟩ (.slice A12 n12 c12)) bz 35 #[.int .i64 t.vi, .int .i64 t.no, .int .i64 t.co, .int .i64 t.ac, .slice A12 n12 c12]) := Lib.hid (by simpa using (((((Z12.out.set_ 0 (.int .i64 t.vi)).set_ 1 (.int .i64 t.no)).set_ 2 (.int .i64 t.co)).set_ 3 (.int .i64 t.ac)).set_ 4 (.slice A12 n12 c12)))
              have E13 : Hid (LogV (fun i => i = bz) (((((w12.setCell ⟨bz, 0, none⟩ (.int .i64 t.vi)).setCell ⟨bz, 1, none⟩ (.int .i64 t.no)).setCell ⟨bz, 2, none⟩ (.int .i64 t.co)).setCell ⟨bz, 3, none⟩ (.int .i64 t.ac)).setCell ⟨bz, 4, none⟩ (.slice A12 n12 c12)) (.slice A12 n12 c12) t.log) := Lib.hid (E12.out.next ((((((Fr.refl (S := fun i => i = bz) w12).set_ (q := ⟨bz, 0, none⟩) (.inl (show bz = bz from rfl)) (.int .i64 t.vi)).set_ (q := ⟨bz, 1, none⟩) (.inl (show bz = bz from rfl)) (.int .i64 t.no)).set_ (q := ⟨bz, 2, none⟩) (.inl (show bz = bz from rfl)) (.int .i64 t.co)).set_ (q := ⟨bz, 3, none⟩) (.inl (show bz = bz from rfl)) (.int .i64 t.ac)).set_ (q := ⟨bz, 4, none⟩) (.inl (show bz = bz from rfl)) (.slice A12 n12 c12)))
              generalize (((((w12.setCell ⟨bz, 0, none⟩ (.int .i64 t.vi)).setCell ⟨bz, 1, none⟩ (.int .i64 t.no)).setCell ⟨bz, 2, none⟩ (.int .i64 t.co)).setCell ⟨bz, 3, none⟩ (.int .i64 t.ac)).setCell ⟨bz, 4, none⟩ (.slice A12 n12 c12)) = w13 at *
              refine hK.out _ _ ⟨Yd.out.on V13.out, Rd.out.on V13.out, Td.out.on V13.out⟩ (fun hHeld => ?_)
              clear hK K z0 z1 z2 z3 z4 zf zl
              refine take_d 9 9 (.int .i64 x) _ rfl rfl (by kernel_rfl) (by kernel_rfl) (by kernel_rfl) (fun _ _ _ h => h) (Or.inl ⟨by rfl, fun w' hSw => ?_⟩) hHeld ?_
              · go_simp
              simp only [List.setIfInBounds_toArray, List.set_cons_zero, List.set_cons_succ]
              refine wpAnyH_done (by kernel_rfl) ?_ _
              have T13 := Lib.hid hHeld.2.2
              have F13 := Lib.hid (Fd.out.on V13.out)
              clear hHeld
              have SA := Lib.hid (same13_any t t (.slice A4 n4 c4) (.slice A12 n12 c12) w13 HTS.out.2 HTS.out.1 (small_short HTS.out.1) F13.out E13.out.read)
              have t0 := T13.out.cell 0
              have t1 := T13.out.cell 1
              have t2 := T13.out.cell 2
              have t3 := T13.out.cell 3
              have t4 := T13.out.cell 4
              have tln := T13.out.lt
              have y0 := Y13.out.cell 0
              have y1 := Y13.out.cell 1
              have y2 := Y13.out.cell 2
              have y3 := Y13.out.cell 3
              have y4 := Y13.out.cell 4
              have yln := Y13.out.lt
              go_wp2_with fail
              refine SA.out.mono ?_
              rintro e w20 ⟨cc, rfl, hcc, hb20⟩
              have hct : cc = true := hcc.2 (by first | rfl | trivial)
              subst hct
              have B20 := Lib.hid (B13.out.trans (hb20.mono B13.out.size))
              have T20 := Lib.hid (T13.out.on hb20)
              have F20 := Lib.hid (F13.out.on hb20)
              clear hb20 hcc SA
              clear t0 t1 t2 t3 t4 tln y0 y1 y2 y3 y4 yln
              by_cases hx0 : x = 0
              · have hto : t.ok = true := by
                  have h1 := HXX.out
                  unfold apX at h1
                  rw [if_pos HOKB.out] at h1
                  by_cases hf : fits s r = true
                  · rw [HT.out]; unfold apT; rw [if_pos HOKB.out, if_pos hf]; exact chg_ok HSO.out HRO.out hf
                  · rw [if_neg hf, hx0] at h1; cases h1
                have HTO := Lib.hid hto
                subst hx0
                clear hto
                have SR := Lib.hid (sright_any t (.slice A4 n4 c4) w20 F20.out)
                rw [HTO.out] at SR
                have t0 := T20.out.cell 0
                have t1 := T20.out.cell 1
                have t2 := T20.out.cell 2
                have t3 := T20.out.cell 3
                have t4 := T20.out.cell 4
                have tln := T20.out.lt
                go_wp2_with fail
                refine SR.out.mono ?_
                rintro e w21 ⟨rfl, hb21⟩
                have BF := Lib.hid (B20.out.trans (hb21.mono B20.out.size))
                clear hb21 SR
                go_wp2
                go_ret
                exact ⟨rfl, BF.out⟩
              · go_wp2
                go_ret
                exact ⟨rfl, B20.out⟩
          · go_simp
            obtain ⟨bz, hbz⟩ : ∃ z, z = wd.heap.size := ⟨_, rfl⟩
            have hzd : wd.heap.size ≤ bz := by rw [hbz]; exact Vd.out.size
            have hzw : w.heap.size ≤ bz := by rw [hbz]; exact Bd.out.size
            have Va : Hid (Below wd.heap.size wd (wd.alloc (.cells #[.int .i64 0, .int .i64 0, .int .i64 0, .int .i64 0, .slice none 0 0] 35))) := Lib.hid (Vd.out.alloc Vd.out.size _)
            have Ba : Hid (Below w.heap.size w (wd.alloc (.cells #[.int .i64 0, .int .i64 0, .int .i64 0, .int .i64 0, .slice none 0 0] 35))) := Lib.hid (Bd.out.alloc Bd.out.size _)
            have Za : Hid (Blk (wd.alloc (.cells #[.int .i64 0, .int .i64 0, .int .i64 0, .int .i64 0, .slice none 0 0] 35)) bz 35 #[.int .i64 0, .int .i64 0, .int .i64 0, .int .i64 0, .slice none 0 0]) := Lib.hid (by rw [hbz]; exact Blk.new _ _ _)
            refine hK.out _ _ ⟨Yd.out.on Va.out, Rd.out.on Va.out, Td.out.on Va.out⟩ (fun hHeld => ?_)
            clear hK K
            have HBz := Lib.hid hbz
            rw [← hbz]
            clear hbz
            generalize wd.alloc _ = wa at *
            refine wpAnyH_ready (rs := [2]) (by kernel_rfl) (by simp) ?_
            refine AllReadyH.cons rfl (fun K hK => ?_) AllReadyH.nil
            go_simp
            refine (madeRec_any w.heap.size r (.slice B m d) _ Ba.out.size HS2.out.2 HS2.out.1 (HU.out.below Ba.out)).mono ?_
            rintro e w11 ⟨V11v, rfl, ⟨A11, c11, rfl, o11⟩, hb11⟩
            have V11 := Lib.hid (Va.out.trans (hb11.mono Va.out.size))
            have B11 := Lib.hid (Ba.out.trans (hb11.mono Ba.out.size))
            have Z11 := Lib.hid (Za.out.on hb11)
            have O11 : Hid (LogV (fun i => i = bz) w11 (.slice A11 r.log.length c11) r.log) := Lib.hid (LogV.of_ownX o11 (fun i hi => by subst hi; exact Za.out.lt) (fun i hi => by subst hi; exact hzw) B11.out.size)
            refine hK.out _ _ ⟨Yd.out.on V11.out, Rd.out.on V11.out, Td.out.on V11.out⟩ (fun hHeld => ?_)
            clear hK K hb11 o11
            refine wpAnyH_ready (rs := [3]) (by kernel_rfl) (by simp) ?_
            refine AllReadyH.cons rfl (fun K hK => ?_) AllReadyH.nil
            go_simp
            refine (xapply13_any s r (.slice A5 n c5) (.slice A11 r.log.length c11) w11 (fun i => i = bz) HSO.out HRO.out (((LogV.of_ents Ed.out).sub (S' := (fun i => i = bz)) (fun i hi => .inr (by have := hzd; omega))).on V11.out) O11.out (fun i hi => by subst hi; exact Z11.out.lt)).mono ?_
            rintro e w12 hap
            have HAP : Hid (ApOut (fun i => i = bz) w11 t x e w12) := Lib.hid (by
              rw [HT.out, HXX.out]
              unfold apT apX
              rw [if_pos HOKB.out, if_pos HOKB.out]
              by_cases hf : fits s r = true
              · rw [if_pos hf, if_pos hf]; exact hap.1 hf
              · rw [if_neg hf, if_neg hf]; exact hap.2 hf)
            obtain ⟨A12, n12, c12, rfl, hn12, he12, hb12⟩ := HAP.out
            have V12 := Lib.hid (V11.out.trans (hb12.mono V11.out.size))
            have B12 := Lib.hid (B11.out.trans (hb12.mono B11.out.size))
            have E12 := Lib.hid he12
            have Z12 := Lib.hid (Z11.out.on hb12)
            refine hK.out _ _ ⟨Yd.out.on V12.out, Rd.out.on V12.out, Td.out.on V12.out⟩ (fun hHeld => ?_)
            clear hK K hb12 he12 hn12 hap HAP
            refine take_d 4 50 (.tuple #[.agg #[.int .i64 t.vi, .int .i64 t.no, .int .i64 t.co, .int .i64 t.ac, .slice A12 n12 c12], .int .i64 x]) _ rfl rfl (by kernel_rfl) (by kernel_rfl) (by kernel_rfl) (fun _ _ _ h => h) (Or.inl ⟨by rfl, fun w' hSw => ?_⟩) hHeld ?_
            · go_simp
            simp only [List.setIfInBounds_toArray, List.set_cons_zero, List.set_cons_succ]
            refine take_d 5 55 (.agg #[.int .i64 t.vi, .int .i64 t.no, .int .i64 t.co, .int .i64 t.ac, .slice A12 n12 c12]) _ rfl rfl (by kernel_rfl) (by kernel_rfl) (by kernel_rfl) (fun _ _ _ h => h) (Or.inl ⟨by rfl, fun w' hSw => ?_⟩) hHeld ?_
            · go_simp
            simp only [List.setIfInBounds_toArray, List.set_cons_zero, List.set_cons_succ]
            refine take_d 6 56 (.int .i64 x) _ rfl rfl (by kernel_rfl) (by kernel_rfl) (by kernel_rfl) (fun _ _ _ h => h) (Or.inl ⟨by rfl, fun w' hSw => ?_⟩) hHeld ?_
            · go_simp
            simp only [List.setIfInBounds_toArray, List.set_cons_zero, List.set_cons_succ]
            refine wpAnyH_ready (rs := [8]) (by kernel_rfl) (by simp) ?_
            refine AllReadyH.cons rfl (fun K hK => ?_) AllReadyH.nil
            have z0 := Z12.out.cell 0
            have z1 := Z12.out.cell 1
            have z2 := Z12.out.cell 2
            have z3 := Z12.out.cell 3
            have z4 := Z12.out.cell 4
            have zf := Z12.out.frozen
            have zl := Z12.out.lt
            go_simp
            have B13 : Hid (Below w.heap.size w (((((w12.setCell ⟨bz, 0, none⟩ (.int .i64 t.vi)).setCell ⟨bz, 1, none⟩ (.int .i64 t.no)).setCell ⟨bz, 2, none⟩ (.int .i64 t.co)).setCell ⟨bz, 3, none⟩ (.int .i64 t.ac)).setCell ⟨bz, 4, none⟩ (.slice A12 n12 c12))) := Lib.hid (((((B12.out.setCell (p := ⟨bz, 0, none⟩) hzw (.int .i64 t.vi)).setCell (p := ⟨bz, 1, none⟩) hzw (.int .i64 t.no)).setCell (p := ⟨bz, 2, none⟩) hzw (.int .i64 t.co)).setCell (p := ⟨bz, 3, none⟩) hzw (.int .i64 t.ac)).setCell (p := ⟨bz, 4, none⟩) hzw (.slice A12 n12 c12))
            have V13 : Hid (Below wd.heap.size wd (((((w12.setCell ⟨bz, 0, none⟩ (.int .i64 t.vi)).setCell ⟨bz, 1, none⟩ (.int .i64 t.no)).setCell ⟨bz, 2, none⟩ (.int .i64 t.co)).setCell ⟨bz, 3, none⟩ (.int .i64 t.ac)).setCell ⟨bz, 4, none⟩ (.slice A12 n12 c12))) := Lib.hid (((((V12.out.setCell (p := ⟨bz, 0, none⟩) hzd (.int .i64 t.vi)).setCell (p := ⟨bz, 1, none⟩) hzd (.int .i64 t.no)).setCell (p := ⟨bz, 2, none⟩) hzd (.int .i64 t.co)).setCell (p := ⟨bz, 3, none⟩) hzd (.int .i64 t.ac)).setCell (p := ⟨bz, 4, none⟩) hzd (.slice A12 n12 c12))
            have Y13 : Hid (Blk (((((w12.setCell ⟨bz, 0, none⟩ (.int .i64 t.vi)).setCell ⟨bz, 1, none⟩ (.int .i64 t.no)).setCell ⟨bz, 2, none⟩ (.int .i64 t.co)).setCell ⟨bz, 3, none⟩ (.int .i64 t.ac)).setCell ⟨bz, 4, none⟩ (.slice A12 n12 c12)) bz 35 #[.int .i64 t.vi, .int .i64 t.no, .int .i64 t.co, .int .i64 t.ac, .slice A12 n12 c12]) := Lib.hid (by simpa using (((((Z12.out.set_ 0 (.int .i64 t.vi)).set_ 1 (.int .i64 t.no)).set_ 2 (.int .i64 t.co)).set_ 3 (.int .i64 t.ac)).set_ 4 (.slice A12 n12 c12)))
            have E13 : Hid (LogV (fun i => i = bz) (((((w12.setCell ⟨bz, 0, none⟩ (.int .i64 t.vi)).setCell ⟨bz, 1, none⟩ (.int .i64 t.no)).setCell ⟨bz, 2, none⟩ (.int .i64 t.co)).setCell ⟨bz, 3, none⟩ (.int .i64 t.ac)).setCell ⟨bz, 4, none⟩ (.slice A12 n12 c12)) (.slice A12 n12 c12) t.log) := Lib.hid (E12.out.next ((((((Fr.refl (S := fun i => i = bz) w12).set_ (q := ⟨bz, 0, none⟩) (.inl (show bz = bz from rfl)) (.int .i64 t.vi)).set_ (q := ⟨bz, 1, none⟩) (.inl (show bz = bz from rfl)) (.int .i64 t.no)).set_ (q := ⟨bz, 2, none⟩) (.inl (show bz = bz from rfl)) (.int .i64 t.co)).set_ (q := ⟨bz, 3, none⟩) (.inl (show bz = bz from rfl)) (.int .i64 t.ac)).set_ (q := ⟨bz, 4, none⟩) (.inl (show bz = bz from rfl)) (.slice A12 n12 c12)))
            generalize (((((w12.setCell ⟨bz, 0, none⟩ (.int .i64 t.vi)).setCell ⟨bz, 1, none⟩ (.int .i64 t.no)).setCell ⟨bz, 2, none⟩ (.int .i64 t.co)).setCell ⟨bz, 3, none⟩ (.int .i64 t.ac)).setCell ⟨bz, 4, none⟩ (.slice A12 n12 c12)) = w13 at *
            refine hK.out _ _ ⟨Yd.out.on V13.out, Rd.out.on V13.out, Td.out.on V13.out⟩ (fun hHeld => ?_)
            clear hK K z0 z1 z2 z3 z4 zf zl
            refine take_d 9 9 (.int .i64 x) _ rfl rfl (by kernel_rfl) (by kernel_rfl) (by kernel_rfl) (fun _ _ _ h => h) (Or.inl ⟨by rfl, fun w' hSw => ?_⟩) hHeld ?_
            · go_simp
            simp only [List.setIfInBounds_toArray, List.set_cons_zero, List.set_cons_succ]
            refine wpAnyH_done (by kernel_rfl) ?_ _
            have T13 := Lib.hid hHeld.2.2
            have F13 := Lib.hid (Fd.out.on V13.out)
            clear hHeld
            have SA := Lib.hid (same13_any t t (.slice A4 n4 c4) (.slice A12 n12 c12) w13 HTS.out.2 HTS.out.1 (small_short HTS.out.1) F13.out E13.out.read)
            have t0 := T13.out.cell 0
            have t1 := T13.out.cell 1
            have t2 := T13.out.cell 2
            have t3 := T13.out.cell 3
            have t4 := T13.out.cell 4
            have tln := T13.out.lt
            have y0 := Y13.out.cell 0
            have y1 := Y13.out.cell 1
            have y2 := Y13.out.cell 2
            have y3 := Y13.out.cell 3
            have y4 := Y13.out.cell 4
            have yln := Y13.out.lt
            go_wp2_with fail
            refine SA.out.mono ?_
            rintro e w20 ⟨cc, rfl, hcc, hb20⟩
            have hct : cc = true := hcc.2 (by first | rfl | trivial)
            subst hct
            have B20 := Lib.hid (B13.out.trans (hb20.mono B13.out.size))
            have T20 := Lib.hid (T13.out.on hb20)
            have F20 := Lib.hid (F13.out.on hb20)
            clear hb20 hcc SA
            clear t0 t1 t2 t3 t4 tln y0 y1 y2 y3 y4 yln
            by_cases hx0 : x = 0
            · have hto : t.ok = true := by
                have h1 := HXX.out
                unfold apX at h1
                rw [if_pos HOKB.out] at h1
                by_cases hf : fits s r = true
                · rw [HT.out]; unfold apT; rw [if_pos HOKB.out, if_pos hf]; exact chg_ok HSO.out HRO.out hf
                · rw [if_neg hf, hx0] at h1; cases h1
              have HTO := Lib.hid hto
              subst hx0
              clear hto
              have SR := Lib.hid (sright_any t (.slice A4 n4 c4) w20 F20.out)
              rw [HTO.out] at SR
              have t0 := T20.out.cell 0
              have t1 := T20.out.cell 1
              have t2 := T20.out.cell 2
              have t3 := T20.out.cell 3
              have t4 := T20.out.cell 4
              have tln := T20.out.lt
              go_wp2_with fail
              refine SR.out.mono ?_
              rintro e w21 ⟨rfl, hb21⟩
              have BF := Lib.hid (B20.out.trans (hb21.mono B20.out.size))
              clear hb21 SR
              go_wp2
              go_ret
              exact ⟨rfl, BF.out⟩
            · go_wp2
              go_ret
              exact ⟨rfl, B20.out⟩
end Go.Proofs.Ytgddcbjlhplmgaa
