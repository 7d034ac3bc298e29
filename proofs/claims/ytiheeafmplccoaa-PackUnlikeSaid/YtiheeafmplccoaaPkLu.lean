/- PackUnlike: the law's walk. -/
import Derived.Test.YtiheeafmplccoaaPkT
import Derived.Test.YtiheeafmplccoaaPkLa
namespace Go.Proofs.Ytiheeafmplccoaa
open Go.RowKit
variable {w w' : World}

set_option maxRecDepth 100000 in
set_option maxHeartbeats 16000000 in
theorem packUnlike_law (a : Ms) (ca : Value) (b : Ms) (cb : Value) (W : World) (hVa : EntsV W.heap.size W ca a.log) (hma : a.log.length ≤ 9223372036854775807) (hVb : EntsV W.heap.size W cb b.log) (hmb : b.log.length ≤ 9223372036854775807) :
    Calls Try.prog 8 #[a.val ca, b.val cb] W fun e w' => e = .returned (.bool true) ∧ Below W.heap.size W w' := by
  obtain ⟨A, cp, rfl⟩ := hVa.form
  obtain ⟨B, cq, rfl⟩ := hVb.form
  have B0 := Lib.hid (show Below W.heap.size W ((W.alloc (.cells #[.int .i64 a.k, .int .i64 a.vi, .int .i64 a.fr, .int .i64 a.to, .int .i64 a.op, .int .i64 a.co, .int .i64 a.no, .slice A a.log.length cp] 24)).alloc (.cells #[.int .i64 b.k, .int .i64 b.vi, .int .i64 b.fr, .int .i64 b.to, .int .i64 b.op, .int .i64 b.co, .int .i64 b.no, .slice B b.log.length cq] 24)) from ((Below.refl _ _).alloc (Nat.le_refl _) _).alloc (by simp) _)
  have XA := Lib.hid (show Blk ((W.alloc (.cells #[.int .i64 a.k, .int .i64 a.vi, .int .i64 a.fr, .int .i64 a.to, .int .i64 a.op, .int .i64 a.co, .int .i64 a.no, .slice A a.log.length cp] 24)).alloc (.cells #[.int .i64 b.k, .int .i64 b.vi, .int .i64 b.fr, .int .i64 b.to, .int .i64 b.op, .int .i64 b.co, .int .i64 b.no, .slice B b.log.length cq] 24)) W.heap.size 24 #[.int .i64 a.k, .int .i64 a.vi, .int .i64 a.fr, .int .i64 a.to, .int .i64 a.op, .int .i64 a.co, .int .i64 a.no, .slice A a.log.length cp] from (Blk.new _ _ _).alloc _)
  have XB := Lib.hid (show Blk ((W.alloc (.cells #[.int .i64 a.k, .int .i64 a.vi, .int .i64 a.fr, .int .i64 a.to, .int .i64 a.op, .int .i64 a.co, .int .i64 a.no, .slice A a.log.length cp] 24)).alloc (.cells #[.int .i64 b.k, .int .i64 b.vi, .int .i64 b.fr, .int .i64 b.to, .int .i64 b.op, .int .i64 b.co, .int .i64 b.no, .slice B b.log.length cq] 24)) (W.heap.size + 1) 24 #[.int .i64 b.k, .int .i64 b.vi, .int .i64 b.fr, .int .i64 b.to, .int .i64 b.op, .int .i64 b.co, .int .i64 b.no, .slice B b.log.length cq] from Blk.at_new _ _ (by simp) _ _)
  have HVA := Lib.hid hVa
  have HVB := Lib.hid hVb
  have HMA := Lib.hid hma
  have HMB := Lib.hid hmb
  have hs0 : W.heap.size ≤ ((W.alloc (.cells #[.int .i64 a.k, .int .i64 a.vi, .int .i64 a.fr, .int .i64 a.to, .int .i64 a.op, .int .i64 a.co, .int .i64 a.no, .slice A a.log.length cp] 24)).alloc (.cells #[.int .i64 b.k, .int .i64 b.vi, .int .i64 b.fr, .int .i64 b.to, .int .i64 b.op, .int .i64 b.co, .int .i64 b.no, .slice B b.log.length cq] 24)).heap.size := by simp; omega
  clear hVa hVb hma hmb
  go_enter Try.func8, Try.ntmps8
  go_upto_region 1 with (fail)
  generalize (W.alloc _).alloc _ = w0 at *
  go_wp2_with fail
  refine (anchor11_any _).mono ?_
  rintro e w1 ⟨rfl, b1⟩
  have B1 := Lib.hid (B0.out.trans (b1.mono hs0))
  have XA1 := Lib.hid (XA.out.on b1)
  have XB1 := Lib.hid (XB.out.on b1)
  have hs1 : W.heap.size ≤ w1.heap.size := B1.out.size
  have x7 := XA1.out.cell 7
  clear b1 XA XB
  go_wp2_with fail
  refine (small_any _ a.log w1 HMA.out ((HVA.out.below B1.out).more hs1)).mono ?_
  rintro e w2 ⟨rfl, b2⟩
  have B2 := Lib.hid (B1.out.trans (b2.mono hs1))
  have XA2 := Lib.hid (XA1.out.on b2)
  have XB2 := Lib.hid (XB1.out.on b2)
  have hs2 : W.heap.size ≤ w2.heap.size := B2.out.size
  clear b2 x7 XA1 XB1
  cases hsa : smallL a.log
  · go_wp2
    go_ret
    exact ⟨rfl, B2.out⟩
  have HSa := Lib.hid (smallL_iff.1 hsa)
  clear hsa
  have x7 := XB2.out.cell 7
  go_wp2_with fail
  refine (small_any _ b.log w2 HMB.out ((HVB.out.below B2.out).more hs2)).mono ?_
  rintro e w3 ⟨rfl, b3⟩
  have B3 := Lib.hid (B2.out.trans (b3.mono hs2))
  have XA3 := Lib.hid (XA2.out.on b3)
  have XB3 := Lib.hid (XB2.out.on b3)
  have hs3 : W.heap.size ≤ w3.heap.size := B3.out.size
  clear b3 x7 XA2 XB2
  cases hsb : smallL b.log
  · go_wp2
    go_ret
    exact ⟨rfl, B3.out⟩
  have HSb := Lib.hid (smallL_iff.1 hsb)
  clear hsb
  have x0 := XA3.out.cell 0
  have x1 := XA3.out.cell 1
  have x2 := XA3.out.cell 2
  have x3 := XA3.out.cell 3
  have x4 := XA3.out.cell 4
  have x5 := XA3.out.cell 5
  have x6 := XA3.out.cell 6
  have x7 := XA3.out.cell 7
  have HE := Lib.hid (encM_any a _ w3 ((HVA.out.below B3.out).more hs3))
  go_wp2_with fail
  refine HE.out.mono ?_
  intro e w4 he
  obtain ⟨b4, he⟩ := he.cases
  have B4 := Lib.hid (B3.out.trans (b4.mono hs3))
  have XA4 := Lib.hid (XA3.out.on b4)
  have XB4 := Lib.hid (XB3.out.on b4)
  have hs4 : W.heap.size ≤ w4.heap.size := B4.out.size
  clear b4 XA3 XB3 HE x0 x1 x2 x3 x4 x5 x6 x7
  have x0 := XB4.out.cell 0
  have x1 := XB4.out.cell 1
  have x2 := XB4.out.cell 2
  have x3 := XB4.out.cell 3
  have x4 := XB4.out.cell 4
  have x5 := XB4.out.cell 5
  have x6 := XB4.out.cell 6
  have x7 := XB4.out.cell 7
  have HF := Lib.hid (encM_any b _ w4 ((HVB.out.below B4.out).more hs4))
  have BAD : Hid (∀ e w5, EncP w4 b.ok (eM b) e w5 → ∃ y f, e = .returned (.tuple #[y, .int .i64 f]) ∧ Below W.heap.size W w5 ∧ (∃ A n c, y = .slice A n c)) := Lib.hid (by
    intro e w5 h
    obtain ⟨h1, h2⟩ := h.cases
    have h3 := B4.out.trans (h1.mono hs4)
    rcases h2 with ⟨_, _, A, c, rfl, _⟩ | ⟨_, rfl⟩ | ⟨_, _, rfl⟩
    · exact ⟨_, _, rfl, h3, _, _, _, rfl⟩
    · exact ⟨_, _, rfl, h3, _, _, _, rfl⟩
    · exact ⟨_, _, rfl, h3, _, _, _, rfl⟩)
  rcases he with ⟨hok, hl, A5, c5, rfl, ho⟩ | ⟨hok, rfl⟩ | ⟨hok, hl, rfl⟩
  rotate_left
  · go_wp2_with fail
    refine HF.out.mono ?_
    intro e w5 he
    obtain ⟨y, f, rfl, hB, A, n, c, rfl⟩ := BAD.out _ _ he
    have HBB := Lib.hid hB
    clear he hB
    go_wp2
    go_ret
    exact ⟨rfl, HBB.out⟩
  · go_wp2_with fail
    refine HF.out.mono ?_
    intro e w5 he
    obtain ⟨y, f, rfl, hB, A, n, c, rfl⟩ := BAD.out _ _ he
    have HBB := Lib.hid hB
    clear he hB
    go_wp2
    go_ret
    exact ⟨rfl, HBB.out⟩
  obtain ⟨n5, hn5⟩ : ∃ n5, n5 = (eM a).length := ⟨_, rfl⟩
  rw [← hn5] at ho ⊢
  have O5 := Lib.hid ho
  have KA := Lib.hid hok
  clear ho hok hl BAD hn5
  go_wp2_with fail
  refine HF.out.mono ?_
  intro e w5 he
  obtain ⟨b5, he⟩ := he.cases
  have B5 := Lib.hid (B4.out.trans (b5.mono hs4))
  have XA5 := Lib.hid (XA4.out.on b5)
  have XB5 := Lib.hid (XB4.out.on b5)
  have hs5 : W.heap.size ≤ w5.heap.size := B5.out.size
  have X5 := Lib.hid (own_on O5.out b5).bytes
  clear b5 XA4 XB4 HF O5 x0 x1 x2 x3 x4 x5 x6 x7
  rcases he with ⟨hok, hl, A7, c7, rfl, ho⟩ | ⟨hok, rfl⟩ | ⟨hok, hl, rfl⟩
  rotate_left
  · go_wp2
    go_ret
    exact ⟨rfl, B5.out⟩
  · go_wp2
    go_ret
    exact ⟨rfl, B5.out⟩
  obtain ⟨n7, hn7⟩ : ∃ n7, n7 = (eM b).length := ⟨_, rfl⟩
  rw [← hn7] at ho ⊢
  have X7 := Lib.hid ho.bytes
  have KB := Lib.hid hok
  obtain ⟨SA, hSA⟩ : ∃ S : ByteArray, S = ⟨(eM a).toArray⟩ := ⟨_, rfl⟩
  obtain ⟨SB, hSB⟩ : ∃ S : ByteArray, S = ⟨(eM b).toArray⟩ := ⟨_, rfl⟩
  have HSA := Lib.hid hSA
  have HSB := Lib.hid hSB
  have MB : Hid (∀ w6, Below w5.heap.size w5 w6 → Calls Try.prog 12 #[b.val (.slice B b.log.length cq)] w6 fun e w' => ∃ V, e = .returned V ∧ XMsgV W.heap.size w6.heap.size w' V b ∧ Below w6.heap.size w6 w') := Lib.hid fun w6 h6 =>
    madeMsg_any W.heap.size b _ w6 (Nat.le_trans hs5 h6.size) HSb.out.2 HSb.out.1 (HVB.out.below (B5.out.trans (h6.mono hs5)))
  have hstr : SA = SB ↔ a = b := by
    constructor
    · intro h
      rw [hSA, hSB] at h
      injection h with h
      exact eM_inj KA.out KB.out (List.toArray_inj h)
    · intro h
      rw [hSA, hSB, h]
  by_cases hab : a = b
  · have f1 : (SA.toList == SB.toList) = true := by rw [hstr.2 hab]; exact beq_self_eq_true _
    have f3 : decide (SA = SB) = true := decide_eq_true (hstr.2 hab)
    have LK : Hid (∀ w6 v, Below w5.heap.size w5 w6 → EntsV w6.heap.size w6 v b.log → Calls Try.prog 18 #[a.val (.slice A a.log.length cp), b.val v] w6 fun e w' => e = .returned (.bool true) ∧ Below w6.heap.size w6 w') := Lib.hid fun w6 v h6 hv =>
      (likeMsg_any a b _ v w6 HSa.out.2 HSa.out.1 (fun e he => smallE_len (HSb.out.1 e he)) ((HVA.out.below (B5.out.trans (h6.mono hs5))).more (Nat.le_trans hs5 h6.size)) hv).mono (by rintro e w' ⟨c, rfl, hc, hB⟩; exact ⟨by rw [hc.2 hab], hB⟩)
    clear ho hok hl hn7 he hSA hSB hstr hab
    go_wp2_with fail
    refine wp_region_held_drew (S := fun w' => Below w5.heap.size w5 w') (by kernel_rfl) (Below.drewN' (Below.refl _ w5) 1) (fun hHeld => ?_)
    refine take_d 0 37 (.slice A5 n5 c5) _ rfl rfl (by kernel_rfl) (by kernel_rfl) (by kernel_rfl) (fun _ _ _ h => h) (Or.inl ⟨by rfl, fun w' hSw => ?_⟩) hHeld ?_
    · go_simp
    simp only [List.setIfInBounds_toArray, List.set_cons_zero, List.set_cons_succ]
    refine take_d 1 38 (.string SA) _ rfl rfl (by kernel_rfl) (by kernel_rfl) (by kernel_rfl) (fun _ _ _ h => h) (Or.inl ⟨by rfl, fun w' hSw => ?_⟩) hHeld ?_
    · have q := run_string_bytes (X5.out.below hSw)
      rw [← HSA.out] at q
      go_simp
    simp only [List.setIfInBounds_toArray, List.set_cons_zero, List.set_cons_succ]
    refine take_d 2 39 (.slice A7 n7 c7) _ rfl rfl (by kernel_rfl) (by kernel_rfl) (by kernel_rfl) (fun _ _ _ h => h) (Or.inl ⟨by rfl, fun w' hSw => ?_⟩) hHeld ?_
    · go_simp
    simp only [List.setIfInBounds_toArray, List.set_cons_zero, List.set_cons_succ]
    refine take_d 3 40 (.string SB) _ rfl rfl (by kernel_rfl) (by kernel_rfl) (by kernel_rfl) (fun _ _ _ h => h) (Or.inl ⟨by rfl, fun w' hSw => ?_⟩) hHeld ?_
    · have q := run_string_bytes (X7.out.below hSw)
      rw [← HSB.out] at q
      go_simp
    simp only [List.setIfInBounds_toArray, List.set_cons_zero, List.set_cons_succ]
    refine take_d 4 41 (.bool true) _ rfl rfl (by kernel_rfl) (by kernel_rfl) (by kernel_rfl) (fun _ _ _ h => h) (Or.inl ⟨by rfl, fun w' hSw => ?_⟩) hHeld ?_
    · go_simp
    simp only [List.setIfInBounds_toArray, List.set_cons_zero, List.set_cons_succ]
    refine take_d 5 42 (.agg #[.int .i64 a.k, .int .i64 a.vi, .int .i64 a.fr, .int .i64 a.to, .int .i64 a.op, .int .i64 a.co, .int .i64 a.no, .slice A a.log.length cp]) _ rfl rfl (by kernel_rfl) (by kernel_rfl) (by kernel_rfl) (fun _ _ _ h => h) (Or.inl ⟨by rfl, fun w' hSw => ?_⟩) hHeld ?_
    · have q0 := Blk.cell (XA5.out.on hSw) 0
      have q1 := Blk.cell (XA5.out.on hSw) 1
      have q2 := Blk.cell (XA5.out.on hSw) 2
      have q3 := Blk.cell (XA5.out.on hSw) 3
      have q4 := Blk.cell (XA5.out.on hSw) 4
      have q5 := Blk.cell (XA5.out.on hSw) 5
      have q6 := Blk.cell (XA5.out.on hSw) 6
      have q7 := Blk.cell (XA5.out.on hSw) 7
      go_simp
    simp only [List.setIfInBounds_toArray, List.set_cons_zero, List.set_cons_succ]
    refine take_d 6 43 (.agg #[.int .i64 b.k, .int .i64 b.vi, .int .i64 b.fr, .int .i64 b.to, .int .i64 b.op, .int .i64 b.co, .int .i64 b.no, .slice B b.log.length cq]) _ rfl rfl (by kernel_rfl) (by kernel_rfl) (by kernel_rfl) (fun _ _ _ h => h) (Or.inl ⟨by rfl, fun w' hSw => ?_⟩) hHeld ?_
    · have q0 := Blk.cell (XB5.out.on hSw) 0
      have q1 := Blk.cell (XB5.out.on hSw) 1
      have q2 := Blk.cell (XB5.out.on hSw) 2
      have q3 := Blk.cell (XB5.out.on hSw) 3
      have q4 := Blk.cell (XB5.out.on hSw) 4
      have q5 := Blk.cell (XB5.out.on hSw) 5
      have q6 := Blk.cell (XB5.out.on hSw) 6
      have q7 := Blk.cell (XB5.out.on hSw) 7
      go_simp
    simp only [List.setIfInBounds_toArray, List.set_cons_zero, List.set_cons_succ]
    refine wpAnyH_ready (rs := [7]) (by kernel_rfl) (by simp) ?_
    refine AllReadyH.cons rfl (fun K hK => ?_) AllReadyH.nil
    go_simp
    refine (MB.out _ hHeld).mono ?_
    rintro e w6 ⟨_, rfl, ⟨A8, c8, rfl, o8⟩, hB6⟩
    have hS6 := Below.trans hHeld (hB6.mono hHeld.size)
    have HB8 := Lib.hid (o8.read (Nat.le_trans hs5 (Nat.le_trans hHeld.size hB6.size)))
    refine hK.out _ _ hS6 (fun hHeld => ?_)
    clear hK K hB6 o8 hS6
    refine wpAnyH_ready (rs := [8]) (by kernel_rfl) (by simp) ?_
    refine AllReadyH.cons rfl (fun K hK => ?_) AllReadyH.nil
    go_simp
    refine (LK.out _ _ hHeld HB8.out).mono ?_
    rintro e w7 ⟨rfl, hB7⟩
    have hS7 := Below.trans hHeld (hB7.mono hHeld.size)
    refine hK.out _ _ hS7 (fun hHeld => ?_)
    clear hK K hB7 hS7
    refine take_d 9 46 (.bool true) _ rfl rfl (by kernel_rfl) (by kernel_rfl) (by kernel_rfl) (fun _ _ _ h => h) (Or.inl ⟨by rfl, fun w' hSw => ?_⟩) hHeld ?_
    · go_simp
    simp only [List.setIfInBounds_toArray, List.set_cons_zero, List.set_cons_succ]
    refine take_d 10 4 (.bool true) _ rfl rfl (by kernel_rfl) (by kernel_rfl) (by kernel_rfl) (fun _ _ _ h => h) (Or.inl ⟨by rfl, fun w' hSw => ?_⟩) hHeld ?_
    · go_simp
    simp only [List.setIfInBounds_toArray, List.set_cons_zero, List.set_cons_succ]
    refine wpAnyH_done (by kernel_rfl) ?_ _
    go_wp2
    go_ret
    exact ⟨rfl, B5.out.trans (Below.mono hHeld hs5)⟩
  · have hne : ¬ SA = SB := fun h => hab (hstr.1 h)
    have f1 : (SA.toList == SB.toList) = false := by
      cases hh : (SA.toList == SB.toList)
      · rfl
      · exfalso
        apply hne
        have := eq_of_beq hh
        rw [ByteArray.toList_eq, ByteArray.toList_eq] at this
        obtain ⟨⟨x⟩⟩ := SA
        obtain ⟨⟨y⟩⟩ := SB
        have hxy : x = y := by simpa using this
        rw [hxy]
    have f3 : decide (SA = SB) = false := decide_eq_false hne
    have LK : Hid (∀ w6 v, Below w5.heap.size w5 w6 → EntsV w6.heap.size w6 v b.log → Calls Try.prog 18 #[a.val (.slice A a.log.length cp), b.val v] w6 fun e w' => e = .returned (.bool false) ∧ Below w6.heap.size w6 w') := Lib.hid fun w6 v h6 hv =>
      (likeMsg_any a b _ v w6 HSa.out.2 HSa.out.1 (fun e he => smallE_len (HSb.out.1 e he)) ((HVA.out.below (B5.out.trans (h6.mono hs5))).more (Nat.le_trans hs5 h6.size)) hv).mono (by rintro e w' ⟨c, rfl, hc, hB⟩; exact ⟨by cases c; rfl; exact absurd (hc.1 rfl) hab, hB⟩)
    clear ho hok hl hn7 he hSA hSB hstr hab hne
    go_wp2_with fail
    refine wp_region_held_drew (S := fun w' => Below w5.heap.size w5 w') (by kernel_rfl) (Below.drewN' (Below.refl _ w5) 1) (fun hHeld => ?_)
    refine take_d 0 37 (.slice A5 n5 c5) _ rfl rfl (by kernel_rfl) (by kernel_rfl) (by kernel_rfl) (fun _ _ _ h => h) (Or.inl ⟨by rfl, fun w' hSw => ?_⟩) hHeld ?_
    · go_simp
    simp only [List.setIfInBounds_toArray, List.set_cons_zero, List.set_cons_succ]
    refine take_d 1 38 (.string SA) _ rfl rfl (by kernel_rfl) (by kernel_rfl) (by kernel_rfl) (fun _ _ _ h => h) (Or.inl ⟨by rfl, fun w' hSw => ?_⟩) hHeld ?_
    · have q := run_string_bytes (X5.out.below hSw)
      rw [← HSA.out] at q
      go_simp
    simp only [List.setIfInBounds_toArray, List.set_cons_zero, List.set_cons_succ]
    refine take_d 2 39 (.slice A7 n7 c7) _ rfl rfl (by kernel_rfl) (by kernel_rfl) (by kernel_rfl) (fun _ _ _ h => h) (Or.inl ⟨by rfl, fun w' hSw => ?_⟩) hHeld ?_
    · go_simp
    simp only [List.setIfInBounds_toArray, List.set_cons_zero, List.set_cons_succ]
    refine take_d 3 40 (.string SB) _ rfl rfl (by kernel_rfl) (by kernel_rfl) (by kernel_rfl) (fun _ _ _ h => h) (Or.inl ⟨by rfl, fun w' hSw => ?_⟩) hHeld ?_
    · have q := run_string_bytes (X7.out.below hSw)
      rw [← HSB.out] at q
      go_simp
    simp only [List.setIfInBounds_toArray, List.set_cons_zero, List.set_cons_succ]
    refine take_d 4 41 (.bool false) _ rfl rfl (by kernel_rfl) (by kernel_rfl) (by kernel_rfl) (fun _ _ _ h => h) (Or.inl ⟨by rfl, fun w' hSw => ?_⟩) hHeld ?_
    · go_simp
    simp only [List.setIfInBounds_toArray, List.set_cons_zero, List.set_cons_succ]
    refine take_d 5 42 (.agg #[.int .i64 a.k, .int .i64 a.vi, .int .i64 a.fr, .int .i64 a.to, .int .i64 a.op, .int .i64 a.co, .int .i64 a.no, .slice A a.log.length cp]) _ rfl rfl (by kernel_rfl) (by kernel_rfl) (by kernel_rfl) (fun _ _ _ h => h) (Or.inl ⟨by rfl, fun w' hSw => ?_⟩) hHeld ?_
    · have q0 := Blk.cell (XA5.out.on hSw) 0
      have q1 := Blk.cell (XA5.out.on hSw) 1
      have q2 := Blk.cell (XA5.out.on hSw) 2
      have q3 := Blk.cell (XA5.out.on hSw) 3
      have q4 := Blk.cell (XA5.out.on hSw) 4
      have q5 := Blk.cell (XA5.out.on hSw) 5
      have q6 := Blk.cell (XA5.out.on hSw) 6
      have q7 := Blk.cell (XA5.out.on hSw) 7
      go_simp
    simp only [List.setIfInBounds_toArray, List.set_cons_zero, List.set_cons_succ]
    refine take_d 6 43 (.agg #[.int .i64 b.k, .int .i64 b.vi, .int .i64 b.fr, .int .i64 b.to, .int .i64 b.op, .int .i64 b.co, .int .i64 b.no, .slice B b.log.length cq]) _ rfl rfl (by kernel_rfl) (by kernel_rfl) (by kernel_rfl) (fun _ _ _ h => h) (Or.inl ⟨by rfl, fun w' hSw => ?_⟩) hHeld ?_
    · have q0 := Blk.cell (XB5.out.on hSw) 0
      have q1 := Blk.cell (XB5.out.on hSw) 1
      have q2 := Blk.cell (XB5.out.on hSw) 2
      have q3 := Blk.cell (XB5.out.on hSw) 3
      have q4 := Blk.cell (XB5.out.on hSw) 4
      have q5 := Blk.cell (XB5.out.on hSw) 5
      have q6 := Blk.cell (XB5.out.on hSw) 6
      have q7 := Blk.cell (XB5.out.on hSw) 7
      go_simp
    simp only [List.setIfInBounds_toArray, List.set_cons_zero, List.set_cons_succ]
    refine wpAnyH_ready (rs := [7]) (by kernel_rfl) (by simp) ?_
    refine AllReadyH.cons rfl (fun K hK => ?_) AllReadyH.nil
    go_simp
    refine (MB.out _ hHeld).mono ?_
    rintro e w6 ⟨_, rfl, ⟨A8, c8, rfl, o8⟩, hB6⟩
    have hS6 := Below.trans hHeld (hB6.mono hHeld.size)
    have HB8 := Lib.hid (o8.read (Nat.le_trans hs5 (Nat.le_trans hHeld.size hB6.size)))
    refine hK.out _ _ hS6 (fun hHeld => ?_)
    clear hK K hB6 o8 hS6
    refine wpAnyH_ready (rs := [8]) (by kernel_rfl) (by simp) ?_
    refine AllReadyH.cons rfl (fun K hK => ?_) AllReadyH.nil
    go_simp
    refine (LK.out _ _ hHeld HB8.out).mono ?_
    rintro e w7 ⟨rfl, hB7⟩
    have hS7 := Below.trans hHeld (hB7.mono hHeld.size)
    refine hK.out _ _ hS7 (fun hHeld => ?_)
    clear hK K hB7 hS7
    refine take_d 9 46 (.bool true) _ rfl rfl (by kernel_rfl) (by kernel_rfl) (by kernel_rfl) (fun _ _ _ h => h) (Or.inl ⟨by rfl, fun w' hSw => ?_⟩) hHeld ?_
    · go_simp
    simp only [List.setIfInBounds_toArray, List.set_cons_zero, List.set_cons_succ]
    refine take_d 10 4 (.bool true) _ rfl rfl (by kernel_rfl) (by kernel_rfl) (by kernel_rfl) (fun _ _ _ h => h) (Or.inl ⟨by rfl, fun w' hSw => ?_⟩) hHeld ?_
    · go_simp
    simp only [List.setIfInBounds_toArray, List.set_cons_zero, List.set_cons_succ]
    refine wpAnyH_done (by kernel_rfl) ?_ _
    go_wp2
    go_ret
    exact ⟨rfl, B5.out.trans (Below.mono hHeld hs5)⟩
end Go.Proofs.Ytiheeafmplccoaa
