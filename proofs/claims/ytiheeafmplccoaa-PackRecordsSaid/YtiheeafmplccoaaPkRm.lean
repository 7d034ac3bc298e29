/- PackRecords: the law's walk. -/
import Derived.Test.YtiheeafmplccoaaPkTr
import Derived.Test.YtiheeafmplccoaaPkLa
import Derived.Test.YtiheeafmplccoaaPkBc
import Derived.Test.YtiheeafmplccoaaPkRl
import Derived.Test.YtiheeafmplccoaaPkRh
namespace Go.Proofs.Ytiheeafmplccoaa
open Go.RowKit
variable {w w' : World}

set_option maxRecDepth 100000 in
set_option maxHeartbeats 16000000 in
theorem packRecords_law (m : Rc) (ca : Value) (v : Value) (s : List UInt8) (W : World) (hVa : EntsV W.heap.size W ca m.log) (hma : m.log.length ≤ 9223372036854775807) (hl : s.length ≤ 9223372036854775807) (h : Bytes W.heap.size W v s) :
    Calls Try.prog 5 #[m.val ca, v] W fun e w' => e = .returned (.bool true) ∧ Below W.heap.size W w' := by
  obtain ⟨A, cp, rfl⟩ := hVa.form
  have HBY := Lib.hid h
  obtain ⟨D, cap, hv, hcap, _⟩ := h
  obtain ⟨n, hn⟩ : ∃ n, n = s.length := ⟨_, rfl⟩
  rw [← hn] at hv hcap hl
  subst hv
  have HN := Lib.hid hn
  have B0 := Lib.hid (show Below W.heap.size W (W.alloc (.cells #[.int .i64 m.k, .int .i64 m.a, .int .i64 m.b, .slice A m.log.length cp] 44)) from ((Below.refl _ _).alloc (Nat.le_refl _) _))
  have XA := Lib.hid (show Blk (W.alloc (.cells #[.int .i64 m.k, .int .i64 m.a, .int .i64 m.b, .slice A m.log.length cp] 44)) W.heap.size 44 #[.int .i64 m.k, .int .i64 m.a, .int .i64 m.b, .slice A m.log.length cp] from (Blk.new _ _ _))
  have HVA := Lib.hid hVa
  have HMA := Lib.hid hma
  have hs0 : W.heap.size ≤ (W.alloc (.cells #[.int .i64 m.k, .int .i64 m.a, .int .i64 m.b, .slice A m.log.length cp] 44)).heap.size := by simp
  clear hVa hma hn
  go_enter Try.func5, Try.ntmps5
  go_upto_region 1 with (fail)
  generalize W.alloc _ = w0 at *
  go_wp2_with fail
  refine (anchor11_any _).mono ?_
  rintro e w1 ⟨rfl, b1⟩
  have B1 := Lib.hid (B0.out.trans (b1.mono hs0))
  have XA1 := Lib.hid (XA.out.on b1)
  have hs1 : W.heap.size ≤ w1.heap.size := B1.out.size
  have x3 := XA1.out.cell 3
  clear b1 XA
  go_wp2_with fail
  refine (small_any _ m.log w1 HMA.out ((HVA.out.below B1.out).more hs1)).mono ?_
  rintro e w2 ⟨rfl, b2⟩
  have B2 := Lib.hid (B1.out.trans (b2.mono hs1))
  have XA2 := Lib.hid (XA1.out.on b2)
  have hs2 : W.heap.size ≤ w2.heap.size := B2.out.size
  clear b2 x3 XA1
  cases hsa : smallL m.log
  · go_wp2
    go_ret
    exact ⟨rfl, B2.out⟩
  have HSa := Lib.hid (smallL_iff.1 hsa)
  clear hsa
  by_cases hgt : (3000 : Int) < (n : Int)
  · go_wp2
    go_ret
    exact ⟨rfl, B2.out⟩
  have x0 := XA2.out.cell 0
  have x1 := XA2.out.cell 1
  have x2 := XA2.out.cell 2
  have x3 := XA2.out.cell 3
  go_wp2_with fail
  refine (madeRec_any W.heap.size m _ w2 hs2 HSa.out.2 HSa.out.1 (HVA.out.below B2.out)).mono ?_
  rintro e w3 ⟨V3, rfl, ⟨A3, c3, rfl, o3⟩, b3⟩
  have B3 := Lib.hid (B2.out.trans (b3.mono hs2))
  have XA3 := Lib.hid (XA2.out.on b3)
  have hs3 : W.heap.size ≤ w3.heap.size := B3.out.size
  have O3 := Lib.hid (o3.read hs3)
  clear b3 XA2 o3 x0 x1 x2 x3
  go_upto_region 6 with (fail)
  have b4 : Below W.heap.size W (w3.alloc (.cells #[.int .i64 m.k, .int .i64 m.a, .int .i64 m.b, .slice A3 m.log.length c3] 46)) := B3.out.alloc hs3 _
  have B4 := Lib.hid b4
  have XA4 := Lib.hid (XA3.out.alloc (.cells #[.int .i64 m.k, .int .i64 m.a, .int .i64 m.b, .slice A3 m.log.length c3] 46))
  have XB4 := Lib.hid (Blk.new w3 46 #[.int .i64 m.k, .int .i64 m.a, .int .i64 m.b, .slice A3 m.log.length c3])
  have O4 := Lib.hid (O3.out.on ((Below.refl w3.heap.size w3).alloc (Nat.le_refl _) (.cells #[.int .i64 m.k, .int .i64 m.a, .int .i64 m.b, .slice A3 m.log.length c3] 46)))
  have hs4 : W.heap.size ≤ (w3.alloc (.cells #[.int .i64 m.k, .int .i64 m.a, .int .i64 m.b, .slice A3 m.log.length c3] 46)).heap.size := b4.size
  clear b4 XA3 O3 B3
  generalize w3.alloc _ = w4 at *
  generalize w3.heap.size = bx at *
  have x0 := XA4.out.cell 0
  have x1 := XA4.out.cell 1
  have x2 := XA4.out.cell 2
  have x3 := XA4.out.cell 3
  have HE := Lib.hid (encC_any m _ w4 ((HVA.out.below B4.out).more hs4))
  go_wp2_with fail
  refine HE.out.mono ?_
  intro e w5 he
  obtain ⟨b5, he⟩ := he.cases
  have B5 := Lib.hid (B4.out.trans (b5.mono hs4))
  have XA5 := Lib.hid (XA4.out.on b5)
  have XB5 := Lib.hid (XB4.out.on b5)
  have O5 := Lib.hid (O4.out.on b5)
  have hs5 : W.heap.size ≤ w5.heap.size := B5.out.size
  have H45 := Lib.hid b5.size
  clear b5 XA4 XB4 O4 HE x0 x1 x2 x3
  have hf : ∃ A5 n5 c5 f5, e = .returned (.tuple #[.slice A5 n5 c5, .int .i64 f5]) ∧ ((m.ok = true ∧ (eC m).length ≤ 65536 ∧ f5 = 0 ∧ n5 = (eC m).length ∧ Own w5 w4.heap.size (.slice A5 n5 c5) (eC m)) ∨ (m.ok = false ∧ f5 = 10 ∧ n5 = 0)) := by
    rcases he with ⟨hok, hl, A5, c5, rfl, ho⟩ | ⟨hok, rfl⟩ | ⟨hok, hl, rfl⟩
    · exact ⟨_, _, _, _, rfl, .inl ⟨hok, hl, rfl, rfl, ho⟩⟩
    · exact ⟨_, _, _, _, rfl, .inr ⟨hok, rfl, rfl⟩⟩
    · exfalso
      have := (Rc.ok_len hok).2
      omega
  clear he
  obtain ⟨A5, n5, c5, f5, rfl, hf⟩ := hf
  have HE := Lib.hid hf
  clear hf
  have PM := Lib.hid fun w6 (h6 : Below w5.heap.size w5 w6) => prec_any m (.slice A m.log.length cp) w6 ((HVA.out.below (B5.out.trans (h6.mono hs5))).more (Nat.le_trans hs5 h6.size))
  have XM := Lib.hid fun w6 (h6 : Below w5.heap.size w5 w6) => xrec_any m (.slice A3 m.log.length c3) w6 HMA.out (O5.out.on h6)
  go_wp2_with fail
  refine wp_region_held_drew (S := fun w' => Below w5.heap.size w5 w') (by kernel_rfl) (Below.drewN' (Below.refl _ w5) 1) (fun hHeld => ?_)
  refine take_d 0 32 (.agg #[.int .i64 m.k, .int .i64 m.a, .int .i64 m.b, .slice A m.log.length cp]) _ rfl rfl (by kernel_rfl) (by kernel_rfl) (by kernel_rfl) (fun _ _ _ h => h) (Or.inl ⟨by rfl, fun w' hSw => ?_⟩) hHeld ?_
  · have q0 := Blk.cell (XA5.out.on hSw) 0
    have q1 := Blk.cell (XA5.out.on hSw) 1
    have q2 := Blk.cell (XA5.out.on hSw) 2
    have q3 := Blk.cell (XA5.out.on hSw) 3
    go_simp
  simp only [List.setIfInBounds_toArray, List.set_cons_zero, List.set_cons_succ]
  refine take_d 2 34 (.agg #[.int .i64 m.k, .int .i64 m.a, .int .i64 m.b, .slice A3 m.log.length c3]) _ rfl rfl (by kernel_rfl) (by kernel_rfl) (by kernel_rfl) (fun _ _ _ h => h) (Or.inl ⟨by rfl, fun w' hSw => ?_⟩) hHeld ?_
  · have q0 := Blk.cell (XB5.out.on hSw) 0
    have q1 := Blk.cell (XB5.out.on hSw) 1
    have q2 := Blk.cell (XB5.out.on hSw) 2
    have q3 := Blk.cell (XB5.out.on hSw) 3
    go_simp
  simp only [List.setIfInBounds_toArray, List.set_cons_zero, List.set_cons_succ]
  refine wpAnyH_ready (rs := [1]) (by kernel_rfl) (by simp) ?_
  refine AllReadyH.cons rfl (fun K hK => ?_) AllReadyH.nil
  go_simp
  refine (PM.out _ hHeld).mono ?_
  rintro e w6 ⟨rfl, hB6⟩
  have hS6 := Below.trans hHeld (hB6.mono hHeld.size)
  refine hK.out _ _ hS6 (fun hHeld => ?_)
  clear hK K hB6 hS6
  refine wpAnyH_ready (rs := [3]) (by kernel_rfl) (by simp) ?_
  refine AllReadyH.cons rfl (fun K hK => ?_) AllReadyH.nil
  go_simp
  refine (XM.out _ hHeld).mono ?_
  rintro e w7 ⟨rfl, hB7⟩
  have hS7 := Below.trans hHeld (hB7.mono hHeld.size)
  refine hK.out _ _ hS7 (fun hHeld => ?_)
  clear hK K hB7 hS7
  refine take_d 4 36 (.bool false) _ rfl rfl (by kernel_rfl) (by kernel_rfl) (by kernel_rfl) (fun _ _ _ h => h) (Or.inl ⟨by rfl, fun w' hSw => ?_⟩) hHeld ?_
  · have q : (m.ok != m.ok) = false := by simp
    go_simp
  simp only [List.setIfInBounds_toArray, List.set_cons_zero, List.set_cons_succ]
  refine wpAnyH_done (by kernel_rfl) ?_ _
  have WR := Lib.hid hHeld
  clear hHeld
  generalize w7 = wr at *
  have B7 := Lib.hid (B5.out.trans (WR.out.mono hs5))
  have hs7 : W.heap.size ≤ wr.heap.size := B7.out.size
  have XB7 := Lib.hid (XB5.out.on WR.out)
  have x0 := XB7.out.cell 0
  have x1 := XB7.out.cell 1
  have x2 := XB7.out.cell 2
  have x3 := XB7.out.cell 3
  go_wp2_with fail
  refine (XM.out _ WR.out).mono ?_
  rintro e w8 ⟨rfl, b8⟩
  have B8 := Lib.hid (B7.out.trans (b8.mono hs7))
  have hs8 : W.heap.size ≤ w8.heap.size := B8.out.size
  have S8 := Lib.hid (WR.out.trans (b8.mono WR.out.size))
  have XB8 := Lib.hid (XB7.out.on b8)
  clear b8 x0 x1 x2 x3 XB7 WR XA5 XB5
  rcases HE.out with ⟨hok, hlE, rfl, rfl, ho⟩ | ⟨hok, rfl, rfl⟩
  rotate_left
  · rw [hok]
    clear hok
    go_wp2_with fail
    refine (decC_any W.heap.size _ s w8 hs8 (HBY.out.below B8.out)).mono ?_
    rintro e wp ⟨bp, hp⟩
    have BP := Lib.hid (B8.out.trans (bp.mono hs8))
    have hsp : W.heap.size ≤ wp.heap.size := BP.out.size
    clear bp
    rcases hp with ⟨y, v', hd, rfl, Ap, cy, rfl, hvp⟩ | ⟨hd, rfl⟩
    · obtain ⟨_, hyk, _⟩ := dC_some.1 hd
      have HD := Lib.hid hd
      have HSL : Hid (y.log.length ≤ 64) := Lib.hid (by have := (Rc.ok_len hyk).1; omega)
      have HSE : Hid (∀ e ∈ y.log, e.ok = true) := Lib.hid (by obtain ⟨_, _, _, _, h9⟩ := Rc.ok_iff.1 hyk; exact h9)
      have bq : Below W.heap.size W (wp.alloc (.cells #[.int .i64 y.k, .int .i64 y.a, .int .i64 y.b, .slice Ap y.log.length cy] 44)) := BP.out.alloc hsp _
      have BQ := Lib.hid bq
      have MQ := Lib.hid (Blk.new wp 44 #[.int .i64 y.k, .int .i64 y.a, .int .i64 y.b, .slice Ap y.log.length cy])
      have EQ := Lib.hid ((OwnE.read hvp).on ((Below.refl wp.heap.size wp).alloc (Nat.le_refl _) (.cells #[.int .i64 y.k, .int .i64 y.a, .int .i64 y.b, .slice Ap y.log.length cy] 44)))
      have hsq : W.heap.size ≤ (wp.alloc (.cells #[.int .i64 y.k, .int .i64 y.a, .int .i64 y.b, .slice Ap y.log.length cy] 44)).heap.size := bq.size
      clear hd hyk bq hvp
      go_upto_region 16 with (fail)
      generalize wp.alloc _ = wq at *
      generalize wp.heap.size = qb at *
      go_wp2_with fail
      refine (parseC_any W.heap.size _ s wq hsq (HBY.out.below BQ.out) (by rw [← HN.out]; omega)).mono ?_
      rintro e wr ⟨br, x, Aq, cq, ok, rfl, oq, hq⟩
      obtain ⟨rfl, hx⟩ : ok = true ∧ y = x := by
        rcases hq with ⟨h, h'⟩ | ⟨_, h'⟩
        · rw [HD.out] at h'
          exact ⟨h, Option.some.inj h'⟩
        · rw [HD.out] at h'
          cases h'
      subst hx
      clear hq
      have MR := Lib.hid (MQ.out.on br)
      have ER := Lib.hid (EQ.out.on br)
      have BR := Lib.hid (BQ.out.trans (br.mono hsq))
      have hsr : W.heap.size ≤ wr.heap.size := BR.out.size
      have bs : Below W.heap.size W (wr.alloc (.cells #[.int .i64 y.k, .int .i64 y.a, .int .i64 y.b, .slice Aq y.log.length cq] 46)) := BR.out.alloc hsr _
      have BS := Lib.hid bs
      have MS := Lib.hid (MR.out.alloc (.cells #[.int .i64 y.k, .int .i64 y.a, .int .i64 y.b, .slice Aq y.log.length cq] 46))
      have XS := Lib.hid (Blk.new wr 46 #[.int .i64 y.k, .int .i64 y.a, .int .i64 y.b, .slice Aq y.log.length cq])
      have ES := Lib.hid (ER.out.on ((Below.refl wr.heap.size wr).alloc (Nat.le_refl _) (.cells #[.int .i64 y.k, .int .i64 y.a, .int .i64 y.b, .slice Aq y.log.length cq] 46)))
      have GS := Lib.hid ((OwnE.read oq).on ((Below.refl wr.heap.size wr).alloc (Nat.le_refl _) (.cells #[.int .i64 y.k, .int .i64 y.a, .int .i64 y.b, .slice Aq y.log.length cq] 46)))
      have hss : W.heap.size ≤ (wr.alloc (.cells #[.int .i64 y.k, .int .i64 y.a, .int .i64 y.b, .slice Aq y.log.length cq] 46)).heap.size := bs.size
      clear br oq bs MQ EQ MR ER
      go_upto_region 17 with (fail)
      generalize wr.alloc _ = ws at *
      generalize wr.heap.size = sb at *
      have x0 := MS.out.cell 0
      have x1 := MS.out.cell 1
      have x2 := MS.out.cell 2
      have x3 := MS.out.cell 3
      have y0 := XS.out.cell 0
      have y1 := XS.out.cell 1
      have y2 := XS.out.cell 2
      have y3 := XS.out.cell 3
      have LK := Lib.hid (likeRec_any y y _ _ ws (by have := HSL.out; omega) (fun e he => smallE_ok (HSE.out e he)) (fun e he => smallE_len (smallE_ok (HSE.out e he))) ES.out GS.out)
      go_wp2_with fail
      refine LK.out.mono ?_
      rintro e wt ⟨c, rfl, hc, bt⟩
      obtain rfl : c = true := hc.2 (by trivial)
      have BT := Lib.hid (BS.out.trans (bt.mono hss))
      clear hc bt
      go_wp2
      go_ret
      exact ⟨rfl, BT.out⟩
    · have HD := Lib.hid hd
      have bq : Below W.heap.size W (wp.alloc (.cells #[.int .i64 0, .int .i64 0, .int .i64 0, .slice none 0 0] 44)) := BP.out.alloc hsp _
      have BQ := Lib.hid bq
      have MQ := Lib.hid (Blk.new wp 44 #[.int .i64 0, .int .i64 0, .int .i64 0, .slice none 0 0])
      have hsq : W.heap.size ≤ (wp.alloc (.cells #[.int .i64 0, .int .i64 0, .int .i64 0, .slice none 0 0] 44)).heap.size := bq.size
      clear hd bq
      go_upto_region 16 with (fail)
      generalize wp.alloc _ = wq at *
      generalize wp.heap.size = qb at *
      go_wp2_with fail
      refine (parseC_any W.heap.size _ s wq hsq (HBY.out.below BQ.out) (by rw [← HN.out]; omega)).mono ?_
      rintro e wr ⟨br, x, Aq, cq, ok, rfl, oq, hq⟩
      obtain rfl : ok = false := by
        rcases hq with ⟨_, h'⟩ | ⟨h, _⟩
        · rw [HD.out] at h'
          cases h'
        · exact h
      clear hq oq
      have BR := Lib.hid (BQ.out.trans (br.mono hsq))
      have hsr : W.heap.size ≤ wr.heap.size := BR.out.size
      have BS := Lib.hid (BR.out.alloc hsr (.cells #[.int .i64 x.k, .int .i64 x.a, .int .i64 x.b, .slice Aq x.log.length cq] 46))
      have MS := Lib.hid ((MQ.out.on br).alloc (.cells #[.int .i64 x.k, .int .i64 x.a, .int .i64 x.b, .slice Aq x.log.length cq] 46))
      clear br MQ
      go_upto_region 17 with (fail)
      generalize wr.alloc _ = ws at *
      have x0 := MS.out.cell 0
      have x1 := MS.out.cell 1
      have x2 := MS.out.cell 2
      have x3 := MS.out.cell 3
      go_wp2
      go_ret
      exact ⟨rfl, BS.out⟩
  · rw [hok]
    have HOK := Lib.hid hok
    have HO := Lib.hid (own_on ho S8.out).bytes
    have D := Lib.hid (dC_some.2 ⟨hlE, hok, rfl⟩ : dC (eC m) = some m)
    clear ho hok hlE
    generalize hnb : (eC m).length = nb at *
    clear hnb
    go_wp2_with fail
    refine (decC_any w8.heap.size _ (eC m) w8 (Nat.le_refl _) HO.out).mono ?_
    rintro e w9 ⟨b9, h9⟩
    rcases h9 with ⟨m', v', hd', rfl, A9, c9, rfl, hv9⟩ | ⟨hd', _⟩
    rotate_left
    · rw [D.out] at hd'
      cases hd'
    obtain rfl : m = m' := by rw [D.out] at hd'; exact Option.some.inj hd'
    have b10 := b9.alloc b9.size (.cells #[.int .i64 m.k, .int .i64 m.a, .int .i64 m.b, .slice A9 m.log.length c9] 44)
    have B10 := Lib.hid (B8.out.trans (b10.mono hs8))
    have hs10 : W.heap.size ≤ (w9.alloc (.cells #[.int .i64 m.k, .int .i64 m.a, .int .i64 m.b, .slice A9 m.log.length c9] 44)).heap.size := B10.out.size
    have S10 := Lib.hid (S8.out.trans (b10.mono S8.out.size))
    have XB10 := Lib.hid (XB8.out.on b10)
    have XN10 := Lib.hid (Blk.new w9 44 #[.int .i64 m.k, .int .i64 m.a, .int .i64 m.b, .slice A9 m.log.length c9])
    have EN10 := Lib.hid ((OwnE.read hv9).on ((Below.refl w9.heap.size w9).alloc (Nat.le_refl _) (.cells #[.int .i64 m.k, .int .i64 m.a, .int .i64 m.b, .slice A9 m.log.length c9] 44)))
    have OX10 := Lib.hid (O5.out.on S10.out)
    have HO10 := Lib.hid ((HO.out.below b10).more b10.size)
    clear hd' hv9 b9 b10 XB8 O5 HO
    go_upto_region 11 with (fail)
    generalize w9.alloc _ = w10 at *
    generalize w9.heap.size = nbk at *
    obtain ⟨SA, hSA⟩ : ∃ S : ByteArray, S = ⟨(eC m).toArray⟩ := ⟨_, rfl⟩
    have HSA := Lib.hid hSA
    have f1 : (SA.toList == SA.toList) = true := beq_self_eq_true _
    clear hSA
    refine wp_region_held_drew (S := fun w' => Below w10.heap.size w10 w') (by kernel_rfl) (Below.drewN' (Below.refl _ w10) 1) (fun hHeld => ?_)
    refine take_d 0 44 (.int .i64 0) _ rfl rfl (by kernel_rfl) (by kernel_rfl) (by kernel_rfl) (fun _ _ _ h => h) (Or.inl ⟨by rfl, fun w' hSw => ?_⟩) hHeld ?_
    · go_simp
    simp only [List.setIfInBounds_toArray, List.set_cons_zero, List.set_cons_succ]
    refine take_d 1 45 (.bool false) _ rfl rfl (by kernel_rfl) (by kernel_rfl) (by kernel_rfl) (fun _ _ _ h => h) (Or.inl ⟨by rfl, fun w' hSw => ?_⟩) hHeld ?_
    · go_simp
    simp only [List.setIfInBounds_toArray, List.set_cons_zero, List.set_cons_succ]
    refine take_d 2 46 (.bool false) _ rfl rfl (by kernel_rfl) (by kernel_rfl) (by kernel_rfl) (fun _ _ _ h => h) (Or.inl ⟨by rfl, fun w' hSw => ?_⟩) hHeld ?_
    · go_simp
    simp only [List.setIfInBounds_toArray, List.set_cons_zero, List.set_cons_succ]
    refine take_d 3 47 (.slice A5 nb c5) _ rfl rfl (by kernel_rfl) (by kernel_rfl) (by kernel_rfl) (fun _ _ _ h => h) (Or.inl ⟨by rfl, fun w' hSw => ?_⟩) hHeld ?_
    · go_simp
    simp only [List.setIfInBounds_toArray, List.set_cons_zero, List.set_cons_succ]
    refine take_d 4 48 (.string SA) _ rfl rfl (by kernel_rfl) (by kernel_rfl) (by kernel_rfl) (fun _ _ _ h => h) (Or.inl ⟨by rfl, fun w' hSw => ?_⟩) hHeld ?_
    · have q := run_string_bytes (HO10.out.below hSw)
      rw [← HSA.out] at q
      go_simp
    simp only [List.setIfInBounds_toArray, List.set_cons_zero, List.set_cons_succ]
    refine take_d 5 49 (.agg #[.int .i64 m.k, .int .i64 m.a, .int .i64 m.b, .slice A3 m.log.length c3]) _ rfl rfl (by kernel_rfl) (by kernel_rfl) (by kernel_rfl) (fun _ _ _ h => h) (Or.inl ⟨by rfl, fun w' hSw => ?_⟩) hHeld ?_
    · have q0 := Blk.cell (XB10.out.on hSw) 0
      have q1 := Blk.cell (XB10.out.on hSw) 1
      have q2 := Blk.cell (XB10.out.on hSw) 2
      have q3 := Blk.cell (XB10.out.on hSw) 3
      go_simp
    simp only [List.setIfInBounds_toArray, List.set_cons_zero, List.set_cons_succ]
    refine wpAnyH_ready (rs := [6]) (by kernel_rfl) (by simp) ?_
    refine AllReadyH.cons rfl (fun K hK => ?_) AllReadyH.nil
    go_simp
    refine (xbytesC_any m _ _ HOK.out (OX10.out.on hHeld)).mono ?_
    rintro e w11 ⟨v11, rfl, o11, hB11⟩
    obtain ⟨A11, c11, rfl⟩ := one_slice o11
    have X11 := Lib.hid o11.bytes
    have hS11 := Below.trans hHeld (hB11.mono hHeld.size)
    refine hK.out _ _ hS11 (fun hHeld => ?_)
    clear hK K hB11 hS11 o11
    refine wpAnyH_ready (rs := [7]) (by kernel_rfl) (by simp) ?_
    refine AllReadyH.cons rfl (fun K hK => ?_) AllReadyH.nil
    have q := run_string_bytes X11.out
    rw [← HSA.out] at q
    go_simp
    refine hK.out _ _ hHeld (fun hHeld => ?_)
    clear hK K q
    refine take_d 8 52 (.bool false) _ rfl rfl (by kernel_rfl) (by kernel_rfl) (by kernel_rfl) (fun _ _ _ h => h) (Or.inl ⟨by rfl, fun w' hSw => ?_⟩) hHeld ?_
    · have q : (SA.toList == SA.toList) = true := f1
      go_simp
    simp only [List.setIfInBounds_toArray, List.set_cons_zero, List.set_cons_succ]
    refine take_d 9 53 (.bool false) _ rfl rfl (by kernel_rfl) (by kernel_rfl) (by kernel_rfl) (fun _ _ _ h => h) (Or.inl ⟨by rfl, fun w' hSw => ?_⟩) hHeld ?_
    · go_simp
    simp only [List.setIfInBounds_toArray, List.set_cons_zero, List.set_cons_succ]
    refine take_d 10 54 (.bool false) _ rfl rfl (by kernel_rfl) (by kernel_rfl) (by kernel_rfl) (fun _ _ _ h => h) (Or.inl ⟨by rfl, fun w' hSw => ?_⟩) hHeld ?_
    · go_simp
    simp only [List.setIfInBounds_toArray, List.set_cons_zero, List.set_cons_succ]
    refine take_d 11 55 (.int .i64 0) _ rfl rfl (by kernel_rfl) (by kernel_rfl) (by kernel_rfl) (fun _ _ _ h => h) (Or.inl ⟨by rfl, fun w' hSw => ?_⟩) hHeld ?_
    · go_simp
    simp only [List.setIfInBounds_toArray, List.set_cons_zero, List.set_cons_succ]
    refine take_d 12 56 (.bool false) _ rfl rfl (by kernel_rfl) (by kernel_rfl) (by kernel_rfl) (fun _ _ _ h => h) (Or.inl ⟨by rfl, fun w' hSw => ?_⟩) hHeld ?_
    · go_simp
    simp only [List.setIfInBounds_toArray, List.set_cons_zero, List.set_cons_succ]
    refine take_d 13 57 (.bool false) _ rfl rfl (by kernel_rfl) (by kernel_rfl) (by kernel_rfl) (fun _ _ _ h => h) (Or.inl ⟨by rfl, fun w' hSw => ?_⟩) hHeld ?_
    · go_simp
    simp only [List.setIfInBounds_toArray, List.set_cons_zero, List.set_cons_succ]
    refine take_d 14 58 (.bool false) _ rfl rfl (by kernel_rfl) (by kernel_rfl) (by kernel_rfl) (fun _ _ _ h => h) (Or.inl ⟨by rfl, fun w' hSw => ?_⟩) hHeld ?_
    · go_simp
    simp only [List.setIfInBounds_toArray, List.set_cons_zero, List.set_cons_succ]
    refine take_d 15 59 (.agg #[.int .i64 m.k, .int .i64 m.a, .int .i64 m.b, .slice A9 m.log.length c9]) _ rfl rfl (by kernel_rfl) (by kernel_rfl) (by kernel_rfl) (fun _ _ _ h => h) (Or.inl ⟨by rfl, fun w' hSw => ?_⟩) hHeld ?_
    · have q0 := Blk.cell (XN10.out.on hSw) 0
      have q1 := Blk.cell (XN10.out.on hSw) 1
      have q2 := Blk.cell (XN10.out.on hSw) 2
      have q3 := Blk.cell (XN10.out.on hSw) 3
      go_simp
    simp only [List.setIfInBounds_toArray, List.set_cons_zero, List.set_cons_succ]
    refine take_d 16 60 (.agg #[.int .i64 m.k, .int .i64 m.a, .int .i64 m.b, .slice A3 m.log.length c3]) _ rfl rfl (by kernel_rfl) (by kernel_rfl) (by kernel_rfl) (fun _ _ _ h => h) (Or.inl ⟨by rfl, fun w' hSw => ?_⟩) hHeld ?_
    · have q0 := Blk.cell (XB10.out.on hSw) 0
      have q1 := Blk.cell (XB10.out.on hSw) 1
      have q2 := Blk.cell (XB10.out.on hSw) 2
      have q3 := Blk.cell (XB10.out.on hSw) 3
      go_simp
    simp only [List.setIfInBounds_toArray, List.set_cons_zero, List.set_cons_succ]
    refine wpAnyH_ready (rs := [17]) (by kernel_rfl) (by simp) ?_
    refine AllReadyH.cons rfl (fun K hK => ?_) AllReadyH.nil
    go_simp
    refine (likeRec_any m m _ _ _ HSa.out.2 HSa.out.1 (fun e he => smallE_len (HSa.out.1 e he)) (EN10.out.on hHeld) (OX10.out.on hHeld)).mono ?_
    rintro e w12 ⟨c, rfl, hc, hB12⟩
    obtain rfl : c = true := hc.2 (by trivial)
    have hS12 := Below.trans hHeld (hB12.mono hHeld.size)
    refine hK.out _ _ hS12 (fun hHeld => ?_)
    clear hK K hB12 hS12 hc
    refine take_d 18 62 (.bool false) _ rfl rfl (by kernel_rfl) (by kernel_rfl) (by kernel_rfl) (fun _ _ _ h => h) (Or.inl ⟨by rfl, fun w' hSw => ?_⟩) hHeld ?_
    · go_simp
    simp only [List.setIfInBounds_toArray, List.set_cons_zero, List.set_cons_succ]
    refine take_d 19 63 (.bool false) _ rfl rfl (by kernel_rfl) (by kernel_rfl) (by kernel_rfl) (fun _ _ _ h => h) (Or.inl ⟨by rfl, fun w' hSw => ?_⟩) hHeld ?_
    · go_simp
    simp only [List.setIfInBounds_toArray, List.set_cons_zero, List.set_cons_succ]
    refine wpAnyH_done (by kernel_rfl) ?_ _
    have WT := Lib.hid hHeld
    clear hHeld
    have B12 := Lib.hid (B10.out.trans (WT.out.mono hs10))
    have hs12 : W.heap.size ≤ w12.heap.size := B12.out.size
    clear WT
    go_wp2_with fail
    refine (decC_any W.heap.size _ s w12 hs12 (HBY.out.below B12.out)).mono ?_
    rintro e wp ⟨bp, hp⟩
    have BP := Lib.hid (B12.out.trans (bp.mono hs12))
    have hsp : W.heap.size ≤ wp.heap.size := BP.out.size
    clear bp
    rcases hp with ⟨y, v', hd, rfl, Ap, cy, rfl, hvp⟩ | ⟨hd, rfl⟩
    · obtain ⟨_, hyk, _⟩ := dC_some.1 hd
      have HD := Lib.hid hd
      have HSL : Hid (y.log.length ≤ 64) := Lib.hid (by have := (Rc.ok_len hyk).1; omega)
      have HSE : Hid (∀ e ∈ y.log, e.ok = true) := Lib.hid (by obtain ⟨_, _, _, _, h9⟩ := Rc.ok_iff.1 hyk; exact h9)
      have bq : Below W.heap.size W (wp.alloc (.cells #[.int .i64 y.k, .int .i64 y.a, .int .i64 y.b, .slice Ap y.log.length cy] 44)) := BP.out.alloc hsp _
      have BQ := Lib.hid bq
      have MQ := Lib.hid (Blk.new wp 44 #[.int .i64 y.k, .int .i64 y.a, .int .i64 y.b, .slice Ap y.log.length cy])
      have EQ := Lib.hid ((OwnE.read hvp).on ((Below.refl wp.heap.size wp).alloc (Nat.le_refl _) (.cells #[.int .i64 y.k, .int .i64 y.a, .int .i64 y.b, .slice Ap y.log.length cy] 44)))
      have hsq : W.heap.size ≤ (wp.alloc (.cells #[.int .i64 y.k, .int .i64 y.a, .int .i64 y.b, .slice Ap y.log.length cy] 44)).heap.size := bq.size
      clear hd hyk bq hvp
      go_upto_region 16 with (fail)
      generalize wp.alloc _ = wq at *
      generalize wp.heap.size = qb at *
      go_wp2_with fail
      refine (parseC_any W.heap.size _ s wq hsq (HBY.out.below BQ.out) (by rw [← HN.out]; omega)).mono ?_
      rintro e wr ⟨br, x, Aq, cq, ok, rfl, oq, hq⟩
      obtain ⟨rfl, hx⟩ : ok = true ∧ y = x := by
        rcases hq with ⟨h, h'⟩ | ⟨_, h'⟩
        · rw [HD.out] at h'
          exact ⟨h, Option.some.inj h'⟩
        · rw [HD.out] at h'
          cases h'
      subst hx
      clear hq
      have MR := Lib.hid (MQ.out.on br)
      have ER := Lib.hid (EQ.out.on br)
      have BR := Lib.hid (BQ.out.trans (br.mono hsq))
      have hsr : W.heap.size ≤ wr.heap.size := BR.out.size
      have bs : Below W.heap.size W (wr.alloc (.cells #[.int .i64 y.k, .int .i64 y.a, .int .i64 y.b, .slice Aq y.log.length cq] 46)) := BR.out.alloc hsr _
      have BS := Lib.hid bs
      have MS := Lib.hid (MR.out.alloc (.cells #[.int .i64 y.k, .int .i64 y.a, .int .i64 y.b, .slice Aq y.log.length cq] 46))
      have XS := Lib.hid (Blk.new wr 46 #[.int .i64 y.k, .int .i64 y.a, .int .i64 y.b, .slice Aq y.log.length cq])
      have ES := Lib.hid (ER.out.on ((Below.refl wr.heap.size wr).alloc (Nat.le_refl _) (.cells #[.int .i64 y.k, .int .i64 y.a, .int .i64 y.b, .slice Aq y.log.length cq] 46)))
      have GS := Lib.hid ((OwnE.read oq).on ((Below.refl wr.heap.size wr).alloc (Nat.le_refl _) (.cells #[.int .i64 y.k, .int .i64 y.a, .int .i64 y.b, .slice Aq y.log.length cq] 46)))
      have hss : W.heap.size ≤ (wr.alloc (.cells #[.int .i64 y.k, .int .i64 y.a, .int .i64 y.b, .slice Aq y.log.length cq] 46)).heap.size := bs.size
      clear br oq bs MQ EQ MR ER
      go_upto_region 17 with (fail)
      generalize wr.alloc _ = ws at *
      generalize wr.heap.size = sb at *
      have x0 := MS.out.cell 0
      have x1 := MS.out.cell 1
      have x2 := MS.out.cell 2
      have x3 := MS.out.cell 3
      have y0 := XS.out.cell 0
      have y1 := XS.out.cell 1
      have y2 := XS.out.cell 2
      have y3 := XS.out.cell 3
      have LK := Lib.hid (likeRec_any y y _ _ ws (by have := HSL.out; omega) (fun e he => smallE_ok (HSE.out e he)) (fun e he => smallE_len (smallE_ok (HSE.out e he))) ES.out GS.out)
      go_wp2_with fail
      refine LK.out.mono ?_
      rintro e wt ⟨c, rfl, hc, bt⟩
      obtain rfl : c = true := hc.2 (by trivial)
      have BT := Lib.hid (BS.out.trans (bt.mono hss))
      clear hc bt
      go_wp2
      go_ret
      exact ⟨rfl, BT.out⟩
    · have HD := Lib.hid hd
      have bq : Below W.heap.size W (wp.alloc (.cells #[.int .i64 0, .int .i64 0, .int .i64 0, .slice none 0 0] 44)) := BP.out.alloc hsp _
      have BQ := Lib.hid bq
      have MQ := Lib.hid (Blk.new wp 44 #[.int .i64 0, .int .i64 0, .int .i64 0, .slice none 0 0])
      have hsq : W.heap.size ≤ (wp.alloc (.cells #[.int .i64 0, .int .i64 0, .int .i64 0, .slice none 0 0] 44)).heap.size := bq.size
      clear hd bq
      go_upto_region 16 with (fail)
      generalize wp.alloc _ = wq at *
      generalize wp.heap.size = qb at *
      go_wp2_with fail
      refine (parseC_any W.heap.size _ s wq hsq (HBY.out.below BQ.out) (by rw [← HN.out]; omega)).mono ?_
      rintro e wr ⟨br, x, Aq, cq, ok, rfl, oq, hq⟩
      obtain rfl : ok = false := by
        rcases hq with ⟨_, h'⟩ | ⟨h, _⟩
        · rw [HD.out] at h'
          cases h'
        · exact h
      clear hq oq
      have BR := Lib.hid (BQ.out.trans (br.mono hsq))
      have hsr : W.heap.size ≤ wr.heap.size := BR.out.size
      have BS := Lib.hid (BR.out.alloc hsr (.cells #[.int .i64 x.k, .int .i64 x.a, .int .i64 x.b, .slice Aq x.log.length cq] 46))
      have MS := Lib.hid ((MQ.out.on br).alloc (.cells #[.int .i64 x.k, .int .i64 x.a, .int .i64 x.b, .slice Aq x.log.length cq] 46))
      clear br MQ
      go_upto_region 17 with (fail)
      generalize wr.alloc _ = ws at *
      have x0 := MS.out.cell 0
      have x1 := MS.out.cell 1
      have x2 := MS.out.cell 2
      have x3 := MS.out.cell 3
      go_wp2
      go_ret
      exact ⟨rfl, BS.out⟩
end Go.Proofs.Ytiheeafmplccoaa
