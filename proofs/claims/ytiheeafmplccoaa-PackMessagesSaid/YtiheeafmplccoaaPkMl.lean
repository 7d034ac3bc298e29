/- PackMessages: the law's walk. -/
import Derived.Test.YtiheeafmplccoaaPkT
import Derived.Test.YtiheeafmplccoaaPkLa
import Derived.Test.YtiheeafmplccoaaPkXa
import Derived.Test.YtiheeafmplccoaaPkBc
namespace Go.Proofs.Ytiheeafmplccoaa
open Go.RowKit
variable {w w' : World}

set_option maxRecDepth 100000 in
set_option maxHeartbeats 16000000 in
theorem packMessages_law (m : Ms) (ca : Value) (W : World) (hVa : EntsV W.heap.size W ca m.log) (hma : m.log.length ≤ 9223372036854775807) :
    Calls Try.prog 3 #[m.val ca] W fun e w' => e = .returned (.bool true) ∧ Below W.heap.size W w' := by
  obtain ⟨A, cp, rfl⟩ := hVa.form
  have B0 := Lib.hid (show Below W.heap.size W (W.alloc (.cells #[.int .i64 m.k, .int .i64 m.vi, .int .i64 m.fr, .int .i64 m.to, .int .i64 m.op, .int .i64 m.co, .int .i64 m.no, .slice A m.log.length cp] 24)) from ((Below.refl _ _).alloc (Nat.le_refl _) _))
  have XA := Lib.hid (show Blk (W.alloc (.cells #[.int .i64 m.k, .int .i64 m.vi, .int .i64 m.fr, .int .i64 m.to, .int .i64 m.op, .int .i64 m.co, .int .i64 m.no, .slice A m.log.length cp] 24)) W.heap.size 24 #[.int .i64 m.k, .int .i64 m.vi, .int .i64 m.fr, .int .i64 m.to, .int .i64 m.op, .int .i64 m.co, .int .i64 m.no, .slice A m.log.length cp] from (Blk.new _ _ _))
  have HVA := Lib.hid hVa
  have HMA := Lib.hid hma
  have hs0 : W.heap.size ≤ (W.alloc (.cells #[.int .i64 m.k, .int .i64 m.vi, .int .i64 m.fr, .int .i64 m.to, .int .i64 m.op, .int .i64 m.co, .int .i64 m.no, .slice A m.log.length cp] 24)).heap.size := by simp
  clear hVa hma
  go_enter Try.func3, Try.ntmps3
  go_upto_region 1 with (fail)
  generalize W.alloc _ = w0 at *
  go_wp2_with fail
  refine (anchor11_any _).mono ?_
  rintro e w1 ⟨rfl, b1⟩
  have B1 := Lib.hid (B0.out.trans (b1.mono hs0))
  have XA1 := Lib.hid (XA.out.on b1)
  have hs1 : W.heap.size ≤ w1.heap.size := B1.out.size
  have x7 := XA1.out.cell 7
  clear b1 XA
  go_wp2_with fail
  refine (small_any _ m.log w1 HMA.out ((HVA.out.below B1.out).more hs1)).mono ?_
  rintro e w2 ⟨rfl, b2⟩
  have B2 := Lib.hid (B1.out.trans (b2.mono hs1))
  have XA2 := Lib.hid (XA1.out.on b2)
  have hs2 : W.heap.size ≤ w2.heap.size := B2.out.size
  clear b2 x7 XA1
  cases hsa : smallL m.log
  · go_wp2
    go_ret
    exact ⟨rfl, B2.out⟩
  have HSa := Lib.hid (smallL_iff.1 hsa)
  clear hsa
  have x0 := XA2.out.cell 0
  have x1 := XA2.out.cell 1
  have x2 := XA2.out.cell 2
  have x3 := XA2.out.cell 3
  have x4 := XA2.out.cell 4
  have x5 := XA2.out.cell 5
  have x6 := XA2.out.cell 6
  have x7 := XA2.out.cell 7
  go_wp2_with fail
  refine (madeMsg_any W.heap.size m _ w2 hs2 HSa.out.2 HSa.out.1 (HVA.out.below B2.out)).mono ?_
  rintro e w3 ⟨V3, rfl, ⟨A3, c3, rfl, o3⟩, b3⟩
  have B3 := Lib.hid (B2.out.trans (b3.mono hs2))
  have XA3 := Lib.hid (XA2.out.on b3)
  have hs3 : W.heap.size ≤ w3.heap.size := B3.out.size
  have O3 := Lib.hid (o3.read hs3)
  clear b3 XA2 o3 x0 x1 x2 x3 x4 x5 x6 x7
  go_upto_region 6 with (fail)
  have b4 : Below W.heap.size W (w3.alloc (.cells #[.int .i64 m.k, .int .i64 m.vi, .int .i64 m.fr, .int .i64 m.to, .int .i64 m.op, .int .i64 m.co, .int .i64 m.no, .slice A3 m.log.length c3] 29)) := B3.out.alloc hs3 _
  have B4 := Lib.hid b4
  have XA4 := Lib.hid (XA3.out.alloc (.cells #[.int .i64 m.k, .int .i64 m.vi, .int .i64 m.fr, .int .i64 m.to, .int .i64 m.op, .int .i64 m.co, .int .i64 m.no, .slice A3 m.log.length c3] 29))
  have XB4 := Lib.hid (Blk.new w3 29 #[.int .i64 m.k, .int .i64 m.vi, .int .i64 m.fr, .int .i64 m.to, .int .i64 m.op, .int .i64 m.co, .int .i64 m.no, .slice A3 m.log.length c3])
  have O4 := Lib.hid (O3.out.on ((Below.refl w3.heap.size w3).alloc (Nat.le_refl _) (.cells #[.int .i64 m.k, .int .i64 m.vi, .int .i64 m.fr, .int .i64 m.to, .int .i64 m.op, .int .i64 m.co, .int .i64 m.no, .slice A3 m.log.length c3] 29)))
  have hs4 : W.heap.size ≤ (w3.alloc (.cells #[.int .i64 m.k, .int .i64 m.vi, .int .i64 m.fr, .int .i64 m.to, .int .i64 m.op, .int .i64 m.co, .int .i64 m.no, .slice A3 m.log.length c3] 29)).heap.size := b4.size
  clear b4 XA3 O3 B3
  generalize w3.alloc _ = w4 at *
  generalize w3.heap.size = bx at *
  have x0 := XA4.out.cell 0
  have x1 := XA4.out.cell 1
  have x2 := XA4.out.cell 2
  have x3 := XA4.out.cell 3
  have x4 := XA4.out.cell 4
  have x5 := XA4.out.cell 5
  have x6 := XA4.out.cell 6
  have x7 := XA4.out.cell 7
  have HE := Lib.hid (encM_any m _ w4 ((HVA.out.below B4.out).more hs4))
  go_wp2_with fail
  refine HE.out.mono ?_
  intro e w5 he
  obtain ⟨b5, he⟩ := he.cases
  have B5 := Lib.hid (B4.out.trans (b5.mono hs4))
  have XA5 := Lib.hid (XA4.out.on b5)
  have XB5 := Lib.hid (XB4.out.on b5)
  have O5 := Lib.hid (O4.out.on b5)
  have hs5 : W.heap.size ≤ w5.heap.size := B5.out.size
  have H45 := Lib.hid b5.size
  clear b5 XA4 XB4 O4 HE x0 x1 x2 x3 x4 x5 x6 x7
  have hf : ∃ A5 n5 c5 f5, e = .returned (.tuple #[.slice A5 n5 c5, .int .i64 f5]) ∧ ((m.ok = true ∧ (eM m).length ≤ 65536 ∧ f5 = 0 ∧ n5 = (eM m).length ∧ Own w5 w4.heap.size (.slice A5 n5 c5) (eM m)) ∨ (m.ok = false ∧ f5 = 10 ∧ n5 = 0) ∨ (m.ok = true ∧ 65536 < (eM m).length ∧ f5 = 12 ∧ n5 = 0)) := by
    rcases he with ⟨hok, hl, A5, c5, rfl, ho⟩ | ⟨hok, rfl⟩ | ⟨hok, hl, rfl⟩
    · exact ⟨_, _, _, _, rfl, .inl ⟨hok, hl, rfl, rfl, ho⟩⟩
    · exact ⟨_, _, _, _, rfl, .inr (.inl ⟨hok, rfl, rfl⟩)⟩
    · exact ⟨_, _, _, _, rfl, .inr (.inr ⟨hok, hl, rfl, rfl⟩)⟩
  clear he
  obtain ⟨A5, n5, c5, f5, rfl, hf⟩ := hf
  have HE := Lib.hid hf
  clear hf
  have PM := Lib.hid fun w6 (h6 : Below w5.heap.size w5 w6) => pmsg_any m (.slice A m.log.length cp) w6 ((HVA.out.below (B5.out.trans (h6.mono hs5))).more (Nat.le_trans hs5 h6.size))
  have XM := Lib.hid fun w6 (h6 : Below w5.heap.size w5 w6) => xmsg_any m (.slice A3 m.log.length c3) w6 HMA.out (O5.out.on h6)
  go_wp2_with fail
  refine wp_region_held_drew (S := fun w' => Below w5.heap.size w5 w') (by kernel_rfl) (Below.drewN' (Below.refl _ w5) 1) (fun hHeld => ?_)
  refine take_d 0 22 (.agg #[.int .i64 m.k, .int .i64 m.vi, .int .i64 m.fr, .int .i64 m.to, .int .i64 m.op, .int .i64 m.co, .int .i64 m.no, .slice A m.log.length cp]) _ rfl rfl (by kernel_rfl) (by kernel_rfl) (by kernel_rfl) (fun _ _ _ h => h) (Or.inl ⟨by rfl, fun w' hSw => ?_⟩) hHeld ?_
  · have q0 := Blk.cell (XA5.out.on hSw) 0
    have q1 := Blk.cell (XA5.out.on hSw) 1
    have q2 := Blk.cell (XA5.out.on hSw) 2
    have q3 := Blk.cell (XA5.out.on hSw) 3
    have q4 := Blk.cell (XA5.out.on hSw) 4
    have q5 := Blk.cell (XA5.out.on hSw) 5
    have q6 := Blk.cell (XA5.out.on hSw) 6
    have q7 := Blk.cell (XA5.out.on hSw) 7
    go_simp
  simp only [List.setIfInBounds_toArray, List.set_cons_zero, List.set_cons_succ]
  refine take_d 2 24 (.agg #[.int .i64 m.k, .int .i64 m.vi, .int .i64 m.fr, .int .i64 m.to, .int .i64 m.op, .int .i64 m.co, .int .i64 m.no, .slice A3 m.log.length c3]) _ rfl rfl (by kernel_rfl) (by kernel_rfl) (by kernel_rfl) (fun _ _ _ h => h) (Or.inl ⟨by rfl, fun w' hSw => ?_⟩) hHeld ?_
  · have q0 := Blk.cell (XB5.out.on hSw) 0
    have q1 := Blk.cell (XB5.out.on hSw) 1
    have q2 := Blk.cell (XB5.out.on hSw) 2
    have q3 := Blk.cell (XB5.out.on hSw) 3
    have q4 := Blk.cell (XB5.out.on hSw) 4
    have q5 := Blk.cell (XB5.out.on hSw) 5
    have q6 := Blk.cell (XB5.out.on hSw) 6
    have q7 := Blk.cell (XB5.out.on hSw) 7
    go_simp
  simp only [List.setIfInBounds_toArray, List.set_cons_zero, List.set_cons_succ]
  refine wpAnyH_ready (rs := [1]) (by kernel_rfl) (by simp) ?_
  refine AllReadyH.cons rfl (fun K hK => ?_) AllReadyH.nil
  go_simp
  refine (PM.out _ hHeld).mono ?_
  rintro e w6 ⟨rfl, hB6⟩
  have hS6 := Below.trans hHeld (hB6.mono hHeld.size)
  refine hK.out _ _ hS6 (fun hHeld => ?_)
  clear hK K hB6 hS6
  refine wpAnyH_ready (rs := [3]) (by kernel_rfl) (by simp) ?_
  refine AllReadyH.cons rfl (fun K hK => ?_) AllReadyH.nil
  go_simp
  refine (XM.out _ hHeld).mono ?_
  rintro e w7 ⟨rfl, hB7⟩
  have hS7 := Below.trans hHeld (hB7.mono hHeld.size)
  refine hK.out _ _ hS7 (fun hHeld => ?_)
  clear hK K hB7 hS7
  refine take_d 4 26 (.bool false) _ rfl rfl (by kernel_rfl) (by kernel_rfl) (by kernel_rfl) (fun _ _ _ h => h) (Or.inl ⟨by rfl, fun w' hSw => ?_⟩) hHeld ?_
  · have q : (m.ok != m.ok) = false := by simp
    go_simp
  simp only [List.setIfInBounds_toArray, List.set_cons_zero, List.set_cons_succ]
  refine wpAnyH_done (by kernel_rfl) ?_ _
  have WR := Lib.hid hHeld
  clear hHeld
  generalize w7 = wr at *
  have B7 := Lib.hid (B5.out.trans (WR.out.mono hs5))
  have hs7 : W.heap.size ≤ wr.heap.size := B7.out.size
  have XA7 := Lib.hid (XA5.out.on WR.out)
  have XB7 := Lib.hid (XB5.out.on WR.out)
  have x0 := XB7.out.cell 0
  have x1 := XB7.out.cell 1
  have x2 := XB7.out.cell 2
  have x3 := XB7.out.cell 3
  have x4 := XB7.out.cell 4
  have x5 := XB7.out.cell 5
  have x6 := XB7.out.cell 6
  have x7 := XB7.out.cell 7
  go_wp2_with fail
  refine (XM.out _ WR.out).mono ?_
  rintro e w8 ⟨rfl, b8⟩
  have B8 := Lib.hid (B7.out.trans (b8.mono hs7))
  have hs8 : W.heap.size ≤ w8.heap.size := B8.out.size
  have S8 := Lib.hid (WR.out.trans (b8.mono WR.out.size))
  have XB8 := Lib.hid (XB7.out.on b8)
  clear b8 x0 x1 x2 x3 x4 x5 x6 x7 XA7 XB7 WR
  rcases HE.out with ⟨hok, hl, rfl, rfl, ho⟩ | ⟨hok, rfl, rfl⟩ | ⟨hok, hl, rfl, rfl⟩
  rotate_left
  · rw [hok]
    clear hok
    go_wp2
    go_ret
    exact ⟨rfl, B8.out⟩
  · rw [hok]
    have HOK := Lib.hid hok
    have HL := Lib.hid hl
    clear hok hl
    have x0 := XB8.out.cell 0
    have x1 := XB8.out.cell 1
    have x2 := XB8.out.cell 2
    have x3 := XB8.out.cell 3
    have x4 := XB8.out.cell 4
    have x5 := XB8.out.cell 5
    have x6 := XB8.out.cell 6
    have x7 := XB8.out.cell 7
    go_wp2_with fail
    refine (xbytesM_any m _ w8 HOK.out (O5.out.on S8.out)).mono ?_
    rintro e w9 ⟨v9, rfl, o9, b9⟩
    obtain ⟨A9, c9, rfl⟩ := one_slice o9
    have B9 := Lib.hid (B8.out.trans (b9.mono hs8))
    have hs9 : W.heap.size ≤ w9.heap.size := B9.out.size
    have S9 := Lib.hid (S8.out.trans (b9.mono S8.out.size))
    have XB9 := Lib.hid (XB8.out.on b9)
    have O9 := Lib.hid o9.bytes
    clear b9 o9 x0 x1 x2 x3 x4 x5 x6 x7 XB8
    generalize hnb : (eM m).length = nb at *
    have HNB := Lib.hid hnb
    clear hnb
    have hgt : (65536 : Int) < (nb : Int) := by have := HL.out; omega
    go_wp2
    go_ret
    exact ⟨rfl, B9.out⟩
  · have HO := Lib.hid ho
    clear ho
    rw [hok]
    have HOK := Lib.hid hok
    have HL := Lib.hid hl
    clear hok hl
    have x0 := XB8.out.cell 0
    have x1 := XB8.out.cell 1
    have x2 := XB8.out.cell 2
    have x3 := XB8.out.cell 3
    have x4 := XB8.out.cell 4
    have x5 := XB8.out.cell 5
    have x6 := XB8.out.cell 6
    have x7 := XB8.out.cell 7
    go_wp2_with fail
    refine (xbytesM_any m _ w8 HOK.out (O5.out.on S8.out)).mono ?_
    rintro e w9 ⟨v9, rfl, o9, b9⟩
    obtain ⟨A9, c9, rfl⟩ := one_slice o9
    have B9 := Lib.hid (B8.out.trans (b9.mono hs8))
    have hs9 : W.heap.size ≤ w9.heap.size := B9.out.size
    have S9 := Lib.hid (S8.out.trans (b9.mono S8.out.size))
    have XB9 := Lib.hid (XB8.out.on b9)
    have O9 := Lib.hid o9.bytes
    clear b9 o9 x0 x1 x2 x3 x4 x5 x6 x7 XB8
    generalize hnb : (eM m).length = nb at *
    have HNB := Lib.hid hnb
    clear hnb
    have hgt : ¬ (65536 : Int) < (nb : Int) := by have := HL.out; omega
    have D := Lib.hid (dM_some.2 ⟨by rw [HNB.out]; exact HL.out, HOK.out, rfl⟩ : dM (eM m) = some m)
    have X5 := Lib.hid (own_on HO.out S9.out).bytes
    go_wp2_with fail
    refine (decM_any w9.heap.size _ (eM m) w9 (Nat.le_refl _) X5.out).mono ?_
    rintro e w10 ⟨b10, h10⟩
    rcases h10 with ⟨m', v', hd', rfl, A10, c10, rfl, hv10⟩ | ⟨hd', _⟩
    rotate_left
    · rw [D.out] at hd'
      cases hd'
    obtain rfl : m = m' := by rw [D.out] at hd'; exact Option.some.inj hd'
    have HV10 := Lib.hid hv10
    have B10 := Lib.hid (B9.out.trans (b10.mono hs9))
    have hs10 : W.heap.size ≤ w10.heap.size := B10.out.size
    have T10 := Lib.hid b10
    have XB10 := Lib.hid (XB9.out.on b10)
    have X10 := Lib.hid (X5.out.below b10)
    have Y10 := Lib.hid (O9.out.below b10)
    clear hd' hv10 b10 XB9 X5 O9
    go_upto_region 15 with (fail)
    have BN := Lib.hid (Blk.new w10 24 #[.int .i64 m.k, .int .i64 m.vi, .int .i64 m.fr, .int .i64 m.to, .int .i64 m.op, .int .i64 m.co, .int .i64 m.no, .slice A10 m.log.length c10])
    have b11 : Below w10.heap.size w10 (w10.alloc (.cells #[.int .i64 m.k, .int .i64 m.vi, .int .i64 m.fr, .int .i64 m.to, .int .i64 m.op, .int .i64 m.co, .int .i64 m.no, .slice A10 m.log.length c10] 24)) := (Below.refl _ _).alloc (Nat.le_refl _) _
    have B11 := Lib.hid (B10.out.trans (b11.mono hs10))
    have XB11 := Lib.hid (XB10.out.on b11)
    have HV11 := Lib.hid ((OwnE.read HV10.out).on b11)
    have S11 := Lib.hid (T10.out.trans (b11.mono T10.out.size))
    have OX11 := Lib.hid ((O5.out.on S9.out).on S11.out)
    have q1 := run_string_bytes (X10.out.below (b11.mono T10.out.size))
    have q2 := run_string_bytes (Y10.out.below (b11.mono T10.out.size))
    obtain ⟨SA, hSA⟩ : ∃ S : ByteArray, S = ⟨(eM m).toArray⟩ := ⟨_, rfl⟩
    rw [← hSA] at q1 q2
    have hs11 : W.heap.size ≤ (w10.alloc (.cells #[.int .i64 m.k, .int .i64 m.vi, .int .i64 m.fr, .int .i64 m.to, .int .i64 m.op, .int .i64 m.co, .int .i64 m.no, .slice A10 m.log.length c10] 24)).heap.size := B11.out.size
    have f1 : (SA.toList == SA.toList) = true := beq_self_eq_true _
    clear b11 XB10 HV10 X10 Y10 O5 hSA T10
    generalize w10.alloc _ = w11 at *
    generalize w10.heap.size = by_ at *
    have x0 := XB11.out.cell 0
    have x1 := XB11.out.cell 1
    have x2 := XB11.out.cell 2
    have x3 := XB11.out.cell 3
    have x4 := XB11.out.cell 4
    have x5 := XB11.out.cell 5
    have x6 := XB11.out.cell 6
    have x7 := XB11.out.cell 7
    have y0 := BN.out.cell 0
    have y1 := BN.out.cell 1
    have y2 := BN.out.cell 2
    have y3 := BN.out.cell 3
    have y4 := BN.out.cell 4
    have y5 := BN.out.cell 5
    have y6 := BN.out.cell 6
    have y7 := BN.out.cell 7
    have LK := Lib.hid (likeMsg_any m m _ _ w11 HSa.out.2 HSa.out.1 (fun e he => smallE_len (HSa.out.1 e he)) HV11.out OX11.out)
    go_wp2_with fail
    refine LK.out.mono ?_
    rintro e w12 ⟨c, rfl, hc, b12⟩
    obtain rfl : c = true := hc.2 (by trivial)
    have B12 := Lib.hid (B11.out.trans (b12.mono hs11))
    clear hc b12
    go_wp2
    go_ret
    exact ⟨rfl, B12.out⟩
end Go.Proofs.Ytiheeafmplccoaa
