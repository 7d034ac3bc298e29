/- PackSame: the law's walk. -/
import Derived.Test.YtiheeafmplccoaaPkY
import Derived.Test.YtiheeafmplccoaaPkX
import Derived.Test.YtiheeafmplccoaaPkLa
namespace Go.Proofs.Ytiheeafmplccoaa
open Go.RowKit
variable {w w' : World}

abbrev mk5 (l : List En) : Ms := ⟨5, 0, 0, 0, 0, 0, 0, l⟩
theorem ev_one (r : En) (Ap Ad : Option Addr) (cp cd : Nat) (w : World) (hp : RulesV w.heap.size w (.slice Ap r.d.put.length cp) r.d.put) (hd : Row w.heap.size w (.slice Ad r.d.drop.length cd) (zI r.d.drop)) :
    EntsV (w.alloc (.cells #[.int .i64 r.vi, .int .i64 r.cl, .int .i64 r.re, .int .i64 r.d.de, .int .i64 r.d.cl, .int .i64 r.d.fu, .int .i64 r.d.st, .slice Ap r.d.put.length cp, .slice Ad r.d.drop.length cd] 63)).heap.size (w.alloc (.cells #[.int .i64 r.vi, .int .i64 r.cl, .int .i64 r.re, .int .i64 r.d.de, .int .i64 r.d.cl, .int .i64 r.d.fu, .int .i64 r.d.st, .slice Ap r.d.put.length cp, .slice Ad r.d.drop.length cd] 63)) (.slice (some ⟨w.heap.size, 0, none⟩) 1 1) [r] := by
  have hb := (Below.refl w.heap.size w).alloc (Nat.le_refl _) (.cells #[.int .i64 r.vi, .int .i64 r.cl, .int .i64 r.re, .int .i64 r.d.de, .int .i64 r.d.cl, .int .i64 r.d.fu, .int .i64 r.d.st, .slice Ap r.d.put.length cp, .slice Ad r.d.drop.length cd] 63)
  have hx := Blk.new w 63 #[.int .i64 r.vi, .int .i64 r.cl, .int .i64 r.re, .int .i64 r.d.de, .int .i64 r.d.cl, .int .i64 r.d.fu, .int .i64 r.d.st, .slice Ap r.d.put.length cp, .slice Ad r.d.drop.length cd]
  refine ⟨_, 1, rfl, by simp, fun _ => ⟨w.heap.size, 0, rfl, by simp, fun i e he => ?_⟩⟩
  obtain rfl : i = 0 := by
    have := (List.getElem?_eq_some_iff.1 he).1
    simpa using this
  obtain rfl : r = e := by simpa using he
  exact ⟨_, _, ⟨hx.cell 0, hx.cell 1, hx.cell 2, hx.cell 3, hx.cell 4, hx.cell 5, hx.cell 6, hx.cell 7, hx.cell 8⟩, hp.on_ hb, hd.on_ hb⟩
theorem ev_at {r : En} {V : Value} {w : World} (h : EntsV w.heap.size w V [r]) : ∃ b off A m c B n d C, V = .slice (some ⟨b, off, none⟩) 1 C ∧ EnAt w b off r (.slice A m c) (.slice B n d) ∧ RulesV w.heap.size w (.slice A m c) r.d.put ∧ Row w.heap.size w (.slice B n d) (zI r.d.drop) := by
  obtain ⟨A0, C, rfl⟩ := h.form
  obtain ⟨b, off, p, d, rfl, _, hE, hp, hd⟩ := h.at_ (k := 0) (by simp)
  obtain ⟨A, c, rfl⟩ := hp.form
  obtain ⟨B, d', rfl⟩ := hd.form
  simp only [List.getElem_cons_zero, Nat.zero_mul, Nat.add_zero] at hE hp hd
  exact ⟨b, off, A, _, c, B, _, d', C, rfl, hE, hp, hd⟩
set_option maxRecDepth 100000 in
set_option maxHeartbeats 16000000 in
theorem packSame_law (va : Value) (la : List En) (vb : Value) (lb : List En) (W : World) (hVa : EntsV W.heap.size W va la) (hma : la.length ≤ 9223372036854775807) (hVb : EntsV W.heap.size W vb lb) (hmb : lb.length ≤ 9223372036854775807) :
    Calls Try.prog 6 #[va, vb] W fun e w' => e = .returned (.bool true) ∧ Below W.heap.size W w' := by
  have HVA := Lib.hid hVa
  have HVB := Lib.hid hVb
  obtain ⟨A, ca, rfl⟩ := hVa.form
  obtain ⟨B, cb, rfl⟩ := hVb.form
  have HMA := Lib.hid hma
  have HMB := Lib.hid hmb
  obtain ⟨na, hna⟩ : ∃ n, n = la.length := ⟨_, rfl⟩
  obtain ⟨nb, hnb⟩ : ∃ n, n = lb.length := ⟨_, rfl⟩
  rw [← hna] at HVA hma ⊢
  rw [← hnb] at HVB ⊢
  have HNA := Lib.hid hna
  have HNB := Lib.hid hnb
  clear hVa hVb hmb hna hnb
  go_enter Try.func6, Try.ntmps6
  go_wp2_with fail
  refine (anchor11_any _).mono ?_
  rintro e w1 ⟨rfl, b1⟩
  have B1 := Lib.hid b1
  have hs1 : W.heap.size ≤ w1.heap.size := b1.size
  clear b1
  go_wp2_with fail
  refine (small_any _ la w1 HMA.out ((HVA.out.below B1.out).more hs1)).mono ?_
  rintro e w2 ⟨rfl, b2⟩
  have B2 := Lib.hid (B1.out.trans (b2.mono hs1))
  have hs2 : W.heap.size ≤ w2.heap.size := B2.out.size
  clear b2
  cases hsa : smallL la
  · go_wp2
    go_ret
    exact ⟨rfl, B2.out⟩
  have HSa := Lib.hid (smallL_iff.1 hsa)
  clear hsa
  go_wp2_with fail
  refine (small_any _ lb w2 HMB.out ((HVB.out.below B2.out).more hs2)).mono ?_
  rintro e w3 ⟨rfl, b3⟩
  have B3 := Lib.hid (B2.out.trans (b3.mono hs2))
  have hs3 : W.heap.size ≤ w3.heap.size := B3.out.size
  clear b3
  cases hsb : smallL lb
  · go_wp2
    go_ret
    exact ⟨rfl, B3.out⟩
  have HSb := Lib.hid (smallL_iff.1 hsb)
  clear hsb
  have hl70 : na ≤ 70 := by rw [HNA.out]; exact HSa.out.2
  go_wp2_with fail
  refine (psame_any la lb _ _ w3 (by rw [← HNA.out]; omega) (fun e he => smallE_len (HSa.out.1 e he)) ((HVA.out.below B3.out).more hs3) ((HVB.out.below B3.out).more hs3)).mono ?_
  rintro e w4 ⟨c, rfl, hc, b4⟩
  have HC := Lib.hid hc
  have B4 := Lib.hid (B3.out.trans (b4.mono hs3))
  have hs4 : W.heap.size ≤ w4.heap.size := B4.out.size
  clear b4 hc
  go_wp2_with fail
  refine (entries_any W.heap.size _ la w4 hs4 HSa.out.2 HSa.out.1 (HVA.out.below B4.out)).mono ?_
  rintro e w5 ⟨V5, rfl, o5, b5⟩
  have B5 := Lib.hid (B4.out.trans (b5.mono hs4))
  have hs5 : W.heap.size ≤ w5.heap.size := B5.out.size
  have X5 := Lib.hid (o5.read hs5)
  clear o5 b5
  go_wp2_with fail
  refine (entries_any W.heap.size _ lb w5 hs5 HSb.out.2 HSb.out.1 (HVB.out.below B5.out)).mono ?_
  rintro e w6 ⟨V6, rfl, o6, b6⟩
  have B6 := Lib.hid (B5.out.trans (b6.mono hs5))
  have hs6 : W.heap.size ≤ w6.heap.size := B6.out.size
  have X6 := Lib.hid (o6.read hs6)
  have X56 := Lib.hid (X5.out.on b6)
  clear o6 b6
  go_wp2_with fail
  refine (xsame_any la lb _ _ w6 (by rw [← HNA.out]; omega) (fun e he => smallE_len (HSa.out.1 e he)) (fun e he => smallE_len (HSb.out.1 e he)) X56.out X6.out).mono ?_
  rintro e w7 ⟨c', rfl, hc', b7⟩
  have B7 := Lib.hid (B6.out.trans (b7.mono hs6))
  have hs7 : W.heap.size ≤ w7.heap.size := B7.out.size
  obtain rfl : c = c' := by
    have h1 := HC.out
    cases c <;> cases c'
    · rfl
    · exact absurd (h1.2 (hc'.1 rfl)) (by simp)
    · exact absurd (hc'.2 (h1.1 rfl)) (by simp)
    · rfl
  clear b7 hc' X56 X6 X5
  have cc : (c != c) = false := by simp
  go_wp2
  go_loopw [34] (fun i wr => ∃ k : Nat, k ≤ na ∧ i = .int .i64 k ∧ Hid (Below W.heap.size W wr)) (fun i _ => na - (intOf i).toNat)
  case atStart => exact ⟨0, Nat.zero_le _, rfl, B7⟩
  case round =>
    obtain ⟨k, hk, rfl, HB⟩ := hrel
    have hsz : W.heap.size ≤ wr.heap.size := HB.out.size
    by_cases hlt : k < na
    · have hkl : k < la.length := by rw [← HNA.out]; exact hlt
      obtain ⟨b, off, p, d, rfl, hb, hE0, hp0, hd0⟩ := HVA.out.at_ hkl
      have hE := hE0.below hb HB.out
      have hp := (hp0.below HB.out).more hsz
      have hd := (hd0.below HB.out).more hsz
      clear hE0 hp0 hd0
      have hsm := HSa.out.1 la[k] (List.getElem_mem _)
      generalize la[k] = r at hE hp hd hsm
      obtain ⟨c0, c1, c2, c3, c4, c5, c6, c7, c8⟩ := hE
      obtain ⟨Ap, cp, rfl⟩ := hp.form
      obtain ⟨Ad, cd, rfl⟩ := hd.form
      rw [zI_len] at c8 hd
      have hx := (Below.refl wr.heap.size wr).alloc (Nat.le_refl _) (.cells #[.int .i64 r.vi, .int .i64 r.cl, .int .i64 r.re, .int .i64 r.d.de, .int .i64 r.d.cl, .int .i64 r.d.fu, .int .i64 r.d.st, .slice Ap r.d.put.length cp, .slice Ad r.d.drop.length cd] 63)
      have HP := Lib.hid ((hp.on_ hx).on_ (Below.refl _ _))
      have HD := Lib.hid ((hd.on_ hx).on_ (Below.refl _ _))
      have XB := Lib.hid (Blk.new wr 63 #[.int .i64 r.vi, .int .i64 r.cl, .int .i64 r.re, .int .i64 r.d.de, .int .i64 r.d.cl, .int .i64 r.d.fu, .int .i64 r.d.st, .slice Ap r.d.put.length cp, .slice Ad r.d.drop.length cd])
      have BX := Lib.hid (HB.out.alloc hsz (.cells #[.int .i64 r.vi, .int .i64 r.cl, .int .i64 r.re, .int .i64 r.d.de, .int .i64 r.d.cl, .int .i64 r.d.fu, .int .i64 r.d.st, .slice Ap r.d.put.length cp, .slice Ad r.d.drop.length cd] 63))
      have HSr := Lib.hid hsm
      have hsx : W.heap.size ≤ (wr.alloc (.cells #[.int .i64 r.vi, .int .i64 r.cl, .int .i64 r.re, .int .i64 r.d.de, .int .i64 r.d.cl, .int .i64 r.d.fu, .int .i64 r.d.st, .slice Ap r.d.put.length cp, .slice Ad r.d.drop.length cd] 63)).heap.size := by simp; omega
      clear hkl hp hd hx hsm
      go_upto_region 11 with (fail)
      generalize wr.alloc _ = wx at *
      clear c0 c1 c2 c3 c4 c5 c6 c7 c8
      go_wp2_with fail
      refine wp_region_held_drew (S := fun w' => Below wx.heap.size wx w') (by kernel_rfl) (Below.drewN' (Below.refl _ wx) 1) (fun hHeld => ?_)
      refine take_d 0 38 (.agg #[.int .i64 r.vi, .int .i64 r.cl, .int .i64 r.re, .int .i64 r.d.de, .int .i64 r.d.cl, .int .i64 r.d.fu, .int .i64 r.d.st, .slice Ap r.d.put.length cp, .slice Ad r.d.drop.length cd]) _ rfl rfl (by kernel_rfl) (by kernel_rfl) (by kernel_rfl) (fun _ _ _ h => h) (Or.inl ⟨by rfl, fun w' hSw => ?_⟩) hHeld ?_
      · have q0 := Blk.cell (XB.out.on hSw) 0
        have q1 := Blk.cell (XB.out.on hSw) 1
        have q2 := Blk.cell (XB.out.on hSw) 2
        have q3 := Blk.cell (XB.out.on hSw) 3
        have q4 := Blk.cell (XB.out.on hSw) 4
        have q5 := Blk.cell (XB.out.on hSw) 5
        have q6 := Blk.cell (XB.out.on hSw) 6
        have q7 := Blk.cell (XB.out.on hSw) 7
        have q8 := Blk.cell (XB.out.on hSw) 8
        go_simp
      simp only [List.setIfInBounds_toArray, List.set_cons_zero, List.set_cons_succ]
      refine take_d 2 40 (.agg #[.int .i64 r.vi, .int .i64 r.cl, .int .i64 r.re, .int .i64 r.d.de, .int .i64 r.d.cl, .int .i64 r.d.fu, .int .i64 r.d.st, .slice Ap r.d.put.length cp, .slice Ad r.d.drop.length cd]) _ rfl rfl (by kernel_rfl) (by kernel_rfl) (by kernel_rfl) (fun _ _ _ h => h) (Or.inl ⟨by rfl, fun w' hSw => ?_⟩) hHeld ?_
      · have q0 := Blk.cell (XB.out.on hSw) 0
        have q1 := Blk.cell (XB.out.on hSw) 1
        have q2 := Blk.cell (XB.out.on hSw) 2
        have q3 := Blk.cell (XB.out.on hSw) 3
        have q4 := Blk.cell (XB.out.on hSw) 4
        have q5 := Blk.cell (XB.out.on hSw) 5
        have q6 := Blk.cell (XB.out.on hSw) 6
        have q7 := Blk.cell (XB.out.on hSw) 7
        have q8 := Blk.cell (XB.out.on hSw) 8
        go_simp
      simp only [List.setIfInBounds_toArray, List.set_cons_zero, List.set_cons_succ]
      refine wpAnyH_ready (rs := [1, 3]) (by kernel_rfl) (by simp) ?_
      refine AllReadyH.cons rfl (fun K hK => ?_) (AllReadyH.cons rfl (fun K hK => ?_) (AllReadyH.nil))
      · go_simp
        refine (pentry_any r _ _ _ (HP.out.on_ hHeld) (HD.out.on_ hHeld)).mono ?_
        rintro e w6 ⟨rfl, hB6⟩
        have hS6 := Below.trans hHeld (hB6.mono hHeld.size)
        refine hK.out _ _ hS6 (fun hHeld => ?_)
        clear hK K hB6 hS6
        refine wpAnyH_ready (rs := [3]) (by kernel_rfl) (by simp) ?_
        refine AllReadyH.cons rfl (fun K hK => ?_) AllReadyH.nil
        go_simp
        have EV := Lib.hid (ev_one r Ap Ad cp cd w6 (HP.out.on_ hHeld) (HD.out.on_ hHeld))
        refine hK.out _ _ (Below.alloc hHeld hHeld.size _) (fun hHeld => ?_)
        clear hK K
        refine wpAnyH_ready (rs := [4]) (by kernel_rfl) (by simp) ?_
        refine AllReadyH.cons rfl (fun K hK => ?_) AllReadyH.nil
        go_simp
        refine (entries_any _ _ [r] _ (Nat.le_refl _) (by simp) (by intro e he; rw [List.mem_singleton.1 he]; exact HSr.out) EV.out).mono ?_
        rintro e w7 ⟨V7, rfl, o7, hB7⟩
        have hS7 := Below.trans hHeld (hB7.mono hHeld.size)
        obtain ⟨b7, off7, A7, m7, c7, B7, n7, d7, C7, rfl, hE7, hp7, hd7⟩ := ev_at (o7.read hB7.size)
        have E7 := Lib.hid hE7
        have P7 := Lib.hid hp7
        have D7 := Lib.hid hd7
        have HS7 := Lib.hid hS7
        refine hK.out _ _ hS7 (fun hHeld => ?_)
        clear hK K hB7 hS7 o7 hE7 hp7 hd7
        refine take_d 5 43 (.pointer (some ⟨b7, off7, none⟩)) _ rfl rfl (by kernel_rfl) (by kernel_rfl) (by kernel_rfl) (fun _ _ _ h => h) (Or.inl ⟨by rfl, fun w' hSw => ?_⟩) hHeld ?_
        · go_simp
        simp only [List.setIfInBounds_toArray, List.set_cons_zero, List.set_cons_succ]
        refine wpAnyH_ready (rs := [6]) (by kernel_rfl) (by simp) ?_
        refine AllReadyH.cons rfl (fun K hK => ?_) AllReadyH.nil
        obtain ⟨e0, e1, e2, e3, e4, e5, e6, e7, e8⟩ := E7.out
        go_simp
        refine hK.out _ _ HS7.out (fun hHeld => ?_)
        clear hK K e0 e1 e2 e3 e4 e5 e6 e7 e8
        refine wpAnyH_ready (rs := [7]) (by kernel_rfl) (by simp) ?_
        refine AllReadyH.cons rfl (fun K hK => ?_) AllReadyH.nil
        go_simp
        refine (xentry_any r _ _ _ P7.out D7.out).mono ?_
        rintro e w8 ⟨rfl, hB8⟩
        have hS8 := Below.trans HS7.out (hB8.mono HS7.out.size)
        refine hK.out _ _ hS8 (fun hHeld => ?_)
        clear hK K hB8 hS8
        refine take_d 8 46 (.bool false) _ rfl rfl (by kernel_rfl) (by kernel_rfl) (by kernel_rfl) (fun _ _ _ h => h) (Or.inl ⟨by rfl, fun w' hSw => ?_⟩) hHeld ?_
        · have q : (r.ok != r.ok) = false := by simp
          go_simp
        simp only [List.setIfInBounds_toArray, List.set_cons_zero, List.set_cons_succ]
        refine wpAnyH_done (by kernel_rfl) ?_ _
        go_wp2
        go_roundw
        case rel => exact ⟨k + 1, by omega, by go_num, Lib.hid (BX.out.trans (Below.mono hHeld hsx))⟩
        case measure => simp [intOf]; omega
      · go_simp
        have EV := Lib.hid (ev_one r Ap Ad cp cd wx.drew (HP.out.on_ hHeld) (HD.out.on_ hHeld))
        refine hK.out _ _ (Below.alloc hHeld hHeld.size _) (fun hHeld => ?_)
        clear hK K
        refine wpAnyH_ready (rs := [1]) (by kernel_rfl) (by simp) ?_
        refine AllReadyH.cons rfl (fun K hK => ?_) AllReadyH.nil
        go_simp
        refine (pentry_any r _ _ _ (HP.out.on_ hHeld) (HD.out.on_ hHeld)).mono ?_
        rintro e w6 ⟨rfl, hB6⟩
        have hS6 := Below.trans hHeld (hB6.mono hHeld.size)
        have EV6 := Lib.hid (EV.out.on hB6)
        refine hK.out _ _ hS6 (fun hHeld => ?_)
        clear hK K hB6 hS6
        refine wpAnyH_ready (rs := [4]) (by kernel_rfl) (by simp) ?_
        refine AllReadyH.cons rfl (fun K hK => ?_) AllReadyH.nil
        go_simp
        refine (entries_any _ _ [r] _ (Nat.le_refl _) (by simp) (by intro e he; rw [List.mem_singleton.1 he]; exact HSr.out) EV6.out).mono ?_
        rintro e w7 ⟨V7, rfl, o7, hB7⟩
        have hS7 := Below.trans hHeld (hB7.mono hHeld.size)
        obtain ⟨b7, off7, A7, m7, c7, B7, n7, d7, C7, rfl, hE7, hp7, hd7⟩ := ev_at (o7.read hB7.size)
        have E7 := Lib.hid hE7
        have P7 := Lib.hid hp7
        have D7 := Lib.hid hd7
        have HS7 := Lib.hid hS7
        refine hK.out _ _ hS7 (fun hHeld => ?_)
        clear hK K hB7 hS7 o7 hE7 hp7 hd7
        refine take_d 5 43 (.pointer (some ⟨b7, off7, none⟩)) _ rfl rfl (by kernel_rfl) (by kernel_rfl) (by kernel_rfl) (fun _ _ _ h => h) (Or.inl ⟨by rfl, fun w' hSw => ?_⟩) hHeld ?_
        · go_simp
        simp only [List.setIfInBounds_toArray, List.set_cons_zero, List.set_cons_succ]
        refine wpAnyH_ready (rs := [6]) (by kernel_rfl) (by simp) ?_
        refine AllReadyH.cons rfl (fun K hK => ?_) AllReadyH.nil
        obtain ⟨e0, e1, e2, e3, e4, e5, e6, e7, e8⟩ := E7.out
        go_simp
        refine hK.out _ _ HS7.out (fun hHeld => ?_)
        clear hK K e0 e1 e2 e3 e4 e5 e6 e7 e8
        refine wpAnyH_ready (rs := [7]) (by kernel_rfl) (by simp) ?_
        refine AllReadyH.cons rfl (fun K hK => ?_) AllReadyH.nil
        go_simp
        refine (xentry_any r _ _ _ P7.out D7.out).mono ?_
        rintro e w8 ⟨rfl, hB8⟩
        have hS8 := Below.trans HS7.out (hB8.mono HS7.out.size)
        refine hK.out _ _ hS8 (fun hHeld => ?_)
        clear hK K hB8 hS8
        refine take_d 8 46 (.bool false) _ rfl rfl (by kernel_rfl) (by kernel_rfl) (by kernel_rfl) (fun _ _ _ h => h) (Or.inl ⟨by rfl, fun w' hSw => ?_⟩) hHeld ?_
        · have q : (r.ok != r.ok) = false := by simp
          go_simp
        simp only [List.setIfInBounds_toArray, List.set_cons_zero, List.set_cons_succ]
        refine wpAnyH_done (by kernel_rfl) ?_ _
        go_wp2
        go_roundw
        case rel => exact ⟨k + 1, by omega, by go_num, Lib.hid (BX.out.trans (Below.mono hHeld hsx))⟩
        case measure => simp [intOf]; omega
    · obtain rfl : k = na := by omega
      have LK : Hid (∀ (l : List En) (v : Value) (W' : World), EntsV W'.heap.size W' v l → Calls Try.prog 13 #[.agg #[.int .i64 5, .int .i64 0, .int .i64 0, .int .i64 0, .int .i64 0, .int .i64 0, .int .i64 0, v]] W' (EncP W' (mk5 l).ok (eM (mk5 l)))) := Lib.hid fun l v W' h => encM_any (mk5 l) v W' h
      go_wp2_with fail
      refine (LK.out la _ wr ((HVA.out.below HB.out).more hsz)).mono ?_
      intro e w8 he
      obtain ⟨b8, he⟩ := he.cases
      have B8 := Lib.hid (HB.out.trans (b8.mono hsz))
      have hs8 : W.heap.size ≤ w8.heap.size := B8.out.size
      have BAD : Hid (∀ e w9, EncP w8 (mk5 lb).ok (eM (mk5 lb)) e w9 → ∃ y f, e = .returned (.tuple #[y, .int .i64 f]) ∧ Below W.heap.size W w9 ∧ (∃ A n c, y = .slice A n c)) := Lib.hid (by
        intro e w5 h
        obtain ⟨h1, h2⟩ := h.cases
        have h3 := B8.out.trans (h1.mono hs8)
        rcases h2 with ⟨_, _, A, c, rfl, _⟩ | ⟨_, rfl⟩ | ⟨_, _, rfl⟩
        · exact ⟨_, _, rfl, h3, _, _, _, rfl⟩
        · exact ⟨_, _, rfl, h3, _, _, _, rfl⟩
        · exact ⟨_, _, rfl, h3, _, _, _, rfl⟩)
      rcases he with ⟨hok, hl, A5, c5, rfl, ho⟩ | ⟨hok, rfl⟩ | ⟨hok, hl, rfl⟩
      rotate_left
      · clear b8
        go_wp2_with fail
        refine (LK.out lb _ w8 ((HVB.out.below B8.out).more hs8)).mono ?_
        intro e w9 he
        obtain ⟨y, f, rfl, hB, A, n, c, rfl⟩ := BAD.out _ _ he
        have HBB := Lib.hid hB
        clear he hB
        go_wp2
        go_ret
        exact ⟨rfl, HBB.out⟩
      · clear b8
        go_wp2_with fail
        refine (LK.out lb _ w8 ((HVB.out.below B8.out).more hs8)).mono ?_
        intro e w9 he
        obtain ⟨y, f, rfl, hB, A, n, c, rfl⟩ := BAD.out _ _ he
        have HBB := Lib.hid hB
        clear he hB
        go_wp2
        go_ret
        exact ⟨rfl, HBB.out⟩
      have O8 := Lib.hid ho
      have KA := Lib.hid hok
      clear b8 ho hok hl
      go_wp2_with fail
      refine (LK.out lb _ w8 ((HVB.out.below B8.out).more hs8)).mono ?_
      intro e w9 he
      obtain ⟨b9, he⟩ := he.cases
      have B9 := Lib.hid (B8.out.trans (b9.mono hs8))
      have X9 := Lib.hid (own_on O8.out b9).bytes
      clear b9 O8
      rcases he with ⟨hok, hl, A7, c7, rfl, ho⟩ | ⟨hok, rfl⟩ | ⟨hok, hl, rfl⟩
      rotate_left
      · go_wp2
        go_ret
        exact ⟨rfl, B9.out⟩
      · go_wp2
        go_ret
        exact ⟨rfl, B9.out⟩
      have KB := Lib.hid hok
      obtain ⟨SA, hSA⟩ : ∃ S : ByteArray, S = ⟨(eM (mk5 la)).toArray⟩ := ⟨_, rfl⟩
      obtain ⟨SB, hSB⟩ : ∃ S : ByteArray, S = ⟨(eM (mk5 lb)).toArray⟩ := ⟨_, rfl⟩
      have q1 := run_string_bytes X9.out
      have q2 := run_string_bytes ho.bytes
      rw [← hSA] at q1
      rw [← hSB] at q2
      have hstr : SA = SB ↔ la = lb := by
        constructor
        · intro h
          rw [hSA, hSB] at h
          injection h with h
          have := eM_inj KA.out KB.out (List.toArray_inj h)
          injection this
        · intro h
          rw [hSA, hSB, h]
      have hst : (SA.toList == SB.toList) = c := by
        have hcc := HC.out
        cases c
        · cases hh : (SA.toList == SB.toList)
          · rfl
          · exfalso
            have := eq_of_beq hh
            rw [ByteArray.toList_eq, ByteArray.toList_eq] at this
            have e1 : SA = SB := by
              obtain ⟨⟨x⟩⟩ := SA
              obtain ⟨⟨y⟩⟩ := SB
              have hxy : x = y := by simpa using this
              rw [hxy]
            have := hcc.2 (hstr.1 e1)
            cases this
        · rw [hstr.2 (hcc.1 rfl)]
          exact beq_self_eq_true _
      have HL1 := Lib.hid (rfl : (eM (mk5 la)).length = (eM (mk5 la)).length)
      obtain ⟨n5, hn5⟩ : ∃ n5, n5 = (eM (mk5 la)).length := ⟨_, rfl⟩
      obtain ⟨n7, hn7⟩ : ∃ n7, n7 = (eM (mk5 lb)).length := ⟨_, rfl⟩
      rw [← hn5] at q1 ⊢
      rw [← hn7] at q2 ⊢
      have c2 : (c == c) = true := by simp
      clear ho hok hl hSA hSB hstr hn5 hn7 HL1 he
      cases c
      · go_wp2
        go_ret
        exact ⟨rfl, B9.out⟩
      · go_wp2
        go_ret
        exact ⟨rfl, B9.out⟩
end Go.Proofs.Ytiheeafmplccoaa
