/- Layer 13: LedgerOwn. (Written by genLdLo.py.) -/
import Derived.Test.YtgddcbjlhplmgaaLdZ
import Derived.Test.YtgddcbjlhplmgaaLdLa
namespace Go.Proofs.Ytgddcbjlhplmgaa
open Go.RowKit
variable {w w' : World}

set_option maxRecDepth 100000 in
set_option maxHeartbeats 16000000 in
theorem ledgerOwn_law (s : St) (v : Value) (w : World) (hV : EntsV w.heap.size w v s.log) (hm : s.log.length ≤ 9223372036854775807) :
    Calls Try.prog 6 #[s.val v] w fun e w' => e = .returned (.bool true) ∧ Below w.heap.size w w' := by
  obtain ⟨A, c, rfl⟩ := hV.form
  obtain ⟨n, hn⟩ : ∃ n, n = s.log.length := ⟨_, rfl⟩
  rw [← hn] at hV hm ⊢
  have HN := Lib.hid hn
  have HV := Lib.hid hV
  have HM := Lib.hid hm
  have b0 : Below w.heap.size w (w.alloc (.cells #[.int .i64 s.vi, .int .i64 s.no, .int .i64 s.co, .int .i64 s.ac, .slice A n c] 24)) := (Below.refl _ _).alloc (Nat.le_refl _) _
  have HX : Hid (Blk (w.alloc (.cells #[.int .i64 s.vi, .int .i64 s.no, .int .i64 s.co, .int .i64 s.ac, .slice A n c] 24)) w.heap.size 24 #[.int .i64 s.vi, .int .i64 s.no, .int .i64 s.co, .int .i64 s.ac, .slice A n c]) := Lib.hid (Blk.new _ _ _)
  clear hn hV hm
  go_enter Try.func6, Try.ntmps6
  go_upto_region 1 with (fail)
  generalize w.alloc _ = w0 at *
  have B0 := Lib.hid b0
  clear b0
  go_wp2_with fail
  refine (anchor13_any _).mono ?_
  rintro e w1 ⟨rfl, hb1⟩
  have B1 := Lib.hid (B0.out.trans (hb1.mono B0.out.size))
  have X1 := Lib.hid (HX.out.on hb1)
  have SM := Lib.hid (smallSt_any s (.slice A n c) w1 (by rw [← HN.out]; exact HM.out) (HV.out.on B1.out))
  obtain ⟨q, hq⟩ : ∃ q, q = smallL s.log := ⟨_, rfl⟩
  rw [← hq] at SM
  have HQ := Lib.hid hq
  clear hb1 hq
  have x0 := X1.out.cell 0
  have x1 := X1.out.cell 1
  have x2 := X1.out.cell 2
  have x3 := X1.out.cell 3
  have x4 := X1.out.cell 4
  have xln := X1.out.lt
  go_wp2_with fail
  refine SM.out.mono ?_
  rintro e w2 ⟨rfl, hb2⟩
  have B2 := Lib.hid (B1.out.trans (hb2.mono B1.out.size))
  have X2 := Lib.hid (X1.out.on hb2)
  clear hb2 SM
  clear x0 x1 x2 x3 x4 xln
  cases q with
  | false =>
    go_wp2
    go_ret
    exact ⟨rfl, B2.out⟩
  | true =>
    have HS := Lib.hid (smallL_iff.1 HQ.out.symm)
    have hn70 : (n : Int) ≤ 70 := by have := HS.out.2; have := HN.out; omega
    have x0 := X2.out.cell 0
    have x1 := X2.out.cell 1
    have x2 := X2.out.cell 2
    have x3 := X2.out.cell 3
    have x4 := X2.out.cell 4
    have xln := X2.out.lt
    by_cases hn8 : (8 : Int) < (n : Int)
    · go_wp2
      go_ret
      exact ⟨rfl, B2.out⟩
    have NT := Lib.hid (new_any 1048576 (by decide) (by decide) w2)
    rw [Tq.new] at NT
    go_wp2_with fail
    refine NT.out.mono ?_
    rintro e w3 ⟨rfl, ht3, hb3⟩
    clear x0 x1 x2 x3 x4 xln
    obtain ⟨gt, hgt⟩ : ∃ g, g = w2.heap.size := ⟨_, rfl⟩
    rw [← hgt] at ht3 ⊢
    have hgw : w.heap.size ≤ gt := by rw [hgt]; exact B2.out.size
    have hg3 : gt < w3.heap.size := ht3.lt
    have hxgt : w.heap.size < gt := by rw [hgt]; exact X2.out.lt
    have B3 := Lib.hid (B2.out.trans (hb3.mono B2.out.size))
    have X3 := Lib.hid (X2.out.on hb3)
    have T3 := Lib.hid ht3
    clear hb3 NT ht3 hgt
    have OT := Lib.hid (open_whole T3.out Whole.nil)
    go_wp2_with fail
    refine OT.out.mono ?_
    rintro e w4 ⟨g, rfl, hg, hl4, ht4, hb4⟩
    have B4 := Lib.hid (B3.out.trans (hb4.mono B3.out.size))
    have X4 := Lib.hid (X3.out.on hb4)
    have T4 := Lib.hid ht4
    have L4 := Lib.hid hl4
    have hg4 : g < w4.heap.size := hl4.lt
    clear hb4 OT hl4 ht4
    have MS := Lib.hid (madeState_any w.heap.size s (.slice A n c) w4 B4.out.size HS.out.2 HS.out.1 (HV.out.below B4.out))
    rw [← HN.out] at MS
    have x0 := X4.out.cell 0
    have x1 := X4.out.cell 1
    have x2 := X4.out.cell 2
    have x3 := X4.out.cell 3
    have x4 := X4.out.cell 4
    have xln := X4.out.lt
    go_wp2_with fail
    refine MS.out.mono ?_
    rintro e w5 ⟨A7, c7, rfl, o5, hb5⟩
    clear x0 x1 x2 x3 x4 xln
    have b5 := (Below.refl w5.heap.size w5).alloc (Nat.le_refl _) (.cells #[.int .i64 s.vi, .int .i64 s.no, .int .i64 s.co, .int .i64 s.ac, .slice A7 n c7] 35)
    have hs5 : w.heap.size ≤ w5.heap.size := Nat.le_trans B4.out.size hb5.size
    have Y5 := Lib.hid (Blk.new w5 35 #[.int .i64 s.vi, .int .i64 s.no, .int .i64 s.co, .int .i64 s.ac, .slice A7 n c7])
    have E5 := Lib.hid ((o5.read hs5).on b5)
    have B5 := Lib.hid ((B4.out.trans (hb5.mono B4.out.size)).trans (b5.mono hs5))
    have X5 := Lib.hid ((X4.out.on hb5).on b5)
    have T5 := Lib.hid ((T4.out.on hb5).on b5)
    have L5 := Lib.hid ((L4.out.on hb5).on b5)
    have EV5 : Hid (LogV (fun i => i = gt) (w5.alloc (.cells #[.int .i64 s.vi, .int .i64 s.no, .int .i64 s.co, .int .i64 s.ac, .slice A7 n c7] 35)) (.slice A n c) s.log) := Lib.hid (((LogV.of_ents HV.out).sub (fun i hi => .inr (by have e : i = gt := hi; omega))).on B5.out)
    have EW5 : Hid (LogV (fun i => i = gt ∨ i = g) (w5.alloc (.cells #[.int .i64 s.vi, .int .i64 s.no, .int .i64 s.co, .int .i64 s.ac, .slice A7 n c7] 35)) (.slice A7 n c7) s.log) := Lib.hid ((LogV.of_ownX o5 (fun i hi => by have := hb5.size; rcases hi with hi | hi <;> omega) (fun i hi => by rcases hi with hi | hi <;> omega) hs5).on b5)
    have hgb : g < w5.heap.size ∧ gt < w5.heap.size := ⟨by have := hb5.size; omega, by have := hb5.size; omega⟩
    clear o5 hb5 b5 MS E5
    go_upto_region 9 with (fail)
    obtain ⟨bw, hbw⟩ : ∃ z, z = w5.heap.size := ⟨_, rfl⟩
    rw [← hbw] at Y5 hgb ⊢
    have hbww : w.heap.size ≤ bw := by omega
    clear hbw hs5
    generalize w5.alloc _ = w6 at *
    have SV := Lib.hid (save_any (t := s) (.slice A n c) T5.out L5.out (fun e => by have e' : g = gt := e; omega) St.zero_ok EV5.out)
    have x0 := X5.out.cell 0
    have x1 := X5.out.cell 1
    have x2 := X5.out.cell 2
    have x3 := X5.out.cell 3
    have x4 := X5.out.cell 4
    have xln := X5.out.lt
    go_wp2_with fail
    refine SV.out.mono ?_
    rintro e w7 ⟨E, S7, s7, br7, bs7, rfl, hp⟩
    have P := Lib.hid hp
    clear x0 x1 x2 x3 x4 xln
    have B7 : Hid (Below w.heap.size w w7) := Lib.hid (B5.out.trans (hp.fr.old B5.out.size (fun i hi => hi.elim (fun e => by have e' : i = gt := e; omega) (fun e => by omega))))
    have Y7 := Lib.hid (hp.fr.blk Y5.out (fun e => e.elim (fun e => by have e' : bw = gt := e; omega) (fun e => by omega)))
    have E7 := Lib.hid (EW5.out.next hp.fr)
    clear SV hp
    by_cases hE0 : ¬ E = 0
    · go_wp2
      go_ret
      exact ⟨rfl, B7.out⟩
    obtain rfl : E = 0 := by omega
    have Q : Hid (s7 = s ∧ s.ok = true) := Lib.hid (by
      rcases P.out.what with ⟨_, _, h1, _, h3, _⟩ | ⟨h, _⟩
      · exact ⟨h1, h3⟩
      · exact absurd rfl h)
    have LS : Hid (LedV w7 g gt S7 s br7) := Lib.hid (by have h := P.out.led; rw [Q.out.1] at h; exact h)
    have SH := Lib.hid (short_of_ok Q.out.2)
    have ST := Lib.hid (state_any (by have := SH.out.2; omega) SH.out.1 LS.out)
    rw [← HN.out] at ST
    go_wp2_with fail
    refine ST.out.mono ?_
    rintro e w8 ⟨A6, c6, rfl, o8, hb8⟩
    obtain ⟨L, hL, hrow, hlists⟩ := o8
    have hLn : L.length = n := by rw [HN.out, ← hL, List.length_map]
    rw [hLn] at hrow
    obtain ⟨bx, hbx⟩ : ∃ z, z = w8.heap.size := ⟨_, rfl⟩
    have b9 := (Below.refl w8.heap.size w8).alloc (Nat.le_refl _) (.cells #[.int .i64 s.vi, .int .i64 s.no, .int .i64 s.co, .int .i64 s.ac, .slice A6 n c6] 24)
    have I9 : Hid (n = 0 ∨ ∃ b6, A6 = some ⟨b6, 0, none⟩ ∧ w7.heap.size ≤ b6 ∧ n ≤ c6 ∧ OvI w7.heap.size w7 (w8.alloc (.cells #[.int .i64 s.vi, .int .i64 s.no, .int .i64 s.co, .int .i64 s.ac, .slice A6 n c6] 24)) b6 c6 L bx #[.int .i64 s.vi, .int .i64 s.no, .int .i64 s.co, .int .i64 s.ac, .slice A6 n c6]) := Lib.hid (by
      rcases hrow.2 with ⟨_, hn0⟩ | ⟨b6, cap, cur, hv, hb6, hh, hnc, hmx, hsz, hxs⟩
      · exact .inl hn0
      · injection hv with e1 _ e3
        subst e3
        refine .inr ⟨b6, e1, hb6, hnc, ?_⟩
        have hBk : Blk w8 b6 63 cur := hh
        refine ⟨(Fr.of_below hb8).next (Fr.of_below b9), ⟨cur, hBk.on b9, hsz, fun i x hx => ?_⟩, by rw [hbx]; exact Blk.new _ _ _, fun x hx => ⟨?_, ?_⟩⟩
        · have hi : i < n := by rw [← hLn]; exact (List.getElem?_eq_some_iff.1 hx).1
          have key : ∀ k u, k < 9 → (x.1.cells x.2.1 x.2.2)[k]? = some u → cur[i * 9 + k]? = some u := fun k u hk hu => by
            have h1 := (enCells_get L i k x hx hk).trans hu
            rw [← hxs, List.getElem?_take] at h1
            split at h1
            · simpa using h1
            · cases h1
          exact ⟨key 7 _ (by omega) rfl, key 8 _ (by omega) rfl⟩
        · obtain ⟨A0, n0, c0, q1, qx, q2⟩ := SlB.of_own (hlists x hx).1
          exact ⟨A0, n0, c0, q1, qx, q2.imp id (fun ⟨g0, a1, a2, a3, cs0, a4, a5⟩ => ⟨g0, a1, a2, a3, cs0, a4.on b9, a5⟩)⟩
        · obtain ⟨A0, n0, c0, q1, qx, q2⟩ := SlB.of_own (hlists x hx).2
          exact ⟨A0, n0, c0, q1, qx, q2.imp id (fun ⟨g0, a1, a2, a3, cs0, a4, a5⟩ => ⟨g0, a1, a2, a3, cs0, a4.on b9, a5⟩)⟩)
    have XB9 : Hid (Blk (w8.alloc (.cells #[.int .i64 s.vi, .int .i64 s.no, .int .i64 s.co, .int .i64 s.ac, .slice A6 n c6] 24)) bx 24 #[.int .i64 s.vi, .int .i64 s.no, .int .i64 s.co, .int .i64 s.ac, .slice A6 n c6]) := Lib.hid (by rw [hbx]; exact Blk.new _ _ _)
    have F9 : Hid (Fr (fun i => w7.heap.size ≤ i) w7 (w8.alloc (.cells #[.int .i64 s.vi, .int .i64 s.no, .int .i64 s.co, .int .i64 s.ac, .slice A6 n c6] 24))) := Lib.hid ((Fr.of_below hb8).next (Fr.of_below b9))
    have HLn := Lib.hid hLn
    clear hb8 b9 ST hL hrow hlists hLn
    go_upto_region 12 with (fail)
    rw [← hbx]
    clear hbx
    generalize w8.alloc _ = w9 at *
    have x4 := XB9.out.cell 4
    have xln := XB9.out.lt
    by_cases hn0 : n = 0
    · subst hn0
      go_wp2
      clear x4 xln
      go_loopw [43] (fun i wr => i = .int .i64 0 ∧ Hid (Fr (fun i => w7.heap.size ≤ i) w7 wr)) (fun _ _ => 0)
      case atStart => exact ⟨rfl, F9⟩
      case round =>
        obtain ⟨rfl, FZ⟩ := hrel
        have BZ : Hid (Below w7.heap.size w7 wr) := Lib.hid (FZ.out.old (Nat.le_refl _) (fun i hi => hi))
        have LZ := Lib.hid (LS.out.on BZ.out)
        have YZ := Lib.hid (Y7.out.on BZ.out)
        have EZ := Lib.hid (E7.out.on BZ.out)
        have BW := Lib.hid (B7.out.trans (BZ.out.mono B7.out.size))
        go_upto_region 27 with (fail)
        refine wp_region_held_drew (S := fun w' => Below wr.heap.size wr w') (by kernel_rfl) (Below.drewN' (Below.refl _ _) 1) (fun hHeld => ?_)
        refine take_d 0 95 (.pointer (some ⟨g, 0, none⟩)) _ rfl rfl (by kernel_rfl) (by kernel_rfl) (by kernel_rfl) (fun _ _ _ h => h) (Or.inl ⟨by rfl, fun w' hSw => ?_⟩) hHeld ?_
        · go_simp
        simp only [List.setIfInBounds_toArray, List.set_cons_zero, List.set_cons_succ]
        refine take_d 2 97 (.agg #[.int .i64 s.vi, .int .i64 s.no, .int .i64 s.co, .int .i64 s.ac, .slice A7 0 c7]) _ rfl rfl (by kernel_rfl) (by kernel_rfl) (by kernel_rfl) (fun _ _ _ h => h) (Or.inl ⟨by rfl, fun w' hSw => ?_⟩) hHeld ?_
        · have z := YZ.out.on hSw
          have z0 := z.cell 0
          have z1 := z.cell 1
          have z2 := z.cell 2
          have z3 := z.cell 3
          have z4 := z.cell 4
          go_simp
        simp only [List.setIfInBounds_toArray, List.set_cons_zero, List.set_cons_succ]
        refine wpAnyH_ready (rs := [1]) (by kernel_rfl) (by simp) ?_
        refine AllReadyH.cons rfl (fun K hK => ?_) AllReadyH.nil
        go_simp
        refine (state_any (by have := SH.out.2; omega) SH.out.1 (LZ.out.on hHeld)).mono ?_
        rintro e w20 ⟨A20, c20, rfl, o20, hb20⟩
        have hS := Below.trans hHeld (hb20.mono (Below.size hHeld))
        have E20 := Lib.hid o20.read
        have V20 := Lib.hid hS
        refine hK.out _ _ hS (fun hHeld => ?_)
        clear hK K hS hb20 o20
        refine wpAnyH_ready (rs := [3]) (by kernel_rfl) (by simp) ?_
        refine AllReadyH.cons rfl (fun K hK => ?_) AllReadyH.nil
        go_simp
        refine (same13_any s s (.slice A20 s.log.length c20) (.slice A7 0 c7) w20 HS.out.2 HS.out.1 SH.out.1 E20.out (EZ.out.on V20.out).read).mono ?_
        rintro e w21 ⟨cc, rfl, hcc, hb21⟩
        have hct : cc = true := hcc.2 (by first | rfl | trivial)
        subst hct
        have hS := Below.trans hHeld (hb21.mono (Below.size hHeld))
        refine hK.out _ _ hS (fun hHeld => ?_)
        clear hK K hS hb21 hcc
        refine take_d 4 2 (.bool true) _ rfl rfl (by kernel_rfl) (by kernel_rfl) (by kernel_rfl) (fun _ _ _ h => h) (Or.inl ⟨by rfl, fun w' hSw => ?_⟩) hHeld ?_
        · go_simp
        simp only [List.setIfInBounds_toArray, List.set_cons_zero, List.set_cons_succ]
        refine wpAnyH_done (by kernel_rfl) ?_ _
        have BF := Lib.hid (BW.out.trans (Below.mono hHeld BW.out.size))
        clear hHeld
        go_wp2
        go_ret
        exact ⟨rfl, BF.out⟩
    have I9b : Hid (∃ b6, A6 = some ⟨b6, 0, none⟩ ∧ w7.heap.size ≤ b6 ∧ n ≤ c6 ∧ OvI w7.heap.size w7 w9 b6 c6 L bx #[.int .i64 s.vi, .int .i64 s.no, .int .i64 s.co, .int .i64 s.ac, .slice A6 n c6]) := Lib.hid (I9.out.resolve_left hn0)
    obtain ⟨b6, rfl, hb6, hnc, I9c⟩ := I9b.out
    have J9 := Lib.hid I9c
    clear I9 I9b I9c hn0
    go_wp2
    clear x4 xln
    go_loopw [43] (fun i wr => ∃ k : Nat, k ≤ n ∧ i = .int .i64 (k : Int) ∧ Hid (OvI w7.heap.size w7 wr b6 c6 L bx #[.int .i64 s.vi, .int .i64 s.no, .int .i64 s.co, .int .i64 s.ac, .slice (some ⟨b6, 0, none⟩) n c6])) (fun i _ => n - (intOf i).toNat)
    case atStart => exact ⟨0, Nat.zero_le _, rfl, J9⟩
    case round =>
      obtain ⟨k, hk, rfl, JI⟩ := hrel
      by_cases hlt : k < n
      · have hkl : k < L.length := by rw [HLn.out]; exact hlt
        have hg := List.getElem?_eq_getElem hkl
        have hmem := List.getElem_mem hkl
        generalize L[k] = x at hg hmem
        obtain ⟨ex, px, dx⟩ := x
        obtain ⟨⟨Ap, np, cp, hpv, hpx, _⟩, ⟨Ad, nd, cd, hdv, hdx, _⟩⟩ := JI.out.lists _ hmem
        simp only at hpv hdv
        subst hpv
        subst hdv
        have HG := Lib.hid hg
        have HMem := Lib.hid hmem
        have hkc : k < c6 := by omega
        clear hg hmem hkl
        obtain ⟨cs6, r1, r2, r3⟩ := JI.out.row
        obtain ⟨r7, r8⟩ := r3 k _ HG.out
        have e1 := r1.cell (k * 9 + 1)
        obtain ⟨u1, hu1⟩ : ∃ u, cs6[k * 9 + 1]? = some u := ⟨_, Array.getElem?_eq_getElem (show k * 9 + 1 < cs6.size by omega)⟩
        rw [hu1] at e1
        clear hu1
        have e7 := (r1.cell (k * 9 + 7)).trans r7
        have e8 := (r1.cell (k * 9 + 8)).trans r8
        have ef := r1.frozen
        have el := r1.lt
        have x4 := JI.out.box.cell 4
        have xln := JI.out.box.lt
        clear r1 r2 r3 r7 r8
        have J2 : Hid (OvI w7.heap.size w7 (wr.setCell ⟨b6, k * 9 + 1, none⟩ (.int .i64 (-1))) b6 c6 L bx #[.int .i64 s.vi, .int .i64 s.no, .int .i64 s.co, .int .i64 s.ac, .slice (some ⟨b6, 0, none⟩) n c6]) := Lib.hid (JI.out.client hb6 _)
        go_upto_region 16 with (fail)
        clear e1 e7 e8 ef el x4 xln
        generalize wr.setCell _ _ = wa at *
        obtain ⟨cs6, r1, r2, r3⟩ := J2.out.row
        obtain ⟨r7, r8⟩ := r3 k _ HG.out
        have e1 := r1.cell (k * 9 + 1)
        obtain ⟨u1, hu1⟩ : ∃ u, cs6[k * 9 + 1]? = some u := ⟨_, Array.getElem?_eq_getElem (show k * 9 + 1 < cs6.size by omega)⟩
        rw [hu1] at e1
        clear hu1
        have e7 := (r1.cell (k * 9 + 7)).trans r7
        have e8 := (r1.cell (k * 9 + 8)).trans r8
        have ef := r1.frozen
        have el := r1.lt
        have x4 := J2.out.box.cell 4
        have xln := J2.out.box.lt
        clear r1 r2 r3 r7 r8
        go_wp2
        clear e1 e7 e8 ef el x4 xln
        go_loopw [59] (fun i wz => ∃ j : Nat, j ≤ np ∧ i = .int .i64 (j : Int) ∧ Hid (OvI w7.heap.size w7 wz b6 c6 L bx #[.int .i64 s.vi, .int .i64 s.no, .int .i64 s.co, .int .i64 s.ac, .slice (some ⟨b6, 0, none⟩) n c6])) (fun i _ => np - (intOf i).toNat)
        case atStart => exact ⟨0, Nat.zero_le _, rfl, J2⟩
        case round =>
          obtain ⟨j, hj, rfl, J3⟩ := hrel
          obtain ⟨cs6, r1, r2, r3⟩ := J3.out.row
          obtain ⟨r7, r8⟩ := r3 k _ HG.out
          have e1 := r1.cell (k * 9 + 1)
          obtain ⟨u1, hu1⟩ : ∃ u, cs6[k * 9 + 1]? = some u := ⟨_, Array.getElem?_eq_getElem (show k * 9 + 1 < cs6.size by omega)⟩
          rw [hu1] at e1
          clear hu1
          have e7 := (r1.cell (k * 9 + 7)).trans r7
          have e8 := (r1.cell (k * 9 + 8)).trans r8
          have ef := r1.frozen
          have el := r1.lt
          have x4 := J3.out.box.cell 4
          have xln := J3.out.box.lt
          clear r1 r2 r3 r7 r8
          by_cases hjl : j < np
          · skip
            obtain ⟨A0, n0, c0, hv0, hx0, h0⟩ := (J3.out.lists _ HMem.out).1
            simp only at hv0
            injection hv0 with v1 v2 v3
            subst v1 v2 v3
            obtain ⟨gp, rfl, hgp, hnp, cs, hB, hsz⟩ := h0.resolve_left (by omega)
            have p0 := hB.cell (j * 5)
            obtain ⟨u0, hu0⟩ : ∃ u, cs[j * 5]? = some u := ⟨_, Array.getElem?_eq_getElem (show j * 5 < cs.size by omega)⟩
            rw [hu0] at p0
            clear hu0
            have pf := hB.frozen
            have pl := hB.lt
            have J4 : Hid (OvI w7.heap.size w7 (wr.setCell ⟨gp, j * 5, none⟩ (.int .i64 (-1))) b6 c6 L bx #[.int .i64 s.vi, .int .i64 s.no, .int .i64 s.co, .int .i64 s.ac, .slice (some ⟨b6, 0, none⟩) n c6]) := Lib.hid (J3.out.other hB (by decide) (by decide) hgp _)
            clear hB hsz h0
            go_wp2
            go_roundw
            case rel => exact ⟨j + 1, by omega, by go_num, J4⟩
            case measure => simp [intOf]; omega
          · obtain rfl : j = np := by omega
            go_wp2
            clear e1 e7 e8 ef el x4 xln
            go_loopw [81] (fun i wz => ∃ j : Nat, j ≤ nd ∧ i = .int .i64 (j : Int) ∧ Hid (OvI w7.heap.size w7 wz b6 c6 L bx #[.int .i64 s.vi, .int .i64 s.no, .int .i64 s.co, .int .i64 s.ac, .slice (some ⟨b6, 0, none⟩) n c6])) (fun i _ => nd - (intOf i).toNat)
            case atStart => exact ⟨0, Nat.zero_le _, rfl, J3⟩
            case round =>
              clear J3
              obtain ⟨j, hj, rfl, J3⟩ := hrel
              obtain ⟨cs6, r1, r2, r3⟩ := J3.out.row
              obtain ⟨r7, r8⟩ := r3 k _ HG.out
              have e1 := r1.cell (k * 9 + 1)
              obtain ⟨u1, hu1⟩ : ∃ u, cs6[k * 9 + 1]? = some u := ⟨_, Array.getElem?_eq_getElem (show k * 9 + 1 < cs6.size by omega)⟩
              rw [hu1] at e1
              clear hu1
              have e7 := (r1.cell (k * 9 + 7)).trans r7
              have e8 := (r1.cell (k * 9 + 8)).trans r8
              have ef := r1.frozen
              have el := r1.lt
              have x4 := J3.out.box.cell 4
              have xln := J3.out.box.lt
              clear r1 r2 r3 r7 r8
              by_cases hjl : j < nd
              · skip
                obtain ⟨A0, n0, c0, hv0, hx0, h0⟩ := (J3.out.lists _ HMem.out).2
                simp only at hv0
                injection hv0 with v1 v2 v3
                subst v1 v2 v3
                obtain ⟨gp, rfl, hgp, hnp, cs, hB, hsz⟩ := h0.resolve_left (by omega)
                have p0 := hB.cell j
                obtain ⟨u0, hu0⟩ : ∃ u, cs[j]? = some u := ⟨_, Array.getElem?_eq_getElem (show j < cs.size by omega)⟩
                rw [hu0] at p0
                clear hu0
                have pf := hB.frozen
                have pl := hB.lt
                have J4 : Hid (OvI w7.heap.size w7 (wr.setCell ⟨gp, j, none⟩ (.int .i64 (-1))) b6 c6 L bx #[.int .i64 s.vi, .int .i64 s.no, .int .i64 s.co, .int .i64 s.ac, .slice (some ⟨b6, 0, none⟩) n c6]) := Lib.hid (J3.out.other hB (by decide) (by decide) hgp _)
                clear hB hsz h0
                go_wp2
                go_roundw
                case rel => exact ⟨j + 1, by omega, by go_num, J4⟩
                case measure => simp [intOf]; omega
              · obtain rfl : j = nd := by omega
                go_wp2
                go_roundw
                case rel => exact ⟨k + 1, by omega, by go_num, J3⟩
                case measure => simp [intOf]; omega
      · obtain rfl : k = n := by omega
        have BZ : Hid (Below w7.heap.size w7 wr) := Lib.hid (JI.out.fr.old (Nat.le_refl _) (fun i hi => hi))
        have LZ := Lib.hid (LS.out.on BZ.out)
        have YZ := Lib.hid (Y7.out.on BZ.out)
        have EZ := Lib.hid (E7.out.on BZ.out)
        have BW := Lib.hid (B7.out.trans (BZ.out.mono B7.out.size))
        go_upto_region 27 with (fail)
        refine wp_region_held_drew (S := fun w' => Below wr.heap.size wr w') (by kernel_rfl) (Below.drewN' (Below.refl _ _) 1) (fun hHeld => ?_)
        refine take_d 0 95 (.pointer (some ⟨g, 0, none⟩)) _ rfl rfl (by kernel_rfl) (by kernel_rfl) (by kernel_rfl) (fun _ _ _ h => h) (Or.inl ⟨by rfl, fun w' hSw => ?_⟩) hHeld ?_
        · go_simp
        simp only [List.setIfInBounds_toArray, List.set_cons_zero, List.set_cons_succ]
        refine take_d 2 97 (.agg #[.int .i64 s.vi, .int .i64 s.no, .int .i64 s.co, .int .i64 s.ac, .slice A7 k c7]) _ rfl rfl (by kernel_rfl) (by kernel_rfl) (by kernel_rfl) (fun _ _ _ h => h) (Or.inl ⟨by rfl, fun w' hSw => ?_⟩) hHeld ?_
        · have z := YZ.out.on hSw
          have z0 := z.cell 0
          have z1 := z.cell 1
          have z2 := z.cell 2
          have z3 := z.cell 3
          have z4 := z.cell 4
          go_simp
        simp only [List.setIfInBounds_toArray, List.set_cons_zero, List.set_cons_succ]
        refine wpAnyH_ready (rs := [1]) (by kernel_rfl) (by simp) ?_
        refine AllReadyH.cons rfl (fun K hK => ?_) AllReadyH.nil
        go_simp
        refine (state_any (by have := SH.out.2; omega) SH.out.1 (LZ.out.on hHeld)).mono ?_
        rintro e w20 ⟨A20, c20, rfl, o20, hb20⟩
        have hS := Below.trans hHeld (hb20.mono (Below.size hHeld))
        have E20 := Lib.hid o20.read
        have V20 := Lib.hid hS
        refine hK.out _ _ hS (fun hHeld => ?_)
        clear hK K hS hb20 o20
        refine wpAnyH_ready (rs := [3]) (by kernel_rfl) (by simp) ?_
        refine AllReadyH.cons rfl (fun K hK => ?_) AllReadyH.nil
        go_simp
        refine (same13_any s s (.slice A20 s.log.length c20) (.slice A7 k c7) w20 HS.out.2 HS.out.1 SH.out.1 E20.out (EZ.out.on V20.out).read).mono ?_
        rintro e w21 ⟨cc, rfl, hcc, hb21⟩
        have hct : cc = true := hcc.2 (by first | rfl | trivial)
        subst hct
        have hS := Below.trans hHeld (hb21.mono (Below.size hHeld))
        refine hK.out _ _ hS (fun hHeld => ?_)
        clear hK K hS hb21 hcc
        refine take_d 4 2 (.bool true) _ rfl rfl (by kernel_rfl) (by kernel_rfl) (by kernel_rfl) (fun _ _ _ h => h) (Or.inl ⟨by rfl, fun w' hSw => ?_⟩) hHeld ?_
        · go_simp
        simp only [List.setIfInBounds_toArray, List.set_cons_zero, List.set_cons_succ]
        refine wpAnyH_done (by kernel_rfl) ?_ _
        have BF := Lib.hid (BW.out.trans (Below.mono hHeld BW.out.size))
        clear hHeld
        go_wp2
        go_ret
        exact ⟨rfl, BF.out⟩
end Go.Proofs.Ytgddcbjlhplmgaa
