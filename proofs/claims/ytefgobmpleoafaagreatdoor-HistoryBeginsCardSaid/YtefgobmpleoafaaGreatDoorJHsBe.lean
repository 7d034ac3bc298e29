/- HistoryBegins: the law's walk. (Written by genHsBe.py.) -/
import Derived.Test.YtefgobmpleoafaaGreatDoorJHsK
namespace Go.Proofs.YtefgobmpleoafaaGreatDoor
open Go.RowKit Go.Maps

theorem goM_old {p : ByteArray → Int × Int} {k : Nat} {s : RS} : ∀ (l : List En) {H : Hs}, H.vs[k]? = some s → (goM p H l).vs[k]? = some s
  | [], _, h => h
  | _ :: l, _, h => goM_old l (Hs.put_old h)
theorem runM_goM {p : ByteArray → Int × Int} (l : List En) (c : Nat) : runM p l = goM p (runM p (l.take c)) (l.drop c) := by
  have h : l = l.take c ++ l.drop c := (List.take_append_drop c l).symm
  show l.foldl (fun (H : Hs) x => H.put p x) Hs.start = _
  rw [h, List.foldl_append, ← h]
  rfl
theorem runM_old {p : ByteArray → Int × Int} (l : List En) (c : Nat) {k : Nat} {s : RS} (h : (runM p (l.take c)).vs[k]? = some s) : (runM p l).vs[k]? = some s := by
  rw [runM_goM l c]
  exact goM_old _ h
theorem runM_len {p : ByteArray → Int × Int} (l : List En) (c : Nat) : (runM p (l.take c)).vs.length ≤ (runM p l).vs.length := by
  rw [runM_goM l c]
  exact (goM_n _ _).2.1
theorem i64_bounds14 {z : Int} (h : (Lit.int .i64 z).wf = true) : -9223372036854775808 ≤ z ∧ z ≤ 9223372036854775807 := by
  simp [Lit.wf, IntKind.min, IntKind.max, IntKind.signed, IntKind.bits] at h
  omega
set_option maxRecDepth 100000 in
set_option maxHeartbeats 16000000 in
theorem historyBegins_law (v : Value) (l : List En) (cut : Int) (w : World) (hT : TabsAt w.heap.size w) (hm : l.length ≤ 9223372036854775807) (hV : EntsV w.heap.size w v l) (hc : -9223372036854775808 ≤ cut ∧ cut ≤ 9223372036854775807) :
    Calls Tryz.prog 7 #[v, .int .i64 cut] w fun e w' => e = .returned (.bool true) ∧ Below w.heap.size w w' := by
  obtain ⟨A, c, rfl⟩ := hV.form
  obtain ⟨n, hn⟩ : ∃ n, n = l.length := ⟨_, rfl⟩
  rw [← hn] at hV hm ⊢
  have HT := Lib.hid hT
  have HV := Lib.hid hV
  have HL := Lib.hid hn
  clear hT hV hn
  go_enter Tryz.func7, Tryz.ntmps7
  go_wp2_with fail
  refine (anchor14_any w HT.out).mono ?_
  rintro e w1 ⟨rfl, b1⟩
  have B1 := Lib.hid b1
  have SM := Lib.hid (small_any (.slice A n c) l w1 (by rw [← HL.out]; exact hm) (HV.out.on b1))
  obtain ⟨q1, hq1⟩ : ∃ q, q = smallL l := ⟨_, rfl⟩
  rw [← hq1] at SM
  clear b1 hq1
  go_wp2_with fail
  refine SM.out.mono ?_
  rintro e w2 ⟨rfl, b2⟩
  have B2 := Lib.hid (B1.out.trans (b2.mono B1.out.size))
  clear b2 SM B1
  cases q1 with
  | false =>
    go_wp2
    go_ret
    exact ⟨rfl, B2.out⟩
  | true =>
    by_cases h12 : n ≤ 14
    · have h12i : ¬ (14 : Int) < (n : Int) := by omega
      by_cases h0 : cut < 0
      · go_wp2
        go_ret
        exact ⟨rfl, B2.out⟩
      · obtain ⟨C, rfl⟩ : ∃ C : Nat, cut = (C : Int) := ⟨cut.toNat, by omega⟩
        have h0i : ¬ (C : Int) < 0 := by omega
        obtain ⟨cu, hcu⟩ : ∃ cu, cu = C % (n + 1) := ⟨_, rfl⟩
        have HCU : Hid (cu ≤ n) := Lib.hid (by rw [hcu]; have := Nat.mod_lt C (show 0 < n + 1 by omega); omega)
        have hw1 : IntKind.i64.wrap ((n : Int) + 1) = (n : Int) + 1 := by rw [IntWalk.i64_in] <;> omega
        have hrem : (C : Int) % ((n : Int) + 1) = (cu : Int) := by rw [hcu]; rfl
        clear hcu
        have NW := Lib.hid (new_one w.heap.size w w2 (Nat.le_refl _) B2.out)
        go_wp2_with fail
        refine NW.out.mono ?_
        rintro e w3 ⟨g, rfl, og⟩
        have NW2 := Lib.hid (new_two og)
        clear NW og
        go_wp2_with fail
        refine NW2.out.mono ?_
        rintro e w4 ⟨h, rfl, tw⟩
        have TW0 := Lib.hid tw
        clear NW2 tw
        go_wp2
        go_loopw [42] (fun i wr => ∃ k : Nat, k ≤ n ∧ i = .int .i64 (k : Int) ∧ Hid (Two w.heap.size w wr (fun _ => False) g h (runM pvM (l.take (min k cu))) (runM pvM (l.take k)))) (fun i _ => n - (intOf i).toNat)
        case atStart => exact ⟨0, Nat.zero_le _, rfl, Lib.hid (by rw [Nat.zero_min]; exact TW0.out)⟩
        case round =>
          obtain ⟨k, hk, rfl, TW⟩ := hrel
          have BW := Lib.hid TW.out.below
          have hsz : w.heap.size ≤ wr.heap.size := BW.out.size
          by_cases hlt : k < n
          · have hkl : k < l.length := by rw [← HL.out]; exact hlt
            obtain ⟨b, off, p, dd, rfl, hb, hef, hen⟩ := enf HV.out hkl
            have HG := Lib.hid (List.getElem?_eq_getElem hkl)
            obtain ⟨c0, c1, c2, c3, c4, c5, c6, c7, c8⟩ := hen wr BW.out
            generalize l[k] = x at HG hef c0 c1 c2 c3 c4 c5 c6 c7 c8
            obtain ⟨Ap, cp, Ad, cd, rfl, rfl⟩ := hef.forms
            obtain ⟨np, hnp⟩ : ∃ np, np = x.d.put.length := ⟨_, rfl⟩
            obtain ⟨nd, hnd⟩ : ∃ nd, nd = x.d.drop.length := ⟨_, rfl⟩
            rw [← hnp, ← hnd] at hef
            rw [← hnp] at c7
            rw [← hnd] at c8
            have HEF := Lib.hid hef
            have HN1 := Lib.hid (runM_n (p := pvM) (l.take k))
            have LK : Hid ((l.take k).length = k) := Lib.hid (by simp; omega)
            clear hef hnp hnd hen hkl
            have TB := Lib.hid (TW.out.box (.cells #[.int .i64 x.vi, .int .i64 x.cl, .int .i64 x.re, .int .i64 x.d.de, .int .i64 x.d.cl, .int .i64 x.d.fu, .int .i64 x.d.st, .slice Ap np cp, .slice Ad nd cd] 39))
            have XE := Lib.hid (Blk.new wr 39 #[.int .i64 x.vi, .int .i64 x.cl, .int .i64 x.re, .int .i64 x.d.de, .int .i64 x.d.cl, .int .i64 x.d.fu, .int .i64 x.d.st, .slice Ap np cp, .slice Ad nd cd])
            have BE := Lib.hid (BW.out.alloc hsz (.cells #[.int .i64 x.vi, .int .i64 x.cl, .int .i64 x.re, .int .i64 x.d.de, .int .i64 x.d.cl, .int .i64 x.d.fu, .int .i64 x.d.st, .slice Ap np cp, .slice Ad nd cd] 39))
            go_upto_region 10 with (fail)
            obtain ⟨xe, hxe⟩ : ∃ xe, xe = wr.heap.size := ⟨_, rfl⟩
            rw [← hxe] at TB XE ⊢
            clear hxe
            generalize wr.alloc _ = wx at *
            clear c0 c1 c2 c3 c4 c5 c6 c7 c8 hsz
            have AG := Lib.hid (add_right x (.slice Ap np cp) (.slice Ad nd cd) TB.out HT.out HEF.out (by have := HN1.out.2.2; have := LK.out; omega) (by have := HN1.out.1; have := LK.out; omega))
            obtain ⟨O, hO⟩ : ∃ O, O = (runM pvM (l.take k)).outA x := ⟨_, rfl⟩
            obtain ⟨f, hf⟩ : ∃ f, f = Hs.errA x := ⟨_, rfl⟩
            rw [← hO, ← hf] at AG
            have HO2 := Lib.hid hO
            have HFx := Lib.hid hf
            have HRT := Lib.hid (runM_take (p := pvM) HG.out)
            clear hO hf
            obtain ⟨ove, oco, oru, oat⟩ := O
            simp only at AG
            have x0 := XE.out.cell 0
            have x1 := XE.out.cell 1
            have x2 := XE.out.cell 2
            have x3 := XE.out.cell 3
            have x4 := XE.out.cell 4
            have x5 := XE.out.cell 5
            have x6 := XE.out.cell 6
            have x7 := XE.out.cell 7
            have x8 := XE.out.cell 8
            have xl := XE.out.lt
            go_wp2_with fail
            refine AG.out.mono ?_
            rintro e wa ⟨rfl, ta, ka⟩
            clear x0 x1 x2 x3 x4 x5 x6 x7 x8 xl
            have TA := Lib.hid (ta.box (.cells #[.int .i64 ove, .int .i64 oco, .int .i64 oru, .int .i64 oat] 44))
            have XE2 := Lib.hid ((ka.blk (.inr rfl) XE.out).alloc (.cells #[.int .i64 ove, .int .i64 oco, .int .i64 oru, .int .i64 oat] 44))
            have XA := Lib.hid (Blk.new wa 44 #[.int .i64 ove, .int .i64 oco, .int .i64 oru, .int .i64 oat])
            clear ta ka AG TB XE
            go_upto_region 11 with (fail)
            obtain ⟨xa, hxa⟩ : ∃ xa, xa = wa.heap.size := ⟨_, rfl⟩
            rw [← hxa] at TA XA ⊢
            clear hxa
            generalize wa.alloc _ = wb at *
            by_cases hcu : cu ≤ k
            · have hcui : (cu : Int) ≤ (k : Int) := by omega
              have MN1 : Hid (min k cu = cu ∧ min (k + 1) cu = cu) := Lib.hid ⟨by omega, by omega⟩
              have REL : Hid (Two w.heap.size w wb (fun _ => False) g h (runM pvM (l.take (min (k + 1) cu))) (runM pvM (l.take (k + 1)))) := Lib.hid (by
                rw [HRT.out, MN1.out.2]
                have h := TA.out.less (Y := fun _ => False) (fun _ e => e.elim)
                rwa [MN1.out.1] at h)
              go_wp2
              go_roundw
              case rel => exact ⟨k + 1, hlt, by go_num, REL⟩
              case measure => simp [intOf]; omega
            · have hcui : ¬ (cu : Int) ≤ (k : Int) := by omega
              have MN1 : Hid (min k cu = k ∧ min (k + 1) cu = k + 1) := Lib.hid ⟨by omega, by omega⟩
              have TA2 : Hid (Two w.heap.size w wb _ g h (runM pvM (l.take k)) _) := Lib.hid (by have h := TA.out; rwa [MN1.out.1] at h)
              have AH := Lib.hid (add_left x (.slice Ap np cp) (.slice Ad nd cd) TA2.out HT.out HEF.out (by have := HN1.out.2.2; have := LK.out; omega) (by have := HN1.out.1; have := LK.out; omega))
              rw [← HO2.out, ← HFx.out] at AH
              simp only at AH
              have x0 := XE2.out.cell 0
              have x1 := XE2.out.cell 1
              have x2 := XE2.out.cell 2
              have x3 := XE2.out.cell 3
              have x4 := XE2.out.cell 4
              have x5 := XE2.out.cell 5
              have x6 := XE2.out.cell 6
              have x7 := XE2.out.cell 7
              have x8 := XE2.out.cell 8
              have xl := XE2.out.lt
              go_wp2_with fail
              refine AH.out.mono ?_
              rintro e wc ⟨rfl, tc, kc⟩
              clear x0 x1 x2 x3 x4 x5 x6 x7 x8 xl
              have TC := Lib.hid ((tc.box (.cells #[.int .i64 ove, .int .i64 oco, .int .i64 oru, .int .i64 oat] 44)).less (Y := fun _ => False) (fun _ e => e.elim))
              have XA2 := Lib.hid ((kc.blk (.inr rfl) XA.out).alloc (.cells #[.int .i64 ove, .int .i64 oco, .int .i64 oru, .int .i64 oat] 44))
              have XB := Lib.hid (Blk.new wc 44 #[.int .i64 ove, .int .i64 oco, .int .i64 oru, .int .i64 oat])
              clear tc kc AH TA TA2 XE2 XA BE
              go_upto_region 13 with (fail)
              obtain ⟨xb, hxb⟩ : ∃ xb, xb = wc.heap.size := ⟨_, rfl⟩
              rw [← hxb] at XB ⊢
              clear hxb
              generalize wc.alloc _ = wd at *
              have hq : ∀ w, (binOp .neq 44 (.agg #[.int .i64 ove, .int .i64 oco, .int .i64 oru, .int .i64 oat]) (.agg #[.int .i64 ove, .int .i64 oco, .int .i64 oru, .int .i64 oat])).run Tryz.prog w = .ok (.bool false) w := fun w => by rw [run_neq_oc]; simp
              have hff : (f != f) = false := by simp
              have a0 := XA2.out.cell 0
              have a1 := XA2.out.cell 1
              have a2 := XA2.out.cell 2
              have a3 := XA2.out.cell 3
              have al := XA2.out.lt
              have d0 := XB.out.cell 0
              have d1 := XB.out.cell 1
              have d2 := XB.out.cell 2
              have d3 := XB.out.cell 3
              have dl := XB.out.lt
              have REL : Hid (Two w.heap.size w wd (fun _ => False) g h (runM pvM (l.take (min (k + 1) cu))) (runM pvM (l.take (k + 1)))) := Lib.hid (by
                rw [MN1.out.2, HRT.out]
                exact TC.out)
              go_wp2
              go_roundw
              case rel => exact ⟨k + 1, hlt, by go_num, REL⟩
              case measure => simp [intOf]; omega
          · obtain rfl : k = n := by omega
            have TW4 : Hid (Two w.heap.size w wr (fun _ => False) g h (runM pvM (l.take cu)) (runM pvM l)) := Lib.hid (by
              have := TW.out
              rwa [List.take_of_length_le (l := l) (i := k) (by rw [← HL.out]; omega), Nat.min_eq_right HCU.out] at this)
            clear TW hsz
            obtain ⟨kk, hkk⟩ : ∃ kk, (runM pvM (l.take cu)).vs.length = kk + 1 := ⟨(runM pvM (l.take cu)).vs.length - 1, by have := (runM_n (p := pvM) (l.take cu)).2.1; omega⟩
            obtain ⟨hh, hhh⟩ : ∃ hh, (runM pvM l).vs.length = hh + 1 := ⟨(runM pvM l).vs.length - 1, by have := (runM_n (p := pvM) l).2.1; omega⟩
            have HKG := Lib.hid hkk
            have HKH := Lib.hid hhh
            have KH : kk ≤ hh := by have := runM_len (p := pvM) l cu; omega
            have KB : hh ≤ 64 := by have := (runM_n (p := pvM) l).2.2; have := HL.out; omega
            clear hkk hhh BW
            go_wp2
            go_loopw [14] (fun i wq => ∃ j : Nat, j ≤ kk + 1 ∧ i = .int .i64 (j : Int) ∧ Hid (Two w.heap.size w wq (fun _ => False) g h (runM pvM (l.take cu)) (runM pvM l))) (fun i _ => kk + 1 - (intOf i).toNat)
            case atStart => exact ⟨0, Nat.zero_le _, rfl, TW4⟩
            case round =>
              clear TW4
              obtain ⟨j, hj, rfl, TJ⟩ := hrel
              have V1 := Lib.hid (version_one kk HKG.out TJ.out.left)
              go_wp2_with fail
              refine V1.out.mono ?_
              rintro e wv ⟨rfl, rfl⟩
              clear V1
              by_cases hjk : j ≤ kk
              · have hjki : (j : Int) ≤ (kk : Int) := by omega
                obtain ⟨s, hs⟩ : ∃ s, (runM pvM (l.take cu)).vs[j]? = some s := ⟨_, List.getElem?_eq_getElem (by have := HKG.out; omega)⟩
                have HSG := Lib.hid hs
                have HSH := Lib.hid (runM_old (p := pvM) l cu hs)
                obtain ⟨ns, hns⟩ : ∃ ns, ns = s.rs.length := ⟨_, rfl⟩
                have HNS := Lib.hid hns
                clear hs hns
                have S1 := Lib.hid (set_one j kk s HKG.out HSG.out TJ.out.left)
                go_wp2_with fail
                refine S1.out.mono ?_
                rintro e w5 ⟨As, cs, rfl, rg, hfw, b5⟩
                have FW := Lib.hid hfw
                rw [← HNS.out] at rg ⊢
                have b6 := (Below.refl w5.heap.size w5).alloc (Nat.le_refl _) (.cells #[.int .i64 s.de, .int .i64 s.cl, .int .i64 s.fu, .int .i64 s.st, .slice As ns cs] 54)
                have T6 := Lib.hid ((TJ.out.on b5).on b6)
                have XS6 := Lib.hid (Blk.new w5 54 #[.int .i64 s.de, .int .i64 s.cl, .int .i64 s.fu, .int .i64 s.st, .slice As ns cs])
                have RG6 := Lib.hid (rg.on b6)
                clear hfw rg b5 b6 S1 TJ
                go_upto_region 20 with (fail)
                obtain ⟨sb, hsb⟩ : ∃ sb, sb = w5.heap.size := ⟨_, rfl⟩
                rw [← hsb] at XS6 ⊢
                clear hsb
                generalize w5.alloc _ = w6 at *
                have S2 := Lib.hid (set_one j hh s HKH.out HSH.out T6.out.right)
                go_wp2_with fail
                refine S2.out.mono ?_
                rintro e w7 ⟨Bs, ds, rfl, rh, _, b7⟩
                rw [← HNS.out] at rh ⊢
                have b8 := (Below.refl w7.heap.size w7).alloc (Nat.le_refl _) (.cells #[.int .i64 s.de, .int .i64 s.cl, .int .i64 s.fu, .int .i64 s.st, .slice Bs ns ds] 54)
                have T8 := Lib.hid ((T6.out.on b7).on b8)
                have XS := Lib.hid ((XS6.out.on b7).on b8)
                have XT := Lib.hid (Blk.new w7 54 #[.int .i64 s.de, .int .i64 s.cl, .int .i64 s.fu, .int .i64 s.st, .slice Bs ns ds])
                have RG := Lib.hid ((RG6.out.on b7).on b8)
                have RH := Lib.hid (rh.on b8)
                clear rh b7 b8 S2 T6 XS6 RG6
                go_upto_region 21 with (fail)
                obtain ⟨tb, htb⟩ : ∃ tb, tb = w7.heap.size := ⟨_, rfl⟩
                rw [← htb] at XT ⊢
                clear htb
                generalize w7.alloc _ = wz at *
                refine wp_region_held_drew (S := fun w' => Below wz.heap.size wz w') (by kernel_rfl) (Below.drewN' (Below.refl _ wz) 1) (fun hHeld => ?_)
                refine take_d 0 89 (.bool true) _ rfl rfl (by kernel_rfl) (by kernel_rfl) (by kernel_rfl) (fun _ _ _ h => h) (Or.inl ⟨by rfl, fun w' hSw => ?_⟩) hHeld ?_
                · go_simp
                simp only [List.setIfInBounds_toArray, List.set_cons_zero, List.set_cons_succ]
                refine take_d 1 90 (.bool false) _ rfl rfl (by kernel_rfl) (by kernel_rfl) (by kernel_rfl) (fun _ _ _ h => h) (Or.inl ⟨by rfl, fun w' hSw => ?_⟩) hHeld ?_
                · go_simp
                simp only [List.setIfInBounds_toArray, List.set_cons_zero, List.set_cons_succ]
                refine take_d 2 91 (.bool false) _ rfl rfl (by kernel_rfl) (by kernel_rfl) (by kernel_rfl) (fun _ _ _ h => h) (Or.inl ⟨by rfl, fun w' hSw => ?_⟩) hHeld ?_
                · go_simp
                simp only [List.setIfInBounds_toArray, List.set_cons_zero, List.set_cons_succ]
                refine take_d 3 92 (.bool true) _ rfl rfl (by kernel_rfl) (by kernel_rfl) (by kernel_rfl) (fun _ _ _ h => h) (Or.inl ⟨by rfl, fun w' hSw => ?_⟩) hHeld ?_
                · go_simp
                simp only [List.setIfInBounds_toArray, List.set_cons_zero, List.set_cons_succ]
                refine take_d 4 93 (.bool false) _ rfl rfl (by kernel_rfl) (by kernel_rfl) (by kernel_rfl) (fun _ _ _ h => h) (Or.inl ⟨by rfl, fun w' hSw => ?_⟩) hHeld ?_
                · go_simp
                simp only [List.setIfInBounds_toArray, List.set_cons_zero, List.set_cons_succ]
                refine take_d 5 94 (.bool false) _ rfl rfl (by kernel_rfl) (by kernel_rfl) (by kernel_rfl) (fun _ _ _ h => h) (Or.inl ⟨by rfl, fun w' hSw => ?_⟩) hHeld ?_
                · go_simp
                simp only [List.setIfInBounds_toArray, List.set_cons_zero, List.set_cons_succ]
                refine take_d 6 95 (.bool false) _ rfl rfl (by kernel_rfl) (by kernel_rfl) (by kernel_rfl) (fun _ _ _ h => h) (Or.inl ⟨by rfl, fun w' hSw => ?_⟩) hHeld ?_
                · go_simp
                simp only [List.setIfInBounds_toArray, List.set_cons_zero, List.set_cons_succ]
                refine take_d 7 96 (.agg #[.int .i64 s.de, .int .i64 s.cl, .int .i64 s.fu, .int .i64 s.st, .slice As ns cs]) _ rfl rfl (by kernel_rfl) (by kernel_rfl) (by kernel_rfl) (fun _ _ _ h => h) (Or.inl ⟨by rfl, fun w' hSw => ?_⟩) hHeld ?_
                · have q0 := (XS.out.on hSw).cell 0
                  have q1 := (XS.out.on hSw).cell 1
                  have q2 := (XS.out.on hSw).cell 2
                  have q3 := (XS.out.on hSw).cell 3
                  have q4 := (XS.out.on hSw).cell 4
                  go_simp
                simp only [List.setIfInBounds_toArray, List.set_cons_zero, List.set_cons_succ]
                refine take_d 9 98 (.agg #[.int .i64 s.de, .int .i64 s.cl, .int .i64 s.fu, .int .i64 s.st, .slice Bs ns ds]) _ rfl rfl (by kernel_rfl) (by kernel_rfl) (by kernel_rfl) (fun _ _ _ h => h) (Or.inl ⟨by rfl, fun w' hSw => ?_⟩) hHeld ?_
                · have q0 := (XT.out.on hSw).cell 0
                  have q1 := (XT.out.on hSw).cell 1
                  have q2 := (XT.out.on hSw).cell 2
                  have q3 := (XT.out.on hSw).cell 3
                  have q4 := (XT.out.on hSw).cell 4
                  go_simp
                simp only [List.setIfInBounds_toArray, List.set_cons_zero, List.set_cons_succ]
                refine wpAnyH_ready (rs := [8]) (by kernel_rfl) (by simp) ?_
                refine AllReadyH.cons rfl (fun K hK => ?_) AllReadyH.nil
                go_simp
                refine (madeSet_any s (.slice As ns cs) _ (by have := FW.out; omega) (RG.out.on hHeld)).mono ?_
                rintro e m1 ⟨MV, rfl, ox, hbk⟩
                obtain ⟨Mm1, Nm1, rfl⟩ := OwnU.form ox
                have Om1 := Lib.hid (OwnU.set ox)
                have hSk := hHeld.trans (hbk.mono hHeld.size)
                rw [← HNS.out] at Om1 ⊢
                refine hK.out _ _ hSk (fun hHeld => ?_)
                clear hK K hbk hSk ox
                refine wpAnyH_ready (rs := [10]) (by kernel_rfl) (by simp) ?_
                refine AllReadyH.cons rfl (fun K hK => ?_) AllReadyH.nil
                go_simp
                refine (madeSet_any s (.slice Bs ns ds) _ (by have := FW.out; omega) (RH.out.on hHeld)).mono ?_
                rintro e m2 ⟨MV, rfl, ox, hbk⟩
                obtain ⟨Mm2, Nm2, rfl⟩ := OwnU.form ox
                have Om2 := Lib.hid (OwnU.set ox)
                have hSk := hHeld.trans (hbk.mono hHeld.size)
                have Om1 := Lib.hid (Om1.out.on hbk)
                rw [← HNS.out] at Om2 ⊢
                refine hK.out _ _ hSk (fun hHeld => ?_)
                clear hK K hbk hSk ox
                refine wpAnyH_ready (rs := [11]) (by kernel_rfl) (by simp) ?_
                refine AllReadyH.cons rfl (fun K hK => ?_) AllReadyH.nil
                go_simp
                refine (same_any s s (.slice Mm1 ns Nm1) (.slice Mm2 ns Nm2) _ (by have := FW.out; omega) (by have := FW.out; omega) Om1.out Om2.out).mono ?_
                rintro e wk3 ⟨cc, rfl, hcc, hbk⟩
                have hct : cc = true := hcc.2 rfl
                subst hct
                have hSk := hHeld.trans (hbk.mono hHeld.size)
                refine hK.out _ _ hSk (fun hHeld => ?_)
                clear hK K hbk hSk hcc
                refine take_d 12 101 (.bool false) _ rfl rfl (by kernel_rfl) (by kernel_rfl) (by kernel_rfl) (fun _ _ _ h => h) (Or.inl ⟨by rfl, fun w' hSw => ?_⟩) hHeld ?_
                · go_simp
                simp only [List.setIfInBounds_toArray, List.set_cons_zero, List.set_cons_succ]
                refine take_d 13 102 (.bool false) _ rfl rfl (by kernel_rfl) (by kernel_rfl) (by kernel_rfl) (fun _ _ _ h => h) (Or.inl ⟨by rfl, fun w' hSw => ?_⟩) hHeld ?_
                · go_simp
                simp only [List.setIfInBounds_toArray, List.set_cons_zero, List.set_cons_succ]
                refine wpAnyH_done (by kernel_rfl) ?_ _
                have TF := Lib.hid (T8.out.on hHeld)
                clear hHeld
                go_wp2
                go_roundw
                case rel => exact ⟨j + 1, by omega, by go_num, TF⟩
                case measure => simp [intOf]; omega
              · have hjki : ¬ (j : Int) ≤ (kk : Int) := by omega
                have V2 := Lib.hid (version_one kk HKG.out TJ.out.left)
                have V3 := Lib.hid (version_one hh HKH.out TJ.out.right)
                have khi : (kk : Int) ≤ (hh : Int) := by omega
                go_wp2_with fail
                refine V2.out.mono ?_
                rintro e wv ⟨rfl, rfl⟩
                go_wp2_with fail
                refine V3.out.mono ?_
                rintro e wv ⟨rfl, rfl⟩
                have FB := Lib.hid TJ.out.below
                go_wp2
                go_ret
                exact ⟨rfl, FB.out⟩
    · have h12i : (14 : Int) < (n : Int) := by omega
      go_wp2
      go_ret
      exact ⟨rfl, B2.out⟩
end Go.Proofs.YtefgobmpleoafaaGreatDoor

