/- HistoryTwice: the law's walk. (Written by genHsTw.py.) -/
import Derived.Test.YtefgobmpleoafaaGreatDoorJHsK
namespace Go.Proofs.YtefgobmpleoafaaGreatDoor
open Go.RowKit Go.Maps

set_option maxRecDepth 100000 in
set_option maxHeartbeats 16000000 in
theorem historyTwice_law (v : Value) (l : List En) (u : Value) (r : List Int) (w : World) (hT : TabsAt w.heap.size w) (hm : l.length ≤ 9223372036854775807) (hV : EntsV w.heap.size w v l) (hmr : r.length ≤ 9223372036854775807) (hU : Row w.heap.size w u (zI r)) :
    Calls Tryz.prog 5 #[v, u] w fun e w' => e = .returned (.bool true) ∧ Below w.heap.size w w' := by
  obtain ⟨A, c, rfl⟩ := hV.form
  obtain ⟨B, d, hu⟩ := hU.form
  rw [zI_len] at hu
  subst hu
  obtain ⟨n, hn⟩ : ∃ n, n = l.length := ⟨_, rfl⟩
  obtain ⟨m, hmm⟩ : ∃ m, m = r.length := ⟨_, rfl⟩
  rw [← hn] at hV hm ⊢
  rw [← hmm] at hU hmr ⊢
  have HT := Lib.hid hT
  have HV := Lib.hid hV
  have HU := Lib.hid hU
  have HL := Lib.hid hn
  have HR := Lib.hid hmm
  clear hT hV hU hn hmm
  go_enter Tryz.func5, Tryz.ntmps5
  go_wp2_with fail
  refine (anchor14_any w HT.out).mono ?_
  rintro e w1 ⟨rfl, b1⟩
  have B1 := Lib.hid b1
  have SM := Lib.hid (small_any (.slice A n c) l w1 (by rw [← HL.out]; exact hm) (HV.out.on b1))
  obtain ⟨q1, hq1⟩ : ∃ q, q = smallL l := ⟨_, rfl⟩
  rw [← hq1] at SM
  clear b1 hq1
  go_wp2_with fail
  refine SM.out.mono ?_
  rintro e w2 ⟨rfl, b2⟩
  have B2 := Lib.hid (B1.out.trans (b2.mono B1.out.size))
  clear b2 SM B1
  cases q1 with
  | false =>
    go_wp2
    go_ret
    exact ⟨rfl, B2.out⟩
  | true =>
    by_cases h12 : n ≤ 12
    · have h12i : ¬ (12 : Int) < (n : Int) := by omega
      by_cases h20 : m ≤ 20
      · have h20i : ¬ (20 : Int) < (m : Int) := by omega
        have NW := Lib.hid (new_one w.heap.size w w2 (Nat.le_refl _) B2.out)
        go_wp2_with fail
        refine NW.out.mono ?_
        rintro e w3 ⟨g, rfl, og⟩
        have NW2 := Lib.hid (new_two og)
        clear NW og
        go_wp2_with fail
        refine NW2.out.mono ?_
        rintro e w4 ⟨h, rfl, tw⟩
        have TW0 := Lib.hid tw
        clear NW2 tw
        go_wp2
        go_loopw [38] (fun i wr => ∃ (k : Nat) (Hh : Hs), k ≤ n ∧ i = .int .i64 (k : Int) ∧ Hid (Two w.heap.size w wr (fun _ => False) g h (runM pvM (l.take k)) Hh) ∧ Hid (Alike14 (runM pvM (l.take k)) Hh ∧ Hh.n ≤ 2 * k)) (fun i _ => n - (intOf i).toNat)
        case atStart => exact ⟨0, .start, Nat.zero_le _, rfl, TW0, Lib.hid ⟨Alike14.refl _, Nat.le_refl _⟩⟩
        case round =>
          obtain ⟨k, Hh, hk, rfl, TW, AL⟩ := hrel
          have BW := Lib.hid TW.out.below
          have hsz : w.heap.size ≤ wr.heap.size := BW.out.size
          by_cases hlt : k < n
          · have hkl : k < l.length := by rw [← HL.out]; exact hlt
            obtain ⟨b, off, p, dd, rfl, hb, hef, hen⟩ := enf HV.out hkl
            have HG := Lib.hid (List.getElem?_eq_getElem hkl)
            have HMem := Lib.hid (List.getElem_mem hkl)
            obtain ⟨c0, c1, c2, c3, c4, c5, c6, c7, c8⟩ := hen wr BW.out
            generalize l[k] = x at HG HMem hef c0 c1 c2 c3 c4 c5 c6 c7 c8
            obtain ⟨Ap, cp, Ad, cd, rfl, rfl⟩ := hef.forms
            obtain ⟨np, hnp⟩ : ∃ np, np = x.d.put.length := ⟨_, rfl⟩
            obtain ⟨nd, hnd⟩ : ∃ nd, nd = x.d.drop.length := ⟨_, rfl⟩
            rw [← hnp, ← hnd] at hef
            rw [← hnp] at c7
            rw [← hnd] at c8
            have HEF := Lib.hid hef
            have HN1 := Lib.hid (runM_n (p := pvM) (l.take k))
            have LK : Hid ((l.take k).length = k) := Lib.hid (by simp; omega)
            clear hef hnp hnd hen hkl
            have TB := Lib.hid (TW.out.box (.cells #[.int .i64 x.vi, .int .i64 x.cl, .int .i64 x.re, .int .i64 x.d.de, .int .i64 x.d.cl, .int .i64 x.d.fu, .int .i64 x.d.st, .slice Ap np cp, .slice Ad nd cd] 39))
            have XE := Lib.hid (Blk.new wr 39 #[.int .i64 x.vi, .int .i64 x.cl, .int .i64 x.re, .int .i64 x.d.de, .int .i64 x.d.cl, .int .i64 x.d.fu, .int .i64 x.d.st, .slice Ap np cp, .slice Ad nd cd])
            have BE := Lib.hid (BW.out.alloc hsz (.cells #[.int .i64 x.vi, .int .i64 x.cl, .int .i64 x.re, .int .i64 x.d.de, .int .i64 x.d.cl, .int .i64 x.d.fu, .int .i64 x.d.st, .slice Ap np cp, .slice Ad nd cd] 39))
            go_upto_region 9 with (fail)
            obtain ⟨xe, hxe⟩ : ∃ xe, xe = wr.heap.size := ⟨_, rfl⟩
            rw [← hxe] at TB XE ⊢
            clear hxe
            generalize wr.alloc _ = wx at *
            clear c0 c1 c2 c3 c4 c5 c6 c7 c8 hsz
            have AG := Lib.hid (add_left x (.slice Ap np cp) (.slice Ad nd cd) TB.out HT.out HEF.out (by have := HN1.out.2.2; have := LK.out; omega) (by have := HN1.out.1; have := LK.out; omega))
            obtain ⟨O, hO⟩ : ∃ O, O = (runM pvM (l.take k)).outA x := ⟨_, rfl⟩
            have hO2 : Hh.outA x = O := by rw [hO]; unfold Hs.outA; rw [AL.out.1.out]
            obtain ⟨f, hf⟩ : ∃ f, f = Hs.errA x := ⟨_, rfl⟩
            rw [← hO, ← hf] at AG
            have HO2 := Lib.hid hO2
            have HFx := Lib.hid hf
            clear hO hO2 hf
            obtain ⟨ove, oco, oru, oat⟩ := O
            simp only at AG
            have x0 := XE.out.cell 0
            have x1 := XE.out.cell 1
            have x2 := XE.out.cell 2
            have x3 := XE.out.cell 3
            have x4 := XE.out.cell 4
            have x5 := XE.out.cell 5
            have x6 := XE.out.cell 6
            have x7 := XE.out.cell 7
            have x8 := XE.out.cell 8
            have xl := XE.out.lt
            go_wp2_with fail
            refine AG.out.mono ?_
            rintro e wa ⟨rfl, ta, ka⟩
            clear x0 x1 x2 x3 x4 x5 x6 x7 x8 xl
            have TA := Lib.hid (ta.box (.cells #[.int .i64 ove, .int .i64 oco, .int .i64 oru, .int .i64 oat] 44))
            have XE2 := Lib.hid ((ka.blk (.inr rfl) XE.out).alloc (.cells #[.int .i64 ove, .int .i64 oco, .int .i64 oru, .int .i64 oat] 44))
            have XA := Lib.hid (Blk.new wa 44 #[.int .i64 ove, .int .i64 oco, .int .i64 oru, .int .i64 oat])
            clear ta ka AG TB XE
            go_upto_region 10 with (fail)
            obtain ⟨xa, hxa⟩ : ∃ xa, xa = wa.heap.size := ⟨_, rfl⟩
            rw [← hxa] at TA XA ⊢
            clear hxa
            generalize wa.alloc _ = wb at *
            have AH := Lib.hid (add_right x (.slice Ap np cp) (.slice Ad nd cd) TA.out HT.out HEF.out (by have := HN1.out.2.2; have := LK.out; have := AL.out.1.1; rw [← this]; omega) (by have := AL.out.2; omega))
            rw [HO2.out, ← HFx.out] at AH
            simp only at AH
            have x0 := XE2.out.cell 0
            have x1 := XE2.out.cell 1
            have x2 := XE2.out.cell 2
            have x3 := XE2.out.cell 3
            have x4 := XE2.out.cell 4
            have x5 := XE2.out.cell 5
            have x6 := XE2.out.cell 6
            have x7 := XE2.out.cell 7
            have x8 := XE2.out.cell 8
            have xl := XE2.out.lt
            go_wp2_with fail
            refine AH.out.mono ?_
            rintro e wc ⟨rfl, tc, kc⟩
            clear x0 x1 x2 x3 x4 x5 x6 x7 x8 xl
            have TC := Lib.hid ((tc.box (.cells #[.int .i64 ove, .int .i64 oco, .int .i64 oru, .int .i64 oat] 44)).less (Y := fun _ => False) (fun _ e => e.elim))
            have XA2 := Lib.hid ((kc.blk (.inr rfl) XA.out).alloc (.cells #[.int .i64 ove, .int .i64 oco, .int .i64 oru, .int .i64 oat] 44))
            have XB := Lib.hid (Blk.new wc 44 #[.int .i64 ove, .int .i64 oco, .int .i64 oru, .int .i64 oat])
            clear tc kc AH TA XE2 XA BE
            go_upto_region 11 with (fail)
            obtain ⟨xb, hxb⟩ : ∃ xb, xb = wc.heap.size := ⟨_, rfl⟩
            rw [← hxb] at XB ⊢
            clear hxb
            generalize wc.alloc _ = wd at *
            have BD := Lib.hid TC.out.below
            have hq : ∀ w, (binOp .neq 44 (.agg #[.int .i64 ove, .int .i64 oco, .int .i64 oru, .int .i64 oat]) (.agg #[.int .i64 ove, .int .i64 oco, .int .i64 oru, .int .i64 oat])).run Tryz.prog w = .ok (.bool false) w := fun w => by rw [run_neq_oc]; simp
            have HRT := Lib.hid (runM_take (p := pvM) HG.out)
            have AL2 : Hid (Alike14 (runM pvM (l.take (k + 1))) (Hh.put pvM x) ∧ (Hh.put pvM x).n ≤ 2 * k + 1) := Lib.hid ⟨by rw [HRT.out]; exact AL.out.1.put, by have := Hs.put_n (p := pvM) (h := Hh) (e := x); have := AL.out.2; omega⟩
            have a0 := XA2.out.cell 0
            have a1 := XA2.out.cell 1
            have a2 := XA2.out.cell 2
            have a3 := XA2.out.cell 3
            have al := XA2.out.lt
            have d0 := XB.out.cell 0
            have d1 := XB.out.cell 1
            have d2 := XB.out.cell 2
            have d3 := XB.out.cell 3
            have dl := XB.out.lt
            go_upto_region 13 with (fail)
            clear a0 a1 a2 a3 al
            clear d0 d1 d2 d3 dl
            clear hq
            have REL : Hid (Two w.heap.size w wd (fun _ => False) g h (runM pvM (l.take (k + 1))) (Hh.put pvM x)) := Lib.hid (by rw [HRT.out]; exact TC.out)
            by_cases hkm : k < m
            · have hkmi : (k : Int) < (m : Int) := by omega
              have hkr : k < r.length := by rw [← HR.out]; exact hkm
              obtain ⟨bu, ou, rfl, hbu, u0⟩ := (HU.out.below BD.out).at_ hkr
              generalize r[k] = y at u0
              by_cases hy0 : y < 0
              · have hy0' : ¬ 0 ≤ y := by omega
                go_wp2
                go_roundw
                case rel => exact ⟨k + 1, Hh.put pvM x, hlt, by go_num, REL, Lib.hid ⟨AL2.out.1, by have := AL2.out.2; omega⟩⟩
                case measure => simp [intOf]; omega
              · obtain ⟨j, rfl⟩ : ∃ j : Nat, y = (j : Int) := ⟨y.toNat, by omega⟩
                have hy0' : (0 : Int) ≤ (j : Int) := by omega
                by_cases hjk : j ≤ k
                · have hjki : (j : Int) ≤ (k : Int) := by omega
                  have hjn : (j : Int) < (n : Int) := by omega
                  have hjl : j < l.length := by rw [← HL.out]; omega
                  obtain ⟨b', off', p, dd, hAA, hb', hef, hen⟩ := enf HV.out hjl
                  have e1 : b = b' := by injection hAA with h; injection h
                  have e2 : off = off' := by injection hAA with h; injection h
                  subst e1
                  subst e2
                  have HSeen : Hid (l[j].ok = true → (Hh.put pvM x).twice l[j]) := Lib.hid fun ho => (AL2.out.1.twice).1 (runM_seen (by
                    refine List.mem_take_iff_getElem.2 ⟨j, ?_, rfl⟩
                    omega) ho)
                  obtain ⟨c0, c1, c2, c3, c4, c5, c6, c7, c8⟩ := hen wd BD.out
                  generalize l[j] = y at HSeen hef c0 c1 c2 c3 c4 c5 c6 c7 c8
                  obtain ⟨Aq, cq, Af, cf, rfl, rfl⟩ := hef.forms
                  obtain ⟨nq, hnq⟩ : ∃ nq, nq = y.d.put.length := ⟨_, rfl⟩
                  obtain ⟨nf, hnf⟩ : ∃ nf, nf = y.d.drop.length := ⟨_, rfl⟩
                  rw [← hnq, ← hnf] at hef
                  rw [← hnq] at c7
                  rw [← hnf] at c8
                  have AJ := Lib.hid (add_right y (.slice Aq nq cq) (.slice Af nf cf) REL.out HT.out hef (by have h1 := runM_n (p := pvM) (l.take (k + 1)); have h2 := AL2.out.1.1; rw [← h2]; have h3 : (l.take (k + 1)).length ≤ k + 1 := by simp; omega
                                                                                                             omega) (by have := AL2.out.2; omega))
                  obtain ⟨P, hP⟩ : ∃ P, P = (Hh.put pvM x).outA y := ⟨_, rfl⟩
                  obtain ⟨f2, hf2⟩ : ∃ f2, f2 = Hs.errA y := ⟨_, rfl⟩
                  rw [← hP, ← hf2] at AJ
                  have HP := Lib.hid hP
                  have HF2 := Lib.hid hf2
                  clear hP hf2 hnq hnf hen hAA hjl hb'
                  obtain ⟨pve, pco, pru, pat⟩ := P
                  simp only at AJ
                  go_wp2_with fail
                  refine AJ.out.mono ?_
                  rintro e wf ⟨rfl, tf, _⟩
                  have TF := Lib.hid ((tf.box (.cells #[.int .i64 pve, .int .i64 pco, .int .i64 pru, .int .i64 pat] 44)).less (Y := fun _ => False) (fun _ e => e.elim))
                  have XF := Lib.hid (Blk.new wf 44 #[.int .i64 pve, .int .i64 pco, .int .i64 pru, .int .i64 pat])
                  have AL3 : Hid (Alike14 (runM pvM (l.take (k + 1))) ((Hh.put pvM x).put pvM y) ∧ ((Hh.put pvM x).put pvM y).n ≤ 2 * (k + 1)) := Lib.hid ⟨AL2.out.1.again HSeen.out, by have := Hs.put_n (p := pvM) (h := Hh.put pvM x) (e := y); have := AL2.out.2; omega⟩
                  clear tf AJ c0 c1 c2 c3 c4 c5 c6 c7 c8 u0
                  go_upto_region 15 with (fail)
                  generalize wf.alloc _ = wg at *
                  cases hyo : y.ok with
                  | true =>
                    have hf0 : f2 = 0 := by rw [HF2.out]; unfold Hs.errA; rw [if_pos hyo]
                    have hp0 := HP.out
                    unfold Hs.outA at hp0
                    rw [if_pos hyo, Hs.out_twice (HSeen.out hyo)] at hp0
                    injection hp0 with e1 e2 e3 e4
                    subst e1
                    subst e2
                    subst hf0
                    have f0 := XF.out.cell 0
                    have f1 := XF.out.cell 1
                    have fl := XF.out.lt
                    clear e3 e4
                    go_wp2
                    go_roundw
                    case rel => exact ⟨k + 1, (Hh.put pvM x).put pvM y, hlt, by go_num, TF, AL3⟩
                    case measure => simp [intOf]; omega
                  | false =>
                    have hf0 : f2 = 10 := by rw [HF2.out]; unfold Hs.errA; rw [if_neg (by rw [hyo]; decide)]
                    subst hf0
                    go_wp2
                    go_roundw
                    case rel => exact ⟨k + 1, (Hh.put pvM x).put pvM y, hlt, by go_num, TF, AL3⟩
                    case measure => simp [intOf]; omega
                · have hjki : ¬ (j : Int) ≤ (k : Int) := by omega
                  go_wp2
                  go_roundw
                  case rel => exact ⟨k + 1, Hh.put pvM x, hlt, by go_num, REL, Lib.hid ⟨AL2.out.1, by have := AL2.out.2; omega⟩⟩
                  case measure => simp [intOf]; omega
            · have hkmi : ¬ (k : Int) < (m : Int) := by omega
              go_wp2
              go_roundw
              case rel => exact ⟨k + 1, Hh.put pvM x, hlt, by go_num, REL, Lib.hid ⟨AL2.out.1, by have := AL2.out.2; omega⟩⟩
              case measure => simp [intOf]; omega
          · obtain rfl : k = n := by omega
            have AL4 : Hid (Alike14 (runM pvM l) Hh) := Lib.hid (by have := AL.out.1; rwa [List.take_of_length_le (by rw [← HL.out]; omega)] at this)
            have TW4 : Hid (Two w.heap.size w wr (fun _ => False) g h (runM pvM l) Hh) := Lib.hid (by have := TW.out; rwa [List.take_of_length_le (by rw [← HL.out]; omega)] at this)
            clear TW AL
            obtain ⟨kk, hkk⟩ : ∃ kk, (runM pvM l).vs.length = kk + 1 := ⟨(runM pvM l).vs.length - 1, by have := (runM_n (p := pvM) l).2.1; omega⟩
            have HKG := Lib.hid hkk
            have HKH : Hid (Hh.vs.length = kk + 1) := Lib.hid (by rw [← AL4.out.1]; exact hkk)
            obtain ⟨s, hs⟩ : ∃ s, (runM pvM l).vs[kk]? = some s := ⟨_, List.getElem?_eq_getElem (by omega)⟩
            have HSG := Lib.hid hs
            have HSH : Hid (Hh.vs[kk]? = some s) := Lib.hid (by rw [← AL4.out.1]; exact hs)
            obtain ⟨ns, hns⟩ : ∃ ns, ns = s.rs.length := ⟨_, rfl⟩
            have HNS := Lib.hid hns
            clear hkk hs hns
            have V1 := Lib.hid (version_one kk HKG.out TW4.out.left)
            go_wp2_with fail
            refine V1.out.mono ?_
            rintro e wv ⟨rfl, rfl⟩
            have S1 := Lib.hid (set_one kk kk s HKG.out HSG.out TW4.out.left)
            go_wp2_with fail
            refine S1.out.mono ?_
            rintro e w5 ⟨As, cs, rfl, rg, hfw, b5⟩
            have FW := Lib.hid hfw
            rw [← HNS.out] at rg ⊢
            have b6 := (Below.refl w5.heap.size w5).alloc (Nat.le_refl _) (.cells #[.int .i64 s.de, .int .i64 s.cl, .int .i64 s.fu, .int .i64 s.st, .slice As ns cs] 54)
            have T6 := Lib.hid ((TW4.out.on b5).on b6)
            have XS6 := Lib.hid (Blk.new w5 54 #[.int .i64 s.de, .int .i64 s.cl, .int .i64 s.fu, .int .i64 s.st, .slice As ns cs])
            have RG6 := Lib.hid (rg.on b6)
            clear hfw rg b5 b6 V1 S1 TW4
            go_upto_region 19 with (fail)
            obtain ⟨sb, hsb⟩ : ∃ sb, sb = w5.heap.size := ⟨_, rfl⟩
            rw [← hsb] at XS6 ⊢
            clear hsb
            generalize w5.alloc _ = w6 at *
            have V2 := Lib.hid (version_one kk HKH.out T6.out.right)
            go_wp2_with fail
            refine V2.out.mono ?_
            rintro e wv ⟨rfl, rfl⟩
            have S2 := Lib.hid (set_one kk kk s HKH.out HSH.out T6.out.right)
            go_wp2_with fail
            refine S2.out.mono ?_
            rintro e w7 ⟨Bs, ds, rfl, rh, _, b7⟩
            rw [← HNS.out] at rh ⊢
            have b8 := (Below.refl w7.heap.size w7).alloc (Nat.le_refl _) (.cells #[.int .i64 s.de, .int .i64 s.cl, .int .i64 s.fu, .int .i64 s.st, .slice Bs ns ds] 54)
            have T8 := Lib.hid ((T6.out.on b7).on b8)
            have XS := Lib.hid ((XS6.out.on b7).on b8)
            have XT := Lib.hid (Blk.new w7 54 #[.int .i64 s.de, .int .i64 s.cl, .int .i64 s.fu, .int .i64 s.st, .slice Bs ns ds])
            have RG := Lib.hid ((RG6.out.on b7).on b8)
            have RH := Lib.hid (rh.on b8)
            clear rh b7 b8 V2 S2 T6 XS6 RG6
            go_upto_region 20 with (fail)
            obtain ⟨tb, htb⟩ : ∃ tb, tb = w7.heap.size := ⟨_, rfl⟩
            rw [← htb] at XT ⊢
            clear htb
            generalize w7.alloc _ = wz at *
            have OG := Lib.hid T8.out.left
            have OH := Lib.hid T8.out.right
            have BZ := Lib.hid T8.out.below
            refine wp_region_held_drew (S := fun w' => Below wz.heap.size wz w') (by kernel_rfl) (Below.drewN' (Below.refl _ wz) 1) (fun hHeld => ?_)
            refine take_d 0 117 (.pointer (some ⟨g, 0, none⟩)) _ rfl rfl (by kernel_rfl) (by kernel_rfl) (by kernel_rfl) (fun _ _ _ h => h) (Or.inl ⟨by rfl, fun w' hSw => ?_⟩) hHeld ?_
            · go_simp
            simp only [List.setIfInBounds_toArray, List.set_cons_zero, List.set_cons_succ]
            refine take_d 2 119 (.pointer (some ⟨h, 0, none⟩)) _ rfl rfl (by kernel_rfl) (by kernel_rfl) (by kernel_rfl) (fun _ _ _ h => h) (Or.inl ⟨by rfl, fun w' hSw => ?_⟩) hHeld ?_
            · go_simp
            simp only [List.setIfInBounds_toArray, List.set_cons_zero, List.set_cons_succ]
            refine wpAnyH_ready (rs := [1]) (by kernel_rfl) (by simp) ?_
            refine AllReadyH.cons rfl (fun K hK => ?_) AllReadyH.nil
            go_simp
            refine (version_one kk HKG.out (OG.out.on hHeld)).mono ?_
            rintro e wv ⟨rfl, rfl⟩
            refine hK.out _ _ hHeld (fun hHeld => ?_)
            clear hK K
            refine wpAnyH_ready (rs := [3]) (by kernel_rfl) (by simp) ?_
            refine AllReadyH.cons rfl (fun K hK => ?_) AllReadyH.nil
            go_simp
            refine (version_one kk HKH.out (OH.out.on hHeld)).mono ?_
            rintro e wv ⟨rfl, rfl⟩
            refine hK.out _ _ hHeld (fun hHeld => ?_)
            clear hK K
            refine take_d 4 121 (.bool true) _ rfl rfl (by kernel_rfl) (by kernel_rfl) (by kernel_rfl) (fun _ _ _ h => h) (Or.inl ⟨by rfl, fun w' hSw => ?_⟩) hHeld ?_
            · go_simp
            simp only [List.setIfInBounds_toArray, List.set_cons_zero, List.set_cons_succ]
            refine take_d 5 122 (.bool true) _ rfl rfl (by kernel_rfl) (by kernel_rfl) (by kernel_rfl) (fun _ _ _ h => h) (Or.inl ⟨by rfl, fun w' hSw => ?_⟩) hHeld ?_
            · go_simp
            simp only [List.setIfInBounds_toArray, List.set_cons_zero, List.set_cons_succ]
            refine take_d 6 123 (.agg #[.int .i64 s.de, .int .i64 s.cl, .int .i64 s.fu, .int .i64 s.st, .slice As ns cs]) _ rfl rfl (by kernel_rfl) (by kernel_rfl) (by kernel_rfl) (fun _ _ _ h => h) (Or.inl ⟨by rfl, fun w' hSw => ?_⟩) hHeld ?_
            · have q0 := (XS.out.on hSw).cell 0
              have q1 := (XS.out.on hSw).cell 1
              have q2 := (XS.out.on hSw).cell 2
              have q3 := (XS.out.on hSw).cell 3
              have q4 := (XS.out.on hSw).cell 4
              go_simp
            simp only [List.setIfInBounds_toArray, List.set_cons_zero, List.set_cons_succ]
            refine take_d 8 125 (.agg #[.int .i64 s.de, .int .i64 s.cl, .int .i64 s.fu, .int .i64 s.st, .slice Bs ns ds]) _ rfl rfl (by kernel_rfl) (by kernel_rfl) (by kernel_rfl) (fun _ _ _ h => h) (Or.inl ⟨by rfl, fun w' hSw => ?_⟩) hHeld ?_
            · have q0 := (XT.out.on hSw).cell 0
              have q1 := (XT.out.on hSw).cell 1
              have q2 := (XT.out.on hSw).cell 2
              have q3 := (XT.out.on hSw).cell 3
              have q4 := (XT.out.on hSw).cell 4
              go_simp
            simp only [List.setIfInBounds_toArray, List.set_cons_zero, List.set_cons_succ]
            refine wpAnyH_ready (rs := [7]) (by kernel_rfl) (by simp) ?_
            refine AllReadyH.cons rfl (fun K hK => ?_) AllReadyH.nil
            go_simp
            refine (madeSet_any s (.slice As ns cs) _ (by have := FW.out; omega) (RG.out.on hHeld)).mono ?_
            rintro e m1 ⟨MV, rfl, ox, hbk⟩
            obtain ⟨Mm1, Nm1, rfl⟩ := OwnU.form ox
            have Om1 := Lib.hid (OwnU.set ox)
            have hSk := hHeld.trans (hbk.mono hHeld.size)
            rw [← HNS.out] at Om1 ⊢
            refine hK.out _ _ hSk (fun hHeld => ?_)
            clear hK K hbk hSk ox
            refine wpAnyH_ready (rs := [9]) (by kernel_rfl) (by simp) ?_
            refine AllReadyH.cons rfl (fun K hK => ?_) AllReadyH.nil
            go_simp
            refine (madeSet_any s (.slice Bs ns ds) _ (by have := FW.out; omega) (RH.out.on hHeld)).mono ?_
            rintro e m2 ⟨MV, rfl, ox, hbk⟩
            obtain ⟨Mm2, Nm2, rfl⟩ := OwnU.form ox
            have Om2 := Lib.hid (OwnU.set ox)
            have hSk := hHeld.trans (hbk.mono hHeld.size)
            have Om1 := Lib.hid (Om1.out.on hbk)
            rw [← HNS.out] at Om2 ⊢
            refine hK.out _ _ hSk (fun hHeld => ?_)
            clear hK K hbk hSk ox
            refine wpAnyH_ready (rs := [10]) (by kernel_rfl) (by simp) ?_
            refine AllReadyH.cons rfl (fun K hK => ?_) AllReadyH.nil
            go_simp
            refine (same_any s s (.slice Mm1 ns Nm1) (.slice Mm2 ns Nm2) _ (by have := FW.out; omega) (by have := FW.out; omega) Om1.out Om2.out).mono ?_
            rintro e wk3 ⟨cc, rfl, hcc, hbk⟩
            have hct : cc = true := hcc.2 rfl
            subst hct
            have hSk := hHeld.trans (hbk.mono hHeld.size)
            refine hK.out _ _ hSk (fun hHeld => ?_)
            clear hK K hbk hSk hcc
            refine take_d 11 128 (.bool true) _ rfl rfl (by kernel_rfl) (by kernel_rfl) (by kernel_rfl) (fun _ _ _ h => h) (Or.inl ⟨by rfl, fun w' hSw => ?_⟩) hHeld ?_
            · go_simp
            simp only [List.setIfInBounds_toArray, List.set_cons_zero, List.set_cons_succ]
            refine take_d 12 4 (.bool true) _ rfl rfl (by kernel_rfl) (by kernel_rfl) (by kernel_rfl) (fun _ _ _ h => h) (Or.inl ⟨by rfl, fun w' hSw => ?_⟩) hHeld ?_
            · go_simp
            simp only [List.setIfInBounds_toArray, List.set_cons_zero, List.set_cons_succ]
            refine wpAnyH_done (by kernel_rfl) ?_ _
            have FB := Lib.hid (BZ.out.trans (hHeld.mono BZ.out.size))
            clear hHeld
            go_wp2
            go_ret
            exact ⟨rfl, FB.out⟩
      · have h20i : (20 : Int) < (m : Int) := by omega
        go_wp2
        go_ret
        exact ⟨rfl, B2.out⟩
    · have h12i : (12 : Int) < (n : Int) := by omega
      go_wp2
      go_ret
      exact ⟨rfl, B2.out⟩
end Go.Proofs.YtefgobmpleoafaaGreatDoor

