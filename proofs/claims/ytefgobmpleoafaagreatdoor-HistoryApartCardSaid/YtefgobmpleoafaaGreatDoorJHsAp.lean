/- HistoryApart: the law's walk. (Written by genHsAp.py.) -/
import Derived.Test.YtefgobmpleoafaaGreatDoorJHsN
namespace Go.Proofs.YtefgobmpleoafaaGreatDoor
open Go.RowKit Go.Maps
variable {w0 w w' : World} {X : Nat → Prop} {n₀ g h : Nat} {G H : Hs} {x y : En}

theorem ow_cut {P : Prop} (h : Hid P) : P := h.out
theorem new_oneX (n₀ : Nat) (w0 w : World) (hn : n₀ ≤ w0.heap.size) (hB : Below n₀ w0 w) (hX : ∀ i, X i → i < w.heap.size) : Calls Tryz.prog 11 #[] w fun e w' => ∃ g, e = .returned (.pointer (some ⟨g, 0, none⟩)) ∧ One n₀ w0 w' X g .start ∧ Below w.heap.size w w' := by
  refine (new14_any (fun _ => False) w (fun _ e => e.elim)).mono ?_
  rintro e w' ⟨g, S, rfl, hs, h1, b1⟩
  have hw : n₀ ≤ w.heap.size := Nat.le_trans hn hB.size
  exact ⟨g, rfl, ⟨S, _, h1, fun i hi => by have := hs i hi; omega, fun i e => ⟨fun f => by have := hs i f; have := hX i e; omega, Nat.lt_of_lt_of_le (hX i e) b1.size⟩, hn, hB.trans (b1.mono hw)⟩, b1⟩
theorem last_one (c : Int) (hc : (Lit.int .i64 c).wf = true) (a : One n₀ w0 w X g H) : Calls Tryz.prog 23 #[.pointer (some ⟨g, 0, none⟩), .int .i64 c] w fun e w' => e = .returned (.tuple #[.int .i64 (H.la c).re, .agg #[.int .i64 (H.la c).o.ve, .int .i64 (H.la c).o.co, .int .i64 (H.la c).o.ru, .int .i64 (H.la c).o.at_], .bool (H.cl c).isSome]) ∧ Below w.heap.size w w' := by
  obtain ⟨S, U, h1, _⟩ := a
  exact last_any c hc h1
theorem Hs.put_cl {p : ByteArray → Int × Int} {c : Int} (hc : y.cl ≠ c) : (H.put p y).cl c = H.cl c := by
  unfold Hs.put
  split
  · rw [Hs.add_cl]
    split
    · rfl
    · rw [if_neg (fun e => hc e.symm)]
  · rfl
theorem Hs.put_new {p : ByteArray → Int × Int} (hx : x.ok = true) (hn : H.cl x.cl = none) : (H.put p x).cl x.cl = some ⟨H.out p x, x.re⟩ := by
  rw [Hs.put_ok hx, Hs.add_cl, if_neg, if_pos rfl]
  unfold Hs.twice Hs.la
  rw [hn]
  have := (En.ok_iff.1 hx).2.2.1.1
  show ¬ x.re ≤ 0
  omega

set_option maxRecDepth 100000 in
set_option maxHeartbeats 16000000 in
theorem historyApart_law (v : Value) (l : List En) (x : En) (pv dv : Value) (w : World) (hT : TabsAt w.heap.size w) (hm : l.length * 104 ≤ 140737488351232) (hV : EntsV w.heap.size w v l) (hP : RulesV w.heap.size w pv x.d.put) (hD : Row w.heap.size w dv (zI x.d.drop)) :
    Calls Tryz.prog 8 #[v, x.val pv dv] w fun e w' => e = .returned (.bool true) ∧ Below w.heap.size w w' := by
  obtain ⟨i0, hi, hz0, hz1, hz2⟩ := info_three info_entry14
  obtain ⟨A, c, rfl⟩ := hV.form
  obtain ⟨n, hn⟩ : ∃ n, n = l.length := ⟨_, rfl⟩
  rw [← hn] at hV hm ⊢
  have HEF : Hid (EnF w.heap.size w x pv dv) := Lib.hid fun w' hb => ⟨hP.below hb, hD.below hb⟩
  obtain ⟨Ap, cp, Ad, cd, rfl, rfl⟩ := HEF.out.forms
  obtain ⟨np, hnp⟩ : ∃ np, np = x.d.put.length := ⟨_, rfl⟩
  obtain ⟨nd, hnd⟩ : ∃ nd, nd = x.d.drop.length := ⟨_, rfl⟩
  rw [← hnp, ← hnd] at HEF ⊢
  have HT := Lib.hid hT
  have HV := Lib.hid hV
  have HL := Lib.hid hn
  clear hT hV hn hP hD hnp hnd
  go_enter Tryz.func8, Tryz.ntmps8
  have b0 := (Below.refl w.heap.size w).alloc (Nat.le_refl _) (.cells #[.int .i64 x.vi, .int .i64 x.cl, .int .i64 x.re, .int .i64 x.d.de, .int .i64 x.d.cl, .int .i64 x.d.fu, .int .i64 x.d.st, .slice Ap np cp, .slice Ad nd cd] 39)
  have B0 := Lib.hid b0
  have XB0 := Lib.hid (Blk.new w 39 #[.int .i64 x.vi, .int .i64 x.cl, .int .i64 x.re, .int .i64 x.d.de, .int .i64 x.d.cl, .int .i64 x.d.fu, .int .i64 x.d.st, .slice Ap np cp, .slice Ad nd cd])
  have AN := Lib.hid (anchor14_any (w.alloc (.cells #[.int .i64 x.vi, .int .i64 x.cl, .int .i64 x.re, .int .i64 x.d.de, .int .i64 x.d.cl, .int .i64 x.d.fu, .int .i64 x.d.st, .slice Ap np cp, .slice Ad nd cd] 39)) (tabs_on HT.out b0 (by simp)))
  clear b0
  go_wp2_with fail
  refine AN.out.mono ?_
  rintro e w1 ⟨rfl, b1⟩
  have B1 := Lib.hid (B0.out.trans (b1.mono B0.out.size))
  have XB1 := Lib.hid (XB0.out.on b1)
  obtain ⟨xb, hxb⟩ : ∃ xb, xb = w.heap.size := ⟨_, rfl⟩
  rw [← hxb] at XB1 ⊢
  have HXB := Lib.hid hxb
  clear b1 AN XB0 B0 hxb
  have B2 := Lib.hid (B1.out.alloc B1.out.size (.cells #[.int .i64 x.vi, .int .i64 x.cl, .int .i64 x.re, .int .i64 x.d.de, .int .i64 x.d.cl, .int .i64 x.d.fu, .int .i64 x.d.st, .slice Ap np cp, .slice Ad nd cd] 39))
  have XB2 := Lib.hid (XB1.out.alloc (.cells #[.int .i64 x.vi, .int .i64 x.cl, .int .i64 x.re, .int .i64 x.d.de, .int .i64 x.d.cl, .int .i64 x.d.fu, .int .i64 x.d.st, .slice Ap np cp, .slice Ad nd cd] 39))
  have HO0 : Hid ((w1.alloc (.cells #[.int .i64 x.vi, .int .i64 x.cl, .int .i64 x.re, .int .i64 x.d.de, .int .i64 x.d.cl, .int .i64 x.d.fu, .int .i64 x.d.st, .slice Ap np cp, .slice Ad nd cd] 39)).ownsRow w1.heap.size 39 9 (.slice (some ⟨w1.heap.size, 0, none⟩) 1 1) 1 (erCells [(x, .slice Ap np cp, .slice Ad nd cd)])) := Lib.hid (World.ownsRow_lit (e := 39) (size := 9) (base := w1.heap.size) w1 #[.int .i64 x.vi, .int .i64 x.cl, .int .i64 x.re, .int .i64 x.d.de, .int .i64 x.d.cl, .int .i64 x.d.fu, .int .i64 x.d.st, .slice Ap np cp, .slice Ad nd cd] 1 (Nat.le_refl _) (by unfold maxLen; omega) rfl)
  have hw1 : w.heap.size ≤ w1.heap.size := B1.out.size
  have hxl := XB1.out.lt
  have e0 := XB1.out.cell 0
  have e1 := XB1.out.cell 1
  have e2 := XB1.out.cell 2
  have e3 := XB1.out.cell 3
  have e4 := XB1.out.cell 4
  have e5 := XB1.out.cell 5
  have e6 := XB1.out.cell 6
  have e7 := XB1.out.cell 7
  have e8 := XB1.out.cell 8
  go_wp2_with (at_builtin; apply ow_cut)
  refine Lib.hid ?_
  clear e0 e1 e2 e3 e4 e5 e6 e7 e8
  obtain ⟨L, hLl, hA0, hsrc, hLr⟩ := (HV.out.below B2.out).pairs
  have hNL : L.length = n := by rw [HL.out, ← hLl]; simp
  refine wpList_append_gen _ rfl (.tmp 19) (.tmp 20) 22 rfl w1.heap.size 39 i0 (.agg #[.int .i64 0, .int .i64 0, .int .i64 0, .int .i64 0, .int .i64 0, .int .i64 0, .int .i64 0, .slice none 0 0, .slice none 0 0]) 9 104 Tryz.underlying22 hi hz0 hz1 hz2 rfl (by decide) _ 1 (erCells [(x, .slice Ap np cp, .slice Ad nd cd)]) rfl HO0.out A n c (erCells L) rfl (by rw [erCells_len, hNL]) hA0 hsrc (enp_one hLr) (by unfold maxLen; omega) (by omega) (by simp) ?_
  intro vp wp op gp
  obtain ⟨An, cn, hvp⟩ := orow_form op
  subst hvp
  have b23 := (Below.refl w.heap.size (w1.alloc (.cells #[.int .i64 x.vi, .int .i64 x.cl, .int .i64 x.re, .int .i64 x.d.de, .int .i64 x.d.cl, .int .i64 x.d.fu, .int .i64 x.d.st, .slice Ap np cp, .slice Ad nd cd] 39))).grown gp B2.out.size (fun j hj => Nat.le_trans hw1 (World.ownsRow.lt HO0.out j hj).1)
  have bp := B2.out.trans b23
  have EV := Lib.hid (ents_of_own (L := (x, .slice Ap np cp, .slice Ad nd cd) :: L) (by rw [show ((x, .slice Ap np cp, .slice Ad nd cd) :: L : List EnP) = [(x, .slice Ap np cp, .slice Ad nd cd)] ++ L from rfl, erCells_append]; exact op) (by simp; omega) (fun y hy => by
    rcases List.mem_cons.1 hy with rfl | hy
    · exact ⟨(HEF.out _ bp).1.more bp.size, (HEF.out _ bp).2.more bp.size⟩
    · exact ⟨((hLr y hy).1.below b23).more bp.size, ((hLr y hy).2.below b23).more bp.size⟩))
  rw [List.map_cons, hLl] at EV
  have XB3 : Hid (Blk wp xb 39 #[.int .i64 x.vi, .int .i64 x.cl, .int .i64 x.re, .int .i64 x.d.de, .int .i64 x.d.cl, .int .i64 x.d.fu, .int .i64 x.d.st, .slice Ap np cp, .slice Ad nd cd]) := Lib.hid (XB2.out.grown gp (fun e => by have h1 := (World.ownsRow.lt HO0.out xb e.symm).1; omega))
  have B3 := Lib.hid bp
  clear op gp b23 bp hLl hA0 hsrc hLr hNL HO0 XB2 B2 XB1
  have SM := Lib.hid (small_any (.slice An (1 + n) cn) (x :: l) wp (by simp only [List.length_cons, ← HL.out]; omega) EV.out)
  obtain ⟨q1, hq1⟩ : ∃ q, q = smallL (x :: l) := ⟨_, rfl⟩
  rw [← hq1] at SM
  clear hq1 EV
  go_wp2_with fail
  refine SM.out.mono ?_
  rintro e w3 ⟨rfl, b3⟩
  have B4 := Lib.hid (B3.out.trans (b3.mono B3.out.size))
  have XB4 := Lib.hid (XB3.out.on b3)
  clear SM b3 XB3 B3
  cases q1 with
  | false =>
    go_wp2
    go_ret
    exact ⟨rfl, B4.out⟩
  | true =>
    by_cases h12 : n ≤ 12
    · have h12i : ¬ (12 : Int) < (n : Int) := by omega
      have e0 := XB4.out.cell 0
      have e1 := XB4.out.cell 1
      have e2 := XB4.out.cell 2
      have e3 := XB4.out.cell 3
      have e4 := XB4.out.cell 4
      have e5 := XB4.out.cell 5
      have e6 := XB4.out.cell 6
      have e7 := XB4.out.cell 7
      have e8 := XB4.out.cell 8
      have PE := Lib.hid (pentry_any x (.slice Ap np cp) (.slice Ad nd cd) w3 ((HEF.out _ B4.out).1.more B4.out.size) ((HEF.out _ B4.out).2.more B4.out.size))
      obtain ⟨ok, hok⟩ : ∃ q, q = x.ok := ⟨_, rfl⟩
      rw [← hok] at PE
      have HOK := Lib.hid hok.symm
      clear hok
      go_wp2_with fail
      refine PE.out.mono ?_
      rintro e w4 ⟨rfl, b4⟩
      have B5 := Lib.hid (B4.out.trans (b4.mono B4.out.size))
      have XB5 := Lib.hid (XB4.out.on b4)
      clear b4 PE XB4 B4 e0 e1 e2 e3 e4 e5 e6 e7 e8
      cases ok with
      | false =>
        go_wp2
        go_ret
        exact ⟨rfl, B5.out⟩
      | true =>
        have NW := Lib.hid (new_oneX (X := fun i => i = xb) w.heap.size w w4 (Nat.le_refl _) B5.out (fun i hi => by rw [hi]; exact XB5.out.lt))
        go_wp2_with fail
        refine NW.out.mono ?_
        rintro e w5 ⟨g, rfl, og, b5⟩
        have TW0 := Lib.hid og
        have XB6 := Lib.hid (XB5.out.on b5)
        clear og b5 NW XB5
        go_wp2
        go_loopw [37] (fun i wr => ∃ (k : Nat) (Hh : Hs), k ≤ n ∧ i = .int .i64 (k : Int) ∧ Hid (One w.heap.size w wr (fun i => i = xb) g Hh) ∧ Hid (Blk wr xb 39 #[.int .i64 x.vi, .int .i64 x.cl, .int .i64 x.re, .int .i64 x.d.de, .int .i64 x.d.cl, .int .i64 x.d.fu, .int .i64 x.d.st, .slice Ap np cp, .slice Ad nd cd]) ∧ Hid (Hh.cl x.cl = none ∧ Hh.n ≤ k ∧ Hh.vs.length ≤ k + 1)) (fun i _ => n - (intOf i).toNat)
        case atStart => exact ⟨0, .start, Nat.zero_le _, rfl, TW0, XB6, Lib.hid ⟨rfl, Nat.le_refl _, Nat.le_refl _⟩⟩
        case round =>
          obtain ⟨k, Hh, hk, rfl, TW, XB, AL⟩ := hrel
          have BW := Lib.hid TW.out.below
          have hsz : w.heap.size ≤ wr.heap.size := BW.out.size
          by_cases hlt : k < n
          · have hkl : k < l.length := by rw [← HL.out]; exact hlt
            obtain ⟨b, off, p, dd, rfl, hb, hef, hen⟩ := enf HV.out hkl
            obtain ⟨c0, c1, c2, c3, c4, c5, c6, c7, c8⟩ := hen wr BW.out
            generalize l[k] = y at hef c0 c1 c2 c3 c4 c5 c6 c7 c8
            obtain ⟨Aq, cq, Af, cf, rfl, rfl⟩ := hef.forms
            obtain ⟨nq, hnq⟩ : ∃ nq, nq = y.d.put.length := ⟨_, rfl⟩
            obtain ⟨nf, hnf⟩ : ∃ nf, nf = y.d.drop.length := ⟨_, rfl⟩
            rw [← hnq, ← hnf] at hef
            rw [← hnq] at c7
            rw [← hnf] at c8
            have HEY := Lib.hid hef
            clear hef hnq hnf hen hkl
            have TB := Lib.hid (TW.out.box (.cells #[.int .i64 y.vi, .int .i64 y.cl, .int .i64 y.re, .int .i64 y.d.de, .int .i64 y.d.cl, .int .i64 y.d.fu, .int .i64 y.d.st, .slice Aq nq cq, .slice Af nf cf] 39))
            have XE := Lib.hid (Blk.new wr 39 #[.int .i64 y.vi, .int .i64 y.cl, .int .i64 y.re, .int .i64 y.d.de, .int .i64 y.d.cl, .int .i64 y.d.fu, .int .i64 y.d.st, .slice Aq nq cq, .slice Af nf cf])
            have XC := Lib.hid (XB.out.alloc (.cells #[.int .i64 y.vi, .int .i64 y.cl, .int .i64 y.re, .int .i64 y.d.de, .int .i64 y.d.cl, .int .i64 y.d.fu, .int .i64 y.d.st, .slice Aq nq cq, .slice Af nf cf] 39))
            have d1 := XC.out.cell 1
            have dl := XC.out.lt
            have f0 := XE.out.cell 0
            have f1 := XE.out.cell 1
            have f2 := XE.out.cell 2
            have f3 := XE.out.cell 3
            have f4 := XE.out.cell 4
            have f5 := XE.out.cell 5
            have f6 := XE.out.cell 6
            have f7 := XE.out.cell 7
            have f8 := XE.out.cell 8
            have fl := XE.out.lt
            by_cases heq : y.cl = x.cl
            · rw [heq] at XC TB d1 dl f0 f1 f2 f3 f4 f5 f6 f7 f8 fl c1
              go_wp2
              go_roundw
              case rel => exact ⟨k + 1, Hh, hlt, by go_num, Lib.hid (TB.out.less (fun _ e => .inl e)), XC, Lib.hid ⟨AL.out.1, by have := AL.out.2.1; omega, by have := AL.out.2.2; omega⟩⟩
              case measure => simp [intOf]; omega
            · have AG := Lib.hid (add_one y (.slice Aq nq cq) (.slice Af nf cf) TB.out HT.out HEY.out (by have := AL.out.2.2; omega) (by have := AL.out.2.1; omega))
              go_wp2_with fail
              refine AG.out.mono ?_
              rintro e wa ⟨rfl, ta, ka⟩
              have TA := Lib.hid (ta.less (Y := fun i => i = xb) (fun _ e => .inl e))
              have XA := Lib.hid (ka.blk (.inl rfl) XC.out)
              clear ta ka AG TB XE XC d1 dl f0 f1 f2 f3 f4 f5 f6 f7 f8 fl c0 c1 c2 c3 c4 c5 c6 c7 c8
              go_wp2
              go_roundw
              case rel => exact ⟨k + 1, Hh.put pvM y, hlt, by go_num, TA, XA, Lib.hid ⟨by rw [Hs.put_cl heq]; exact AL.out.1, by have h1 := Hs.put_n (p := pvM) (h := Hh) (e := y); have := AL.out.2.1; omega, by have h1 := Hs.put_len (p := pvM) (h := Hh) (e := y); have := AL.out.2.2; omega⟩⟩
              case measure => simp [intOf]; omega
          · obtain rfl : k = n := by omega
            have AL4 := Lib.hid AL.out.1
            obtain ⟨vs1, hvs1⟩ : ∃ m : Nat, m = Hh.vs.length := ⟨_, rfl⟩
            have HB2 : Hid (Hh.vs.length ≤ 100000 ∧ Hh.n ≤ 1000000) := Lib.hid ⟨by have := AL.out.2.2; omega, by have := AL.out.2.1; omega⟩
            have HWF : Hid ((Lit.int .i64 x.cl).wf = true) := Lib.hid (by
              have h := (En.ok_iff.1 HOK.out).2.1
              exact wfI (by omega))
            clear hvs1 AL
            have L1 := Lib.hid (last_one x.cl HWF.out TW.out)
            rw [AL4.out] at L1
            simp only [Option.isSome_none] at L1
            have d1 := XB.out.cell 1
            go_wp2_with fail
            refine L1.out.mono ?_
            rintro e w6 ⟨rfl, b6⟩
            have T7 := Lib.hid ((TW.out.on b6).on ((Below.refl _ _).alloc (Nat.le_refl _) (.cells #[.int .i64 (Hh.la x.cl).o.ve, .int .i64 (Hh.la x.cl).o.co, .int .i64 (Hh.la x.cl).o.ru, .int .i64 (Hh.la x.cl).o.at_] 44)))
            have XB7 := Lib.hid ((XB.out.on b6).alloc (.cells #[.int .i64 (Hh.la x.cl).o.ve, .int .i64 (Hh.la x.cl).o.co, .int .i64 (Hh.la x.cl).o.ru, .int .i64 (Hh.la x.cl).o.at_] 44))
            clear b6 L1 d1 TW XB BW hsz
            have e0 := XB7.out.cell 0
            have e1 := XB7.out.cell 1
            have e2 := XB7.out.cell 2
            have e3 := XB7.out.cell 3
            have e4 := XB7.out.cell 4
            have e5 := XB7.out.cell 5
            have e6 := XB7.out.cell 6
            have e7 := XB7.out.cell 7
            have e8 := XB7.out.cell 8
            have el := XB7.out.lt
            have AX := Lib.hid (add_one x (.slice Ap np cp) (.slice Ad nd cd) T7.out HT.out HEF.out HB2.out.1 HB2.out.2)
            obtain ⟨O, hO⟩ : ∃ O, O = Hh.outA x := ⟨_, rfl⟩
            rw [← hO, show Hs.errA x = 0 from by unfold Hs.errA; rw [if_pos HOK.out]] at AX
            have hcl := Hs.put_new (p := pvM) HOK.out AL4.out
            rw [show Hh.out pvM x = O by rw [hO]; unfold Hs.outA; rw [if_pos HOK.out]] at hcl
            have hla : (Hh.put pvM x).la x.cl = ⟨O, x.re⟩ := by
              unfold Hs.la
              rw [hcl]
              rfl
            have HCL := Lib.hid hcl
            have HLA := Lib.hid hla
            clear hcl hla hO
            obtain ⟨ove, oco, oru, oat⟩ := O
            simp only at AX
            go_wp2_with fail
            refine AX.out.mono ?_
            rintro e w8 ⟨rfl, t8, k8⟩
            have T9 := Lib.hid (t8.box (.cells #[.int .i64 ove, .int .i64 oco, .int .i64 oru, .int .i64 oat] 44))
            have XB9 := Lib.hid ((k8.blk rfl XB7.out).alloc (.cells #[.int .i64 ove, .int .i64 oco, .int .i64 oru, .int .i64 oat] 44))
            have XO := Lib.hid (Blk.new w8 44 #[.int .i64 ove, .int .i64 oco, .int .i64 oru, .int .i64 oat])
            have L2 := Lib.hid (last_one x.cl HWF.out T9.out)
            rw [HCL.out, HLA.out] at L2
            simp only [Option.isSome_some] at L2
            clear t8 k8 AX T7 XB7 e0 e1 e2 e3 e4 e5 e6 e7 e8 el
            have d1 := XB9.out.cell 1
            have dl := XB9.out.lt
            go_wp2_with fail
            refine L2.out.mono ?_
            rintro e w10 ⟨rfl, b10⟩
            have b11 := b10.alloc b10.size (.cells #[.int .i64 ove, .int .i64 oco, .int .i64 oru, .int .i64 oat] 44)
            have FB := Lib.hid (T9.out.below.trans (b11.mono T9.out.below.size))
            have XB11 := Lib.hid (XB9.out.on b11)
            have XO11 := Lib.hid (XO.out.on b11)
            have XP := Lib.hid (Blk.new w10 44 #[.int .i64 ove, .int .i64 oco, .int .i64 oru, .int .i64 oat])
            clear b10 b11 L2 d1 dl T9 XB9 XO
            have o0 := XO11.out.cell 0
            have o1 := XO11.out.cell 1
            have o2 := XO11.out.cell 2
            have o3 := XO11.out.cell 3
            have ol := XO11.out.lt
            have p0 := XP.out.cell 0
            have p1 := XP.out.cell 1
            have p2 := XP.out.cell 2
            have p3 := XP.out.cell 3
            have pl := XP.out.lt
            have d2 := XB11.out.cell 2
            have dl := XB11.out.lt
            by_cases h31 : oco = 31
            · have hq : ∀ w, (binOp .eql 44 (.agg #[.int .i64 ove, .int .i64 oco, .int .i64 oru, .int .i64 oat]) (.agg #[.int .i64 ove, .int .i64 oco, .int .i64 oru, .int .i64 oat])).run Tryz.prog w = .ok (.bool true) w := fun w => by rw [run_eql_oc]; simp
              subst h31
              go_wp2
              go_ret
              exact ⟨rfl, FB.out⟩
            · go_wp2
              go_ret
              exact ⟨rfl, FB.out⟩
    · have h12i : (12 : Int) < (n : Int) := by omega
      go_wp2
      go_ret
      exact ⟨rfl, B4.out⟩
end Go.Proofs.YtefgobmpleoafaaGreatDoor

