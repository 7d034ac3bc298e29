/- Whether a message is the document's: colandermade.LikeMessage. -/
import Derived.Test.YtiheeafmplccoaaPkS
namespace Go.Proofs.Ytiheeafmplccoaa
open Go.RowKit
variable {w w' : World}

theorem smallE_len {e : En} (h : smallE e = true) : e.d.put.length ≤ 1000000 ∧ e.d.drop.length ≤ 1000000 := by
  simp only [smallE, Bool.and_eq_true, decide_eq_true_eq] at h
  omega
theorem smallL_iff {l : List En} : smallL l = true ↔ (∀ e ∈ l, smallE e = true) ∧ l.length ≤ 70 := by
  simp only [smallL, Bool.and_eq_true, decide_eq_true_eq, List.all_eq_true]
theorem ok_lens {l : List En} (h : ∀ e ∈ l, e.ok = true) : ∀ e ∈ l, e.d.put.length ≤ 1000000 ∧ e.d.drop.length ≤ 1000000 := fun e he => by
  obtain ⟨_, _, _, h4⟩ := En.ok_iff.1 (h e he)
  obtain ⟨_, h5, _, h7, _⟩ := Dl.okP_iff.1 h4
  omega
set_option maxRecDepth 100000 in
set_option maxHeartbeats 8000000 in
theorem likeMsg_any (a b : Ms) (va vb : Value) (w : World) (hm : a.log.length ≤ 70) (hs : ∀ e ∈ a.log, smallE e = true) (hb : ∀ e ∈ b.log, e.d.put.length ≤ 1000000 ∧ e.d.drop.length ≤ 1000000) (hV : EntsV w.heap.size w va a.log) (hU : EntsV w.heap.size w vb b.log) :
    Calls Try.prog 18 #[a.val va, b.val vb] w fun e w' => ∃ c, e = .returned (.bool c) ∧ (c = true ↔ a = b) ∧ Below w.heap.size w w' := by
  obtain ⟨A, cp, rfl⟩ := hV.form
  obtain ⟨B, cq, rfl⟩ := hU.form
  have b0 : Below w.heap.size w ((w.alloc (.cells #[.int .i64 a.k, .int .i64 a.vi, .int .i64 a.fr, .int .i64 a.to, .int .i64 a.op, .int .i64 a.co, .int .i64 a.no, .slice A a.log.length cp] 24)).alloc (.cells #[.int .i64 b.k, .int .i64 b.vi, .int .i64 b.fr, .int .i64 b.to, .int .i64 b.op, .int .i64 b.co, .int .i64 b.no, .slice B b.log.length cq] 29)) := ((Below.refl _ _).alloc (Nat.le_refl _) _).alloc (by simp) _
  have HX : Hid (Blk ((w.alloc (.cells #[.int .i64 a.k, .int .i64 a.vi, .int .i64 a.fr, .int .i64 a.to, .int .i64 a.op, .int .i64 a.co, .int .i64 a.no, .slice A a.log.length cp] 24)).alloc (.cells #[.int .i64 b.k, .int .i64 b.vi, .int .i64 b.fr, .int .i64 b.to, .int .i64 b.op, .int .i64 b.co, .int .i64 b.no, .slice B b.log.length cq] 29)) w.heap.size 24 #[.int .i64 a.k, .int .i64 a.vi, .int .i64 a.fr, .int .i64 a.to, .int .i64 a.op, .int .i64 a.co, .int .i64 a.no, .slice A a.log.length cp]) := Lib.hid ((Blk.new _ _ _).alloc _)
  have HY : Hid (Blk ((w.alloc (.cells #[.int .i64 a.k, .int .i64 a.vi, .int .i64 a.fr, .int .i64 a.to, .int .i64 a.op, .int .i64 a.co, .int .i64 a.no, .slice A a.log.length cp] 24)).alloc (.cells #[.int .i64 b.k, .int .i64 b.vi, .int .i64 b.fr, .int .i64 b.to, .int .i64 b.op, .int .i64 b.co, .int .i64 b.no, .slice B b.log.length cq] 29)) (w.heap.size + 1) 29 #[.int .i64 b.k, .int .i64 b.vi, .int .i64 b.fr, .int .i64 b.to, .int .i64 b.op, .int .i64 b.co, .int .i64 b.no, .slice B b.log.length cq]) := Lib.hid (Blk.at_new _ _ (by simp) _ _)
  have B0 := Lib.hid b0
  have HV := Lib.hid (hV.on b0)
  have HU := Lib.hid (hU.on b0)
  have HM := Lib.hid hm
  have HS := Lib.hid hs
  have HBs := Lib.hid hb
  have hs0 : ((w.alloc (.cells #[.int .i64 a.k, .int .i64 a.vi, .int .i64 a.fr, .int .i64 a.to, .int .i64 a.op, .int .i64 a.co, .int .i64 a.no, .slice A a.log.length cp] 24)).alloc (.cells #[.int .i64 b.k, .int .i64 b.vi, .int .i64 b.fr, .int .i64 b.to, .int .i64 b.op, .int .i64 b.co, .int .i64 b.no, .slice B b.log.length cq] 29)).heap.size = w.heap.size + 2 := by simp
  clear hV hU hm hs hb b0
  go_enter Try.func18, Try.ntmps18
  go_upto_region 1 with (fail)
  generalize (w.alloc _).alloc _ = wx at *
  have x0 := HX.out.cell 0
  have x1 := HX.out.cell 1
  have x2 := HX.out.cell 2
  have x3 := HX.out.cell 3
  have x4 := HX.out.cell 4
  have x5 := HX.out.cell 5
  have x6 := HX.out.cell 6
  have x7 := HX.out.cell 7
  go_wp2_with fail
  refine (madeMsg_any wx.heap.size a _ wx (Nat.le_refl _) HM.out HS.out HV.out).mono ?_
  rintro e w1 ⟨_, rfl, ⟨A6, c6, rfl, o6⟩, hB1⟩
  have B1 := Lib.hid ((B0.out.trans (hB1.mono (by omega))).alloc (by have := hB1.size; omega) (.cells #[.int .i64 a.k, .int .i64 a.vi, .int .i64 a.fr, .int .i64 a.to, .int .i64 a.op, .int .i64 a.co, .int .i64 a.no, .slice A6 a.log.length c6] 29))
  have HY1 := Lib.hid ((HY.out.on hB1).alloc (.cells #[.int .i64 a.k, .int .i64 a.vi, .int .i64 a.fr, .int .i64 a.to, .int .i64 a.op, .int .i64 a.co, .int .i64 a.no, .slice A6 a.log.length c6] 29))
  have HZ1 : Hid (Blk (w1.alloc (.cells #[.int .i64 a.k, .int .i64 a.vi, .int .i64 a.fr, .int .i64 a.to, .int .i64 a.op, .int .i64 a.co, .int .i64 a.no, .slice A6 a.log.length c6] 29)) w1.heap.size 29 #[.int .i64 a.k, .int .i64 a.vi, .int .i64 a.fr, .int .i64 a.to, .int .i64 a.op, .int .i64 a.co, .int .i64 a.no, .slice A6 a.log.length c6]) := Lib.hid (Blk.new _ _ _)
  have HO := Lib.hid ((o6.read hB1.size).on ((Below.refl _ w1).alloc (Nat.le_refl _) (.cells #[.int .i64 a.k, .int .i64 a.vi, .int .i64 a.fr, .int .i64 a.to, .int .i64 a.op, .int .i64 a.co, .int .i64 a.no, .slice A6 a.log.length c6] 29)))
  have HU1 := Lib.hid ((HU.out.on hB1).on ((Below.refl _ w1).alloc (Nat.le_refl _) (.cells #[.int .i64 a.k, .int .i64 a.vi, .int .i64 a.fr, .int .i64 a.to, .int .i64 a.op, .int .i64 a.co, .int .i64 a.no, .slice A6 a.log.length c6] 29)))
  have hs1 : w.heap.size ≤ (w1.alloc (.cells #[.int .i64 a.k, .int .i64 a.vi, .int .i64 a.fr, .int .i64 a.to, .int .i64 a.op, .int .i64 a.co, .int .i64 a.no, .slice A6 a.log.length c6] 29)).heap.size := by have := hB1.size; simp; omega
  have SM : Hid (∀ W, EntsV W.heap.size W (.slice A6 a.log.length c6) a.log → EntsV W.heap.size W (.slice B b.log.length cq) b.log → Calls Try.prog 29 #[.slice A6 a.log.length c6, .slice B b.log.length cq] W fun e w' => ∃ c, e = .returned (.bool c) ∧ (c = true ↔ a.log = b.log) ∧ Below W.heap.size W w') :=
    Lib.hid fun W h1 h2 => xsame_any a.log b.log _ _ W (by have := HM.out; omega) (fun e he => smallE_len (HS.out e he)) HBs.out h1 h2
  clear hB1 o6 HX HV x0 x1 x2 x3 x4 x5 x6 x7
  go_upto_region 2 with (fail)
  generalize w1.alloc _ = w2 at *
  have y0 := HY1.out.cell 0
  have z0 := HZ1.out.cell 0
  have y1 := HY1.out.cell 1
  have z1 := HZ1.out.cell 1
  have y2 := HY1.out.cell 2
  have z2 := HZ1.out.cell 2
  have y3 := HY1.out.cell 3
  have z3 := HZ1.out.cell 3
  have y4 := HY1.out.cell 4
  have z4 := HZ1.out.cell 4
  have y5 := HY1.out.cell 5
  have z5 := HZ1.out.cell 5
  have y6 := HY1.out.cell 6
  have z6 := HZ1.out.cell 6
  have y7 := HY1.out.cell 7
  have z7 := HZ1.out.cell 7
  by_cases h0 : a.k = b.k
  · have p0 : (a.k == b.k) = true := by simp [h0]
    have q0 : decide (a.k = b.k) = true := by simp [h0]
    have H0 := Lib.hid h0
    clear h0
    by_cases h1 : a.vi = b.vi
    · have p1 : (a.vi == b.vi) = true := by simp [h1]
      have q1 : decide (a.vi = b.vi) = true := by simp [h1]
      have H1 := Lib.hid h1
      clear h1
      by_cases h2 : a.fr = b.fr
      · have p2 : (a.fr == b.fr) = true := by simp [h2]
        have q2 : decide (a.fr = b.fr) = true := by simp [h2]
        have H2 := Lib.hid h2
        clear h2
        by_cases h3 : a.to = b.to
        · have p3 : (a.to == b.to) = true := by simp [h3]
          have q3 : decide (a.to = b.to) = true := by simp [h3]
          have H3 := Lib.hid h3
          clear h3
          by_cases h4 : a.op = b.op
          · have p4 : (a.op == b.op) = true := by simp [h4]
            have q4 : decide (a.op = b.op) = true := by simp [h4]
            have H4 := Lib.hid h4
            clear h4
            by_cases h5 : a.co = b.co
            · have p5 : (a.co == b.co) = true := by simp [h5]
              have q5 : decide (a.co = b.co) = true := by simp [h5]
              have H5 := Lib.hid h5
              clear h5
              by_cases h6 : a.no = b.no
              · have p6 : (a.no == b.no) = true := by simp [h6]
                have q6 : decide (a.no = b.no) = true := by simp [h6]
                have H6 := Lib.hid h6
                clear h6
                go_wp2_with fail
                refine (SM.out _ HO.out HU1.out).mono ?_
                rintro e w3 ⟨c, rfl, hc, hB3⟩
                have B3 := Lib.hid (B1.out.trans (hB3.mono hs1))
                have HC := Lib.hid hc
                clear hc hB3
                go_wp2
                go_ret
                refine ⟨c, rfl, ⟨fun h => ?_, fun h => HC.out.2 (by rw [h])⟩, B3.out⟩
                have := HC.out.1 h
                cases a; cases b
                simp only at this H0 H1 H2 H3 H4 H5 H6
                rw [this, H0.out, H1.out, H2.out, H3.out, H4.out, H5.out, H6.out]
              · have p6 : (a.no == b.no) = false := by simp [h6]
                have q6 : decide (a.no = b.no) = false := by simp [h6]
                have HH := Lib.hid h6
                clear h6
                go_wp2
                go_ret
                exact ⟨false, rfl, ⟨fun h => Bool.noConfusion h, fun h => absurd (congrArg Ms.no h) HH.out⟩, B1.out⟩
            · have p5 : (a.co == b.co) = false := by simp [h5]
              have q5 : decide (a.co = b.co) = false := by simp [h5]
              have HH := Lib.hid h5
              clear h5
              go_wp2
              go_ret
              exact ⟨false, rfl, ⟨fun h => Bool.noConfusion h, fun h => absurd (congrArg Ms.co h) HH.out⟩, B1.out⟩
          · have p4 : (a.op == b.op) = false := by simp [h4]
            have q4 : decide (a.op = b.op) = false := by simp [h4]
            have HH := Lib.hid h4
            clear h4
            go_wp2
            go_ret
            exact ⟨false, rfl, ⟨fun h => Bool.noConfusion h, fun h => absurd (congrArg Ms.op h) HH.out⟩, B1.out⟩
        · have p3 : (a.to == b.to) = false := by simp [h3]
          have q3 : decide (a.to = b.to) = false := by simp [h3]
          have HH := Lib.hid h3
          clear h3
          go_wp2
          go_ret
          exact ⟨false, rfl, ⟨fun h => Bool.noConfusion h, fun h => absurd (congrArg Ms.to h) HH.out⟩, B1.out⟩
      · have p2 : (a.fr == b.fr) = false := by simp [h2]
        have q2 : decide (a.fr = b.fr) = false := by simp [h2]
        have HH := Lib.hid h2
        clear h2
        go_wp2
        go_ret
        exact ⟨false, rfl, ⟨fun h => Bool.noConfusion h, fun h => absurd (congrArg Ms.fr h) HH.out⟩, B1.out⟩
    · have p1 : (a.vi == b.vi) = false := by simp [h1]
      have q1 : decide (a.vi = b.vi) = false := by simp [h1]
      have HH := Lib.hid h1
      clear h1
      go_wp2
      go_ret
      exact ⟨false, rfl, ⟨fun h => Bool.noConfusion h, fun h => absurd (congrArg Ms.vi h) HH.out⟩, B1.out⟩
  · have p0 : (a.k == b.k) = false := by simp [h0]
    have q0 : decide (a.k = b.k) = false := by simp [h0]
    have HH := Lib.hid h0
    clear h0
    go_wp2
    go_ret
    exact ⟨false, rfl, ⟨fun h => Bool.noConfusion h, fun h => absurd (congrArg Ms.k h) HH.out⟩, B1.out⟩
end Go.Proofs.Ytiheeafmplccoaa
