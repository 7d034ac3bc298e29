/- Layer 13: Apply, the program's and the document's; whether a state is the document's. (Written by genLdV.py.) -/
import Derived.Test.YtgddcbjlhplmgaaMLu
import Derived.Test.YtgddcbjlhplmgaaLdN0
import Derived.Test.YtgddcbjlhplmgaaLdR
import Derived.Test.YtgddcbjlhplmgaaLdB
import Derived.Test.YtgddcbjlhplmgaaPkF
namespace Go.Proofs.Ytgddcbjlhplmgaa
open Go.RowKit
variable {w w' : World}

theorem xapply13_any (s : St) (r : Rc) (v u : Value) (w : World) (S : Nat → Prop) (hs : s.ok = true) (hr : r.ok = true) (hV : LogV S w v s.log) (hU : LogV S w u r.log) (hS : ∀ i, S i → i < w.heap.size) :
    Calls Try.prog 17 #[s.val v, r.val u] w (ApIf S w s r) := by
  obtain ⟨vi, no, co, ac, l⟩ := s
  obtain ⟨k, a, b, rl⟩ := r
  obtain ⟨_, _, h5, _, _, _⟩ := St.ok_iff.1 hs
  obtain ⟨⟨k1, k2⟩, ⟨k3, k4⟩, _, k7, _⟩ := Rc.ok_iff.1 hr
  simp only at *
  have hk : k = 1 ∨ k = 2 ∨ k = 3 ∨ k = 4 ∨ k = 5 := by omega
  rcases hk with rfl | rfl | rfl | rfl | rfl
  · exact xapply1_any vi no co ac a b l rl v u w S h5 hV hU hS
  · exact xapply2_any vi no co ac a b l rl v u w S h5 hV hU hS (by have : (rl.length : Int) = 1 := k7; omega)
  · exact xapply3_any vi no co ac a b l rl v u w S h5 hV hU hS k3
  · exact xapply4_any vi no co ac a b l rl v u w S h5 hV hU hS
  · exact xapply5_any vi no co ac a b l rl v u w S h5 hV hU hS
def apT (s : St) (r : Rc) : St := if (s.ok && r.ok) = true then (if fits s r = true then chg s r else .zero) else .zero
def apX (s : St) (r : Rc) : Int := if (s.ok && r.ok) = true then (if fits s r = true then 0 else 54) else 10
def ApRt (w : World) (s : St) (r : Rc) (e : Ending) (w' : World) : Prop := ApOut (fun _ => False) w (apT s r) (apX s r) e w'
theorem ap_bad {s : St} {r : Rc} {e : Ending} (h : (s.ok && r.ok) = false) (k : ApOut (fun _ => False) w .zero 10 e w') : ApRt w s r e w' := by
  unfold ApRt apT apX
  have e1 : ¬ (s.ok && r.ok) = true := by rw [h]; simp
  rw [if_neg e1, if_neg e1]
  exact k
theorem ap_un {s : St} {r : Rc} {e : Ending} (hs : s.ok = true) (hr : r.ok = true) (hf : fits s r = false) (k : ApOut (fun _ => False) w .zero 54 e w') : ApRt w s r e w' := by
  unfold ApRt apT apX
  have e1 : (s.ok && r.ok) = true := by rw [hs, hr]; rfl
  have e2 : ¬ fits s r = true := by rw [hf]; simp
  rw [if_pos e1, if_pos e1, if_neg e2, if_neg e2]
  exact k
theorem ap_ok {s : St} {r : Rc} {e : Ending} (hs : s.ok = true) (hr : r.ok = true) (hf : fits s r = true) (k : ApOut (fun _ => False) w (chg s r) 0 e w') : ApRt w s r e w' := by
  unfold ApRt apT apX
  have e1 : (s.ok && r.ok) = true := by rw [hs, hr]; rfl
  rw [if_pos e1, if_pos e1, if_pos hf, if_pos hf]
  exact k
set_option maxRecDepth 100000 in
set_option maxHeartbeats 8000000 in
theorem apply13_any (s : St) (r : Rc) (v u : Value) (w : World) (hV : EntsV w.heap.size w v s.log) (hU : EntsV w.heap.size w u r.log) :
    Calls Try.prog 10 #[s.val v, r.val u] w (ApRt w s r) := by
  obtain ⟨A, c, rfl⟩ := hV.form
  obtain ⟨B, d, rfl⟩ := hU.form
  obtain ⟨n, hn⟩ : ∃ n, n = s.log.length := ⟨_, rfl⟩
  obtain ⟨m, hmm⟩ : ∃ m, m = r.log.length := ⟨_, rfl⟩
  rw [← hn] at hV ⊢
  rw [← hmm] at hU ⊢
  have HN := Lib.hid hn
  have HV := Lib.hid hV
  have HU := Lib.hid hU
  have b0 : Below w.heap.size w (((w.alloc (.cells #[.int .i64 s.vi, .int .i64 s.no, .int .i64 s.co, .int .i64 s.ac, .slice A n c] 24)).alloc (.cells #[.int .i64 r.k, .int .i64 r.a, .int .i64 r.b, .slice B m d] 26)).alloc (.cells #[.int .i64 0, .int .i64 0, .int .i64 0, .int .i64 0, .slice none 0 0] 24)) := (((Below.refl _ _).alloc (Nat.le_refl _) _).alloc (by simp) _).alloc (by simp; omega) _
  have HX : Hid (Blk (((w.alloc (.cells #[.int .i64 s.vi, .int .i64 s.no, .int .i64 s.co, .int .i64 s.ac, .slice A n c] 24)).alloc (.cells #[.int .i64 r.k, .int .i64 r.a, .int .i64 r.b, .slice B m d] 26)).alloc (.cells #[.int .i64 0, .int .i64 0, .int .i64 0, .int .i64 0, .slice none 0 0] 24)) w.heap.size 24 #[.int .i64 s.vi, .int .i64 s.no, .int .i64 s.co, .int .i64 s.ac, .slice A n c]) := Lib.hid (((Blk.new _ _ _).alloc _).alloc _)
  have HR : Hid (Blk (((w.alloc (.cells #[.int .i64 s.vi, .int .i64 s.no, .int .i64 s.co, .int .i64 s.ac, .slice A n c] 24)).alloc (.cells #[.int .i64 r.k, .int .i64 r.a, .int .i64 r.b, .slice B m d] 26)).alloc (.cells #[.int .i64 0, .int .i64 0, .int .i64 0, .int .i64 0, .slice none 0 0] 24)) (w.heap.size + 1) 26 #[.int .i64 r.k, .int .i64 r.a, .int .i64 r.b, .slice B m d]) := Lib.hid ((Blk.at_new _ _ (by simp) _ _).alloc _)
  have HZ : Hid (Blk (((w.alloc (.cells #[.int .i64 s.vi, .int .i64 s.no, .int .i64 s.co, .int .i64 s.ac, .slice A n c] 24)).alloc (.cells #[.int .i64 r.k, .int .i64 r.a, .int .i64 r.b, .slice B m d] 26)).alloc (.cells #[.int .i64 0, .int .i64 0, .int .i64 0, .int .i64 0, .slice none 0 0] 24)) (w.heap.size + 2) 24 #[.int .i64 0, .int .i64 0, .int .i64 0, .int .i64 0, .slice none 0 0]) := Lib.hid (Blk.at_new _ _ (by simp) _ _)
  have hs0 : (((w.alloc (.cells #[.int .i64 s.vi, .int .i64 s.no, .int .i64 s.co, .int .i64 s.ac, .slice A n c] 24)).alloc (.cells #[.int .i64 r.k, .int .i64 r.a, .int .i64 r.b, .slice B m d] 26)).alloc (.cells #[.int .i64 0, .int .i64 0, .int .i64 0, .int .i64 0, .slice none 0 0] 24)).heap.size = w.heap.size + 3 := by simp
  clear hn hmm hV hU
  go_enter Try.func10, Try.ntmps10
  go_upto_region 1 with (fail)
  generalize ((w.alloc _).alloc _).alloc _ = wx at *
  have hsx : w.heap.size + 3 ≤ wx.heap.size := by omega
  have B0 := Lib.hid b0
  clear b0 hs0
  have CS : Hid (Calls Try.prog 12 #[s.val (.slice A n c)] wx fun e w' => e = .returned (.bool s.ok) ∧ Below wx.heap.size wx w') := Lib.hid (sright_any s _ wx (HV.out.on B0.out))
  have CR : Hid (∀ W, Below wx.heap.size wx W → Calls Try.prog 25 #[r.val (.slice B m d)] W fun e w' => e = .returned (.bool r.ok) ∧ Below W.heap.size W w') := Lib.hid fun W hW => prec_any r _ W (HU.out.on (B0.out.trans (hW.mono (by omega))))
  have x0 := HX.out.cell 0
  have x1 := HX.out.cell 1
  have x2 := HX.out.cell 2
  have x3 := HX.out.cell 3
  have x4 := HX.out.cell 4
  have xln := HX.out.lt
  cases hs : s.ok with
  | false =>
    have HSo := Lib.hid hs
    clear hs
    go_wp2_with fail
    refine CS.out.mono ?_
    rintro e w1 ⟨rfl, hb1⟩
    rw [HSo.out]
    have B1 := Lib.hid (B0.out.trans (hb1.mono (by omega)))
    have Z1 := Lib.hid (HZ.out.on hb1)
    clear hb1 x0 x1 x2 x3 x4 xln
    have z0 := Z1.out.cell 0
    have z1 := Z1.out.cell 1
    have z2 := Z1.out.cell 2
    have z3 := Z1.out.cell 3
    have z4 := Z1.out.cell 4
    have zln := Z1.out.lt
    have zf := Z1.out.frozen
    go_wp2
    exact bodyPost_ret (v := .tuple #[.agg #[.int .i64 0, .int .i64 0, .int .i64 0, .int .i64 0, .slice none 0 0], .int .i64 10]) (by simp [results, Try.results10, go_sem, *]) rfl (ap_bad (by rw [HSo.out]; rfl) ⟨none, 0, 0, rfl, rfl, LogV.nil _ _, (((((B1.out.setCell (p := ⟨w.heap.size + 2, 0, none⟩) (by simp) (.int .i64 0)).setCell (p := ⟨w.heap.size + 2, 1, none⟩) (by simp) (.int .i64 0)).setCell (p := ⟨w.heap.size + 2, 2, none⟩) (by simp) (.int .i64 0)).setCell (p := ⟨w.heap.size + 2, 3, none⟩) (by simp) (.int .i64 0)).setCell (p := ⟨w.heap.size + 2, 4, none⟩) (by simp) (.slice none 0 0))⟩)
  | true =>
    have HSo := Lib.hid hs
    clear hs
    go_wp2_with fail
    refine CS.out.mono ?_
    rintro e w1 ⟨rfl, hb1⟩
    rw [HSo.out]
    have W1 := Lib.hid hb1
    have R1 := Lib.hid (HR.out.on hb1)
    clear hb1 x0 x1 x2 x3 x4 xln
    have r0 := R1.out.cell 0
    have r1 := R1.out.cell 1
    have r2 := R1.out.cell 2
    have r3 := R1.out.cell 3
    have rln := R1.out.lt
    cases hr : r.ok with
    | false =>
      have HRo := Lib.hid hr
      clear hr
      go_wp2_with fail
      refine (CR.out _ W1.out).mono ?_
      rintro e w2 ⟨rfl, hb2⟩
      rw [HRo.out]
      have W2 := Lib.hid (W1.out.trans (hb2.mono W1.out.size))
      have B2 := Lib.hid (B0.out.trans (W2.out.mono (by omega)))
      have Z2 := Lib.hid (HZ.out.on W2.out)
      clear hb2 r0 r1 r2 r3 rln
      have z0 := Z2.out.cell 0
      have z1 := Z2.out.cell 1
      have z2 := Z2.out.cell 2
      have z3 := Z2.out.cell 3
      have z4 := Z2.out.cell 4
      have zln := Z2.out.lt
      have zf := Z2.out.frozen
      go_wp2
      exact bodyPost_ret (v := .tuple #[.agg #[.int .i64 0, .int .i64 0, .int .i64 0, .int .i64 0, .slice none 0 0], .int .i64 10]) (by simp [results, Try.results10, go_sem, *]) rfl (ap_bad (by rw [HSo.out, HRo.out]; rfl) ⟨none, 0, 0, rfl, rfl, LogV.nil _ _, (((((B2.out.setCell (p := ⟨w.heap.size + 2, 0, none⟩) (by simp) (.int .i64 0)).setCell (p := ⟨w.heap.size + 2, 1, none⟩) (by simp) (.int .i64 0)).setCell (p := ⟨w.heap.size + 2, 2, none⟩) (by simp) (.int .i64 0)).setCell (p := ⟨w.heap.size + 2, 3, none⟩) (by simp) (.int .i64 0)).setCell (p := ⟨w.heap.size + 2, 4, none⟩) (by simp) (.slice none 0 0))⟩)
    | true =>
      have HRo := Lib.hid hr
      clear hr
      go_wp2_with fail
      refine (CR.out _ W1.out).mono ?_
      rintro e w2 ⟨rfl, hb2⟩
      rw [HRo.out]
      have W2 := Lib.hid (W1.out.trans (hb2.mono W1.out.size))
      have B2 := Lib.hid (B0.out.trans (W2.out.mono (by omega)))
      have Z2 := Lib.hid (HZ.out.on W2.out)
      clear hb2 r0 r1 r2 r3 rln
      have X2 := Lib.hid (HX.out.on W2.out)
      have R2 := Lib.hid (HR.out.on W2.out)
      have AP : Hid (Calls Try.prog 26 #[s.val (.slice A n c), r.val (.slice B m d)] w2 fun e w' => e = .returned (.bool (fits s r)) ∧ Below w2.heap.size w2 w') := Lib.hid (applies_any s r A B n c m d HN.out w2)
      have hs2 : w.heap.size + 3 ≤ w2.heap.size := Nat.le_trans hsx W2.out.size
      have x0 := X2.out.cell 0
      have x1 := X2.out.cell 1
      have x2 := X2.out.cell 2
      have x3 := X2.out.cell 3
      have x4 := X2.out.cell 4
      have xln := X2.out.lt
      have r0 := R2.out.cell 0
      have r1 := R2.out.cell 1
      have r2 := R2.out.cell 2
      have r3 := R2.out.cell 3
      have rln := R2.out.lt
      cases hf : fits s r with
      | false =>
        have HF := Lib.hid hf
        clear hf
        go_wp2_with fail
        refine AP.out.mono ?_
        rintro e w3 ⟨rfl, hb3⟩
        rw [HF.out]
        have W3 := Lib.hid (W2.out.trans (hb3.mono W2.out.size))
        have B3 := Lib.hid (B0.out.trans (W3.out.mono (by omega)))
        have Z3 := Lib.hid (HZ.out.on W3.out)
        have X3 := Lib.hid (HX.out.on W3.out)
        have R3 := Lib.hid (HR.out.on W3.out)
        clear hb3 x0 x1 x2 x3 x4 xln r0 r1 r2 r3 rln AP
        have z0 := Z3.out.cell 0
        have z1 := Z3.out.cell 1
        have z2 := Z3.out.cell 2
        have z3 := Z3.out.cell 3
        have z4 := Z3.out.cell 4
        have zln := Z3.out.lt
        have zf := Z3.out.frozen
        go_wp2
        exact bodyPost_ret (v := .tuple #[.agg #[.int .i64 0, .int .i64 0, .int .i64 0, .int .i64 0, .slice none 0 0], .int .i64 54]) (by simp [results, Try.results10, go_sem, *]) rfl (ap_un HSo.out HRo.out HF.out ⟨none, 0, 0, rfl, rfl, LogV.nil _ _, (((((B3.out.setCell (p := ⟨w.heap.size + 2, 0, none⟩) (by simp) (.int .i64 0)).setCell (p := ⟨w.heap.size + 2, 1, none⟩) (by simp) (.int .i64 0)).setCell (p := ⟨w.heap.size + 2, 2, none⟩) (by simp) (.int .i64 0)).setCell (p := ⟨w.heap.size + 2, 3, none⟩) (by simp) (.int .i64 0)).setCell (p := ⟨w.heap.size + 2, 4, none⟩) (by simp) (.slice none 0 0))⟩)
      | true =>
        have HF := Lib.hid hf
        clear hf
        go_wp2_with fail
        refine AP.out.mono ?_
        rintro e w3 ⟨rfl, hb3⟩
        rw [HF.out]
        have W3 := Lib.hid (W2.out.trans (hb3.mono W2.out.size))
        have B3 := Lib.hid (B0.out.trans (W3.out.mono (by omega)))
        have Z3 := Lib.hid (HZ.out.on W3.out)
        have X3 := Lib.hid (HX.out.on W3.out)
        have R3 := Lib.hid (HR.out.on W3.out)
        clear hb3 x0 x1 x2 x3 x4 xln r0 r1 r2 r3 rln AP
        have CH : Hid (Calls Try.prog 28 #[s.val (.slice A n c), r.val (.slice B m d)] w3 fun e w' => ∃ A' n' c', e = .returned ((chg s r).val (.slice A' n' c')) ∧ LogV (fun _ => False) w' (.slice A' n' c') (chg s r).log ∧ n' = (chg s r).log.length ∧ Below w3.heap.size w3 w') := Lib.hid (change_any s r A B n c m d w3 HSo.out HRo.out HF.out (LogV.of_ents (HV.out.on B3.out)) (LogV.of_ents (HU.out.on B3.out)) (fun _ e => e.elim))
        have hcok := chg_ok HSo.out HRo.out HF.out
        have x0 := X3.out.cell 0
        have x1 := X3.out.cell 1
        have x2 := X3.out.cell 2
        have x3 := X3.out.cell 3
        have x4 := X3.out.cell 4
        have xln := X3.out.lt
        have r0 := R3.out.cell 0
        have r1 := R3.out.cell 1
        have r2 := R3.out.cell 2
        have r3 := R3.out.cell 3
        have rln := R3.out.lt
        go_wp2_with fail
        refine CH.out.mono ?_
        rintro e w4 ⟨A4, n4, c4, rfl, l4, hn4, hb4⟩
        have OW := Lib.hid (own_any (chg s r) (.slice A4 n4 c4) w4 (by have := (St.ok_iff.1 hcok).2.2.1; omega) (short_ok (St.ok_iff.1 hcok).2.2.2.1) l4.read)
        have W4 := Lib.hid (W3.out.trans (hb4.mono W3.out.size))
        have HCE : Hid ((0 : Nat) = 0) := Lib.hid rfl
        obtain ⟨t2, ht2⟩ : ∃ t2, t2 = chg s r := ⟨_, rfl⟩
        rw [← ht2] at OW ⊢
        have HT2 := Lib.hid ht2
        obtain ⟨k2, hk2⟩ : ∃ k2, k2 = t2.log.length := ⟨_, rfl⟩
        rw [← hk2] at OW
        have HK2 := Lib.hid hk2
        clear hb4 l4 hn4 hcok ht2 hk2 x0 x1 x2 x3 x4 xln r0 r1 r2 r3 rln HCE
        go_wp2_with fail
        refine OW.out.mono ?_
        rintro e w5 ⟨A5, c5, rfl, o5, hb5⟩
        have W5 := Lib.hid (W4.out.trans (hb5.mono W4.out.size))
        have B5 := Lib.hid (B0.out.trans (W5.out.mono (by omega)))
        have Z5 := Lib.hid (HZ.out.on W5.out)
        have O5 : Hid (LEntV (w.heap.size + 3) w5 (.slice A5 k2 c5) t2.log) := Lib.hid (o5.low (Nat.le_trans hsx W4.out.size))
        clear o5 hb5 OW
        have z0 := Z5.out.cell 0
        have z1 := Z5.out.cell 1
        have z2 := Z5.out.cell 2
        have z3 := Z5.out.cell 3
        have z4 := Z5.out.cell 4
        have zln := Z5.out.lt
        have zf := Z5.out.frozen
        go_wp2
        exact bodyPost_ret (v := .tuple #[.agg #[.int .i64 t2.vi, .int .i64 t2.no, .int .i64 t2.co, .int .i64 t2.ac, .slice A5 k2 c5], .int .i64 0]) (by simp [results, Try.results10, go_sem, *]) rfl (ap_ok HSo.out HRo.out HF.out (by rw [← HT2.out]; exact ⟨A5, k2, c5, rfl, HK2.out, LogV.of_ents (OwnE.read (((((O5.out.set_ (q := ⟨w.heap.size + 2, 0, none⟩) (by simp) (.int .i64 t2.vi)).set_ (q := ⟨w.heap.size + 2, 1, none⟩) (by simp) (.int .i64 t2.no)).set_ (q := ⟨w.heap.size + 2, 2, none⟩) (by simp) (.int .i64 t2.co)).set_ (q := ⟨w.heap.size + 2, 3, none⟩) (by simp) (.int .i64 t2.ac)).set_ (q := ⟨w.heap.size + 2, 4, none⟩) (by simp) (.slice A5 k2 c5))), (((((B5.out.setCell (p := ⟨w.heap.size + 2, 0, none⟩) (by simp) (.int .i64 t2.vi)).setCell (p := ⟨w.heap.size + 2, 1, none⟩) (by simp) (.int .i64 t2.no)).setCell (p := ⟨w.heap.size + 2, 2, none⟩) (by simp) (.int .i64 t2.co)).setCell (p := ⟨w.heap.size + 2, 3, none⟩) (by simp) (.int .i64 t2.ac)).setCell (p := ⟨w.heap.size + 2, 4, none⟩) (by simp) (.slice A5 k2 c5))⟩))
set_option maxRecDepth 100000 in
set_option maxHeartbeats 8000000 in
theorem same13_any (s x : St) (v u : Value) (w : World) (hm : s.log.length ≤ 70) (hsm : ∀ e ∈ s.log, smallE e = true) (hxs : ∀ e ∈ x.log, e.d.put.length ≤ 1000000 ∧ e.d.drop.length ≤ 1000000) (hV : EntsV w.heap.size w v s.log) (hU : EntsV w.heap.size w u x.log) :
    Calls Try.prog 16 #[s.val v, x.val u] w fun e w' => ∃ c, e = .returned (.bool c) ∧ (c = true ↔ s = x) ∧ Below w.heap.size w w' := by
  obtain ⟨A, c, rfl⟩ := hV.form
  obtain ⟨B, d, rfl⟩ := hU.form
  obtain ⟨n, hn⟩ : ∃ n, n = s.log.length := ⟨_, rfl⟩
  obtain ⟨m, hmm⟩ : ∃ m, m = x.log.length := ⟨_, rfl⟩
  rw [← hn] at hV ⊢
  rw [← hmm] at hU ⊢
  have HM := Lib.hid hm
  have HSm := Lib.hid hsm
  have HXs := Lib.hid hxs
  have HV := Lib.hid hV
  have HU := Lib.hid hU
  have b0 : Below w.heap.size w ((w.alloc (.cells #[.int .i64 s.vi, .int .i64 s.no, .int .i64 s.co, .int .i64 s.ac, .slice A n c] 24)).alloc (.cells #[.int .i64 x.vi, .int .i64 x.no, .int .i64 x.co, .int .i64 x.ac, .slice B m d] 35)) := ((Below.refl _ _).alloc (Nat.le_refl _) _).alloc (by simp) _
  have HX : Hid (Blk ((w.alloc (.cells #[.int .i64 s.vi, .int .i64 s.no, .int .i64 s.co, .int .i64 s.ac, .slice A n c] 24)).alloc (.cells #[.int .i64 x.vi, .int .i64 x.no, .int .i64 x.co, .int .i64 x.ac, .slice B m d] 35)) w.heap.size 24 #[.int .i64 s.vi, .int .i64 s.no, .int .i64 s.co, .int .i64 s.ac, .slice A n c]) := Lib.hid ((Blk.new _ _ _).alloc _)
  have HY : Hid (Blk ((w.alloc (.cells #[.int .i64 s.vi, .int .i64 s.no, .int .i64 s.co, .int .i64 s.ac, .slice A n c] 24)).alloc (.cells #[.int .i64 x.vi, .int .i64 x.no, .int .i64 x.co, .int .i64 x.ac, .slice B m d] 35)) (w.heap.size + 1) 35 #[.int .i64 x.vi, .int .i64 x.no, .int .i64 x.co, .int .i64 x.ac, .slice B m d]) := Lib.hid (Blk.at_new _ _ (by simp) _ _)
  clear hm hsm hxs hV hU hn hmm
  go_enter Try.func16, Try.ntmps16
  go_upto_region 1 with (fail)
  generalize (w.alloc _).alloc _ = wx at *
  have B5 : Hid (Below w.heap.size w wx.drew) := Lib.hid (Below.drewN' b0 1)
  have hs5 : w.heap.size ≤ wx.drew.heap.size := B5.out.size
  have CM : Hid (Calls Try.prog 11 #[s.val (.slice A n c)] wx.drew fun e w' => ∃ A c, e = .returned (s.val (.slice A s.log.length c)) ∧ OwnX w.heap.size wx.drew.heap.size w' (.slice A s.log.length c) s.log ∧ Below wx.drew.heap.size wx.drew w') := Lib.hid (madeState_any w.heap.size s _ wx.drew hs5 HM.out HSm.out (HV.out.below B5.out))
  have hb6 : ∀ w6 : World, Below wx.drew.heap.size wx.drew w6 → w.heap.size ≤ w6.heap.size := fun w6 h => Nat.le_trans hs5 h.size
  clear b0
  refine wp_region_held_drew (S := fun w' => Blk w' w.heap.size 24 #[.int .i64 s.vi, .int .i64 s.no, .int .i64 s.co, .int .i64 s.ac, .slice A n c] ∧ Blk w' (w.heap.size + 1) 35 #[.int .i64 x.vi, .int .i64 x.no, .int .i64 x.co, .int .i64 x.ac, .slice B m d]) (by kernel_rfl) ⟨HX.out, HY.out⟩ (fun hHeld => ?_)
  refine take_d 0 5 (.agg #[.int .i64 s.vi, .int .i64 s.no, .int .i64 s.co, .int .i64 s.ac, .slice A n c]) _ rfl rfl (by kernel_rfl) (by kernel_rfl) (by kernel_rfl) (fun _ _ _ h => h) (Or.inl ⟨by rfl, fun w' hSw => ?_⟩) hHeld ?_
  · have q0 := hSw.1.cell 0
    have q1 := hSw.1.cell 1
    have q2 := hSw.1.cell 2
    have q3 := hSw.1.cell 3
    have q4 := hSw.1.cell 4
    go_simp
  simp only [List.setIfInBounds_toArray, List.set_cons_zero, List.set_cons_succ]
  refine take_d 2 7 (.agg #[.int .i64 x.vi, .int .i64 x.no, .int .i64 x.co, .int .i64 x.ac, .slice B m d]) _ rfl rfl (by kernel_rfl) (by kernel_rfl) (by kernel_rfl) (fun _ _ _ h => h) (Or.inl ⟨by rfl, fun w' hSw => ?_⟩) hHeld ?_
  · have q0 := hSw.2.cell 0
    have q1 := hSw.2.cell 1
    have q2 := hSw.2.cell 2
    have q3 := hSw.2.cell 3
    have q4 := hSw.2.cell 4
    go_simp
  simp only [List.setIfInBounds_toArray, List.set_cons_zero, List.set_cons_succ]
  refine wpAnyH_ready (rs := [1]) (by kernel_rfl) (by simp) ?_
  refine AllReadyH.cons rfl (fun K hK => ?_) AllReadyH.nil
  go_simp
  refine CM.out.mono ?_
  rintro e w6 ⟨A6, c6, rfl, o6, hB6⟩
  have hS6 : Blk w6 w.heap.size 24 #[.int .i64 s.vi, .int .i64 s.no, .int .i64 s.co, .int .i64 s.ac, .slice A n c] ∧ Blk w6 (w.heap.size + 1) 35 #[.int .i64 x.vi, .int .i64 x.no, .int .i64 x.co, .int .i64 x.ac, .slice B m d] := ⟨hHeld.1.on hB6, hHeld.2.on hB6⟩
  have B6 := Lib.hid (B5.out.trans (hB6.mono B5.out.size))
  have CE : Hid (Calls Try.prog 24 #[s.val (.slice A6 s.log.length c6), x.val (.slice B m d)] w6 fun e w' => ∃ c, e = .returned (.bool c) ∧ (c = true ↔ s = x) ∧ Below w6.heap.size w6 w') := Lib.hid (xsameSt_any s x _ _ w6 (by have := HM.out; omega) (fun e he => smallE_len (HSm.out e he)) HXs.out (o6.read (hb6 w6 hB6)) (HU.out.on B6.out))
  refine hK.out _ _ hS6 (fun hHeld => ?_)
  clear hK K hS6 o6 hB6
  refine wpAnyH_ready (rs := [3]) (by kernel_rfl) (by simp) ?_
  refine AllReadyH.cons rfl (fun K hK => ?_) AllReadyH.nil
  go_simp
  refine CE.out.mono ?_
  rintro e w7 ⟨cc, rfl, hcc, hB7⟩
  have hS7 : Blk w7 w.heap.size 24 #[.int .i64 s.vi, .int .i64 s.no, .int .i64 s.co, .int .i64 s.ac, .slice A n c] ∧ Blk w7 (w.heap.size + 1) 35 #[.int .i64 x.vi, .int .i64 x.no, .int .i64 x.co, .int .i64 x.ac, .slice B m d] := ⟨hHeld.1.on hB7, hHeld.2.on hB7⟩
  have HCC := Lib.hid hcc
  have B7 := Lib.hid (B6.out.trans (hB7.mono B6.out.size))
  refine hK.out _ _ hS7 (fun hHeld => ?_)
  clear hK K hS7 hB7 hcc
  refine take_d 4 4 (.bool cc) _ rfl rfl (by kernel_rfl) (by kernel_rfl) (by kernel_rfl) (fun _ _ _ h => h) (Or.inl ⟨by rfl, fun w' hSw => ?_⟩) hHeld ?_
  · go_simp
  simp only [List.setIfInBounds_toArray, List.set_cons_zero, List.set_cons_succ]
  refine wpAnyH_done (by kernel_rfl) ?_ _
  go_wp2
  go_ret
  exact ⟨cc, rfl, HCC.out, B7.out⟩
end Go.Proofs.Ytgddcbjlhplmgaa
