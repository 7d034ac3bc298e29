/- Layer 13: LedgerSteps. (Written by genLdLs.py.) -/
import Derived.Test.YtgddcbjlhplmgaaLdY
namespace Go.Proofs.Ytgddcbjlhplmgaa
open Go.RowKit
variable {w w' : World}

/-- How many bytes a right state's first frames take. -/
theorem first_len {t : St} (ht : t.ok = true) : ((fcat (recs 0 .zero t)).length : Int) ≤ 1048576 := by
  have h1 := fcat_len (recs_ok (n := 0) St.zero_ok ht)
  have h2 := recs_len (n := 0) (a := .zero) ht
  have h3 := Nat.mul_le_mul_right 4760 h2
  omega
theorem LogV.empty (S : Nat → Prop) (w : World) (A : Option Addr) (c : Nat) : LogV S w (.slice A 0 c) [] := ⟨[], rfl, fun _ _ => ⟨A, c, rfl, Nat.zero_le _, fun h => absurd rfl h⟩⟩
theorem LedV.zero_fr {S S' S2 : Nat → Prop} {g gt : Nat} {br : Bool} (h : LedV w g gt S .zero br) (k : Fr S2 w w') (hg : ¬ S2 g) : LedV w' g gt S' .zero br := by
  obtain ⟨A, n, c, h1, _, h3⟩ := h
  obtain rfl : n = 0 := h3
  exact ⟨A, 0, c, k.blk h1 hg, LogV.empty _ _ _ _, rfl⟩
theorem short_of_ok {t : St} (h : t.ok = true) : (∀ e ∈ t.log, short e) ∧ t.log.length ≤ 64 := ⟨short_ok (St.ok_iff.1 h).2.2.2.1, (St.ok_iff.1 h).2.2.1⟩
set_option maxRecDepth 100000 in
set_option maxHeartbeats 16000000 in
theorem ledgerSteps_law (a : St) (v : Value) (b : St) (u : Value) (w : World) (hV : EntsV w.heap.size w v a.log) (hm : a.log.length ≤ 9223372036854775807) (hU : EntsV w.heap.size w u b.log) (hmu : b.log.length ≤ 9223372036854775807) :
    Calls Try.prog 5 #[a.val v, b.val u] w fun e w' => e = .returned (.bool true) ∧ Below w.heap.size w w' := by
  obtain ⟨A, c, rfl⟩ := hV.form
  obtain ⟨B, d, rfl⟩ := hU.form
  obtain ⟨n, hn⟩ : ∃ n, n = a.log.length := ⟨_, rfl⟩
  obtain ⟨m, hmm⟩ : ∃ m, m = b.log.length := ⟨_, rfl⟩
  rw [← hn] at hV hm ⊢
  rw [← hmm] at hU hmu ⊢
  have HN := Lib.hid hn
  have HMM := Lib.hid hmm
  have b0 : Below w.heap.size w ((w.alloc (.cells #[.int .i64 a.vi, .int .i64 a.no, .int .i64 a.co, .int .i64 a.ac, .slice A n c] 24)).alloc (.cells #[.int .i64 b.vi, .int .i64 b.no, .int .i64 b.co, .int .i64 b.ac, .slice B m d] 24)) := ((Below.refl _ _).alloc (Nat.le_refl _) _).alloc (by simp) _
  have HX : Hid (Blk ((w.alloc (.cells #[.int .i64 a.vi, .int .i64 a.no, .int .i64 a.co, .int .i64 a.ac, .slice A n c] 24)).alloc (.cells #[.int .i64 b.vi, .int .i64 b.no, .int .i64 b.co, .int .i64 b.ac, .slice B m d] 24)) w.heap.size 24 #[.int .i64 a.vi, .int .i64 a.no, .int .i64 a.co, .int .i64 a.ac, .slice A n c]) := Lib.hid ((Blk.new _ _ _).alloc _)
  have HY : Hid (Blk ((w.alloc (.cells #[.int .i64 a.vi, .int .i64 a.no, .int .i64 a.co, .int .i64 a.ac, .slice A n c] 24)).alloc (.cells #[.int .i64 b.vi, .int .i64 b.no, .int .i64 b.co, .int .i64 b.ac, .slice B m d] 24)) (w.heap.size + 1) 24 #[.int .i64 b.vi, .int .i64 b.no, .int .i64 b.co, .int .i64 b.ac, .slice B m d]) := Lib.hid (Blk.at_new _ _ (by simp) _ _)
  have hs0 : ((w.alloc (.cells #[.int .i64 a.vi, .int .i64 a.no, .int .i64 a.co, .int .i64 a.ac, .slice A n c] 24)).alloc (.cells #[.int .i64 b.vi, .int .i64 b.no, .int .i64 b.co, .int .i64 b.ac, .slice B m d] 24)).heap.size = w.heap.size + 2 := by simp
  have HM1 := Lib.hid hm
  have HM2 := Lib.hid hmu
  have HV := Lib.hid hV
  have HU := Lib.hid hU
  clear hn hmm hV hU hm hmu
  go_enter Try.func5, Try.ntmps5
  go_upto_region 1 with (fail)
  generalize (w.alloc _).alloc _ = w0 at *
  have B0 := Lib.hid b0
  have hsz0 : w.heap.size + 2 ≤ w0.heap.size := by omega
  have LA0 : Hid (LogV (fun i => w0.heap.size ≤ i) w0 (.slice A n c) a.log) := Lib.hid ((LogV.of_ents (HV.out.on b0)).sub fun i hi => .inr hi)
  have LB0 : Hid (LogV (fun i => w0.heap.size ≤ i) w0 (.slice B m d) b.log) := Lib.hid ((LogV.of_ents (HU.out.on b0)).sub fun i hi => .inr hi)
  have XA : Hid (∀ W, Fr (fun i => w0.heap.size ≤ i) w0 W → Blk W w.heap.size 24 #[.int .i64 a.vi, .int .i64 a.no, .int .i64 a.co, .int .i64 a.ac, .slice A n c]) := Lib.hid fun W k => k.blk HX.out (by omega)
  have XB : Hid (∀ W, Fr (fun i => w0.heap.size ≤ i) w0 W → Blk W (w.heap.size + 1) 24 #[.int .i64 b.vi, .int .i64 b.no, .int .i64 b.co, .int .i64 b.ac, .slice B m d]) := Lib.hid fun W k => k.blk HY.out (by omega)
  have FIN : Hid (∀ W, Fr (fun i => w0.heap.size ≤ i) w0 W → Below w.heap.size w W) := Lib.hid fun W k => B0.out.trans (k.old (by omega) (fun i hi => by omega))
  clear b0 hs0 HX HY HV HU
  go_wp2_with fail
  refine (anchor13_any _).mono ?_
  rintro e w1 ⟨rfl, hb1⟩
  have F1 : Hid (Fr (fun i => w0.heap.size ≤ i) w0 w1) := Lib.hid (Fr.of_below hb1)
  clear hb1
  have SM := Lib.hid (smallSt_any a _ w1 (by rw [← HN.out]; exact HM1.out) (LA0.out.next F1.out).read)
  have x0 := (XA.out _ F1.out).cell 0
  have x1 := (XA.out _ F1.out).cell 1
  have x2 := (XA.out _ F1.out).cell 2
  have x3 := (XA.out _ F1.out).cell 3
  have x4 := (XA.out _ F1.out).cell 4
  have xln := (XA.out _ F1.out).lt
  obtain ⟨qa, hqa⟩ : ∃ q, q = smallL a.log := ⟨_, rfl⟩
  rw [← hqa] at SM
  have Hqa := Lib.hid hqa
  clear hqa
  go_wp2_with fail
  refine SM.out.mono ?_
  rintro e w2 ⟨rfl, hb⟩
  have F2 : Hid (Fr (fun i => w0.heap.size ≤ i) w0 w2) := Lib.hid (F1.out.next (Fr.of_below hb))
  clear hb SM
  clear x0 x1 x2 x3 x4 xln
  cases qa with
  | false =>
    go_wp2
    go_ret
    exact ⟨rfl, FIN.out _ F2.out⟩
  | true =>
    have SM := Lib.hid (smallSt_any b _ w2 (by rw [← HMM.out]; exact HM2.out) (LB0.out.next F2.out).read)
    have x0 := (XB.out _ F2.out).cell 0
    have x1 := (XB.out _ F2.out).cell 1
    have x2 := (XB.out _ F2.out).cell 2
    have x3 := (XB.out _ F2.out).cell 3
    have x4 := (XB.out _ F2.out).cell 4
    have xln := (XB.out _ F2.out).lt
    obtain ⟨qb, hqb⟩ : ∃ q, q = smallL b.log := ⟨_, rfl⟩
    rw [← hqb] at SM
    have Hqb := Lib.hid hqb
    clear hqb
    go_wp2_with fail
    refine SM.out.mono ?_
    rintro e w3 ⟨rfl, hb⟩
    have F3 : Hid (Fr (fun i => w0.heap.size ≤ i) w0 w3) := Lib.hid (F2.out.next (Fr.of_below hb))
    clear hb SM
    clear x0 x1 x2 x3 x4 xln
    cases qb with
    | false =>
      go_wp2
      go_ret
      exact ⟨rfl, FIN.out _ F3.out⟩
    | true =>
      have HSB := Lib.hid (smallL_iff.1 Hqb.out.symm)
      have hn64 : (n : Int) ≤ 70 := by have := (smallL_iff.1 Hqa.out.symm).2; have := HN.out; omega
      have hm64 : (m : Int) ≤ 70 := by have := HSB.out.2; have := HMM.out; omega
      have x0 := (XA.out _ F3.out).cell 0
      have x1 := (XA.out _ F3.out).cell 1
      have x2 := (XA.out _ F3.out).cell 2
      have x3 := (XA.out _ F3.out).cell 3
      have x4 := (XA.out _ F3.out).cell 4
      have xln := (XA.out _ F3.out).lt
      have y0 := (XB.out _ F3.out).cell 0
      have y1 := (XB.out _ F3.out).cell 1
      have y2 := (XB.out _ F3.out).cell 2
      have y3 := (XB.out _ F3.out).cell 3
      have y4 := (XB.out _ F3.out).cell 4
      have yln := (XB.out _ F3.out).lt
      by_cases hsum : (12 : Int) < (n : Int) + (m : Int)
      · go_wp2
        go_ret
        exact ⟨rfl, FIN.out _ F3.out⟩
      have NT := Lib.hid (new_any 1048576 (by decide) (by decide) w3)
      rw [Tq.new] at NT
      go_wp2_with fail
      refine NT.out.mono ?_
      rintro e w4 ⟨rfl, ht4, hb4⟩
      clear x0 x1 x2 x3 x4 xln
      clear y0 y1 y2 y3 y4 yln
      clear hsum
      have h3 : w0.heap.size ≤ w3.heap.size := F3.out.size
      obtain ⟨gt, hgt⟩ : ∃ g, g = w3.heap.size := ⟨_, rfl⟩
      rw [← hgt] at ht4 ⊢
      have F4 : Hid (Fr (fun i => w0.heap.size ≤ i) w0 w4) := Lib.hid (F3.out.next (Fr.of_below hb4))
      have hg4 : gt < w4.heap.size := ht4.lt
      have hgt0 : w0.heap.size ≤ gt := by omega
      have T4 := Lib.hid ht4
      clear hb4 NT ht4 hgt
      have NU := Lib.hid (new_any 1048576 (by decide) (by decide) w4)
      rw [Tq.new] at NU
      go_wp2_with fail
      refine NU.out.mono ?_
      rintro e w5 ⟨rfl, ht5, hb5⟩
      obtain ⟨gu, hgu⟩ : ∃ g, g = w4.heap.size := ⟨_, rfl⟩
      rw [← hgu] at ht5 hg4 ⊢
      have F5 : Hid (Fr (fun i => w0.heap.size ≤ i) w0 w5) := Lib.hid (F4.out.next (Fr.of_below hb5))
      have T5 := Lib.hid (T4.out.on hb5)
      have hg5 : gu < w5.heap.size := ht5.lt
      have U5 := Lib.hid ht5
      clear hb5 NU ht5 hgu
      have OT := Lib.hid (open_whole T5.out Whole.nil)
      go_wp2_with fail
      refine OT.out.mono ?_
      rintro e w6 ⟨g, rfl, hg, hl6, ht6, hb6⟩
      have F6 : Hid (Fr (fun i => w0.heap.size ≤ i) w0 w6) := Lib.hid (F5.out.next (Fr.of_below hb6))
      have U6 := Lib.hid (U5.out.on hb6)
      have T6 := Lib.hid ht6
      have L6 := Lib.hid hl6
      have hg6 : g < w6.heap.size := hl6.lt
      clear hb6 OT hl6 ht6
      have OU := Lib.hid (open_whole U6.out Whole.nil)
      go_wp2_with fail
      refine OU.out.mono ?_
      rintro e w7 ⟨g2, rfl, hg2, hl7, ht7, hb7⟩
      have F7 : Hid (Fr (fun i => w0.heap.size ≤ i) w0 w7) := Lib.hid (F6.out.next (Fr.of_below hb7))
      have T7 := Lib.hid (T6.out.on hb7)
      have L7 := Lib.hid (L6.out.on hb7)
      have U7 := Lib.hid ht7
      have M7 := Lib.hid hl7
      have hg7 : g2 < w7.heap.size := hl7.lt
      clear hb7 OU hl7 ht7
      have SA := Lib.hid (save_any (t := a) (.slice A n c) T7.out L7.out (fun e => by have e' : g = gt := e; omega) St.zero_ok ((LA0.out.next F7.out).sub (fun i hi => .inl (by have e' : i = gt := hi; omega))))
      have x0 := (XA.out _ F7.out).cell 0
      have x1 := (XA.out _ F7.out).cell 1
      have x2 := (XA.out _ F7.out).cell 2
      have x3 := (XA.out _ F7.out).cell 3
      have x4 := (XA.out _ F7.out).cell 4
      have xln := (XA.out _ F7.out).lt
      go_wp2_with fail
      refine SA.out.mono ?_
      rintro e w8 ⟨E8, S8, s8, br8, bs8, rfl, hp8⟩
      have hS8 : ∀ i, S8 i → i = gt ∨ w7.heap.size ≤ i := hp8.foot
      have P8 := Lib.hid hp8
      have HS8 := Lib.hid hS8
      have F8 : Hid (Fr (fun i => w0.heap.size ≤ i) w0 w8) := Lib.hid (F7.out.next (hp8.fr.sub fun i _ hi => hi.elim (fun e => by have e' : i = gt := e; omega) (fun e => by omega)))
      clear SA hp8 hS8
      clear x0 x1 x2 x3 x4 xln
      by_cases hE8 : ¬ E8 = 0
      · go_wp2
        go_ret
        exact ⟨rfl, FIN.out _ F8.out⟩
      obtain rfl : E8 = 0 := by omega
      have Q8 : Hid (s8 = a ∧ br8 = false ∧ a.ok = true ∧ Whole bs8 a) := Lib.hid (by
        rcases P8.out.what with ⟨_, _, h1, h2, h3, k, hc, hr, hb⟩ | ⟨h, _⟩
        · refine ⟨h1, h2, h3, ?_⟩
          rw [hb]
          exact whole_saved Whole.nil h3 hr
        · exact absurd rfl h)
      have hs8 := Q8.out.1
      have hbr8 := Q8.out.2.1
      subst hs8
      subst hbr8
      have SB := Lib.hid (save_any (t := b) (.slice B m d) P8.out.tape P8.out.led P8.out.off Q8.out.2.2.1 ((LB0.out.next F8.out).sub (fun i hi => .inl (by have := HS8.out i hi; have := F7.out.size; omega))))
      have y0 := (XB.out _ F8.out).cell 0
      have y1 := (XB.out _ F8.out).cell 1
      have y2 := (XB.out _ F8.out).cell 2
      have y3 := (XB.out _ F8.out).cell 3
      have y4 := (XB.out _ F8.out).cell 4
      have yln := (XB.out _ F8.out).lt
      go_wp2_with fail
      refine SB.out.mono ?_
      rintro e w9 ⟨E9, S9, s9, br9, bs9, rfl, hp9⟩
      have P9 := Lib.hid hp9
      have HS9 : Hid (∀ i, S9 i → i = gt ∨ w7.heap.size ≤ i) := Lib.hid fun i hi => (hp9.foot i hi).elim (HS8.out i) (fun e => .inr (by have := P8.out.fr.size; omega))
      have F9 : Hid (Fr (fun i => w0.heap.size ≤ i) w0 w9) := Lib.hid (F8.out.next (hp9.fr.sub fun i _ hi => hi.elim (fun e => by have := HS8.out i e; have := F7.out.size; omega) (fun e => by omega)))
      clear SB hp9
      clear y0 y1 y2 y3 y4 yln
      by_cases hE9 : ¬ E9 = 0
      · go_wp2
        go_ret
        exact ⟨rfl, FIN.out _ F9.out⟩
      obtain rfl : E9 = 0 := by omega
      have Q9 : Hid (b.ok = true ∧ Whole bs9 b) := Lib.hid (by
        rcases P9.out.what with ⟨_, _, h1, h2, h3, k, hc, hr, hb⟩ | ⟨h, _⟩
        · refine ⟨h3, ?_⟩
          rw [hb]
          exact whole_saved Q8.out.2.2.2 h3 hr
        · exact absurd rfl h)
      have U9 : Hid (TapeAt w9 gu (fun i => i = gu) (Tq 1048576 [])) := Lib.hid ((U7.out.fr P8.out.fr (fun i hi e => by have e1 : i = gu := hi; rcases e with e | e; (have e2 : i = gt := e; omega); omega)).fr P9.out.fr (fun i hi e => by have e1 : i = gu := hi; rcases e with e | e; (have := HS8.out i e; omega); omega))
      have M9 : Hid (LedV w9 g2 gu (fun i => i = gu) .zero false) := Lib.hid (LedV.zero_fr (S' := fun i => i = gu) (LedV.zero_fr (S' := fun i => i = gu) M7.out P8.out.fr (fun e => by rcases e with e | e; (have e2 : g2 = gt := e; omega); omega)) P9.out.fr (fun e => by rcases e with e | e; (have := HS8.out g2 e; omega); omega))
      have SM := Lib.hid (save_any (t := b) (.slice B m d) U9.out M9.out (fun e => by have e' : g2 = gu := e; omega) St.zero_ok ((LB0.out.next F9.out).sub (fun i hi => .inl (by have e' : i = gu := hi; omega))))
      have y0 := (XB.out _ F9.out).cell 0
      have y1 := (XB.out _ F9.out).cell 1
      have y2 := (XB.out _ F9.out).cell 2
      have y3 := (XB.out _ F9.out).cell 3
      have y4 := (XB.out _ F9.out).cell 4
      have yln := (XB.out _ F9.out).lt
      go_wp2_with fail
      refine SM.out.mono ?_
      rintro e w10 ⟨E10, S10, s10, br10, bs10, rfl, hp10⟩
      obtain ⟨rfl, rfl, rfl, hbs⟩ := save_first hp10 Q9.out.1 (first_len Q9.out.1)
      have W10 : Hid (Whole bs10 s10) := Lib.hid (by rw [hbs]; have := whole_saved Whole.nil Q9.out.1 (recs_zero Q9.out.1); simpa using this)
      have P10 := Lib.hid hp10
      have F10 : Hid (Fr (fun i => w0.heap.size ≤ i) w0 w10) := Lib.hid (F9.out.next (hp10.fr.sub fun i _ hi => hi.elim (fun e => by have e' : i = gu := e; omega) (fun e => by have := F7.out.size; omega)))
      clear SM hp10 hbs
      clear y0 y1 y2 y3 y4 yln
      have T10 : Hid (TapeAt w10 gt S9 (Tq 1048576 bs9)) := Lib.hid (P9.out.tape.fr P10.out.fr (fun i hi e => by have h := HS9.out i hi; rcases e with e | e; (have e2 : i = gu := e; omega); omega))
      have OX := Lib.hid (open_whole T10.out Q9.out.2)
      go_wp2_with fail
      refine OX.out.mono ?_
      rintro e w11 ⟨g3, rfl, _, hl11, _, hb11⟩
      have F11 : Hid (Fr (fun i => w0.heap.size ≤ i) w0 w11) := Lib.hid (F10.out.next (Fr.of_below hb11))
      have L11 := Lib.hid hl11
      have OY := Lib.hid (open_whole (P10.out.tape.on hb11) W10.out)
      clear hl11 hb11 OX
      go_wp2_with fail
      refine OY.out.mono ?_
      rintro e w12 ⟨g4, rfl, _, hl12, _, hb12⟩
      have F12 : Hid (Fr (fun i => w0.heap.size ≤ i) w0 w12) := Lib.hid (F11.out.next (Fr.of_below hb12))
      have M12 := Lib.hid hl12
      have SHb := Lib.hid (short_of_ok Q9.out.1)
      have ST := Lib.hid (state_any (by have := SHb.out.2; omega) SHb.out.1 (L11.out.on hb12))
      clear hl12 hb12 OY
      go_wp2_with fail
      refine ST.out.mono ?_
      rintro e w13 ⟨A13, c13, rfl, o13, hb13⟩
      have F13 : Hid (Fr (fun i => w0.heap.size ≤ i) w0 w13) := Lib.hid (F12.out.next (Fr.of_below hb13))
      have M13 := Lib.hid (M12.out.on hb13)
      have MS := Lib.hid (madeState_any w13.heap.size s10 (.slice A13 s10.log.length c13) w13 (Nat.le_refl _) HSB.out.2 HSB.out.1 o13.read)
      clear hb13 o13 ST
      go_wp2_with fail
      refine MS.out.mono ?_
      rintro e w14 ⟨A14, c14, rfl, o14, hb14⟩
      have F14 : Hid (Fr (fun i => w0.heap.size ≤ i) w0 w14) := Lib.hid (F13.out.next (Fr.of_below hb14))
      have E14 := Lib.hid (o14.read hb14.size)
      have ST2 := Lib.hid (state_any (by have := SHb.out.2; omega) SHb.out.1 (M13.out.on hb14))
      clear hb14 o14 MS
      go_wp2_with fail
      refine ST2.out.mono ?_
      rintro e w15 ⟨A15, c15, rfl, o15, hb15⟩
      have F15 : Hid (Fr (fun i => w0.heap.size ≤ i) w0 w15) := Lib.hid (F14.out.next (Fr.of_below hb15))
      have E15 := Lib.hid (E14.out.on hb15)
      have MS2 := Lib.hid (madeState_any w15.heap.size s10 (.slice A15 s10.log.length c15) w15 (Nat.le_refl _) HSB.out.2 HSB.out.1 o15.read)
      clear hb15 o15 ST2
      go_wp2_with fail
      refine MS2.out.mono ?_
      rintro e w16 ⟨A16, c16, rfl, o16, hb16⟩
      have F16 : Hid (Fr (fun i => w0.heap.size ≤ i) w0 w16) := Lib.hid (F15.out.next (Fr.of_below hb16))
      have SS := Lib.hid (xsameSt_any s10 s10 (.slice A14 s10.log.length c14) (.slice A16 s10.log.length c16) w16 (by have := SHb.out.2; omega) SHb.out.1 SHb.out.1 (E15.out.on hb16) (o16.read hb16.size))
      clear hb16 o16 MS2
      go_wp2_with fail
      refine SS.out.mono ?_
      rintro e w17 ⟨cc, rfl, hcc, hb17⟩
      have hct : cc = true := hcc.2 (by first | rfl | trivial)
      subst hct
      have F17 : Hid (Fr (fun i => w0.heap.size ≤ i) w0 w17) := Lib.hid (F16.out.next (Fr.of_below hb17))
      clear hb17 hcc SS
      go_wp2
      go_ret
      exact ⟨rfl, FIN.out _ F17.out⟩
end Go.Proofs.Ytgddcbjlhplmgaa
