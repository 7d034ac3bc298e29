/- Joined: LdRx, LdRy. -/
import Derived.Test.YtefgobmpleoafaaGreatLdO
import Derived.Test.YtefgobmpleoafaaGreatLdV
import Derived.Test.YtefgobmpleoafaaGreatMFr
import Derived.Test.YtefgobmpleoafaaGreatPkRh
import Derived.WalkMore
/- Layer 13: the document's own reading of a tape's bytes. (Written by genLdRx.py.) -/
namespace Go.Proofs.YtefgobmpleoafaaGreat
open Go.RowKit
variable {w w' : World}

theorem xbad_below {wr : World} {x : Nat} {e : Ending} {w1 : World} (h : RfBad wr x e w1) : e = .returned (.tuple #[.slice none 0 0, .int .i64 (x : Int)]) ∧ Below wr.heap.size wr w1 := by
  obtain ⟨h1, m, rfl⟩ := h
  exact ⟨h1, Below.drewN' (Below.refl _ _) m⟩
theorem xok_below {n₀ : Nat} {wr : World} {t : List UInt8} {e : Ending} {w1 : World} (h : RfOk n₀ wr t e w1) : ∃ v', e = .returned (.tuple #[v', .int .i64 0]) ∧ Bytes n₀ w1 v' t ∧ Below wr.heap.size wr w1 := by
  obtain ⟨v', h1, hb, m, rfl⟩ := h
  exact ⟨v', h1, hb, Below.drewN' (Below.refl _ _) m⟩
/-- How far it is read. -/
def RxI (w wr : World) (s : List UInt8) (i : Value) : Prop :=
  ∃ (t : St) (u : Nat) (A : Option Addr) (m c : Nat), i = .int .i64 (u : Int) ∧ u ≤ s.length ∧ Hid (∃ k, pre .zero s k = some (t, u)) ∧ Hid (t.ok = true) ∧ Hid (Blk wr w.heap.size 31 #[.int .i64 0, .int .i64 0, .int .i64 0, .int .i64 0, .slice none 0 0]) ∧ Hid (Blk wr (w.heap.size + 1) 31 #[.int .i64 t.vi, .int .i64 t.no, .int .i64 t.co, .int .i64 t.ac, .slice A m c]) ∧ Hid (LogV (fun i => i ≤ w.heap.size + 1) wr (.slice A m c) t.log) ∧ Hid (m = t.log.length) ∧ Hid (Below w.heap.size w wr)
set_option maxRecDepth 100000 in
set_option maxHeartbeats 16000000 in
theorem xread13_any (b off n cap : Nat) (s : List UInt8) (hsn : s.length = n) (hm : n ≤ 1100000) (hcap : n ≤ cap) (w : World) (hb : b < w.heap.size) (ht : ∀ j, j < n → w.cell? ⟨b, off + j, none⟩ = some (.int .u8 ((at_ s j : Nat) : Int))) :
    Calls Tryz.prog 8 #[.slice (some ⟨b, off, none⟩) n cap] w (ReadP w s) := by
  have HN := Lib.hid hsn
  have HT := Lib.hid ht
  clear ht hsn
  go_enter Tryz.func8, Tryz.ntmps8
  have BZ := Lib.hid (((Below.refl w.heap.size w).alloc (Nat.le_refl _) (.cells #[.int .i64 0, .int .i64 0, .int .i64 0, .int .i64 0, .slice none 0 0] 31)).alloc (by simp) (.cells #[.int .i64 0, .int .i64 0, .int .i64 0, .int .i64 0, .slice none 0 0] 31))
  have XZ := Lib.hid ((Blk.new w 31 #[.int .i64 0, .int .i64 0, .int .i64 0, .int .i64 0, .slice none 0 0]).alloc (.cells #[.int .i64 0, .int .i64 0, .int .i64 0, .int .i64 0, .slice none 0 0] 31))
  have YZ : Hid (Blk ((w.alloc (.cells #[.int .i64 0, .int .i64 0, .int .i64 0, .int .i64 0, .slice none 0 0] 31)).alloc (.cells #[.int .i64 0, .int .i64 0, .int .i64 0, .int .i64 0, .slice none 0 0] 31)) (w.heap.size + 1) 31 #[.int .i64 0, .int .i64 0, .int .i64 0, .int .i64 0, .slice none 0 0]) := Lib.hid (by have h := Blk.new (w.alloc (.cells #[.int .i64 0, .int .i64 0, .int .i64 0, .int .i64 0, .slice none 0 0] 31)) 31 #[.int .i64 0, .int .i64 0, .int .i64 0, .int .i64 0, .slice none 0 0]; simpa using h)
  go_wp2
  go_loopw [5] (fun i wr => RxI w wr s i) (fun i _ => n - (intOf i).toNat)
  case atStart => exact ⟨.zero, 0, none, 0, 0, rfl, Nat.zero_le _, Lib.hid ⟨0, rfl⟩, Lib.hid St.zero_ok, XZ, YZ, Lib.hid (LogV.nil _ _), Lib.hid rfl, BZ⟩
  case round =>
    obtain ⟨t, u, A, m, c, rfl, hu, HP, HTo, HZ, HX, HL, HM, HW⟩ := hrel
    have hun : u ≤ n := by have := HN.out; omega
    have hsz : w.heap.size + 1 < wr.heap.size := HX.out.lt
    have cells : Hid (∀ j, j < n → wr.cell? ⟨b, off + j, none⟩ = some (.int .u8 ((at_ s j : Nat) : Int))) := Lib.hid fun j hj => (HW.out.cell (p := ⟨b, off + j, none⟩) (by show b < _; omega)).trans (HT.out j hj)
    have FIN : Hid (∀ W, Below wr.heap.size wr W → one13 t (s.drop u) = none → ReadP w s (.returned (.tuple #[t.val (.slice A m c), .int .i64 (u : Int)])) ((((((W).setCell ⟨w.heap.size, 0, none⟩ (.int .i64 t.vi)).setCell ⟨w.heap.size, 1, none⟩ (.int .i64 t.no)).setCell ⟨w.heap.size, 2, none⟩ (.int .i64 t.co)).setCell ⟨w.heap.size, 3, none⟩ (.int .i64 t.ac)).setCell ⟨w.heap.size, 4, none⟩ (.slice A m c))) := Lib.hid (by
      intro W3 W hone
      refine ⟨t, u, A, m, c, rfl, ⟨HP.out, hone⟩, ?_, HM.out, ((((((HW.out.trans (W.mono (by omega))).setCell (p := ⟨w.heap.size, 0, none⟩) (Nat.le_refl _) (.int .i64 t.vi)).setCell (p := ⟨w.heap.size, 1, none⟩) (Nat.le_refl _) (.int .i64 t.no)).setCell (p := ⟨w.heap.size, 2, none⟩) (Nat.le_refl _) (.int .i64 t.co)).setCell (p := ⟨w.heap.size, 3, none⟩) (Nat.le_refl _) (.int .i64 t.ac)).setCell (p := ⟨w.heap.size, 4, none⟩) (Nat.le_refl _) (.slice A m c))⟩
      exact ((HL.out.on W).next ((((((Fr.refl (S := fun i => i ≤ w.heap.size + 1) W3).set_ (q := ⟨w.heap.size, 0, none⟩) (.inl (by show w.heap.size ≤ w.heap.size + 1; omega)) (.int .i64 t.vi)).set_ (q := ⟨w.heap.size, 1, none⟩) (.inl (by show w.heap.size ≤ w.heap.size + 1; omega)) (.int .i64 t.no)).set_ (q := ⟨w.heap.size, 2, none⟩) (.inl (by show w.heap.size ≤ w.heap.size + 1; omega)) (.int .i64 t.co)).set_ (q := ⟨w.heap.size, 3, none⟩) (.inl (by show w.heap.size ≤ w.heap.size + 1; omega)) (.int .i64 t.ac)).set_ (q := ⟨w.heap.size, 4, none⟩) (.inl (by show w.heap.size ≤ w.heap.size + 1; omega)) (.slice A m c))).sub fun i hi => .inl (by have hi2 : i < w.heap.size := hi; show i ≤ w.heap.size + 1; omega))
    by_cases hlt : u < n
    · have hlti : (u : Int) < (n : Int) := by omega
      have hne : ¬ n = u := by omega
      have hBy : Hid (Bytes w.heap.size wr (.slice (some ⟨b, off + u, none⟩) (n - u) (cap - u)) (s.drop u)) := Lib.hid (by
        have h := Bytes.sub (off := off) hb (s := s) (fun j hj => cells.out j (by have := HN.out; omega)) u (n - u) (cap - u) (by have := HN.out; omega) (by omega)
        rwa [List.take_of_length_le (by have := HN.out; simp; omega)] at h)
      have hsl : (s.drop u).length ≤ 140737488351232 := by have := HN.out; simp; omega
      by_cases hE : rdE (s.drop u) = 0
      · have HE := Lib.hid hE
        clear hE
        have RO := Lib.hid (rf_ok w.heap.size _ (s.drop u) hsl wr hBy.out HE.out)
        clear hsl
        go_wp2_with fail
        refine RO.out.mono ?_
        intro e w1 h1
        obtain ⟨v1, rfl, o1, b1⟩ := xok_below h1
        have B1 := Lib.hid b1
        have hrl : u + (10 + (rdB (s.drop u)).length) ≤ n := by
          have h1 := (rdE_ok HE.out).2.2.2.2.1
          have h2 := rdB_len HE.out
          have := HN.out
          simp at h1
          omega
        have hsz1 : wr.heap.size ≤ w1.heap.size := b1.size
        have DC := Lib.hid (parseC_any w.heap.size v1 (rdB (s.drop u)) w1 (by omega) o1 (by have h1 := (rdE_ok HE.out).2.2.2.1; have h2 := rdB_len HE.out; omega))
        obtain ⟨Av, cv, rfl, _⟩ := o1
        obtain ⟨q0, hq0⟩ : ∃ q, q = (rdB (s.drop u)).length := ⟨_, rfl⟩
        rw [← hq0] at hrl DC ⊢
        have HQ := Lib.hid hq0
        clear RO b1 h1 hq0
        go_wp2_with fail
        refine DC.out.mono ?_
        rintro e w2 ⟨b2, r, Ar, cr, ok, rfl, he, hr⟩
        rcases hr with ⟨rfl, hr⟩ | ⟨rfl, hr⟩
        · have HR := Lib.hid hr
          have W2 := Lib.hid (B1.out.trans (b2.mono hsz1))
          have hro := (dC_some.1 hr).2.1
          have HRo := Lib.hid hro
          obtain ⟨nr, hnr⟩ : ∃ nr, nr = r.log.length := ⟨_, rfl⟩
          rw [← hnr] at he ⊢
          have HLr : Hid (LogV (fun i => i ≤ w.heap.size + 1) w2 (.slice Ar nr cr) r.log) := Lib.hid (LogV.of_own he (fun i hi => by omega))
          have hs2 : wr.heap.size ≤ w2.heap.size := W2.out.size
          have W3 := Lib.hid (W2.out.alloc hs2 (.cells #[.int .i64 r.k, .int .i64 r.a, .int .i64 r.b, .slice Ar nr cr] 52))
          have R3 := Lib.hid (Blk.new w2 52 #[.int .i64 r.k, .int .i64 r.a, .int .i64 r.b, .slice Ar nr cr])
          have L3 := Lib.hid (HLr.out.alloc (.cells #[.int .i64 r.k, .int .i64 r.a, .int .i64 r.b, .slice Ar nr cr] 52))
          clear hr b2 hro he hnr DC B1
          go_upto_region 7 with (fail)
          generalize w2.alloc _ = w3 at *
          have X3 := Lib.hid (HX.out.on W3.out)
          have Z3 := Lib.hid (HZ.out.on W3.out)
          have AP := Lib.hid (xapply13_any t r (.slice A m c) (.slice Ar nr cr) w3 (fun i => i ≤ w.heap.size + 1) HTo.out HRo.out (HL.out.on W3.out) L3.out (fun i hi => by have := X3.out.lt; omega))
          have x0 := X3.out.cell 0
          have x1 := X3.out.cell 1
          have x2 := X3.out.cell 2
          have x3 := X3.out.cell 3
          have x4 := X3.out.cell 4
          have xl := X3.out.lt
          have c0 := R3.out.cell 0
          have c1 := R3.out.cell 1
          have c2 := R3.out.cell 2
          have c3 := R3.out.cell 3
          have cl := R3.out.lt
          go_wp2_with fail
          refine AP.out.mono ?_
          intro e w4 hap
          clear x0 x1 x2 x3 x4 xl c0 c1 c2 c3 cl AP
          have hw34 : wr.heap.size ≤ w3.heap.size := W3.out.size
          cases hf : fits t r with
          | true =>
            obtain ⟨A4, n4, c4, rfl, hn4, l4, hb4⟩ := hap.1 hf
            have HPn := Lib.hid (pre_snoc HP.out (one_good HE.out HR.out hf))
            have HTn := Lib.hid (chg_ok HTo.out HRo.out hf)
            rw [← HQ.out] at HPn
            clear hap hf
            generalize chg t r = t2 at *
            have W4 := Lib.hid (W3.out.trans (hb4.mono hw34))
            have W5 := Lib.hid (W4.out.alloc W4.out.size (.cells #[.int .i64 t2.vi, .int .i64 t2.no, .int .i64 t2.co, .int .i64 t2.ac, .slice A4 n4 c4] 31))
            have N5 := Lib.hid (Blk.new w4 31 #[.int .i64 t2.vi, .int .i64 t2.no, .int .i64 t2.co, .int .i64 t2.ac, .slice A4 n4 c4])
            have L5 := Lib.hid (l4.alloc (.cells #[.int .i64 t2.vi, .int .i64 t2.no, .int .i64 t2.co, .int .i64 t2.ac, .slice A4 n4 c4] 31))
            have N4 := Lib.hid hn4
            clear hn4 l4 hb4
            go_upto_region 10 with (fail)
            generalize w4.alloc _ = w5 at *
            have X5 := Lib.hid (HX.out.on W5.out)
            have Z5 := Lib.hid (HZ.out.on W5.out)
            have B5 := Lib.hid (HW.out.trans (W5.out.mono (by omega)))
            have x0 := X5.out.cell 0
            have x1 := X5.out.cell 1
            have x2 := X5.out.cell 2
            have x3 := X5.out.cell 3
            have x4 := X5.out.cell 4
            have xl := X5.out.lt
            have xf := X5.out.frozen
            have y0 := N5.out.cell 0
            have y1 := N5.out.cell 1
            have y2 := N5.out.cell 2
            have y3 := N5.out.cell 3
            have y4 := N5.out.cell 4
            have yl := N5.out.lt
            have hun2 : (u : Int) + (10 + (q0 : Int)) ≤ (n : Int) := by omega
            have hu2 : u + (10 + q0) ≤ s.length := by have := HN.out; omega
            have hw0 : IntKind.i64.wrap (10 + (q0 : Int)) = 10 + (q0 : Int) := by rw [IntWalk.i64_in] <;> omega
            have hw : IntKind.i64.wrap ((u : Int) + (10 + (q0 : Int))) = ((u + (10 + q0) : Nat) : Int) := by rw [IntWalk.i64_in] <;> omega
            go_wp2
            go_roundw
            case rel => exact ⟨t2, u + (10 + q0), A4, n4, c4, by first | rfl | go_num | (rw [← hw]) | (simp [hw0, hw]), hu2, HPn, HTn, Lib.hid (((((Z5.out.far (p := ⟨w.heap.size + 1, 0, none⟩) (by show w.heap.size ≠ w.heap.size + 1; omega) (.int .i64 t2.vi)).far (p := ⟨w.heap.size + 1, 1, none⟩) (by show w.heap.size ≠ w.heap.size + 1; omega) (.int .i64 t2.no)).far (p := ⟨w.heap.size + 1, 2, none⟩) (by show w.heap.size ≠ w.heap.size + 1; omega) (.int .i64 t2.co)).far (p := ⟨w.heap.size + 1, 3, none⟩) (by show w.heap.size ≠ w.heap.size + 1; omega) (.int .i64 t2.ac)).far (p := ⟨w.heap.size + 1, 4, none⟩) (by show w.heap.size ≠ w.heap.size + 1; omega) (.slice A4 n4 c4)), Lib.hid (by simpa using (((((X5.out.set_ 0 (.int .i64 t2.vi)).set_ 1 (.int .i64 t2.no)).set_ 2 (.int .i64 t2.co)).set_ 3 (.int .i64 t2.ac)).set_ 4 (.slice A4 n4 c4))), Lib.hid (L5.out.next ((((((Fr.refl (S := fun i => i ≤ w.heap.size + 1) w5).set_ (q := ⟨w.heap.size + 1, 0, none⟩) (.inl (Nat.le_refl _)) (.int .i64 t2.vi)).set_ (q := ⟨w.heap.size + 1, 1, none⟩) (.inl (Nat.le_refl _)) (.int .i64 t2.no)).set_ (q := ⟨w.heap.size + 1, 2, none⟩) (.inl (Nat.le_refl _)) (.int .i64 t2.co)).set_ (q := ⟨w.heap.size + 1, 3, none⟩) (.inl (Nat.le_refl _)) (.int .i64 t2.ac)).set_ (q := ⟨w.heap.size + 1, 4, none⟩) (.inl (Nat.le_refl _)) (.slice A4 n4 c4))), N4, Lib.hid (((((B5.out.setCell (p := ⟨w.heap.size + 1, 0, none⟩) (Nat.le_succ _) (.int .i64 t2.vi)).setCell (p := ⟨w.heap.size + 1, 1, none⟩) (Nat.le_succ _) (.int .i64 t2.no)).setCell (p := ⟨w.heap.size + 1, 2, none⟩) (Nat.le_succ _) (.int .i64 t2.co)).setCell (p := ⟨w.heap.size + 1, 3, none⟩) (Nat.le_succ _) (.int .i64 t2.ac)).setCell (p := ⟨w.heap.size + 1, 4, none⟩) (Nat.le_succ _) (.slice A4 n4 c4))⟩
            case measure => simp [intOf]; omega
          | false =>
            obtain ⟨A4, n4, c4, rfl, hn4, l4, hb4⟩ := hap.2 (by rw [hf]; decide)
            have HF := Lib.hid hf
            clear hap hf
            have W4 := Lib.hid (W3.out.trans (hb4.mono hw34))
            have W5 := Lib.hid (W4.out.alloc W4.out.size (.cells #[.int .i64 St.zero.vi, .int .i64 St.zero.no, .int .i64 St.zero.co, .int .i64 St.zero.ac, .slice A4 n4 c4] 31))
            clear hn4 l4 hb4
            go_upto_region 10 with (fail)
            generalize w4.alloc _ = w5 at *
            have X5 := Lib.hid (HX.out.on W5.out)
            have Z5 := Lib.hid (HZ.out.on W5.out)
            have x0 := X5.out.cell 0
            have x1 := X5.out.cell 1
            have x2 := X5.out.cell 2
            have x3 := X5.out.cell 3
            have x4 := X5.out.cell 4
            have xl := X5.out.lt
            have z0 := Z5.out.cell 0
            have z1 := Z5.out.cell 1
            have z2 := Z5.out.cell 2
            have z3 := Z5.out.cell 3
            have z4 := Z5.out.cell 4
            have zf := Z5.out.frozen
            have zl := Z5.out.lt
            go_wp2
            (try rw [Exit.noGoto_ret])
            refine bodyPost_ret (v := .tuple #[.agg #[.int .i64 t.vi, .int .i64 t.no, .int .i64 t.co, .int .i64 t.ac, .slice A m c], .int .i64 (u : Int)]) (by simp [results, Tryz.results8, go_sem, *]) rfl ?_
            exact FIN.out _ W5.out (one_unfit HR.out HF.out)
        · have HR := Lib.hid hr
          have W2 := Lib.hid (B1.out.trans (b2.mono hsz1))
          have W3 := Lib.hid (W2.out.alloc W2.out.size (.cells #[.int .i64 r.k, .int .i64 r.a, .int .i64 r.b, .slice Ar r.log.length cr] 52))
          clear b2 B1 DC hr he
          go_upto_region 7 with (fail)
          generalize w2.alloc _ = w3 at *
          have X3 := Lib.hid (HX.out.on W3.out)
          have Z3 := Lib.hid (HZ.out.on W3.out)
          have x0 := X3.out.cell 0
          have x1 := X3.out.cell 1
          have x2 := X3.out.cell 2
          have x3 := X3.out.cell 3
          have x4 := X3.out.cell 4
          have xl := X3.out.lt
          have z0 := Z3.out.cell 0
          have z1 := Z3.out.cell 1
          have z2 := Z3.out.cell 2
          have z3 := Z3.out.cell 3
          have z4 := Z3.out.cell 4
          have zf := Z3.out.frozen
          have zl := Z3.out.lt
          go_wp2
          (try rw [Exit.noGoto_ret])
          refine bodyPost_ret (v := .tuple #[.agg #[.int .i64 t.vi, .int .i64 t.no, .int .i64 t.co, .int .i64 t.ac, .slice A m c], .int .i64 (u : Int)]) (by simp [results, Tryz.results8, go_sem, *]) rfl ?_
          exact FIN.out _ W3.out (one_bad HR.out)
      · have HE := Lib.hid hE
        clear hE
        have RB := Lib.hid (rf_bad w.heap.size _ (s.drop u) hsl wr hBy.out HE.out)
        have hx : ((rdE (s.drop u) : Int) == 0) = false := by have := HE.out; simp; omega
        have hx2 : ¬ (rdE (s.drop u) : Int) = 0 := by have := HE.out; omega
        clear hsl
        go_wp2_with fail
        refine RB.out.mono ?_
        intro e w1 h1
        obtain ⟨rfl, hB1⟩ := xbad_below h1
        have W1 := Lib.hid hB1
        have X1 := Lib.hid (HX.out.on hB1)
        have Z1 := Lib.hid (HZ.out.on hB1)
        clear h1 hB1 RB
        have x0 := X1.out.cell 0
        have x1 := X1.out.cell 1
        have x2 := X1.out.cell 2
        have x3 := X1.out.cell 3
        have x4 := X1.out.cell 4
        have xl := X1.out.lt
        have z0 := Z1.out.cell 0
        have z1 := Z1.out.cell 1
        have z2 := Z1.out.cell 2
        have z3 := Z1.out.cell 3
        have z4 := Z1.out.cell 4
        have zf := Z1.out.frozen
        have zl := Z1.out.lt
        go_wp2
        (try rw [Exit.noGoto_ret])
        refine bodyPost_ret (v := .tuple #[.agg #[.int .i64 t.vi, .int .i64 t.no, .int .i64 t.co, .int .i64 t.ac, .slice A m c], .int .i64 (u : Int)]) (by simp [results, Tryz.results8, go_sem, *]) rfl ?_
        exact FIN.out _ W1.out (one_none HE.out)
    · obtain rfl : u = n := by omega
      have hE : rdE (s.drop u) = 11 := by rw [List.drop_of_length_le (by have := HN.out; omega), rdE_nil]
      have HE := Lib.hid hE
      clear hE
      have RB := Lib.hid (fun A k => rf_11 A 0 k (by omega) wr)
      go_wp2_with fail
      all_goals
        refine (RB.out _ _).mono ?_
        intro e w1 h1
        obtain ⟨rfl, hB1⟩ := xbad_below h1
        have W1 := Lib.hid hB1
        have X1 := Lib.hid (HX.out.on hB1)
        have Z1 := Lib.hid (HZ.out.on hB1)
        clear h1 hB1 RB
        have x0 := X1.out.cell 0
        have x1 := X1.out.cell 1
        have x2 := X1.out.cell 2
        have x3 := X1.out.cell 3
        have x4 := X1.out.cell 4
        have xl := X1.out.lt
        have z0 := Z1.out.cell 0
        have z1 := Z1.out.cell 1
        have z2 := Z1.out.cell 2
        have z3 := Z1.out.cell 3
        have z4 := Z1.out.cell 4
        have zf := Z1.out.frozen
        have zl := Z1.out.lt
        go_wp2
        (try rw [Exit.noGoto_ret])
        refine bodyPost_ret (v := .tuple #[.agg #[.int .i64 t.vi, .int .i64 t.no, .int .i64 t.co, .int .i64 t.ac, .slice A m c], .int .i64 (u : Int)]) (by simp [results, Tryz.results8, go_sem, *]) rfl ?_
        exact FIN.out _ W1.out (one_none (by rw [HE.out]; decide))
end Go.Proofs.YtefgobmpleoafaaGreat

/- Layer 13: the document's own reading of no bytes. (Written by hand.) -/
namespace Go.Proofs.YtefgobmpleoafaaGreat
open Go.RowKit
variable {w w' : World}

set_option maxRecDepth 100000 in
set_option maxHeartbeats 16000000 in
theorem xread13_none (A : Option Addr) (cap : Nat) (w : World) : Calls Tryz.prog 8 #[.slice A 0 cap] w (ReadP w []) := by
  have HA : ∃ A', A' = A := ⟨A, rfl⟩
  go_enter Tryz.func8, Tryz.ntmps8
  have BZ := Lib.hid (((Below.refl w.heap.size w).alloc (Nat.le_refl _) (.cells #[.int .i64 0, .int .i64 0, .int .i64 0, .int .i64 0, .slice none 0 0] 31)).alloc (by simp) (.cells #[.int .i64 0, .int .i64 0, .int .i64 0, .int .i64 0, .slice none 0 0] 31))
  have XZ := Lib.hid ((Blk.new w 31 #[.int .i64 0, .int .i64 0, .int .i64 0, .int .i64 0, .slice none 0 0]).alloc (.cells #[.int .i64 0, .int .i64 0, .int .i64 0, .int .i64 0, .slice none 0 0] 31))
  have YZ : Hid (Blk ((w.alloc (.cells #[.int .i64 0, .int .i64 0, .int .i64 0, .int .i64 0, .slice none 0 0] 31)).alloc (.cells #[.int .i64 0, .int .i64 0, .int .i64 0, .int .i64 0, .slice none 0 0] 31)) (w.heap.size + 1) 31 #[.int .i64 0, .int .i64 0, .int .i64 0, .int .i64 0, .slice none 0 0]) := Lib.hid (by have h := Blk.new (w.alloc (.cells #[.int .i64 0, .int .i64 0, .int .i64 0, .int .i64 0, .slice none 0 0] 31)) 31 #[.int .i64 0, .int .i64 0, .int .i64 0, .int .i64 0, .slice none 0 0]; simpa using h)
  go_wp2
  go_loopw [5] (fun i wr => i = .int .i64 0 ∧ Hid (Blk wr w.heap.size 31 #[.int .i64 0, .int .i64 0, .int .i64 0, .int .i64 0, .slice none 0 0]) ∧ Hid (Blk wr (w.heap.size + 1) 31 #[.int .i64 0, .int .i64 0, .int .i64 0, .int .i64 0, .slice none 0 0]) ∧ Hid (Below w.heap.size w wr)) (fun _ _ => 0)
  case atStart => exact ⟨rfl, XZ, YZ, BZ⟩
  case round =>
    obtain ⟨rfl, HZ, HX, HW⟩ := hrel
    have RB := Lib.hid (fun A k => rf_11 A 0 k (by omega) wr)
    clear BZ XZ YZ
    rcases A with _ | a
    all_goals
      go_wp2_with fail
      all_goals
        refine (RB.out _ _).mono ?_
        intro e w1 h1
        obtain ⟨rfl, hB1⟩ := xbad_below h1
        have W1 := Lib.hid hB1
        have X1 := Lib.hid (HX.out.on hB1)
        have Z1 := Lib.hid (HZ.out.on hB1)
        clear h1 hB1 RB
        have x0 := X1.out.cell 0
        have x1 := X1.out.cell 1
        have x2 := X1.out.cell 2
        have x3 := X1.out.cell 3
        have x4 := X1.out.cell 4
        have xl := X1.out.lt
        have z0 := Z1.out.cell 0
        have z1 := Z1.out.cell 1
        have z2 := Z1.out.cell 2
        have z3 := Z1.out.cell 3
        have z4 := Z1.out.cell 4
        have zf := Z1.out.frozen
        have zl := Z1.out.lt
        go_wp2
        (try rw [Exit.noGoto_ret])
        refine bodyPost_ret (v := .tuple #[.agg #[.int .i64 0, .int .i64 0, .int .i64 0, .int .i64 0, .slice none 0 0], .int .i64 0]) (by simp [results, Tryz.results8, go_sem, *]) rfl ?_
        refine ⟨.zero, 0, none, 0, 0, rfl, ⟨⟨0, rfl⟩, one_end _⟩, LogV.nil _ _, rfl, ?_⟩
        have hs := HW.out.size
        exact (((((HW.out.trans (W1.out.mono (by omega))).setCell (p := ⟨w.heap.size, 0, none⟩) (Nat.le_refl _) _).setCell (p := ⟨w.heap.size, 1, none⟩) (Nat.le_refl _) _).setCell (p := ⟨w.heap.size, 2, none⟩) (Nat.le_refl _) _).setCell (p := ⟨w.heap.size, 3, none⟩) (Nat.le_refl _) _).setCell (p := ⟨w.heap.size, 4, none⟩) (Nat.le_refl _) _
/-- Of any bytes that are handed in. -/
theorem xread13 {v : Value} {s : List UInt8} (h : Bytes w.heap.size w v s) (hm : s.length ≤ 1100000) : Calls Tryz.prog 8 #[v] w (ReadP w s) := by
  obtain ⟨A, cap, rfl, hc, ht⟩ := h
  by_cases hs : s = []
  · subst hs
    exact xread13_none A cap w
  · obtain ⟨b, off, rfl, hb, hx⟩ := ht hs
    exact xread13_any b off s.length cap s rfl hm hc w hb hx
end Go.Proofs.YtefgobmpleoafaaGreat

