/- Layer 13: LedgerAgain. (Written by genLdLg.py.) -/
import Derived.Test.YtgddcbjlhplmgaaLdLs
import Derived.Test.YtgddcbjlhplmgaaLdQx
import Derived.Test.YtgddcbjlhplmgaaLdV
import Derived.WalkMore
namespace Go.Proofs.Ytgddcbjlhplmgaa
open Go.RowKit
variable {w w' : World}

/-- A slice that reads as states. -/
def StatesV (n₀ : Nat) (w : World) (v : Value) (l : List St) : Prop :=
  ∃ A cap, v = .slice A l.length cap ∧ l.length ≤ cap ∧ (l ≠ [] → ∃ b off, A = some ⟨b, off, none⟩ ∧ b < n₀ ∧ ∀ i s, l[i]? = some s → ∃ u, w.cell? ⟨b, off + i * 5, none⟩ = some (.int .i64 s.vi) ∧ w.cell? ⟨b, off + i * 5 + 1, none⟩ = some (.int .i64 s.no) ∧ w.cell? ⟨b, off + i * 5 + 2, none⟩ = some (.int .i64 s.co) ∧ w.cell? ⟨b, off + i * 5 + 3, none⟩ = some (.int .i64 s.ac) ∧ w.cell? ⟨b, off + i * 5 + 4, none⟩ = some u ∧ EntsV n₀ w u s.log ∧ s.log.length ≤ 9223372036854775807)
theorem StatesV.form {n₀ : Nat} {v : Value} {l : List St} (h : StatesV n₀ w v l) : ∃ A cap, v = .slice A l.length cap := by
  obtain ⟨A, cap, hv, _⟩ := h
  exact ⟨A, cap, hv⟩
theorem StatesV.at_ {n₀ n cap k : Nat} {A : Option Addr} {l : List St} (h : StatesV n₀ w (.slice A n cap) l) (hk : k < l.length) :
    ∃ b off u, A = some ⟨b, off, none⟩ ∧ b < n₀ ∧ w.cell? ⟨b, off + k * 5, none⟩ = some (.int .i64 l[k].vi) ∧ w.cell? ⟨b, off + k * 5 + 1, none⟩ = some (.int .i64 l[k].no) ∧ w.cell? ⟨b, off + k * 5 + 2, none⟩ = some (.int .i64 l[k].co) ∧ w.cell? ⟨b, off + k * 5 + 3, none⟩ = some (.int .i64 l[k].ac) ∧ w.cell? ⟨b, off + k * 5 + 4, none⟩ = some u ∧ EntsV n₀ w u l[k].log ∧ l[k].log.length ≤ 9223372036854775807 := by
  obtain ⟨A', cap', hv, _, h⟩ := h
  have : A = A' := by injection hv
  subst this
  obtain ⟨b, off, hA, hb, ht⟩ := h (by rintro rfl; simp at hk)
  obtain ⟨u, h1⟩ := ht k l[k] (List.getElem?_eq_getElem hk)
  exact ⟨b, off, u, hA, hb, h1⟩
/-- What the loop over the states keeps. -/
structure AgI (w : World) (gt g bl : Nat) (wr : World) (S : Nat → Prop) (s : St) (br : Bool) (bs : List UInt8) (Al : Option Addr) (cl : Nat) : Prop where
  fr : Fr (fun i => w.heap.size ≤ i) w wr
  foot : ∀ i, S i → w.heap.size ≤ i ∧ (i = gt ∨ bl < i)
  off : ¬ S g
  tape : TapeAt wr gt S (Tq 1048576 bs)
  led : LedV wr g gt (fun i => S i ∨ i = bl) s br
  whole : Whole bs s
  small : (∀ e ∈ s.log, smallE e = true) ∧ s.log.length ≤ 70
  last : Blk wr bl 24 #[.int .i64 s.vi, .int .i64 s.no, .int .i64 s.co, .int .i64 s.ac, .slice Al s.log.length cl]
  log : LogV (fun i => w.heap.size ≤ i) wr (.slice Al s.log.length cl) s.log
set_option maxRecDepth 100000 in
set_option maxHeartbeats 16000000 in
theorem ledgerAgain_law (v : Value) (L : List St) (times : Int) (w : World) (hV : StatesV w.heap.size w v L) (hm : L.length ≤ 9223372036854775807) (ht : -9223372036854775808 ≤ times ∧ times ≤ 9223372036854775807) :
    Calls Try.prog 4 #[v, .int .i64 times] w fun e w' => e = .returned (.bool true) ∧ Below w.heap.size w w' := by
  obtain ⟨A, c, rfl⟩ := hV.form
  obtain ⟨n, hn⟩ : ∃ n, n = L.length := ⟨_, rfl⟩
  rw [← hn] at hV hm ⊢
  have HN := Lib.hid hn
  have HV := Lib.hid hV
  have hmi : (n : Int) ≤ 9223372036854775807 := by omega
  clear hn hV
  have FIN : Hid (∀ W, Fr (fun i => w.heap.size ≤ i) w W → Below w.heap.size w W) := Lib.hid fun W k => k.old (Nat.le_refl _) (fun i hi => hi)
  go_enter Try.func4, Try.ntmps4
  go_wp2_with fail
  refine (anchor13_any _).mono ?_
  rintro e w1 ⟨rfl, hb1⟩
  have F1 : Hid (Fr (fun i => w.heap.size ≤ i) w w1) := Lib.hid (Fr.of_below hb1)
  clear hb1
  by_cases hn12 : (12 : Int) < (n : Int)
  · go_wp2
    go_ret
    exact ⟨rfl, FIN.out _ F1.out⟩
  by_cases ht0 : times < 0
  · go_wp2
    go_ret
    exact ⟨rfl, FIN.out _ F1.out⟩
  by_cases ht5 : 5 < times
  · go_wp2
    go_ret
    exact ⟨rfl, FIN.out _ F1.out⟩
  have NT := Lib.hid (new_any 1048576 (by decide) (by decide) w1)
  rw [Tq.new] at NT
  go_wp2_with fail
  refine NT.out.mono ?_
  rintro e w2 ⟨rfl, ht2, hb2⟩
  obtain ⟨gt, hgt⟩ : ∃ g, g = w1.heap.size := ⟨_, rfl⟩
  rw [← hgt] at ht2 ⊢
  have hgw : w.heap.size ≤ gt := by rw [hgt]; exact F1.out.size
  have hg2 : gt < w2.heap.size := ht2.lt
  have F2 : Hid (Fr (fun i => w.heap.size ≤ i) w w2) := Lib.hid (F1.out.next (Fr.of_below hb2))
  have T2 := Lib.hid ht2
  clear hb2 NT ht2 hgt
  have OT := Lib.hid (open_whole T2.out Whole.nil)
  go_wp2_with fail
  refine OT.out.mono ?_
  rintro e w3 ⟨g, rfl, hg, hl3, ht3, hb3⟩
  have F3 : Hid (Fr (fun i => w.heap.size ≤ i) w w3) := Lib.hid (F2.out.next (Fr.of_below hb3))
  have T3 := Lib.hid ht3
  have L3 := Lib.hid hl3
  have hg3 : g < w3.heap.size := hl3.lt
  clear hb3 OT hl3 ht3
  have ST := Lib.hid (state_any (by decide) (fun e h => by cases h) L3.out)
  go_wp2_with fail
  refine ST.out.mono ?_
  rintro e w4 ⟨A4, c4, he, _, hb4⟩
  have he' : e = .returned (.agg #[.int .i64 0, .int .i64 0, .int .i64 0, .int .i64 0, .slice A4 0 c4]) := he
  clear he
  subst he'
  obtain ⟨bl, hbl⟩ : ∃ z, z = w4.heap.size := ⟨_, rfl⟩
  have h34 : w3.heap.size ≤ bl := by rw [hbl]; exact hb4.size
  have b5 := (Below.refl w4.heap.size w4).alloc (Nat.le_refl _) (.cells #[.int .i64 0, .int .i64 0, .int .i64 0, .int .i64 0, .slice A4 0 c4] 24)
  have I5 : Hid (AgI w gt g bl (w4.alloc (.cells #[.int .i64 0, .int .i64 0, .int .i64 0, .int .i64 0, .slice A4 0 c4] 24)) (fun i => i = gt) .zero false [] A4 c4) := Lib.hid
    ⟨(F3.out.next (Fr.of_below hb4)).next (Fr.of_below b5), fun i hi => ⟨by have e : i = gt := hi; omega, .inl hi⟩, fun e => by have e' : g = gt := e; omega, (T3.out.on hb4).on b5, LedV.zero_fr (L3.out.on hb4) (Fr.of_below (S := fun _ => False) b5) (fun e => e), Whole.nil, ⟨fun e h => (by cases h), Nat.zero_le _⟩, by rw [hbl]; exact Blk.new _ _ _, LogV.empty _ _ _ _⟩
  have hgbl : gt < bl ∧ g < bl := ⟨by omega, by omega⟩
  have h5l : bl < (w4.alloc (.cells #[.int .i64 0, .int .i64 0, .int .i64 0, .int .i64 0, .slice A4 0 c4] 24)).heap.size := by rw [hbl]; simp
  clear hb4 b5 ST
  go_upto_region 10 with (fail)
  rw [← hbl]
  generalize w4.alloc _ = w5 at *
  clear hbl
  go_wp2
  go_loopw [43] (fun i wr => ∃ (k : Nat) (S : Nat → Prop) (s : St) (br : Bool) (bs : List UInt8) (Al : Option Addr) (cl : Nat), k ≤ n ∧ i = .int .i64 (k : Int) ∧ Hid (AgI w gt g bl wr S s br bs Al cl)) (fun i _ => n - (intOf i).toNat)
  case atStart => exact ⟨0, _, _, _, _, _, _, Nat.zero_le _, rfl, I5⟩
  case round =>
    obtain ⟨k, S, s, br, bs, Al, cl, hk, rfl, I⟩ := hrel
    by_cases hlt : k < n
    · have hkl : k < L.length := by rw [← HN.out]; exact hlt
      have hBw : Hid (Below w.heap.size w wr) := Lib.hid (FIN.out _ I.out.fr)
      obtain ⟨b, off, u, rfl, hb, e0, e1, e2, e3, e4, hE, hlm⟩ := HV.out.at_ hkl
      generalize L[k] = t at e0 e1 e2 e3 e4 hE hlm
      obtain ⟨At, ct, rfl⟩ := hE.form
      obtain ⟨m, hm2⟩ : ∃ m, m = t.log.length := ⟨_, rfl⟩
      rw [← hm2] at e4 hE hlm
      have HMt := Lib.hid hm2
      have d0 := (hBw.out.cell (p := ⟨b, off + k * 5, none⟩) hb).trans e0
      have d1 := (hBw.out.cell (p := ⟨b, off + k * 5 + 1, none⟩) hb).trans e1
      have d2 := (hBw.out.cell (p := ⟨b, off + k * 5 + 2, none⟩) hb).trans e2
      have d3 := (hBw.out.cell (p := ⟨b, off + k * 5 + 3, none⟩) hb).trans e3
      have d4 := (hBw.out.cell (p := ⟨b, off + k * 5 + 4, none⟩) hb).trans e4
      have LT : Hid (LogV (fun i => w.heap.size ≤ i) wr (.slice At m ct) t.log) := Lib.hid (((LogV.of_ents hE).sub (fun i hi => .inr hi)).next I.out.fr)
      have bA := (Below.refl wr.heap.size wr).alloc (Nat.le_refl _) (.cells #[.int .i64 t.vi, .int .i64 t.no, .int .i64 t.co, .int .i64 t.ac, .slice At m ct] 24)
      have BA := Lib.hid bA
      have XT := Lib.hid (Blk.new wr 24 #[.int .i64 t.vi, .int .i64 t.no, .int .i64 t.co, .int .i64 t.ac, .slice At m ct])
      have hwr : w.heap.size ≤ wr.heap.size := hBw.out.size
      clear e0 e1 e2 e3 e4 hE hm2 hkl bA
      go_upto_region 13 with (fail)
      obtain ⟨bt, hbt⟩ : ∃ z, z = wr.heap.size := ⟨_, rfl⟩
      have hbtw : w.heap.size ≤ bt := by omega
      have HBT := Lib.hid hbt
      have SM := Lib.hid (smallSt_any t (.slice At m ct) _ (by rw [← HMt.out]; exact hlm) (LT.out.on BA.out).read)
      rw [← hbt] at XT ⊢
      clear hbt
      generalize wr.alloc _ = wa at *
      obtain ⟨q, hq⟩ : ∃ q, q = smallL t.log := ⟨_, rfl⟩
      rw [← hq] at SM
      have HQ := Lib.hid hq
      have x0 := XT.out.cell 0
      have x1 := XT.out.cell 1
      have x2 := XT.out.cell 2
      have x3 := XT.out.cell 3
      have x4 := XT.out.cell 4
      have xl := XT.out.lt
      clear hq d0 d1 d2 d3 d4
      go_wp2_with fail
      refine SM.out.mono ?_
      rintro e wb ⟨rfl, hbb⟩
      have BB := Lib.hid (BA.out.trans (hbb.mono BA.out.size))
      have XB := Lib.hid (XT.out.on hbb)
      have FB : Hid (Fr (fun i => w.heap.size ≤ i) w wb) := Lib.hid (I.out.fr.next (Fr.of_below BB.out))
      clear SM hbb x0 x1 x2 x3 x4 xl
      cases q with
      | false =>
        go_wp2
        go_ret
        exact ⟨rfl, FIN.out _ FB.out⟩
      | true =>
        have HSB := Lib.hid (smallL_iff.1 HQ.out.symm)
        have hm70 : (m : Int) ≤ 70 := by have := HSB.out.2; have := HMt.out; omega
        have x0 := XB.out.cell 0
        have x1 := XB.out.cell 1
        have x2 := XB.out.cell 2
        have x3 := XB.out.cell 3
        have x4 := XB.out.cell 4
        have xl := XB.out.lt
        by_cases hm6 : (6 : Int) < (m : Int)
        · go_wp2
          go_ret
          exact ⟨rfl, FIN.out _ FB.out⟩
        have SV := Lib.hid (savex_any (SX := fun i => S i ∨ i = bl) (t := t) (.slice At m ct) (fun i hi => .inl hi) (fun i hi => hi.elim (fun e => ((I.out.tape.on BB.out).old i e).2) (fun e => by have h1 := (I.out.last.on BB.out).lt; omega)) (I.out.tape.on BB.out) (I.out.led.on BB.out) I.out.off I.out.whole.ok ((LT.out.on BB.out).sub (fun i hi => .inl (I.out.foot i hi).1)))
        go_wp2_with fail
        refine SV.out.mono ?_
        rintro e wc ⟨E, S2, s2, br2, bs2, rfl, hp⟩
        have P := Lib.hid hp
        have FC : Hid (Fr (fun i => w.heap.size ≤ i) w wc) := Lib.hid (FB.out.next (hp.fr.sub fun i _ hi => hi.elim (fun e => (I.out.foot i e).1) (fun e => by omega)))
        have hft : Hid (∀ i, S2 i → w.heap.size ≤ i ∧ (i = gt ∨ bl < i)) := Lib.hid fun i hi => (hp.foot i hi).elim (I.out.foot i) (fun e => by have h1 := BB.out.size; have h2 := I.out.last.lt; omega)
        have XC := Lib.hid (hp.fr.blk XB.out (fun e => e.elim (fun e => by have := (I.out.tape.old _ e).2; have := HBT.out; omega) (fun e => by have := I.out.led.lt; have := HBT.out; omega)))
        have YC := Lib.hid (hp.fr.blk (I.out.last.on BB.out) (fun e => e.elim (fun e => by have := (I.out.foot _ e).2; omega) (fun e => by omega)))
        clear SV hp x0 x1 x2 x3 x4 xl
        by_cases hE0 : E = 0
        · subst hE0
          have Q : Hid (s2 = t ∧ br2 = false ∧ Whole bs2 t) := Lib.hid (by
            rcases P.out.what with ⟨_, _, h1, h2, h3, j, hc, hr, hb⟩ | ⟨h, _⟩
            · exact ⟨h1, h2, by rw [hb]; exact whole_saved I.out.whole h3 hr⟩
            · exact absurd rfl h)
          have x0 := XC.out.cell 0
          have x1 := XC.out.cell 1
          have x2 := XC.out.cell 2
          have x3 := XC.out.cell 3
          have x4 := XC.out.cell 4
          have xl := XC.out.lt
          have y0 := YC.out.cell 0
          have y1 := YC.out.cell 1
          have y2 := YC.out.cell 2
          have y3 := YC.out.cell 3
          have y4 := YC.out.cell 4
          have yl := YC.out.lt
          have yf := YC.out.frozen
          have hblw : w.heap.size ≤ bl := by omega
          have fg : Hid (Fr (fun i => i = bl) wc (((((wc.setCell ⟨bl, 0, none⟩ (.int .i64 t.vi)).setCell ⟨bl, 1, none⟩ (.int .i64 t.no)).setCell ⟨bl, 2, none⟩ (.int .i64 t.co)).setCell ⟨bl, 3, none⟩ (.int .i64 t.ac)).setCell ⟨bl, 4, none⟩ (.slice At m ct))) := Lib.hid ((((((Fr.refl (S := fun i => i = bl) wc).set_ (q := ⟨bl, 0, none⟩) (.inl (show bl = bl from rfl)) (.int .i64 t.vi)).set_ (q := ⟨bl, 1, none⟩) (.inl (show bl = bl from rfl)) (.int .i64 t.no)).set_ (q := ⟨bl, 2, none⟩) (.inl (show bl = bl from rfl)) (.int .i64 t.co)).set_ (q := ⟨bl, 3, none⟩) (.inl (show bl = bl from rfl)) (.int .i64 t.ac)).set_ (q := ⟨bl, 4, none⟩) (.inl (show bl = bl from rfl)) (.slice At m ct))
          have yy : Hid (Blk (((((wc.setCell ⟨bl, 0, none⟩ (.int .i64 t.vi)).setCell ⟨bl, 1, none⟩ (.int .i64 t.no)).setCell ⟨bl, 2, none⟩ (.int .i64 t.co)).setCell ⟨bl, 3, none⟩ (.int .i64 t.ac)).setCell ⟨bl, 4, none⟩ (.slice At m ct)) bl 24 #[.int .i64 t.vi, .int .i64 t.no, .int .i64 t.co, .int .i64 t.ac, .slice At m ct]) := Lib.hid (by simpa using (((((YC.out.set_ 0 (.int .i64 t.vi)).set_ 1 (.int .i64 t.no)).set_ 2 (.int .i64 t.co)).set_ 3 (.int .i64 t.ac)).set_ 4 (.slice At m ct)))
          have IN : Hid (AgI w gt g bl (((((wc.setCell ⟨bl, 0, none⟩ (.int .i64 t.vi)).setCell ⟨bl, 1, none⟩ (.int .i64 t.no)).setCell ⟨bl, 2, none⟩ (.int .i64 t.co)).setCell ⟨bl, 3, none⟩ (.int .i64 t.ac)).setCell ⟨bl, 4, none⟩ (.slice At m ct)) S2 s2 br2 bs2 At ct) := Lib.hid (by
            obtain ⟨rfl, rfl, hw⟩ := Q.out
            refine ⟨FC.out.next (fg.out.sub fun i _ hi => by have e : i = bl := hi; omega), hft.out, P.out.off, P.out.tape.fr fg.out (fun i hi e => by have e' : i = bl := e; have := (hft.out i hi).2; omega), ?_, hw, HSB.out, by rw [← HMt.out]; exact yy.out, ?_⟩
            · obtain ⟨A', n', c', q1, q2, q3⟩ := P.out.led
              refine ⟨A', n', c', fg.out.blk q1 (fun e => by have e' : g = bl := e; omega), ?_, q3⟩
              exact (q2.next (fg.out.sub fun i _ hi => .inl (.inr (.inr hi)))).sub fun i hi => .inl (by rcases hi with (hi | hi) | hi; exact .inl (.inl hi); exact .inl (.inr (.inr hi)); exact .inr hi)
            · rw [← HMt.out]
              exact (LT.out.on BB.out).next ((P.out.fr.sub fun i _ hi => hi.elim (fun e => (I.out.foot i e).1) (fun e => by omega)).next (fg.out.sub fun i _ hi => by have e : i = bl := hi; omega)))
          clear fg yy
          go_wp2
          go_roundw
          case rel => exact ⟨k + 1, _, _, _, _, _, _, by omega, by go_num, IN⟩
          case measure => simp [intOf]; omega
        · have IN : Hid (AgI w gt g bl wc S2 s2 br2 bs2 Al cl) := Lib.hid (by
            rcases P.out.what with ⟨h, _⟩ | ⟨_, h1, h2, _⟩
            · exact absurd h hE0
            · subst h1 h2
              exact ⟨FC.out, hft.out, P.out.off, P.out.tape, P.out.led.sub (fun i hi => hi.elim .inl (fun e => .inr (.inr e))), I.out.whole, I.out.small, YC.out, (I.out.log.on BB.out).next (P.out.fr.sub fun i _ hi => hi.elim (fun e => (I.out.foot i e).1) (fun e => by omega))⟩)
          go_wp2
          go_roundw
          case rel => exact ⟨k + 1, _, _, _, _, _, _, by omega, by go_num, IN⟩
          case measure => simp [intOf]; omega
    · obtain rfl : k = n := by omega
      have BY := Lib.hid (bytes_at I.out.tape)
      obtain ⟨nb, hnb⟩ : ∃ z, z = bs.length := ⟨_, rfl⟩
      have BY2 : Hid (∀ W, Below wr.heap.size wr W → Calls Try.prog 22 #[.pointer (some ⟨gt, 0, none⟩)] W fun e w' => e = .returned (.slice (some ⟨W.heap.size, 0, none⟩) nb nb) ∧ Own w' W.heap.size (.slice (some ⟨W.heap.size, 0, none⟩) nb nb) bs ∧ Below W.heap.size W w') := Lib.hid fun W hW => by rw [hnb]; exact bytes_at (I.out.tape.on hW)
      have NB := Lib.hid hnb
      clear BY hnb
      go_wp2_with fail
      refine (BY2.out _ (Below.refl _ _)).mono ?_
      rintro e w6 ⟨rfl, o6, b6⟩
      have V6 := Lib.hid b6
      have q6 := run_string_bytes o6.bytes
      clear b6 o6
      go_wp2
      clear q6
      go_loopw [66] (fun i wz => ∃ k : Int, 0 ≤ k ∧ k ≤ times ∧ i = .int .i64 k ∧ Hid (Below wr.heap.size wr wz)) (fun i _ => (times - intOf i).toNat)
      case atStart => exact ⟨0, by omega, by omega, rfl, V6⟩
      case round =>
        obtain ⟨j, hj0, hjt, rfl, HB⟩ := hrel
        by_cases hjl : j < times
        · have OP := Lib.hid (open_whole (I.out.tape.on HB.out) I.out.whole)
          have hszr := HB.out.size
          go_wp2_with fail
          refine OP.out.mono ?_
          rintro e w7 ⟨g7, rfl, hg7, hl7, _, hb7⟩
          have V7 := Lib.hid (HB.out.trans (hb7.mono hszr))
          have L7 := Lib.hid hl7
          clear OP hl7 hb7
          have SHs := Lib.hid (short_of_ok I.out.whole.ok)
          go_upto_region 22 with (fail)
          refine wp_region_held_drew (S := fun w' => Below w7.heap.size w7 w') (by kernel_rfl) (Below.drewN' (Below.refl _ _) 1) (fun hHeld => ?_)
          refine take_d 0 73 (.int .i64 0) _ rfl rfl (by kernel_rfl) (by kernel_rfl) (by kernel_rfl) (fun _ _ _ h => h) (Or.inl ⟨by rfl, fun w' hSw => ?_⟩) hHeld ?_
          · go_simp
          simp only [List.setIfInBounds_toArray, List.set_cons_zero, List.set_cons_succ]
          refine take_d 1 74 (.bool false) _ rfl rfl (by kernel_rfl) (by kernel_rfl) (by kernel_rfl) (fun _ _ _ h => h) (Or.inl ⟨by rfl, fun w' hSw => ?_⟩) hHeld ?_
          · go_simp
          simp only [List.setIfInBounds_toArray, List.set_cons_zero, List.set_cons_succ]
          refine take_d 2 75 (.bool false) _ rfl rfl (by kernel_rfl) (by kernel_rfl) (by kernel_rfl) (fun _ _ _ h => h) (Or.inl ⟨by rfl, fun w' hSw => ?_⟩) hHeld ?_
          · go_simp
          simp only [List.setIfInBounds_toArray, List.set_cons_zero, List.set_cons_succ]
          refine take_d 3 76 (.pointer (some ⟨g7, 0, none⟩)) _ rfl rfl (by kernel_rfl) (by kernel_rfl) (by kernel_rfl) (fun _ _ _ h => h) (Or.inl ⟨by rfl, fun w' hSw => ?_⟩) hHeld ?_
          · go_simp
          simp only [List.setIfInBounds_toArray, List.set_cons_zero, List.set_cons_succ]
          refine take_d 4 77 (.bool false) _ rfl rfl (by kernel_rfl) (by kernel_rfl) (by kernel_rfl) (fun _ _ _ h => h) (Or.inl ⟨by rfl, fun w' hSw => ?_⟩) hHeld ?_
          · go_simp
          simp only [List.setIfInBounds_toArray, List.set_cons_zero, List.set_cons_succ]
          refine take_d 5 78 (.bool false) _ rfl rfl (by kernel_rfl) (by kernel_rfl) (by kernel_rfl) (fun _ _ _ h => h) (Or.inl ⟨by rfl, fun w' hSw => ?_⟩) hHeld ?_
          · go_simp
          simp only [List.setIfInBounds_toArray, List.set_cons_zero, List.set_cons_succ]
          refine take_d 6 79 (.bool false) _ rfl rfl (by kernel_rfl) (by kernel_rfl) (by kernel_rfl) (fun _ _ _ h => h) (Or.inl ⟨by rfl, fun w' hSw => ?_⟩) hHeld ?_
          · go_simp
          simp only [List.setIfInBounds_toArray, List.set_cons_zero, List.set_cons_succ]
          refine take_d 7 80 (.pointer (some ⟨g7, 0, none⟩)) _ rfl rfl (by kernel_rfl) (by kernel_rfl) (by kernel_rfl) (fun _ _ _ h => h) (Or.inl ⟨by rfl, fun w' hSw => ?_⟩) hHeld ?_
          · go_simp
          simp only [List.setIfInBounds_toArray, List.set_cons_zero, List.set_cons_succ]
          refine take_d 9 82 (.agg #[.int .i64 s.vi, .int .i64 s.no, .int .i64 s.co, .int .i64 s.ac, .slice Al s.log.length cl]) _ rfl rfl (by kernel_rfl) (by kernel_rfl) (by kernel_rfl) (fun _ _ _ h => h) (Or.inl ⟨by rfl, fun w' hSw => ?_⟩) hHeld ?_
          · have z := I.out.last.on (V7.out.trans (Below.mono hSw V7.out.size))
            have z0 := z.cell 0
            have z1 := z.cell 1
            have z2 := z.cell 2
            have z3 := z.cell 3
            have z4 := z.cell 4
            go_simp
          simp only [List.setIfInBounds_toArray, List.set_cons_zero, List.set_cons_succ]
          refine wpAnyH_ready (rs := [8]) (by kernel_rfl) (by simp) ?_
          refine AllReadyH.cons rfl (fun K hK => ?_) AllReadyH.nil
          go_simp
          refine (state_any (by have := SHs.out.2; omega) SHs.out.1 (L7.out.on hHeld)).mono ?_
          rintro e w8 ⟨A8, c8, rfl, o8, hb8⟩
          have hS8 := Below.trans hHeld (hb8.mono (Below.size hHeld))
          have E8 := Lib.hid o8.read
          have V8 := Lib.hid hS8
          refine hK.out _ _ hS8 (fun hHeld => ?_)
          clear hK K hS8 hb8 o8
          refine wpAnyH_ready (rs := [10]) (by kernel_rfl) (by simp) ?_
          refine AllReadyH.cons rfl (fun K hK => ?_) AllReadyH.nil
          go_simp
          refine (madeState_any w8.heap.size s (.slice Al s.log.length cl) w8 (Nat.le_refl _) I.out.small.2 I.out.small.1 (I.out.log.read.on (V7.out.trans (V8.out.mono V7.out.size)))).mono ?_
          rintro e w9 ⟨A9, c9, rfl, o9, hb9⟩
          have hS9 := Below.trans hHeld (hb9.mono (Below.size hHeld))
          have E9 := Lib.hid (o9.read hb9.size)
          have E8b := Lib.hid (E8.out.on hb9)
          have V9 := Lib.hid hS9
          refine hK.out _ _ hS9 (fun hHeld => ?_)
          clear hK K hS9 hb9 o9
          refine wpAnyH_ready (rs := [11]) (by kernel_rfl) (by simp) ?_
          refine AllReadyH.cons rfl (fun K hK => ?_) AllReadyH.nil
          go_simp
          refine (same13_any s s (.slice A8 s.log.length c8) (.slice A9 s.log.length c9) w9 I.out.small.2 I.out.small.1 SHs.out.1 E8b.out E9.out).mono ?_
          rintro e w10 ⟨cc, rfl, hcc, hb10⟩
          have hct : cc = true := hcc.2 (by first | rfl | trivial)
          subst hct
          have hS10 := Below.trans hHeld (hb10.mono (Below.size hHeld))
          have V10 := Lib.hid hS10
          refine hK.out _ _ hS10 (fun hHeld => ?_)
          clear hK K hS10 hb10 hcc
          refine take_d 12 85 (.bool false) _ rfl rfl (by kernel_rfl) (by kernel_rfl) (by kernel_rfl) (fun _ _ _ h => h) (Or.inl ⟨by rfl, fun w' hSw => ?_⟩) hHeld ?_
          · go_simp
          simp only [List.setIfInBounds_toArray, List.set_cons_zero, List.set_cons_succ]
          refine take_d 13 86 (.bool false) _ rfl rfl (by kernel_rfl) (by kernel_rfl) (by kernel_rfl) (fun _ _ _ h => h) (Or.inl ⟨by rfl, fun w' hSw => ?_⟩) hHeld ?_
          · go_simp
          simp only [List.setIfInBounds_toArray, List.set_cons_zero, List.set_cons_succ]
          refine take_d 14 87 (.bool false) _ rfl rfl (by kernel_rfl) (by kernel_rfl) (by kernel_rfl) (fun _ _ _ h => h) (Or.inl ⟨by rfl, fun w' hSw => ?_⟩) hHeld ?_
          · go_simp
          simp only [List.setIfInBounds_toArray, List.set_cons_zero, List.set_cons_succ]
          refine take_d 15 88 (.pointer (some ⟨gt, 0, none⟩)) _ rfl rfl (by kernel_rfl) (by kernel_rfl) (by kernel_rfl) (fun _ _ _ h => h) (Or.inl ⟨by rfl, fun w' hSw => ?_⟩) hHeld ?_
          · go_simp
          simp only [List.setIfInBounds_toArray, List.set_cons_zero, List.set_cons_succ]
          refine take_d 18 91 (.string ⟨bs.toArray⟩) _ rfl rfl (by kernel_rfl) (by kernel_rfl) (by kernel_rfl) (fun _ _ _ h => h) (Or.inl ⟨by rfl, fun w' hSw => ?_⟩) hHeld ?_
          · go_simp
          simp only [List.setIfInBounds_toArray, List.set_cons_zero, List.set_cons_succ]
          refine wpAnyH_ready (rs := [16]) (by kernel_rfl) (by simp) ?_
          refine AllReadyH.cons rfl (fun K hK => ?_) AllReadyH.nil
          go_simp
          refine (BY2.out _ (V7.out.trans (V10.out.mono V7.out.size))).mono ?_
          rintro e w11 ⟨rfl, o11, hb11⟩
          have hS11 := Below.trans hHeld (hb11.mono (Below.size hHeld))
          have q11 := run_string_bytes o11.bytes
          have V11 := Lib.hid hS11
          refine hK.out _ _ hS11 (fun hHeld => ?_)
          clear hK K hS11 hb11 o11
          refine wpAnyH_ready (rs := [17]) (by kernel_rfl) (by simp) ?_
          refine AllReadyH.cons rfl (fun K hK => ?_) AllReadyH.nil
          go_simp
          refine hK.out _ _ hHeld (fun hHeld => ?_)
          clear hK K q11
          refine take_d 19 92 (.bool false) _ rfl rfl (by kernel_rfl) (by kernel_rfl) (by kernel_rfl) (fun _ _ _ h => h) (Or.inl ⟨by rfl, fun w' hSw => ?_⟩) hHeld ?_
          · go_simp
          simp only [List.setIfInBounds_toArray, List.set_cons_zero, List.set_cons_succ]
          refine take_d 20 93 (.bool false) _ rfl rfl (by kernel_rfl) (by kernel_rfl) (by kernel_rfl) (fun _ _ _ h => h) (Or.inl ⟨by rfl, fun w' hSw => ?_⟩) hHeld ?_
          · go_simp
          simp only [List.setIfInBounds_toArray, List.set_cons_zero, List.set_cons_succ]
          refine wpAnyH_done (by kernel_rfl) ?_ _
          have VN := Lib.hid (V7.out.trans (Below.mono hHeld V7.out.size))
          clear hHeld
          go_wp2
          go_roundw
          case rel => exact ⟨j + 1, by omega, by omega, by first | rfl | go_num | (simp), VN⟩
          case measure => simp [intOf]; omega
        · obtain rfl : j = times := by omega
          have SF := Lib.hid (safe_any (I.out.tape.on HB.out))
          have hq : ((Tq 1048576 bs).safe : Int) = (nb : Int) := by show ((bs.length : Nat) : Int) = _; rw [NB.out]
          rw [hq] at SF
          have VF := Lib.hid (FIN.out _ (I.out.fr.next (Fr.of_below HB.out)))
          have hsl : (⟨bs.toArray⟩ : ByteArray).size = nb := by rw [NB.out]; simp [ByteArray.size]
          clear hq
          go_wp2_with fail
          refine SF.out.mono ?_
          rintro e w8 ⟨rfl, rfl⟩
          go_wp2
          go_ret
          exact ⟨rfl, VF.out⟩
end Go.Proofs.Ytgddcbjlhplmgaa
