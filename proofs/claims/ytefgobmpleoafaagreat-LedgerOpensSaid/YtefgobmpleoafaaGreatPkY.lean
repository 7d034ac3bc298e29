/- Package pack: Same. -/
import Derived.Test.YtefgobmpleoafaaGreatMSa
namespace Go.Proofs.YtefgobmpleoafaaGreat
open Go.RowKit
variable {w w' : World}

theorem run_neq_ru (a b : Ru) (w : World) : (binOp .neq 114 (.agg #[.int .i64 a.id, .int .i64 a.pr, .int .i64 a.ac, .int .i64 a.sc, .string a.pat]) (.agg #[.int .i64 b.id, .int .i64 b.pr, .int .i64 b.ac, .int .i64 b.sc, .string b.pat])).run Tryz.prog w = .ok (.bool (!ruEq a b)) w := by
  have u3 := Tryz.underlying3
  have a3 := Tryz.isAgg3
  have z3 := Tryz.sizeOf3
  have u9 := Tryz.underlying9
  have a9 := Tryz.isAgg9
  have z9 := Tryz.sizeOf9
  have hS : Tryz.prog.underlying 114 = some (.struct (Tryz.prog.fieldsOf 114)) := by kernel_rfl
  have hp : Tryz.prog.stoodInHeld 114 = false := by kernel_rfl
  rw [run_neq_struct, show (10000 : Nat) = 9999 + 1 from rfl, run_equalIn_agg w 9999 114 _ _ hS hp]
  simp only [Program.fieldsOf, Tryz.underlying114]
  go_simp
  by_cases h1 : a.id = b.id <;> by_cases h2 : a.pr = b.pr <;> by_cases h3 : a.ac = b.ac <;> by_cases h4 : a.sc = b.sc <;> by_cases h5 : a.pat.toList = b.pat.toList <;> simp [ruEq, h1, h2, h3, h4, h5]
set_option maxRecDepth 100000 in
set_option maxHeartbeats 8000000 in
theorem eqR_any (la lb : List Ru) (va vb : Value) (w : World) (hm : la.length ≤ 1000000) (hS : RulesV w.heap.size w va la) (hO : RulesV w.heap.size w vb lb) :
    Calls Tryz.prog 100 #[va, vb] w fun e w' => ∃ c, e = .returned (.bool c) ∧ (c = true ↔ la = lb) ∧ Below w.heap.size w w' := by
  obtain ⟨A, cap, rfl⟩ := hS.form
  obtain ⟨B, cap', rfl⟩ := hO.form
  by_cases hl : la.length = lb.length
  · have HL := Lib.hid hl
    obtain ⟨n, hn⟩ : ∃ n, n = la.length := ⟨_, rfl⟩
    rw [← hl]
    rw [← hl] at hO
    rw [← hn] at hS hO hm ⊢
    have HN := Lib.hid hn
    have HSA := Lib.hid hS
    have HSB := Lib.hid hO
    clear hl hn hS hO
    go_enter Tryz.func100, Tryz.ntmps100
    go_wp2
    go_loopw [13] (fun i wr => ∃ k : Nat, k ≤ n ∧ i = .int .i64 k ∧ Hid (la.take k = lb.take k) ∧ Below w.heap.size w wr) (fun i _ => n - (intOf i).toNat)
    case atStart => exact ⟨0, Nat.zero_le _, rfl, Lib.hid rfl, Below.refl _ _⟩
    case round =>
      obtain ⟨k, hk, rfl, HH, hbel⟩ := hrel
      have hsz := hbel.size
      by_cases hlt : k < n
      · have hla : k < la.length := by rw [← HN.out]; exact hlt
        have hlb : k < lb.length := by rw [← HL.out, ← HN.out]; exact hlt
        have hlti : (k : Int) < (n : Int) := by omega
        obtain ⟨b1, off, hA1, hb1, c0, c1, c2, c3, c4⟩ := (HSA.out.below hbel).at_ hla
        obtain ⟨b2, off', hA2, hb2, d0, d1, d2, d3, d4⟩ := (HSB.out.below hbel).at_ hlb
        subst hA1 hA2
        have HG := Lib.hid (List.getElem?_eq_getElem hla)
        have HG' := Lib.hid (List.getElem?_eq_getElem hlb)
        generalize la[k] = r at HG c0 c1 c2 c3 c4
        generalize lb[k] = r' at HG' d0 d1 d2 d3 d4
        clear hla hlb
        have hneq := run_neq_ru r r'
        cases hin : ruEq r r'
        · have HI := Lib.hid hin
          rw [hin] at hneq
          go_wp2
          go_quiet (fail)
          go_wp2
          go_ret
          refine ⟨false, rfl, ⟨fun h => Bool.noConfusion h, fun h => ?_⟩, Below.drewN' hbel _⟩
          subst h
          rw [HG.out] at HG'
          have := Option.some.inj HG'.out
          subst this
          rw [ruEq_refl] at HI
          cases HI.out
        · have HI := Lib.hid ((ruEq_iff r r').1 hin)
          rw [hin] at hneq
          go_wp2
          go_quiet (fail)
          go_wp2
          go_roundw
          case rel => exact ⟨k + 1, by omega, by go_num, Lib.hid (by rw [ru_take HG.out, ru_take HG'.out, HH.out, HI.out]), Below.drewN' hbel _⟩
          case measure => simp [intOf]; omega
      · obtain rfl : k = n := by omega
        have HE : Hid (la = lb) := Lib.hid (by
          have h := HH.out
          rwa [List.take_of_length_le (by rw [← HN.out]; omega), List.take_of_length_le (by rw [← HL.out, ← HN.out]; omega)] at h)
        go_wp2
        go_ret
        exact ⟨true, rfl, by simp [HE.out], hbel⟩
  · have pl : ((la.length : Int) != (lb.length : Int)) = true := by simp; omega
    have HH := Lib.hid hl
    clear hl
    go_enter Tryz.func100, Tryz.ntmps100
    go_wp2
    go_ret
    exact ⟨false, rfl, ⟨fun h => Bool.noConfusion h, fun h => absurd (congrArg List.length h) HH.out⟩, Below.refl _ _⟩
set_option maxRecDepth 100000 in
set_option maxHeartbeats 8000000 in
theorem eqI_any (la lb : List Int) (va vb : Value) (w : World) (hm : la.length ≤ 1000000) (hS : Row w.heap.size w va (zI la)) (hO : Row w.heap.size w vb (zI lb)) :
    Calls Tryz.prog 101 #[va, vb] w fun e w' => ∃ c, e = .returned (.bool c) ∧ (c = true ↔ la = lb) ∧ Below w.heap.size w w' := by
  obtain ⟨A, cap, rfl⟩ := hS.form
  obtain ⟨B, cap', rfl⟩ := hO.form
  rw [zI_len] at hS hO ⊢
  rw [zI_len]
  by_cases hl : la.length = lb.length
  · have HL := Lib.hid hl
    obtain ⟨n, hn⟩ : ∃ n, n = la.length := ⟨_, rfl⟩
    rw [← hl]
    rw [← hl] at hO
    rw [← hn] at hS hO hm ⊢
    have HN := Lib.hid hn
    have HSA := Lib.hid hS
    have HSB := Lib.hid hO
    clear hl hn hS hO
    go_enter Tryz.func101, Tryz.ntmps101
    go_wp2
    go_loopw [13] (fun i wr => ∃ k : Nat, k ≤ n ∧ i = .int .i64 k ∧ Hid (la.take k = lb.take k) ∧ Below w.heap.size w wr) (fun i _ => n - (intOf i).toNat)
    case atStart => exact ⟨0, Nat.zero_le _, rfl, Lib.hid rfl, Below.refl _ _⟩
    case round =>
      obtain ⟨k, hk, rfl, HH, hbel⟩ := hrel
      have hsz := hbel.size
      by_cases hlt : k < n
      · have hla : k < la.length := by rw [← HN.out]; exact hlt
        have hlb : k < lb.length := by rw [← HL.out, ← HN.out]; exact hlt
        have hlti : (k : Int) < (n : Int) := by omega
        obtain ⟨b1, off, hA1, hb1, c0⟩ := (HSA.out.below hbel).at_ hla
        obtain ⟨b2, off', hA2, hb2, d0⟩ := (HSB.out.below hbel).at_ hlb
        subst hA1 hA2
        have HG := Lib.hid (List.getElem?_eq_getElem hla)
        have HG' := Lib.hid (List.getElem?_eq_getElem hlb)
        generalize la[k] = r at HG c0
        generalize lb[k] = r' at HG' d0
        clear hla hlb
        by_cases hin : r = r'
        · have pin : (r != r') = false := by simp [hin]
          have HI := Lib.hid hin
          clear hin
          go_wp2
          go_quiet (fail)
          go_wp2
          go_roundw
          case rel => exact ⟨k + 1, by omega, by go_num, Lib.hid (by rw [int_take HG.out, int_take HG'.out, HH.out, HI.out]), Below.drewN' hbel _⟩
          case measure => simp [intOf]; omega
        · have pin : (r != r') = true := by simp [hin]
          have HI := Lib.hid hin
          clear hin
          go_wp2
          go_quiet (fail)
          go_wp2
          go_ret
          refine ⟨false, rfl, ⟨fun h => Bool.noConfusion h, fun h => ?_⟩, Below.drewN' hbel _⟩
          subst h
          rw [HG.out] at HG'
          exact absurd (Option.some.inj HG'.out) HI.out
      · obtain rfl : k = n := by omega
        have HE : Hid (la = lb) := Lib.hid (by
          have h := HH.out
          rwa [List.take_of_length_le (by rw [← HN.out]; omega), List.take_of_length_le (by rw [← HL.out, ← HN.out]; omega)] at h)
        go_wp2
        go_ret
        exact ⟨true, rfl, by simp [HE.out], hbel⟩
  · have pl : ((la.length : Int) != (lb.length : Int)) = true := by simp; omega
    have HH := Lib.hid hl
    clear hl
    go_enter Tryz.func101, Tryz.ntmps101
    go_wp2
    go_ret
    exact ⟨false, rfl, ⟨fun h => Bool.noConfusion h, fun h => absurd (congrArg List.length h) HH.out⟩, Below.refl _ _⟩
set_option maxRecDepth 100000 in
set_option maxHeartbeats 8000000 in
theorem psameDelta_any (a b : Dl) (pa da pb db : Value) (w : World) (hma : a.put.length ≤ 1000000) (hna : a.drop.length ≤ 1000000) (hS : RulesV w.heap.size w pa a.put) (hO : RulesV w.heap.size w pb b.put) (hSd : Row w.heap.size w da (zI a.drop)) (hOd : Row w.heap.size w db (zI b.drop)) :
    Calls Tryz.prog 95 #[a.val pa da, b.val pb db] w fun e w' => ∃ c, e = .returned (.bool c) ∧ (c = true ↔ a = b) ∧ Below w.heap.size w w' := by
  obtain ⟨A, cap, rfl⟩ := hS.form
  obtain ⟨B, cbp, rfl⟩ := hO.form
  obtain ⟨Ad, cad, rfl⟩ := hSd.form
  obtain ⟨Bd, cbd, rfl⟩ := hOd.form
  rw [zI_len] at hSd hOd ⊢
  rw [zI_len]
  have b0 : Below w.heap.size w ((w.alloc (.cells #[.int .i64 a.de, .int .i64 a.cl, .int .i64 a.fu, .int .i64 a.st, .slice A a.put.length cap, .slice Ad a.drop.length cad] 91)).alloc (.cells #[.int .i64 b.de, .int .i64 b.cl, .int .i64 b.fu, .int .i64 b.st, .slice B b.put.length cbp, .slice Bd b.drop.length cbd] 91)) := ((Below.refl _ _).alloc (Nat.le_refl _) _).alloc (by simp) _
  have HX : Hid (Blk ((w.alloc (.cells #[.int .i64 a.de, .int .i64 a.cl, .int .i64 a.fu, .int .i64 a.st, .slice A a.put.length cap, .slice Ad a.drop.length cad] 91)).alloc (.cells #[.int .i64 b.de, .int .i64 b.cl, .int .i64 b.fu, .int .i64 b.st, .slice B b.put.length cbp, .slice Bd b.drop.length cbd] 91)) w.heap.size 91 #[.int .i64 a.de, .int .i64 a.cl, .int .i64 a.fu, .int .i64 a.st, .slice A a.put.length cap, .slice Ad a.drop.length cad]) := Lib.hid ((Blk.new _ _ _).alloc _)
  have HY : Hid (Blk ((w.alloc (.cells #[.int .i64 a.de, .int .i64 a.cl, .int .i64 a.fu, .int .i64 a.st, .slice A a.put.length cap, .slice Ad a.drop.length cad] 91)).alloc (.cells #[.int .i64 b.de, .int .i64 b.cl, .int .i64 b.fu, .int .i64 b.st, .slice B b.put.length cbp, .slice Bd b.drop.length cbd] 91)) (w.heap.size + 1) 91 #[.int .i64 b.de, .int .i64 b.cl, .int .i64 b.fu, .int .i64 b.st, .slice B b.put.length cbp, .slice Bd b.drop.length cbd]) := Lib.hid (Blk.at_new _ _ (by simp) _ _)
  have B0 := Lib.hid b0
  have HPa := Lib.hid (hS.on b0)
  have HPb := Lib.hid (hO.on b0)
  have HDa := Lib.hid (hSd.on_ b0)
  have HDb := Lib.hid (hOd.on_ b0)
  have HMa := Lib.hid hma
  have HMd := Lib.hid hna
  have hs0 : w.heap.size ≤ ((w.alloc (.cells #[.int .i64 a.de, .int .i64 a.cl, .int .i64 a.fu, .int .i64 a.st, .slice A a.put.length cap, .slice Ad a.drop.length cad] 91)).alloc (.cells #[.int .i64 b.de, .int .i64 b.cl, .int .i64 b.fu, .int .i64 b.st, .slice B b.put.length cbp, .slice Bd b.drop.length cbd] 91)).heap.size := b0.size
  clear b0 hS hO hSd hOd hma hna
  go_enter Tryz.func95, Tryz.ntmps95
  go_upto_region 1 with (fail)
  generalize (w.alloc _).alloc _ = wx at *
  have x0 := HX.out.cell 0
  have y0 := HY.out.cell 0
  have x1 := HX.out.cell 1
  have y1 := HY.out.cell 1
  have x2 := HX.out.cell 2
  have y2 := HY.out.cell 2
  have x3 := HX.out.cell 3
  have y3 := HY.out.cell 3
  have x4 := HX.out.cell 4
  have y4 := HY.out.cell 4
  have x5 := HX.out.cell 5
  have y5 := HY.out.cell 5
  by_cases h0 : a.de = b.de
  · have p0 : (a.de == b.de) = true := by simp [h0]
    have H0 := Lib.hid h0
    clear h0
    by_cases h1 : a.cl = b.cl
    · have p1 : (a.cl == b.cl) = true := by simp [h1]
      have H1 := Lib.hid h1
      clear h1
      by_cases h2 : a.fu = b.fu
      · have p2 : (a.fu == b.fu) = true := by simp [h2]
        have H2 := Lib.hid h2
        clear h2
        by_cases h3 : a.st = b.st
        · have p3 : (a.st == b.st) = true := by simp [h3]
          have H3 := Lib.hid h3
          clear h3
          go_wp2_with fail
          refine (eqR_any a.put b.put _ _ _ HMa.out HPa.out HPb.out).mono ?_
          rintro e w1 ⟨c, rfl, hc, hB1⟩
          have B1 := Lib.hid (B0.out.trans (hB1.mono hs0))
          have HC := Lib.hid hc
          have x5 := (HX.out.on hB1).cell 5
          have y5 := (HY.out.on hB1).cell 5
          have HDa1 := Lib.hid (HDa.out.on_ hB1)
          have HDb1 := Lib.hid (HDb.out.on_ hB1)
          have hs1 : w.heap.size ≤ w1.heap.size := B1.out.size
          clear hc hB1
          cases c
          · go_wp2
            go_ret
            exact ⟨false, rfl, ⟨fun h => Bool.noConfusion h, fun h => by have := HC.out.2 (by rw [h]); simp at this⟩, B1.out⟩
          · go_wp2_with fail
            refine (eqI_any a.drop b.drop _ _ _ HMd.out HDa1.out HDb1.out).mono ?_
            rintro e w2 ⟨c, rfl, hc, hB2⟩
            have B2 := Lib.hid (B1.out.trans (hB2.mono hs1))
            have HC2 := Lib.hid hc
            clear hc hB2
            go_wp2
            go_ret
            refine ⟨c, rfl, ⟨fun h => ?_, fun h => HC2.out.2 (by rw [h])⟩, B2.out⟩
            have h4 := HC.out.1 (by simp)
            have h5 := HC2.out.1 h
            cases a; cases b
            simp only at h4 h5 H0 H1 H2 H3
            rw [h4, h5, H0.out, H1.out, H2.out, H3.out]
        · have p3 : (a.st == b.st) = false := by simp [h3]
          have HH := Lib.hid h3
          clear h3
          go_wp2
          go_ret
          exact ⟨false, rfl, ⟨fun h => Bool.noConfusion h, fun h => absurd (congrArg Dl.st h) HH.out⟩, B0.out⟩
      · have p2 : (a.fu == b.fu) = false := by simp [h2]
        have HH := Lib.hid h2
        clear h2
        go_wp2
        go_ret
        exact ⟨false, rfl, ⟨fun h => Bool.noConfusion h, fun h => absurd (congrArg Dl.fu h) HH.out⟩, B0.out⟩
    · have p1 : (a.cl == b.cl) = false := by simp [h1]
      have HH := Lib.hid h1
      clear h1
      go_wp2
      go_ret
      exact ⟨false, rfl, ⟨fun h => Bool.noConfusion h, fun h => absurd (congrArg Dl.cl h) HH.out⟩, B0.out⟩
  · have p0 : (a.de == b.de) = false := by simp [h0]
    have HH := Lib.hid h0
    clear h0
    go_wp2
    go_ret
    exact ⟨false, rfl, ⟨fun h => Bool.noConfusion h, fun h => absurd (congrArg Dl.de h) HH.out⟩, B0.out⟩
set_option maxRecDepth 100000 in
set_option maxHeartbeats 8000000 in
theorem psameEntry_any (a b : En) (pa da pb db : Value) (w : World) (hma : a.d.put.length ≤ 1000000) (hna : a.d.drop.length ≤ 1000000) (hS : RulesV w.heap.size w pa a.d.put) (hO : RulesV w.heap.size w pb b.d.put) (hSd : Row w.heap.size w da (zI a.d.drop)) (hOd : Row w.heap.size w db (zI b.d.drop)) :
    Calls Tryz.prog 87 #[a.val pa da, b.val pb db] w fun e w' => ∃ c, e = .returned (.bool c) ∧ (c = true ↔ a = b) ∧ Below w.heap.size w w' := by
  obtain ⟨A, cap, rfl⟩ := hS.form
  obtain ⟨B, cbp, rfl⟩ := hO.form
  obtain ⟨Ad, cad, rfl⟩ := hSd.form
  obtain ⟨Bd, cbd, rfl⟩ := hOd.form
  rw [zI_len] at hSd hOd ⊢
  rw [zI_len]
  have b0 : Below w.heap.size w ((w.alloc (.cells #[.int .i64 a.vi, .int .i64 a.cl, .int .i64 a.re, .int .i64 a.d.de, .int .i64 a.d.cl, .int .i64 a.d.fu, .int .i64 a.d.st, .slice A a.d.put.length cap, .slice Ad a.d.drop.length cad] 93)).alloc (.cells #[.int .i64 b.vi, .int .i64 b.cl, .int .i64 b.re, .int .i64 b.d.de, .int .i64 b.d.cl, .int .i64 b.d.fu, .int .i64 b.d.st, .slice B b.d.put.length cbp, .slice Bd b.d.drop.length cbd] 93)) := ((Below.refl _ _).alloc (Nat.le_refl _) _).alloc (by simp) _
  have HX : Hid (Blk ((w.alloc (.cells #[.int .i64 a.vi, .int .i64 a.cl, .int .i64 a.re, .int .i64 a.d.de, .int .i64 a.d.cl, .int .i64 a.d.fu, .int .i64 a.d.st, .slice A a.d.put.length cap, .slice Ad a.d.drop.length cad] 93)).alloc (.cells #[.int .i64 b.vi, .int .i64 b.cl, .int .i64 b.re, .int .i64 b.d.de, .int .i64 b.d.cl, .int .i64 b.d.fu, .int .i64 b.d.st, .slice B b.d.put.length cbp, .slice Bd b.d.drop.length cbd] 93)) w.heap.size 93 #[.int .i64 a.vi, .int .i64 a.cl, .int .i64 a.re, .int .i64 a.d.de, .int .i64 a.d.cl, .int .i64 a.d.fu, .int .i64 a.d.st, .slice A a.d.put.length cap, .slice Ad a.d.drop.length cad]) := Lib.hid ((Blk.new _ _ _).alloc _)
  have HY : Hid (Blk ((w.alloc (.cells #[.int .i64 a.vi, .int .i64 a.cl, .int .i64 a.re, .int .i64 a.d.de, .int .i64 a.d.cl, .int .i64 a.d.fu, .int .i64 a.d.st, .slice A a.d.put.length cap, .slice Ad a.d.drop.length cad] 93)).alloc (.cells #[.int .i64 b.vi, .int .i64 b.cl, .int .i64 b.re, .int .i64 b.d.de, .int .i64 b.d.cl, .int .i64 b.d.fu, .int .i64 b.d.st, .slice B b.d.put.length cbp, .slice Bd b.d.drop.length cbd] 93)) (w.heap.size + 1) 93 #[.int .i64 b.vi, .int .i64 b.cl, .int .i64 b.re, .int .i64 b.d.de, .int .i64 b.d.cl, .int .i64 b.d.fu, .int .i64 b.d.st, .slice B b.d.put.length cbp, .slice Bd b.d.drop.length cbd]) := Lib.hid (Blk.at_new _ _ (by simp) _ _)
  have B0 := Lib.hid b0
  have HPa := Lib.hid (hS.on b0)
  have HPb := Lib.hid (hO.on b0)
  have HDa := Lib.hid (hSd.on_ b0)
  have HDb := Lib.hid (hOd.on_ b0)
  have HMa := Lib.hid hma
  have HMd := Lib.hid hna
  have hs0 : w.heap.size ≤ ((w.alloc (.cells #[.int .i64 a.vi, .int .i64 a.cl, .int .i64 a.re, .int .i64 a.d.de, .int .i64 a.d.cl, .int .i64 a.d.fu, .int .i64 a.d.st, .slice A a.d.put.length cap, .slice Ad a.d.drop.length cad] 93)).alloc (.cells #[.int .i64 b.vi, .int .i64 b.cl, .int .i64 b.re, .int .i64 b.d.de, .int .i64 b.d.cl, .int .i64 b.d.fu, .int .i64 b.d.st, .slice B b.d.put.length cbp, .slice Bd b.d.drop.length cbd] 93)).heap.size := b0.size
  clear b0 hS hO hSd hOd hma hna
  go_enter Tryz.func87, Tryz.ntmps87
  go_upto_region 1 with (fail)
  generalize (w.alloc _).alloc _ = wx at *
  have x0 := HX.out.cell 0
  have y0 := HY.out.cell 0
  have x1 := HX.out.cell 1
  have y1 := HY.out.cell 1
  have x2 := HX.out.cell 2
  have y2 := HY.out.cell 2
  have x3 := HX.out.cell 3
  have y3 := HY.out.cell 3
  have x4 := HX.out.cell 4
  have y4 := HY.out.cell 4
  have x5 := HX.out.cell 5
  have y5 := HY.out.cell 5
  have x6 := HX.out.cell 6
  have y6 := HY.out.cell 6
  have x7 := HX.out.cell 7
  have y7 := HY.out.cell 7
  have x8 := HX.out.cell 8
  have y8 := HY.out.cell 8
  by_cases h0 : a.vi = b.vi
  · have p0 : (a.vi == b.vi) = true := by simp [h0]
    have H0 := Lib.hid h0
    clear h0
    by_cases h1 : a.cl = b.cl
    · have p1 : (a.cl == b.cl) = true := by simp [h1]
      have H1 := Lib.hid h1
      clear h1
      by_cases h2 : a.re = b.re
      · have p2 : (a.re == b.re) = true := by simp [h2]
        have H2 := Lib.hid h2
        clear h2
        go_wp2_with fail
        refine (psameDelta_any a.d b.d _ _ _ _ _ HMa.out HMd.out HPa.out HPb.out HDa.out HDb.out).mono ?_
        rintro e w1 ⟨c, rfl, hc, hB1⟩
        have B1 := Lib.hid (B0.out.trans (hB1.mono hs0))
        have HC := Lib.hid hc
        clear hc hB1
        go_wp2
        go_ret
        refine ⟨c, rfl, ⟨fun h => ?_, fun h => HC.out.2 (by rw [h])⟩, B1.out⟩
        have h4 := HC.out.1 h
        cases a; cases b
        simp only at h4 H0 H1 H2
        rw [h4, H0.out, H1.out, H2.out]
      · have p2 : (a.re == b.re) = false := by simp [h2]
        have HH := Lib.hid h2
        clear h2
        go_wp2
        go_ret
        exact ⟨false, rfl, ⟨fun h => Bool.noConfusion h, fun h => absurd (congrArg En.re h) HH.out⟩, B0.out⟩
    · have p1 : (a.cl == b.cl) = false := by simp [h1]
      have HH := Lib.hid h1
      clear h1
      go_wp2
      go_ret
      exact ⟨false, rfl, ⟨fun h => Bool.noConfusion h, fun h => absurd (congrArg En.cl h) HH.out⟩, B0.out⟩
  · have p0 : (a.vi == b.vi) = false := by simp [h0]
    have HH := Lib.hid h0
    clear h0
    go_wp2
    go_ret
    exact ⟨false, rfl, ⟨fun h => Bool.noConfusion h, fun h => absurd (congrArg En.vi h) HH.out⟩, B0.out⟩
set_option maxRecDepth 100000 in
set_option maxHeartbeats 8000000 in
theorem equalF_any (la lb : List En) (va vb : Value) (w : World) (hm : la.length ≤ 1000000) (hsa : ∀ e ∈ la, e.d.put.length ≤ 1000000 ∧ e.d.drop.length ≤ 1000000) (hS : EntsV w.heap.size w va la) (hO : EntsV w.heap.size w vb lb) :
    Calls Tryz.prog 86 #[va, vb, .func (.func 87) #[] #[]] w fun e w' => ∃ c, e = .returned (.bool c) ∧ (c = true ↔ la = lb) ∧ Below w.heap.size w w' := by
  obtain ⟨A, cap, rfl⟩ := hS.form
  obtain ⟨B, cap', rfl⟩ := hO.form
  by_cases hl : la.length = lb.length
  · have HL := Lib.hid hl
    obtain ⟨n, hn⟩ : ∃ n, n = la.length := ⟨_, rfl⟩
    rw [← hl]
    rw [← hl] at hO
    rw [← hn] at hS hO hm ⊢
    have HN := Lib.hid hn
    have HSA := Lib.hid hS
    have HSB := Lib.hid hO
    have HA := Lib.hid hsa
    clear hl hn hS hO hsa
    go_enter Tryz.func86, Tryz.ntmps86
    go_wp2
    go_loopw [17] (fun i wr => ∃ k : Nat, k ≤ n ∧ i = .int .i64 k ∧ Hid (la.take k = lb.take k) ∧ Hid (Below w.heap.size w wr)) (fun i _ => n - (intOf i).toNat)
    case atStart => exact ⟨0, Nat.zero_le _, rfl, Lib.hid rfl, Lib.hid (Below.refl _ _)⟩
    case round =>
      obtain ⟨k, hk, rfl, HH, HB⟩ := hrel
      have hsz : w.heap.size ≤ wr.heap.size := HB.out.size
      by_cases hlt : k < n
      · have hla : k < la.length := by rw [← HN.out]; exact hlt
        have hlb : k < lb.length := by rw [← HL.out, ← HN.out]; exact hlt
        have hlti : (k : Int) < (n : Int) := by omega
        obtain ⟨b1, off, p1, d1, hA1, hb1, ⟨c0, c1, c2, c3, c4, c5, c6, c7, c8⟩, hp1, hd1⟩ := (HSA.out.below HB.out).at_ hla
        obtain ⟨b2, off', p2, d2, hA2, hb2, hE2, hp2, hd2⟩ := (HSB.out.below HB.out).at_ hlb
        subst hA1 hA2
        have HG := Lib.hid (List.getElem?_eq_getElem hla)
        have HG' := Lib.hid (List.getElem?_eq_getElem hlb)
        have hra := HA.out la[k] (List.getElem_mem _)
        generalize la[k] = r at HG c0 c1 c2 c3 c4 c5 c6 c7 c8 hp1 hd1 hra
        generalize lb[k] = q at HG' hE2 hp2 hd2
        obtain ⟨Ap, cp, rfl⟩ := hp1.form
        obtain ⟨Ad, cd, rfl⟩ := hd1.form
        obtain ⟨Bp, ep, rfl⟩ := hp2.form
        obtain ⟨Bd, ed, rfl⟩ := hd2.form
        have hEo : ∀ o, EnAt (wr.alloc o) b2 (off' + k * 9) q (.slice Bp q.d.put.length ep) (.slice Bd (zI q.d.drop).length ed) := fun o => hE2.below (n₀ := wr.heap.size) (by omega) ((Below.refl _ _).alloc (Nat.le_refl _) o)
        have e0 := fun o => (hEo o).1
        have e1 := fun o => (hEo o).2.1
        have e2 := fun o => (hEo o).2.2.1
        have e3 := fun o => (hEo o).2.2.2.1
        have e4 := fun o => (hEo o).2.2.2.2.1
        have e5 := fun o => (hEo o).2.2.2.2.2.1
        have e6 := fun o => (hEo o).2.2.2.2.2.2.1
        have e7 := fun o => (hEo o).2.2.2.2.2.2.2.1
        have e8 := fun o => (hEo o).2.2.2.2.2.2.2.2
        clear hE2 hEo
        have hf : ∀ o o', Below wr.heap.size wr ((wr.alloc o).alloc o') := fun o o' => ((Below.refl _ wr).alloc (Nat.le_refl _) o).alloc (by simp) o'
        have SD : Hid (∀ W, Below wr.heap.size wr W → Calls Tryz.prog 87 #[r.val (.slice Ap r.d.put.length cp) (.slice Ad (zI r.d.drop).length cd), q.val (.slice Bp q.d.put.length ep) (.slice Bd (zI q.d.drop).length ed)] W fun e w' => ∃ c, e = .returned (.bool c) ∧ (c = true ↔ r = q) ∧ Below W.heap.size W w') := Lib.hid fun W hW =>
          psameEntry_any r q _ _ _ _ W hra.1 hra.2 ((hp1.more hsz).on_ hW) ((hp2.more hsz).on_ hW) ((hd1.more hsz).on_ hW) ((hd2.more hsz).on_ hW)
        have HFo := Lib.hid hf
        clear hla hlb hra hp1 hp2 hd1 hd2 hf
        go_wp2_with fail
        refine (SD.out _ (HFo.out _ _)).mono ?_
        rintro e w1 ⟨c, rfl, hc, hB1⟩
        have hB2 := (HFo.out _ _).trans (hB1.mono (by simp; omega))
        have HB1 := Lib.hid (HB.out.trans (hB2.mono hsz))
        have HC := Lib.hid hc
        clear hB1 hc hB2
        cases c
        · go_wp2
          go_ret
          refine ⟨false, rfl, ⟨fun h => Bool.noConfusion h, fun h => ?_⟩, HB1.out⟩
          subst h
          have := Option.some.inj (HG.out.symm.trans HG'.out)
          have := HC.out.2 this
          simp at this
        · go_wp2
          go_roundw
          case rel => exact ⟨k + 1, by omega, by go_num, Lib.hid (by rw [take_snocE HG.out, take_snocE HG'.out, HH.out, HC.out.1 (by simp)]), HB1⟩
          case measure => simp [intOf]; omega
      · obtain rfl : k = n := by omega
        have HE : Hid (la = lb) := Lib.hid (by
          have h := HH.out
          rwa [List.take_of_length_le (by rw [← HN.out]; omega), List.take_of_length_le (by rw [← HL.out, ← HN.out]; omega)] at h)
        go_wp2
        go_ret
        exact ⟨true, rfl, by simp [HE.out], HB.out⟩
  · have pl : ((la.length : Int) != (lb.length : Int)) = true := by simp; omega
    have HH := Lib.hid hl
    clear hl
    go_enter Tryz.func86, Tryz.ntmps86
    go_wp2
    go_ret
    exact ⟨false, rfl, ⟨fun h => Bool.noConfusion h, fun h => absurd (congrArg List.length h) HH.out⟩, Below.refl _ _⟩
theorem psame_any (la lb : List En) (va vb : Value) (w : World) (hm : la.length ≤ 1000000) (hsa : ∀ e ∈ la, e.d.put.length ≤ 1000000 ∧ e.d.drop.length ≤ 1000000) (hS : EntsV w.heap.size w va la) (hO : EntsV w.heap.size w vb lb) :
    Calls Tryz.prog 76 #[va, vb] w fun e w' => ∃ c, e = .returned (.bool c) ∧ (c = true ↔ la = lb) ∧ Below w.heap.size w w' := by
  have H := Lib.hid (equalF_any la lb va vb w hm hsa hS hO)
  obtain ⟨A, cap, rfl⟩ := hS.form
  obtain ⟨B, cap', rfl⟩ := hO.form
  clear hS hO hsa hm
  go_enter Tryz.func76, Tryz.ntmps76
  go_wp2_with fail
  refine H.out.mono ?_
  rintro e w1 ⟨c, rfl, hc, hB⟩
  have HC := Lib.hid hc
  have HB := Lib.hid hB
  clear hc hB
  go_wp2
  go_ret
  exact ⟨c, rfl, HC.out, HB.out⟩
end Go.Proofs.YtefgobmpleoafaaGreat
