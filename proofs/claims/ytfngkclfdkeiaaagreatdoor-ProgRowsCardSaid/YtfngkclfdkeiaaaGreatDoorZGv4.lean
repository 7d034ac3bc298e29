/- ProgRows: two patterns that may be, one behind the other (true, true). -/
import Derived.Test.YtfngkclfdkeiaaaGreatDoorZGv0
namespace Go.Proofs.YtfngkclfdkeiaaaGreatDoor
open Go.RowKit
open Go.Proofs.YtfngkclfdkeiaaaGreatDoor.Cl (Rg SetV SetAt)
variable {w w' w0 : World} {n₀ : Nat}

set_option maxRecDepth 100000 in
set_option maxHeartbeats 6000000 in
theorem prows_true_true (x y : ByteArray) (hT : TabL w.heap.size w) (hgood : Good x y) (hpx : NoI x true) (hpy : NoI y true) : Calls Tryz.prog 5 #[.string x, .string y] w fun e w' => e = .returned (.bool true) ∧ Below w.heap.size w w' := by
  have HT := Lib.hid hT
  have HA := Lib.hid (anchor5_any hT)
  obtain ⟨hlx, hly, z1, z2, z3', z4, z5, z6', hfx, hfy⟩ := hgood
  clear hT
  have hx' : ¬ (100 : Int) < (x.size : Int) := by omega
  have hy' : ¬ (100 : Int) < (y.size : Int) := by omega
  have HL : Hid (x.size ≤ 100 ∧ y.size ≤ 100) := Lib.hid ⟨hlx, hly⟩
  have HM := Lib.hid (fun (W : World) (k : TabL W.heap.size W) => made_any x (by omega) k)
  have HM2 := Lib.hid (fun (W : World) (k : TabL W.heap.size W) => made_any y (by omega) k)
  have HM3 := Lib.hid (fun (W : World) (k : TabL W.heap.size W) => made_any ((⟨#[40, 63, 58]⟩ : ByteArray) ++ x ++ (⟨#[41, 40, 63, 58]⟩ : ByteArray) ++ y ++ (⟨#[41]⟩ : ByteArray)) (by rw [ByteArray.size_append, ByteArray.size_append, ByteArray.size_append, ByteArray.size_append]; show 3 + x.size + 4 + y.size + 1 ≤ 1000000; omega) k)
  have HR : Hid (∀ x, fcT x = 0 → Wf (ndT x) ∧ Wn (gT x : Nat) (ndT x) ∧ gT x ≤ 9) := Lib.hid (fun x => pat_ok)
  have HV : Hid (∀ x, vdT x = if fcT x = 0 then verdictN (ndT x) else 0) := Lib.hid (fun _ => rfl)
  have HPr : Hid (∀ x, prT x = if fcT x = 0 ∧ verdictN (ndT x) = 0 then whole (foT x) (ndT x) else []) := Lib.hid (fun _ => rfl)
  obtain ⟨z, hz⟩ : ∃ z, z = (⟨#[40, 63, 58]⟩ : ByteArray) ++ x ++ (⟨#[41, 40, 63, 58]⟩ : ByteArray) ++ y ++ (⟨#[41]⟩ : ByteArray) := ⟨_, rfl⟩
  have HZ := Lib.hid hz
  rw [← hz] at HM3
  go_enter Tryz.func5, Tryz.ntmps5
  clear hz
  go_wp2_with fail
  refine HA.out.mono ?_
  rintro e w1 ⟨rfl, hb1⟩
  have HT1 := Lib.hid (HT.out.on hb1)
  go_wp2_with fail
  refine (HM.out _ HT1.out).mono ?_
  rintro e w2 ⟨hb2, A, c, rfl, hP⟩
  have HP := Lib.hid hP
  clear hP
  have hbw2 := hb1.trans (hb2.mono hb1.size)
  have HT2 := Lib.hid (HT.out.on hbw2)
  go_wp2_with fail
  refine (HM2.out _ HT2.out).mono ?_
  rintro e w3 ⟨hb3, B, d, rfl, hQ⟩
  have HQ := Lib.hid hQ
  clear hQ
  have hbw3 := hbw2.trans (hb3.mono hbw2.size)
  have HT3 := Lib.hid (HT.out.on hbw3)
  go_wp2_with fail
  rw [← HZ.out]
  refine (HM3.out _ HT3.out).mono ?_
  rintro e w4 ⟨hb4, C, f, rfl, hR⟩
  have HQ3 := Lib.hid hR
  clear hR HM HM2 HM3
  have hbw4 := hbw3.trans (hb4.mono hbw3.size)
  have z3 : fcT z = 0 := by rw [HZ.out]; exact z3'
  have z6 : vdT z = 0 := by rw [HZ.out]; exact z6'
  rw [z3, z6]
  have HNx := Lib.hid hpx
  have HNy := Lib.hid hpy
  clear hpx hpy z3' z6' hlx hly
  obtain ⟨hfz, x', y', hnz, hkx, hky⟩ := rows_text HZ.out HL.out.1 HL.out.2 z1 z2 z3 hfx hfy
  have v1 : verdictN (ndT x) = 0 := by have := HV.out x; rw [if_pos z1] at this; omega
  have v2 : verdictN (ndT y) = 0 := by have := HV.out y; rw [if_pos z2] at this; omega
  have v3 : verdictN (ndT z) = 0 := by have := HV.out z; rw [if_pos z3] at this; omega
  have e1 : prT x = whole false (ndT x) := by rw [HPr.out, if_pos ⟨z1, v1⟩, hfx]
  have e2 : prT y = whole false (ndT y) := by rw [HPr.out, if_pos ⟨z2, v2⟩, hfy]
  have e3 : prT z = whole false (catN [x', y']) := by rw [HPr.out, if_pos ⟨z3, v3⟩, hfz, hnz]
  have HF := Lib.hid (rows_prog hkx hky)
  obtain ⟨_, _, lx3⟩ := whole_len (fo := false) (HR.out x z1).1 v1
  obtain ⟨_, _, ly3⟩ := whole_len (fo := false) (HR.out y z2).1 v2
  have lx0 := whole_length false (ndT x)
  have ly0 := whole_length false (ndT y)
  rw [e1, e2, e3]
  rw [e1] at HP
  rw [e2] at HQ
  rw [e3] at HQ3
  have HBd := Lib.hid (whole_bd (fo := false) (HR.out y z2).1 (HR.out y z2).2.1 v2)
  generalize whole false (ndT x) = X at *
  generalize whole false (ndT y) = Y at *
  generalize whole false (catN [x', y']) = Z at *
  have hX0 : 0 < X.length := by omega
  have hY0 : 0 < Y.length := by omega
  have hZ0 : 0 < Z.length := by have := HF.out.1; omega
  have hAg : ∃ g, A = some ⟨g, 0, none⟩ ∧ X.length ≤ c := by
    obtain ⟨g, _, _, _, hv, hc, _⟩ := HP.out.six (List.getElem?_eq_getElem hX0)
    exact ⟨g, (Value.slice.inj hv).1, by have := (Value.slice.inj hv).2.2; omega⟩
  have hBg : ∃ g, B = some ⟨g, 0, none⟩ ∧ Y.length ≤ d := by
    obtain ⟨g, _, _, _, hv, hc, _⟩ := HQ.out.six (List.getElem?_eq_getElem hY0)
    exact ⟨g, (Value.slice.inj hv).1, by have := (Value.slice.inj hv).2.2; omega⟩
  have hCg : ∃ g, C = some ⟨g, 0, none⟩ ∧ Z.length ≤ f := by
    obtain ⟨g, _, _, _, hv, hc, _⟩ := HQ3.out.six (List.getElem?_eq_getElem hZ0)
    exact ⟨g, (Value.slice.inj hv).1, by have := (Value.slice.inj hv).2.2; omega⟩
  obtain ⟨g1, rfl, hmc⟩ := hAg
  obtain ⟨g2, rfl, hmd⟩ := hBg
  obtain ⟨g3, rfl, hmf⟩ := hCg
  have HP4 := Lib.hid ((HP.out.on hb3).on hb4)
  have HQ4 := Lib.hid (HQ.out.on hb4)
  obtain ⟨n, hn⟩ : ∃ n, X.length = n + 3 := ⟨X.length - 3, by omega⟩
  obtain ⟨m, hm⟩ : ∃ m, Y.length = m + 3 := ⟨Y.length - 3, by omega⟩
  have hl : Z.length = n + (m + 3) := by have := HF.out.1; omega
  have hmz : marks Z = marks X + marks Y := HF.out.2.1
  have hLx := Lib.hid (fun (W : World) (hW : Below w4.heap.size w4 W) => loops_any (HP4.out.on hW))
  have hLy := Lib.hid (fun (W : World) (hW : Below w4.heap.size w4 W) => loops_any (HQ4.out.on hW))
  have hLz := Lib.hid (fun (W : World) (hW : Below w4.heap.size w4 W) => loops_any (HQ3.out.on hW))
  have hmx := marks_le X
  have hmy := marks_le Y
  rw [hn] at hLx ⊢
  rw [hm] at hLy ⊢
  rw [hl, hmz] at hLz
  rw [hl]
  generalize hMx : marks X = mx at *
  generalize hMy : marks Y = my at *
  have HMx := Lib.hid hMx
  have hn2 : n ≤ 2000 := by omega
  have hm2 : m ≤ 2000 := by omega
  have hmx2 : mx ≤ 2003 := by omega
  have hmy2 : my ≤ 2003 := by omega
  have hmd' : m + 3 ≤ d := by omega
  have HXn := Lib.hid hn
  have HYm := Lib.hid hm
  have HZl := Lib.hid hl
  clear hMx hMy hn hm hl hmz hmx hmy lx0 ly0 lx3 ly3 hX0 hY0 hZ0 e1 e2 e3 v1 v2 v3 z1 z2 z3 z4 z5 z6 hkx hky hnz hfz hmc hmd hmf HP HQ HR HV HPr HZ HL HT HT1 HT2 HT3 HA
  clear hfx hfy
  have hpx := HNx.out
  have hpy := HNy.out
  unfold NoI at hpx hpy
  clear HNx HNy
  simp only [if_true] at hpx
  obtain ⟨p, q⟩ := hpx
  simp only [if_true] at hpy
  obtain ⟨r, s⟩ := hpy
  go_wp2_with fail
  any_goals (go_ret; exact ⟨rfl, hbw4⟩)
  refine (hLz.out w4 (Below.refl _ _)).mono ?_
  rintro e w5 ⟨rfl, hb5⟩
  go_wp2_with fail
  refine (hLx.out w5 hb5).mono ?_
  rintro e w6 ⟨rfl, hb6⟩
  have hb46 := hb5.trans (hb6.mono hb5.size)
  go_wp2_with fail
  refine (hLy.out w6 hb46).mono ?_
  rintro e w7 ⟨rfl, hb7⟩
  have hb47 := hb46.trans (hb7.mono hb46.size)
  go_wp2
  clear hb5 hb6 hb46 hb7
  have e117 : m + 3 - 2 - 1 = m := by omega
  rw [e117]
  clear e117
  go_loopw [119] (fun i wr => ∃ k : Nat, k ≤ m ∧ i = .int .i64 k ∧ Below w4.heap.size w4 wr) (fun i _ => m - (intOf i).toNat)
  case atStart => exact ⟨0, Nat.zero_le _, rfl, hb47⟩
  case round =>
    clear hb47
    obtain ⟨k, hk, rfl, hbel⟩ := hrel
    by_cases hlt : k < m
    · have hlti : (k : Int) < (m : Int) := by omega
      have HLt := Lib.hid hlt
      obtain ⟨y1, y2, hp, hq, hM⟩ := HF.out.2.2 k (by rw [HYm.out]; omega)
      have HMv := Lib.hid hM
      have HBy := Lib.hid (HBd.out _ _ hp)
      have HQq := Lib.hid hq
      obtain ⟨g', c'', As, cs, hv, _, _, _, _, d0, d1, d2, d3, d4, d5⟩ := (HQ4.out.on hbel).six hp
      have e := (Value.slice.inj hv).1
      obtain ⟨rfl⟩ : g2 = g' := by simpa using e
      clear hv e hp hq hM
      rw [show (1 + k) * 6 = 6 + k * 6 by omega] at d0 d1 d2 d3 d4 d5
      have hbel1 := hbel.alloc hbel.size (.cells #[.int .i64 y1.op, .int .i64 y1.a, .int .i64 y1.b, .int .i64 y1.c, .int .i64 y1.d, .slice As y1.set.length cs] 56)
      have HB1 := Lib.hid (Blk.new wr 56 #[.int .i64 y1.op, .int .i64 y1.a, .int .i64 y1.b, .int .i64 y1.c, .int .i64 y1.d, .slice As y1.set.length cs])
      go_upto_region 16 with (fail)
      clear d0 d1 d2 d3 d4 d5
      generalize wr.alloc _ = W1 at *
      have hq := HQq.out
      rw [HXn.out, Nat.add_sub_cancel] at hq
      obtain ⟨g', c'', Bs, ds, hv, _, _, _, _, d0, d1, d2, d3, d4, d5⟩ := (HQ3.out.on hbel1).six hq
      have e := (Value.slice.inj hv).1
      obtain ⟨rfl⟩ : g3 = g' := by simpa using e
      clear hv e hq HQq
      have hn' : ((X.length : Nat) : Int) - 3 = (n : Int) := by rw [HXn.out]; omega
      obtain ⟨m1, m2, m3, m4, m5, m6, m7, m8⟩ := HMv.out
      rw [hn'] at m5 m6 m7
      rw [m1] at d0
      rw [m2] at d3
      rw [m3] at d4
      rw [m4] at d5
      clear m1 m2 m3 m4 hn' HMv
      generalize y2.a = a2 at *
      generalize y2.b = b2 at *
      have Hm5 := Lib.hid m5
      have Hm6 := Lib.hid m6
      have Hm7 := Lib.hid m7
      have Hm8 := Lib.hid m8
      clear m5 m6 m7 m8
      obtain ⟨yo, ya, yb, yc, yd, ys⟩ := y1
      simp only at d0 d3 d4 d5 Hm5 Hm6 Hm7 Hm8 HBy HB1
      have hbel2 := hbel1.alloc hbel1.size (.cells #[.int .i64 yo, .int .i64 a2, .int .i64 b2, .int .i64 yc, .int .i64 yd, .slice Bs ys.length ds] 56)
      have HB2 := Lib.hid (Blk.new W1 56 #[.int .i64 yo, .int .i64 a2, .int .i64 b2, .int .i64 yc, .int .i64 yd, .slice Bs ys.length ds])
      have HB1' := Lib.hid (HB1.out.alloc (.cells #[.int .i64 yo, .int .i64 a2, .int .i64 b2, .int .i64 yc, .int .i64 yd, .slice Bs ys.length ds] 56))
      clear HB1
      go_upto_region 17 with (fail)
      clear d0 d1 d2 d3 d4 d5
      generalize W1.alloc _ = W2 at *
      have b1 := HB1'.out.c6_
      have b2' := HB2.out.c6_
      by_cases o2 : yo = 2
      · subst o2
        obtain rfl : a2 = ya + n := Hm5.out (by decide)
        obtain ⟨q1, q2⟩ := HBy.out.1 (by decide)
        go_wp2
        go_roundw
        case rel => exact ⟨k + 1, HLt.out, by go_num, hbel2⟩
        case measure => have := HLt.out; first | (simp [intOf]; done) | (simp [intOf]; omega)
      by_cases o3 : yo = 3
      · subst o3
        obtain rfl : a2 = ya + n := Hm5.out (by decide)
        obtain rfl : b2 = yb + n := Hm6.out (by decide)
        obtain ⟨q1, q2⟩ := HBy.out.1 (by decide)
        obtain ⟨q3, q4⟩ := HBy.out.2 (by decide)
        go_wp2
        go_roundw
        case rel => exact ⟨k + 1, HLt.out, by go_num, hbel2⟩
        case measure => have := HLt.out; first | (simp [intOf]; done) | (simp [intOf]; omega)
      by_cases o7 : yo = 7
      · subst o7
        obtain rfl : b2 = yb + n := Hm7.out (by decide)
        obtain ⟨q3, q4⟩ := HBy.out.2 (by decide)
        go_wp2
        go_roundw
        case rel => exact ⟨k + 1, HLt.out, by go_num, hbel2⟩
        case measure => have := HLt.out; first | (simp [intOf]; done) | (simp [intOf]; omega)
      by_cases o8 : yo = 8
      · subst o8
        obtain rfl : b2 = yb + n := Hm7.out (by decide)
        obtain ⟨q3, q4⟩ := HBy.out.2 (by decide)
        go_wp2
        go_roundw
        case rel => exact ⟨k + 1, HLt.out, by go_num, hbel2⟩
        case measure => have := HLt.out; first | (simp [intOf]; done) | (simp [intOf]; omega)
      by_cases o10 : yo = 10
      · subst o10
        obtain rfl : a2 = ya + mx := Hm8.out (by decide)
        obtain ⟨q1, q2⟩ := HBy.out.1 (by decide)
        have hwr : IntKind.i64.wrap (ya + (mx : Int)) = ya + (mx : Int) := IntWalk.i64_in _ (by omega)
        have HLd := Lib.hid (hLx.out W2.drew hbel2.drew)
        have HD1 := Lib.hid (show Blk W2.drew _ _ _ from HB1'.out)
        have HD2 := Lib.hid (show Blk W2.drew _ _ _ from HB2.out)
        have HDb := Lib.hid hbel2.drew
        go_wp2_with fail
        go_region_with (go_at_call 25; refine HLd.out.mono ?_; rintro e w8 ⟨rfl, hb8⟩; have c1 := (HD1.out.on hb8).c6_; have c2 := (HD2.out.on hb8).c6_; have hb9 := HDb.out.trans (hb8.mono HDb.out.size); clear hb8)
        all_goals
          clear b1 b2'
          try rw [hwr]
          go_wp2
          go_roundw
          case rel => exact ⟨k + 1, HLt.out, by go_num, hb9⟩
          case measure => have := HLt.out; first | (simp [intOf]; done) | (simp [intOf]; omega)
      by_cases o11 : yo = 11
      · subst o11
        obtain rfl : a2 = ya + mx := Hm8.out (by decide)
        obtain ⟨q1, q2⟩ := HBy.out.1 (by decide)
        have hwr : IntKind.i64.wrap (ya + (mx : Int)) = ya + (mx : Int) := IntWalk.i64_in _ (by omega)
        have HLd := Lib.hid (hLx.out W2.drew hbel2.drew)
        have HD1 := Lib.hid (show Blk W2.drew _ _ _ from HB1'.out)
        have HD2 := Lib.hid (show Blk W2.drew _ _ _ from HB2.out)
        have HDb := Lib.hid hbel2.drew
        go_wp2_with fail
        go_region_with (go_at_call 25; refine HLd.out.mono ?_; rintro e w8 ⟨rfl, hb8⟩; have c1 := (HD1.out.on hb8).c6_; have c2 := (HD2.out.on hb8).c6_; have hb9 := HDb.out.trans (hb8.mono HDb.out.size); clear hb8)
        all_goals
          clear b1 b2'
          try rw [hwr]
          go_wp2
          go_roundw
          case rel => exact ⟨k + 1, HLt.out, by go_num, hb9⟩
          case measure => have := HLt.out; first | (simp [intOf]; done) | (simp [intOf]; omega)
      have p2 : (yo == 2) = false := by simp [o2]
      have p3 : (yo == 3) = false := by simp [o3]
      have p7 : (yo == 7) = false := by simp [o7]
      have p8 : (yo == 8) = false := by simp [o8]
      have p10 : (yo == 10) = false := by simp [o10]
      have p11 : (yo == 11) = false := by simp [o11]
      clear o2 o3 o7 o8 o10 o11
      go_wp2
      go_roundw
      case rel => exact ⟨k + 1, HLt.out, by go_num, hbel2⟩
      case measure => have := HLt.out; first | (simp [intOf]; done) | (simp [intOf]; omega)
    · have hge : ¬ (k : Int) < (m : Int) := by omega
      have hbw := hbw4.trans (hbel.mono hbw4.size)
      go_wp2
      go_ret
      exact ⟨rfl, hbw⟩

end Go.Proofs.YtfngkclfdkeiaaaGreatDoor
