/- ProgFolds: a pattern and the same one behind (?i). -/
import Derived.Test.YtkoflhohokdllaaGreatDoorGq
import Derived.Test.YtkoflhohokdllaaGreatDoorPgT
import Derived.Test.YtkoflhohokdllaaGreatDoorClFoldO
import Derived.Test.YtkoflhohokdllaaGreatDoorClSame
namespace Go.Proofs.YtkoflhohokdllaaGreatDoor
open Go.RowKit
open Go.Proofs.YtkoflhohokdllaaGreatDoor.Cl (Rg SetV SetAt Norm norm_nil fold_right same_any sameB sameB_refl GivesO)
variable {w w' w0 : World} {n₀ : Nat}

theorem folds_eq (x : ByteArray) : (⟨#[40, 63, 105, 41]⟩ : ByteArray) ++ x = ⟨(40 :: 63 :: 105 :: 41 :: x.data.toList).toArray⟩ := by
  apply ByteArray.ext
  simp [ByteArray.data_append]
/-- What the two texts are. -/
theorem fold_text {x : ByteArray} (hl : x.size ≤ 250) (h : fcT x = 0) : (foT x = true → fcT ((⟨#[40, 63, 105, 41]⟩ : ByteArray) ++ x) ≠ 0) ∧ (foT x = false → fcT ((⟨#[40, 63, 105, 41]⟩ : ByteArray) ++ x) = 0 ∧ ndT ((⟨#[40, 63, 105, 41]⟩ : ByteArray) ++ x) = ndT x ∧ foT ((⟨#[40, 63, 105, 41]⟩ : ByteArray) ++ x) = true) := by
  have e := ok_of (by omega) (rfl : parse 1026 x.data.toList = parse 1026 x.data.toList) h
  have ez : ((⟨#[40, 63, 105, 41]⟩ : ByteArray) ++ x).data.toList = 40 :: 63 :: 105 :: 41 :: x.data.toList := by rw [folds_eq]
  have hlen : x.data.toList.length ≤ 252 := by have : x.data.toList.length = x.size := rfl; omega
  refine ⟨fun hf => ?_, fun hf => ?_⟩
  · have hfa : foldAt x.data.toList = true := by
      have e' : parse 1026 x.data.toList = .ok (ndT x, gT x, true) := by rw [← hf]; exact e
      unfold parse at e'
      split at e'
      · cases e'
      · split at e'
        · cases e'
        · exact ((ended_root e').2.2).symm
    obtain ⟨f, hf2⟩ := fold_twice (N := 1022) hfa
    unfold fcT
    rw [ez, hf2]
    exact parse_code (by omega) hf2
  · have e2 : parse 1026 x.data.toList = .ok (ndT x, gT x, false) := by rw [← hf]; exact e
    have e3 := parse_fold e2 hlen
    unfold fcT ndT foT
    rw [ez, e3]
    exact ⟨rfl, rfl, rfl⟩

set_option maxRecDepth 100000 in
set_option maxHeartbeats 1000000 in
theorem folds_law (x : ByteArray) (hT : TabL w.heap.size w) : Calls Tryz.prog 5 #[.string x] w fun e w' => e = .returned (.bool true) ∧ Below w.heap.size w w' := by
  have HT := Lib.hid hT
  have HA := Lib.hid (anchor5_any hT)
  clear hT
  by_cases hlen : 250 < x.size
  · have hlen' : (250 : Int) < (x.size : Int) := by omega
    go_enter Tryz.func5, Tryz.ntmps5
    go_wp2_with fail
    refine HA.out.mono ?_
    rintro e w1 ⟨rfl, hb1⟩
    go_wp2
    go_ret
    exact ⟨rfl, hb1⟩
  have hlen' : ¬ (250 : Int) < (x.size : Int) := by omega
  have hle : x.size ≤ 250 := by omega
  have HM := Lib.hid (fun (W : World) (k : TabL W.heap.size W) => made_any x (by omega) k)
  have HM2 := Lib.hid (fun (W : World) (k : TabL W.heap.size W) => made_any ((⟨#[40, 63, 105, 41]⟩ : ByteArray) ++ x) (by rw [ByteArray.size_append]; show 4 + x.size ≤ 1000000; omega) k)
  have HR : Hid (fcT x = 0 → Wf (ndT x) ∧ Wn (gT x : Nat) (ndT x) ∧ gT x ≤ 9) := Lib.hid pat_ok
  have HV : Hid (vdT x = if fcT x = 0 then verdictN (ndT x) else 0) := Lib.hid rfl
  have HPr : Hid (prT x = if fcT x = 0 ∧ verdictN (ndT x) = 0 then whole (foT x) (ndT x) else []) := Lib.hid rfl
  have HFt : Hid (fcT x = 0 → _) := Lib.hid (fun h => fold_text hle h)
  have HV2 : Hid (vdT ((⟨#[40, 63, 105, 41]⟩ : ByteArray) ++ x) = if fcT ((⟨#[40, 63, 105, 41]⟩ : ByteArray) ++ x) = 0 then verdictN (ndT ((⟨#[40, 63, 105, 41]⟩ : ByteArray) ++ x)) else 0) := Lib.hid rfl
  have HPr2 : Hid (prT ((⟨#[40, 63, 105, 41]⟩ : ByteArray) ++ x) = if fcT ((⟨#[40, 63, 105, 41]⟩ : ByteArray) ++ x) = 0 ∧ verdictN (ndT ((⟨#[40, 63, 105, 41]⟩ : ByteArray) ++ x)) = 0 then whole (foT ((⟨#[40, 63, 105, 41]⟩ : ByteArray) ++ x)) (ndT ((⟨#[40, 63, 105, 41]⟩ : ByteArray) ++ x)) else []) := Lib.hid rfl
  go_enter Tryz.func5, Tryz.ntmps5
  go_wp2_with fail
  refine HA.out.mono ?_
  rintro e w1 ⟨rfl, hb1⟩
  have HT1 := Lib.hid (HT.out.on hb1)
  go_wp2_with fail
  refine (HM.out _ HT1.out).mono ?_
  rintro e w2 ⟨hb2, A, c, rfl, hP⟩
  have HP := Lib.hid hP
  clear hP
  have hbw2 := hb1.trans (hb2.mono hb1.size)
  have HT2 := Lib.hid (HT.out.on hbw2)
  go_wp2_with fail
  refine (HM2.out _ HT2.out).mono ?_
  rintro e w3 ⟨hb3, B, d, rfl, hQ⟩
  have HQ := Lib.hid hQ
  clear hQ HM HM2
  have hbw3 := hbw2.trans (hb3.mono hbw2.size)
  generalize (⟨#[40, 63, 105, 41]⟩ : ByteArray) ++ x = z at *
  by_cases hfc : fcT x = 0
  · obtain ⟨hft, hff⟩ := HFt.out hfc
    rw [if_pos hfc] at HV
    cases hfo : foT x with
    | true =>
      have hz := off_zero (hft hfo)
      clear hft hff HP HQ
      rw [hfc]
      go_wp2
      all_goals
        go_ret
        exact ⟨rfl, hbw3⟩
    | false =>
      obtain ⟨hz0, hzn, hzf⟩ := hff hfo
      clear hft hff
      rw [if_pos hz0, hzn, ← HV.out] at HV2
      rw [hfc, hz0, HV2.out]
      by_cases hvd : verdictN (ndT x) = 0
      · have e1 : prT x = whole false (ndT x) := by rw [HPr.out, if_pos ⟨hfc, hvd⟩, hfo]
        have e2 : prT z = (whole false (ndT x)).map fiT := by rw [HPr2.out, if_pos ⟨hz0, by rw [hzn]; exact hvd⟩, hzf, hzn, whole_fold (HR.out hfc).1]
        have e3 : vdT x = 0 := by rw [HV.out, hvd]
        rw [e1] at HP
        rw [e2, List.length_map] at HQ
        rw [e1, e2, e3, List.length_map]
        obtain ⟨hwf, hwn, _⟩ := HR.out hfc
        have HW : Hid (∀ y ∈ whole false (ndT x), y.set.length ≤ 100000 ∧ (foldS y.set).length ≤ 100000 ∧ Norm y.set ∧ (y.op = 5 → y.b = 0)) := Lib.hid (fun y hy => ⟨whole_lmt false hwn y hy, whole_lmt true hwn (fiT y) (by rw [← whole_fold hwf]; exact List.mem_map_of_mem hy), by
          obtain ⟨k, hk⟩ := List.getElem?_of_mem hy
          rcases whole_at hwf hwn hk with ⟨_, rfl⟩ | ⟨_, h⟩
          · exact norm_nil
          · exact h.set, back_zero hwf y hy⟩)
        obtain ⟨hl1, hl2, hl3⟩ := whole_len (fo := false) hwf hvd
        have hX0 : 0 < (whole false (ndT x)).length := by have := len_nonneg (body false (ndT x)); omega
        have HT3 := Lib.hid (HT.out.on hbw3)
        generalize whole false (ndT x) = X at *
        clear HR HV HPr HFt HV2 HPr2 HT HT1 HT2 HA hwf hwn hvd e1 e2 e3 hfc hfo hz0 hzn hzf hl1 hl2
        obtain ⟨m, hm⟩ : ∃ m, X.length = m := ⟨_, rfl⟩
        have hAg : ∃ g, A = some ⟨g, 0, none⟩ ∧ X.length ≤ c := by
          obtain ⟨g, _, _, _, hv, hc, _⟩ := HP.out.six (List.getElem?_eq_getElem hX0)
          exact ⟨g, (Value.slice.inj hv).1, by have := (Value.slice.inj hv).2.2; omega⟩
        have hBg : ∃ g, B = some ⟨g, 0, none⟩ ∧ X.length ≤ d := by
          have hq := HQ.out
          rw [← List.length_map (f := fiT)] at hq
          obtain ⟨g, _, _, _, hv, hc, _⟩ := hq.six (List.getElem?_eq_getElem (by rw [List.length_map]; exact hX0))
          rw [List.length_map] at hc
          exact ⟨g, (Value.slice.inj hv).1, by have := (Value.slice.inj hv).2.2; omega⟩
        obtain ⟨g, rfl, hmc⟩ := hAg
        obtain ⟨g2, rfl, hmd⟩ := hBg
        have HP3 := Lib.hid (HP.out.on hb3)
        have HXm : Hid (X.length = m) := Lib.hid hm
        have hm2 : m ≤ 2000 := by omega
        have HQ3 : Hid (PgV w2.heap.size w3 (.slice (some ⟨g2, 0, none⟩) (X.map fiT).length d) (X.map fiT)) := Lib.hid (by rw [List.length_map]; exact HQ.out)
        rw [hm] at hmc hmd ⊢
        clear HP HQ hX0 hl3 hm hb1 hb2 hb3 hbw2
        go_wp2
        go_loopw [64] (fun i wr => ∃ k : Nat, k ≤ m ∧ i = .int .i64 k ∧ Below w3.heap.size w3 wr) (fun i _ => m - (intOf i).toNat)
        case atStart => exact ⟨0, Nat.zero_le _, rfl, Below.refl _ _⟩
        case round =>
          obtain ⟨k, hk, rfl, hbel⟩ := hrel
          by_cases hlt : k < m
          · have hlti : (k : Int) < (m : Int) := by omega
            have HLt := Lib.hid hlt
            have hkX : k < X.length := by rw [HXm.out]; exact hlt
            have hget := List.getElem?_eq_getElem (l := X) (i := k) hkX
            have HWy := Lib.hid (HW.out _ (List.mem_of_getElem? hget))
            have HG2 : Hid ((X.map fiT)[k]? = some (fiT (X[k]'hkX))) := Lib.hid (by rw [List.getElem?_map, hget]; rfl)
            obtain ⟨g', c'', As, cs, hv, _, _, _, hO, d0, d1, d2, d3, d4, d5⟩ := (HP3.out.on hbel).six hget
            have e := (Value.slice.inj hv).1
            obtain ⟨rfl⟩ : g = g' := by simpa using e
            clear hv hget e
            generalize X[k]'hkX = y at *
            clear hkX
            have hbel1 := hbel.alloc hbel.size (.cells #[.int .i64 y.op, .int .i64 y.a, .int .i64 y.b, .int .i64 y.c, .int .i64 y.d, .slice As y.set.length cs] 51)
            have HB1 := Lib.hid (Blk.new wr 51 #[.int .i64 y.op, .int .i64 y.a, .int .i64 y.b, .int .i64 y.c, .int .i64 y.d, .slice As y.set.length cs])
            have HO1 := Lib.hid (World.ownsRow.alloc hO (.cells #[.int .i64 y.op, .int .i64 y.a, .int .i64 y.b, .int .i64 y.c, .int .i64 y.d, .slice As y.set.length cs] 51))
            clear hO
            go_upto_region 14 with (fail)
            clear d0 d1 d2 d3 d4 d5
            generalize wr.alloc _ = W1 at *
            obtain ⟨g', c'', Bs, ds, hv, _, _, _, hO, d0, d1, d2, d3, d4, d5⟩ := (HQ3.out.on hbel1).six HG2.out
            have e := (Value.slice.inj hv).1
            obtain ⟨rfl⟩ : g2 = g' := by simpa using e
            clear hv e HG2
            obtain ⟨yo, ya, yb, yc, yd, ys⟩ := y
            obtain ⟨bz, hbz, hb5, hbn⟩ : ∃ bz, (fiT ⟨yo, ya, yb, yc, yd, ys⟩).b = bz ∧ (yo = 5 → bz = 1) ∧ (yo ≠ 5 → bz = yb) := ⟨_, rfl, fun h => by simp [fiT, h], fun h => by simp [fiT, h]⟩
            rw [hbz] at d2
            simp only [fiT] at d0 d1 d3 d4 d5 hO
            clear hbz
            simp only at HB1 HO1 HWy
            have HK := Lib.hid (And.intro hb5 hbn)
            clear hb5 hbn
            have hbel2 := hbel1.alloc hbel1.size (.cells #[.int .i64 yo, .int .i64 ya, .int .i64 bz, .int .i64 yc, .int .i64 yd, .slice Bs (foldS ys).length ds] 51)
            have HB2 := Lib.hid (Blk.new W1 51 #[.int .i64 yo, .int .i64 ya, .int .i64 bz, .int .i64 yc, .int .i64 yd, .slice Bs (foldS ys).length ds])
            have HB1' := Lib.hid (HB1.out.alloc (.cells #[.int .i64 yo, .int .i64 ya, .int .i64 bz, .int .i64 yc, .int .i64 yd, .slice Bs (foldS ys).length ds] 51))
            have HO1' := Lib.hid (World.ownsRow.alloc HO1.out (.cells #[.int .i64 yo, .int .i64 ya, .int .i64 bz, .int .i64 yc, .int .i64 yd, .slice Bs (foldS ys).length ds] 51))
            have HO2 := Lib.hid (World.ownsRow.alloc hO (.cells #[.int .i64 yo, .int .i64 ya, .int .i64 bz, .int .i64 yc, .int .i64 yd, .slice Bs (foldS ys).length ds] 51))
            clear hO HB1 HO1
            go_upto_region 15 with (fail)
            clear d0 d1 d2 d3 d4 d5
            generalize W1.alloc _ = W2 at *
            have HFo := Lib.hid (fold_right (.slice As ys.length cs) ys W2 HWy.out.1 (HT3.out.on hbel2).lu (Cl.Own.set HO1'.out) HWy.out.2.2.1)
            have b1 := HB1'.out.c6_
            go_wp2_with fail
            refine HFo.out.mono ?_
            rintro e w5 ⟨v', rfl, hv', hb5⟩
            obtain ⟨Av, cv, rfl⟩ := own_form (l := foldS ys) hv'
            have HSm := Lib.hid (same_any (.slice Av (foldS ys).length cv) (.slice Bs (foldS ys).length ds) (foldS ys) (foldS ys) w5 (by have := HWy.out.2.1; omega) (by have := HWy.out.2.1; omega) (Cl.Own.set hv') (Cl.Own.set (Cl.Own.below HO2.out hb5)))
            rw [sameB_refl] at HSm
            have HB1w := Lib.hid (HB1'.out.on hb5)
            have HB2w := Lib.hid (HB2.out.on hb5)
            have hbel5 := hbel2.trans (hb5.mono hbel2.size)
            clear hv' b1 HO1' HO2 HB1' HB2
            have b2 := HB2w.out.c6_
            clear hb5
            go_wp2_with fail
            refine HSm.out.mono ?_
            rintro e w6 ⟨rfl, hb6⟩
            have hbel6 := hbel5.trans (hb6.mono hbel5.size)
            clear b2
            have b1 := (HB1w.out.on hb6).c6_
            have b2 := (HB2w.out.on hb6).c6_
            clear hb6
            by_cases o5 : yo = 5
            · subst o5
              obtain rfl := HK.out.1 rfl
              obtain rfl : yb = 0 := HWy.out.2.2.2 rfl
              go_wp2
              go_roundw
              case rel => exact ⟨k + 1, HLt.out, by go_num, hbel6⟩
              case measure => have := HLt.out; first | (simp [intOf]; done) | (simp [intOf]; omega)
            · obtain rfl := HK.out.2 o5
              have p5 : (yo == 5) = false := by simp [o5]
              have p5' : (yo != 5) = true := by simp [o5]
              go_wp2
              go_roundw
              case rel => exact ⟨k + 1, HLt.out, by go_num, hbel6⟩
              case measure => have := HLt.out; first | (simp [intOf]; done) | (simp [intOf]; omega)
          · have hge : ¬ (k : Int) < (m : Int) := by omega
            have hbw := hbw3.trans (hbel.mono hbw3.size)
            go_wp2
            go_ret
            exact ⟨rfl, hbw⟩
      · have hv' : ¬ ((verdictN (ndT x) : Nat) : Int) = 0 := by omega
        have e3 : vdT x = verdictN (ndT x) := HV.out
        rw [e3]
        clear HP HQ
        go_wp2
        all_goals
          go_ret
          exact ⟨rfl, hbw3⟩
  · have hv' := off_zero hfc
    clear hfc HP HQ
    go_wp2
    all_goals
      go_ret
      exact ⟨rfl, hbw3⟩

theorem progFolds_law (x : ByteArray) (W : World) (hT : TabL W.heap.size W) : Calls Tryz.prog 5 #[.string x] W fun e w' => e = .returned (.bool true) ∧ Below W.heap.size W w' := folds_law x hT

end Go.Proofs.YtkoflhohokdllaaGreatDoor
