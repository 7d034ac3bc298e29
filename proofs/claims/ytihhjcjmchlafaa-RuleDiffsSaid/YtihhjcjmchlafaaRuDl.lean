/- RuleDiffs. -/
import Derived.Test.YtihhjcjmchlafaaRuDk
import Derived.Test.YtihhjcjmchlafaaRuAb
import Derived.Test.YtihhjcjmchlafaaRuL
import Derived.Test.YtihhjcjmchlafaaRuM2
import Derived.Test.YtihhjcjmchlafaaRuN
import Derived.Test.YtihhjcjmchlafaaRuJ
namespace Go.Proofs.Ytihhjcjmchlafaa
open Go.RowKit Go.Maps
variable {w w' : World}

set_option maxRecDepth 100000 in
set_option maxHeartbeats 16000000 in
theorem diffs_law (a b : RS) (va vb : Value) (w : World) (hA : RulesV w.heap.size w va a.rs) (hB : RulesV w.heap.size w vb b.rs) :
    Calls Try.prog 4 #[.agg #[.int .i64 a.de, .int .i64 a.cl, .int .i64 a.fu, .int .i64 a.st, va], .agg #[.int .i64 b.de, .int .i64 b.cl, .int .i64 b.fu, .int .i64 b.st, vb]] w fun e w' => e = .returned (.bool true) ∧ Below w.heap.size w w' := by
  obtain ⟨A, cap, rfl⟩ := hA.form
  obtain ⟨B, capb, rfl⟩ := hB.form
  obtain ⟨w0, hw0⟩ : ∃ w0, w0 = ((w.alloc (.cells #[.int .i64 a.de, .int .i64 a.cl, .int .i64 a.fu, .int .i64 a.st, .slice A a.rs.length cap] 24)).alloc (.cells #[.int .i64 b.de, .int .i64 b.cl, .int .i64 b.fu, .int .i64 b.st, .slice B b.rs.length capb] 24)) := ⟨_, rfl⟩
  have hb0 : Below w.heap.size w w0 := by rw [hw0]; exact ((Below.refl _ _).alloc (Nat.le_refl _) _).alloc (by simp) _
  have hx : Blk w0 w.heap.size 24 #[.int .i64 a.de, .int .i64 a.cl, .int .i64 a.fu, .int .i64 a.st, .slice A a.rs.length cap] := by rw [hw0]; exact (Blk.new _ _ _).alloc _
  have hy : Blk w0 (w.heap.size + 1) 24 #[.int .i64 b.de, .int .i64 b.cl, .int .i64 b.fu, .int .i64 b.st, .slice B b.rs.length capb] := by rw [hw0]; exact Blk.at_new _ _ (by simp) _ _
  have HA := Lib.hid hA
  have HB := Lib.hid hB
  clear hA hB
  go_enter Try.func4, Try.ntmps4
  go_wp2_with fail
  rw [← hw0]
  clear hw0
  refine (anchor7_any w0).mono ?_
  rintro e w1 ⟨rfl, hb1⟩
  have HB1 := Lib.hid (hb0.trans (hb1.mono hb0.size))
  have AX1 := Lib.hid (hx.on hb1)
  have BX1 := Lib.hid (hy.on hb1)
  clear hb0 hx hy hb1
  obtain ⟨a0, a1, a2, a3, a4⟩ := AX1.out.c5
  go_wp2_with fail
  refine (rusmall_any _ _ _ _ _ _ _ _ A none none a.rs.length 0 0 cap 0 0 w1).mono ?_
  clear a0 a1 a2 a3 a4
  rintro e w2 ⟨rfl, hb2⟩
  have HB2 := Lib.hid (HB1.out.trans (hb2.mono HB1.out.size))
  have AX2 := Lib.hid (AX1.out.on hb2)
  have BX2 := Lib.hid (BX1.out.on hb2)
  clear hb2 HB1 AX1 BX1
  by_cases hla : a.rs.length ≤ 40
  · rw [decide_eq_true (show a.rs.length ≤ 40 ∧ 0 ≤ 40 ∧ 0 ≤ 40 from ⟨hla, by omega, by omega⟩)]
    have HLa := Lib.hid hla
    clear hla
    obtain ⟨b0, b1, b2, b3, b4⟩ := BX2.out.c5
    go_wp2_with fail
    refine (rusmall_any _ _ _ _ _ _ _ _ B none none b.rs.length 0 0 capb 0 0 w2).mono ?_
    clear b0 b1 b2 b3 b4
    rintro e w3 ⟨rfl, hb3⟩
    have HB3 := Lib.hid (HB2.out.trans (hb3.mono HB2.out.size))
    have AX3 := Lib.hid (AX2.out.on hb3)
    have BX3 := Lib.hid (BX2.out.on hb3)
    clear hb3 HB2 AX2 BX2
    by_cases hlb : b.rs.length ≤ 40
    · rw [decide_eq_true (show b.rs.length ≤ 40 ∧ 0 ≤ 40 ∧ 0 ≤ 40 from ⟨hlb, by omega, by omega⟩)]
      have HLb := Lib.hid hlb
      clear hlb
      obtain ⟨a0, a1, a2, a3, a4⟩ := AX3.out.c5
      obtain ⟨b0, b1, b2, b3, b4⟩ := BX3.out.c5
      go_wp2_with fail
      obtain ⟨D, hD⟩ : ∃ D, D = diffR a b := ⟨_, rfl⟩
      have hdf := diff_any a b (.slice A a.rs.length cap) (.slice B b.rs.length capb) w3 (by have := HLa.out; omega) (by have := HLb.out; omega) (HA.out.on HB3.out) (HB.out.on HB3.out)
      rw [← hD] at hdf
      have HD := Lib.hid hD
      clear hD
      refine hdf.mono ?_
      clear hdf a0 a1 a2 a3 a4 b0 b1 b2 b3 b4
      rintro e w4 ⟨pv, dv, rfl, hpv, hdv, hb4⟩
      obtain ⟨PA, PC, rfl⟩ := hpv.form
      obtain ⟨DA, DC, rfl⟩ : ∃ A c, dv = .slice A D.1.drop.length c := by obtain ⟨A, c, h, _⟩ := hdv; exact ⟨A, c, by simpa [zI] using h⟩
      have HB4 := Lib.hid (HB3.out.trans (hb4.mono HB3.out.size))
      have AX4 := Lib.hid (AX3.out.on hb4)
      have BX4 := Lib.hid (BX3.out.on hb4)
      have PV4 := Lib.hid hpv
      have DV4 := Lib.hid hdv
      clear hb4 hpv hdv HB3 AX3 BX3
      go_upto_region 6 with (fail)
      have hb5 : Below w4.heap.size w4 (w4.alloc (.cells #[.int .i64 D.1.de, .int .i64 D.1.cl, .int .i64 D.1.fu, .int .i64 D.1.st, .slice PA D.1.put.length PC, .slice DA D.1.drop.length DC] 27)) := (Below.refl _ _).alloc (Nat.le_refl _) _
      have DX5 : Hid (Blk (w4.alloc (.cells #[.int .i64 D.1.de, .int .i64 D.1.cl, .int .i64 D.1.fu, .int .i64 D.1.st, .slice PA D.1.put.length PC, .slice DA D.1.drop.length DC] 27)) w4.heap.size 27 #[.int .i64 D.1.de, .int .i64 D.1.cl, .int .i64 D.1.fu, .int .i64 D.1.st, .slice PA D.1.put.length PC, .slice DA D.1.drop.length DC]) := Lib.hid (Blk.new _ _ _)
      generalize (w4.alloc (.cells #[.int .i64 D.1.de, .int .i64 D.1.cl, .int .i64 D.1.fu, .int .i64 D.1.st, .slice PA D.1.put.length PC, .slice DA D.1.drop.length DC] 27)) = w5 at *
      have HB5 := Lib.hid (HB4.out.trans (hb5.mono HB4.out.size))
      have AX5 := Lib.hid (AX4.out.on hb5)
      have BX5 := Lib.hid (BX4.out.on hb5)
      have PV5 := Lib.hid (PV4.out.on hb5)
      have DV5 := Lib.hid ((DV4.out.below hb5).more hb5.size)
      clear hb5 HB4 AX4 BX4 PV4 DV4
      obtain ⟨a0, a1, a2, a3, a4⟩ := AX5.out.c5
      go_wp2_with fail
      refine (madeSet_any a _ w5 (by have := HLa.out; omega) (HA.out.on HB5.out)).mono ?_
      clear a0 a1 a2 a3 a4
      rintro e w6 ⟨V, rfl, hV, hb6⟩
      have hV' := OwnU.set hV
      obtain ⟨VA, VC, rfl⟩ := OwnU.form hV
      have HB6 := Lib.hid (HB5.out.trans (hb6.mono HB5.out.size))
      have AX6 := Lib.hid (AX5.out.on hb6)
      have BX6 := Lib.hid (BX5.out.on hb6)
      have DX6 := Lib.hid (DX5.out.on hb6)
      have PV6 := Lib.hid (PV5.out.on hb6)
      have DV6 := Lib.hid ((DV5.out.below hb6).more hb6.size)
      have HV6 := Lib.hid hV'
      clear hb6 hV hV' HB5 AX5 BX5 DX5 PV5 DV5
      go_wp2_with fail
      refine (xRight_any a _ w6 (by have := HLa.out; omega) HV6.out).mono ?_
      clear HV6
      rintro e w7 ⟨rfl, hb7⟩
      have HB7 := Lib.hid (HB6.out.trans (hb7.mono HB6.out.size))
      have AX7 := Lib.hid (AX6.out.on hb7)
      have BX7 := Lib.hid (BX6.out.on hb7)
      have DX7 := Lib.hid (DX6.out.on hb7)
      have PV7 := Lib.hid (PV6.out.on hb7)
      have DV7 := Lib.hid ((DV6.out.below hb7).more hb7.size)
      clear hb7 HB6 AX6 BX6 DX6 PV6 DV6
      by_cases h1 : a.Ok
      · rw [decide_eq_true h1]
        have H1 := Lib.hid h1
        clear h1
        obtain ⟨b0, b1, b2, b3, b4⟩ := BX7.out.c5
        go_wp2_with fail
        refine (madeSet_any b _ w7 (by have := HLb.out; omega) (HB.out.on HB7.out)).mono ?_
        clear b0 b1 b2 b3 b4
        rintro e w8 ⟨V, rfl, hV, hb8⟩
        have hV' := OwnU.set hV
        obtain ⟨UA, UC, rfl⟩ := OwnU.form hV
        have HB8 := Lib.hid (HB7.out.trans (hb8.mono HB7.out.size))
        have AX8 := Lib.hid (AX7.out.on hb8)
        have BX8 := Lib.hid (BX7.out.on hb8)
        have DX8 := Lib.hid (DX7.out.on hb8)
        have PV8 := Lib.hid (PV7.out.on hb8)
        have DV8 := Lib.hid ((DV7.out.below hb8).more hb8.size)
        have HV8 := Lib.hid hV'
        clear hb8 hV hV' HB7 AX7 BX7 DX7 PV7 DV7
        go_wp2_with fail
        refine (xRight_any b _ w8 (by have := HLb.out; omega) HV8.out).mono ?_
        clear HV8
        rintro e w9 ⟨rfl, hb9⟩
        have HB9 := Lib.hid (HB8.out.trans (hb9.mono HB8.out.size))
        have AX9 := Lib.hid (AX8.out.on hb9)
        have BX9 := Lib.hid (BX8.out.on hb9)
        have DX9 := Lib.hid (DX8.out.on hb9)
        have PV9 := Lib.hid (PV8.out.on hb9)
        have DV9 := Lib.hid ((DV8.out.below hb9).more hb9.size)
        clear hb9 HB8 AX8 BX8 DX8 PV8 DV8
        by_cases h2 : b.Ok
        · rw [decide_eq_true h2]
          have H2 := Lib.hid h2
          clear h2
          have eD := HD.out.trans (show diffR a b = (diffM a b, 0) by unfold diffR; rw [if_pos ⟨H1.out, H2.out⟩])
          obtain ⟨E, hE⟩ : ∃ E, E = diffM a b := ⟨_, rfl⟩
          rw [← hE] at eD
          subst eD
          clear HD
          dsimp only at DX9 PV9 DV9
          have HTk : Hid (applyM a E = (b, 0)) := Lib.hid (by rw [hE]; exact diff_apply H1.out H2.out)
          have HPu : Hid (E.put = unlike a.rs b.rs) := Lib.hid (by rw [hE]; rfl)
          have HDr : Hid (E.drop = lost a.rs b.rs) := Lib.hid (by rw [hE]; rfl)
          have HNd : Hid (E.de = unl a.de b.de ∧ E.fu = unl a.fu b.fu) := Lib.hid (by rw [hE]; exact ⟨rfl, rfl⟩)
          clear hE
          have HLp : Hid (E.put.length ≤ 40) := Lib.hid (by rw [HPu.out]; exact Nat.le_trans (List.length_filter_le _ _) HLb.out)
          have HLd : Hid (E.drop.length ≤ 40) := Lib.hid (by rw [HDr.out]; unfold lost; rw [List.length_map]; exact Nat.le_trans (List.length_filter_le _ _) HLa.out)
          have HWd : Hid (∀ z ∈ E.drop, (Lit.int .i64 z).wf = true) := Lib.hid (by
            rw [HDr.out]
            intro z hz
            obtain ⟨r, hr, e⟩ := List.mem_map.1 (mem_lost.1 hz).1
            rw [← e]
            exact wfId (H1.out.2.2.1 r hr))
          have hap := apply_any a E (.slice A a.rs.length cap) (.slice PA E.put.length PC) (.slice DA E.drop.length DC) w9 (by have := HLa.out; omega) (by have := HLp.out; omega) (by have := HLd.out; omega) HWd.out (HA.out.on HB9.out) PV9.out DV9.out
          rw [HTk.out] at hap
          dsimp only at hap
          obtain ⟨a0, a1, a2, a3, a4⟩ := AX9.out.c5
          obtain ⟨d0, d1, d2, d3, d4, d5⟩ := DX9.out.c6
          have HAp := Lib.hid hap
          clear hap
          go_wp2_with fail
          refine HAp.out.mono ?_
          clear HAp a0 a1 a2 a3 a4 d0 d1 d2 d3 d4 d5
          rintro e w10 ⟨rv, rfl, hrv, _, hb10⟩
          obtain ⟨RA, RC, rfl⟩ := hrv.form
          have HB10 := Lib.hid (HB9.out.trans (hb10.mono HB9.out.size))
          have AX10 := Lib.hid (AX9.out.on hb10)
          have BX10 := Lib.hid (BX9.out.on hb10)
          have DX10 := Lib.hid (DX9.out.on hb10)
          have PV10 := Lib.hid (PV9.out.on hb10)
          have DV10 := Lib.hid ((DV9.out.below hb10).more hb10.size)
          have RV10 := Lib.hid hrv
          clear hb10 hrv HB9 AX9 BX9 DX9 PV9 DV9
          go_upto_region 9 with (fail)
          have hb11 : Below w10.heap.size w10 (w10.alloc (.cells #[.int .i64 b.de, .int .i64 b.cl, .int .i64 b.fu, .int .i64 b.st, .slice RA b.rs.length RC] 24)) := (Below.refl _ _).alloc (Nat.le_refl _) _
          have RX11 : Hid (Blk (w10.alloc (.cells #[.int .i64 b.de, .int .i64 b.cl, .int .i64 b.fu, .int .i64 b.st, .slice RA b.rs.length RC] 24)) w10.heap.size 24 #[.int .i64 b.de, .int .i64 b.cl, .int .i64 b.fu, .int .i64 b.st, .slice RA b.rs.length RC]) := Lib.hid (Blk.new _ _ _)
          generalize (w10.alloc (.cells #[.int .i64 b.de, .int .i64 b.cl, .int .i64 b.fu, .int .i64 b.st, .slice RA b.rs.length RC] 24)) = w11 at *
          have HB11 := Lib.hid (HB10.out.trans (hb11.mono HB10.out.size))
          have AX11 := Lib.hid (AX10.out.on hb11)
          have BX11 := Lib.hid (BX10.out.on hb11)
          have DX11 := Lib.hid (DX10.out.on hb11)
          have PV11 := Lib.hid (PV10.out.on hb11)
          have DV11 := Lib.hid ((DV10.out.below hb11).more hb11.size)
          have RV11 := Lib.hid (RV10.out.on hb11)
          clear hb11 HB10 AX10 BX10 DX10 PV10 DV10 RV10
          have RXd : Hid (Blk w11.drew w10.heap.size 24 #[.int .i64 b.de, .int .i64 b.cl, .int .i64 b.fu, .int .i64 b.st, .slice RA b.rs.length RC]) := RX11
          have AXd : Hid (Blk w11.drew w.heap.size 24 #[.int .i64 a.de, .int .i64 a.cl, .int .i64 a.fu, .int .i64 a.st, .slice A a.rs.length cap]) := AX11
          have BXd : Hid (Blk w11.drew (w.heap.size + 1) 24 #[.int .i64 b.de, .int .i64 b.cl, .int .i64 b.fu, .int .i64 b.st, .slice B b.rs.length capb]) := BX11
          have DXd : Hid (Blk w11.drew w4.heap.size 27 #[.int .i64 E.de, .int .i64 E.cl, .int .i64 E.fu, .int .i64 E.st, .slice PA E.put.length PC, .slice DA E.drop.length DC]) := DX11
          have PVd : Hid (RulesV w11.drew.heap.size w11.drew (.slice PA E.put.length PC) E.put) := PV11
          have DVd : Hid (Row w11.drew.heap.size w11.drew (.slice DA E.drop.length DC) (zI E.drop)) := DV11
          have RVd : Hid (RulesV w11.drew.heap.size w11.drew (.slice RA b.rs.length RC) b.rs) := RV11
          have HBd : Hid (Below w.heap.size w w11.drew) := Lib.hid HB11.out.drew
          have HL1k : Hid (b.rs.length ≤ 1000) := Lib.hid (by have := HLb.out; omega)
          have HL1m : Hid (b.rs.length ≤ 1000000) := Lib.hid (by have := HLb.out; omega)
          clear HB11 AX11 BX11 DX11 PV11 DV11 RV11 RX11
          go_region_held3 (fun W => (W.cell? ⟨w10.heap.size, 0, none⟩ = some (.int .i64 b.de) ∧ W.cell? ⟨w10.heap.size, 1, none⟩ = some (.int .i64 b.cl) ∧ W.cell? ⟨w10.heap.size, 2, none⟩ = some (.int .i64 b.fu) ∧ W.cell? ⟨w10.heap.size, 3, none⟩ = some (.int .i64 b.st) ∧ W.cell? ⟨w10.heap.size, 4, none⟩ = some (.slice RA b.rs.length RC)) ∧ (W.cell? ⟨w.heap.size + 1, 0, none⟩ = some (.int .i64 b.de) ∧ W.cell? ⟨w.heap.size + 1, 1, none⟩ = some (.int .i64 b.cl) ∧ W.cell? ⟨w.heap.size + 1, 2, none⟩ = some (.int .i64 b.fu) ∧ W.cell? ⟨w.heap.size + 1, 3, none⟩ = some (.int .i64 b.st) ∧ W.cell? ⟨w.heap.size + 1, 4, none⟩ = some (.slice B b.rs.length capb)))
            (first | exact ⟨RX3.out.c5, BX3.out.c5⟩ | exact ⟨RX2.out.c5, BX2.out.c5⟩ | exact ⟨RX1.out.c5, BX1.out.c5⟩ | exact ⟨RXd.out.c5, BXd.out.c5⟩)
            (first
              | (go_at_call 14; refine (same_any b b _ _ wx2 HL1m.out HL1m.out HV12.out HV22.out).mono ?_; rintro e wx3 ⟨c1, rfl, hc1, hb13⟩; obtain rfl : c1 = true := hc1.2 rfl; have RX3 := Lib.hid (RX2.out.on hb13); have BX3 := Lib.hid (BX2.out.on hb13); have AX3 := Lib.hid (AX2.out.on hb13); have DX3 := Lib.hid (DX2.out.on hb13); have PV3 := Lib.hid (PV2.out.on hb13); have DV3 := Lib.hid ((DV2.out.below hb13).more hb13.size); have HB3 := Lib.hid (HB2.out.trans (hb13.mono HB2.out.size)); clear hb13 hc1)
              | (go_at_call 10; refine (madeSet_any b _ wx1 HL1k.out (HB.out.on HB1.out)).mono ?_; rintro e wx2 ⟨V2, rfl, hV2, hb12⟩; obtain ⟨VA2, VC2, rfl⟩ := OwnU.form hV2; have RX2 := Lib.hid (RX1.out.on hb12); have BX2 := Lib.hid (BX1.out.on hb12); have AX2 := Lib.hid (AX1.out.on hb12); have DX2 := Lib.hid (DX1.out.on hb12); have PV2 := Lib.hid (PV1.out.on hb12); have DV2 := Lib.hid ((DV1.out.below hb12).more hb12.size); have HV12 := Lib.hid (HV11.out.on hb12); have HV22 := Lib.hid (OwnU.set hV2); have HB2 := Lib.hid (HB1.out.trans (hb12.mono HB1.out.size)); clear hb12 hV2)
              | (go_at_call 10; refine (madeSet_any b _ w11.drew HL1k.out RVd.out).mono ?_; rintro e wx1 ⟨V1, rfl, hV1, hb11⟩; obtain ⟨VA1, VC1, rfl⟩ := OwnU.form hV1; have RX1 := Lib.hid (RXd.out.on hb11); have BX1 := Lib.hid (BXd.out.on hb11); have AX1 := Lib.hid (AXd.out.on hb11); have DX1 := Lib.hid (DXd.out.on hb11); have PV1 := Lib.hid (PVd.out.on hb11); have DV1 := Lib.hid ((DVd.out.below hb11).more hb11.size); have HV11 := Lib.hid (OwnU.set hV1); have HB1 := Lib.hid (HBd.out.trans (hb11.mono HBd.out.size)); clear hb11 hV1))
          clear HBd AXd BXd DXd PVd DVd RVd RXd
          have HRi : Hid (Rise E.put) := Lib.hid (by rw [HPu.out]; exact unlike_rise H2.out)
          have HPo : Hid (∀ r ∈ E.put, 0 < r.id) := Lib.hid (fun r hr => by
            have h := H2.out.2.2.1 r (mem_unlike.1 (HPu.out ▸ hr)).1
            simp only [Ru.ok, decide_eq_true_eq] at h
            omega)
          have HUn : Hid (∀ r ∈ E.put, ruEq (look a.rs r.id) r = false) := Lib.hid (fun r hr => by
            have h := (mem_unlike.1 (HPu.out ▸ hr)).2
            cases hq : ruEq (look a.rs r.id) r with
            | false => rfl
            | true => exact absurd ((ruEq_iff _ _).1 hq) h)
          obtain ⟨d0, d1, d2, d3, d4, d5⟩ := DX3.out.c6
          have hld := DX3.out.lt
          go_upto_region 13 with (fail)
          clear d0 d1 d2 d3 d4 d5 hld
          go_loopw [9, 80] (fun lv i wr => ∃ (k : Nat) (last : Int), k ≤ E.put.length ∧ i = .int .i64 k ∧ lv = .int .i64 last ∧ Hid (∀ x ∈ E.put.drop k, last < x.id) ∧ Hid (Below wx3.heap.size wx3 wr)) (fun _ i _ => E.put.length - (intOf i).toNat)
          case atStart => exact ⟨0, 0, Nat.zero_le _, rfl, rfl, Lib.hid (by simpa using HPo.out), Lib.hid (Below.refl _ _)⟩
          case round =>
            obtain ⟨k, last, hk, rfl, rfl, HL, HBk⟩ := hrel
            by_cases hlt : k < E.put.length
            · obtain ⟨g, off, hA, hg, c0, c1, c2, c3, c4⟩ := (PV3.out.below HBk.out).at_ hlt
              subst hA
              have hm : E.put[k] ∈ E.put := List.getElem_mem hlt
              have hru := HUn.out _ hm
              have hla : last < (E.put[k]).id := HL.out _ (by rw [List.drop_eq_getElem_cons hlt]; exact List.mem_cons_self ..)
              have hnx : ∀ x ∈ E.put.drop (k + 1), (E.put[k]).id < x.id := by
                have h := HRi.out.drop (i := k)
                rw [List.drop_eq_getElem_cons hlt] at h
                exact (List.pairwise_cons.1 h).1
              generalize E.put[k] = r at c0 c1 c2 c3 c4 hru hla hnx
              have HRu := Lib.hid hru
              have HLa2 := Lib.hid hla
              have HNx := Lib.hid hnx
              have HLt := Lib.hid hlt
              clear hm hru hla hnx
              have hlw : wx3.heap.size ≤ wr.heap.size := HBk.out.size
              have hg2 : g < wr.heap.size := by omega
              go_upto_region 15 with (fail)
              clear c0 c1 c2 c3 c4 hlt hg hg2
              have hb14 : Below wr.heap.size wr (wr.alloc (.cells #[.int .i64 r.id, .int .i64 r.pr, .int .i64 r.ac, .int .i64 r.sc, .string r.pat] 44)) := (Below.refl _ _).alloc (Nat.le_refl _) _
              have RW14 : Hid (Blk (wr.alloc (.cells #[.int .i64 r.id, .int .i64 r.pr, .int .i64 r.ac, .int .i64 r.sc, .string r.pat] 44)) wr.heap.size 44 #[.int .i64 r.id, .int .i64 r.pr, .int .i64 r.ac, .int .i64 r.sc, .string r.pat]) := Lib.hid (Blk.new _ _ _)
              generalize (wr.alloc (.cells #[.int .i64 r.id, .int .i64 r.pr, .int .i64 r.ac, .int .i64 r.sc, .string r.pat] 44)) = w14 at *
              have HB14 := Lib.hid (HBk.out.trans (hb14.mono HBk.out.size))
              have AX14 := Lib.hid (AX3.out.on HB14.out)
              clear hb14
              obtain ⟨a0, a1, a2, a3, a4⟩ := AX14.out.c5
              obtain ⟨r0, r1, r2, r3, r4⟩ := RW14.out.c5
              have hlr := RW14.out.lt
              go_wp2_with fail
              refine (setRule_any a _ r.id w14 (by have := HLa.out; omega) (HA.out.on (HB3.out.trans (HB14.out.mono HB3.out.size)))).mono ?_
              clear a0 a1 a2 a3 a4 r0 r1 r2 r3 r4 hlr
              rintro e w15 ⟨rfl, hb15⟩
              have hru := HRu.out
              generalize look a.rs r.id = q at hru ⊢
              generalize decide (r.id ∈ a.rs.map Ru.id) = was
              have HB15 := Lib.hid (HB14.out.trans (hb15.mono HB14.out.size))
              have RW15 := Lib.hid (RW14.out.on hb15)
              have HRq := Lib.hid hru
              clear hru hb15 RW14 AX14
              go_upto_region 16 with (fail)
              have hb16 : Below w15.heap.size w15 (w15.alloc (.cells #[.int .i64 q.id, .int .i64 q.pr, .int .i64 q.ac, .int .i64 q.sc, .string q.pat] 44)) := (Below.refl _ _).alloc (Nat.le_refl _) _
              have QW16 : Hid (Blk (w15.alloc (.cells #[.int .i64 q.id, .int .i64 q.pr, .int .i64 q.ac, .int .i64 q.sc, .string q.pat] 44)) w15.heap.size 44 #[.int .i64 q.id, .int .i64 q.pr, .int .i64 q.ac, .int .i64 q.sc, .string q.pat]) := Lib.hid (Blk.new _ _ _)
              generalize (w15.alloc (.cells #[.int .i64 q.id, .int .i64 q.pr, .int .i64 q.ac, .int .i64 q.sc, .string q.pat] 44)) = w16 at *
              have HB16 := Lib.hid (HB15.out.trans (hb16.mono HB15.out.size))
              have RW16 := Lib.hid (RW15.out.on hb16)
              clear hb16 HB14 HB15 RW15
              obtain ⟨r0, r1, r2, r3, r4⟩ := RW16.out.c5
              obtain ⟨q0, q1, q2, q3, q4⟩ := QW16.out.c5
              have hlr := RW16.out.lt
              have hlq := QW16.out.lt
              have hq := fun w => run_eql_ru q r w
              rw [HRq.out] at hq
              have hle : ¬ r.id ≤ last := by have := HLa2.out; omega
              have hwr : wrap64 ((k : Int) + 1) = ((k + 1 : Nat) : Int) := by have := HLp.out; have := HLt.out; unfold wrap64; omega
              have HWr := Lib.hid hwr
              clear hwr
              cases was
              · go_wp2_with fail
                go_roundw
                case rel => exact ⟨k + 1, r.id, HLt.out, by rw [HWr.out], rfl, HNx, HB16⟩
                case measure => have := HLt.out; rw [HWr.out]; simp [intOf]; omega
              · go_wp2_with fail
                go_roundw
                case rel => exact ⟨k + 1, r.id, HLt.out, by rw [HWr.out], rfl, HNx, HB16⟩
                case measure => have := HLt.out; rw [HWr.out]; simp [intOf]; omega
            · obtain rfl : k = E.put.length := by omega
              have DX4 := Lib.hid (DX3.out.on HBk.out)
              obtain ⟨d0, d1, d2, d3, d4, d5⟩ := DX4.out.c6
              have hld := DX4.out.lt
              clear HL
              go_upto_region 22 with (fail)
              clear d0 d1 d2 d3 d4 d5 hld
              have AX4 := Lib.hid (AX3.out.on HBk.out)
              have BX4 := Lib.hid (BX3.out.on HBk.out)
              have DV4 := Lib.hid ((DV3.out.below HBk.out).more HBk.out.size)
              have HB4 := Lib.hid (HB3.out.trans (HBk.out.mono HB3.out.size))
              clear HBk AX3 BX3 DX3 DV3 HB3 PV3
              have HDi : Hid (E.drop.Pairwise (· < ·)) := Lib.hid (by rw [HDr.out]; exact lost_rise H1.out)
              have HDp : Hid (∀ z ∈ E.drop, (0 : Int) < z) := Lib.hid (fun z hz => by
                obtain ⟨r, hr, e⟩ := List.mem_map.1 (mem_lost.1 (HDr.out ▸ hz)).1
                have h := H1.out.2.2.1 r hr
                simp only [Ru.ok, decide_eq_true_eq] at h
                omega)
              go_loopw [9, 109] (fun lv i w2 => ∃ (k : Nat) (last : Int), k ≤ E.drop.length ∧ i = .int .i64 k ∧ lv = .int .i64 last ∧ Hid (∀ z ∈ E.drop.drop k, last < z) ∧ w2 = wr) (fun _ i _ => E.drop.length - (intOf i).toNat)
              case atStart => exact ⟨0, 0, Nat.zero_le _, rfl, rfl, Lib.hid (by simpa using HDp.out), rfl⟩
              case round =>
                obtain ⟨k, last, hk, rfl, rfl, HL, rfl⟩ := hrel
                by_cases hlt : k < E.drop.length
                · obtain ⟨g, off, hA, hg, c0⟩ := DV4.out.at_ hlt
                  subst hA
                  have hla : last < E.drop[k] := HL.out _ (by rw [List.drop_eq_getElem_cons hlt]; exact List.mem_cons_self ..)
                  have hnx : ∀ x ∈ E.drop.drop (k + 1), E.drop[k] < x := by
                    have h := HDi.out.drop (i := k)
                    rw [List.drop_eq_getElem_cons hlt] at h
                    exact (List.pairwise_cons.1 h).1
                  generalize E.drop[k] = z at c0 hla hnx
                  have HNx := Lib.hid hnx
                  have HLt := Lib.hid hlt
                  have HWr : Hid (wrap64 ((k : Int) + 1) = ((k + 1 : Nat) : Int)) := Lib.hid (by have := HLd.out; have := HLt.out; unfold wrap64; omega)
                  have hle : ¬ z ≤ last := by omega
                  clear hnx hla
                  go_wp2_with fail
                  go_roundw
                  case rel => exact ⟨k + 1, z, HLt.out, by rw [HWr.out], rfl, HNx, trivial⟩
                  case measure => have := HLt.out; rw [HWr.out]; simp [intOf]; omega
                · obtain rfl : k = E.drop.length := by omega
                  clear HL hlt
                  go_upto_region 28 with (fail)
                  have AXd : Hid (Blk wr.drew w.heap.size 24 #[.int .i64 a.de, .int .i64 a.cl, .int .i64 a.fu, .int .i64 a.st, .slice A a.rs.length cap]) := AX4
                  have BXd : Hid (Blk wr.drew (w.heap.size + 1) 24 #[.int .i64 b.de, .int .i64 b.cl, .int .i64 b.fu, .int .i64 b.st, .slice B b.rs.length capb]) := BX4
                  have DXd : Hid (Blk wr.drew w4.heap.size 27 #[.int .i64 E.de, .int .i64 E.cl, .int .i64 E.fu, .int .i64 E.st, .slice PA E.put.length PC, .slice DA E.drop.length DC]) := DX4
                  have HBd : Hid (Below w.heap.size w wr.drew) := Lib.hid HB4.out.drew
                  have HA1k : Hid (a.rs.length ≤ 1000) := Lib.hid (by have := HLa.out; omega)
                  have HA1m : Hid (a.rs.length ≤ 1000000) := Lib.hid (by have := HLa.out; omega)
                  clear AX4 BX4 DX4 HB4 DV4
                  go_region_held3 (fun W => (W.cell? ⟨w.heap.size, 0, none⟩ = some (.int .i64 a.de) ∧ W.cell? ⟨w.heap.size, 1, none⟩ = some (.int .i64 a.cl) ∧ W.cell? ⟨w.heap.size, 2, none⟩ = some (.int .i64 a.fu) ∧ W.cell? ⟨w.heap.size, 3, none⟩ = some (.int .i64 a.st) ∧ W.cell? ⟨w.heap.size, 4, none⟩ = some (.slice A a.rs.length cap)) ∧ (W.cell? ⟨w.heap.size + 1, 0, none⟩ = some (.int .i64 b.de) ∧ W.cell? ⟨w.heap.size + 1, 1, none⟩ = some (.int .i64 b.cl) ∧ W.cell? ⟨w.heap.size + 1, 2, none⟩ = some (.int .i64 b.fu) ∧ W.cell? ⟨w.heap.size + 1, 3, none⟩ = some (.int .i64 b.st) ∧ W.cell? ⟨w.heap.size + 1, 4, none⟩ = some (.slice B b.rs.length capb)))
                    (first | exact ⟨AX8.out.c5, BX8.out.c5⟩ | exact ⟨AX7.out.c5, BX7.out.c5⟩ | exact ⟨AX6.out.c5, BX6.out.c5⟩ | exact ⟨AXd.out.c5, BXd.out.c5⟩)
                    (first
                      | (go_at_call 14; refine (same_any a b _ _ wy2 HA1m.out HL1m.out HV12.out HV22.out).mono ?_; rintro e wy3 ⟨c1, rfl, hc1, hb13⟩; have HC1 := Lib.hid hc1; have AX8 := Lib.hid (AX7.out.on hb13); have BX8 := Lib.hid (BX7.out.on hb13); have DX8 := Lib.hid (DX7.out.on hb13); have HB8 := Lib.hid (HB7.out.trans (hb13.mono HB7.out.size)); clear hb13 hc1)
                      | (go_at_call 10; refine (madeSet_any b _ wy1 HL1k.out (HB.out.on HB6.out)).mono ?_; rintro e wy2 ⟨V2, rfl, hV2, hb12⟩; obtain ⟨VA2, VC2, rfl⟩ := OwnU.form hV2; have AX7 := Lib.hid (AX6.out.on hb12); have BX7 := Lib.hid (BX6.out.on hb12); have DX7 := Lib.hid (DX6.out.on hb12); have HV12 := Lib.hid (HV11.out.on hb12); have HV22 := Lib.hid (OwnU.set hV2); have HB7 := Lib.hid (HB6.out.trans (hb12.mono HB6.out.size)); clear hb12 hV2)
                      | (go_at_call 10; refine (madeSet_any a _ wr.drew HA1k.out (HA.out.on HBd.out)).mono ?_; rintro e wy1 ⟨V1, rfl, hV1, hb11⟩; obtain ⟨VA1, VC1, rfl⟩ := OwnU.form hV1; have AX6 := Lib.hid (AXd.out.on hb11); have BX6 := Lib.hid (BXd.out.on hb11); have DX6 := Lib.hid (DXd.out.on hb11); have HV11 := Lib.hid (OwnU.set hV1); have HB6 := Lib.hid (HBd.out.trans (hb11.mono HBd.out.size)); clear hb11 hV1))
                  clear HBd AXd BXd DXd
                  obtain ⟨a0, a1, a2, a3, a4⟩ := AX8.out.c5
                  obtain ⟨b0, b1, b2, b3, b4⟩ := BX8.out.c5
                  obtain ⟨d0, d1, d2, d3, d4, d5⟩ := DX8.out.c6
                  have hlx := AX8.out.lt
                  have hly := BX8.out.lt
                  have hld := DX8.out.lt
                  obtain ⟨e1, e3⟩ := HNd.out
                  have hnr := num_range H2.out.1
                  have hp1 : (E.de == -1) = (a.de == b.de) := by
                    have h := unl_neg (old := a.de) (new := b.de) (by omega)
                    rw [Bool.eq_iff_iff, beq_iff_eq, beq_iff_eq, e1]
                    exact h
                  have hp3 : (E.fu == -1) = (a.fu == b.fu) := by
                    have h := unl_neg (old := a.fu) (new := b.fu) (by omega)
                    rw [Bool.eq_iff_iff, beq_iff_eq, beq_iff_eq, e3]
                    exact h
                  obtain ⟨p1, hq1⟩ : ∃ p, (a.de == b.de) = p := ⟨_, rfl⟩
                  obtain ⟨p3, hq3⟩ : ∃ p, (a.fu == b.fu) = p := ⟨_, rfl⟩
                  rw [hq1] at hp1
                  rw [hq3] at hp3
                  clear e1 e3 hnr
                  cases c1 with
                  | true =>
                    have hab : a = b := HC1.out.1 rfl
                    have z1 : E.put.length = 0 := by rw [HPu.out, ← hab, (diff_same H1.out).1]; rfl
                    have z2 : E.drop.length = 0 := by rw [HDr.out, ← hab, (diff_same H1.out).2]; rfl
                    clear hab HC1
                    rw [z1] at d4
                    rw [z2] at d5
                    go_wp2_with fail
                    go_ret
                    exact ⟨by simp, HB8.out⟩
                  | false =>
                    clear HC1
                    go_wp2_with fail
                    go_ret
                    exact ⟨by simp, HB8.out⟩
        · rw [decide_eq_false h2]
          have eD := HD.out.trans (show diffR a b = (⟨0, 0, 0, 0, [], []⟩, 10) by unfold diffR; rw [if_neg fun h => h2 h.2])
          subst eD
          clear HD h2
          have d4 : w9.cell? ⟨w4.heap.size, 4, none⟩ = some (.slice PA 0 PC) := DX9.out.cell 4
          have d5 : w9.cell? ⟨w4.heap.size, 5, none⟩ = some (.slice DA 0 DC) := DX9.out.cell 5
          have hld := DX9.out.lt
          go_wp2_with fail
          go_ret
          exact ⟨rfl, HB9.out⟩
      · rw [decide_eq_false h1]
        have eD := HD.out.trans (show diffR a b = (⟨0, 0, 0, 0, [], []⟩, 10) by unfold diffR; rw [if_neg fun h => h1 h.1])
        subst eD
        clear HD h1
        have d4 : w7.cell? ⟨w4.heap.size, 4, none⟩ = some (.slice PA 0 PC) := DX7.out.cell 4
        have d5 : w7.cell? ⟨w4.heap.size, 5, none⟩ = some (.slice DA 0 DC) := DX7.out.cell 5
        have hld := DX7.out.lt
        go_wp2_with fail
        go_ret
        exact ⟨rfl, HB7.out⟩
    · rw [decide_eq_false (show ¬ (b.rs.length ≤ 40 ∧ 0 ≤ 40 ∧ 0 ≤ 40) from fun h => hlb h.1)]
      clear hlb
      go_wp2_with fail
      go_ret
      exact ⟨rfl, HB3.out⟩
  · rw [decide_eq_false (show ¬ (a.rs.length ≤ 40 ∧ 0 ≤ 40 ∧ 0 ≤ 40) from fun h => hla h.1)]
    clear hla
    go_wp2_with fail
    go_ret
    exact ⟨rfl, HB2.out⟩

theorem ruleDiffs_law (a : RS) (va : Value) (b : RS) (vb : Value) (w : World) (hA : RulesV w.heap.size w va a.rs) (hB : RulesV w.heap.size w vb b.rs) :
    Calls Try.prog 4 #[.agg #[.int .i64 a.de, .int .i64 a.cl, .int .i64 a.fu, .int .i64 a.st, va], .agg #[.int .i64 b.de, .int .i64 b.cl, .int .i64 b.fu, .int .i64 b.st, vb]] w fun e w' => e = .returned (.bool true) ∧ Below w.heap.size w w' := diffs_law a b va vb w hA hB

end Go.Proofs.Ytihhjcjmchlafaa
