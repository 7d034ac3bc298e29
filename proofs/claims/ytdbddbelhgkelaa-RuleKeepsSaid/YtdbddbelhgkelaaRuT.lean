/- RuleKeeps. -/
import Derived.Test.YtdbddbelhgkelaaRuL
import Derived.Test.YtdbddbelhgkelaaRuM2
import Derived.Test.YtdbddbelhgkelaaRuN
import Derived.Test.YtdbddbelhgkelaaRuQ
import Derived.Deep.RegionHeld3
namespace Go.Proofs.Ytdbddbelhgkelaa
open Go.RowKit Go.Maps
variable {w w' : World}

set_option maxRecDepth 100000 in
set_option maxHeartbeats 16000000 in
theorem keeps_law (s : RS) (v : Value) (w : World) (hS : RulesV w.heap.size w v s.rs) :
    Calls Try.prog 8 #[.agg #[.int .i64 s.de, .int .i64 s.cl, .int .i64 s.fu, .int .i64 s.st, v]] w fun e w' => e = .returned (.bool true) ∧ Below w.heap.size w w' := by
  obtain ⟨A, cap, rfl⟩ := hS.form
  have HS := Lib.hid hS
  clear hS
  go_enter Try.func8, Try.ntmps8
  go_wp2_with fail
  have hb0 : Below w.heap.size w (w.alloc (.cells #[.int .i64 s.de, .int .i64 s.cl, .int .i64 s.fu, .int .i64 s.st, .slice A s.rs.length cap] 24)) := (Below.refl _ _).alloc (Nat.le_refl _) _
  refine (anchor7_any _).mono ?_
  rintro e w1 ⟨rfl, hb1⟩
  have HB1 := Lib.hid (hb0.trans (hb1.mono (by simp)))
  have HX1 := Lib.hid ((Blk.new w 24 #[.int .i64 s.de, .int .i64 s.cl, .int .i64 s.fu, .int .i64 s.st, .slice A s.rs.length cap]).on hb1)
  have x4 := HX1.out.cell 4
  have hlx := HX1.out.lt
  clear hb0 hb1
  by_cases hln : s.rs.length ≤ 40
  · have hlni : (s.rs.length : Int) ≤ 40 := by omega
    have HLn := Lib.hid hln
    clear hln
    go_upto_region 6 with (fail)
    have hb2 : Below w.heap.size w (w1.alloc (.cells #[.int .i64 (-1), .int .i64 (-1), .int .i64 (-1), .int .i64 (-1), .slice none 0 0, .slice none 0 0] 27)) := HB1.out.alloc HB1.out.size _
    have hx2 := HX1.out.alloc (.cells #[.int .i64 (-1), .int .i64 (-1), .int .i64 (-1), .int .i64 (-1), .slice none 0 0, .slice none 0 0] 27)
    have hd2 := Blk.new w1 27 #[.int .i64 (-1), .int .i64 (-1), .int .i64 (-1), .int .i64 (-1), .slice none 0 0, .slice none 0 0]
    have hl12 : w1.heap.size < (w1.alloc (.cells #[.int .i64 (-1), .int .i64 (-1), .int .i64 (-1), .int .i64 (-1), .slice none 0 0, .slice none 0 0] 27)).heap.size := by simp
    generalize w1.alloc (.cells #[.int .i64 (-1), .int .i64 (-1), .int .i64 (-1), .int .i64 (-1), .slice none 0 0, .slice none 0 0] 27) = w2 at *
    have HB2 := Lib.hid hb2
    have HX2 := Lib.hid hx2
    have HD2 := Lib.hid hd2
    have HL12 := Lib.hid hl12
    clear x4 hlx
    obtain ⟨x0, x1, x2, x3, x4⟩ := hx2.c5
    obtain ⟨y0, y1, y2, y3, y4, y5⟩ := hd2.c6
    clear hb2 hx2 hd2 hl12
    by_cases h1 : s.Ok
    · have H1 := Lib.hid h1
      clear h1
      have hap := (apply_any s ⟨-1, -1, -1, -1, [], []⟩ (.slice A s.rs.length cap) (.slice none 0 0) (.slice none 0 0) w2 (by have := HLn.out; omega) (by simp) (by simp) (by simp) (HS.out.on HB2.out) (RulesV.nil _ _) (row_nil _ _))
      rw [keeps_none H1.out] at hap
      skip
      have HAp := Lib.hid hap
      clear hap
      go_wp2_with fail
      refine HAp.out.mono ?_
      rintro e w3 ⟨rv, rfl, hrv, hfar, hb3⟩
      obtain ⟨RA, RAn, RAc, rfl⟩ : ∃ A n c, rv = .slice A n c := by obtain ⟨A, c, h⟩ := hrv.form; exact ⟨_, _, _, h⟩
      have HB3 := Lib.hid (HB2.out.trans (hb3.mono HB2.out.size))
      have HX3 := Lib.hid (HX2.out.on hb3)
      have HD3 := Lib.hid (HD2.out.on hb3)
      have HRA := Lib.hid hrv
      have HFA := Lib.hid hfar
      have HS23 := Lib.hid hb3.size
      have d4 := HD3.out.cell 4
      have g4 := HD3.out.frozen 4
      have x4 := HX3.out.cell 4
      have hld := HD3.out.lt
      have hlx := HX3.out.lt
      clear hrv hfar hb3 HAp y0 y1 y2 y3 y4 y5 x0 x1 x2 x3
      go_upto_region 8 with (fail)
      have hb4 : Below w.heap.size w (w3.setCell ⟨w1.heap.size, 4, none⟩ (.slice A s.rs.length cap)) := HB3.out.setCell (p := ⟨w1.heap.size, 4, none⟩) HB1.out.size _
      have hx4 := HX3.out.far (p := ⟨w1.heap.size, 4, none⟩) (show w.heap.size ≠ w1.heap.size by have := HX1.out.lt; omega) (.slice A s.rs.length cap)
      have hd4 : Blk (w3.setCell ⟨w1.heap.size, 4, none⟩ (.slice A s.rs.length cap)) w1.heap.size 27 #[.int .i64 (-1), .int .i64 (-1), .int .i64 (-1), .int .i64 (-1), .slice A s.rs.length cap, .slice none 0 0] := HD3.out.set_ 4 _
      have hr4 : RulesV (w3.setCell ⟨w1.heap.size, 4, none⟩ (.slice A s.rs.length cap)).heap.size (w3.setCell ⟨w1.heap.size, 4, none⟩ (.slice A s.rs.length cap)) (.slice RA RAn RAc) s.rs := (HRA.out.store HFA.out HL12.out).more (by simp)
      have hs4 : (w3.setCell ⟨w1.heap.size, 4, none⟩ (.slice A s.rs.length cap)).heap.size = w3.heap.size := by simp
      generalize w3.setCell ⟨w1.heap.size, 4, none⟩ (.slice A s.rs.length cap) = w4 at *
      have hb5 : Below w.heap.size w (w4.alloc (.cells #[.int .i64 s.de, .int .i64 s.cl, .int .i64 s.fu, .int .i64 s.st, .slice RA RAn RAc] 24)) := hb4.alloc hb4.size _
      have hx5 := hx4.alloc (.cells #[.int .i64 s.de, .int .i64 s.cl, .int .i64 s.fu, .int .i64 s.st, .slice RA RAn RAc] 24)
      have hd5 := hd4.alloc (.cells #[.int .i64 s.de, .int .i64 s.cl, .int .i64 s.fu, .int .i64 s.st, .slice RA RAn RAc] 24)
      have ha5 := Blk.new w4 24 #[.int .i64 s.de, .int .i64 s.cl, .int .i64 s.fu, .int .i64 s.st, .slice RA RAn RAc]
      rw [hs4] at ha5
      have hr5 := hr4.on ((Below.refl w4.heap.size w4).alloc (Nat.le_refl _) (.cells #[.int .i64 s.de, .int .i64 s.cl, .int .i64 s.fu, .int .i64 s.st, .slice RA RAn RAc] 24))
      generalize w4.alloc (.cells #[.int .i64 s.de, .int .i64 s.cl, .int .i64 s.fu, .int .i64 s.st, .slice RA RAn RAc] 24) = w5 at *
      have HB5 := Lib.hid hb5
      have HX5 := Lib.hid hx5
      have HA5 := Lib.hid ha5
      have HD5 := Lib.hid hd5
      have HR5 := Lib.hid hr5
      have hap := (apply_any s ⟨-1, -1, -1, -1, s.rs, []⟩ (.slice A s.rs.length cap) (.slice A s.rs.length cap) (.slice none 0 0) w5 (by have := HLn.out; omega) (by have := HLn.out; simp only; omega) (by simp) (by simp) (HS.out.on hb5) (HS.out.on hb5) (row_nil _ _))
      rw [keeps_put H1.out] at hap
      skip
      have HAp := Lib.hid hap
      clear hap
      obtain ⟨x0, x1, x2, x3, x4⟩ := hx5.c5
      obtain ⟨y0, y1, y2, y3, y4, y5⟩ := hd5.c6
      clear hs4 hb4 hx4 hd4 hr4 hb5 hx5 ha5 hd5 hr5 d4 g4 hld hlx
      go_wp2_with fail
      refine HAp.out.mono ?_
      rintro e w6 ⟨rv, rfl, hrv, _, hb6⟩
      obtain ⟨RB, RBn, RBc, rfl⟩ : ∃ A n c, rv = .slice A n c := by obtain ⟨A, c, h⟩ := hrv.form; exact ⟨_, _, _, h⟩
      have hb7 : Below w5.heap.size w5 (w6.alloc (.cells #[.int .i64 s.de, .int .i64 s.cl, .int .i64 s.fu, .int .i64 s.st, .slice RB RBn RBc] 24)) := hb6.alloc hb6.size _
      have hbb : Blk (w6.alloc (.cells #[.int .i64 s.de, .int .i64 s.cl, .int .i64 s.fu, .int .i64 s.st, .slice RB RBn RBc] 24)) w6.heap.size 24 #[.int .i64 s.de, .int .i64 s.cl, .int .i64 s.fu, .int .i64 s.st, .slice RB RBn RBc] := Blk.new _ _ _
      have hrb := hrv.on ((Below.refl w6.heap.size w6).alloc (Nat.le_refl _) (.cells #[.int .i64 s.de, .int .i64 s.cl, .int .i64 s.fu, .int .i64 s.st, .slice RB RBn RBc] 24))
      have hx6 := (HX5.out.on hb6).c5
      obtain ⟨x0, x1, x2, x3, x4⟩ := hx6
      have hlx := (HX5.out.on hb6).lt
      clear hb6 hrv HAp y0 y1 y2 y3 y4 y5
      go_wp2_with fail
      generalize w6.alloc (.cells #[.int .i64 s.de, .int .i64 s.cl, .int .i64 s.fu, .int .i64 s.st, .slice RB RBn RBc] 24) = w7 at *
      have HB7 := Lib.hid (HB5.out.trans (hb7.mono HB5.out.size))
      have HX7 := Lib.hid (HX5.out.on hb7)
      have HA7 := Lib.hid (HA5.out.on hb7)
      have HR7 := Lib.hid (HR5.out.on hb7)
      have HBB := Lib.hid hbb
      have HRB := Lib.hid hrb
      clear hb7 hbb hrb x0 x1 x2 x3 x4 hlx
      refine (setRight_any s _ w7 (by have := HLn.out; omega) (HS.out.on HB7.out)).mono ?_
      rintro e w8 ⟨rfl, hb8⟩
      have HB8 := Lib.hid (HB7.out.trans (hb8.mono HB7.out.size))
      rw [decide_eq_true H1.out]
      have HX8 := Lib.hid (HX7.out.on hb8)
      have HA8 := Lib.hid (HA7.out.on hb8)
      have HR8 := Lib.hid (HR7.out.on hb8)
      have HBB8 := Lib.hid (HBB.out.on hb8)
      have HRB8 := Lib.hid (HRB.out.on hb8)
      obtain ⟨x0, x1, x2, x3, x4⟩ := HX8.out.c5
      clear hb8
      go_wp2_with fail
      refine (madeSet_any s _ w8 (by have := HLn.out; omega) (HS.out.on HB8.out)).mono ?_
      rintro e w9 ⟨V, rfl, hV, hb9⟩
      obtain ⟨VA, VC, rfl⟩ := hV.form
      have hb10 : Below w8.heap.size w8 (w9.alloc (.cells #[.int .i64 s.de, .int .i64 s.cl, .int .i64 s.fu, .int .i64 s.st, .slice VA s.rs.length VC] 35)) := hb9.alloc hb9.size _
      have hxx : Blk (w9.alloc (.cells #[.int .i64 s.de, .int .i64 s.cl, .int .i64 s.fu, .int .i64 s.st, .slice VA s.rs.length VC] 35)) w9.heap.size 35 #[.int .i64 s.de, .int .i64 s.cl, .int .i64 s.fu, .int .i64 s.st, .slice VA s.rs.length VC] := Blk.new _ _ _
      have hrx := hV.set.on ((Below.refl w9.heap.size w9).alloc (Nat.le_refl _) (.cells #[.int .i64 s.de, .int .i64 s.cl, .int .i64 s.fu, .int .i64 s.st, .slice VA s.rs.length VC] 35))
      clear hV hb9 x0 x1 x2 x3 x4
      go_upto_region 12 with (fail)
      generalize w9.alloc (.cells #[.int .i64 s.de, .int .i64 s.cl, .int .i64 s.fu, .int .i64 s.st, .slice VA s.rs.length VC] 35) = w10 at *
      have HB10 := Lib.hid (HB8.out.trans (hb10.mono HB8.out.size))
      have HA10 := Lib.hid (HA8.out.on hb10)
      have HR10 := Lib.hid (HR8.out.on hb10)
      have HBB10 := Lib.hid (HBB8.out.on hb10)
      have HRB10 := Lib.hid (HRB8.out.on hb10)
      have HXX := Lib.hid hxx
      have HRX := Lib.hid hrx
      obtain ⟨a0, a1, a2, a3, a4⟩ := HA10.out.c5
      obtain ⟨b0, b1, b2, b3, b4⟩ := HBB10.out.c5
      obtain ⟨x0, x1, x2, x3, x4⟩ := hxx.c5
      clear hb10 hxx hrx
      have HAd : Hid (Blk w10.drew w3.heap.size 24 #[.int .i64 s.de, .int .i64 s.cl, .int .i64 s.fu, .int .i64 s.st, .slice RA RAn RAc]) := HA10
      have HBd : Hid (Blk w10.drew w6.heap.size 24 #[.int .i64 s.de, .int .i64 s.cl, .int .i64 s.fu, .int .i64 s.st, .slice RB RBn RBc]) := HBB10
      have HXd : Hid (Blk w10.drew w9.heap.size 35 #[.int .i64 s.de, .int .i64 s.cl, .int .i64 s.fu, .int .i64 s.st, .slice VA s.rs.length VC]) := HXX
      have HRAd : Hid (RulesV w10.drew.heap.size w10.drew (.slice RA RAn RAc) s.rs) := HR10
      have HRBd : Hid (RulesV w10.drew.heap.size w10.drew (.slice RB RBn RBc) s.rs) := HRB10
      have HRXd : Hid (RulesV w10.drew.heap.size w10.drew (.slice VA s.rs.length VC) s.rs) := HRX
      have HBw : Hid (Below w.heap.size w w10.drew) := Lib.hid HB10.out.drew
      have HL1k : Hid (s.rs.length ≤ 1000) := Lib.hid (by have := HLn.out; omega)
      have HL1m : Hid (s.rs.length ≤ 1000000) := Lib.hid (by have := HLn.out; omega)
      go_region_held3 (fun W => (W.cell? ⟨w3.heap.size, 0, none⟩ = some (.int .i64 s.de) ∧ W.cell? ⟨w3.heap.size, 1, none⟩ = some (.int .i64 s.cl) ∧ W.cell? ⟨w3.heap.size, 2, none⟩ = some (.int .i64 s.fu) ∧ W.cell? ⟨w3.heap.size, 3, none⟩ = some (.int .i64 s.st) ∧ W.cell? ⟨w3.heap.size, 4, none⟩ = some (.slice RA RAn RAc)) ∧ (W.cell? ⟨w6.heap.size, 0, none⟩ = some (.int .i64 s.de) ∧ W.cell? ⟨w6.heap.size, 1, none⟩ = some (.int .i64 s.cl) ∧ W.cell? ⟨w6.heap.size, 2, none⟩ = some (.int .i64 s.fu) ∧ W.cell? ⟨w6.heap.size, 3, none⟩ = some (.int .i64 s.st) ∧ W.cell? ⟨w6.heap.size, 4, none⟩ = some (.slice RB RBn RBc)) ∧ (W.cell? ⟨w9.heap.size, 0, none⟩ = some (.int .i64 s.de) ∧ W.cell? ⟨w9.heap.size, 1, none⟩ = some (.int .i64 s.cl) ∧ W.cell? ⟨w9.heap.size, 2, none⟩ = some (.int .i64 s.fu) ∧ W.cell? ⟨w9.heap.size, 3, none⟩ = some (.int .i64 s.st) ∧ W.cell? ⟨w9.heap.size, 4, none⟩ = some (.slice VA s.rs.length VC)))
        (first | exact ⟨HA14.out.c5, HB14.out.c5, HX14.out.c5⟩ | exact ⟨HA13.out.c5, HB13.out.c5, HX13.out.c5⟩ | exact ⟨HA12.out.c5, HB12.out.c5, HX12.out.c5⟩ | exact ⟨HA11.out.c5, HB11.out.c5, HX11.out.c5⟩ | exact ⟨HAd.out.c5, HBd.out.c5, HXd.out.c5⟩)
        (first
          | (go_at_call 18; refine (same_any s s _ _ w13 HL1m.out HL1m.out HV13.out HRX13.out).mono ?_; rintro e w14 ⟨c2, rfl, hc2, hb14⟩; obtain rfl : c2 = true := hc2.2 rfl; have HA14 := Lib.hid (HA13.out.on hb14); have HB14 := Lib.hid (HB13.out.on hb14); have HX14 := Lib.hid (HX13.out.on hb14); have HBe := Lib.hid (HBz.out.trans (hb14.mono HBz.out.size)); clear hb14 hc2)
          | (go_at_call 14; refine (madeSet_any s _ w12 HL1k.out HRB12.out).mono ?_; rintro e w13 ⟨V2, rfl, hV2, hb13⟩; obtain ⟨VA2, VC2, rfl⟩ := hV2.form; have HA13 := Lib.hid (HA12.out.on hb13); have HB13 := Lib.hid (HB12.out.on hb13); have HX13 := Lib.hid (HX12.out.on hb13); have HRX13 := Lib.hid (HRX12.out.on hb13); have HV13 := Lib.hid hV2.set; have HBz := Lib.hid (HBy.out.trans (hb13.mono HBy.out.size)); clear hb13 hV2)
          | (go_at_call 18; refine (same_any s s _ _ w11 HL1m.out HL1m.out HV11.out HRX11.out).mono ?_; rintro e w12 ⟨c1, rfl, hc1, hb12⟩; obtain rfl : c1 = true := hc1.2 rfl; have HA12 := Lib.hid (HA11.out.on hb12); have HB12 := Lib.hid (HB11.out.on hb12); have HX12 := Lib.hid (HX11.out.on hb12); have HRB12 := Lib.hid (HRB11.out.on hb12); have HRX12 := Lib.hid (HRX11.out.on hb12); have HBy := Lib.hid (HBx.out.trans (hb12.mono HBx.out.size)); clear hb12 hc1)
          | (go_at_call 14; refine (madeSet_any s _ w10.drew HL1k.out HRAd.out).mono ?_; rintro e w11 ⟨V1, rfl, hV1, hb11⟩; obtain ⟨VA1, VC1, rfl⟩ := hV1.form; have HA11 := Lib.hid (HAd.out.on hb11); have HB11 := Lib.hid (HBd.out.on hb11); have HX11 := Lib.hid (HXd.out.on hb11); have HRB11 := Lib.hid (HRBd.out.on hb11); have HRX11 := Lib.hid (HRXd.out.on hb11); have HV11 := Lib.hid hV1.set; have HBx := Lib.hid (HBw.out.trans (hb11.mono HBw.out.size)); clear hb11 hV1))
      go_wp2
      go_ret
      exact ⟨rfl, HBe.out⟩
    · have H1 := Lib.hid h1
      clear h1
      have hap := (apply_any s ⟨-1, -1, -1, -1, [], []⟩ (.slice A s.rs.length cap) (.slice none 0 0) (.slice none 0 0) w2 (by have := HLn.out; omega) (by simp) (by simp) (by simp) (HS.out.on HB2.out) (RulesV.nil _ _) (row_nil _ _))
      rw [applyM_form H1.out] at hap
      simp only [RS.zero] at hap
      have HAp := Lib.hid hap
      clear hap
      go_wp2_with fail
      refine HAp.out.mono ?_
      rintro e w3 ⟨rv, rfl, hrv, hfar, hb3⟩
      obtain ⟨RA, RAn, RAc, rfl⟩ : ∃ A n c, rv = .slice A n c := by obtain ⟨A, c, h⟩ := hrv.form; exact ⟨_, _, _, h⟩
      have HB3 := Lib.hid (HB2.out.trans (hb3.mono HB2.out.size))
      have HX3 := Lib.hid (HX2.out.on hb3)
      have HD3 := Lib.hid (HD2.out.on hb3)
      have HRA := Lib.hid hrv
      have HFA := Lib.hid hfar
      have HS23 := Lib.hid hb3.size
      have d4 := HD3.out.cell 4
      have g4 := HD3.out.frozen 4
      have x4 := HX3.out.cell 4
      have hld := HD3.out.lt
      have hlx := HX3.out.lt
      clear hrv hfar hb3 HAp y0 y1 y2 y3 y4 y5 x0 x1 x2 x3
      go_upto_region 8 with (fail)
      have hb4 : Below w.heap.size w (w3.setCell ⟨w1.heap.size, 4, none⟩ (.slice A s.rs.length cap)) := HB3.out.setCell (p := ⟨w1.heap.size, 4, none⟩) HB1.out.size _
      have hx4 := HX3.out.far (p := ⟨w1.heap.size, 4, none⟩) (show w.heap.size ≠ w1.heap.size by have := HX1.out.lt; omega) (.slice A s.rs.length cap)
      have hd4 : Blk (w3.setCell ⟨w1.heap.size, 4, none⟩ (.slice A s.rs.length cap)) w1.heap.size 27 #[.int .i64 (-1), .int .i64 (-1), .int .i64 (-1), .int .i64 (-1), .slice A s.rs.length cap, .slice none 0 0] := HD3.out.set_ 4 _
      have hr4 : RulesV (w3.setCell ⟨w1.heap.size, 4, none⟩ (.slice A s.rs.length cap)).heap.size (w3.setCell ⟨w1.heap.size, 4, none⟩ (.slice A s.rs.length cap)) (.slice RA RAn RAc) [] := (HRA.out.store HFA.out HL12.out).more (by simp)
      have hs4 : (w3.setCell ⟨w1.heap.size, 4, none⟩ (.slice A s.rs.length cap)).heap.size = w3.heap.size := by simp
      generalize w3.setCell ⟨w1.heap.size, 4, none⟩ (.slice A s.rs.length cap) = w4 at *
      have hb5 : Below w.heap.size w (w4.alloc (.cells #[.int .i64 0, .int .i64 0, .int .i64 0, .int .i64 0, .slice RA RAn RAc] 24)) := hb4.alloc hb4.size _
      have hx5 := hx4.alloc (.cells #[.int .i64 0, .int .i64 0, .int .i64 0, .int .i64 0, .slice RA RAn RAc] 24)
      have hd5 := hd4.alloc (.cells #[.int .i64 0, .int .i64 0, .int .i64 0, .int .i64 0, .slice RA RAn RAc] 24)
      have ha5 := Blk.new w4 24 #[.int .i64 0, .int .i64 0, .int .i64 0, .int .i64 0, .slice RA RAn RAc]
      rw [hs4] at ha5
      have hr5 := hr4.on ((Below.refl w4.heap.size w4).alloc (Nat.le_refl _) (.cells #[.int .i64 0, .int .i64 0, .int .i64 0, .int .i64 0, .slice RA RAn RAc] 24))
      generalize w4.alloc (.cells #[.int .i64 0, .int .i64 0, .int .i64 0, .int .i64 0, .slice RA RAn RAc] 24) = w5 at *
      have HB5 := Lib.hid hb5
      have HX5 := Lib.hid hx5
      have HA5 := Lib.hid ha5
      have HD5 := Lib.hid hd5
      have HR5 := Lib.hid hr5
      have hap := (apply_any s ⟨-1, -1, -1, -1, s.rs, []⟩ (.slice A s.rs.length cap) (.slice A s.rs.length cap) (.slice none 0 0) w5 (by have := HLn.out; omega) (by have := HLn.out; simp only; omega) (by simp) (by simp) (HS.out.on hb5) (HS.out.on hb5) (row_nil _ _))
      rw [applyM_form H1.out] at hap
      simp only [RS.zero] at hap
      have HAp := Lib.hid hap
      clear hap
      obtain ⟨x0, x1, x2, x3, x4⟩ := hx5.c5
      obtain ⟨y0, y1, y2, y3, y4, y5⟩ := hd5.c6
      clear hs4 hb4 hx4 hd4 hr4 hb5 hx5 ha5 hd5 hr5 d4 g4 hld hlx
      go_wp2_with fail
      refine HAp.out.mono ?_
      rintro e w6 ⟨rv, rfl, hrv, _, hb6⟩
      obtain ⟨RB, RBn, RBc, rfl⟩ : ∃ A n c, rv = .slice A n c := by obtain ⟨A, c, h⟩ := hrv.form; exact ⟨_, _, _, h⟩
      have hb7 : Below w5.heap.size w5 (w6.alloc (.cells #[.int .i64 0, .int .i64 0, .int .i64 0, .int .i64 0, .slice RB RBn RBc] 24)) := hb6.alloc hb6.size _
      have hbb : Blk (w6.alloc (.cells #[.int .i64 0, .int .i64 0, .int .i64 0, .int .i64 0, .slice RB RBn RBc] 24)) w6.heap.size 24 #[.int .i64 0, .int .i64 0, .int .i64 0, .int .i64 0, .slice RB RBn RBc] := Blk.new _ _ _
      have hrb := hrv.on ((Below.refl w6.heap.size w6).alloc (Nat.le_refl _) (.cells #[.int .i64 0, .int .i64 0, .int .i64 0, .int .i64 0, .slice RB RBn RBc] 24))
      have hx6 := (HX5.out.on hb6).c5
      obtain ⟨x0, x1, x2, x3, x4⟩ := hx6
      have hlx := (HX5.out.on hb6).lt
      clear hb6 hrv HAp y0 y1 y2 y3 y4 y5
      go_wp2_with fail
      generalize w6.alloc (.cells #[.int .i64 0, .int .i64 0, .int .i64 0, .int .i64 0, .slice RB RBn RBc] 24) = w7 at *
      have HB7 := Lib.hid (HB5.out.trans (hb7.mono HB5.out.size))
      have HX7 := Lib.hid (HX5.out.on hb7)
      have HA7 := Lib.hid (HA5.out.on hb7)
      have HR7 := Lib.hid (HR5.out.on hb7)
      have HBB := Lib.hid hbb
      have HRB := Lib.hid hrb
      clear hb7 hbb hrb x0 x1 x2 x3 x4 hlx
      refine (setRight_any s _ w7 (by have := HLn.out; omega) (HS.out.on HB7.out)).mono ?_
      rintro e w8 ⟨rfl, hb8⟩
      have HB8 := Lib.hid (HB7.out.trans (hb8.mono HB7.out.size))
      rw [decide_eq_false H1.out]
      clear hb8
      go_wp2
      go_ret
      exact ⟨rfl, HB8.out⟩
  · have hlni : ¬ (s.rs.length : Int) ≤ 40 := by omega
    go_wp2
    go_ret
    exact ⟨rfl, HB1.out⟩

theorem ruleKeeps_law (s : RS) (v : Value) (w : World) (hS : RulesV w.heap.size w v s.rs) :
    Calls Try.prog 8 #[.agg #[.int .i64 s.de, .int .i64 s.cl, .int .i64 s.fu, .int .i64 s.st, v]] w fun e w' => e = .returned (.bool true) ∧ Below w.heap.size w w' := keeps_law s v w hS

end Go.Proofs.Ytdbddbelhgkelaa
