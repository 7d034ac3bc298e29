/- RuleTwice. -/
import Derived.Test.YtdbddbelhgkelaaRuTa
import Derived.Test.YtdbddbelhgkelaaRuTb
import Derived.Test.YtdbddbelhgkelaaRuH
import Derived.Test.YtdbddbelhgkelaaRuU
import Derived.Test.YtdbddbelhgkelaaRuTc
import Derived.Test.YtdbddbelhgkelaaRuL
import Derived.Test.YtdbddbelhgkelaaRuM2
import Derived.Test.YtdbddbelhgkelaaRuN
import Derived.Deep.RegionHeld3
namespace Go.Proofs.Ytdbddbelhgkelaa
open Go.RowKit Go.Maps
variable {w w' : World}

/-- two deltas have no number in common -/
def NoCom (d o : Dl) : Nat → Prop
  | 0 => d.de = -1 ∨ o.de = -1
  | 1 => d.cl = -1 ∨ o.cl = -1
  | 2 => d.fu = -1 ∨ o.fu = -1
  | _ => d.st = -1 ∨ o.st = -1
theorem NoCom.step {d o : Dl} {k : Nat} (h : ∀ j, j < k → NoCom d o j) (h2 : NoCom d o k) : ∀ j, j < k + 1 → NoCom d o j := fun j hj => by
  by_cases e : j = k
  · exact e ▸ h2
  · exact h j (by omega)
theorem take_d {P : Program} {md : Region.Mode} {ops : Array Oper} {Q : Exit → Act → World → Prop} {S : World → Prop} {fuel : Nat} {listed : Array Bool} {a : Act} {w : World} (i d : Nat) (v : Value) (oi : Oper) (hi : ops[i]? = some oi) (hd : oi.dst = some d)
    (hs : Region.noSelect ops = true) (hf : Region.free md ops listed i = true) (hr : (Region.ready md ops listed).contains i = true)
    (hQ : ∀ c a w, Q (.panic c) (a.put oi.dst v) w → Q (.panic c) a w) (hy : YieldsIf P ops S oi v a) (hS : S w)
    (h : wpAnyH P md ops Q S fuel (listed.setIfInBounds i true) { tmps := a.tmps.setIfInBounds d v, defers := a.defers } w) : wpAnyH P md ops Q S (fuel + 1) listed a w :=
  wpAnyH_take hi hs hf hr hQ hy hS (by rw [hd]; exact h)

set_option maxRecDepth 100000 in
set_option maxHeartbeats 16000000 in
theorem twice_law (s : RS) (d o : Dl) (v pv dv pv2 dv2 : Value) (w : World) (hdr : ∀ z ∈ d.drop, (Lit.int .i64 z).wf = true) (hdr2 : ∀ z ∈ o.drop, (Lit.int .i64 z).wf = true)
    (hS : RulesV w.heap.size w v s.rs) (hP : RulesV w.heap.size w pv d.put) (hD : Row w.heap.size w dv (zI d.drop)) (hP2 : RulesV w.heap.size w pv2 o.put) (hD2 : Row w.heap.size w dv2 (zI o.drop)) :
    Calls Try.prog 6 #[.agg #[.int .i64 s.de, .int .i64 s.cl, .int .i64 s.fu, .int .i64 s.st, v], .agg #[.int .i64 d.de, .int .i64 d.cl, .int .i64 d.fu, .int .i64 d.st, pv, dv], .agg #[.int .i64 o.de, .int .i64 o.cl, .int .i64 o.fu, .int .i64 o.st, pv2, dv2]] w fun e w' => e = .returned (.bool true) ∧ Below w.heap.size w w' := by
  obtain ⟨A, cap, rfl⟩ := hS.form
  obtain ⟨P1, pc1, rfl⟩ := hP.form
  obtain ⟨Q1, qc1, rfl⟩ : ∃ A c, dv = .slice A d.drop.length c := by obtain ⟨A, c, h, _⟩ := hD; exact ⟨A, c, by simpa [zI] using h⟩
  obtain ⟨P2, pc2, rfl⟩ := hP2.form
  obtain ⟨Q2, qc2, rfl⟩ : ∃ A c, dv2 = .slice A o.drop.length c := by obtain ⟨A, c, h, _⟩ := hD2; exact ⟨A, c, by simpa [zI] using h⟩
  have HS := Lib.hid hS
  have HP := Lib.hid hP
  have HD := Lib.hid hD
  have HP2 := Lib.hid hP2
  have HD2 := Lib.hid hD2
  have HDr := Lib.hid hdr
  have HDr2 := Lib.hid hdr2
  clear hS hP hD hdr hP2 hD2 hdr2
  go_enter Try.func6, Try.ntmps6
  go_wp2_with fail
  have hb0 : Below w.heap.size w (((w.alloc (.cells #[.int .i64 s.de, .int .i64 s.cl, .int .i64 s.fu, .int .i64 s.st, .slice A s.rs.length cap] 24)).alloc (.cells #[.int .i64 d.de, .int .i64 d.cl, .int .i64 d.fu, .int .i64 d.st, .slice P1 d.put.length pc1, .slice Q1 d.drop.length qc1] 27)).alloc (.cells #[.int .i64 o.de, .int .i64 o.cl, .int .i64 o.fu, .int .i64 o.st, .slice P2 o.put.length pc2, .slice Q2 o.drop.length qc2] 27)) := (((Below.refl _ _).alloc (Nat.le_refl _) _).alloc (by simp) _).alloc (by simp; omega) _
  have hs0 : Blk (((w.alloc (.cells #[.int .i64 s.de, .int .i64 s.cl, .int .i64 s.fu, .int .i64 s.st, .slice A s.rs.length cap] 24)).alloc (.cells #[.int .i64 d.de, .int .i64 d.cl, .int .i64 d.fu, .int .i64 d.st, .slice P1 d.put.length pc1, .slice Q1 d.drop.length qc1] 27)).alloc (.cells #[.int .i64 o.de, .int .i64 o.cl, .int .i64 o.fu, .int .i64 o.st, .slice P2 o.put.length pc2, .slice Q2 o.drop.length qc2] 27)) w.heap.size 24 #[.int .i64 s.de, .int .i64 s.cl, .int .i64 s.fu, .int .i64 s.st, .slice A s.rs.length cap] := ((Blk.new _ _ _).alloc _).alloc _
  have hd0 : Blk (((w.alloc (.cells #[.int .i64 s.de, .int .i64 s.cl, .int .i64 s.fu, .int .i64 s.st, .slice A s.rs.length cap] 24)).alloc (.cells #[.int .i64 d.de, .int .i64 d.cl, .int .i64 d.fu, .int .i64 d.st, .slice P1 d.put.length pc1, .slice Q1 d.drop.length qc1] 27)).alloc (.cells #[.int .i64 o.de, .int .i64 o.cl, .int .i64 o.fu, .int .i64 o.st, .slice P2 o.put.length pc2, .slice Q2 o.drop.length qc2] 27)) (w.heap.size + 1) 27 #[.int .i64 d.de, .int .i64 d.cl, .int .i64 d.fu, .int .i64 d.st, .slice P1 d.put.length pc1, .slice Q1 d.drop.length qc1] := (Blk.at_new _ _ (by simp) _ _).alloc _
  have he0 : Blk (((w.alloc (.cells #[.int .i64 s.de, .int .i64 s.cl, .int .i64 s.fu, .int .i64 s.st, .slice A s.rs.length cap] 24)).alloc (.cells #[.int .i64 d.de, .int .i64 d.cl, .int .i64 d.fu, .int .i64 d.st, .slice P1 d.put.length pc1, .slice Q1 d.drop.length qc1] 27)).alloc (.cells #[.int .i64 o.de, .int .i64 o.cl, .int .i64 o.fu, .int .i64 o.st, .slice P2 o.put.length pc2, .slice Q2 o.drop.length qc2] 27)) (w.heap.size + 2) 27 #[.int .i64 o.de, .int .i64 o.cl, .int .i64 o.fu, .int .i64 o.st, .slice P2 o.put.length pc2, .slice Q2 o.drop.length qc2] := Blk.at_new _ _ (by simp) _ _
  generalize ((w.alloc (.cells #[.int .i64 s.de, .int .i64 s.cl, .int .i64 s.fu, .int .i64 s.st, .slice A s.rs.length cap] 24)).alloc (.cells #[.int .i64 d.de, .int .i64 d.cl, .int .i64 d.fu, .int .i64 d.st, .slice P1 d.put.length pc1, .slice Q1 d.drop.length qc1] 27)).alloc (.cells #[.int .i64 o.de, .int .i64 o.cl, .int .i64 o.fu, .int .i64 o.st, .slice P2 o.put.length pc2, .slice Q2 o.drop.length qc2] 27) = w0 at *
  refine (anchor7_any w0).mono ?_
  rintro e w1 ⟨rfl, hb1⟩
  have HB1 := Lib.hid (hb0.trans (hb1.mono hb0.size))
  have SX1 := Lib.hid (hs0.on hb1)
  have DX1 := Lib.hid (hd0.on hb1)
  have EX1 := Lib.hid (he0.on hb1)
  clear hb0 hs0 hd0 he0 hb1
  obtain ⟨a0, a1, a2, a3, a4⟩ := SX1.out.c5
  obtain ⟨b0, b1, b2, b3, b4, b5⟩ := DX1.out.c6
  go_wp2_with fail
  refine (small_any _ _ _ _ _ _ _ _ A P1 Q1 s.rs.length d.put.length d.drop.length cap pc1 qc1 w1).mono ?_
  rintro e w2 ⟨rfl, hb2⟩
  have HB2 := Lib.hid (HB1.out.trans (hb2.mono HB1.out.size))
  have SX2 := Lib.hid (SX1.out.on hb2)
  have DX2 := Lib.hid (DX1.out.on hb2)
  have EX2 := Lib.hid (EX1.out.on hb2)
  clear hb2 a0 a1 a2 a3 a4 b0 b1 b2 b3 b4 b5
  by_cases hsm : s.rs.length ≤ 40 ∧ d.put.length ≤ 40 ∧ d.drop.length ≤ 40
  · rw [decide_eq_true hsm]
    have HSm := Lib.hid hsm
    clear hsm
    obtain ⟨a0, a1, a2, a3, a4⟩ := SX2.out.c5
    obtain ⟨b0, b1, b2, b3, b4, b5⟩ := EX2.out.c6
    go_wp2_with fail
    refine (small_any _ _ _ _ _ _ _ _ A P2 Q2 s.rs.length o.put.length o.drop.length cap pc2 qc2 w2).mono ?_
    rintro e w3 ⟨rfl, hb3⟩
    have HB3 := Lib.hid (HB2.out.trans (hb3.mono HB2.out.size))
    have SX3 := Lib.hid (SX2.out.on hb3)
    have DX3 := Lib.hid (DX2.out.on hb3)
    have EX3 := Lib.hid (EX2.out.on hb3)
    clear hb3 a0 a1 a2 a3 a4 b0 b1 b2 b3 b4 b5
    by_cases hsm : s.rs.length ≤ 40 ∧ o.put.length ≤ 40 ∧ o.drop.length ≤ 40
    · rw [decide_eq_true hsm]
      have HSm2 := Lib.hid hsm
      clear hsm
      obtain ⟨a0, a1, a2, a3, a4⟩ := SX3.out.c5
      obtain ⟨b0, b1, b2, b3, b4, b5⟩ := DX3.out.c6
      have hap := apply_any s d (.slice A s.rs.length cap) (.slice P1 d.put.length pc1) (.slice Q1 d.drop.length qc1) w3 (by have := HSm.out; omega) (by have := HSm.out; omega) (by have := HSm.out; omega) HDr.out (HS.out.on HB3.out) (HP.out.on HB3.out) ((HD.out.below HB3.out).more HB3.out.size)
      by_cases h0 : (applyM s d).2 = 0
      · have HT := Lib.hid (taken_iff.1 h0)
        rw [taken_eq HT.out] at hap
        obtain ⟨t, ht⟩ : ∃ t : RS, { nums s d with rs := after s d } = t := ⟨_, rfl⟩
        rw [ht] at hap
        have HTe := Lib.hid ht
        have HT16 : Hid (t.rs.length ≤ 16) := Lib.hid (by rw [← ht]; exact HT.out.few)
        have hsame : d.drop = [] → applyM t d = (t, 0) := fun h => by rw [← ht]; exact twice_same HT.out h
        have HSame0 := Lib.hid hsame
        have HAp := Lib.hid hap
        clear hap h0 ht hsame
        go_wp2_with fail
        refine HAp.out.mono ?_
        clear HAp
        rintro e w4 ⟨rv, rfl, hrv, hfar, hb4⟩
        obtain ⟨TA, TC, rfl⟩ := hrv.form
        have hb5 : Below w4.heap.size w4 (w4.alloc (.cells #[.int .i64 t.de, .int .i64 t.cl, .int .i64 t.fu, .int .i64 t.st, .slice TA t.rs.length TC] 24)) := (Below.refl _ _).alloc (Nat.le_refl _) _
        have ht5 : Blk (w4.alloc (.cells #[.int .i64 t.de, .int .i64 t.cl, .int .i64 t.fu, .int .i64 t.st, .slice TA t.rs.length TC] 24)) w4.heap.size 24 #[.int .i64 t.de, .int .i64 t.cl, .int .i64 t.fu, .int .i64 t.st, .slice TA t.rs.length TC] := Blk.new _ _ _
        have HB4 := Lib.hid (HB3.out.trans (hb4.mono HB3.out.size))
        have TR4 := Lib.hid hrv
        have SX4 := Lib.hid (SX3.out.on hb4)
        have DX4 := Lib.hid (DX3.out.on hb4)
        have EX4 := Lib.hid (EX3.out.on hb4)
        clear hrv hfar hb4 a0 a1 a2 a3 a4 b0 b1 b2 b3 b4 b5
        obtain ⟨b0, b1, b2, b3, b4, b5⟩ := DX4.out.c6
        have hld := DX4.out.lt
        go_wp2_with fail
        generalize w4.alloc (.cells #[.int .i64 t.de, .int .i64 t.cl, .int .i64 t.fu, .int .i64 t.st, .slice TA t.rs.length TC] 24) = w5 at *
        have HB5 := Lib.hid (HB4.out.trans (hb5.mono HB4.out.size))
        have TX5 := Lib.hid ht5
        have TR5 := Lib.hid (TR4.out.on hb5)
        have SX5 := Lib.hid (SX4.out.on hb5)
        have DX5 := Lib.hid (DX4.out.on hb5)
        have EX5 := Lib.hid (EX4.out.on hb5)
        clear hb5 ht5 b0 b1 b2 b3 b4 b5 hld
        have hap := apply_any t d (.slice TA t.rs.length TC) (.slice P1 d.put.length pc1) (.slice Q1 d.drop.length qc1) w5 (by have := HT16.out; omega) (by have := HSm.out; omega) (by have := HSm.out; omega) HDr.out TR5.out (HP.out.on HB5.out) ((HD.out.below HB5.out).more HB5.out.size)
        obtain ⟨U, hU⟩ : ∃ U, applyM t d = U := ⟨_, rfl⟩
        have hsame := HSame0.out
        rw [hU] at hap hsame
        have HSame := Lib.hid hsame
        clear hsame hU
        refine hap.mono ?_
        clear hap
        rintro e w6 ⟨rv, rfl, hrv, hfar, hb6⟩
        obtain ⟨UA, UC, rfl⟩ := hrv.form
        have HB6 := Lib.hid (HB5.out.trans (hb6.mono HB5.out.size))
        have TX6 := Lib.hid (TX5.out.on hb6)
        have TR6 := Lib.hid (TR5.out.on hb6)
        have SX6 := Lib.hid (SX5.out.on hb6)
        have DX6 := Lib.hid (DX5.out.on hb6)
        have EX6 := Lib.hid (EX5.out.on hb6)
        have UR6 := Lib.hid hrv
        clear hb6 hfar hrv
        go_wp2_with fail
        have hb7 : Below w6.heap.size w6 (w6.alloc (.cells #[.int .i64 U.1.de, .int .i64 U.1.cl, .int .i64 U.1.fu, .int .i64 U.1.st, .slice UA U.1.rs.length UC] 24)) := (Below.refl _ _).alloc (Nat.le_refl _) _
        have hu7 : Blk (w6.alloc (.cells #[.int .i64 U.1.de, .int .i64 U.1.cl, .int .i64 U.1.fu, .int .i64 U.1.st, .slice UA U.1.rs.length UC] 24)) w6.heap.size 24 #[.int .i64 U.1.de, .int .i64 U.1.cl, .int .i64 U.1.fu, .int .i64 U.1.st, .slice UA U.1.rs.length UC] := Blk.new _ _ _
        generalize w6.alloc (.cells #[.int .i64 U.1.de, .int .i64 U.1.cl, .int .i64 U.1.fu, .int .i64 U.1.st, .slice UA U.1.rs.length UC] 24) = w7 at *
        have UX7 := Lib.hid hu7
        have HB7 := Lib.hid (HB6.out.trans (hb7.mono HB6.out.size))
        have TX7 := Lib.hid (TX6.out.on hb7)
        have TR7 := Lib.hid (TR6.out.on hb7)
        have SX7 := Lib.hid (SX6.out.on hb7)
        have DX7 := Lib.hid (DX6.out.on hb7)
        have EX7 := Lib.hid (EX6.out.on hb7)
        have UR7 := Lib.hid (UR6.out.on hb7)
        clear hb7 hu7
        have b5 := DX7.out.cell 5
        have hld := DX7.out.lt
        go_cut [64] from 34 (fun s64 W => s64 = .bool false ∧ Hid (Blk W w.heap.size 24 #[.int .i64 s.de, .int .i64 s.cl, .int .i64 s.fu, .int .i64 s.st, .slice A s.rs.length cap]) ∧ Hid (Blk W (w.heap.size + 1) 27 #[.int .i64 d.de, .int .i64 d.cl, .int .i64 d.fu, .int .i64 d.st, .slice P1 d.put.length pc1, .slice Q1 d.drop.length qc1]) ∧ Hid (Blk W (w.heap.size + 2) 27 #[.int .i64 o.de, .int .i64 o.cl, .int .i64 o.fu, .int .i64 o.st, .slice P2 o.put.length pc2, .slice Q2 o.drop.length qc2]) ∧ Hid (Blk W w4.heap.size 24 #[.int .i64 t.de, .int .i64 t.cl, .int .i64 t.fu, .int .i64 t.st, .slice TA t.rs.length TC]) ∧ Hid (RulesV W.heap.size W (.slice TA t.rs.length TC) t.rs) ∧ Hid (Below w.heap.size w W))
        case first =>
          rename_i J K' hJ hK'
          by_cases hd0 : d.drop = []
          · obtain rfl := HSame.out hd0
            have hl0 : (d.drop.length : Int) = 0 := by simp [hd0]
            clear hd0
            have HL1k : Hid (t.rs.length ≤ 1000) := Lib.hid (by have := HT16.out; omega)
            have HL1m : Hid (t.rs.length ≤ 1000000) := Lib.hid (by have := HT16.out; omega)
            have HDd : Hid (Blk w7.drew (w.heap.size + 1) 27 #[.int .i64 d.de, .int .i64 d.cl, .int .i64 d.fu, .int .i64 d.st, .slice P1 d.put.length pc1, .slice Q1 d.drop.length qc1]) := DX7
            have HTd : Hid (Blk w7.drew w4.heap.size 24 #[.int .i64 t.de, .int .i64 t.cl, .int .i64 t.fu, .int .i64 t.st, .slice TA t.rs.length TC]) := TX7
            have HUd : Hid (Blk w7.drew w6.heap.size 24 #[.int .i64 t.de, .int .i64 t.cl, .int .i64 t.fu, .int .i64 t.st, .slice UA t.rs.length UC]) := UX7
            have HTRd : Hid (RulesV w7.drew.heap.size w7.drew (.slice TA t.rs.length TC) t.rs) := TR7
            have HURd : Hid (RulesV w7.drew.heap.size w7.drew (.slice UA t.rs.length UC) t.rs) := UR7
            have HBd : Hid (Below w7.heap.size w7 w7.drew) := Lib.hid (Below.refl _ _).drew
            go_region_held3 (fun W => W.cell? ⟨w.heap.size + 1, 5, none⟩ = some (.slice Q1 d.drop.length qc1) ∧ (W.cell? ⟨w4.heap.size, 0, none⟩ = some (.int .i64 t.de) ∧ W.cell? ⟨w4.heap.size, 1, none⟩ = some (.int .i64 t.cl) ∧ W.cell? ⟨w4.heap.size, 2, none⟩ = some (.int .i64 t.fu) ∧ W.cell? ⟨w4.heap.size, 3, none⟩ = some (.int .i64 t.st) ∧ W.cell? ⟨w4.heap.size, 4, none⟩ = some (.slice TA t.rs.length TC)) ∧ (W.cell? ⟨w6.heap.size, 0, none⟩ = some (.int .i64 t.de) ∧ W.cell? ⟨w6.heap.size, 1, none⟩ = some (.int .i64 t.cl) ∧ W.cell? ⟨w6.heap.size, 2, none⟩ = some (.int .i64 t.fu) ∧ W.cell? ⟨w6.heap.size, 3, none⟩ = some (.int .i64 t.st) ∧ W.cell? ⟨w6.heap.size, 4, none⟩ = some (.slice UA t.rs.length UC)))
              (first | exact ⟨HD13.out.cell 5, HT13.out.c5, HU13.out.c5⟩ | exact ⟨HD12.out.cell 5, HT12.out.c5, HU12.out.c5⟩ | exact ⟨HD11.out.cell 5, HT11.out.c5, HU11.out.c5⟩ | exact ⟨HDd.out.cell 5, HTd.out.c5, HUd.out.c5⟩)
              (first
                | (go_at_call 18; refine (same_any t t _ _ w12 HL1m.out HL1m.out HV12.out HV22.out).mono ?_; rintro e w13 ⟨c1, rfl, hc1, hb13⟩; obtain rfl : c1 = true := hc1.2 rfl; have HD13 := Lib.hid (HD12.out.on hb13); have HT13 := Lib.hid (HT12.out.on hb13); have HU13 := Lib.hid (HU12.out.on hb13); have HBz := Lib.hid (HBy.out.trans (hb13.mono HBy.out.size)); clear hb13 hc1)
                | (go_at_call 14; refine (madeSet_any t _ w11 HL1k.out HUR11.out).mono ?_; rintro e w12 ⟨V2, rfl, hV2, hb12⟩; obtain ⟨VA2, VC2, rfl⟩ := OwnU.form hV2; have HD12 := Lib.hid (HD11.out.on hb12); have HT12 := Lib.hid (HT11.out.on hb12); have HU12 := Lib.hid (HU11.out.on hb12); have HV12 := Lib.hid (HV11.out.on hb12); have HV22 := Lib.hid (OwnU.set hV2); have HBy := Lib.hid (HBx.out.trans (hb12.mono HBx.out.size)); clear hb12 hV2)
                | (go_at_call 14; refine (madeSet_any t _ w7.drew HL1k.out HTRd.out).mono ?_; rintro e w11 ⟨V1, rfl, hV1, hb11⟩; obtain ⟨VA1, VC1, rfl⟩ := OwnU.form hV1; have HD11 := Lib.hid (HDd.out.on hb11); have HT11 := Lib.hid (HTd.out.on hb11); have HU11 := Lib.hid (HUd.out.on hb11); have HUR11 := Lib.hid (HURd.out.on hb11); have HV11 := Lib.hid (OwnU.set hV1); have HBx := Lib.hid (HBd.out.trans (hb11.mono HBd.out.size)); clear hb11 hV1))
            all_goals
              refine hK' _ _ (Met.intro (hJ _ _ ?_))
              (repeat apply Exists.intro)
              refine ⟨?_, rfl⟩
              exact ⟨rfl, Lib.hid (SX7.out.on HBz.out), Lib.hid (DX7.out.on HBz.out), Lib.hid (EX7.out.on HBz.out), Lib.hid (TX7.out.on HBz.out), Lib.hid (TR7.out.on HBz.out), Lib.hid (HB7.out.trans (HBz.out.mono HB7.out.size))⟩
          · have hl0 : ¬ (d.drop.length : Int) = 0 := fun h => hd0 (List.length_eq_zero_iff.1 (by omega))
            have hlb : ((d.drop.length : Int) == 0) = false := by simpa using hd0
            have HDd : Hid (Blk w7.drew (w.heap.size + 1) 27 #[.int .i64 d.de, .int .i64 d.cl, .int .i64 d.fu, .int .i64 d.st, .slice P1 d.put.length pc1, .slice Q1 d.drop.length qc1]) := DX7
            clear hd0
            refine wp_region_held_drew (S := fun W => W.cell? ⟨w.heap.size + 1, 5, none⟩ = some (.slice Q1 d.drop.length qc1)) (by kernel_rfl) (HDd.out.cell 5) (fun hHeld => ?_)
            refine take_d 0 49 (.pointer (some ⟨w.heap.size + 1, 5, none⟩)) _ rfl rfl (by kernel_rfl) (by kernel_rfl) (by kernel_rfl) (fun _ _ _ h => h) (Or.inl ⟨by rfl, fun w' hSw => ?_⟩) hHeld ?_
            · go_simp
            simp only [List.setIfInBounds_toArray, List.set_cons_zero, List.set_cons_succ]
            refine take_d 1 50 (.slice Q1 d.drop.length qc1) _ rfl rfl (by kernel_rfl) (by kernel_rfl) (by kernel_rfl) (fun _ _ _ h => h) (Or.inl ⟨by rfl, fun w' hSw => ?_⟩) hHeld ?_
            · go_simp
            simp only [List.setIfInBounds_toArray, List.set_cons_zero, List.set_cons_succ]
            refine take_d 2 51 (.int .i64 d.drop.length) _ rfl rfl (by kernel_rfl) (by kernel_rfl) (by kernel_rfl) (fun _ _ _ h => h) (Or.inl ⟨by rfl, fun w' hSw => ?_⟩) hHeld ?_
            · go_simp
            simp only [List.setIfInBounds_toArray, List.set_cons_zero, List.set_cons_succ]
            refine take_d 3 52 (.bool false) _ rfl rfl (by kernel_rfl) (by kernel_rfl) (by kernel_rfl) (fun _ _ _ h => h) (Or.inl ⟨by rfl, fun w' hSw => ?_⟩) hHeld ?_
            · go_simp
            simp only [List.setIfInBounds_toArray, List.set_cons_zero, List.set_cons_succ]
            refine take_d 4 53 (.bool false) _ rfl rfl (by kernel_rfl) (by kernel_rfl) (by kernel_rfl) (fun _ _ _ h => h) (Or.inl ⟨by rfl, fun w' hSw => ?_⟩) hHeld ?_
            · go_simp
            simp only [List.setIfInBounds_toArray, List.set_cons_zero, List.set_cons_succ]
            refine take_d 5 54 undef _ rfl rfl (by kernel_rfl) (by kernel_rfl) (by kernel_rfl) (fun _ _ _ h => h) (Or.inr ⟨by rfl, rfl⟩) hHeld ?_
            simp only [List.setIfInBounds_toArray, List.set_cons_zero, List.set_cons_succ]
            refine take_d 6 55 undef _ rfl rfl (by kernel_rfl) (by kernel_rfl) (by kernel_rfl) (fun _ _ _ h => h) (Or.inr ⟨by rfl, rfl⟩) hHeld ?_
            simp only [List.setIfInBounds_toArray, List.set_cons_zero, List.set_cons_succ]
            refine take_d 7 56 undef _ rfl rfl (by kernel_rfl) (by kernel_rfl) (by kernel_rfl) (fun _ _ _ h => h) (Or.inr ⟨by rfl, rfl⟩) hHeld ?_
            simp only [List.setIfInBounds_toArray, List.set_cons_zero, List.set_cons_succ]
            refine take_d 8 57 undef _ rfl rfl (by kernel_rfl) (by kernel_rfl) (by kernel_rfl) (fun _ _ _ h => h) (Or.inr ⟨by rfl, rfl⟩) hHeld ?_
            simp only [List.setIfInBounds_toArray, List.set_cons_zero, List.set_cons_succ]
            refine take_d 9 58 undef _ rfl rfl (by kernel_rfl) (by kernel_rfl) (by kernel_rfl) (fun _ _ _ h => h) (Or.inr ⟨by rfl, rfl⟩) hHeld ?_
            simp only [List.setIfInBounds_toArray, List.set_cons_zero, List.set_cons_succ]
            refine take_d 10 59 undef _ rfl rfl (by kernel_rfl) (by kernel_rfl) (by kernel_rfl) (fun _ _ _ h => h) (Or.inr ⟨by rfl, rfl⟩) hHeld ?_
            simp only [List.setIfInBounds_toArray, List.set_cons_zero, List.set_cons_succ]
            refine take_d 11 60 undef _ rfl rfl (by kernel_rfl) (by kernel_rfl) (by kernel_rfl) (fun _ _ _ h => h) (Or.inr ⟨by rfl, rfl⟩) hHeld ?_
            simp only [List.setIfInBounds_toArray, List.set_cons_zero, List.set_cons_succ]
            refine take_d 12 61 undef _ rfl rfl (by kernel_rfl) (by kernel_rfl) (by kernel_rfl) (fun _ _ _ h => h) (Or.inr ⟨by rfl, rfl⟩) hHeld ?_
            simp only [List.setIfInBounds_toArray, List.set_cons_zero, List.set_cons_succ]
            refine take_d 13 62 undef _ rfl rfl (by kernel_rfl) (by kernel_rfl) (by kernel_rfl) (fun _ _ _ h => h) (Or.inr ⟨by rfl, rfl⟩) hHeld ?_
            simp only [List.setIfInBounds_toArray, List.set_cons_zero, List.set_cons_succ]
            refine take_d 14 63 undef _ rfl rfl (by kernel_rfl) (by kernel_rfl) (by kernel_rfl) (fun _ _ _ h => h) (Or.inr ⟨by rfl, rfl⟩) hHeld ?_
            simp only [List.setIfInBounds_toArray, List.set_cons_zero, List.set_cons_succ]
            refine take_d 15 64 (.bool false) _ rfl rfl (by kernel_rfl) (by kernel_rfl) (by kernel_rfl) (fun _ _ _ h => h) (Or.inl ⟨by rfl, fun w' hSw => ?_⟩) hHeld ?_
            · go_simp
            simp only [List.setIfInBounds_toArray, List.set_cons_zero, List.set_cons_succ]
            refine wpAnyH_done (by kernel_rfl) ?_ _
            clear hHeld
            all_goals
              refine hK' _ _ (Met.intro (hJ _ _ ?_))
              (repeat apply Exists.intro)
              refine ⟨?_, rfl⟩
              exact ⟨rfl, SX7, DX7, EX7, TX7, TR7, Lib.hid HB7.out.drew⟩
        case rest =>
          obtain ⟨hs64, SXc, DXc, EXc, TXc, TRc, HBc⟩ := hcut
          subst hs64
          obtain ⟨b0, b1, b2, b3, b4, b5⟩ := DXc.out.c6
          obtain ⟨e0, e1, e2, e3, e4, e5⟩ := EXc.out.c6
          go_wp2_with fail
          clear b0 b1 b2 b3 b4 b5 e0 e1 e2 e3 e4 e5
          have hrefl : Below wc.heap.size wc wc := Below.refl _ _
          rename World => wq
          go_loopw [86] (fun i wr => ∃ k : Nat, k ≤ 4 ∧ i = .int .i64 k ∧ Hid (∀ j, j < k → NoCom d o j) ∧ Below wq.heap.size wq wr) (fun i _ => 4 - (intOf i).toNat)
          case atStart => exact ⟨0, Nat.zero_le _, rfl, Lib.hid (by omega), hrefl⟩
          case round =>
            obtain ⟨k, hk, rfl, HN, hbel⟩ := hrel
            have HBl := Lib.hid hbel
            by_cases hlt : k < 4
            · rcases (by omega : k = 0 ∨ k = 1 ∨ k = 2 ∨ k = 3) with rfl | rfl | rfl | rfl
              · have ix := run_ix0
                by_cases h1 : d.de = -1
                · go_wp2
                  go_roundw
                  case rel => exact ⟨0 + 1, by omega, by go_num, Lib.hid (NoCom.step HN.out (.inl h1)), hbel.alloc hbel.size _⟩
                  case measure => simp [intOf]
                · by_cases h2 : o.de = -1
                  · have HH := Lib.hid h2
                    have hb1 : (o.de == -1) = true := by simpa using h2
                    have hb2 : (o.de != -1) = false := by simp [h2]
                    have hb3 : decide (o.de = -1) = true := decide_eq_true h2
                    have hb4 : (!decide (o.de = -1)) = false := by simp [h2]
                    clear h2
                    go_wp2
                    go_roundw
                    case rel => exact ⟨0 + 1, by omega, by go_num, Lib.hid (NoCom.step HN.out (.inr HH.out)), hbel.alloc hbel.size _⟩
                    case measure => simp [intOf]
                  · have ha1 : (d.de == -1) = false := by simpa using h1
                    have ha2 : (d.de != -1) = true := by simpa using h1
                    have ha3 : decide (d.de = -1) = false := decide_eq_false h1
                    have hb1 : (o.de == -1) = false := by simpa using h2
                    have hb2 : (o.de != -1) = true := by simpa using h2
                    have hb3 : decide (o.de = -1) = false := decide_eq_false h2
                    have hb4 : ¬ (!decide (o.de = -1)) = false := by simp [h2]
                    go_wp2
                    go_ret
                    exact ⟨rfl, HBc.out.trans ((HBl.out.alloc HBl.out.size _).mono HBc.out.size)⟩
              · have ix := run_ix1
                by_cases h1 : d.cl = -1
                · go_wp2
                  go_roundw
                  case rel => exact ⟨1 + 1, by omega, by go_num, Lib.hid (NoCom.step HN.out (.inl h1)), hbel.alloc hbel.size _⟩
                  case measure => simp [intOf]
                · by_cases h2 : o.cl = -1
                  · have HH := Lib.hid h2
                    have hb1 : (o.cl == -1) = true := by simpa using h2
                    have hb2 : (o.cl != -1) = false := by simp [h2]
                    have hb3 : decide (o.cl = -1) = true := decide_eq_true h2
                    have hb4 : (!decide (o.cl = -1)) = false := by simp [h2]
                    clear h2
                    go_wp2
                    go_roundw
                    case rel => exact ⟨1 + 1, by omega, by go_num, Lib.hid (NoCom.step HN.out (.inr HH.out)), hbel.alloc hbel.size _⟩
                    case measure => simp [intOf]
                  · have ha1 : (d.cl == -1) = false := by simpa using h1
                    have ha2 : (d.cl != -1) = true := by simpa using h1
                    have ha3 : decide (d.cl = -1) = false := decide_eq_false h1
                    have hb1 : (o.cl == -1) = false := by simpa using h2
                    have hb2 : (o.cl != -1) = true := by simpa using h2
                    have hb3 : decide (o.cl = -1) = false := decide_eq_false h2
                    have hb4 : ¬ (!decide (o.cl = -1)) = false := by simp [h2]
                    go_wp2
                    go_ret
                    exact ⟨rfl, HBc.out.trans ((HBl.out.alloc HBl.out.size _).mono HBc.out.size)⟩
              · have ix := run_ix2
                by_cases h1 : d.fu = -1
                · go_wp2
                  go_roundw
                  case rel => exact ⟨2 + 1, by omega, by go_num, Lib.hid (NoCom.step HN.out (.inl h1)), hbel.alloc hbel.size _⟩
                  case measure => simp [intOf]
                · by_cases h2 : o.fu = -1
                  · have HH := Lib.hid h2
                    have hb1 : (o.fu == -1) = true := by simpa using h2
                    have hb2 : (o.fu != -1) = false := by simp [h2]
                    have hb3 : decide (o.fu = -1) = true := decide_eq_true h2
                    have hb4 : (!decide (o.fu = -1)) = false := by simp [h2]
                    clear h2
                    go_wp2
                    go_roundw
                    case rel => exact ⟨2 + 1, by omega, by go_num, Lib.hid (NoCom.step HN.out (.inr HH.out)), hbel.alloc hbel.size _⟩
                    case measure => simp [intOf]
                  · have ha1 : (d.fu == -1) = false := by simpa using h1
                    have ha2 : (d.fu != -1) = true := by simpa using h1
                    have ha3 : decide (d.fu = -1) = false := decide_eq_false h1
                    have hb1 : (o.fu == -1) = false := by simpa using h2
                    have hb2 : (o.fu != -1) = true := by simpa using h2
                    have hb3 : decide (o.fu = -1) = false := decide_eq_false h2
                    have hb4 : ¬ (!decide (o.fu = -1)) = false := by simp [h2]
                    go_wp2
                    go_ret
                    exact ⟨rfl, HBc.out.trans ((HBl.out.alloc HBl.out.size _).mono HBc.out.size)⟩
              · have ix := run_ix3
                by_cases h1 : d.st = -1
                · go_wp2
                  go_roundw
                  case rel => exact ⟨3 + 1, by omega, by go_num, Lib.hid (NoCom.step HN.out (.inl h1)), hbel.alloc hbel.size _⟩
                  case measure => simp [intOf]
                · by_cases h2 : o.st = -1
                  · have HH := Lib.hid h2
                    have hb1 : (o.st == -1) = true := by simpa using h2
                    have hb2 : (o.st != -1) = false := by simp [h2]
                    have hb3 : decide (o.st = -1) = true := decide_eq_true h2
                    have hb4 : (!decide (o.st = -1)) = false := by simp [h2]
                    clear h2
                    go_wp2
                    go_roundw
                    case rel => exact ⟨3 + 1, by omega, by go_num, Lib.hid (NoCom.step HN.out (.inr HH.out)), hbel.alloc hbel.size _⟩
                    case measure => simp [intOf]
                  · have ha1 : (d.st == -1) = false := by simpa using h1
                    have ha2 : (d.st != -1) = true := by simpa using h1
                    have ha3 : decide (d.st = -1) = false := decide_eq_false h1
                    have hb1 : (o.st == -1) = false := by simpa using h2
                    have hb2 : (o.st != -1) = true := by simpa using h2
                    have hb3 : decide (o.st = -1) = false := decide_eq_false h2
                    have hb4 : ¬ (!decide (o.st = -1)) = false := by simp [h2]
                    go_wp2
                    go_ret
                    exact ⟨rfl, HBc.out.trans ((HBl.out.alloc HBl.out.size _).mono HBc.out.size)⟩
            · obtain rfl : k = 4 := by omega
              clear hlt hbel
              have HNo : Hid ((d.de = -1 ∨ o.de = -1) ∧ (d.cl = -1 ∨ o.cl = -1) ∧ (d.fu = -1 ∨ o.fu = -1) ∧ (d.st = -1 ∨ o.st = -1)) := Lib.hid ⟨HN.out 0 (by omega), HN.out 1 (by omega), HN.out 2 (by omega), HN.out 3 (by omega)⟩
              have SX8 := Lib.hid (SXc.out.on HBl.out)
              have DX8 := Lib.hid (DXc.out.on HBl.out)
              have EX8 := Lib.hid (EXc.out.on HBl.out)
              have TX8 := Lib.hid (TXc.out.on HBl.out)
              have TR8 := Lib.hid (TRc.out.on HBl.out)
              have HB8 := Lib.hid (HBc.out.trans (HBl.out.mono HBc.out.size))
              obtain ⟨b0, b1, b2, b3, b4, b5⟩ := DX8.out.c6
              rename World => w8
              go_wp2_with fail
              refine (ids_any d (.slice P1 d.put.length pc1) (.slice Q1 d.drop.length qc1) w8 (by have := HSm.out; omega) (by have := HSm.out; omega) (HP.out.on HB8.out) ((HD.out.below HB8.out).more HB8.out.size)).mono ?_
              rintro e w9 ⟨iv, rfl, hiv, hb9⟩
              obtain ⟨L1, hL1⟩ : ∃ L, d.drop ++ d.put.map Ru.id = L := ⟨_, rfl⟩
              obtain ⟨L2, hL2⟩ : ∃ L, o.drop ++ o.put.map Ru.id = L := ⟨_, rfl⟩
              rw [hL1] at hiv
              have HL1 := Lib.hid hL1
              have HL2 := Lib.hid hL2
              clear hL1 hL2
              obtain ⟨IA, IC, rfl⟩ := hiv.form
              have SX9 := Lib.hid (SX8.out.on hb9)
              have DX9 := Lib.hid (DX8.out.on hb9)
              have EX9 := Lib.hid (EX8.out.on hb9)
              have TX9 := Lib.hid (TX8.out.on hb9)
              have TR9 := Lib.hid (TR8.out.on hb9)
              have HB9 := Lib.hid (HB8.out.trans (hb9.mono HB8.out.size))
              have IR := Lib.hid hiv.row
              have HIl : Hid (L1.length ≤ 100) := Lib.hid (by have := HSm.out; rw [← HL1.out]; simp; omega)
              clear hiv hb9 b0 b1 b2 b3 b4 b5
              go_wp2_with fail
              have hrefl9 : Below w9.heap.size w9 w9 := Below.refl _ _
              go_loopw [101] (fun i wr => ∃ k : Nat, k ≤ L1.length ∧ i = .int .i64 k ∧ Hid (∀ z ∈ L1.take k, z ∉ L2) ∧ Below w9.heap.size w9 wr) (fun i _ => L1.length - (intOf i).toNat)
              case atStart => exact ⟨0, Nat.zero_le _, rfl, Lib.hid (by simp), hrefl9⟩
              case round =>
                clear HN HBl
                obtain ⟨k, hk, rfl, HN, hbel⟩ := hrel
                have HBl := Lib.hid hbel
                have hIl := HIl.out
                by_cases hlt : k < L1.length
                · obtain ⟨b, off, hA, hb, c0⟩ := (IR.out.on hbel).at_ hlt
                  have HG := Lib.hid (List.getElem?_eq_getElem hlt)
                  generalize L1[k] = x at HG c0
                  subst hA
                  have HLt := Lib.hid hlt
                  have EXk := Lib.hid (EX9.out.on hbel)
                  have HBk := Lib.hid (HB9.out.trans (hbel.mono HB9.out.size))
                  obtain ⟨e0, e1, e2, e3, e4, e5⟩ := EXk.out.c6
                  go_wp2_with fail
                  refine (ids_any o (.slice P2 o.put.length pc2) (.slice Q2 o.drop.length qc2) wr (by have := HSm2.out; omega) (by have := HSm2.out; omega) (HP2.out.on HBk.out) ((HD2.out.below HBk.out).more HBk.out.size)).mono ?_
                  rintro e w10 ⟨iv, rfl, hiv, hb10⟩
                  rw [HL2.out] at hiv
                  obtain ⟨JA, JC, rfl⟩ := hiv.form
                  have JR := Lib.hid hiv.row
                  have HJl : Hid (L2.length ≤ 100) := Lib.hid (by have := HSm2.out; rw [← HL2.out]; simp; omega)
                  have HB10 := Lib.hid hb10
                  clear hiv hb10 e0 e1 e2 e3 e4 e5 c0 hb
                  go_wp2_with fail
                  have hrefl10 : Below w10.heap.size w10 w10 := Below.refl _ _
                  go_loopw [108] (fun i wr => ∃ m : Nat, m ≤ L2.length ∧ i = .int .i64 m ∧ Hid (∀ y ∈ L2.take m, x ≠ y) ∧ Below w10.heap.size w10 wr) (fun i _ => L2.length - (intOf i).toNat)
                  case atStart => exact ⟨0, Nat.zero_le _, rfl, Lib.hid (by simp), hrefl10⟩
                  case round =>
                    obtain ⟨m, hm, rfl, HM, hbm⟩ := hrel
                    have hJl := HJl.out
                    by_cases hlm : m < L2.length
                    · obtain ⟨b', off', hA', hb', c1⟩ := (JR.out.on hbm).at_ hlm
                      have HG2 := Lib.hid (List.getElem?_eq_getElem hlm)
                      generalize L2[m] = y at HG2 c1
                      subst hA'
                      have HLm := Lib.hid hlm
                      by_cases hxy : x = y
                      · subst hxy
                        have HBm := Lib.hid (HBk.out.trans ((HB10.out.trans (hbm.mono HB10.out.size)).mono HBk.out.size))
                        go_wp2
                        go_ret
                        exact ⟨rfl, HBm.out⟩
                      · have HXy := Lib.hid hxy
                        go_wp2
                        go_roundw
                        case rel => exact ⟨m + 1, HLm.out, by go_num, Lib.hid (fun z hz => by
                          rw [List.take_add_one, HG2.out] at hz
                          rcases List.mem_append.1 hz with h | h
                          · exact HM.out z h
                          · simp at h
                            rw [h]
                            exact HXy.out), hbm⟩
                        case measure => have := HLm.out; simp [intOf]; omega
                    · obtain rfl : m = L2.length := by omega
                      clear hlm
                      go_wp2
                      go_roundw
                      case rel => exact ⟨k + 1, HLt.out, by go_num, Lib.hid (fun z hz => by
                          rw [List.take_add_one, HG.out] at hz
                          rcases List.mem_append.1 hz with h | h
                          · exact HN.out z h
                          · simp only [Option.toList_some, List.mem_singleton] at h
                            subst h
                            intro hz2
                            exact HM.out z (by rw [List.take_length]; exact hz2) rfl), HBl.out.trans ((HB10.out.trans (hbm.mono HB10.out.size)).mono HBl.out.size)⟩
                      case measure => have := HLt.out; simp [intOf]; omega
                · obtain rfl : k = L1.length := by omega
                  clear hlt hbel
                  have HIds : Hid (∀ i ∈ d.ids, i ∉ o.ids) := Lib.hid (fun i hi hi2 => by
                    have h := HN.out i (by rw [List.take_length, ← HL1.out]; simp only [Dl.ids, List.mem_append] at hi ⊢; exact hi.symm)
                    rw [← HL2.out] at h
                    simp only [Dl.ids, List.mem_append] at hi2 h
                    exact h hi2.symm)
                  clear HSame
                  have TXa := Lib.hid ((TX9.out.on HBl.out))
                  have SXa := Lib.hid ((SX9.out.on HBl.out))
                  have EXa := Lib.hid ((EX9.out.on HBl.out))
                  have DXa := Lib.hid ((DX9.out.on HBl.out))
                  have TRa := Lib.hid ((TR9.out.on HBl.out))
                  have HBa := Lib.hid (HB9.out.trans (HBl.out.mono HB9.out.size))
                  obtain ⟨a0, a1, a2, a3, a4⟩ := TXa.out.c5
                  obtain ⟨e0, e1, e2, e3, e4, e5⟩ := EXa.out.c6
                  have hap := apply_any t o (.slice TA t.rs.length TC) (.slice P2 o.put.length pc2) (.slice Q2 o.drop.length qc2) wr (by have := HT16.out; omega) (by have := HSm2.out; omega) (by have := HSm2.out; omega) HDr2.out TRa.out (HP2.out.on HBa.out) ((HD2.out.below HBa.out).more HBa.out.size)
                  obtain ⟨U1, hU1⟩ : ∃ U, applyM t o = U := ⟨_, rfl⟩
                  rw [hU1] at hap
                  have HU1 := Lib.hid hU1
                  have HAp := Lib.hid hap
                  clear hap hU1
                  go_wp2_with fail
                  refine HAp.out.mono ?_
                  clear HAp
                  rintro e w12 ⟨rv, rfl, hrv, hfar, hb12⟩
                  obtain ⟨PA, PC, rfl⟩ := hrv.form
                  have PR12 := Lib.hid hrv
                  have SX12 := Lib.hid (SXa.out.on hb12)
                  have EX12 := Lib.hid (EXa.out.on hb12)
                  have DX12 := Lib.hid (DXa.out.on hb12)
                  have HB12 := Lib.hid (HBa.out.trans (hb12.mono HBa.out.size))
                  clear hrv hfar hb12 a0 a1 a2 a3 a4 e0 e1 e2 e3 e4 e5
                  obtain ⟨a0, a1, a2, a3, a4⟩ := SX12.out.c5
                  obtain ⟨e0, e1, e2, e3, e4, e5⟩ := EX12.out.c6
                  have hls := SX12.out.lt
                  have hle := EX12.out.lt
                  go_wp2_with fail
                  have hb13 : Below w12.heap.size w12 (w12.alloc (.cells #[.int .i64 U1.1.de, .int .i64 U1.1.cl, .int .i64 U1.1.fu, .int .i64 U1.1.st, .slice PA U1.1.rs.length PC] 24)) := (Below.refl _ _).alloc (Nat.le_refl _) _
                  have hp13 : Blk (w12.alloc (.cells #[.int .i64 U1.1.de, .int .i64 U1.1.cl, .int .i64 U1.1.fu, .int .i64 U1.1.st, .slice PA U1.1.rs.length PC] 24)) w12.heap.size 24 #[.int .i64 U1.1.de, .int .i64 U1.1.cl, .int .i64 U1.1.fu, .int .i64 U1.1.st, .slice PA U1.1.rs.length PC] := Blk.new _ _ _
                  generalize w12.alloc (.cells #[.int .i64 U1.1.de, .int .i64 U1.1.cl, .int .i64 U1.1.fu, .int .i64 U1.1.st, .slice PA U1.1.rs.length PC] 24) = w13 at *
                  have PX13 := Lib.hid hp13
                  have PR13 := Lib.hid (PR12.out.on hb13)
                  have SX13 := Lib.hid (SX12.out.on hb13)
                  have EX13 := Lib.hid (EX12.out.on hb13)
                  have DX13 := Lib.hid (DX12.out.on hb13)
                  have HB13 := Lib.hid (HB12.out.trans (hb13.mono HB12.out.size))
                  clear hp13 hb13 a0 a1 a2 a3 a4 e0 e1 e2 e3 e4 e5 hls hle
                  have hap := apply_any s o (.slice A s.rs.length cap) (.slice P2 o.put.length pc2) (.slice Q2 o.drop.length qc2) w13 (by have := HSm.out; omega) (by have := HSm2.out; omega) (by have := HSm2.out; omega) HDr2.out (HS.out.on HB13.out) (HP2.out.on HB13.out) ((HD2.out.below HB13.out).more HB13.out.size)
                  obtain ⟨U2, hU2⟩ : ∃ U, applyM s o = U := ⟨_, rfl⟩
                  rw [hU2] at hap
                  have HU2 := Lib.hid hU2
                  clear hU2
                  refine hap.mono ?_
                  clear hap
                  rintro e w14 ⟨rv, rfl, hrv, hfar, hb14⟩
                  obtain ⟨QA, QC, rfl⟩ := hrv.form
                  have QR14 := Lib.hid hrv
                  have PX14 := Lib.hid (PX13.out.on hb14)
                  have PR14 := Lib.hid (PR13.out.on hb14)
                  have DX14 := Lib.hid (DX13.out.on hb14)
                  have HB14 := Lib.hid (HB13.out.trans (hb14.mono HB13.out.size))
                  clear hrv hfar hb14
                  by_cases hf : U1.2 = 0
                  · by_cases hg : U2.2 = 0
                    · obtain ⟨e0, e1, e2, e3, e4, e5⟩ := DX14.out.c6
                      have hld := DX14.out.lt
                      have k2 := taken_iff.1 (show (applyM s o).2 = 0 by rw [HU2.out]; exact hg)
                      have q2 : U2.1 = { nums s o with rs := after s o } := by rw [← HU2.out, taken_eq k2]
                      have H216 : Hid (U2.1.rs.length ≤ 16) := Lib.hid (by rw [q2]; exact k2.few)
                      have K2 := Lib.hid k2
                      have E2 := Lib.hid q2
                      have HF := Lib.hid hf
                      clear k2 q2
                      go_wp2_with fail
                      have hb15 : Below w14.heap.size w14 (w14.alloc (.cells #[.int .i64 U2.1.de, .int .i64 U2.1.cl, .int .i64 U2.1.fu, .int .i64 U2.1.st, .slice QA U2.1.rs.length QC] 24)) := (Below.refl _ _).alloc (Nat.le_refl _) _
                      generalize w14.alloc (.cells #[.int .i64 U2.1.de, .int .i64 U2.1.cl, .int .i64 U2.1.fu, .int .i64 U2.1.st, .slice QA U2.1.rs.length QC] 24) = w15 at *
                      have PX15 := Lib.hid (PX14.out.on hb15)
                      have PR15 := Lib.hid (PR14.out.on hb15)
                      have QR15 := Lib.hid (QR14.out.on hb15)
                      have HB15 := Lib.hid (HB14.out.trans (hb15.mono HB14.out.size))
                      clear hb15 e0 e1 e2 e3 e4 e5 hld
                      have hap := apply_any U2.1 d (.slice QA U2.1.rs.length QC) (.slice P1 d.put.length pc1) (.slice Q1 d.drop.length qc1) w15 (by have := H216.out; omega) (by have := HSm.out; omega) (by have := HSm.out; omega) HDr.out QR15.out (HP.out.on HB15.out) ((HD.out.below HB15.out).more HB15.out.size)
                      obtain ⟨U3, hU3⟩ : ∃ U, applyM U2.1 d = U := ⟨_, rfl⟩
                      rw [hU3] at hap
                      have HU3 := Lib.hid hU3
                      clear hU3
                      refine hap.mono ?_
                      clear hap
                      rintro e w16 ⟨rv, rfl, hrv, hfar, hb16⟩
                      obtain ⟨RA, RC, rfl⟩ := hrv.form
                      have RR16 := Lib.hid hrv
                      have PX16 := Lib.hid (PX15.out.on hb16)
                      have PR16 := Lib.hid (PR15.out.on hb16)
                      have HB16 := Lib.hid (HB15.out.trans (hb16.mono HB15.out.size))
                      clear hrv hfar hb16
                      have hf' := HF.out
                      go_wp2_with fail
                      have hb17 : Below w16.heap.size w16 (w16.alloc (.cells #[.int .i64 U3.1.de, .int .i64 U3.1.cl, .int .i64 U3.1.fu, .int .i64 U3.1.st, .slice RA U3.1.rs.length RC] 24)) := (Below.refl _ _).alloc (Nat.le_refl _) _
                      have hr17 : Blk (w16.alloc (.cells #[.int .i64 U3.1.de, .int .i64 U3.1.cl, .int .i64 U3.1.fu, .int .i64 U3.1.st, .slice RA U3.1.rs.length RC] 24)) w16.heap.size 24 #[.int .i64 U3.1.de, .int .i64 U3.1.cl, .int .i64 U3.1.fu, .int .i64 U3.1.st, .slice RA U3.1.rs.length RC] := Blk.new _ _ _
                      generalize w16.alloc (.cells #[.int .i64 U3.1.de, .int .i64 U3.1.cl, .int .i64 U3.1.fu, .int .i64 U3.1.st, .slice RA U3.1.rs.length RC] 24) = w17 at *
                      have RX17 := Lib.hid hr17
                      have PX17 := Lib.hid (PX16.out.on hb17)
                      have PR17 := Lib.hid (PR16.out.on hb17)
                      have RR17 := Lib.hid (RR16.out.on hb17)
                      have HB17 := Lib.hid (HB16.out.trans (hb17.mono HB16.out.size))
                      clear hr17 hb17
                      by_cases hh : U3.2 = 0
                      · have heq : U1.1 = U3.1 := by
                          have k1 := taken_iff.1 (show (applyM t o).2 = 0 by rw [HU1.out]; exact hf')
                          have k3 := taken_iff.1 (show (applyM U2.1 d).2 = 0 by rw [HU3.out]; exact hh)
                          have q1 : U1.1 = { nums t o with rs := after t o } := by rw [← HU1.out, taken_eq k1]
                          have q3 : U3.1 = { nums U2.1 d with rs := after U2.1 d } := by rw [← HU3.out, taken_eq k3]
                          rw [q1, q3]
                          rw [E2.out] at k3 ⊢
                          rw [← HTe.out] at k1 ⊢
                          exact both_same HT.out K2.out k1 k3 HIds.out HNo.out.1 HNo.out.2.1 HNo.out.2.2.1 HNo.out.2.2.2
                        have k1 := taken_iff.1 (show (applyM t o).2 = 0 by rw [HU1.out]; exact hf')
                        have q1 : U1.1 = { nums t o with rs := after t o } := by rw [← HU1.out, taken_eq k1]
                        have HP16 : Hid (U1.1.rs.length ≤ 16) := Lib.hid (by rw [q1]; exact k1.few)
                        have HR16 : Hid (U3.1.rs.length ≤ 16) := Lib.hid (by rw [← heq]; exact HP16.out)
                        have HEq := Lib.hid heq
                        clear k1 q1 heq hf'
                        have HP1k : Hid (U1.1.rs.length ≤ 1000) := Lib.hid (by have := HP16.out; omega)
                        have HR1k : Hid (U3.1.rs.length ≤ 1000) := Lib.hid (by have := HR16.out; omega)
                        have HP1m : Hid (U1.1.rs.length ≤ 1000000) := Lib.hid (by have := HP16.out; omega)
                        have HR1m : Hid (U3.1.rs.length ≤ 1000000) := Lib.hid (by have := HR16.out; omega)
                        have HPd : Hid (Blk w17.drew w12.heap.size 24 #[.int .i64 U1.1.de, .int .i64 U1.1.cl, .int .i64 U1.1.fu, .int .i64 U1.1.st, .slice PA U1.1.rs.length PC]) := PX17
                        have HRd : Hid (Blk w17.drew w16.heap.size 24 #[.int .i64 U3.1.de, .int .i64 U3.1.cl, .int .i64 U3.1.fu, .int .i64 U3.1.st, .slice RA U3.1.rs.length RC]) := RX17
                        have HPRd : Hid (RulesV w17.drew.heap.size w17.drew (.slice PA U1.1.rs.length PC) U1.1.rs) := PR17
                        have HRRd : Hid (RulesV w17.drew.heap.size w17.drew (.slice RA U3.1.rs.length RC) U3.1.rs) := RR17
                        have HBd : Hid (Below w.heap.size w w17.drew) := Lib.hid HB17.out.drew
                        go_region_held3 (fun W => (W.cell? ⟨w12.heap.size, 0, none⟩ = some (.int .i64 U1.1.de) ∧ W.cell? ⟨w12.heap.size, 1, none⟩ = some (.int .i64 U1.1.cl) ∧ W.cell? ⟨w12.heap.size, 2, none⟩ = some (.int .i64 U1.1.fu) ∧ W.cell? ⟨w12.heap.size, 3, none⟩ = some (.int .i64 U1.1.st) ∧ W.cell? ⟨w12.heap.size, 4, none⟩ = some (.slice PA U1.1.rs.length PC)) ∧ (W.cell? ⟨w16.heap.size, 0, none⟩ = some (.int .i64 U3.1.de) ∧ W.cell? ⟨w16.heap.size, 1, none⟩ = some (.int .i64 U3.1.cl) ∧ W.cell? ⟨w16.heap.size, 2, none⟩ = some (.int .i64 U3.1.fu) ∧ W.cell? ⟨w16.heap.size, 3, none⟩ = some (.int .i64 U3.1.st) ∧ W.cell? ⟨w16.heap.size, 4, none⟩ = some (.slice RA U3.1.rs.length RC)))
                          (first | exact ⟨HP13.out.c5, HR13.out.c5⟩ | exact ⟨HP12.out.c5, HR12.out.c5⟩ | exact ⟨HP11.out.c5, HR11.out.c5⟩ | exact ⟨HPd.out.c5, HRd.out.c5⟩)
                          (first
                            | (go_at_call 18; refine (same_any U1.1 U3.1 _ _ wx2 HP1m.out HR1m.out HV12.out HV22.out).mono ?_; rintro e wx3 ⟨c1, rfl, hc1, hb13⟩; obtain rfl : c1 = true := hc1.2 HEq.out; have HP13 := Lib.hid (HP12.out.on hb13); have HR13 := Lib.hid (HR12.out.on hb13); have HBz := Lib.hid (HBy.out.trans (hb13.mono HBy.out.size)); clear hb13 hc1)
                            | (go_at_call 14; refine (madeSet_any U3.1 _ wx1 HR1k.out HRR11.out).mono ?_; rintro e wx2 ⟨V2, rfl, hV2, hb12⟩; obtain ⟨VA2, VC2, rfl⟩ := OwnU.form hV2; have HP12 := Lib.hid (HP11.out.on hb12); have HR12 := Lib.hid (HR11.out.on hb12); have HV12 := Lib.hid (HV11.out.on hb12); have HV22 := Lib.hid (OwnU.set hV2); have HBy := Lib.hid (HBx.out.trans (hb12.mono HBx.out.size)); clear hb12 hV2)
                            | (go_at_call 14; refine (madeSet_any U1.1 _ w17.drew HP1k.out HPRd.out).mono ?_; rintro e wx1 ⟨V1, rfl, hV1, hb11⟩; obtain ⟨VA1, VC1, rfl⟩ := OwnU.form hV1; have HP11 := Lib.hid (HPd.out.on hb11); have HR11 := Lib.hid (HRd.out.on hb11); have HRR11 := Lib.hid (HRRd.out.on hb11); have HV11 := Lib.hid (OwnU.set hV1); have HBx := Lib.hid (HBd.out.trans (hb11.mono HBd.out.size)); clear hb11 hV1))
                        go_wp2
                        go_ret
                        exact ⟨rfl, HBz.out⟩
                      · have hhb : (U3.2 == 0) = false := by simpa using hh
                        refine wp_region_held_drew (S := fun _ => True) (by kernel_rfl) trivial (fun hHeld => ?_)
                        refine take_d 0 141 (.int .i64 U3.2) _ rfl rfl (by kernel_rfl) (by kernel_rfl) (by kernel_rfl) (fun _ _ _ h => h) (Or.inl ⟨by rfl, fun w' hSw => ?_⟩) hHeld ?_
                        · go_simp
                        simp only [List.setIfInBounds_toArray, List.set_cons_zero, List.set_cons_succ]
                        refine take_d 1 142 (.bool true) _ rfl rfl (by kernel_rfl) (by kernel_rfl) (by kernel_rfl) (fun _ _ _ h => h) (Or.inl ⟨by rfl, fun w' hSw => ?_⟩) hHeld ?_
                        · go_simp
                        simp only [List.setIfInBounds_toArray, List.set_cons_zero, List.set_cons_succ]
                        refine take_d 2 143 (.bool true) _ rfl rfl (by kernel_rfl) (by kernel_rfl) (by kernel_rfl) (fun _ _ _ h => h) (Or.inl ⟨by rfl, fun w' hSw => ?_⟩) hHeld ?_
                        · go_simp
                        simp only [List.setIfInBounds_toArray, List.set_cons_zero, List.set_cons_succ]
                        refine take_d 3 144 undef _ rfl rfl (by kernel_rfl) (by kernel_rfl) (by kernel_rfl) (fun _ _ _ h => h) (Or.inr ⟨by rfl, rfl⟩) hHeld ?_
                        simp only [List.setIfInBounds_toArray, List.set_cons_zero, List.set_cons_succ]
                        refine take_d 4 145 undef _ rfl rfl (by kernel_rfl) (by kernel_rfl) (by kernel_rfl) (fun _ _ _ h => h) (Or.inr ⟨by rfl, rfl⟩) hHeld ?_
                        simp only [List.setIfInBounds_toArray, List.set_cons_zero, List.set_cons_succ]
                        refine take_d 5 146 undef _ rfl rfl (by kernel_rfl) (by kernel_rfl) (by kernel_rfl) (fun _ _ _ h => h) (Or.inr ⟨by rfl, rfl⟩) hHeld ?_
                        simp only [List.setIfInBounds_toArray, List.set_cons_zero, List.set_cons_succ]
                        refine take_d 6 147 undef _ rfl rfl (by kernel_rfl) (by kernel_rfl) (by kernel_rfl) (fun _ _ _ h => h) (Or.inr ⟨by rfl, rfl⟩) hHeld ?_
                        simp only [List.setIfInBounds_toArray, List.set_cons_zero, List.set_cons_succ]
                        refine take_d 7 148 undef _ rfl rfl (by kernel_rfl) (by kernel_rfl) (by kernel_rfl) (fun _ _ _ h => h) (Or.inr ⟨by rfl, rfl⟩) hHeld ?_
                        simp only [List.setIfInBounds_toArray, List.set_cons_zero, List.set_cons_succ]
                        refine take_d 8 149 (.bool true) _ rfl rfl (by kernel_rfl) (by kernel_rfl) (by kernel_rfl) (fun _ _ _ h => h) (Or.inl ⟨by rfl, fun w' hSw => ?_⟩) hHeld ?_
                        · go_simp
                        simp only [List.setIfInBounds_toArray, List.set_cons_zero, List.set_cons_succ]
                        refine take_d 9 6 (.bool true) _ rfl rfl (by kernel_rfl) (by kernel_rfl) (by kernel_rfl) (fun _ _ _ h => h) (Or.inl ⟨by rfl, fun w' hSw => ?_⟩) hHeld ?_
                        · go_simp
                        simp only [List.setIfInBounds_toArray, List.set_cons_zero, List.set_cons_succ]
                        refine wpAnyH_done (by kernel_rfl) ?_ _
                        clear hHeld
                        go_wp2
                        go_ret
                        exact ⟨rfl, HB17.out.drew⟩
                    · go_wp2
                      go_ret
                      exact ⟨rfl, HB14.out.alloc HB14.out.size _⟩
                  · go_wp2
                    go_ret
                    exact ⟨rfl, HB14.out.alloc HB14.out.size _⟩
      · have h0' := h0
        have HAp := Lib.hid hap
        clear hap
        generalize applyM s d = T at *
        go_wp2_with fail
        refine HAp.out.mono ?_
        clear HAp
        rintro e w4 ⟨rv, rfl, hrv, hfar, hb4⟩
        obtain ⟨TA, TC, rfl⟩ := hrv.form
        have HB4 := Lib.hid (HB3.out.trans (hb4.mono HB3.out.size))
        clear hrv hfar hb4 a0 a1 a2 a3 a4 b0 b1 b2 b3 b4 b5
        go_wp2
        go_ret
        exact ⟨rfl, HB4.out.alloc HB4.out.size _⟩
    · rw [decide_eq_false hsm]
      clear hsm
      go_wp2
      go_ret
      exact ⟨rfl, HB3.out⟩
  · rw [decide_eq_false hsm]
    clear hsm
    go_wp2
    go_ret
    exact ⟨rfl, HB2.out⟩

theorem ruleTwice_law (s : RS) (v : Value) (d : Dl) (pv dv : Value) (o : Dl) (pv2 dv2 : Value) (w : World) (hS : RulesV w.heap.size w v s.rs) (hP : RulesV w.heap.size w pv d.put) (hD : Row w.heap.size w dv (zI d.drop)) (hdr : ∀ z ∈ d.drop, (Lit.int .i64 z).wf = true)
    (hP2 : RulesV w.heap.size w pv2 o.put) (hD2 : Row w.heap.size w dv2 (zI o.drop)) (hdr2 : ∀ z ∈ o.drop, (Lit.int .i64 z).wf = true) :
    Calls Try.prog 6 #[.agg #[.int .i64 s.de, .int .i64 s.cl, .int .i64 s.fu, .int .i64 s.st, v], .agg #[.int .i64 d.de, .int .i64 d.cl, .int .i64 d.fu, .int .i64 d.st, pv, dv], .agg #[.int .i64 o.de, .int .i64 o.cl, .int .i64 o.fu, .int .i64 o.st, pv2, dv2]] w fun e w' => e = .returned (.bool true) ∧ Below w.heap.size w w' := twice_law s d o v pv dv pv2 dv2 w hdr hdr2 hS hP hD hP2 hD2

end Go.Proofs.Ytdbddbelhgkelaa
