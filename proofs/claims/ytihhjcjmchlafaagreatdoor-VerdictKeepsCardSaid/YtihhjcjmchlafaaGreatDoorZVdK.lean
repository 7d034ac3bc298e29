/- VerdictKeeps. -/
import Derived.Test.YtihhjcjmchlafaaGreatDoorZMVe
namespace Go.Proofs.YtihhjcjmchlafaaGreatDoor
open Go.RowKit
variable {w w' : World}

theorem rul_nil8 (n : Nat) (w : World) : RulesV n w (.slice none 0 0) [] := ⟨none, 0, rfl, Nat.le_refl _, fun h => absurd rfl h⟩
theorem run_code8 (a b c : Int) (w : World) : (Instr.field 48 (.agg #[.int .i64 a, .int .i64 b, .int .i64 c]) 0).run Tryz.prog w = .ok (.int .i64 a) w := by kernel_rfl

set_option maxRecDepth 100000 in
set_option maxHeartbeats 8000000 in
theorem verdictKeeps_law (s : RS) (d : Dl) (v pv dv : Value) (w : World) (hdr : ∀ z ∈ d.drop, (Lit.int .i64 z).wf = true) (hm1 : s.rs.length ≤ 9223372036854775807) (hm2 : d.put.length ≤ 9223372036854775807) (hT : TabsAt w.heap.size w)
    (hS : RulesV w.heap.size w v s.rs) (hP : RulesV w.heap.size w pv d.put) (hD : Row w.heap.size w dv (zI d.drop)) :
    Calls Tryz.prog 7 #[.agg #[.int .i64 s.de, .int .i64 s.cl, .int .i64 s.fu, .int .i64 s.st, v], .agg #[.int .i64 d.de, .int .i64 d.cl, .int .i64 d.fu, .int .i64 d.st, pv, dv]] w fun e w' => e = .returned (.bool true) ∧ Below w.heap.size w w' := by
  obtain ⟨A, cap, rfl⟩ := hS.form
  obtain ⟨P1, pc1, rfl⟩ := hP.form
  obtain ⟨Q1, qc1, rfl⟩ : ∃ A c, dv = .slice A d.drop.length c := by obtain ⟨A, c, h, _⟩ := hD; exact ⟨A, c, by simpa [zI] using h⟩
  obtain ⟨w0, hw0⟩ : ∃ w0, w0 = ((w.alloc (.cells #[.int .i64 s.de, .int .i64 s.cl, .int .i64 s.fu, .int .i64 s.st, .slice A s.rs.length cap] 59)).alloc (.cells #[.int .i64 d.de, .int .i64 d.cl, .int .i64 d.fu, .int .i64 d.st, .slice P1 d.put.length pc1, .slice Q1 d.drop.length qc1] 63)) := ⟨_, rfl⟩
  have hb0 : Below w.heap.size w w0 := by rw [hw0]; exact ((Below.refl _ _).alloc (Nat.le_refl _) _).alloc (by simp) _
  have hx : Blk w0 w.heap.size 59 #[.int .i64 s.de, .int .i64 s.cl, .int .i64 s.fu, .int .i64 s.st, .slice A s.rs.length cap] := by rw [hw0]; exact (Blk.new _ _ _).alloc _
  have hy : Blk w0 (w.heap.size + 1) 63 #[.int .i64 d.de, .int .i64 d.cl, .int .i64 d.fu, .int .i64 d.st, .slice P1 d.put.length pc1, .slice Q1 d.drop.length qc1] := by rw [hw0]; exact Blk.at_new _ _ (by simp) _ _
  have hs0 : w0.heap.size = w.heap.size + 2 := by rw [hw0]; simp
  have HS := Lib.hid hS
  have HP := Lib.hid hP
  have HD := Lib.hid hD
  have HDr := Lib.hid hdr
  have HT := Lib.hid hT
  have HM := Lib.hid (And.intro hm1 hm2)
  clear hS hP hD hdr hT hm1 hm2
  go_enter Tryz.func7, Tryz.ntmps7
  go_wp2_with fail
  rw [← hw0]
  clear hw0
  refine (anchor8_any w0 (tabs_on HT.out hb0 hb0.size)).mono ?_
  rintro e w1 ⟨rfl, hb1⟩
  have HB1 := Lib.hid (hb0.trans (hb1.mono hb0.size))
  have SX1 := Lib.hid (hx.on hb1)
  have DX1 := Lib.hid (hy.on hb1)
  have hs1 := Nat.le_trans (Nat.le_of_eq hs0.symm) hb1.size
  clear hb0 hx hy hb1 hs0
  obtain ⟨a0, a1, a2, a3, a4⟩ := SX1.out.c5
  obtain ⟨b0, b1, b2, b3, b4, b5⟩ := DX1.out.c6
  go_wp2_with fail
  have hsm := small8_any s d (.slice A s.rs.length cap) (.slice P1 d.put.length pc1) (.slice Q1 d.drop.length qc1) w1 HM.out.1 HM.out.2 ⟨_, _, rfl⟩ (rul_on HS.out HB1.out HB1.out.size) (rul_on HP.out HB1.out HB1.out.size)
  refine hsm.mono ?_
  clear hsm a0 a1 a2 a3 a4 b0 b1 b2 b3 b4 b5
  rintro e w2 ⟨b, rfl, hb, hb2⟩
  have HB2 := Lib.hid (HB1.out.trans (hb2.mono HB1.out.size))
  have SX2 := Lib.hid (SX1.out.on hb2)
  have DX2 := Lib.hid (DX1.out.on hb2)
  have hs2 := Nat.le_trans hs1 hb2.size
  clear hb2
  cases b with
  | false =>
    clear hb
    go_wp2_with fail
    go_ret
    exact ⟨rfl, HB2.out⟩
  | true =>
    have HSm := Lib.hid (hb rfl)
    clear hb
    obtain ⟨a0, a1, a2, a3, a4⟩ := SX2.out.c5
    go_wp2_with fail
    refine (vrules_any s (.slice A s.rs.length cap) w2 (by have := HSm.out; omega) (tabs_on HT.out HB2.out HB2.out.size) (rul_on HS.out HB2.out HB2.out.size)).mono ?_
    rintro e w3 ⟨rfl, hb3⟩
    have HB3 := Lib.hid (HB2.out.trans (hb3.mono HB2.out.size))
    have SX3 := Lib.hid (SX2.out.on hb3)
    have DX3 := Lib.hid (DX2.out.on hb3)
    have hs3 := Nat.le_trans hs2 hb3.size
    clear hb3 a0 a1 a2 a3 a4
    obtain ⟨R, hR⟩ : ∃ R, R = rulesM pvM s := ⟨_, rfl⟩
    rw [← hR]
    have hfl := fun w => run_code8 R.1 R.2.1 R.2.2 w
    generalize hc : R.1 = c at hfl
    by_cases h0 : c = 0
    · have HK := Lib.hid (keepsV (p := pvM) (s := s) (d := { d with put := [] }) (by rw [← hR, hc]; exact h0) rfl)
      subst h0
      clear hR hc
      have b4 := DX3.out.cell 4
      have hld := DX3.out.lt
      have hfd := DX3.out.frozen
      go_upto_region 6 with (fail)
      have HB4 := Lib.hid (HB3.out.setCell (p := ⟨w.heap.size + 1, 4, none⟩) (by simp) (.slice none 0 0))
      have SX4 := Lib.hid (SX3.out.far (p := ⟨w.heap.size + 1, 4, none⟩) (by simp) (.slice none 0 0))
      have DX4 : Hid (Blk (w3.setCell ⟨w.heap.size + 1, 4, none⟩ (.slice none 0 0)) (w.heap.size + 1) 63 #[.int .i64 d.de, .int .i64 d.cl, .int .i64 d.fu, .int .i64 d.st, .slice none 0 0, .slice Q1 d.drop.length qc1]) := Lib.hid (by have := DX3.out.set_ 4 (.slice none 0 0); simpa using this)
      have hs4 : w.heap.size + 2 ≤ (w3.setCell ⟨w.heap.size + 1, 4, none⟩ (.slice none 0 0)).heap.size := by simpa [World.setCell] using hs3
      clear HB3 SX3 DX3 b4 hld hfd hs1 hs2 hs3 HB1 HB2 SX1 SX2 DX1 DX2
      generalize w3.setCell ⟨w.heap.size + 1, 4, none⟩ (.slice none 0 0) = w4 at *
      obtain ⟨a0, a1, a2, a3, a4⟩ := SX4.out.c5
      obtain ⟨b0, b1, b2, b3, b4, b5⟩ := DX4.out.c6
      have hch := vchange_any s { d with put := [] } (.slice A s.rs.length cap) (.slice none 0 0) (.slice Q1 d.drop.length qc1) w4 (by have := HSm.out; omega) (by simp) (by have := HSm.out; show d.drop.length ≤ 1000; omega) HDr.out (tabs_on HT.out HB4.out HB4.out.size) (rul_on HS.out HB4.out HB4.out.size) (rul_nil8 _ _) ((HD.out.below HB4.out).more HB4.out.size)
      have hap := fun w5 (h5 : Hid (Below w.heap.size w w5)) => apply_any s { d with put := [] } (.slice A s.rs.length cap) (.slice none 0 0) (.slice Q1 d.drop.length qc1) w5 (by have := HSm.out; omega) (by simp) (by have := HSm.out; show d.drop.length ≤ 1000; omega) HDr.out (rul_on HS.out h5.out h5.out.size) (rul_nil8 _ _) ((HD.out.below h5.out).more h5.out.size)
      have hk := HK.out
      generalize changeM pvM s { d with put := [] } = C at hch hk
      generalize applyM s { d with put := [] } = E at hap hk
      have HAp := Lib.hid hap
      have HCh := Lib.hid hch
      have HK2 := Lib.hid hk
      clear hap hch hk HK
      go_wp2_with fail
      refine HCh.out.mono ?_
      clear HCh a0 a1 a2 a3 a4 b0 b1 b2 b3 b4 b5
      rintro e w5 ⟨rv, rfl, hrv, _, hb5⟩
      obtain ⟨TA, TC, rfl⟩ := hrv.form
      have HB5 := Lib.hid (HB4.out.trans (hb5.mono HB4.out.size))
      have SX5 := Lib.hid (SX4.out.on hb5)
      have DX5 := Lib.hid (DX4.out.on hb5)
      have hs5 := Nat.le_trans hs4 hb5.size
      clear hb5 hrv HB4 SX4 DX4 hs4
      obtain ⟨a0, a1, a2, a3, a4⟩ := SX5.out.c5
      obtain ⟨b0, b1, b2, b3, b4, b5⟩ := DX5.out.c6
      have hls := SX5.out.lt
      have hld := DX5.out.lt
      go_upto_region 7 with (fail)
      have hb6 : Below w5.heap.size w5 ((w5.alloc (.cells #[.int .i64 C.1.de, .int .i64 C.1.cl, .int .i64 C.1.fu, .int .i64 C.1.st, .slice TA C.1.rs.length TC] 59)).alloc (.cells #[.int .i64 C.2.1, .int .i64 C.2.2.1, .int .i64 C.2.2.2] 48)) := ((Below.refl _ _).alloc (Nat.le_refl _) _).alloc (by simp) _
      have VX6 : Hid (Blk ((w5.alloc (.cells #[.int .i64 C.1.de, .int .i64 C.1.cl, .int .i64 C.1.fu, .int .i64 C.1.st, .slice TA C.1.rs.length TC] 59)).alloc (.cells #[.int .i64 C.2.1, .int .i64 C.2.2.1, .int .i64 C.2.2.2] 48)) (w5.heap.size + 1) 48 #[.int .i64 C.2.1, .int .i64 C.2.2.1, .int .i64 C.2.2.2]) := Lib.hid (Blk.at_new _ _ (by simp) _ _)
      generalize ((w5.alloc (.cells #[.int .i64 C.1.de, .int .i64 C.1.cl, .int .i64 C.1.fu, .int .i64 C.1.st, .slice TA C.1.rs.length TC] 59)).alloc (.cells #[.int .i64 C.2.1, .int .i64 C.2.2.1, .int .i64 C.2.2.2] 48)) = w6 at *
      have HB6 := Lib.hid (HB5.out.trans (hb6.mono HB5.out.size))
      have SX6 := Lib.hid (SX5.out.on hb6)
      have DX6 := Lib.hid (DX5.out.on hb6)
      clear hb6 HB5 SX5 DX5 a0 a1 a2 a3 a4 b0 b1 b2 b3 b4 b5 hls hld
      obtain ⟨a0, a1, a2, a3, a4⟩ := SX6.out.c5
      obtain ⟨b0, b1, b2, b3, b4, b5⟩ := DX6.out.c6
      have hls := SX6.out.lt
      have hld := DX6.out.lt
      go_wp2_with fail
      refine (HAp.out w6 HB6).mono ?_
      clear HAp a0 a1 a2 a3 a4 b0 b1 b2 b3 b4 b5 hls hld
      rintro e w7 ⟨rv, rfl, hrv, _, hb7⟩
      obtain ⟨UA, UC, rfl⟩ := hrv.form
      have HB7 := Lib.hid (HB6.out.trans (hb7.mono HB6.out.size))
      have VX7 := Lib.hid (VX6.out.on hb7)
      clear hb7 hrv HB6 SX6 DX6 VX6
      go_upto_region 8 with (fail)
      have hb8 : Below w7.heap.size w7 (w7.alloc (.cells #[.int .i64 E.1.de, .int .i64 E.1.cl, .int .i64 E.1.fu, .int .i64 E.1.st, .slice UA E.1.rs.length UC] 59)) := (Below.refl _ _).alloc (Nat.le_refl _) _
      generalize w7.alloc (.cells #[.int .i64 E.1.de, .int .i64 E.1.cl, .int .i64 E.1.fu, .int .i64 E.1.st, .slice UA E.1.rs.length UC] 59) = w8 at *
      have hv8 := VX7.out.on hb8
      have HB8 := Lib.hid (HB7.out.trans (hb8.mono HB7.out.size))
      clear hb8 HB7 VX7
      have q1 : C.2.1 = E.2 := congrArg Prod.fst HK2.out
      have q2 : C.2.2.1 = 0 := congrArg (fun x => x.2.1) HK2.out
      have q3 : C.2.2.2 = 0 := congrArg (fun x => x.2.2) HK2.out
      rw [q1, q2, q3] at hv8
      clear q1 q2 q3 HK2
      have v0 := hv8.cell 0
      have v1 := hv8.cell 1
      have v2 := hv8.cell 2
      have hq := fun w => run_eql_verdict E.2 0 0 E.2 0 0 w
      go_wp2_with fail
      go_ret
      exact ⟨by simp, HB8.out⟩
    · have h0i : (c != 0) = true := by simp [h0]
      clear hR
      go_wp2_with fail
      go_ret
      exact ⟨rfl, HB3.out⟩

end Go.Proofs.YtihhjcjmchlafaaGreatDoor
