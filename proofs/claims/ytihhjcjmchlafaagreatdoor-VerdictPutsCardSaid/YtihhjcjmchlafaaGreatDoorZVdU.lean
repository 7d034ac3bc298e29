/- VerdictPuts. -/
import Derived.Test.YtihhjcjmchlafaaGreatDoorZMVe
import Derived.Test.YtihhjcjmchlafaaGreatDoorZRuN
namespace Go.Proofs.YtihhjcjmchlafaaGreatDoor
open Go.RowKit
variable {w w' : World}

theorem run_code8u (a b c : Int) (w : World) : (Instr.field 48 (.agg #[.int .i64 a, .int .i64 b, .int .i64 c]) 0).run Tryz.prog w = .ok (.int .i64 a) w := by kernel_rfl

set_option maxRecDepth 100000 in
set_option maxHeartbeats 16000000 in
theorem verdictPuts_law (s : RS) (x : Ru) (v : Value) (w : World) (hm1 : s.rs.length ≤ 9223372036854775807) (hT : TabsAt w.heap.size w)
    (hS : RulesV w.heap.size w v s.rs) :
    Calls Tryz.prog 9 #[.agg #[.int .i64 s.de, .int .i64 s.cl, .int .i64 s.fu, .int .i64 s.st, v], .agg #[.int .i64 x.id, .int .i64 x.pr, .int .i64 x.ac, .int .i64 x.sc, .string x.pat]] w fun e w' => e = .returned (.bool true) ∧ Below w.heap.size w w' := by
  obtain ⟨A, cap, rfl⟩ := hS.form
  obtain ⟨w0, hw0⟩ : ∃ w0, w0 = ((w.alloc (.cells #[.int .i64 s.de, .int .i64 s.cl, .int .i64 s.fu, .int .i64 s.st, .slice A s.rs.length cap] 59)).alloc (.cells #[.int .i64 x.id, .int .i64 x.pr, .int .i64 x.ac, .int .i64 x.sc, .string x.pat] 71)) := ⟨_, rfl⟩
  have hb0 : Below w.heap.size w w0 := by rw [hw0]; exact ((Below.refl _ _).alloc (Nat.le_refl _) _).alloc (by simp) _
  have hx : Blk w0 w.heap.size 59 #[.int .i64 s.de, .int .i64 s.cl, .int .i64 s.fu, .int .i64 s.st, .slice A s.rs.length cap] := by rw [hw0]; exact (Blk.new _ _ _).alloc _
  have hy : Blk w0 (w.heap.size + 1) 71 #[.int .i64 x.id, .int .i64 x.pr, .int .i64 x.ac, .int .i64 x.sc, .string x.pat] := by rw [hw0]; exact Blk.at_new _ _ (by simp) _ _
  have HS := Lib.hid hS
  have HT := Lib.hid hT
  have HM := Lib.hid hm1
  clear hS hT hm1
  go_enter Tryz.func9, Tryz.ntmps9
  go_wp2_with fail
  rw [← hw0]
  clear hw0
  refine (anchor8_any w0 (tabs_on HT.out hb0 hb0.size)).mono ?_
  rintro e w1 ⟨rfl, hb1⟩
  have HB1 := Lib.hid (hb0.trans (hb1.mono hb0.size))
  have SX1 := Lib.hid (hx.on hb1)
  have XX1 := Lib.hid (hy.on hb1)
  clear hb0 hx hy hb1
  obtain ⟨a0, a1, a2, a3, a4⟩ := SX1.out.c5
  obtain ⟨x0, x1, x2, x3, x4⟩ := XX1.out.c5
  go_upto_region 3 with (fail)
  have hba : Below w1.heap.size w1 (w1.alloc (.cells #[.int .i64 x.id, .int .i64 x.pr, .int .i64 x.ac, .int .i64 x.sc, .string x.pat] 71)) := (Below.refl _ _).alloc (Nat.le_refl _) _
  have HBa := Lib.hid (HB1.out.trans (hba.mono HB1.out.size))
  have SXa := Lib.hid (SX1.out.on hba)
  have XXa := Lib.hid (XX1.out.on hba)
  have hsm := small8_any s ⟨0, 0, 0, 0, [x], []⟩ (.slice A s.rs.length cap) (.slice (some ⟨w1.heap.size, 0, none⟩) 1 1) (.slice none 0 0) (w1.alloc (.cells #[.int .i64 x.id, .int .i64 x.pr, .int .i64 x.ac, .int .i64 x.sc, .string x.pat] 71)) HM.out (by simp) ⟨_, _, rfl⟩ (rul_on HS.out HBa.out HBa.out.size) (one_rule w1 x)
  have HSm0 := Lib.hid hsm
  clear hsm hba
  go_wp2_with fail
  refine HSm0.out.mono ?_
  clear HSm0 a0 a1 a2 a3 a4 x0 x1 x2 x3 x4
  rintro e w2 ⟨b, rfl, hb, hb2⟩
  have HB2 := Lib.hid (HBa.out.trans (hb2.mono HBa.out.size))
  have SX2 := Lib.hid (SXa.out.on hb2)
  have XX2 := Lib.hid (XXa.out.on hb2)
  clear hb2 HBa SXa XXa HB1 SX1 XX1
  cases b with
  | false =>
    clear hb
    go_wp2_with fail
    go_ret
    exact ⟨rfl, HB2.out⟩
  | true =>
    have HSm := Lib.hid (hb rfl).1
    clear hb
    obtain ⟨a0, a1, a2, a3, a4⟩ := SX2.out.c5
    go_wp2_with fail
    refine (vrules_any s (.slice A s.rs.length cap) w2 (by have := HSm.out; omega) (tabs_on HT.out HB2.out HB2.out.size) (rul_on HS.out HB2.out HB2.out.size)).mono ?_
    rintro e w3 ⟨rfl, hb3⟩
    have HB3 := Lib.hid (HB2.out.trans (hb3.mono HB2.out.size))
    have SX3 := Lib.hid (SX2.out.on hb3)
    have XX3 := Lib.hid (XX2.out.on hb3)
    clear hb3 a0 a1 a2 a3 a4 HB2 SX2 XX2
    obtain ⟨R, hR⟩ : ∃ R, R = rulesM pvM s := ⟨_, rfl⟩
    rw [← hR]
    have hfl := fun w => run_code8u R.1 R.2.1 R.2.2 w
    generalize hc : R.1 = c at hfl
    by_cases h0 : c = 0
    · have HR0 : Hid ((rulesM pvM s).1 = 0) := Lib.hid (by rw [← hR, hc]; exact h0)
      subst h0
      clear hR hc
      obtain ⟨x0, x1, x2, x3, x4⟩ := XX3.out.c5
      go_wp2_with fail
      refine (ruleRight_any x w3).mono ?_
      rintro e w4 ⟨rfl, hb4⟩
      have HB4 := Lib.hid (HB3.out.trans (hb4.mono HB3.out.size))
      have SX4 := Lib.hid (SX3.out.on hb4)
      have XX4 := Lib.hid (XX3.out.on hb4)
      clear hb4 x0 x1 x2 x3 x4 HB3 SX3 XX3
      cases hx : x.ok with
      | false =>
        clear hx
        go_wp2_with fail
        go_ret
        exact ⟨rfl, HB4.out⟩
      | true =>
        have HX := Lib.hid hx
        clear hx
        obtain ⟨a0, a1, a2, a3, a4⟩ := SX4.out.c5
        obtain ⟨x0, x1, x2, x3, x4⟩ := XX4.out.c5
        go_upto_region 5 with (fail)
        have hba : Below w4.heap.size w4 (w4.alloc (.cells #[.int .i64 x.id, .int .i64 x.pr, .int .i64 x.ac, .int .i64 x.sc, .string x.pat] 71)) := (Below.refl _ _).alloc (Nat.le_refl _) _
        have HBa := Lib.hid (HB4.out.trans (hba.mono HB4.out.size))
        have SXa := Lib.hid (SX4.out.on hba)
        have XXa := Lib.hid (XX4.out.on hba)
        have hch := vchange_any s ⟨-1, -1, -1, -1, [x], []⟩ (.slice A s.rs.length cap) (.slice (some ⟨w4.heap.size, 0, none⟩) 1 1) (.slice none 0 0) (w4.alloc (.cells #[.int .i64 x.id, .int .i64 x.pr, .int .i64 x.ac, .int .i64 x.sc, .string x.pat] 71)) (by have := HSm.out; omega) (by simp) (by simp) (by simp) (tabs_on HT.out HBa.out HBa.out.size) (rul_on HS.out HBa.out HBa.out.size) (one_rule w4 x) (row_nil _ _)
        obtain ⟨C, hC⟩ : ∃ C, C = changeM pvM s ⟨-1, -1, -1, -1, [x], []⟩ := ⟨_, rfl⟩
        rw [← hC] at hch
        have HCh := Lib.hid hch
        have HC := Lib.hid hC
        clear hch hC hba
        go_wp2_with fail
        refine HCh.out.mono ?_
        clear HCh a0 a1 a2 a3 a4 x0 x1 x2 x3 x4
        rintro e w5 ⟨rv, rfl, hrv, _, hb5⟩
        obtain ⟨TA, TC, rfl⟩ := hrv.form
        have HB5 := Lib.hid (HBa.out.trans (hb5.mono HBa.out.size))
        have SX5 := Lib.hid (SXa.out.on hb5)
        have XX5 := Lib.hid (XXa.out.on hb5)
        have HR5 := Lib.hid hrv
        clear hb5 hrv HBa SXa XXa HB4 SX4 XX4
        obtain ⟨x0, x1, x2, x3, x4⟩ := XX5.out.c5
        have hlx := XX5.out.lt
        go_upto_region 6 with (fail)
        have hb6 : Below w5.heap.size w5 ((w5.alloc (.cells #[.int .i64 C.1.de, .int .i64 C.1.cl, .int .i64 C.1.fu, .int .i64 C.1.st, .slice TA C.1.rs.length TC] 59)).alloc (.cells #[.int .i64 C.2.1, .int .i64 C.2.2.1, .int .i64 C.2.2.2] 48)) := ((Below.refl _ _).alloc (Nat.le_refl _) _).alloc (by simp) _
        have CX6 : Hid (Blk ((w5.alloc (.cells #[.int .i64 C.1.de, .int .i64 C.1.cl, .int .i64 C.1.fu, .int .i64 C.1.st, .slice TA C.1.rs.length TC] 59)).alloc (.cells #[.int .i64 C.2.1, .int .i64 C.2.2.1, .int .i64 C.2.2.2] 48)) w5.heap.size 59 #[.int .i64 C.1.de, .int .i64 C.1.cl, .int .i64 C.1.fu, .int .i64 C.1.st, .slice TA C.1.rs.length TC]) := Lib.hid ((Blk.new _ _ _).alloc _)
        have VX6 : Hid (Blk ((w5.alloc (.cells #[.int .i64 C.1.de, .int .i64 C.1.cl, .int .i64 C.1.fu, .int .i64 C.1.st, .slice TA C.1.rs.length TC] 59)).alloc (.cells #[.int .i64 C.2.1, .int .i64 C.2.2.1, .int .i64 C.2.2.2] 48)) (w5.heap.size + 1) 48 #[.int .i64 C.2.1, .int .i64 C.2.2.1, .int .i64 C.2.2.2]) := Lib.hid (Blk.at_new _ _ (by simp) _ _)
        generalize ((w5.alloc (.cells #[.int .i64 C.1.de, .int .i64 C.1.cl, .int .i64 C.1.fu, .int .i64 C.1.st, .slice TA C.1.rs.length TC] 59)).alloc (.cells #[.int .i64 C.2.1, .int .i64 C.2.2.1, .int .i64 C.2.2.2] 48)) = w6 at *
        have HB6 := Lib.hid (HB5.out.trans (hb6.mono HB5.out.size))
        have SX6 := Lib.hid (SX5.out.on hb6)
        have XX6 := Lib.hid (XX5.out.on hb6)
        have HR6 := Lib.hid (rul_on HR5.out hb6 hb6.size)
        clear hb6 HB5 SX5 XX5 HR5 x0 x1 x2 x3 x4 hlx
        obtain ⟨x0, x1, x2, x3, x4⟩ := XX6.out.c5
        have hlx := XX6.out.lt
        go_wp2_with fail
        refine (vpat_any x.pat (rule_small HX.out) w6 (tabs_on HT.out HB6.out HB6.out.size)).mono ?_
        clear x0 x1 x2 x3 x4 hlx
        rintro e w7 ⟨rfl, hb7⟩
        obtain ⟨Pv, hPv⟩ : ∃ P, P = pvM x.pat := ⟨_, rfl⟩
        rw [← hPv]
        have HPv := Lib.hid hPv
        clear hPv
        have HB7 := Lib.hid (HB6.out.trans (hb7.mono HB6.out.size))
        have SX7 := Lib.hid (SX6.out.on hb7)
        have XX7 := Lib.hid (XX6.out.on hb7)
        have HR7 := Lib.hid (rul_on HR6.out hb7 hb7.size)
        have CX7 := Lib.hid (CX6.out.on hb7)
        have VX7 := Lib.hid (VX6.out.on hb7)
        clear hb7 HB6 SX6 XX6 HR6 CX6 VX6
        go_upto_region 7 with (fail)
        have hb8 : Below w7.heap.size w7 (w7.alloc (.cells #[.int .i64 Pv.1, .int .i64 0, .int .i64 Pv.2] 48)) := (Below.refl _ _).alloc (Nat.le_refl _) _
        have PX8 : Hid (Blk (w7.alloc (.cells #[.int .i64 Pv.1, .int .i64 0, .int .i64 Pv.2] 48)) w7.heap.size 48 #[.int .i64 Pv.1, .int .i64 0, .int .i64 Pv.2]) := Lib.hid (Blk.new _ _ _)
        generalize (w7.alloc (.cells #[.int .i64 Pv.1, .int .i64 0, .int .i64 Pv.2] 48)) = w8 at *
        have HB8 := Lib.hid (HB7.out.trans (hb8.mono HB7.out.size))
        have SX8 := Lib.hid (SX7.out.on hb8)
        have XX8 := Lib.hid (XX7.out.on hb8)
        have HR8 := Lib.hid (rul_on HR7.out hb8 hb8.size)
        have CX8 := Lib.hid (CX7.out.on hb8)
        have VX8 := Lib.hid (VX7.out.on hb8)
        clear hb8 HB7 SX7 XX7 HR7 CX7 VX7
        obtain ⟨a0, a1, a2, a3, a4⟩ := SX8.out.c5
        obtain ⟨x0, x1, x2, x3, x4⟩ := XX8.out.c5
        have hlx := XX8.out.lt
        go_wp2_with fail
        refine (setRule_any s (.slice A s.rs.length cap) x.id w8 (by have := HSm.out; omega) (rul_on HS.out HB8.out HB8.out.size)).mono ?_
        clear a0 a1 a2 a3 a4 x0 x1 x2 x3 x4 hlx
        rintro e w9 ⟨rfl, hb9⟩
        have HB9 := Lib.hid (HB8.out.trans (hb9.mono HB8.out.size))
        have SX9 := Lib.hid (SX8.out.on hb9)
        have XX9 := Lib.hid (XX8.out.on hb9)
        have HR9 := Lib.hid (rul_on HR8.out hb9 hb9.size)
        have CX9 := Lib.hid (CX8.out.on hb9)
        have VX9 := Lib.hid (VX8.out.on hb9)
        have PX9 := Lib.hid (PX8.out.on hb9)
        clear hb9 HB8 SX8 XX8 HR8 CX8 VX8 PX8
        generalize look s.rs x.id = lk
        obtain ⟨was, hwas⟩ : ∃ b, decide (x.id ∈ s.rs.map Ru.id) = b := ⟨_, rfl⟩
        rw [hwas]
        have HWas := Lib.hid hwas
        clear hwas
        go_upto_region 8 with (fail)
        have hb10 : Below w9.heap.size w9 (w9.alloc (.cells #[.int .i64 lk.id, .int .i64 lk.pr, .int .i64 lk.ac, .int .i64 lk.sc, .string lk.pat] 71)) := (Below.refl _ _).alloc (Nat.le_refl _) _
        generalize (w9.alloc (.cells #[.int .i64 lk.id, .int .i64 lk.pr, .int .i64 lk.ac, .int .i64 lk.sc, .string lk.pat] 71)) = w10 at *
        have HB10 := Lib.hid (HB9.out.trans (hb10.mono HB9.out.size))
        have SX10 := Lib.hid (SX9.out.on hb10)
        have XX10 := Lib.hid (XX9.out.on hb10)
        have HR10 := Lib.hid (rul_on HR9.out hb10 hb10.size)
        have CX10 := Lib.hid (CX9.out.on hb10)
        have VX10 := Lib.hid (VX9.out.on hb10)
        have PX10 := Lib.hid (PX9.out.on hb10)
        clear hb10 HB9 SX9 XX9 HR9 CX9 VX9 PX9
        have H1 := Lib.hid (rulesM_ok.1 HR0.out).1
        by_cases hf : (ins x s.rs).length ≤ 16
        · have HF := Lib.hid hf
          clear hf
          cases was with
          | false =>
            have hne : ¬ ((s.rs.length : Int) = 16) := by
              have hl := ins_length (r := x) H1.out.2.2.2
              rw [if_neg (of_decide_eq_false HWas.out)] at hl
              have := HF.out
              omega
            have hnb : ((s.rs.length : Int) == 16) = false := by simp [hne]
            obtain ⟨a0, a1, a2, a3, a4⟩ := SX10.out.c5
            have hls := SX10.out.lt
            go_upto_region 10 with (fail)
            clear a0 a1 a2 a3 a4 hls hne hnb
            obtain ⟨p0, hp0⟩ : ∃ p, p = Pv.1 := ⟨_, rfl⟩
            obtain ⟨p2, hp2⟩ : ∃ p, p = Pv.2 := ⟨_, rfl⟩
            rw [← hp0, ← hp2] at PX10
            have pp0 : w10.cell? ⟨w7.heap.size, 0, none⟩ = some (.int .i64 p0) := PX10.out.cell 0
            have pp2 : w10.cell? ⟨w7.heap.size, 2, none⟩ = some (.int .i64 p2) := PX10.out.cell 2
            have hlp := PX10.out.lt
            obtain ⟨x0, x1, x2, x3, x4⟩ := XX10.out.c5
            have hlx := XX10.out.lt
            by_cases hw : p0 = 0
            · have eC := HC.out.trans (putsV_ok HR0.out HX.out HF.out (by rw [← HPv.out, ← hp0]; exact hw))
              subst eC
              subst hw
              clear HC hp0 hp2
              have v0 : w10.cell? ⟨w5.heap.size + 1, 0, none⟩ = some (.int .i64 0) := VX10.out.cell 0
              have hlv := VX10.out.lt
              obtain ⟨g0, g1, g2, g3, g4⟩ := CX10.out.c5
              have hlg := CX10.out.lt
              have HRl : Hid (Rise (ins x s.rs)) := Lib.hid (Rise.ins H1.out.2.2.2)
              have HMx : Hid (x ∈ ins x s.rs) := Lib.hid (mem_ins.2 (.inl rfl))
              have hsr := setRule_any { s with rs := ins x s.rs } (.slice TA (ins x s.rs).length TC) x.id w10 (by have := HF.out; simp only; omega) HR10.out
              simp only at hsr
              rw [look_mem HRl.out HMx.out, decide_eq_true (List.mem_map_of_mem HMx.out)] at hsr
              have HSr := Lib.hid hsr
              clear hsr
              go_wp2_with fail
              refine HSr.out.mono ?_
              clear HSr x0 x1 x2 x3 x4 hlx pp0 pp2 hlp g0 g1 g2 g3 g4 hlg v0 hlv
              rintro e w11 ⟨rfl, hb11⟩
              go_upto_region 13 with (fail)
              have hb12 : Below w11.heap.size w11 (w11.alloc (.cells #[.int .i64 x.id, .int .i64 x.pr, .int .i64 x.ac, .int .i64 x.sc, .string x.pat] 71)) := (Below.refl _ _).alloc (Nat.le_refl _) _
              have hn12 : Blk (w11.alloc (.cells #[.int .i64 x.id, .int .i64 x.pr, .int .i64 x.ac, .int .i64 x.sc, .string x.pat] 71)) w11.heap.size 71 #[.int .i64 x.id, .int .i64 x.pr, .int .i64 x.ac, .int .i64 x.sc, .string x.pat] := Blk.new _ _ _
              generalize (w11.alloc (.cells #[.int .i64 x.id, .int .i64 x.pr, .int .i64 x.ac, .int .i64 x.sc, .string x.pat] 71)) = w12 at *
              have HB12 := Lib.hid (HB10.out.trans ((hb11.trans (hb12.mono hb11.size)).mono HB10.out.size))
              have XX12 := Lib.hid ((XX10.out.on hb11).on hb12)
              have VX12 := Lib.hid ((VX10.out.on hb11).on hb12)
              clear hb11 hb12 HB10 XX10 VX10
              obtain ⟨x0, x1, x2, x3, x4⟩ := XX12.out.c5
              obtain ⟨n0, n1, n2, n3, n4⟩ := hn12.c5
              have hlx := XX12.out.lt
              have hln := hn12.lt
              have v0 : w12.cell? ⟨w5.heap.size + 1, 0, none⟩ = some (.int .i64 0) := VX12.out.cell 0
              have hlv := VX12.out.lt
              have hq := fun w => run_eql_ru x x w
              rw [ruEq_refl x] at hq
              go_wp2_with fail
              go_ret
              exact ⟨rfl, HB12.out⟩
            · have eC := HC.out.trans (putsV_bad HR0.out HX.out HF.out (by rw [← HPv.out, ← hp0]; exact hw))
              rw [← HPv.out, ← hp0, ← hp2] at eC
              subst eC
              clear HC hp0 hp2
              have v0 : w10.cell? ⟨w5.heap.size + 1, 0, none⟩ = some (.int .i64 p0) := VX10.out.cell 0
              have v1 : w10.cell? ⟨w5.heap.size + 1, 1, none⟩ = some (.int .i64 x.id) := VX10.out.cell 1
              have v2 : w10.cell? ⟨w5.heap.size + 1, 2, none⟩ = some (.int .i64 p2) := VX10.out.cell 2
              have hlv := VX10.out.lt
              have g4 : w10.cell? ⟨w5.heap.size, 4, none⟩ = some (.slice TA 0 TC) := CX10.out.cell 4
              have hlg := CX10.out.lt
              have hwb : (p0 != 0) = true := by simp [hw]
              have hq := fun w => run_eql_verdict p0 x.id p2 p0 x.id p2 w
              have hqt : (p0 == p0 && x.id == x.id && p2 == p2) = true := by simp
              rw [hqt] at hq
              clear hqt
              go_wp2_with fail
              go_ret
              exact ⟨rfl, HB10.out⟩
          | true =>
            go_upto_region 10 with (fail)
            obtain ⟨p0, hp0⟩ : ∃ p, p = Pv.1 := ⟨_, rfl⟩
            obtain ⟨p2, hp2⟩ : ∃ p, p = Pv.2 := ⟨_, rfl⟩
            rw [← hp0, ← hp2] at PX10
            have pp0 : w10.cell? ⟨w7.heap.size, 0, none⟩ = some (.int .i64 p0) := PX10.out.cell 0
            have pp2 : w10.cell? ⟨w7.heap.size, 2, none⟩ = some (.int .i64 p2) := PX10.out.cell 2
            have hlp := PX10.out.lt
            obtain ⟨x0, x1, x2, x3, x4⟩ := XX10.out.c5
            have hlx := XX10.out.lt
            by_cases hw : p0 = 0
            · have eC := HC.out.trans (putsV_ok HR0.out HX.out HF.out (by rw [← HPv.out, ← hp0]; exact hw))
              subst eC
              subst hw
              clear HC hp0 hp2
              have v0 : w10.cell? ⟨w5.heap.size + 1, 0, none⟩ = some (.int .i64 0) := VX10.out.cell 0
              have hlv := VX10.out.lt
              obtain ⟨g0, g1, g2, g3, g4⟩ := CX10.out.c5
              have hlg := CX10.out.lt
              have HRl : Hid (Rise (ins x s.rs)) := Lib.hid (Rise.ins H1.out.2.2.2)
              have HMx : Hid (x ∈ ins x s.rs) := Lib.hid (mem_ins.2 (.inl rfl))
              have hsr := setRule_any { s with rs := ins x s.rs } (.slice TA (ins x s.rs).length TC) x.id w10 (by have := HF.out; simp only; omega) HR10.out
              simp only at hsr
              rw [look_mem HRl.out HMx.out, decide_eq_true (List.mem_map_of_mem HMx.out)] at hsr
              have HSr := Lib.hid hsr
              clear hsr
              go_wp2_with fail
              refine HSr.out.mono ?_
              clear HSr x0 x1 x2 x3 x4 hlx pp0 pp2 hlp g0 g1 g2 g3 g4 hlg v0 hlv
              rintro e w11 ⟨rfl, hb11⟩
              go_upto_region 13 with (fail)
              have hb12 : Below w11.heap.size w11 (w11.alloc (.cells #[.int .i64 x.id, .int .i64 x.pr, .int .i64 x.ac, .int .i64 x.sc, .string x.pat] 71)) := (Below.refl _ _).alloc (Nat.le_refl _) _
              have hn12 : Blk (w11.alloc (.cells #[.int .i64 x.id, .int .i64 x.pr, .int .i64 x.ac, .int .i64 x.sc, .string x.pat] 71)) w11.heap.size 71 #[.int .i64 x.id, .int .i64 x.pr, .int .i64 x.ac, .int .i64 x.sc, .string x.pat] := Blk.new _ _ _
              generalize (w11.alloc (.cells #[.int .i64 x.id, .int .i64 x.pr, .int .i64 x.ac, .int .i64 x.sc, .string x.pat] 71)) = w12 at *
              have HB12 := Lib.hid (HB10.out.trans ((hb11.trans (hb12.mono hb11.size)).mono HB10.out.size))
              have XX12 := Lib.hid ((XX10.out.on hb11).on hb12)
              have VX12 := Lib.hid ((VX10.out.on hb11).on hb12)
              clear hb11 hb12 HB10 XX10 VX10
              obtain ⟨x0, x1, x2, x3, x4⟩ := XX12.out.c5
              obtain ⟨n0, n1, n2, n3, n4⟩ := hn12.c5
              have hlx := XX12.out.lt
              have hln := hn12.lt
              have v0 : w12.cell? ⟨w5.heap.size + 1, 0, none⟩ = some (.int .i64 0) := VX12.out.cell 0
              have hlv := VX12.out.lt
              have hq := fun w => run_eql_ru x x w
              rw [ruEq_refl x] at hq
              go_wp2_with fail
              go_ret
              exact ⟨rfl, HB12.out⟩
            · have eC := HC.out.trans (putsV_bad HR0.out HX.out HF.out (by rw [← HPv.out, ← hp0]; exact hw))
              rw [← HPv.out, ← hp0, ← hp2] at eC
              subst eC
              clear HC hp0 hp2
              have v0 : w10.cell? ⟨w5.heap.size + 1, 0, none⟩ = some (.int .i64 p0) := VX10.out.cell 0
              have v1 : w10.cell? ⟨w5.heap.size + 1, 1, none⟩ = some (.int .i64 x.id) := VX10.out.cell 1
              have v2 : w10.cell? ⟨w5.heap.size + 1, 2, none⟩ = some (.int .i64 p2) := VX10.out.cell 2
              have hlv := VX10.out.lt
              have g4 : w10.cell? ⟨w5.heap.size, 4, none⟩ = some (.slice TA 0 TC) := CX10.out.cell 4
              have hlg := CX10.out.lt
              have hwb : (p0 != 0) = true := by simp [hw]
              have hq := fun w => run_eql_verdict p0 x.id p2 p0 x.id p2 w
              have hqt : (p0 == p0 && x.id == x.id && p2 == p2) = true := by simp
              rw [hqt] at hq
              clear hqt
              go_wp2_with fail
              go_ret
              exact ⟨rfl, HB10.out⟩
        · obtain ⟨e1, e2, e3⟩ := putsV_full HR0.out HX.out hf
          have eC := HC.out.trans e1
          subst eC
          clear HC e1 hf
          obtain rfl : was = false := by rw [← HWas.out]; exact decide_eq_false e2
          have h16 : (s.rs.length : Int) = 16 := by omega
          clear e2 e3
          obtain ⟨a0, a1, a2, a3, a4⟩ := SX10.out.c5
          have hls := SX10.out.lt
          have v0 : w10.cell? ⟨w5.heap.size + 1, 0, none⟩ = some (.int .i64 33) := VX10.out.cell 0
          have hlv := VX10.out.lt
          go_wp2_with fail
          go_ret
          exact ⟨rfl, HB10.out⟩
    · have h0i : (c != 0) = true := by simp [h0]
      clear hR hc
      go_wp2_with fail
      go_ret
      exact ⟨rfl, HB3.out⟩

end Go.Proofs.YtihhjcjmchlafaaGreatDoor
