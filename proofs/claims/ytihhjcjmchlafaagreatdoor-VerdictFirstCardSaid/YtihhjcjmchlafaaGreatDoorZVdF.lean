/- VerdictFirst. -/
import Derived.Test.YtihhjcjmchlafaaGreatDoorZMVe
namespace Go.Proofs.YtihhjcjmchlafaaGreatDoor
open Go.RowKit
variable {w w' : World}

theorem rul_nilF (n : Nat) (w : World) : RulesV n w (.slice none 0 0) [] := ⟨none, 0, rfl, Nat.le_refl _, fun h => absurd rfl h⟩

theorem store5 {w W : World} {g : Nat} {x0 x1 x2 x3 x4 c0 c1 c2 c3 c4 v : Value} {l : List Ru} (hx : Blk W g 59 #[x0, x1, x2, x3, x4]) (hr : RulesV W.heap.size W v l) (hf : Far (g + 1) v) (hB : Below w.heap.size w W) (hg : w.heap.size ≤ g) :
    Hid (Blk (((((W.setCell ⟨g, 0, none⟩ c0).setCell ⟨g, 1, none⟩ c1).setCell ⟨g, 2, none⟩ c2).setCell ⟨g, 3, none⟩ c3).setCell ⟨g, 4, none⟩ c4) g 59 #[c0, c1, c2, c3, c4]) ∧ Hid (RulesV (((((W.setCell ⟨g, 0, none⟩ c0).setCell ⟨g, 1, none⟩ c1).setCell ⟨g, 2, none⟩ c2).setCell ⟨g, 3, none⟩ c3).setCell ⟨g, 4, none⟩ c4).heap.size (((((W.setCell ⟨g, 0, none⟩ c0).setCell ⟨g, 1, none⟩ c1).setCell ⟨g, 2, none⟩ c2).setCell ⟨g, 3, none⟩ c3).setCell ⟨g, 4, none⟩ c4) v l) ∧ Hid (Below w.heap.size w (((((W.setCell ⟨g, 0, none⟩ c0).setCell ⟨g, 1, none⟩ c1).setCell ⟨g, 2, none⟩ c2).setCell ⟨g, 3, none⟩ c3).setCell ⟨g, 4, none⟩ c4)) ∧ (((((W.setCell ⟨g, 0, none⟩ c0).setCell ⟨g, 1, none⟩ c1).setCell ⟨g, 2, none⟩ c2).setCell ⟨g, 3, none⟩ c3).setCell ⟨g, 4, none⟩ c4).heap.size = W.heap.size := by
  have hz : (((((W.setCell ⟨g, 0, none⟩ c0).setCell ⟨g, 1, none⟩ c1).setCell ⟨g, 2, none⟩ c2).setCell ⟨g, 3, none⟩ c3).setCell ⟨g, 4, none⟩ c4).heap.size = W.heap.size := by simp [World.setCell]
  refine ⟨Lib.hid ?_, Lib.hid ?_, Lib.hid ?_, hz⟩
  · have := ((((hx.set_ 0 c0).set_ 1 c1).set_ 2 c2).set_ 3 c3).set_ 4 c4
    simpa using this
  · rw [hz]
    have k : ∀ {V : World}, RulesV W.heap.size V v l → ∀ (i : Nat) (u : Value), RulesV W.heap.size (V.setCell ⟨g, i, none⟩ u) v l := fun h i u => h.store (g := g) (i := i) (u := u) hf (Nat.lt_succ_self g)
    exact k (k (k (k (k hr 0 c0) 1 c1) 2 c2) 3 c3) 4 c4
  · have k : ∀ {V : World}, Below w.heap.size w V → ∀ (i : Nat) (u : Value), Below w.heap.size w (V.setCell ⟨g, i, none⟩ u) := fun h i u => h.setCell (p := ⟨g, i, none⟩) hg u
    exact k (k (k (k (k hB 0 c0) 1 c1) 2 c2) 3 c3) 4 c4
theorem ruid_pos {r : Ru} (h : r.ok = true) : 0 < r.id := by
  simp [Ru.ok] at h
  omega

set_option maxRecDepth 100000 in
set_option maxHeartbeats 8000000 in
theorem verdictFirst_law (s : RS) (v : Value) (w : World) (hm1 : s.rs.length ≤ 9223372036854775807) (hT : TabsAt w.heap.size w)
    (hS : RulesV w.heap.size w v s.rs) :
    Calls Tryz.prog 8 #[.agg #[.int .i64 s.de, .int .i64 s.cl, .int .i64 s.fu, .int .i64 s.st, v]] w fun e w' => e = .returned (.bool true) ∧ Below w.heap.size w w' := by
  obtain ⟨A, cap, rfl⟩ := hS.form
  obtain ⟨w0, hw0⟩ : ∃ w0, w0 = (w.alloc (.cells #[.int .i64 s.de, .int .i64 s.cl, .int .i64 s.fu, .int .i64 s.st, .slice A s.rs.length cap] 59)) := ⟨_, rfl⟩
  have hb0 : Below w.heap.size w w0 := by rw [hw0]; exact (Below.refl _ _).alloc (Nat.le_refl _) _
  have hx : Blk w0 w.heap.size 59 #[.int .i64 s.de, .int .i64 s.cl, .int .i64 s.fu, .int .i64 s.st, .slice A s.rs.length cap] := by rw [hw0]; exact Blk.new _ _ _
  have hs0 : w0.heap.size = w.heap.size + 1 := by rw [hw0]; simp
  have HS := Lib.hid hS
  have HT := Lib.hid hT
  have HM := Lib.hid hm1
  clear hS hT hm1
  go_enter Tryz.func8, Tryz.ntmps8
  go_wp2_with fail
  rw [← hw0]
  clear hw0
  refine (anchor8_any w0 (tabs_on HT.out hb0 hb0.size)).mono ?_
  rintro e w1 ⟨rfl, hb1⟩
  have HB1 := Lib.hid (hb0.trans (hb1.mono hb0.size))
  have SX1 := Lib.hid (hx.on hb1)
  have hs1 := Nat.le_trans (Nat.le_of_eq hs0.symm) hb1.size
  clear hb0 hx hb1 hs0
  obtain ⟨a0, a1, a2, a3, a4⟩ := SX1.out.c5
  go_wp2_with fail
  have hsm := small8_any s ⟨0, 0, 0, 0, [], []⟩ (.slice A s.rs.length cap) (.slice none 0 0) (.slice none 0 0) w1 HM.out (by simp) ⟨_, _, rfl⟩ (rul_on HS.out HB1.out HB1.out.size) (rul_nilF _ _)
  refine hsm.mono ?_
  clear hsm a0 a1 a2 a3 a4
  rintro e w2 ⟨b, rfl, hb, hb2⟩
  have HB2 := Lib.hid (HB1.out.trans (hb2.mono HB1.out.size))
  have SX2 := Lib.hid (SX1.out.on hb2)
  have hs2 := Nat.le_trans hs1 hb2.size
  clear hb2
  cases b with
  | false =>
    clear hb
    go_wp2_with fail
    go_ret
    exact ⟨rfl, HB2.out⟩
  | true =>
    have HSm := Lib.hid (hb rfl).1
    clear hb
    obtain ⟨a0, a1, a2, a3, a4⟩ := SX2.out.c5
    go_wp2_with fail
    refine (setRight_any s _ w2 (by have := HSm.out; omega) (rul_on HS.out HB2.out HB2.out.size)).mono ?_
    rintro e w3 ⟨rfl, hb3⟩
    have HB3 := Lib.hid (HB2.out.trans (hb3.mono HB2.out.size))
    have SX3 := Lib.hid (SX2.out.on hb3)
    have hs3 := Nat.le_trans hs2 hb3.size
    clear hb3 a0 a1 a2 a3 a4
    by_cases h1 : s.Ok
    · rw [decide_eq_true h1]
      have H1 := Lib.hid h1
      clear h1
      obtain ⟨a0, a1, a2, a3, a4⟩ := SX3.out.c5
      have hls := SX3.out.lt
      have h20 := HSm.out
      go_upto_region 7 with (fail)
      clear a0 a1 a2 a3 a4 hls h20
      go_loopw [3, 22] (fun lv i wr => ∃ (k : Nat) (last : Int) (l : List Ru) (rv : Value), i = .int .i64 k ∧ lv = .int .i64 last ∧ Hid (k + l.length = s.rs.length) ∧ Hid (RS.Ok { s with rs := l }) ∧ Hid (∀ r ∈ l, (pvM r.pat).1 ≠ 0 → last < r.id) ∧ Hid (Blk wr w.heap.size 59 #[.int .i64 s.de, .int .i64 s.cl, .int .i64 s.fu, .int .i64 s.st, rv]) ∧ Hid (RulesV wr.heap.size wr rv l) ∧ Hid (Below w.heap.size w wr) ∧ Hid (w.heap.size + 1 ≤ wr.heap.size)) (fun _ i _ => s.rs.length + 1 - (intOf i).toNat)
      case atStart => exact ⟨0, 0, s.rs, _, rfl, rfl, Lib.hid (by simp), H1, Lib.hid (fun r hr _ => ruid_pos (H1.out.2.2.1 r hr)), SX3, Lib.hid (rul_on HS.out HB3.out HB3.out.size), HB3, Lib.hid hs3⟩
      case round =>
        clear HB3 SX3 hs1 hs2 hs3 HB1 HB2 SX1 SX2
        obtain ⟨k, last, l, rv, rfl, rfl, HK, HO, HL, SX, HR, HB, HZ⟩ := hrel
        obtain ⟨RA, RC, rfl⟩ := HR.out.form
        obtain ⟨a0, a1, a2, a3, a4⟩ := SX.out.c5
        have hls := SX.out.lt
        have hk : (k : Int) < (s.rs.length : Int) + 1 := by have := HK.out; omega
        go_wp2_with fail
        have hvr := vrules_any { s with rs := l } (.slice RA l.length RC) wr (by have := HK.out; have := HSm.out; show l.length ≤ _; omega) (tabs_on HT.out HB.out HB.out.size) HR.out
        refine hvr.mono ?_
        clear hvr a0 a1 a2 a3 a4 hls hk
        rintro e w4 ⟨rfl, hb4⟩
        have HF := Lib.hid (firstV (p := pvM) (s := { s with rs := l }) (last := last) HO.out)
        have HN := Lib.hid (rulesM_none (p := pvM) (s := { s with rs := l }))
        generalize rulesM pvM { s with rs := l } = R at *
        obtain ⟨r0, r1, r2⟩ := R
        have HB4 := Lib.hid (HB.out.trans (hb4.mono HB.out.size))
        have SX4 := Lib.hid (SX.out.on hb4)
        have HR4 := Lib.hid (rul_on HR.out hb4 hb4.size)
        have HZ4 := Lib.hid (Nat.le_trans HZ.out hb4.size)
        clear hb4 HB SX HR HZ
        simp only
        go_upto_region 9 with (fail)
        have hb5 : Below w4.heap.size w4 (w4.alloc (.cells #[.int .i64 r0, .int .i64 r1, .int .i64 r2] 48)) := (Below.refl _ _).alloc (Nat.le_refl _) _
        have hv5 : Blk (w4.alloc (.cells #[.int .i64 r0, .int .i64 r1, .int .i64 r2] 48)) w4.heap.size 48 #[.int .i64 r0, .int .i64 r1, .int .i64 r2] := Blk.new _ _ _
        generalize w4.alloc (.cells #[.int .i64 r0, .int .i64 r1, .int .i64 r2] 48) = w5 at *
        have HB5 := Lib.hid (HB4.out.trans (hb5.mono HB4.out.size))
        have SX5 := Lib.hid (SX4.out.on hb5)
        have HR5 := Lib.hid (rul_on HR4.out hb5 hb5.size)
        have HZ5 := Lib.hid (Nat.le_trans HZ4.out hb5.size)
        have VX5 := Lib.hid hv5
        clear hb5 HB4 SX4 HR4 HZ4 hv5
        have v0 := VX5.out.cell 0
        have v1 := VX5.out.cell 1
        have v2 := VX5.out.cell 2
        have hlv := VX5.out.lt
        by_cases h0 : r0 = 0
        · have hn := HN.out (by exact h0)
          obtain ⟨rfl, hn'⟩ := Prod.mk.inj hn
          obtain ⟨rfl, rfl⟩ := Prod.mk.inj hn'
          clear hn hn' h0 HN HF
          have hq := fun w => run_eql_verdict 0 0 0 0 0 0 w
          go_wp2_with fail
          go_ret
          exact ⟨by simp, HB5.out⟩
        · have h0b : (r0 == 0) = false := by simp [h0]
          obtain ⟨hf1, hf2, hf3, hf4⟩ := HF.out h0 HL.out
          simp only at hf1 hf2 hf3 hf4
          have hle : ¬ r1 ≤ last := by omega
          have HF3 := Lib.hid hf3
          have HF4 := Lib.hid hf4
          have HF2 := Lib.hid hf2
          have hwf : (Lit.int .i64 r1).wf = true := by
            obtain ⟨x, hx, e⟩ := List.mem_map.1 hf2
            have := HO.out.2.2.1 x hx
            simp [Ru.ok] at this
            rw [← e]
            simp [Lit.wf, IntKind.min, IntKind.max, IntKind.signed, IntKind.bits]
            omega
          have HW := Lib.hid hwf
          clear hf1 hf2 hf3 hf4 HF HN hwf HL
          obtain ⟨a0, a1, a2, a3, a4⟩ := SX5.out.c5
          have hls := SX5.out.lt
          go_upto_region 14 with (fail)
          have hb6 : Below w5.heap.size w5 (w5.alloc (.cells #[.int .i64 r1] 3)) := (Below.refl _ _).alloc (Nat.le_refl _) _
          have hi6 : Hid (Row (w5.alloc (.cells #[.int .i64 r1] 3)).heap.size (w5.alloc (.cells #[.int .i64 r1] 3)) (.slice (some ⟨w5.heap.size, 0, none⟩) 1 1) (zI [r1])) := Lib.hid (by
            have q := Row.lit w5 #[.int .i64 r1] 3 (0, 0)
            exact q.more (by simp))
          have HB6 := Lib.hid (HB5.out.trans (hb6.mono HB5.out.size))
          have SX6 := Lib.hid (SX5.out.on hb6)
          have HR6 := Lib.hid (rul_on HR5.out hb6 hb6.size)
          have hap := apply_any { s with rs := l } ⟨-1, -1, -1, -1, [], [r1]⟩ (.slice RA l.length RC) (.slice none 0 0) (.slice (some ⟨w5.heap.size, 0, none⟩) 1 1) (w5.alloc (.cells #[.int .i64 r1] 3)) (by have := HK.out; have := HSm.out; show l.length ≤ _; omega) (by simp) (by simp) (by simpa using HW.out) HR6.out (rul_nilF _ _) hi6.out
          rw [drop2_ok HO.out HF2.out] at hap
          simp only at hap
          have HAp := Lib.hid hap
          have HO2 := Lib.hid (drop2_right (i := r1) HO.out)
          clear hap hi6 HO HR5 HR6
          go_wp2_with fail
          refine HAp.out.mono ?_
          clear HAp v0 v1 v2 hlv a0 a1 a2 a3 a4 hls hb6
          rintro e w7 ⟨rv, rfl, hrv, hfar, hb7⟩
          obtain ⟨GA, GC, rfl⟩ := hrv.form
          have HB7 := Lib.hid (HB6.out.trans (hb7.mono HB6.out.size))
          have SX7 := Lib.hid (SX6.out.on hb7)
          have HR7 := Lib.hid hrv
          have hfar7 : Far (w.heap.size + 1) (.slice GA (gone r1 l).length GC) := by
            have := HZ5.out
            exact Far.mono hfar (by simp; omega)
          have HFa := Lib.hid hfar7
          have HZ7 : Hid (w.heap.size + 1 ≤ w7.heap.size) := Lib.hid (by have := HZ5.out; have := hb7.size; simp at this; omega)
          clear hb7 HB5 HB6 SX5 SX6 hrv hfar hfar7 HZ5
          go_upto_region 15 with (fail)
          have hb8 : Below w7.heap.size w7 (w7.alloc (.cells #[.int .i64 s.de, .int .i64 s.cl, .int .i64 s.fu, .int .i64 s.st, .slice GA (gone r1 l).length GC] 59)) := (Below.refl _ _).alloc (Nat.le_refl _) _
          have hg8 : Blk (w7.alloc (.cells #[.int .i64 s.de, .int .i64 s.cl, .int .i64 s.fu, .int .i64 s.st, .slice GA (gone r1 l).length GC] 59)) w7.heap.size 59 #[.int .i64 s.de, .int .i64 s.cl, .int .i64 s.fu, .int .i64 s.st, .slice GA (gone r1 l).length GC] := Blk.new _ _ _
          generalize w7.alloc (.cells #[.int .i64 s.de, .int .i64 s.cl, .int .i64 s.fu, .int .i64 s.st, .slice GA (gone r1 l).length GC] 59) = w8 at *
          have HB8 := Lib.hid (HB7.out.trans (hb8.mono HB7.out.size))
          have SX8 := Lib.hid (SX7.out.on hb8)
          have HR8 := Lib.hid (rul_on HR7.out hb8 hb8.size)
          have HZ8 := Lib.hid (Nat.le_trans HZ7.out hb8.size)
          clear hb8 HB7 SX7 HR7 HZ7
          obtain ⟨g0, g1, g2, g3, g4⟩ := hg8.c5
          obtain ⟨a0, a1, a2, a3, a4⟩ := SX8.out.c5
          have fr := SX8.out.frozen
          have hls := SX8.out.lt
          go_wp2_with fail
          obtain ⟨q1, q2, q3, q4⟩ := store5 (c0 := .int .i64 s.de) (c1 := .int .i64 s.cl) (c2 := .int .i64 s.fu) (c3 := .int .i64 s.st) (c4 := .slice GA (gone r1 l).length GC) SX8.out HR8.out HFa.out HB8.out (Nat.le_refl _)
          have hk20 : k ≤ 20 := by have := HK.out; have := HSm.out; omega
          have hwr : wrap64 ((k : Int) + 1) = ((k + 1 : Nat) : Int) := by unfold wrap64; omega
          go_roundw
          case rel => exact ⟨k + 1, r1, gone r1 l, _, by rw [hwr], rfl, Lib.hid (by have := HK.out; have := HF4.out; omega), HO2, HF3, q1, q2, q3, Lib.hid (by rw [q4]; exact HZ8.out)⟩
          case measure =>
            have h3 := HK.out
            have h4 := HF4.out
            have h5 := HSm.out
            clear q1 q2 q3 q4
            rw [hwr]
            simp [intOf]
            omega
    · rw [decide_eq_false h1]
      clear h1
      go_wp2_with fail
      go_ret
      exact ⟨rfl, HB3.out⟩

end Go.Proofs.YtihhjcjmchlafaaGreatDoor
