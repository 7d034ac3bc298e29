/- RuleOwn. -/
import Derived.Test.YtdbddbelhgkelaaRuZ
import Derived.Test.YtdbddbelhgkelaaRuL
import Derived.Test.YtdbddbelhgkelaaRuM2
import Derived.Test.YtdbddbelhgkelaaRuS
import Derived.Deep.RegionHeld3
namespace Go.Proofs.Ytdbddbelhgkelaa
open Go.RowKit Go.Maps
variable {w w' : World}

set_option maxRecDepth 100000 in
set_option maxHeartbeats 16000000 in
theorem own_law (s : RS) (d : Dl) (v pv dv : Value) (w : World) (hdr : ∀ z ∈ d.drop, (Lit.int .i64 z).wf = true) (hS : RulesV w.heap.size w v s.rs) (hP : RulesV w.heap.size w pv d.put) (hD : Row w.heap.size w dv (zI d.drop)) :
    Calls Try.prog 7 #[.agg #[.int .i64 s.de, .int .i64 s.cl, .int .i64 s.fu, .int .i64 s.st, v], .agg #[.int .i64 d.de, .int .i64 d.cl, .int .i64 d.fu, .int .i64 d.st, pv, dv]] w fun e w' => e = .returned (.bool true) ∧ Below w.heap.size w w' := by
  obtain ⟨A, cap, rfl⟩ := hS.form
  obtain ⟨A1, cap1, rfl⟩ := hP.form
  obtain ⟨A2, cap2, rfl⟩ : ∃ A c, dv = .slice A d.drop.length c := by obtain ⟨A, c, h, _⟩ := hD; exact ⟨A, c, by simpa [zI] using h⟩
  have HS := Lib.hid hS
  have HP := Lib.hid hP
  have HD := Lib.hid hD
  have HDr := Lib.hid hdr
  clear hS hP hD hdr
  go_enter Try.func7, Try.ntmps7
  go_wp2_with fail
  have hb0 : Below w.heap.size w ((w.alloc (.cells #[.int .i64 s.de, .int .i64 s.cl, .int .i64 s.fu, .int .i64 s.st, .slice A s.rs.length cap] 24)).alloc (.cells #[.int .i64 d.de, .int .i64 d.cl, .int .i64 d.fu, .int .i64 d.st, .slice A1 d.put.length cap1, .slice A2 d.drop.length cap2] 27)) := ((Below.refl _ _).alloc (Nat.le_refl _) _).alloc (by simp) _
  have hs0 : Blk ((w.alloc (.cells #[.int .i64 s.de, .int .i64 s.cl, .int .i64 s.fu, .int .i64 s.st, .slice A s.rs.length cap] 24)).alloc (.cells #[.int .i64 d.de, .int .i64 d.cl, .int .i64 d.fu, .int .i64 d.st, .slice A1 d.put.length cap1, .slice A2 d.drop.length cap2] 27)) w.heap.size 24 #[.int .i64 s.de, .int .i64 s.cl, .int .i64 s.fu, .int .i64 s.st, .slice A s.rs.length cap] := (Blk.new _ _ _).alloc _
  have hd0 : Blk ((w.alloc (.cells #[.int .i64 s.de, .int .i64 s.cl, .int .i64 s.fu, .int .i64 s.st, .slice A s.rs.length cap] 24)).alloc (.cells #[.int .i64 d.de, .int .i64 d.cl, .int .i64 d.fu, .int .i64 d.st, .slice A1 d.put.length cap1, .slice A2 d.drop.length cap2] 27)) (w.heap.size + 1) 27 #[.int .i64 d.de, .int .i64 d.cl, .int .i64 d.fu, .int .i64 d.st, .slice A1 d.put.length cap1, .slice A2 d.drop.length cap2] := Blk.at_new _ _ (by simp) _ _
  generalize (w.alloc (.cells #[.int .i64 s.de, .int .i64 s.cl, .int .i64 s.fu, .int .i64 s.st, .slice A s.rs.length cap] 24)).alloc (.cells #[.int .i64 d.de, .int .i64 d.cl, .int .i64 d.fu, .int .i64 d.st, .slice A1 d.put.length cap1, .slice A2 d.drop.length cap2] 27) = w0 at *
  refine (anchor7_any w0).mono ?_
  rintro e w1 ⟨rfl, hb1⟩
  have HB1 := Lib.hid (hb0.trans (hb1.mono hb0.size))
  have SX1 := Lib.hid (hs0.on hb1)
  have DX1 := Lib.hid (hd0.on hb1)
  clear hb0 hs0 hd0 hb1
  obtain ⟨a0, a1, a2, a3, a4⟩ := SX1.out.c5
  obtain ⟨b0, b1, b2, b3, b4, b5⟩ := DX1.out.c6
  go_wp2_with fail
  refine (small_any _ _ _ _ _ _ _ _ A A1 A2 s.rs.length d.put.length d.drop.length cap cap1 cap2 w1).mono ?_
  rintro e w2 ⟨rfl, hb2⟩
  have HB2 := Lib.hid (HB1.out.trans (hb2.mono HB1.out.size))
  have SX2 := Lib.hid (SX1.out.on hb2)
  have DX2 := Lib.hid (DX1.out.on hb2)
  clear hb2 a0 a1 a2 a3 a4 b0 b1 b2 b3 b4 b5
  by_cases hsm : s.rs.length ≤ 40 ∧ d.put.length ≤ 40 ∧ d.drop.length ≤ 40
  · rw [decide_eq_true hsm]
    have HSm := Lib.hid hsm
    clear hsm
    obtain ⟨a0, a1, a2, a3, a4⟩ := SX2.out.c5
    obtain ⟨b0, b1, b2, b3, b4, b5⟩ := DX2.out.c6
    go_wp2_with fail
    obtain ⟨i0, hi, hz0, hz1, hz2⟩ := info_three infoRu
    have hlw : w.heap.size + 1 < w2.heap.size := DX2.out.lt
    have hlv : w.heap.size < w2.heap.size := SX2.out.lt
    have hbd : Below w2.heap.size w2 w2 := Below.refl _ _
    have HSr := Lib.hid (HS.out.on HB2.out)
    have HPr := Lib.hid (HP.out.on HB2.out)
    have hls : s.rs.length ≤ 1000000 := by have := HSm.out; omega
    have hlp : d.put.length ≤ 1000000 := by have := HSm.out; omega
    go_cut [] from 16 (fun W => ∃ (A3 : Option Addr) (c3 : Nat) (A4 : Option Addr) (c4 : Nat), Hid (Blk W w.heap.size 24 #[.int .i64 s.de, .int .i64 s.cl, .int .i64 s.fu, .int .i64 s.st, .slice A3 s.rs.length c3]) ∧ Hid (Blk W (w.heap.size + 1) 27 #[.int .i64 d.de, .int .i64 d.cl, .int .i64 d.fu, .int .i64 d.st, .slice A4 d.put.length c4, .slice A2 d.drop.length cap2]) ∧ Hid (OwnU W w2.heap.size 44 (.slice A3 s.rs.length c3) s.rs) ∧ Hid (OwnU W w2.heap.size 44 (.slice A4 d.put.length c4) d.put) ∧ Hid (Below w.heap.size w W))
    case first =>
      rename_i J K' hJ hK'
      go_region_law (first
        | (refine step_append_rules (.agg #[.int .i64 0, .int .i64 0, .int .i64 0, .int .i64 0, .string ⟨#[]⟩]) Try.underlying22 rfl (by decide) _ rfl (.tmp 16) (.tmp 18) rfl i0 hi hz0 hz1 hz2 w2 (by first | exact (hbd.alloc (Nat.le_refl _) _).drew | exact ((hbd.alloc (Nat.le_refl _) _).alloc (by first | (simp; done) | fail) _).drew) (w2.heap.size) (by first | (simp [Act.eval, Act.put]; done) | fail) (by first | exact Blk.at_new _ _ (by first | (simp; done) | fail) _ _ | exact (Blk.at_new _ _ (by first | (simp; done) | fail) _ _).alloc _ | fail) (by first | (simp; done) | fail) (.slice A s.rs.length cap) s.rs (by first | (simp [Act.eval, Act.put]; done) | fail) HSr.out hls ?_
           intro v3 w3 hB3 hO3 hgr3 hor3
           obtain ⟨A3, c3, rfl⟩ := OwnU.form hO3
           have b43 := (DX2.out.on hB3).cell 4
           have hl3 := (DX2.out.on hB3).lt
           have hl3' := (SX2.out.on hB3).lt)
        | (refine step_append_rules (.agg #[.int .i64 0, .int .i64 0, .int .i64 0, .int .i64 0, .string ⟨#[]⟩]) Try.underlying22 rfl (by decide) _ rfl (.tmp 16) (.tmp 18) rfl i0 hi hz0 hz1 hz2 w2 (by first | exact (hbd.alloc (Nat.le_refl _) _).drew | exact ((hbd.alloc (Nat.le_refl _) _).alloc (by first | (simp; done) | fail) _).drew) (w2.heap.size + 1) (by first | (simp [Act.eval, Act.put]; done) | fail) (by first | exact Blk.at_new _ _ (by first | (simp; done) | fail) _ _ | exact (Blk.at_new _ _ (by first | (simp; done) | fail) _ _).alloc _ | fail) (by first | (simp; done) | fail) (.slice A s.rs.length cap) s.rs (by first | (simp [Act.eval, Act.put]; done) | fail) HSr.out hls ?_
           intro v3 w3 hB3 hO3 hgr3 hor3
           obtain ⟨A3, c3, rfl⟩ := OwnU.form hO3
           have b43 := (DX2.out.on hB3).cell 4
           have hl3 := (DX2.out.on hB3).lt
           have hl3' := (SX2.out.on hB3).lt)
        | (refine step_append_rules (.agg #[.int .i64 0, .int .i64 0, .int .i64 0, .int .i64 0, .string ⟨#[]⟩]) Try.underlying22 rfl (by decide) _ rfl (.tmp 20) (.tmp 22) rfl i0 hi hz0 hz1 hz2 w2 (by first | exact hB3 | exact hB3.alloc hB3.size _ | fail) (w3.heap.size) (by first | (simp [Act.eval, Act.put]; done) | fail) (by first | exact Blk.at_new _ _ (by first | (simp; done) | fail) _ _ | exact Blk.grown (by first | exact Blk.at_new _ _ (by first | (simp; done) | fail) _ _ | exact (Blk.at_new _ _ (by first | (simp; done) | fail) _ _).alloc _ | fail) hgr3 (by first | (simp; done) | (simp; omega) | fail) | fail) (by have := hB3.size; first | (simp; done) | (simp; omega) | fail) (.slice A1 d.put.length cap1) d.put (by first | (simp [Act.eval, Act.put]; done) | fail) HPr.out hlp ?_
           intro v4 w4 hB4 hO4 hgr4 hor4
           obtain ⟨A4, c4, rfl⟩ := OwnU.form hO4
           have O34 : OwnU w4 w2.heap.size 44 (.slice A3 s.rs.length c3) s.rs := by
             first
               | exact World.ownsRow.kept hO3 hgr4 (.inr (fun e => by first | (rcases hor3 with h | h <;> rw [h] at e <;> simp at e <;> omega) | fail))
               | exact World.ownsRow.kept (World.ownsRow.alloc hO3 _) hgr4 (.inr (fun e => by have := (World.ownsRow.lt hO3 _ e).2; omega))
               | fail
           have a44 := (SX2.out.on hB4).cell 4
           have a4f := (SX2.out.on hB4).frozen 4
           have b44 := (DX2.out.on hB4).cell 4
           have b4f := (DX2.out.on hB4).frozen 4
           have hl4 := (DX2.out.on hB4).lt
           have hl4' := (SX2.out.on hB4).lt)
        | (refine step_append_rules (.agg #[.int .i64 0, .int .i64 0, .int .i64 0, .int .i64 0, .string ⟨#[]⟩]) Try.underlying22 rfl (by decide) _ rfl (.tmp 20) (.tmp 22) rfl i0 hi hz0 hz1 hz2 w2 (by first | exact hB3 | exact hB3.alloc hB3.size _ | fail) (w2.heap.size) (by first | (simp [Act.eval, Act.put]; done) | fail) (by first | exact Blk.at_new _ _ (by first | (simp; done) | fail) _ _ | exact Blk.grown (by first | exact Blk.at_new _ _ (by first | (simp; done) | fail) _ _ | exact (Blk.at_new _ _ (by first | (simp; done) | fail) _ _).alloc _ | fail) hgr3 (by first | (simp; done) | (simp; omega) | fail) | fail) (by have := hB3.size; first | (simp; done) | (simp; omega) | fail) (.slice A1 d.put.length cap1) d.put (by first | (simp [Act.eval, Act.put]; done) | fail) HPr.out hlp ?_
           intro v4 w4 hB4 hO4 hgr4 hor4
           obtain ⟨A4, c4, rfl⟩ := OwnU.form hO4
           have O34 : OwnU w4 w2.heap.size 44 (.slice A3 s.rs.length c3) s.rs := by
             first
               | exact World.ownsRow.kept hO3 hgr4 (.inr (fun e => by first | (rcases hor3 with h | h <;> rw [h] at e <;> simp at e <;> omega) | fail))
               | exact World.ownsRow.kept (World.ownsRow.alloc hO3 _) hgr4 (.inr (fun e => by have := (World.ownsRow.lt hO3 _ e).2; omega))
               | fail
           have a44 := (SX2.out.on hB4).cell 4
           have a4f := (SX2.out.on hB4).frozen 4
           have b44 := (DX2.out.on hB4).cell 4
           have b4f := (DX2.out.on hB4).frozen 4
           have hl4 := (DX2.out.on hB4).lt
           have hl4' := (SX2.out.on hB4).lt)
        | (refine step_append_rules (.agg #[.int .i64 0, .int .i64 0, .int .i64 0, .int .i64 0, .string ⟨#[]⟩]) Try.underlying22 rfl (by decide) _ rfl (.tmp 20) (.tmp 22) rfl i0 hi hz0 hz1 hz2 w2 (by first | exact hB3 | exact hB3.alloc hB3.size _ | fail) (w2.heap.size + 1) (by first | (simp [Act.eval, Act.put]; done) | fail) (by first | exact Blk.at_new _ _ (by first | (simp; done) | fail) _ _ | exact Blk.grown (by first | exact Blk.at_new _ _ (by first | (simp; done) | fail) _ _ | exact (Blk.at_new _ _ (by first | (simp; done) | fail) _ _).alloc _ | fail) hgr3 (by first | (simp; done) | (simp; omega) | fail) | fail) (by have := hB3.size; first | (simp; done) | (simp; omega) | fail) (.slice A1 d.put.length cap1) d.put (by first | (simp [Act.eval, Act.put]; done) | fail) HPr.out hlp ?_
           intro v4 w4 hB4 hO4 hgr4 hor4
           obtain ⟨A4, c4, rfl⟩ := OwnU.form hO4
           have O34 : OwnU w4 w2.heap.size 44 (.slice A3 s.rs.length c3) s.rs := by
             first
               | exact World.ownsRow.kept hO3 hgr4 (.inr (fun e => by first | (rcases hor3 with h | h <;> rw [h] at e <;> simp at e <;> omega) | fail))
               | exact World.ownsRow.kept (World.ownsRow.alloc hO3 _) hgr4 (.inr (fun e => by have := (World.ownsRow.lt hO3 _ e).2; omega))
               | fail
           have a44 := (SX2.out.on hB4).cell 4
           have a4f := (SX2.out.on hB4).frozen 4
           have b44 := (DX2.out.on hB4).cell 4
           have b4f := (DX2.out.on hB4).frozen 4
           have hl4 := (DX2.out.on hB4).lt
           have hl4' := (SX2.out.on hB4).lt)
        | fail)
      all_goals
        refine hK' _ _ (Met.intro (hJ _ _ ?_))
        (repeat apply Exists.intro)
        refine ⟨?_, rfl⟩
        have hw34 := hB4.size
        refine ⟨A3, c3, A4, c4, Lib.hid ?_, Lib.hid ?_, Lib.hid ?_, Lib.hid ?_, Lib.hid ?_⟩
        · exact ((SX2.out.on hB4).set_ 4 _).far (p := ⟨w.heap.size + 1, 4, none⟩) (by simp) _
        · exact ((DX2.out.on hB4).far (p := ⟨w.heap.size, 4, none⟩) (by simp) _).set_ 4 _
        · exact OwnU.farset (OwnU.farset O34 (a := ⟨w.heap.size, 4, none⟩) (fun e => by have := (World.ownsRow.lt O34 _ e).1; simp only at this; omega) _) (a := ⟨w.heap.size + 1, 4, none⟩) (fun e => by have := (World.ownsRow.lt O34 _ e).1; simp only at this; omega) _
        · exact OwnU.farset (OwnU.farset hO4 (a := ⟨w.heap.size, 4, none⟩) (fun e => by have := (World.ownsRow.lt hO4 _ e).1; simp only at this; omega) _) (a := ⟨w.heap.size + 1, 4, none⟩) (fun e => by have := (World.ownsRow.lt hO4 _ e).1; simp only at this; omega) _
        · exact ((HB2.out.trans (hB4.mono HB2.out.size)).setCell (p := ⟨w.heap.size, 4, none⟩) (Nat.le_refl _) _).setCell (p := ⟨w.heap.size + 1, 4, none⟩) (by simp) _
    case rest =>
      rename World => wq
      obtain ⟨A3, c3, A4, c4, SXc, DXc, O3, O4, HBc⟩ := hcut
      obtain ⟨a0, a1, a2, a3, a4⟩ := SXc.out.c5
      obtain ⟨b0, b1, b2, b3, b4, b5⟩ := DXc.out.c6
      have hap := apply_any s d (.slice A3 s.rs.length c3) (.slice A4 d.put.length c4) (.slice A2 d.drop.length cap2) wq (by have := HSm.out; omega) (by have := HSm.out; omega) (by have := HSm.out; omega) HDr.out (OwnU.set O3.out) (OwnU.set O4.out) ((HD.out.below HBc.out).more HBc.out.size)
      by_cases h0 : (applyM s d).2 = 0
      · have ht := taken_iff.1 h0
        rw [taken_eq ht] at hap
        have hu16 : (after s d).length ≤ 16 := ht.right.2.1
        obtain ⟨u, hu⟩ : ∃ u : RS, { nums s d with rs := after s d } = u := ⟨_, rfl⟩
        rw [hu] at hap
        have HU : Hid (u.rs.length ≤ 16) := Lib.hid (by rw [← hu]; exact hu16)
        have HAp := Lib.hid hap
        clear hap h0 ht hu16 hu
        go_wp2_with fail
        refine HAp.out.mono ?_
        clear HAp
        rintro e w6 ⟨rv, rfl, hrv, hfar, hb6⟩
        obtain ⟨TA, TC, rfl⟩ := hrv.form
        have SX6 := Lib.hid (SXc.out.on hb6)
        have DX6 := Lib.hid (DXc.out.on hb6)
        have O36 := Lib.hid (OwnU.on O3.out hb6)
        have O46 := Lib.hid (OwnU.on O4.out hb6)
        have HB6 := Lib.hid (HBc.out.trans (hb6.mono HBc.out.size))
        have TR6 := Lib.hid hrv
        have TF := Lib.hid hfar
        have HC6 := Lib.hid hb6.size
        have hbq6 := Lib.hid hb6
        clear hrv hfar hb6 a0 a1 a2 a3 a4 b0 b1 b2 b3 b4 b5
        go_wp2_with fail
        have hb7 : Below w6.heap.size w6 (w6.alloc (.cells #[.int .i64 u.de, .int .i64 u.cl, .int .i64 u.fu, .int .i64 u.st, .slice TA u.rs.length TC] 24)) := (Below.refl _ _).alloc (Nat.le_refl _) _
        have ht7 : Blk (w6.alloc (.cells #[.int .i64 u.de, .int .i64 u.cl, .int .i64 u.fu, .int .i64 u.st, .slice TA u.rs.length TC] 24)) w6.heap.size 24 #[.int .i64 u.de, .int .i64 u.cl, .int .i64 u.fu, .int .i64 u.st, .slice TA u.rs.length TC] := Blk.new _ _ _
        generalize w6.alloc (.cells #[.int .i64 u.de, .int .i64 u.cl, .int .i64 u.fu, .int .i64 u.st, .slice TA u.rs.length TC] 24) = w7 at *
        have TX7 := Lib.hid ht7
        have SX7 := Lib.hid (SX6.out.on hb7)
        have DX7 := Lib.hid (DX6.out.on hb7)
        have O37 := Lib.hid (OwnU.on O36.out hb7)
        have O47 := Lib.hid (OwnU.on O46.out hb7)
        have TR7 := Lib.hid (TR6.out.on hb7)
        have HB7 := Lib.hid (HB6.out.trans (hb7.mono HB6.out.size))
        have HC7 : Hid (wq.heap.size ≤ w7.heap.size) := Lib.hid (Nat.le_trans HC6.out hb7.size)
        have hb67 := Lib.hid hb7
        clear ht7 hb7
        refine (madeSet_any u _ w7 (by have := HU.out; omega) TR7.out).mono ?_
        rintro e w8 ⟨V, rfl, hV, hb8⟩
        obtain ⟨VA, VC, rfl⟩ := OwnU.form hV
        have TX8 := Lib.hid (TX7.out.on hb8)
        have SX8 := Lib.hid (SX7.out.on hb8)
        have DX8 := Lib.hid (DX7.out.on hb8)
        have O38 := Lib.hid (OwnU.on O37.out hb8)
        have O48 := Lib.hid (OwnU.on O47.out hb8)
        have TR8 := Lib.hid (TR7.out.on hb8)
        have HB8 := Lib.hid (HB7.out.trans (hb8.mono HB7.out.size))
        have HC8 : Hid (wq.heap.size ≤ w8.heap.size) := Lib.hid (Nat.le_trans HC7.out hb8.size)
        have VR8 := Lib.hid (OwnU.set hV)
        have hb78 := Lib.hid hb8
        clear hV hb8
        go_upto_region 10 with (fail)
        have hb9 : Below w8.heap.size w8 (w8.alloc (.cells #[.int .i64 u.de, .int .i64 u.cl, .int .i64 u.fu, .int .i64 u.st, .slice VA u.rs.length VC] 35)) := (Below.refl _ _).alloc (Nat.le_refl _) _
        have hx9 : Blk (w8.alloc (.cells #[.int .i64 u.de, .int .i64 u.cl, .int .i64 u.fu, .int .i64 u.st, .slice VA u.rs.length VC] 35)) w8.heap.size 35 #[.int .i64 u.de, .int .i64 u.cl, .int .i64 u.fu, .int .i64 u.st, .slice VA u.rs.length VC] := Blk.new _ _ _
        generalize w8.alloc (.cells #[.int .i64 u.de, .int .i64 u.cl, .int .i64 u.fu, .int .i64 u.st, .slice VA u.rs.length VC] 35) = w9 at *
        have HB89 := Lib.hid hb9
        have WX9 := Lib.hid hx9
        have VR9 := Lib.hid (VR8.out.on hb9)
        clear hb9 hx9
        obtain ⟨x0, x1, x2, x3, x4⟩ := WX9.out.c5
        have hlx := WX9.out.lt
        have hbd9 : Below w9.heap.size w9 w9 := Below.refl _ _
        have hlu : u.rs.length ≤ 1000000 := by have := HU.out; omega
        obtain ⟨i1, hi1, hy0, hy1, hy2⟩ := info_three infoX
        have HX9 := WX9
        go_wp2_with (first
          | (at_builtin
             refine wpList_append_rules _ rfl (.tmp 36) (.tmp 38) 33 rfl w9.heap.size 68 i1 (.agg #[.int .i64 0, .int .i64 0, .int .i64 0, .int .i64 0, .string ⟨#[]⟩]) 48 Try.underlying33 hi1 hy0 hy1 hy2 rfl (.slice (some ⟨w9.heap.size, 0, none⟩) 0 0) [] rfl (ownU_empty w9 _ _ (Nat.le_refl _)) w9.heap.size (.slice VA u.rs.length VC) u.rs rfl (VR9.out.below (hbd9.alloc (Nat.le_refl _) _)) (by simpa using hlu) (by decide) (by simp) ?_
             intro v5 w10 hO10 hgr
             simp only [List.nil_append] at hO10
             have hB10 : Below w9.heap.size w9 w10 := (hbd9.alloc (Nat.le_refl _) _).grown hgr (by simp) (fun k hk => by simp [Value.ownBlock] at hk; omega)
             obtain ⟨A5, c5, rfl⟩ := OwnU.form hO10
             have x43 := (HX9.out.on hB10).cell 4
             have x4f := (HX9.out.on hB10).frozen 4
             have hl3 := (HX9.out.on hB10).lt
             have a43 := ((SX8.out.on HB89.out).on hB10).cell 4
             have a4l := ((SX8.out.on HB89.out).on hB10).lt
             have hne8 := SX8.out.lt
             have hne9 : w.heap.size ≠ w8.heap.size := by omega)
          | go_in)
        have WXc : Hid (Blk (w10.setCell ⟨w8.heap.size, 4, none⟩ (.slice A5 u.rs.length c5)) w8.heap.size 35 #[.int .i64 u.de, .int .i64 u.cl, .int .i64 u.fu, .int .i64 u.st, .slice A5 u.rs.length c5]) := Lib.hid ((WX9.out.on hB10).set_ 4 _)
        have O5 := Lib.hid (OwnU.farset hO10 (a := ⟨w8.heap.size, 4, none⟩) (fun e => by have := (World.ownsRow.lt hO10 _ e).1; simp only at this; omega) (.slice A5 u.rs.length c5))
        have hbd : Below w8.heap.size w8 (w10.setCell ⟨w8.heap.size, 4, none⟩ (.slice A5 u.rs.length c5)) := (HB89.out.trans (hB10.mono HB89.out.size)).setCell (p := ⟨w8.heap.size, 4, none⟩) (Nat.le_refl _) _
        generalize w10.setCell ⟨w8.heap.size, 4, none⟩ (.slice A5 u.rs.length c5) = wc at *
        have TXc := Lib.hid (TX8.out.on hbd)
        have SXc := Lib.hid (SX8.out.on hbd)
        have DXc := Lib.hid (DX8.out.on hbd)
        have O3c := Lib.hid (OwnU.on O38.out hbd)
        have O4c := Lib.hid (OwnU.on O48.out hbd)
        have TRc := Lib.hid (TR8.out.on hbd)
        have HBc := Lib.hid (HB8.out.trans (hbd.mono HB8.out.size))
        have HCc : Hid (wq.heap.size ≤ wc.heap.size) := Lib.hid (Nat.le_trans HC8.out hbd.size)
        have VRc := Lib.hid (OwnU.set O5.out)
        have HI0 : Hid (OI w w2.heap.size wq.heap.size w6.heap.size w8.heap.size #[.int .i64 s.de, .int .i64 s.cl, .int .i64 s.fu, .int .i64 s.st, .slice A3 s.rs.length c3] #[.int .i64 d.de, .int .i64 d.cl, .int .i64 d.fu, .int .i64 d.st, .slice A4 d.put.length c4, .slice A2 d.drop.length cap2] #[.int .i64 u.de, .int .i64 u.cl, .int .i64 u.fu, .int .i64 u.st, .slice TA u.rs.length TC] #[.int .i64 u.de, .int .i64 u.cl, .int .i64 u.fu, .int .i64 u.st, .slice A5 u.rs.length c5] A3 A4 s.rs.length d.put.length (.slice TA u.rs.length TC) (.slice A5 u.rs.length c5) u.rs wc) := Lib.hid
          ⟨SXc.out, DXc.out, TXc.out, WXc.out, ((((Held.of_own O3.out (Nat.le_refl _)).below hbq6.out).below hb67.out).below hb78.out).below hbd, ((((Held.of_own O4.out (Nat.le_refl _)).below hbq6.out).below hb67.out).below hb78.out).below hbd, TRc.out, VRc.out,
            TF.out, fun k hk => by have := (World.ownsRow.lt O5.out k hk).1; have := HB89.out.size; have := HC8.out; omega, hlw, HC6.out, HC8.out, HBc.out⟩
        clear TXc SXc DXc O3c O4c TRc HBc HCc VRc WXc O5 x43 x4f hl3 a43 a4l hO10 hB10 hgr WX9 HX9 VR9 HB89
        clear TX7 SX7 DX7 O37 O47 TR7 HB7 HC7 TX8 SX8 DX8 O38 O48 TR8 HB8 HC8 VR8 SX6 DX6 O36 O46 HB6 TR6 TF HC6 hbq6 hb67 hb78 hbd hbd9 hlx x0 x1 x2 x3 x4
        go_loopw [44] (fun i wr => ∃ k : Nat, k ≤ s.rs.length ∧ i = .int .i64 k ∧ Hid (OI w w2.heap.size wq.heap.size w6.heap.size w8.heap.size #[.int .i64 s.de, .int .i64 s.cl, .int .i64 s.fu, .int .i64 s.st, .slice A3 s.rs.length c3] #[.int .i64 d.de, .int .i64 d.cl, .int .i64 d.fu, .int .i64 d.st, .slice A4 d.put.length c4, .slice A2 d.drop.length cap2] #[.int .i64 u.de, .int .i64 u.cl, .int .i64 u.fu, .int .i64 u.st, .slice TA u.rs.length TC] #[.int .i64 u.de, .int .i64 u.cl, .int .i64 u.fu, .int .i64 u.st, .slice A5 u.rs.length c5] A3 A4 s.rs.length d.put.length (.slice TA u.rs.length TC) (.slice A5 u.rs.length c5) u.rs wr)) (fun i _ => s.rs.length - (intOf i).toNat)
        case atStart => exact ⟨0, Nat.zero_le _, rfl, HI0⟩
        case round =>
          obtain ⟨k, hk, rfl, HI⟩ := hrel
          by_cases hlt : k < s.rs.length
          · obtain ⟨g, cs, hA, hg1, hg2, hbk, hsz⟩ := HI.out.h3 (by omega)
            obtain ⟨v0, hv0⟩ : ∃ v, cs[k * 5 + 2]? = some v := ⟨_, Array.getElem?_eq_getElem (by omega)⟩
            have ck : wr.cell? ⟨g, k * 5 + 2, none⟩ = some v0 := (hbk.cell _).trans hv0
            have fk := hbk.frozen (k * 5 + 2)
            have a4 := HI.out.s.cell 4
            simp only [hA] at a4
            have HA := Lib.hid hA
            have HLt := Lib.hid hlt
            have HG1 := Lib.hid hg1
            have HG2 := Lib.hid hg2
            clear hbk hv0 hsz hA hg1 hg2
            go_wp2
            go_roundw
            case rel => exact ⟨k + 1, HLt.out, by go_num, Lib.hid (HI.out.store g _ HG1.out HG2.out _)⟩
            case measure => have := HLt.out; simp [intOf]; omega
          · obtain rfl : k = s.rs.length := by omega
            clear hlt
            have b4 := HI.out.d.cell 4
            go_wp2_with fail
            go_loopw [56] (fun i wr => ∃ k : Nat, k ≤ d.put.length ∧ i = .int .i64 k ∧ Hid (OI w w2.heap.size wq.heap.size w6.heap.size w8.heap.size #[.int .i64 s.de, .int .i64 s.cl, .int .i64 s.fu, .int .i64 s.st, .slice A3 s.rs.length c3] #[.int .i64 d.de, .int .i64 d.cl, .int .i64 d.fu, .int .i64 d.st, .slice A4 d.put.length c4, .slice A2 d.drop.length cap2] #[.int .i64 u.de, .int .i64 u.cl, .int .i64 u.fu, .int .i64 u.st, .slice TA u.rs.length TC] #[.int .i64 u.de, .int .i64 u.cl, .int .i64 u.fu, .int .i64 u.st, .slice A5 u.rs.length c5] A3 A4 s.rs.length d.put.length (.slice TA u.rs.length TC) (.slice A5 u.rs.length c5) u.rs wr)) (fun i _ => d.put.length - (intOf i).toNat)
            case atStart => exact ⟨0, Nat.zero_le _, rfl, HI⟩
            case round =>
              clear HI b4
              obtain ⟨k, hk, rfl, HI⟩ := hrel
              by_cases hlt : k < d.put.length
              · obtain ⟨g, cs, hA, hg1, hg2, hbk, hsz⟩ := HI.out.h4 (by omega)
                obtain ⟨v0, hv0⟩ : ∃ v, cs[k * 5 + 2]? = some v := ⟨_, Array.getElem?_eq_getElem (by omega)⟩
                have ck : wr.cell? ⟨g, k * 5 + 2, none⟩ = some v0 := (hbk.cell _).trans hv0
                have fk := hbk.frozen (k * 5 + 2)
                have b4 := HI.out.d.cell 4
                simp only [hA] at b4
                have HLt := Lib.hid hlt
                have HG1 := Lib.hid hg1
                have HG2 := Lib.hid hg2
                clear hbk hv0 hsz hA hg1 hg2
                go_wp2
                go_roundw
                case rel => exact ⟨k + 1, HLt.out, by go_num, Lib.hid (HI.out.store g _ HG1.out HG2.out _)⟩
                case measure => have := HLt.out; simp [intOf]; omega
              · obtain rfl : k = d.put.length := by omega
                clear hlt
                go_upto_region 21 with (fail)
                have HTd : Hid (Blk wr.drew w6.heap.size 24 #[.int .i64 u.de, .int .i64 u.cl, .int .i64 u.fu, .int .i64 u.st, .slice TA u.rs.length TC]) := Lib.hid HI.out.t
                have HXd : Hid (Blk wr.drew w8.heap.size 35 #[.int .i64 u.de, .int .i64 u.cl, .int .i64 u.fu, .int .i64 u.st, .slice A5 u.rs.length c5]) := Lib.hid HI.out.x
                have HRTd : Hid (RulesV wr.drew.heap.size wr.drew (.slice TA u.rs.length TC) u.rs) := Lib.hid HI.out.tr
                have HRXd : Hid (RulesV wr.drew.heap.size wr.drew (.slice A5 u.rs.length c5) u.rs) := Lib.hid HI.out.xr
                have HBw : Hid (Below w.heap.size w wr.drew) := Lib.hid HI.out.bel.drew
                have HL1k : Hid (u.rs.length ≤ 1000) := Lib.hid (by have := HU.out; omega)
                have HL1m : Hid (u.rs.length ≤ 1000000) := Lib.hid (by have := HU.out; omega)
                go_region_held3 (fun W => (W.cell? ⟨w6.heap.size, 0, none⟩ = some (.int .i64 u.de) ∧ W.cell? ⟨w6.heap.size, 1, none⟩ = some (.int .i64 u.cl) ∧ W.cell? ⟨w6.heap.size, 2, none⟩ = some (.int .i64 u.fu) ∧ W.cell? ⟨w6.heap.size, 3, none⟩ = some (.int .i64 u.st) ∧ W.cell? ⟨w6.heap.size, 4, none⟩ = some (.slice TA u.rs.length TC)) ∧ (W.cell? ⟨w8.heap.size, 0, none⟩ = some (.int .i64 u.de) ∧ W.cell? ⟨w8.heap.size, 1, none⟩ = some (.int .i64 u.cl) ∧ W.cell? ⟨w8.heap.size, 2, none⟩ = some (.int .i64 u.fu) ∧ W.cell? ⟨w8.heap.size, 3, none⟩ = some (.int .i64 u.st) ∧ W.cell? ⟨w8.heap.size, 4, none⟩ = some (.slice A5 u.rs.length c5)))
                  (first | exact ⟨HT12.out.c5, HX12.out.c5⟩ | exact ⟨HT11.out.c5, HX11.out.c5⟩ | exact ⟨HTd.out.c5, HXd.out.c5⟩)
                  (first
                    | (go_at_call 18; refine (same_any u u _ _ w11 HL1m.out HL1m.out HRX11.out HV11.out).mono ?_; rintro e w12 ⟨c1, rfl, hc1, hb12⟩; obtain rfl : c1 = true := hc1.2 rfl; have HT12 := Lib.hid (HT11.out.on hb12); have HX12 := Lib.hid (HX11.out.on hb12); have HBe := Lib.hid (HBx.out.trans (hb12.mono HBx.out.size)); clear hb12 hc1)
                    | (go_at_call 14; refine (madeSet_any u _ wr.drew HL1k.out HRTd.out).mono ?_; rintro e w11 ⟨V1, rfl, hV1, hb11⟩; obtain ⟨VA1, VC1, rfl⟩ := OwnU.form hV1; have HT11 := Lib.hid (HTd.out.on hb11); have HX11 := Lib.hid (HXd.out.on hb11); have HRX11 := Lib.hid (HRXd.out.on hb11); have HV11 := Lib.hid (OwnU.set hV1); have HBx := Lib.hid (HBw.out.trans (hb11.mono HBw.out.size)); clear hb11 hV1))
                go_wp2
                go_ret
                exact ⟨rfl, HBe.out⟩
      · have h0' := h0
        have HAp := Lib.hid hap
        clear hap
        generalize applyM s d = T at *
        go_wp2_with fail
        refine HAp.out.mono ?_
        clear HAp
        rintro e w6 ⟨rv, rfl, hrv, hfar, hb6⟩
        obtain ⟨TA, TC, rfl⟩ := hrv.form
        have HB6 := Lib.hid (HBc.out.trans (hb6.mono HBc.out.size))
        clear hrv hfar hb6 a0 a1 a2 a3 a4 b0 b1 b2 b3 b4 b5
        go_wp2
        go_ret
        exact ⟨rfl, HB6.out.alloc HB6.out.size _⟩
  · rw [decide_eq_false hsm]
    clear hsm
    go_wp2
    go_ret
    exact ⟨rfl, HB2.out⟩

theorem ruleOwn_law (s : RS) (v : Value) (d : Dl) (pv dv : Value) (w : World) (hS : RulesV w.heap.size w v s.rs) (hP : RulesV w.heap.size w pv d.put) (hD : Row w.heap.size w dv (zI d.drop)) (hdr : ∀ z ∈ d.drop, (Lit.int .i64 z).wf = true) :
    Calls Try.prog 7 #[.agg #[.int .i64 s.de, .int .i64 s.cl, .int .i64 s.fu, .int .i64 s.st, v], .agg #[.int .i64 d.de, .int .i64 d.cl, .int .i64 d.fu, .int .i64 d.st, pv, dv]] w fun e w' => e = .returned (.bool true) ∧ Below w.heap.size w w' := own_law s d v pv dv w hdr hS hP hD

end Go.Proofs.Ytdbddbelhgkelaa
