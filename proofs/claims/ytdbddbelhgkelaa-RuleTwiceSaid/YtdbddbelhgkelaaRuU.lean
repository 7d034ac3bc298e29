/- RuleDrops. -/
import Derived.Test.YtdbddbelhgkelaaRuL
import Derived.Test.YtdbddbelhgkelaaRuN
import Derived.Test.YtdbddbelhgkelaaRuS
namespace Go.Proofs.Ytdbddbelhgkelaa
open Go.RowKit Go.Maps
variable {w w' : World}
theorem Row.on {v : Value} {xs : List Value} (h : Row w.heap.size w v xs) (hb : Below w.heap.size w w') : Row w'.heap.size w' v xs := (h.below hb).more hb.size

set_option maxRecDepth 100000 in
set_option maxHeartbeats 16000000 in
theorem drops_law (s : RS) (x : Ru) (v : Value) (w : World) (hS : RulesV w.heap.size w v s.rs) :
    Calls Try.prog 9 #[.agg #[.int .i64 s.de, .int .i64 s.cl, .int .i64 s.fu, .int .i64 s.st, v], .agg #[.int .i64 x.id, .int .i64 x.pr, .int .i64 x.ac, .int .i64 x.sc, .string x.pat]] w fun e w' => e = .returned (.bool true) ∧ Below w.heap.size w w' := by
  obtain ⟨A, cap, rfl⟩ := hS.form
  have HS := Lib.hid hS
  clear hS
  go_enter Try.func9, Try.ntmps9
  go_wp2_with fail
  have hb0 : Below w.heap.size w ((w.alloc (.cells #[.int .i64 s.de, .int .i64 s.cl, .int .i64 s.fu, .int .i64 s.st, .slice A s.rs.length cap] 24)).alloc (.cells #[.int .i64 x.id, .int .i64 x.pr, .int .i64 x.ac, .int .i64 x.sc, .string x.pat] 44)) := ((Below.refl _ _).alloc (Nat.le_refl _) _).alloc (by simp) _
  have hs0 : Blk ((w.alloc (.cells #[.int .i64 s.de, .int .i64 s.cl, .int .i64 s.fu, .int .i64 s.st, .slice A s.rs.length cap] 24)).alloc (.cells #[.int .i64 x.id, .int .i64 x.pr, .int .i64 x.ac, .int .i64 x.sc, .string x.pat] 44)) w.heap.size 24 #[.int .i64 s.de, .int .i64 s.cl, .int .i64 s.fu, .int .i64 s.st, .slice A s.rs.length cap] := (Blk.new _ _ _).alloc _
  have hx0 : Blk ((w.alloc (.cells #[.int .i64 s.de, .int .i64 s.cl, .int .i64 s.fu, .int .i64 s.st, .slice A s.rs.length cap] 24)).alloc (.cells #[.int .i64 x.id, .int .i64 x.pr, .int .i64 x.ac, .int .i64 x.sc, .string x.pat] 44)) (w.heap.size + 1) 44 #[.int .i64 x.id, .int .i64 x.pr, .int .i64 x.ac, .int .i64 x.sc, .string x.pat] := Blk.at_new _ _ (by simp) _ _
  generalize (w.alloc (.cells #[.int .i64 s.de, .int .i64 s.cl, .int .i64 s.fu, .int .i64 s.st, .slice A s.rs.length cap] 24)).alloc (.cells #[.int .i64 x.id, .int .i64 x.pr, .int .i64 x.ac, .int .i64 x.sc, .string x.pat] 44) = w0 at *
  refine (anchor7_any w0).mono ?_
  rintro e w1 ⟨rfl, hb1⟩
  have HB1 := Lib.hid (hb0.trans (hb1.mono hb0.size))
  have SX1 := Lib.hid (hs0.on hb1)
  have XX1 := Lib.hid (hx0.on hb1)
  clear hb0 hs0 hx0 hb1
  by_cases hln : s.rs.length ≤ 40
  · have hlni : (s.rs.length : Int) ≤ 40 := by omega
    have HLn := Lib.hid hln
    clear hln
    obtain ⟨a0, a1, a2, a3, a4⟩ := SX1.out.c5
    go_wp2_with fail
    refine (setRight_any s _ w1 (by have := HLn.out; omega) (HS.out.on HB1.out)).mono ?_
    rintro e w2 ⟨rfl, hb2⟩
    have SX2 := Lib.hid (SX1.out.on (hb2))
    have XX2 := Lib.hid (XX1.out.on (hb2))
    have HB2 := Lib.hid (HB1.out.trans ((hb2).mono HB1.out.size))
    clear hb2 a0 a1 a2 a3 a4
    by_cases h1 : s.Ok
    · rw [decide_eq_true h1]
      have H1 := Lib.hid h1
      clear h1
      obtain ⟨x0, x1, x2, x3, x4⟩ := XX2.out.c5
      go_wp2_with fail
      refine (ruleRight_any x w2).mono ?_
      rintro e w3 ⟨rfl, hb3⟩
      have SX3 := Lib.hid (SX2.out.on (hb3))
      have XX3 := Lib.hid (XX2.out.on (hb3))
      have HB3 := Lib.hid (HB2.out.trans ((hb3).mono HB2.out.size))
      clear hb3 x0 x1 x2 x3 x4
      cases hx : x.ok with
      | false =>
        clear hx
        go_wp2
        go_ret
        exact ⟨rfl, HB3.out⟩
      | true =>
      have HX := Lib.hid hx
      clear hx
      obtain ⟨x0, x1, x2, x3, x4⟩ := XX3.out.c5
      have hlx := XX3.out.lt
      go_upto_region 6 with (fail)
      have hb4 : Below w3.heap.size w3 (w3.alloc (.cells #[.int .i64 x.id, .int .i64 x.pr, .int .i64 x.ac, .int .i64 x.sc, .string x.pat] 44)) := (Below.refl _ _).alloc (Nat.le_refl _) _
      have hp4 := one_rule w3 x
      generalize hw4 : w3.alloc (.cells #[.int .i64 x.id, .int .i64 x.pr, .int .i64 x.ac, .int .i64 x.sc, .string x.pat] 44) = w4 at *
      have hs4 : w4.heap.size = w3.heap.size + 1 := by rw [← hw4]; simp
      have hb5 : Below w4.heap.size w4 (w4.alloc (.cells #[.int .i64 (-1), .int .i64 (-1), .int .i64 (-1), .int .i64 (-1), .slice (some ⟨w3.heap.size, 0, none⟩) 1 1, .slice none 0 0] 27)) := (Below.refl _ _).alloc (Nat.le_refl _) _
      have hd5 : Blk (w4.alloc (.cells #[.int .i64 (-1), .int .i64 (-1), .int .i64 (-1), .int .i64 (-1), .slice (some ⟨w3.heap.size, 0, none⟩) 1 1, .slice none 0 0] 27)) w4.heap.size 27 #[.int .i64 (-1), .int .i64 (-1), .int .i64 (-1), .int .i64 (-1), .slice (some ⟨w3.heap.size, 0, none⟩) 1 1, .slice none 0 0] := Blk.new _ _ _
      rw [hs4] at hd5
      generalize w4.alloc (.cells #[.int .i64 (-1), .int .i64 (-1), .int .i64 (-1), .int .i64 (-1), .slice (some ⟨w3.heap.size, 0, none⟩) 1 1, .slice none 0 0] 27) = w5 at *
      have DX5 := Lib.hid hd5
      have PV5 := Lib.hid (hp4.on hb5)
      have HL35 := Lib.hid (show w3.heap.size + 1 < w5.heap.size from hd5.lt)
      have SX4 := Lib.hid (SX3.out.on (hb4))
      have XX4 := Lib.hid (XX3.out.on (hb4))
      have HB4 := Lib.hid (HB3.out.trans ((hb4).mono HB3.out.size))
      have SX5 := Lib.hid (SX4.out.on (hb5))
      have XX5 := Lib.hid (XX4.out.on (hb5))
      have HB5 := Lib.hid (HB4.out.trans ((hb5).mono HB4.out.size))
      clear hw4 hs4 hb4 hp4 hb5 hd5 x0 x1 x2 x3 x4 hlx
      obtain ⟨a0, a1, a2, a3, a4⟩ := SX5.out.c5
      obtain ⟨b0, b1, b2, b3, b4, b5⟩ := DX5.out.c6
      by_cases h2 : (ins x s.rs).length ≤ 16
      · have hdummy := True.intro
        have H2 := Lib.hid h2
        clear h2
        have hap := apply_any s ⟨-1, -1, -1, -1, [x], []⟩ (.slice A s.rs.length cap) (.slice (some ⟨w3.heap.size, 0, none⟩) 1 1) (.slice none 0 0) w5 (by have := HLn.out; omega) (by simp) (by simp) (by simp) (HS.out.on HB5.out) PV5.out (row_nil _ _)
        rw [drop1_ok H1.out HX.out H2.out] at hap
        simp only at hap
        have HAp := Lib.hid hap
        clear hap
        go_wp2_with fail
        refine HAp.out.mono ?_
        rintro e w6 ⟨rv, rfl, hrv, hfar, hb6⟩
        obtain ⟨RA, RAc, rfl⟩ := hrv.form
        have hrl : (ins x s.rs).length ≤ 16 := H2.out
        have HFA := Lib.hid hfar
        have SX6 := Lib.hid (SX5.out.on (hb6))
        have XX6 := Lib.hid (XX5.out.on (hb6))
        have DX6 := Lib.hid (DX5.out.on (hb6))
        have HB6 := Lib.hid (HB5.out.trans ((hb6).mono HB5.out.size))
        have RA6 := Lib.hid hrv
        clear hrv hb6 hfar HAp b0 b1 b2 b3 b4 b5 a0 a1 a2 a3 a4
        obtain ⟨a0, a1, a2, a3, a4⟩ := SX6.out.c5
        obtain ⟨x0, x1, x2, x3, x4⟩ := XX6.out.c5
        have hlx := XX6.out.lt
        have hls := SX6.out.lt
        go_wp2_with fail
        have hb7 : Below w6.heap.size w6 (w6.alloc (.cells #[.int .i64 s.de, .int .i64 s.cl, .int .i64 s.fu, .int .i64 s.st, .slice RA (ins x s.rs).length RAc] 24)) := (Below.refl _ _).alloc (Nat.le_refl _) _
        have ha7 : Blk (w6.alloc (.cells #[.int .i64 s.de, .int .i64 s.cl, .int .i64 s.fu, .int .i64 s.st, .slice RA (ins x s.rs).length RAc] 24)) w6.heap.size 24 #[.int .i64 s.de, .int .i64 s.cl, .int .i64 s.fu, .int .i64 s.st, .slice RA (ins x s.rs).length RAc] := Blk.new _ _ _
        generalize w6.alloc (.cells #[.int .i64 s.de, .int .i64 s.cl, .int .i64 s.fu, .int .i64 s.st, .slice RA (ins x s.rs).length RAc] 24) = w7 at *
        have AX7 := Lib.hid ha7
        have SX7 := Lib.hid (SX6.out.on (hb7))
        have XX7 := Lib.hid (XX6.out.on (hb7))
        have DX7 := Lib.hid (DX6.out.on (hb7))
        have RA7 := Lib.hid (RA6.out.on (hb7))
        have HB7 := Lib.hid (HB6.out.trans ((hb7).mono HB6.out.size))
        clear hb7 ha7 x0 x1 x2 x3 x4 a0 a1 a2 a3 a4 hlx hls
        refine (setRule_any s _ x.id w7 (by have := HLn.out; omega) (HS.out.on HB7.out)).mono ?_
        rintro e w8 ⟨rfl, hb8⟩
        have SX8 := Lib.hid (SX7.out.on (hb8))
        have XX8 := Lib.hid (XX7.out.on (hb8))
        have DX8 := Lib.hid (DX7.out.on (hb8))
        have RA8 := Lib.hid (RA7.out.on (hb8))
        have AX8 := Lib.hid (AX7.out.on (hb8))
        have HB8 := Lib.hid (HB7.out.trans ((hb8).mono HB7.out.size))
        clear hb8
        generalize look s.rs x.id = lk
        obtain ⟨wasB, hwas⟩ : ∃ b, decide (x.id ∈ s.rs.map Ru.id) = b := ⟨_, rfl⟩
        rw [hwas]
        have HWas := Lib.hid hwas
        clear hwas
        obtain ⟨a0, a1, a2, a3, a4⟩ := AX8.out.c5
        obtain ⟨x0, x1, x2, x3, x4⟩ := XX8.out.c5
        have hlx := XX8.out.lt
        have hla := AX8.out.lt
        go_wp2_with fail
        have hb9 : Below w8.heap.size w8 (w8.alloc (.cells #[.int .i64 lk.id, .int .i64 lk.pr, .int .i64 lk.ac, .int .i64 lk.sc, .string lk.pat] 44)) := (Below.refl _ _).alloc (Nat.le_refl _) _
        generalize w8.alloc (.cells #[.int .i64 lk.id, .int .i64 lk.pr, .int .i64 lk.ac, .int .i64 lk.sc, .string lk.pat] 44) = w9 at *
        have SX9 := Lib.hid (SX8.out.on (hb9))
        have XX9 := Lib.hid (XX8.out.on (hb9))
        have DX9 := Lib.hid (DX8.out.on (hb9))
        have RA9 := Lib.hid (RA8.out.on (hb9))
        have AX9 := Lib.hid (AX8.out.on (hb9))
        have HB9 := Lib.hid (HB8.out.trans ((hb9).mono HB8.out.size))
        clear hb9 x0 x1 x2 x3 x4 a0 a1 a2 a3 a4 hlx hla
        have HRl : Hid (Rise (ins x s.rs)) := Lib.hid (Rise.ins H1.out.2.2.2)
        have HMx : Hid (x ∈ ins x s.rs) := Lib.hid (mem_ins.2 (.inl rfl))
        have hsr := setRule_any { s with rs := ins x s.rs } (.slice RA (ins x s.rs).length RAc) x.id w9 (by simp only; omega) RA9.out
        simp only at hsr
        rw [look_mem HRl.out HMx.out, decide_eq_true (List.mem_map_of_mem HMx.out)] at hsr
        refine hsr.mono ?_
        clear hsr
        rintro e w10 ⟨rfl, hb10⟩
        have SX10 := Lib.hid (SX9.out.on (hb10))
        have XX10 := Lib.hid (XX9.out.on (hb10))
        have DX10 := Lib.hid (DX9.out.on (hb10))
        have RA10 := Lib.hid (RA9.out.on (hb10))
        have AX10 := Lib.hid (AX9.out.on (hb10))
        have HB10 := Lib.hid (HB9.out.trans ((hb10).mono HB9.out.size))
        clear hb10
        obtain ⟨x0, x1, x2, x3, x4⟩ := XX10.out.c5
        obtain ⟨b0, b1, b2, b3, b4, b5⟩ := DX10.out.c6
        have f4 := DX10.out.frozen 4
        have f5 := DX10.out.frozen 5
        have hlx := XX10.out.lt
        have hld := DX10.out.lt
        go_upto_region 11 with (fail)
        have hb11 : Below w10.heap.size w10 (w10.alloc (.cells #[.int .i64 x.id, .int .i64 x.pr, .int .i64 x.ac, .int .i64 x.sc, .string x.pat] 44)) := (Below.refl _ _).alloc (Nat.le_refl _) _
        have hy11 : Blk (w10.alloc (.cells #[.int .i64 x.id, .int .i64 x.pr, .int .i64 x.ac, .int .i64 x.sc, .string x.pat] 44)) w10.heap.size 44 #[.int .i64 x.id, .int .i64 x.pr, .int .i64 x.ac, .int .i64 x.sc, .string x.pat] := Blk.new _ _ _
        generalize w10.alloc (.cells #[.int .i64 x.id, .int .i64 x.pr, .int .i64 x.ac, .int .i64 x.sc, .string x.pat] 44) = w11 at *
        have YX11 := Lib.hid hy11
        have SX11 := Lib.hid (SX10.out.on (hb11))
        have XX11 := Lib.hid (XX10.out.on (hb11))
        have DX11 := Lib.hid (DX10.out.on (hb11))
        have RA11 := Lib.hid (RA10.out.on (hb11))
        have AX11 := Lib.hid (AX10.out.on (hb11))
        have HB11 := Lib.hid (HB10.out.trans ((hb11).mono HB10.out.size))
        clear hb11 hy11 x0 x1 x2 x3 x4 b0 b1 b2 b3 b4 b5 f4 f5 hlx hld
        obtain ⟨x0, x1, x2, x3, x4⟩ := XX11.out.c5
        obtain ⟨b0, b1, b2, b3, b4, b5⟩ := DX11.out.c6
        have f4 := DX11.out.frozen 4
        have f5 := DX11.out.frozen 5
        have hlx := XX11.out.lt
        have hld := DX11.out.lt
        go_region
        obtain ⟨w12, hw12⟩ : ∃ W, W = (((w11.setCell ⟨w3.heap.size + 1, 4, none⟩ (.slice none 0 0)).setCell ⟨w3.heap.size + 1, 5, none⟩ (.slice (some ⟨w11.heap.size, 0, none⟩) 1 1)).alloc (.cells #[.int .i64 x.id] 3)).drew := ⟨_, rfl⟩
        rw [← hw12]
        have hs11 := DX11.out.lt
        have h35 := HL35.out
        have DX12 : Hid (Blk w12 (w3.heap.size + 1) 27 #[.int .i64 (-1), .int .i64 (-1), .int .i64 (-1), .int .i64 (-1), .slice none 0 0, .slice (some ⟨w11.heap.size, 0, none⟩) 1 1]) := Lib.hid (by
          rw [hw12]
          exact ((DX11.out.set_ 4 _).set_ 5 _).alloc _)
        have SX12 : Hid (Blk w12 w.heap.size 24 #[.int .i64 s.de, .int .i64 s.cl, .int .i64 s.fu, .int .i64 s.st, .slice A s.rs.length cap]) := Lib.hid (by
          rw [hw12]
          exact ((SX11.out.far (p := ⟨w3.heap.size + 1, 4, none⟩) (SX11.out.ne_ DX11.out (by decide)) _).far (p := ⟨w3.heap.size + 1, 5, none⟩) (SX11.out.ne_ DX11.out (by decide)) _).alloc _)
        have AX12 : Hid (Blk w12 w6.heap.size 24 #[.int .i64 s.de, .int .i64 s.cl, .int .i64 s.fu, .int .i64 s.st, .slice RA (ins x s.rs).length RAc]) := Lib.hid (by
          rw [hw12]
          exact ((AX11.out.far (p := ⟨w3.heap.size + 1, 4, none⟩) (AX11.out.ne_ DX11.out (by decide)) _).far (p := ⟨w3.heap.size + 1, 5, none⟩) (AX11.out.ne_ DX11.out (by decide)) _).alloc _)
        have XX12 : Hid (Blk w12 (w.heap.size + 1) 44 #[.int .i64 x.id, .int .i64 x.pr, .int .i64 x.ac, .int .i64 x.sc, .string x.pat]) := Lib.hid (by
          rw [hw12]
          exact ((XX11.out.far (p := ⟨w3.heap.size + 1, 4, none⟩) (XX11.out.ne_ DX11.out (by decide)) _).far (p := ⟨w3.heap.size + 1, 5, none⟩) (XX11.out.ne_ DX11.out (by decide)) _).alloc _)
        have YX12 : Hid (Blk w12 w10.heap.size 44 #[.int .i64 x.id, .int .i64 x.pr, .int .i64 x.ac, .int .i64 x.sc, .string x.pat]) := Lib.hid (by
          rw [hw12]
          exact ((YX11.out.far (p := ⟨w3.heap.size + 1, 4, none⟩) (YX11.out.ne_ DX11.out (by decide)) _).far (p := ⟨w3.heap.size + 1, 5, none⟩) (YX11.out.ne_ DX11.out (by decide)) _).alloc _)
        have RA12 : Hid (RulesV w12.heap.size w12 (.slice RA (ins x s.rs).length RAc) (ins x s.rs)) := Lib.hid (by
          have q := ((RA11.out.store (i := 4) (u := .slice none 0 0) HFA.out h35).store (i := 5) (u := .slice (some ⟨w11.heap.size, 0, none⟩) 1 1) HFA.out h35)
          have q2 := (q.more (n₁ := _) (by simp)).on ((Below.refl _ _).alloc (Nat.le_refl _) (.cells #[.int .i64 x.id] 3))
          rw [hw12]
          exact q2)
        have PV12 : Hid (Row w12.heap.size w12 (.slice (some ⟨w11.heap.size, 0, none⟩) 1 1) (zI [x.id])) := Lib.hid (by
          obtain ⟨V, hV⟩ : ∃ V, V = ((w11.setCell ⟨w3.heap.size + 1, 4, none⟩ (.slice none 0 0)).setCell ⟨w3.heap.size + 1, 5, none⟩ (.slice (some ⟨w11.heap.size, 0, none⟩) 1 1)) := ⟨_, rfl⟩
          have hsz : V.heap.size = w11.heap.size := by rw [hV]; simp
          have q := Row.lit V #[.int .i64 x.id] 3 (0, 0)
          rw [hw12, ← hV]
          rw [hsz] at q
          exact (q.more (n₁ := (V.alloc (.cells #[.int .i64 x.id] 3)).heap.size) (by simp; omega)))
        have HB12 : Hid (Below w.heap.size w w12) := Lib.hid (by
          have hg : w.heap.size ≤ w3.heap.size + 1 := by have := HB3.out.size; omega
          rw [hw12]
          exact ((((HB11.out.setCell (p := ⟨w3.heap.size + 1, 4, none⟩) hg _).setCell (p := ⟨w3.heap.size + 1, 5, none⟩) hg _).alloc (by have := HB11.out.size; simpa using this) _).drew))
        clear hw12 hs11 h35 x0 x1 x2 x3 x4 b0 b1 b2 b3 b4 b5 f4 f5 hlx hld
        obtain ⟨b0, b1, b2, b3, b4, b5⟩ := DX12.out.c6
        obtain ⟨a0, a1, a2, a3, a4⟩ := AX12.out.c5
        have hlx := XX12.out.lt
        have HRk := Lib.hid (drop1_right H1.out HX.out H2.out)
        have hap := apply_any { s with rs := ins x s.rs } ⟨-1, -1, -1, -1, [], [x.id]⟩ (.slice RA (ins x s.rs).length RAc) (.slice none 0 0) (.slice (some ⟨w11.heap.size, 0, none⟩) 1 1) w12 (by simp only; omega) (by simp) (by simp) (by simpa using wfId HX.out) RA12.out (RulesV.nil _ _) PV12.out
        rw [drop2_ok HRk.out (List.mem_map_of_mem HMx.out), gone_ins H1.out.2.2.2] at hap
        simp only at hap
        have HAp := Lib.hid hap
        clear hap
        go_wp2_with fail
        refine HAp.out.mono ?_
        clear HAp
        rintro e w13 ⟨rv, rfl, hrv, hfar2, hb13⟩
        obtain ⟨GA, GAc, rfl⟩ := hrv.form
        have GA13 := Lib.hid hrv
        have SX13 := Lib.hid (SX12.out.on (hb13))
        have XX13 := Lib.hid (XX12.out.on (hb13))
        have DX13 := Lib.hid (DX12.out.on (hb13))
        have AX13 := Lib.hid (AX12.out.on (hb13))
        have YX13 := Lib.hid (YX12.out.on (hb13))
        have PV13 := Lib.hid (PV12.out.on (hb13))
        have HB13 := Lib.hid (HB12.out.trans ((hb13).mono HB12.out.size))
        clear hrv hfar2 hb13 b0 b1 b2 b3 b4 b5 a0 a1 a2 a3 a4 hlx
        obtain ⟨x0, x1, x2, x3, x4⟩ := XX13.out.c5
        have hlx := XX13.out.lt
        go_wp2_with fail
        have hb14 : Below w13.heap.size w13 (w13.alloc (.cells #[.int .i64 s.de, .int .i64 s.cl, .int .i64 s.fu, .int .i64 s.st, .slice GA (gone x.id s.rs).length GAc] 24)) := (Below.refl _ _).alloc (Nat.le_refl _) _
        have hg14 : Blk (w13.alloc (.cells #[.int .i64 s.de, .int .i64 s.cl, .int .i64 s.fu, .int .i64 s.st, .slice GA (gone x.id s.rs).length GAc] 24)) w13.heap.size 24 #[.int .i64 s.de, .int .i64 s.cl, .int .i64 s.fu, .int .i64 s.st, .slice GA (gone x.id s.rs).length GAc] := Blk.new _ _ _
        generalize w13.alloc (.cells #[.int .i64 s.de, .int .i64 s.cl, .int .i64 s.fu, .int .i64 s.st, .slice GA (gone x.id s.rs).length GAc] 24) = w14 at *
        have GX14 := Lib.hid hg14
        have SX14 := Lib.hid (SX13.out.on (hb14))
        have XX14 := Lib.hid (XX13.out.on (hb14))
        have DX14 := Lib.hid (DX13.out.on (hb14))
        have AX14 := Lib.hid (AX13.out.on (hb14))
        have YX14 := Lib.hid (YX13.out.on (hb14))
        have PV14 := Lib.hid (PV13.out.on (hb14))
        have GA14 := Lib.hid (GA13.out.on (hb14))
        have HB14 := Lib.hid (HB13.out.trans ((hb14).mono HB13.out.size))
        clear hb14 hg14 x0 x1 x2 x3 x4 hlx
        have HGl : Hid ((gone x.id s.rs).length ≤ 40) := Lib.hid (Nat.le_trans (List.length_filter_le _ _) HLn.out)
        have hsr := setRule_any { s with rs := gone x.id s.rs } (.slice GA (gone x.id s.rs).length GAc) x.id w14 (by have := HGl.out; simp only; omega) GA14.out
        simp only at hsr
        rw [decide_eq_false (gone_not x.id s.rs)] at hsr
        refine hsr.mono ?_
        clear hsr
        rintro e w15 ⟨rfl, hb15⟩
        have SX15 := Lib.hid (SX14.out.on (hb15))
        have XX15 := Lib.hid (XX14.out.on (hb15))
        have DX15 := Lib.hid (DX14.out.on (hb15))
        have AX15 := Lib.hid (AX14.out.on (hb15))
        have YX15 := Lib.hid (YX14.out.on (hb15))
        have PV15 := Lib.hid (PV14.out.on (hb15))
        have GA15 := Lib.hid (GA14.out.on (hb15))
        have GX15 := Lib.hid (GX14.out.on (hb15))
        have HB15 := Lib.hid (HB14.out.trans ((hb15).mono HB14.out.size))
        clear hb15
        generalize look (gone x.id s.rs) x.id = lk2
        obtain ⟨g0, g1, g2, g3, g4⟩ := GX15.out.c5
        obtain ⟨b0, b1, b2, b3, b4, b5⟩ := DX15.out.c6
        have hlg := GX15.out.lt
        have hld := DX15.out.lt
        go_wp2_with fail
        have hb17 : Below w15.heap.size w15 (w15.alloc (.cells #[.int .i64 lk2.id, .int .i64 lk2.pr, .int .i64 lk2.ac, .int .i64 lk2.sc, .string lk2.pat] 44)) := (Below.refl _ _).alloc (Nat.le_refl _) _
        generalize w15.alloc (.cells #[.int .i64 lk2.id, .int .i64 lk2.pr, .int .i64 lk2.ac, .int .i64 lk2.sc, .string lk2.pat] 44) = w17 at *
        have SX17 := Lib.hid (SX15.out.on (hb17))
        have XX17 := Lib.hid (XX15.out.on (hb17))
        have DX17 := Lib.hid (DX15.out.on (hb17))
        have AX17 := Lib.hid (AX15.out.on (hb17))
        have YX17 := Lib.hid (YX15.out.on (hb17))
        have PV17 := Lib.hid (PV15.out.on (hb17))
        have GA17 := Lib.hid (GA15.out.on (hb17))
        have GX17 := Lib.hid (GX15.out.on (hb17))
        have HB17 := Lib.hid (HB15.out.trans ((hb17).mono HB15.out.size))
        clear hb17 b0 b1 b2 b3 b4 b5 g0 g1 g2 g3 g4 hlg hld
        have hap := apply_any { s with rs := gone x.id s.rs } ⟨-1, -1, -1, -1, [], [x.id]⟩ (.slice GA (gone x.id s.rs).length GAc) (.slice none 0 0) (.slice (some ⟨w11.heap.size, 0, none⟩) 1 1) w17 (by have := HGl.out; simp only; omega) (by simp) (by simp) (by simpa using wfId HX.out) GA17.out (RulesV.nil _ _) PV17.out
        rw [drop2_none (drop2_right H1.out) (gone_not x.id s.rs)] at hap
        simp only [RS.zero] at hap
        refine hap.mono ?_
        clear hap
        rintro e w16 ⟨rv, rfl, hrv, hfar3, hb16⟩
        obtain ⟨ZA, ZAc, rfl⟩ := hrv.form
        have SX16 := Lib.hid (SX17.out.on (hb16))
        have XX16 := Lib.hid (XX17.out.on (hb16))
        have DX16 := Lib.hid (DX17.out.on (hb16))
        have AX16 := Lib.hid (AX17.out.on (hb16))
        have YX16 := Lib.hid (YX17.out.on (hb16))
        have GX16 := Lib.hid (GX17.out.on (hb16))
        have HB16 := Lib.hid (HB17.out.trans ((hb16).mono HB17.out.size))
        clear hrv hfar3 hb16
        have HGn : Hid (((gone x.id s.rs).length : Int) = if wasB then (s.rs.length : Int) - 1 else (s.rs.length : Int)) := Lib.hid (by
          have q := gone_len (i := x.id) H1.out.2.2.2
          rw [← HWas.out]
          by_cases hm : x.id ∈ s.rs.map Ru.id
          · rw [if_pos hm] at q; rw [decide_eq_true hm, if_pos rfl]; omega
          · rw [if_neg hm] at q; rw [decide_eq_false hm, if_neg Bool.false_ne_true]; omega)
        have heql := run_eql_ru x x
        have hrr := ruEq_refl x
        obtain ⟨a0, a1, a2, a3, a4⟩ := SX16.out.c5
        obtain ⟨x0, x1, x2, x3, x4⟩ := XX16.out.c5
        obtain ⟨y0, y1, y2, y3, y4⟩ := YX16.out.c5
        obtain ⟨g0, g1, g2, g3, g4⟩ := GX16.out.c5
        have hl1 := SX16.out.lt
        have hl2 := XX16.out.lt
        have hl3 := YX16.out.lt
        have hl4 := GX16.out.lt
        have hgn := HGn.out
        cases wasB with
        | false =>
          rw [if_neg Bool.false_ne_true] at hgn
          go_wp2
          go_ret
          exact ⟨rfl, HB16.out.alloc HB16.out.size _⟩
        | true =>
          rw [if_pos rfl] at hgn
          go_wp2
          go_ret
          exact ⟨rfl, HB16.out.alloc HB16.out.size _⟩
      · have hdummy := True.intro
        obtain ⟨e1, e2, e3⟩ := drop1_full H1.out HX.out h2
        have hap := apply_any s ⟨-1, -1, -1, -1, [x], []⟩ (.slice A s.rs.length cap) (.slice (some ⟨w3.heap.size, 0, none⟩) 1 1) (.slice none 0 0) w5 (by have := HLn.out; omega) (by simp) (by simp) (by simp) (HS.out.on HB5.out) PV5.out (row_nil _ _)
        rw [e1] at hap
        simp only [RS.zero] at hap
        have HAp := Lib.hid hap
        have HNin := Lib.hid e2
        have h16 : (s.rs.length : Int) = 16 := by omega
        have H16 := Lib.hid h16
        clear hap e1 e2 e3 h2 h16
        go_wp2_with fail
        refine HAp.out.mono ?_
        rintro e w6 ⟨rv, rfl, hrv, hfar, hb6⟩
        obtain ⟨RA, RAc, rfl⟩ := hrv.form
        have SX6 := Lib.hid (SX5.out.on hb6)
        have XX6 := Lib.hid (XX5.out.on hb6)
        have HB6 := Lib.hid (HB5.out.trans (hb6.mono HB5.out.size))
        clear hrv hfar hb6 b0 b1 b2 b3 b4 b5 a0 a1 a2 a3 a4
        obtain ⟨a0, a1, a2, a3, a4⟩ := SX6.out.c5
        obtain ⟨x0, x1, x2, x3, x4⟩ := XX6.out.c5
        have hlx := XX6.out.lt
        have hls := SX6.out.lt
        go_wp2_with fail
        have hb7 : Below w6.heap.size w6 (w6.alloc (.cells #[.int .i64 0, .int .i64 0, .int .i64 0, .int .i64 0, .slice RA ([] : List Ru).length RAc] 24)) := (Below.refl _ _).alloc (Nat.le_refl _) _
        refine (setRule_any s _ x.id _ (by have := HLn.out; omega) (HS.out.on (HB6.out.trans (hb7.mono HB6.out.size)))).mono ?_
        rintro e w8 ⟨rfl, hb8⟩
        rw [decide_eq_false HNin.out]
        have SX8 := Lib.hid ((SX6.out.on hb7).on hb8)
        have HB8 := Lib.hid ((HB6.out.trans (hb7.mono HB6.out.size)).trans (hb8.mono (HB6.out.trans (hb7.mono HB6.out.size)).size))
        clear hb7 hb8 a0 a1 a2 a3 a4 x0 x1 x2 x3 x4 hlx hls
        obtain ⟨a0, a1, a2, a3, a4⟩ := SX8.out.c5
        have hls := SX8.out.lt
        have h16' := H16.out
        go_wp2
        go_ret
        exact ⟨rfl, HB8.out.alloc HB8.out.size _⟩
    · rw [decide_eq_false h1]
      clear h1
      go_wp2
      go_ret
      exact ⟨rfl, HB2.out⟩
  · have hlni : ¬ (s.rs.length : Int) ≤ 40 := by omega
    obtain ⟨a0, a1, a2, a3, a4⟩ := SX1.out.c5
    go_wp2
    go_ret
    exact ⟨rfl, HB1.out⟩

theorem ruleDrops_law (s : RS) (v : Value) (x : Ru) (w : World) (hS : RulesV w.heap.size w v s.rs) :
    Calls Try.prog 9 #[.agg #[.int .i64 s.de, .int .i64 s.cl, .int .i64 s.fu, .int .i64 s.st, v], .agg #[.int .i64 x.id, .int .i64 x.pr, .int .i64 x.ac, .int .i64 x.sc, .string x.pat]] w fun e w' => e = .returned (.bool true) ∧ Below w.heap.size w w' := drops_law s x v w hS

end Go.Proofs.Ytdbddbelhgkelaa
