/- Package rule: Diff. -/
import Derived.Test.YtihhjcjmchlafaaRuDi
import Derived.Test.YtihhjcjmchlafaaRuCa
import Derived.Deep.RegionHeld3
import Derived.Deep.Cut
import Derived.Deep.CutRange
namespace Go.Proofs.Ytihhjcjmchlafaa
open Go.RowKit Go.Maps
variable {w w' : World}

def diffR (a b : RS) : Dl × Int := if a.Ok ∧ b.Ok then (diffM a b, 0) else (⟨0, 0, 0, 0, [], []⟩, 10)

theorem Blk.drew4 {b : Nat} {t : TypeId} {cs : Array Value} (h : Blk w b t cs) : Blk w.drew b t cs := h
theorem take_d {P : Program} {md : Region.Mode} {ops : Array Oper} {Q : Exit → Act → World → Prop} {S : World → Prop} {fuel : Nat} {listed : Array Bool} {a : Act} {w : World} (i d : Nat) (v : Value) (oi : Oper) (hi : ops[i]? = some oi) (hd : oi.dst = some d)
    (hs : Region.noSelect ops = true) (hf : Region.free md ops listed i = true) (hr : (Region.ready md ops listed).contains i = true)
    (hQ : ∀ c a w, Q (.panic c) (a.put oi.dst v) w → Q (.panic c) a w) (hy : YieldsIf P ops S oi v a) (hS : S w)
    (h : wpAnyH P md ops Q S fuel (listed.setIfInBounds i true) { tmps := a.tmps.setIfInBounds d v, defers := a.defers } w) : wpAnyH P md ops Q S (fuel + 1) listed a w :=
  wpAnyH_take hi hs hf hr hQ hy hS (by rw [hd]; exact h)
theorem far6 {W1 : World} {g b : Nat} {t : TypeId} {cs : Array Value} {c0 c1 c2 c3 c4 c5 : Value} (h : Blk W1 g t cs) (hne : g ≠ b) : Blk ((((((W1.setCell ⟨b, 0, none⟩ c0).setCell ⟨b, 1, none⟩ c1).setCell ⟨b, 2, none⟩ c2).setCell ⟨b, 3, none⟩ c3).setCell ⟨b, 4, none⟩ c4).setCell ⟨b, 5, none⟩ c5) g t cs := by
  have k : ∀ {W : World}, Blk W g t cs → ∀ (i : Nat) (u : Value), Blk (W.setCell ⟨b, i, none⟩ u) g t cs := fun h i u => h.far (p := ⟨b, i, none⟩) hne u
  exact k (k (k (k (k (k h 0 c0) 1 c1) 2 c2) 3 c3) 4 c4) 5 c5
theorem st4_rel {w2 W1 : World} {v0 v1 v2 v3 v4 v5 c0 c1 c2 c3 c4 c5 : Value} (hN : Blk W1 w2.heap.size 27 #[v0, v1, v2, v3, v4, v5]) (hB : Below w2.heap.size w2 W1) (hS : W1.heap.size = w2.heap.size + 1) :
    Hid (Blk ((((((W1.setCell ⟨w2.heap.size, 0, none⟩ c0).setCell ⟨w2.heap.size, 1, none⟩ c1).setCell ⟨w2.heap.size, 2, none⟩ c2).setCell ⟨w2.heap.size, 3, none⟩ c3).setCell ⟨w2.heap.size, 4, none⟩ c4).setCell ⟨w2.heap.size, 5, none⟩ c5) w2.heap.size 27 #[c0, c1, c2, c3, c4, c5]) ∧
    Hid (Below w2.heap.size w2 ((((((W1.setCell ⟨w2.heap.size, 0, none⟩ c0).setCell ⟨w2.heap.size, 1, none⟩ c1).setCell ⟨w2.heap.size, 2, none⟩ c2).setCell ⟨w2.heap.size, 3, none⟩ c3).setCell ⟨w2.heap.size, 4, none⟩ c4).setCell ⟨w2.heap.size, 5, none⟩ c5)) ∧
    Hid (((((((W1.setCell ⟨w2.heap.size, 0, none⟩ c0).setCell ⟨w2.heap.size, 1, none⟩ c1).setCell ⟨w2.heap.size, 2, none⟩ c2).setCell ⟨w2.heap.size, 3, none⟩ c3).setCell ⟨w2.heap.size, 4, none⟩ c4).setCell ⟨w2.heap.size, 5, none⟩ c5).heap.size = w2.heap.size + 1) := by
  refine ⟨Lib.hid ?_, Lib.hid ?_, Lib.hid (by simpa [World.setCell] using hS)⟩
  · have := (((((hN.set_ 0 c0).set_ 1 c1).set_ 2 c2).set_ 3 c3).set_ 4 c4).set_ 5 c5
    simpa using this
  · exact (((((hB.setCell (p := ⟨w2.heap.size, 0, none⟩) (Nat.le_refl _) c0).setCell (p := ⟨w2.heap.size, 1, none⟩) (Nat.le_refl _) c1).setCell (p := ⟨w2.heap.size, 2, none⟩) (Nat.le_refl _) c2).setCell (p := ⟨w2.heap.size, 3, none⟩) (Nat.le_refl _) c3).setCell (p := ⟨w2.heap.size, 4, none⟩) (Nat.le_refl _) c4).setCell (p := ⟨w2.heap.size, 5, none⟩) (Nat.le_refl _) c5
theorem row_nilD (n : Nat) (w : World) : Row n w (.slice none 0 0) (zI []) := ⟨none, 0, rfl, Nat.le_refl _, fun h => absurd rfl h⟩
theorem own6 {W1 : World} {g base : Nat} {e : TypeId} {V : Value} {l l' : List Ru} {c0 c1 c2 c3 c4 c5 : Value} (h : OwnU W1 base e V l) (ha : V.ownBlock ≠ some g) (hl : l = l') : RulesV ((((((W1.setCell ⟨g, 0, none⟩ c0).setCell ⟨g, 1, none⟩ c1).setCell ⟨g, 2, none⟩ c2).setCell ⟨g, 3, none⟩ c3).setCell ⟨g, 4, none⟩ c4).setCell ⟨g, 5, none⟩ c5).heap.size ((((((W1.setCell ⟨g, 0, none⟩ c0).setCell ⟨g, 1, none⟩ c1).setCell ⟨g, 2, none⟩ c2).setCell ⟨g, 3, none⟩ c3).setCell ⟨g, 4, none⟩ c4).setCell ⟨g, 5, none⟩ c5) V l' := by
  have k : ∀ {W : World}, OwnU W base e V l → ∀ (i : Nat) (u : Value), OwnU (W.setCell ⟨g, i, none⟩ u) base e V l := fun h i u => OwnU.farset h (a := ⟨g, i, none⟩) ha u
  rw [← hl]
  exact OwnU.set (k (k (k (k (k (k h 0 c0) 1 c1) 2 c2) 3 c3) 4 c4) 5 c5)
theorem ownI6 {W1 : World} {g base : Nat} {V : Value} {l l' : List Int} {c0 c1 c2 c3 c4 c5 : Value} (h : OwnI W1 base V l) (ha : V.ownBlock ≠ some g) (hl : l = l') : Row ((((((W1.setCell ⟨g, 0, none⟩ c0).setCell ⟨g, 1, none⟩ c1).setCell ⟨g, 2, none⟩ c2).setCell ⟨g, 3, none⟩ c3).setCell ⟨g, 4, none⟩ c4).setCell ⟨g, 5, none⟩ c5).heap.size ((((((W1.setCell ⟨g, 0, none⟩ c0).setCell ⟨g, 1, none⟩ c1).setCell ⟨g, 2, none⟩ c2).setCell ⟨g, 3, none⟩ c3).setCell ⟨g, 4, none⟩ c4).setCell ⟨g, 5, none⟩ c5) V (zI l') := by
  have k : ∀ {W : World}, OwnI W base V l → ∀ (i : Nat) (u : Value), OwnI (W.setCell ⟨g, i, none⟩ u) base V l := fun h i u => ownsRow_setCell_other h (a := ⟨g, i, none⟩) ha u
  rw [← hl]
  exact OwnI.row (k (k (k (k (k (k h 0 c0) 1 c1) 2 c2) 3 c3) 4 c4) 5 c5)
theorem below6 {w W1 : World} {g : Nat} {c0 c1 c2 c3 c4 c5 : Value} (h : Below w.heap.size w W1) (hg : w.heap.size ≤ g) : Below w.heap.size w ((((((W1.setCell ⟨g, 0, none⟩ c0).setCell ⟨g, 1, none⟩ c1).setCell ⟨g, 2, none⟩ c2).setCell ⟨g, 3, none⟩ c3).setCell ⟨g, 4, none⟩ c4).setCell ⟨g, 5, none⟩ c5) := by
  have k : ∀ {W : World}, Below w.heap.size w W → ∀ (i : Nat) (u : Value), Below w.heap.size w (W.setCell ⟨g, i, none⟩ u) := fun h i u => h.setCell (p := ⟨g, i, none⟩) hg u
  exact k (k (k (k (k (k h 0 c0) 1 c1) 2 c2) 3 c3) 4 c4) 5 c5

set_option maxRecDepth 100000 in
set_option maxHeartbeats 40000000 in
theorem diff_any (a b : RS) (va vb : Value) (w : World) (hma : a.rs.length ≤ 1000000) (hmb : b.rs.length ≤ 1000000) (hA : RulesV w.heap.size w va a.rs) (hB : RulesV w.heap.size w vb b.rs) :
    Calls Try.prog 16 #[.agg #[.int .i64 a.de, .int .i64 a.cl, .int .i64 a.fu, .int .i64 a.st, va], .agg #[.int .i64 b.de, .int .i64 b.cl, .int .i64 b.fu, .int .i64 b.st, vb]] w
      fun e w' => ∃ pv dv, e = .returned (.tuple #[.agg #[.int .i64 (diffR a b).1.de, .int .i64 (diffR a b).1.cl, .int .i64 (diffR a b).1.fu, .int .i64 (diffR a b).1.st, pv, dv], .int .i64 (diffR a b).2]) ∧ RulesV w'.heap.size w' pv (diffR a b).1.put ∧ Row w'.heap.size w' dv (zI (diffR a b).1.drop) ∧ Below w.heap.size w w' := by
  obtain ⟨A1, cap1, rfl⟩ := hA.form
  obtain ⟨A2, cap2, rfl⟩ := hB.form
  obtain ⟨i0, hi, hz0, hz1, hz2⟩ := info_three infoRu
  obtain ⟨w0, hw0⟩ : ∃ w0, w0 = (((w.alloc (.cells #[.int .i64 a.de, .int .i64 a.cl, .int .i64 a.fu, .int .i64 a.st, .slice A1 a.rs.length cap1] 24)).alloc (.cells #[.int .i64 b.de, .int .i64 b.cl, .int .i64 b.fu, .int .i64 b.st, .slice A2 b.rs.length cap2] 24)).alloc (.cells #[.int .i64 0, .int .i64 0, .int .i64 0, .int .i64 0, .slice none 0 0, .slice none 0 0] 27)) := ⟨_, rfl⟩
  have hb0 : Below w.heap.size w w0 := by rw [hw0]; exact (((Below.refl _ _).alloc (Nat.le_refl _) _).alloc (by simp) _).alloc (by simp; omega) _
  have hx : Blk w0 w.heap.size 24 #[.int .i64 a.de, .int .i64 a.cl, .int .i64 a.fu, .int .i64 a.st, .slice A1 a.rs.length cap1] := by rw [hw0]; exact ((Blk.new _ _ _).alloc _).alloc _
  have hy : Blk w0 (w.heap.size + 1) 24 #[.int .i64 b.de, .int .i64 b.cl, .int .i64 b.fu, .int .i64 b.st, .slice A2 b.rs.length cap2] := by rw [hw0]; exact (Blk.at_new _ _ (by simp) _ _).alloc _
  have hz : Blk w0 (w.heap.size + 2) 27 #[.int .i64 0, .int .i64 0, .int .i64 0, .int .i64 0, .slice none 0 0, .slice none 0 0] := by rw [hw0]; exact Blk.at_new _ _ (by simp) _ _
  have hs0 : w0.heap.size = w.heap.size + 3 := by rw [hw0]; simp
  have HA0 := Lib.hid (hA.on hb0)
  have HB0 := Lib.hid (hB.on hb0)
  have HX0 := Lib.hid hx
  have HY0 := Lib.hid hy
  have HZ0 := Lib.hid hz
  have HBe0 := Lib.hid hb0
  clear hA hB hb0 hx hy hz
  obtain ⟨D, hD⟩ : ∃ D, D = diffR a b := ⟨_, rfl⟩
  rw [← hD]
  have HD := Lib.hid hD
  clear hD
  go_enter Try.func16, Try.ntmps16
  go_wp2_with fail
  rw [← hw0]
  clear hw0
  refine (setRight_any a _ w0 hma HA0.out).mono ?_
  rintro e w1 ⟨rfl, hb1⟩
  have HA1 := Lib.hid (HA0.out.on hb1)
  have HB1 := Lib.hid (HB0.out.on hb1)
  have HX1 := Lib.hid (HX0.out.on hb1)
  have HY1 := Lib.hid (HY0.out.on hb1)
  have HZ1 := Lib.hid (HZ0.out.on hb1)
  have HBe1 := Lib.hid (HBe0.out.trans (hb1.mono HBe0.out.size))
  have hs1 := Nat.le_trans (Nat.le_of_eq hs0.symm) hb1.size
  clear hb1 HA0 HB0 HX0 HY0 HZ0 HBe0
  by_cases h1 : a.Ok
  · rw [decide_eq_true h1]
    have H1 := Lib.hid h1
    clear h1
    obtain ⟨y0, y1, y2, y3, y4⟩ := HY1.out.c5
    have hly := HY1.out.lt
    go_wp2_with fail
    refine (setRight_any b _ w1 hmb HB1.out).mono ?_
    rintro e w2 ⟨rfl, hb2⟩
    have HA2 := Lib.hid (HA1.out.on hb2)
    have HB2 := Lib.hid (HB1.out.on hb2)
    have HX2 := Lib.hid (HX1.out.on hb2)
    have HY2 := Lib.hid (HY1.out.on hb2)
    have HZ2 := Lib.hid (HZ1.out.on hb2)
    have HBe2 := Lib.hid (HBe1.out.trans (hb2.mono HBe1.out.size))
    have hs2 := Nat.le_trans hs1 hb2.size
    clear hb2 HA1 HB1 HX1 HY1 HZ1 HBe1 y0 y1 y2 y3 y4 hly
    by_cases h2 : b.Ok
    · rw [decide_eq_true h2]
      have H2 := Lib.hid h2
      clear h2
      have HE : Hid (D = (diffM a b, 0)) := Lib.hid (by rw [HD.out]; unfold diffR; rw [if_pos ⟨H1.out, H2.out⟩])
      have HAd := HA2
      have HBd := HB2
      have HXd := HX2
      have HYd := HY2
      have HZd := HZ2
      have HBed := HBe2
      have C1 := Lib.hid (unlike_any a.de b.de)
      have C2 := Lib.hid (unlike_any a.cl b.cl)
      have C3 := Lib.hid (unlike_any a.fu b.fu)
      have C4 := Lib.hid (unlike_any a.st b.st)
      obtain ⟨x0, x1, x2, x3, x4⟩ := HX2.out.c5
      obtain ⟨y0, y1, y2, y3, y4⟩ := HY2.out.c5
      have hlx := HX2.out.lt
      have hly := HY2.out.lt
      clear HA2 HB2 HX2 HY2 HZ2 HBe2
      obtain ⟨n1, hn1⟩ : ∃ n, n = unl a.de b.de := ⟨_, rfl⟩
      obtain ⟨n2, hn2⟩ : ∃ n, n = unl a.cl b.cl := ⟨_, rfl⟩
      obtain ⟨n3, hn3⟩ : ∃ n, n = unl a.fu b.fu := ⟨_, rfl⟩
      obtain ⟨n4, hn4⟩ : ∃ n, n = unl a.st b.st := ⟨_, rfl⟩
      rw [← hn1] at C1
      rw [← hn2] at C2
      rw [← hn3] at C3
      rw [← hn4] at C4
      have HE2 : Hid (D = (⟨n1, n2, n3, n4, unlike a.rs b.rs, lost a.rs b.rs⟩, 0)) := Lib.hid (by rw [HE.out, hn1, hn2, hn3, hn4]; rfl)
      clear hn1 hn2 hn3 hn4 HE
      clear x0 x1 x2 x3 x4 y0 y1 y2 y3 y4
      have hne1 : w.heap.size ≠ w2.heap.size := by omega
      have hne2 : w.heap.size + 1 ≠ w2.heap.size := by omega
      go_upto_region 3 with (fail)
      go_cut [6] from 19 (fun s6 W => s6 = .pointer (some ⟨w2.heap.size, 0, none⟩) ∧ Hid (Blk W w2.heap.size 27 #[.int .i64 n1, .int .i64 n2, .int .i64 n3, .int .i64 n4, .slice none 0 0, .slice none 0 0]) ∧ Hid (Below w2.heap.size w2 W) ∧ Hid (W.heap.size = w2.heap.size + 1))
      case first =>
        rename_i J K' hJ hK'
        clear HD HE2 HAd HBd HZd HBed H1 H2 hi hz0 hz1 hz2 hma hmb hs0 hs1
        have heg : ∀ args w, (callFunc 34 args).run Try.prog w = .ok (.enter 34 args) w := enters_of Try.func34 (by kernel_rfl) rfl
        refine wp_region_held_drew (S := fun W => Blk W w.heap.size 24 #[.int .i64 a.de, .int .i64 a.cl, .int .i64 a.fu, .int .i64 a.st, .slice A1 a.rs.length cap1] ∧ Blk W (w.heap.size + 1) 24 #[.int .i64 b.de, .int .i64 b.cl, .int .i64 b.fu, .int .i64 b.st, .slice A2 b.rs.length cap2]) (by kernel_rfl) ⟨HXd.out, HYd.out⟩ (fun hHeld => ?_)
        refine take_d 0 19 (.pointer (some ⟨w.heap.size, 0, none⟩)) _ rfl rfl (by kernel_rfl) (by kernel_rfl) (by kernel_rfl) (fun _ _ _ h => h) (Or.inl ⟨by rfl, fun w' hSw => ?_⟩) hHeld ?_
        · clear hSw
          go_simp
        simp only [List.setIfInBounds_toArray, List.set_cons_zero, List.set_cons_succ]
        refine take_d 1 20 (.int .i64 a.de) _ rfl rfl (by kernel_rfl) (by kernel_rfl) (by kernel_rfl) (fun _ _ _ h => h) (Or.inl ⟨by rfl, fun w' hSw => ?_⟩) hHeld ?_
        · have q := hSw.1.cell 0
          clear hSw
          go_simp
        simp only [List.setIfInBounds_toArray, List.set_cons_zero, List.set_cons_succ]
        refine take_d 2 21 (.pointer (some ⟨(w.heap.size + 1), 0, none⟩)) _ rfl rfl (by kernel_rfl) (by kernel_rfl) (by kernel_rfl) (fun _ _ _ h => h) (Or.inl ⟨by rfl, fun w' hSw => ?_⟩) hHeld ?_
        · clear hSw
          go_simp
        simp only [List.setIfInBounds_toArray, List.set_cons_zero, List.set_cons_succ]
        refine take_d 3 22 (.int .i64 b.de) _ rfl rfl (by kernel_rfl) (by kernel_rfl) (by kernel_rfl) (fun _ _ _ h => h) (Or.inl ⟨by rfl, fun w' hSw => ?_⟩) hHeld ?_
        · have q := hSw.2.cell 0
          clear hSw
          go_simp
        simp only [List.setIfInBounds_toArray, List.set_cons_zero, List.set_cons_succ]
        refine take_d 5 24 (.pointer (some ⟨w.heap.size, 1, none⟩)) _ rfl rfl (by kernel_rfl) (by kernel_rfl) (by kernel_rfl) (fun _ _ _ h => h) (Or.inl ⟨by rfl, fun w' hSw => ?_⟩) hHeld ?_
        · clear hSw
          go_simp
        simp only [List.setIfInBounds_toArray, List.set_cons_zero, List.set_cons_succ]
        refine take_d 6 25 (.int .i64 a.cl) _ rfl rfl (by kernel_rfl) (by kernel_rfl) (by kernel_rfl) (fun _ _ _ h => h) (Or.inl ⟨by rfl, fun w' hSw => ?_⟩) hHeld ?_
        · have q := hSw.1.cell 1
          clear hSw
          go_simp
        simp only [List.setIfInBounds_toArray, List.set_cons_zero, List.set_cons_succ]
        refine take_d 7 26 (.pointer (some ⟨(w.heap.size + 1), 1, none⟩)) _ rfl rfl (by kernel_rfl) (by kernel_rfl) (by kernel_rfl) (fun _ _ _ h => h) (Or.inl ⟨by rfl, fun w' hSw => ?_⟩) hHeld ?_
        · clear hSw
          go_simp
        simp only [List.setIfInBounds_toArray, List.set_cons_zero, List.set_cons_succ]
        refine take_d 8 27 (.int .i64 b.cl) _ rfl rfl (by kernel_rfl) (by kernel_rfl) (by kernel_rfl) (fun _ _ _ h => h) (Or.inl ⟨by rfl, fun w' hSw => ?_⟩) hHeld ?_
        · have q := hSw.2.cell 1
          clear hSw
          go_simp
        simp only [List.setIfInBounds_toArray, List.set_cons_zero, List.set_cons_succ]
        refine take_d 10 29 (.pointer (some ⟨w.heap.size, 2, none⟩)) _ rfl rfl (by kernel_rfl) (by kernel_rfl) (by kernel_rfl) (fun _ _ _ h => h) (Or.inl ⟨by rfl, fun w' hSw => ?_⟩) hHeld ?_
        · clear hSw
          go_simp
        simp only [List.setIfInBounds_toArray, List.set_cons_zero, List.set_cons_succ]
        refine take_d 11 30 (.int .i64 a.fu) _ rfl rfl (by kernel_rfl) (by kernel_rfl) (by kernel_rfl) (fun _ _ _ h => h) (Or.inl ⟨by rfl, fun w' hSw => ?_⟩) hHeld ?_
        · have q := hSw.1.cell 2
          clear hSw
          go_simp
        simp only [List.setIfInBounds_toArray, List.set_cons_zero, List.set_cons_succ]
        refine take_d 12 31 (.pointer (some ⟨(w.heap.size + 1), 2, none⟩)) _ rfl rfl (by kernel_rfl) (by kernel_rfl) (by kernel_rfl) (fun _ _ _ h => h) (Or.inl ⟨by rfl, fun w' hSw => ?_⟩) hHeld ?_
        · clear hSw
          go_simp
        simp only [List.setIfInBounds_toArray, List.set_cons_zero, List.set_cons_succ]
        refine take_d 13 32 (.int .i64 b.fu) _ rfl rfl (by kernel_rfl) (by kernel_rfl) (by kernel_rfl) (fun _ _ _ h => h) (Or.inl ⟨by rfl, fun w' hSw => ?_⟩) hHeld ?_
        · have q := hSw.2.cell 2
          clear hSw
          go_simp
        simp only [List.setIfInBounds_toArray, List.set_cons_zero, List.set_cons_succ]
        refine take_d 15 34 (.pointer (some ⟨w.heap.size, 3, none⟩)) _ rfl rfl (by kernel_rfl) (by kernel_rfl) (by kernel_rfl) (fun _ _ _ h => h) (Or.inl ⟨by rfl, fun w' hSw => ?_⟩) hHeld ?_
        · clear hSw
          go_simp
        simp only [List.setIfInBounds_toArray, List.set_cons_zero, List.set_cons_succ]
        refine take_d 16 35 (.int .i64 a.st) _ rfl rfl (by kernel_rfl) (by kernel_rfl) (by kernel_rfl) (fun _ _ _ h => h) (Or.inl ⟨by rfl, fun w' hSw => ?_⟩) hHeld ?_
        · have q := hSw.1.cell 3
          clear hSw
          go_simp
        simp only [List.setIfInBounds_toArray, List.set_cons_zero, List.set_cons_succ]
        refine take_d 17 36 (.pointer (some ⟨(w.heap.size + 1), 3, none⟩)) _ rfl rfl (by kernel_rfl) (by kernel_rfl) (by kernel_rfl) (fun _ _ _ h => h) (Or.inl ⟨by rfl, fun w' hSw => ?_⟩) hHeld ?_
        · clear hSw
          go_simp
        simp only [List.setIfInBounds_toArray, List.set_cons_zero, List.set_cons_succ]
        refine take_d 18 37 (.int .i64 b.st) _ rfl rfl (by kernel_rfl) (by kernel_rfl) (by kernel_rfl) (fun _ _ _ h => h) (Or.inl ⟨by rfl, fun w' hSw => ?_⟩) hHeld ?_
        · have q := hSw.2.cell 3
          clear hSw
          go_simp
        simp only [List.setIfInBounds_toArray, List.set_cons_zero, List.set_cons_succ]
        refine wpAnyH_call2 (f := 34) (args := #[.int .i64 a.de, .int .i64 b.de]) 4 21 23 6 rfl rfl rfl rfl (by kernel_rfl) rfl rfl (by kernel_rfl) (C1.out _) hHeld (run_alloc_delta _) ⟨(HXd.out.drew4).alloc _, (HYd.out.drew4).alloc _⟩ ?_ ?_
        · simp only [List.setIfInBounds_toArray, List.set_cons_zero, List.set_cons_succ]
          refine wpAnyH_call2 (f := 34) (args := #[.int .i64 a.cl, .int .i64 b.cl]) 9 21 28 6 rfl rfl rfl rfl (by kernel_rfl) rfl rfl (by kernel_rfl) (C2.out _) hHeld (run_alloc_delta _) ⟨(HXd.out.drew4).alloc _, (HYd.out.drew4).alloc _⟩ ?_ ?_
          · simp only [List.setIfInBounds_toArray, List.set_cons_zero, List.set_cons_succ]
            refine wpAnyH_call2 (f := 34) (args := #[.int .i64 a.fu, .int .i64 b.fu]) 14 21 33 6 rfl rfl rfl rfl (by kernel_rfl) rfl rfl (by kernel_rfl) (C3.out _) hHeld (run_alloc_delta _) ⟨(HXd.out.drew4).alloc _, (HYd.out.drew4).alloc _⟩ ?_ ?_
            · simp only [List.setIfInBounds_toArray, List.set_cons_zero, List.set_cons_succ]
              refine wpAnyH_call2 (f := 34) (args := #[.int .i64 a.st, .int .i64 b.st]) 19 21 38 6 rfl rfl rfl rfl (by kernel_rfl) rfl rfl (by kernel_rfl) (C4.out _) hHeld (run_alloc_delta _) ⟨(HXd.out.drew4).alloc _, (HYd.out.drew4).alloc _⟩ ?_ ?_
              · simp only [List.setIfInBounds_toArray, List.set_cons_zero, List.set_cons_succ]
                refine take_d 20 39 (.agg #[.int .i64 n1, .int .i64 n2, .int .i64 n3, .int .i64 n4, .slice none 0 0, .slice none 0 0]) _ rfl rfl (by kernel_rfl) (by kernel_rfl) (by kernel_rfl) (fun _ _ _ h => h) (Or.inl ⟨by rfl, fun w' hSw => ?_⟩) hHeld ?_
                · clear hSw
                  go_simp
                simp only [List.setIfInBounds_toArray, List.set_cons_zero, List.set_cons_succ]
                refine wpAnyH_new1 21 6 rfl rfl (by kernel_rfl) rfl (run_alloc_delta _) ⟨(HXd.out.drew4).alloc _, (HYd.out.drew4).alloc _⟩ ?_
                simp only [List.setIfInBounds_toArray, List.set_cons_zero, List.set_cons_succ]
                have HXW := Lib.hid ((HXd.out.drew4).alloc (.cells #[.int .i64 0, .int .i64 0, .int .i64 0, .int .i64 0, .slice none 0 0, .slice none 0 0] 27))
                have HYW := Lib.hid ((HYd.out.drew4).alloc (.cells #[.int .i64 0, .int .i64 0, .int .i64 0, .int .i64 0, .slice none 0 0, .slice none 0 0] 27))
                have HN1 := Lib.hid (Blk.at_new w2.drew w2.heap.size rfl 27 #[.int .i64 0, .int .i64 0, .int .i64 0, .int .i64 0, .slice none 0 0, .slice none 0 0])
                have HB1 : Hid (Below w2.heap.size w2 (w2.drew.alloc (.cells #[.int .i64 0, .int .i64 0, .int .i64 0, .int .i64 0, .slice none 0 0, .slice none 0 0] 27))) := Lib.hid (((Below.refl _ _).drew).alloc (Nat.le_refl _) _)
                have HS1 : Hid ((w2.drew.alloc (.cells #[.int .i64 0, .int .i64 0, .int .i64 0, .int .i64 0, .slice none 0 0, .slice none 0 0] 27)).heap.size = w2.heap.size + 1) := Lib.hid (by simp)
                generalize w2.drew.alloc (.cells #[.int .i64 0, .int .i64 0, .int .i64 0, .int .i64 0, .slice none 0 0, .slice none 0 0] 27) = W1 at HXW HYW HN1 HB1 HS1 ⊢
                clear hHeld
                have z := HN1.out.c6
                have f := HN1.out.frozen
                have hl1 := HN1.out.lt
                refine wpAnyH_ready (rs := [22]) (by kernel_rfl) (by simp) ?_
                refine AllReadyH.cons rfl (fun K hK => ?_) AllReadyH.nil
                go_simp
                refine hK.out _ _ ⟨?_, ?_⟩ (fun hHeld => ?_)
                · exact far6 HXW.out hne1
                · exact far6 HYW.out hne2
                clear hK K z f
                refine wpAnyH_done (by kernel_rfl) ?_ _
                refine hK' _ _ (Met.intro (hJ _ _ ?_))
                (repeat apply Exists.intro)
                refine ⟨?_, rfl⟩
                exact ⟨rfl, st4_rel HN1.out HB1.out HS1.out⟩
              · simp only [List.setIfInBounds_toArray, List.set_cons_zero, List.set_cons_succ]
                have HXW := Lib.hid ((HXd.out.drew4).alloc (.cells #[.int .i64 0, .int .i64 0, .int .i64 0, .int .i64 0, .slice none 0 0, .slice none 0 0] 27))
                have HYW := Lib.hid ((HYd.out.drew4).alloc (.cells #[.int .i64 0, .int .i64 0, .int .i64 0, .int .i64 0, .slice none 0 0, .slice none 0 0] 27))
                have HN1 := Lib.hid (Blk.at_new w2.drew w2.heap.size rfl 27 #[.int .i64 0, .int .i64 0, .int .i64 0, .int .i64 0, .slice none 0 0, .slice none 0 0])
                have HB1 : Hid (Below w2.heap.size w2 (w2.drew.alloc (.cells #[.int .i64 0, .int .i64 0, .int .i64 0, .int .i64 0, .slice none 0 0, .slice none 0 0] 27))) := Lib.hid (((Below.refl _ _).drew).alloc (Nat.le_refl _) _)
                have HS1 : Hid ((w2.drew.alloc (.cells #[.int .i64 0, .int .i64 0, .int .i64 0, .int .i64 0, .slice none 0 0, .slice none 0 0] 27)).heap.size = w2.heap.size + 1) := Lib.hid (by simp)
                generalize w2.drew.alloc (.cells #[.int .i64 0, .int .i64 0, .int .i64 0, .int .i64 0, .slice none 0 0, .slice none 0 0] 27) = W1 at HXW HYW HN1 HB1 HS1 ⊢
                refine wpAnyH_call1 (f := 34) (args := #[.int .i64 a.st, .int .i64 b.st]) 19 38 rfl rfl (by kernel_rfl) rfl (by kernel_rfl) (C4.out _) ⟨HXW.out, HYW.out⟩ ?_
                simp only [List.setIfInBounds_toArray, List.set_cons_zero, List.set_cons_succ]
                have hHeld := And.intro HXW.out HYW.out
                refine take_d 20 39 (.agg #[.int .i64 n1, .int .i64 n2, .int .i64 n3, .int .i64 n4, .slice none 0 0, .slice none 0 0]) _ rfl rfl (by kernel_rfl) (by kernel_rfl) (by kernel_rfl) (fun _ _ _ h => h) (Or.inl ⟨by rfl, fun w' hSw => ?_⟩) hHeld ?_
                · clear hSw
                  go_simp
                simp only [List.setIfInBounds_toArray, List.set_cons_zero, List.set_cons_succ]
                clear hHeld
                have z := HN1.out.c6
                have f := HN1.out.frozen
                have hl1 := HN1.out.lt
                refine wpAnyH_ready (rs := [22]) (by kernel_rfl) (by simp) ?_
                refine AllReadyH.cons rfl (fun K hK => ?_) AllReadyH.nil
                go_simp
                refine hK.out _ _ ⟨?_, ?_⟩ (fun hHeld => ?_)
                · exact far6 HXW.out hne1
                · exact far6 HYW.out hne2
                clear hK K z f
                refine wpAnyH_done (by kernel_rfl) ?_ _
                refine hK' _ _ (Met.intro (hJ _ _ ?_))
                (repeat apply Exists.intro)
                refine ⟨?_, rfl⟩
                exact ⟨rfl, st4_rel HN1.out HB1.out HS1.out⟩
            · simp only [List.setIfInBounds_toArray, List.set_cons_zero, List.set_cons_succ]
              have HXW := Lib.hid ((HXd.out.drew4).alloc (.cells #[.int .i64 0, .int .i64 0, .int .i64 0, .int .i64 0, .slice none 0 0, .slice none 0 0] 27))
              have HYW := Lib.hid ((HYd.out.drew4).alloc (.cells #[.int .i64 0, .int .i64 0, .int .i64 0, .int .i64 0, .slice none 0 0, .slice none 0 0] 27))
              have HN1 := Lib.hid (Blk.at_new w2.drew w2.heap.size rfl 27 #[.int .i64 0, .int .i64 0, .int .i64 0, .int .i64 0, .slice none 0 0, .slice none 0 0])
              have HB1 : Hid (Below w2.heap.size w2 (w2.drew.alloc (.cells #[.int .i64 0, .int .i64 0, .int .i64 0, .int .i64 0, .slice none 0 0, .slice none 0 0] 27))) := Lib.hid (((Below.refl _ _).drew).alloc (Nat.le_refl _) _)
              have HS1 : Hid ((w2.drew.alloc (.cells #[.int .i64 0, .int .i64 0, .int .i64 0, .int .i64 0, .slice none 0 0, .slice none 0 0] 27)).heap.size = w2.heap.size + 1) := Lib.hid (by simp)
              generalize w2.drew.alloc (.cells #[.int .i64 0, .int .i64 0, .int .i64 0, .int .i64 0, .slice none 0 0, .slice none 0 0] 27) = W1 at HXW HYW HN1 HB1 HS1 ⊢
              refine wpAnyH_call1 (f := 34) (args := #[.int .i64 a.fu, .int .i64 b.fu]) 14 33 rfl rfl (by kernel_rfl) rfl (by kernel_rfl) (C3.out _) ⟨HXW.out, HYW.out⟩ ?_
              simp only [List.setIfInBounds_toArray, List.set_cons_zero, List.set_cons_succ]
              refine wpAnyH_call1 (f := 34) (args := #[.int .i64 a.st, .int .i64 b.st]) 19 38 rfl rfl (by kernel_rfl) rfl (by kernel_rfl) (C4.out _) ⟨HXW.out, HYW.out⟩ ?_
              simp only [List.setIfInBounds_toArray, List.set_cons_zero, List.set_cons_succ]
              have hHeld := And.intro HXW.out HYW.out
              refine take_d 20 39 (.agg #[.int .i64 n1, .int .i64 n2, .int .i64 n3, .int .i64 n4, .slice none 0 0, .slice none 0 0]) _ rfl rfl (by kernel_rfl) (by kernel_rfl) (by kernel_rfl) (fun _ _ _ h => h) (Or.inl ⟨by rfl, fun w' hSw => ?_⟩) hHeld ?_
              · clear hSw
                go_simp
              simp only [List.setIfInBounds_toArray, List.set_cons_zero, List.set_cons_succ]
              clear hHeld
              have z := HN1.out.c6
              have f := HN1.out.frozen
              have hl1 := HN1.out.lt
              refine wpAnyH_ready (rs := [22]) (by kernel_rfl) (by simp) ?_
              refine AllReadyH.cons rfl (fun K hK => ?_) AllReadyH.nil
              go_simp
              refine hK.out _ _ ⟨?_, ?_⟩ (fun hHeld => ?_)
              · exact far6 HXW.out hne1
              · exact far6 HYW.out hne2
              clear hK K z f
              refine wpAnyH_done (by kernel_rfl) ?_ _
              refine hK' _ _ (Met.intro (hJ _ _ ?_))
              (repeat apply Exists.intro)
              refine ⟨?_, rfl⟩
              exact ⟨rfl, st4_rel HN1.out HB1.out HS1.out⟩
          · simp only [List.setIfInBounds_toArray, List.set_cons_zero, List.set_cons_succ]
            have HXW := Lib.hid ((HXd.out.drew4).alloc (.cells #[.int .i64 0, .int .i64 0, .int .i64 0, .int .i64 0, .slice none 0 0, .slice none 0 0] 27))
            have HYW := Lib.hid ((HYd.out.drew4).alloc (.cells #[.int .i64 0, .int .i64 0, .int .i64 0, .int .i64 0, .slice none 0 0, .slice none 0 0] 27))
            have HN1 := Lib.hid (Blk.at_new w2.drew w2.heap.size rfl 27 #[.int .i64 0, .int .i64 0, .int .i64 0, .int .i64 0, .slice none 0 0, .slice none 0 0])
            have HB1 : Hid (Below w2.heap.size w2 (w2.drew.alloc (.cells #[.int .i64 0, .int .i64 0, .int .i64 0, .int .i64 0, .slice none 0 0, .slice none 0 0] 27))) := Lib.hid (((Below.refl _ _).drew).alloc (Nat.le_refl _) _)
            have HS1 : Hid ((w2.drew.alloc (.cells #[.int .i64 0, .int .i64 0, .int .i64 0, .int .i64 0, .slice none 0 0, .slice none 0 0] 27)).heap.size = w2.heap.size + 1) := Lib.hid (by simp)
            generalize w2.drew.alloc (.cells #[.int .i64 0, .int .i64 0, .int .i64 0, .int .i64 0, .slice none 0 0, .slice none 0 0] 27) = W1 at HXW HYW HN1 HB1 HS1 ⊢
            refine wpAnyH_call1 (f := 34) (args := #[.int .i64 a.cl, .int .i64 b.cl]) 9 28 rfl rfl (by kernel_rfl) rfl (by kernel_rfl) (C2.out _) ⟨HXW.out, HYW.out⟩ ?_
            simp only [List.setIfInBounds_toArray, List.set_cons_zero, List.set_cons_succ]
            refine wpAnyH_call1 (f := 34) (args := #[.int .i64 a.fu, .int .i64 b.fu]) 14 33 rfl rfl (by kernel_rfl) rfl (by kernel_rfl) (C3.out _) ⟨HXW.out, HYW.out⟩ ?_
            simp only [List.setIfInBounds_toArray, List.set_cons_zero, List.set_cons_succ]
            refine wpAnyH_call1 (f := 34) (args := #[.int .i64 a.st, .int .i64 b.st]) 19 38 rfl rfl (by kernel_rfl) rfl (by kernel_rfl) (C4.out _) ⟨HXW.out, HYW.out⟩ ?_
            simp only [List.setIfInBounds_toArray, List.set_cons_zero, List.set_cons_succ]
            have hHeld := And.intro HXW.out HYW.out
            refine take_d 20 39 (.agg #[.int .i64 n1, .int .i64 n2, .int .i64 n3, .int .i64 n4, .slice none 0 0, .slice none 0 0]) _ rfl rfl (by kernel_rfl) (by kernel_rfl) (by kernel_rfl) (fun _ _ _ h => h) (Or.inl ⟨by rfl, fun w' hSw => ?_⟩) hHeld ?_
            · clear hSw
              go_simp
            simp only [List.setIfInBounds_toArray, List.set_cons_zero, List.set_cons_succ]
            clear hHeld
            have z := HN1.out.c6
            have f := HN1.out.frozen
            have hl1 := HN1.out.lt
            refine wpAnyH_ready (rs := [22]) (by kernel_rfl) (by simp) ?_
            refine AllReadyH.cons rfl (fun K hK => ?_) AllReadyH.nil
            go_simp
            refine hK.out _ _ ⟨?_, ?_⟩ (fun hHeld => ?_)
            · exact far6 HXW.out hne1
            · exact far6 HYW.out hne2
            clear hK K z f
            refine wpAnyH_done (by kernel_rfl) ?_ _
            refine hK' _ _ (Met.intro (hJ _ _ ?_))
            (repeat apply Exists.intro)
            refine ⟨?_, rfl⟩
            exact ⟨rfl, st4_rel HN1.out HB1.out HS1.out⟩
        · simp only [List.setIfInBounds_toArray, List.set_cons_zero, List.set_cons_succ]
          have HXW := Lib.hid ((HXd.out.drew4).alloc (.cells #[.int .i64 0, .int .i64 0, .int .i64 0, .int .i64 0, .slice none 0 0, .slice none 0 0] 27))
          have HYW := Lib.hid ((HYd.out.drew4).alloc (.cells #[.int .i64 0, .int .i64 0, .int .i64 0, .int .i64 0, .slice none 0 0, .slice none 0 0] 27))
          have HN1 := Lib.hid (Blk.at_new w2.drew w2.heap.size rfl 27 #[.int .i64 0, .int .i64 0, .int .i64 0, .int .i64 0, .slice none 0 0, .slice none 0 0])
          have HB1 : Hid (Below w2.heap.size w2 (w2.drew.alloc (.cells #[.int .i64 0, .int .i64 0, .int .i64 0, .int .i64 0, .slice none 0 0, .slice none 0 0] 27))) := Lib.hid (((Below.refl _ _).drew).alloc (Nat.le_refl _) _)
          have HS1 : Hid ((w2.drew.alloc (.cells #[.int .i64 0, .int .i64 0, .int .i64 0, .int .i64 0, .slice none 0 0, .slice none 0 0] 27)).heap.size = w2.heap.size + 1) := Lib.hid (by simp)
          generalize w2.drew.alloc (.cells #[.int .i64 0, .int .i64 0, .int .i64 0, .int .i64 0, .slice none 0 0, .slice none 0 0] 27) = W1 at HXW HYW HN1 HB1 HS1 ⊢
          refine wpAnyH_call1 (f := 34) (args := #[.int .i64 a.de, .int .i64 b.de]) 4 23 rfl rfl (by kernel_rfl) rfl (by kernel_rfl) (C1.out _) ⟨HXW.out, HYW.out⟩ ?_
          simp only [List.setIfInBounds_toArray, List.set_cons_zero, List.set_cons_succ]
          refine wpAnyH_call1 (f := 34) (args := #[.int .i64 a.cl, .int .i64 b.cl]) 9 28 rfl rfl (by kernel_rfl) rfl (by kernel_rfl) (C2.out _) ⟨HXW.out, HYW.out⟩ ?_
          simp only [List.setIfInBounds_toArray, List.set_cons_zero, List.set_cons_succ]
          refine wpAnyH_call1 (f := 34) (args := #[.int .i64 a.fu, .int .i64 b.fu]) 14 33 rfl rfl (by kernel_rfl) rfl (by kernel_rfl) (C3.out _) ⟨HXW.out, HYW.out⟩ ?_
          simp only [List.setIfInBounds_toArray, List.set_cons_zero, List.set_cons_succ]
          refine wpAnyH_call1 (f := 34) (args := #[.int .i64 a.st, .int .i64 b.st]) 19 38 rfl rfl (by kernel_rfl) rfl (by kernel_rfl) (C4.out _) ⟨HXW.out, HYW.out⟩ ?_
          simp only [List.setIfInBounds_toArray, List.set_cons_zero, List.set_cons_succ]
          have hHeld := And.intro HXW.out HYW.out
          refine take_d 20 39 (.agg #[.int .i64 n1, .int .i64 n2, .int .i64 n3, .int .i64 n4, .slice none 0 0, .slice none 0 0]) _ rfl rfl (by kernel_rfl) (by kernel_rfl) (by kernel_rfl) (fun _ _ _ h => h) (Or.inl ⟨by rfl, fun w' hSw => ?_⟩) hHeld ?_
          · clear hSw
            go_simp
          simp only [List.setIfInBounds_toArray, List.set_cons_zero, List.set_cons_succ]
          clear hHeld
          have z := HN1.out.c6
          have f := HN1.out.frozen
          have hl1 := HN1.out.lt
          refine wpAnyH_ready (rs := [22]) (by kernel_rfl) (by simp) ?_
          refine AllReadyH.cons rfl (fun K hK => ?_) AllReadyH.nil
          go_simp
          refine hK.out _ _ ⟨?_, ?_⟩ (fun hHeld => ?_)
          · exact far6 HXW.out hne1
          · exact far6 HYW.out hne2
          clear hK K z f
          refine wpAnyH_done (by kernel_rfl) ?_ _
          refine hK' _ _ (Met.intro (hJ _ _ ?_))
          (repeat apply Exists.intro)
          refine ⟨?_, rfl⟩
          exact ⟨rfl, st4_rel HN1.out HB1.out HS1.out⟩
      clear C1 C2 C3 C4 hne1 hne2 hlx hly
      obtain ⟨rfl, HDw, HBw, HSw⟩ := hcut
      have hbe := HBw.out
      have hde := HDw.out
      have hse := HSw.out
      clear HDw HBw HSw
      generalize wc = we at *
      have hXe := HXd.out.on hbe
      obtain ⟨x0, x1, x2, x3, x4⟩ := hXe.c5
      have hlx := hXe.lt
      go_wp2_with fail
      refine (byID_any (.slice A1 a.rs.length cap1) a.rs _ hma H1.out.2.2.1 H1.out.2.2.2 (HAd.out.on hbe)).mono ?_
      rintro e w3 ⟨rfl, hown3, hb3⟩
      have hwe := hb3.size
      rw [hse] at hown3
      have hbd3 := hbe.trans (hb3.mono hbe.size)
      have HB3 := Lib.hid (HBd.out.on hbd3)
      have HY3 := Lib.hid (HYd.out.on hbd3)
      have HZ3 := Lib.hid (HZd.out.on hbd3)
      have HBd3 := Lib.hid hbd3
      have HDe := Lib.hid (hde.on hb3)
      have HM3 := Lib.hid hown3
      have hM3 := hown3.lt
      clear hXe x0 x1 x2 x3 x4 hlx hbe hde hb3 hbd3 hown3
      obtain ⟨y0, y1, y2, y3, y4⟩ := HY3.out.c5
      have hly := HY3.out.lt
      go_wp2_with fail
      clear y0 y1 y2 y3 y4 hly
      go_loopw [46] (fun i wr => ∃ (k : Nat) (V : Value), k ≤ b.rs.length ∧ i = .int .i64 k ∧ Hid (Blk wr w2.heap.size 27 #[.int .i64 n1, .int .i64 n2, .int .i64 n3, .int .i64 n4, V, .slice none 0 0]) ∧ Hid (OwnU wr w3.heap.size 44 V (unTake a.rs b.rs k)) ∧ Hid (wr.ownsMap Try.prog 3 ruR (w2.heap.size + 1) a.rs.length (dm (drops a.rs ((b.rs.take k).map Ru.id)))) ∧ Hid (Below w2.heap.size w2 wr) ∧ Hid (w3.heap.size ≤ wr.heap.size)) (fun i _ => b.rs.length - (intOf i).toNat)
      case atStart => exact ⟨0, _, Nat.zero_le _, rfl, HDe, Lib.hid (OwnU.nil _ _ _), Lib.hid (by simpa [drops_nil] using HM3.out), HBd3, Lib.hid (Nat.le_refl _)⟩
      case round =>
        obtain ⟨k, V, hk, rfl, HDk, HV, HM, HBk, HSz⟩ := hrel
        have hsz := HSz.out
        by_cases hlt : k < b.rs.length
        · obtain ⟨bb, off, rfl, hb, c0, c1, c2, c3, c4⟩ := (HBd.out.below HBk.out).at_ hlt
          have HG := Lib.hid (List.getElem?_eq_getElem hlt)
          have HNin : Hid (b.rs[k].id ∉ (b.rs.take k).map Ru.id) := Lib.hid (fun hm => by
            obtain ⟨y, hy, e⟩ := List.mem_map.1 hm
            obtain ⟨i, hi', ei⟩ := List.mem_take_iff_getElem.1 hy
            have := List.pairwise_iff_getElem.1 H2.out.2.2.2 i k (by omega) hlt (by omega)
            rw [ei, e] at this
            omega)
          have HRo := Lib.hid (H2.out.2.2.1 _ (List.getElem_mem hlt))
          generalize b.rs[k] = r at HG HNin HRo c0 c1 c2 c3 c4
          have HKw := Lib.hid (wfId HRo.out)
          obtain ⟨q, hq⟩ : ∃ q, q = look a.rs r.id := ⟨_, rfl⟩
          have HLk : Hid (look (drops a.rs ((b.rs.take k).map Ru.id)) r.id = q) := Lib.hid (by rw [look_drops HNin.out, hq])
          have HQ := Lib.hid hq
          have HLt := Lib.hid hlt
          have hneq := run_neq_ru q r
          have HIds : Hid ((b.rs.take (k + 1)).map Ru.id = (b.rs.take k).map Ru.id ++ [r.id]) := Lib.hid (by rw [ru_take HG.out]; simp)
          clear hq hlt
          cases hin : ruEq q r
          · rw [hin] at hneq
            have HUn : Hid (unTake a.rs b.rs (k + 1) = unTake a.rs b.rs k ++ [r]) := Lib.hid (by
              rw [unTake_succ HG.out, if_neg]
              intro e
              rw [← HQ.out] at e
              have := (ruEq_iff q r).2 e
              rw [hin] at this
              cases this)
            have hul : (unTake a.rs b.rs k).length ≤ k := unTake_len
            clear hin
            obtain ⟨VA, VC, rfl⟩ := HV.out.form
            have d4 := HDk.out.cell 4
            have hld := HDk.out.lt
            have HNe := Lib.hid (show w2.heap.size ≠ w2.heap.size + 1 by omega)
            go_wp2_with (first
              | (at_lookup; refine wpList_lookup_ru1 _ rfl _ _ rfl (w2.heap.size + 1) a.rs.length _ rfl (HM.out.alloc _) r.id rfl HKw.out q HLk.out ?_)
              | (at_builtin
                 refine wpList_append_rule _ rfl (.tmp 57) (.tmp 59) 22 rfl w3.heap.size 44 i0 (.agg #[.int .i64 0, .int .i64 0, .int .i64 0, .int .i64 0, .string ⟨#[]⟩]) 48 Try.underlying22 hi hz0 hz1 hz2 rfl (.slice VA (unTake a.rs b.rs k).length VC) (unTake a.rs b.rs k) rfl ((HV.out.alloc _).alloc _) _ 1 r rfl (Blk.at_new _ _ (by simp) _ _) (by simp; omega) (by decide) (by simp; omega) ?_
                 intro V' w5 hown' hgrow'
                 have hX1 := ((HDk.out.alloc (.cells #[.int .i64 r.id, .int .i64 r.pr, .int .i64 r.ac, .int .i64 r.sc, .string r.pat] 44)).alloc (.cells #[.int .i64 r.id, .int .i64 r.pr, .int .i64 r.ac, .int .i64 r.sc, .string r.pat] 44)).grown hgrow' (fun e => by have := (World.ownsRow.lt HV.out _ e.symm).1; omega)
                 have hM1 := ((HM.out.alloc (.cells #[.int .i64 r.id, .int .i64 r.pr, .int .i64 r.ac, .int .i64 r.sc, .string r.pat] 44)).alloc (.cells #[.int .i64 r.id, .int .i64 r.pr, .int .i64 r.ac, .int .i64 r.sc, .string r.pat] 44)).kept hgrow' (fun e => by have := (World.ownsRow.lt HV.out _ e.symm).1; omega)
                 obtain ⟨VA', VC', hV'⟩ := hown'.form
                 rw [List.length_append, List.length_singleton] at hV'
                 subst hV'
                 have g4 := hX1.frozen 4
                 have e4 := hX1.cell 4
                 have hl1 := hX1.lt
                 have hR1 : Blk w5 wr.heap.size 44 #[.int .i64 r.id, .int .i64 r.pr, .int .i64 r.ac, .int .i64 r.sc, .string r.pat] := ((Blk.new wr 44 #[.int .i64 r.id, .int .i64 r.pr, .int .i64 r.ac, .int .i64 r.sc, .string r.pat]).alloc (.cells #[.int .i64 r.id, .int .i64 r.pr, .int .i64 r.ac, .int .i64 r.sc, .string r.pat] 44)).grown hgrow' (fun e => by have := (World.ownsRow.lt HV.out _ e.symm).2; omega)
                 have r0 := hR1.cell 0
                 have hlr := hR1.lt)
              | (at_delete; refine wpList_delete_own _ rfl _ _ 58 3 rfl 44 (int_keyed Try.underlying3) Try.underlying58 _ (w2.heap.size + 1) a.rs.length _ rfl (World.ownsMap.setCell hM1 (a := ⟨w2.heap.size, 4, none⟩) (fun e => HNe.out e.symm) _) _ _ rfl (keyI r.id HKw.out) ?_; intro w8 hown8 hturn8)
              | go_in)
            have hg8 := hturn8.grown
            rw [dm_del, ← drops_snoc, ← HIds.out] at hown8
            have hM8 := Lib.hid hown8
            have hne5 := own_ne hown' hX1 (by decide)
            have hX8 : Blk w8 w2.heap.size 27 #[.int .i64 n1, .int .i64 n2, .int .i64 n3, .int .i64 n4, .slice VA' ((unTake a.rs b.rs k).length + 1) VC', .slice none 0 0] := (hX1.set_ 4 (.slice VA' ((unTake a.rs b.rs k).length + 1) VC')).grown hg8 (fun e => HNe.out (Option.some.inj e))
            have hV5 : OwnU (w5.setCell ⟨w2.heap.size, 4, none⟩ (.slice VA' ((unTake a.rs b.rs k).length + 1) VC')) w3.heap.size 44 (.slice VA' ((unTake a.rs b.rs k).length + 1) VC') (unTake a.rs b.rs (k + 1)) := by
              rw [HUn.out]
              exact hown'.farset hne5 _
            have hV8 : OwnU w8 w3.heap.size 44 (.slice VA' ((unTake a.rs b.rs k).length + 1) VC') (unTake a.rs b.rs (k + 1)) := own_keep hV5 fun i hi => by
              have hl := World.ownsRow.lt hV5 i hi.symm
              exact hg8.block i hl.2 (fun e => by have := Option.some.inj e; omega)
            have hB5 : Below w2.heap.size w2 w5 := ((HBk.out.alloc HBk.out.size _).alloc (by have := HBk.out.size; simp; omega) _).grown hgrow' (by have := HBk.out.size; simp; omega) (fun j hj => by have := (World.ownsRow.lt HV.out j hj).1; omega)
            have hB8 : Below w2.heap.size w2 w8 := (hB5.setCell (p := ⟨w2.heap.size, 4, none⟩) (Nat.le_refl _) (.slice VA' ((unTake a.rs b.rs k).length + 1) VC')).grown hg8 (by have := hB5.size; simpa [World.setCell] using this) (fun j hj => by have := Option.some.inj hj; omega)
            have hsz8 : w3.heap.size ≤ w8.heap.size := by
              have h1 := hg8.size
              have h2 := hgrow'.size
              simp [World.setCell] at h1 h2
              omega
            have HX8 := Lib.hid hX8
            have HV8 := Lib.hid hV8
            have HB8 := Lib.hid hB8
            have HS8 := Lib.hid hsz8
            clear hg8 hne5 hX8 hV5 hV8 hB5 hB8 hsz8 hown8 hturn8 hown' hgrow' hX1 hM1 g4 e4 hl1
            go_roundw
            case rel => exact ⟨k + 1, _, HLt.out, by go_num, HX8, HV8, hM8, HB8, HS8⟩
            case measure => have := HLt.out; simp [intOf]; omega
          · rw [hin] at hneq
            have HUn : Hid (unTake a.rs b.rs (k + 1) = unTake a.rs b.rs k) := Lib.hid (by
              rw [unTake_succ HG.out, if_pos, List.append_nil]
              rw [← HQ.out]
              exact (ruEq_iff q r).1 hin)
            clear hin
            have HNe := Lib.hid (show w2.heap.size ≠ w2.heap.size + 1 by omega)
            go_wp2_with (first
              | (at_lookup; refine wpList_lookup_ru1 _ rfl _ _ rfl (w2.heap.size + 1) a.rs.length _ rfl (HM.out.alloc _) r.id rfl HKw.out q HLk.out ?_)
              | (at_delete; refine wpList_delete_own _ rfl _ _ 58 3 rfl 44 (int_keyed Try.underlying3) Try.underlying58 _ (w2.heap.size + 1) a.rs.length _ rfl (HM.out.alloc _) _ _ rfl (keyI r.id HKw.out) ?_; intro w8 hown8 hturn8)
              | go_in)
            have hg8 := hturn8.grown
            rw [dm_del, ← drops_snoc, ← HIds.out] at hown8
            have hM8 := Lib.hid hown8
            have HX8 : Hid (Blk w8 w2.heap.size 27 #[.int .i64 n1, .int .i64 n2, .int .i64 n3, .int .i64 n4, V, .slice none 0 0]) := Lib.hid ((HDk.out.alloc _).grown hg8 (fun e => HNe.out (Option.some.inj e)))
            have HV8 : Hid (OwnU w8 w3.heap.size 44 V (unTake a.rs b.rs (k + 1))) := Lib.hid (by
              rw [HUn.out]
              have hV5 := HV.out.alloc (.cells #[.int .i64 r.id, .int .i64 r.pr, .int .i64 r.ac, .int .i64 r.sc, .string r.pat] 44)
              exact own_keep hV5 fun i hi => by
                have hl := World.ownsRow.lt hV5 i hi.symm
                exact hg8.block i hl.2 (fun e => by have := Option.some.inj e; omega))
            have HB8 : Hid (Below w2.heap.size w2 w8) := Lib.hid ((HBk.out.alloc HBk.out.size _).grown hg8 (by have := HBk.out.size; simp; omega) (fun j hj => by have := Option.some.inj hj; omega))
            have HS8 : Hid (w3.heap.size ≤ w8.heap.size) := Lib.hid (by
              have h1 := hg8.size
              simp at h1
              omega)
            clear hg8 hown8 hturn8
            go_roundw
            case rel => exact ⟨k + 1, _, HLt.out, by go_num, HX8, HV8, hM8, HB8, HS8⟩
            case measure => have := HLt.out; simp [intOf]; omega
        · obtain rfl : k = b.rs.length := by omega
          have hul : (unTake a.rs b.rs b.rs.length).length ≤ b.rs.length := unTake_len
          obtain ⟨VA, VC, rfl⟩ := HV.out.form
          have hMe := HM.out
          rw [List.take_length] at hMe
          have HMe := Lib.hid hMe
          have HRi := Lib.hid (H1.out.2.2.2.drops (b.rs.map Ru.id))
          have HSo := Lib.hid (sorted_any (w2.heap.size + 1) a.rs.length (drops a.rs (b.rs.map Ru.id)) HRi.out (by have := List.length_filter_le (fun x : Ru => decide (x.id ∉ b.rs.map Ru.id)) a.rs; unfold drops; omega) wr HMe.out)
          clear hMe
          go_wp2_with fail
          refine (keys_any (some (w2.heap.size + 1)) wr).mono ?_
          rintro e w4 ⟨rfl, rfl⟩
          go_wp2_with fail
          refine HSo.out.mono ?_
          rintro e w5 ⟨dv, rfl, hdv, hb5⟩
          obtain ⟨DA, DC, rfl⟩ := hdv.form
          have hD5 := HDk.out.on hb5
          have g5 := hD5.frozen
          have d5 := hD5.c6
          have hld := hD5.lt
          have HV5 := Lib.hid (HV.out.on hb5)
          have HZ5 := Lib.hid ((HZd.out.on HBk.out).on hb5)
          have HBf5 := Lib.hid (HBk.out.trans (hb5.mono HBk.out.size))
          have HDv := Lib.hid hdv
          have hne5 := own_ne HV5.out hD5 (by decide)
          have HN5 := Lib.hid hne5
          clear hdv hb5 hne5
          have hwz := HZ5.out.lt
          obtain ⟨d0, d1, d2, d3, d4, d5⟩ := d5
          have hlen : ((drops a.rs (b.rs.map Ru.id)).map Ru.id).length = (drops a.rs (b.rs.map Ru.id)).length := by simp
          rw [hlen] at HDv
          go_upto_region 13 with (fail)
          obtain ⟨W, hW⟩ : ∃ W, W = w5.setCell ⟨w2.heap.size, 5, none⟩ (.slice DA (drops a.rs (List.map Ru.id b.rs)).length DC) := ⟨_, rfl⟩
          rw [← hW]
          have hneD := own_ne HDv.out hD5 (by decide)
          have hDW : Blk W w2.heap.size 27 #[.int .i64 n1, .int .i64 n2, .int .i64 n3, .int .i64 n4, .slice VA (unTake a.rs b.rs b.rs.length).length VC, .slice DA (drops a.rs (List.map Ru.id b.rs)).length DC] := by rw [hW]; exact hD5.set_ 5 _
          have hZW : Blk W (w.heap.size + 2) 27 #[.int .i64 0, .int .i64 0, .int .i64 0, .int .i64 0, .slice none 0 0, .slice none 0 0] := by rw [hW]; exact HZ5.out.far (p := ⟨w2.heap.size, 5, none⟩) (show w.heap.size + 2 ≠ w2.heap.size by omega) _
          have hVW : OwnU W w3.heap.size 44 (.slice VA (unTake a.rs b.rs b.rs.length).length VC) (unTake a.rs b.rs b.rs.length) := by rw [hW]; exact HV5.out.farset HN5.out _
          have hIW : OwnI W wr.heap.size (.slice DA (drops a.rs (List.map Ru.id b.rs)).length DC) ((drops a.rs (b.rs.map Ru.id)).map Ru.id) := by rw [hW]; exact ownsRow_setCell_other HDv.out hneD _
          have hBW : Below w.heap.size w W := by rw [hW]; exact HBed.out.trans ((HBf5.out.setCell (p := ⟨w2.heap.size, 5, none⟩) (Nat.le_refl _) _).mono HBed.out.size)
          have HVW := Lib.hid hVW
          have HIW := Lib.hid hIW
          have HBW := Lib.hid hBW
          have HNV := Lib.hid (own_ne hVW hZW (by decide))
          have HNI := Lib.hid (own_ne hIW hZW (by decide))
          have HUn : Hid (unTake a.rs b.rs b.rs.length = unlike a.rs b.rs) := Lib.hid (by unfold unTake; rw [List.take_length])
          clear hW hneD hVW hIW hBW hD5 g5 d0 d1 d2 d3 d4 d5 hld hwz
          obtain ⟨d0, d1, d2, d3, d4, d5⟩ := hDW.c6
          obtain ⟨z0, z1, z2, z3, z4, z5⟩ := hZW.c6
          have f := hZW.frozen
          have hld := hDW.lt
          have hlz := hZW.lt
          go_wp2
          refine bodyPost_ret (v := .tuple #[.agg #[.int .i64 n1, .int .i64 n2, .int .i64 n3, .int .i64 n4, .slice VA (unTake a.rs b.rs b.rs.length).length VC, .slice DA (drops a.rs (List.map Ru.id b.rs)).length DC], .int .i64 0]) (by simp [results, Try.results16, go_sem, *]) rfl ⟨_, _, by rw [HE2.out], ?_, ?_, ?_⟩
          · rw [HE2.out]
            exact own6 HVW.out HNV.out HUn.out
          · rw [HE2.out]
            exact ownI6 HIW.out HNI.out rfl
          · exact below6 HBW.out (by omega)
    · rw [decide_eq_false h2]
      have HE : Hid (D = (⟨0, 0, 0, 0, [], []⟩, 10)) := Lib.hid (by rw [HD.out]; unfold diffR; rw [if_neg fun h => h2 h.2])
      obtain ⟨z0, z1, z2, z3, z4, z5⟩ := HZ2.out.c6
      have f := HZ2.out.frozen
      have hlz := HZ2.out.lt
      go_wp2
      refine bodyPost_ret (v := .tuple #[.agg #[.int .i64 0, .int .i64 0, .int .i64 0, .int .i64 0, .slice none 0 0, .slice none 0 0], .int .i64 10]) (by simp [results, Try.results16, go_sem, *]) rfl ⟨.slice none 0 0, .slice none 0 0, by rw [HE.out], by rw [HE.out]; exact RulesV.nil _ _, by rw [HE.out]; exact row_nilD _ _, ?_⟩
      exact below6 HBe2.out (by omega)
  · rw [decide_eq_false h1]
    have HE : Hid (D = (⟨0, 0, 0, 0, [], []⟩, 10)) := Lib.hid (by rw [HD.out]; unfold diffR; rw [if_neg fun h => h1 h.1])
    obtain ⟨z0, z1, z2, z3, z4, z5⟩ := HZ1.out.c6
    have f := HZ1.out.frozen
    have hlz := HZ1.out.lt
    go_wp2
    refine bodyPost_ret (v := .tuple #[.agg #[.int .i64 0, .int .i64 0, .int .i64 0, .int .i64 0, .slice none 0 0, .slice none 0 0], .int .i64 10]) (by simp [results, Try.results16, go_sem, *]) rfl ⟨.slice none 0 0, .slice none 0 0, by rw [HE.out], by rw [HE.out]; exact RulesV.nil _ _, by rw [HE.out]; exact row_nilD _ _, ?_⟩
    exact below6 HBe1.out (by omega)

end Go.Proofs.Ytihhjcjmchlafaa
