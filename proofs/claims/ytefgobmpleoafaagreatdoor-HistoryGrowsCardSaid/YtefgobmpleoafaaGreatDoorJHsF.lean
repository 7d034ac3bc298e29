/- Package history: Add. (Written by genHsF.py.) -/
import Derived.Test.YtefgobmpleoafaaGreatDoorJHsD
import Derived.Test.YtefgobmpleoafaaGreatDoorJHsE
namespace Go.Proofs.YtefgobmpleoafaaGreatDoor
open Go.RowKit Go.Maps
variable {w w' w'' : World} {S U : Nat → Prop} {g : Nat} {H : Hs} {x : En}

theorem run_re (ve co ru at_ re : Int) (w : World) : (Instr.field 90 (.agg #[.int .i64 ve, .int .i64 co, .int .i64 ru, .int .i64 at_, .int .i64 re]) 1).run Tryz.prog w = .ok (.int .i64 re) w := by kernel_rfl
theorem did_out4 {S' U' : Nat → Prop} {W : World} {bz : Nat} (hF : Fh S w W) (h : HistAt W g S' U' H) (hS : ∀ i, S' i → S i ∨ w.heap.size ≤ i) (hz : ¬ S' bz) (hb : w.heap.size ≤ bz) (hU : U' bz) (hw : ∀ i, U i → U' i) (u0 u1 u2 u3 : Value) :
    Did g S U H w ((((W.setCell ⟨bz, 0, none⟩ u0).setCell ⟨bz, 1, none⟩ u1).setCell ⟨bz, 2, none⟩ u2).setCell ⟨bz, 3, none⟩ u3) :=
  ⟨S', hS, ((((h.store_ (q := ⟨bz, 0, none⟩) hz hU).store_ (q := ⟨bz, 1, none⟩) hz hU).store_ (q := ⟨bz, 2, none⟩) hz hU).store_ (q := ⟨bz, 3, none⟩) hz hU).narrow (fun i hi => hi.elim (hw i) (h.wide i)) (fun _ hi => .inr hi), (((hF.set_ (q := ⟨bz, 0, none⟩) (.inr hb) u0).set_ (q := ⟨bz, 1, none⟩) (.inr hb) u1).set_ (q := ⟨bz, 2, none⟩) (.inr hb) u2).set_ (q := ⟨bz, 3, none⟩) (.inr hb) u3⟩
/-- A row of numbers that reads, whatever is turned in S's blocks. -/
def RowF (S : Nat → Prop) (w : World) (v : Value) (l : List Int) : Prop := ∀ w', Fh S w w' → Row w.heap.size w' v (zI l)
section
variable {v : Value} {l : List Int}
theorem RowF.read (h : RowF S w v l) : Row w.heap.size w v (zI l) := h w (Fh.refl w)
theorem RowF.next (h : RowF S w v l) (k : Fh S w w') : RowF S w' v l := fun w2 k2 => (h w2 (k.next k2)).more k.size
theorem RowF.on (h : RowF S w v l) (k : Below w.heap.size w w') : RowF S w' v l := h.next (Fh.of_below k)
end
theorem Hs.out_ch (h : ¬ H.twice x) : H.out pvM x = ⟨H.chV x.d, (changeM pvM H.top x.d).2.1, (changeM pvM H.top x.d).2.2.1, (changeM pvM H.top x.d).2.2.2⟩ := by
  unfold Hs.out Hs.chV Hs.chg
  rw [if_neg h]
  by_cases h0 : (changeM pvM H.top x.d).2.1 = 0
  · obtain ⟨_, h2⟩ := changeM_top h0
    rw [if_pos h0, if_pos h0, h2]
  · rw [if_neg h0, if_neg h0]
theorem Hs.add_ch (h : ¬ H.twice x) : H.add pvM x = ⟨H.n + 1, H.q, H.chL x.d, fun c => if c = x.cl then some ⟨H.out pvM x, x.re⟩ else H.cl c⟩ := by
  unfold Hs.add Hs.chL Hs.chg
  rw [if_neg h, if_neg h]
theorem Hs.add_tw (h : H.twice x) : H.add pvM x = ⟨H.n + 1, H.q, H.vs, H.cl⟩ := by
  unfold Hs.add
  rw [if_pos h, if_pos h]
/-- What Add tells. -/
def Hs.outA (H : Hs) (x : En) : Oc := if x.ok = true then H.out pvM x else .zero
def Hs.errA (x : En) : Int := if x.ok = true then 0 else 10
def AddP (g : Nat) (S U : Nat → Prop) (H : Hs) (x : En) (w : World) (e : Ending) (w' : World) : Prop :=
  e = .returned (.tuple #[.agg #[.int .i64 (H.outA x).ve, .int .i64 (H.outA x).co, .int .i64 (H.outA x).ru, .int .i64 (H.outA x).at_], .int .i64 (Hs.errA x)]) ∧ Did g S U (H.put pvM x) w w'
theorem ok_key {x : En} (h : x.ok = true) : (Lit.int .i64 x.cl).wf = true := by
  have := (En.ok_iff.1 h).2.1
  exact wfI (by omega)
theorem ok_drop {x : En} (h : x.ok = true) : ∀ z ∈ x.d.drop, (Lit.int .i64 z).wf = true := fun z hz => by
  have := (Dl.okP_iff.1 (En.ok_iff.1 h).2.2.2).2.2.2.2 z hz
  exact wfI (by omega)
set_option maxRecDepth 100000 in
set_option maxHeartbeats 16000000 in
theorem add_any (x : En) (pv dv : Value) (w : World) (n₀ : Nat) (hT : TabsAt n₀ w) (hn₀ : n₀ ≤ w.heap.size) (hS₀ : ∀ i, S i → n₀ ≤ i) (hP : RulesF S w pv x.d.put) (hD : RowF S w dv x.d.drop) (hl : H.vs.length ≤ 100000) (hn : H.n ≤ 1000000) (h : HistAt w g S U H) :
    Calls Tryz.prog 15 #[.pointer (some ⟨g, 0, none⟩), x.val pv dv] w (AddP g S U H x w) := by
  obtain ⟨PA, pc, rfl⟩ := hP.read.form
  obtain ⟨DA, dc, hdv⟩ := hD.read.form
  rw [zI_len] at hdv
  subst hdv
  obtain ⟨np, hnp⟩ : ∃ np, np = x.d.put.length := ⟨_, rfl⟩
  obtain ⟨nd, hnd⟩ : ∃ nd, nd = x.d.drop.length := ⟨_, rfl⟩
  have HNP := Lib.hid hnp
  have HND := Lib.hid hnd
  rw [← hnp] at hP ⊢
  rw [← hnd] at hD ⊢
  obtain ⟨W0, hW0⟩ : ∃ W0, W0 = (w.alloc (.cells #[.int .i64 x.vi, .int .i64 x.cl, .int .i64 x.re, .int .i64 x.d.de, .int .i64 x.d.cl, .int .i64 x.d.fu, .int .i64 x.d.st, .slice PA np pc, .slice DA nd dc] 39)).alloc (.cells #[.int .i64 0, .int .i64 0, .int .i64 0, .int .i64 0] 44) := ⟨_, rfl⟩
  have b0 : Below w.heap.size w W0 := by rw [hW0]; exact ((Below.refl _ _).alloc (Nat.le_refl _) _).alloc (by simp) _
  have hx : Blk W0 w.heap.size 39 #[.int .i64 x.vi, .int .i64 x.cl, .int .i64 x.re, .int .i64 x.d.de, .int .i64 x.d.cl, .int .i64 x.d.fu, .int .i64 x.d.st, .slice PA np pc, .slice DA nd dc] := by rw [hW0]; exact (Blk.new _ _ _).alloc _
  have hz : Blk W0 (w.heap.size + 1) 44 #[.int .i64 0, .int .i64 0, .int .i64 0, .int .i64 0] := by rw [hW0]; exact Blk.at_new _ _ (by simp) _ _
  have hat : HistAt W0 g S (fun i => U i ∨ i = w.heap.size + 1) H := h.fr (S' := fun _ => False) (Fh.of_below b0) (fun _ _ e => e) (fun _ e => e.elim) (fun i hi => hi.imp id (fun e => by omega)) (fun i hi => .inl (h.wide i hi)) (fun i hi => by have h1 := hz.lt; rcases hi with hi | hi; (have h2 := h.uold i hi; omega); omega)
  have HAT := Lib.hid hat
  have HAT0 := Lib.hid h
  have X0 := Lib.hid hx
  have Z0 := Lib.hid hz
  have B0 := Lib.hid b0
  have HP0 := Lib.hid (hP.on b0)
  have HD0 := Lib.hid (hD.on b0)
  have HT := Lib.hid hT
  have HLN := Lib.hid hl
  have HNN := Lib.hid hn
  have RG := Lib.hid (pentry_any x (.slice PA np pc) (.slice DA nd dc) W0 HP0.out.read HD0.out.read)
  unfold AddP Hs.outA Hs.errA Hs.put
  have HN0 := Lib.hid hn₀
  have HS0 := Lib.hid hS₀
  clear hx hz hat h hP hD hT hl hn hnp hnd b0 hn₀ hS₀
  go_enter Tryz.func15, Tryz.ntmps15
  go_upto_region 1 with (fail)
  rw [← hW0]
  clear hW0
  have x0 := X0.out.cell 0
  have x1 := X0.out.cell 1
  have x2 := X0.out.cell 2
  have x3 := X0.out.cell 3
  have x4 := X0.out.cell 4
  have x5 := X0.out.cell 5
  have x6 := X0.out.cell 6
  have x7 := X0.out.cell 7
  have x8 := X0.out.cell 8
  have xl := X0.out.lt
  go_wp2_with fail
  refine RG.out.mono ?_
  rintro e w1 ⟨rfl, b1⟩
  clear x0 x1 x2 x3 x4 x5 x6 x7 x8 xl RG
  have X1 := Lib.hid (X0.out.on b1)
  have Z1 := Lib.hid (Z0.out.on b1)
  have H1 := Lib.hid (HAT.out.on b1)
  have B1 := Lib.hid (B0.out.trans (b1.mono B0.out.size))
  have HP1 := Lib.hid (HP0.out.on b1)
  have HD1 := Lib.hid (HD0.out.on b1)
  have NZ : Hid (¬ S (w.heap.size + 1)) := Lib.hid fun e => by have := HAT0.out.old _ e; omega
  clear b1 X0 Z0 HAT B0 HP0 HD0
  cases hok : x.ok with
  | false =>
    have z0 := Z1.out.cell 0
    have z1 := Z1.out.cell 1
    have z2 := Z1.out.cell 2
    have z3 := Z1.out.cell 3
    have zf := Z1.out.frozen
    have zl := Z1.out.lt
    have FIN : Hid (∀ u0 u1 u2 u3, Did g S U H w ((((w1.setCell ⟨w.heap.size + 1, 0, none⟩ u0).setCell ⟨w.heap.size + 1, 1, none⟩ u1).setCell ⟨w.heap.size + 1, 2, none⟩ u2).setCell ⟨w.heap.size + 1, 3, none⟩ u3)) := Lib.hid fun u0 u1 u2 u3 => did_out4 (Fh.of_below B1.out) H1.out (fun _ e => .inl e) NZ.out (Nat.le_succ _) (.inr rfl) (fun i hi => .inl hi) u0 u1 u2 u3
    go_wp2
    all_goals
      refine bodyPost_ret (v := .tuple #[.agg #[.int .i64 0, .int .i64 0, .int .i64 0, .int .i64 0], .int .i64 10]) (by simp [results, Tryz.results15, go_sem, *]) rfl ⟨by first | rfl | simp [Oc.zero], ?_⟩
      exact FIN.out _ _ _ _
  | true =>
    have HOK := Lib.hid hok
    clear hok
    have c0 := H1.out.choose_spec
    obtain ⟨vv1, L1, mb1, m1, D1, hv1⟩ := H1.out
    clear c0
    have g0 := hv1.blk.cell 0
    have gf := hv1.blk.frozen
    have gl := hv1.blk.lt
    have hgw : g < w.heap.size := HAT0.out.lt
    have hnb : (H.n : Int) ≤ 1000000 := by have := HNN.out; omega
    have hw64 : IntKind.i64.wrap ((H.n : Int) + 1) = (H.n : Int) + 1 := by rw [IntWalk.i64_in] <;> omega
    have h2 := H1.out.count
    rw [show ((H.n + 1 : Nat) : Int) = (H.n : Int) + 1 by omega] at h2
    have H2 := Lib.hid h2
    have X2 := Lib.hid (X1.out.far (p := ⟨g, 0, none⟩) (by show w.heap.size ≠ g; omega) (.int .i64 ((H.n : Int) + 1)))
    have Z2 := Lib.hid (Z1.out.far (p := ⟨g, 0, none⟩) (by show w.heap.size + 1 ≠ g; omega) (.int .i64 ((H.n : Int) + 1)))
    have f12 : Fh S w1 (w1.setCell ⟨g, 0, none⟩ (.int .i64 ((H.n : Int) + 1))) := (Fh.refl w1).set_ (q := ⟨g, 0, none⟩) (.inl HAT0.out.self) _
    have F2 := Lib.hid ((Fh.of_below B1.out).next f12)
    have HP2 := Lib.hid (HP1.out.next f12)
    have HD2 := Lib.hid (HD1.out.next f12)
    go_upto_region 4 with (fail)
    clear h2 f12 hv1 g0 gf gl hw64
    generalize w1.setCell ⟨g, 0, none⟩ (.int .i64 ((H.n : Int) + 1)) = w2 at *
    obtain ⟨vv2, L2, mb, m2, D2, hv2⟩ := H2.out
    have V2 := Lib.hid hv2
    obtain ⟨r, hr⟩ : ∃ r, r = H.la x.cl := ⟨_, rfl⟩
    have LK : Hid (∀ w', Below w2.heap.size w2 w' → (Instr.lookup 78 (.map (some mb)) (.int .i64 x.cl) false).run Tryz.prog w' = .ok r.val w') := Lib.hid fun w' hB => by
      rw [hr]
      exact run_look (map_keep hv2.map_ (hB.block mb (hv2.uold mb (hv2.wide mb hv2.smap)))) hv2.cm (ok_key HOK.out)
    have HR := Lib.hid hr
    clear hv2 hr
    obtain ⟨⟨ve, co, ru, at_⟩, re⟩ := r
    unfold La.val at LK
    by_cases hcmp : x.re ≤ re
    · have HTW : Hid (H.twice x) := Lib.hid (by unfold Hs.twice; rw [← HR.out]; exact hcmp)
      refine wp_region_held_drew (S := fun w' => Below w2.heap.size w2 w') (by kernel_rfl) (Below.drewN' (Below.refl _ w2) 1) (fun hHeld => ?_)
      refine take_d 0 18 (.pointer (some ⟨w.heap.size, 2, none⟩)) _ rfl rfl (by kernel_rfl) (by kernel_rfl) (by kernel_rfl) (fun _ _ _ h => h) (Or.inl ⟨by rfl, fun w' hSw => ?_⟩) hHeld ?_
      · go_simp
      simp only [List.setIfInBounds_toArray, List.set_cons_zero, List.set_cons_succ]
      refine take_d 1 19 (.int .i64 x.re) _ rfl rfl (by kernel_rfl) (by kernel_rfl) (by kernel_rfl) (fun _ _ _ h => h) (Or.inl ⟨by rfl, fun w' hSw => ?_⟩) hHeld ?_
      · have q := (X2.out.on hSw).cell 2
        go_simp
      simp only [List.setIfInBounds_toArray, List.set_cons_zero, List.set_cons_succ]
      refine take_d 2 20 (.pointer (some ⟨g, 0, none⟩)) _ rfl rfl (by kernel_rfl) (by kernel_rfl) (by kernel_rfl) (fun _ _ _ h => h) (Or.inl ⟨by rfl, fun w' hSw => ?_⟩) hHeld ?_
      · go_simp
      simp only [List.setIfInBounds_toArray, List.set_cons_zero, List.set_cons_succ]
      refine take_d 3 21 (.pointer (some ⟨g, 0, none⟩)) _ rfl rfl (by kernel_rfl) (by kernel_rfl) (by kernel_rfl) (fun _ _ _ h => h) (Or.inl ⟨by rfl, fun w' hSw => ?_⟩) hHeld ?_
      · go_simp
      simp only [List.setIfInBounds_toArray, List.set_cons_zero, List.set_cons_succ]
      refine take_d 4 22 (.pointer (some ⟨g, 2, none⟩)) _ rfl rfl (by kernel_rfl) (by kernel_rfl) (by kernel_rfl) (fun _ _ _ h => h) (Or.inl ⟨by rfl, fun w' hSw => ?_⟩) hHeld ?_
      · go_simp
      simp only [List.setIfInBounds_toArray, List.set_cons_zero, List.set_cons_succ]
      refine take_d 5 23 (.map (some mb)) _ rfl rfl (by kernel_rfl) (by kernel_rfl) (by kernel_rfl) (fun _ _ _ h => h) (Or.inl ⟨by rfl, fun w' hSw => ?_⟩) hHeld ?_
      · have q := (V2.out.blk.on hSw).cell 2
        go_simp
      simp only [List.setIfInBounds_toArray, List.set_cons_zero, List.set_cons_succ]
      refine take_d 6 24 (.pointer (some ⟨w.heap.size, 1, none⟩)) _ rfl rfl (by kernel_rfl) (by kernel_rfl) (by kernel_rfl) (fun _ _ _ h => h) (Or.inl ⟨by rfl, fun w' hSw => ?_⟩) hHeld ?_
      · go_simp
      simp only [List.setIfInBounds_toArray, List.set_cons_zero, List.set_cons_succ]
      refine take_d 7 25 (.int .i64 x.cl) _ rfl rfl (by kernel_rfl) (by kernel_rfl) (by kernel_rfl) (fun _ _ _ h => h) (Or.inl ⟨by rfl, fun w' hSw => ?_⟩) hHeld ?_
      · have q := (X2.out.on hSw).cell 1
        go_simp
      simp only [List.setIfInBounds_toArray, List.set_cons_zero, List.set_cons_succ]
      refine take_d 8 26 (.agg #[.int .i64 ve, .int .i64 co, .int .i64 ru, .int .i64 at_, .int .i64 re]) _ rfl rfl (by kernel_rfl) (by kernel_rfl) (by kernel_rfl) (fun _ _ _ h => h) (Or.inl ⟨by rfl, fun w' hSw => ?_⟩) hHeld ?_
      · have q := LK.out w' hSw
        go_simp
      simp only [List.setIfInBounds_toArray, List.set_cons_zero, List.set_cons_succ]
      refine take_d 9 27 (.int .i64 re) _ rfl rfl (by kernel_rfl) (by kernel_rfl) (by kernel_rfl) (fun _ _ _ h => h) (Or.inl ⟨by rfl, fun w' hSw => ?_⟩) hHeld ?_
      · have q := run_re ve co ru at_ re w'
        go_simp
      simp only [List.setIfInBounds_toArray, List.set_cons_zero, List.set_cons_succ]
      refine take_d 10 28 (.bool true) _ rfl rfl (by kernel_rfl) (by kernel_rfl) (by kernel_rfl) (fun _ _ _ h => h) (Or.inl ⟨by rfl, fun w' hSw => ?_⟩) hHeld ?_
      · have z1 := hcmp
        go_simp
      simp only [List.setIfInBounds_toArray, List.set_cons_zero, List.set_cons_succ]
      refine wpAnyH_done (by kernel_rfl) ?_ _
      go_upto_region 5 with (fail)
      have z0 := Z2.out.cell 0
      have z1 := Z2.out.cell 1
      have z2 := Z2.out.cell 2
      have z3 := Z2.out.cell 3
      have zf := Z2.out.frozen
      have zl := Z2.out.lt
      have FIN : Hid (∀ u0 u1 u2 u3, Did g S U (H.add pvM x) w ((((w2.setCell ⟨w.heap.size + 1, 0, none⟩ u0).setCell ⟨w.heap.size + 1, 1, none⟩ u1).setCell ⟨w.heap.size + 1, 2, none⟩ u2).setCell ⟨w.heap.size + 1, 3, none⟩ u3).drew) := Lib.hid fun u0 u1 u2 u3 => by
        rw [Hs.add_tw HTW.out]
        exact (did_out4 F2.out (H2.out.slack (q := H.q) (Nat.le_succ _)) (fun _ e => .inl e) NZ.out (Nat.le_succ _) (.inr rfl) (fun i hi => .inl hi) u0 u1 u2 u3).on (Below.drewN' (Below.refl _ _) 1)
      have HO : Hid (H.out pvM x = ⟨0, 31, 0, 0⟩) := Lib.hid (by unfold Hs.out; rw [if_pos HTW.out])
      go_wp2
      refine bodyPost_ret (v := .tuple #[.agg #[.int .i64 0, .int .i64 31, .int .i64 0, .int .i64 0], .int .i64 0]) (by simp [results, Tryz.results15, go_sem, *]) rfl ⟨?_, ?_⟩
      · have := HO.out
        simp [this]
      · have := FIN.out (.int .i64 0) (.int .i64 31) (.int .i64 0) (.int .i64 0)
        simpa using this
    · have HTW : Hid (¬ H.twice x) := Lib.hid (by unfold Hs.twice; rw [← HR.out]; exact hcmp)
      have hlt : re < x.re := by omega
      refine wp_region_held_drew (S := fun w' => Below w2.heap.size w2 w') (by kernel_rfl) (Below.drewN' (Below.refl _ w2) 1) (fun hHeld => ?_)
      refine take_d 0 18 (.pointer (some ⟨w.heap.size, 2, none⟩)) _ rfl rfl (by kernel_rfl) (by kernel_rfl) (by kernel_rfl) (fun _ _ _ h => h) (Or.inl ⟨by rfl, fun w' hSw => ?_⟩) hHeld ?_
      · go_simp
      simp only [List.setIfInBounds_toArray, List.set_cons_zero, List.set_cons_succ]
      refine take_d 1 19 (.int .i64 x.re) _ rfl rfl (by kernel_rfl) (by kernel_rfl) (by kernel_rfl) (fun _ _ _ h => h) (Or.inl ⟨by rfl, fun w' hSw => ?_⟩) hHeld ?_
      · have q := (X2.out.on hSw).cell 2
        go_simp
      simp only [List.setIfInBounds_toArray, List.set_cons_zero, List.set_cons_succ]
      refine take_d 2 20 (.pointer (some ⟨g, 0, none⟩)) _ rfl rfl (by kernel_rfl) (by kernel_rfl) (by kernel_rfl) (fun _ _ _ h => h) (Or.inl ⟨by rfl, fun w' hSw => ?_⟩) hHeld ?_
      · go_simp
      simp only [List.setIfInBounds_toArray, List.set_cons_zero, List.set_cons_succ]
      refine take_d 3 21 (.pointer (some ⟨g, 0, none⟩)) _ rfl rfl (by kernel_rfl) (by kernel_rfl) (by kernel_rfl) (fun _ _ _ h => h) (Or.inl ⟨by rfl, fun w' hSw => ?_⟩) hHeld ?_
      · go_simp
      simp only [List.setIfInBounds_toArray, List.set_cons_zero, List.set_cons_succ]
      refine take_d 4 22 (.pointer (some ⟨g, 2, none⟩)) _ rfl rfl (by kernel_rfl) (by kernel_rfl) (by kernel_rfl) (fun _ _ _ h => h) (Or.inl ⟨by rfl, fun w' hSw => ?_⟩) hHeld ?_
      · go_simp
      simp only [List.setIfInBounds_toArray, List.set_cons_zero, List.set_cons_succ]
      refine take_d 5 23 (.map (some mb)) _ rfl rfl (by kernel_rfl) (by kernel_rfl) (by kernel_rfl) (fun _ _ _ h => h) (Or.inl ⟨by rfl, fun w' hSw => ?_⟩) hHeld ?_
      · have q := (V2.out.blk.on hSw).cell 2
        go_simp
      simp only [List.setIfInBounds_toArray, List.set_cons_zero, List.set_cons_succ]
      refine take_d 6 24 (.pointer (some ⟨w.heap.size, 1, none⟩)) _ rfl rfl (by kernel_rfl) (by kernel_rfl) (by kernel_rfl) (fun _ _ _ h => h) (Or.inl ⟨by rfl, fun w' hSw => ?_⟩) hHeld ?_
      · go_simp
      simp only [List.setIfInBounds_toArray, List.set_cons_zero, List.set_cons_succ]
      refine take_d 7 25 (.int .i64 x.cl) _ rfl rfl (by kernel_rfl) (by kernel_rfl) (by kernel_rfl) (fun _ _ _ h => h) (Or.inl ⟨by rfl, fun w' hSw => ?_⟩) hHeld ?_
      · have q := (X2.out.on hSw).cell 1
        go_simp
      simp only [List.setIfInBounds_toArray, List.set_cons_zero, List.set_cons_succ]
      refine take_d 8 26 (.agg #[.int .i64 ve, .int .i64 co, .int .i64 ru, .int .i64 at_, .int .i64 re]) _ rfl rfl (by kernel_rfl) (by kernel_rfl) (by kernel_rfl) (fun _ _ _ h => h) (Or.inl ⟨by rfl, fun w' hSw => ?_⟩) hHeld ?_
      · have q := LK.out w' hSw
        go_simp
      simp only [List.setIfInBounds_toArray, List.set_cons_zero, List.set_cons_succ]
      refine take_d 9 27 (.int .i64 re) _ rfl rfl (by kernel_rfl) (by kernel_rfl) (by kernel_rfl) (fun _ _ _ h => h) (Or.inl ⟨by rfl, fun w' hSw => ?_⟩) hHeld ?_
      · have q := run_re ve co ru at_ re w'
        go_simp
      simp only [List.setIfInBounds_toArray, List.set_cons_zero, List.set_cons_succ]
      refine take_d 10 28 (.bool false) _ rfl rfl (by kernel_rfl) (by kernel_rfl) (by kernel_rfl) (fun _ _ _ h => h) (Or.inl ⟨by rfl, fun w' hSw => ?_⟩) hHeld ?_
      · have z1 := hcmp
        go_simp
      simp only [List.setIfInBounds_toArray, List.set_cons_zero, List.set_cons_succ]
      refine wpAnyH_done (by kernel_rfl) ?_ _
      have HB2 : Hid (∀ W, Below w2.heap.size w2 W → Below w2.heap.size w2 (W.alloc (.cells #[.int .i64 0, .int .i64 0, .int .i64 0, .int .i64 0, .int .i64 x.re] 90))) := Lib.hid fun W hB => hB.alloc hB.size _
      have x2 := X2.out.cell 2
      have xl := X2.out.lt
      go_upto_region 7 with (fail)
      have b3 : Below w2.heap.size w2 (w2.alloc (.cells #[.int .i64 0, .int .i64 0, .int .i64 0, .int .i64 0, .int .i64 x.re] 90)).drew := Below.drewN' (HB2.out w2 (Below.refl _ _)) 1
      have L3 : Hid (Blk (w2.alloc (.cells #[.int .i64 0, .int .i64 0, .int .i64 0, .int .i64 0, .int .i64 x.re] 90)).drew w2.heap.size 90 #[.int .i64 0, .int .i64 0, .int .i64 0, .int .i64 0, .int .i64 x.re]) := Lib.hid (Blk.new w2 90 #[.int .i64 0, .int .i64 0, .int .i64 0, .int .i64 0, .int .i64 x.re])
      obtain ⟨b6, hb6⟩ : ∃ b, b = w2.heap.size := ⟨_, rfl⟩
      rw [← hb6] at L3
      have HBB : Hid (w.heap.size + 1 < b6) := Lib.hid (by rw [hb6]; exact Z2.out.lt)
      have h3 : HistAt (w2.alloc (.cells #[.int .i64 0, .int .i64 0, .int .i64 0, .int .i64 0, .int .i64 x.re] 90)).drew g S (fun i => (U i ∨ i = w.heap.size + 1) ∨ i = b6) { H with n := H.n + 1, q := H.q + 1 } := H2.out.fr (S' := fun _ => False) (Fh.of_below b3) (fun _ _ e => e) (fun _ e => e.elim) (fun i hi => hi.imp id (fun e => by omega)) (fun i hi => .inl (.inl (HAT0.out.wide i hi))) (fun i hi => by
        rcases hi with hi | hi
        · exact Nat.lt_of_lt_of_le (H2.out.uold i hi) b3.size
        · rw [hi]; exact L3.out.lt)
      have H3 := Lib.hid h3
      have X3 := Lib.hid (X2.out.on b3)
      have Z3 := Lib.hid (Z2.out.on b3)
      have F3 := Lib.hid (F2.out.below b3)
      have HP3 := Lib.hid (HP2.out.on b3)
      have HD3 := Lib.hid (HD2.out.on b3)
      rw [← hb6]
      clear b3 h3 hb6 HB2 x2 xl LK V2 H2 X2 Z2 F2 HP2 HD2
      generalize (w2.alloc _).drew = w3 at *
      have B3 : Hid (Below n₀ w w3) := Lib.hid (F3.out.old HN0.out HS0.out)
      have CH := Lib.hid (hchange_any (H := { H with n := H.n + 1, q := H.q + 1 }) x.d (.slice PA np pc) (.slice DA nd dc) w3 (by have := (Dl.okP_iff.1 (En.ok_iff.1 HOK.out).2.2.2).2.1; omega) (by have := (Dl.okP_iff.1 (En.ok_iff.1 HOK.out).2.2.2).2.2.2.1; omega) (ok_drop HOK.out) (tabs_on HT.out B3.out (Nat.le_trans HN0.out F3.out.size)) HP3.out.read HD3.out.read HLN.out H3.out)
      obtain ⟨O, hO⟩ : ∃ O, O = H.out pvM x := ⟨_, rfl⟩
      have HO := Lib.hid hO
      have hO2 := hO.trans (Hs.out_ch HTW.out)
      have CHV : Hid (ChP g S (fun i => (U i ∨ i = w.heap.size + 1) ∨ i = b6) { H with n := H.n + 1, q := H.q + 1 } x.d w3 = fun e w' => e = .returned (.tuple #[.int .i64 O.ve, .agg #[.int .i64 O.co, .int .i64 O.ru, .int .i64 O.at_]]) ∧ Did g S (fun i => (U i ∨ i = w.heap.size + 1) ∨ i = b6) { H with n := H.n + 1, q := H.q + 1, vs := H.chL x.d } w3 w') := Lib.hid (by
        funext e w'
        rw [hO2]
        rfl)
      rw [CHV.out] at CH
      obtain ⟨ove, oco, oru, oat⟩ := O
      simp only at CH
      clear hO hO2 CHV
      have x3 := X3.out.cell 3
      have x4 := X3.out.cell 4
      have x5 := X3.out.cell 5
      have x6 := X3.out.cell 6
      have x7 := X3.out.cell 7
      have x8 := X3.out.cell 8
      have xl := X3.out.lt
      go_wp2_with fail
      refine CH.out.mono ?_
      rintro e w4 ⟨rfl, S4, hs4, h4, f4⟩
      clear x3 x4 x5 x6 x7 x8 xl CH
      have hbS : ¬ S b6 := fun e => by have := HAT0.out.old _ e; have := HBB.out; omega
      have hlS := L3.out.lt
      have hbS4 : ¬ S4 b6 := fun e => by rcases hs4 b6 e with e | e; exact hbS e; omega
      have hzS4 : ¬ S4 (w.heap.size + 1) := fun e => by rcases hs4 _ e with e | e; exact NZ.out e; (have := Z3.out.lt; omega)
      have hxS : ¬ S w.heap.size := fun e => by have := HAT0.out.old _ e; omega
      have L4 := Lib.hid (f4.blk L3.out hbS)
      have X4 := Lib.hid (f4.blk X3.out hxS)
      have Z4 := Lib.hid (f4.blk Z3.out NZ.out)
      have BS4 := Lib.hid hbS4
      have ZS4 := Lib.hid hzS4
      have HS4 : Hid (∀ i, S4 i → S i ∨ w.heap.size ≤ i) := Lib.hid fun i hi => (hs4 i hi).imp id fun e => by have := F3.out.size; omega
      have F4 := Lib.hid (F3.out.next f4)
      have H4 := Lib.hid h4
      clear h4 f4 hs4 hbS hlS hbS4 hzS4 hxS L3 X3 Z3 F3 H3 HP3 HD3 B3
      have l0 := L4.out.cell 0
      have l1 := L4.out.cell 1
      have l2 := L4.out.cell 2
      have l3 := L4.out.cell 3
      have lf := L4.out.frozen
      have ll := L4.out.lt
      go_upto_region 8 with (fail)
      have L5 : Hid (Blk ((((w4.setCell ⟨b6, 0, none⟩ (.int .i64 ove)).setCell ⟨b6, 1, none⟩ (.int .i64 oco)).setCell ⟨b6, 2, none⟩ (.int .i64 oru)).setCell ⟨b6, 3, none⟩ (.int .i64 oat)) b6 90 #[.int .i64 ove, .int .i64 oco, .int .i64 oru, .int .i64 oat, .int .i64 x.re]) := Lib.hid (by simpa using (((L4.out.set_ 0 (.int .i64 ove)).set_ 1 (.int .i64 oco)).set_ 2 (.int .i64 oru)).set_ 3 (.int .i64 oat))
      have hwb : w.heap.size ≠ b6 := by have := HBB.out; omega
      have hzb : w.heap.size + 1 ≠ b6 := by have := HBB.out; omega
      have X5 : Hid (Blk ((((w4.setCell ⟨b6, 0, none⟩ (.int .i64 ove)).setCell ⟨b6, 1, none⟩ (.int .i64 oco)).setCell ⟨b6, 2, none⟩ (.int .i64 oru)).setCell ⟨b6, 3, none⟩ (.int .i64 oat)) w.heap.size 39 #[.int .i64 x.vi, .int .i64 x.cl, .int .i64 x.re, .int .i64 x.d.de, .int .i64 x.d.cl, .int .i64 x.d.fu, .int .i64 x.d.st, .slice PA np pc, .slice DA nd dc]) := Lib.hid ((((X4.out.far (p := ⟨b6, 0, none⟩) hwb _).far (p := ⟨b6, 1, none⟩) hwb _).far (p := ⟨b6, 2, none⟩) hwb _).far (p := ⟨b6, 3, none⟩) hwb _)
      have Z5 : Hid (Blk ((((w4.setCell ⟨b6, 0, none⟩ (.int .i64 ove)).setCell ⟨b6, 1, none⟩ (.int .i64 oco)).setCell ⟨b6, 2, none⟩ (.int .i64 oru)).setCell ⟨b6, 3, none⟩ (.int .i64 oat)) (w.heap.size + 1) 44 #[.int .i64 0, .int .i64 0, .int .i64 0, .int .i64 0]) := Lib.hid ((((Z4.out.far (p := ⟨b6, 0, none⟩) hzb _).far (p := ⟨b6, 1, none⟩) hzb _).far (p := ⟨b6, 2, none⟩) hzb _).far (p := ⟨b6, 3, none⟩) hzb _)
      have H5 : Hid (HistAt ((((w4.setCell ⟨b6, 0, none⟩ (.int .i64 ove)).setCell ⟨b6, 1, none⟩ (.int .i64 oco)).setCell ⟨b6, 2, none⟩ (.int .i64 oru)).setCell ⟨b6, 3, none⟩ (.int .i64 oat)) g S4 (fun i => ((U i ∨ i = w.heap.size + 1) ∨ i = b6) ∨ S4 i) { H with n := H.n + 1, q := H.q + 1, vs := H.chL x.d }) := Lib.hid ((((H4.out.store_ (q := ⟨b6, 0, none⟩) BS4.out (.inl (.inr rfl))).store_ (q := ⟨b6, 1, none⟩) BS4.out (.inl (.inr rfl))).store_ (q := ⟨b6, 2, none⟩) BS4.out (.inl (.inr rfl))).store_ (q := ⟨b6, 3, none⟩) BS4.out (.inl (.inr rfl)))
      have hwl : w.heap.size ≤ b6 := by have := HBB.out; omega
      have F5 : Hid (Fh S w ((((w4.setCell ⟨b6, 0, none⟩ (.int .i64 ove)).setCell ⟨b6, 1, none⟩ (.int .i64 oco)).setCell ⟨b6, 2, none⟩ (.int .i64 oru)).setCell ⟨b6, 3, none⟩ (.int .i64 oat))) := Lib.hid ((((F4.out.set_ (q := ⟨b6, 0, none⟩) (.inr hwl) _).set_ (q := ⟨b6, 1, none⟩) (.inr hwl) _).set_ (q := ⟨b6, 2, none⟩) (.inr hwl) _).set_ (q := ⟨b6, 3, none⟩) (.inr hwl) _)
      clear l0 l1 l2 l3 lf ll hwb hzb hwl L4 X4 Z4 H4 F4
      generalize ((((w4.setCell ⟨b6, 0, none⟩ (.int .i64 ove)).setCell ⟨b6, 1, none⟩ (.int .i64 oco)).setCell ⟨b6, 2, none⟩ (.int .i64 oru)).setCell ⟨b6, 3, none⟩ (.int .i64 oat)) = w5 at *
      have hd5 : HistAt w5.drew g S4 (fun i => ((U i ∨ i = w.heap.size + 1) ∨ i = b6) ∨ S4 i) { H with n := H.n + 1, q := H.q + 1, vs := H.chL x.d } := H5.out.drew
      have L6 : Hid (Blk w5.drew b6 90 #[.int .i64 ove, .int .i64 oco, .int .i64 oru, .int .i64 oat, .int .i64 x.re]) := Lib.hid L5.out
      have X6 : Hid (Blk w5.drew w.heap.size 39 #[.int .i64 x.vi, .int .i64 x.cl, .int .i64 x.re, .int .i64 x.d.de, .int .i64 x.d.cl, .int .i64 x.d.fu, .int .i64 x.d.st, .slice PA np pc, .slice DA nd dc]) := Lib.hid X5.out
      have Z6 : Hid (Blk w5.drew (w.heap.size + 1) 44 #[.int .i64 0, .int .i64 0, .int .i64 0, .int .i64 0]) := Lib.hid Z5.out
      have F6 := Lib.hid F5.out.drew
      obtain ⟨vv6, L8, mb8, m8, D8, hv8⟩ := hd5
      have V8 := Lib.hid hv8
      have CW := Lib.hid (ok_key HOK.out)
      clear hv8 L5 X5 Z5 H5 F5
      refine wp_region_held_drew (S := fun w' => Blk w' g 80 #[.int .i64 ((H.n + 1 : Nat) : Int), vv6, .map (some mb8)] ∧ Blk w' w.heap.size 39 #[.int .i64 x.vi, .int .i64 x.cl, .int .i64 x.re, .int .i64 x.d.de, .int .i64 x.d.cl, .int .i64 x.d.fu, .int .i64 x.d.st, .slice PA np pc, .slice DA nd dc] ∧ Blk w' b6 90 #[.int .i64 ove, .int .i64 oco, .int .i64 oru, .int .i64 oat, .int .i64 x.re]) (by kernel_rfl) ⟨V8.out.blk, X6.out, L6.out⟩ (fun hHeld => ?_)
      refine take_d 0 45 (.pointer (some ⟨g, 0, none⟩)) _ rfl rfl (by kernel_rfl) (by kernel_rfl) (by kernel_rfl) (fun _ _ _ h => h) (Or.inl ⟨by rfl, fun w' hSw => ?_⟩) hHeld ?_
      · go_simp
      simp only [List.setIfInBounds_toArray, List.set_cons_zero, List.set_cons_succ]
      refine take_d 1 46 (.pointer (some ⟨g, 0, none⟩)) _ rfl rfl (by kernel_rfl) (by kernel_rfl) (by kernel_rfl) (fun _ _ _ h => h) (Or.inl ⟨by rfl, fun w' hSw => ?_⟩) hHeld ?_
      · go_simp
      simp only [List.setIfInBounds_toArray, List.set_cons_zero, List.set_cons_succ]
      refine take_d 2 47 (.pointer (some ⟨g, 2, none⟩)) _ rfl rfl (by kernel_rfl) (by kernel_rfl) (by kernel_rfl) (fun _ _ _ h => h) (Or.inl ⟨by rfl, fun w' hSw => ?_⟩) hHeld ?_
      · go_simp
      simp only [List.setIfInBounds_toArray, List.set_cons_zero, List.set_cons_succ]
      refine take_d 3 48 (.map (some mb8)) _ rfl rfl (by kernel_rfl) (by kernel_rfl) (by kernel_rfl) (fun _ _ _ h => h) (Or.inl ⟨by rfl, fun w' hSw => ?_⟩) hHeld ?_
      · have q := hSw.1.cell 2
        go_simp
      simp only [List.setIfInBounds_toArray, List.set_cons_zero, List.set_cons_succ]
      refine take_d 4 49 (.pointer (some ⟨w.heap.size, 1, none⟩)) _ rfl rfl (by kernel_rfl) (by kernel_rfl) (by kernel_rfl) (fun _ _ _ h => h) (Or.inl ⟨by rfl, fun w' hSw => ?_⟩) hHeld ?_
      · go_simp
      simp only [List.setIfInBounds_toArray, List.set_cons_zero, List.set_cons_succ]
      refine take_d 5 50 (.int .i64 x.cl) _ rfl rfl (by kernel_rfl) (by kernel_rfl) (by kernel_rfl) (fun _ _ _ h => h) (Or.inl ⟨by rfl, fun w' hSw => ?_⟩) hHeld ?_
      · have q := hSw.2.1.cell 1
        go_simp
      simp only [List.setIfInBounds_toArray, List.set_cons_zero, List.set_cons_succ]
      refine take_d 6 51 (.agg #[.int .i64 ove, .int .i64 oco, .int .i64 oru, .int .i64 oat, .int .i64 x.re]) _ rfl rfl (by kernel_rfl) (by kernel_rfl) (by kernel_rfl) (fun _ _ _ h => h) (Or.inl ⟨by rfl, fun w' hSw => ?_⟩) hHeld ?_
      · have q0 := hSw.2.2.cell 0
        have q1 := hSw.2.2.cell 1
        have q2 := hSw.2.2.cell 2
        have q3 := hSw.2.2.cell 3
        have q4 := hSw.2.2.cell 4
        go_simp
      simp only [List.setIfInBounds_toArray, List.set_cons_zero, List.set_cons_succ]
      refine wpAnyH_ready (rs := [7]) (by kernel_rfl) (by simp) ?_
      refine AllReadyH.cons rfl (fun K hK => ?_) AllReadyH.nil
      refine step_put_la _ rfl rfl (.tmp 48) (.tmp 50) (.tmp 51) rfl mb8 m8 D8 (by simp [Act.eval]) V8.out.map_ (by have := V8.out.few; have := HNN.out; unfold maxLen; simp only at *; omega) x.cl (by simp [Act.eval]) CW.out ⟨⟨ove, oco, oru, oat⟩, x.re⟩ (by simp [Act.eval, La.val]) ?_
      intro w9 o9 g9
      have H9F := V8.out.last_ CW.out ⟨⟨ove, oco, oru, oat⟩, x.re⟩ (q := H.q) rfl o9 g9
      have bm := map_blk V8.out.map_ V8.out.blk
      have L9 := Lib.hid (L6.out.grown g9 (fun e => map_blk V8.out.map_ L6.out (by injection e with e; exact e.symm)))
      have Z9 := Lib.hid (Z6.out.grown g9 (fun e => map_blk V8.out.map_ Z6.out (by injection e with e; exact e.symm)))
      have X9 := X6.out.grown g9 (fun e => map_blk V8.out.map_ X6.out (by injection e with e; exact e.symm))
      have G9 := V8.out.blk.grown g9 (fun e => bm (by injection e with e; exact e.symm))
      refine hK.out _ _ ⟨G9, X9, L9.out⟩ (fun hHeld => ?_)
      clear hK K G9 X9 bm o9 g9
      refine wpAnyH_done (by kernel_rfl) ?_ _
      clear hHeld
      obtain ⟨H9, F9⟩ := H9F
      have FR : Hid (Fh S w w9) := Lib.hid (F6.out.trans F9 HS4.out)
      have FIN : Hid (∀ u0 u1 u2 u3, Did g S U (H.add pvM x) w ((((w9.setCell ⟨w.heap.size + 1, 0, none⟩ u0).setCell ⟨w.heap.size + 1, 1, none⟩ u1).setCell ⟨w.heap.size + 1, 2, none⟩ u2).setCell ⟨w.heap.size + 1, 3, none⟩ u3)) := Lib.hid fun u0 u1 u2 u3 => by
        rw [Hs.add_ch HTW.out, ← HO.out]
        exact did_out4 FR.out H9 HS4.out ZS4.out (Nat.le_succ _) (.inl (.inl (.inr rfl))) (fun i hi => .inl (.inl (.inl hi))) u0 u1 u2 u3
      have z0 := Z9.out.cell 0
      have z1 := Z9.out.cell 1
      have z2 := Z9.out.cell 2
      have z3 := Z9.out.cell 3
      have zf := Z9.out.frozen
      have zl := Z9.out.lt
      have l0 := L9.out.cell 0
      have l1 := L9.out.cell 1
      have l2 := L9.out.cell 2
      have l3 := L9.out.cell 3
      have ll := L9.out.lt
      have hn1 : ¬ b6 = w.heap.size + 1 := by have := HBB.out; omega
      have hn2 : ¬ w.heap.size + 1 = b6 := by have := HBB.out; omega
      clear H9 F9
      go_wp2
      refine bodyPost_ret (v := .tuple #[.agg #[.int .i64 ove, .int .i64 oco, .int .i64 oru, .int .i64 oat], .int .i64 0]) (by simp [results, Tryz.results15, go_sem, *]) rfl ⟨?_, ?_⟩
      · have := HO.out
        simp [← this]
      · have := FIN.out (.int .i64 ove) (.int .i64 oco) (.int .i64 oru) (.int .i64 oat)
        simpa using this
end Go.Proofs.YtefgobmpleoafaaGreatDoor

