/- Joined: VmO, VmQ, VmX. -/
import Derived.Test.YtdbddbelhgkelaaGreatDoorZMWb
import Derived.WalkMore
/- The machine: one instruction, the rest (choices, atomic groups, sets). -/
namespace Go.Proofs.YtdbddbelhgkelaaGreatDoor
open Go.RowKit
open Go.Proofs.YtdbddbelhgkelaaGreatDoor.Cl (Rg SetV SetAt rgCells info_three hasB)
variable {w w' w0 : World} {mb F S : Nat} {cv uv V1 V2 V3 : Value} {s : Ms} {rb pl p fc fg : Nat} {X : List In} {U : List Int}

set_option maxRecDepth 100000 in
set_option maxHeartbeats 4000000 in
theorem step_3 {k : Nat} {x : In} (hx : X[pl]? = some x) (ho : x.op = 3) (hC : StepC w0 w mb cv uv V1 V2 V3 F S X U s k rb pl p fc fg) (hD : DoC w0 mb cv uv V1 F S X U k) :
    Calls Tryz.prog 63 #[.pointer (some ⟨rb, 0, none⟩)] w (StepP w0 w mb cv uv V1 F S rb fc fg (stepM X U S (fun pl p s => runM X U F S k (-1) pl p s) (-1) pl p s)) := by
  obtain ⟨g, c, As, cs, rfl, hc, hg0, hO, d0, d1, d2, d3, d4, d5⟩ := hC.inst hx
  have HC := Lib.hid hC
  have HD := Lib.hid hD
  have hmr := hC.ne
  have hplX : pl < X.length := (List.getElem?_eq_some_iff.1 hx).1
  have hpli : (pl : Int) < (X.length : Int) := by omega
  have hX3 : X.length ≤ 2003 := hC.prog.1
  have HI := Lib.hid (hC.prog.2 pl x hx)
  obtain ⟨k0, k1, k2, _⟩ := hC.run.c6
  have m0 := hC.mch.c9.1
  have HX := Lib.hid hx
  clear hC hD hx
  obtain ⟨xo, xa, xb, xc, xd, xs⟩ := x
  simp only at ho d0 d1 d2 d3 d4 d5 hO
  subst ho
  have hj := HI.out.jump (.inr rfl)
  have hs := HI.out.split (.inl rfl)
  simp only at hj hs
  obtain ⟨a, rfl⟩ : ∃ a : Nat, xa = (a : Int) := ⟨xa.toNat, by omega⟩
  obtain ⟨b, rfl⟩ : ∃ b : Nat, xb = (b : Int) := ⟨xb.toNat, by omega⟩
  have hf := HC.out.fit
  have hch := hf.cho
  have hcg := hf.chg
  have hdp := hf.deep
  have hbd := HC.out.bd
  have hsz := HC.out.below.size
  have e : stepM X U S (fun pl p s => runM X U F S k (-1) pl p s) (-1) pl p s = if s.cho.length = S then (2, pl, p, s) else (3, a, p, { s with cho := s.cho ++ [(b, p, s.chg.length)], deep := max s.deep (s.cho.length + 1) }) := by unfold stepM; rw [HX.out]; rfl
  rw [e]
  clear e hf
  unfold StepP
  by_cases hS : s.cho.length = S
  · have HN := Lib.hid (split_full (w := w.drew) (gc := g) (o := pl * 6) HC.out.mch.drew HC.out.run hS)
    simp only [hS, if_true]
    go_enter Tryz.func63, Tryz.ntmps63
    go_wp2
    go_region
    go_wp2_with fail
    refine HN.out.mono ?_
    rintro e w1 ⟨rfl, m, rfl⟩
    go_wp2
    go_ret
    exact ⟨rfl, ⟨_, _, HC.out.mch.drewN _⟩, HC.out.run, (FrV.refl w).drewN _⟩
  · have HN := Lib.hid (vsplit_any (w := w.drew) (gc := g) (o := pl * 6) (a := a) (b := b) HC.out.mch.drew HC.out.run hS (by omega) (by omega) (by omega) (show w0.heap.size ≤ w.drew.heap.size from hsz) hg0 HC.out.low d1 d2)
    simp only [hS, if_false]
    go_enter Tryz.func63, Tryz.ntmps63
    go_wp2
    go_region
    go_wp2_with fail
    refine HN.out.mono ?_
    rintro e w1 ⟨rfl, ⟨V3', hm⟩, hr, hfr⟩
    have H1 := Lib.hid (And.intro hm (And.intro hr hfr))
    clear hm hr hfr
    go_wp2
    go_ret
    exact ⟨rfl, ⟨_, _, H1.out.1⟩, H1.out.2.1, (FrV.refl w).drew.trans H1.out.2.2⟩

set_option maxRecDepth 100000 in
set_option maxHeartbeats 4000000 in
theorem step_8 {k : Nat} {x : In} (hx : X[pl]? = some x) (ho : x.op = 8) (hC : StepC w0 w mb cv uv V1 V2 V3 F S X U s k rb pl p fc fg) (hD : DoC w0 mb cv uv V1 F S X U k) :
    Calls Tryz.prog 63 #[.pointer (some ⟨rb, 0, none⟩)] w (StepP w0 w mb cv uv V1 F S rb fc fg (stepM X U S (fun pl p s => runM X U F S k (-1) pl p s) (-1) pl p s)) := by
  obtain ⟨g, c, As, cs, rfl, hc, hg0, hO, d0, d1, d2, d3, d4, d5⟩ := hC.inst hx
  have HC := Lib.hid hC
  have HD := Lib.hid hD
  have hmr := hC.ne
  have hplX : pl < X.length := (List.getElem?_eq_some_iff.1 hx).1
  have hpli : (pl : Int) < (X.length : Int) := by omega
  have hX3 : X.length ≤ 2003 := hC.prog.1
  have HI := Lib.hid (hC.prog.2 pl x hx)
  obtain ⟨k0, k1, k2, _⟩ := hC.run.c6
  have m0 := hC.mch.c9.1
  have HX := Lib.hid hx
  clear hC hD hx
  obtain ⟨xo, xa, xb, xc, xd, xs⟩ := x
  simp only at ho d0 d1 d2 d3 d4 d5 hO
  subst ho
  have hs := HI.out.split (.inr rfl)
  have hnx := HI.out.next (show (8 : Int) ≠ 0 by decide) (show (8 : Int) ≠ 9 by decide)
  simp only at hs
  obtain ⟨b, rfl⟩ : ∃ b : Nat, xb = (b : Int) := ⟨xb.toNat, by omega⟩
  obtain ⟨r, hr⟩ : ∃ r, runM X U F S k (-1) (pl + 1) p s = r := ⟨_, rfl⟩
  have hk2 : r.1 ≤ 2 := by
    rw [← hr]
    unfold runM
    exact (go_fit HC.out.prog F k (-1) s.cho.length s.chg.length (pl + 1) p s HC.out.fit ⟨Nat.le_refl _, Nat.le_refl _, fun i c hi hg => by have := (List.getElem?_eq_some_iff.1 hg).1; omega, fun i c _ hg => (HC.out.fit.kept c (List.mem_of_getElem? hg)).2.2⟩ hnx HC.out.pos).kind
  have HN := Lib.hid (atomic_any (w := w.drew) (gc := g) (o := pl * 6) (b := b) HD.out HC.out.below.drew HC.out.mch.drew HC.out.run HC.out.fit hnx HC.out.pos HC.out.fuel HC.out.sF hX3 HC.out.env.le hg0 d2 HC.out.low hr hk2)
  have e : stepM X U S (fun pl p s => runM X U F S k (-1) pl p s) (-1) pl p s = if r.1 = 1 then (3, b, r.2.1, r.2.2) else (r.1, pl, p, r.2.2) := by unfold stepM; rw [HX.out, ← hr]; rfl
  rw [e]
  clear e hr
  unfold StepP
  obtain ⟨rk, rp, rs⟩ := r
  simp only at HN hk2 ⊢
  by_cases hr1 : rk = 1
  · subst hr1
    simp only [if_true] at HN ⊢
    go_enter Tryz.func63, Tryz.ntmps63
    go_wp2
    go_region
    go_wp2_with fail
    refine HN.out.mono ?_
    rintro e w1 ⟨rfl, hm, hr, hfr⟩
    have H1 := Lib.hid (And.intro hm (And.intro hr hfr))
    clear hm hr hfr HN
    go_wp2
    go_ret
    exact ⟨rfl, H1.out.1, H1.out.2.1, (FrV.refl w).drew.trans H1.out.2.2⟩
  · simp only [hr1, if_false] at HN ⊢
    go_enter Tryz.func63, Tryz.ntmps63
    go_wp2
    go_region
    go_wp2_with fail
    refine HN.out.mono ?_
    rintro e w1 ⟨rfl, hm, hr, hfr⟩
    have H1 := Lib.hid (And.intro hm (And.intro hr hfr))
    clear hm hr hfr HN
    go_wp2
    go_ret
    exact ⟨rfl, H1.out.1, H1.out.2.1, (FrV.refl w).drew.trans H1.out.2.2⟩

set_option maxRecDepth 100000 in
set_option maxHeartbeats 4000000 in
theorem step_1 {k : Nat} {x : In} (hx : X[pl]? = some x) (ho : x.op = 1) (hC : StepC w0 w mb cv uv V1 V2 V3 F S X U s k rb pl p fc fg) (hD : DoC w0 mb cv uv V1 F S X U k) :
    Calls Tryz.prog 63 #[.pointer (some ⟨rb, 0, none⟩)] w (StepP w0 w mb cv uv V1 F S rb fc fg (stepM X U S (fun pl p s => runM X U F S k (-1) pl p s) (-1) pl p s)) := by
  obtain ⟨g, c, As, cs, rfl, hc, hg0, hO, d0, d1, d2, d3, d4, d5⟩ := hC.inst hx
  have HC := Lib.hid hC
  have HD := Lib.hid hD
  have hmr := hC.ne
  have hplX : pl < X.length := (List.getElem?_eq_some_iff.1 hx).1
  have hpli : (pl : Int) < (X.length : Int) := by omega
  have hX3 : X.length ≤ 2003 := hC.prog.1
  have HI := Lib.hid (hC.prog.2 pl x hx)
  obtain ⟨k0, k1, k2, _⟩ := hC.run.c6
  have m0 := hC.mch.c9.1
  have HX := Lib.hid hx
  clear hC hD hx
  obtain ⟨xo, xa, xb, xc, xd, xs⟩ := x
  simp only at ho d0 d1 d2 d3 d4 d5 hO
  subst ho
  have e : stepM X U S (fun pl p s => runM X U F S k (-1) pl p s) (-1) pl p s = setM U ⟨1, xa, xb, xc, xd, xs⟩ p s pl := by unfold stepM; rw [HX.out]; rfl
  rw [e]
  clear e
  unfold StepP setM
  have hset := HI.out.set
  simp only at hset
  cases hu : U[p]? with
  | none =>
    have hpU : p = U.length := by
      have h1 := HC.out.pos
      rcases Nat.lt_or_ge p U.length with hlt | hge
      · rw [List.getElem?_eq_getElem hlt] at hu; cases hu
      · omega
    have HN := Lib.hid (take_end (w := w.drew) HC.out.env HC.out.below.drew HC.out.mch.drew HC.out.run hpU (.slice As xs.length cs))
    clear hu
    go_enter Tryz.func63, Tryz.ntmps63
    go_wp2
    go_region
    go_wp2_with fail
    refine HN.out.mono ?_
    rintro e w1 ⟨rfl, m, rfl⟩
    go_wp2
    go_ret
    exact ⟨rfl, ⟨_, _, HC.out.mch.drewN _⟩, HC.out.run, (FrV.refl w).drewN _⟩
  | some u =>
    have HN := Lib.hid (take_has (w := w.drew) (l := xs) (sv := .slice As xs.length cs) HC.out.env HC.out.below.drew HC.out.mch.drew HC.out.run hu hset (show SetV w.drew.heap.size w.drew _ xs from Cl.Own.set (show OwnS w.drew 0 _ xs from hO)) HC.out.low)
    clear hu
    simp only
    generalize hasB xs u = bv at *
    go_enter Tryz.func63, Tryz.ntmps63
    go_wp2
    go_region
    go_wp2_with fail
    refine HN.out.mono ?_
    rintro e w1 ⟨rfl, hm, hr, hfr⟩
    have HM1 := Lib.hid hm
    have HF1 := Lib.hid ((FrV.refl w).drew.trans hfr)
    clear k0 k1 k2 m0 d0 d1 d2 d3 d4 d5 hm hfr HN
    cases bv
    · have HR1 := Lib.hid hr
      clear hr
      go_wp2
      go_ret
      exact ⟨rfl, ⟨_, _, HM1.out⟩, HR1.out, HF1.out⟩
    · simp only [if_true] at hr ⊢
      have HR1 := Lib.hid hr
      clear hr
      obtain ⟨_, k1, _⟩ := HR1.out.c6
      have f1 := HR1.out.fz 1
      go_wp2
      go_ret
      exact ⟨rfl, ⟨_, _, HM1.out.far HR1.out (by decide) (by decide) (by decide) (by decide) _⟩, HR1.out.place (pl + 1), HF1.out.set_ (q := ⟨rb, 1, none⟩) (.inr ⟨HC.out.low, .inr (.inl rfl)⟩) _⟩

end Go.Proofs.YtdbddbelhgkelaaGreatDoor

/- The machine: one instruction, slots. -/
namespace Go.Proofs.YtdbddbelhgkelaaGreatDoor
open Go.RowKit
open Go.Proofs.YtdbddbelhgkelaaGreatDoor.Cl (Rg SetV SetAt rgCells info_three hasB)
variable {w w' w0 : World} {mb F S : Nat} {cv uv V1 V2 V3 : Value} {s : Ms} {rb pl p fc fg : Nat} {X : List In} {U : List Int}

set_option maxRecDepth 100000 in
set_option maxHeartbeats 4000000 in
theorem step_4 {k : Nat} {x : In} (hx : X[pl]? = some x) (ho : x.op = 4) (hC : StepC w0 w mb cv uv V1 V2 V3 F S X U s k rb pl p fc fg) (hD : DoC w0 mb cv uv V1 F S X U k) :
    Calls Tryz.prog 63 #[.pointer (some ⟨rb, 0, none⟩)] w (StepP w0 w mb cv uv V1 F S rb fc fg (stepM X U S (fun pl p s => runM X U F S k (-1) pl p s) (-1) pl p s)) := by
  obtain ⟨g, c, As, cs, rfl, hc, hg0, hO, d0, d1, d2, d3, d4, d5⟩ := hC.inst hx
  have HC := Lib.hid hC
  have HD := Lib.hid hD
  have hmr := hC.ne
  have hplX : pl < X.length := (List.getElem?_eq_some_iff.1 hx).1
  have hpli : (pl : Int) < (X.length : Int) := by omega
  have hX3 : X.length ≤ 2003 := hC.prog.1
  have HI := Lib.hid (hC.prog.2 pl x hx)
  obtain ⟨k0, k1, k2, _⟩ := hC.run.c6
  have m0 := hC.mch.c9.1
  have HX := Lib.hid hx
  clear hC hD hx
  obtain ⟨xo, xa, xb, xc, xd, xs⟩ := x
  simp only at ho d0 d1 d2 d3 d4 d5 hO
  subst ho
  have hj := HI.out.save rfl
  simp only at hj
  obtain ⟨a, rfl⟩ : ∃ a : Nat, xa = (a : Int) := ⟨xa.toNat, by omega⟩
  have hsl := HC.out.fit.sl
  have hmk := marks_le X
  have hbd := HC.out.bd
  have hcg := HC.out.chg
  have hsz := HC.out.below.size
  have hlt : a < s.sl.length := by omega
  have e : stepM X U S (fun pl p s => runM X U F S k (-1) pl p s) (-1) pl p s = (3, pl + 1, p, s.put (a) p) := by unfold stepM; rw [HX.out]; rfl
  rw [e]
  clear e
  unfold StepP
  have HN := Lib.hid (set_any (w := w.drew.drew) (i := a) (v := (p : Nat)) HC.out.mch.drew.drew hlt (by omega) (by omega) (show w0.heap.size ≤ w.drew.drew.heap.size from hsz))
  clear hsl hbd hcg hsz hlt
  have HM0 := Lib.hid HC.out.mch.drew.drew
  go_enter Tryz.func63, Tryz.ntmps63
  go_wp2
  go_region
  go_wp2_with fail
  refine wp_region_held_drew (S := fun w' => w'.cell? ⟨rb, 0, none⟩ = some (.pointer (some ⟨mb, 0, none⟩)) ∧ w'.cell? ⟨g, pl * 6 + 1, none⟩ = some (.int .i64 (a : Nat)) ∧ w'.cell? ⟨rb, 2, none⟩ = some (.int .i64 (p : Nat))) (by kernel_rfl) ⟨k0, d1, k2⟩ (fun hHeld => ?_)
  refine take_v 0 61 (.pointer (some ⟨rb, 0, none⟩)) _ rfl rfl (by kernel_rfl) (by kernel_rfl) (by kernel_rfl) (fun _ _ _ h => h) (Or.inl ⟨by rfl, fun w' hSw => ?_⟩) hHeld ?_
  · obtain ⟨q1, q2, q3⟩ := hSw
    go_simp
  simp only [List.setIfInBounds_toArray, List.set_cons_zero, List.set_cons_succ]
  refine take_v 1 62 (.pointer (some ⟨rb, 0, none⟩)) _ rfl rfl (by kernel_rfl) (by kernel_rfl) (by kernel_rfl) (fun _ _ _ h => h) (Or.inl ⟨by rfl, fun w' hSw => ?_⟩) hHeld ?_
  · obtain ⟨q1, q2, q3⟩ := hSw
    go_simp
  simp only [List.setIfInBounds_toArray, List.set_cons_zero, List.set_cons_succ]
  refine take_v 2 63 (.pointer (some ⟨rb, 0, none⟩)) _ rfl rfl (by kernel_rfl) (by kernel_rfl) (by kernel_rfl) (fun _ _ _ h => h) (Or.inl ⟨by rfl, fun w' hSw => ?_⟩) hHeld ?_
  · obtain ⟨q1, q2, q3⟩ := hSw
    go_simp
  simp only [List.setIfInBounds_toArray, List.set_cons_zero, List.set_cons_succ]
  refine take_v 3 64 (.pointer (some ⟨mb, 0, none⟩)) _ rfl rfl (by kernel_rfl) (by kernel_rfl) (by kernel_rfl) (fun _ _ _ h => h) (Or.inl ⟨by rfl, fun w' hSw => ?_⟩) hHeld ?_
  · obtain ⟨q1, q2, q3⟩ := hSw
    go_simp
  simp only [List.setIfInBounds_toArray, List.set_cons_zero, List.set_cons_succ]
  refine take_v 4 65 (.pointer (some ⟨g, pl * 6, none⟩)) _ rfl rfl (by kernel_rfl) (by kernel_rfl) (by kernel_rfl) (fun _ _ _ h => h) (Or.inl ⟨by rfl, fun w' hSw => ?_⟩) hHeld ?_
  · obtain ⟨q1, q2, q3⟩ := hSw
    go_simp
  simp only [List.setIfInBounds_toArray, List.set_cons_zero, List.set_cons_succ]
  refine take_v 5 66 (.pointer (some ⟨g, pl * 6, none⟩)) _ rfl rfl (by kernel_rfl) (by kernel_rfl) (by kernel_rfl) (fun _ _ _ h => h) (Or.inl ⟨by rfl, fun w' hSw => ?_⟩) hHeld ?_
  · obtain ⟨q1, q2, q3⟩ := hSw
    go_simp
  simp only [List.setIfInBounds_toArray, List.set_cons_zero, List.set_cons_succ]
  refine take_v 6 67 (.pointer (some ⟨g, pl * 6 + 1, none⟩)) _ rfl rfl (by kernel_rfl) (by kernel_rfl) (by kernel_rfl) (fun _ _ _ h => h) (Or.inl ⟨by rfl, fun w' hSw => ?_⟩) hHeld ?_
  · obtain ⟨q1, q2, q3⟩ := hSw
    go_simp
  simp only [List.setIfInBounds_toArray, List.set_cons_zero, List.set_cons_succ]
  refine take_v 7 68 (.int .i64 (a : Nat)) _ rfl rfl (by kernel_rfl) (by kernel_rfl) (by kernel_rfl) (fun _ _ _ h => h) (Or.inl ⟨by rfl, fun w' hSw => ?_⟩) hHeld ?_
  · obtain ⟨q1, q2, q3⟩ := hSw
    go_simp
  simp only [List.setIfInBounds_toArray, List.set_cons_zero, List.set_cons_succ]
  refine take_v 8 69 (.pointer (some ⟨rb, 0, none⟩)) _ rfl rfl (by kernel_rfl) (by kernel_rfl) (by kernel_rfl) (fun _ _ _ h => h) (Or.inl ⟨by rfl, fun w' hSw => ?_⟩) hHeld ?_
  · obtain ⟨q1, q2, q3⟩ := hSw
    go_simp
  simp only [List.setIfInBounds_toArray, List.set_cons_zero, List.set_cons_succ]
  refine take_v 9 70 (.pointer (some ⟨rb, 0, none⟩)) _ rfl rfl (by kernel_rfl) (by kernel_rfl) (by kernel_rfl) (fun _ _ _ h => h) (Or.inl ⟨by rfl, fun w' hSw => ?_⟩) hHeld ?_
  · obtain ⟨q1, q2, q3⟩ := hSw
    go_simp
  simp only [List.setIfInBounds_toArray, List.set_cons_zero, List.set_cons_succ]
  refine take_v 10 71 (.pointer (some ⟨rb, 2, none⟩)) _ rfl rfl (by kernel_rfl) (by kernel_rfl) (by kernel_rfl) (fun _ _ _ h => h) (Or.inl ⟨by rfl, fun w' hSw => ?_⟩) hHeld ?_
  · obtain ⟨q1, q2, q3⟩ := hSw
    go_simp
  simp only [List.setIfInBounds_toArray, List.set_cons_zero, List.set_cons_succ]
  refine take_v 11 72 (.int .i64 (p : Nat)) _ rfl rfl (by kernel_rfl) (by kernel_rfl) (by kernel_rfl) (fun _ _ _ h => h) (Or.inl ⟨by rfl, fun w' hSw => ?_⟩) hHeld ?_
  · obtain ⟨q1, q2, q3⟩ := hSw
    go_simp
  simp only [List.setIfInBounds_toArray, List.set_cons_zero, List.set_cons_succ]
  refine wpAnyH_ready (rs := [12]) (by kernel_rfl) (by simp) ?_
  refine AllReadyH.cons rfl (fun K hK => ?_) AllReadyH.nil
  go_simp
  refine HN.out.mono ?_
  clear HN
  rintro e w9 ⟨⟨u, rfl⟩, hm9, hf9⟩
  have HM1 := Lib.hid hm9
  have HR1 : Hid (RunB w9 rb mb pl p (-1) fc fg) := Lib.hid (FrV.blkRun (w := w.drew.drew) hf9 HC.out.run hmr)
  have HF1 : Hid (FrV w0.heap.size mb rb w w9) := Lib.hid ((FrV.refl w).drew.drew.trans (hf9.drop (.inr rfl)))
  have hbw : Below w0.heap.size w w9 := HF1.out.old HC.out.below.size
  have d9 := (hbw.cell (p := ⟨g, pl * 6 + 1, none⟩) hg0).trans d1
  refine hK.out _ _ ⟨HR1.out.c6.1, d9, HR1.out.c6.2.2.1⟩ (fun hHeld => ?_)
  clear hK K
  refine wpAnyH_done (by kernel_rfl) ?_ _
  clear hm9 hf9 k0 k1 k2 m0 d0 d1 d2 d3 d4 d5 d9 hHeld hbw
  obtain ⟨_, k1, _⟩ := HR1.out.c6
  have f1 := HR1.out.fz 1
  go_wp2
  go_ret
  obtain ⟨V2', hm⟩ := HM1.out
  exact ⟨rfl, ⟨V2', _, hm.far HR1.out (by decide) (by decide) (by decide) (by decide) _⟩, HR1.out.place (pl + 1), HF1.out.set_ (q := ⟨rb, 1, none⟩) (.inr ⟨HC.out.low, .inr (.inl rfl)⟩) _⟩
set_option maxRecDepth 100000 in
set_option maxHeartbeats 4000000 in
theorem step_10 {k : Nat} {x : In} (hx : X[pl]? = some x) (ho : x.op = 10) (hC : StepC w0 w mb cv uv V1 V2 V3 F S X U s k rb pl p fc fg) (hD : DoC w0 mb cv uv V1 F S X U k) :
    Calls Tryz.prog 63 #[.pointer (some ⟨rb, 0, none⟩)] w (StepP w0 w mb cv uv V1 F S rb fc fg (stepM X U S (fun pl p s => runM X U F S k (-1) pl p s) (-1) pl p s)) := by
  obtain ⟨g, c, As, cs, rfl, hc, hg0, hO, d0, d1, d2, d3, d4, d5⟩ := hC.inst hx
  have HC := Lib.hid hC
  have HD := Lib.hid hD
  have hmr := hC.ne
  have hplX : pl < X.length := (List.getElem?_eq_some_iff.1 hx).1
  have hpli : (pl : Int) < (X.length : Int) := by omega
  have hX3 : X.length ≤ 2003 := hC.prog.1
  have HI := Lib.hid (hC.prog.2 pl x hx)
  obtain ⟨k0, k1, k2, _⟩ := hC.run.c6
  have m0 := hC.mch.c9.1
  have HX := Lib.hid hx
  clear hC hD hx
  obtain ⟨xo, xa, xb, xc, xd, xs⟩ := x
  simp only at ho d0 d1 d2 d3 d4 d5 hO
  subst ho
  have hj := HI.out.mark (.inl rfl)
  simp only at hj
  obtain ⟨a, rfl⟩ : ∃ a : Nat, xa = (a : Int) := ⟨xa.toNat, by omega⟩
  have hsl := HC.out.fit.sl
  have hmk := marks_le X
  have hbd := HC.out.bd
  have hcg := HC.out.chg
  have hsz := HC.out.below.size
  have hlt : 20 + a < s.sl.length := by omega
  have e : stepM X U S (fun pl p s => runM X U F S k (-1) pl p s) (-1) pl p s = (3, pl + 1, p, s.put (20 + a) p) := by unfold stepM; rw [HX.out]; rfl
  rw [e]
  clear e
  unfold StepP
  have HN := Lib.hid (set_any (w := w.drew.drew) (i := 20 + a) (v := (p : Nat)) HC.out.mch.drew.drew hlt (by omega) (by omega) (show w0.heap.size ≤ w.drew.drew.heap.size from hsz))
  clear hsl hbd hcg hsz hlt
  have HM0 := Lib.hid HC.out.mch.drew.drew
  go_enter Tryz.func63, Tryz.ntmps63
  go_wp2
  go_region
  go_wp2_with fail
  have ec : ((20 + a : Nat) : Int) = 20 + (a : Int) := by omega
  rw [ec] at HN
  clear ec
  have hw2 : IntKind.i64.wrap (20 + (a : Int)) = 20 + (a : Int) := IntWalk.i64_in _ (by omega)
  refine wp_region_held_drew (S := fun w' => w'.cell? ⟨rb, 0, none⟩ = some (.pointer (some ⟨mb, 0, none⟩)) ∧ w'.cell? ⟨g, pl * 6 + 1, none⟩ = some (.int .i64 (a : Nat)) ∧ w'.cell? ⟨rb, 2, none⟩ = some (.int .i64 (p : Nat))) (by kernel_rfl) ⟨k0, d1, k2⟩ (fun hHeld => ?_)
  refine take_v 0 76 (.pointer (some ⟨rb, 0, none⟩)) _ rfl rfl (by kernel_rfl) (by kernel_rfl) (by kernel_rfl) (fun _ _ _ h => h) (Or.inl ⟨by rfl, fun w' hSw => ?_⟩) hHeld ?_
  · obtain ⟨q1, q2, q3⟩ := hSw
    go_simp
  simp only [List.setIfInBounds_toArray, List.set_cons_zero, List.set_cons_succ]
  refine take_v 1 77 (.pointer (some ⟨rb, 0, none⟩)) _ rfl rfl (by kernel_rfl) (by kernel_rfl) (by kernel_rfl) (fun _ _ _ h => h) (Or.inl ⟨by rfl, fun w' hSw => ?_⟩) hHeld ?_
  · obtain ⟨q1, q2, q3⟩ := hSw
    go_simp
  simp only [List.setIfInBounds_toArray, List.set_cons_zero, List.set_cons_succ]
  refine take_v 2 78 (.pointer (some ⟨rb, 0, none⟩)) _ rfl rfl (by kernel_rfl) (by kernel_rfl) (by kernel_rfl) (fun _ _ _ h => h) (Or.inl ⟨by rfl, fun w' hSw => ?_⟩) hHeld ?_
  · obtain ⟨q1, q2, q3⟩ := hSw
    go_simp
  simp only [List.setIfInBounds_toArray, List.set_cons_zero, List.set_cons_succ]
  refine take_v 3 79 (.pointer (some ⟨mb, 0, none⟩)) _ rfl rfl (by kernel_rfl) (by kernel_rfl) (by kernel_rfl) (fun _ _ _ h => h) (Or.inl ⟨by rfl, fun w' hSw => ?_⟩) hHeld ?_
  · obtain ⟨q1, q2, q3⟩ := hSw
    go_simp
  simp only [List.setIfInBounds_toArray, List.set_cons_zero, List.set_cons_succ]
  refine take_v 4 80 (.pointer (some ⟨g, pl * 6, none⟩)) _ rfl rfl (by kernel_rfl) (by kernel_rfl) (by kernel_rfl) (fun _ _ _ h => h) (Or.inl ⟨by rfl, fun w' hSw => ?_⟩) hHeld ?_
  · obtain ⟨q1, q2, q3⟩ := hSw
    go_simp
  simp only [List.setIfInBounds_toArray, List.set_cons_zero, List.set_cons_succ]
  refine take_v 5 81 (.pointer (some ⟨g, pl * 6, none⟩)) _ rfl rfl (by kernel_rfl) (by kernel_rfl) (by kernel_rfl) (fun _ _ _ h => h) (Or.inl ⟨by rfl, fun w' hSw => ?_⟩) hHeld ?_
  · obtain ⟨q1, q2, q3⟩ := hSw
    go_simp
  simp only [List.setIfInBounds_toArray, List.set_cons_zero, List.set_cons_succ]
  refine take_v 6 82 (.pointer (some ⟨g, pl * 6 + 1, none⟩)) _ rfl rfl (by kernel_rfl) (by kernel_rfl) (by kernel_rfl) (fun _ _ _ h => h) (Or.inl ⟨by rfl, fun w' hSw => ?_⟩) hHeld ?_
  · obtain ⟨q1, q2, q3⟩ := hSw
    go_simp
  simp only [List.setIfInBounds_toArray, List.set_cons_zero, List.set_cons_succ]
  refine take_v 7 83 (.int .i64 (a : Nat)) _ rfl rfl (by kernel_rfl) (by kernel_rfl) (by kernel_rfl) (fun _ _ _ h => h) (Or.inl ⟨by rfl, fun w' hSw => ?_⟩) hHeld ?_
  · obtain ⟨q1, q2, q3⟩ := hSw
    go_simp
  simp only [List.setIfInBounds_toArray, List.set_cons_zero, List.set_cons_succ]
  refine take_v 8 84 (.int .i64 (20 + (a : Int))) _ rfl rfl (by kernel_rfl) (by kernel_rfl) (by kernel_rfl) (fun _ _ _ h => h) (Or.inl ⟨by rfl, fun w' hSw => ?_⟩) hHeld ?_
  · obtain ⟨q1, q2, q3⟩ := hSw
    go_simp
  simp only [List.setIfInBounds_toArray, List.set_cons_zero, List.set_cons_succ]
  refine take_v 9 85 (.pointer (some ⟨rb, 0, none⟩)) _ rfl rfl (by kernel_rfl) (by kernel_rfl) (by kernel_rfl) (fun _ _ _ h => h) (Or.inl ⟨by rfl, fun w' hSw => ?_⟩) hHeld ?_
  · obtain ⟨q1, q2, q3⟩ := hSw
    go_simp
  simp only [List.setIfInBounds_toArray, List.set_cons_zero, List.set_cons_succ]
  refine take_v 10 86 (.pointer (some ⟨rb, 0, none⟩)) _ rfl rfl (by kernel_rfl) (by kernel_rfl) (by kernel_rfl) (fun _ _ _ h => h) (Or.inl ⟨by rfl, fun w' hSw => ?_⟩) hHeld ?_
  · obtain ⟨q1, q2, q3⟩ := hSw
    go_simp
  simp only [List.setIfInBounds_toArray, List.set_cons_zero, List.set_cons_succ]
  refine take_v 11 87 (.pointer (some ⟨rb, 2, none⟩)) _ rfl rfl (by kernel_rfl) (by kernel_rfl) (by kernel_rfl) (fun _ _ _ h => h) (Or.inl ⟨by rfl, fun w' hSw => ?_⟩) hHeld ?_
  · obtain ⟨q1, q2, q3⟩ := hSw
    go_simp
  simp only [List.setIfInBounds_toArray, List.set_cons_zero, List.set_cons_succ]
  refine take_v 12 88 (.int .i64 (p : Nat)) _ rfl rfl (by kernel_rfl) (by kernel_rfl) (by kernel_rfl) (fun _ _ _ h => h) (Or.inl ⟨by rfl, fun w' hSw => ?_⟩) hHeld ?_
  · obtain ⟨q1, q2, q3⟩ := hSw
    go_simp
  simp only [List.setIfInBounds_toArray, List.set_cons_zero, List.set_cons_succ]
  refine wpAnyH_ready (rs := [13]) (by kernel_rfl) (by simp) ?_
  refine AllReadyH.cons rfl (fun K hK => ?_) AllReadyH.nil
  go_simp
  refine HN.out.mono ?_
  clear HN
  rintro e w9 ⟨⟨u, rfl⟩, hm9, hf9⟩
  have HM1 := Lib.hid hm9
  have HR1 : Hid (RunB w9 rb mb pl p (-1) fc fg) := Lib.hid (FrV.blkRun (w := w.drew.drew) hf9 HC.out.run hmr)
  have HF1 : Hid (FrV w0.heap.size mb rb w w9) := Lib.hid ((FrV.refl w).drew.drew.trans (hf9.drop (.inr rfl)))
  have hbw : Below w0.heap.size w w9 := HF1.out.old HC.out.below.size
  have d9 := (hbw.cell (p := ⟨g, pl * 6 + 1, none⟩) hg0).trans d1
  refine hK.out _ _ ⟨HR1.out.c6.1, d9, HR1.out.c6.2.2.1⟩ (fun hHeld => ?_)
  clear hK K
  refine wpAnyH_done (by kernel_rfl) ?_ _
  clear hm9 hf9 k0 k1 k2 m0 d0 d1 d2 d3 d4 d5 d9 hHeld hbw
  obtain ⟨_, k1, _⟩ := HR1.out.c6
  have f1 := HR1.out.fz 1
  go_wp2
  go_ret
  obtain ⟨V2', hm⟩ := HM1.out
  exact ⟨rfl, ⟨V2', _, hm.far HR1.out (by decide) (by decide) (by decide) (by decide) _⟩, HR1.out.place (pl + 1), HF1.out.set_ (q := ⟨rb, 1, none⟩) (.inr ⟨HC.out.low, .inr (.inl rfl)⟩) _⟩
end Go.Proofs.YtdbddbelhgkelaaGreatDoor

/- The machine: a run. -/
namespace Go.Proofs.YtdbddbelhgkelaaGreatDoor
open Go.RowKit
open Go.Proofs.YtdbddbelhgkelaaGreatDoor.Cl (Rg SetV SetAt rgCells info_three hasB)
variable {w w' w0 : World} {mb F S : Nat} {cv uv V1 V2 V3 : Value} {s : Ms} {rb pl p fc fg : Nat} {X : List In} {U : List Int}

theorem step_any {k : Nat} (hpl : pl < X.length) (hC : StepC w0 w mb cv uv V1 V2 V3 F S X U s k rb pl p fc fg) (hD : DoC w0 mb cv uv V1 F S X U k) :
    Calls Tryz.prog 63 #[.pointer (some ⟨rb, 0, none⟩)] w (StepP w0 w mb cv uv V1 F S rb fc fg (stepM X U S (fun pl p s => runM X U F S k (-1) pl p s) (-1) pl p s)) := by
  have hx : X[pl]? = some X[pl] := List.getElem?_eq_getElem hpl
  rcases (hC.prog.2 pl _ hx).op with h | h | h | h | h | h | h | h | h | h
  · exact step_0 hx h hC hD
  · exact step_1 hx h hC hD
  · exact step_2 hx h hC hD
  · exact step_3 hx h hC hD
  · exact step_4 hx h hC hD
  · exact step_6 hx h hC hD
  · exact step_8 hx h hC hD
  · exact step_9 hx h hC hD
  · exact step_10 hx h hC hD
  · exact step_11 hx h hC hD
theorem Fit.toB (h : Fit X U S s) (hX : X.length ≤ 2003) (hs : s.steps ≤ 1048576) (hS : S ≤ 4096) : FitB s := by
  have := marks_le X
  have h1 := h.sl
  have h2 := h.chg
  have h3 := h.cho
  have h4 := h.deep
  exact ⟨by omega, by omega, h.slot, by omega, fun c hc => (h.kept c hc).2.2, by omega⟩
theorem mch_cut {n₀ m c : Nat} {A : Option Addr} (h : Mch n₀ w mb cv uv F S s V1 V2 (.slice A s.cho.length c)) (hm : m ≤ s.cho.length) : Mch n₀ (w.setCell ⟨mb, 8, none⟩ (.slice A m c)) mb cv uv F S { s with cho := s.cho.take m } V1 V2 (.slice A m c) := by
  refine h.own_ 8 _ rfl h.sl h.cg ?_
  have hl : (s.cho.take m).length = m := by rw [List.length_take]; omega
  show w.ownsRow n₀ 131 3 (.slice A m c) (s.cho.take m).length (choC (s.cho.take m))
  rw [hl]
  have e : choC (s.cho.take m) = (choC s.cho).take (m * 3) := by
    have h2 : choC s.cho = choC (s.cho.take m) ++ choC (s.cho.drop m) := by rw [← choC_append, List.take_append_drop]
    rw [h2, List.take_append_of_le_length (by rw [choC_len, hl]; omega)]
    exact (List.take_of_length_le (by rw [choC_len, hl]; omega)).symm
  rw [e]
  rcases own_at h.co with ⟨hv, h0⟩ | ⟨g, c', hv, _⟩
  · obtain ⟨rfl, _, rfl⟩ := Value.slice.inj hv
    obtain rfl : m = 0 := by omega
    rw [Nat.zero_mul, List.take_zero]
    exact World.ownsRow_nil _ _ _ _
  · obtain ⟨rfl, _, rfl⟩ := Value.slice.inj hv
    exact own_take h.co hm
def stepsAt (mb : Nat) (W : World) : Nat := match W.cell? ⟨mb, 4, none⟩ with | some (.int _ n) => n.toNat | _ => 0
theorem Mch.stepsAt {n₀ : Nat} (h : Mch n₀ w mb cv uv F S s V1 V2 V3) : stepsAt mb w = s.steps := by
  unfold Go.Proofs.YtdbddbelhgkelaaGreatDoor.stepsAt
  rw [h.c9.2.2.2.2.1]
  simp
/-- Where a run is. -/
structure Rnd (w0 w : World) (mb : Nat) (cv uv V1 : Value) (F S : Nat) (X : List In) (U : List Int) (rb fc fg k : Nat) (r : Nat × Nat × Ms) (j pl p : Nat) (s : Ms) (wr : World) : Prop where
  le : j ≤ k
  go : goM X U F S j (-1) fc fg pl p s = r
  mch : ∃ V2 V3, Mch w0.heap.size wr mb cv uv F S s V1 V2 V3
  run : RunB wr rb mb pl p (-1) fc fg
  fit : Fit X U S s
  und : Und s fc fg
  plc : pl < X.length
  pos : p ≤ U.length
  fuel : F ≤ s.steps + j
  fr : FrV w0.heap.size mb rb w wr
  sF : s.steps ≤ F

set_option maxRecDepth 100000 in
set_option maxHeartbeats 6000000 in
theorem do_step (hE : EnvV w0 cv uv X U) (hX : PrOk X) (hF1 : F ≤ 1048576) (hS1 : S ≤ 4096) (k : Nat) (IH : ∀ j, j < k → DoC w0 mb cv uv V1 F S X U j) : DoC w0 mb cv uv V1 F S X U k := by
  intro w s V2 V3 pl p hb h hF hpl hp hk hsF
  have HE := Lib.hid hE
  have HX := Lib.hid hX
  have HI := Lib.hid IH
  have HM := Lib.hid h
  have HF := Lib.hid hF
  have HB := Lib.hid hb
  have HSF : Hid (s.steps ≤ F) := Lib.hid hsF
  have hsz := hb.size
  obtain ⟨A3, c3, rfl, hc3⟩ := own_form2 h.co
  obtain ⟨A2, c2, rfl, hc2⟩ := own_form2 h.cg
  obtain ⟨_, _, m2, _, m4, _, _, m7, m8⟩ := h.c9
  have hmb := h.blk.lt
  clear h hF hE hX IH hb
  unfold DoPost
  obtain ⟨r, hr⟩ : ∃ r, runM X U F S k (-1) pl p s = r := ⟨_, rfl⟩
  rw [hr]
  have HRr := Lib.hid hr
  clear hr
  go_enter Tryz.func43, Tryz.ntmps43
  go_wp2
  go_step3
  go_wp2
  go_region
  have HB0 : Hid (RunB (w.alloc (.cells #[.pointer (some ⟨mb, 0, none⟩), .int .i64 (pl : Nat), .int .i64 (p : Nat), .int .i64 (-1), .int .i64 (s.cho.length : Nat), .int .i64 (s.chg.length : Nat)] 110)).drew w.heap.size mb pl p (-1) s.cho.length s.chg.length) := Lib.hid (Blk.new w 110 #[.pointer (some ⟨mb, 0, none⟩), .int .i64 (pl : Nat), .int .i64 (p : Nat), .int .i64 (-1), .int .i64 (s.cho.length : Nat), .int .i64 (s.chg.length : Nat)])
  have HM0 := Lib.hid (HM.out.alloc (.cells #[.pointer (some ⟨mb, 0, none⟩), .int .i64 (pl : Nat), .int .i64 (p : Nat), .int .i64 (-1), .int .i64 (s.cho.length : Nat), .int .i64 (s.chg.length : Nat)] 110)).drew
  have HF0 : Hid (FrV w0.heap.size mb w.heap.size w (w.alloc (.cells #[.pointer (some ⟨mb, 0, none⟩), .int .i64 (pl : Nat), .int .i64 (p : Nat), .int .i64 (-1), .int .i64 (s.cho.length : Nat), .int .i64 (s.chg.length : Nat)] 110)).drew) := Lib.hid ((FrV.refl w).alloc _).drew
  clear m2 m4 m7 m8
  generalize (w.alloc _).drew = w1 at *
  go_wp2
  go_step3
  go_wp2
  have hstart : ∃ (j pl' p' : Nat) (s' : Ms), Rnd w0 w mb cv uv V1 F S X U w.heap.size s.cho.length s.chg.length k r j pl' p' s' w1 := ⟨k, pl, p, s, ⟨Nat.le_refl _, HRr.out, ⟨_, _, HM0.out⟩, HB0.out, HF.out, ⟨Nat.le_refl _, Nat.le_refl _, fun i c hi hg => (by
      have := (List.getElem?_eq_some_iff.1 hg).1
      omega), fun i c _ hg => (HF.out.kept c (List.mem_of_getElem? hg)).2.2⟩, hpl, hp, hk, HF0.out, HSF.out⟩⟩
  have HNe : Hid (mb ≠ w.heap.size) := Lib.hid (by omega)
  clear HM0 HB0 HF0 HRr HM
  go_loopw [8] (fun kd wr => kd = .int .i64 2 ∧ ∃ (j pl' p' : Nat) (s' : Ms), Rnd w0 w mb cv uv V1 F S X U w.heap.size s.cho.length s.chg.length k r j pl' p' s' wr) (fun _ wr => F - stepsAt mb wr)
  case atStart => exact ⟨rfl, hstart⟩
  case round =>
    clear hstart
    obtain ⟨rfl, j, pl', p', s', hR⟩ := hrel
    have HR := Lib.hid hR
    obtain ⟨V2', V3', hM⟩ := hR.mch
    have HM := Lib.hid hM
    have hrun := hR.run
    have hj := hR.fuel
    have hstB := hR.fit.chg
    clear hR
    have HRun := Lib.hid hrun
    obtain ⟨_, _, m2, _, m4, _, _, _, _⟩ := hM.c9
    obtain ⟨_, _, k2, _⟩ := hrun.c6
    have f4 := hM.fz 4
    have hmeas := hM.stepsAt
    clear hM hrun
    by_cases hlt : s'.steps < F
    · obtain ⟨j, rfl⟩ : ∃ i, j = i + 1 := ⟨j - 1, by omega⟩
      have hlti : (s'.steps : Int) < (F : Int) := by omega
      have hF2 : (F : Int) ≤ 1048576 := by omega
      have HM1 := Lib.hid (HM.out.stepped (d := s'.steps + 1)).drew
      have HR1 : Hid (RunB (wr.setCell ⟨mb, 4, none⟩ (.int .i64 (s'.steps + 1 : Nat))).drew w.heap.size mb pl' p' (-1) s.cho.length s.chg.length) := Lib.hid (Blk.far HRun.out (Ne.symm HNe.out) _)
      have HF1 := Lib.hid (HR.out.fr.set_ (q := ⟨mb, 4, none⟩) (.inr ⟨HM.out.low, .inl rfl⟩) (.int .i64 (s'.steps + 1 : Nat))).drew
      have hs1 : (s'.steps : Int) ≤ 1048575 := by omega
      have EC : Hid (((s'.steps : Nat) : Int) + 1 = ((s'.steps + 1 : Nat) : Int)) := Lib.hid (by omega)
      go_wp2
      go_region
      go_upto_region 5 with (fail)
      rw [EC.out]
      clear m2 m4 k2 f4
      generalize (wr.setCell ⟨mb, 4, none⟩ (.int .i64 (s'.steps + 1 : Nat))).drew = W2 at *
      have hF' : Fit X U S { s' with steps := s'.steps + 1 } := ⟨HR.out.fit.sl, by have := HR.out.fit.chg; simp only; omega, HR.out.fit.slot, HR.out.fit.cho, HR.out.fit.kept, HR.out.fit.rise, HR.out.fit.deep⟩
      have hb2 : Below w0.heap.size w0 W2 := HB.out.trans (HF1.out.old hsz)
      have hC : StepC w0 W2 mb cv uv V1 V2' V3' F S X U { s' with steps := s'.steps + 1 } j w.heap.size pl' p' s.cho.length s.chg.length := ⟨HE.out, hb2, HM1.out, HR1.out, hF', HX.out, HR.out.pos, by have := HR.out.fuel; simp only; omega, by have := HR.out.fit.chg; simp only; omega, ⟨by simp only; omega, hS1⟩, hsz, by simp only; omega⟩
      have HSt := Lib.hid (step_any HR.out.plc hC (HI.out j (by have := HR.out.le; omega)))
      have hrec : ∀ pl p s, Fit X U S s → pl < X.length → p ≤ U.length → Rec X U S s (runM X U F S j (-1) pl p s) := fun pl p s hs h1 h2 => by
        have g := go_fit HX.out F j (-1) s.cho.length s.chg.length pl p s hs ⟨Nat.le_refl _, Nat.le_refl _, fun i c hi hg => by
          have := (List.getElem?_eq_some_iff.1 hg).1
          omega, fun i c _ hg => (hs.kept c (List.mem_of_getElem? hg)).2.2⟩ h1 h2
        refine ⟨g.fit, g.pos, g.kind, ⟨fun e => ?_, fun e => ?_, g.up⟩⟩
        · have := g.ok e
          rw [List.take_length] at this
          exact this
        · have := g.no e
          rw [List.take_length] at this
          exact this
      have hst := step_fit (tg := -1) HX.out hrec HR.out.plc HR.out.pos hF' (by have := HR.out.fit.chg; simp only; omega)
      have hgo := HR.out.go
      rw [goM_step _ _ _ _ _ _ _ _ _ _ _ hlt] at hgo
      have hoF := step_up (X := X) (U := U) (S := S) (s := { s' with steps := s'.steps + 1 }) (fuel := F) (rec := fun pl p s => runM X U F S j (-1) pl p s) (fun pl p s hs => go_up j (-1) _ _ pl p s hs) (tg := -1) (pl := pl') (p := p') (by simp only; omega)
      generalize stepM X U S (fun pl p s => runM X U F S j (-1) pl p s) (-1) pl' p' { s' with steps := s'.steps + 1 } = o at HSt hst hgo hoF
      obtain ⟨ok, opl, op, os⟩ := o
      simp only at hoF
      have HSt2 := Lib.hid hst
      have HGo := Lib.hid hgo
      have hkd := hst.kind
      have hup := hst.steps
      have hu0 : Und { s' with steps := s'.steps + 1 } s.cho.length s.chg.length := ⟨HR.out.und.lc, HR.out.und.lg, HR.out.und.own, HR.out.und.old⟩
      have HU0 := Lib.hid hu0
      simp only at hkd hup
      have HOF : Hid (os.steps ≤ F) := Lib.hid hoF
      clear hoF hC hrec hst hgo hu0 hF' hb2
      unfold StepP at HSt
      simp only at HSt
      go_wp2_with fail
      refine HSt.out.mono ?_
      rintro e w3 ⟨rfl, hm3, hr3, hf3⟩
      have HM3 := Lib.hid hm3
      have HR3 := Lib.hid hr3
      have HF3 := Lib.hid (HF1.out.trans hf3)
      clear hm3 hr3 hf3 HSt HM1 HR1 HF1 HM HRun
      by_cases h3 : ok = 3
      · subst h3
        go_wp2
        go_roundw
        case rel =>
          obtain ⟨u1, u2⟩ := HU0.out.step (HSt2.out.pre (by show 3 ≠ 2; decide)) (HSt2.out.chg (by show 3 ≠ 2; decide))
          exact ⟨rfl, j, opl, op, os, by have := HR.out.le; omega, HGo.out, HM3.out, HR3.out, HSt2.out.fit, u1, HSt2.out.pl rfl, HSt2.out.pos, by have := HR.out.fuel; omega, HF3.out, HOF.out⟩
        case measure =>
          obtain ⟨V2'', V3'', hm⟩ := HM3.out
          have := hm.stepsAt
          omega
      · have h3' : ((ok : Int) == 3) = false := beq_false_of_ne (by omega)
        have hosF : os.steps ≤ F := HOF.out
        have hft : Fit X U S os := HSt2.out.fit
        have hfitB : FitB os := hft.toB HX.out.1 (by omega) hS1
        clear hft
        have HFB := Lib.hid hfitB
        have hgo := HGo.out
        simp only [h3, if_false] at hgo
        clear hfitB
        by_cases h0 : ok = 0
        · subst h0
          obtain ⟨u1, u2⟩ := HU0.out.step (HSt2.out.pre (by show 0 ≠ 2; decide)) (HSt2.out.chg (by show 0 ≠ 2; decide))
          have HU1 := Lib.hid u1
          have HU2 := Lib.hid u2
          clear u1 u2
          simp only [if_true] at hgo
          have hfc4 : s.cho.length ≤ 4096 := by have := HF.out.cho; omega
          obtain ⟨V2'', V3'', hm3⟩ := HM3.out
          have HM3' := Lib.hid hm3
          clear hm3
          cases hbk : backM s.cho.length os with
          | none =>
            rw [hbk] at hgo
            simp only at hgo
            have HNo := Lib.hid (back_no HM3'.out HR3.out (back_none_le hbk) hfc4)
            have HGr := Lib.hid hgo
            have HUn := Lib.hid (undo_any (n := s.chg.length) HM3'.out HU1.out.lg HFB.out.chg HFB.out.slot HFB.out.slots)
            clear hgo hbk HGo
            obtain ⟨_, _, _, _, _, k5⟩ := HR3.out.c6
            go_wp2_with fail
            refine HNo.out.mono ?_
            rintro e w4 ⟨rfl, rfl⟩
            go_wp2_with fail
            refine HUn.out.mono ?_
            rintro e w5 ⟨⟨u, rfl⟩, hm5, hf5⟩
            have HM5 := Lib.hid hm5
            have HR5 : Hid (RunB w5 w.heap.size mb opl op (-1) s.cho.length s.chg.length) := Lib.hid (FrV.blkRun hf5 HR3.out HNe.out)
            have HF5 := Lib.hid (HF3.out.trans (hf5.drop (.inr rfl)))
            clear hm5 hf5 k5 HNo HUn
            obtain ⟨_, _, k2, _⟩ := HR5.out.c6
            go_wp2
            go_region
            go_wp2
            rw [Exit.noGoto_ret]
            go_ret2
            rw [← HGr.out]
            obtain ⟨V2x, hm⟩ := HM5.out
            exact ⟨rfl, ⟨V2x, _, hm.drew⟩, (HF5.out.drew).drop (.inl (Nat.le_refl _))⟩
          | some q =>
            obtain ⟨pl2, p2, s2⟩ := q
            rw [hbk] at hgo
            simp only at hgo
            obtain ⟨l, ch, e1, e2, rfl, rfl, rfl⟩ := back_some hbk
            have HNo := Lib.hid (back_yes HM3'.out HR3.out e1 e2 HFB.out hsz)
            have hft : Fit X U S os := HSt2.out.fit
            obtain ⟨f1, f2, f3, f4⟩ := hft.back e1
            have hown := HU1.out.own l.length ch e2 (by rw [e1]; simp)
            have hget : ∀ (i : Nat) (a : Nat × Nat × Nat), l[i]? = some a → os.cho[i]? = some a := fun i a hg => by
              rw [e1, List.getElem?_append_left (List.getElem?_eq_some_iff.1 hg).1]
              exact hg
            have hu2 : Und (({ os with cho := l } : Ms).undo ch.2.2) s.cho.length s.chg.length := by
              refine ⟨e2, ?_, fun i a hi hg => HU1.out.own i a hi (hget i a hg), fun i a hi hg => HU1.out.old i a hi (hget i a hg)⟩
              simp only [Ms.undo, List.length_take]
              omega
            have HQ := Lib.hid (And.intro f1 (And.intro f2 (And.intro f3 (And.intro hu2 hgo))))
            clear hft f1 f2 f3 f4 hown hget hu2 hgo hbk e1 e2 HGo
            obtain ⟨c1, c2, c4⟩ := ch
            simp only at HNo HQ
            go_wp2_with fail
            refine HNo.out.mono ?_
            rintro e w4 ⟨rfl, hm4, hr4, hf4⟩
            have HM4 := Lib.hid hm4
            have HR4 := Lib.hid hr4
            have HF4 := Lib.hid (HF3.out.trans hf4)
            clear hm4 hr4 hf4 HNo
            go_wp2
            go_roundw
            case rel => exact ⟨rfl, j, c1, c2, _, by have := HR.out.le; omega, HQ.out.2.2.2.2, HM4.out, HR4.out, HQ.out.1, HQ.out.2.2.2.1, HQ.out.2.1, HQ.out.2.2.1, by have := HR.out.fuel; show F ≤ os.steps + j; omega, HF4.out, HOF.out⟩
            case measure =>
              obtain ⟨V2x, V3x, hm⟩ := HM4.out
              have := hm.stepsAt
              simp only [Ms.undo] at this
              omega
        · simp only [h0, if_false] at hgo
          have h0' : ((ok : Int) == 0) = false := beq_false_of_ne (by omega)
          obtain ⟨V2'', V3'', hm3⟩ := HM3.out
          obtain ⟨A3', c3', rfl, hc3'⟩ := own_form2 hm3.co
          have HM3' := Lib.hid hm3
          have m8 := hm3.c9.2.2.2.2.2.2.2.2
          have f8 := hm3.fz 8
          clear hm3
          obtain ⟨_, _, k2, _, k4, _⟩ := HR3.out.c6
          by_cases h1 : ok = 1
          · subst h1
            simp only [endM, if_true] at hgo
            have hu1 := (HU0.out.step (HSt2.out.pre (by show 1 ≠ 2; decide)) (HSt2.out.chg (by show 1 ≠ 2; decide))).1
            have hle : s.cho.length ≤ os.cho.length := hu1.lc
            have hlei : (s.cho.length : Int) ≤ (os.cho.length : Int) := by omega
            have HGr := Lib.hid hgo
            have HLe := Lib.hid hle
            clear hgo hu1 hle
            go_wp2
            go_region
            have HM5 := Lib.hid (mch_cut HM3'.out HLe.out).drew
            have HR5 : Hid (RunB (w3.setCell ⟨mb, 8, none⟩ (.slice A3' s.cho.length c3')).drew w.heap.size mb opl op (-1) s.cho.length s.chg.length) := Lib.hid (Blk.far HR3.out (Ne.symm HNe.out) _)
            have HF5 := Lib.hid (HF3.out.set_ (q := ⟨mb, 8, none⟩) (.inr ⟨HM3'.out.low, .inl rfl⟩) (.slice A3' s.cho.length c3')).drew
            clear k2 k4 m8 f8
            generalize (w3.setCell ⟨mb, 8, none⟩ (.slice A3' s.cho.length c3')).drew = w5 at *
            obtain ⟨_, _, k2, _⟩ := HR5.out.c6
            go_wp2
            go_region
            go_wp2
            rw [Exit.noGoto_ret]
            go_ret2
            rw [← HGr.out]
            exact ⟨rfl, ⟨_, _, HM5.out.drew⟩, (HF5.out.drew).drop (.inl (Nat.le_refl _))⟩
          · obtain rfl : ok = 2 := by omega
            have HGr := Lib.hid hgo
            clear hgo m8 f8 k4
            go_wp2
            go_region
            go_wp2
            rw [Exit.noGoto_ret]
            go_ret2
            rw [← HGr.out]
            exact ⟨rfl, ⟨_, _, HM3'.out.drew⟩, (HF3.out.drew).drop (.inl (Nat.le_refl _))⟩
    · have hgo := HR.out.go
      have hr2 : r = (2, p', s') := by
        rw [← hgo]
        cases j with
        | zero => rfl
        | succ j => rw [goM, if_pos (by omega)]
      have hnlt : ¬ (s'.steps : Int) < (F : Int) := by omega
      subst hr2
      have HM1 := Lib.hid HM.out.drew.drew
      have HF1 := Lib.hid HR.out.fr.drew.drew
      clear hgo
      go_wp2
      go_region
      go_wp2
      go_region
      go_wp2
      rw [Exit.noGoto_ret]
      go_ret2
      exact ⟨rfl, ⟨_, _, HM1.out⟩, HF1.out.drop (.inl (Nat.le_refl _))⟩

/-- A run, whatever it does. -/
theorem do_any (hE : EnvV w0 cv uv X U) (hX : PrOk X) (hF1 : F ≤ 1048576) (hS1 : S ≤ 4096) (k : Nat) : DoC w0 mb cv uv V1 F S X U k := by
  induction k using Nat.strongRecOn with
  | _ k ih => exact do_step hE hX hF1 hS1 k ih

end Go.Proofs.YtdbddbelhgkelaaGreatDoor

