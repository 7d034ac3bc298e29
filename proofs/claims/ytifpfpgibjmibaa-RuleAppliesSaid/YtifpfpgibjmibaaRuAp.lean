/- RuleApplies. -/
import Derived.Test.YtifpfpgibjmibaaRuXa
import Derived.Test.YtifpfpgibjmibaaRuMd
import Derived.Test.YtifpfpgibjmibaaRuL
import Derived.Test.YtifpfpgibjmibaaRuN
import Derived.Test.YtifpfpgibjmibaaRuJ
namespace Go.Proofs.Ytifpfpgibjmibaa
open Go.RowKit Go.Maps
variable {w w' : World}

section
variable {P : Program} {md : Region.Mode} {ops : Array Oper} {Q : Exit → Act → World → Prop} {S : World → Prop} {fuel : Nat} {listed : Array Bool} {a : Act} {w : World}
theorem apStep {E : Prop} {K : Act → World → Prop} {f : FuncId} {args : Array Value} {R : Ending → World → Prop} {o : Oper} (hw : Region.wanted o (yielded ops a.tmps) = true)
    (he : (execOp a.eval o).run P w = .ok (.enter f args) w) (hc : Calls P f args w R) (h : ∀ e w', R e w' → ∃ v, e = .returned v ∧ K (a.put o.dst v) w') : if Region.wanted o (yielded ops a.tmps) = true then Oper.wp P o a w K Q else E := by
  rw [if_pos hw]
  unfold Oper.wp
  rw [he]
  refine hc.mono ?_
  intro e w' hR
  obtain ⟨v, rfl, hh⟩ := h e w' hR
  exact hh
theorem apCall (i d : Nat) {f : FuncId} {args : Array Value} {R : Ending → World → Prop} {o : Oper} (ho : ops[i]? = some o) (hd : o.dst = some d) (hr : Region.ready md ops listed = [i]) (hw : Region.wanted o (yielded ops a.tmps) = true)
    (he : (execOp a.eval o).run P w = .ok (.enter f args) w) (hc : Calls P f args w R)
    (h : ∀ e w', R e w' → ∃ v, e = .returned v ∧ S w' ∧ wpAnyH P md ops Q S fuel (listed.setIfInBounds i true) { tmps := a.tmps.setIfInBounds d v, defers := a.defers } w') : wpAnyH P md ops Q S (fuel + 1) listed a w := by
  refine wpAnyH_ready hr (by simp) (AllReadyH.cons ho (fun K hK => ?_) AllReadyH.nil)
  refine apStep hw he hc ?_
  intro e w' hR
  obtain ⟨v, rfl, hS', hh⟩ := h e w' hR
  refine ⟨v, rfl, hK.out _ _ hS' (fun _ => ?_)⟩
  have : a.put o.dst v = { tmps := a.tmps.setIfInBounds d v, defers := a.defers } := by rw [hd]; rfl
  rw [this]
  exact hh
end
theorem taken_ok {s : RS} {d : Dl} (h : (applyM s d).2 = 0) : (applyM s d).1.Ok := by
  have ht := taken_iff.1 h
  rw [taken_eq ht]
  exact ht.right
theorem apply_len {s : RS} {d : Dl} : (applyM s d).1.rs.length ≤ 16 := by
  unfold applyM
  split
  · simp [RS.zero]
  split
  · simp [RS.zero]
  split
  · simp [RS.zero]
  split
  · simp [RS.zero]
  split
  · simp [RS.zero]
  · simp only
    omega
theorem look_first {l : List Ru} {k : Nat} {r : Ru} {id : Int} (hG : l[k]? = some r) (hN : ∀ x ∈ l.take k, x.id ≠ id) (he : r.id = id) : look l id = r ∧ id ∈ l.map Ru.id := by
  have hm : r ∈ l := List.mem_of_getElem? hG
  refine ⟨?_, he ▸ List.mem_map_of_mem hm⟩
  unfold look
  obtain ⟨hk', e⟩ := List.getElem?_eq_some_iff.1 hG
  have : l.find? (fun x => decide (x.id = id)) = some r := by
    rw [List.find?_eq_some_iff_getElem]
    refine ⟨by simpa using he, k, hk', e, fun j hj => ?_⟩
    have := hN l[j] (List.mem_take_iff_getElem.2 ⟨j, by omega, rfl⟩)
    simpa using this
  rw [this]
  rfl
theorem look_none {l : List Ru} {id : Int} (hN : ∀ x ∈ l, x.id ≠ id) : look l id = Ru.none ∧ id ∉ l.map Ru.id := by
  refine ⟨?_, fun h => ?_⟩
  · unfold look
    rw [List.find?_eq_none.2 (fun x hx => by simpa using hN x hx)]
    rfl
  · obtain ⟨x, hx, e⟩ := List.mem_map.1 h
    exact hN x hx e
theorem set5_rel {w5 W : World} {b : Nat} {t : TypeId} {z0 z1 z2 z3 z4 c0 c1 c2 c3 : Value} {XV : Value} {l : List Ru} (hN : Blk W b t #[z0, z1, z2, z3, z4]) (hb : w5.heap.size ≤ b) (hB : Below w5.heap.size w5 W) (hV : RulesV W.heap.size W XV l) (hf : ∀ k, XV.ownBlock = some k → k ≠ b) :
    Hid (Blk (((((W.setCell ⟨b, 0, none⟩ c0).setCell ⟨b, 1, none⟩ c1).setCell ⟨b, 2, none⟩ c2).setCell ⟨b, 3, none⟩ c3).setCell ⟨b, 4, none⟩ XV) b t #[c0, c1, c2, c3, XV]) ∧ Hid (Below w5.heap.size w5 (((((W.setCell ⟨b, 0, none⟩ c0).setCell ⟨b, 1, none⟩ c1).setCell ⟨b, 2, none⟩ c2).setCell ⟨b, 3, none⟩ c3).setCell ⟨b, 4, none⟩ XV)) ∧ Hid (RulesV (((((W.setCell ⟨b, 0, none⟩ c0).setCell ⟨b, 1, none⟩ c1).setCell ⟨b, 2, none⟩ c2).setCell ⟨b, 3, none⟩ c3).setCell ⟨b, 4, none⟩ XV).heap.size (((((W.setCell ⟨b, 0, none⟩ c0).setCell ⟨b, 1, none⟩ c1).setCell ⟨b, 2, none⟩ c2).setCell ⟨b, 3, none⟩ c3).setCell ⟨b, 4, none⟩ XV) XV l) := by
  have k : ∀ {W : World}, Below w5.heap.size w5 W → ∀ (i : Nat) (u : Value), Below w5.heap.size w5 (W.setCell ⟨b, i, none⟩ u) := fun h i u => h.setCell (p := ⟨b, i, none⟩) hb u
  have q : ∀ {W : World}, RulesV W.heap.size W XV l → ∀ (i : Nat) (u : Value), RulesV (W.setCell ⟨b, i, none⟩ u).heap.size (W.setCell ⟨b, i, none⟩ u) XV l := fun {W} h i u => by
    obtain ⟨A, cap, rfl, hc, h⟩ := h
    refine ⟨A, cap, rfl, hc, fun hs => ?_⟩
    obtain ⟨b', off, rfl, hb', ht⟩ := h hs
    have hne := hf b' rfl
    have e : ∀ o, (W.setCell ⟨b, i, none⟩ u).cell? ⟨b', o, none⟩ = W.cell? ⟨b', o, none⟩ := fun o => by
      have := Below.heap_setCell W ⟨b, i, none⟩ u b' hne
      unfold World.cell?
      rw [this]
    exact ⟨b', off, rfl, by simpa [World.setCell] using hb', fun j r hr => by
      obtain ⟨h0, h1, h2, h3, h4⟩ := ht j r hr
      exact ⟨(e _).trans h0, (e _).trans h1, (e _).trans h2, (e _).trans h3, (e _).trans h4⟩⟩
  refine ⟨Lib.hid ?_, Lib.hid (k (k (k (k (k hB 0 c0) 1 c1) 2 c2) 3 c3) 4 XV), Lib.hid (q (q (q (q (q hV 0 c0) 1 c1) 2 c2) 3 c3) 4 XV)⟩
  have := ((((hN.set_ 0 c0).set_ 1 c1).set_ 2 c2).set_ 3 c3).set_ 4 XV
  simpa using this

set_option maxRecDepth 100000 in
set_option maxHeartbeats 40000000 in
theorem applies_law (s : RS) (va : Value) (d : Dl) (pv dv : Value) (id : Int) (w : World) (hA : RulesV w.heap.size w va s.rs) (hP : RulesV w.heap.size w pv d.put) (hD : Row w.heap.size w dv (zI d.drop)) (hdr : ∀ z ∈ d.drop, (Lit.int .i64 z).wf = true) :
    Calls Try.prog 3 #[.agg #[.int .i64 s.de, .int .i64 s.cl, .int .i64 s.fu, .int .i64 s.st, va], .agg #[.int .i64 d.de, .int .i64 d.cl, .int .i64 d.fu, .int .i64 d.st, pv, dv], .int .i64 id] w fun e w' => e = .returned (.bool true) ∧ Below w.heap.size w w' := by
  obtain ⟨A, cap, rfl⟩ := hA.form
  obtain ⟨PA, PC, rfl⟩ := hP.form
  obtain ⟨DA, DC, rfl⟩ : ∃ A c, dv = .slice A d.drop.length c := by obtain ⟨A, c, h, _⟩ := hD; exact ⟨A, c, by simpa [zI] using h⟩
  obtain ⟨w0, hw0⟩ : ∃ w0, w0 = ((w.alloc (.cells #[.int .i64 s.de, .int .i64 s.cl, .int .i64 s.fu, .int .i64 s.st, .slice A s.rs.length cap] 24)).alloc (.cells #[.int .i64 d.de, .int .i64 d.cl, .int .i64 d.fu, .int .i64 d.st, .slice PA d.put.length PC, .slice DA d.drop.length DC] 27)) := ⟨_, rfl⟩
  have hb0 : Below w.heap.size w w0 := by rw [hw0]; exact ((Below.refl _ _).alloc (Nat.le_refl _) _).alloc (by simp) _
  have hx : Blk w0 w.heap.size 24 #[.int .i64 s.de, .int .i64 s.cl, .int .i64 s.fu, .int .i64 s.st, .slice A s.rs.length cap] := by rw [hw0]; exact (Blk.new _ _ _).alloc _
  have hy : Blk w0 (w.heap.size + 1) 27 #[.int .i64 d.de, .int .i64 d.cl, .int .i64 d.fu, .int .i64 d.st, .slice PA d.put.length PC, .slice DA d.drop.length DC] := by rw [hw0]; exact Blk.at_new _ _ (by simp) _ _
  have HA := Lib.hid hA
  have HP := Lib.hid hP
  have HD := Lib.hid hD
  have HDr := Lib.hid hdr
  clear hA hP hD hdr
  go_enter Try.func3, Try.ntmps3
  go_wp2_with fail
  rw [← hw0]
  clear hw0
  refine (anchor7_any w0).mono ?_
  rintro e w1 ⟨rfl, hb1⟩
  have HB1 := Lib.hid (hb0.trans (hb1.mono hb0.size))
  have HX1 := Lib.hid (hx.on hb1)
  have HY1 := Lib.hid (hy.on hb1)
  clear hb0 hx hy hb1
  obtain ⟨a0, a1, a2, a3, a4⟩ := HX1.out.c5
  obtain ⟨d0, d1, d2, d3, d4, d5⟩ := HY1.out.c6
  go_wp2_with fail
  refine (rusmall_any _ _ _ _ _ _ _ _ A PA DA s.rs.length d.put.length d.drop.length cap PC DC w1).mono ?_
  clear a0 a1 a2 a3 a4 d0 d1 d2 d3 d4 d5
  rintro e w2 ⟨rfl, hb2⟩
  have HB2 := Lib.hid (HB1.out.trans (hb2.mono HB1.out.size))
  have HX2 := Lib.hid (HX1.out.on hb2)
  have HY2 := Lib.hid (HY1.out.on hb2)
  clear hb2 HB1 HX1 HY1
  by_cases hsm : s.rs.length ≤ 40 ∧ d.put.length ≤ 40 ∧ d.drop.length ≤ 40
  · rw [decide_eq_true hsm]
    have HSm := Lib.hid hsm
    clear hsm
    obtain ⟨T, hT⟩ : ∃ T, T = applyM s d := ⟨_, rfl⟩
    have hap := apply_any s d (.slice A s.rs.length cap) (.slice PA d.put.length PC) (.slice DA d.drop.length DC) w2 (by have := HSm.out; omega) (by have := HSm.out; omega) (by have := HSm.out; omega) HDr.out (HA.out.on HB2.out) (HP.out.on HB2.out) ((HD.out.below HB2.out).more HB2.out.size)
    rw [← hT] at hap
    have HAp := Lib.hid hap
    have HT := Lib.hid hT
    clear hap hT
    obtain ⟨a0, a1, a2, a3, a4⟩ := HX2.out.c5
    obtain ⟨d0, d1, d2, d3, d4, d5⟩ := HY2.out.c6
    go_wp2_with fail
    refine HAp.out.mono ?_
    clear HAp a0 a1 a2 a3 a4 d0 d1 d2 d3 d4 d5
    rintro e w3 ⟨rv, rfl, hrv, _, hb3⟩
    obtain ⟨RA, RC, rfl⟩ := hrv.form
    have HB3 := Lib.hid (HB2.out.trans (hb3.mono HB2.out.size))
    have HX3 := Lib.hid (HX2.out.on hb3)
    have HY3 := Lib.hid (HY2.out.on hb3)
    have HR3 := Lib.hid hrv
    clear hb3 hrv HB2 HX2 HY2
    go_upto_region 6 with (fail)
    have hb5 : Below w3.heap.size w3 (w3.alloc (.cells #[.int .i64 T.1.de, .int .i64 T.1.cl, .int .i64 T.1.fu, .int .i64 T.1.st, .slice RA T.1.rs.length RC] 24)) := (Below.refl _ _).alloc (Nat.le_refl _) _
    have HT5 : Hid (Blk (w3.alloc (.cells #[.int .i64 T.1.de, .int .i64 T.1.cl, .int .i64 T.1.fu, .int .i64 T.1.st, .slice RA T.1.rs.length RC] 24)) w3.heap.size 24 #[.int .i64 T.1.de, .int .i64 T.1.cl, .int .i64 T.1.fu, .int .i64 T.1.st, .slice RA T.1.rs.length RC]) := Lib.hid (Blk.new _ _ _)
    generalize (w3.alloc (.cells #[.int .i64 T.1.de, .int .i64 T.1.cl, .int .i64 T.1.fu, .int .i64 T.1.st, .slice RA T.1.rs.length RC] 24)) = w5 at *
    obtain ⟨tb, htb⟩ : ∃ tb, tb = w3.heap.size := ⟨_, rfl⟩
    rw [← htb] at HT5 ⊢
    have HB5 := Lib.hid (HB3.out.trans (hb5.mono HB3.out.size))
    have HX5 := Lib.hid (HX3.out.on hb5)
    have HY5 := Lib.hid (HY3.out.on hb5)
    have HR5 := Lib.hid (HR3.out.on hb5)
    have HS5 := Lib.hid (HA.out.on HB5.out)
    have HP5 := Lib.hid (HP.out.on HB5.out)
    have HD5 := Lib.hid ((HD.out.below HB5.out).more HB5.out.size)
    have HL : Hid (T.1.rs.length ≤ 16) := Lib.hid (by rw [HT.out]; exact apply_len)
    clear hb5 htb HB3 HX3 HY3 HR3
    go_cut [9, 10] from 27 (fun s9 s10 W => s10 = .int .i64 T.2 ∧ ∃ (xb : Nat) (XA : Option Addr) (XC : Nat), s9 = .pointer (some ⟨xb, 0, none⟩) ∧ Hid (Blk W xb 35 #[.int .i64 T.1.de, .int .i64 T.1.cl, .int .i64 T.1.fu, .int .i64 T.1.st, .slice XA T.1.rs.length XC]) ∧ Hid (RulesV W.heap.size W (.slice XA T.1.rs.length XC) T.1.rs) ∧ Hid (Below w5.heap.size w5 W))
    case first =>
      rename_i J K' hJ hK'
      have HXd : Hid (Blk w5.drew w.heap.size 24 #[.int .i64 s.de, .int .i64 s.cl, .int .i64 s.fu, .int .i64 s.st, .slice A s.rs.length cap]) := HX5
      have HYd : Hid (Blk w5.drew (w.heap.size + 1) 27 #[.int .i64 d.de, .int .i64 d.cl, .int .i64 d.fu, .int .i64 d.st, .slice PA d.put.length PC, .slice DA d.drop.length DC]) := HY5
      have HBd : Hid (Below w5.heap.size w5 w5.drew) := Lib.hid (Below.refl _ _).drew
      refine wp_region_held_drew (S := fun W => Blk W w.heap.size 24 #[.int .i64 s.de, .int .i64 s.cl, .int .i64 s.fu, .int .i64 s.st, .slice A s.rs.length cap] ∧ Blk W (w.heap.size + 1) 27 #[.int .i64 d.de, .int .i64 d.cl, .int .i64 d.fu, .int .i64 d.st, .slice PA d.put.length PC, .slice DA d.drop.length DC]) (by kernel_rfl) ⟨HXd.out, HYd.out⟩ (fun hHeld => ?_)
      generalize hwd : w5.drew = wd at *
      clear hwd
      refine take_d 0 28 (.agg #[.int .i64 s.de, .int .i64 s.cl, .int .i64 s.fu, .int .i64 s.st, .slice A s.rs.length cap]) _ rfl rfl (by kernel_rfl) (by kernel_rfl) (by kernel_rfl) (fun _ _ _ h => h) (Or.inl ⟨by rfl, fun w' hSw => ?_⟩) hHeld ?_
      · obtain ⟨q0, q1, q2, q3, q4⟩ := hSw.1.c5
        clear hSw
        go_simp
      try simp only [Act.put, List.setIfInBounds_toArray, List.set_cons_zero, List.set_cons_succ]
      refine take_d 2 30 (.agg #[.int .i64 d.de, .int .i64 d.cl, .int .i64 d.fu, .int .i64 d.st, .slice PA d.put.length PC, .slice DA d.drop.length DC]) _ rfl rfl (by kernel_rfl) (by kernel_rfl) (by kernel_rfl) (fun _ _ _ h => h) (Or.inl ⟨by rfl, fun w' hSw => ?_⟩) hHeld ?_
      · obtain ⟨q0, q1, q2, q3, q4, q5⟩ := hSw.2.c6
        clear hSw
        go_simp
      try simp only [Act.put, List.setIfInBounds_toArray, List.set_cons_zero, List.set_cons_succ]
      refine wpAnyH_ready (rs := [1, 8]) (by kernel_rfl) (by simp) ?_
      refine AllReadyH.cons rfl (fun K hK => ?_) (AllReadyH.cons rfl (fun K hK => ?_) AllReadyH.nil)
      · refine apStep (f := 8) (args := #[.agg #[.int .i64 s.de, .int .i64 s.cl, .int .i64 s.fu, .int .i64 s.st, .slice A s.rs.length cap]]) rfl (by kernel_rfl) (madeSet_any s (.slice A s.rs.length cap) wd (by have := HSm.out; omega) ((HS5.out.below HBd.out).more HBd.out.size)) ?_
        rintro e wc1 ⟨V, rfl, hV, hb⟩
        obtain ⟨VA, VC, rfl⟩ := OwnU.form hV
        have HV1 := Lib.hid (OwnU.set hV)
        have HX1 := Lib.hid (HXd.out.on hb)
        have HY1 := Lib.hid (HYd.out.on hb)
        have HB1 := Lib.hid (HBd.out.trans (hb.mono HBd.out.size))
        refine ⟨_, rfl, hK.out _ _ ⟨HX1.out, HY1.out⟩ (fun _ => ?_)⟩
        clear hK K hb hV HXd HYd HBd
        try simp only [Act.put, List.setIfInBounds_toArray, List.set_cons_zero, List.set_cons_succ]
        refine wpAnyH_ready (rs := [3, 8]) (by kernel_rfl) (by simp) ?_
        refine AllReadyH.cons rfl (fun K hK => ?_) (AllReadyH.cons rfl (fun K hK => ?_) AllReadyH.nil)
        · refine apStep (f := 9) (args := #[.agg #[.int .i64 d.de, .int .i64 d.cl, .int .i64 d.fu, .int .i64 d.st, .slice PA d.put.length PC, .slice DA d.drop.length DC]]) rfl (by kernel_rfl) (madeDelta_any d (.slice PA d.put.length PC) DA d.drop.length DC wc1 (by have := HSm.out; omega) ((HP5.out.below HB1.out).more HB1.out.size)) ?_
          rintro e wc2 ⟨V, rfl, hV, hb⟩
          obtain ⟨UA, UC, rfl⟩ := OwnU.form hV
          have HU2 := Lib.hid (OwnU.set hV)
          have HX2 := Lib.hid (HX1.out.on hb)
          have HY2 := Lib.hid (HY1.out.on hb)
          have HV2 := Lib.hid (HV1.out.on hb)
          have HB2 := Lib.hid (HB1.out.trans (hb.mono HB1.out.size))
          refine ⟨_, rfl, hK.out _ _ ⟨HX2.out, HY2.out⟩ (fun _ => ?_)⟩
          clear hK K hb hV HX1 HY1 HB1
          try simp only [Act.put, List.setIfInBounds_toArray, List.set_cons_zero, List.set_cons_succ]
          refine wpAnyH_ready (rs := [4, 8]) (by kernel_rfl) (by simp) ?_
          refine AllReadyH.cons rfl (fun K hK => ?_) (AllReadyH.cons rfl (fun K hK => ?_) AllReadyH.nil)
          · have hxa := xapply_any s d (.slice VA s.rs.length VC) (.slice UA d.put.length UC) (.slice DA d.drop.length DC) wc2 (by have := HSm.out; omega) (by have := HSm.out; omega) (by have := HSm.out; omega) HDr.out HV2.out HU2.out ((HD5.out.below HB2.out).more HB2.out.size)
            rw [← HT.out] at hxa
            refine apStep (f := 7) (args := #[.agg #[.int .i64 s.de, .int .i64 s.cl, .int .i64 s.fu, .int .i64 s.st, .slice VA s.rs.length VC], .agg #[.int .i64 d.de, .int .i64 d.cl, .int .i64 d.fu, .int .i64 d.st, .slice UA d.put.length UC, .slice DA d.drop.length DC]]) rfl (by kernel_rfl) hxa ?_
            clear hxa
            rintro e wc3 ⟨V, rfl, hV, hfr, hb⟩
            obtain ⟨XA, XC, rfl⟩ := hV.form
            have HRx3 := Lib.hid hV
            have HOb3 := Lib.hid (fun q hq => (hfr q hq).2)
            have HOl3 := Lib.hid (fun q hq => (hfr q hq).1)
            clear hfr
            have HX3 := Lib.hid (HX2.out.on hb)
            have HY3 := Lib.hid (HY2.out.on hb)
            have HV3 := Lib.hid (HV2.out.on hb)
            have HU3 := Lib.hid (HU2.out.on hb)
            have HB3 := Lib.hid (HB2.out.trans (hb.mono HB2.out.size))
            refine ⟨_, rfl, hK.out _ _ ⟨HX3.out, HY3.out⟩ (fun _ => ?_)⟩
            clear hK K hb hV HX2 HY2 HB2
            try simp only [Act.put, List.setIfInBounds_toArray, List.set_cons_zero, List.set_cons_succ]
            have hHeld := And.intro HX3.out HY3.out
            refine take_d 5 27 (.tuple #[.agg #[.int .i64 T.1.de, .int .i64 T.1.cl, .int .i64 T.1.fu, .int .i64 T.1.st, .slice XA T.1.rs.length XC], .int .i64 T.2]) _ rfl rfl (by kernel_rfl) (by kernel_rfl) (by kernel_rfl) (fun _ _ _ h => h) (Or.inl ⟨by rfl, fun w' hSw => ?_⟩) hHeld ?_
            · clear hSw
              go_simp
            try simp only [Act.put, List.setIfInBounds_toArray, List.set_cons_zero, List.set_cons_succ]
            refine take_d 6 33 (.agg #[.int .i64 T.1.de, .int .i64 T.1.cl, .int .i64 T.1.fu, .int .i64 T.1.st, .slice XA T.1.rs.length XC]) _ rfl rfl (by kernel_rfl) (by kernel_rfl) (by kernel_rfl) (fun _ _ _ h => h) (Or.inl ⟨by rfl, fun w' hSw => ?_⟩) hHeld ?_
            · clear hSw
              go_simp
            try simp only [Act.put, List.setIfInBounds_toArray, List.set_cons_zero, List.set_cons_succ]
            refine take_d 7 34 (.int .i64 T.2) _ rfl rfl (by kernel_rfl) (by kernel_rfl) (by kernel_rfl) (fun _ _ _ h => h) (Or.inl ⟨by rfl, fun w' hSw => ?_⟩) hHeld ?_
            · clear hSw
              go_simp
            try simp only [Act.put, List.setIfInBounds_toArray, List.set_cons_zero, List.set_cons_succ]
            clear hHeld
            refine wpAnyH_ready (rs := [8]) (by kernel_rfl) (by simp) ?_
            refine AllReadyH.cons rfl (fun K hK => ?_) AllReadyH.nil
            go_simp
            have hba : Below wc3.heap.size wc3 (wc3.alloc (.cells #[.int .i64 0, .int .i64 0, .int .i64 0, .int .i64 0, .slice none 0 0] 35)) := (Below.refl _ _).alloc (Nat.le_refl _) _
            have HZ4 : Hid (Blk (wc3.alloc (.cells #[.int .i64 0, .int .i64 0, .int .i64 0, .int .i64 0, .slice none 0 0] 35)) wc3.heap.size 35 #[.int .i64 0, .int .i64 0, .int .i64 0, .int .i64 0, .slice none 0 0]) := Lib.hid (Blk.new _ _ _)
            have HX4 := Lib.hid (HX3.out.on hba)
            have HY4 := Lib.hid (HY3.out.on hba)
            have HV4 := Lib.hid (HV3.out.on hba)
            have HU4 := Lib.hid (HU3.out.on hba)
            have HRx4 := Lib.hid (HRx3.out.on hba)
            have HB4 := Lib.hid (HB3.out.trans (hba.mono HB3.out.size))
            have HXb4 : Hid (w5.heap.size ≤ wc3.heap.size) := Lib.hid HB3.out.size
            have HF4 : Hid (∀ q, (Value.slice XA T.1.rs.length XC).ownBlock = some q → q ≠ wc3.heap.size) := Lib.hid (fun q hq e => by
              have := HOb3.out q hq
              omega)
            clear hba HX3 HY3 HB3
            refine hK.out _ _ ⟨HX4.out, HY4.out⟩ (fun _ => ?_)
            clear hK K
            try simp only [Act.put, List.setIfInBounds_toArray, List.set_cons_zero, List.set_cons_succ]
            obtain ⟨xb4, hxb4⟩ : ∃ xb, xb = wc3.heap.size := ⟨_, rfl⟩
            rw [← hxb4] at HZ4 HXb4 HF4 ⊢
            generalize wc3.alloc (.cells #[.int .i64 0, .int .i64 0, .int .i64 0, .int .i64 0, .slice none 0 0] 35) = wa4 at *
            clear hxb4
            have z := HZ4.out.c5
            have f := HZ4.out.frozen
            have hl := HZ4.out.lt
            have HFin := set5_rel (c0 := .int .i64 T.1.de) (c1 := .int .i64 T.1.cl) (c2 := .int .i64 T.1.fu) (c3 := .int .i64 T.1.st) HZ4.out HXb4.out HB4.out HRx4.out HF4.out
            have hX9 : Blk (((((wa4.setCell ⟨xb4, 0, none⟩ (.int .i64 T.1.de)).setCell ⟨xb4, 1, none⟩ (.int .i64 T.1.cl)).setCell ⟨xb4, 2, none⟩ (.int .i64 T.1.fu)).setCell ⟨xb4, 3, none⟩ (.int .i64 T.1.st)).setCell ⟨xb4, 4, none⟩ (.slice XA T.1.rs.length XC)) w.heap.size 24 #[.int .i64 s.de, .int .i64 s.cl, .int .i64 s.fu, .int .i64 s.st, .slice A s.rs.length cap] := far5 HX4.out (by have := HXb4.out; have := HX5.out.lt; omega)
            have hY9 : Blk (((((wa4.setCell ⟨xb4, 0, none⟩ (.int .i64 T.1.de)).setCell ⟨xb4, 1, none⟩ (.int .i64 T.1.cl)).setCell ⟨xb4, 2, none⟩ (.int .i64 T.1.fu)).setCell ⟨xb4, 3, none⟩ (.int .i64 T.1.st)).setCell ⟨xb4, 4, none⟩ (.slice XA T.1.rs.length XC)) (w.heap.size + 1) 27 #[.int .i64 d.de, .int .i64 d.cl, .int .i64 d.fu, .int .i64 d.st, .slice PA d.put.length PC, .slice DA d.drop.length DC] := far5 HY4.out (by have := HXb4.out; have := HY5.out.lt; omega)
            refine wpAnyH_ready (rs := [9]) (by kernel_rfl) (by simp) ?_
            refine AllReadyH.cons rfl (fun K hK => ?_) AllReadyH.nil
            go_simp
            refine hK.out _ _ ⟨hX9, hY9⟩ (fun _ => ?_)
            clear hK K z f hl
            try simp only [Act.put, List.setIfInBounds_toArray, List.set_cons_zero, List.set_cons_succ]
            have hHeld := And.intro hX9 hY9
            refine take_d 10 10 (.int .i64 T.2) _ rfl rfl (by kernel_rfl) (by kernel_rfl) (by kernel_rfl) (fun _ _ _ h => h) (Or.inl ⟨by rfl, fun w' hSw => ?_⟩) hHeld ?_
            · clear hSw
              go_simp
            try simp only [Act.put, List.setIfInBounds_toArray, List.set_cons_zero, List.set_cons_succ]
            refine wpAnyH_done (by kernel_rfl) ?_ _
            refine hK' _ _ (Met.intro (hJ _ _ ?_))
            (repeat apply Exists.intro)
            refine ⟨?_, rfl⟩
            exact ⟨rfl, xb4, XA, XC, rfl, HFin.1, HFin.2.2, HFin.2.1⟩
          · go_simp
            have hba : Below wc2.heap.size wc2 (wc2.alloc (.cells #[.int .i64 0, .int .i64 0, .int .i64 0, .int .i64 0, .slice none 0 0] 35)) := (Below.refl _ _).alloc (Nat.le_refl _) _
            have HZ5 : Hid (Blk (wc2.alloc (.cells #[.int .i64 0, .int .i64 0, .int .i64 0, .int .i64 0, .slice none 0 0] 35)) wc2.heap.size 35 #[.int .i64 0, .int .i64 0, .int .i64 0, .int .i64 0, .slice none 0 0]) := Lib.hid (Blk.new _ _ _)
            have HX5 := Lib.hid (HX2.out.on hba)
            have HY5 := Lib.hid (HY2.out.on hba)
            have HV5 := Lib.hid (HV2.out.on hba)
            have HU5 := Lib.hid (HU2.out.on hba)
            have HB5 := Lib.hid (HB2.out.trans (hba.mono HB2.out.size))
            have HXb5 : Hid (w5.heap.size ≤ wc2.heap.size) := Lib.hid HB2.out.size
            clear hba HX2 HY2 HB2
            refine hK.out _ _ ⟨HX5.out, HY5.out⟩ (fun _ => ?_)
            clear hK K
            try simp only [Act.put, List.setIfInBounds_toArray, List.set_cons_zero, List.set_cons_succ]
            obtain ⟨xb5, hxb5⟩ : ∃ xb, xb = wc2.heap.size := ⟨_, rfl⟩
            rw [← hxb5] at HZ5 HXb5 ⊢
            generalize wc2.alloc (.cells #[.int .i64 0, .int .i64 0, .int .i64 0, .int .i64 0, .slice none 0 0] 35) = wa5 at *
            clear hxb5
            refine wpAnyH_ready (rs := [4]) (by kernel_rfl) (by simp) ?_
            refine AllReadyH.cons rfl (fun K hK => ?_) AllReadyH.nil
            have hxa := xapply_any s d (.slice VA s.rs.length VC) (.slice UA d.put.length UC) (.slice DA d.drop.length DC) wa5 (by have := HSm.out; omega) (by have := HSm.out; omega) (by have := HSm.out; omega) HDr.out HV5.out HU5.out ((HD5.out.below HB5.out).more HB5.out.size)
            rw [← HT.out] at hxa
            refine apStep (f := 7) (args := #[.agg #[.int .i64 s.de, .int .i64 s.cl, .int .i64 s.fu, .int .i64 s.st, .slice VA s.rs.length VC], .agg #[.int .i64 d.de, .int .i64 d.cl, .int .i64 d.fu, .int .i64 d.st, .slice UA d.put.length UC, .slice DA d.drop.length DC]]) rfl (by kernel_rfl) hxa ?_
            clear hxa
            rintro e wc6 ⟨V, rfl, hV, hfr, hb⟩
            obtain ⟨XA, XC, rfl⟩ := hV.form
            have HRx6 := Lib.hid hV
            have HOb6 := Lib.hid (fun q hq => (hfr q hq).2)
            have HOl6 := Lib.hid (fun q hq => (hfr q hq).1)
            clear hfr
            have HX6 := Lib.hid (HX5.out.on hb)
            have HY6 := Lib.hid (HY5.out.on hb)
            have HV6 := Lib.hid (HV5.out.on hb)
            have HU6 := Lib.hid (HU5.out.on hb)
            have HZ6 := Lib.hid (HZ5.out.on hb)
            have HB6 := Lib.hid (HB5.out.trans (hb.mono HB5.out.size))
            have HXb6 := HXb5
            have HF6 : Hid (∀ q, (Value.slice XA T.1.rs.length XC).ownBlock = some q → q ≠ xb5) := Lib.hid (fun q hq e => by have := HOl6.out q hq; have := HZ5.out.lt; omega)
            refine ⟨_, rfl, hK.out _ _ ⟨HX6.out, HY6.out⟩ (fun _ => ?_)⟩
            clear hK K hb hV HX5 HY5 HB5
            try simp only [Act.put, List.setIfInBounds_toArray, List.set_cons_zero, List.set_cons_succ]
            have hHeld := And.intro HX6.out HY6.out
            refine take_d 5 27 (.tuple #[.agg #[.int .i64 T.1.de, .int .i64 T.1.cl, .int .i64 T.1.fu, .int .i64 T.1.st, .slice XA T.1.rs.length XC], .int .i64 T.2]) _ rfl rfl (by kernel_rfl) (by kernel_rfl) (by kernel_rfl) (fun _ _ _ h => h) (Or.inl ⟨by rfl, fun w' hSw => ?_⟩) hHeld ?_
            · clear hSw
              go_simp
            try simp only [Act.put, List.setIfInBounds_toArray, List.set_cons_zero, List.set_cons_succ]
            refine take_d 6 33 (.agg #[.int .i64 T.1.de, .int .i64 T.1.cl, .int .i64 T.1.fu, .int .i64 T.1.st, .slice XA T.1.rs.length XC]) _ rfl rfl (by kernel_rfl) (by kernel_rfl) (by kernel_rfl) (fun _ _ _ h => h) (Or.inl ⟨by rfl, fun w' hSw => ?_⟩) hHeld ?_
            · clear hSw
              go_simp
            try simp only [Act.put, List.setIfInBounds_toArray, List.set_cons_zero, List.set_cons_succ]
            refine take_d 7 34 (.int .i64 T.2) _ rfl rfl (by kernel_rfl) (by kernel_rfl) (by kernel_rfl) (fun _ _ _ h => h) (Or.inl ⟨by rfl, fun w' hSw => ?_⟩) hHeld ?_
            · clear hSw
              go_simp
            try simp only [Act.put, List.setIfInBounds_toArray, List.set_cons_zero, List.set_cons_succ]
            clear hHeld
            have z := HZ6.out.c5
            have f := HZ6.out.frozen
            have hl := HZ6.out.lt
            have HFin := set5_rel (c0 := .int .i64 T.1.de) (c1 := .int .i64 T.1.cl) (c2 := .int .i64 T.1.fu) (c3 := .int .i64 T.1.st) HZ6.out HXb6.out HB6.out HRx6.out HF6.out
            have hX9 : Blk (((((wc6.setCell ⟨xb5, 0, none⟩ (.int .i64 T.1.de)).setCell ⟨xb5, 1, none⟩ (.int .i64 T.1.cl)).setCell ⟨xb5, 2, none⟩ (.int .i64 T.1.fu)).setCell ⟨xb5, 3, none⟩ (.int .i64 T.1.st)).setCell ⟨xb5, 4, none⟩ (.slice XA T.1.rs.length XC)) w.heap.size 24 #[.int .i64 s.de, .int .i64 s.cl, .int .i64 s.fu, .int .i64 s.st, .slice A s.rs.length cap] := far5 HX6.out (by have := HXb6.out; have := HX5.out.lt; omega)
            have hY9 : Blk (((((wc6.setCell ⟨xb5, 0, none⟩ (.int .i64 T.1.de)).setCell ⟨xb5, 1, none⟩ (.int .i64 T.1.cl)).setCell ⟨xb5, 2, none⟩ (.int .i64 T.1.fu)).setCell ⟨xb5, 3, none⟩ (.int .i64 T.1.st)).setCell ⟨xb5, 4, none⟩ (.slice XA T.1.rs.length XC)) (w.heap.size + 1) 27 #[.int .i64 d.de, .int .i64 d.cl, .int .i64 d.fu, .int .i64 d.st, .slice PA d.put.length PC, .slice DA d.drop.length DC] := far5 HY6.out (by have := HXb6.out; have := HY5.out.lt; omega)
            refine wpAnyH_ready (rs := [9]) (by kernel_rfl) (by simp) ?_
            refine AllReadyH.cons rfl (fun K hK => ?_) AllReadyH.nil
            go_simp
            refine hK.out _ _ ⟨hX9, hY9⟩ (fun _ => ?_)
            clear hK K z f hl
            try simp only [Act.put, List.setIfInBounds_toArray, List.set_cons_zero, List.set_cons_succ]
            have hHeld := And.intro hX9 hY9
            refine take_d 10 10 (.int .i64 T.2) _ rfl rfl (by kernel_rfl) (by kernel_rfl) (by kernel_rfl) (fun _ _ _ h => h) (Or.inl ⟨by rfl, fun w' hSw => ?_⟩) hHeld ?_
            · clear hSw
              go_simp
            try simp only [Act.put, List.setIfInBounds_toArray, List.set_cons_zero, List.set_cons_succ]
            refine wpAnyH_done (by kernel_rfl) ?_ _
            refine hK' _ _ (Met.intro (hJ _ _ ?_))
            (repeat apply Exists.intro)
            refine ⟨?_, rfl⟩
            exact ⟨rfl, xb5, XA, XC, rfl, HFin.1, HFin.2.2, HFin.2.1⟩
        · go_simp
          have hba : Below wc1.heap.size wc1 (wc1.alloc (.cells #[.int .i64 0, .int .i64 0, .int .i64 0, .int .i64 0, .slice none 0 0] 35)) := (Below.refl _ _).alloc (Nat.le_refl _) _
          have HZ7 : Hid (Blk (wc1.alloc (.cells #[.int .i64 0, .int .i64 0, .int .i64 0, .int .i64 0, .slice none 0 0] 35)) wc1.heap.size 35 #[.int .i64 0, .int .i64 0, .int .i64 0, .int .i64 0, .slice none 0 0]) := Lib.hid (Blk.new _ _ _)
          have HX7 := Lib.hid (HX1.out.on hba)
          have HY7 := Lib.hid (HY1.out.on hba)
          have HV7 := Lib.hid (HV1.out.on hba)
          have HB7 := Lib.hid (HB1.out.trans (hba.mono HB1.out.size))
          have HXb7 : Hid (w5.heap.size ≤ wc1.heap.size) := Lib.hid HB1.out.size
          clear hba HX1 HY1 HB1
          refine hK.out _ _ ⟨HX7.out, HY7.out⟩ (fun _ => ?_)
          clear hK K
          try simp only [Act.put, List.setIfInBounds_toArray, List.set_cons_zero, List.set_cons_succ]
          obtain ⟨xb7, hxb7⟩ : ∃ xb, xb = wc1.heap.size := ⟨_, rfl⟩
          rw [← hxb7] at HZ7 HXb7 ⊢
          generalize wc1.alloc (.cells #[.int .i64 0, .int .i64 0, .int .i64 0, .int .i64 0, .slice none 0 0] 35) = wa7 at *
          clear hxb7
          refine wpAnyH_ready (rs := [3]) (by kernel_rfl) (by simp) ?_
          refine AllReadyH.cons rfl (fun K hK => ?_) AllReadyH.nil
          refine apStep (f := 9) (args := #[.agg #[.int .i64 d.de, .int .i64 d.cl, .int .i64 d.fu, .int .i64 d.st, .slice PA d.put.length PC, .slice DA d.drop.length DC]]) rfl (by kernel_rfl) (madeDelta_any d (.slice PA d.put.length PC) DA d.drop.length DC wa7 (by have := HSm.out; omega) ((HP5.out.below HB7.out).more HB7.out.size)) ?_
          rintro e wc8 ⟨V, rfl, hV, hb⟩
          obtain ⟨UA, UC, rfl⟩ := OwnU.form hV
          have HU8 := Lib.hid (OwnU.set hV)
          have HX8 := Lib.hid (HX7.out.on hb)
          have HY8 := Lib.hid (HY7.out.on hb)
          have HV8 := Lib.hid (HV7.out.on hb)
          have HZ8 := Lib.hid (HZ7.out.on hb)
          have HB8 := Lib.hid (HB7.out.trans (hb.mono HB7.out.size))
          have HXb8 := HXb7
          refine ⟨_, rfl, hK.out _ _ ⟨HX8.out, HY8.out⟩ (fun _ => ?_)⟩
          clear hK K hb hV HX7 HY7 HB7
          try simp only [Act.put, List.setIfInBounds_toArray, List.set_cons_zero, List.set_cons_succ]
          refine wpAnyH_ready (rs := [4]) (by kernel_rfl) (by simp) ?_
          refine AllReadyH.cons rfl (fun K hK => ?_) AllReadyH.nil
          have hxa := xapply_any s d (.slice VA s.rs.length VC) (.slice UA d.put.length UC) (.slice DA d.drop.length DC) wc8 (by have := HSm.out; omega) (by have := HSm.out; omega) (by have := HSm.out; omega) HDr.out HV8.out HU8.out ((HD5.out.below HB8.out).more HB8.out.size)
          rw [← HT.out] at hxa
          refine apStep (f := 7) (args := #[.agg #[.int .i64 s.de, .int .i64 s.cl, .int .i64 s.fu, .int .i64 s.st, .slice VA s.rs.length VC], .agg #[.int .i64 d.de, .int .i64 d.cl, .int .i64 d.fu, .int .i64 d.st, .slice UA d.put.length UC, .slice DA d.drop.length DC]]) rfl (by kernel_rfl) hxa ?_
          clear hxa
          rintro e wc9 ⟨V, rfl, hV, hfr, hb⟩
          obtain ⟨XA, XC, rfl⟩ := hV.form
          have HRx9 := Lib.hid hV
          have HOb9 := Lib.hid (fun q hq => (hfr q hq).2)
          have HOl9 := Lib.hid (fun q hq => (hfr q hq).1)
          clear hfr
          have HX9 := Lib.hid (HX8.out.on hb)
          have HY9 := Lib.hid (HY8.out.on hb)
          have HV9 := Lib.hid (HV8.out.on hb)
          have HU9 := Lib.hid (HU8.out.on hb)
          have HZ9 := Lib.hid (HZ8.out.on hb)
          have HB9 := Lib.hid (HB8.out.trans (hb.mono HB8.out.size))
          have HXb9 := HXb8
          have HF9 : Hid (∀ q, (Value.slice XA T.1.rs.length XC).ownBlock = some q → q ≠ xb7) := Lib.hid (fun q hq e => by have := HOl9.out q hq; have := HZ8.out.lt; omega)
          refine ⟨_, rfl, hK.out _ _ ⟨HX9.out, HY9.out⟩ (fun _ => ?_)⟩
          clear hK K hb hV HX8 HY8 HB8
          try simp only [Act.put, List.setIfInBounds_toArray, List.set_cons_zero, List.set_cons_succ]
          have hHeld := And.intro HX9.out HY9.out
          refine take_d 5 27 (.tuple #[.agg #[.int .i64 T.1.de, .int .i64 T.1.cl, .int .i64 T.1.fu, .int .i64 T.1.st, .slice XA T.1.rs.length XC], .int .i64 T.2]) _ rfl rfl (by kernel_rfl) (by kernel_rfl) (by kernel_rfl) (fun _ _ _ h => h) (Or.inl ⟨by rfl, fun w' hSw => ?_⟩) hHeld ?_
          · clear hSw
            go_simp
          try simp only [Act.put, List.setIfInBounds_toArray, List.set_cons_zero, List.set_cons_succ]
          refine take_d 6 33 (.agg #[.int .i64 T.1.de, .int .i64 T.1.cl, .int .i64 T.1.fu, .int .i64 T.1.st, .slice XA T.1.rs.length XC]) _ rfl rfl (by kernel_rfl) (by kernel_rfl) (by kernel_rfl) (fun _ _ _ h => h) (Or.inl ⟨by rfl, fun w' hSw => ?_⟩) hHeld ?_
          · clear hSw
            go_simp
          try simp only [Act.put, List.setIfInBounds_toArray, List.set_cons_zero, List.set_cons_succ]
          refine take_d 7 34 (.int .i64 T.2) _ rfl rfl (by kernel_rfl) (by kernel_rfl) (by kernel_rfl) (fun _ _ _ h => h) (Or.inl ⟨by rfl, fun w' hSw => ?_⟩) hHeld ?_
          · clear hSw
            go_simp
          try simp only [Act.put, List.setIfInBounds_toArray, List.set_cons_zero, List.set_cons_succ]
          clear hHeld
          have z := HZ9.out.c5
          have f := HZ9.out.frozen
          have hl := HZ9.out.lt
          have HFin := set5_rel (c0 := .int .i64 T.1.de) (c1 := .int .i64 T.1.cl) (c2 := .int .i64 T.1.fu) (c3 := .int .i64 T.1.st) HZ9.out HXb9.out HB9.out HRx9.out HF9.out
          have hX9 : Blk (((((wc9.setCell ⟨xb7, 0, none⟩ (.int .i64 T.1.de)).setCell ⟨xb7, 1, none⟩ (.int .i64 T.1.cl)).setCell ⟨xb7, 2, none⟩ (.int .i64 T.1.fu)).setCell ⟨xb7, 3, none⟩ (.int .i64 T.1.st)).setCell ⟨xb7, 4, none⟩ (.slice XA T.1.rs.length XC)) w.heap.size 24 #[.int .i64 s.de, .int .i64 s.cl, .int .i64 s.fu, .int .i64 s.st, .slice A s.rs.length cap] := far5 HX9.out (by have := HXb9.out; have := HX5.out.lt; omega)
          have hY9 : Blk (((((wc9.setCell ⟨xb7, 0, none⟩ (.int .i64 T.1.de)).setCell ⟨xb7, 1, none⟩ (.int .i64 T.1.cl)).setCell ⟨xb7, 2, none⟩ (.int .i64 T.1.fu)).setCell ⟨xb7, 3, none⟩ (.int .i64 T.1.st)).setCell ⟨xb7, 4, none⟩ (.slice XA T.1.rs.length XC)) (w.heap.size + 1) 27 #[.int .i64 d.de, .int .i64 d.cl, .int .i64 d.fu, .int .i64 d.st, .slice PA d.put.length PC, .slice DA d.drop.length DC] := far5 HY9.out (by have := HXb9.out; have := HY5.out.lt; omega)
          refine wpAnyH_ready (rs := [9]) (by kernel_rfl) (by simp) ?_
          refine AllReadyH.cons rfl (fun K hK => ?_) AllReadyH.nil
          go_simp
          refine hK.out _ _ ⟨hX9, hY9⟩ (fun _ => ?_)
          clear hK K z f hl
          try simp only [Act.put, List.setIfInBounds_toArray, List.set_cons_zero, List.set_cons_succ]
          have hHeld := And.intro hX9 hY9
          refine take_d 10 10 (.int .i64 T.2) _ rfl rfl (by kernel_rfl) (by kernel_rfl) (by kernel_rfl) (fun _ _ _ h => h) (Or.inl ⟨by rfl, fun w' hSw => ?_⟩) hHeld ?_
          · clear hSw
            go_simp
          try simp only [Act.put, List.setIfInBounds_toArray, List.set_cons_zero, List.set_cons_succ]
          refine wpAnyH_done (by kernel_rfl) ?_ _
          refine hK' _ _ (Met.intro (hJ _ _ ?_))
          (repeat apply Exists.intro)
          refine ⟨?_, rfl⟩
          exact ⟨rfl, xb7, XA, XC, rfl, HFin.1, HFin.2.2, HFin.2.1⟩
      · go_simp
        have hba : Below wd.heap.size wd (wd.alloc (.cells #[.int .i64 0, .int .i64 0, .int .i64 0, .int .i64 0, .slice none 0 0] 35)) := (Below.refl _ _).alloc (Nat.le_refl _) _
        have HZ10 : Hid (Blk (wd.alloc (.cells #[.int .i64 0, .int .i64 0, .int .i64 0, .int .i64 0, .slice none 0 0] 35)) wd.heap.size 35 #[.int .i64 0, .int .i64 0, .int .i64 0, .int .i64 0, .slice none 0 0]) := Lib.hid (Blk.new _ _ _)
        have HX10 := Lib.hid (HXd.out.on hba)
        have HY10 := Lib.hid (HYd.out.on hba)
        have HB10 := Lib.hid (HBd.out.trans (hba.mono HBd.out.size))
        have HXb10 : Hid (w5.heap.size ≤ wd.heap.size) := Lib.hid HBd.out.size
        clear hba HXd HYd HBd
        refine hK.out _ _ ⟨HX10.out, HY10.out⟩ (fun _ => ?_)
        clear hK K
        try simp only [Act.put, List.setIfInBounds_toArray, List.set_cons_zero, List.set_cons_succ]
        obtain ⟨xb10, hxb10⟩ : ∃ xb, xb = wd.heap.size := ⟨_, rfl⟩
        rw [← hxb10] at HZ10 HXb10 ⊢
        generalize wd.alloc (.cells #[.int .i64 0, .int .i64 0, .int .i64 0, .int .i64 0, .slice none 0 0] 35) = wa10 at *
        clear hxb10
        refine wpAnyH_ready (rs := [1]) (by kernel_rfl) (by simp) ?_
        refine AllReadyH.cons rfl (fun K hK => ?_) AllReadyH.nil
        refine apStep (f := 8) (args := #[.agg #[.int .i64 s.de, .int .i64 s.cl, .int .i64 s.fu, .int .i64 s.st, .slice A s.rs.length cap]]) rfl (by kernel_rfl) (madeSet_any s (.slice A s.rs.length cap) wa10 (by have := HSm.out; omega) ((HS5.out.below HB10.out).more HB10.out.size)) ?_
        rintro e wc11 ⟨V, rfl, hV, hb⟩
        obtain ⟨VA, VC, rfl⟩ := OwnU.form hV
        have HV11 := Lib.hid (OwnU.set hV)
        have HX11 := Lib.hid (HX10.out.on hb)
        have HY11 := Lib.hid (HY10.out.on hb)
        have HZ11 := Lib.hid (HZ10.out.on hb)
        have HB11 := Lib.hid (HB10.out.trans (hb.mono HB10.out.size))
        have HXb11 := HXb10
        refine ⟨_, rfl, hK.out _ _ ⟨HX11.out, HY11.out⟩ (fun _ => ?_)⟩
        clear hK K hb hV HX10 HY10 HB10
        try simp only [Act.put, List.setIfInBounds_toArray, List.set_cons_zero, List.set_cons_succ]
        refine wpAnyH_ready (rs := [3]) (by kernel_rfl) (by simp) ?_
        refine AllReadyH.cons rfl (fun K hK => ?_) AllReadyH.nil
        refine apStep (f := 9) (args := #[.agg #[.int .i64 d.de, .int .i64 d.cl, .int .i64 d.fu, .int .i64 d.st, .slice PA d.put.length PC, .slice DA d.drop.length DC]]) rfl (by kernel_rfl) (madeDelta_any d (.slice PA d.put.length PC) DA d.drop.length DC wc11 (by have := HSm.out; omega) ((HP5.out.below HB11.out).more HB11.out.size)) ?_
        rintro e wc12 ⟨V, rfl, hV, hb⟩
        obtain ⟨UA, UC, rfl⟩ := OwnU.form hV
        have HU12 := Lib.hid (OwnU.set hV)
        have HX12 := Lib.hid (HX11.out.on hb)
        have HY12 := Lib.hid (HY11.out.on hb)
        have HV12 := Lib.hid (HV11.out.on hb)
        have HZ12 := Lib.hid (HZ11.out.on hb)
        have HB12 := Lib.hid (HB11.out.trans (hb.mono HB11.out.size))
        have HXb12 := HXb11
        refine ⟨_, rfl, hK.out _ _ ⟨HX12.out, HY12.out⟩ (fun _ => ?_)⟩
        clear hK K hb hV HX11 HY11 HB11
        try simp only [Act.put, List.setIfInBounds_toArray, List.set_cons_zero, List.set_cons_succ]
        refine wpAnyH_ready (rs := [4]) (by kernel_rfl) (by simp) ?_
        refine AllReadyH.cons rfl (fun K hK => ?_) AllReadyH.nil
        have hxa := xapply_any s d (.slice VA s.rs.length VC) (.slice UA d.put.length UC) (.slice DA d.drop.length DC) wc12 (by have := HSm.out; omega) (by have := HSm.out; omega) (by have := HSm.out; omega) HDr.out HV12.out HU12.out ((HD5.out.below HB12.out).more HB12.out.size)
        rw [← HT.out] at hxa
        refine apStep (f := 7) (args := #[.agg #[.int .i64 s.de, .int .i64 s.cl, .int .i64 s.fu, .int .i64 s.st, .slice VA s.rs.length VC], .agg #[.int .i64 d.de, .int .i64 d.cl, .int .i64 d.fu, .int .i64 d.st, .slice UA d.put.length UC, .slice DA d.drop.length DC]]) rfl (by kernel_rfl) hxa ?_
        clear hxa
        rintro e wc13 ⟨V, rfl, hV, hfr, hb⟩
        obtain ⟨XA, XC, rfl⟩ := hV.form
        have HRx13 := Lib.hid hV
        have HOb13 := Lib.hid (fun q hq => (hfr q hq).2)
        have HOl13 := Lib.hid (fun q hq => (hfr q hq).1)
        clear hfr
        have HX13 := Lib.hid (HX12.out.on hb)
        have HY13 := Lib.hid (HY12.out.on hb)
        have HV13 := Lib.hid (HV12.out.on hb)
        have HU13 := Lib.hid (HU12.out.on hb)
        have HZ13 := Lib.hid (HZ12.out.on hb)
        have HB13 := Lib.hid (HB12.out.trans (hb.mono HB12.out.size))
        have HXb13 := HXb12
        have HF13 : Hid (∀ q, (Value.slice XA T.1.rs.length XC).ownBlock = some q → q ≠ xb10) := Lib.hid (fun q hq e => by have := HOl13.out q hq; have := HZ12.out.lt; omega)
        refine ⟨_, rfl, hK.out _ _ ⟨HX13.out, HY13.out⟩ (fun _ => ?_)⟩
        clear hK K hb hV HX12 HY12 HB12
        try simp only [Act.put, List.setIfInBounds_toArray, List.set_cons_zero, List.set_cons_succ]
        have hHeld := And.intro HX13.out HY13.out
        refine take_d 5 27 (.tuple #[.agg #[.int .i64 T.1.de, .int .i64 T.1.cl, .int .i64 T.1.fu, .int .i64 T.1.st, .slice XA T.1.rs.length XC], .int .i64 T.2]) _ rfl rfl (by kernel_rfl) (by kernel_rfl) (by kernel_rfl) (fun _ _ _ h => h) (Or.inl ⟨by rfl, fun w' hSw => ?_⟩) hHeld ?_
        · clear hSw
          go_simp
        try simp only [Act.put, List.setIfInBounds_toArray, List.set_cons_zero, List.set_cons_succ]
        refine take_d 6 33 (.agg #[.int .i64 T.1.de, .int .i64 T.1.cl, .int .i64 T.1.fu, .int .i64 T.1.st, .slice XA T.1.rs.length XC]) _ rfl rfl (by kernel_rfl) (by kernel_rfl) (by kernel_rfl) (fun _ _ _ h => h) (Or.inl ⟨by rfl, fun w' hSw => ?_⟩) hHeld ?_
        · clear hSw
          go_simp
        try simp only [Act.put, List.setIfInBounds_toArray, List.set_cons_zero, List.set_cons_succ]
        refine take_d 7 34 (.int .i64 T.2) _ rfl rfl (by kernel_rfl) (by kernel_rfl) (by kernel_rfl) (fun _ _ _ h => h) (Or.inl ⟨by rfl, fun w' hSw => ?_⟩) hHeld ?_
        · clear hSw
          go_simp
        try simp only [Act.put, List.setIfInBounds_toArray, List.set_cons_zero, List.set_cons_succ]
        clear hHeld
        have z := HZ13.out.c5
        have f := HZ13.out.frozen
        have hl := HZ13.out.lt
        have HFin := set5_rel (c0 := .int .i64 T.1.de) (c1 := .int .i64 T.1.cl) (c2 := .int .i64 T.1.fu) (c3 := .int .i64 T.1.st) HZ13.out HXb13.out HB13.out HRx13.out HF13.out
        have hX9 : Blk (((((wc13.setCell ⟨xb10, 0, none⟩ (.int .i64 T.1.de)).setCell ⟨xb10, 1, none⟩ (.int .i64 T.1.cl)).setCell ⟨xb10, 2, none⟩ (.int .i64 T.1.fu)).setCell ⟨xb10, 3, none⟩ (.int .i64 T.1.st)).setCell ⟨xb10, 4, none⟩ (.slice XA T.1.rs.length XC)) w.heap.size 24 #[.int .i64 s.de, .int .i64 s.cl, .int .i64 s.fu, .int .i64 s.st, .slice A s.rs.length cap] := far5 HX13.out (by have := HXb13.out; have := HX5.out.lt; omega)
        have hY9 : Blk (((((wc13.setCell ⟨xb10, 0, none⟩ (.int .i64 T.1.de)).setCell ⟨xb10, 1, none⟩ (.int .i64 T.1.cl)).setCell ⟨xb10, 2, none⟩ (.int .i64 T.1.fu)).setCell ⟨xb10, 3, none⟩ (.int .i64 T.1.st)).setCell ⟨xb10, 4, none⟩ (.slice XA T.1.rs.length XC)) (w.heap.size + 1) 27 #[.int .i64 d.de, .int .i64 d.cl, .int .i64 d.fu, .int .i64 d.st, .slice PA d.put.length PC, .slice DA d.drop.length DC] := far5 HY13.out (by have := HXb13.out; have := HY5.out.lt; omega)
        refine wpAnyH_ready (rs := [9]) (by kernel_rfl) (by simp) ?_
        refine AllReadyH.cons rfl (fun K hK => ?_) AllReadyH.nil
        go_simp
        refine hK.out _ _ ⟨hX9, hY9⟩ (fun _ => ?_)
        clear hK K z f hl
        try simp only [Act.put, List.setIfInBounds_toArray, List.set_cons_zero, List.set_cons_succ]
        have hHeld := And.intro hX9 hY9
        refine take_d 10 10 (.int .i64 T.2) _ rfl rfl (by kernel_rfl) (by kernel_rfl) (by kernel_rfl) (fun _ _ _ h => h) (Or.inl ⟨by rfl, fun w' hSw => ?_⟩) hHeld ?_
        · clear hSw
          go_simp
        try simp only [Act.put, List.setIfInBounds_toArray, List.set_cons_zero, List.set_cons_succ]
        refine wpAnyH_done (by kernel_rfl) ?_ _
        refine hK' _ _ (Met.intro (hJ _ _ ?_))
        (repeat apply Exists.intro)
        refine ⟨?_, rfl⟩
        exact ⟨rfl, xb10, XA, XC, rfl, HFin.1, HFin.2.2, HFin.2.1⟩
    obtain ⟨rfl, xb, XA, XC, rfl, HXs, HXr, HBw⟩ := hcut
    generalize wc = we at *
    have HX6 := Lib.hid (HX5.out.on HBw.out)
    have HB6 := Lib.hid (HB5.out.trans (HBw.out.mono HB5.out.size))
    have HT6 := Lib.hid (HT5.out.on HBw.out)
    have HR6 := Lib.hid ((HR5.out.below HBw.out).more HBw.out.size)
    clear HX5 HY5 HB5 HT5 HR5 HS5 HP5 HD5 HBw
    obtain ⟨ok, hok⟩ : ∃ ok, ok = decide s.Ok := ⟨_, rfl⟩
    have HOk := Lib.hid hok
    have hkk : (ok != ok) = false := by cases ok <;> rfl
    have hTT : (T.2 != T.2) = false := by simp
    go_upto_region 7 with (fail)
    have HXd : Hid (Blk we.drew w.heap.size 24 #[.int .i64 s.de, .int .i64 s.cl, .int .i64 s.fu, .int .i64 s.st, .slice A s.rs.length cap]) := HX6
    have HTd : Hid (Blk we.drew tb 24 #[.int .i64 T.1.de, .int .i64 T.1.cl, .int .i64 T.1.fu, .int .i64 T.1.st, .slice RA T.1.rs.length RC]) := HT6
    have HXsd : Hid (Blk we.drew xb 35 #[.int .i64 T.1.de, .int .i64 T.1.cl, .int .i64 T.1.fu, .int .i64 T.1.st, .slice XA T.1.rs.length XC]) := HXs
    have HXrd : Hid (RulesV we.drew.heap.size we.drew (.slice XA T.1.rs.length XC) T.1.rs) := HXr
    have HRd : Hid (RulesV we.drew.heap.size we.drew (.slice RA T.1.rs.length RC) T.1.rs) := HR6
    have HBd : Hid (Below w.heap.size w we.drew) := Lib.hid HB6.out.drew
    refine wp_region_held_drew (S := fun W => Blk W w.heap.size 24 #[.int .i64 s.de, .int .i64 s.cl, .int .i64 s.fu, .int .i64 s.st, .slice A s.rs.length cap] ∧ Blk W tb 24 #[.int .i64 T.1.de, .int .i64 T.1.cl, .int .i64 T.1.fu, .int .i64 T.1.st, .slice RA T.1.rs.length RC] ∧ Blk W xb 35 #[.int .i64 T.1.de, .int .i64 T.1.cl, .int .i64 T.1.fu, .int .i64 T.1.st, .slice XA T.1.rs.length XC]) (by kernel_rfl) ⟨HXd.out, HTd.out, HXsd.out⟩ (fun hHeld => ?_)
    clear HX6 HT6 HXs HXr HR6 HB6
    generalize we.drew = wd at *
    refine take_d 0 35 (.agg #[.int .i64 s.de, .int .i64 s.cl, .int .i64 s.fu, .int .i64 s.st, .slice A s.rs.length cap]) _ rfl rfl (by kernel_rfl) (by kernel_rfl) (by kernel_rfl) (fun _ _ _ h => h) (Or.inl ⟨by rfl, fun w' hSw => ?_⟩) hHeld ?_
    · obtain ⟨q0, q1, q2, q3, q4⟩ := hSw.1.c5
      clear hSw
      go_simp
    try simp only [Act.put, List.setIfInBounds_toArray, List.set_cons_zero, List.set_cons_succ]
    refine take_d 2 37 (.agg #[.int .i64 s.de, .int .i64 s.cl, .int .i64 s.fu, .int .i64 s.st, .slice A s.rs.length cap]) _ rfl rfl (by kernel_rfl) (by kernel_rfl) (by kernel_rfl) (fun _ _ _ h => h) (Or.inl ⟨by rfl, fun w' hSw => ?_⟩) hHeld ?_
    · obtain ⟨q0, q1, q2, q3, q4⟩ := hSw.1.c5
      clear hSw
      go_simp
    try simp only [Act.put, List.setIfInBounds_toArray, List.set_cons_zero, List.set_cons_succ]
    refine apCall 1 36 (f := 10) (args := #[.agg #[.int .i64 s.de, .int .i64 s.cl, .int .i64 s.fu, .int .i64 s.st, .slice A s.rs.length cap]]) rfl rfl (by kernel_rfl) rfl (by kernel_rfl) (setRight_any s (.slice A s.rs.length cap) wd (by have := HSm.out; omega) (HA.out.on HBd.out)) ?_
    rintro e w7 ⟨rfl, hb⟩
    rw [← HOk.out]
    have HX7 := Lib.hid (HXd.out.on hb)
    have HT7 := Lib.hid (HTd.out.on hb)
    have HXs7 := Lib.hid (HXsd.out.on hb)
    have HXr7 := Lib.hid (HXrd.out.on hb)
    have HR7 := Lib.hid (HRd.out.on hb)
    have HB7 := Lib.hid (HBd.out.trans (hb.mono HBd.out.size))
    refine ⟨_, rfl, ⟨HX7.out, HT7.out, HXs7.out⟩, ?_⟩
    clear hb hHeld HXd HTd HXsd HXrd HRd HBd
    try simp only [Act.put, List.setIfInBounds_toArray, List.set_cons_zero, List.set_cons_succ]
    refine apCall 3 38 (f := 8) (args := #[.agg #[.int .i64 s.de, .int .i64 s.cl, .int .i64 s.fu, .int .i64 s.st, .slice A s.rs.length cap]]) rfl rfl (by kernel_rfl) rfl (by kernel_rfl) (madeSet_any s (.slice A s.rs.length cap) w7 (by have := HSm.out; omega) (HA.out.on HB7.out)) ?_
    rintro e w8 ⟨V, rfl, hV, hb⟩
    obtain ⟨VA, VC, rfl⟩ := OwnU.form hV
    have HV8 := Lib.hid (OwnU.set hV)
    have HX8 := Lib.hid (HX7.out.on hb)
    have HT8 := Lib.hid (HT7.out.on hb)
    have HXs8 := Lib.hid (HXs7.out.on hb)
    have HXr8 := Lib.hid (HXr7.out.on hb)
    have HR8 := Lib.hid (HR7.out.on hb)
    have HB8 := Lib.hid (HB7.out.trans (hb.mono HB7.out.size))
    refine ⟨_, rfl, ⟨HX8.out, HT8.out, HXs8.out⟩, ?_⟩
    clear hb hV HX7 HT7 HXs7 HXr7 HR7 HB7
    try simp only [Act.put, List.setIfInBounds_toArray, List.set_cons_zero, List.set_cons_succ]
    refine apCall 4 39 (f := 11) (args := #[.agg #[.int .i64 s.de, .int .i64 s.cl, .int .i64 s.fu, .int .i64 s.st, .slice VA s.rs.length VC]]) rfl rfl (by kernel_rfl) rfl (by kernel_rfl) (xRight_any s (.slice VA s.rs.length VC) w8 (by have := HSm.out; omega) HV8.out) ?_
    rintro e w9 ⟨rfl, hb⟩
    rw [← HOk.out]
    have HX9 := Lib.hid (HX8.out.on hb)
    have HT9 := Lib.hid (HT8.out.on hb)
    have HXs9 := Lib.hid (HXs8.out.on hb)
    have HXr9 := Lib.hid (HXr8.out.on hb)
    have HR9 := Lib.hid (HR8.out.on hb)
    have HB9 := Lib.hid (HB8.out.trans (hb.mono HB8.out.size))
    refine ⟨_, rfl, ⟨HX9.out, HT9.out, HXs9.out⟩, ?_⟩
    clear hb HV8 HX8 HT8 HXs8 HXr8 HR8 HB8
    try simp only [Act.put, List.setIfInBounds_toArray, List.set_cons_zero, List.set_cons_succ]
    have hHeld := And.intro HX9.out (And.intro HT9.out HXs9.out)
    refine take_d 5 40 (.bool false) _ rfl rfl (by kernel_rfl) (by kernel_rfl) (by kernel_rfl) (fun _ _ _ h => h) (Or.inl ⟨by rfl, fun w' hSw => ?_⟩) hHeld ?_
    · clear hSw
      go_simp
    try simp only [Act.put, List.setIfInBounds_toArray, List.set_cons_zero, List.set_cons_succ]
    refine take_d 6 41 (.bool false) _ rfl rfl (by kernel_rfl) (by kernel_rfl) (by kernel_rfl) (fun _ _ _ h => h) (Or.inl ⟨by rfl, fun w' hSw => ?_⟩) hHeld ?_
    · clear hSw
      go_simp
    try simp only [Act.put, List.setIfInBounds_toArray, List.set_cons_zero, List.set_cons_succ]
    refine take_d 7 42 (.int .i64 T.2) _ rfl rfl (by kernel_rfl) (by kernel_rfl) (by kernel_rfl) (fun _ _ _ h => h) (Or.inl ⟨by rfl, fun w' hSw => ?_⟩) hHeld ?_
    · clear hSw
      go_simp
    try simp only [Act.put, List.setIfInBounds_toArray, List.set_cons_zero, List.set_cons_succ]
    refine take_d 8 43 (.int .i64 T.2) _ rfl rfl (by kernel_rfl) (by kernel_rfl) (by kernel_rfl) (fun _ _ _ h => h) (Or.inl ⟨by rfl, fun w' hSw => ?_⟩) hHeld ?_
    · clear hSw
      go_simp
    try simp only [Act.put, List.setIfInBounds_toArray, List.set_cons_zero, List.set_cons_succ]
    refine take_d 9 44 (.bool false) _ rfl rfl (by kernel_rfl) (by kernel_rfl) (by kernel_rfl) (fun _ _ _ h => h) (Or.inl ⟨by rfl, fun w' hSw => ?_⟩) hHeld ?_
    · clear hSw
      go_simp
    try simp only [Act.put, List.setIfInBounds_toArray, List.set_cons_zero, List.set_cons_succ]
    refine take_d 10 45 (.bool false) _ rfl rfl (by kernel_rfl) (by kernel_rfl) (by kernel_rfl) (fun _ _ _ h => h) (Or.inl ⟨by rfl, fun w' hSw => ?_⟩) hHeld ?_
    · clear hSw
      go_simp
    try simp only [Act.put, List.setIfInBounds_toArray, List.set_cons_zero, List.set_cons_succ]
    refine take_d 11 46 (.bool false) _ rfl rfl (by kernel_rfl) (by kernel_rfl) (by kernel_rfl) (fun _ _ _ h => h) (Or.inl ⟨by rfl, fun w' hSw => ?_⟩) hHeld ?_
    · clear hSw
      go_simp
    try simp only [Act.put, List.setIfInBounds_toArray, List.set_cons_zero, List.set_cons_succ]
    refine take_d 12 47 (.agg #[.int .i64 T.1.de, .int .i64 T.1.cl, .int .i64 T.1.fu, .int .i64 T.1.st, .slice RA T.1.rs.length RC]) _ rfl rfl (by kernel_rfl) (by kernel_rfl) (by kernel_rfl) (fun _ _ _ h => h) (Or.inl ⟨by rfl, fun w' hSw => ?_⟩) hHeld ?_
    · obtain ⟨q0, q1, q2, q3, q4⟩ := hSw.2.1.c5
      clear hSw
      go_simp
    try simp only [Act.put, List.setIfInBounds_toArray, List.set_cons_zero, List.set_cons_succ]
    refine take_d 14 49 (.agg #[.int .i64 T.1.de, .int .i64 T.1.cl, .int .i64 T.1.fu, .int .i64 T.1.st, .slice XA T.1.rs.length XC]) _ rfl rfl (by kernel_rfl) (by kernel_rfl) (by kernel_rfl) (fun _ _ _ h => h) (Or.inl ⟨by rfl, fun w' hSw => ?_⟩) hHeld ?_
    · obtain ⟨q0, q1, q2, q3, q4⟩ := hSw.2.2.c5
      clear hSw
      go_simp
    try simp only [Act.put, List.setIfInBounds_toArray, List.set_cons_zero, List.set_cons_succ]
    clear hHeld
    refine apCall 13 48 (f := 8) (args := #[.agg #[.int .i64 T.1.de, .int .i64 T.1.cl, .int .i64 T.1.fu, .int .i64 T.1.st, .slice RA T.1.rs.length RC]]) rfl rfl (by kernel_rfl) rfl (by kernel_rfl) (madeSet_any T.1 (.slice RA T.1.rs.length RC) w9 (by have := HL.out; omega) HR9.out) ?_
    rintro e w10 ⟨V, rfl, hV, hb⟩
    obtain ⟨VA, VC, rfl⟩ := OwnU.form hV
    have HV10 := Lib.hid (OwnU.set hV)
    have HX10 := Lib.hid (HX9.out.on hb)
    have HT10 := Lib.hid (HT9.out.on hb)
    have HXs10 := Lib.hid (HXs9.out.on hb)
    have HXr10 := Lib.hid (HXr9.out.on hb)
    have HR10 := Lib.hid (HR9.out.on hb)
    have HB10 := Lib.hid (HB9.out.trans (hb.mono HB9.out.size))
    refine ⟨_, rfl, ⟨HX10.out, HT10.out, HXs10.out⟩, ?_⟩
    clear hb hV HX9 HT9 HXs9 HXr9 HR9 HB9
    try simp only [Act.put, List.setIfInBounds_toArray, List.set_cons_zero, List.set_cons_succ]
    refine apCall 15 50 (f := 12) (args := #[.agg #[.int .i64 T.1.de, .int .i64 T.1.cl, .int .i64 T.1.fu, .int .i64 T.1.st, .slice VA T.1.rs.length VC], .agg #[.int .i64 T.1.de, .int .i64 T.1.cl, .int .i64 T.1.fu, .int .i64 T.1.st, .slice XA T.1.rs.length XC]]) rfl rfl (by kernel_rfl) rfl (by kernel_rfl) (same_any T.1 T.1 (.slice VA T.1.rs.length VC) (.slice XA T.1.rs.length XC) w10 (by have := HL.out; omega) (by have := HL.out; omega) HV10.out HXr10.out) ?_
    rintro e w11 ⟨c, rfl, hc, hb⟩
    obtain rfl : c = true := hc.2 rfl
    have HX11 := Lib.hid (HX10.out.on hb)
    have HT11 := Lib.hid (HT10.out.on hb)
    have HXs11 := Lib.hid (HXs10.out.on hb)
    have HR11 := Lib.hid (HR10.out.on hb)
    have HB11 := Lib.hid (HB10.out.trans (hb.mono HB10.out.size))
    refine ⟨_, rfl, ⟨HX11.out, HT11.out, HXs11.out⟩, ?_⟩
    clear hb hc HV10 HX10 HT10 HXs10 HXr10 HR10 HB10
    try simp only [Act.put, List.setIfInBounds_toArray, List.set_cons_zero, List.set_cons_succ]
    have hHeld := And.intro HX11.out (And.intro HT11.out HXs11.out)
    refine take_d 16 51 (.bool false) _ rfl rfl (by kernel_rfl) (by kernel_rfl) (by kernel_rfl) (fun _ _ _ h => h) (Or.inl ⟨by rfl, fun w' hSw => ?_⟩) hHeld ?_
    · clear hSw
      go_simp
    try simp only [Act.put, List.setIfInBounds_toArray, List.set_cons_zero, List.set_cons_succ]
    refine take_d 17 52 (.bool false) _ rfl rfl (by kernel_rfl) (by kernel_rfl) (by kernel_rfl) (fun _ _ _ h => h) (Or.inl ⟨by rfl, fun w' hSw => ?_⟩) hHeld ?_
    · clear hSw
      go_simp
    try simp only [Act.put, List.setIfInBounds_toArray, List.set_cons_zero, List.set_cons_succ]
    clear hHeld hkk hTT
    refine wpAnyH_done (by kernel_rfl) ?_ _
    try simp only [Act.put, List.setIfInBounds_toArray, List.set_cons_zero, List.set_cons_succ]
    obtain ⟨x0, x1, x2, x3, x4⟩ := HX11.out.c5
    go_wp2_with fail
    refine (setRule_any s (.slice A s.rs.length cap) id w11 (by have := HSm.out; omega) (HA.out.on HB11.out)).mono ?_
    clear x0 x1 x2 x3 x4
    rintro e w12 ⟨rfl, hb⟩
    have HX12 := Lib.hid (HX11.out.on hb)
    have HT12 := Lib.hid (HT11.out.on hb)
    have HR12 := Lib.hid (HR11.out.on hb)
    have HB12 := Lib.hid (HB11.out.trans (hb.mono HB11.out.size))
    clear hb HX11 HT11 HR11 HB11 HXs11
    obtain ⟨lk, hlk⟩ : ∃ lk, lk = look s.rs id := ⟨_, rfl⟩
    obtain ⟨hd, hhd⟩ : ∃ hd, hd = decide (id ∈ s.rs.map Ru.id) := ⟨_, rfl⟩
    rw [← hlk, ← hhd]
    have HLk := Lib.hid hlk
    have HHd := Lib.hid hhd
    clear hlk hhd
    obtain ⟨x0, x1, x2, x3, x4⟩ := HX12.out.c5
    have hlx := HX12.out.lt
    go_upto_region 11 with (fail)
    have hb13 : Below w12.heap.size w12 (w12.alloc (.cells #[.int .i64 lk.id, .int .i64 lk.pr, .int .i64 lk.ac, .int .i64 lk.sc, .string lk.pat] 44)) := (Below.refl _ _).alloc (Nat.le_refl _) _
    have HL13 : Hid (Blk (w12.alloc (.cells #[.int .i64 lk.id, .int .i64 lk.pr, .int .i64 lk.ac, .int .i64 lk.sc, .string lk.pat] 44)) w12.heap.size 44 #[.int .i64 lk.id, .int .i64 lk.pr, .int .i64 lk.ac, .int .i64 lk.sc, .string lk.pat]) := Lib.hid (Blk.new _ _ _)
    clear x0 x1 x2 x3 x4 hlx
    generalize (w12.alloc (.cells #[.int .i64 lk.id, .int .i64 lk.pr, .int .i64 lk.ac, .int .i64 lk.sc, .string lk.pat] 44)) = w13 at *
    obtain ⟨lb, hlb⟩ : ∃ lb, lb = w12.heap.size := ⟨_, rfl⟩
    rw [← hlb] at HL13 ⊢
    clear hlb
    have HX13 := Lib.hid (HX12.out.on hb13)
    have HT13 := Lib.hid (HT12.out.on hb13)
    have HR13 := Lib.hid (HR12.out.on hb13)
    have HB13 := Lib.hid (HB12.out.trans (hb13.mono HB12.out.size))
    clear hb13 HX12 HT12 HR12 HB12
    go_loopw [62, 14] (fun i _ wr => ∃ k : Nat, k ≤ s.rs.length ∧ i = .int .i64 k ∧ Hid (∀ x ∈ s.rs.take k, x.id ≠ id) ∧ Hid (Below w13.heap.size w13 wr)) (fun i _ _ => s.rs.length - (intOf i).toNat)
    case atStart => exact ⟨0, Nat.zero_le _, rfl, Lib.hid (by simp), Lib.hid (Below.refl _ _)⟩
    case round =>
      obtain ⟨k, hk, rfl, HN, HBk⟩ := hrel
      have HTl := Lib.hid (HT13.out.on HBk.out)
      have HRl := Lib.hid (HR13.out.on HBk.out)
      have HLl := Lib.hid (HL13.out.on HBk.out)
      have HBl := Lib.hid (HB13.out.trans (HBk.out.mono HB13.out.size))
      have hlo : (s.rs.length : Int) ≤ 40 := by have := HSm.out; omega
      by_cases hlt : k < s.rs.length
      · obtain ⟨g, off, hA, hg, c0, c1, c2, c3, c4⟩ := (HA.out.below HBl.out).at_ hlt
        subst hA
        have HG := Lib.hid (List.getElem?_eq_getElem hlt)
        generalize s.rs[k] = y at HG c0 c1 c2 c3 c4
        have HLt := Lib.hid hlt
        have hg2 : g < wr.heap.size := by have := HBl.out.size; omega
        by_cases he : y.id = id
        · have hlf := look_first HG.out HN.out he
          obtain rfl : lk = y := HLk.out.trans hlf.1
          obtain rfl : hd = true := HHd.out.trans (decide_eq_true hlf.2)
          have hq := fun W => run_eql_ru lk lk W
          simp only [ruEq_refl] at hq
          have heb : (lk.id == id) = true := by simp [he]
          obtain ⟨l0, l1, l2, l3, l4⟩ := HLl.out.c5
          have hll := HLl.out.lt
          by_cases h0 : T.2 = 0
          · have hz : (T.2 != 0) = false := by simp [h0]
            have HOkT : Hid (decide T.1.Ok = true) := Lib.hid (by
              rw [HT.out] at h0 ⊢
              exact decide_eq_true (taken_ok h0))
            clear hlf he h0
            go_upto_region 14 with (fail)
            have hbx : Below wr.heap.size wr (wr.alloc (.cells #[.int .i64 lk.id, .int .i64 lk.pr, .int .i64 lk.ac, .int .i64 lk.sc, .string lk.pat] 44)) := (Below.refl _ _).alloc (Nat.le_refl _) _
            have HYx : Hid (Blk (wr.alloc (.cells #[.int .i64 lk.id, .int .i64 lk.pr, .int .i64 lk.ac, .int .i64 lk.sc, .string lk.pat] 44)) wr.heap.size 44 #[.int .i64 lk.id, .int .i64 lk.pr, .int .i64 lk.ac, .int .i64 lk.sc, .string lk.pat]) := Lib.hid (Blk.new _ _ _)
            clear c0 c1 c2 c3 c4 l0 l1 l2 l3 l4 hll
            generalize (wr.alloc (.cells #[.int .i64 lk.id, .int .i64 lk.pr, .int .i64 lk.ac, .int .i64 lk.sc, .string lk.pat] 44)) = wx at *
            have HTx := Lib.hid (HTl.out.on hbx)
            have HRx := Lib.hid (HRl.out.on hbx)
            have HLx := Lib.hid (HLl.out.on hbx)
            have HBx := Lib.hid (HBl.out.trans (hbx.mono HBl.out.size))
            obtain ⟨l0, l1, l2, l3, l4⟩ := HLx.out.c5
            obtain ⟨y0, y1, y2, y3, y4⟩ := HYx.out.c5
            obtain ⟨t0, t1, t2, t3, t4⟩ := HTx.out.c5
            clear hbx
            go_wp2_with fail
            refine (setRight_any T.1 (.slice RA T.1.rs.length RC) wx (by have := HL.out; omega) HRx.out).mono ?_
            rintro e w15 ⟨rfl, hb⟩
            rw [HOkT.out]
            have HBy := Lib.hid (HBx.out.trans (hb.mono HBx.out.size))
            go_wp2
            go_ret
            exact ⟨rfl, HBy.out⟩
          · have hz : (T.2 != 0) = true := by simp [h0]
            clear hlf he
            go_upto_region 14 with (fail)
            have hbx : Below wr.heap.size wr (wr.alloc (.cells #[.int .i64 lk.id, .int .i64 lk.pr, .int .i64 lk.ac, .int .i64 lk.sc, .string lk.pat] 44)) := (Below.refl _ _).alloc (Nat.le_refl _) _
            have HYx : Hid (Blk (wr.alloc (.cells #[.int .i64 lk.id, .int .i64 lk.pr, .int .i64 lk.ac, .int .i64 lk.sc, .string lk.pat] 44)) wr.heap.size 44 #[.int .i64 lk.id, .int .i64 lk.pr, .int .i64 lk.ac, .int .i64 lk.sc, .string lk.pat]) := Lib.hid (Blk.new _ _ _)
            clear c0 c1 c2 c3 c4 l0 l1 l2 l3 l4 hll
            generalize (wr.alloc (.cells #[.int .i64 lk.id, .int .i64 lk.pr, .int .i64 lk.ac, .int .i64 lk.sc, .string lk.pat] 44)) = wx at *
            have HLx := Lib.hid (HLl.out.on hbx)
            have HBx := Lib.hid (HBl.out.trans (hbx.mono HBl.out.size))
            obtain ⟨l0, l1, l2, l3, l4⟩ := HLx.out.c5
            obtain ⟨y0, y1, y2, y3, y4⟩ := HYx.out.c5
            clear hbx
            go_wp2
            go_ret
            exact ⟨rfl, HBx.out⟩
        · have heb : (y.id == id) = false := by simp [he]
          have HNx : Hid (∀ x ∈ s.rs.take (k + 1), x.id ≠ id) := Lib.hid (by
            intro x hx
            rw [ru_take HG.out] at hx
            rcases List.mem_append.1 hx with hx | hx
            · exact HN.out x hx
            · rw [List.mem_singleton.1 hx]; exact he)
          have HBx := Lib.hid (HBk.out.alloc HBk.out.size (.cells #[.int .i64 y.id, .int .i64 y.pr, .int .i64 y.ac, .int .i64 y.sc, .string y.pat] 44))
          clear he
          go_wp2
          go_roundw
          case rel => exact ⟨k + 1, HLt.out, by go_num, HNx, HBx⟩
          case measure => have := HLt.out; simp [intOf]; omega
      · obtain rfl : k = s.rs.length := by omega
        have hno := HN.out
        rw [List.take_length] at hno
        have hln := look_none hno
        obtain rfl : lk = Ru.none := HLk.out.trans hln.1
        obtain rfl : hd = false := HHd.out.trans (decide_eq_false hln.2)
        have hq : ∀ W, (binOp .eql 44 (.agg #[.int .i64 0, .int .i64 0, .int .i64 0, .int .i64 0, .string ⟨#[]⟩]) (.agg #[.int .i64 0, .int .i64 0, .int .i64 0, .int .i64 0, .string ⟨#[]⟩])).run Try.prog W = .ok (.bool true) W := fun W => by
          have := run_eql_ru Ru.none Ru.none W
          rw [ruEq_refl] at this
          exact this
        have HLz : Hid (Blk wr lb 44 #[.int .i64 0, .int .i64 0, .int .i64 0, .int .i64 0, .string ⟨#[]⟩]) := HLl
        obtain ⟨l0, l1, l2, l3, l4⟩ := HLz.out.c5
        clear hno hln HLl HL13
        by_cases h0 : T.2 = 0
        · have hz : (T.2 != 0) = false := by simp [h0]
          have HOkT : Hid (decide T.1.Ok = true) := Lib.hid (by
            rw [HT.out] at h0 ⊢
            exact decide_eq_true (taken_ok h0))
          clear h0
          obtain ⟨t0, t1, t2, t3, t4⟩ := HTl.out.c5
          go_wp2_with fail
          refine (setRight_any T.1 (.slice RA T.1.rs.length RC) wr (by have := HL.out; omega) HRl.out).mono ?_
          rintro e w15 ⟨rfl, hb⟩
          rw [HOkT.out]
          have HBy := Lib.hid (HBl.out.trans (hb.mono HBl.out.size))
          go_wp2
          go_ret
          exact ⟨rfl, HBy.out⟩
        · have hz : (T.2 != 0) = true := by simp [h0]
          go_wp2
          go_ret
          exact ⟨rfl, HBl.out⟩
  · rw [decide_eq_false hsm]
    clear hsm
    go_wp2_with fail
    go_ret
    exact ⟨rfl, HB2.out⟩
theorem ruleApplies_law (s : RS) (va : Value) (d : Dl) (pv dv : Value) (id : Int) (w : World) (hA : RulesV w.heap.size w va s.rs) (hP : RulesV w.heap.size w pv d.put) (hD : Row w.heap.size w dv (zI d.drop)) (hdr : ∀ z ∈ d.drop, (Lit.int .i64 z).wf = true) :
    Calls Try.prog 3 #[.agg #[.int .i64 s.de, .int .i64 s.cl, .int .i64 s.fu, .int .i64 s.st, va], .agg #[.int .i64 d.de, .int .i64 d.cl, .int .i64 d.fu, .int .i64 d.st, pv, dv], .int .i64 id] w fun e w' => e = .returned (.bool true) ∧ Below w.heap.size w w' := applies_law s va d pv dv id w hA hP hD hdr

end Go.Proofs.Ytifpfpgibjmibaa
