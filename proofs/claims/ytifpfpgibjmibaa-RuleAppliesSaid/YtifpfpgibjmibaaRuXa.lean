/- colanderref07: Apply. -/
import Derived.Test.YtifpfpgibjmibaaRuXt
import Derived.Test.YtifpfpgibjmibaaRuCa
import Derived.Test.YtifpfpgibjmibaaRuAb
import Derived.Test.YtifpfpgibjmibaaRuQ
import Derived.Deep.RegionHeld3
import Derived.Deep.Cut
import Derived.Deep.CutRange
namespace Go.Proofs.Ytifpfpgibjmibaa
open Go.RowKit Go.Maps
variable {w w' : World}

theorem Blk.drew4 {b : Nat} {t : TypeId} {cs : Array Value} (h : Blk w b t cs) : Blk w.drew b t cs := h
theorem take_d {P : Program} {md : Region.Mode} {ops : Array Oper} {Q : Exit → Act → World → Prop} {S : World → Prop} {fuel : Nat} {listed : Array Bool} {a : Act} {w : World} (i d : Nat) (v : Value) (oi : Oper) (hi : ops[i]? = some oi) (hd : oi.dst = some d)
    (hs : Region.noSelect ops = true) (hf : Region.free md ops listed i = true) (hr : (Region.ready md ops listed).contains i = true)
    (hQ : ∀ c a w, Q (.panic c) (a.put oi.dst v) w → Q (.panic c) a w) (hy : YieldsIf P ops S oi v a) (hS : S w)
    (h : wpAnyH P md ops Q S fuel (listed.setIfInBounds i true) { tmps := a.tmps.setIfInBounds d v, defers := a.defers } w) : wpAnyH P md ops Q S (fuel + 1) listed a w :=
  wpAnyH_take hi hs hf hr hQ hy hS (by rw [hd]; exact h)
theorem far5 {W1 : World} {g b : Nat} {t : TypeId} {cs : Array Value} {c0 c1 c2 c3 c4 : Value} (h : Blk W1 b t cs) (hne : b ≠ g) : Blk (((((W1.setCell ⟨g, 0, none⟩ c0).setCell ⟨g, 1, none⟩ c1).setCell ⟨g, 2, none⟩ c2).setCell ⟨g, 3, none⟩ c3).setCell ⟨g, 4, none⟩ c4) b t cs := by
  have k : ∀ {W : World}, Blk W b t cs → ∀ (i : Nat) (u : Value), Blk (W.setCell ⟨g, i, none⟩ u) b t cs := fun h i u => h.far (p := ⟨g, i, none⟩) hne u
  exact k (k (k (k (k h 0 c0) 1 c1) 2 c2) 3 c3) 4 c4
theorem st5_rel {w2 W1 : World} {v0 v1 v2 v3 v4 c0 c1 c2 c3 c4 : Value} (hN : Blk W1 w2.heap.size 35 #[v0, v1, v2, v3, v4]) (hB : Below w2.heap.size w2 W1) (hS : W1.heap.size = w2.heap.size + 1) :
    Hid (Blk (((((W1.setCell ⟨w2.heap.size, 0, none⟩ c0).setCell ⟨w2.heap.size, 1, none⟩ c1).setCell ⟨w2.heap.size, 2, none⟩ c2).setCell ⟨w2.heap.size, 3, none⟩ c3).setCell ⟨w2.heap.size, 4, none⟩ c4) w2.heap.size 35 #[c0, c1, c2, c3, c4]) ∧ Hid (Below w2.heap.size w2 (((((W1.setCell ⟨w2.heap.size, 0, none⟩ c0).setCell ⟨w2.heap.size, 1, none⟩ c1).setCell ⟨w2.heap.size, 2, none⟩ c2).setCell ⟨w2.heap.size, 3, none⟩ c3).setCell ⟨w2.heap.size, 4, none⟩ c4)) ∧ Hid ((((((W1.setCell ⟨w2.heap.size, 0, none⟩ c0).setCell ⟨w2.heap.size, 1, none⟩ c1).setCell ⟨w2.heap.size, 2, none⟩ c2).setCell ⟨w2.heap.size, 3, none⟩ c3).setCell ⟨w2.heap.size, 4, none⟩ c4).heap.size = w2.heap.size + 1) := by
  refine ⟨Lib.hid ?_, Lib.hid ?_, Lib.hid (by simpa [World.setCell] using hS)⟩
  · have := ((((hN.set_ 0 c0).set_ 1 c1).set_ 2 c2).set_ 3 c3).set_ 4 c4
    simpa using this
  · have k : ∀ {W : World}, Below w2.heap.size w2 W → ∀ (i : Nat) (u : Value), Below w2.heap.size w2 (W.setCell ⟨w2.heap.size, i, none⟩ u) := fun h i u => h.setCell (p := ⟨w2.heap.size, i, none⟩) (Nat.le_refl _) u
    exact k (k (k (k (k hB 0 c0) 1 c1) 2 c2) 3 c3) 4 c4
theorem below5 {w W1 : World} {g : Nat} {c0 c1 c2 c3 c4 : Value} (h : Below w.heap.size w W1) (hg : w.heap.size ≤ g) : Below w.heap.size w (((((W1.setCell ⟨g, 0, none⟩ c0).setCell ⟨g, 1, none⟩ c1).setCell ⟨g, 2, none⟩ c2).setCell ⟨g, 3, none⟩ c3).setCell ⟨g, 4, none⟩ c4) := by
  have k : ∀ {W : World}, Below w.heap.size w W → ∀ (i : Nat) (u : Value), Below w.heap.size w (W.setCell ⟨g, i, none⟩ u) := fun h i u => h.setCell (p := ⟨g, i, none⟩) hg u
  exact k (k (k (k (k h 0 c0) 1 c1) 2 c2) 3 c3) 4 c4

section
variable {P : Program} {md : Region.Mode} {ops : Array Oper} {Q : Exit → Act → World → Prop} {S : World → Prop} {fuel : Nat} {listed : Array Bool} {a : Act} {w : World}
/-- a call of a drawn region, when nothing else is ready -/
theorem wpAnyH_callP (i d : Nat) {f : FuncId} {args : Array Value} {R : Ending → World → Prop} {o : Oper} (ho : ops[i]? = some o) (hd : o.dst = some d) (hr : Region.ready md ops listed = [i]) (hw : o.guard = none)
    (he : (execOp a.eval o).run P w = .ok (.enter f args) w) (hc : Calls P f args w R)
    (h : ∀ e w', R e w' → ∃ v, e = .returned v ∧ S w' ∧ wpAnyH P md ops Q S fuel (listed.setIfInBounds i true) { tmps := a.tmps.setIfInBounds d v, defers := a.defers } w') : wpAnyH P md ops Q S (fuel + 1) listed a w := by
  refine wpAnyH_ready hr (by simp) (AllReadyH.cons ho (fun K hK => ?_) AllReadyH.nil)
  rw [if_pos (by unfold Region.wanted; rw [hw])]
  unfold Oper.wp
  rw [he]
  refine hc.mono ?_
  intro e w' hR
  obtain ⟨v, rfl, hS', hh⟩ := h e w' hR
  refine hK.out _ _ hS' (fun _ => ?_)
  rw [hd]
  exact hh
end
/-- append of one rule onto a row of the call's own, as a step of a drawn region -/
theorem step_append_rule {P : Program} {t e : TypeId} {bytes : Nat} (z : Value) (hu : P.underlying t = some (.slice e)) (hzc : z.cells.size = 5) (hb100 : bytes ≤ 100) (w : World) {ops : Array Oper} {o : Oper} {a : Act} {K : Act → World → Prop} {Q : Exit → Act → World → Prop} {E : Prop} (hgd : o.guard = none) (x y : Operand)
    (ho : o.op = .call { callee := .builtin .append, args := #[x, y], argTypes := #[t, t] }) (i : TypeInfo) (hi : P.info? e = some i) (hz : i.zero = some z) (hsize : i.size = 5) (hby : i.bytes = bytes)
    (base : Nat) (v : Value) (xs : List Ru) (hx : a.eval x = v) (hown : OwnU w base e v xs) (b c : Nat) (r : Ru) (hy : a.eval y = .slice (some ⟨b, 0, none⟩) 1 c) (hr : Blk w b e #[.int .i64 r.id, .int .i64 r.pr, .int .i64 r.ac, .int .i64 r.sc, .string r.pat]) (h63 : xs.length + 1 ≤ 1000000) (hbase : base ≤ w.heap.size)
    (h : ∀ v' w', OwnU w' base e v' (xs ++ [r]) → w.grownBy w' v.ownBlock → K (a.put o.dst v') w') :
    if Region.wanted o (yielded ops a.tmps) = true then Oper.wp P o a w K Q else E := by
  have hw : Region.wanted o (yielded ops a.tmps) = true := by simp [Region.wanted, hgd]
  rw [if_pos hw]
  have hm : (xs.length + 1) * bytes ≤ 1000000 * 100 := Nat.mul_le_mul h63 hb100
  obtain ⟨v', w', hrun, h2, h3, _, _⟩ := run_append_own_at (P := P) w base t o.type e i z 5 bytes hu hi hz hsize hby hzc (by decide) v xs.length (ruCells xs) hown ⟨b, 0, none⟩ 1 c r.cells rfl (fun j u hu => by
    have hadd : (⟨b, 0, none⟩ : Addr).add j = ⟨b, 0 + j, none⟩ := by unfold Addr.add; split <;> simp_all
    rw [hadd, Nat.zero_add, hr.cell j, ← hu]
    rw [Ru.cells, ← List.getElem?_toArray]) (ru_one r) (by unfold maxLen; omega) (by omega) hbase
  unfold Oper.wp execOp
  simp only [ho, resolve, invoke, builtin, Sem.run_bind, Sem.run_pure, Result.andThen_ok, List.map_toArray, List.map_cons, List.map_nil, hx, hy, hrun]
  refine h v' w' ?_ h3
  unfold OwnU
  rw [List.length_append, ruCells_append, show ruCells [r] = r.cells by simp [ruCells]]
  exact h2
theorem ownU5 {w : World} {base g : Nat} {e : TypeId} {V : Value} {l : List Ru} {c0 c1 c2 c3 c4 : Value} (h : OwnU w base e V l) (ha : V.ownBlock ≠ some g) : OwnU (((((w.setCell ⟨g, 0, none⟩ c0).setCell ⟨g, 1, none⟩ c1).setCell ⟨g, 2, none⟩ c2).setCell ⟨g, 3, none⟩ c3).setCell ⟨g, 4, none⟩ c4) base e V l :=
  ((((h.farset (a := ⟨g, 0, none⟩) ha c0).farset (a := ⟨g, 1, none⟩) ha c1).farset (a := ⟨g, 2, none⟩) ha c2).farset (a := ⟨g, 3, none⟩) ha c3).farset (a := ⟨g, 4, none⟩) ha c4
theorem drops_one (l : List Ru) (x : Ru) (ids : List Int) : drops (l ++ [x]) ids = if x.id ∈ ids then drops l ids else drops l ids ++ [x] := by
  unfold drops
  rw [List.filter_append]
  by_cases h : x.id ∈ ids
  · rw [if_pos h]; simp [h]
  · rw [if_neg h]; simp [h]
theorem drops_len (l : List Ru) (ids : List Int) : (drops l ids).length ≤ l.length := List.length_filter_le _ _
theorem RuAt.on' {n₀ b o : Nat} {r : Ru} {w w' : World} (h : RuAt w b o r) (hb : b < n₀) (hB : Below n₀ w w') : RuAt w' b o r := h.below hb hB

set_option maxRecDepth 100000 in
set_option maxHeartbeats 40000000 in
theorem xapply_any (s : RS) (d : Dl) (v pv dv : Value) (w : World) (hm0 : s.rs.length ≤ 1000) (hm1 : d.put.length ≤ 1000) (hm2 : d.drop.length ≤ 1000) (hdr : ∀ z ∈ d.drop, (Lit.int .i64 z).wf = true)
    (hS : RulesV w.heap.size w v s.rs) (hP : RulesV w.heap.size w pv d.put) (hD : Row w.heap.size w dv (zI d.drop)) :
    Calls Try.prog 7 #[.agg #[.int .i64 s.de, .int .i64 s.cl, .int .i64 s.fu, .int .i64 s.st, v], .agg #[.int .i64 d.de, .int .i64 d.cl, .int .i64 d.fu, .int .i64 d.st, pv, dv]] w
      fun e w' => ∃ rv, e = .returned (.tuple #[.agg #[.int .i64 (applyM s d).1.de, .int .i64 (applyM s d).1.cl, .int .i64 (applyM s d).1.fu, .int .i64 (applyM s d).1.st, rv], .int .i64 (applyM s d).2]) ∧ RulesV w'.heap.size w' rv (applyM s d).1.rs ∧ (∀ k, rv.ownBlock = some k → w.heap.size ≤ k ∧ k < w'.heap.size) ∧ Below w.heap.size w w' := by
  obtain ⟨A, cap, rfl⟩ := hS.form
  obtain ⟨PA, PC, rfl⟩ := hP.form
  obtain ⟨DA, DC, rfl⟩ : ∃ A c, dv = .slice A d.drop.length c := by obtain ⟨A, c, h, _⟩ := hD; exact ⟨A, c, by simpa [zI] using h⟩
  obtain ⟨w0, hw0⟩ : ∃ w0, w0 = (((w.alloc (.cells #[.int .i64 s.de, .int .i64 s.cl, .int .i64 s.fu, .int .i64 s.st, .slice A s.rs.length cap] 35)).alloc (.cells #[.int .i64 d.de, .int .i64 d.cl, .int .i64 d.fu, .int .i64 d.st, .slice PA d.put.length PC, .slice DA d.drop.length DC] 40)).alloc (.cells #[.int .i64 0, .int .i64 0, .int .i64 0, .int .i64 0, .slice none 0 0] 35)) := ⟨_, rfl⟩
  have hb0 : Below w.heap.size w w0 := by rw [hw0]; exact (((Below.refl _ _).alloc (Nat.le_refl _) _).alloc (by simp) _).alloc (by simp; omega) _
  have hx : Blk w0 w.heap.size 35 #[.int .i64 s.de, .int .i64 s.cl, .int .i64 s.fu, .int .i64 s.st, .slice A s.rs.length cap] := by rw [hw0]; exact ((Blk.new _ _ _).alloc _).alloc _
  have hy : Blk w0 (w.heap.size + 1) 40 #[.int .i64 d.de, .int .i64 d.cl, .int .i64 d.fu, .int .i64 d.st, .slice PA d.put.length PC, .slice DA d.drop.length DC] := by rw [hw0]; exact (Blk.at_new _ _ (by simp) _ _).alloc _
  have hz : Blk w0 (w.heap.size + 2) 35 #[.int .i64 0, .int .i64 0, .int .i64 0, .int .i64 0, .slice none 0 0] := by rw [hw0]; exact Blk.at_new _ _ (by simp) _ _
  have hs0 : w0.heap.size = w.heap.size + 3 := by rw [hw0]; simp
  have HS := Lib.hid hS
  have HP := Lib.hid hP
  have HD := Lib.hid hD
  have HDr := Lib.hid hdr
  have HB0 := Lib.hid hb0
  have HX0 := Lib.hid hx
  have HY0 := Lib.hid hy
  have HZ0 := Lib.hid hz
  clear hS hP hD hdr hb0 hx hy hz
  obtain ⟨T, hT⟩ : ∃ T, T = applyM s d := ⟨_, rfl⟩
  rw [← hT]
  have HT := Lib.hid hT
  clear hT
  go_enter Try.func7, Try.ntmps7
  go_wp2_with fail
  rw [← hw0]
  clear hw0
  refine (xRight_any s _ w0 (by omega) (HS.out.on HB0.out)).mono ?_
  rintro e w2 ⟨rfl, hb2⟩
  have HXd := Lib.hid (HY0.out.on hb2)
  have HYd := Lib.hid (HX0.out.on hb2)
  have HZd := Lib.hid (HZ0.out.on hb2)
  have HBd := Lib.hid (HB0.out.trans (hb2.mono HB0.out.size))
  have hs2 := Nat.le_trans (Nat.le_of_eq hs0.symm) hb2.size
  clear hb2 HX0 HY0 HZ0 HB0 hs0
  by_cases h1 : s.Ok
  · rw [decide_eq_true h1]
    have H1 := Lib.hid h1
    clear h1
    have C1 := Lib.hid (orR_any d.de s.de)
    have C2 := Lib.hid (orR_any d.cl s.cl)
    have C3 := Lib.hid (orR_any d.fu s.fu)
    have C4 := Lib.hid (orR_any d.st s.st)
    obtain ⟨n1, hn1⟩ : ∃ n, n = orK d.de s.de := ⟨_, rfl⟩
    obtain ⟨n2, hn2⟩ : ∃ n, n = orK d.cl s.cl := ⟨_, rfl⟩
    obtain ⟨n3, hn3⟩ : ∃ n, n = orK d.fu s.fu := ⟨_, rfl⟩
    obtain ⟨n4, hn4⟩ : ∃ n, n = orK d.st s.st := ⟨_, rfl⟩
    rw [← hn1] at C1
    rw [← hn2] at C2
    rw [← hn3] at C3
    rw [← hn4] at C4
    have HNu : Hid (nums s d = ⟨n1, n2, n3, n4, []⟩) := Lib.hid (by unfold nums; rw [hn1, hn2, hn3, hn4])
    clear hn1 hn2 hn3 hn4
    have hne1 : w.heap.size ≠ w2.heap.size := by omega
    have hne2 : w.heap.size + 1 ≠ w2.heap.size := by omega
    have hlx := HXd.out.lt
    have hly := HYd.out.lt
    go_upto_region 3 with (fail)
    go_cut [6] from 17 (fun s6 W => s6 = .pointer (some ⟨w2.heap.size, 0, none⟩) ∧ Hid (Blk W w2.heap.size 35 #[.int .i64 n1, .int .i64 n2, .int .i64 n3, .int .i64 n4, .slice none 0 0]) ∧ Hid (Below w2.heap.size w2 W) ∧ Hid (W.heap.size = w2.heap.size + 1))
    case first =>
      rename_i J K' hJ hK'
      have heg : ∀ args w, (callFunc 21 args).run Try.prog w = .ok (.enter 21 args) w := enters_of Try.func21 (by kernel_rfl) rfl
      refine wp_region_held_drew (S := fun W => Blk W (w.heap.size + 1) 40 #[.int .i64 d.de, .int .i64 d.cl, .int .i64 d.fu, .int .i64 d.st, .slice PA d.put.length PC, .slice DA d.drop.length DC] ∧ Blk W w.heap.size 35 #[.int .i64 s.de, .int .i64 s.cl, .int .i64 s.fu, .int .i64 s.st, .slice A s.rs.length cap]) (by kernel_rfl) ⟨HXd.out, HYd.out⟩ (fun hHeld => ?_)
      refine take_d 0 17 (.pointer (some ⟨(w.heap.size + 1), 0, none⟩)) _ rfl rfl (by kernel_rfl) (by kernel_rfl) (by kernel_rfl) (fun _ _ _ h => h) (Or.inl ⟨by rfl, fun w' hSw => ?_⟩) hHeld ?_
      · clear hSw
        go_simp
      simp only [List.setIfInBounds_toArray, List.set_cons_zero, List.set_cons_succ]
      refine take_d 1 18 (.int .i64 d.de) _ rfl rfl (by kernel_rfl) (by kernel_rfl) (by kernel_rfl) (fun _ _ _ h => h) (Or.inl ⟨by rfl, fun w' hSw => ?_⟩) hHeld ?_
      · have q := hSw.1.cell 0
        clear hSw
        go_simp
      simp only [List.setIfInBounds_toArray, List.set_cons_zero, List.set_cons_succ]
      refine take_d 2 19 (.pointer (some ⟨w.heap.size, 0, none⟩)) _ rfl rfl (by kernel_rfl) (by kernel_rfl) (by kernel_rfl) (fun _ _ _ h => h) (Or.inl ⟨by rfl, fun w' hSw => ?_⟩) hHeld ?_
      · clear hSw
        go_simp
      simp only [List.setIfInBounds_toArray, List.set_cons_zero, List.set_cons_succ]
      refine take_d 3 20 (.int .i64 s.de) _ rfl rfl (by kernel_rfl) (by kernel_rfl) (by kernel_rfl) (fun _ _ _ h => h) (Or.inl ⟨by rfl, fun w' hSw => ?_⟩) hHeld ?_
      · have q := hSw.2.cell 0
        clear hSw
        go_simp
      simp only [List.setIfInBounds_toArray, List.set_cons_zero, List.set_cons_succ]
      refine take_d 5 22 (.pointer (some ⟨(w.heap.size + 1), 1, none⟩)) _ rfl rfl (by kernel_rfl) (by kernel_rfl) (by kernel_rfl) (fun _ _ _ h => h) (Or.inl ⟨by rfl, fun w' hSw => ?_⟩) hHeld ?_
      · clear hSw
        go_simp
      simp only [List.setIfInBounds_toArray, List.set_cons_zero, List.set_cons_succ]
      refine take_d 6 23 (.int .i64 d.cl) _ rfl rfl (by kernel_rfl) (by kernel_rfl) (by kernel_rfl) (fun _ _ _ h => h) (Or.inl ⟨by rfl, fun w' hSw => ?_⟩) hHeld ?_
      · have q := hSw.1.cell 1
        clear hSw
        go_simp
      simp only [List.setIfInBounds_toArray, List.set_cons_zero, List.set_cons_succ]
      refine take_d 7 24 (.pointer (some ⟨w.heap.size, 1, none⟩)) _ rfl rfl (by kernel_rfl) (by kernel_rfl) (by kernel_rfl) (fun _ _ _ h => h) (Or.inl ⟨by rfl, fun w' hSw => ?_⟩) hHeld ?_
      · clear hSw
        go_simp
      simp only [List.setIfInBounds_toArray, List.set_cons_zero, List.set_cons_succ]
      refine take_d 8 25 (.int .i64 s.cl) _ rfl rfl (by kernel_rfl) (by kernel_rfl) (by kernel_rfl) (fun _ _ _ h => h) (Or.inl ⟨by rfl, fun w' hSw => ?_⟩) hHeld ?_
      · have q := hSw.2.cell 1
        clear hSw
        go_simp
      simp only [List.setIfInBounds_toArray, List.set_cons_zero, List.set_cons_succ]
      refine take_d 10 27 (.pointer (some ⟨(w.heap.size + 1), 2, none⟩)) _ rfl rfl (by kernel_rfl) (by kernel_rfl) (by kernel_rfl) (fun _ _ _ h => h) (Or.inl ⟨by rfl, fun w' hSw => ?_⟩) hHeld ?_
      · clear hSw
        go_simp
      simp only [List.setIfInBounds_toArray, List.set_cons_zero, List.set_cons_succ]
      refine take_d 11 28 (.int .i64 d.fu) _ rfl rfl (by kernel_rfl) (by kernel_rfl) (by kernel_rfl) (fun _ _ _ h => h) (Or.inl ⟨by rfl, fun w' hSw => ?_⟩) hHeld ?_
      · have q := hSw.1.cell 2
        clear hSw
        go_simp
      simp only [List.setIfInBounds_toArray, List.set_cons_zero, List.set_cons_succ]
      refine take_d 12 29 (.pointer (some ⟨w.heap.size, 2, none⟩)) _ rfl rfl (by kernel_rfl) (by kernel_rfl) (by kernel_rfl) (fun _ _ _ h => h) (Or.inl ⟨by rfl, fun w' hSw => ?_⟩) hHeld ?_
      · clear hSw
        go_simp
      simp only [List.setIfInBounds_toArray, List.set_cons_zero, List.set_cons_succ]
      refine take_d 13 30 (.int .i64 s.fu) _ rfl rfl (by kernel_rfl) (by kernel_rfl) (by kernel_rfl) (fun _ _ _ h => h) (Or.inl ⟨by rfl, fun w' hSw => ?_⟩) hHeld ?_
      · have q := hSw.2.cell 2
        clear hSw
        go_simp
      simp only [List.setIfInBounds_toArray, List.set_cons_zero, List.set_cons_succ]
      refine take_d 15 32 (.pointer (some ⟨(w.heap.size + 1), 3, none⟩)) _ rfl rfl (by kernel_rfl) (by kernel_rfl) (by kernel_rfl) (fun _ _ _ h => h) (Or.inl ⟨by rfl, fun w' hSw => ?_⟩) hHeld ?_
      · clear hSw
        go_simp
      simp only [List.setIfInBounds_toArray, List.set_cons_zero, List.set_cons_succ]
      refine take_d 16 33 (.int .i64 d.st) _ rfl rfl (by kernel_rfl) (by kernel_rfl) (by kernel_rfl) (fun _ _ _ h => h) (Or.inl ⟨by rfl, fun w' hSw => ?_⟩) hHeld ?_
      · have q := hSw.1.cell 3
        clear hSw
        go_simp
      simp only [List.setIfInBounds_toArray, List.set_cons_zero, List.set_cons_succ]
      refine take_d 17 34 (.pointer (some ⟨w.heap.size, 3, none⟩)) _ rfl rfl (by kernel_rfl) (by kernel_rfl) (by kernel_rfl) (fun _ _ _ h => h) (Or.inl ⟨by rfl, fun w' hSw => ?_⟩) hHeld ?_
      · clear hSw
        go_simp
      simp only [List.setIfInBounds_toArray, List.set_cons_zero, List.set_cons_succ]
      refine take_d 18 35 (.int .i64 s.st) _ rfl rfl (by kernel_rfl) (by kernel_rfl) (by kernel_rfl) (fun _ _ _ h => h) (Or.inl ⟨by rfl, fun w' hSw => ?_⟩) hHeld ?_
      · have q := hSw.2.cell 3
        clear hSw
        go_simp
      simp only [List.setIfInBounds_toArray, List.set_cons_zero, List.set_cons_succ]
      refine wpAnyH_call2 (f := 21) (args := #[.int .i64 d.de, .int .i64 s.de]) 4 21 21 6 rfl rfl rfl rfl (by kernel_rfl) rfl rfl (by kernel_rfl) (C1.out _) hHeld (run_alloc_xset _) ⟨(HXd.out.drew4).alloc _, (HYd.out.drew4).alloc _⟩ ?_ ?_
      · simp only [List.setIfInBounds_toArray, List.set_cons_zero, List.set_cons_succ]
        refine wpAnyH_call2 (f := 21) (args := #[.int .i64 d.cl, .int .i64 s.cl]) 9 21 26 6 rfl rfl rfl rfl (by kernel_rfl) rfl rfl (by kernel_rfl) (C2.out _) hHeld (run_alloc_xset _) ⟨(HXd.out.drew4).alloc _, (HYd.out.drew4).alloc _⟩ ?_ ?_
        · simp only [List.setIfInBounds_toArray, List.set_cons_zero, List.set_cons_succ]
          refine wpAnyH_call2 (f := 21) (args := #[.int .i64 d.fu, .int .i64 s.fu]) 14 21 31 6 rfl rfl rfl rfl (by kernel_rfl) rfl rfl (by kernel_rfl) (C3.out _) hHeld (run_alloc_xset _) ⟨(HXd.out.drew4).alloc _, (HYd.out.drew4).alloc _⟩ ?_ ?_
          · simp only [List.setIfInBounds_toArray, List.set_cons_zero, List.set_cons_succ]
            refine wpAnyH_call2 (f := 21) (args := #[.int .i64 d.st, .int .i64 s.st]) 19 21 36 6 rfl rfl rfl rfl (by kernel_rfl) rfl rfl (by kernel_rfl) (C4.out _) hHeld (run_alloc_xset _) ⟨(HXd.out.drew4).alloc _, (HYd.out.drew4).alloc _⟩ ?_ ?_
            · simp only [List.setIfInBounds_toArray, List.set_cons_zero, List.set_cons_succ]
              refine take_d 20 37 (.agg #[.int .i64 n1, .int .i64 n2, .int .i64 n3, .int .i64 n4, .slice none 0 0]) _ rfl rfl (by kernel_rfl) (by kernel_rfl) (by kernel_rfl) (fun _ _ _ h => h) (Or.inl ⟨by rfl, fun w' hSw => ?_⟩) hHeld ?_
              · clear hSw
                go_simp
              simp only [List.setIfInBounds_toArray, List.set_cons_zero, List.set_cons_succ]
              refine wpAnyH_new1 21 6 rfl rfl (by kernel_rfl) rfl (run_alloc_xset _) ⟨(HXd.out.drew4).alloc _, (HYd.out.drew4).alloc _⟩ ?_
              simp only [List.setIfInBounds_toArray, List.set_cons_zero, List.set_cons_succ]
              have HXW := Lib.hid ((HXd.out.drew4).alloc (.cells #[.int .i64 0, .int .i64 0, .int .i64 0, .int .i64 0, .slice none 0 0] 35))
              have HYW := Lib.hid ((HYd.out.drew4).alloc (.cells #[.int .i64 0, .int .i64 0, .int .i64 0, .int .i64 0, .slice none 0 0] 35))
              have HN1 := Lib.hid (Blk.at_new w2.drew w2.heap.size rfl 35 #[.int .i64 0, .int .i64 0, .int .i64 0, .int .i64 0, .slice none 0 0])
              have HB1 : Hid (Below w2.heap.size w2 (w2.drew.alloc (.cells #[.int .i64 0, .int .i64 0, .int .i64 0, .int .i64 0, .slice none 0 0] 35))) := Lib.hid (((Below.refl _ _).drew).alloc (Nat.le_refl _) _)
              have HS1 : Hid ((w2.drew.alloc (.cells #[.int .i64 0, .int .i64 0, .int .i64 0, .int .i64 0, .slice none 0 0] 35)).heap.size = w2.heap.size + 1) := Lib.hid (by simp)
              generalize w2.drew.alloc (.cells #[.int .i64 0, .int .i64 0, .int .i64 0, .int .i64 0, .slice none 0 0] 35) = W1 at HXW HYW HN1 HB1 HS1 ⊢
              clear hHeld
              have z := HN1.out.c5
              have f := HN1.out.frozen
              have hl1 := HN1.out.lt
              refine wpAnyH_ready (rs := [22]) (by kernel_rfl) (by simp) ?_
              refine AllReadyH.cons rfl (fun K hK => ?_) AllReadyH.nil
              go_simp
              refine hK.out _ _ ⟨?_, ?_⟩ (fun hHeld => ?_)
              · exact far5 HXW.out hne2
              · exact far5 HYW.out hne1
              clear hK K z f
              refine wpAnyH_done (by kernel_rfl) ?_ _
              refine hK' _ _ (Met.intro (hJ _ _ ?_))
              (repeat apply Exists.intro)
              refine ⟨?_, rfl⟩
              exact ⟨rfl, st5_rel HN1.out HB1.out HS1.out⟩
            · simp only [List.setIfInBounds_toArray, List.set_cons_zero, List.set_cons_succ]
              have HXW := Lib.hid ((HXd.out.drew4).alloc (.cells #[.int .i64 0, .int .i64 0, .int .i64 0, .int .i64 0, .slice none 0 0] 35))
              have HYW := Lib.hid ((HYd.out.drew4).alloc (.cells #[.int .i64 0, .int .i64 0, .int .i64 0, .int .i64 0, .slice none 0 0] 35))
              have HN1 := Lib.hid (Blk.at_new w2.drew w2.heap.size rfl 35 #[.int .i64 0, .int .i64 0, .int .i64 0, .int .i64 0, .slice none 0 0])
              have HB1 : Hid (Below w2.heap.size w2 (w2.drew.alloc (.cells #[.int .i64 0, .int .i64 0, .int .i64 0, .int .i64 0, .slice none 0 0] 35))) := Lib.hid (((Below.refl _ _).drew).alloc (Nat.le_refl _) _)
              have HS1 : Hid ((w2.drew.alloc (.cells #[.int .i64 0, .int .i64 0, .int .i64 0, .int .i64 0, .slice none 0 0] 35)).heap.size = w2.heap.size + 1) := Lib.hid (by simp)
              generalize w2.drew.alloc (.cells #[.int .i64 0, .int .i64 0, .int .i64 0, .int .i64 0, .slice none 0 0] 35) = W1 at HXW HYW HN1 HB1 HS1 ⊢
              refine wpAnyH_call1 (f := 21) (args := #[.int .i64 d.st, .int .i64 s.st]) 19 36 rfl rfl (by kernel_rfl) rfl (by kernel_rfl) (C4.out _) ⟨HXW.out, HYW.out⟩ ?_
              simp only [List.setIfInBounds_toArray, List.set_cons_zero, List.set_cons_succ]
              have hHeld := And.intro HXW.out HYW.out
              refine take_d 20 37 (.agg #[.int .i64 n1, .int .i64 n2, .int .i64 n3, .int .i64 n4, .slice none 0 0]) _ rfl rfl (by kernel_rfl) (by kernel_rfl) (by kernel_rfl) (fun _ _ _ h => h) (Or.inl ⟨by rfl, fun w' hSw => ?_⟩) hHeld ?_
              · clear hSw
                go_simp
              simp only [List.setIfInBounds_toArray, List.set_cons_zero, List.set_cons_succ]
              clear hHeld
              have z := HN1.out.c5
              have f := HN1.out.frozen
              have hl1 := HN1.out.lt
              refine wpAnyH_ready (rs := [22]) (by kernel_rfl) (by simp) ?_
              refine AllReadyH.cons rfl (fun K hK => ?_) AllReadyH.nil
              go_simp
              refine hK.out _ _ ⟨?_, ?_⟩ (fun hHeld => ?_)
              · exact far5 HXW.out hne2
              · exact far5 HYW.out hne1
              clear hK K z f
              refine wpAnyH_done (by kernel_rfl) ?_ _
              refine hK' _ _ (Met.intro (hJ _ _ ?_))
              (repeat apply Exists.intro)
              refine ⟨?_, rfl⟩
              exact ⟨rfl, st5_rel HN1.out HB1.out HS1.out⟩
          · simp only [List.setIfInBounds_toArray, List.set_cons_zero, List.set_cons_succ]
            have HXW := Lib.hid ((HXd.out.drew4).alloc (.cells #[.int .i64 0, .int .i64 0, .int .i64 0, .int .i64 0, .slice none 0 0] 35))
            have HYW := Lib.hid ((HYd.out.drew4).alloc (.cells #[.int .i64 0, .int .i64 0, .int .i64 0, .int .i64 0, .slice none 0 0] 35))
            have HN1 := Lib.hid (Blk.at_new w2.drew w2.heap.size rfl 35 #[.int .i64 0, .int .i64 0, .int .i64 0, .int .i64 0, .slice none 0 0])
            have HB1 : Hid (Below w2.heap.size w2 (w2.drew.alloc (.cells #[.int .i64 0, .int .i64 0, .int .i64 0, .int .i64 0, .slice none 0 0] 35))) := Lib.hid (((Below.refl _ _).drew).alloc (Nat.le_refl _) _)
            have HS1 : Hid ((w2.drew.alloc (.cells #[.int .i64 0, .int .i64 0, .int .i64 0, .int .i64 0, .slice none 0 0] 35)).heap.size = w2.heap.size + 1) := Lib.hid (by simp)
            generalize w2.drew.alloc (.cells #[.int .i64 0, .int .i64 0, .int .i64 0, .int .i64 0, .slice none 0 0] 35) = W1 at HXW HYW HN1 HB1 HS1 ⊢
            refine wpAnyH_call1 (f := 21) (args := #[.int .i64 d.fu, .int .i64 s.fu]) 14 31 rfl rfl (by kernel_rfl) rfl (by kernel_rfl) (C3.out _) ⟨HXW.out, HYW.out⟩ ?_
            simp only [List.setIfInBounds_toArray, List.set_cons_zero, List.set_cons_succ]
            refine wpAnyH_call1 (f := 21) (args := #[.int .i64 d.st, .int .i64 s.st]) 19 36 rfl rfl (by kernel_rfl) rfl (by kernel_rfl) (C4.out _) ⟨HXW.out, HYW.out⟩ ?_
            simp only [List.setIfInBounds_toArray, List.set_cons_zero, List.set_cons_succ]
            have hHeld := And.intro HXW.out HYW.out
            refine take_d 20 37 (.agg #[.int .i64 n1, .int .i64 n2, .int .i64 n3, .int .i64 n4, .slice none 0 0]) _ rfl rfl (by kernel_rfl) (by kernel_rfl) (by kernel_rfl) (fun _ _ _ h => h) (Or.inl ⟨by rfl, fun w' hSw => ?_⟩) hHeld ?_
            · clear hSw
              go_simp
            simp only [List.setIfInBounds_toArray, List.set_cons_zero, List.set_cons_succ]
            clear hHeld
            have z := HN1.out.c5
            have f := HN1.out.frozen
            have hl1 := HN1.out.lt
            refine wpAnyH_ready (rs := [22]) (by kernel_rfl) (by simp) ?_
            refine AllReadyH.cons rfl (fun K hK => ?_) AllReadyH.nil
            go_simp
            refine hK.out _ _ ⟨?_, ?_⟩ (fun hHeld => ?_)
            · exact far5 HXW.out hne2
            · exact far5 HYW.out hne1
            clear hK K z f
            refine wpAnyH_done (by kernel_rfl) ?_ _
            refine hK' _ _ (Met.intro (hJ _ _ ?_))
            (repeat apply Exists.intro)
            refine ⟨?_, rfl⟩
            exact ⟨rfl, st5_rel HN1.out HB1.out HS1.out⟩
        · simp only [List.setIfInBounds_toArray, List.set_cons_zero, List.set_cons_succ]
          have HXW := Lib.hid ((HXd.out.drew4).alloc (.cells #[.int .i64 0, .int .i64 0, .int .i64 0, .int .i64 0, .slice none 0 0] 35))
          have HYW := Lib.hid ((HYd.out.drew4).alloc (.cells #[.int .i64 0, .int .i64 0, .int .i64 0, .int .i64 0, .slice none 0 0] 35))
          have HN1 := Lib.hid (Blk.at_new w2.drew w2.heap.size rfl 35 #[.int .i64 0, .int .i64 0, .int .i64 0, .int .i64 0, .slice none 0 0])
          have HB1 : Hid (Below w2.heap.size w2 (w2.drew.alloc (.cells #[.int .i64 0, .int .i64 0, .int .i64 0, .int .i64 0, .slice none 0 0] 35))) := Lib.hid (((Below.refl _ _).drew).alloc (Nat.le_refl _) _)
          have HS1 : Hid ((w2.drew.alloc (.cells #[.int .i64 0, .int .i64 0, .int .i64 0, .int .i64 0, .slice none 0 0] 35)).heap.size = w2.heap.size + 1) := Lib.hid (by simp)
          generalize w2.drew.alloc (.cells #[.int .i64 0, .int .i64 0, .int .i64 0, .int .i64 0, .slice none 0 0] 35) = W1 at HXW HYW HN1 HB1 HS1 ⊢
          refine wpAnyH_call1 (f := 21) (args := #[.int .i64 d.cl, .int .i64 s.cl]) 9 26 rfl rfl (by kernel_rfl) rfl (by kernel_rfl) (C2.out _) ⟨HXW.out, HYW.out⟩ ?_
          simp only [List.setIfInBounds_toArray, List.set_cons_zero, List.set_cons_succ]
          refine wpAnyH_call1 (f := 21) (args := #[.int .i64 d.fu, .int .i64 s.fu]) 14 31 rfl rfl (by kernel_rfl) rfl (by kernel_rfl) (C3.out _) ⟨HXW.out, HYW.out⟩ ?_
          simp only [List.setIfInBounds_toArray, List.set_cons_zero, List.set_cons_succ]
          refine wpAnyH_call1 (f := 21) (args := #[.int .i64 d.st, .int .i64 s.st]) 19 36 rfl rfl (by kernel_rfl) rfl (by kernel_rfl) (C4.out _) ⟨HXW.out, HYW.out⟩ ?_
          simp only [List.setIfInBounds_toArray, List.set_cons_zero, List.set_cons_succ]
          have hHeld := And.intro HXW.out HYW.out
          refine take_d 20 37 (.agg #[.int .i64 n1, .int .i64 n2, .int .i64 n3, .int .i64 n4, .slice none 0 0]) _ rfl rfl (by kernel_rfl) (by kernel_rfl) (by kernel_rfl) (fun _ _ _ h => h) (Or.inl ⟨by rfl, fun w' hSw => ?_⟩) hHeld ?_
          · clear hSw
            go_simp
          simp only [List.setIfInBounds_toArray, List.set_cons_zero, List.set_cons_succ]
          clear hHeld
          have z := HN1.out.c5
          have f := HN1.out.frozen
          have hl1 := HN1.out.lt
          refine wpAnyH_ready (rs := [22]) (by kernel_rfl) (by simp) ?_
          refine AllReadyH.cons rfl (fun K hK => ?_) AllReadyH.nil
          go_simp
          refine hK.out _ _ ⟨?_, ?_⟩ (fun hHeld => ?_)
          · exact far5 HXW.out hne2
          · exact far5 HYW.out hne1
          clear hK K z f
          refine wpAnyH_done (by kernel_rfl) ?_ _
          refine hK' _ _ (Met.intro (hJ _ _ ?_))
          (repeat apply Exists.intro)
          refine ⟨?_, rfl⟩
          exact ⟨rfl, st5_rel HN1.out HB1.out HS1.out⟩
      · simp only [List.setIfInBounds_toArray, List.set_cons_zero, List.set_cons_succ]
        have HXW := Lib.hid ((HXd.out.drew4).alloc (.cells #[.int .i64 0, .int .i64 0, .int .i64 0, .int .i64 0, .slice none 0 0] 35))
        have HYW := Lib.hid ((HYd.out.drew4).alloc (.cells #[.int .i64 0, .int .i64 0, .int .i64 0, .int .i64 0, .slice none 0 0] 35))
        have HN1 := Lib.hid (Blk.at_new w2.drew w2.heap.size rfl 35 #[.int .i64 0, .int .i64 0, .int .i64 0, .int .i64 0, .slice none 0 0])
        have HB1 : Hid (Below w2.heap.size w2 (w2.drew.alloc (.cells #[.int .i64 0, .int .i64 0, .int .i64 0, .int .i64 0, .slice none 0 0] 35))) := Lib.hid (((Below.refl _ _).drew).alloc (Nat.le_refl _) _)
        have HS1 : Hid ((w2.drew.alloc (.cells #[.int .i64 0, .int .i64 0, .int .i64 0, .int .i64 0, .slice none 0 0] 35)).heap.size = w2.heap.size + 1) := Lib.hid (by simp)
        generalize w2.drew.alloc (.cells #[.int .i64 0, .int .i64 0, .int .i64 0, .int .i64 0, .slice none 0 0] 35) = W1 at HXW HYW HN1 HB1 HS1 ⊢
        refine wpAnyH_call1 (f := 21) (args := #[.int .i64 d.de, .int .i64 s.de]) 4 21 rfl rfl (by kernel_rfl) rfl (by kernel_rfl) (C1.out _) ⟨HXW.out, HYW.out⟩ ?_
        simp only [List.setIfInBounds_toArray, List.set_cons_zero, List.set_cons_succ]
        refine wpAnyH_call1 (f := 21) (args := #[.int .i64 d.cl, .int .i64 s.cl]) 9 26 rfl rfl (by kernel_rfl) rfl (by kernel_rfl) (C2.out _) ⟨HXW.out, HYW.out⟩ ?_
        simp only [List.setIfInBounds_toArray, List.set_cons_zero, List.set_cons_succ]
        refine wpAnyH_call1 (f := 21) (args := #[.int .i64 d.fu, .int .i64 s.fu]) 14 31 rfl rfl (by kernel_rfl) rfl (by kernel_rfl) (C3.out _) ⟨HXW.out, HYW.out⟩ ?_
        simp only [List.setIfInBounds_toArray, List.set_cons_zero, List.set_cons_succ]
        refine wpAnyH_call1 (f := 21) (args := #[.int .i64 d.st, .int .i64 s.st]) 19 36 rfl rfl (by kernel_rfl) rfl (by kernel_rfl) (C4.out _) ⟨HXW.out, HYW.out⟩ ?_
        simp only [List.setIfInBounds_toArray, List.set_cons_zero, List.set_cons_succ]
        have hHeld := And.intro HXW.out HYW.out
        refine take_d 20 37 (.agg #[.int .i64 n1, .int .i64 n2, .int .i64 n3, .int .i64 n4, .slice none 0 0]) _ rfl rfl (by kernel_rfl) (by kernel_rfl) (by kernel_rfl) (fun _ _ _ h => h) (Or.inl ⟨by rfl, fun w' hSw => ?_⟩) hHeld ?_
        · clear hSw
          go_simp
        simp only [List.setIfInBounds_toArray, List.set_cons_zero, List.set_cons_succ]
        clear hHeld
        have z := HN1.out.c5
        have f := HN1.out.frozen
        have hl1 := HN1.out.lt
        refine wpAnyH_ready (rs := [22]) (by kernel_rfl) (by simp) ?_
        refine AllReadyH.cons rfl (fun K hK => ?_) AllReadyH.nil
        go_simp
        refine hK.out _ _ ⟨?_, ?_⟩ (fun hHeld => ?_)
        · exact far5 HXW.out hne2
        · exact far5 HYW.out hne1
        clear hK K z f
        refine wpAnyH_done (by kernel_rfl) ?_ _
        refine hK' _ _ (Met.intro (hJ _ _ ?_))
        (repeat apply Exists.intro)
        refine ⟨?_, rfl⟩
        exact ⟨rfl, st5_rel HN1.out HB1.out HS1.out⟩
    clear C1 C2 C3 C4 hne1 hne2 hlx hly
    obtain ⟨rfl, HNw, HBw, HSw⟩ := hcut
    have HXe := Lib.hid (HXd.out.on HBw.out)
    have HYe := Lib.hid (HYd.out.on HBw.out)
    have HZe := Lib.hid (HZd.out.on HBw.out)
    have HBe := Lib.hid (HBd.out.trans (HBw.out.mono HBd.out.size))
    clear HXd HYd HZd HBd
    generalize wc = we at *
    obtain ⟨n0', n1', n2', n3', n4'⟩ := HNw.out.c5
    have hln := HNw.out.lt
    go_wp2_with fail
    clear n0' n1' n2' n3' n4' hln
    refine (numR_any ⟨n1, n2, n3, n4, []⟩ (.slice none 0 0) ⟨_, _, _, rfl⟩ we).mono ?_
    rintro e w3 ⟨rfl, hb3⟩
    have HN3 := Lib.hid (HNw.out.on hb3)
    have HX3 := Lib.hid (HXe.out.on hb3)
    have HY3 := Lib.hid (HYe.out.on hb3)
    have HZ3 := Lib.hid (HZe.out.on hb3)
    have HB3 := Lib.hid (HBe.out.trans (hb3.mono HBe.out.size))
    have HBw3 := Lib.hid (HBw.out.trans (hb3.mono HBw.out.size))
    clear hb3 HNw HXe HYe HZe HBe HBw
    cases hnm : (⟨n1, n2, n3, n4, []⟩ : RS).num with
    | false =>
      have HNm : Hid ((nums s d).num = false) := Lib.hid (by rw [HNu.out]; exact hnm)
      clear hnm
      have HE : Hid (T = (.zero, 30)) := Lib.hid (by rw [HT.out]; unfold applyM; rw [if_neg (by simpa using H1.out), if_pos (.inl HNm.out)])
      obtain ⟨z0, z1, z2, z3, z4⟩ := HZ3.out.c5
      have f := HZ3.out.frozen
      have hlz := HZ3.out.lt
      go_wp2
      refine bodyPost_ret (v := .tuple #[.agg #[.int .i64 0, .int .i64 0, .int .i64 0, .int .i64 0, .slice none 0 0], .int .i64 30]) (by simp [results, Try.results7, go_sem, *]) rfl ⟨.slice none 0 0, by rw [HE.out]; rfl, by rw [HE.out]; exact RulesV.nil _ _, fun k hk => by simp [Value.ownBlock] at hk, ?_⟩
      exact below5 HB3.out (by omega)
    | true =>
      have HNm : Hid ((nums s d).num = true) := Lib.hid (by rw [HNu.out]; exact hnm)
      clear hnm
      go_upto_region 7 with (fail)
      go_loopw [7] (fun i wr => ∃ k : Nat, k ≤ d.put.length ∧ i = .int .i64 k ∧ Hid (∀ r ∈ d.put.take k, r.ok = true) ∧ Hid (Below w3.heap.size w3 wr)) (fun i _ => d.put.length - (intOf i).toNat)
      case atStart => exact ⟨0, Nat.zero_le _, rfl, Lib.hid (by simp), Lib.hid (Below.refl _ _)⟩
      case round =>
        obtain ⟨k, hk, rfl, HK, HBk⟩ := hrel
        have HX4 := Lib.hid (HX3.out.on HBk.out)
        have HZ4 := Lib.hid (HZ3.out.on HBk.out)
        have HB4 := Lib.hid (HB3.out.trans (HBk.out.mono HB3.out.size))
        obtain ⟨x0, x1, x2, x3, x4, x5⟩ := HX4.out.c6
        have hlx := HX4.out.lt
        by_cases hlt : k < d.put.length
        · obtain ⟨g, off, hA, hg, c0, c1, c2, c3, c4⟩ := (HP.out.below HB4.out).at_ hlt
          subst hA
          have HMe := Lib.hid (List.getElem_mem hlt)
          have hte : d.put.take (k + 1) = d.put.take k ++ [d.put[k]] := ru_take (List.getElem?_eq_getElem hlt)
          generalize d.put[k] = r at c0 c1 c2 c3 c4 HMe hte
          have HTe := Lib.hid hte
          have HLt := Lib.hid hlt
          have HWr : Hid (wrap64 ((k : Int) + 1) = ((k + 1 : Nat) : Int)) := Lib.hid (by unfold wrap64; omega)
          have hg2 : g < wr.heap.size := by have := HB4.out.size; omega
          clear hte
          go_wp2_with fail
          refine (xruleRight_any r wr).mono ?_
          clear x0 x1 x2 x3 x4 x5 hlx c0 c1 c2 c3 c4 hg2 hg
          rintro e w5 ⟨rfl, hb5⟩
          have HBk5 := Lib.hid (HBk.out.trans (hb5.mono HBk.out.size))
          have HZ5 := Lib.hid (HZ4.out.on hb5)
          have HB5 := Lib.hid (HB4.out.trans (hb5.mono HB4.out.size))
          clear hb5
          cases hok : r.ok with
          | false =>
            have HOk := Lib.hid hok
            clear hok
            have HE : Hid (T = (.zero, 30)) := Lib.hid (by rw [HT.out]; unfold applyM; rw [if_neg (by simpa using H1.out), if_pos (.inr ⟨r, HMe.out, HOk.out⟩)])
            obtain ⟨z0, z1, z2, z3, z4⟩ := HZ5.out.c5
            have f := HZ5.out.frozen
            have hlz := HZ5.out.lt
            go_wp2
            refine bodyPost_ret (v := .tuple #[.agg #[.int .i64 0, .int .i64 0, .int .i64 0, .int .i64 0, .slice none 0 0], .int .i64 30]) (by simp [results, Try.results7, go_sem, *]) rfl ⟨.slice none 0 0, by rw [HE.out]; rfl, by rw [HE.out]; exact RulesV.nil _ _, fun k hk => by simp [Value.ownBlock] at hk, ?_⟩
            exact below5 HB5.out (by omega)
          | true =>
            have HOk := Lib.hid hok
            clear hok
            go_wp2
            go_roundw
            case rel => exact ⟨k + 1, HLt.out, by go_num, Lib.hid (by
              rw [HTe.out]
              intro y hy
              rcases List.mem_append.1 hy with hy | hy
              · exact HK.out y hy
              · rw [List.mem_singleton.1 hy]; exact HOk.out), HBk5⟩
            case measure => have := HLt.out; simp [intOf]; omega
        · obtain rfl : k = d.put.length := by omega
          have HPo : Hid (∀ r ∈ d.put, r.ok = true) := Lib.hid (by have := HK.out; rwa [List.take_length] at this)
          have HN4 := Lib.hid (HN3.out.on HBk.out)
          have HY4 := Lib.hid (HY3.out.on HBk.out)
          have HBw4 := Lib.hid (HBw3.out.trans (HBk.out.mono HBw3.out.size))
          clear HK HBk HN3 HX3 HY3 HZ3 HB3 HBw3 hlt
          go_wp2_with fail
          clear x0 x1 x2 x3 x4 x5 hlx
          refine (xtwice_any d _ _ wr hm1 hm2 (HP.out.on HB4.out) ((HD.out.below HB4.out).more HB4.out.size)).mono ?_
          rintro e w6 ⟨rfl, hb6⟩
          have HN6 := Lib.hid (HN4.out.on hb6)
          have HX6 := Lib.hid (HX4.out.on hb6)
          have HY6 := Lib.hid (HY4.out.on hb6)
          have HZ6 := Lib.hid (HZ4.out.on hb6)
          have HB6 := Lib.hid (HB4.out.trans (hb6.mono HB4.out.size))
          have HBw6 := Lib.hid (HBw4.out.trans (hb6.mono HBw4.out.size))
          clear hb6 HN4 HX4 HY4 HZ4 HB4 HBw4
          have HG30 : Hid (¬ ((nums s d).num = false ∨ ∃ r ∈ d.put, r.ok = false)) := Lib.hid (by
            rintro (h | ⟨r, h1, h2⟩)
            · rw [HNm.out] at h; cases h
            · rw [HPo.out r h1] at h2; cases h2)
          by_cases hnd : d.ids.Nodup
          · rw [decide_eq_false (fun h => h hnd)]
            have HNd := Lib.hid hnd
            clear hnd
            go_upto_region 14 with (fail)
            go_loopw [8] (fun i wr => ∃ k : Nat, k ≤ d.drop.length ∧ i = .int .i64 k ∧ Hid (∀ z ∈ d.drop.take k, z ∈ s.rs.map Ru.id) ∧ Hid (Below w6.heap.size w6 wr)) (fun i _ => d.drop.length - (intOf i).toNat)
            case atStart => exact ⟨0, Nat.zero_le _, rfl, Lib.hid (by simp), Lib.hid (Below.refl _ _)⟩
            case round =>
              obtain ⟨k, hk, rfl, HK, HBk⟩ := hrel
              have HX7 := Lib.hid (HX6.out.on HBk.out)
              have HY7 := Lib.hid (HY6.out.on HBk.out)
              have HZ7 := Lib.hid (HZ6.out.on HBk.out)
              have HB7 := Lib.hid (HB6.out.trans (HBk.out.mono HB6.out.size))
              obtain ⟨x0, x1, x2, x3, x4, x5⟩ := HX7.out.c6
              have hlx := HX7.out.lt
              by_cases hlt : k < d.drop.length
              · obtain ⟨g, off, hA, hg, c0⟩ := ((HD.out.below HB7.out)).at_ hlt
                subst hA
                have HMe := Lib.hid (List.getElem_mem hlt)
                have hte : d.drop.take (k + 1) = d.drop.take k ++ [d.drop[k]] := by rw [List.take_add_one, List.getElem?_eq_getElem hlt]; rfl
                generalize d.drop[k] = z at c0 HMe hte
                have HTe := Lib.hid hte
                have HLt := Lib.hid hlt
                clear hte
                go_upto_region 16 with (fail)
                clear x0 x1 x2 x3 x4 x5 hlx
                have HXd : Hid (Blk wr.drew (w.heap.size + 1) 40 #[.int .i64 d.de, .int .i64 d.cl, .int .i64 d.fu, .int .i64 d.st, .slice PA d.put.length PC, .slice (some ⟨g, off, none⟩) d.drop.length DC]) := HX7
                have HYd : Hid (Blk wr.drew w.heap.size 35 #[.int .i64 s.de, .int .i64 s.cl, .int .i64 s.fu, .int .i64 s.st, .slice A s.rs.length cap]) := HY7
                have HZd : Hid (Blk wr.drew (w.heap.size + 2) 35 #[.int .i64 0, .int .i64 0, .int .i64 0, .int .i64 0, .slice none 0 0]) := HZ7
                have HBd : Hid (Below w.heap.size w wr.drew) := Lib.hid HB7.out.drew
                have HBkd : Hid (Below w6.heap.size w6 wr.drew) := Lib.hid HBk.out.drew
                have hcd : Hid (wr.drew.cell? ⟨g, off + k, none⟩ = some (.int .i64 z)) := Lib.hid c0
                have HLm : Hid (s.rs.length ≤ 1000000) := Lib.hid (by omega)
                clear HX7 HY7 HZ7 HB7 HBk c0
                go_region_held3 (fun W => (W.cell? ⟨w.heap.size + 1, 0, none⟩ = some (.int .i64 d.de) ∧ W.cell? ⟨w.heap.size + 1, 1, none⟩ = some (.int .i64 d.cl) ∧ W.cell? ⟨w.heap.size + 1, 2, none⟩ = some (.int .i64 d.fu) ∧ W.cell? ⟨w.heap.size + 1, 3, none⟩ = some (.int .i64 d.st) ∧ W.cell? ⟨w.heap.size + 1, 4, none⟩ = some (.slice PA d.put.length PC) ∧ W.cell? ⟨w.heap.size + 1, 5, none⟩ = some (.slice (some ⟨g, off, none⟩) d.drop.length DC)) ∧ (W.cell? ⟨w.heap.size, 0, none⟩ = some (.int .i64 s.de) ∧ W.cell? ⟨w.heap.size, 1, none⟩ = some (.int .i64 s.cl) ∧ W.cell? ⟨w.heap.size, 2, none⟩ = some (.int .i64 s.fu) ∧ W.cell? ⟨w.heap.size, 3, none⟩ = some (.int .i64 s.st) ∧ W.cell? ⟨w.heap.size, 4, none⟩ = some (.slice A s.rs.length cap)) ∧ W.cell? ⟨g, off + k, none⟩ = some (.int .i64 z))
                  (exact ⟨HXd.out.c6, HYd.out.c5, hcd.out⟩)
                  (first
                    | (go_at_call 25; refine (xfind_any s.rs z (.slice A s.rs.length cap) wr.drew HLm.out (HS.out.on HBd.out)).mono ?_; rintro e w9 ⟨fz, rfl, hfz, rfl⟩; have HFz := Lib.hid hfz; clear hfz))
                generalize wr.drew = wd at *
                rcases HFz.out with ⟨rfl, hni⟩ | ⟨hge, hin⟩
                · have HNi := Lib.hid hni
                  clear hni
                  have HE : Hid (T = (.zero, 32)) := Lib.hid (by rw [HT.out]; unfold applyM; rw [if_neg (by simpa using H1.out), if_neg HG30.out, if_neg (fun h => h HNd.out), if_pos ⟨z, HMe.out, HNi.out⟩])
                  obtain ⟨z0, z1, z2, z3, z4⟩ := HZd.out.c5
                  have f := HZd.out.frozen
                  have hlz := HZd.out.lt
                  go_wp2
                  refine bodyPost_ret (v := .tuple #[.agg #[.int .i64 0, .int .i64 0, .int .i64 0, .int .i64 0, .slice none 0 0], .int .i64 32]) (by simp [results, Try.results7, go_sem, *]) rfl ⟨.slice none 0 0, by rw [HE.out]; rfl, by rw [HE.out]; exact RulesV.nil _ _, fun k hk => by simp [Value.ownBlock] at hk, ?_⟩
                  exact below5 HBd.out (by omega)
                · have hlt0 : ¬ fz < 0 := by omega
                  have HIn := Lib.hid hin
                  clear hin hge
                  go_wp2
                  go_roundw
                  case rel => exact ⟨k + 1, HLt.out, by go_num, Lib.hid (by
                    rw [HTe.out]
                    intro y hy
                    rcases List.mem_append.1 hy with hy | hy
                    · exact HK.out y hy
                    · rw [List.mem_singleton.1 hy]; exact HIn.out), HBkd⟩
                  case measure => have := HLt.out; simp [intOf]; omega
              · rename World => wb
                obtain rfl : k = d.drop.length := by omega
                have HDi : Hid (∀ z ∈ d.drop, z ∈ s.rs.map Ru.id) := Lib.hid (by have := HK.out; rwa [List.take_length] at this)
                have HN7 := Lib.hid (HN6.out.on HBk.out)
                have HBw7 := Lib.hid (HBw6.out.trans (HBk.out.mono HBw6.out.size))
                clear HK HBk HN6 HX6 HY6 HZ6 HB6 HBw6 hlt hk
                have hw2r := HBw7.out.size
                obtain ⟨y0, y1, y2, y3, y4⟩ := HY7.out.c5
                have hly := HY7.out.lt
                go_upto_region 19 with (fail)
                clear x0 x1 x2 x3 x4 x5 hlx y0 y1 y2 y3 y4 hly
                go_loopw [9, 10, 11] (fun i _ _ wl => ∃ (m : Nat) (V : Value), m ≤ s.rs.length ∧ i = .int .i64 m ∧ Hid (Blk wl w2.heap.size 35 #[.int .i64 n1, .int .i64 n2, .int .i64 n3, .int .i64 n4, V]) ∧ Hid (OwnU wl (w2.heap.size + 1) 57 V (drops (s.rs.take m) d.drop)) ∧ Hid (Below w2.heap.size wb wl)) (fun i _ _ _ => s.rs.length - (intOf i).toNat)
                case atStart => exact ⟨0, _, Nat.zero_le _, rfl, HN7, Lib.hid (OwnU.nil _ _ _), Lib.hid (Below.refl _ _)⟩
                case round =>
                  clear HN7
                  rename World => wl
                  obtain ⟨m, V, hm, rfl, HNl, HVl, HBl⟩ := hrel
                  have HXl := Lib.hid (HX7.out.below HBl.out (by omega))
                  have HYl := Lib.hid (HY7.out.below HBl.out (by omega))
                  have HZl := Lib.hid (HZ7.out.below HBl.out (by omega))
                  have HBa := Lib.hid (HB7.out.trans (HBl.out.mono (by omega : w.heap.size ≤ w2.heap.size)))
                  have hswl := HBa.out.size
                  have hwl2 := Nat.le_trans hw2r HBl.out.size
                  obtain ⟨y0, y1, y2, y3, y4⟩ := HYl.out.c5
                  have hly := HYl.out.lt
                  by_cases hlm : m < s.rs.length
                  · obtain ⟨g, off, hA, hg, hra⟩ := HS.out.at_ hlm
                    subst hA
                    have hts : s.rs.take (m + 1) = s.rs.take m ++ [s.rs[m]] := ru_take (List.getElem?_eq_getElem hlm)
                    have hdl := drops_len (s.rs.take m) d.drop
                    have hlm2 : m < s.rs.length := hlm
                    generalize s.rs[m] = x at hra hts
                    have HTs := Lib.hid hts
                    have HRa := Lib.hid hra
                    have HLm := Lib.hid hlm
                    have HDl : Hid ((drops (s.rs.take m) d.drop).length + 1 ≤ 1000000) := Lib.hid (by rw [List.length_take] at hdl; omega)
                    have hgw := hg
                    clear hts hra hdl
                    go_upto_region 23 with (fail)
                    clear y0 y1 y2 y3 y4 hly
                    go_loopw [10, 11] (fun gv i wk => ∃ j : Nat, j ≤ d.drop.length ∧ i = .int .i64 j ∧ gv = .bool (decide (x.id ∈ d.drop.take j)) ∧ Hid (Below wl.heap.size wl wk)) (fun _ i _ => d.drop.length - (intOf i).toNat)
                    case atStart => exact ⟨0, Nat.zero_le _, rfl, by simp, Lib.hid (Below.refl _ _)⟩
                    case round =>
                      rename World => wk
                      obtain ⟨j, hj, rfl, hgv, HBj⟩ := hrel
                      have HXj := Lib.hid (HXl.out.on HBj.out)
                      have HYj := Lib.hid (HYl.out.on HBj.out)
                      have HBaj := Lib.hid (HBa.out.trans (HBj.out.mono HBa.out.size))
                      obtain ⟨x0, x1, x2, x3, x4, x5⟩ := HXj.out.c6
                      have hlx := HXj.out.lt
                      obtain ⟨y0, y1, y2, y3, y4⟩ := HYj.out.c5
                      have hly := HYj.out.lt
                      obtain ⟨bv, hbv⟩ : ∃ bv, bv = decide (x.id ∈ d.drop.take j) := ⟨_, rfl⟩
                      rw [← hbv] at hgv
                      subst hgv
                      have HBv := Lib.hid hbv
                      clear hbv
                      by_cases hjl : j < d.drop.length
                      · obtain ⟨gd, offd, hDA, hgd, cd⟩ := (HD.out.below HBaj.out).at_ hjl
                        subst hDA
                        have hgd2 : gd < wk.heap.size := by have := HBaj.out.size; omega
                        have hte : d.drop.take (j + 1) = d.drop.take j ++ [d.drop[j]] := by rw [List.take_add_one, List.getElem?_eq_getElem hjl]; rfl
                        generalize d.drop[j] = z at cd hte
                        have HTe := Lib.hid hte
                        have HJl := Lib.hid hjl
                        have hg2 : g < wk.heap.size := by have := HBaj.out.size; omega
                        obtain ⟨c0, c1, c2, c3, c4⟩ := HRa.out.on' hgw HBaj.out
                        clear hte
                        have hjl2 : j < d.drop.length := hjl
                        cases bv with
                        | true =>
                          have HNx : Hid (Value.bool true = .bool (decide (x.id ∈ d.drop.take (j + 1)))) := Lib.hid (by
                            have := of_decide_eq_true HBv.out.symm
                            rw [HTe.out]; simp [this])
                          go_upto_region 25 with (fail)
                          go_region
                          have HBd : Hid (Below wl.heap.size wl wk.drew) := Lib.hid HBj.out.drew
                          generalize wk.drew = wd at *
                          clear c0 c1 c2 c3 c4 x0 x1 x2 x3 x4 x5 hlx y0 y1 y2 y3 y4 hly cd
                          go_wp2
                          go_roundw
                          case rel => exact ⟨j + 1, HJl.out, by go_num, HNx.out, HBd⟩
                          case measure => have := HJl.out; simp [intOf]; omega
                        | false =>
                          have hno : x.id ∉ d.drop.take j := of_decide_eq_false HBv.out.symm
                          by_cases he : z = x.id
                          · have HNx : Hid (Value.bool true = .bool (decide (x.id ∈ d.drop.take (j + 1)))) := Lib.hid (by
                              rw [HTe.out]; simp [he])
                            have heb : (z == x.id) = true := by simp [he]
                            clear hno
                            go_upto_region 25 with (fail)
                            go_region
                            have HBd : Hid (Below wl.heap.size wl wk.drew) := Lib.hid HBj.out.drew
                            generalize wk.drew = wd at *
                            clear c0 c1 c2 c3 c4 x0 x1 x2 x3 x4 x5 hlx y0 y1 y2 y3 y4 hly cd
                            go_wp2
                            go_roundw
                            case rel => exact ⟨j + 1, HJl.out, by go_num, HNx.out, HBd⟩
                            case measure => have := HJl.out; simp [intOf]; omega
                          · have HNx : Hid (Value.bool false = .bool (decide (x.id ∈ d.drop.take (j + 1)))) := Lib.hid (by
                              rw [HTe.out]; simp [hno, Ne.symm he])
                            have heb : (z == x.id) = false := by simp [he]
                            clear hno
                            go_upto_region 25 with (fail)
                            go_region
                            have HBd : Hid (Below wl.heap.size wl wk.drew) := Lib.hid HBj.out.drew
                            generalize wk.drew = wd at *
                            clear c0 c1 c2 c3 c4 x0 x1 x2 x3 x4 x5 hlx y0 y1 y2 y3 y4 hly cd
                            go_wp2
                            go_roundw
                            case rel => exact ⟨j + 1, HJl.out, by go_num, HNx.out, HBd⟩
                            case measure => have := HJl.out; simp [intOf]; omega
                      · obtain rfl : j = d.drop.length := by omega
                        have HNk := Lib.hid (HNl.out.on HBj.out)
                        have HVk := Lib.hid (HVl.out.on HBj.out)
                        have HBk := Lib.hid (HBl.out.trans (HBj.out.mono (by omega : w2.heap.size ≤ wl.heap.size)))
                        rw [List.take_length] at HBv
                        cases bv with
                        | true =>
                          have HV2 : Hid (OwnU wk (w2.heap.size + 1) 57 V (drops (s.rs.take (m + 1)) d.drop)) := Lib.hid (by
                            rw [HTs.out, drops_one, if_pos (of_decide_eq_true HBv.out.symm)]; exact HVk.out)
                          clear HXl HYl HZl HVk HVl HNl HBl
                          go_wp2
                          clear x0 x1 x2 x3 x4 x5 hlx y0 y1 y2 y3 y4 hly
                          go_roundw
                          case rel => exact ⟨m + 1, V, HLm.out, by go_num, HNk, HV2, HBk⟩
                          case measure => have := HLm.out; simp [intOf]; omega
                        | false =>
                          have hni : x.id ∉ d.drop := of_decide_eq_false HBv.out.symm
                          have HNi := Lib.hid hni
                          obtain ⟨VA, VC, hVf⟩ := HVk.out.form
                          subst hVf
                          have hsz2 : w2.heap.size < wk.heap.size := HNk.out.lt
                          have HRk := Lib.hid (HRa.out.on' hgw HBaj.out)
                          clear hni HXl HYl HZl HVl HNl HBl
                          go_upto_region 27 with (fail)
                          clear x0 x1 x2 x3 x4 x5 hlx y0 y1 y2 y3 y4 hly
                          have HNd : Hid (Blk wk.drew w2.heap.size 35 #[.int .i64 n1, .int .i64 n2, .int .i64 n3, .int .i64 n4, .slice VA (drops (s.rs.take m) d.drop).length VC]) := HNk
                          have HYd : Hid (Blk wk.drew w.heap.size 35 #[.int .i64 s.de, .int .i64 s.cl, .int .i64 s.fu, .int .i64 s.st, .slice (some ⟨g, off, none⟩) s.rs.length cap]) := HYj
                          have HRd : Hid (RuAt wk.drew g (off + m * 5) x) := HRk
                          have HVd : Hid (OwnU wk.drew (w2.heap.size + 1) 57 (.slice VA (drops (s.rs.take m) d.drop).length VC) (drops (s.rs.take m) d.drop)) := HVk
                          have HBd : Hid (Below w2.heap.size wb wk.drew) := Lib.hid HBk.out.drew
                          refine wp_region_held_drew (S := fun W => Blk W w.heap.size 35 #[.int .i64 s.de, .int .i64 s.cl, .int .i64 s.fu, .int .i64 s.st, .slice (some ⟨g, off, none⟩) s.rs.length cap] ∧ RuAt W g (off + m * 5) x) (by kernel_rfl) ⟨HYd.out, HRd.out⟩ (fun hHeld => ?_)
                          clear HNk HYj HRk HVk HBk
                          generalize wk.drew = wd at *
                          refine take_d 0 108 (.pointer (some ⟨w2.heap.size, 4, none⟩)) _ rfl rfl (by kernel_rfl) (by kernel_rfl) (by kernel_rfl) (fun _ _ _ h => h) (Or.inl ⟨by rfl, fun w' hSw => ?_⟩) hHeld ?_
                          · clear hSw
                            go_simp
                          try simp only [List.setIfInBounds_toArray, List.set_cons_zero, List.set_cons_succ]
                          refine take_d 2 110 (.pointer (some ⟨w.heap.size, 4, none⟩)) _ rfl rfl (by kernel_rfl) (by kernel_rfl) (by kernel_rfl) (fun _ _ _ h => h) (Or.inl ⟨by rfl, fun w' hSw => ?_⟩) hHeld ?_
                          · clear hSw
                            go_simp
                          try simp only [List.setIfInBounds_toArray, List.set_cons_zero, List.set_cons_succ]
                          refine take_d 3 111 (.slice (some ⟨g, off, none⟩) s.rs.length cap) _ rfl rfl (by kernel_rfl) (by kernel_rfl) (by kernel_rfl) (fun _ _ _ h => h) (Or.inl ⟨by rfl, fun w' hSw => ?_⟩) hHeld ?_
                          · have q := hSw.1.cell 4
                            clear hSw
                            go_simp
                          try simp only [List.setIfInBounds_toArray, List.set_cons_zero, List.set_cons_succ]
                          refine take_d 4 112 (.int .i64 m) _ rfl rfl (by kernel_rfl) (by kernel_rfl) (by kernel_rfl) (fun _ _ _ h => h) (Or.inl ⟨by rfl, fun w' hSw => ?_⟩) hHeld ?_
                          · clear hSw
                            go_simp
                          try simp only [List.setIfInBounds_toArray, List.set_cons_zero, List.set_cons_succ]
                          refine take_d 5 113 (.pointer (some ⟨g, off + m * 5, none⟩)) _ rfl rfl (by kernel_rfl) (by kernel_rfl) (by kernel_rfl) (fun _ _ _ h => h) (Or.inl ⟨by rfl, fun w' hSw => ?_⟩) hHeld ?_
                          · clear hSw
                            go_simp
                          try simp only [List.setIfInBounds_toArray, List.set_cons_zero, List.set_cons_succ]
                          refine take_d 6 114 (.agg #[.int .i64 x.id, .int .i64 x.pr, .int .i64 x.ac, .int .i64 x.sc, .string x.pat]) _ rfl rfl (by kernel_rfl) (by kernel_rfl) (by kernel_rfl) (fun _ _ _ h => h) (Or.inl ⟨by rfl, fun w' hSw => ?_⟩) hHeld ?_
                          · obtain ⟨q0, q1, q2, q3, q4⟩ := hSw.2
                            clear hSw
                            go_simp
                          try simp only [List.setIfInBounds_toArray, List.set_cons_zero, List.set_cons_succ]
                          have hwd2 : w2.heap.size ≤ wd.heap.size := by have := HBd.out.size; omega
                          have hBx : Below w2.heap.size wd (wd.alloc (.cells #[.int .i64 x.id, .int .i64 x.pr, .int .i64 x.ac, .int .i64 x.sc, .string x.pat] 57)) := (Below.refl _ _).alloc hwd2 _
                          have HVx := Lib.hid (HVd.out.alloc (.cells #[.int .i64 x.id, .int .i64 x.pr, .int .i64 x.ac, .int .i64 x.sc, .string x.pat] 57))
                          have HEx : Hid (Blk (wd.alloc (.cells #[.int .i64 x.id, .int .i64 x.pr, .int .i64 x.ac, .int .i64 x.sc, .string x.pat] 57)) wd.heap.size 57 #[.int .i64 x.id, .int .i64 x.pr, .int .i64 x.ac, .int .i64 x.sc, .string x.pat]) := Lib.hid (Blk.at_new _ _ rfl _ _)
                          have HYx := Lib.hid (HYd.out.below hBx (by omega))
                          have HRx := Lib.hid (HRd.out.below (show g < w2.heap.size by omega) hBx)
                          have HSx : Hid ((wd.alloc (.cells #[.int .i64 x.id, .int .i64 x.pr, .int .i64 x.ac, .int .i64 x.sc, .string x.pat] 57)).heap.size = wd.heap.size + 1) := Lib.hid (by simp)
                          clear hBx
                          have z4 := HNd.out.cell 4
                          have zl := HNd.out.lt
                          refine wpAnyH_ready (rs := [1, 7]) (by kernel_rfl) (by simp) ?_
                          refine AllReadyH.cons rfl (fun K hK => ?_) (AllReadyH.cons rfl (fun K hK => ?_) AllReadyH.nil)
                          · go_simp
                            refine hK.out _ _ hHeld (fun _ => ?_)
                            clear hK K
                            try simp only [List.setIfInBounds_toArray, List.set_cons_zero, List.set_cons_succ]
                            refine wpAnyH_ready (rs := [7]) (by kernel_rfl) (by simp) ?_
                            refine AllReadyH.cons rfl (fun K hK => ?_) AllReadyH.nil
                            go_simp
                            refine hK.out _ _ ⟨HYx.out, HRx.out⟩ (fun _ => ?_)
                            clear hK K z4 zl hHeld
                            try simp only [List.setIfInBounds_toArray, List.set_cons_zero, List.set_cons_succ]
                            refine wpAnyH_ready (rs := [8]) (by kernel_rfl) (by simp) ?_
                            refine AllReadyH.cons rfl (fun K hK => ?_) AllReadyH.nil
                            obtain ⟨i0, hi, hz0, hz1, hz2⟩ := info_three infoX
                            refine step_append_rule (.agg #[.int .i64 0, .int .i64 0, .int .i64 0, .int .i64 0, .string ⟨#[]⟩]) Try.underlying33 rfl (by decide) _ rfl (.tmp 109) (.tmp 115) rfl i0 hi hz0 hz1 hz2 (w2.heap.size + 1) (.slice VA (drops (s.rs.take m) d.drop).length VC) (drops (s.rs.take m) d.drop) rfl HVx.out wd.heap.size 1 x rfl HEx.out HDl.out (by have := HSx.out; omega) ?_
                            intro v' w' hown hgr
                            have hB' : Below w2.heap.size wd w' := (((Below.refl _ _).alloc hwd2 _).grown hgr (by simp; omega) (fun j hj => by have := (World.ownsRow.lt HVd.out j hj).1; omega))
                            have hY' := HYd.out.below hB' (by omega)
                            have hR' := HRd.out.below (show g < w2.heap.size by omega) hB'
                            have hN' : Blk w' w2.heap.size 35 #[.int .i64 n1, .int .i64 n2, .int .i64 n3, .int .i64 n4, .slice VA (drops (s.rs.take m) d.drop).length VC] := (HNd.out.alloc _).grown hgr (fun e => by have := (World.ownsRow.lt HVd.out _ e.symm).1; omega)
                            obtain ⟨LN, hLN⟩ : ∃ LN, LN = (drops (s.rs.take m) d.drop ++ [x]).length := ⟨_, rfl⟩
                            obtain ⟨VB, VD, hVf⟩ := OwnU.form hown
                            rw [← hLN] at hVf
                            clear hLN
                            subst hVf
                            refine hK.out _ _ ⟨hY', hR'⟩ (fun _ => ?_)
                            clear hK K
                            try simp only [List.setIfInBounds_toArray, List.set_cons_zero, List.set_cons_succ]
                            have hHeld := And.intro hY' hR'
                            refine take_d 9 117 (.pointer (some ⟨w2.heap.size, 4, none⟩)) _ rfl rfl (by kernel_rfl) (by kernel_rfl) (by kernel_rfl) (fun _ _ _ h => h) (Or.inl ⟨by rfl, fun w' hSw => ?_⟩) hHeld ?_
                            · clear hSw
                              go_simp
                            try simp only [List.setIfInBounds_toArray, List.set_cons_zero, List.set_cons_succ]
                            have z4' := hN'.cell 4
                            have f4' := hN'.frozen 4
                            have l4' := hN'.lt
                            have HN9 := Lib.hid (hN'.set_ 4 (.slice VB LN VD))
                            have HV9 : Hid (OwnU (w'.setCell ⟨w2.heap.size, 4, none⟩ (.slice VB LN VD)) (w2.heap.size + 1) 57 (.slice VB LN VD) (drops (s.rs.take (m + 1)) d.drop)) := Lib.hid (by
                              rw [HTs.out, drops_one, if_neg HNi.out]
                              exact hown.farset (fun e => by have := (World.ownsRow.lt hown _ e).1; simp only at this; omega) _)
                            have HB9 := Lib.hid ((HBd.out.trans (hB'.mono (Nat.le_refl _))).setCell (p := ⟨w2.heap.size, 4, none⟩) (Nat.le_refl _) (.slice VB LN VD))
                            have hy9 : Blk (w'.setCell ⟨w2.heap.size, 4, none⟩ (.slice VB LN VD)) w.heap.size 35 #[.int .i64 s.de, .int .i64 s.cl, .int .i64 s.fu, .int .i64 s.st, .slice (some ⟨g, off, none⟩) s.rs.length cap] := hY'.far (p := ⟨w2.heap.size, 4, none⟩) (by simp only; omega) _
                            have hr9 : RuAt (w'.setCell ⟨w2.heap.size, 4, none⟩ (.slice VB LN VD)) g (off + m * 5) x := hR'.below (show g < w2.heap.size by omega) ((Below.refl _ _).setCell (p := ⟨w2.heap.size, 4, none⟩) (Nat.le_refl _) _)
                            have HY9 := Lib.hid hy9
                            have HR9 := Lib.hid hr9
                            clear hB' hY' hR' hN' hown hgr hHeld hy9 hr9
                            refine wpAnyH_ready (rs := [10]) (by kernel_rfl) (by simp) ?_
                            refine AllReadyH.cons rfl (fun K hK => ?_) AllReadyH.nil
                            go_simp
                            refine hK.out _ _ ⟨HY9.out, HR9.out⟩ (fun _ => ?_)
                            clear hK K z4' f4' l4'
                            refine wpAnyH_done (by kernel_rfl) ?_ _
                            try simp only [List.setIfInBounds_toArray, List.set_cons_zero, List.set_cons_succ]
                            generalize w'.setCell ⟨w2.heap.size, 4, none⟩ (.slice VB LN VD) = w9 at *
                            go_wp2
                            go_roundw
                            case rel => exact ⟨m + 1, _, HLm.out, by go_num, HN9, HV9, HB9⟩
                            case measure => have := HLm.out; simp [intOf]; omega
                          · go_simp
                            refine hK.out _ _ ⟨HYx.out, HRx.out⟩ (fun _ => ?_)
                            clear hK K z4 zl hHeld
                            have z4 : (wd.alloc (.cells #[.int .i64 x.id, .int .i64 x.pr, .int .i64 x.ac, .int .i64 x.sc, .string x.pat] 57)).cell? ⟨w2.heap.size, 4, none⟩ = some (.slice VA (drops (s.rs.take m) d.drop).length VC) := (HNd.out.alloc _).cell 4
                            have zl : w2.heap.size < (wd.alloc (.cells #[.int .i64 x.id, .int .i64 x.pr, .int .i64 x.ac, .int .i64 x.sc, .string x.pat] 57)).heap.size := (HNd.out.alloc _).lt
                            try simp only [List.setIfInBounds_toArray, List.set_cons_zero, List.set_cons_succ]
                            refine wpAnyH_ready (rs := [1]) (by kernel_rfl) (by simp) ?_
                            refine AllReadyH.cons rfl (fun K hK => ?_) AllReadyH.nil
                            go_simp
                            refine hK.out _ _ ⟨HYx.out, HRx.out⟩ (fun _ => ?_)
                            clear hK K z4 zl
                            try simp only [List.setIfInBounds_toArray, List.set_cons_zero, List.set_cons_succ]
                            refine wpAnyH_ready (rs := [8]) (by kernel_rfl) (by simp) ?_
                            refine AllReadyH.cons rfl (fun K hK => ?_) AllReadyH.nil
                            obtain ⟨i0, hi, hz0, hz1, hz2⟩ := info_three infoX
                            refine step_append_rule (.agg #[.int .i64 0, .int .i64 0, .int .i64 0, .int .i64 0, .string ⟨#[]⟩]) Try.underlying33 rfl (by decide) _ rfl (.tmp 109) (.tmp 115) rfl i0 hi hz0 hz1 hz2 (w2.heap.size + 1) (.slice VA (drops (s.rs.take m) d.drop).length VC) (drops (s.rs.take m) d.drop) rfl HVx.out wd.heap.size 1 x rfl HEx.out HDl.out (by have := HSx.out; omega) ?_
                            intro v' w' hown hgr
                            have hB' : Below w2.heap.size wd w' := (((Below.refl _ _).alloc hwd2 _).grown hgr (by simp; omega) (fun j hj => by have := (World.ownsRow.lt HVd.out j hj).1; omega))
                            have hY' := HYd.out.below hB' (by omega)
                            have hR' := HRd.out.below (show g < w2.heap.size by omega) hB'
                            have hN' : Blk w' w2.heap.size 35 #[.int .i64 n1, .int .i64 n2, .int .i64 n3, .int .i64 n4, .slice VA (drops (s.rs.take m) d.drop).length VC] := (HNd.out.alloc _).grown hgr (fun e => by have := (World.ownsRow.lt HVd.out _ e.symm).1; omega)
                            obtain ⟨LN, hLN⟩ : ∃ LN, LN = (drops (s.rs.take m) d.drop ++ [x]).length := ⟨_, rfl⟩
                            obtain ⟨VB, VD, hVf⟩ := OwnU.form hown
                            rw [← hLN] at hVf
                            clear hLN
                            subst hVf
                            refine hK.out _ _ ⟨hY', hR'⟩ (fun _ => ?_)
                            clear hK K
                            try simp only [List.setIfInBounds_toArray, List.set_cons_zero, List.set_cons_succ]
                            have hHeld := And.intro hY' hR'
                            refine take_d 9 117 (.pointer (some ⟨w2.heap.size, 4, none⟩)) _ rfl rfl (by kernel_rfl) (by kernel_rfl) (by kernel_rfl) (fun _ _ _ h => h) (Or.inl ⟨by rfl, fun w' hSw => ?_⟩) hHeld ?_
                            · clear hSw
                              go_simp
                            try simp only [List.setIfInBounds_toArray, List.set_cons_zero, List.set_cons_succ]
                            have z4' := hN'.cell 4
                            have f4' := hN'.frozen 4
                            have l4' := hN'.lt
                            have HN9 := Lib.hid (hN'.set_ 4 (.slice VB LN VD))
                            have HV9 : Hid (OwnU (w'.setCell ⟨w2.heap.size, 4, none⟩ (.slice VB LN VD)) (w2.heap.size + 1) 57 (.slice VB LN VD) (drops (s.rs.take (m + 1)) d.drop)) := Lib.hid (by
                              rw [HTs.out, drops_one, if_neg HNi.out]
                              exact hown.farset (fun e => by have := (World.ownsRow.lt hown _ e).1; simp only at this; omega) _)
                            have HB9 := Lib.hid ((HBd.out.trans (hB'.mono (Nat.le_refl _))).setCell (p := ⟨w2.heap.size, 4, none⟩) (Nat.le_refl _) (.slice VB LN VD))
                            have hy9 : Blk (w'.setCell ⟨w2.heap.size, 4, none⟩ (.slice VB LN VD)) w.heap.size 35 #[.int .i64 s.de, .int .i64 s.cl, .int .i64 s.fu, .int .i64 s.st, .slice (some ⟨g, off, none⟩) s.rs.length cap] := hY'.far (p := ⟨w2.heap.size, 4, none⟩) (by simp only; omega) _
                            have hr9 : RuAt (w'.setCell ⟨w2.heap.size, 4, none⟩ (.slice VB LN VD)) g (off + m * 5) x := hR'.below (show g < w2.heap.size by omega) ((Below.refl _ _).setCell (p := ⟨w2.heap.size, 4, none⟩) (Nat.le_refl _) _)
                            have HY9 := Lib.hid hy9
                            have HR9 := Lib.hid hr9
                            clear hB' hY' hR' hN' hown hgr hHeld hy9 hr9
                            refine wpAnyH_ready (rs := [10]) (by kernel_rfl) (by simp) ?_
                            refine AllReadyH.cons rfl (fun K hK => ?_) AllReadyH.nil
                            go_simp
                            refine hK.out _ _ ⟨HY9.out, HR9.out⟩ (fun _ => ?_)
                            clear hK K z4' f4' l4'
                            refine wpAnyH_done (by kernel_rfl) ?_ _
                            try simp only [List.setIfInBounds_toArray, List.set_cons_zero, List.set_cons_succ]
                            generalize w'.setCell ⟨w2.heap.size, 4, none⟩ (.slice VB LN VD) = w9 at *
                            go_wp2
                            go_roundw
                            case rel => exact ⟨m + 1, _, HLm.out, by go_num, HN9, HV9, HB9⟩
                            case measure => have := HLm.out; simp [intOf]; omega
                  · obtain rfl : m = s.rs.length := by omega
                    have HV8 : Hid (OwnU wl (w2.heap.size + 1) 57 V (drops s.rs d.drop)) := Lib.hid (by have := HVl.out; rwa [List.take_length] at this)
                    obtain ⟨x0, x1, x2, x3, x4, x5⟩ := HXl.out.c6
                    have hlx := HXl.out.lt
                    clear HVl
                    go_upto_region 29 with (fail)
                    clear x0 x1 x2 x3 x4 x5 hlx y0 y1 y2 y3 y4 hly
                    go_loopw [12] (fun i wp => ∃ (q : Nat) (V : Value), q ≤ d.put.length ∧ i = .int .i64 q ∧ Hid (Blk wp w2.heap.size 35 #[.int .i64 n1, .int .i64 n2, .int .i64 n3, .int .i64 n4, V]) ∧ Hid (OwnU wp (w2.heap.size + 1) 57 V (puts (drops s.rs d.drop) (d.put.take q))) ∧ Hid (Below w2.heap.size wb wp)) (fun i _ => d.put.length - (intOf i).toNat)
                    case atStart => exact ⟨0, V, Nat.zero_le _, rfl, HNl, HV8, HBl⟩
                    case round =>
                      clear HNl HV8 HXl HYl HZl HBa hswl hwl2 HBl
                      rename World => wp
                      obtain ⟨q, V, hq, rfl, HNp, HVp, HBp⟩ := hrel
                      have HXp := Lib.hid (HX7.out.below HBp.out (by omega))
                      have HZp := Lib.hid (HZ7.out.below HBp.out (by omega))
                      have HBa := Lib.hid (HB7.out.trans (HBp.out.mono (by omega : w.heap.size ≤ w2.heap.size)))
                      have hswp := HBa.out.size
                      have hwp2 := Nat.le_trans hw2r HBp.out.size
                      obtain ⟨x0, x1, x2, x3, x4, x5⟩ := HXp.out.c6
                      have hlx := HXp.out.lt
                      obtain ⟨VA, VC, hVf⟩ := HVp.out.form
                      subst hVf
                      by_cases hlq : q < d.put.length
                      · obtain ⟨g, off, hA, hg, hra⟩ := HP.out.at_ hlq
                        subst hA
                        have hts : d.put.take (q + 1) = d.put.take q ++ [d.put[q]] := ru_take (List.getElem?_eq_getElem hlq)
                        have hlq2 : q < d.put.length := hlq
                        generalize d.put[q] = x at hra hts
                        have HTs := Lib.hid hts
                        have HRa := Lib.hid (hra.on' hg HBa.out)
                        have HLq := Lib.hid hlq
                        have hgw := hg
                        have HRi : Hid (Rise (puts (drops s.rs d.drop) (d.put.take q))) := Lib.hid ((H1.out.2.2.2.drops _).puts _)
                        have HLe : Hid ((puts (drops s.rs d.drop) (d.put.take q)).length ≤ 10000) := Lib.hid (by
                          have h1 := puts_len (d.put.take q) (drops s.rs d.drop)
                          have h2 := drops_len s.rs d.drop
                          rw [List.length_take] at h1
                          omega)
                        obtain ⟨L, hL⟩ : ∃ L, L = puts (drops s.rs d.drop) (d.put.take q) := ⟨_, rfl⟩
                        rw [← hL] at HRi HLe HVp HNp
                        have HLl := Lib.hid hL
                        clear hts hra hL
                        go_upto_region 31 with (fail)
                        clear x0 x1 x2 x3 x4 x5 hlx
                        have HNd : Hid (Blk wp.drew w2.heap.size 35 #[.int .i64 n1, .int .i64 n2, .int .i64 n3, .int .i64 n4, .slice VA L.length VC]) := HNp
                        have HXd : Hid (Blk wp.drew (w.heap.size + 1) 40 #[.int .i64 d.de, .int .i64 d.cl, .int .i64 d.fu, .int .i64 d.st, .slice (some ⟨g, off, none⟩) d.put.length PC, .slice DA d.drop.length DC]) := HXp
                        have HRd : Hid (RuAt wp.drew g (off + q * 5) x) := HRa
                        have HVd : Hid (OwnU wp.drew (w2.heap.size + 1) 57 (.slice VA L.length VC) L) := HVp
                        have HBd : Hid (Below w2.heap.size wb wp.drew) := Lib.hid HBp.out.drew
                        have hpd : w2.heap.size ≤ wp.drew.heap.size := hwp2
                        refine wp_region_held_drew (S := fun W => Blk W (w.heap.size + 1) 40 #[.int .i64 d.de, .int .i64 d.cl, .int .i64 d.fu, .int .i64 d.st, .slice (some ⟨g, off, none⟩) d.put.length PC, .slice DA d.drop.length DC] ∧ RuAt W g (off + q * 5) x) (by kernel_rfl) ⟨HXd.out, HRd.out⟩ (fun hHeld => ?_)
                        clear HNp HXp HRa HVp HBp hwp2 HBa hswp HZp
                        generalize wp.drew = wd at *
                        refine take_d 0 125 (.pointer (some ⟨w2.heap.size, 4, none⟩)) _ rfl rfl (by kernel_rfl) (by kernel_rfl) (by kernel_rfl) (fun _ _ _ h => h) (Or.inl ⟨by rfl, fun w' hSw => ?_⟩) hHeld ?_
                        · clear hSw
                          go_simp
                        try simp only [List.setIfInBounds_toArray, List.set_cons_zero, List.set_cons_succ]
                        refine take_d 2 127 (.pointer (some ⟨w.heap.size + 1, 4, none⟩)) _ rfl rfl (by kernel_rfl) (by kernel_rfl) (by kernel_rfl) (fun _ _ _ h => h) (Or.inl ⟨by rfl, fun w' hSw => ?_⟩) hHeld ?_
                        · clear hSw
                          go_simp
                        try simp only [List.setIfInBounds_toArray, List.set_cons_zero, List.set_cons_succ]
                        refine take_d 3 128 (.slice (some ⟨g, off, none⟩) d.put.length PC) _ rfl rfl (by kernel_rfl) (by kernel_rfl) (by kernel_rfl) (fun _ _ _ h => h) (Or.inl ⟨by rfl, fun w' hSw => ?_⟩) hHeld ?_
                        · have q4 := hSw.1.cell 4
                          clear hSw
                          go_simp
                        try simp only [List.setIfInBounds_toArray, List.set_cons_zero, List.set_cons_succ]
                        refine take_d 4 129 (.int .i64 q) _ rfl rfl (by kernel_rfl) (by kernel_rfl) (by kernel_rfl) (fun _ _ _ h => h) (Or.inl ⟨by rfl, fun w' hSw => ?_⟩) hHeld ?_
                        · clear hSw
                          go_simp
                        try simp only [List.setIfInBounds_toArray, List.set_cons_zero, List.set_cons_succ]
                        refine take_d 5 130 (.pointer (some ⟨g, off + q * 5, none⟩)) _ rfl rfl (by kernel_rfl) (by kernel_rfl) (by kernel_rfl) (fun _ _ _ h => h) (Or.inl ⟨by rfl, fun w' hSw => ?_⟩) hHeld ?_
                        · clear hSw
                          go_simp
                        try simp only [List.setIfInBounds_toArray, List.set_cons_zero, List.set_cons_succ]
                        refine take_d 6 131 (.agg #[.int .i64 x.id, .int .i64 x.pr, .int .i64 x.ac, .int .i64 x.sc, .string x.pat]) _ rfl rfl (by kernel_rfl) (by kernel_rfl) (by kernel_rfl) (fun _ _ _ h => h) (Or.inl ⟨by rfl, fun w' hSw => ?_⟩) hHeld ?_
                        · obtain ⟨q0, q1, q2, q3, q4⟩ := hSw.2
                          clear hSw
                          go_simp
                        try simp only [List.setIfInBounds_toArray, List.set_cons_zero, List.set_cons_succ]
                        have z4 := HNd.out.cell 4
                        have zl := HNd.out.lt
                        refine wpAnyH_ready (rs := [1]) (by kernel_rfl) (by simp) ?_
                        refine AllReadyH.cons rfl (fun K hK => ?_) AllReadyH.nil
                        go_simp
                        refine hK.out _ _ hHeld (fun _ => ?_)
                        clear hK K z4 zl
                        try simp only [List.setIfInBounds_toArray, List.set_cons_zero, List.set_cons_succ]
                        have hgd : g < wd.heap.size := by have := HBd.out.size; omega
                        have hwd1 : w2.heap.size < wd.heap.size := HNd.out.lt
                        refine wpAnyH_callP 7 132 (f := 26) (args := #[.slice VA L.length VC, .agg #[.int .i64 x.id, .int .i64 x.pr, .int .i64 x.ac, .int .i64 x.sc, .string x.pat]]) rfl rfl (by kernel_rfl) rfl (by kernel_rfl) (xput_any L x (.slice VA L.length VC) wd HLe.out HRi.out HVd.out.set) ?_
                        rintro e w' ⟨V', rfl, hV', hb'⟩
                        have hX' := HXd.out.on hb'
                        have hR' := HRd.out.below hgd hb'
                        obtain ⟨LN, hLN⟩ : ∃ LN, LN = (ins x L).length := ⟨_, rfl⟩
                        obtain ⟨VB, VD, hVf⟩ := OwnU.form hV'
                        rw [← hLN] at hVf
                        clear hLN
                        subst hVf
                        refine ⟨_, rfl, ⟨hX', hR'⟩, ?_⟩
                        try simp only [List.setIfInBounds_toArray, List.set_cons_zero, List.set_cons_succ]
                        clear hHeld
                        have hHeld := And.intro hX' hR'
                        refine take_d 8 133 (.pointer (some ⟨w2.heap.size, 4, none⟩)) _ rfl rfl (by kernel_rfl) (by kernel_rfl) (by kernel_rfl) (fun _ _ _ h => h) (Or.inl ⟨by rfl, fun w' hSw => ?_⟩) hHeld ?_
                        · clear hSw
                          go_simp
                        try simp only [List.setIfInBounds_toArray, List.set_cons_zero, List.set_cons_succ]
                        have hN' := HNd.out.on hb'
                        have z4' := hN'.cell 4
                        have f4' := hN'.frozen 4
                        have l4' := hN'.lt
                        have HN9 := Lib.hid (hN'.set_ 4 (.slice VB LN VD))
                        have HV9 : Hid (OwnU (w'.setCell ⟨w2.heap.size, 4, none⟩ (.slice VB LN VD)) (w2.heap.size + 1) 57 (.slice VB LN VD) (puts (drops s.rs d.drop) (d.put.take (q + 1)))) := Lib.hid (by
                          rw [HTs.out, puts_snoc, ← HLl.out]
                          exact (hV'.lower (by omega)).farset (fun e => by have := (World.ownsRow.lt hV' _ e).1; simp only at this; omega) _)
                        have HB9 := Lib.hid ((HBd.out.trans (hb'.mono (Nat.le_of_lt hwd1))).setCell (p := ⟨w2.heap.size, 4, none⟩) (Nat.le_refl _) (.slice VB LN VD))
                        have hx9 : Blk (w'.setCell ⟨w2.heap.size, 4, none⟩ (.slice VB LN VD)) (w.heap.size + 1) 40 #[.int .i64 d.de, .int .i64 d.cl, .int .i64 d.fu, .int .i64 d.st, .slice (some ⟨g, off, none⟩) d.put.length PC, .slice DA d.drop.length DC] := hX'.far (p := ⟨w2.heap.size, 4, none⟩) (by simp only; omega) _
                        have hr9 : RuAt (w'.setCell ⟨w2.heap.size, 4, none⟩ (.slice VB LN VD)) g (off + q * 5) x := hR'.below (show g < w2.heap.size by omega) ((Below.refl _ _).setCell (p := ⟨w2.heap.size, 4, none⟩) (Nat.le_refl _) _)
                        have HX9 := Lib.hid hx9
                        have HR9 := Lib.hid hr9
                        clear hX' hR' hN' hV' hb' hHeld hx9 hr9
                        refine wpAnyH_ready (rs := [9]) (by kernel_rfl) (by simp) ?_
                        refine AllReadyH.cons rfl (fun K hK => ?_) AllReadyH.nil
                        go_simp
                        refine hK.out _ _ ⟨HX9.out, HR9.out⟩ (fun _ => ?_)
                        clear hK K z4' f4' l4'
                        refine wpAnyH_done (by kernel_rfl) ?_ _
                        try simp only [List.setIfInBounds_toArray, List.set_cons_zero, List.set_cons_succ]
                        generalize w'.setCell ⟨w2.heap.size, 4, none⟩ (.slice VB LN VD) = w9 at *
                        go_wp2
                        go_roundw
                        case rel => exact ⟨q + 1, _, HLq.out, by go_num, HN9, HV9, HB9⟩
                        case measure => have := HLq.out; simp [intOf]; omega
                      · obtain rfl : q = d.put.length := by omega
                        have HVq : Hid (OwnU wp (w2.heap.size + 1) 57 (.slice VA (after s d).length VC) (after s d)) := Lib.hid (by
                          have := HVp.out
                          rw [List.take_length] at this
                          exact this)
                        rw [List.take_length] at HNp
                        have HNq : Hid (Blk wp w2.heap.size 35 #[.int .i64 n1, .int .i64 n2, .int .i64 n3, .int .i64 n4, .slice VA (after s d).length VC]) := HNp
                        obtain ⟨z0, z1, z2, z3, z4⟩ := HZp.out.c5
                        have f := HZp.out.frozen
                        have hlz := HZp.out.lt
                        obtain ⟨o0, o1, o2, o3, o4⟩ := HNq.out.c5
                        have hlo := HNq.out.lt
                        by_cases h16 : 16 < (after s d).length
                        · have HE : Hid (T = (.zero, 33)) := Lib.hid (by rw [HT.out]; exact applyM_full H1.out HG30.out HNd.out HDi.out h16)
                          have h16' : ((after s d).length : Int) > 16 := by omega
                          go_wp2
                          refine bodyPost_ret (v := .tuple #[.agg #[.int .i64 0, .int .i64 0, .int .i64 0, .int .i64 0, .slice none 0 0], .int .i64 33]) (by simp [results, Try.results7, go_sem, *]) rfl ⟨.slice none 0 0, by rw [HE.out]; rfl, by rw [HE.out]; exact RulesV.nil _ _, fun k hk => by simp [Value.ownBlock] at hk, ?_⟩
                          exact below5 HBa.out (by omega)
                        · have HE : Hid (T = ({ nums s d with rs := after s d }, 0)) := Lib.hid (by rw [HT.out]; exact applyM_ok H1.out HG30.out HNd.out HDi.out h16)
                          have h16' : ¬ ((after s d).length : Int) > 16 := by omega
                          have hne : (Value.slice VA (after s d).length VC).ownBlock ≠ some (w.heap.size + 2) := fun e => by have := (World.ownsRow.lt HVq.out _ e).1; omega
                          have HNe := Lib.hid hne
                          clear hne
                          go_wp2
                          refine bodyPost_ret (v := .tuple #[.agg #[.int .i64 n1, .int .i64 n2, .int .i64 n3, .int .i64 n4, .slice VA (after s d).length VC], .int .i64 0]) (by simp [results, Try.results7, go_sem, *]) rfl ⟨.slice VA (after s d).length VC, by rw [HE.out, HNu.out], ?_, fun k hk => by
              have := World.ownsRow.lt HVq.out k hk
              have h1 := hswp
              exact ⟨by omega, by simpa [World.setCell] using this.2⟩, ?_⟩
                          · rw [HE.out]
                            exact (ownU5 HVq.out HNe.out).set
                          · exact below5 HBa.out (by omega)
          · rw [decide_eq_true hnd]
            have HNd := Lib.hid hnd
            clear hnd
            have HE : Hid (T = (.zero, 31)) := Lib.hid (by rw [HT.out]; unfold applyM; rw [if_neg (by simpa using H1.out), if_neg HG30.out, if_pos HNd.out])
            obtain ⟨z0, z1, z2, z3, z4⟩ := HZ6.out.c5
            have f := HZ6.out.frozen
            have hlz := HZ6.out.lt
            go_wp2
            refine bodyPost_ret (v := .tuple #[.agg #[.int .i64 0, .int .i64 0, .int .i64 0, .int .i64 0, .slice none 0 0], .int .i64 31]) (by simp [results, Try.results7, go_sem, *]) rfl ⟨.slice none 0 0, by rw [HE.out]; rfl, by rw [HE.out]; exact RulesV.nil _ _, fun k hk => by simp [Value.ownBlock] at hk, ?_⟩
            exact below5 HB6.out (by omega)
  · rw [decide_eq_false h1]
    have HE : Hid (T = (.zero, 10)) := Lib.hid (by rw [HT.out]; unfold applyM; rw [if_pos h1])
    obtain ⟨z0, z1, z2, z3, z4⟩ := HZd.out.c5
    have f := HZd.out.frozen
    have hlz := HZd.out.lt
    go_wp2
    refine bodyPost_ret (v := .tuple #[.agg #[.int .i64 0, .int .i64 0, .int .i64 0, .int .i64 0, .slice none 0 0], .int .i64 10]) (by simp [results, Try.results7, go_sem, *]) rfl ⟨.slice none 0 0, by rw [HE.out]; rfl, by rw [HE.out]; exact RulesV.nil _ _, fun k hk => by simp [Value.ownBlock] at hk, ?_⟩
    exact below5 HBd.out (by omega)

end Go.Proofs.Ytifpfpgibjmibaa
