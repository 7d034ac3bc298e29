/- A whole pattern. -/
import Derived.Test.YthipgidddgdojaaDoorPU
namespace Go.Proofs.YthipgidddgdojaaDoor
open Go.RowKit
variable {n₀ rb tb cap d : Nat} {s : List UInt8} {w w' : World} {σ σ1 : St} {fc fa : Int} {bv v : Value}

def zero9 : Array Value := #[.int .i64 0, .int .i64 0, .int .i64 0, .int .i64 0, .int .i64 0, .slice none 0 0, .slice none 0 0, .int .i64 0, .bool false]
def st9 (w : World) (g : Nat) (c0 c1 c2 c3 c4 c5 c6 c7 c8 : Value) : World := ((st7 w g c0 c1 c2 c3 c4 c5 c6).setCell ⟨g, 7, none⟩ c7).setCell ⟨g, 8, none⟩ c8
section
variable {g : Nat} {t : TypeId} {x0 x1 x2 x3 x4 x5 x6 x7 x8 c0 c1 c2 c3 c4 c5 c6 c7 c8 : Value}
theorem st9_blk (h : Blk w g t #[x0, x1, x2, x3, x4, x5, x6, x7, x8]) : Blk (st9 w g c0 c1 c2 c3 c4 c5 c6 c7 c8) g t #[c0, c1, c2, c3, c4, c5, c6, c7, c8] := by
  have := ((((((((h.set_ 0 c0).set_ 1 c1).set_ 2 c2).set_ 3 c3).set_ 4 c4).set_ 5 c5).set_ 6 c6).set_ 7 c7).set_ 8 c8
  simpa [st9, st7] using this
theorem st9_heap {i : Nat} (h : i ≠ g) : (st9 w g c0 c1 c2 c3 c4 c5 c6 c7 c8).heap[i]? = w.heap[i]? := by
  unfold st9
  rw [Below.heap_setCell _ _ _ _ h, Below.heap_setCell _ _ _ _ h, st7_heap h]
theorem Fr.st9 {a : World} (h : Fr n₀ rb a w) (hn : n₀ ≤ rb) (hg : a.heap.size ≤ g) : Fr n₀ rb a (st9 w g c0 c1 c2 c3 c4 c5 c6 c7 c8) :=
  ((h.st7 hg).set_ hn (.inl hg) _).set_ hn (.inl hg) _
theorem Bad.st9 {f : Flt} (h : Bad w rb f) (hg : rb ≠ g) : Bad (st9 w g c0 c1 c2 c3 c4 c5 c6 c7 c8) rb f := h.keep (st9_heap hg)
theorem Blk.st9 {b : Nat} {cs : Array Value} (h : Blk w b t cs) (hb : b ≠ g) : Blk (st9 w g c0 c1 c2 c3 c4 c5 c6 c7 c8) b t cs := (st9_heap hb).trans h
theorem st9_size : (st9 w g c0 c1 c2 c3 c4 c5 c6 c7 c8).heap.size = w.heap.size := by
  have := st7_size (w := w) (g := g) (c0 := c0) (c1 := c1) (c2 := c2) (c3 := c3) (c4 := c4) (c5 := c5) (c6 := c6)
  simp [Go.Proofs.YthipgidddgdojaaDoor.st9, World.setCell] at this ⊢
  exact this
theorem okB.st9 {b : Nat} (h : okB n₀ rb w b) (hb : b ≠ g) : okB n₀ rb (Go.Proofs.YthipgidddgdojaaDoor.st9 w g c0 c1 c2 c3 c4 c5 c6 c7 c8) b := by
  refine ⟨by rw [st9_size]; exact h.1, h.2.imp id (fun ⟨h1, h2⟩ => ⟨h1, fun ⟨cs', z, hh⟩ => h2 ⟨cs', z, ?_⟩⟩)⟩
  rw [← st9_heap (w := w) (c0 := c0) (c1 := c1) (c2 := c2) (c3 := c3) (c4 := c4) (c5 := c5) (c6 := c6) (c7 := c7) (c8 := c8) hb]
  exact hh
theorem NodeV.st9 {a : World} {nd : Nd} {sv kv : Value} (h : NodeV (KB n₀ rb a w) w nd sv kv) {cs : Array Value} (hg : Blk w g 29 cs) (ha : g < a.heap.size) : NodeV (KB n₀ rb a (st9 w g c0 c1 c2 c3 c4 c5 c6 c7 c8)) (st9 w g c0 c1 c2 c3 c4 c5 c6 c7 c8) nd sv kv :=
  h.keep fun b hb => by
    have hne : b ≠ g := by
      rcases hb.2 with h1 | ⟨_, _, h1⟩
      · omega
      · exact ne_of_types h1 hg (by decide)
    exact ⟨⟨hb.1.st9 hne, hb.2.imp id (fun h => h.keep (st9_heap hne))⟩, st9_heap hne⟩
theorem node_st9e {a a' : World} {nd : Nd} {sv kv : Value} (h : NodeV (KB n₀ rb a w) w nd sv kv) {cs : Array Value} (hg : Blk w g 29 cs) (ha : g < a.heap.size) (h0 : a'.heap.size ≤ a.heap.size) : NodeV (KB n₀ rb a' (st9 w g c0 c1 c2 c3 c4 c5 c6 c7 c8)) (st9 w g c0 c1 c2 c3 c4 c5 c6 c7 c8) nd sv kv :=
  (h.st9 hg ha).low h0
theorem Blk.nine (h : Blk w g t #[x0, x1, x2, x3, x4, x5, x6, x7, x8]) : w.cell? ⟨g, 0, none⟩ = some x0 ∧ w.cell? ⟨g, 1, none⟩ = some x1 ∧ w.cell? ⟨g, 2, none⟩ = some x2 ∧ w.cell? ⟨g, 3, none⟩ = some x3 ∧ w.cell? ⟨g, 4, none⟩ = some x4 ∧
    w.cell? ⟨g, 5, none⟩ = some x5 ∧ w.cell? ⟨g, 6, none⟩ = some x6 ∧ w.cell? ⟨g, 7, none⟩ = some x7 ∧ w.cell? ⟨g, 8, none⟩ = some x8 :=
  ⟨h.cell 0, h.cell 1, h.cell 2, h.cell 3, h.cell 4, h.cell 5, h.cell 6, h.cell 7, h.cell 8⟩
theorem ret_pat {fn : Func} {Q : Ending → World → Prop} {a : Act} {b : Value} (hres : fn.results = #[.cell 2 29, .tmp 3]) (h2 : a.tmps.getD 2 undef = .pointer (some ⟨g, 0, none⟩)) (h3 : a.tmps.getD 3 undef = b) (hd : a.defers = [])
    (hB : Blk w g 29 #[c0, c1, c2, c3, c4, c5, c6, c7, c8]) (hQ : Q (.returned (.tuple #[.agg #[c0, c1, c2, c3, c4, c5, c6, c7, c8], b])) w) : bodyPost Tryd.prog fn Q Exit.ret a w := by
  obtain ⟨k0, k1, k2, k3, k4, k5, k6, k7, k8⟩ := hB.nine
  rw [Array.getD_eq_getD_getElem?] at h2 h3
  refine bodyPost_ret (v := .tuple #[.agg #[c0, c1, c2, c3, c4, c5, c6, c7, c8], b]) ?_ hd hQ
  simp [results, hres, go_sem, h2, h3, k0, k1, k2, k3, k4, k5, k6, k7, k8]
end

/-- What a whole pattern leaves. -/
def PPost (n₀ rb : Nat) (w : World) (r : Except Flt (Nd × Nat × Bool)) (e : Ending) (w' : World) : Prop :=
  match r with
  | .ok x => ∃ A1 A2 p1 p2, e = .returned (.tuple #[.agg #[.int .i64 x.1.kind, .int .i64 x.1.lo, .int .i64 x.1.hi, .int .i64 x.1.mode, .int .i64 x.1.ref, .slice A1 x.1.set.length p1, .slice A2 x.1.kids.length p2, .int .i64 (x.2.1 : Nat), .bool x.2.2], .bool true]) ∧
      NodeV (KB n₀ rb w w') w' x.1 (.slice A1 x.1.set.length p1) (.slice A2 x.1.kids.length p2) ∧ Fr n₀ rb w w'
  | .error f => e = .returned (.tuple #[.agg zero9, .bool false]) ∧ Bad w' rb f ∧ Fr n₀ rb w w'
def patClose (fold : Bool) (ra : R) : Except Flt (Nd × Nat × Bool) :=
  match ra with
  | .error e => .error e
  | .ok (r, σ) => ended fold r σ
theorem begins_len (s : List UInt8) : (begins s).t.length ≤ s.length := by
  unfold begins
  split <;> simp

set_option maxRecDepth 100000 in
set_option maxHeartbeats 2000000 in
theorem pattern_any (N : Nat) (hN : 4 * s.length + 2 ≤ N) (h0 : σ = { pos := 0, t := s, g := 0, bk := [] }) (hR : Rd n₀ rb tb cap s w σ 0 fc fa bv) :
    Calls Tryd.prog 17 #[.pointer (some ⟨rb, 0, none⟩)] w (PPost n₀ rb w (patClose (foldAt s) (run N 0 0 [] (begins s)))) := by
  have hrl := hR.blk.lt
  have hlow := hR.low
  have HR := Lib.hid hR
  have HR0 := Lib.hid (hR.alloc (.cells zero9 29))
  have HB0 := Lib.hid (Blk.new w 29 zero9)
  have HF0 : Hid (Fr n₀ rb w (w.alloc (.cells zero9 29))) := Lib.hid ((Fr.refl w).alloc _)
  have HT : Hid (Calls Tryd.prog 19 #[.pointer (some ⟨rb, 0, none⟩), .string ⟨[40, 63, 105, 41].toArray⟩] (w.alloc (.cells zero9 29)) fun e w' => e = .returned (.bool (foldAt s)) ∧ Rd n₀ rb tb cap s w' (begins s) 0 fc fa bv ∧ Fr n₀ rb (w.alloc (.cells zero9 29)) w') := Lib.hid (by
    cases hf : foldAt s with
    | true =>
      have hb : begins s = σ.adv 4 := by unfold begins; rw [if_pos hf, h0]; rfl
      rw [hb]
      exact take_yes [40, 63, 105, 41] (by rw [h0]; exact hf) HR0.out
    | false =>
      have hb : begins s = σ := by unfold begins; rw [if_neg (by rw [hf]; decide), h0]
      rw [hb]
      exact (take_no [40, 63, 105, 41] (by rw [h0]; exact hf) HR0.out).mono fun _ _ ⟨h1, h2⟩ => ⟨h1, HR0.out.on h2, Fr.of_below h2⟩)
  have HA := Lib.hid (fun W (hW : Rd n₀ rb tb cap s W (begins s) 0 fc fa bv) => (all_any (n₀ := n₀) (rb := rb) (tb := tb) (cap := cap) (s := s) (fc := fc) (fa := fa) N).1.1 0 (begins s) W bv (by have := begins_len s; omega) hW)
  obtain ⟨fo, hfo⟩ : ∃ fo, fo = foldAt s := ⟨_, rfl⟩
  obtain ⟨ra, hra⟩ : ∃ ra, ra = run N 0 0 [] (begins s) := ⟨_, rfl⟩
  rw [← hfo] at HT ⊢
  rw [← hra] at HA ⊢
  clear hfo hra hR h0 hN
  go_enter Tryd.func17, Tryd.ntmps17
  go_wp2_with fail
  refine HT.out.mono ?_
  rintro e w1 ⟨rfl, hR1, hF1⟩
  have HB1 := Lib.hid (hF1.blk HR0.out HB0.out (by decide) (by decide))
  have HR1 := Lib.hid hR1
  have hF := HF0.out.trans hF1
  have h01 : w.heap.size < w1.heap.size := HB1.out.lt
  clear hR1 hF1
  go_wp2_with fail
  refine (HA.out _ HR1.out).mono ?_
  rintro e w2 hP2
  cases ra with
  | error f =>
    obtain ⟨rfl, hB, hF2⟩ := hP2
    unfold zeros
    have hB2 := (hF2.blk HR1.out HB1.out (by decide) (by decide)).alloc (.cells zeros 27)
    have hz := hB2.nine
    have hfz := hB2.frozen
    unfold zeros at hz hfz
    go_wp2
    exact ret_pat rfl rfl rfl rfl (st9_blk hB2) ⟨rfl, (hB.alloc _).st9 (by omega), ((hF.trans hF2).alloc _).st9 hlow (Nat.le_refl _)⟩
  | ok y =>
    obtain ⟨nd, σ2⟩ := y
    obtain ⟨sv, kv, bv2, rfl, hNd, hR2, hF2⟩ := hP2
    obtain ⟨A1, A2, p1, p2, rfl, rfl⟩ := hNd.lens
    simp only at hR2 hNd
    have hw2 := hF2.size
    obtain ⟨nk, hnk⟩ : ∃ nk : Array Value, nk = #[.int .i64 nd.kind, .int .i64 nd.lo, .int .i64 nd.hi, .int .i64 nd.mode, .int .i64 nd.ref, .slice A1 nd.set.length p1, .slice A2 nd.kids.length p2] := ⟨_, rfl⟩
    have HB3 := Lib.hid ((hF2.blk HR1.out HB1.out (by decide) (by decide)).alloc (.cells nk 27))
    have HB5 := Lib.hid (Blk.new w2 27 nk)
    have HR3 := Lib.hid (hR2.alloc (.cells nk 27))
    have HN3 := Lib.hid (hNd.fr ((Fr.refl w2).alloc (.cells nk 27)))
    replace hF := (hF.trans hF2).alloc (.cells nk 27)
    have HE := Lib.hid (ended_any HR3.out)
    clear hNd hR2 hF2
    simp only [ndVal]
    subst hnk
    cases hen : σ2.t.isEmpty with
    | false =>
      have hpc : Hid (patClose fo (.ok (nd, σ2)) = .error (20, σ2.pos)) := Lib.hid (by show ended fo nd σ2 = _; unfold ended; rw [hen]; rfl)
      rw [hen] at HE
      clear hen
      go_wp2_with fail
      refine HE.out.mono ?_
      rintro e w4 ⟨rfl, hb4⟩
      have HR4 := Lib.hid (HR3.out.on hb4)
      have HB4 := Lib.hid (HB3.out.on hb4)
      have c1 := HR4.out.c1
      go_wp2_with fail
      refine (refuse_bad 20 σ2.pos HR4.out).mono ?_
      rintro e w5 ⟨rfl, hB, hF5⟩
      have hB5 := hF5.blk HR4.out HB4.out (by decide) (by decide)
      have hz := hB5.nine
      have hfz := hB5.frozen
      go_wp2
      exact ret_pat rfl rfl rfl rfl (st9_blk hB5) (by
        rw [hpc.out]
        exact ⟨rfl, hB.st9 (by omega), ((hF.trans (Fr.of_below hb4)).trans hF5).st9 hlow (Nat.le_refl _)⟩)
    | true =>
      have hpc0 : patClose fo (.ok (nd, σ2)) = (match σ2.bk.find? fun b => decide (σ2.g < b.1) with | some b => .error (26, b.2) | none => .ok (nd, σ2.g, fo)) := by show ended fo nd σ2 = _; unfold ended; rw [hen]; rfl
      have HCb := Lib.hid (fun W (hW : Rd n₀ rb tb cap s W σ2 0 fc fa bv2) => checkBacks_any hW)
      obtain ⟨rc, hrc⟩ : ∃ rc, rc = σ2.bk.find? fun b => decide (σ2.g < b.1) := ⟨_, rfl⟩
      rw [← hrc] at HCb hpc0
      rw [hen] at HE
      have HPC := Lib.hid hpc0
      clear hen hpc0 hrc
      go_wp2_with fail
      refine HE.out.mono ?_
      rintro e w4 ⟨rfl, hb4⟩
      have HR4 := Lib.hid (HR3.out.on hb4)
      have HB4 := Lib.hid (HB3.out.on hb4)
      have HB54 := Lib.hid (HB5.out.on hb4)
      have HN4 := Lib.hid (HN3.out.fr (Fr.of_below hb4))
      replace hF := hF.trans (Fr.of_below hb4)
      have h52 : w2.heap.size ≠ w.heap.size := by omega
      clear hb4 HB3 HB5 HR3 HN3
      go_wp2_with fail
      refine (HCb.out _ HR4.out).mono ?_
      rintro e w5 hP5
      cases rc with
      | some b =>
        obtain ⟨rfl, hB, hF5⟩ := hP5
        have hpc := HPC.out
        simp only at hpc
        have HPC2 := Lib.hid hpc
        have hB5 := hF5.blk HR4.out HB4.out (by decide) (by decide)
        have hz := hB5.nine
        have hfz := hB5.frozen
        clear hpc
        go_wp2
        exact ret_pat rfl rfl rfl rfl (st9_blk hB5) (by
          rw [HPC2.out]
          exact ⟨rfl, hB.st9 (by omega), (hF.trans hF5).st9 hlow (Nat.le_refl _)⟩)
      | none =>
        obtain ⟨rfl, hb5⟩ := hP5
        have hpc := HPC.out
        simp only at hpc
        have HPC2 := Lib.hid hpc
        have HR5 := Lib.hid (HR4.out.on hb5)
        have HB5 := Lib.hid (HB4.out.on hb5)
        have HB55 := Lib.hid (HB54.out.on hb5)
        have HN5 := Lib.hid (HN4.out.fr (Fr.of_below hb5))
        replace hF := hF.trans (Fr.of_below hb5)
        have hrne : rb ≠ w.heap.size := by omega
        clear hpc hb5
        go_upto_region 9 with (fail)
        refine wp_region_held_drew (S := fun W => Blk W w2.heap.size 27 #[.int .i64 nd.kind, .int .i64 nd.lo, .int .i64 nd.hi, .int .i64 nd.mode, .int .i64 nd.ref, .slice A1 nd.set.length p1, .slice A2 nd.kids.length p2] ∧ W.cell? ⟨rb, 3, none⟩ = some (.int .i64 (σ2.g : Nat))) (by kernel_rfl) ⟨HB55.out, HR5.out.c3⟩ (fun hHeld => ?_)
        have HB6 : Hid (Blk w5.drew w.heap.size 29 zero9) := Lib.hid HB5.out
        have HB56 : Hid (Blk w5.drew w2.heap.size 27 #[.int .i64 nd.kind, .int .i64 nd.lo, .int .i64 nd.hi, .int .i64 nd.mode, .int .i64 nd.ref, .slice A1 nd.set.length p1, .slice A2 nd.kids.length p2]) := Lib.hid HB55.out
        have HR6 := Lib.hid HR5.out.drew
        have HN6 : Hid (NodeV (KB n₀ rb w1 w5.drew) w5.drew nd (.slice A1 nd.set.length p1) (.slice A2 nd.kids.length p2)) := Lib.hid (HN5.out.fr ((Fr.refl w5).drewN 1))
        replace hF : Fr n₀ rb w w5.drew := hF.drewN 1
        clear HB5 HB55 HR5 HN5
        generalize w5.drew = W6 at HB6 HB56 HR6 HN6 hF hHeld ⊢
        refine take_d 0 31 (.agg #[.int .i64 nd.kind, .int .i64 nd.lo, .int .i64 nd.hi, .int .i64 nd.mode, .int .i64 nd.ref, .slice A1 nd.set.length p1, .slice A2 nd.kids.length p2]) _ rfl rfl (by kernel_rfl) (by kernel_rfl) (by kernel_rfl) (fun _ _ _ h => h) (Or.inl ⟨by rfl, fun w' hSw => ?_⟩) hHeld ?_
        · have hS7 := Blk.seven hSw.1
          have hS3 := hSw.2
          clear hSw
          go_simp
        simp only [List.setIfInBounds_toArray, List.set_cons_zero, List.set_cons_succ]
        refine take_d 1 32 (.pointer (some ⟨rb, 0, none⟩)) _ rfl rfl (by kernel_rfl) (by kernel_rfl) (by kernel_rfl) (fun _ _ _ h => h) (Or.inl ⟨by rfl, fun w' hSw => ?_⟩) hHeld ?_
        · go_simp
        simp only [List.setIfInBounds_toArray, List.set_cons_zero, List.set_cons_succ]
        refine take_d 2 33 (.pointer (some ⟨rb, 0, none⟩)) _ rfl rfl (by kernel_rfl) (by kernel_rfl) (by kernel_rfl) (fun _ _ _ h => h) (Or.inl ⟨by rfl, fun w' hSw => ?_⟩) hHeld ?_
        · go_simp
        simp only [List.setIfInBounds_toArray, List.set_cons_zero, List.set_cons_succ]
        refine take_d 3 34 (.pointer (some ⟨rb, 3, none⟩)) _ rfl rfl (by kernel_rfl) (by kernel_rfl) (by kernel_rfl) (fun _ _ _ h => h) (Or.inl ⟨by rfl, fun w' hSw => ?_⟩) hHeld ?_
        · go_simp
        simp only [List.setIfInBounds_toArray, List.set_cons_zero, List.set_cons_succ]
        refine take_d 4 35 (.int .i64 (σ2.g : Nat)) _ rfl rfl (by kernel_rfl) (by kernel_rfl) (by kernel_rfl) (fun _ _ _ h => h) (Or.inl ⟨by rfl, fun w' hSw => ?_⟩) hHeld ?_
        · have hS7 := Blk.seven hSw.1
          have hS3 := hSw.2
          clear hSw
          go_simp
        simp only [List.setIfInBounds_toArray, List.set_cons_zero, List.set_cons_succ]
        refine take_d 5 36 (.bool fo) _ rfl rfl (by kernel_rfl) (by kernel_rfl) (by kernel_rfl) (fun _ _ _ h => h) (Or.inl ⟨by rfl, fun w' hSw => ?_⟩) hHeld ?_
        · go_simp
        simp only [List.setIfInBounds_toArray, List.set_cons_zero, List.set_cons_succ]
        refine take_d 6 37 (.agg #[.int .i64 nd.kind, .int .i64 nd.lo, .int .i64 nd.hi, .int .i64 nd.mode, .int .i64 nd.ref, .slice A1 nd.set.length p1, .slice A2 nd.kids.length p2, .int .i64 (σ2.g : Nat), .bool fo]) _ rfl rfl (by kernel_rfl) (by kernel_rfl) (by kernel_rfl) (fun _ _ _ h => h) (Or.inl ⟨by rfl, fun w' hSw => ?_⟩) hHeld ?_
        · go_simp
        simp only [List.setIfInBounds_toArray, List.set_cons_zero, List.set_cons_succ]
        have hz := HB6.out.nine
        have hfz := HB6.out.frozen
        refine wpAnyH_ready (rs := [7]) (by kernel_rfl) (by simp) ?_
        refine AllReadyH.cons rfl (fun K hK => ?_) AllReadyH.nil
        go_simp
        refine hK.out _ _ ⟨HB56.out.st9 h52, (cell_same (st9_heap hrne) 3).trans HR6.out.c3⟩ (fun hHeld => ?_)
        clear hK K
        refine take_d 8 3 (.bool true) _ rfl rfl (by kernel_rfl) (by kernel_rfl) (by kernel_rfl) (fun _ _ _ h => h) (Or.inl ⟨by rfl, fun w' hSw => ?_⟩) hHeld ?_
        · go_simp
        simp only [List.setIfInBounds_toArray, List.set_cons_zero, List.set_cons_succ]
        refine wpAnyH_done (by kernel_rfl) ?_ _
        clear hHeld hz hfz
        go_wp2
        exact ret_pat rfl rfl rfl rfl (st9_blk HB6.out) (by
          rw [HPC2.out]
          exact ⟨_, _, _, _, rfl, node_st9e HN6.out HB6.out h01 (Nat.le_of_lt h01), hF.st9 hlow (Nat.le_refl _)⟩)

end Go.Proofs.YthipgidddgdojaaDoor
