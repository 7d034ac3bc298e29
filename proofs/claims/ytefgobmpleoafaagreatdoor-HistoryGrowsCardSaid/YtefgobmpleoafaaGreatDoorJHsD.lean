/- Package history: change. (Written by genHsD.py.) -/
import Derived.Test.YtefgobmpleoafaaGreatDoorJHsC
namespace Go.Proofs.YtefgobmpleoafaaGreatDoor
open Go.RowKit Go.Maps
variable {w w' w'' : World} {S U : Nat → Prop} {g : Nat} {H : Hs}

theorem version_any2 (k : Nat) (hk : H.vs.length = k + 1) (h : HistAt w g S U H) : Calls Tryz.prog 19 #[.pointer (some ⟨g, 0, none⟩)] w fun e w' => e = .returned (.int .i64 (k : Int)) ∧ w = w' :=
  (version_any k hk h).mono fun _ _ h => ⟨h.1, h.2.symm⟩
/-- Rules that a store into a block does not touch. -/
def RFar (nr b : Nat) (v : Value) : Prop := nr ≤ b ∨ ∃ base, Far base v ∧ b < base
theorem rfar_set {nr b i : Nat} {v u : Value} {l : List Ru} {W : World} (h : RFar nr b v) (hr : RulesV nr W v l) : RulesV nr (W.setCell ⟨b, i, none⟩ u) v l := by
  rcases h with h | ⟨base, hf, hb⟩
  · exact hr.below ((Below.refl _ _).setCell (p := ⟨b, i, none⟩) h u)
  · exact hr.store (g := b) (i := i) (u := u) hf hb
theorem st5_rel {W W1 : World} {n xb vb nr : Nat} {z0 z1 z2 z3 z4 : Value} {cs : Array Value} {v : Value} {l : List Ru} (u0 u1 u2 u3 u4 : Value) (hX : Blk W xb 54 #[z0, z1, z2, z3, z4]) (hV : Blk W vb 42 cs) (hr : RulesV nr W v l) (hn : nr ≤ W.heap.size) (hf : RFar nr xb v) (hB : Below n W1 W) (hl : n ≤ xb) :
    Blk (((((W.setCell ⟨xb, 0, none⟩ u0).setCell ⟨xb, 1, none⟩ u1).setCell ⟨xb, 2, none⟩ u2).setCell ⟨xb, 3, none⟩ u3).setCell ⟨xb, 4, none⟩ u4) xb 54 #[u0, u1, u2, u3, u4] ∧ Blk (((((W.setCell ⟨xb, 0, none⟩ u0).setCell ⟨xb, 1, none⟩ u1).setCell ⟨xb, 2, none⟩ u2).setCell ⟨xb, 3, none⟩ u3).setCell ⟨xb, 4, none⟩ u4) vb 42 cs ∧ RulesV nr (((((W.setCell ⟨xb, 0, none⟩ u0).setCell ⟨xb, 1, none⟩ u1).setCell ⟨xb, 2, none⟩ u2).setCell ⟨xb, 3, none⟩ u3).setCell ⟨xb, 4, none⟩ u4) v l ∧ nr ≤ (((((W.setCell ⟨xb, 0, none⟩ u0).setCell ⟨xb, 1, none⟩ u1).setCell ⟨xb, 2, none⟩ u2).setCell ⟨xb, 3, none⟩ u3).setCell ⟨xb, 4, none⟩ u4).heap.size ∧ Below n W1 (((((W.setCell ⟨xb, 0, none⟩ u0).setCell ⟨xb, 1, none⟩ u1).setCell ⟨xb, 2, none⟩ u2).setCell ⟨xb, 3, none⟩ u3).setCell ⟨xb, 4, none⟩ u4) := by
  have hne : vb ≠ xb := Blk.ne_ hV hX (by decide)
  have k : ∀ {V : World}, Blk V vb 42 cs → ∀ (i : Nat) (u : Value), Blk (V.setCell ⟨xb, i, none⟩ u) vb 42 cs := fun h i u => h.far (p := ⟨xb, i, none⟩) hne u
  have b : ∀ {V : World}, Below n W1 V → ∀ (i : Nat) (u : Value), Below n W1 (V.setCell ⟨xb, i, none⟩ u) := fun h i u => h.setCell (p := ⟨xb, i, none⟩) hl u
  refine ⟨by simpa using ((((hX.set_ 0 u0).set_ 1 u1).set_ 2 u2).set_ 3 u3).set_ 4 u4, k (k (k (k (k hV 0 u0) 1 u1) 2 u2) 3 u3) 4 u4, rfar_set hf (rfar_set hf (rfar_set hf (rfar_set hf (rfar_set hf hr)))), by simpa [World.setCell] using hn, b (b (b (b (b hB 0 u0) 1 u1) 2 u2) 3 u3) 4 u4⟩
theorem st3_rel {W W1 : World} {n xb vb nr : Nat} {cs : Array Value} {v : Value} {l : List Ru} {z0 z1 z2 : Value} (u0 u1 u2 : Value) (hX : Blk W vb 42 #[z0, z1, z2]) (hV : Blk W xb 54 cs) (hr : RulesV nr W v l) (hn : nr ≤ W.heap.size) (hf : RFar nr vb v) (hB : Below n W1 W) (hl : n ≤ vb) :
    Blk (((W.setCell ⟨vb, 0, none⟩ u0).setCell ⟨vb, 1, none⟩ u1).setCell ⟨vb, 2, none⟩ u2) vb 42 #[u0, u1, u2] ∧ Blk (((W.setCell ⟨vb, 0, none⟩ u0).setCell ⟨vb, 1, none⟩ u1).setCell ⟨vb, 2, none⟩ u2) xb 54 cs ∧ RulesV nr (((W.setCell ⟨vb, 0, none⟩ u0).setCell ⟨vb, 1, none⟩ u1).setCell ⟨vb, 2, none⟩ u2) v l ∧ nr ≤ (((W.setCell ⟨vb, 0, none⟩ u0).setCell ⟨vb, 1, none⟩ u1).setCell ⟨vb, 2, none⟩ u2).heap.size ∧ Below n W1 (((W.setCell ⟨vb, 0, none⟩ u0).setCell ⟨vb, 1, none⟩ u1).setCell ⟨vb, 2, none⟩ u2) := by
  have hne : xb ≠ vb := Blk.ne_ hV hX (by decide)
  have k : ∀ {V : World}, Blk V xb 54 cs → ∀ (i : Nat) (u : Value), Blk (V.setCell ⟨vb, i, none⟩ u) xb 54 cs := fun h i u => h.far (p := ⟨vb, i, none⟩) hne u
  have b : ∀ {V : World}, Below n W1 V → ∀ (i : Nat) (u : Value), Below n W1 (V.setCell ⟨vb, i, none⟩ u) := fun h i u => h.setCell (p := ⟨vb, i, none⟩) hl u
  exact ⟨by simpa using ((hX.set_ 0 u0).set_ 1 u1).set_ 2 u2, k (k (k hV 0 u0) 1 u1) 2 u2, rfar_set hf (rfar_set hf (rfar_set hf hr)), by simpa [World.setCell] using hn, b (b (b hB 0 u0) 1 u1) 2 u2⟩
theorem HistAt.narrow {U' : Nat → Prop} (h : HistAt w g S U H) (hu : ∀ i, U' i → U i) (hs : ∀ i, S i → U' i) : HistAt w g S U' H := by
  obtain ⟨vv, L, mb, m, D, h⟩ := h
  exact ⟨vv, L, mb, m, D, h.blk, h.row, h.vs, fun x hx => (h.rul x hx).sub fun i hi => .inl (hu i hi), h.map_, h.cm, h.few, h.ok, h.foot, h.self, h.smap, hs, fun i hi => h.uold i (hu i hi)⟩
/-- A store into a block that is another one's. -/
theorem HistAt.store_ {q : Addr} {u : Value} (h : HistAt w g S U H) (hS : ¬ S q.block) (hU : U q.block) : HistAt (w.setCell q u) g S U H :=
  h.fr (S' := fun i => i = q.block) (Fh.set_ (S := fun i => i = q.block) (q := q) (Fh.refl w) (.inl rfl) u) (fun i hi e => hS (e ▸ hi)) (fun i e => e ▸ hU) (fun _ e => .inl e) h.wide (fun i hi => by have := h.uold i hi; simpa [World.setCell] using this)
theorem HistAt.self_ (h : HistAt w g S U H) : HistAt w g S (fun i => U i ∨ S i) H := by
  obtain ⟨vv, L, mb, m, D, h⟩ := h
  exact ⟨vv, L, mb, m, D, h.blk, h.row, h.vs, fun x hx => (h.rul x hx).sub fun i hi => hi.elim .inl (fun e => .inl (h.wide i e)), h.map_, h.cm, h.few, h.ok, h.foot, h.self, h.smap, fun i hi => .inr hi, fun i hi => hi.elim (h.uold i) (fun e => h.uold i (h.wide i e))⟩
def Hs.chL (H : Hs) (d : Dl) : List RS := if (changeM pvM H.top d).2.1 = 0 then H.vs ++ [(changeM pvM H.top d).1] else H.vs
def Hs.chV (H : Hs) (d : Dl) : Int := if (changeM pvM H.top d).2.1 = 0 then (H.vs.length : Int) else 0
def ChP (g : Nat) (S U : Nat → Prop) (H : Hs) (d : Dl) (w : World) (e : Ending) (w' : World) : Prop :=
  e = .returned (.tuple #[.int .i64 (H.chV d), .agg #[.int .i64 (changeM pvM H.top d).2.1, .int .i64 (changeM pvM H.top d).2.2.1, .int .i64 (changeM pvM H.top d).2.2.2]]) ∧ Did g S U { H with vs := H.chL d } w w'

set_option maxRecDepth 100000 in
set_option maxHeartbeats 16000000 in
theorem hchange_any (d : Dl) (pv dv : Value) (w : World) (hm1 : d.put.length ≤ 1000) (hm2 : d.drop.length ≤ 1000) (hdr : ∀ z ∈ d.drop, (Lit.int .i64 z).wf = true) (hT : TabsAt w.heap.size w) (hP : RulesV w.heap.size w pv d.put) (hD : Row w.heap.size w dv (zI d.drop)) (hl : H.vs.length ≤ 100000) (h : HistAt w g S U H) :
    Calls Tryz.prog 33 #[.pointer (some ⟨g, 0, none⟩), .agg #[.int .i64 d.de, .int .i64 d.cl, .int .i64 d.fu, .int .i64 d.st, pv, dv]] w (ChP g S U H d w) := by
  obtain ⟨PA, pc, rfl⟩ := hP.form
  obtain ⟨DA, dc, hdv⟩ := hD.form
  rw [zI_len] at hdv
  subst hdv
  obtain ⟨k, hk⟩ : ∃ k, H.vs.length = k + 1 := ⟨H.vs.length - 1, by have := h.ok.len; omega⟩
  have htop := H.top_get h.ok.1
  have hmem := H.top_mem h.ok.1
  have hfew := h.ok.few hmem
  obtain ⟨T, hTop⟩ : ∃ T, T = H.top := ⟨_, rfl⟩
  unfold ChP
  unfold Hs.chV Hs.chL
  rw [← hTop] at htop hfew ⊢
  obtain ⟨np, hnp⟩ : ∃ np, np = d.put.length := ⟨_, rfl⟩
  obtain ⟨nd, hnd⟩ : ∃ nd, nd = d.drop.length := ⟨_, rfl⟩
  obtain ⟨W0, hW0⟩ : ∃ W0, W0 = (w.alloc (.cells #[.int .i64 d.de, .int .i64 d.cl, .int .i64 d.fu, .int .i64 d.st, .slice PA d.put.length pc, .slice DA d.drop.length dc] 37)).alloc (.cells #[.int .i64 0, .int .i64 0, .int .i64 0] 42) := ⟨_, rfl⟩
  have b0 : Below w.heap.size w W0 := by rw [hW0]; exact ((Below.refl _ _).alloc (Nat.le_refl _) _).alloc (by simp) _
  have hx : Blk W0 w.heap.size 37 #[.int .i64 d.de, .int .i64 d.cl, .int .i64 d.fu, .int .i64 d.st, .slice PA d.put.length pc, .slice DA d.drop.length dc] := by rw [hW0]; exact (Blk.new _ _ _).alloc _
  have hz : Blk W0 (w.heap.size + 1) 42 #[.int .i64 0, .int .i64 0, .int .i64 0] := by rw [hW0]; exact Blk.at_new _ _ (by simp) _ _
  have hat : HistAt W0 g S (fun i => U i ∨ i = w.heap.size + 1) H := h.fr (S' := fun _ => False) (Fh.of_below b0) (fun _ _ e => e) (fun _ e => e.elim) (fun i hi => hi.imp id (fun e => by omega)) (fun i hi => .inl (h.wide i hi)) (fun i hi => by have h1 := hz.lt; rcases hi with hi | hi; (have h2 := h.uold i hi; omega); omega)
  have HAT := Lib.hid hat
  have HAT0 := Lib.hid h
  obtain ⟨vv, L, mb, m, D, hv⟩ := hat
  obtain ⟨b, c, k2, rfl, hL, hl', hc, hm, _⟩ := hv.form
  obtain rfl : k = k2 := by omega
  obtain ⟨x, hx0, hxs, ⟨A0, d0, hx2⟩, hrf, e0, e1, e2, e3, e4⟩ := hv.cells_ (k := k) (by omega)
  have hxe : x.1 = T := by rw [show H.vs.length - 1 = k by omega] at htop; rw [htop] at hxs; injection hxs with h; exact h.symm
  rw [hx2] at e4 hrf
  rw [hxe] at e0 e1 e2 e3 e4 hrf
  have hvc := fun (W : World) (hB : Below W0.heap.size W0 W) => vchange_any T d (.slice A0 T.rs.length d0) (.slice PA d.put.length pc) (.slice DA d.drop.length dc) W (by omega) hm1 hm2 hdr (tabs_on hT (b0.trans (hB.mono b0.size)) (b0.trans (hB.mono b0.size)).size) (hrf.on hB).read ((hP.on b0).on hB) (((hD.below b0).more b0.size).below hB |>.more hB.size)
  have hchg := @changeM_top pvM T d
  obtain ⟨C, hC⟩ : ∃ C, C = changeM pvM T d := ⟨_, rfl⟩
  rw [← hC] at hvc hchg ⊢
  obtain ⟨⟨cde, ccl, cfu, cst, crs⟩, cc, cr, ca⟩ := C
  simp only at hvc hchg ⊢
  rw [← hnp, ← hnd] at hvc hx hW0 ⊢
  have VC := Lib.hid hvc
  have HCh := Lib.hid hchg
  have HG := Lib.hid hv.blk
  have HV := Lib.hid hv
  have HX := Lib.hid hx
  have HZ := Lib.hid hz
  have HB0 := Lib.hid b0
  have HK := Lib.hid hk
  have HL := Lib.hid hL
  have HLN := Lib.hid hl
  have E0 := Lib.hid e0
  have E1 := Lib.hid e1
  have E2 := Lib.hid e2
  have E3 := Lib.hid e3
  have E4 := Lib.hid e4
  have HBb : Hid (b < W0.heap.size) := Lib.hid (block_lt_of_cell e0)
  clear hvc hchg hv hx hz e0 e1 e2 e3 e4 hrf hx0 hxs hxe hx2 hC hTop htop hmem hfew hk hl hl' hL hc hm h hP hD hT hdr hm1 hm2 hnp hnd b0
  go_enter Tryz.func33, Tryz.ntmps33
  go_upto_region 1 with (fail)
  rw [← hW0]
  clear hW0
  go_cut [6, 7] from 21 (fun s6 s7 W => ∃ (xb vb nr : Nat) (CA : Option Addr) (CC : Nat), s6 = .pointer (some ⟨xb, 0, none⟩) ∧ s7 = .pointer (some ⟨vb, 0, none⟩) ∧ Hid (Blk W xb 54 #[.int .i64 cde, .int .i64 ccl, .int .i64 cfu, .int .i64 cst, .slice CA crs.length CC]) ∧ Hid (Blk W vb 42 #[.int .i64 cc, .int .i64 cr, .int .i64 ca]) ∧ Hid (RulesV nr W (.slice CA crs.length CC) crs) ∧ Hid (nr ≤ W.heap.size) ∧ Hid (Far W0.heap.size (.slice CA crs.length CC)) ∧ Hid (Below W0.heap.size W0 W) ∧ Hid (W0.heap.size ≤ vb) ∧ Hid (W0.heap.size ≤ xb))
  case first =>
    rename_i J K' hJ hK'
    refine wp_region_held_drew (S := fun w' => Below W0.heap.size W0 w') (by kernel_rfl) (Below.drewN' (Below.refl _ W0) 1) (fun hHeld => ?_)
    generalize W0.drew = wd at *
    refine take_d 0 9 (.pointer (some ⟨g, 0, none⟩)) _ rfl rfl (by kernel_rfl) (by kernel_rfl) (by kernel_rfl) (fun _ _ _ h => h) (Or.inl ⟨by rfl, fun w' hSw => ?_⟩) hHeld ?_
    · go_simp
    simp only [List.setIfInBounds_toArray, List.set_cons_zero, List.set_cons_succ]
    refine take_d 1 10 (.pointer (some ⟨g, 0, none⟩)) _ rfl rfl (by kernel_rfl) (by kernel_rfl) (by kernel_rfl) (fun _ _ _ h => h) (Or.inl ⟨by rfl, fun w' hSw => ?_⟩) hHeld ?_
    · go_simp
    simp only [List.setIfInBounds_toArray, List.set_cons_zero, List.set_cons_succ]
    refine take_d 2 11 (.pointer (some ⟨g, 1, none⟩)) _ rfl rfl (by kernel_rfl) (by kernel_rfl) (by kernel_rfl) (fun _ _ _ h => h) (Or.inl ⟨by rfl, fun w' hSw => ?_⟩) hHeld ?_
    · go_simp
    simp only [List.setIfInBounds_toArray, List.set_cons_zero, List.set_cons_succ]
    refine take_d 3 12 (.slice (some ⟨b, 0, none⟩) (k + 1) c) _ rfl rfl (by kernel_rfl) (by kernel_rfl) (by kernel_rfl) (fun _ _ _ h => h) (Or.inl ⟨by rfl, fun w' hSw => ?_⟩) hHeld ?_
    · have q1 := (HG.out.on hSw).cell 1
      go_simp
    simp only [List.setIfInBounds_toArray, List.set_cons_zero, List.set_cons_succ]
    refine take_d 4 13 (.pointer (some ⟨g, 0, none⟩)) _ rfl rfl (by kernel_rfl) (by kernel_rfl) (by kernel_rfl) (fun _ _ _ h => h) (Or.inl ⟨by rfl, fun w' hSw => ?_⟩) hHeld ?_
    · go_simp
    simp only [List.setIfInBounds_toArray, List.set_cons_zero, List.set_cons_succ]
    refine take_d 8 17 (.agg #[.int .i64 d.de, .int .i64 d.cl, .int .i64 d.fu, .int .i64 d.st, .slice PA np pc, .slice DA nd dc]) _ rfl rfl (by kernel_rfl) (by kernel_rfl) (by kernel_rfl) (fun _ _ _ h => h) (Or.inl ⟨by rfl, fun w' hSw => ?_⟩) hHeld ?_
    · have q0 := (HX.out.on hSw).cell 0
      have q1 := (HX.out.on hSw).cell 1
      have q2 := (HX.out.on hSw).cell 2
      have q3 := (HX.out.on hSw).cell 3
      have q4 := (HX.out.on hSw).cell 4
      have q5 := (HX.out.on hSw).cell 5
      go_simp
    simp only [List.setIfInBounds_toArray, List.set_cons_zero, List.set_cons_succ]
    refine wpAnyH_ready (rs := [5, 13, 14]) (by kernel_rfl) (by simp) ?_
    refine AllReadyH.cons rfl (fun K hK => ?_) (AllReadyH.cons rfl (fun K hK => ?_) (AllReadyH.cons rfl (fun K hK => ?_) (AllReadyH.nil)))
    · go_simp
      refine (version_any2 k HK.out (HAT.out.on hHeld)).mono ?_
      rintro e wv ⟨rfl, rfl⟩
      refine hK.out _ _ hHeld (fun hHeld => ?_)
      clear hK K
      refine take_d 6 15 (.pointer (some ⟨b, k * 5, none⟩)) _ rfl rfl (by kernel_rfl) (by kernel_rfl) (by kernel_rfl) (fun _ _ _ h => h) (Or.inl ⟨by rfl, fun w' hSw => ?_⟩) hHeld ?_
      · have z8 : (k : Int) < ((k + 1 : Nat) : Int) := by omega
        have z9 : (k : Int) < (k : Int) + 1 := by omega
        go_simp
      simp only [List.setIfInBounds_toArray, List.set_cons_zero, List.set_cons_succ]
      refine take_d 7 16 (.agg #[.int .i64 T.de, .int .i64 T.cl, .int .i64 T.fu, .int .i64 T.st, .slice A0 T.rs.length d0]) _ rfl rfl (by kernel_rfl) (by kernel_rfl) (by kernel_rfl) (fun _ _ _ h => h) (Or.inl ⟨by rfl, fun w' hSw => ?_⟩) hHeld ?_
      · have q0 := (hSw.cell (p := ⟨b, k * 5 + 0, none⟩) HBb.out).trans E0.out
        have q1 := (hSw.cell (p := ⟨b, k * 5 + 1, none⟩) HBb.out).trans E1.out
        have q2 := (hSw.cell (p := ⟨b, k * 5 + 2, none⟩) HBb.out).trans E2.out
        have q3 := (hSw.cell (p := ⟨b, k * 5 + 3, none⟩) HBb.out).trans E3.out
        have q4 := (hSw.cell (p := ⟨b, k * 5 + 4, none⟩) HBb.out).trans E4.out
        rw [Nat.add_zero] at q0
        go_simp
      simp only [List.setIfInBounds_toArray, List.set_cons_zero, List.set_cons_succ]
      refine wpAnyH_ready (rs := [9, 13, 14]) (by kernel_rfl) (by simp) ?_
      refine AllReadyH.cons rfl (fun K hK => ?_) (AllReadyH.cons rfl (fun K hK => ?_) (AllReadyH.cons rfl (fun K hK => ?_) (AllReadyH.nil)))
      · go_simp
        refine (VC.out wd hHeld).mono ?_
        rintro e wc1 ⟨rv, rfl, hrv, hfar, hbc⟩
        obtain ⟨CA, CC, rfl⟩ := hrv.form
        have hS6 := Below.trans hHeld (hbc.mono hHeld.size)
        have HFa : Hid (Far W0.heap.size (.slice CA crs.length CC)) := Lib.hid (hfar.mono hHeld.size)
        obtain ⟨nr, hnr⟩ : ∃ nr, nr = wc1.heap.size := ⟨_, rfl⟩
        have HRx : Hid (RulesV nr wc1 (.slice CA crs.length CC) crs) := Lib.hid (by rw [hnr]; exact hrv)
        have HNr : Hid (nr ≤ wc1.heap.size) := Lib.hid (by rw [hnr]; exact Nat.le_refl _)
        refine hK.out _ _ hS6 (fun hHeld => ?_)
        clear hK K hbc hrv hfar hS6 hnr
        refine take_d 10 8 (.tuple #[.agg #[.int .i64 cde, .int .i64 ccl, .int .i64 cfu, .int .i64 cst, .slice CA crs.length CC], .agg #[.int .i64 cc, .int .i64 cr, .int .i64 ca]]) _ rfl rfl (by kernel_rfl) (by kernel_rfl) (by kernel_rfl) (fun _ _ _ h => h) (Or.inl ⟨by rfl, fun w' hSw => ?_⟩) hHeld ?_
        · go_simp
        simp only [List.setIfInBounds_toArray, List.set_cons_zero, List.set_cons_succ]
        refine take_d 11 19 (.agg #[.int .i64 cde, .int .i64 ccl, .int .i64 cfu, .int .i64 cst, .slice CA crs.length CC]) _ rfl rfl (by kernel_rfl) (by kernel_rfl) (by kernel_rfl) (fun _ _ _ h => h) (Or.inl ⟨by rfl, fun w' hSw => ?_⟩) hHeld ?_
        · go_simp
        simp only [List.setIfInBounds_toArray, List.set_cons_zero, List.set_cons_succ]
        refine take_d 12 20 (.agg #[.int .i64 cc, .int .i64 cr, .int .i64 ca]) _ rfl rfl (by kernel_rfl) (by kernel_rfl) (by kernel_rfl) (fun _ _ _ h => h) (Or.inl ⟨by rfl, fun w' hSw => ?_⟩) hHeld ?_
        · go_simp
        simp only [List.setIfInBounds_toArray, List.set_cons_zero, List.set_cons_succ]
        refine wpAnyH_ready (rs := [13, 14]) (by kernel_rfl) (by simp) ?_
        refine AllReadyH.cons rfl (fun K hK => ?_) (AllReadyH.cons rfl (fun K hK => ?_) (AllReadyH.nil))
        · go_simp
          have hba : Below wc1.heap.size wc1 (wc1.alloc (.cells #[.int .i64 0, .int .i64 0, .int .i64 0, .int .i64 0, .slice none 0 0] 54)) := (Below.refl _ _).alloc (Nat.le_refl _) _
          have hS6 := Below.trans hHeld (hba.mono hHeld.size)
          obtain ⟨xb2, hbz⟩ : ∃ z, z = wc1.heap.size := ⟨_, rfl⟩
          have HXl : Hid (W0.heap.size ≤ xb2) := Lib.hid (by rw [hbz]; exact hHeld.size)
          have HXr : Hid (RFar nr xb2 (.slice CA crs.length CC)) := Lib.hid (.inl (by rw [hbz]; exact HNr.out))
          have HRx := Lib.hid (HRx.out.below (hba.mono HNr.out))
          have HNr := Lib.hid (Nat.le_trans HNr.out hba.size)
          have HXb : Hid (Blk (wc1.alloc (.cells #[.int .i64 0, .int .i64 0, .int .i64 0, .int .i64 0, .slice none 0 0] 54)) xb2 54 #[.int .i64 0, .int .i64 0, .int .i64 0, .int .i64 0, .slice none 0 0]) := Lib.hid (by rw [hbz]; exact Blk.new _ _ _)
          refine hK.out _ _ hS6 (fun hHeld => ?_)
          clear hK K hba hS6
          rw [← hbz]
          clear hbz
          generalize wc1.alloc _ = wa2 at *
          refine wpAnyH_ready (rs := [14]) (by kernel_rfl) (by simp) ?_
          refine AllReadyH.cons rfl (fun K hK => ?_) AllReadyH.nil
          go_simp
          have hba : Below wa2.heap.size wa2 (wa2.alloc (.cells #[.int .i64 0, .int .i64 0, .int .i64 0] 42)) := (Below.refl _ _).alloc (Nat.le_refl _) _
          have hS6 := Below.trans hHeld (hba.mono hHeld.size)
          obtain ⟨vb3, hbz⟩ : ∃ z, z = wa2.heap.size := ⟨_, rfl⟩
          have HVl : Hid (W0.heap.size ≤ vb3) := Lib.hid (by rw [hbz]; exact hHeld.size)
          have HVr : Hid (RFar nr vb3 (.slice CA crs.length CC)) := Lib.hid (.inl (by rw [hbz]; exact HNr.out))
          have HXb := Lib.hid (HXb.out.on hba)
          have HRx := Lib.hid (HRx.out.below (hba.mono HNr.out))
          have HNr := Lib.hid (Nat.le_trans HNr.out hba.size)
          have HVb : Hid (Blk (wa2.alloc (.cells #[.int .i64 0, .int .i64 0, .int .i64 0] 42)) vb3 42 #[.int .i64 0, .int .i64 0, .int .i64 0]) := Lib.hid (by rw [hbz]; exact Blk.new _ _ _)
          refine hK.out _ _ hS6 (fun hHeld => ?_)
          clear hK K hba hS6
          rw [← hbz]
          clear hbz
          generalize wa2.alloc _ = wa3 at *
          refine wpAnyH_ready (rs := [15]) (by kernel_rfl) (by simp) ?_
          refine AllReadyH.cons rfl (fun K hK => ?_) AllReadyH.nil
          have y0 := HXb.out.cell 0
          have y1 := HXb.out.cell 1
          have y2 := HXb.out.cell 2
          have y3 := HXb.out.cell 3
          have y4 := HXb.out.cell 4
          have yf := HXb.out.frozen
          have yl := HXb.out.lt
          go_simp
          obtain ⟨h1, h2, h3, h4, h5⟩ := st5_rel (.int .i64 cde) (.int .i64 ccl) (.int .i64 cfu) (.int .i64 cst) (.slice CA crs.length CC) HXb.out HVb.out HRx.out HNr.out HXr.out hHeld HXl.out
          clear y0 y1 y2 y3 y4 yf yl HXb HVb HRx HNr
          refine hK.out _ _ h5 (fun hHeld => ?_)
          clear hK K h5
          generalize (((((wa3.setCell ⟨xb2, 0, none⟩ (.int .i64 cde)).setCell ⟨xb2, 1, none⟩ (.int .i64 ccl)).setCell ⟨xb2, 2, none⟩ (.int .i64 cfu)).setCell ⟨xb2, 3, none⟩ (.int .i64 cst)).setCell ⟨xb2, 4, none⟩ (.slice CA crs.length CC)) = ws4 at *
          have HXb := Lib.hid h1
          have HVb := Lib.hid h2
          have HRx := Lib.hid h3
          have HNr := Lib.hid h4
          clear h1 h2 h3 h4
          refine wpAnyH_ready (rs := [16]) (by kernel_rfl) (by simp) ?_
          refine AllReadyH.cons rfl (fun K hK => ?_) AllReadyH.nil
          have y0 := HVb.out.cell 0
          have y1 := HVb.out.cell 1
          have y2 := HVb.out.cell 2
          have yf := HVb.out.frozen
          have yl := HVb.out.lt
          go_simp
          obtain ⟨h1, h2, h3, h4, h5⟩ := st3_rel (.int .i64 cc) (.int .i64 cr) (.int .i64 ca) HVb.out HXb.out HRx.out HNr.out HVr.out hHeld HVl.out
          clear y0 y1 y2 yf yl HXb HVb HRx HNr
          refine hK.out _ _ h5 (fun hHeld => ?_)
          clear hK K h5
          generalize (((ws4.setCell ⟨vb3, 0, none⟩ (.int .i64 cc)).setCell ⟨vb3, 1, none⟩ (.int .i64 cr)).setCell ⟨vb3, 2, none⟩ (.int .i64 ca)) = ws5 at *
          have HVb := Lib.hid h1
          have HXb := Lib.hid h2
          have HRx := Lib.hid h3
          have HNr := Lib.hid h4
          clear h1 h2 h3 h4
          refine wpAnyH_done (by kernel_rfl) ?_ _
          refine hK' _ _ (Met.intro (hJ _ _ ?_))
          (repeat apply Exists.intro)
          refine ⟨?_, rfl⟩
          exact ⟨xb2, vb3, nr, CA, CC, rfl, rfl, HXb, HVb, HRx, HNr, HFa, Lib.hid hHeld, HVl, HXl⟩
        · go_simp
          have hba : Below wc1.heap.size wc1 (wc1.alloc (.cells #[.int .i64 0, .int .i64 0, .int .i64 0] 42)) := (Below.refl _ _).alloc (Nat.le_refl _) _
          have hS6 := Below.trans hHeld (hba.mono hHeld.size)
          obtain ⟨vb6, hbz⟩ : ∃ z, z = wc1.heap.size := ⟨_, rfl⟩
          have HVl : Hid (W0.heap.size ≤ vb6) := Lib.hid (by rw [hbz]; exact hHeld.size)
          have HVr : Hid (RFar nr vb6 (.slice CA crs.length CC)) := Lib.hid (.inl (by rw [hbz]; exact HNr.out))
          have HRx := Lib.hid (HRx.out.below (hba.mono HNr.out))
          have HNr := Lib.hid (Nat.le_trans HNr.out hba.size)
          have HVb : Hid (Blk (wc1.alloc (.cells #[.int .i64 0, .int .i64 0, .int .i64 0] 42)) vb6 42 #[.int .i64 0, .int .i64 0, .int .i64 0]) := Lib.hid (by rw [hbz]; exact Blk.new _ _ _)
          refine hK.out _ _ hS6 (fun hHeld => ?_)
          clear hK K hba hS6
          rw [← hbz]
          clear hbz
          generalize wc1.alloc _ = wa6 at *
          refine wpAnyH_ready (rs := [13]) (by kernel_rfl) (by simp) ?_
          refine AllReadyH.cons rfl (fun K hK => ?_) AllReadyH.nil
          go_simp
          have hba : Below wa6.heap.size wa6 (wa6.alloc (.cells #[.int .i64 0, .int .i64 0, .int .i64 0, .int .i64 0, .slice none 0 0] 54)) := (Below.refl _ _).alloc (Nat.le_refl _) _
          have hS6 := Below.trans hHeld (hba.mono hHeld.size)
          obtain ⟨xb7, hbz⟩ : ∃ z, z = wa6.heap.size := ⟨_, rfl⟩
          have HXl : Hid (W0.heap.size ≤ xb7) := Lib.hid (by rw [hbz]; exact hHeld.size)
          have HXr : Hid (RFar nr xb7 (.slice CA crs.length CC)) := Lib.hid (.inl (by rw [hbz]; exact HNr.out))
          have HVb := Lib.hid (HVb.out.on hba)
          have HRx := Lib.hid (HRx.out.below (hba.mono HNr.out))
          have HNr := Lib.hid (Nat.le_trans HNr.out hba.size)
          have HXb : Hid (Blk (wa6.alloc (.cells #[.int .i64 0, .int .i64 0, .int .i64 0, .int .i64 0, .slice none 0 0] 54)) xb7 54 #[.int .i64 0, .int .i64 0, .int .i64 0, .int .i64 0, .slice none 0 0]) := Lib.hid (by rw [hbz]; exact Blk.new _ _ _)
          refine hK.out _ _ hS6 (fun hHeld => ?_)
          clear hK K hba hS6
          rw [← hbz]
          clear hbz
          generalize wa6.alloc _ = wa7 at *
          refine wpAnyH_ready (rs := [15]) (by kernel_rfl) (by simp) ?_
          refine AllReadyH.cons rfl (fun K hK => ?_) AllReadyH.nil
          have y0 := HXb.out.cell 0
          have y1 := HXb.out.cell 1
          have y2 := HXb.out.cell 2
          have y3 := HXb.out.cell 3
          have y4 := HXb.out.cell 4
          have yf := HXb.out.frozen
          have yl := HXb.out.lt
          go_simp
          obtain ⟨h1, h2, h3, h4, h5⟩ := st5_rel (.int .i64 cde) (.int .i64 ccl) (.int .i64 cfu) (.int .i64 cst) (.slice CA crs.length CC) HXb.out HVb.out HRx.out HNr.out HXr.out hHeld HXl.out
          clear y0 y1 y2 y3 y4 yf yl HXb HVb HRx HNr
          refine hK.out _ _ h5 (fun hHeld => ?_)
          clear hK K h5
          generalize (((((wa7.setCell ⟨xb7, 0, none⟩ (.int .i64 cde)).setCell ⟨xb7, 1, none⟩ (.int .i64 ccl)).setCell ⟨xb7, 2, none⟩ (.int .i64 cfu)).setCell ⟨xb7, 3, none⟩ (.int .i64 cst)).setCell ⟨xb7, 4, none⟩ (.slice CA crs.length CC)) = ws8 at *
          have HXb := Lib.hid h1
          have HVb := Lib.hid h2
          have HRx := Lib.hid h3
          have HNr := Lib.hid h4
          clear h1 h2 h3 h4
          refine wpAnyH_ready (rs := [16]) (by kernel_rfl) (by simp) ?_
          refine AllReadyH.cons rfl (fun K hK => ?_) AllReadyH.nil
          have y0 := HVb.out.cell 0
          have y1 := HVb.out.cell 1
          have y2 := HVb.out.cell 2
          have yf := HVb.out.frozen
          have yl := HVb.out.lt
          go_simp
          obtain ⟨h1, h2, h3, h4, h5⟩ := st3_rel (.int .i64 cc) (.int .i64 cr) (.int .i64 ca) HVb.out HXb.out HRx.out HNr.out HVr.out hHeld HVl.out
          clear y0 y1 y2 yf yl HXb HVb HRx HNr
          refine hK.out _ _ h5 (fun hHeld => ?_)
          clear hK K h5
          generalize (((ws8.setCell ⟨vb6, 0, none⟩ (.int .i64 cc)).setCell ⟨vb6, 1, none⟩ (.int .i64 cr)).setCell ⟨vb6, 2, none⟩ (.int .i64 ca)) = ws9 at *
          have HVb := Lib.hid h1
          have HXb := Lib.hid h2
          have HRx := Lib.hid h3
          have HNr := Lib.hid h4
          clear h1 h2 h3 h4
          refine wpAnyH_done (by kernel_rfl) ?_ _
          refine hK' _ _ (Met.intro (hJ _ _ ?_))
          (repeat apply Exists.intro)
          refine ⟨?_, rfl⟩
          exact ⟨xb7, vb6, nr, CA, CC, rfl, rfl, HXb, HVb, HRx, HNr, HFa, Lib.hid hHeld, HVl, HXl⟩
      · go_simp
        have hba : Below wd.heap.size wd (wd.alloc (.cells #[.int .i64 0, .int .i64 0, .int .i64 0, .int .i64 0, .slice none 0 0] 54)) := (Below.refl _ _).alloc (Nat.le_refl _) _
        have hS6 := Below.trans hHeld (hba.mono hHeld.size)
        obtain ⟨xb10, hbz⟩ : ∃ z, z = wd.heap.size := ⟨_, rfl⟩
        have HXl : Hid (W0.heap.size ≤ xb10) := Lib.hid (by rw [hbz]; exact hHeld.size)
        have HXb : Hid (Blk (wd.alloc (.cells #[.int .i64 0, .int .i64 0, .int .i64 0, .int .i64 0, .slice none 0 0] 54)) xb10 54 #[.int .i64 0, .int .i64 0, .int .i64 0, .int .i64 0, .slice none 0 0]) := Lib.hid (by rw [hbz]; exact Blk.new _ _ _)
        refine hK.out _ _ hS6 (fun hHeld => ?_)
        clear hK K hba hS6
        rw [← hbz]
        clear hbz
        generalize wd.alloc _ = wa10 at *
        refine wpAnyH_ready (rs := [9, 14]) (by kernel_rfl) (by simp) ?_
        refine AllReadyH.cons rfl (fun K hK => ?_) (AllReadyH.cons rfl (fun K hK => ?_) (AllReadyH.nil))
        · go_simp
          refine (VC.out wa10 hHeld).mono ?_
          rintro e wc11 ⟨rv, rfl, hrv, hfar, hbc⟩
          obtain ⟨CA, CC, rfl⟩ := hrv.form
          have hS6 := Below.trans hHeld (hbc.mono hHeld.size)
          have HXr : Hid (RFar wc11.heap.size xb10 (.slice CA crs.length CC)) := Lib.hid (.inr ⟨_, hfar, HXb.out.lt⟩)
          have HXb := Lib.hid (HXb.out.on hbc)
          have HFa : Hid (Far W0.heap.size (.slice CA crs.length CC)) := Lib.hid (hfar.mono hHeld.size)
          obtain ⟨nr, hnr⟩ : ∃ nr, nr = wc11.heap.size := ⟨_, rfl⟩
          have HRx : Hid (RulesV nr wc11 (.slice CA crs.length CC) crs) := Lib.hid (by rw [hnr]; exact hrv)
          have HNr : Hid (nr ≤ wc11.heap.size) := Lib.hid (by rw [hnr]; exact Nat.le_refl _)
          rw [← hnr] at HXr
          refine hK.out _ _ hS6 (fun hHeld => ?_)
          clear hK K hbc hrv hfar hS6 hnr
          refine take_d 10 8 (.tuple #[.agg #[.int .i64 cde, .int .i64 ccl, .int .i64 cfu, .int .i64 cst, .slice CA crs.length CC], .agg #[.int .i64 cc, .int .i64 cr, .int .i64 ca]]) _ rfl rfl (by kernel_rfl) (by kernel_rfl) (by kernel_rfl) (fun _ _ _ h => h) (Or.inl ⟨by rfl, fun w' hSw => ?_⟩) hHeld ?_
          · go_simp
          simp only [List.setIfInBounds_toArray, List.set_cons_zero, List.set_cons_succ]
          refine take_d 11 19 (.agg #[.int .i64 cde, .int .i64 ccl, .int .i64 cfu, .int .i64 cst, .slice CA crs.length CC]) _ rfl rfl (by kernel_rfl) (by kernel_rfl) (by kernel_rfl) (fun _ _ _ h => h) (Or.inl ⟨by rfl, fun w' hSw => ?_⟩) hHeld ?_
          · go_simp
          simp only [List.setIfInBounds_toArray, List.set_cons_zero, List.set_cons_succ]
          refine take_d 12 20 (.agg #[.int .i64 cc, .int .i64 cr, .int .i64 ca]) _ rfl rfl (by kernel_rfl) (by kernel_rfl) (by kernel_rfl) (fun _ _ _ h => h) (Or.inl ⟨by rfl, fun w' hSw => ?_⟩) hHeld ?_
          · go_simp
          simp only [List.setIfInBounds_toArray, List.set_cons_zero, List.set_cons_succ]
          refine wpAnyH_ready (rs := [14]) (by kernel_rfl) (by simp) ?_
          refine AllReadyH.cons rfl (fun K hK => ?_) AllReadyH.nil
          go_simp
          have hba : Below wc11.heap.size wc11 (wc11.alloc (.cells #[.int .i64 0, .int .i64 0, .int .i64 0] 42)) := (Below.refl _ _).alloc (Nat.le_refl _) _
          have hS6 := Below.trans hHeld (hba.mono hHeld.size)
          obtain ⟨vb12, hbz⟩ : ∃ z, z = wc11.heap.size := ⟨_, rfl⟩
          have HVl : Hid (W0.heap.size ≤ vb12) := Lib.hid (by rw [hbz]; exact hHeld.size)
          have HVr : Hid (RFar nr vb12 (.slice CA crs.length CC)) := Lib.hid (.inl (by rw [hbz]; exact HNr.out))
          have HXb := Lib.hid (HXb.out.on hba)
          have HRx := Lib.hid (HRx.out.below (hba.mono HNr.out))
          have HNr := Lib.hid (Nat.le_trans HNr.out hba.size)
          have HVb : Hid (Blk (wc11.alloc (.cells #[.int .i64 0, .int .i64 0, .int .i64 0] 42)) vb12 42 #[.int .i64 0, .int .i64 0, .int .i64 0]) := Lib.hid (by rw [hbz]; exact Blk.new _ _ _)
          refine hK.out _ _ hS6 (fun hHeld => ?_)
          clear hK K hba hS6
          rw [← hbz]
          clear hbz
          generalize wc11.alloc _ = wa12 at *
          refine wpAnyH_ready (rs := [15]) (by kernel_rfl) (by simp) ?_
          refine AllReadyH.cons rfl (fun K hK => ?_) AllReadyH.nil
          have y0 := HXb.out.cell 0
          have y1 := HXb.out.cell 1
          have y2 := HXb.out.cell 2
          have y3 := HXb.out.cell 3
          have y4 := HXb.out.cell 4
          have yf := HXb.out.frozen
          have yl := HXb.out.lt
          go_simp
          obtain ⟨h1, h2, h3, h4, h5⟩ := st5_rel (.int .i64 cde) (.int .i64 ccl) (.int .i64 cfu) (.int .i64 cst) (.slice CA crs.length CC) HXb.out HVb.out HRx.out HNr.out HXr.out hHeld HXl.out
          clear y0 y1 y2 y3 y4 yf yl HXb HVb HRx HNr
          refine hK.out _ _ h5 (fun hHeld => ?_)
          clear hK K h5
          generalize (((((wa12.setCell ⟨xb10, 0, none⟩ (.int .i64 cde)).setCell ⟨xb10, 1, none⟩ (.int .i64 ccl)).setCell ⟨xb10, 2, none⟩ (.int .i64 cfu)).setCell ⟨xb10, 3, none⟩ (.int .i64 cst)).setCell ⟨xb10, 4, none⟩ (.slice CA crs.length CC)) = ws13 at *
          have HXb := Lib.hid h1
          have HVb := Lib.hid h2
          have HRx := Lib.hid h3
          have HNr := Lib.hid h4
          clear h1 h2 h3 h4
          refine wpAnyH_ready (rs := [16]) (by kernel_rfl) (by simp) ?_
          refine AllReadyH.cons rfl (fun K hK => ?_) AllReadyH.nil
          have y0 := HVb.out.cell 0
          have y1 := HVb.out.cell 1
          have y2 := HVb.out.cell 2
          have yf := HVb.out.frozen
          have yl := HVb.out.lt
          go_simp
          obtain ⟨h1, h2, h3, h4, h5⟩ := st3_rel (.int .i64 cc) (.int .i64 cr) (.int .i64 ca) HVb.out HXb.out HRx.out HNr.out HVr.out hHeld HVl.out
          clear y0 y1 y2 yf yl HXb HVb HRx HNr
          refine hK.out _ _ h5 (fun hHeld => ?_)
          clear hK K h5
          generalize (((ws13.setCell ⟨vb12, 0, none⟩ (.int .i64 cc)).setCell ⟨vb12, 1, none⟩ (.int .i64 cr)).setCell ⟨vb12, 2, none⟩ (.int .i64 ca)) = ws14 at *
          have HVb := Lib.hid h1
          have HXb := Lib.hid h2
          have HRx := Lib.hid h3
          have HNr := Lib.hid h4
          clear h1 h2 h3 h4
          refine wpAnyH_done (by kernel_rfl) ?_ _
          refine hK' _ _ (Met.intro (hJ _ _ ?_))
          (repeat apply Exists.intro)
          refine ⟨?_, rfl⟩
          exact ⟨xb10, vb12, nr, CA, CC, rfl, rfl, HXb, HVb, HRx, HNr, HFa, Lib.hid hHeld, HVl, HXl⟩
        · go_simp
          have hba : Below wa10.heap.size wa10 (wa10.alloc (.cells #[.int .i64 0, .int .i64 0, .int .i64 0] 42)) := (Below.refl _ _).alloc (Nat.le_refl _) _
          have hS6 := Below.trans hHeld (hba.mono hHeld.size)
          obtain ⟨vb15, hbz⟩ : ∃ z, z = wa10.heap.size := ⟨_, rfl⟩
          have HVl : Hid (W0.heap.size ≤ vb15) := Lib.hid (by rw [hbz]; exact hHeld.size)
          have HXb := Lib.hid (HXb.out.on hba)
          have HVb : Hid (Blk (wa10.alloc (.cells #[.int .i64 0, .int .i64 0, .int .i64 0] 42)) vb15 42 #[.int .i64 0, .int .i64 0, .int .i64 0]) := Lib.hid (by rw [hbz]; exact Blk.new _ _ _)
          refine hK.out _ _ hS6 (fun hHeld => ?_)
          clear hK K hba hS6
          rw [← hbz]
          clear hbz
          generalize wa10.alloc _ = wa15 at *
          refine wpAnyH_ready (rs := [9]) (by kernel_rfl) (by simp) ?_
          refine AllReadyH.cons rfl (fun K hK => ?_) AllReadyH.nil
          go_simp
          refine (VC.out wa15 hHeld).mono ?_
          rintro e wc16 ⟨rv, rfl, hrv, hfar, hbc⟩
          obtain ⟨CA, CC, rfl⟩ := hrv.form
          have hS6 := Below.trans hHeld (hbc.mono hHeld.size)
          have HXr : Hid (RFar wc16.heap.size xb10 (.slice CA crs.length CC)) := Lib.hid (.inr ⟨_, hfar, HXb.out.lt⟩)
          have HVr : Hid (RFar wc16.heap.size vb15 (.slice CA crs.length CC)) := Lib.hid (.inr ⟨_, hfar, HVb.out.lt⟩)
          have HXb := Lib.hid (HXb.out.on hbc)
          have HVb := Lib.hid (HVb.out.on hbc)
          have HFa : Hid (Far W0.heap.size (.slice CA crs.length CC)) := Lib.hid (hfar.mono hHeld.size)
          obtain ⟨nr, hnr⟩ : ∃ nr, nr = wc16.heap.size := ⟨_, rfl⟩
          have HRx : Hid (RulesV nr wc16 (.slice CA crs.length CC) crs) := Lib.hid (by rw [hnr]; exact hrv)
          have HNr : Hid (nr ≤ wc16.heap.size) := Lib.hid (by rw [hnr]; exact Nat.le_refl _)
          rw [← hnr] at HXr
          rw [← hnr] at HVr
          refine hK.out _ _ hS6 (fun hHeld => ?_)
          clear hK K hbc hrv hfar hS6 hnr
          refine take_d 10 8 (.tuple #[.agg #[.int .i64 cde, .int .i64 ccl, .int .i64 cfu, .int .i64 cst, .slice CA crs.length CC], .agg #[.int .i64 cc, .int .i64 cr, .int .i64 ca]]) _ rfl rfl (by kernel_rfl) (by kernel_rfl) (by kernel_rfl) (fun _ _ _ h => h) (Or.inl ⟨by rfl, fun w' hSw => ?_⟩) hHeld ?_
          · go_simp
          simp only [List.setIfInBounds_toArray, List.set_cons_zero, List.set_cons_succ]
          refine take_d 11 19 (.agg #[.int .i64 cde, .int .i64 ccl, .int .i64 cfu, .int .i64 cst, .slice CA crs.length CC]) _ rfl rfl (by kernel_rfl) (by kernel_rfl) (by kernel_rfl) (fun _ _ _ h => h) (Or.inl ⟨by rfl, fun w' hSw => ?_⟩) hHeld ?_
          · go_simp
          simp only [List.setIfInBounds_toArray, List.set_cons_zero, List.set_cons_succ]
          refine take_d 12 20 (.agg #[.int .i64 cc, .int .i64 cr, .int .i64 ca]) _ rfl rfl (by kernel_rfl) (by kernel_rfl) (by kernel_rfl) (fun _ _ _ h => h) (Or.inl ⟨by rfl, fun w' hSw => ?_⟩) hHeld ?_
          · go_simp
          simp only [List.setIfInBounds_toArray, List.set_cons_zero, List.set_cons_succ]
          refine wpAnyH_ready (rs := [15]) (by kernel_rfl) (by simp) ?_
          refine AllReadyH.cons rfl (fun K hK => ?_) AllReadyH.nil
          have y0 := HXb.out.cell 0
          have y1 := HXb.out.cell 1
          have y2 := HXb.out.cell 2
          have y3 := HXb.out.cell 3
          have y4 := HXb.out.cell 4
          have yf := HXb.out.frozen
          have yl := HXb.out.lt
          go_simp
          obtain ⟨h1, h2, h3, h4, h5⟩ := st5_rel (.int .i64 cde) (.int .i64 ccl) (.int .i64 cfu) (.int .i64 cst) (.slice CA crs.length CC) HXb.out HVb.out HRx.out HNr.out HXr.out hHeld HXl.out
          clear y0 y1 y2 y3 y4 yf yl HXb HVb HRx HNr
          refine hK.out _ _ h5 (fun hHeld => ?_)
          clear hK K h5
          generalize (((((wc16.setCell ⟨xb10, 0, none⟩ (.int .i64 cde)).setCell ⟨xb10, 1, none⟩ (.int .i64 ccl)).setCell ⟨xb10, 2, none⟩ (.int .i64 cfu)).setCell ⟨xb10, 3, none⟩ (.int .i64 cst)).setCell ⟨xb10, 4, none⟩ (.slice CA crs.length CC)) = ws17 at *
          have HXb := Lib.hid h1
          have HVb := Lib.hid h2
          have HRx := Lib.hid h3
          have HNr := Lib.hid h4
          clear h1 h2 h3 h4
          refine wpAnyH_ready (rs := [16]) (by kernel_rfl) (by simp) ?_
          refine AllReadyH.cons rfl (fun K hK => ?_) AllReadyH.nil
          have y0 := HVb.out.cell 0
          have y1 := HVb.out.cell 1
          have y2 := HVb.out.cell 2
          have yf := HVb.out.frozen
          have yl := HVb.out.lt
          go_simp
          obtain ⟨h1, h2, h3, h4, h5⟩ := st3_rel (.int .i64 cc) (.int .i64 cr) (.int .i64 ca) HVb.out HXb.out HRx.out HNr.out HVr.out hHeld HVl.out
          clear y0 y1 y2 yf yl HXb HVb HRx HNr
          refine hK.out _ _ h5 (fun hHeld => ?_)
          clear hK K h5
          generalize (((ws17.setCell ⟨vb15, 0, none⟩ (.int .i64 cc)).setCell ⟨vb15, 1, none⟩ (.int .i64 cr)).setCell ⟨vb15, 2, none⟩ (.int .i64 ca)) = ws18 at *
          have HVb := Lib.hid h1
          have HXb := Lib.hid h2
          have HRx := Lib.hid h3
          have HNr := Lib.hid h4
          clear h1 h2 h3 h4
          refine wpAnyH_done (by kernel_rfl) ?_ _
          refine hK' _ _ (Met.intro (hJ _ _ ?_))
          (repeat apply Exists.intro)
          refine ⟨?_, rfl⟩
          exact ⟨xb10, vb15, nr, CA, CC, rfl, rfl, HXb, HVb, HRx, HNr, HFa, Lib.hid hHeld, HVl, HXl⟩
      · go_simp
        have hba : Below wd.heap.size wd (wd.alloc (.cells #[.int .i64 0, .int .i64 0, .int .i64 0] 42)) := (Below.refl _ _).alloc (Nat.le_refl _) _
        have hS6 := Below.trans hHeld (hba.mono hHeld.size)
        obtain ⟨vb19, hbz⟩ : ∃ z, z = wd.heap.size := ⟨_, rfl⟩
        have HVl : Hid (W0.heap.size ≤ vb19) := Lib.hid (by rw [hbz]; exact hHeld.size)
        have HVb : Hid (Blk (wd.alloc (.cells #[.int .i64 0, .int .i64 0, .int .i64 0] 42)) vb19 42 #[.int .i64 0, .int .i64 0, .int .i64 0]) := Lib.hid (by rw [hbz]; exact Blk.new _ _ _)
        refine hK.out _ _ hS6 (fun hHeld => ?_)
        clear hK K hba hS6
        rw [← hbz]
        clear hbz
        generalize wd.alloc _ = wa19 at *
        refine wpAnyH_ready (rs := [9, 13]) (by kernel_rfl) (by simp) ?_
        refine AllReadyH.cons rfl (fun K hK => ?_) (AllReadyH.cons rfl (fun K hK => ?_) (AllReadyH.nil))
        · go_simp
          refine (VC.out wa19 hHeld).mono ?_
          rintro e wc20 ⟨rv, rfl, hrv, hfar, hbc⟩
          obtain ⟨CA, CC, rfl⟩ := hrv.form
          have hS6 := Below.trans hHeld (hbc.mono hHeld.size)
          have HVr : Hid (RFar wc20.heap.size vb19 (.slice CA crs.length CC)) := Lib.hid (.inr ⟨_, hfar, HVb.out.lt⟩)
          have HVb := Lib.hid (HVb.out.on hbc)
          have HFa : Hid (Far W0.heap.size (.slice CA crs.length CC)) := Lib.hid (hfar.mono hHeld.size)
          obtain ⟨nr, hnr⟩ : ∃ nr, nr = wc20.heap.size := ⟨_, rfl⟩
          have HRx : Hid (RulesV nr wc20 (.slice CA crs.length CC) crs) := Lib.hid (by rw [hnr]; exact hrv)
          have HNr : Hid (nr ≤ wc20.heap.size) := Lib.hid (by rw [hnr]; exact Nat.le_refl _)
          rw [← hnr] at HVr
          refine hK.out _ _ hS6 (fun hHeld => ?_)
          clear hK K hbc hrv hfar hS6 hnr
          refine take_d 10 8 (.tuple #[.agg #[.int .i64 cde, .int .i64 ccl, .int .i64 cfu, .int .i64 cst, .slice CA crs.length CC], .agg #[.int .i64 cc, .int .i64 cr, .int .i64 ca]]) _ rfl rfl (by kernel_rfl) (by kernel_rfl) (by kernel_rfl) (fun _ _ _ h => h) (Or.inl ⟨by rfl, fun w' hSw => ?_⟩) hHeld ?_
          · go_simp
          simp only [List.setIfInBounds_toArray, List.set_cons_zero, List.set_cons_succ]
          refine take_d 11 19 (.agg #[.int .i64 cde, .int .i64 ccl, .int .i64 cfu, .int .i64 cst, .slice CA crs.length CC]) _ rfl rfl (by kernel_rfl) (by kernel_rfl) (by kernel_rfl) (fun _ _ _ h => h) (Or.inl ⟨by rfl, fun w' hSw => ?_⟩) hHeld ?_
          · go_simp
          simp only [List.setIfInBounds_toArray, List.set_cons_zero, List.set_cons_succ]
          refine take_d 12 20 (.agg #[.int .i64 cc, .int .i64 cr, .int .i64 ca]) _ rfl rfl (by kernel_rfl) (by kernel_rfl) (by kernel_rfl) (fun _ _ _ h => h) (Or.inl ⟨by rfl, fun w' hSw => ?_⟩) hHeld ?_
          · go_simp
          simp only [List.setIfInBounds_toArray, List.set_cons_zero, List.set_cons_succ]
          refine wpAnyH_ready (rs := [13]) (by kernel_rfl) (by simp) ?_
          refine AllReadyH.cons rfl (fun K hK => ?_) AllReadyH.nil
          go_simp
          have hba : Below wc20.heap.size wc20 (wc20.alloc (.cells #[.int .i64 0, .int .i64 0, .int .i64 0, .int .i64 0, .slice none 0 0] 54)) := (Below.refl _ _).alloc (Nat.le_refl _) _
          have hS6 := Below.trans hHeld (hba.mono hHeld.size)
          obtain ⟨xb21, hbz⟩ : ∃ z, z = wc20.heap.size := ⟨_, rfl⟩
          have HXl : Hid (W0.heap.size ≤ xb21) := Lib.hid (by rw [hbz]; exact hHeld.size)
          have HXr : Hid (RFar nr xb21 (.slice CA crs.length CC)) := Lib.hid (.inl (by rw [hbz]; exact HNr.out))
          have HVb := Lib.hid (HVb.out.on hba)
          have HRx := Lib.hid (HRx.out.below (hba.mono HNr.out))
          have HNr := Lib.hid (Nat.le_trans HNr.out hba.size)
          have HXb : Hid (Blk (wc20.alloc (.cells #[.int .i64 0, .int .i64 0, .int .i64 0, .int .i64 0, .slice none 0 0] 54)) xb21 54 #[.int .i64 0, .int .i64 0, .int .i64 0, .int .i64 0, .slice none 0 0]) := Lib.hid (by rw [hbz]; exact Blk.new _ _ _)
          refine hK.out _ _ hS6 (fun hHeld => ?_)
          clear hK K hba hS6
          rw [← hbz]
          clear hbz
          generalize wc20.alloc _ = wa21 at *
          refine wpAnyH_ready (rs := [15]) (by kernel_rfl) (by simp) ?_
          refine AllReadyH.cons rfl (fun K hK => ?_) AllReadyH.nil
          have y0 := HXb.out.cell 0
          have y1 := HXb.out.cell 1
          have y2 := HXb.out.cell 2
          have y3 := HXb.out.cell 3
          have y4 := HXb.out.cell 4
          have yf := HXb.out.frozen
          have yl := HXb.out.lt
          go_simp
          obtain ⟨h1, h2, h3, h4, h5⟩ := st5_rel (.int .i64 cde) (.int .i64 ccl) (.int .i64 cfu) (.int .i64 cst) (.slice CA crs.length CC) HXb.out HVb.out HRx.out HNr.out HXr.out hHeld HXl.out
          clear y0 y1 y2 y3 y4 yf yl HXb HVb HRx HNr
          refine hK.out _ _ h5 (fun hHeld => ?_)
          clear hK K h5
          generalize (((((wa21.setCell ⟨xb21, 0, none⟩ (.int .i64 cde)).setCell ⟨xb21, 1, none⟩ (.int .i64 ccl)).setCell ⟨xb21, 2, none⟩ (.int .i64 cfu)).setCell ⟨xb21, 3, none⟩ (.int .i64 cst)).setCell ⟨xb21, 4, none⟩ (.slice CA crs.length CC)) = ws22 at *
          have HXb := Lib.hid h1
          have HVb := Lib.hid h2
          have HRx := Lib.hid h3
          have HNr := Lib.hid h4
          clear h1 h2 h3 h4
          refine wpAnyH_ready (rs := [16]) (by kernel_rfl) (by simp) ?_
          refine AllReadyH.cons rfl (fun K hK => ?_) AllReadyH.nil
          have y0 := HVb.out.cell 0
          have y1 := HVb.out.cell 1
          have y2 := HVb.out.cell 2
          have yf := HVb.out.frozen
          have yl := HVb.out.lt
          go_simp
          obtain ⟨h1, h2, h3, h4, h5⟩ := st3_rel (.int .i64 cc) (.int .i64 cr) (.int .i64 ca) HVb.out HXb.out HRx.out HNr.out HVr.out hHeld HVl.out
          clear y0 y1 y2 yf yl HXb HVb HRx HNr
          refine hK.out _ _ h5 (fun hHeld => ?_)
          clear hK K h5
          generalize (((ws22.setCell ⟨vb19, 0, none⟩ (.int .i64 cc)).setCell ⟨vb19, 1, none⟩ (.int .i64 cr)).setCell ⟨vb19, 2, none⟩ (.int .i64 ca)) = ws23 at *
          have HVb := Lib.hid h1
          have HXb := Lib.hid h2
          have HRx := Lib.hid h3
          have HNr := Lib.hid h4
          clear h1 h2 h3 h4
          refine wpAnyH_done (by kernel_rfl) ?_ _
          refine hK' _ _ (Met.intro (hJ _ _ ?_))
          (repeat apply Exists.intro)
          refine ⟨?_, rfl⟩
          exact ⟨xb21, vb19, nr, CA, CC, rfl, rfl, HXb, HVb, HRx, HNr, HFa, Lib.hid hHeld, HVl, HXl⟩
        · go_simp
          have hba : Below wa19.heap.size wa19 (wa19.alloc (.cells #[.int .i64 0, .int .i64 0, .int .i64 0, .int .i64 0, .slice none 0 0] 54)) := (Below.refl _ _).alloc (Nat.le_refl _) _
          have hS6 := Below.trans hHeld (hba.mono hHeld.size)
          obtain ⟨xb24, hbz⟩ : ∃ z, z = wa19.heap.size := ⟨_, rfl⟩
          have HXl : Hid (W0.heap.size ≤ xb24) := Lib.hid (by rw [hbz]; exact hHeld.size)
          have HVb := Lib.hid (HVb.out.on hba)
          have HXb : Hid (Blk (wa19.alloc (.cells #[.int .i64 0, .int .i64 0, .int .i64 0, .int .i64 0, .slice none 0 0] 54)) xb24 54 #[.int .i64 0, .int .i64 0, .int .i64 0, .int .i64 0, .slice none 0 0]) := Lib.hid (by rw [hbz]; exact Blk.new _ _ _)
          refine hK.out _ _ hS6 (fun hHeld => ?_)
          clear hK K hba hS6
          rw [← hbz]
          clear hbz
          generalize wa19.alloc _ = wa24 at *
          refine wpAnyH_ready (rs := [9]) (by kernel_rfl) (by simp) ?_
          refine AllReadyH.cons rfl (fun K hK => ?_) AllReadyH.nil
          go_simp
          refine (VC.out wa24 hHeld).mono ?_
          rintro e wc25 ⟨rv, rfl, hrv, hfar, hbc⟩
          obtain ⟨CA, CC, rfl⟩ := hrv.form
          have hS6 := Below.trans hHeld (hbc.mono hHeld.size)
          have HXr : Hid (RFar wc25.heap.size xb24 (.slice CA crs.length CC)) := Lib.hid (.inr ⟨_, hfar, HXb.out.lt⟩)
          have HVr : Hid (RFar wc25.heap.size vb19 (.slice CA crs.length CC)) := Lib.hid (.inr ⟨_, hfar, HVb.out.lt⟩)
          have HXb := Lib.hid (HXb.out.on hbc)
          have HVb := Lib.hid (HVb.out.on hbc)
          have HFa : Hid (Far W0.heap.size (.slice CA crs.length CC)) := Lib.hid (hfar.mono hHeld.size)
          obtain ⟨nr, hnr⟩ : ∃ nr, nr = wc25.heap.size := ⟨_, rfl⟩
          have HRx : Hid (RulesV nr wc25 (.slice CA crs.length CC) crs) := Lib.hid (by rw [hnr]; exact hrv)
          have HNr : Hid (nr ≤ wc25.heap.size) := Lib.hid (by rw [hnr]; exact Nat.le_refl _)
          rw [← hnr] at HXr
          rw [← hnr] at HVr
          refine hK.out _ _ hS6 (fun hHeld => ?_)
          clear hK K hbc hrv hfar hS6 hnr
          refine take_d 10 8 (.tuple #[.agg #[.int .i64 cde, .int .i64 ccl, .int .i64 cfu, .int .i64 cst, .slice CA crs.length CC], .agg #[.int .i64 cc, .int .i64 cr, .int .i64 ca]]) _ rfl rfl (by kernel_rfl) (by kernel_rfl) (by kernel_rfl) (fun _ _ _ h => h) (Or.inl ⟨by rfl, fun w' hSw => ?_⟩) hHeld ?_
          · go_simp
          simp only [List.setIfInBounds_toArray, List.set_cons_zero, List.set_cons_succ]
          refine take_d 11 19 (.agg #[.int .i64 cde, .int .i64 ccl, .int .i64 cfu, .int .i64 cst, .slice CA crs.length CC]) _ rfl rfl (by kernel_rfl) (by kernel_rfl) (by kernel_rfl) (fun _ _ _ h => h) (Or.inl ⟨by rfl, fun w' hSw => ?_⟩) hHeld ?_
          · go_simp
          simp only [List.setIfInBounds_toArray, List.set_cons_zero, List.set_cons_succ]
          refine take_d 12 20 (.agg #[.int .i64 cc, .int .i64 cr, .int .i64 ca]) _ rfl rfl (by kernel_rfl) (by kernel_rfl) (by kernel_rfl) (fun _ _ _ h => h) (Or.inl ⟨by rfl, fun w' hSw => ?_⟩) hHeld ?_
          · go_simp
          simp only [List.setIfInBounds_toArray, List.set_cons_zero, List.set_cons_succ]
          refine wpAnyH_ready (rs := [15]) (by kernel_rfl) (by simp) ?_
          refine AllReadyH.cons rfl (fun K hK => ?_) AllReadyH.nil
          have y0 := HXb.out.cell 0
          have y1 := HXb.out.cell 1
          have y2 := HXb.out.cell 2
          have y3 := HXb.out.cell 3
          have y4 := HXb.out.cell 4
          have yf := HXb.out.frozen
          have yl := HXb.out.lt
          go_simp
          obtain ⟨h1, h2, h3, h4, h5⟩ := st5_rel (.int .i64 cde) (.int .i64 ccl) (.int .i64 cfu) (.int .i64 cst) (.slice CA crs.length CC) HXb.out HVb.out HRx.out HNr.out HXr.out hHeld HXl.out
          clear y0 y1 y2 y3 y4 yf yl HXb HVb HRx HNr
          refine hK.out _ _ h5 (fun hHeld => ?_)
          clear hK K h5
          generalize (((((wc25.setCell ⟨xb24, 0, none⟩ (.int .i64 cde)).setCell ⟨xb24, 1, none⟩ (.int .i64 ccl)).setCell ⟨xb24, 2, none⟩ (.int .i64 cfu)).setCell ⟨xb24, 3, none⟩ (.int .i64 cst)).setCell ⟨xb24, 4, none⟩ (.slice CA crs.length CC)) = ws26 at *
          have HXb := Lib.hid h1
          have HVb := Lib.hid h2
          have HRx := Lib.hid h3
          have HNr := Lib.hid h4
          clear h1 h2 h3 h4
          refine wpAnyH_ready (rs := [16]) (by kernel_rfl) (by simp) ?_
          refine AllReadyH.cons rfl (fun K hK => ?_) AllReadyH.nil
          have y0 := HVb.out.cell 0
          have y1 := HVb.out.cell 1
          have y2 := HVb.out.cell 2
          have yf := HVb.out.frozen
          have yl := HVb.out.lt
          go_simp
          obtain ⟨h1, h2, h3, h4, h5⟩ := st3_rel (.int .i64 cc) (.int .i64 cr) (.int .i64 ca) HVb.out HXb.out HRx.out HNr.out HVr.out hHeld HVl.out
          clear y0 y1 y2 yf yl HXb HVb HRx HNr
          refine hK.out _ _ h5 (fun hHeld => ?_)
          clear hK K h5
          generalize (((ws26.setCell ⟨vb19, 0, none⟩ (.int .i64 cc)).setCell ⟨vb19, 1, none⟩ (.int .i64 cr)).setCell ⟨vb19, 2, none⟩ (.int .i64 ca)) = ws27 at *
          have HVb := Lib.hid h1
          have HXb := Lib.hid h2
          have HRx := Lib.hid h3
          have HNr := Lib.hid h4
          clear h1 h2 h3 h4
          refine wpAnyH_done (by kernel_rfl) ?_ _
          refine hK' _ _ (Met.intro (hJ _ _ ?_))
          (repeat apply Exists.intro)
          refine ⟨?_, rfl⟩
          exact ⟨xb24, vb19, nr, CA, CC, rfl, rfl, HXb, HVb, HRx, HNr, HFa, Lib.hid hHeld, HVl, HXl⟩
    · go_simp
      have hba : Below wd.heap.size wd (wd.alloc (.cells #[.int .i64 0, .int .i64 0, .int .i64 0, .int .i64 0, .slice none 0 0] 54)) := (Below.refl _ _).alloc (Nat.le_refl _) _
      have hS6 := Below.trans hHeld (hba.mono hHeld.size)
      obtain ⟨xb28, hbz⟩ : ∃ z, z = wd.heap.size := ⟨_, rfl⟩
      have HXl : Hid (W0.heap.size ≤ xb28) := Lib.hid (by rw [hbz]; exact hHeld.size)
      have HXb : Hid (Blk (wd.alloc (.cells #[.int .i64 0, .int .i64 0, .int .i64 0, .int .i64 0, .slice none 0 0] 54)) xb28 54 #[.int .i64 0, .int .i64 0, .int .i64 0, .int .i64 0, .slice none 0 0]) := Lib.hid (by rw [hbz]; exact Blk.new _ _ _)
      refine hK.out _ _ hS6 (fun hHeld => ?_)
      clear hK K hba hS6
      rw [← hbz]
      clear hbz
      generalize wd.alloc _ = wa28 at *
      refine wpAnyH_ready (rs := [5, 14]) (by kernel_rfl) (by simp) ?_
      refine AllReadyH.cons rfl (fun K hK => ?_) (AllReadyH.cons rfl (fun K hK => ?_) (AllReadyH.nil))
      · go_simp
        refine (version_any2 k HK.out (HAT.out.on hHeld)).mono ?_
        rintro e wv ⟨rfl, rfl⟩
        refine hK.out _ _ hHeld (fun hHeld => ?_)
        clear hK K
        refine take_d 6 15 (.pointer (some ⟨b, k * 5, none⟩)) _ rfl rfl (by kernel_rfl) (by kernel_rfl) (by kernel_rfl) (fun _ _ _ h => h) (Or.inl ⟨by rfl, fun w' hSw => ?_⟩) hHeld ?_
        · have z8 : (k : Int) < ((k + 1 : Nat) : Int) := by omega
          have z9 : (k : Int) < (k : Int) + 1 := by omega
          go_simp
        simp only [List.setIfInBounds_toArray, List.set_cons_zero, List.set_cons_succ]
        refine take_d 7 16 (.agg #[.int .i64 T.de, .int .i64 T.cl, .int .i64 T.fu, .int .i64 T.st, .slice A0 T.rs.length d0]) _ rfl rfl (by kernel_rfl) (by kernel_rfl) (by kernel_rfl) (fun _ _ _ h => h) (Or.inl ⟨by rfl, fun w' hSw => ?_⟩) hHeld ?_
        · have q0 := (hSw.cell (p := ⟨b, k * 5 + 0, none⟩) HBb.out).trans E0.out
          have q1 := (hSw.cell (p := ⟨b, k * 5 + 1, none⟩) HBb.out).trans E1.out
          have q2 := (hSw.cell (p := ⟨b, k * 5 + 2, none⟩) HBb.out).trans E2.out
          have q3 := (hSw.cell (p := ⟨b, k * 5 + 3, none⟩) HBb.out).trans E3.out
          have q4 := (hSw.cell (p := ⟨b, k * 5 + 4, none⟩) HBb.out).trans E4.out
          rw [Nat.add_zero] at q0
          go_simp
        simp only [List.setIfInBounds_toArray, List.set_cons_zero, List.set_cons_succ]
        refine wpAnyH_ready (rs := [9, 14]) (by kernel_rfl) (by simp) ?_
        refine AllReadyH.cons rfl (fun K hK => ?_) (AllReadyH.cons rfl (fun K hK => ?_) (AllReadyH.nil))
        · go_simp
          refine (VC.out wa28 hHeld).mono ?_
          rintro e wc29 ⟨rv, rfl, hrv, hfar, hbc⟩
          obtain ⟨CA, CC, rfl⟩ := hrv.form
          have hS6 := Below.trans hHeld (hbc.mono hHeld.size)
          have HXr : Hid (RFar wc29.heap.size xb28 (.slice CA crs.length CC)) := Lib.hid (.inr ⟨_, hfar, HXb.out.lt⟩)
          have HXb := Lib.hid (HXb.out.on hbc)
          have HFa : Hid (Far W0.heap.size (.slice CA crs.length CC)) := Lib.hid (hfar.mono hHeld.size)
          obtain ⟨nr, hnr⟩ : ∃ nr, nr = wc29.heap.size := ⟨_, rfl⟩
          have HRx : Hid (RulesV nr wc29 (.slice CA crs.length CC) crs) := Lib.hid (by rw [hnr]; exact hrv)
          have HNr : Hid (nr ≤ wc29.heap.size) := Lib.hid (by rw [hnr]; exact Nat.le_refl _)
          rw [← hnr] at HXr
          refine hK.out _ _ hS6 (fun hHeld => ?_)
          clear hK K hbc hrv hfar hS6 hnr
          refine take_d 10 8 (.tuple #[.agg #[.int .i64 cde, .int .i64 ccl, .int .i64 cfu, .int .i64 cst, .slice CA crs.length CC], .agg #[.int .i64 cc, .int .i64 cr, .int .i64 ca]]) _ rfl rfl (by kernel_rfl) (by kernel_rfl) (by kernel_rfl) (fun _ _ _ h => h) (Or.inl ⟨by rfl, fun w' hSw => ?_⟩) hHeld ?_
          · go_simp
          simp only [List.setIfInBounds_toArray, List.set_cons_zero, List.set_cons_succ]
          refine take_d 11 19 (.agg #[.int .i64 cde, .int .i64 ccl, .int .i64 cfu, .int .i64 cst, .slice CA crs.length CC]) _ rfl rfl (by kernel_rfl) (by kernel_rfl) (by kernel_rfl) (fun _ _ _ h => h) (Or.inl ⟨by rfl, fun w' hSw => ?_⟩) hHeld ?_
          · go_simp
          simp only [List.setIfInBounds_toArray, List.set_cons_zero, List.set_cons_succ]
          refine take_d 12 20 (.agg #[.int .i64 cc, .int .i64 cr, .int .i64 ca]) _ rfl rfl (by kernel_rfl) (by kernel_rfl) (by kernel_rfl) (fun _ _ _ h => h) (Or.inl ⟨by rfl, fun w' hSw => ?_⟩) hHeld ?_
          · go_simp
          simp only [List.setIfInBounds_toArray, List.set_cons_zero, List.set_cons_succ]
          refine wpAnyH_ready (rs := [14]) (by kernel_rfl) (by simp) ?_
          refine AllReadyH.cons rfl (fun K hK => ?_) AllReadyH.nil
          go_simp
          have hba : Below wc29.heap.size wc29 (wc29.alloc (.cells #[.int .i64 0, .int .i64 0, .int .i64 0] 42)) := (Below.refl _ _).alloc (Nat.le_refl _) _
          have hS6 := Below.trans hHeld (hba.mono hHeld.size)
          obtain ⟨vb30, hbz⟩ : ∃ z, z = wc29.heap.size := ⟨_, rfl⟩
          have HVl : Hid (W0.heap.size ≤ vb30) := Lib.hid (by rw [hbz]; exact hHeld.size)
          have HVr : Hid (RFar nr vb30 (.slice CA crs.length CC)) := Lib.hid (.inl (by rw [hbz]; exact HNr.out))
          have HXb := Lib.hid (HXb.out.on hba)
          have HRx := Lib.hid (HRx.out.below (hba.mono HNr.out))
          have HNr := Lib.hid (Nat.le_trans HNr.out hba.size)
          have HVb : Hid (Blk (wc29.alloc (.cells #[.int .i64 0, .int .i64 0, .int .i64 0] 42)) vb30 42 #[.int .i64 0, .int .i64 0, .int .i64 0]) := Lib.hid (by rw [hbz]; exact Blk.new _ _ _)
          refine hK.out _ _ hS6 (fun hHeld => ?_)
          clear hK K hba hS6
          rw [← hbz]
          clear hbz
          generalize wc29.alloc _ = wa30 at *
          refine wpAnyH_ready (rs := [15]) (by kernel_rfl) (by simp) ?_
          refine AllReadyH.cons rfl (fun K hK => ?_) AllReadyH.nil
          have y0 := HXb.out.cell 0
          have y1 := HXb.out.cell 1
          have y2 := HXb.out.cell 2
          have y3 := HXb.out.cell 3
          have y4 := HXb.out.cell 4
          have yf := HXb.out.frozen
          have yl := HXb.out.lt
          go_simp
          obtain ⟨h1, h2, h3, h4, h5⟩ := st5_rel (.int .i64 cde) (.int .i64 ccl) (.int .i64 cfu) (.int .i64 cst) (.slice CA crs.length CC) HXb.out HVb.out HRx.out HNr.out HXr.out hHeld HXl.out
          clear y0 y1 y2 y3 y4 yf yl HXb HVb HRx HNr
          refine hK.out _ _ h5 (fun hHeld => ?_)
          clear hK K h5
          generalize (((((wa30.setCell ⟨xb28, 0, none⟩ (.int .i64 cde)).setCell ⟨xb28, 1, none⟩ (.int .i64 ccl)).setCell ⟨xb28, 2, none⟩ (.int .i64 cfu)).setCell ⟨xb28, 3, none⟩ (.int .i64 cst)).setCell ⟨xb28, 4, none⟩ (.slice CA crs.length CC)) = ws31 at *
          have HXb := Lib.hid h1
          have HVb := Lib.hid h2
          have HRx := Lib.hid h3
          have HNr := Lib.hid h4
          clear h1 h2 h3 h4
          refine wpAnyH_ready (rs := [16]) (by kernel_rfl) (by simp) ?_
          refine AllReadyH.cons rfl (fun K hK => ?_) AllReadyH.nil
          have y0 := HVb.out.cell 0
          have y1 := HVb.out.cell 1
          have y2 := HVb.out.cell 2
          have yf := HVb.out.frozen
          have yl := HVb.out.lt
          go_simp
          obtain ⟨h1, h2, h3, h4, h5⟩ := st3_rel (.int .i64 cc) (.int .i64 cr) (.int .i64 ca) HVb.out HXb.out HRx.out HNr.out HVr.out hHeld HVl.out
          clear y0 y1 y2 yf yl HXb HVb HRx HNr
          refine hK.out _ _ h5 (fun hHeld => ?_)
          clear hK K h5
          generalize (((ws31.setCell ⟨vb30, 0, none⟩ (.int .i64 cc)).setCell ⟨vb30, 1, none⟩ (.int .i64 cr)).setCell ⟨vb30, 2, none⟩ (.int .i64 ca)) = ws32 at *
          have HVb := Lib.hid h1
          have HXb := Lib.hid h2
          have HRx := Lib.hid h3
          have HNr := Lib.hid h4
          clear h1 h2 h3 h4
          refine wpAnyH_done (by kernel_rfl) ?_ _
          refine hK' _ _ (Met.intro (hJ _ _ ?_))
          (repeat apply Exists.intro)
          refine ⟨?_, rfl⟩
          exact ⟨xb28, vb30, nr, CA, CC, rfl, rfl, HXb, HVb, HRx, HNr, HFa, Lib.hid hHeld, HVl, HXl⟩
        · go_simp
          have hba : Below wa28.heap.size wa28 (wa28.alloc (.cells #[.int .i64 0, .int .i64 0, .int .i64 0] 42)) := (Below.refl _ _).alloc (Nat.le_refl _) _
          have hS6 := Below.trans hHeld (hba.mono hHeld.size)
          obtain ⟨vb33, hbz⟩ : ∃ z, z = wa28.heap.size := ⟨_, rfl⟩
          have HVl : Hid (W0.heap.size ≤ vb33) := Lib.hid (by rw [hbz]; exact hHeld.size)
          have HXb := Lib.hid (HXb.out.on hba)
          have HVb : Hid (Blk (wa28.alloc (.cells #[.int .i64 0, .int .i64 0, .int .i64 0] 42)) vb33 42 #[.int .i64 0, .int .i64 0, .int .i64 0]) := Lib.hid (by rw [hbz]; exact Blk.new _ _ _)
          refine hK.out _ _ hS6 (fun hHeld => ?_)
          clear hK K hba hS6
          rw [← hbz]
          clear hbz
          generalize wa28.alloc _ = wa33 at *
          refine wpAnyH_ready (rs := [9]) (by kernel_rfl) (by simp) ?_
          refine AllReadyH.cons rfl (fun K hK => ?_) AllReadyH.nil
          go_simp
          refine (VC.out wa33 hHeld).mono ?_
          rintro e wc34 ⟨rv, rfl, hrv, hfar, hbc⟩
          obtain ⟨CA, CC, rfl⟩ := hrv.form
          have hS6 := Below.trans hHeld (hbc.mono hHeld.size)
          have HXr : Hid (RFar wc34.heap.size xb28 (.slice CA crs.length CC)) := Lib.hid (.inr ⟨_, hfar, HXb.out.lt⟩)
          have HVr : Hid (RFar wc34.heap.size vb33 (.slice CA crs.length CC)) := Lib.hid (.inr ⟨_, hfar, HVb.out.lt⟩)
          have HXb := Lib.hid (HXb.out.on hbc)
          have HVb := Lib.hid (HVb.out.on hbc)
          have HFa : Hid (Far W0.heap.size (.slice CA crs.length CC)) := Lib.hid (hfar.mono hHeld.size)
          obtain ⟨nr, hnr⟩ : ∃ nr, nr = wc34.heap.size := ⟨_, rfl⟩
          have HRx : Hid (RulesV nr wc34 (.slice CA crs.length CC) crs) := Lib.hid (by rw [hnr]; exact hrv)
          have HNr : Hid (nr ≤ wc34.heap.size) := Lib.hid (by rw [hnr]; exact Nat.le_refl _)
          rw [← hnr] at HXr
          rw [← hnr] at HVr
          refine hK.out _ _ hS6 (fun hHeld => ?_)
          clear hK K hbc hrv hfar hS6 hnr
          refine take_d 10 8 (.tuple #[.agg #[.int .i64 cde, .int .i64 ccl, .int .i64 cfu, .int .i64 cst, .slice CA crs.length CC], .agg #[.int .i64 cc, .int .i64 cr, .int .i64 ca]]) _ rfl rfl (by kernel_rfl) (by kernel_rfl) (by kernel_rfl) (fun _ _ _ h => h) (Or.inl ⟨by rfl, fun w' hSw => ?_⟩) hHeld ?_
          · go_simp
          simp only [List.setIfInBounds_toArray, List.set_cons_zero, List.set_cons_succ]
          refine take_d 11 19 (.agg #[.int .i64 cde, .int .i64 ccl, .int .i64 cfu, .int .i64 cst, .slice CA crs.length CC]) _ rfl rfl (by kernel_rfl) (by kernel_rfl) (by kernel_rfl) (fun _ _ _ h => h) (Or.inl ⟨by rfl, fun w' hSw => ?_⟩) hHeld ?_
          · go_simp
          simp only [List.setIfInBounds_toArray, List.set_cons_zero, List.set_cons_succ]
          refine take_d 12 20 (.agg #[.int .i64 cc, .int .i64 cr, .int .i64 ca]) _ rfl rfl (by kernel_rfl) (by kernel_rfl) (by kernel_rfl) (fun _ _ _ h => h) (Or.inl ⟨by rfl, fun w' hSw => ?_⟩) hHeld ?_
          · go_simp
          simp only [List.setIfInBounds_toArray, List.set_cons_zero, List.set_cons_succ]
          refine wpAnyH_ready (rs := [15]) (by kernel_rfl) (by simp) ?_
          refine AllReadyH.cons rfl (fun K hK => ?_) AllReadyH.nil
          have y0 := HXb.out.cell 0
          have y1 := HXb.out.cell 1
          have y2 := HXb.out.cell 2
          have y3 := HXb.out.cell 3
          have y4 := HXb.out.cell 4
          have yf := HXb.out.frozen
          have yl := HXb.out.lt
          go_simp
          obtain ⟨h1, h2, h3, h4, h5⟩ := st5_rel (.int .i64 cde) (.int .i64 ccl) (.int .i64 cfu) (.int .i64 cst) (.slice CA crs.length CC) HXb.out HVb.out HRx.out HNr.out HXr.out hHeld HXl.out
          clear y0 y1 y2 y3 y4 yf yl HXb HVb HRx HNr
          refine hK.out _ _ h5 (fun hHeld => ?_)
          clear hK K h5
          generalize (((((wc34.setCell ⟨xb28, 0, none⟩ (.int .i64 cde)).setCell ⟨xb28, 1, none⟩ (.int .i64 ccl)).setCell ⟨xb28, 2, none⟩ (.int .i64 cfu)).setCell ⟨xb28, 3, none⟩ (.int .i64 cst)).setCell ⟨xb28, 4, none⟩ (.slice CA crs.length CC)) = ws35 at *
          have HXb := Lib.hid h1
          have HVb := Lib.hid h2
          have HRx := Lib.hid h3
          have HNr := Lib.hid h4
          clear h1 h2 h3 h4
          refine wpAnyH_ready (rs := [16]) (by kernel_rfl) (by simp) ?_
          refine AllReadyH.cons rfl (fun K hK => ?_) AllReadyH.nil
          have y0 := HVb.out.cell 0
          have y1 := HVb.out.cell 1
          have y2 := HVb.out.cell 2
          have yf := HVb.out.frozen
          have yl := HVb.out.lt
          go_simp
          obtain ⟨h1, h2, h3, h4, h5⟩ := st3_rel (.int .i64 cc) (.int .i64 cr) (.int .i64 ca) HVb.out HXb.out HRx.out HNr.out HVr.out hHeld HVl.out
          clear y0 y1 y2 yf yl HXb HVb HRx HNr
          refine hK.out _ _ h5 (fun hHeld => ?_)
          clear hK K h5
          generalize (((ws35.setCell ⟨vb33, 0, none⟩ (.int .i64 cc)).setCell ⟨vb33, 1, none⟩ (.int .i64 cr)).setCell ⟨vb33, 2, none⟩ (.int .i64 ca)) = ws36 at *
          have HVb := Lib.hid h1
          have HXb := Lib.hid h2
          have HRx := Lib.hid h3
          have HNr := Lib.hid h4
          clear h1 h2 h3 h4
          refine wpAnyH_done (by kernel_rfl) ?_ _
          refine hK' _ _ (Met.intro (hJ _ _ ?_))
          (repeat apply Exists.intro)
          refine ⟨?_, rfl⟩
          exact ⟨xb28, vb33, nr, CA, CC, rfl, rfl, HXb, HVb, HRx, HNr, HFa, Lib.hid hHeld, HVl, HXl⟩
      · go_simp
        have hba : Below wa28.heap.size wa28 (wa28.alloc (.cells #[.int .i64 0, .int .i64 0, .int .i64 0] 42)) := (Below.refl _ _).alloc (Nat.le_refl _) _
        have hS6 := Below.trans hHeld (hba.mono hHeld.size)
        obtain ⟨vb37, hbz⟩ : ∃ z, z = wa28.heap.size := ⟨_, rfl⟩
        have HVl : Hid (W0.heap.size ≤ vb37) := Lib.hid (by rw [hbz]; exact hHeld.size)
        have HXb := Lib.hid (HXb.out.on hba)
        have HVb : Hid (Blk (wa28.alloc (.cells #[.int .i64 0, .int .i64 0, .int .i64 0] 42)) vb37 42 #[.int .i64 0, .int .i64 0, .int .i64 0]) := Lib.hid (by rw [hbz]; exact Blk.new _ _ _)
        refine hK.out _ _ hS6 (fun hHeld => ?_)
        clear hK K hba hS6
        rw [← hbz]
        clear hbz
        generalize wa28.alloc _ = wa37 at *
        refine wpAnyH_ready (rs := [5]) (by kernel_rfl) (by simp) ?_
        refine AllReadyH.cons rfl (fun K hK => ?_) AllReadyH.nil
        go_simp
        refine (version_any2 k HK.out (HAT.out.on hHeld)).mono ?_
        rintro e wv ⟨rfl, rfl⟩
        refine hK.out _ _ hHeld (fun hHeld => ?_)
        clear hK K
        refine take_d 6 15 (.pointer (some ⟨b, k * 5, none⟩)) _ rfl rfl (by kernel_rfl) (by kernel_rfl) (by kernel_rfl) (fun _ _ _ h => h) (Or.inl ⟨by rfl, fun w' hSw => ?_⟩) hHeld ?_
        · have z8 : (k : Int) < ((k + 1 : Nat) : Int) := by omega
          have z9 : (k : Int) < (k : Int) + 1 := by omega
          go_simp
        simp only [List.setIfInBounds_toArray, List.set_cons_zero, List.set_cons_succ]
        refine take_d 7 16 (.agg #[.int .i64 T.de, .int .i64 T.cl, .int .i64 T.fu, .int .i64 T.st, .slice A0 T.rs.length d0]) _ rfl rfl (by kernel_rfl) (by kernel_rfl) (by kernel_rfl) (fun _ _ _ h => h) (Or.inl ⟨by rfl, fun w' hSw => ?_⟩) hHeld ?_
        · have q0 := (hSw.cell (p := ⟨b, k * 5 + 0, none⟩) HBb.out).trans E0.out
          have q1 := (hSw.cell (p := ⟨b, k * 5 + 1, none⟩) HBb.out).trans E1.out
          have q2 := (hSw.cell (p := ⟨b, k * 5 + 2, none⟩) HBb.out).trans E2.out
          have q3 := (hSw.cell (p := ⟨b, k * 5 + 3, none⟩) HBb.out).trans E3.out
          have q4 := (hSw.cell (p := ⟨b, k * 5 + 4, none⟩) HBb.out).trans E4.out
          rw [Nat.add_zero] at q0
          go_simp
        simp only [List.setIfInBounds_toArray, List.set_cons_zero, List.set_cons_succ]
        refine wpAnyH_ready (rs := [9]) (by kernel_rfl) (by simp) ?_
        refine AllReadyH.cons rfl (fun K hK => ?_) AllReadyH.nil
        go_simp
        refine (VC.out wa37 hHeld).mono ?_
        rintro e wc38 ⟨rv, rfl, hrv, hfar, hbc⟩
        obtain ⟨CA, CC, rfl⟩ := hrv.form
        have hS6 := Below.trans hHeld (hbc.mono hHeld.size)
        have HXr : Hid (RFar wc38.heap.size xb28 (.slice CA crs.length CC)) := Lib.hid (.inr ⟨_, hfar, HXb.out.lt⟩)
        have HVr : Hid (RFar wc38.heap.size vb37 (.slice CA crs.length CC)) := Lib.hid (.inr ⟨_, hfar, HVb.out.lt⟩)
        have HXb := Lib.hid (HXb.out.on hbc)
        have HVb := Lib.hid (HVb.out.on hbc)
        have HFa : Hid (Far W0.heap.size (.slice CA crs.length CC)) := Lib.hid (hfar.mono hHeld.size)
        obtain ⟨nr, hnr⟩ : ∃ nr, nr = wc38.heap.size := ⟨_, rfl⟩
        have HRx : Hid (RulesV nr wc38 (.slice CA crs.length CC) crs) := Lib.hid (by rw [hnr]; exact hrv)
        have HNr : Hid (nr ≤ wc38.heap.size) := Lib.hid (by rw [hnr]; exact Nat.le_refl _)
        rw [← hnr] at HXr
        rw [← hnr] at HVr
        refine hK.out _ _ hS6 (fun hHeld => ?_)
        clear hK K hbc hrv hfar hS6 hnr
        refine take_d 10 8 (.tuple #[.agg #[.int .i64 cde, .int .i64 ccl, .int .i64 cfu, .int .i64 cst, .slice CA crs.length CC], .agg #[.int .i64 cc, .int .i64 cr, .int .i64 ca]]) _ rfl rfl (by kernel_rfl) (by kernel_rfl) (by kernel_rfl) (fun _ _ _ h => h) (Or.inl ⟨by rfl, fun w' hSw => ?_⟩) hHeld ?_
        · go_simp
        simp only [List.setIfInBounds_toArray, List.set_cons_zero, List.set_cons_succ]
        refine take_d 11 19 (.agg #[.int .i64 cde, .int .i64 ccl, .int .i64 cfu, .int .i64 cst, .slice CA crs.length CC]) _ rfl rfl (by kernel_rfl) (by kernel_rfl) (by kernel_rfl) (fun _ _ _ h => h) (Or.inl ⟨by rfl, fun w' hSw => ?_⟩) hHeld ?_
        · go_simp
        simp only [List.setIfInBounds_toArray, List.set_cons_zero, List.set_cons_succ]
        refine take_d 12 20 (.agg #[.int .i64 cc, .int .i64 cr, .int .i64 ca]) _ rfl rfl (by kernel_rfl) (by kernel_rfl) (by kernel_rfl) (fun _ _ _ h => h) (Or.inl ⟨by rfl, fun w' hSw => ?_⟩) hHeld ?_
        · go_simp
        simp only [List.setIfInBounds_toArray, List.set_cons_zero, List.set_cons_succ]
        refine wpAnyH_ready (rs := [15]) (by kernel_rfl) (by simp) ?_
        refine AllReadyH.cons rfl (fun K hK => ?_) AllReadyH.nil
        have y0 := HXb.out.cell 0
        have y1 := HXb.out.cell 1
        have y2 := HXb.out.cell 2
        have y3 := HXb.out.cell 3
        have y4 := HXb.out.cell 4
        have yf := HXb.out.frozen
        have yl := HXb.out.lt
        go_simp
        obtain ⟨h1, h2, h3, h4, h5⟩ := st5_rel (.int .i64 cde) (.int .i64 ccl) (.int .i64 cfu) (.int .i64 cst) (.slice CA crs.length CC) HXb.out HVb.out HRx.out HNr.out HXr.out hHeld HXl.out
        clear y0 y1 y2 y3 y4 yf yl HXb HVb HRx HNr
        refine hK.out _ _ h5 (fun hHeld => ?_)
        clear hK K h5
        generalize (((((wc38.setCell ⟨xb28, 0, none⟩ (.int .i64 cde)).setCell ⟨xb28, 1, none⟩ (.int .i64 ccl)).setCell ⟨xb28, 2, none⟩ (.int .i64 cfu)).setCell ⟨xb28, 3, none⟩ (.int .i64 cst)).setCell ⟨xb28, 4, none⟩ (.slice CA crs.length CC)) = ws39 at *
        have HXb := Lib.hid h1
        have HVb := Lib.hid h2
        have HRx := Lib.hid h3
        have HNr := Lib.hid h4
        clear h1 h2 h3 h4
        refine wpAnyH_ready (rs := [16]) (by kernel_rfl) (by simp) ?_
        refine AllReadyH.cons rfl (fun K hK => ?_) AllReadyH.nil
        have y0 := HVb.out.cell 0
        have y1 := HVb.out.cell 1
        have y2 := HVb.out.cell 2
        have yf := HVb.out.frozen
        have yl := HVb.out.lt
        go_simp
        obtain ⟨h1, h2, h3, h4, h5⟩ := st3_rel (.int .i64 cc) (.int .i64 cr) (.int .i64 ca) HVb.out HXb.out HRx.out HNr.out HVr.out hHeld HVl.out
        clear y0 y1 y2 yf yl HXb HVb HRx HNr
        refine hK.out _ _ h5 (fun hHeld => ?_)
        clear hK K h5
        generalize (((ws39.setCell ⟨vb37, 0, none⟩ (.int .i64 cc)).setCell ⟨vb37, 1, none⟩ (.int .i64 cr)).setCell ⟨vb37, 2, none⟩ (.int .i64 ca)) = ws40 at *
        have HVb := Lib.hid h1
        have HXb := Lib.hid h2
        have HRx := Lib.hid h3
        have HNr := Lib.hid h4
        clear h1 h2 h3 h4
        refine wpAnyH_done (by kernel_rfl) ?_ _
        refine hK' _ _ (Met.intro (hJ _ _ ?_))
        (repeat apply Exists.intro)
        refine ⟨?_, rfl⟩
        exact ⟨xb28, vb37, nr, CA, CC, rfl, rfl, HXb, HVb, HRx, HNr, HFa, Lib.hid hHeld, HVl, HXl⟩
    · go_simp
      have hba : Below wd.heap.size wd (wd.alloc (.cells #[.int .i64 0, .int .i64 0, .int .i64 0] 42)) := (Below.refl _ _).alloc (Nat.le_refl _) _
      have hS6 := Below.trans hHeld (hba.mono hHeld.size)
      obtain ⟨vb41, hbz⟩ : ∃ z, z = wd.heap.size := ⟨_, rfl⟩
      have HVl : Hid (W0.heap.size ≤ vb41) := Lib.hid (by rw [hbz]; exact hHeld.size)
      have HVb : Hid (Blk (wd.alloc (.cells #[.int .i64 0, .int .i64 0, .int .i64 0] 42)) vb41 42 #[.int .i64 0, .int .i64 0, .int .i64 0]) := Lib.hid (by rw [hbz]; exact Blk.new _ _ _)
      refine hK.out _ _ hS6 (fun hHeld => ?_)
      clear hK K hba hS6
      rw [← hbz]
      clear hbz
      generalize wd.alloc _ = wa41 at *
      refine wpAnyH_ready (rs := [5, 13]) (by kernel_rfl) (by simp) ?_
      refine AllReadyH.cons rfl (fun K hK => ?_) (AllReadyH.cons rfl (fun K hK => ?_) (AllReadyH.nil))
      · go_simp
        refine (version_any2 k HK.out (HAT.out.on hHeld)).mono ?_
        rintro e wv ⟨rfl, rfl⟩
        refine hK.out _ _ hHeld (fun hHeld => ?_)
        clear hK K
        refine take_d 6 15 (.pointer (some ⟨b, k * 5, none⟩)) _ rfl rfl (by kernel_rfl) (by kernel_rfl) (by kernel_rfl) (fun _ _ _ h => h) (Or.inl ⟨by rfl, fun w' hSw => ?_⟩) hHeld ?_
        · have z8 : (k : Int) < ((k + 1 : Nat) : Int) := by omega
          have z9 : (k : Int) < (k : Int) + 1 := by omega
          go_simp
        simp only [List.setIfInBounds_toArray, List.set_cons_zero, List.set_cons_succ]
        refine take_d 7 16 (.agg #[.int .i64 T.de, .int .i64 T.cl, .int .i64 T.fu, .int .i64 T.st, .slice A0 T.rs.length d0]) _ rfl rfl (by kernel_rfl) (by kernel_rfl) (by kernel_rfl) (fun _ _ _ h => h) (Or.inl ⟨by rfl, fun w' hSw => ?_⟩) hHeld ?_
        · have q0 := (hSw.cell (p := ⟨b, k * 5 + 0, none⟩) HBb.out).trans E0.out
          have q1 := (hSw.cell (p := ⟨b, k * 5 + 1, none⟩) HBb.out).trans E1.out
          have q2 := (hSw.cell (p := ⟨b, k * 5 + 2, none⟩) HBb.out).trans E2.out
          have q3 := (hSw.cell (p := ⟨b, k * 5 + 3, none⟩) HBb.out).trans E3.out
          have q4 := (hSw.cell (p := ⟨b, k * 5 + 4, none⟩) HBb.out).trans E4.out
          rw [Nat.add_zero] at q0
          go_simp
        simp only [List.setIfInBounds_toArray, List.set_cons_zero, List.set_cons_succ]
        refine wpAnyH_ready (rs := [9, 13]) (by kernel_rfl) (by simp) ?_
        refine AllReadyH.cons rfl (fun K hK => ?_) (AllReadyH.cons rfl (fun K hK => ?_) (AllReadyH.nil))
        · go_simp
          refine (VC.out wa41 hHeld).mono ?_
          rintro e wc42 ⟨rv, rfl, hrv, hfar, hbc⟩
          obtain ⟨CA, CC, rfl⟩ := hrv.form
          have hS6 := Below.trans hHeld (hbc.mono hHeld.size)
          have HVr : Hid (RFar wc42.heap.size vb41 (.slice CA crs.length CC)) := Lib.hid (.inr ⟨_, hfar, HVb.out.lt⟩)
          have HVb := Lib.hid (HVb.out.on hbc)
          have HFa : Hid (Far W0.heap.size (.slice CA crs.length CC)) := Lib.hid (hfar.mono hHeld.size)
          obtain ⟨nr, hnr⟩ : ∃ nr, nr = wc42.heap.size := ⟨_, rfl⟩
          have HRx : Hid (RulesV nr wc42 (.slice CA crs.length CC) crs) := Lib.hid (by rw [hnr]; exact hrv)
          have HNr : Hid (nr ≤ wc42.heap.size) := Lib.hid (by rw [hnr]; exact Nat.le_refl _)
          rw [← hnr] at HVr
          refine hK.out _ _ hS6 (fun hHeld => ?_)
          clear hK K hbc hrv hfar hS6 hnr
          refine take_d 10 8 (.tuple #[.agg #[.int .i64 cde, .int .i64 ccl, .int .i64 cfu, .int .i64 cst, .slice CA crs.length CC], .agg #[.int .i64 cc, .int .i64 cr, .int .i64 ca]]) _ rfl rfl (by kernel_rfl) (by kernel_rfl) (by kernel_rfl) (fun _ _ _ h => h) (Or.inl ⟨by rfl, fun w' hSw => ?_⟩) hHeld ?_
          · go_simp
          simp only [List.setIfInBounds_toArray, List.set_cons_zero, List.set_cons_succ]
          refine take_d 11 19 (.agg #[.int .i64 cde, .int .i64 ccl, .int .i64 cfu, .int .i64 cst, .slice CA crs.length CC]) _ rfl rfl (by kernel_rfl) (by kernel_rfl) (by kernel_rfl) (fun _ _ _ h => h) (Or.inl ⟨by rfl, fun w' hSw => ?_⟩) hHeld ?_
          · go_simp
          simp only [List.setIfInBounds_toArray, List.set_cons_zero, List.set_cons_succ]
          refine take_d 12 20 (.agg #[.int .i64 cc, .int .i64 cr, .int .i64 ca]) _ rfl rfl (by kernel_rfl) (by kernel_rfl) (by kernel_rfl) (fun _ _ _ h => h) (Or.inl ⟨by rfl, fun w' hSw => ?_⟩) hHeld ?_
          · go_simp
          simp only [List.setIfInBounds_toArray, List.set_cons_zero, List.set_cons_succ]
          refine wpAnyH_ready (rs := [13]) (by kernel_rfl) (by simp) ?_
          refine AllReadyH.cons rfl (fun K hK => ?_) AllReadyH.nil
          go_simp
          have hba : Below wc42.heap.size wc42 (wc42.alloc (.cells #[.int .i64 0, .int .i64 0, .int .i64 0, .int .i64 0, .slice none 0 0] 54)) := (Below.refl _ _).alloc (Nat.le_refl _) _
          have hS6 := Below.trans hHeld (hba.mono hHeld.size)
          obtain ⟨xb43, hbz⟩ : ∃ z, z = wc42.heap.size := ⟨_, rfl⟩
          have HXl : Hid (W0.heap.size ≤ xb43) := Lib.hid (by rw [hbz]; exact hHeld.size)
          have HXr : Hid (RFar nr xb43 (.slice CA crs.length CC)) := Lib.hid (.inl (by rw [hbz]; exact HNr.out))
          have HVb := Lib.hid (HVb.out.on hba)
          have HRx := Lib.hid (HRx.out.below (hba.mono HNr.out))
          have HNr := Lib.hid (Nat.le_trans HNr.out hba.size)
          have HXb : Hid (Blk (wc42.alloc (.cells #[.int .i64 0, .int .i64 0, .int .i64 0, .int .i64 0, .slice none 0 0] 54)) xb43 54 #[.int .i64 0, .int .i64 0, .int .i64 0, .int .i64 0, .slice none 0 0]) := Lib.hid (by rw [hbz]; exact Blk.new _ _ _)
          refine hK.out _ _ hS6 (fun hHeld => ?_)
          clear hK K hba hS6
          rw [← hbz]
          clear hbz
          generalize wc42.alloc _ = wa43 at *
          refine wpAnyH_ready (rs := [15]) (by kernel_rfl) (by simp) ?_
          refine AllReadyH.cons rfl (fun K hK => ?_) AllReadyH.nil
          have y0 := HXb.out.cell 0
          have y1 := HXb.out.cell 1
          have y2 := HXb.out.cell 2
          have y3 := HXb.out.cell 3
          have y4 := HXb.out.cell 4
          have yf := HXb.out.frozen
          have yl := HXb.out.lt
          go_simp
          obtain ⟨h1, h2, h3, h4, h5⟩ := st5_rel (.int .i64 cde) (.int .i64 ccl) (.int .i64 cfu) (.int .i64 cst) (.slice CA crs.length CC) HXb.out HVb.out HRx.out HNr.out HXr.out hHeld HXl.out
          clear y0 y1 y2 y3 y4 yf yl HXb HVb HRx HNr
          refine hK.out _ _ h5 (fun hHeld => ?_)
          clear hK K h5
          generalize (((((wa43.setCell ⟨xb43, 0, none⟩ (.int .i64 cde)).setCell ⟨xb43, 1, none⟩ (.int .i64 ccl)).setCell ⟨xb43, 2, none⟩ (.int .i64 cfu)).setCell ⟨xb43, 3, none⟩ (.int .i64 cst)).setCell ⟨xb43, 4, none⟩ (.slice CA crs.length CC)) = ws44 at *
          have HXb := Lib.hid h1
          have HVb := Lib.hid h2
          have HRx := Lib.hid h3
          have HNr := Lib.hid h4
          clear h1 h2 h3 h4
          refine wpAnyH_ready (rs := [16]) (by kernel_rfl) (by simp) ?_
          refine AllReadyH.cons rfl (fun K hK => ?_) AllReadyH.nil
          have y0 := HVb.out.cell 0
          have y1 := HVb.out.cell 1
          have y2 := HVb.out.cell 2
          have yf := HVb.out.frozen
          have yl := HVb.out.lt
          go_simp
          obtain ⟨h1, h2, h3, h4, h5⟩ := st3_rel (.int .i64 cc) (.int .i64 cr) (.int .i64 ca) HVb.out HXb.out HRx.out HNr.out HVr.out hHeld HVl.out
          clear y0 y1 y2 yf yl HXb HVb HRx HNr
          refine hK.out _ _ h5 (fun hHeld => ?_)
          clear hK K h5
          generalize (((ws44.setCell ⟨vb41, 0, none⟩ (.int .i64 cc)).setCell ⟨vb41, 1, none⟩ (.int .i64 cr)).setCell ⟨vb41, 2, none⟩ (.int .i64 ca)) = ws45 at *
          have HVb := Lib.hid h1
          have HXb := Lib.hid h2
          have HRx := Lib.hid h3
          have HNr := Lib.hid h4
          clear h1 h2 h3 h4
          refine wpAnyH_done (by kernel_rfl) ?_ _
          refine hK' _ _ (Met.intro (hJ _ _ ?_))
          (repeat apply Exists.intro)
          refine ⟨?_, rfl⟩
          exact ⟨xb43, vb41, nr, CA, CC, rfl, rfl, HXb, HVb, HRx, HNr, HFa, Lib.hid hHeld, HVl, HXl⟩
        · go_simp
          have hba : Below wa41.heap.size wa41 (wa41.alloc (.cells #[.int .i64 0, .int .i64 0, .int .i64 0, .int .i64 0, .slice none 0 0] 54)) := (Below.refl _ _).alloc (Nat.le_refl _) _
          have hS6 := Below.trans hHeld (hba.mono hHeld.size)
          obtain ⟨xb46, hbz⟩ : ∃ z, z = wa41.heap.size := ⟨_, rfl⟩
          have HXl : Hid (W0.heap.size ≤ xb46) := Lib.hid (by rw [hbz]; exact hHeld.size)
          have HVb := Lib.hid (HVb.out.on hba)
          have HXb : Hid (Blk (wa41.alloc (.cells #[.int .i64 0, .int .i64 0, .int .i64 0, .int .i64 0, .slice none 0 0] 54)) xb46 54 #[.int .i64 0, .int .i64 0, .int .i64 0, .int .i64 0, .slice none 0 0]) := Lib.hid (by rw [hbz]; exact Blk.new _ _ _)
          refine hK.out _ _ hS6 (fun hHeld => ?_)
          clear hK K hba hS6
          rw [← hbz]
          clear hbz
          generalize wa41.alloc _ = wa46 at *
          refine wpAnyH_ready (rs := [9]) (by kernel_rfl) (by simp) ?_
          refine AllReadyH.cons rfl (fun K hK => ?_) AllReadyH.nil
          go_simp
          refine (VC.out wa46 hHeld).mono ?_
          rintro e wc47 ⟨rv, rfl, hrv, hfar, hbc⟩
          obtain ⟨CA, CC, rfl⟩ := hrv.form
          have hS6 := Below.trans hHeld (hbc.mono hHeld.size)
          have HXr : Hid (RFar wc47.heap.size xb46 (.slice CA crs.length CC)) := Lib.hid (.inr ⟨_, hfar, HXb.out.lt⟩)
          have HVr : Hid (RFar wc47.heap.size vb41 (.slice CA crs.length CC)) := Lib.hid (.inr ⟨_, hfar, HVb.out.lt⟩)
          have HXb := Lib.hid (HXb.out.on hbc)
          have HVb := Lib.hid (HVb.out.on hbc)
          have HFa : Hid (Far W0.heap.size (.slice CA crs.length CC)) := Lib.hid (hfar.mono hHeld.size)
          obtain ⟨nr, hnr⟩ : ∃ nr, nr = wc47.heap.size := ⟨_, rfl⟩
          have HRx : Hid (RulesV nr wc47 (.slice CA crs.length CC) crs) := Lib.hid (by rw [hnr]; exact hrv)
          have HNr : Hid (nr ≤ wc47.heap.size) := Lib.hid (by rw [hnr]; exact Nat.le_refl _)
          rw [← hnr] at HXr
          rw [← hnr] at HVr
          refine hK.out _ _ hS6 (fun hHeld => ?_)
          clear hK K hbc hrv hfar hS6 hnr
          refine take_d 10 8 (.tuple #[.agg #[.int .i64 cde, .int .i64 ccl, .int .i64 cfu, .int .i64 cst, .slice CA crs.length CC], .agg #[.int .i64 cc, .int .i64 cr, .int .i64 ca]]) _ rfl rfl (by kernel_rfl) (by kernel_rfl) (by kernel_rfl) (fun _ _ _ h => h) (Or.inl ⟨by rfl, fun w' hSw => ?_⟩) hHeld ?_
          · go_simp
          simp only [List.setIfInBounds_toArray, List.set_cons_zero, List.set_cons_succ]
          refine take_d 11 19 (.agg #[.int .i64 cde, .int .i64 ccl, .int .i64 cfu, .int .i64 cst, .slice CA crs.length CC]) _ rfl rfl (by kernel_rfl) (by kernel_rfl) (by kernel_rfl) (fun _ _ _ h => h) (Or.inl ⟨by rfl, fun w' hSw => ?_⟩) hHeld ?_
          · go_simp
          simp only [List.setIfInBounds_toArray, List.set_cons_zero, List.set_cons_succ]
          refine take_d 12 20 (.agg #[.int .i64 cc, .int .i64 cr, .int .i64 ca]) _ rfl rfl (by kernel_rfl) (by kernel_rfl) (by kernel_rfl) (fun _ _ _ h => h) (Or.inl ⟨by rfl, fun w' hSw => ?_⟩) hHeld ?_
          · go_simp
          simp only [List.setIfInBounds_toArray, List.set_cons_zero, List.set_cons_succ]
          refine wpAnyH_ready (rs := [15]) (by kernel_rfl) (by simp) ?_
          refine AllReadyH.cons rfl (fun K hK => ?_) AllReadyH.nil
          have y0 := HXb.out.cell 0
          have y1 := HXb.out.cell 1
          have y2 := HXb.out.cell 2
          have y3 := HXb.out.cell 3
          have y4 := HXb.out.cell 4
          have yf := HXb.out.frozen
          have yl := HXb.out.lt
          go_simp
          obtain ⟨h1, h2, h3, h4, h5⟩ := st5_rel (.int .i64 cde) (.int .i64 ccl) (.int .i64 cfu) (.int .i64 cst) (.slice CA crs.length CC) HXb.out HVb.out HRx.out HNr.out HXr.out hHeld HXl.out
          clear y0 y1 y2 y3 y4 yf yl HXb HVb HRx HNr
          refine hK.out _ _ h5 (fun hHeld => ?_)
          clear hK K h5
          generalize (((((wc47.setCell ⟨xb46, 0, none⟩ (.int .i64 cde)).setCell ⟨xb46, 1, none⟩ (.int .i64 ccl)).setCell ⟨xb46, 2, none⟩ (.int .i64 cfu)).setCell ⟨xb46, 3, none⟩ (.int .i64 cst)).setCell ⟨xb46, 4, none⟩ (.slice CA crs.length CC)) = ws48 at *
          have HXb := Lib.hid h1
          have HVb := Lib.hid h2
          have HRx := Lib.hid h3
          have HNr := Lib.hid h4
          clear h1 h2 h3 h4
          refine wpAnyH_ready (rs := [16]) (by kernel_rfl) (by simp) ?_
          refine AllReadyH.cons rfl (fun K hK => ?_) AllReadyH.nil
          have y0 := HVb.out.cell 0
          have y1 := HVb.out.cell 1
          have y2 := HVb.out.cell 2
          have yf := HVb.out.frozen
          have yl := HVb.out.lt
          go_simp
          obtain ⟨h1, h2, h3, h4, h5⟩ := st3_rel (.int .i64 cc) (.int .i64 cr) (.int .i64 ca) HVb.out HXb.out HRx.out HNr.out HVr.out hHeld HVl.out
          clear y0 y1 y2 yf yl HXb HVb HRx HNr
          refine hK.out _ _ h5 (fun hHeld => ?_)
          clear hK K h5
          generalize (((ws48.setCell ⟨vb41, 0, none⟩ (.int .i64 cc)).setCell ⟨vb41, 1, none⟩ (.int .i64 cr)).setCell ⟨vb41, 2, none⟩ (.int .i64 ca)) = ws49 at *
          have HVb := Lib.hid h1
          have HXb := Lib.hid h2
          have HRx := Lib.hid h3
          have HNr := Lib.hid h4
          clear h1 h2 h3 h4
          refine wpAnyH_done (by kernel_rfl) ?_ _
          refine hK' _ _ (Met.intro (hJ _ _ ?_))
          (repeat apply Exists.intro)
          refine ⟨?_, rfl⟩
          exact ⟨xb46, vb41, nr, CA, CC, rfl, rfl, HXb, HVb, HRx, HNr, HFa, Lib.hid hHeld, HVl, HXl⟩
      · go_simp
        have hba : Below wa41.heap.size wa41 (wa41.alloc (.cells #[.int .i64 0, .int .i64 0, .int .i64 0, .int .i64 0, .slice none 0 0] 54)) := (Below.refl _ _).alloc (Nat.le_refl _) _
        have hS6 := Below.trans hHeld (hba.mono hHeld.size)
        obtain ⟨xb50, hbz⟩ : ∃ z, z = wa41.heap.size := ⟨_, rfl⟩
        have HXl : Hid (W0.heap.size ≤ xb50) := Lib.hid (by rw [hbz]; exact hHeld.size)
        have HVb := Lib.hid (HVb.out.on hba)
        have HXb : Hid (Blk (wa41.alloc (.cells #[.int .i64 0, .int .i64 0, .int .i64 0, .int .i64 0, .slice none 0 0] 54)) xb50 54 #[.int .i64 0, .int .i64 0, .int .i64 0, .int .i64 0, .slice none 0 0]) := Lib.hid (by rw [hbz]; exact Blk.new _ _ _)
        refine hK.out _ _ hS6 (fun hHeld => ?_)
        clear hK K hba hS6
        rw [← hbz]
        clear hbz
        generalize wa41.alloc _ = wa50 at *
        refine wpAnyH_ready (rs := [5]) (by kernel_rfl) (by simp) ?_
        refine AllReadyH.cons rfl (fun K hK => ?_) AllReadyH.nil
        go_simp
        refine (version_any2 k HK.out (HAT.out.on hHeld)).mono ?_
        rintro e wv ⟨rfl, rfl⟩
        refine hK.out _ _ hHeld (fun hHeld => ?_)
        clear hK K
        refine take_d 6 15 (.pointer (some ⟨b, k * 5, none⟩)) _ rfl rfl (by kernel_rfl) (by kernel_rfl) (by kernel_rfl) (fun _ _ _ h => h) (Or.inl ⟨by rfl, fun w' hSw => ?_⟩) hHeld ?_
        · have z8 : (k : Int) < ((k + 1 : Nat) : Int) := by omega
          have z9 : (k : Int) < (k : Int) + 1 := by omega
          go_simp
        simp only [List.setIfInBounds_toArray, List.set_cons_zero, List.set_cons_succ]
        refine take_d 7 16 (.agg #[.int .i64 T.de, .int .i64 T.cl, .int .i64 T.fu, .int .i64 T.st, .slice A0 T.rs.length d0]) _ rfl rfl (by kernel_rfl) (by kernel_rfl) (by kernel_rfl) (fun _ _ _ h => h) (Or.inl ⟨by rfl, fun w' hSw => ?_⟩) hHeld ?_
        · have q0 := (hSw.cell (p := ⟨b, k * 5 + 0, none⟩) HBb.out).trans E0.out
          have q1 := (hSw.cell (p := ⟨b, k * 5 + 1, none⟩) HBb.out).trans E1.out
          have q2 := (hSw.cell (p := ⟨b, k * 5 + 2, none⟩) HBb.out).trans E2.out
          have q3 := (hSw.cell (p := ⟨b, k * 5 + 3, none⟩) HBb.out).trans E3.out
          have q4 := (hSw.cell (p := ⟨b, k * 5 + 4, none⟩) HBb.out).trans E4.out
          rw [Nat.add_zero] at q0
          go_simp
        simp only [List.setIfInBounds_toArray, List.set_cons_zero, List.set_cons_succ]
        refine wpAnyH_ready (rs := [9]) (by kernel_rfl) (by simp) ?_
        refine AllReadyH.cons rfl (fun K hK => ?_) AllReadyH.nil
        go_simp
        refine (VC.out wa50 hHeld).mono ?_
        rintro e wc51 ⟨rv, rfl, hrv, hfar, hbc⟩
        obtain ⟨CA, CC, rfl⟩ := hrv.form
        have hS6 := Below.trans hHeld (hbc.mono hHeld.size)
        have HXr : Hid (RFar wc51.heap.size xb50 (.slice CA crs.length CC)) := Lib.hid (.inr ⟨_, hfar, HXb.out.lt⟩)
        have HVr : Hid (RFar wc51.heap.size vb41 (.slice CA crs.length CC)) := Lib.hid (.inr ⟨_, hfar, HVb.out.lt⟩)
        have HXb := Lib.hid (HXb.out.on hbc)
        have HVb := Lib.hid (HVb.out.on hbc)
        have HFa : Hid (Far W0.heap.size (.slice CA crs.length CC)) := Lib.hid (hfar.mono hHeld.size)
        obtain ⟨nr, hnr⟩ : ∃ nr, nr = wc51.heap.size := ⟨_, rfl⟩
        have HRx : Hid (RulesV nr wc51 (.slice CA crs.length CC) crs) := Lib.hid (by rw [hnr]; exact hrv)
        have HNr : Hid (nr ≤ wc51.heap.size) := Lib.hid (by rw [hnr]; exact Nat.le_refl _)
        rw [← hnr] at HXr
        rw [← hnr] at HVr
        refine hK.out _ _ hS6 (fun hHeld => ?_)
        clear hK K hbc hrv hfar hS6 hnr
        refine take_d 10 8 (.tuple #[.agg #[.int .i64 cde, .int .i64 ccl, .int .i64 cfu, .int .i64 cst, .slice CA crs.length CC], .agg #[.int .i64 cc, .int .i64 cr, .int .i64 ca]]) _ rfl rfl (by kernel_rfl) (by kernel_rfl) (by kernel_rfl) (fun _ _ _ h => h) (Or.inl ⟨by rfl, fun w' hSw => ?_⟩) hHeld ?_
        · go_simp
        simp only [List.setIfInBounds_toArray, List.set_cons_zero, List.set_cons_succ]
        refine take_d 11 19 (.agg #[.int .i64 cde, .int .i64 ccl, .int .i64 cfu, .int .i64 cst, .slice CA crs.length CC]) _ rfl rfl (by kernel_rfl) (by kernel_rfl) (by kernel_rfl) (fun _ _ _ h => h) (Or.inl ⟨by rfl, fun w' hSw => ?_⟩) hHeld ?_
        · go_simp
        simp only [List.setIfInBounds_toArray, List.set_cons_zero, List.set_cons_succ]
        refine take_d 12 20 (.agg #[.int .i64 cc, .int .i64 cr, .int .i64 ca]) _ rfl rfl (by kernel_rfl) (by kernel_rfl) (by kernel_rfl) (fun _ _ _ h => h) (Or.inl ⟨by rfl, fun w' hSw => ?_⟩) hHeld ?_
        · go_simp
        simp only [List.setIfInBounds_toArray, List.set_cons_zero, List.set_cons_succ]
        refine wpAnyH_ready (rs := [15]) (by kernel_rfl) (by simp) ?_
        refine AllReadyH.cons rfl (fun K hK => ?_) AllReadyH.nil
        have y0 := HXb.out.cell 0
        have y1 := HXb.out.cell 1
        have y2 := HXb.out.cell 2
        have y3 := HXb.out.cell 3
        have y4 := HXb.out.cell 4
        have yf := HXb.out.frozen
        have yl := HXb.out.lt
        go_simp
        obtain ⟨h1, h2, h3, h4, h5⟩ := st5_rel (.int .i64 cde) (.int .i64 ccl) (.int .i64 cfu) (.int .i64 cst) (.slice CA crs.length CC) HXb.out HVb.out HRx.out HNr.out HXr.out hHeld HXl.out
        clear y0 y1 y2 y3 y4 yf yl HXb HVb HRx HNr
        refine hK.out _ _ h5 (fun hHeld => ?_)
        clear hK K h5
        generalize (((((wc51.setCell ⟨xb50, 0, none⟩ (.int .i64 cde)).setCell ⟨xb50, 1, none⟩ (.int .i64 ccl)).setCell ⟨xb50, 2, none⟩ (.int .i64 cfu)).setCell ⟨xb50, 3, none⟩ (.int .i64 cst)).setCell ⟨xb50, 4, none⟩ (.slice CA crs.length CC)) = ws52 at *
        have HXb := Lib.hid h1
        have HVb := Lib.hid h2
        have HRx := Lib.hid h3
        have HNr := Lib.hid h4
        clear h1 h2 h3 h4
        refine wpAnyH_ready (rs := [16]) (by kernel_rfl) (by simp) ?_
        refine AllReadyH.cons rfl (fun K hK => ?_) AllReadyH.nil
        have y0 := HVb.out.cell 0
        have y1 := HVb.out.cell 1
        have y2 := HVb.out.cell 2
        have yf := HVb.out.frozen
        have yl := HVb.out.lt
        go_simp
        obtain ⟨h1, h2, h3, h4, h5⟩ := st3_rel (.int .i64 cc) (.int .i64 cr) (.int .i64 ca) HVb.out HXb.out HRx.out HNr.out HVr.out hHeld HVl.out
        clear y0 y1 y2 yf yl HXb HVb HRx HNr
        refine hK.out _ _ h5 (fun hHeld => ?_)
        clear hK K h5
        generalize (((ws52.setCell ⟨vb41, 0, none⟩ (.int .i64 cc)).setCell ⟨vb41, 1, none⟩ (.int .i64 cr)).setCell ⟨vb41, 2, none⟩ (.int .i64 ca)) = ws53 at *
        have HVb := Lib.hid h1
        have HXb := Lib.hid h2
        have HRx := Lib.hid h3
        have HNr := Lib.hid h4
        clear h1 h2 h3 h4
        refine wpAnyH_done (by kernel_rfl) ?_ _
        refine hK' _ _ (Met.intro (hJ _ _ ?_))
        (repeat apply Exists.intro)
        refine ⟨?_, rfl⟩
        exact ⟨xb50, vb41, nr, CA, CC, rfl, rfl, HXb, HVb, HRx, HNr, HFa, Lib.hid hHeld, HVl, HXl⟩
  case rest =>
    obtain ⟨xb, vb, nr, CA, CC, rfl, rfl, HXb, HVb, HRx, HNr, HFa, HBc, HVl, HXl⟩ := hcut
    have Zc := Lib.hid (HZ.out.on HBc.out)
    have v0 := HVb.out.cell 0
    have vl := HVb.out.lt
    by_cases hc0 : cc = 0
    · have hc0' : (cc != 0) = false := by simp [hc0]
      obtain ⟨h1, h2⟩ := HCh.out hc0
      have HC0 := Lib.hid h1
      injection h2 with _ h2
      injection h2 with h2 h3
      subst hc0
      subst h2
      subst h3
      clear h1
      go_upto_region 4 with (fail)
      refine wp_region_held_drew (S := fun _ => True) (by kernel_rfl) trivial (fun hHeld => ?_)
      have hbd : Below wc.heap.size wc wc.drew := Below.drewN' (Below.refl _ _) 1
      have HG2 := Lib.hid ((HG.out.on HBc.out).on hbd)
      have X2 := Lib.hid (HXb.out.on hbd)
      have V2 := Lib.hid (HVb.out.on hbd)
      have Z2 := Lib.hid (Zc.out.on hbd)
      have R2 := Lib.hid (HRx.out.below (hbd.mono HNr.out))
      have N2 : Hid (nr ≤ wc.drew.heap.size) := Lib.hid HNr.out
      have B2 := Lib.hid (HBc.out.trans (hbd.mono HBc.out.size))
      have HLL : Hid (L.length ≤ 1000000) := Lib.hid (by have h1 := HL.out; have h2 := HLN.out; have h3 := HK.out; omega)
      clear hbd v0 vl
      generalize wc.drew = wd at *
      refine take_d 0 25 (.pointer (some ⟨g, 0, none⟩)) _ rfl rfl (by kernel_rfl) (by kernel_rfl) (by kernel_rfl) (fun _ _ _ h => h) (Or.inl ⟨by rfl, fun w' hSw => ?_⟩) hHeld ?_
      · go_simp
      simp only [List.setIfInBounds_toArray, List.set_cons_zero, List.set_cons_succ]
      refine take_d 1 26 (.pointer (some ⟨g, 0, none⟩)) _ rfl rfl (by kernel_rfl) (by kernel_rfl) (by kernel_rfl) (fun _ _ _ h => h) (Or.inl ⟨by rfl, fun w' hSw => ?_⟩) hHeld ?_
      · go_simp
      simp only [List.setIfInBounds_toArray, List.set_cons_zero, List.set_cons_succ]
      refine take_d 2 27 (.pointer (some ⟨g, 0, none⟩)) _ rfl rfl (by kernel_rfl) (by kernel_rfl) (by kernel_rfl) (fun _ _ _ h => h) (Or.inl ⟨by rfl, fun w' hSw => ?_⟩) hHeld ?_
      · go_simp
      simp only [List.setIfInBounds_toArray, List.set_cons_zero, List.set_cons_succ]
      refine take_d 3 28 (.pointer (some ⟨g, 1, none⟩)) _ rfl rfl (by kernel_rfl) (by kernel_rfl) (by kernel_rfl) (fun _ _ _ h => h) (Or.inl ⟨by rfl, fun w' hSw => ?_⟩) hHeld ?_
      · go_simp
      simp only [List.setIfInBounds_toArray, List.set_cons_zero, List.set_cons_succ]
      refine wpAnyH_ready (rs := [4, 5]) (by kernel_rfl) (by simp) ?_
      refine AllReadyH.cons rfl (fun K hK => ?_) (AllReadyH.cons rfl (fun K hK => ?_) (AllReadyH.nil))
      · have q1 := HG2.out.cell 1
        have ql := HG2.out.lt
        go_simp
        refine hK.out _ _ trivial (fun hHeld => ?_)
        clear hK K ql q1
        refine wpAnyH_ready (rs := [5]) (by kernel_rfl) (by simp) ?_
        refine AllReadyH.cons rfl (fun K hK => ?_) AllReadyH.nil
        have q0 := X2.out.cell 0
        have q1 := X2.out.cell 1
        have q2 := X2.out.cell 2
        have q3 := X2.out.cell 3
        have q4 := X2.out.cell 4
        have ql := X2.out.lt
        go_simp
        refine hK.out _ _ trivial (fun hHeld => ?_)
        clear hK K ql q0 q1 q2 q3 q4
        refine wpAnyH_ready (rs := [6]) (by kernel_rfl) (by simp) ?_
        refine AllReadyH.cons rfl (fun K hK => ?_) AllReadyH.nil
        go_simp
        have hba : Below wd.heap.size wd (wd.alloc (.cells #[.int .i64 cde, .int .i64 ccl, .int .i64 cfu, .int .i64 cst, .slice CA crs.length CC] 54)) := (Below.refl _ _).alloc (Nat.le_refl _) _
        obtain ⟨zb, hzb⟩ : ∃ z, z = wd.heap.size := ⟨_, rfl⟩
        have BZ : Hid (Blk (wd.alloc (.cells #[.int .i64 cde, .int .i64 ccl, .int .i64 cfu, .int .i64 cst, .slice CA crs.length CC] 54)) zb 54 #[.int .i64 cde, .int .i64 ccl, .int .i64 cfu, .int .i64 cst, .slice CA crs.length CC]) := Lib.hid (by rw [hzb]; exact Blk.new _ _ _)
        have G6 := Lib.hid (HG2.out.on hba)
        have V6 := Lib.hid (V2.out.on hba)
        have Z6 := Lib.hid (Z2.out.on hba)
        have B6 := Lib.hid (B2.out.trans (hba.mono B2.out.size))
        have R6 := Lib.hid ((R2.out.below (hba.mono N2.out)).more (Nat.le_trans N2.out hba.size))
        refine hK.out _ _ trivial (fun hHeld => ?_)
        clear hK K hba
        rw [← hzb]
        clear hzb
        generalize wd.alloc _ = wb at *
        refine wpAnyH_ready (rs := [7]) (by kernel_rfl) (by simp) ?_
        refine AllReadyH.cons rfl (fun K hK => ?_) AllReadyH.nil
        have O6 : Hid (wb.ownsRow 0 54 5 (.slice (some ⟨b, 0, none⟩) (k + 1) c) L.length (seCells L)) := Lib.hid (own_keep HV.out.row fun i hi => B6.out.block i (HV.out.uold i (HV.out.wide i (HV.out.foot i hi.symm))))
        refine step_app_set wb rfl 32 rfl (.tmp 29) (.tmp 31) rfl _ L (by simp [Act.eval]) O6.out zb ⟨cde, ccl, cfu, cst, crs⟩ CA crs.length CC (by simp [Act.eval]) BZ.out (by have := HLL.out; omega) ?_
        intro v7 w7 o7 g7 n7
        have GR := Lib.hid (HV.out.grown B6.out (s := ⟨cde, ccl, cfu, cst, crs⟩) HC0.out HFa.out R6.out o7 g7 n7)
        have G7 := Lib.hid (G6.out.grown g7 (fun e => own_ne O6.out G6.out (by decide) e.symm))
        have V7 := Lib.hid (V6.out.grown g7 (fun e => own_ne O6.out V6.out (by decide) e.symm))
        have Z7 := Lib.hid (Z6.out.grown g7 (fun e => own_ne O6.out Z6.out (by decide) e.symm))
        obtain ⟨A7, c7, rfl⟩ := orow_form o7
        refine hK.out _ _ trivial (fun hHeld => ?_)
        clear hK K o7 g7 n7 O6
        refine take_d 8 33 (.pointer (some ⟨g, 0, none⟩)) _ rfl rfl (by kernel_rfl) (by kernel_rfl) (by kernel_rfl) (fun _ _ _ h => h) (Or.inl ⟨by rfl, fun w' hSw => ?_⟩) hHeld ?_
        · go_simp
        simp only [List.setIfInBounds_toArray, List.set_cons_zero, List.set_cons_succ]
        refine take_d 9 34 (.pointer (some ⟨g, 1, none⟩)) _ rfl rfl (by kernel_rfl) (by kernel_rfl) (by kernel_rfl) (fun _ _ _ h => h) (Or.inl ⟨by rfl, fun w' hSw => ?_⟩) hHeld ?_
        · go_simp
        simp only [List.setIfInBounds_toArray, List.set_cons_zero, List.set_cons_succ]
        refine wpAnyH_ready (rs := [10]) (by kernel_rfl) (by simp) ?_
        refine AllReadyH.cons rfl (fun K hK => ?_) AllReadyH.nil
        have q := G7.out.cell 1
        have qf := G7.out.frozen
        have ql := G7.out.lt
        go_simp
        have V8 := Lib.hid (V7.out.far (p := ⟨g, 1, none⟩) (Blk.ne_ V7.out G7.out (by decide)) (.slice A7 (L.length + 1) c7))
        have Z8 := Lib.hid (Z7.out.far (p := ⟨g, 1, none⟩) (Blk.ne_ Z7.out G7.out (by decide)) (.slice A7 (L.length + 1) c7))
        refine hK.out _ _ trivial (fun hHeld => ?_)
        clear hK K q qf ql G7 V7 Z7
        generalize w7.setCell ⟨g, 1, none⟩ (.slice A7 (L.length + 1) c7) = w8 at *
        refine wpAnyH_done (by kernel_rfl) ?_ _
        go_upto_region 5 with (fail)
        have hsw := HB0.out.size
        have hvz : Hid (vb ≠ w.heap.size + 1) := Lib.hid (by have := HVl.out; have := HZ.out.lt; omega)
        have GR9 : Hid (HistAt w8.drew g (fun i => S i ∨ (Value.slice A7 (L.length + 1) c7).ownBlock = some i) (fun i => (U i ∨ i = w.heap.size + 1) ∨ (S i ∨ (Value.slice A7 (L.length + 1) c7).ownBlock = some i)) { H with vs := H.vs ++ [⟨cde, ccl, cfu, cst, crs⟩] }) := Lib.hid GR.out.1.drew
        have Z9 : Hid (Blk w8.drew (w.heap.size + 1) 42 #[.int .i64 0, .int .i64 0, .int .i64 0]) := Lib.hid Z8.out
        have V9 : Hid (Blk w8.drew vb 42 #[.int .i64 0, .int .i64 0, .int .i64 0]) := Lib.hid V8.out
        have FR9 : Hid (Fh S w w8.drew) := Lib.hid ((Fh.of_below HB0.out).next GR.out.2.1).drew
        have FT : Hid (∀ i, (S i ∨ (Value.slice A7 (L.length + 1) c7).ownBlock = some i) → S i ∨ w.heap.size ≤ i) := Lib.hid fun i hi => hi.elim .inl fun e => (GR.out.2.2 i e).imp id fun e => by omega
        have NZ : Hid (¬ (S (w.heap.size + 1) ∨ (Value.slice A7 (L.length + 1) c7).ownBlock = some (w.heap.size + 1))) := Lib.hid fun e => by
          rcases e with e | e
          · have := HAT0.out.old _ e; omega
          · rcases GR.out.2.2 _ e with e | e
            · have := HAT0.out.old _ e; omega
            · have := HZ.out.lt; omega
        have FIN : Hid (Did g S U { H with vs := if (0 : Int) = 0 then H.vs ++ [⟨cde, ccl, cfu, cst, crs⟩] else H.vs } w (((w8.drew.setCell ⟨w.heap.size + 1, 0, none⟩ (.int .i64 0)).setCell ⟨w.heap.size + 1, 1, none⟩ (.int .i64 0)).setCell ⟨w.heap.size + 1, 2, none⟩ (.int .i64 0))) := Lib.hid (by
          rw [if_pos rfl]
          refine ⟨_, FT.out, (((GR9.out.store_ (q := ⟨w.heap.size + 1, 0, none⟩) NZ.out (.inl (.inr rfl))).store_ (q := ⟨w.heap.size + 1, 1, none⟩) NZ.out (.inl (.inr rfl))).store_ (q := ⟨w.heap.size + 1, 2, none⟩) NZ.out (.inl (.inr rfl))).narrow (fun i hi => hi.imp .inl id) (fun i hi => .inr hi), ?_⟩
          exact ((FR9.out.set_ (q := ⟨w.heap.size + 1, 0, none⟩) (.inr (Nat.le_succ _)) _).set_ (q := ⟨w.heap.size + 1, 1, none⟩) (.inr (Nat.le_succ _)) _).set_ (q := ⟨w.heap.size + 1, 2, none⟩) (.inr (Nat.le_succ _)) _)
        have GR : Hid (HistAt w8.drew g (fun i => S i ∨ (Value.slice A7 (L.length + 1) c7).ownBlock = some i) (fun i => (U i ∨ i = w.heap.size + 1) ∨ (S i ∨ (Value.slice A7 (L.length + 1) c7).ownBlock = some i)) { H with vs := H.vs ++ [⟨cde, ccl, cfu, cst, crs⟩] } ∧ True) := Lib.hid ⟨GR9.out, trivial⟩
        refine wp_region_held_drew (S := fun w' => Blk w' vb 42 #[.int .i64 0, .int .i64 0, .int .i64 0]) (by kernel_rfl) V9.out (fun hHeld => ?_)
        refine take_d 0 35 (.pointer (some ⟨g, 0, none⟩)) _ rfl rfl (by kernel_rfl) (by kernel_rfl) (by kernel_rfl) (fun _ _ _ h => h) (Or.inl ⟨by rfl, fun w' hSw => ?_⟩) hHeld ?_
        · go_simp
        simp only [List.setIfInBounds_toArray, List.set_cons_zero, List.set_cons_succ]
        refine take_d 2 37 (.agg #[.int .i64 0, .int .i64 0, .int .i64 0]) _ rfl rfl (by kernel_rfl) (by kernel_rfl) (by kernel_rfl) (fun _ _ _ h => h) (Or.inl ⟨by rfl, fun w' hSw => ?_⟩) hHeld ?_
        · have q0 := hSw.cell 0
          have q1 := hSw.cell 1
          have q2 := hSw.cell 2
          go_simp
        simp only [List.setIfInBounds_toArray, List.set_cons_zero, List.set_cons_succ]
        refine wpAnyH_ready (rs := [1]) (by kernel_rfl) (by simp) ?_
        refine AllReadyH.cons rfl (fun K hK => ?_) AllReadyH.nil
        go_simp
        refine (version_any2 (k + 1) (by simp [HK.out]) (GR.out.1)).mono ?_
        rintro e wv ⟨rfl, rfl⟩
        refine hK.out _ _ hHeld (fun hHeld => ?_)
        clear hK K
        refine take_d 3 4 (.int .i64 ((k + 1 : Nat) : Int)) _ rfl rfl (by kernel_rfl) (by kernel_rfl) (by kernel_rfl) (fun _ _ _ h => h) (Or.inl ⟨by rfl, fun w' hSw => ?_⟩) hHeld ?_
        · go_simp
        simp only [List.setIfInBounds_toArray, List.set_cons_zero, List.set_cons_succ]
        refine wpAnyH_ready (rs := [4]) (by kernel_rfl) (by simp) ?_
        refine AllReadyH.cons rfl (fun K hK => ?_) AllReadyH.nil
        have q0 := Z8.out.cell 0
        have q1 := Z8.out.cell 1
        have q2 := Z8.out.cell 2
        have qf := Z8.out.frozen
        have ql := Z8.out.lt
        go_simp
        refine hK.out _ _ (((hHeld.far (p := ⟨w.heap.size + 1, 0, none⟩) hvz.out _).far (p := ⟨w.heap.size + 1, 1, none⟩) hvz.out _).far (p := ⟨w.heap.size + 1, 2, none⟩) hvz.out _) (fun hHeld => ?_)
        clear hK K
        refine wpAnyH_done (by kernel_rfl) ?_ _
        go_wp2
        refine bodyPost_ret (v := .tuple #[.int .i64 ((k + 1 : Nat) : Int), .agg #[.int .i64 0, .int .i64 0, .int .i64 0]]) (by simp [results, Tryz.results33, go_sem, *]) rfl ⟨by first | rfl | (rw [if_pos rfl, HK.out]) | (rw [HK.out]), FIN.out⟩
      · have q0 := X2.out.cell 0
        have q1 := X2.out.cell 1
        have q2 := X2.out.cell 2
        have q3 := X2.out.cell 3
        have q4 := X2.out.cell 4
        have ql := X2.out.lt
        go_simp
        refine hK.out _ _ trivial (fun hHeld => ?_)
        clear hK K ql q0 q1 q2 q3 q4
        refine wpAnyH_ready (rs := [4, 6]) (by kernel_rfl) (by simp) ?_
        refine AllReadyH.cons rfl (fun K hK => ?_) (AllReadyH.cons rfl (fun K hK => ?_) (AllReadyH.nil))
        · have q1 := HG2.out.cell 1
          have ql := HG2.out.lt
          go_simp
          refine hK.out _ _ trivial (fun hHeld => ?_)
          clear hK K ql q1
          refine wpAnyH_ready (rs := [6]) (by kernel_rfl) (by simp) ?_
          refine AllReadyH.cons rfl (fun K hK => ?_) AllReadyH.nil
          go_simp
          have hba : Below wd.heap.size wd (wd.alloc (.cells #[.int .i64 cde, .int .i64 ccl, .int .i64 cfu, .int .i64 cst, .slice CA crs.length CC] 54)) := (Below.refl _ _).alloc (Nat.le_refl _) _
          obtain ⟨zb, hzb⟩ : ∃ z, z = wd.heap.size := ⟨_, rfl⟩
          have BZ : Hid (Blk (wd.alloc (.cells #[.int .i64 cde, .int .i64 ccl, .int .i64 cfu, .int .i64 cst, .slice CA crs.length CC] 54)) zb 54 #[.int .i64 cde, .int .i64 ccl, .int .i64 cfu, .int .i64 cst, .slice CA crs.length CC]) := Lib.hid (by rw [hzb]; exact Blk.new _ _ _)
          have G6 := Lib.hid (HG2.out.on hba)
          have V6 := Lib.hid (V2.out.on hba)
          have Z6 := Lib.hid (Z2.out.on hba)
          have B6 := Lib.hid (B2.out.trans (hba.mono B2.out.size))
          have R6 := Lib.hid ((R2.out.below (hba.mono N2.out)).more (Nat.le_trans N2.out hba.size))
          refine hK.out _ _ trivial (fun hHeld => ?_)
          clear hK K hba
          rw [← hzb]
          clear hzb
          generalize wd.alloc _ = wb at *
          refine wpAnyH_ready (rs := [7]) (by kernel_rfl) (by simp) ?_
          refine AllReadyH.cons rfl (fun K hK => ?_) AllReadyH.nil
          have O6 : Hid (wb.ownsRow 0 54 5 (.slice (some ⟨b, 0, none⟩) (k + 1) c) L.length (seCells L)) := Lib.hid (own_keep HV.out.row fun i hi => B6.out.block i (HV.out.uold i (HV.out.wide i (HV.out.foot i hi.symm))))
          refine step_app_set wb rfl 32 rfl (.tmp 29) (.tmp 31) rfl _ L (by simp [Act.eval]) O6.out zb ⟨cde, ccl, cfu, cst, crs⟩ CA crs.length CC (by simp [Act.eval]) BZ.out (by have := HLL.out; omega) ?_
          intro v7 w7 o7 g7 n7
          have GR := Lib.hid (HV.out.grown B6.out (s := ⟨cde, ccl, cfu, cst, crs⟩) HC0.out HFa.out R6.out o7 g7 n7)
          have G7 := Lib.hid (G6.out.grown g7 (fun e => own_ne O6.out G6.out (by decide) e.symm))
          have V7 := Lib.hid (V6.out.grown g7 (fun e => own_ne O6.out V6.out (by decide) e.symm))
          have Z7 := Lib.hid (Z6.out.grown g7 (fun e => own_ne O6.out Z6.out (by decide) e.symm))
          obtain ⟨A7, c7, rfl⟩ := orow_form o7
          refine hK.out _ _ trivial (fun hHeld => ?_)
          clear hK K o7 g7 n7 O6
          refine take_d 8 33 (.pointer (some ⟨g, 0, none⟩)) _ rfl rfl (by kernel_rfl) (by kernel_rfl) (by kernel_rfl) (fun _ _ _ h => h) (Or.inl ⟨by rfl, fun w' hSw => ?_⟩) hHeld ?_
          · go_simp
          simp only [List.setIfInBounds_toArray, List.set_cons_zero, List.set_cons_succ]
          refine take_d 9 34 (.pointer (some ⟨g, 1, none⟩)) _ rfl rfl (by kernel_rfl) (by kernel_rfl) (by kernel_rfl) (fun _ _ _ h => h) (Or.inl ⟨by rfl, fun w' hSw => ?_⟩) hHeld ?_
          · go_simp
          simp only [List.setIfInBounds_toArray, List.set_cons_zero, List.set_cons_succ]
          refine wpAnyH_ready (rs := [10]) (by kernel_rfl) (by simp) ?_
          refine AllReadyH.cons rfl (fun K hK => ?_) AllReadyH.nil
          have q := G7.out.cell 1
          have qf := G7.out.frozen
          have ql := G7.out.lt
          go_simp
          have V8 := Lib.hid (V7.out.far (p := ⟨g, 1, none⟩) (Blk.ne_ V7.out G7.out (by decide)) (.slice A7 (L.length + 1) c7))
          have Z8 := Lib.hid (Z7.out.far (p := ⟨g, 1, none⟩) (Blk.ne_ Z7.out G7.out (by decide)) (.slice A7 (L.length + 1) c7))
          refine hK.out _ _ trivial (fun hHeld => ?_)
          clear hK K q qf ql G7 V7 Z7
          generalize w7.setCell ⟨g, 1, none⟩ (.slice A7 (L.length + 1) c7) = w8 at *
          refine wpAnyH_done (by kernel_rfl) ?_ _
          go_upto_region 5 with (fail)
          have hsw := HB0.out.size
          have hvz : Hid (vb ≠ w.heap.size + 1) := Lib.hid (by have := HVl.out; have := HZ.out.lt; omega)
          have GR9 : Hid (HistAt w8.drew g (fun i => S i ∨ (Value.slice A7 (L.length + 1) c7).ownBlock = some i) (fun i => (U i ∨ i = w.heap.size + 1) ∨ (S i ∨ (Value.slice A7 (L.length + 1) c7).ownBlock = some i)) { H with vs := H.vs ++ [⟨cde, ccl, cfu, cst, crs⟩] }) := Lib.hid GR.out.1.drew
          have Z9 : Hid (Blk w8.drew (w.heap.size + 1) 42 #[.int .i64 0, .int .i64 0, .int .i64 0]) := Lib.hid Z8.out
          have V9 : Hid (Blk w8.drew vb 42 #[.int .i64 0, .int .i64 0, .int .i64 0]) := Lib.hid V8.out
          have FR9 : Hid (Fh S w w8.drew) := Lib.hid ((Fh.of_below HB0.out).next GR.out.2.1).drew
          have FT : Hid (∀ i, (S i ∨ (Value.slice A7 (L.length + 1) c7).ownBlock = some i) → S i ∨ w.heap.size ≤ i) := Lib.hid fun i hi => hi.elim .inl fun e => (GR.out.2.2 i e).imp id fun e => by omega
          have NZ : Hid (¬ (S (w.heap.size + 1) ∨ (Value.slice A7 (L.length + 1) c7).ownBlock = some (w.heap.size + 1))) := Lib.hid fun e => by
            rcases e with e | e
            · have := HAT0.out.old _ e; omega
            · rcases GR.out.2.2 _ e with e | e
              · have := HAT0.out.old _ e; omega
              · have := HZ.out.lt; omega
          have FIN : Hid (Did g S U { H with vs := if (0 : Int) = 0 then H.vs ++ [⟨cde, ccl, cfu, cst, crs⟩] else H.vs } w (((w8.drew.setCell ⟨w.heap.size + 1, 0, none⟩ (.int .i64 0)).setCell ⟨w.heap.size + 1, 1, none⟩ (.int .i64 0)).setCell ⟨w.heap.size + 1, 2, none⟩ (.int .i64 0))) := Lib.hid (by
            rw [if_pos rfl]
            refine ⟨_, FT.out, (((GR9.out.store_ (q := ⟨w.heap.size + 1, 0, none⟩) NZ.out (.inl (.inr rfl))).store_ (q := ⟨w.heap.size + 1, 1, none⟩) NZ.out (.inl (.inr rfl))).store_ (q := ⟨w.heap.size + 1, 2, none⟩) NZ.out (.inl (.inr rfl))).narrow (fun i hi => hi.imp .inl id) (fun i hi => .inr hi), ?_⟩
            exact ((FR9.out.set_ (q := ⟨w.heap.size + 1, 0, none⟩) (.inr (Nat.le_succ _)) _).set_ (q := ⟨w.heap.size + 1, 1, none⟩) (.inr (Nat.le_succ _)) _).set_ (q := ⟨w.heap.size + 1, 2, none⟩) (.inr (Nat.le_succ _)) _)
          have GR : Hid (HistAt w8.drew g (fun i => S i ∨ (Value.slice A7 (L.length + 1) c7).ownBlock = some i) (fun i => (U i ∨ i = w.heap.size + 1) ∨ (S i ∨ (Value.slice A7 (L.length + 1) c7).ownBlock = some i)) { H with vs := H.vs ++ [⟨cde, ccl, cfu, cst, crs⟩] } ∧ True) := Lib.hid ⟨GR9.out, trivial⟩
          refine wp_region_held_drew (S := fun w' => Blk w' vb 42 #[.int .i64 0, .int .i64 0, .int .i64 0]) (by kernel_rfl) V9.out (fun hHeld => ?_)
          refine take_d 0 35 (.pointer (some ⟨g, 0, none⟩)) _ rfl rfl (by kernel_rfl) (by kernel_rfl) (by kernel_rfl) (fun _ _ _ h => h) (Or.inl ⟨by rfl, fun w' hSw => ?_⟩) hHeld ?_
          · go_simp
          simp only [List.setIfInBounds_toArray, List.set_cons_zero, List.set_cons_succ]
          refine take_d 2 37 (.agg #[.int .i64 0, .int .i64 0, .int .i64 0]) _ rfl rfl (by kernel_rfl) (by kernel_rfl) (by kernel_rfl) (fun _ _ _ h => h) (Or.inl ⟨by rfl, fun w' hSw => ?_⟩) hHeld ?_
          · have q0 := hSw.cell 0
            have q1 := hSw.cell 1
            have q2 := hSw.cell 2
            go_simp
          simp only [List.setIfInBounds_toArray, List.set_cons_zero, List.set_cons_succ]
          refine wpAnyH_ready (rs := [1]) (by kernel_rfl) (by simp) ?_
          refine AllReadyH.cons rfl (fun K hK => ?_) AllReadyH.nil
          go_simp
          refine (version_any2 (k + 1) (by simp [HK.out]) (GR.out.1)).mono ?_
          rintro e wv ⟨rfl, rfl⟩
          refine hK.out _ _ hHeld (fun hHeld => ?_)
          clear hK K
          refine take_d 3 4 (.int .i64 ((k + 1 : Nat) : Int)) _ rfl rfl (by kernel_rfl) (by kernel_rfl) (by kernel_rfl) (fun _ _ _ h => h) (Or.inl ⟨by rfl, fun w' hSw => ?_⟩) hHeld ?_
          · go_simp
          simp only [List.setIfInBounds_toArray, List.set_cons_zero, List.set_cons_succ]
          refine wpAnyH_ready (rs := [4]) (by kernel_rfl) (by simp) ?_
          refine AllReadyH.cons rfl (fun K hK => ?_) AllReadyH.nil
          have q0 := Z8.out.cell 0
          have q1 := Z8.out.cell 1
          have q2 := Z8.out.cell 2
          have qf := Z8.out.frozen
          have ql := Z8.out.lt
          go_simp
          refine hK.out _ _ (((hHeld.far (p := ⟨w.heap.size + 1, 0, none⟩) hvz.out _).far (p := ⟨w.heap.size + 1, 1, none⟩) hvz.out _).far (p := ⟨w.heap.size + 1, 2, none⟩) hvz.out _) (fun hHeld => ?_)
          clear hK K
          refine wpAnyH_done (by kernel_rfl) ?_ _
          go_wp2
          refine bodyPost_ret (v := .tuple #[.int .i64 ((k + 1 : Nat) : Int), .agg #[.int .i64 0, .int .i64 0, .int .i64 0]]) (by simp [results, Tryz.results33, go_sem, *]) rfl ⟨by first | rfl | (rw [if_pos rfl, HK.out]) | (rw [HK.out]), FIN.out⟩
        · go_simp
          have hba : Below wd.heap.size wd (wd.alloc (.cells #[.int .i64 cde, .int .i64 ccl, .int .i64 cfu, .int .i64 cst, .slice CA crs.length CC] 54)) := (Below.refl _ _).alloc (Nat.le_refl _) _
          obtain ⟨zb, hzb⟩ : ∃ z, z = wd.heap.size := ⟨_, rfl⟩
          have BZ : Hid (Blk (wd.alloc (.cells #[.int .i64 cde, .int .i64 ccl, .int .i64 cfu, .int .i64 cst, .slice CA crs.length CC] 54)) zb 54 #[.int .i64 cde, .int .i64 ccl, .int .i64 cfu, .int .i64 cst, .slice CA crs.length CC]) := Lib.hid (by rw [hzb]; exact Blk.new _ _ _)
          have G6 := Lib.hid (HG2.out.on hba)
          have V6 := Lib.hid (V2.out.on hba)
          have Z6 := Lib.hid (Z2.out.on hba)
          have B6 := Lib.hid (B2.out.trans (hba.mono B2.out.size))
          have R6 := Lib.hid ((R2.out.below (hba.mono N2.out)).more (Nat.le_trans N2.out hba.size))
          refine hK.out _ _ trivial (fun hHeld => ?_)
          clear hK K hba
          rw [← hzb]
          clear hzb
          generalize wd.alloc _ = wb at *
          refine wpAnyH_ready (rs := [4]) (by kernel_rfl) (by simp) ?_
          refine AllReadyH.cons rfl (fun K hK => ?_) AllReadyH.nil
          have q1 := G6.out.cell 1
          have ql := G6.out.lt
          go_simp
          refine hK.out _ _ trivial (fun hHeld => ?_)
          clear hK K ql q1
          refine wpAnyH_ready (rs := [7]) (by kernel_rfl) (by simp) ?_
          refine AllReadyH.cons rfl (fun K hK => ?_) AllReadyH.nil
          have O6 : Hid (wb.ownsRow 0 54 5 (.slice (some ⟨b, 0, none⟩) (k + 1) c) L.length (seCells L)) := Lib.hid (own_keep HV.out.row fun i hi => B6.out.block i (HV.out.uold i (HV.out.wide i (HV.out.foot i hi.symm))))
          refine step_app_set wb rfl 32 rfl (.tmp 29) (.tmp 31) rfl _ L (by simp [Act.eval]) O6.out zb ⟨cde, ccl, cfu, cst, crs⟩ CA crs.length CC (by simp [Act.eval]) BZ.out (by have := HLL.out; omega) ?_
          intro v7 w7 o7 g7 n7
          have GR := Lib.hid (HV.out.grown B6.out (s := ⟨cde, ccl, cfu, cst, crs⟩) HC0.out HFa.out R6.out o7 g7 n7)
          have G7 := Lib.hid (G6.out.grown g7 (fun e => own_ne O6.out G6.out (by decide) e.symm))
          have V7 := Lib.hid (V6.out.grown g7 (fun e => own_ne O6.out V6.out (by decide) e.symm))
          have Z7 := Lib.hid (Z6.out.grown g7 (fun e => own_ne O6.out Z6.out (by decide) e.symm))
          obtain ⟨A7, c7, rfl⟩ := orow_form o7
          refine hK.out _ _ trivial (fun hHeld => ?_)
          clear hK K o7 g7 n7 O6
          refine take_d 8 33 (.pointer (some ⟨g, 0, none⟩)) _ rfl rfl (by kernel_rfl) (by kernel_rfl) (by kernel_rfl) (fun _ _ _ h => h) (Or.inl ⟨by rfl, fun w' hSw => ?_⟩) hHeld ?_
          · go_simp
          simp only [List.setIfInBounds_toArray, List.set_cons_zero, List.set_cons_succ]
          refine take_d 9 34 (.pointer (some ⟨g, 1, none⟩)) _ rfl rfl (by kernel_rfl) (by kernel_rfl) (by kernel_rfl) (fun _ _ _ h => h) (Or.inl ⟨by rfl, fun w' hSw => ?_⟩) hHeld ?_
          · go_simp
          simp only [List.setIfInBounds_toArray, List.set_cons_zero, List.set_cons_succ]
          refine wpAnyH_ready (rs := [10]) (by kernel_rfl) (by simp) ?_
          refine AllReadyH.cons rfl (fun K hK => ?_) AllReadyH.nil
          have q := G7.out.cell 1
          have qf := G7.out.frozen
          have ql := G7.out.lt
          go_simp
          have V8 := Lib.hid (V7.out.far (p := ⟨g, 1, none⟩) (Blk.ne_ V7.out G7.out (by decide)) (.slice A7 (L.length + 1) c7))
          have Z8 := Lib.hid (Z7.out.far (p := ⟨g, 1, none⟩) (Blk.ne_ Z7.out G7.out (by decide)) (.slice A7 (L.length + 1) c7))
          refine hK.out _ _ trivial (fun hHeld => ?_)
          clear hK K q qf ql G7 V7 Z7
          generalize w7.setCell ⟨g, 1, none⟩ (.slice A7 (L.length + 1) c7) = w8 at *
          refine wpAnyH_done (by kernel_rfl) ?_ _
          go_upto_region 5 with (fail)
          have hsw := HB0.out.size
          have hvz : Hid (vb ≠ w.heap.size + 1) := Lib.hid (by have := HVl.out; have := HZ.out.lt; omega)
          have GR9 : Hid (HistAt w8.drew g (fun i => S i ∨ (Value.slice A7 (L.length + 1) c7).ownBlock = some i) (fun i => (U i ∨ i = w.heap.size + 1) ∨ (S i ∨ (Value.slice A7 (L.length + 1) c7).ownBlock = some i)) { H with vs := H.vs ++ [⟨cde, ccl, cfu, cst, crs⟩] }) := Lib.hid GR.out.1.drew
          have Z9 : Hid (Blk w8.drew (w.heap.size + 1) 42 #[.int .i64 0, .int .i64 0, .int .i64 0]) := Lib.hid Z8.out
          have V9 : Hid (Blk w8.drew vb 42 #[.int .i64 0, .int .i64 0, .int .i64 0]) := Lib.hid V8.out
          have FR9 : Hid (Fh S w w8.drew) := Lib.hid ((Fh.of_below HB0.out).next GR.out.2.1).drew
          have FT : Hid (∀ i, (S i ∨ (Value.slice A7 (L.length + 1) c7).ownBlock = some i) → S i ∨ w.heap.size ≤ i) := Lib.hid fun i hi => hi.elim .inl fun e => (GR.out.2.2 i e).imp id fun e => by omega
          have NZ : Hid (¬ (S (w.heap.size + 1) ∨ (Value.slice A7 (L.length + 1) c7).ownBlock = some (w.heap.size + 1))) := Lib.hid fun e => by
            rcases e with e | e
            · have := HAT0.out.old _ e; omega
            · rcases GR.out.2.2 _ e with e | e
              · have := HAT0.out.old _ e; omega
              · have := HZ.out.lt; omega
          have FIN : Hid (Did g S U { H with vs := if (0 : Int) = 0 then H.vs ++ [⟨cde, ccl, cfu, cst, crs⟩] else H.vs } w (((w8.drew.setCell ⟨w.heap.size + 1, 0, none⟩ (.int .i64 0)).setCell ⟨w.heap.size + 1, 1, none⟩ (.int .i64 0)).setCell ⟨w.heap.size + 1, 2, none⟩ (.int .i64 0))) := Lib.hid (by
            rw [if_pos rfl]
            refine ⟨_, FT.out, (((GR9.out.store_ (q := ⟨w.heap.size + 1, 0, none⟩) NZ.out (.inl (.inr rfl))).store_ (q := ⟨w.heap.size + 1, 1, none⟩) NZ.out (.inl (.inr rfl))).store_ (q := ⟨w.heap.size + 1, 2, none⟩) NZ.out (.inl (.inr rfl))).narrow (fun i hi => hi.imp .inl id) (fun i hi => .inr hi), ?_⟩
            exact ((FR9.out.set_ (q := ⟨w.heap.size + 1, 0, none⟩) (.inr (Nat.le_succ _)) _).set_ (q := ⟨w.heap.size + 1, 1, none⟩) (.inr (Nat.le_succ _)) _).set_ (q := ⟨w.heap.size + 1, 2, none⟩) (.inr (Nat.le_succ _)) _)
          have GR : Hid (HistAt w8.drew g (fun i => S i ∨ (Value.slice A7 (L.length + 1) c7).ownBlock = some i) (fun i => (U i ∨ i = w.heap.size + 1) ∨ (S i ∨ (Value.slice A7 (L.length + 1) c7).ownBlock = some i)) { H with vs := H.vs ++ [⟨cde, ccl, cfu, cst, crs⟩] } ∧ True) := Lib.hid ⟨GR9.out, trivial⟩
          refine wp_region_held_drew (S := fun w' => Blk w' vb 42 #[.int .i64 0, .int .i64 0, .int .i64 0]) (by kernel_rfl) V9.out (fun hHeld => ?_)
          refine take_d 0 35 (.pointer (some ⟨g, 0, none⟩)) _ rfl rfl (by kernel_rfl) (by kernel_rfl) (by kernel_rfl) (fun _ _ _ h => h) (Or.inl ⟨by rfl, fun w' hSw => ?_⟩) hHeld ?_
          · go_simp
          simp only [List.setIfInBounds_toArray, List.set_cons_zero, List.set_cons_succ]
          refine take_d 2 37 (.agg #[.int .i64 0, .int .i64 0, .int .i64 0]) _ rfl rfl (by kernel_rfl) (by kernel_rfl) (by kernel_rfl) (fun _ _ _ h => h) (Or.inl ⟨by rfl, fun w' hSw => ?_⟩) hHeld ?_
          · have q0 := hSw.cell 0
            have q1 := hSw.cell 1
            have q2 := hSw.cell 2
            go_simp
          simp only [List.setIfInBounds_toArray, List.set_cons_zero, List.set_cons_succ]
          refine wpAnyH_ready (rs := [1]) (by kernel_rfl) (by simp) ?_
          refine AllReadyH.cons rfl (fun K hK => ?_) AllReadyH.nil
          go_simp
          refine (version_any2 (k + 1) (by simp [HK.out]) (GR.out.1)).mono ?_
          rintro e wv ⟨rfl, rfl⟩
          refine hK.out _ _ hHeld (fun hHeld => ?_)
          clear hK K
          refine take_d 3 4 (.int .i64 ((k + 1 : Nat) : Int)) _ rfl rfl (by kernel_rfl) (by kernel_rfl) (by kernel_rfl) (fun _ _ _ h => h) (Or.inl ⟨by rfl, fun w' hSw => ?_⟩) hHeld ?_
          · go_simp
          simp only [List.setIfInBounds_toArray, List.set_cons_zero, List.set_cons_succ]
          refine wpAnyH_ready (rs := [4]) (by kernel_rfl) (by simp) ?_
          refine AllReadyH.cons rfl (fun K hK => ?_) AllReadyH.nil
          have q0 := Z8.out.cell 0
          have q1 := Z8.out.cell 1
          have q2 := Z8.out.cell 2
          have qf := Z8.out.frozen
          have ql := Z8.out.lt
          go_simp
          refine hK.out _ _ (((hHeld.far (p := ⟨w.heap.size + 1, 0, none⟩) hvz.out _).far (p := ⟨w.heap.size + 1, 1, none⟩) hvz.out _).far (p := ⟨w.heap.size + 1, 2, none⟩) hvz.out _) (fun hHeld => ?_)
          clear hK K
          refine wpAnyH_done (by kernel_rfl) ?_ _
          go_wp2
          refine bodyPost_ret (v := .tuple #[.int .i64 ((k + 1 : Nat) : Int), .agg #[.int .i64 0, .int .i64 0, .int .i64 0]]) (by simp [results, Tryz.results33, go_sem, *]) rfl ⟨by first | rfl | (rw [if_pos rfl, HK.out]) | (rw [HK.out]), FIN.out⟩
    · have hc0' : (cc != 0) = true := by simp [hc0]
      have HN0 := Lib.hid hc0
      have v1 := HVb.out.cell 1
      have v2 := HVb.out.cell 2
      have z0 := Zc.out.cell 0
      have z1 := Zc.out.cell 1
      have z2 := Zc.out.cell 2
      have zf := Zc.out.frozen
      have zl := Zc.out.lt
      have hn1 : ¬ vb = w.heap.size + 1 := by have := HVl.out; have := HZ.out.lt; omega
      have hn2 : ¬ w.heap.size + 1 = vb := fun e => hn1 e.symm
      clear hc0
      go_upto_region 3 with (fail)
      go_region
      go_wp2
      refine bodyPost_ret (v := .tuple #[.int .i64 0, .agg #[.int .i64 cc, .int .i64 cr, .int .i64 ca]]) (by simp [results, Tryz.results33, go_sem, *]) rfl ⟨by first | rfl | (rw [if_neg HN0.out]), ?_⟩
      (try rw [if_neg HN0.out])
      have NZ : ¬ S (w.heap.size + 1) := fun e => by have := HAT0.out.old _ e; omega
      have h1 := HAT.out.on HBc.out
      refine ⟨S, fun _ e => .inl e, HistAt.drew ?_, Fh.drew ?_⟩
      · exact (((h1.store_ (q := ⟨w.heap.size + 1, 0, none⟩) NZ (.inr rfl)).store_ (q := ⟨w.heap.size + 1, 1, none⟩) NZ (.inr rfl)).store_ (q := ⟨w.heap.size + 1, 2, none⟩) NZ (.inr rfl)).narrow (fun i hi => hi.elim .inl fun e => .inl (HAT0.out.wide i e)) (fun i hi => .inr hi)
      · exact ((((Fh.of_below HB0.out).next (Fh.of_below HBc.out)).set_ (q := ⟨w.heap.size + 1, 0, none⟩) (.inr (Nat.le_succ _)) _).set_ (q := ⟨w.heap.size + 1, 1, none⟩) (.inr (Nat.le_succ _)) _).set_ (q := ⟨w.heap.size + 1, 2, none⟩) (.inr (Nat.le_succ _)) _
end Go.Proofs.YtefgobmpleoafaaGreatDoor

