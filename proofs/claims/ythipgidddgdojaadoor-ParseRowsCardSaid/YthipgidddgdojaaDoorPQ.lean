/- An atom with its quantifier: a step of the reader. -/
import Derived.Test.YthipgidddgdojaaDoorPM
namespace Go.Proofs.YthipgidddgdojaaDoor
open Go.RowKit
variable {n₀ rb tb cap d : Nat} {s : List UInt8} {w w' : World} {σ σ1 : St} {fc fa : Int} {bv v : Value}

def QuaC (n₀ rb tb cap : Nat) (s : List UInt8) (fc fa : Int) (N : Nat) : Prop :=
  ∀ (d : Nat) (σ : St) (w : World) (bv : Value), σ.t ≠ [] → 4 * σ.t.length ≤ N → Rd n₀ rb tb cap s w σ d fc fa bv → Calls Tryd.prog 27 #[.pointer (some ⟨rb, 0, none⟩)] w (NPost n₀ rb tb cap s d fc fa w (run N 2 d [] σ))
/-- What stands behind an atom. -/
def quaClose (gr : Bool) (ra : R) : R :=
  match ra with
  | .error e => .error e
  | .ok (a, σ1) => quantRest gr a σ1
theorem run_qua (n d : Nat) (acc : List Nd) (σ : St) : run (n + 1) 2 d acc σ = quaClose (pre [40, 63, 58] σ.t) (atomR n d σ) := rfl

set_option maxRecDepth 100000 in
set_option maxHeartbeats 16000000 in
theorem quant_step (N : Nat) (hP : ParC n₀ rb tb cap s fc fa N) : QuaC n₀ rb tb cap s fc fa (N + 1) := by
  intro d σ w bv hn hN hR
  rw [run_qua]
  have hrl := hR.blk.lt
  have HB0 := Lib.hid (Blk.new w 27 zeros)
  have HR0 := Lib.hid (hR.alloc (.cells zeros 27))
  have HF0 : Hid (Fr n₀ rb w (w.alloc (.cells zeros 27))) := Lib.hid ((Fr.refl w).alloc _)
  have HR := Lib.hid hR
  have HS := Lib.hid (sees_any [40, 63, 58] HR0.out)
  have HA := Lib.hid (fun W (hW : Rd n₀ rb tb cap s W σ d fc fa bv) => atom_any N hP hn hN hW)
  obtain ⟨gr, hgr⟩ : ∃ gr, gr = pre [40, 63, 58] σ.t := ⟨_, rfl⟩
  obtain ⟨ra, hra⟩ : ∃ ra, ra = atomR N d σ := ⟨_, rfl⟩
  rw [← hgr] at HS ⊢
  rw [← hra] at HA ⊢
  clear hgr hra hP hn hN hR
  go_enter Tryd.func27, Tryd.ntmps27
  go_wp2_with fail
  refine HS.out.mono ?_
  rintro e w1 ⟨rfl, hb1⟩
  have HR1 := Lib.hid (HR0.out.on hb1)
  have HB1 := Lib.hid (HB0.out.on hb1)
  have hF := HF0.out.trans (Fr.of_below hb1)
  have h01 : w.heap.size < w1.heap.size := HB1.out.lt
  go_wp2_with fail
  refine (HA.out _ HR1.out).mono ?_
  rintro e w2 hP2
  cases ra with
  | error f =>
    obtain ⟨rfl, hB, hF2⟩ := hP2
    unfold zeros
    have hB2 := (hF2.blk HR1.out HB1.out (by decide) (by decide)).alloc (.cells zeros 27)
    have hz := hB2.zero
    have hfz := hB2.frozen
    unfold zeros at hz hfz
    go_wp2
    exact ret_node rfl rfl rfl rfl (st7_blk hB2) ⟨rfl, (hB.alloc _).st7 (by omega), ((hF.trans hF2).alloc _).st7 (Nat.le_refl _)⟩
  | ok y =>
    obtain ⟨a, σ1⟩ := y
    obtain ⟨sv, kv, bv2, rfl, hNd, hR2, hF2⟩ := hP2
    obtain ⟨A1, A2, p1, p2, rfl, rfl⟩ := hNd.lens
    have hw2 := hF2.size
    obtain ⟨nk, hnk⟩ : ∃ nk : Array Value, nk = #[.int .i64 a.kind, .int .i64 a.lo, .int .i64 a.hi, .int .i64 a.mode, .int .i64 a.ref, .slice A1 a.set.length p1, .slice A2 a.kids.length p2] := ⟨_, rfl⟩
    have HB3 := Lib.hid ((hF2.blk HR1.out HB1.out (by decide) (by decide)).alloc (.cells nk 27))
    have HB5 := Lib.hid (Blk.new w2 27 nk)
    have HR3 := Lib.hid (hR2.alloc (.cells nk 27))
    have HN3 := Lib.hid (hNd.fr ((Fr.refl w2).alloc (.cells nk 27)))
    replace hF := (hF.trans hF2).alloc (.cells nk 27)
    have c1 := HR3.out.c1
    have hsz : w2.heap.size < (w2.alloc (.cells nk 27)).heap.size := by simp
    have hq := quant_seen HR3.out
    have HQ := Lib.hid hq
    have htm := fun (hq : isQ (at_ σ1.t 0) = true) W (hW : Rd n₀ rb tb cap s W σ1 d fc fa bv2) => times_any hq hW
    have HTM := Lib.hid htm
    clear hNd hR2 hF2 hq htm
    simp only [ndVal]
    subst hnk
    go_upto_region 6 with (fail)
    generalize w2.alloc (.cells #[.int .i64 a.kind, .int .i64 a.lo, .int .i64 a.hi, .int .i64 a.mode, .int .i64 a.ref, .slice A1 a.set.length p1, .slice A2 a.kids.length p2] 27) = W3 at HB3 HB5 HR3 HN3 hF c1 hsz HQ ⊢
    cases hq : isQ (at_ σ1.t 0) with
    | false =>
      rw [hq] at HQ
      have hpc : Hid (quaClose gr (.ok (a, σ1)) = .ok (a, σ1)) := Lib.hid (by unfold quaClose quantRest; exact if_neg (by rw [hq]; decide))
      clear hq HTM
      go_wp2_with fail
      refine HQ.out.mono ?_
      rintro e w4 ⟨rfl, hb4⟩
      have hB4 := HB3.out.on hb4
      have hz := hB4.zero
      have hfz := hB4.frozen
      have b5 := (HB5.out.on hb4).seven
      go_wp2
      exact ret_node rfl rfl rfl rfl (st7_blk hB4) (by
        rw [hpc.out]
        exact ⟨_, _, bv2, rfl, ((HN3.out.fr (Fr.of_below hb4)).st7 hB4 h01).low (by omega), (HR3.out.on hb4).st7 hB4 HR.out.size, (hF.trans (Fr.of_below hb4)).st7 (Nat.le_refl _)⟩)
    | true =>
      rw [hq] at HQ
      cases gr with
      | true =>
        have hpc : quaClose true (.ok (a, σ1)) = (match times σ1 with | none => .error (23, σ1.pos) | some ((lo, hi), σ2) => .ok (repN lo hi (modeOf σ2.t) a, behindMode σ2)) := by show quantRest true a σ1 = _; unfold quantRest; rw [if_pos hq, if_neg (by simp)]; rfl
        have HTM' := Lib.hid (HTM.out hq)
        obtain ⟨rt, hrt⟩ : ∃ rt, rt = times σ1 := ⟨_, rfl⟩
        rw [← hrt] at hpc HTM'
        have HPC := Lib.hid hpc
        clear hpc hq HTM hrt
        go_wp2_with fail
        refine HQ.out.mono ?_
        rintro e w4 ⟨rfl, hb4⟩
        have HB4 := Lib.hid (HB3.out.on hb4)
        have HB54 := Lib.hid (HB5.out.on hb4)
        have HR4 := Lib.hid (HR3.out.on hb4)
        have HN4 := Lib.hid (HN3.out.fr (Fr.of_below hb4))
        replace hF := hF.trans (Fr.of_below hb4)
        have b5 := HB54.out.seven
        clear HB3 HB5 HR3 HN3 hb4 HQ
        go_wp2_with fail
        refine (HTM'.out _ HR4.out).mono ?_
        rintro e w5 hP5
        cases rt with
        | none =>
          obtain ⟨rfl, ⟨σx, hRx⟩, hF5⟩ := hP5
          have hpc := HPC.out
          simp only at hpc
          have HB5 := Lib.hid (hF5.blk HR4.out HB4.out (by decide) (by decide))
          have HRx := Lib.hid hRx
          replace hF := hF.trans hF5
          have HPC2 := Lib.hid hpc
          clear hRx hF5 HPC hpc
          go_wp2_with fail
          refine (refuse_bad 23 σ1.pos HRx.out).mono ?_
          rintro e w6 ⟨rfl, hB, hF6⟩
          have hB6 := hF6.blk HRx.out HB5.out (by decide) (by decide)
          have hz := hB6.zero
          have hfz := hB6.frozen
          go_wp2
          exact ret_node rfl rfl rfl rfl (st7_blk hB6) (by
            rw [HPC2.out]
            exact ⟨rfl, hB.st7 (by omega), (hF.trans hF6).st7 (Nat.le_refl _)⟩)
        | some z =>
          obtain ⟨⟨lo, hi⟩, σ2⟩ := z
          obtain ⟨rfl, hR5, hF5⟩ := hP5
          have hpc := HPC.out
          simp only at hpc hR5
          have HB5 := Lib.hid (hF5.blk HR4.out HB4.out (by decide) (by decide))
          have HB55 := Lib.hid (hF5.blk HR4.out HB54.out (by decide) (by decide))
          have HR5 := Lib.hid hR5
          have HN5 := Lib.hid (HN4.out.fr hF5)
          replace hF := hF.trans hF5
          have HPC2 := Lib.hid hpc
          have HMd := Lib.hid (fun W (hW : Rd n₀ rb tb cap s W σ2 d fc fa bv2) => mode_any hW)
          obtain ⟨md, hmd⟩ : ∃ md, md = modeOf σ2.t := ⟨_, rfl⟩
          rw [← hmd] at HMd HPC2
          clear hR5 hF5 HPC hpc hmd b5 HB4 HB54 HR4 HN4 HTM'
          have h52 : w2.heap.size ≠ w.heap.size := by omega
          go_upto_region 13 with (fail)
          refine wp_region_held_drew (S := fun W => Blk W w2.heap.size 27 #[.int .i64 a.kind, .int .i64 a.lo, .int .i64 a.hi, .int .i64 a.mode, .int .i64 a.ref, .slice A1 a.set.length p1, .slice A2 a.kids.length p2]) (by kernel_rfl) HB55.out (fun hHeld => ?_)
          refine take_d 0 56 (.int .i64 lo) _ rfl rfl (by kernel_rfl) (by kernel_rfl) (by kernel_rfl) (fun _ _ _ h => h) (Or.inl ⟨by rfl, fun w' hSw => ?_⟩) hHeld ?_
          · go_simp
          simp only [List.setIfInBounds_toArray, List.set_cons_zero, List.set_cons_succ]
          refine take_d 1 57 (.int .i64 hi) _ rfl rfl (by kernel_rfl) (by kernel_rfl) (by kernel_rfl) (fun _ _ _ h => h) (Or.inl ⟨by rfl, fun w' hSw => ?_⟩) hHeld ?_
          · go_simp
          simp only [List.setIfInBounds_toArray, List.set_cons_zero, List.set_cons_succ]
          refine take_d 2 58 (.pointer (some ⟨rb, 0, none⟩)) _ rfl rfl (by kernel_rfl) (by kernel_rfl) (by kernel_rfl) (fun _ _ _ h => h) (Or.inl ⟨by rfl, fun w' hSw => ?_⟩) hHeld ?_
          · go_simp
          simp only [List.setIfInBounds_toArray, List.set_cons_zero, List.set_cons_succ]
          refine take_d 4 60 (.agg #[.int .i64 a.kind, .int .i64 a.lo, .int .i64 a.hi, .int .i64 a.mode, .int .i64 a.ref, .slice A1 a.set.length p1, .slice A2 a.kids.length p2]) _ rfl rfl (by kernel_rfl) (by kernel_rfl) (by kernel_rfl) (fun _ _ _ h => h) (Or.inl ⟨by rfl, fun w' hSw => ?_⟩) hHeld ?_
          · have hS7 := Blk.seven hSw
            clear hSw
            go_simp
          simp only [List.setIfInBounds_toArray, List.set_cons_zero, List.set_cons_succ]
          refine wpAnyH_ready (rs := [3, 5]) (by kernel_rfl) (by simp) ?_
          refine AllReadyH.cons rfl (fun K hK => ?_) (AllReadyH.cons rfl (fun K hK => ?_) AllReadyH.nil)
          · go_simp
            refine (HMd.out _ HR5.out.drew).mono ?_
            rintro e w6 ⟨rfl, hR6, hF6⟩
            have HB06 := Lib.hid (hF6.blk HR5.out.drew (show Blk w5.drew w.heap.size 27 zeros from HB5.out) (by decide) (by decide))
            have HB56 := Lib.hid (hF6.blk HR5.out.drew (show Blk w5.drew w2.heap.size 27 _ from HB55.out) (by decide) (by decide))
            refine hK.out _ _ HB56.out (fun hHeld => ?_)
            clear hK K
            refine wpAnyH_ready (rs := [5]) (by kernel_rfl) (by simp) ?_
            refine AllReadyH.cons rfl (fun K hK => ?_) AllReadyH.nil
            go_simp
            refine hK.out _ _ (HB56.out.alloc _) (fun hHeld => ?_)
            clear hK K
            have HBf := Lib.hid (HB06.out.alloc (.cells #[.int .i64 a.kind, .int .i64 a.lo, .int .i64 a.hi, .int .i64 a.mode, .int .i64 a.ref, .slice A1 a.set.length p1, .slice A2 a.kids.length p2] 27))
            have HBg := Lib.hid (HB56.out.alloc (.cells #[.int .i64 a.kind, .int .i64 a.lo, .int .i64 a.hi, .int .i64 a.mode, .int .i64 a.ref, .slice A1 a.set.length p1, .slice A2 a.kids.length p2] 27))
            have HBs := Lib.hid (Blk.new w6 27 #[.int .i64 a.kind, .int .i64 a.lo, .int .i64 a.hi, .int .i64 a.mode, .int .i64 a.ref, .slice A1 a.set.length p1, .slice A2 a.kids.length p2])
            have HNf := Lib.hid ((HN5.out.fr (((Fr.refl w5).drewN 1).trans hF6)).fr ((Fr.refl w6).alloc (.cells #[.int .i64 a.kind, .int .i64 a.lo, .int .i64 a.hi, .int .i64 a.mode, .int .i64 a.ref, .slice A1 a.set.length p1, .slice A2 a.kids.length p2] 27)))
            have HRf := Lib.hid (hR6.alloc (.cells #[.int .i64 a.kind, .int .i64 a.lo, .int .i64 a.hi, .int .i64 a.mode, .int .i64 a.ref, .slice A1 a.set.length p1, .slice A2 a.kids.length p2] 27))
            have hFf := ((hF.drewN 1).trans hF6).alloc (.cells #[.int .i64 a.kind, .int .i64 a.lo, .int .i64 a.hi, .int .i64 a.mode, .int .i64 a.ref, .slice A1 a.set.length p1, .slice A2 a.kids.length p2] 27)
            have hsf : w6.heap.size ≠ w.heap.size := by have := HB06.out.lt; omega
            have hsr : w6.heap.size ≠ rb := by have := hR6.blk.lt; omega
            have hs6 : w.heap.size < w6.heap.size := HB06.out.lt
            clear hR6 hF6
            generalize w6.alloc (.cells #[.int .i64 a.kind, .int .i64 a.lo, .int .i64 a.hi, .int .i64 a.mode, .int .i64 a.ref, .slice A1 a.set.length p1, .slice A2 a.kids.length p2] 27) = W7 at HBf HBg HBs HNf HRf hFf hHeld ⊢
            refine take_d 6 62 (.agg #[.int .i64 4, .int .i64 lo, .int .i64 hi, .int .i64 (md : Nat), .int .i64 0, .slice none 0 0, .slice (some ⟨w6.heap.size, 0, none⟩) 1 1]) _ rfl rfl (by kernel_rfl) (by kernel_rfl) (by kernel_rfl) (fun _ _ _ h => h) (Or.inl ⟨by rfl, fun w' hSw => ?_⟩) hHeld ?_
            · go_simp
            simp only [List.setIfInBounds_toArray, List.set_cons_zero, List.set_cons_succ]
            have hz := HBf.out.zero
            have hfz := HBf.out.frozen
            refine wpAnyH_ready (rs := [7]) (by kernel_rfl) (by simp) ?_
            refine AllReadyH.cons rfl (fun K hK => ?_) AllReadyH.nil
            go_simp
            refine hK.out _ _ (HBg.out.st7 h52) (fun hHeld => ?_)
            clear hK K
            refine take_d 8 3 (.bool true) _ rfl rfl (by kernel_rfl) (by kernel_rfl) (by kernel_rfl) (fun _ _ _ h => h) (Or.inl ⟨by rfl, fun w' hSw => ?_⟩) hHeld ?_
            · go_simp
            simp only [List.setIfInBounds_toArray, List.set_cons_zero, List.set_cons_succ]
            refine wpAnyH_done (by kernel_rfl) ?_ _
            clear hHeld hz hfz
            go_wp2
            exact ret_node rfl rfl rfl rfl (st7_blk HBf.out) (by
              rw [HPC2.out]
              exact ⟨_, _, bv2, rfl, NodeV.one (SetK.nil _ _) (by simp) (Nat.le_refl _) (KB.new (HBs.out.st7 hsf) hsr (by omega)) ((HNf.out.st7 HBf.out h01).low (by omega)) (NCells.of_blk (HBs.out.st7 hsf)), HRf.out.st7 HBf.out HR.out.size, hFf.st7 (Nat.le_refl _)⟩)
          · go_simp
            refine hK.out _ _ (show Blk (w5.drew.alloc (.cells #[.int .i64 a.kind, .int .i64 a.lo, .int .i64 a.hi, .int .i64 a.mode, .int .i64 a.ref, .slice A1 a.set.length p1, .slice A2 a.kids.length p2] 27)) w2.heap.size 27 _ from Blk.alloc (w := w5.drew) HB55.out _) (fun hHeld => ?_)
            clear hK K
            refine wpAnyH_ready (rs := [3]) (by kernel_rfl) (by simp) ?_
            refine AllReadyH.cons rfl (fun K hK => ?_) AllReadyH.nil
            go_simp
            have hRa : Rd n₀ rb tb cap s (w5.drew.alloc (.cells #[.int .i64 a.kind, .int .i64 a.lo, .int .i64 a.hi, .int .i64 a.mode, .int .i64 a.ref, .slice A1 a.set.length p1, .slice A2 a.kids.length p2] 27)) σ2 d fc fa bv2 := HR5.out.drew.alloc _
            refine (HMd.out _ hRa).mono ?_
            rintro e w6 ⟨rfl, hR6, hF6⟩
            have HBf := Lib.hid (hF6.blk hRa (show Blk (w5.drew.alloc (.cells #[.int .i64 a.kind, .int .i64 a.lo, .int .i64 a.hi, .int .i64 a.mode, .int .i64 a.ref, .slice A1 a.set.length p1, .slice A2 a.kids.length p2] 27)) w.heap.size 27 zeros from Blk.alloc (w := w5.drew) HB5.out _) (by decide) (by decide))
            have HBg := Lib.hid (hF6.blk hRa (show Blk (w5.drew.alloc (.cells #[.int .i64 a.kind, .int .i64 a.lo, .int .i64 a.hi, .int .i64 a.mode, .int .i64 a.ref, .slice A1 a.set.length p1, .slice A2 a.kids.length p2] 27)) w2.heap.size 27 _ from Blk.alloc (w := w5.drew) HB55.out _) (by decide) (by decide))
            have HBs := Lib.hid (hF6.blk hRa (Blk.new_at w5.drew w5.heap.size rfl 27 #[.int .i64 a.kind, .int .i64 a.lo, .int .i64 a.hi, .int .i64 a.mode, .int .i64 a.ref, .slice A1 a.set.length p1, .slice A2 a.kids.length p2]) (by decide) (by decide))
            have HNf := Lib.hid ((HN5.out.fr ((Fr.refl w5).drewN 1)).fr (((Fr.refl w5.drew).alloc (.cells #[.int .i64 a.kind, .int .i64 a.lo, .int .i64 a.hi, .int .i64 a.mode, .int .i64 a.ref, .slice A1 a.set.length p1, .slice A2 a.kids.length p2] 27)).trans hF6))
            have HRf := Lib.hid hR6
            have hFf := ((hF.drewN 1).alloc (.cells #[.int .i64 a.kind, .int .i64 a.lo, .int .i64 a.hi, .int .i64 a.mode, .int .i64 a.ref, .slice A1 a.set.length p1, .slice A2 a.kids.length p2] 27)).trans hF6
            have hsf : w5.heap.size ≠ w.heap.size := by have := HB5.out.lt; omega
            have hsr : w5.heap.size ≠ rb := by have := HR5.out.blk.lt; omega
            have hs6 : w.heap.size < w5.heap.size := HB5.out.lt
            refine hK.out _ _ HBg.out (fun hHeld => ?_)
            clear hK K hR6 hF6 hRa
            refine take_d 6 62 (.agg #[.int .i64 4, .int .i64 lo, .int .i64 hi, .int .i64 (md : Nat), .int .i64 0, .slice none 0 0, .slice (some ⟨w5.heap.size, 0, none⟩) 1 1]) _ rfl rfl (by kernel_rfl) (by kernel_rfl) (by kernel_rfl) (fun _ _ _ h => h) (Or.inl ⟨by rfl, fun w' hSw => ?_⟩) hHeld ?_
            · go_simp
            simp only [List.setIfInBounds_toArray, List.set_cons_zero, List.set_cons_succ]
            have hz := HBf.out.zero
            have hfz := HBf.out.frozen
            refine wpAnyH_ready (rs := [7]) (by kernel_rfl) (by simp) ?_
            refine AllReadyH.cons rfl (fun K hK => ?_) AllReadyH.nil
            go_simp
            refine hK.out _ _ (HBg.out.st7 h52) (fun hHeld => ?_)
            clear hK K
            refine take_d 8 3 (.bool true) _ rfl rfl (by kernel_rfl) (by kernel_rfl) (by kernel_rfl) (fun _ _ _ h => h) (Or.inl ⟨by rfl, fun w' hSw => ?_⟩) hHeld ?_
            · go_simp
            simp only [List.setIfInBounds_toArray, List.set_cons_zero, List.set_cons_succ]
            refine wpAnyH_done (by kernel_rfl) ?_ _
            clear hHeld hz hfz
            go_wp2
            exact ret_node rfl rfl rfl rfl (st7_blk HBf.out) (by
              rw [HPC2.out]
              exact ⟨_, _, bv2, rfl, NodeV.one (SetK.nil _ _) (by simp) (Nat.le_refl _) (KB.new (HBs.out.st7 hsf) hsr (by omega)) ((HNf.out.st7 HBf.out h01).low (by omega)) (NCells.of_blk (HBs.out.st7 hsf)), HRf.out.st7 HBf.out HR.out.size, hFf.st7 (Nat.le_refl _)⟩)
      | false =>
        by_cases k9 : a.kind = 9
        · have e9 : (a.kind == 9) = true := by simpa using k9
          have hpc : Hid (quaClose false (.ok (a, σ1)) = .error (23, σ1.pos)) := Lib.hid (by unfold quaClose quantRest; simp [hq, k9])
          clear hq HTM k9
          go_wp2_with fail
          refine HQ.out.mono ?_
          rintro e w4 ⟨rfl, hb4⟩
          have HB4 := Lib.hid (HB3.out.on hb4)
          have HB54 := Lib.hid (HB5.out.on hb4)
          have HR4 := Lib.hid (HR3.out.on hb4)
          have HN4 := Lib.hid (HN3.out.fr (Fr.of_below hb4))
          replace hF := hF.trans (Fr.of_below hb4)
          have b5 := HB54.out.seven
          clear HB3 HB5 HR3 HN3 hb4 HQ
          go_wp2_with fail
          refine (refuse_bad 23 σ1.pos HR4.out).mono ?_
          rintro e w5 ⟨rfl, hB, hF5⟩
          have hB5 := hF5.blk HR4.out HB4.out (by decide) (by decide)
          have hz := hB5.zero
          have hfz := hB5.frozen
          go_wp2
          exact ret_node rfl rfl rfl rfl (st7_blk hB5) (by
            rw [hpc.out]
            exact ⟨rfl, hB.st7 (by omega), (hF.trans hF5).st7 (Nat.le_refl _)⟩)
        · have e9 : (a.kind == 9) = false := by simpa using k9
          by_cases k7 : a.kind = 7
          · have e7 : (a.kind == 7) = true := by simpa using k7
            have hpc : Hid (quaClose false (.ok (a, σ1)) = .error (23, σ1.pos)) := Lib.hid (by unfold quaClose quantRest; simp [hq, k7])
            clear hq HTM k7 k9
            go_wp2_with fail
            refine HQ.out.mono ?_
            rintro e w4 ⟨rfl, hb4⟩
            have HB4 := Lib.hid (HB3.out.on hb4)
            have HB54 := Lib.hid (HB5.out.on hb4)
            have HR4 := Lib.hid (HR3.out.on hb4)
            have HN4 := Lib.hid (HN3.out.fr (Fr.of_below hb4))
            replace hF := hF.trans (Fr.of_below hb4)
            have b5 := HB54.out.seven
            clear HB3 HB5 HR3 HN3 hb4 HQ
            go_wp2_with fail
            refine (refuse_bad 23 σ1.pos HR4.out).mono ?_
            rintro e w5 ⟨rfl, hB, hF5⟩
            have hB5 := hF5.blk HR4.out HB4.out (by decide) (by decide)
            have hz := hB5.zero
            have hfz := hB5.frozen
            go_wp2
            exact ret_node rfl rfl rfl rfl (st7_blk hB5) (by
              rw [hpc.out]
              exact ⟨rfl, hB.st7 (by omega), (hF.trans hF5).st7 (Nat.le_refl _)⟩)
          · have e7 : (a.kind == 7) = false := by simpa using k7
            have hpc : quaClose false (.ok (a, σ1)) = (match times σ1 with | none => .error (23, σ1.pos) | some ((lo, hi), σ2) => .ok (repN lo hi (modeOf σ2.t) a, behindMode σ2)) := by show quantRest false a σ1 = _; unfold quantRest; rw [if_pos hq, if_neg (by simp [k9, k7])]; rfl
            clear k9 k7
            have HTM' := Lib.hid (HTM.out hq)
            obtain ⟨rt, hrt⟩ : ∃ rt, rt = times σ1 := ⟨_, rfl⟩
            rw [← hrt] at hpc HTM'
            have HPC := Lib.hid hpc
            clear hpc hq HTM hrt
            go_wp2_with fail
            refine HQ.out.mono ?_
            rintro e w4 ⟨rfl, hb4⟩
            have HB4 := Lib.hid (HB3.out.on hb4)
            have HB54 := Lib.hid (HB5.out.on hb4)
            have HR4 := Lib.hid (HR3.out.on hb4)
            have HN4 := Lib.hid (HN3.out.fr (Fr.of_below hb4))
            replace hF := hF.trans (Fr.of_below hb4)
            have b5 := HB54.out.seven
            clear HB3 HB5 HR3 HN3 hb4 HQ
            go_wp2_with fail
            refine (HTM'.out _ HR4.out).mono ?_
            rintro e w5 hP5
            cases rt with
            | none =>
              obtain ⟨rfl, ⟨σx, hRx⟩, hF5⟩ := hP5
              have hpc := HPC.out
              simp only at hpc
              have HB5 := Lib.hid (hF5.blk HR4.out HB4.out (by decide) (by decide))
              have HRx := Lib.hid hRx
              replace hF := hF.trans hF5
              have HPC2 := Lib.hid hpc
              clear hRx hF5 HPC hpc
              go_wp2_with fail
              refine (refuse_bad 23 σ1.pos HRx.out).mono ?_
              rintro e w6 ⟨rfl, hB, hF6⟩
              have hB6 := hF6.blk HRx.out HB5.out (by decide) (by decide)
              have hz := hB6.zero
              have hfz := hB6.frozen
              go_wp2
              exact ret_node rfl rfl rfl rfl (st7_blk hB6) (by
                rw [HPC2.out]
                exact ⟨rfl, hB.st7 (by omega), (hF.trans hF6).st7 (Nat.le_refl _)⟩)
            | some z =>
              obtain ⟨⟨lo, hi⟩, σ2⟩ := z
              obtain ⟨rfl, hR5, hF5⟩ := hP5
              have hpc := HPC.out
              simp only at hpc hR5
              have HB5 := Lib.hid (hF5.blk HR4.out HB4.out (by decide) (by decide))
              have HB55 := Lib.hid (hF5.blk HR4.out HB54.out (by decide) (by decide))
              have HR5 := Lib.hid hR5
              have HN5 := Lib.hid (HN4.out.fr hF5)
              replace hF := hF.trans hF5
              have HPC2 := Lib.hid hpc
              have HMd := Lib.hid (fun W (hW : Rd n₀ rb tb cap s W σ2 d fc fa bv2) => mode_any hW)
              obtain ⟨md, hmd⟩ : ∃ md, md = modeOf σ2.t := ⟨_, rfl⟩
              rw [← hmd] at HMd HPC2
              clear hR5 hF5 HPC hpc hmd b5 HB4 HB54 HR4 HN4 HTM'
              have h52 : w2.heap.size ≠ w.heap.size := by omega
              go_upto_region 13 with (fail)
              refine wp_region_held_drew (S := fun W => Blk W w2.heap.size 27 #[.int .i64 a.kind, .int .i64 a.lo, .int .i64 a.hi, .int .i64 a.mode, .int .i64 a.ref, .slice A1 a.set.length p1, .slice A2 a.kids.length p2]) (by kernel_rfl) HB55.out (fun hHeld => ?_)
              refine take_d 0 56 (.int .i64 lo) _ rfl rfl (by kernel_rfl) (by kernel_rfl) (by kernel_rfl) (fun _ _ _ h => h) (Or.inl ⟨by rfl, fun w' hSw => ?_⟩) hHeld ?_
              · go_simp
              simp only [List.setIfInBounds_toArray, List.set_cons_zero, List.set_cons_succ]
              refine take_d 1 57 (.int .i64 hi) _ rfl rfl (by kernel_rfl) (by kernel_rfl) (by kernel_rfl) (fun _ _ _ h => h) (Or.inl ⟨by rfl, fun w' hSw => ?_⟩) hHeld ?_
              · go_simp
              simp only [List.setIfInBounds_toArray, List.set_cons_zero, List.set_cons_succ]
              refine take_d 2 58 (.pointer (some ⟨rb, 0, none⟩)) _ rfl rfl (by kernel_rfl) (by kernel_rfl) (by kernel_rfl) (fun _ _ _ h => h) (Or.inl ⟨by rfl, fun w' hSw => ?_⟩) hHeld ?_
              · go_simp
              simp only [List.setIfInBounds_toArray, List.set_cons_zero, List.set_cons_succ]
              refine take_d 4 60 (.agg #[.int .i64 a.kind, .int .i64 a.lo, .int .i64 a.hi, .int .i64 a.mode, .int .i64 a.ref, .slice A1 a.set.length p1, .slice A2 a.kids.length p2]) _ rfl rfl (by kernel_rfl) (by kernel_rfl) (by kernel_rfl) (fun _ _ _ h => h) (Or.inl ⟨by rfl, fun w' hSw => ?_⟩) hHeld ?_
              · have hS7 := Blk.seven hSw
                clear hSw
                go_simp
              simp only [List.setIfInBounds_toArray, List.set_cons_zero, List.set_cons_succ]
              refine wpAnyH_ready (rs := [3, 5]) (by kernel_rfl) (by simp) ?_
              refine AllReadyH.cons rfl (fun K hK => ?_) (AllReadyH.cons rfl (fun K hK => ?_) AllReadyH.nil)
              · go_simp
                refine (HMd.out _ HR5.out.drew).mono ?_
                rintro e w6 ⟨rfl, hR6, hF6⟩
                have HB06 := Lib.hid (hF6.blk HR5.out.drew (show Blk w5.drew w.heap.size 27 zeros from HB5.out) (by decide) (by decide))
                have HB56 := Lib.hid (hF6.blk HR5.out.drew (show Blk w5.drew w2.heap.size 27 _ from HB55.out) (by decide) (by decide))
                refine hK.out _ _ HB56.out (fun hHeld => ?_)
                clear hK K
                refine wpAnyH_ready (rs := [5]) (by kernel_rfl) (by simp) ?_
                refine AllReadyH.cons rfl (fun K hK => ?_) AllReadyH.nil
                go_simp
                refine hK.out _ _ (HB56.out.alloc _) (fun hHeld => ?_)
                clear hK K
                have HBf := Lib.hid (HB06.out.alloc (.cells #[.int .i64 a.kind, .int .i64 a.lo, .int .i64 a.hi, .int .i64 a.mode, .int .i64 a.ref, .slice A1 a.set.length p1, .slice A2 a.kids.length p2] 27))
                have HBg := Lib.hid (HB56.out.alloc (.cells #[.int .i64 a.kind, .int .i64 a.lo, .int .i64 a.hi, .int .i64 a.mode, .int .i64 a.ref, .slice A1 a.set.length p1, .slice A2 a.kids.length p2] 27))
                have HBs := Lib.hid (Blk.new w6 27 #[.int .i64 a.kind, .int .i64 a.lo, .int .i64 a.hi, .int .i64 a.mode, .int .i64 a.ref, .slice A1 a.set.length p1, .slice A2 a.kids.length p2])
                have HNf := Lib.hid ((HN5.out.fr (((Fr.refl w5).drewN 1).trans hF6)).fr ((Fr.refl w6).alloc (.cells #[.int .i64 a.kind, .int .i64 a.lo, .int .i64 a.hi, .int .i64 a.mode, .int .i64 a.ref, .slice A1 a.set.length p1, .slice A2 a.kids.length p2] 27)))
                have HRf := Lib.hid (hR6.alloc (.cells #[.int .i64 a.kind, .int .i64 a.lo, .int .i64 a.hi, .int .i64 a.mode, .int .i64 a.ref, .slice A1 a.set.length p1, .slice A2 a.kids.length p2] 27))
                have hFf := ((hF.drewN 1).trans hF6).alloc (.cells #[.int .i64 a.kind, .int .i64 a.lo, .int .i64 a.hi, .int .i64 a.mode, .int .i64 a.ref, .slice A1 a.set.length p1, .slice A2 a.kids.length p2] 27)
                have hsf : w6.heap.size ≠ w.heap.size := by have := HB06.out.lt; omega
                have hsr : w6.heap.size ≠ rb := by have := hR6.blk.lt; omega
                have hs6 : w.heap.size < w6.heap.size := HB06.out.lt
                clear hR6 hF6
                generalize w6.alloc (.cells #[.int .i64 a.kind, .int .i64 a.lo, .int .i64 a.hi, .int .i64 a.mode, .int .i64 a.ref, .slice A1 a.set.length p1, .slice A2 a.kids.length p2] 27) = W7 at HBf HBg HBs HNf HRf hFf hHeld ⊢
                refine take_d 6 62 (.agg #[.int .i64 4, .int .i64 lo, .int .i64 hi, .int .i64 (md : Nat), .int .i64 0, .slice none 0 0, .slice (some ⟨w6.heap.size, 0, none⟩) 1 1]) _ rfl rfl (by kernel_rfl) (by kernel_rfl) (by kernel_rfl) (fun _ _ _ h => h) (Or.inl ⟨by rfl, fun w' hSw => ?_⟩) hHeld ?_
                · go_simp
                simp only [List.setIfInBounds_toArray, List.set_cons_zero, List.set_cons_succ]
                have hz := HBf.out.zero
                have hfz := HBf.out.frozen
                refine wpAnyH_ready (rs := [7]) (by kernel_rfl) (by simp) ?_
                refine AllReadyH.cons rfl (fun K hK => ?_) AllReadyH.nil
                go_simp
                refine hK.out _ _ (HBg.out.st7 h52) (fun hHeld => ?_)
                clear hK K
                refine take_d 8 3 (.bool true) _ rfl rfl (by kernel_rfl) (by kernel_rfl) (by kernel_rfl) (fun _ _ _ h => h) (Or.inl ⟨by rfl, fun w' hSw => ?_⟩) hHeld ?_
                · go_simp
                simp only [List.setIfInBounds_toArray, List.set_cons_zero, List.set_cons_succ]
                refine wpAnyH_done (by kernel_rfl) ?_ _
                clear hHeld hz hfz
                go_wp2
                exact ret_node rfl rfl rfl rfl (st7_blk HBf.out) (by
                  rw [HPC2.out]
                  exact ⟨_, _, bv2, rfl, NodeV.one (SetK.nil _ _) (by simp) (Nat.le_refl _) (KB.new (HBs.out.st7 hsf) hsr (by omega)) ((HNf.out.st7 HBf.out h01).low (by omega)) (NCells.of_blk (HBs.out.st7 hsf)), HRf.out.st7 HBf.out HR.out.size, hFf.st7 (Nat.le_refl _)⟩)
              · go_simp
                refine hK.out _ _ (show Blk (w5.drew.alloc (.cells #[.int .i64 a.kind, .int .i64 a.lo, .int .i64 a.hi, .int .i64 a.mode, .int .i64 a.ref, .slice A1 a.set.length p1, .slice A2 a.kids.length p2] 27)) w2.heap.size 27 _ from Blk.alloc (w := w5.drew) HB55.out _) (fun hHeld => ?_)
                clear hK K
                refine wpAnyH_ready (rs := [3]) (by kernel_rfl) (by simp) ?_
                refine AllReadyH.cons rfl (fun K hK => ?_) AllReadyH.nil
                go_simp
                have hRa : Rd n₀ rb tb cap s (w5.drew.alloc (.cells #[.int .i64 a.kind, .int .i64 a.lo, .int .i64 a.hi, .int .i64 a.mode, .int .i64 a.ref, .slice A1 a.set.length p1, .slice A2 a.kids.length p2] 27)) σ2 d fc fa bv2 := HR5.out.drew.alloc _
                refine (HMd.out _ hRa).mono ?_
                rintro e w6 ⟨rfl, hR6, hF6⟩
                have HBf := Lib.hid (hF6.blk hRa (show Blk (w5.drew.alloc (.cells #[.int .i64 a.kind, .int .i64 a.lo, .int .i64 a.hi, .int .i64 a.mode, .int .i64 a.ref, .slice A1 a.set.length p1, .slice A2 a.kids.length p2] 27)) w.heap.size 27 zeros from Blk.alloc (w := w5.drew) HB5.out _) (by decide) (by decide))
                have HBg := Lib.hid (hF6.blk hRa (show Blk (w5.drew.alloc (.cells #[.int .i64 a.kind, .int .i64 a.lo, .int .i64 a.hi, .int .i64 a.mode, .int .i64 a.ref, .slice A1 a.set.length p1, .slice A2 a.kids.length p2] 27)) w2.heap.size 27 _ from Blk.alloc (w := w5.drew) HB55.out _) (by decide) (by decide))
                have HBs := Lib.hid (hF6.blk hRa (Blk.new_at w5.drew w5.heap.size rfl 27 #[.int .i64 a.kind, .int .i64 a.lo, .int .i64 a.hi, .int .i64 a.mode, .int .i64 a.ref, .slice A1 a.set.length p1, .slice A2 a.kids.length p2]) (by decide) (by decide))
                have HNf := Lib.hid ((HN5.out.fr ((Fr.refl w5).drewN 1)).fr (((Fr.refl w5.drew).alloc (.cells #[.int .i64 a.kind, .int .i64 a.lo, .int .i64 a.hi, .int .i64 a.mode, .int .i64 a.ref, .slice A1 a.set.length p1, .slice A2 a.kids.length p2] 27)).trans hF6))
                have HRf := Lib.hid hR6
                have hFf := ((hF.drewN 1).alloc (.cells #[.int .i64 a.kind, .int .i64 a.lo, .int .i64 a.hi, .int .i64 a.mode, .int .i64 a.ref, .slice A1 a.set.length p1, .slice A2 a.kids.length p2] 27)).trans hF6
                have hsf : w5.heap.size ≠ w.heap.size := by have := HB5.out.lt; omega
                have hsr : w5.heap.size ≠ rb := by have := HR5.out.blk.lt; omega
                have hs6 : w.heap.size < w5.heap.size := HB5.out.lt
                refine hK.out _ _ HBg.out (fun hHeld => ?_)
                clear hK K hR6 hF6 hRa
                refine take_d 6 62 (.agg #[.int .i64 4, .int .i64 lo, .int .i64 hi, .int .i64 (md : Nat), .int .i64 0, .slice none 0 0, .slice (some ⟨w5.heap.size, 0, none⟩) 1 1]) _ rfl rfl (by kernel_rfl) (by kernel_rfl) (by kernel_rfl) (fun _ _ _ h => h) (Or.inl ⟨by rfl, fun w' hSw => ?_⟩) hHeld ?_
                · go_simp
                simp only [List.setIfInBounds_toArray, List.set_cons_zero, List.set_cons_succ]
                have hz := HBf.out.zero
                have hfz := HBf.out.frozen
                refine wpAnyH_ready (rs := [7]) (by kernel_rfl) (by simp) ?_
                refine AllReadyH.cons rfl (fun K hK => ?_) AllReadyH.nil
                go_simp
                refine hK.out _ _ (HBg.out.st7 h52) (fun hHeld => ?_)
                clear hK K
                refine take_d 8 3 (.bool true) _ rfl rfl (by kernel_rfl) (by kernel_rfl) (by kernel_rfl) (fun _ _ _ h => h) (Or.inl ⟨by rfl, fun w' hSw => ?_⟩) hHeld ?_
                · go_simp
                simp only [List.setIfInBounds_toArray, List.set_cons_zero, List.set_cons_succ]
                refine wpAnyH_done (by kernel_rfl) ?_ _
                clear hHeld hz hfz
                go_wp2
                exact ret_node rfl rfl rfl rfl (st7_blk HBf.out) (by
                  rw [HPC2.out]
                  exact ⟨_, _, bv2, rfl, NodeV.one (SetK.nil _ _) (by simp) (Nat.le_refl _) (KB.new (HBs.out.st7 hsf) hsr (by omega)) ((HNf.out.st7 HBf.out h01).low (by omega)) (NCells.of_blk (HBs.out.st7 hsf)), HRf.out.st7 HBf.out HR.out.size, hFf.st7 (Nat.le_refl _)⟩)

end Go.Proofs.YthipgidddgdojaaDoor
