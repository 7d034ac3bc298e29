/- A step of the document's tape, as a contract. -/
import Derived.Test.YtjnhjpjebklalaaTpK2
namespace Go.Proofs.Ytjnhjpjebklalaa
open Go.RowKit
variable {w w' : World} {S : Nat → Prop} {h : Nat} {W : Tw} {vs vl : Value}

set_option maxRecDepth 100000 in
set_option maxHeartbeats 16000000 in
theorem step_any {n₀ : Nat} (o : Op12) (u : Value) (hl : o.d.length ≤ 300) (hn : -9223372036854775808 ≤ o.n ∧ o.n ≤ 9223372036854775807) (hu : ∀ w', Fr (Ft h vs vl) w w' → Bytes n₀ w' u o.d) (hV : TwV w h vs vl W) :
    Calls Try.prog 10 #[.pointer (some ⟨h, 0, none⟩), .agg #[.int .i64 o.k, .int .i64 o.n, u]] w fun e w' => e = .returned (.int .i64 (W.stepE o : Int)) ∧ DidW h vs vl (W.step o) w w' := by
  obtain ⟨k, n, d⟩ := o
  simp only at hl hn hu ⊢
  obtain ⟨Au, cu, rfl, _, _⟩ := hu w (Fr.refl w)
  obtain ⟨As, cs, rfl⟩ := hV.os.one
  obtain ⟨Al, cl, rfl⟩ := hV.ol.one
  obtain ⟨ls, hls⟩ : ∃ ls, ls = W.safe.length := ⟨_, rfl⟩
  obtain ⟨ll, hll⟩ : ∃ ll, ll = W.loose.length := ⟨_, rfl⟩
  obtain ⟨m, hm⟩ : ∃ m, m = d.length := ⟨_, rfl⟩
  rw [← hm] at hl hu ⊢
  rw [← hls, ← hll] at hV hu ⊢
  have k1 := hV.ok.fits
  have k2 := hV.ok.room
  rw [← hls, ← hll] at k1
  have NS := Lib.hid hls
  have NL := Lib.hid hll
  have NM := Lib.hid hm
  have OK := Lib.hid hV.ok
  have HN := Lib.hid hn
  obtain ⟨xb, hxb⟩ : ∃ xb, xb = w.heap.size := ⟨_, rfl⟩
  have B1 := Lib.hid ((Below.refl w.heap.size w).alloc (Nat.le_refl _) (.cells #[.int .i64 k, .int .i64 n, .slice Au m cu] 31))
  have K1 := Lib.hid (hV.on B1.out)
  have U1 : Hid (∀ w', Fr (Ft h (.slice As ls cs) (.slice Al ll cl)) (w.alloc (.cells #[.int .i64 k, .int .i64 n, .slice Au m cu] 31)) w' → Bytes n₀ w' (.slice Au m cu) d) := Lib.hid fun w' hf => hu w' ((Fr.of_below B1.out).next hf)
  have X1 : Hid (Blk (w.alloc (.cells #[.int .i64 k, .int .i64 n, .slice Au m cu] 31)) xb 31 #[.int .i64 k, .int .i64 n, .slice Au m cu]) := Lib.hid (by rw [hxb]; exact Blk.new w 31 _)
  have NX : Hid (∀ i, Ft h (.slice As ls cs) (.slice Al ll cl) i → i < xb) := Lib.hid fun i hi => by rw [hxb]; exact (hV.old i hi).2
  have HX := Lib.hid hxb
  have UW := Lib.hid hu
  clear hV hu hls hll hm hxb hn
  go_enter Try.func10, Try.ntmps10
  go_upto_region 1 with (fail)
  rw [← HX.out]
  generalize w.alloc _ = w1 at *
  go_wp2_with fail
  refine wp_region_held_drew (S := fun w' => Below w1.heap.size w1 w') (by kernel_rfl) (Below.drewN' (Below.refl _ w1) 1) (fun hHeld => ?_)
  refine take_d 1 11 (.pointer (some ⟨h, 0, none⟩)) _ rfl rfl (by kernel_rfl) (by kernel_rfl) (by kernel_rfl) (fun _ _ _ h => h) (Or.inl ⟨by rfl, fun w' hSw => ?_⟩) hHeld ?_
  · go_simp
  simp only [List.setIfInBounds_toArray, List.set_cons_zero, List.set_cons_succ]
  refine take_d 2 12 (.pointer (some ⟨h, 0, none⟩)) _ rfl rfl (by kernel_rfl) (by kernel_rfl) (by kernel_rfl) (fun _ _ _ h => h) (Or.inl ⟨by rfl, fun w' hSw => ?_⟩) hHeld ?_
  · go_simp
  simp only [List.setIfInBounds_toArray, List.set_cons_zero, List.set_cons_succ]
  refine take_d 3 13 (.pointer (some ⟨h, 0, none⟩)) _ rfl rfl (by kernel_rfl) (by kernel_rfl) (by kernel_rfl) (fun _ _ _ h => h) (Or.inl ⟨by rfl, fun w' hSw => ?_⟩) hHeld ?_
  · go_simp
  simp only [List.setIfInBounds_toArray, List.set_cons_zero, List.set_cons_succ]
  refine take_d 4 14 (.slice As ls cs) _ rfl rfl (by kernel_rfl) (by kernel_rfl) (by kernel_rfl) (fun _ _ _ h => h) (Or.inl ⟨by rfl, fun w' hSw => ?_⟩) hHeld ?_
  · have q := Blk.cell (K1.out.blk.on hSw) 0
    go_simp
  simp only [List.setIfInBounds_toArray, List.set_cons_zero, List.set_cons_succ]
  refine take_d 6 16 (.pointer (some ⟨h, 0, none⟩)) _ rfl rfl (by kernel_rfl) (by kernel_rfl) (by kernel_rfl) (fun _ _ _ h => h) (Or.inl ⟨by rfl, fun w' hSw => ?_⟩) hHeld ?_
  · go_simp
  simp only [List.setIfInBounds_toArray, List.set_cons_zero, List.set_cons_succ]
  refine take_d 7 17 (.pointer (some ⟨h, 0, none⟩)) _ rfl rfl (by kernel_rfl) (by kernel_rfl) (by kernel_rfl) (fun _ _ _ h => h) (Or.inl ⟨by rfl, fun w' hSw => ?_⟩) hHeld ?_
  · go_simp
  simp only [List.setIfInBounds_toArray, List.set_cons_zero, List.set_cons_succ]
  refine take_d 8 18 (.pointer (some ⟨h, 1, none⟩)) _ rfl rfl (by kernel_rfl) (by kernel_rfl) (by kernel_rfl) (fun _ _ _ h => h) (Or.inl ⟨by rfl, fun w' hSw => ?_⟩) hHeld ?_
  · go_simp
  simp only [List.setIfInBounds_toArray, List.set_cons_zero, List.set_cons_succ]
  refine take_d 9 19 (.slice Al ll cl) _ rfl rfl (by kernel_rfl) (by kernel_rfl) (by kernel_rfl) (fun _ _ _ h => h) (Or.inl ⟨by rfl, fun w' hSw => ?_⟩) hHeld ?_
  · have q := Blk.cell (K1.out.blk.on hSw) 1
    go_simp
  simp only [List.setIfInBounds_toArray, List.set_cons_zero, List.set_cons_succ]
  refine wpAnyH_ready (rs := [0]) (by kernel_rfl) (by simp) ?_
  refine AllReadyH.cons rfl (fun K hK => ?_) AllReadyH.nil
  go_simp
  have Oa : Hid (Own (w1.drew.alloc (.cells #[] 5)) w1.heap.size (.slice (some ⟨w1.heap.size, 0, none⟩) 0 0) []) := Lib.hid (own_lit2 w1.drew w1.heap.size (Nat.le_refl _))
  have Sa := hHeld.alloc hHeld.size (.cells #[] 5)
  refine hK.out _ _ Sa (fun hHeld => ?_)
  clear hK K Sa
  refine wpAnyH_ready (rs := [5]) (by kernel_rfl) (by simp) ?_
  refine AllReadyH.cons rfl (fun K hK => ?_) AllReadyH.nil
  have hBs := Bytes.below K1.out.os.bytes hHeld
  have hsz : w1.heap.size ≤ (w1.drew.alloc (.cells #[] 5)).heap.size := hHeld.size
  refine step_appX _ rfl 15 rfl (.tmp 10) (.tmp 14) rfl _ [] (by simp [Act.eval]) Oa.out w1.heap.size _ W.safe (by simp [Act.eval]) hBs (by rw [List.length_nil, ← NS.out]; omega) hsz ?_
  intro vp wp op gp np
  rw [List.nil_append] at op
  have Op := Lib.hid op
  have Sp := below_append hHeld Oa.out (Nat.le_refl _) gp hsz
  simp only [List.setIfInBounds_toArray, List.set_cons_zero, List.set_cons_succ]
  refine hK.out _ _ Sp (fun hHeld => ?_)
  clear hK K op gp np Sp hBs hsz
  refine wpAnyH_ready (rs := [10]) (by kernel_rfl) (by simp) ?_
  refine AllReadyH.cons rfl (fun K hK => ?_) AllReadyH.nil
  have hBs := Bytes.below K1.out.ol.bytes hHeld
  refine step_appX _ rfl 20 rfl (.tmp 15) (.tmp 19) rfl vp W.safe (by simp [Act.eval]) Op.out w1.heap.size _ W.loose (by simp [Act.eval]) hBs (by rw [← NS.out, ← NL.out]; omega) hHeld.size ?_
  intro vq wq oq gq nq
  have Oq := Lib.hid oq
  have Sq := below_append hHeld Op.out (Nat.le_refl _) gq hHeld.size
  simp only [List.setIfInBounds_toArray, List.set_cons_zero, List.set_cons_succ]
  refine hK.out _ _ Sq (fun hHeld => ?_)
  clear hK K oq gq nq Sq hBs
  refine take_d 11 5 (vq) _ rfl rfl (by kernel_rfl) (by kernel_rfl) (by kernel_rfl) (fun _ _ _ h => h) (Or.inl ⟨by rfl, fun w' hSw => ?_⟩) hHeld ?_
  · go_simp
  simp only [List.setIfInBounds_toArray, List.set_cons_zero, List.set_cons_succ]
  refine wpAnyH_done (by kernel_rfl) ?_ _
  have B2 := Lib.hid (B1.out.trans (hHeld.mono B1.out.size))
  have K2 := Lib.hid (K1.out.on hHeld)
  have X2 := Lib.hid (X1.out.on hHeld)
  have U2 : Hid (∀ w', Fr (Ft h (.slice As ls cs) (.slice Al ll cl)) wq w' → Bytes n₀ w' (.slice Au m cu) d) := Lib.hid fun w' hf => U1.out w' ((Fr.of_below hHeld).next hf)
  obtain ⟨Aq, cq, rfl⟩ := Oq.out.one
  obtain ⟨lq, hlq⟩ : ∃ lq, lq = (W.safe ++ W.loose).length := ⟨_, rfl⟩
  have jq : (lq : Int) = (ls : Int) + (ll : Int) := by rw [hlq, List.length_append, ← NS.out, ← NL.out]; omega
  rw [← hlq] at Oq ⊢
  have NQ := Lib.hid hlq
  have LQ : Hid (∀ i, (Value.slice Aq lq cq).ownBlock = some i → xb ≤ i ∧ ¬ Ft h (.slice As ls cs) (.slice Al ll cl) i ∧ i ≠ xb) := Lib.hid fun i hi => by
    have h1 := (Oq.out.lt i hi).1
    have h2 := X1.out.lt
    exact ⟨by omega, fun e => by have := NX.out i e; omega, by omega⟩
  have Q2 : Hid (Own wq xb (.slice Aq lq cq) (W.safe ++ W.loose)) := Lib.hid (Oq.out.mono (by have := X1.out.lt; omega))
  have F2 : Hid (Fr (Ft h (.slice As ls cs) (.slice Al ll cl)) w wq) := Lib.hid (Fr.of_below B2.out)
  have x0 := X2.out.cell 0
  have x1 := X2.out.cell 1
  have x2 := X2.out.cell 2
  clear hHeld K1 X1 U1 Oq Op Oa B1 hlq jq
  have LQE : Hid ((lq : Int) = (ls : Int) + (ll : Int)) := Lib.hid (by rw [NQ.out, List.length_append, ← NS.out, ← NL.out]; omega)
  have lqb : (lq : Int) ≤ W.room := by rw [NQ.out, List.length_append, ← NS.out, ← NL.out]; omega
  by_cases h4 : k = 4
  · subst h4
    have NW := Lib.hid (tw4 W n d)
    have K3 : Hid (TwB wq.drew h (.slice As ls cs) (.slice Al ll cl) W) := Lib.hid (K2.out.toTwB.on (Below.drewN' (Below.refl _ wq) 1))
    have X3 : Hid (Blk wq.drew xb 31 #[.int .i64 4, .int .i64 n, .slice Au m cu]) := Lib.hid (X2.out.on (Below.drewN' (Below.refl _ wq) 1))
    have hxh : xb ≠ h := fun e => by have := NX.out h (.inl rfl); omega
    by_cases n0 : 0 ≤ n
    · go_wp2_with fail
      refine wp_region_held_drew (S := fun w' => Blk w' xb 31 #[.int .i64 4, .int .i64 n, .slice Au m cu]) (by kernel_rfl) X3.out (fun hHeld => ?_)
      refine take_d 0 25 (.pointer (some ⟨h, 0, none⟩)) _ rfl rfl (by kernel_rfl) (by kernel_rfl) (by kernel_rfl) (fun _ _ _ h => h) (Or.inl ⟨by rfl, fun w' hSw => ?_⟩) hHeld ?_
      · go_simp
      simp only [List.setIfInBounds_toArray, List.set_cons_zero, List.set_cons_succ]
      refine take_d 1 26 (.pointer (some ⟨h, 0, none⟩)) _ rfl rfl (by kernel_rfl) (by kernel_rfl) (by kernel_rfl) (fun _ _ _ h => h) (Or.inl ⟨by rfl, fun w' hSw => ?_⟩) hHeld ?_
      · go_simp
      simp only [List.setIfInBounds_toArray, List.set_cons_zero, List.set_cons_succ]
      refine take_d 2 27 (.pointer (some ⟨xb, 1, none⟩)) _ rfl rfl (by kernel_rfl) (by kernel_rfl) (by kernel_rfl) (fun _ _ _ h => h) (Or.inl ⟨by rfl, fun w' hSw => ?_⟩) hHeld ?_
      · go_simp
      simp only [List.setIfInBounds_toArray, List.set_cons_zero, List.set_cons_succ]
      refine take_d 3 28 (.int .i64 n) _ rfl rfl (by kernel_rfl) (by kernel_rfl) (by kernel_rfl) (fun _ _ _ h => h) (Or.inl ⟨by rfl, fun w' hSw => ?_⟩) hHeld ?_
      · have q := Blk.cell hSw 1
        go_simp
      simp only [List.setIfInBounds_toArray, List.set_cons_zero, List.set_cons_succ]
      refine take_d 4 29 (.bool true) _ rfl rfl (by kernel_rfl) (by kernel_rfl) (by kernel_rfl) (fun _ _ _ h => h) (Or.inl ⟨by rfl, fun w' hSw => ?_⟩) hHeld ?_
      · go_simp
      simp only [List.setIfInBounds_toArray, List.set_cons_zero, List.set_cons_succ]
      refine take_d 5 30 (.pointer (some ⟨xb, 1, none⟩)) _ rfl rfl (by kernel_rfl) (by kernel_rfl) (by kernel_rfl) (fun _ _ _ h => h) (Or.inl ⟨by rfl, fun w' hSw => ?_⟩) hHeld ?_
      · go_simp
      simp only [List.setIfInBounds_toArray, List.set_cons_zero, List.set_cons_succ]
      refine take_d 6 31 (.int .i64 n) _ rfl rfl (by kernel_rfl) (by kernel_rfl) (by kernel_rfl) (fun _ _ _ h => h) (Or.inl ⟨by rfl, fun w' hSw => ?_⟩) hHeld ?_
      · have q := Blk.cell hSw 1
        go_simp
      simp only [List.setIfInBounds_toArray, List.set_cons_zero, List.set_cons_succ]
      refine take_d 7 32 (.pointer (some ⟨h, 0, none⟩)) _ rfl rfl (by kernel_rfl) (by kernel_rfl) (by kernel_rfl) (fun _ _ _ h => h) (Or.inl ⟨by rfl, fun w' hSw => ?_⟩) hHeld ?_
      · go_simp
      simp only [List.setIfInBounds_toArray, List.set_cons_zero, List.set_cons_succ]
      refine take_d 8 33 (.pointer (some ⟨h, 4, none⟩)) _ rfl rfl (by kernel_rfl) (by kernel_rfl) (by kernel_rfl) (fun _ _ _ h => h) (Or.inl ⟨by rfl, fun w' hSw => ?_⟩) hHeld ?_
      · go_simp
      simp only [List.setIfInBounds_toArray, List.set_cons_zero, List.set_cons_succ]
      refine wpAnyH_ready (rs := [9]) (by kernel_rfl) (by simp) ?_
      refine AllReadyH.cons rfl (fun K hK => ?_) AllReadyH.nil
      have q := K3.out.blk.cell 4
      have fr := K3.out.blk.frozen 4
      have ly := K3.out.blk.lt
      go_simp
      have K4 := Lib.hid (K3.out.put 4 (.bool true) { W with armed := true } rfl rfl rfl)
      have S4 := Blk.far hHeld (p := ⟨h, 4, none⟩) hxh (.bool true)
      refine hK.out _ _ S4 (fun hHeld => ?_)
      clear hK K q fr ly S4
      refine take_d 10 34 (.pointer (some ⟨h, 0, none⟩)) _ rfl rfl (by kernel_rfl) (by kernel_rfl) (by kernel_rfl) (fun _ _ _ h => h) (Or.inl ⟨by rfl, fun w' hSw => ?_⟩) hHeld ?_
      · go_simp
      simp only [List.setIfInBounds_toArray, List.set_cons_zero, List.set_cons_succ]
      refine take_d 11 35 (.pointer (some ⟨h, 3, none⟩)) _ rfl rfl (by kernel_rfl) (by kernel_rfl) (by kernel_rfl) (fun _ _ _ h => h) (Or.inl ⟨by rfl, fun w' hSw => ?_⟩) hHeld ?_
      · go_simp
      simp only [List.setIfInBounds_toArray, List.set_cons_zero, List.set_cons_succ]
      refine wpAnyH_ready (rs := [12]) (by kernel_rfl) (by simp) ?_
      refine AllReadyH.cons rfl (fun K hK => ?_) AllReadyH.nil
      have q := K2.out.blk.cell 3
      have fr := K2.out.blk.frozen 3
      have ly := K2.out.blk.lt
      go_simp
      have K5 := Lib.hid (K4.out.put 3 (.int .i64 n) { W with armed := true, left := n } rfl rfl rfl)
      have S4 := Blk.far hHeld (p := ⟨h, 3, none⟩) hxh (.int .i64 n)
      refine hK.out _ _ S4 (fun hHeld => ?_)
      clear hK K q fr ly S4
      refine wpAnyH_done (by kernel_rfl) ?_ _
      go_wp2
      go_ret
      refine ⟨ret_int (by rw [NW.out.1]; rfl), ?_⟩
      rw [NW.out.2, decide_eq_true n0]
      exact DidW.same ⟨K5.out, ⟨OK.out.fits, OK.out.room, HN.out, fun e => n0⟩⟩ (((F2.out.drew).set_ (q := ⟨h, 4, none⟩) (.inl (.inl rfl)) _).set_ (q := ⟨h, 3, none⟩) (.inl (.inl rfl)) _)
    · go_wp2_with fail
      refine wp_region_held_drew (S := fun w' => Blk w' xb 31 #[.int .i64 4, .int .i64 n, .slice Au m cu]) (by kernel_rfl) X3.out (fun hHeld => ?_)
      refine take_d 0 25 (.pointer (some ⟨h, 0, none⟩)) _ rfl rfl (by kernel_rfl) (by kernel_rfl) (by kernel_rfl) (fun _ _ _ h => h) (Or.inl ⟨by rfl, fun w' hSw => ?_⟩) hHeld ?_
      · go_simp
      simp only [List.setIfInBounds_toArray, List.set_cons_zero, List.set_cons_succ]
      refine take_d 1 26 (.pointer (some ⟨h, 0, none⟩)) _ rfl rfl (by kernel_rfl) (by kernel_rfl) (by kernel_rfl) (fun _ _ _ h => h) (Or.inl ⟨by rfl, fun w' hSw => ?_⟩) hHeld ?_
      · go_simp
      simp only [List.setIfInBounds_toArray, List.set_cons_zero, List.set_cons_succ]
      refine take_d 2 27 (.pointer (some ⟨xb, 1, none⟩)) _ rfl rfl (by kernel_rfl) (by kernel_rfl) (by kernel_rfl) (fun _ _ _ h => h) (Or.inl ⟨by rfl, fun w' hSw => ?_⟩) hHeld ?_
      · go_simp
      simp only [List.setIfInBounds_toArray, List.set_cons_zero, List.set_cons_succ]
      refine take_d 3 28 (.int .i64 n) _ rfl rfl (by kernel_rfl) (by kernel_rfl) (by kernel_rfl) (fun _ _ _ h => h) (Or.inl ⟨by rfl, fun w' hSw => ?_⟩) hHeld ?_
      · have q := Blk.cell hSw 1
        go_simp
      simp only [List.setIfInBounds_toArray, List.set_cons_zero, List.set_cons_succ]
      refine take_d 4 29 (.bool false) _ rfl rfl (by kernel_rfl) (by kernel_rfl) (by kernel_rfl) (fun _ _ _ h => h) (Or.inl ⟨by rfl, fun w' hSw => ?_⟩) hHeld ?_
      · go_simp
      simp only [List.setIfInBounds_toArray, List.set_cons_zero, List.set_cons_succ]
      refine take_d 5 30 (.pointer (some ⟨xb, 1, none⟩)) _ rfl rfl (by kernel_rfl) (by kernel_rfl) (by kernel_rfl) (fun _ _ _ h => h) (Or.inl ⟨by rfl, fun w' hSw => ?_⟩) hHeld ?_
      · go_simp
      simp only [List.setIfInBounds_toArray, List.set_cons_zero, List.set_cons_succ]
      refine take_d 6 31 (.int .i64 n) _ rfl rfl (by kernel_rfl) (by kernel_rfl) (by kernel_rfl) (fun _ _ _ h => h) (Or.inl ⟨by rfl, fun w' hSw => ?_⟩) hHeld ?_
      · have q := Blk.cell hSw 1
        go_simp
      simp only [List.setIfInBounds_toArray, List.set_cons_zero, List.set_cons_succ]
      refine take_d 7 32 (.pointer (some ⟨h, 0, none⟩)) _ rfl rfl (by kernel_rfl) (by kernel_rfl) (by kernel_rfl) (fun _ _ _ h => h) (Or.inl ⟨by rfl, fun w' hSw => ?_⟩) hHeld ?_
      · go_simp
      simp only [List.setIfInBounds_toArray, List.set_cons_zero, List.set_cons_succ]
      refine take_d 8 33 (.pointer (some ⟨h, 4, none⟩)) _ rfl rfl (by kernel_rfl) (by kernel_rfl) (by kernel_rfl) (fun _ _ _ h => h) (Or.inl ⟨by rfl, fun w' hSw => ?_⟩) hHeld ?_
      · go_simp
      simp only [List.setIfInBounds_toArray, List.set_cons_zero, List.set_cons_succ]
      refine wpAnyH_ready (rs := [9]) (by kernel_rfl) (by simp) ?_
      refine AllReadyH.cons rfl (fun K hK => ?_) AllReadyH.nil
      have q := K3.out.blk.cell 4
      have fr := K3.out.blk.frozen 4
      have ly := K3.out.blk.lt
      go_simp
      have K4 := Lib.hid (K3.out.put 4 (.bool false) { W with armed := false } rfl rfl rfl)
      have S4 := Blk.far hHeld (p := ⟨h, 4, none⟩) hxh (.bool false)
      refine hK.out _ _ S4 (fun hHeld => ?_)
      clear hK K q fr ly S4
      refine take_d 10 34 (.pointer (some ⟨h, 0, none⟩)) _ rfl rfl (by kernel_rfl) (by kernel_rfl) (by kernel_rfl) (fun _ _ _ h => h) (Or.inl ⟨by rfl, fun w' hSw => ?_⟩) hHeld ?_
      · go_simp
      simp only [List.setIfInBounds_toArray, List.set_cons_zero, List.set_cons_succ]
      refine take_d 11 35 (.pointer (some ⟨h, 3, none⟩)) _ rfl rfl (by kernel_rfl) (by kernel_rfl) (by kernel_rfl) (fun _ _ _ h => h) (Or.inl ⟨by rfl, fun w' hSw => ?_⟩) hHeld ?_
      · go_simp
      simp only [List.setIfInBounds_toArray, List.set_cons_zero, List.set_cons_succ]
      refine wpAnyH_ready (rs := [12]) (by kernel_rfl) (by simp) ?_
      refine AllReadyH.cons rfl (fun K hK => ?_) AllReadyH.nil
      have q := K2.out.blk.cell 3
      have fr := K2.out.blk.frozen 3
      have ly := K2.out.blk.lt
      go_simp
      have K5 := Lib.hid (K4.out.put 3 (.int .i64 n) { W with armed := false, left := n } rfl rfl rfl)
      have S4 := Blk.far hHeld (p := ⟨h, 3, none⟩) hxh (.int .i64 n)
      refine hK.out _ _ S4 (fun hHeld => ?_)
      clear hK K q fr ly S4
      refine wpAnyH_done (by kernel_rfl) ?_ _
      go_wp2
      go_ret
      refine ⟨ret_int (by rw [NW.out.1]; rfl), ?_⟩
      rw [NW.out.2, decide_eq_false (by omega)]
      exact DidW.same ⟨K5.out, ⟨OK.out.fits, OK.out.room, HN.out, fun e => by cases e⟩⟩ (((F2.out.drew).set_ (q := ⟨h, 4, none⟩) (.inl (.inl rfl)) _).set_ (q := ⟨h, 3, none⟩) (.inl (.inl rfl)) _)
  by_cases h5 : k = 5
  · subst h5
    have NW := Lib.hid (tw5 W n d)
    by_cases n0 : 0 < n
    · obtain ⟨r, hr⟩ : ∃ r, r = W.stays n := ⟨_, rfl⟩
      have hr' : r = min n.toNat ll := by rw [hr, NL.out]; unfold Tw.stays; rw [if_pos n0]
      have hrl : r ≤ ll := by omega
      have m2 : min n (ll : Int) = (r : Int) := by omega
      have c1 := K2.out.blk.cell 1
      rw [← hr] at NW
      clear hr hr'
      go_wp2_with fail
      go_quiet (fail)
      have BM : Below wq.heap.size wq (wq.drewN nq) := Below.drewN' (Below.refl _ _) _
      have K3 := Lib.hid (K2.out.on BM)
      have X3 := Lib.hid (X2.out.on BM)
      have Q3 := Lib.hid (Q2.out.below BM)
      have F3 := Lib.hid (F2.out.below BM)
      have U3 : Hid (∀ w', Fr (Ft h (.slice As ls cs) (.slice Al ll cl)) (wq.drewN nq) w' → Bytes n₀ w' (.slice Au m cu) d) := Lib.hid fun w' hf => U2.out w' ((Fr.of_below BM).next hf)
      clear BM K2 X2 Q2 F2 U2
      generalize wq.drewN nq = w3 at *
      clear c1 x0 x1 x2
      go_wp2
      go_loopw [52] (fun i wr => ∃ (k : Nat) (A9 : Option Addr) (l9 c9 : Nat), k ≤ r ∧ i = .int .i64 k ∧ Hid (l9 = (W.safe ++ xo (W.loose.take k) d).length) ∧ Hid (TwB wr h (.slice A9 l9 c9) (.slice Al ll cl) { W with safe := W.safe ++ xo (W.loose.take k) d }) ∧ Hid (∀ i, (Value.slice A9 l9 c9).ownBlock = some i → (Ft h (.slice As ls cs) (.slice Al ll cl)) i ∨ w.heap.size ≤ i) ∧ Hid (Fr (Ft h (.slice As ls cs) (.slice Al ll cl)) w wr) ∧ Hid (Blk wr xb 31 #[.int .i64 5, .int .i64 n, .slice Au m cu])) (fun i _ => r - (intOf i).toNat)
      case atStart => exact ⟨0, As, ls, cs, Nat.zero_le _, rfl, Lib.hid (by rw [NS.out]; simp [xo]), Lib.hid (by have := K3.out.toTwB; simpa [xo] using this), Lib.hid (fun i hi => .inl (.inr (.inl hi))), F3, X3⟩
      case round =>
        obtain ⟨k, A9, l9, c9, hk9, rfl, HL9, HK, HT, HF, HX9⟩ := hrel
        by_cases hkr : k < r
        · have y2 := HX9.out.cell 2
          have hkl : k < W.loose.length := by rw [← NL.out]; omega
          have hll9 : l9 ≤ 2000000 := by
            rw [HL9.out, List.length_append, xo_len, List.length_take, ← NS.out, ← NL.out]
            have := Nat.min_le_right k ll
            omega
          obtain ⟨gl, hgl⟩ : ∃ gl, Al = some ⟨gl, 0, none⟩ := by
            rcases HK.out.ol.form with ⟨hv, hl0⟩ | ⟨gl, cc, hv, _⟩
            · rw [hl0] at hkl; simp at hkl
            · injection hv with h1; exact ⟨gl, h1⟩
          subst hgl
          have cz : wr.cell? ⟨gl, k, none⟩ = some (.int .u8 ((at_ W.loose k : Nat) : Int)) := HK.out.ol.at_ NL.out.symm (by omega)
          have hglw : gl < wr.heap.size := (HK.out.ol.lt gl rfl).2
          obtain ⟨z, hz⟩ : ∃ z : UInt8, z = W.loose[k] ^^^ d.getD k 0 := ⟨_, rfl⟩
          have hs9 : (W.safe ++ xo (W.loose.take k) d) ++ [z] = W.safe ++ xo (W.loose.take (k + 1)) d := by rw [xo_take_succ W.loose d k hkl, hz, List.append_assoc]
          have HS9 := Lib.hid hs9
          have nGl : gl ≠ h := fun e => HK.out.neL (by rw [← e]; rfl)
          have zb := at_lt W.loose k
          by_cases hkm : k < m
          · have hkd : k < d.length := by rw [← NM.out]; exact hkm
            have hcd : ∃ bd od, Au = some ⟨bd, od, none⟩ ∧ wr.cell? ⟨bd, od + k, none⟩ = some (.int .u8 ((at_ d k : Nat) : Int)) := by
              obtain ⟨A', c', hv, _, hcc⟩ := UW.out wr HF.out
              injection hv with h1 h2 h3
              obtain ⟨bd, od, h4, h5, h6⟩ := hcc (by rintro rfl; simp at hkd)
              exact ⟨bd, od, by rw [h1, h4], h6 k hkd⟩
            obtain ⟨bd, od, rfl, cd⟩ := hcd
            have hx5 : bits .xor .u8 ((at_ W.loose k : Nat) : Int) ((at_ d k : Nat) : Int) = ((z.toNat : Nat) : Int) := by
              rw [at_get _ _ hkl, at_get _ _ hkd, hz, show d.getD k 0 = d[k] by simp [hkd]]
              exact xor_uu _ _
            have zd := at_lt d k
            generalize at_ W.loose k = z1 at *
            generalize at_ d k = z2 at *
            clear hs9 hz hkl hkd
            go_wp2_with fail
            have K3_ : Hid (TwB wr.drew h (.slice A9 l9 c9) (.slice (some ⟨gl, 0, none⟩) ll cl) { W with safe := W.safe ++ xo (W.loose.take k) d }) := Lib.hid (HK.out.on (Below.drewN' (Below.refl _ wr) 1))
            have X3_ : Hid (Blk wr.drew xb 31 #[.int .i64 5, .int .i64 n, .slice (some ⟨bd, od, none⟩) m cu]) := Lib.hid (HX9.out.on (Below.drewN' (Below.refl _ wr) 1))
            have F3_ : Hid (Fr (Ft h (.slice As ls cs) (.slice (some ⟨gl, 0, none⟩) ll cl)) w wr.drew) := Lib.hid HF.out.drew
            have c1_ := HK.out.blk.cell 1
            refine wp_region_held_drew (S := fun w' => w'.cell? ⟨h, 1, none⟩ = some (.slice (some ⟨gl, 0, none⟩) ll cl) ∧ w'.cell? ⟨gl, k, none⟩ = some (.int .u8 ((z1 : Nat) : Int))) (by kernel_rfl) ⟨c1_, cz⟩ (fun hHeld => ?_)
            refine take_d 0 65 (.pointer (some ⟨h, 0, none⟩)) _ rfl rfl (by kernel_rfl) (by kernel_rfl) (by kernel_rfl) (fun _ _ _ h => h) (Or.inl ⟨by rfl, fun w' hSw => ?_⟩) hHeld ?_
            · go_simp
            simp only [List.setIfInBounds_toArray, List.set_cons_zero, List.set_cons_succ]
            refine take_d 1 66 (.pointer (some ⟨h, 0, none⟩)) _ rfl rfl (by kernel_rfl) (by kernel_rfl) (by kernel_rfl) (fun _ _ _ h => h) (Or.inl ⟨by rfl, fun w' hSw => ?_⟩) hHeld ?_
            · go_simp
            simp only [List.setIfInBounds_toArray, List.set_cons_zero, List.set_cons_succ]
            refine take_d 2 67 (.pointer (some ⟨h, 0, none⟩)) _ rfl rfl (by kernel_rfl) (by kernel_rfl) (by kernel_rfl) (fun _ _ _ h => h) (Or.inl ⟨by rfl, fun w' hSw => ?_⟩) hHeld ?_
            · go_simp
            simp only [List.setIfInBounds_toArray, List.set_cons_zero, List.set_cons_succ]
            refine take_d 3 68 (.pointer (some ⟨h, 0, none⟩)) _ rfl rfl (by kernel_rfl) (by kernel_rfl) (by kernel_rfl) (fun _ _ _ h => h) (Or.inl ⟨by rfl, fun w' hSw => ?_⟩) hHeld ?_
            · go_simp
            simp only [List.setIfInBounds_toArray, List.set_cons_zero, List.set_cons_succ]
            refine take_d 5 70 (.pointer (some ⟨h, 0, none⟩)) _ rfl rfl (by kernel_rfl) (by kernel_rfl) (by kernel_rfl) (fun _ _ _ h => h) (Or.inl ⟨by rfl, fun w' hSw => ?_⟩) hHeld ?_
            · go_simp
            simp only [List.setIfInBounds_toArray, List.set_cons_zero, List.set_cons_succ]
            refine take_d 6 71 (.pointer (some ⟨h, 0, none⟩)) _ rfl rfl (by kernel_rfl) (by kernel_rfl) (by kernel_rfl) (fun _ _ _ h => h) (Or.inl ⟨by rfl, fun w' hSw => ?_⟩) hHeld ?_
            · go_simp
            simp only [List.setIfInBounds_toArray, List.set_cons_zero, List.set_cons_succ]
            refine take_d 7 72 (.pointer (some ⟨h, 1, none⟩)) _ rfl rfl (by kernel_rfl) (by kernel_rfl) (by kernel_rfl) (fun _ _ _ h => h) (Or.inl ⟨by rfl, fun w' hSw => ?_⟩) hHeld ?_
            · go_simp
            simp only [List.setIfInBounds_toArray, List.set_cons_zero, List.set_cons_succ]
            refine take_d 8 73 (.slice (some ⟨gl, 0, none⟩) ll cl) _ rfl rfl (by kernel_rfl) (by kernel_rfl) (by kernel_rfl) (fun _ _ _ h => h) (Or.inl ⟨by rfl, fun w' hSw => ?_⟩) hHeld ?_
            · have q := hSw.1
              go_simp
            simp only [List.setIfInBounds_toArray, List.set_cons_zero, List.set_cons_succ]
            refine take_d 9 74 (.int .i64 (k : Int)) _ rfl rfl (by kernel_rfl) (by kernel_rfl) (by kernel_rfl) (fun _ _ _ h => h) (Or.inl ⟨by rfl, fun w' hSw => ?_⟩) hHeld ?_
            · go_simp
            simp only [List.setIfInBounds_toArray, List.set_cons_zero, List.set_cons_succ]
            refine take_d 10 75 (.pointer (some ⟨gl, k, none⟩)) _ rfl rfl (by kernel_rfl) (by kernel_rfl) (by kernel_rfl) (fun _ _ _ h => h) (Or.inl ⟨by rfl, fun w' hSw => ?_⟩) hHeld ?_
            · have z8 : (k : Int) < (ll : Int) := by omega
              go_simp
            simp only [List.setIfInBounds_toArray, List.set_cons_zero, List.set_cons_succ]
            refine take_d 11 76 (.int .u8 ((z1 : Nat) : Int)) _ rfl rfl (by kernel_rfl) (by kernel_rfl) (by kernel_rfl) (fun _ _ _ h => h) (Or.inl ⟨by rfl, fun w' hSw => ?_⟩) hHeld ?_
            · have q := hSw.2
              go_simp
            simp only [List.setIfInBounds_toArray, List.set_cons_zero, List.set_cons_succ]
            refine take_d 12 77 (.int .u8 ((z2 : Nat) : Int)) _ rfl rfl (by kernel_rfl) (by kernel_rfl) (by kernel_rfl) (fun _ _ _ h => h) (Or.inl ⟨by rfl, fun w' hSw => ?_⟩) hHeld ?_
            · go_simp
            simp only [List.setIfInBounds_toArray, List.set_cons_zero, List.set_cons_succ]
            refine take_d 13 78 (.int .u8 ((z.toNat : Nat) : Int)) _ rfl rfl (by kernel_rfl) (by kernel_rfl) (by kernel_rfl) (fun _ _ _ h => h) (Or.inl ⟨by rfl, fun w' hSw => ?_⟩) hHeld ?_
            · have z7 := hx5
              go_simp
            simp only [List.setIfInBounds_toArray, List.set_cons_zero, List.set_cons_succ]
            refine wpAnyH_ready (rs := [4, 14]) (by kernel_rfl) (by simp) ?_
            refine AllReadyH.cons rfl (fun K hK => ?_) (AllReadyH.cons rfl (fun K hK => ?_) (AllReadyH.nil))
            · have q := HK.out.blk.cell 0
              have q2 := HK.out.blk.lt
              go_simp
              refine hK.out _ _ hHeld (fun hHeld => ?_)
              clear hK K q q2
              refine wpAnyH_ready (rs := [14]) (by kernel_rfl) (by simp) ?_
              refine AllReadyH.cons rfl (fun K hK => ?_) AllReadyH.nil
              go_simp
              have Ba : Below wr.drew.heap.size wr.drew (wr.drew.alloc (.cells #[.int .u8 ((z.toNat : Nat) : Int)] 5)) := (Below.refl _ _).alloc (Nat.le_refl _) _
              have Ka := Lib.hid (K3_.out.on Ba)
              have Xa := Lib.hid (X3_.out.on Ba)
              have Fa := Lib.hid (F3_.out.below Ba)
              have Bz : Hid (Bytes (wr.heap.size + 1) (wr.drew.alloc (.cells #[.int .u8 ((z.toNat : Nat) : Int)] 5)) (.slice (some ⟨wr.heap.size, 0, none⟩) 1 1) [z]) := Lib.hid (lit_bytes (S := fun _ => False) (w := wr.drew) (s := [z]) (n := 1) (cs := #[.int .u8 ((z.toNat : Nat) : Int)]) rfl rfl (fun _ e => e.elim) _ (Fr.refl _))
              have Sa : (wr.drew.alloc (.cells #[.int .u8 ((z.toNat : Nat) : Int)] 5)).cell? ⟨h, 1, none⟩ = some (.slice (some ⟨gl, 0, none⟩) ll cl) ∧ (wr.drew.alloc (.cells #[.int .u8 ((z.toNat : Nat) : Int)] 5)).cell? ⟨gl, k, none⟩ = some (.int .u8 ((z1 : Nat) : Int)) := ⟨(Ba.cell (p := ⟨h, 1, none⟩) K3_.out.blk.lt).trans (K3_.out.blk.cell 1), (Ba.cell (p := ⟨gl, k, none⟩) hglw).trans hHeld.2⟩
              refine hK.out _ _ Sa (fun hHeld => ?_)
              clear hK K Ba Sa
              refine wpAnyH_ready (rs := [15]) (by kernel_rfl) (by simp) ?_
              refine AllReadyH.cons rfl (fun K hK => ?_) AllReadyH.nil
              refine step_appX _ rfl 80 rfl (.tmp 69) (.tmp 79) rfl _ (W.safe ++ xo (W.loose.take k) d) (by simp [Act.eval]) Ka.out.os (wr.heap.size + 1) _ [z] (by simp [Act.eval]) Bz.out (by rw [← HL9.out]; simp; omega) (Nat.le_of_lt Ka.out.blk.lt) ?_
              intro v7 w7 o7 g7 n7
              have O7 := Lib.hid o7
              have N7 := Lib.hid n7
              have bh : Blk w7 h 29 #[.slice A9 l9 c9, .slice (some ⟨gl, 0, none⟩) ll cl, .int .i64 W.room, .int .i64 W.left, .bool W.armed, .bool W.down] := Ka.out.blk.grown g7 (fun e => Ka.out.neS e.symm)
              have K7 := Lib.hid bh
              have X7 := Lib.hid (Xa.out.grown g7 (fun e => Ka.out.os.kind Xa.out (by decide) e.symm))
              have ol : Own w7 h (.slice (some ⟨gl, 0, none⟩) ll cl) W.loose := Ka.out.ol.keep fun i hi => g7.block i (Ka.out.ol.lt i hi).2 (fun e => Ka.out.ne i e.symm hi)
              have OL := Lib.hid ol
              have F7 := Lib.hid (Fa.out.grown g7 (fun i hi => HT.out i hi))
              have S7 : w7.cell? ⟨h, 1, none⟩ = some (.slice (some ⟨gl, 0, none⟩) ll cl) ∧ w7.cell? ⟨gl, k, none⟩ = some (.int .u8 ((z1 : Nat) : Int)) := ⟨bh.cell 1, by rw [g7.cell_ (p := ⟨gl, k, none⟩) (Ka.out.ol.lt gl rfl).2 (fun e => Ka.out.ne gl e.symm rfl)]; exact hHeld.2⟩
              have T7 : Hid (∀ i, v7.ownBlock = some i → (Ft h (.slice As ls cs) (.slice (some ⟨gl, 0, none⟩) ll cl)) i ∨ w.heap.size ≤ i) := Lib.hid fun i hi => by
                rcases n7 with e | e
                · exact HT.out i (by rw [← e]; exact hi)
                · rw [e] at hi; injection hi with hi; exact .inr (by rw [← hi]; exact Fa.out.size)
              have N8 : Hid (∀ i, v7.ownBlock = some i → (Value.slice (some ⟨gl, 0, none⟩) ll cl).ownBlock = some i → False) := Lib.hid fun i hi hj => by
                rcases n7 with e | e
                · exact Ka.out.ne i (by rw [← e]; exact hi) hj
                · rw [e] at hi; injection hi with hi; subst hi; exact Nat.lt_irrefl _ (Ka.out.ol.lt _ hj).2
              simp only [List.setIfInBounds_toArray, List.set_cons_zero, List.set_cons_succ]
              refine hK.out _ _ S7 (fun hHeld => ?_)
              clear hK K o7 n7 g7 bh ol S7
              refine take_d 16 81 (.pointer (some ⟨h, 0, none⟩)) _ rfl rfl (by kernel_rfl) (by kernel_rfl) (by kernel_rfl) (fun _ _ _ h => h) (Or.inl ⟨by rfl, fun w' hSw => ?_⟩) hHeld ?_
              · go_simp
              simp only [List.setIfInBounds_toArray, List.set_cons_zero, List.set_cons_succ]
              refine take_d 17 82 (.pointer (some ⟨h, 0, none⟩)) _ rfl rfl (by kernel_rfl) (by kernel_rfl) (by kernel_rfl) (fun _ _ _ h => h) (Or.inl ⟨by rfl, fun w' hSw => ?_⟩) hHeld ?_
              · go_simp
              simp only [List.setIfInBounds_toArray, List.set_cons_zero, List.set_cons_succ]
              refine wpAnyH_ready (rs := [18]) (by kernel_rfl) (by simp) ?_
              refine AllReadyH.cons rfl (fun K hK => ?_) AllReadyH.nil
              have q := K7.out.cell 0
              have fr := K7.out.frozen 0
              have ly := K7.out.lt
              obtain ⟨A7, c7, rfl⟩ := O7.out.one
              obtain ⟨l7, hl7⟩ : ∃ l7, l7 = (W.safe ++ xo (W.loose.take k) d ++ [z]).length := ⟨_, rfl⟩
              have HL7 := Lib.hid hl7
              rw [← hl7] at O7 T7 N8 ⊢
              clear hl7
              go_simp
              have S4 : (w7.setCell ⟨h, 0, none⟩ (.slice A7 l7 c7)).cell? ⟨h, 1, none⟩ = some (.slice (some ⟨gl, 0, none⟩) ll cl) ∧ (w7.setCell ⟨h, 0, none⟩ (.slice A7 l7 c7)).cell? ⟨gl, k, none⟩ = some (.int .u8 ((z1 : Nat) : Int)) := ⟨(K7.out.set_ 0 (.slice A7 l7 c7)).cell 1, by rw [World.cell?_setCell_other _ _ _ _ (fun e => nGl (Addr.mk.inj e).1.symm)]; exact hHeld.2⟩
              refine hK.out _ _ S4 (fun hHeld => ?_)
              clear hK K q fr ly S4
              refine wpAnyH_done (by kernel_rfl) ?_ _
              go_wp2
              go_roundw
              case rel =>
                refine ⟨k + 1, A7, l7, c7, by omega, by go_num, Lib.hid (by rw [← HS9.out]; exact HL7.out), Lib.hid ?_, T7, Lib.hid (F7.out.set_ (q := ⟨h, 0, none⟩) (.inl (.inl rfl)) _), Lib.hid (X7.out.far (p := ⟨h, 0, none⟩) (fun e => by have := NX.out h (.inl rfl); simp only at e; omega) _)⟩
                rw [← HS9.out]
                exact ⟨by simpa using K7.out.set_ 0 (.slice A7 l7 c7), O7.out.keep fun j hj => Below.heap_setCell _ _ _ _ (by rintro rfl; exact O7.out.kind K7.out (by decide) hj), OL.out.keep fun j hj => Below.heap_setCell _ _ _ _ (by rintro rfl; exact OL.out.kind K7.out (by decide) hj), N8.out⟩
              case measure => simp [intOf]; omega
            · go_simp
              have Ba : Below wr.drew.heap.size wr.drew (wr.drew.alloc (.cells #[.int .u8 ((z.toNat : Nat) : Int)] 5)) := (Below.refl _ _).alloc (Nat.le_refl _) _
              have Ka := Lib.hid (K3_.out.on Ba)
              have Xa := Lib.hid (X3_.out.on Ba)
              have Fa := Lib.hid (F3_.out.below Ba)
              have Bz : Hid (Bytes (wr.heap.size + 1) (wr.drew.alloc (.cells #[.int .u8 ((z.toNat : Nat) : Int)] 5)) (.slice (some ⟨wr.heap.size, 0, none⟩) 1 1) [z]) := Lib.hid (lit_bytes (S := fun _ => False) (w := wr.drew) (s := [z]) (n := 1) (cs := #[.int .u8 ((z.toNat : Nat) : Int)]) rfl rfl (fun _ e => e.elim) _ (Fr.refl _))
              have Sa : (wr.drew.alloc (.cells #[.int .u8 ((z.toNat : Nat) : Int)] 5)).cell? ⟨h, 1, none⟩ = some (.slice (some ⟨gl, 0, none⟩) ll cl) ∧ (wr.drew.alloc (.cells #[.int .u8 ((z.toNat : Nat) : Int)] 5)).cell? ⟨gl, k, none⟩ = some (.int .u8 ((z1 : Nat) : Int)) := ⟨(Ba.cell (p := ⟨h, 1, none⟩) K3_.out.blk.lt).trans (K3_.out.blk.cell 1), (Ba.cell (p := ⟨gl, k, none⟩) hglw).trans hHeld.2⟩
              refine hK.out _ _ Sa (fun hHeld => ?_)
              clear hK K Ba Sa
              refine wpAnyH_ready (rs := [4]) (by kernel_rfl) (by simp) ?_
              refine AllReadyH.cons rfl (fun K hK => ?_) AllReadyH.nil
              have q := HK.out.blk.cell 0
              have q2 := HK.out.blk.lt
              go_simp
              refine hK.out _ _ hHeld (fun hHeld => ?_)
              clear hK K q q2
              refine wpAnyH_ready (rs := [15]) (by kernel_rfl) (by simp) ?_
              refine AllReadyH.cons rfl (fun K hK => ?_) AllReadyH.nil
              refine step_appX _ rfl 80 rfl (.tmp 69) (.tmp 79) rfl _ (W.safe ++ xo (W.loose.take k) d) (by simp [Act.eval]) Ka.out.os (wr.heap.size + 1) _ [z] (by simp [Act.eval]) Bz.out (by rw [← HL9.out]; simp; omega) (Nat.le_of_lt Ka.out.blk.lt) ?_
              intro v7 w7 o7 g7 n7
              have O7 := Lib.hid o7
              have N7 := Lib.hid n7
              have bh : Blk w7 h 29 #[.slice A9 l9 c9, .slice (some ⟨gl, 0, none⟩) ll cl, .int .i64 W.room, .int .i64 W.left, .bool W.armed, .bool W.down] := Ka.out.blk.grown g7 (fun e => Ka.out.neS e.symm)
              have K7 := Lib.hid bh
              have X7 := Lib.hid (Xa.out.grown g7 (fun e => Ka.out.os.kind Xa.out (by decide) e.symm))
              have ol : Own w7 h (.slice (some ⟨gl, 0, none⟩) ll cl) W.loose := Ka.out.ol.keep fun i hi => g7.block i (Ka.out.ol.lt i hi).2 (fun e => Ka.out.ne i e.symm hi)
              have OL := Lib.hid ol
              have F7 := Lib.hid (Fa.out.grown g7 (fun i hi => HT.out i hi))
              have S7 : w7.cell? ⟨h, 1, none⟩ = some (.slice (some ⟨gl, 0, none⟩) ll cl) ∧ w7.cell? ⟨gl, k, none⟩ = some (.int .u8 ((z1 : Nat) : Int)) := ⟨bh.cell 1, by rw [g7.cell_ (p := ⟨gl, k, none⟩) (Ka.out.ol.lt gl rfl).2 (fun e => Ka.out.ne gl e.symm rfl)]; exact hHeld.2⟩
              have T7 : Hid (∀ i, v7.ownBlock = some i → (Ft h (.slice As ls cs) (.slice (some ⟨gl, 0, none⟩) ll cl)) i ∨ w.heap.size ≤ i) := Lib.hid fun i hi => by
                rcases n7 with e | e
                · exact HT.out i (by rw [← e]; exact hi)
                · rw [e] at hi; injection hi with hi; exact .inr (by rw [← hi]; exact Fa.out.size)
              have N8 : Hid (∀ i, v7.ownBlock = some i → (Value.slice (some ⟨gl, 0, none⟩) ll cl).ownBlock = some i → False) := Lib.hid fun i hi hj => by
                rcases n7 with e | e
                · exact Ka.out.ne i (by rw [← e]; exact hi) hj
                · rw [e] at hi; injection hi with hi; subst hi; exact Nat.lt_irrefl _ (Ka.out.ol.lt _ hj).2
              simp only [List.setIfInBounds_toArray, List.set_cons_zero, List.set_cons_succ]
              refine hK.out _ _ S7 (fun hHeld => ?_)
              clear hK K o7 n7 g7 bh ol S7
              refine take_d 16 81 (.pointer (some ⟨h, 0, none⟩)) _ rfl rfl (by kernel_rfl) (by kernel_rfl) (by kernel_rfl) (fun _ _ _ h => h) (Or.inl ⟨by rfl, fun w' hSw => ?_⟩) hHeld ?_
              · go_simp
              simp only [List.setIfInBounds_toArray, List.set_cons_zero, List.set_cons_succ]
              refine take_d 17 82 (.pointer (some ⟨h, 0, none⟩)) _ rfl rfl (by kernel_rfl) (by kernel_rfl) (by kernel_rfl) (fun _ _ _ h => h) (Or.inl ⟨by rfl, fun w' hSw => ?_⟩) hHeld ?_
              · go_simp
              simp only [List.setIfInBounds_toArray, List.set_cons_zero, List.set_cons_succ]
              refine wpAnyH_ready (rs := [18]) (by kernel_rfl) (by simp) ?_
              refine AllReadyH.cons rfl (fun K hK => ?_) AllReadyH.nil
              have q := K7.out.cell 0
              have fr := K7.out.frozen 0
              have ly := K7.out.lt
              obtain ⟨A7, c7, rfl⟩ := O7.out.one
              obtain ⟨l7, hl7⟩ : ∃ l7, l7 = (W.safe ++ xo (W.loose.take k) d ++ [z]).length := ⟨_, rfl⟩
              have HL7 := Lib.hid hl7
              rw [← hl7] at O7 T7 N8 ⊢
              clear hl7
              go_simp
              have S4 : (w7.setCell ⟨h, 0, none⟩ (.slice A7 l7 c7)).cell? ⟨h, 1, none⟩ = some (.slice (some ⟨gl, 0, none⟩) ll cl) ∧ (w7.setCell ⟨h, 0, none⟩ (.slice A7 l7 c7)).cell? ⟨gl, k, none⟩ = some (.int .u8 ((z1 : Nat) : Int)) := ⟨(K7.out.set_ 0 (.slice A7 l7 c7)).cell 1, by rw [World.cell?_setCell_other _ _ _ _ (fun e => nGl (Addr.mk.inj e).1.symm)]; exact hHeld.2⟩
              refine hK.out _ _ S4 (fun hHeld => ?_)
              clear hK K q fr ly S4
              refine wpAnyH_done (by kernel_rfl) ?_ _
              go_wp2
              go_roundw
              case rel =>
                refine ⟨k + 1, A7, l7, c7, by omega, by go_num, Lib.hid (by rw [← HS9.out]; exact HL7.out), Lib.hid ?_, T7, Lib.hid (F7.out.set_ (q := ⟨h, 0, none⟩) (.inl (.inl rfl)) _), Lib.hid (X7.out.far (p := ⟨h, 0, none⟩) (fun e => by have := NX.out h (.inl rfl); simp only at e; omega) _)⟩
                rw [← HS9.out]
                exact ⟨by simpa using K7.out.set_ 0 (.slice A7 l7 c7), O7.out.keep fun j hj => Below.heap_setCell _ _ _ _ (by rintro rfl; exact O7.out.kind K7.out (by decide) hj), OL.out.keep fun j hj => Below.heap_setCell _ _ _ _ (by rintro rfl; exact OL.out.kind K7.out (by decide) hj), N8.out⟩
              case measure => simp [intOf]; omega
          · have hx5 : bits .xor .u8 ((at_ W.loose k : Nat) : Int) 0 = ((z.toNat : Nat) : Int) := by
              rw [at_get _ _ hkl, hz, show d.getD k 0 = 0 by rw [NM.out] at hkm; simp [List.getD_eq_getElem?_getD, List.getElem?_eq_none (Nat.le_of_not_lt hkm)]]
              exact xor_uu _ 0
            generalize at_ W.loose k = z1 at *
            clear hs9 hz hkl
            go_wp2_with fail
            have K3_ : Hid (TwB wr.drew h (.slice A9 l9 c9) (.slice (some ⟨gl, 0, none⟩) ll cl) { W with safe := W.safe ++ xo (W.loose.take k) d }) := Lib.hid (HK.out.on (Below.drewN' (Below.refl _ wr) 1))
            have X3_ : Hid (Blk wr.drew xb 31 #[.int .i64 5, .int .i64 n, .slice Au m cu]) := Lib.hid (HX9.out.on (Below.drewN' (Below.refl _ wr) 1))
            have F3_ : Hid (Fr (Ft h (.slice As ls cs) (.slice (some ⟨gl, 0, none⟩) ll cl)) w wr.drew) := Lib.hid HF.out.drew
            have c1_ := HK.out.blk.cell 1
            refine wp_region_held_drew (S := fun w' => w'.cell? ⟨h, 1, none⟩ = some (.slice (some ⟨gl, 0, none⟩) ll cl) ∧ w'.cell? ⟨gl, k, none⟩ = some (.int .u8 ((z1 : Nat) : Int))) (by kernel_rfl) ⟨c1_, cz⟩ (fun hHeld => ?_)
            refine take_d 0 65 (.pointer (some ⟨h, 0, none⟩)) _ rfl rfl (by kernel_rfl) (by kernel_rfl) (by kernel_rfl) (fun _ _ _ h => h) (Or.inl ⟨by rfl, fun w' hSw => ?_⟩) hHeld ?_
            · go_simp
            simp only [List.setIfInBounds_toArray, List.set_cons_zero, List.set_cons_succ]
            refine take_d 1 66 (.pointer (some ⟨h, 0, none⟩)) _ rfl rfl (by kernel_rfl) (by kernel_rfl) (by kernel_rfl) (fun _ _ _ h => h) (Or.inl ⟨by rfl, fun w' hSw => ?_⟩) hHeld ?_
            · go_simp
            simp only [List.setIfInBounds_toArray, List.set_cons_zero, List.set_cons_succ]
            refine take_d 2 67 (.pointer (some ⟨h, 0, none⟩)) _ rfl rfl (by kernel_rfl) (by kernel_rfl) (by kernel_rfl) (fun _ _ _ h => h) (Or.inl ⟨by rfl, fun w' hSw => ?_⟩) hHeld ?_
            · go_simp
            simp only [List.setIfInBounds_toArray, List.set_cons_zero, List.set_cons_succ]
            refine take_d 3 68 (.pointer (some ⟨h, 0, none⟩)) _ rfl rfl (by kernel_rfl) (by kernel_rfl) (by kernel_rfl) (fun _ _ _ h => h) (Or.inl ⟨by rfl, fun w' hSw => ?_⟩) hHeld ?_
            · go_simp
            simp only [List.setIfInBounds_toArray, List.set_cons_zero, List.set_cons_succ]
            refine take_d 5 70 (.pointer (some ⟨h, 0, none⟩)) _ rfl rfl (by kernel_rfl) (by kernel_rfl) (by kernel_rfl) (fun _ _ _ h => h) (Or.inl ⟨by rfl, fun w' hSw => ?_⟩) hHeld ?_
            · go_simp
            simp only [List.setIfInBounds_toArray, List.set_cons_zero, List.set_cons_succ]
            refine take_d 6 71 (.pointer (some ⟨h, 0, none⟩)) _ rfl rfl (by kernel_rfl) (by kernel_rfl) (by kernel_rfl) (fun _ _ _ h => h) (Or.inl ⟨by rfl, fun w' hSw => ?_⟩) hHeld ?_
            · go_simp
            simp only [List.setIfInBounds_toArray, List.set_cons_zero, List.set_cons_succ]
            refine take_d 7 72 (.pointer (some ⟨h, 1, none⟩)) _ rfl rfl (by kernel_rfl) (by kernel_rfl) (by kernel_rfl) (fun _ _ _ h => h) (Or.inl ⟨by rfl, fun w' hSw => ?_⟩) hHeld ?_
            · go_simp
            simp only [List.setIfInBounds_toArray, List.set_cons_zero, List.set_cons_succ]
            refine take_d 8 73 (.slice (some ⟨gl, 0, none⟩) ll cl) _ rfl rfl (by kernel_rfl) (by kernel_rfl) (by kernel_rfl) (fun _ _ _ h => h) (Or.inl ⟨by rfl, fun w' hSw => ?_⟩) hHeld ?_
            · have q := hSw.1
              go_simp
            simp only [List.setIfInBounds_toArray, List.set_cons_zero, List.set_cons_succ]
            refine take_d 9 74 (.int .i64 (k : Int)) _ rfl rfl (by kernel_rfl) (by kernel_rfl) (by kernel_rfl) (fun _ _ _ h => h) (Or.inl ⟨by rfl, fun w' hSw => ?_⟩) hHeld ?_
            · go_simp
            simp only [List.setIfInBounds_toArray, List.set_cons_zero, List.set_cons_succ]
            refine take_d 10 75 (.pointer (some ⟨gl, k, none⟩)) _ rfl rfl (by kernel_rfl) (by kernel_rfl) (by kernel_rfl) (fun _ _ _ h => h) (Or.inl ⟨by rfl, fun w' hSw => ?_⟩) hHeld ?_
            · have z8 : (k : Int) < (ll : Int) := by omega
              go_simp
            simp only [List.setIfInBounds_toArray, List.set_cons_zero, List.set_cons_succ]
            refine take_d 11 76 (.int .u8 ((z1 : Nat) : Int)) _ rfl rfl (by kernel_rfl) (by kernel_rfl) (by kernel_rfl) (fun _ _ _ h => h) (Or.inl ⟨by rfl, fun w' hSw => ?_⟩) hHeld ?_
            · have q := hSw.2
              go_simp
            simp only [List.setIfInBounds_toArray, List.set_cons_zero, List.set_cons_succ]
            refine take_d 12 77 (.int .u8 0) _ rfl rfl (by kernel_rfl) (by kernel_rfl) (by kernel_rfl) (fun _ _ _ h => h) (Or.inl ⟨by rfl, fun w' hSw => ?_⟩) hHeld ?_
            · go_simp
            simp only [List.setIfInBounds_toArray, List.set_cons_zero, List.set_cons_succ]
            refine take_d 13 78 (.int .u8 ((z.toNat : Nat) : Int)) _ rfl rfl (by kernel_rfl) (by kernel_rfl) (by kernel_rfl) (fun _ _ _ h => h) (Or.inl ⟨by rfl, fun w' hSw => ?_⟩) hHeld ?_
            · have z7 := hx5
              go_simp
            simp only [List.setIfInBounds_toArray, List.set_cons_zero, List.set_cons_succ]
            refine wpAnyH_ready (rs := [4, 14]) (by kernel_rfl) (by simp) ?_
            refine AllReadyH.cons rfl (fun K hK => ?_) (AllReadyH.cons rfl (fun K hK => ?_) (AllReadyH.nil))
            · have q := HK.out.blk.cell 0
              have q2 := HK.out.blk.lt
              go_simp
              refine hK.out _ _ hHeld (fun hHeld => ?_)
              clear hK K q q2
              refine wpAnyH_ready (rs := [14]) (by kernel_rfl) (by simp) ?_
              refine AllReadyH.cons rfl (fun K hK => ?_) AllReadyH.nil
              go_simp
              have Ba : Below wr.drew.heap.size wr.drew (wr.drew.alloc (.cells #[.int .u8 ((z.toNat : Nat) : Int)] 5)) := (Below.refl _ _).alloc (Nat.le_refl _) _
              have Ka := Lib.hid (K3_.out.on Ba)
              have Xa := Lib.hid (X3_.out.on Ba)
              have Fa := Lib.hid (F3_.out.below Ba)
              have Bz : Hid (Bytes (wr.heap.size + 1) (wr.drew.alloc (.cells #[.int .u8 ((z.toNat : Nat) : Int)] 5)) (.slice (some ⟨wr.heap.size, 0, none⟩) 1 1) [z]) := Lib.hid (lit_bytes (S := fun _ => False) (w := wr.drew) (s := [z]) (n := 1) (cs := #[.int .u8 ((z.toNat : Nat) : Int)]) rfl rfl (fun _ e => e.elim) _ (Fr.refl _))
              have Sa : (wr.drew.alloc (.cells #[.int .u8 ((z.toNat : Nat) : Int)] 5)).cell? ⟨h, 1, none⟩ = some (.slice (some ⟨gl, 0, none⟩) ll cl) ∧ (wr.drew.alloc (.cells #[.int .u8 ((z.toNat : Nat) : Int)] 5)).cell? ⟨gl, k, none⟩ = some (.int .u8 ((z1 : Nat) : Int)) := ⟨(Ba.cell (p := ⟨h, 1, none⟩) K3_.out.blk.lt).trans (K3_.out.blk.cell 1), (Ba.cell (p := ⟨gl, k, none⟩) hglw).trans hHeld.2⟩
              refine hK.out _ _ Sa (fun hHeld => ?_)
              clear hK K Ba Sa
              refine wpAnyH_ready (rs := [15]) (by kernel_rfl) (by simp) ?_
              refine AllReadyH.cons rfl (fun K hK => ?_) AllReadyH.nil
              refine step_appX _ rfl 80 rfl (.tmp 69) (.tmp 79) rfl _ (W.safe ++ xo (W.loose.take k) d) (by simp [Act.eval]) Ka.out.os (wr.heap.size + 1) _ [z] (by simp [Act.eval]) Bz.out (by rw [← HL9.out]; simp; omega) (Nat.le_of_lt Ka.out.blk.lt) ?_
              intro v7 w7 o7 g7 n7
              have O7 := Lib.hid o7
              have N7 := Lib.hid n7
              have bh : Blk w7 h 29 #[.slice A9 l9 c9, .slice (some ⟨gl, 0, none⟩) ll cl, .int .i64 W.room, .int .i64 W.left, .bool W.armed, .bool W.down] := Ka.out.blk.grown g7 (fun e => Ka.out.neS e.symm)
              have K7 := Lib.hid bh
              have X7 := Lib.hid (Xa.out.grown g7 (fun e => Ka.out.os.kind Xa.out (by decide) e.symm))
              have ol : Own w7 h (.slice (some ⟨gl, 0, none⟩) ll cl) W.loose := Ka.out.ol.keep fun i hi => g7.block i (Ka.out.ol.lt i hi).2 (fun e => Ka.out.ne i e.symm hi)
              have OL := Lib.hid ol
              have F7 := Lib.hid (Fa.out.grown g7 (fun i hi => HT.out i hi))
              have S7 : w7.cell? ⟨h, 1, none⟩ = some (.slice (some ⟨gl, 0, none⟩) ll cl) ∧ w7.cell? ⟨gl, k, none⟩ = some (.int .u8 ((z1 : Nat) : Int)) := ⟨bh.cell 1, by rw [g7.cell_ (p := ⟨gl, k, none⟩) (Ka.out.ol.lt gl rfl).2 (fun e => Ka.out.ne gl e.symm rfl)]; exact hHeld.2⟩
              have T7 : Hid (∀ i, v7.ownBlock = some i → (Ft h (.slice As ls cs) (.slice (some ⟨gl, 0, none⟩) ll cl)) i ∨ w.heap.size ≤ i) := Lib.hid fun i hi => by
                rcases n7 with e | e
                · exact HT.out i (by rw [← e]; exact hi)
                · rw [e] at hi; injection hi with hi; exact .inr (by rw [← hi]; exact Fa.out.size)
              have N8 : Hid (∀ i, v7.ownBlock = some i → (Value.slice (some ⟨gl, 0, none⟩) ll cl).ownBlock = some i → False) := Lib.hid fun i hi hj => by
                rcases n7 with e | e
                · exact Ka.out.ne i (by rw [← e]; exact hi) hj
                · rw [e] at hi; injection hi with hi; subst hi; exact Nat.lt_irrefl _ (Ka.out.ol.lt _ hj).2
              simp only [List.setIfInBounds_toArray, List.set_cons_zero, List.set_cons_succ]
              refine hK.out _ _ S7 (fun hHeld => ?_)
              clear hK K o7 n7 g7 bh ol S7
              refine take_d 16 81 (.pointer (some ⟨h, 0, none⟩)) _ rfl rfl (by kernel_rfl) (by kernel_rfl) (by kernel_rfl) (fun _ _ _ h => h) (Or.inl ⟨by rfl, fun w' hSw => ?_⟩) hHeld ?_
              · go_simp
              simp only [List.setIfInBounds_toArray, List.set_cons_zero, List.set_cons_succ]
              refine take_d 17 82 (.pointer (some ⟨h, 0, none⟩)) _ rfl rfl (by kernel_rfl) (by kernel_rfl) (by kernel_rfl) (fun _ _ _ h => h) (Or.inl ⟨by rfl, fun w' hSw => ?_⟩) hHeld ?_
              · go_simp
              simp only [List.setIfInBounds_toArray, List.set_cons_zero, List.set_cons_succ]
              refine wpAnyH_ready (rs := [18]) (by kernel_rfl) (by simp) ?_
              refine AllReadyH.cons rfl (fun K hK => ?_) AllReadyH.nil
              have q := K7.out.cell 0
              have fr := K7.out.frozen 0
              have ly := K7.out.lt
              obtain ⟨A7, c7, rfl⟩ := O7.out.one
              obtain ⟨l7, hl7⟩ : ∃ l7, l7 = (W.safe ++ xo (W.loose.take k) d ++ [z]).length := ⟨_, rfl⟩
              have HL7 := Lib.hid hl7
              rw [← hl7] at O7 T7 N8 ⊢
              clear hl7
              go_simp
              have S4 : (w7.setCell ⟨h, 0, none⟩ (.slice A7 l7 c7)).cell? ⟨h, 1, none⟩ = some (.slice (some ⟨gl, 0, none⟩) ll cl) ∧ (w7.setCell ⟨h, 0, none⟩ (.slice A7 l7 c7)).cell? ⟨gl, k, none⟩ = some (.int .u8 ((z1 : Nat) : Int)) := ⟨(K7.out.set_ 0 (.slice A7 l7 c7)).cell 1, by rw [World.cell?_setCell_other _ _ _ _ (fun e => nGl (Addr.mk.inj e).1.symm)]; exact hHeld.2⟩
              refine hK.out _ _ S4 (fun hHeld => ?_)
              clear hK K q fr ly S4
              refine wpAnyH_done (by kernel_rfl) ?_ _
              go_wp2
              go_roundw
              case rel =>
                refine ⟨k + 1, A7, l7, c7, by omega, by go_num, Lib.hid (by rw [← HS9.out]; exact HL7.out), Lib.hid ?_, T7, Lib.hid (F7.out.set_ (q := ⟨h, 0, none⟩) (.inl (.inl rfl)) _), Lib.hid (X7.out.far (p := ⟨h, 0, none⟩) (fun e => by have := NX.out h (.inl rfl); simp only at e; omega) _)⟩
                rw [← HS9.out]
                exact ⟨by simpa using K7.out.set_ 0 (.slice A7 l7 c7), O7.out.keep fun j hj => Below.heap_setCell _ _ _ _ (by rintro rfl; exact O7.out.kind K7.out (by decide) hj), OL.out.keep fun j hj => Below.heap_setCell _ _ _ _ (by rintro rfl; exact OL.out.kind K7.out (by decide) hj), N8.out⟩
              case measure => simp [intOf]; omega
            · go_simp
              have Ba : Below wr.drew.heap.size wr.drew (wr.drew.alloc (.cells #[.int .u8 ((z.toNat : Nat) : Int)] 5)) := (Below.refl _ _).alloc (Nat.le_refl _) _
              have Ka := Lib.hid (K3_.out.on Ba)
              have Xa := Lib.hid (X3_.out.on Ba)
              have Fa := Lib.hid (F3_.out.below Ba)
              have Bz : Hid (Bytes (wr.heap.size + 1) (wr.drew.alloc (.cells #[.int .u8 ((z.toNat : Nat) : Int)] 5)) (.slice (some ⟨wr.heap.size, 0, none⟩) 1 1) [z]) := Lib.hid (lit_bytes (S := fun _ => False) (w := wr.drew) (s := [z]) (n := 1) (cs := #[.int .u8 ((z.toNat : Nat) : Int)]) rfl rfl (fun _ e => e.elim) _ (Fr.refl _))
              have Sa : (wr.drew.alloc (.cells #[.int .u8 ((z.toNat : Nat) : Int)] 5)).cell? ⟨h, 1, none⟩ = some (.slice (some ⟨gl, 0, none⟩) ll cl) ∧ (wr.drew.alloc (.cells #[.int .u8 ((z.toNat : Nat) : Int)] 5)).cell? ⟨gl, k, none⟩ = some (.int .u8 ((z1 : Nat) : Int)) := ⟨(Ba.cell (p := ⟨h, 1, none⟩) K3_.out.blk.lt).trans (K3_.out.blk.cell 1), (Ba.cell (p := ⟨gl, k, none⟩) hglw).trans hHeld.2⟩
              refine hK.out _ _ Sa (fun hHeld => ?_)
              clear hK K Ba Sa
              refine wpAnyH_ready (rs := [4]) (by kernel_rfl) (by simp) ?_
              refine AllReadyH.cons rfl (fun K hK => ?_) AllReadyH.nil
              have q := HK.out.blk.cell 0
              have q2 := HK.out.blk.lt
              go_simp
              refine hK.out _ _ hHeld (fun hHeld => ?_)
              clear hK K q q2
              refine wpAnyH_ready (rs := [15]) (by kernel_rfl) (by simp) ?_
              refine AllReadyH.cons rfl (fun K hK => ?_) AllReadyH.nil
              refine step_appX _ rfl 80 rfl (.tmp 69) (.tmp 79) rfl _ (W.safe ++ xo (W.loose.take k) d) (by simp [Act.eval]) Ka.out.os (wr.heap.size + 1) _ [z] (by simp [Act.eval]) Bz.out (by rw [← HL9.out]; simp; omega) (Nat.le_of_lt Ka.out.blk.lt) ?_
              intro v7 w7 o7 g7 n7
              have O7 := Lib.hid o7
              have N7 := Lib.hid n7
              have bh : Blk w7 h 29 #[.slice A9 l9 c9, .slice (some ⟨gl, 0, none⟩) ll cl, .int .i64 W.room, .int .i64 W.left, .bool W.armed, .bool W.down] := Ka.out.blk.grown g7 (fun e => Ka.out.neS e.symm)
              have K7 := Lib.hid bh
              have X7 := Lib.hid (Xa.out.grown g7 (fun e => Ka.out.os.kind Xa.out (by decide) e.symm))
              have ol : Own w7 h (.slice (some ⟨gl, 0, none⟩) ll cl) W.loose := Ka.out.ol.keep fun i hi => g7.block i (Ka.out.ol.lt i hi).2 (fun e => Ka.out.ne i e.symm hi)
              have OL := Lib.hid ol
              have F7 := Lib.hid (Fa.out.grown g7 (fun i hi => HT.out i hi))
              have S7 : w7.cell? ⟨h, 1, none⟩ = some (.slice (some ⟨gl, 0, none⟩) ll cl) ∧ w7.cell? ⟨gl, k, none⟩ = some (.int .u8 ((z1 : Nat) : Int)) := ⟨bh.cell 1, by rw [g7.cell_ (p := ⟨gl, k, none⟩) (Ka.out.ol.lt gl rfl).2 (fun e => Ka.out.ne gl e.symm rfl)]; exact hHeld.2⟩
              have T7 : Hid (∀ i, v7.ownBlock = some i → (Ft h (.slice As ls cs) (.slice (some ⟨gl, 0, none⟩) ll cl)) i ∨ w.heap.size ≤ i) := Lib.hid fun i hi => by
                rcases n7 with e | e
                · exact HT.out i (by rw [← e]; exact hi)
                · rw [e] at hi; injection hi with hi; exact .inr (by rw [← hi]; exact Fa.out.size)
              have N8 : Hid (∀ i, v7.ownBlock = some i → (Value.slice (some ⟨gl, 0, none⟩) ll cl).ownBlock = some i → False) := Lib.hid fun i hi hj => by
                rcases n7 with e | e
                · exact Ka.out.ne i (by rw [← e]; exact hi) hj
                · rw [e] at hi; injection hi with hi; subst hi; exact Nat.lt_irrefl _ (Ka.out.ol.lt _ hj).2
              simp only [List.setIfInBounds_toArray, List.set_cons_zero, List.set_cons_succ]
              refine hK.out _ _ S7 (fun hHeld => ?_)
              clear hK K o7 n7 g7 bh ol S7
              refine take_d 16 81 (.pointer (some ⟨h, 0, none⟩)) _ rfl rfl (by kernel_rfl) (by kernel_rfl) (by kernel_rfl) (fun _ _ _ h => h) (Or.inl ⟨by rfl, fun w' hSw => ?_⟩) hHeld ?_
              · go_simp
              simp only [List.setIfInBounds_toArray, List.set_cons_zero, List.set_cons_succ]
              refine take_d 17 82 (.pointer (some ⟨h, 0, none⟩)) _ rfl rfl (by kernel_rfl) (by kernel_rfl) (by kernel_rfl) (fun _ _ _ h => h) (Or.inl ⟨by rfl, fun w' hSw => ?_⟩) hHeld ?_
              · go_simp
              simp only [List.setIfInBounds_toArray, List.set_cons_zero, List.set_cons_succ]
              refine wpAnyH_ready (rs := [18]) (by kernel_rfl) (by simp) ?_
              refine AllReadyH.cons rfl (fun K hK => ?_) AllReadyH.nil
              have q := K7.out.cell 0
              have fr := K7.out.frozen 0
              have ly := K7.out.lt
              obtain ⟨A7, c7, rfl⟩ := O7.out.one
              obtain ⟨l7, hl7⟩ : ∃ l7, l7 = (W.safe ++ xo (W.loose.take k) d ++ [z]).length := ⟨_, rfl⟩
              have HL7 := Lib.hid hl7
              rw [← hl7] at O7 T7 N8 ⊢
              clear hl7
              go_simp
              have S4 : (w7.setCell ⟨h, 0, none⟩ (.slice A7 l7 c7)).cell? ⟨h, 1, none⟩ = some (.slice (some ⟨gl, 0, none⟩) ll cl) ∧ (w7.setCell ⟨h, 0, none⟩ (.slice A7 l7 c7)).cell? ⟨gl, k, none⟩ = some (.int .u8 ((z1 : Nat) : Int)) := ⟨(K7.out.set_ 0 (.slice A7 l7 c7)).cell 1, by rw [World.cell?_setCell_other _ _ _ _ (fun e => nGl (Addr.mk.inj e).1.symm)]; exact hHeld.2⟩
              refine hK.out _ _ S4 (fun hHeld => ?_)
              clear hK K q fr ly S4
              refine wpAnyH_done (by kernel_rfl) ?_ _
              go_wp2
              go_roundw
              case rel =>
                refine ⟨k + 1, A7, l7, c7, by omega, by go_num, Lib.hid (by rw [← HS9.out]; exact HL7.out), Lib.hid ?_, T7, Lib.hid (F7.out.set_ (q := ⟨h, 0, none⟩) (.inl (.inl rfl)) _), Lib.hid (X7.out.far (p := ⟨h, 0, none⟩) (fun e => by have := NX.out h (.inl rfl); simp only at e; omega) _)⟩
                rw [← HS9.out]
                exact ⟨by simpa using K7.out.set_ 0 (.slice A7 l7 c7), O7.out.keep fun j hj => Below.heap_setCell _ _ _ _ (by rintro rfl; exact O7.out.kind K7.out (by decide) hj), OL.out.keep fun j hj => Below.heap_setCell _ _ _ _ (by rintro rfl; exact OL.out.kind K7.out (by decide) hj), N8.out⟩
              case measure => simp [intOf]; omega
        · obtain rfl : r = k := by omega
          have c1 := HK.out.blk.cell 1
          have c4 := HK.out.blk.cell 4
          have c5 := HK.out.blk.cell 5
          have f1 := HK.out.blk.frozen 1
          have f4 := HK.out.blk.frozen 4
          have f5 := HK.out.blk.frozen 5
          have ly := HK.out.blk.lt
          have FIN : Hid (DidW h (.slice As ls cs) (.slice Al ll cl) { W with safe := W.safe ++ xo (W.loose.take r) d, loose := [], armed := false, down := false } w (((wr.setCell ⟨h, 1, none⟩ (.slice none 0 0)).setCell ⟨h, 4, none⟩ (.bool false)).setCell ⟨h, 5, none⟩ (.bool false))) := Lib.hid (crashS OK.out HT.out HK.out HF.out)
          go_wp2
          go_ret
          refine ⟨ret_int (by rw [NW.out.1]; rfl), ?_⟩
          rw [NW.out.2]
          exact FIN.out
    · obtain ⟨r, hr⟩ : ∃ r, r = W.stays n := ⟨_, rfl⟩
      have hr' : r = 0 := by rw [hr]; unfold Tw.stays; rw [if_neg n0]
      rw [← hr] at NW
      clear hr
      have c1 := K2.out.blk.cell 1
      have c4 := K2.out.blk.cell 4
      have c5 := K2.out.blk.cell 5
      have f1 := K2.out.blk.frozen 1
      have f4 := K2.out.blk.frozen 4
      have f5 := K2.out.blk.frozen 5
      have ly := K2.out.blk.lt
      have HK : Hid (TwB wq h (.slice As ls cs) (.slice Al ll cl) { W with safe := W.safe ++ xo (W.loose.take r) d }) := Lib.hid (by rw [hr']; have := K2.out.toTwB; simpa [xo] using this)
      have FIN : Hid (DidW h (.slice As ls cs) (.slice Al ll cl) { W with safe := W.safe ++ xo (W.loose.take r) d, loose := [], armed := false, down := false } w (((wq.setCell ⟨h, 1, none⟩ (.slice none 0 0)).setCell ⟨h, 4, none⟩ (.bool false)).setCell ⟨h, 5, none⟩ (.bool false))) := Lib.hid (crashS OK.out (fun i hi => .inl (.inr (.inl hi))) HK.out F2.out)
      clear hr'
      go_wp2
      refine wp_loop_rounds 1 ?_
      rw [rounds_succ]
      go_wp2
      go_ret
      refine ⟨ret_int (by rw [NW.out.1]; rfl), ?_⟩
      rw [NW.out.2]
      exact FIN.out
  by_cases hk : k < 1 ∨ 5 < k
  · have NW := Lib.hid (twO W k n d hk)
    have n4 := does_ne h4
    have n5 := does_ne h5
    by_cases hk1 : k < 1
    · go_wp2
      go_ret
      refine ⟨ret_int (by rw [NW.out.1]; rfl), ?_⟩
      rw [NW.out.2]
      exact DidW.same K2.out F2.out
    · have hk5 : 5 < k := by omega
      go_wp2
      go_ret
      refine ⟨ret_int (by rw [NW.out.1]; rfl), ?_⟩
      rw [NW.out.2]
      exact DidW.same K2.out F2.out
  cases hd : W.down
  rotate_left
  · have NW := Lib.hid (twD W k n d ⟨by omega, by omega⟩ hd)
    have n4 := does_ne h4
    have n5 := does_ne h5
    have hk1 : ¬ k < 1 := by omega
    have hk5 : ¬ 5 < k := by omega
    have c5 := K2.out.blk.cell 5
    rw [hd] at c5
    go_wp2
    go_ret
    refine ⟨ret_int (by rw [NW.out.1]; rfl), ?_⟩
    rw [NW.out.2]
    exact DidW.same K2.out F2.out
  by_cases h1 : k = 1
  · subst h1
    have c5 := K2.out.blk.cell 5
    rw [hd] at c5
    have c2 := K2.out.blk.cell 2
    by_cases hr : W.room - ((W.safe ++ W.loose).length : Int) < (d.length : Int)
    · have NW := Lib.hid (tw1b W n d hd hr)
      rw [← NQ.out, ← NM.out] at hr
      have dr : decide (W.room - (lq : Int) < (m : Int)) = true := decide_eq_true hr
      have jw : IntKind.i64.wrap (W.room - (lq : Int)) = W.room - (lq : Int) := IntWalk.i64_in _ (by have := lqb; omega)
      go_wp2_with fail
      go_quiet (fail)
      go_wp2
      go_ret
      refine ⟨ret_int (by rw [NW.out.1]; rfl), ?_⟩
      rw [NW.out.2]
      exact DidW.same (K2.out.on (Below.drewN' (Below.refl _ _) _)) (F2.out.below (Below.drewN' (Below.refl _ _) _))
    · have NW := Lib.hid (tw1 W n d hd hr)
      rw [← NQ.out, ← NM.out] at hr
      have dr : decide (W.room - (lq : Int) < (m : Int)) = false := decide_eq_false hr
      have jw : IntKind.i64.wrap (W.room - (lq : Int)) = W.room - (lq : Int) := IntWalk.i64_in _ (by have := lqb; omega)
      go_wp2_with fail
      go_quiet (fail)
      have BM : Below wq.heap.size wq (wq.drewN nq) := Below.drewN' (Below.refl _ _) _
      have K3 := Lib.hid (K2.out.on BM)
      have X3 := Lib.hid (X2.out.on BM)
      have Q3 := Lib.hid (Q2.out.below BM)
      have F3 := Lib.hid (F2.out.below BM)
      have U3 : Hid (∀ w', Fr (Ft h (.slice As ls cs) (.slice Al ll cl)) (wq.drewN nq) w' → Bytes n₀ w' (.slice Au m cu) d) := Lib.hid fun w' hf => U2.out w' ((Fr.of_below BM).next hf)
      clear BM K2 X2 Q2 F2 U2
      generalize wq.drewN nq = w3 at *
      clear c2 c5 x0 x1 x2 dr jw
      have x0 := X3.out.cell 0
      have FA := Lib.hid (falls_any K3.out)
      go_wp2_with fail
      refine FA.out.mono ?_
      rintro e w5 ⟨rfl, k5, f5⟩
      have K5 := Lib.hid k5
      have F5 := Lib.hid (F3.out.next f5)
      have X5 := Lib.hid (f5.blk X3.out (fun e => by have := NX.out _ e; omega))
      have Q5 := Lib.hid (f5.own Q3.out (fun i hi => (LQ.out i hi).2.1))
      have U5 : Hid (∀ w', Fr (Ft h (.slice As ls cs) (.slice Al ll cl)) w5 w' → Bytes n₀ w' (.slice Au m cu) d) := Lib.hid fun w' hf => U3.out w' (f5.next hf)
      clear k5 f5 FA K3 F3 X3 Q3 U3
      have x9 := X5.out.cell 0
      go_wp2_with fail
      have K6 : Hid (TwB w5.drew h (.slice As ls cs) (.slice Al ll cl) W.fallen) := Lib.hid (K5.out.toTwB.on (Below.drewN' (Below.refl _ w5) 1))
      have X6 : Hid (Blk w5.drew xb 31 #[.int .i64 1, .int .i64 n, .slice Au m cu]) := Lib.hid (X5.out.on (Below.drewN' (Below.refl _ w5) 1))
      have F6 : Hid (Fr (Ft h (.slice As ls cs) (.slice Al ll cl)) w w5.drew) := Lib.hid (F5.out.drew)
      have U6 : Hid (∀ w', Fr (Ft h (.slice As ls cs) (.slice Al ll cl)) w5.drew w' → Bytes n₀ w' (.slice Au m cu) d) := Lib.hid fun w' hf => U5.out w' ((Fr.of_below (Below.drewN' (Below.refl _ w5) 1)).next hf)
      have hxh : xb ≠ h := fun e => by have := NX.out h (.inl rfl); omega
      refine wp_region_held_drew (S := fun w' => Blk w' xb 31 #[.int .i64 1, .int .i64 n, .slice Au m cu]) (by kernel_rfl) X6.out (fun hHeld => ?_)
      refine take_d 0 145 (.pointer (some ⟨h, 0, none⟩)) _ rfl rfl (by kernel_rfl) (by kernel_rfl) (by kernel_rfl) (fun _ _ _ h => h) (Or.inl ⟨by rfl, fun w' hSw => ?_⟩) hHeld ?_
      · go_simp
      simp only [List.setIfInBounds_toArray, List.set_cons_zero, List.set_cons_succ]
      refine take_d 1 146 (.pointer (some ⟨h, 0, none⟩)) _ rfl rfl (by kernel_rfl) (by kernel_rfl) (by kernel_rfl) (fun _ _ _ h => h) (Or.inl ⟨by rfl, fun w' hSw => ?_⟩) hHeld ?_
      · go_simp
      simp only [List.setIfInBounds_toArray, List.set_cons_zero, List.set_cons_succ]
      refine take_d 2 147 (.pointer (some ⟨h, 0, none⟩)) _ rfl rfl (by kernel_rfl) (by kernel_rfl) (by kernel_rfl) (fun _ _ _ h => h) (Or.inl ⟨by rfl, fun w' hSw => ?_⟩) hHeld ?_
      · go_simp
      simp only [List.setIfInBounds_toArray, List.set_cons_zero, List.set_cons_succ]
      refine take_d 3 148 (.pointer (some ⟨h, 1, none⟩)) _ rfl rfl (by kernel_rfl) (by kernel_rfl) (by kernel_rfl) (fun _ _ _ h => h) (Or.inl ⟨by rfl, fun w' hSw => ?_⟩) hHeld ?_
      · go_simp
      simp only [List.setIfInBounds_toArray, List.set_cons_zero, List.set_cons_succ]
      refine take_d 5 150 (.pointer (some ⟨xb, 2, none⟩)) _ rfl rfl (by kernel_rfl) (by kernel_rfl) (by kernel_rfl) (fun _ _ _ h => h) (Or.inl ⟨by rfl, fun w' hSw => ?_⟩) hHeld ?_
      · go_simp
      simp only [List.setIfInBounds_toArray, List.set_cons_zero, List.set_cons_succ]
      refine take_d 6 151 (.slice Au m cu) _ rfl rfl (by kernel_rfl) (by kernel_rfl) (by kernel_rfl) (fun _ _ _ h => h) (Or.inl ⟨by rfl, fun w' hSw => ?_⟩) hHeld ?_
      · have q := Blk.cell hSw 2
        go_simp
      simp only [List.setIfInBounds_toArray, List.set_cons_zero, List.set_cons_succ]
      refine wpAnyH_ready (rs := [4]) (by kernel_rfl) (by simp) ?_
      refine AllReadyH.cons rfl (fun K hK => ?_) AllReadyH.nil
      have q := K6.out.blk.cell 1
      go_simp
      refine hK.out _ _ hHeld (fun hHeld => ?_)
      clear hK K q
      refine wpAnyH_ready (rs := [7]) (by kernel_rfl) (by simp) ?_
      refine AllReadyH.cons rfl (fun K hK => ?_) AllReadyH.nil
      have hol : Own w5.drew h (.slice Al ll cl) W.loose := by have := K6.out.ol; rwa [Tw.fallen_loose] at this
      refine step_appX _ rfl 152 rfl (.tmp 149) (.tmp 151) rfl _ W.loose (by simp [Act.eval]) hol n₀ _ d (by simp [Act.eval]) (U6.out _ (Fr.refl _)) (by rw [← NL.out, ← NM.out]; omega) (Nat.le_of_lt K6.out.blk.lt) ?_
      intro v7 w7 o7 g7 n7
      have O7 := Lib.hid o7
      have N7 := Lib.hid n7
      have G7 := Lib.hid g7
      have bh : Blk w7 h 29 #[.slice As ls cs, .slice Al ll cl, .int .i64 W.fallen.room, .int .i64 W.fallen.left, .bool W.fallen.armed, .bool W.fallen.down] := K6.out.blk.grown g7 (fun e => K6.out.neL e.symm)
      have K7 := Lib.hid bh
      have bx : Blk w7 xb 31 #[.int .i64 1, .int .i64 n, .slice Au m cu] := hHeld.grown g7 (fun e => hol.kind X6.out (by decide) e.symm)
      have os : Own w7 h (.slice As ls cs) W.fallen.safe := K6.out.os.keep fun i hi => g7.block i (K6.out.os.lt i hi).2 (fun e => K6.out.ne i hi e.symm)
      have OS := Lib.hid os
      simp only [List.setIfInBounds_toArray, List.set_cons_zero, List.set_cons_succ]
      refine hK.out _ _ bx (fun hHeld => ?_)
      clear hK K o7 n7 g7 bh bx os hol
      refine take_d 8 153 (.pointer (some ⟨h, 0, none⟩)) _ rfl rfl (by kernel_rfl) (by kernel_rfl) (by kernel_rfl) (fun _ _ _ h => h) (Or.inl ⟨by rfl, fun w' hSw => ?_⟩) hHeld ?_
      · go_simp
      simp only [List.setIfInBounds_toArray, List.set_cons_zero, List.set_cons_succ]
      refine take_d 9 154 (.pointer (some ⟨h, 1, none⟩)) _ rfl rfl (by kernel_rfl) (by kernel_rfl) (by kernel_rfl) (fun _ _ _ h => h) (Or.inl ⟨by rfl, fun w' hSw => ?_⟩) hHeld ?_
      · go_simp
      simp only [List.setIfInBounds_toArray, List.set_cons_zero, List.set_cons_succ]
      refine wpAnyH_ready (rs := [10]) (by kernel_rfl) (by simp) ?_
      refine AllReadyH.cons rfl (fun K hK => ?_) AllReadyH.nil
      have q := K7.out.cell 1
      have fr := K7.out.frozen 1
      have ly := K7.out.lt
      obtain ⟨A7, c7, rfl⟩ := O7.out.one
      obtain ⟨l7, hl7⟩ : ∃ l7, l7 = (W.loose ++ d).length := ⟨_, rfl⟩
      rw [← hl7] at O7 N7 ⊢
      clear hl7
      go_simp
      have S4 := Blk.far hHeld (p := ⟨h, 1, none⟩) hxh (.slice A7 l7 c7)
      refine hK.out _ _ S4 (fun hHeld => ?_)
      clear hK K q fr ly S4
      refine wpAnyH_done (by kernel_rfl) ?_ _
      have FIN : Hid (DidW h (.slice As ls cs) (.slice Al ll cl) { W.fallen with loose := W.loose ++ d } w (w7.setCell ⟨h, 1, none⟩ (.slice A7 l7 c7))) := Lib.hid (by
        have B7 : TwB (w7.setCell ⟨h, 1, none⟩ (.slice A7 l7 c7)) h (.slice As ls cs) (.slice A7 l7 c7) { W.fallen with loose := W.loose ++ d } :=
          ⟨by simpa using K7.out.set_ 1 (.slice A7 l7 c7), OS.out.keep fun j hj => Below.heap_setCell _ _ _ _ (by rintro rfl; exact OS.out.kind K7.out (by decide) hj), O7.out.keep fun j hj => Below.heap_setCell _ _ _ _ (by rintro rfl; exact O7.out.kind K7.out (by decide) hj), fun i hi hj => by
            rcases N7.out with e | e
            · rw [e] at hj; exact K6.out.ne i hi hj
            · rw [e] at hj
              injection hj with hj
              have := (K6.out.os.lt i hi).2
              omega⟩
        refine ⟨_, _, fun i hi => ?_, ⟨B7, ?_⟩, (F6.out.grown G7.out (fun k hk => .inl (.inr (.inr hk)))).set_ (q := ⟨h, 1, none⟩) (.inl (.inl rfl)) _⟩
        · rcases hi with hi | hi | hi
          · exact .inl (.inl hi)
          · exact .inl (.inr (.inl hi))
          · rcases N7.out with e | e
            · rw [e] at hi; exact .inl (.inr (.inr hi))
            · rw [e] at hi
              injection hi with hi
              exact .inr (by rw [← hi]; exact F6.out.size)
        · have hk := OK.out.fallen
          refine ⟨?_, hk.room, hk.left, hk.arm⟩
          show (W.fallen.safe.length : Int) + ((W.loose ++ d).length : Int) ≤ W.fallen.room
          rw [Tw.fallen_safe, Tw.fallen_room, List.length_append, ← NS.out, ← NL.out, ← NM.out]
          have := LQE.out
          omega)
      have y9 := hHeld.cell 0
      cases hf : W.fallsE
      · have e2 : (if W.fallsE = true then 40 else 0) = 0 := by rw [hf]; rfl
        go_wp2
        go_ret
        refine ⟨ret_int (by rw [NW.out.1, e2]; rfl), ?_⟩
        rw [NW.out.2]
        exact FIN.out
      · have e2 : (if W.fallsE = true then 40 else 0) = 40 := by rw [hf]; rfl
        go_wp2
        go_ret
        refine ⟨ret_int (by rw [NW.out.1, e2]; rfl), ?_⟩
        rw [NW.out.2]
        exact FIN.out
  by_cases h2 : k = 2
  · subst h2
    have c5 := K2.out.blk.cell 5
    rw [hd] at c5
    have NW := Lib.hid (tw2 W n d hd)
    go_wp2_with fail
    go_quiet (fail)
    have BM : Below wq.heap.size wq (wq.drewN nq) := Below.drewN' (Below.refl _ _) _
    have K3 := Lib.hid (K2.out.on BM)
    have X3 := Lib.hid (X2.out.on BM)
    have Q3 := Lib.hid (Q2.out.below BM)
    have F3 := Lib.hid (F2.out.below BM)
    have U3 : Hid (∀ w', Fr (Ft h (.slice As ls cs) (.slice Al ll cl)) (wq.drewN nq) w' → Bytes n₀ w' (.slice Au m cu) d) := Lib.hid fun w' hf => U2.out w' ((Fr.of_below BM).next hf)
    clear BM K2 X2 Q2 F2 U2
    generalize wq.drewN nq = w3 at *
    clear c5 x0 x1 x2
    have x0 := X3.out.cell 0
    have FA := Lib.hid (falls_any K3.out)
    go_wp2_with fail
    refine FA.out.mono ?_
    rintro e w5 ⟨rfl, k5, f5⟩
    have K5 := Lib.hid k5
    have F5 := Lib.hid (F3.out.next f5)
    have X5 := Lib.hid (f5.blk X3.out (fun e => by have := NX.out _ e; omega))
    have Q5 := Lib.hid (f5.own Q3.out (fun i hi => (LQ.out i hi).2.1))
    have U5 : Hid (∀ w', Fr (Ft h (.slice As ls cs) (.slice Al ll cl)) w5 w' → Bytes n₀ w' (.slice Au m cu) d) := Lib.hid fun w' hf => U3.out w' (f5.next hf)
    clear k5 f5 FA K3 F3 X3 Q3 U3
    have x9 := X5.out.cell 0
    cases hf : W.fallsE
    · have e2 : (if W.fallsE = true then 40 else 0) = 0 := by rw [hf]; rfl
      have e3 : (if W.fallsE = true then W.fallen else { W.fallen with safe := W.safe ++ W.loose, loose := [] }) = { W.fallen with safe := W.safe ++ W.loose, loose := [] } := by rw [hf]; rfl
      have c0 := K5.out.blk.cell 0
      have c1 := K5.out.blk.cell 1
      have f0 := K5.out.blk.frozen 0
      have f1 := K5.out.blk.frozen 1
      have ly := K5.out.blk.lt
      have FIN : Hid (DidW h (.slice As ls cs) (.slice Al ll cl) { W.fallen with safe := W.safe ++ W.loose, loose := [] } w ((w5.setCell ⟨h, 0, none⟩ (.slice Aq lq cq)).setCell ⟨h, 1, none⟩ (.slice none 0 0))) := Lib.hid (allS OK.out NX.out LQ.out HX.out K5.out.toTwB Q5.out F5.out)
      go_wp2
      go_ret
      refine ⟨ret_int (by rw [NW.out.1, e2]; rfl), ?_⟩
      rw [NW.out.2, e3]
      exact FIN.out
    · have e2 : (if W.fallsE = true then 40 else 0) = 40 := by rw [hf]; rfl
      have e3 : (if W.fallsE = true then W.fallen else { W.fallen with safe := W.safe ++ W.loose, loose := [] }) = W.fallen := by rw [hf]; rfl
      go_wp2
      go_ret
      refine ⟨ret_int (by rw [NW.out.1, e2]; rfl), ?_⟩
      rw [NW.out.2, e3]
      exact DidW.same K5.out F5.out
  have h3 : k = 3 := by omega
  subst h3
  have c5 := K2.out.blk.cell 5
  rw [hd] at c5
  by_cases hr : n < 0 ∨ ((W.safe ++ W.loose).length : Int) < n
  · have NW := Lib.hid (tw3b W n d hd hr)
    rw [← NQ.out] at hr
    go_wp2_with fail
    go_quiet (fail)
    have BM : Below wq.heap.size wq (wq.drewN nq) := Below.drewN' (Below.refl _ _) _
    have K3 := Lib.hid (K2.out.on BM)
    have X3 := Lib.hid (X2.out.on BM)
    have Q3 := Lib.hid (Q2.out.below BM)
    have F3 := Lib.hid (F2.out.below BM)
    have U3 : Hid (∀ w', Fr (Ft h (.slice As ls cs) (.slice Al ll cl)) (wq.drewN nq) w' → Bytes n₀ w' (.slice Au m cu) d) := Lib.hid fun w' hf => U2.out w' ((Fr.of_below BM).next hf)
    clear BM K2 X2 Q2 F2 U2
    generalize wq.drewN nq = w3 at *
    clear c5 x0 x1 x2
    have x0 := X3.out.cell 0
    have x1 := X3.out.cell 1
    by_cases hn0 : n < 0
    · have dn : decide (n < 0) = true := decide_eq_true hn0
      go_wp2
      go_ret
      refine ⟨ret_int (by rw [NW.out.1]; rfl), ?_⟩
      rw [NW.out.2]
      exact DidW.same K3.out F3.out
    · have dn : decide (n < 0) = false := decide_eq_false hn0
      have dm : decide ((lq : Int) < n) = true := decide_eq_true (by omega)
      go_wp2
      go_ret
      refine ⟨ret_int (by rw [NW.out.1]; rfl), ?_⟩
      rw [NW.out.2]
      exact DidW.same K3.out F3.out
  · have NW := Lib.hid (tw3 W n d hd hr)
    rw [← NQ.out] at hr
    go_wp2_with fail
    go_quiet (fail)
    have BM : Below wq.heap.size wq (wq.drewN nq) := Below.drewN' (Below.refl _ _) _
    have K3 := Lib.hid (K2.out.on BM)
    have X3 := Lib.hid (X2.out.on BM)
    have Q3 := Lib.hid (Q2.out.below BM)
    have F3 := Lib.hid (F2.out.below BM)
    have U3 : Hid (∀ w', Fr (Ft h (.slice As ls cs) (.slice Al ll cl)) (wq.drewN nq) w' → Bytes n₀ w' (.slice Au m cu) d) := Lib.hid fun w' hf => U2.out w' ((Fr.of_below BM).next hf)
    clear BM K2 X2 Q2 F2 U2
    generalize wq.drewN nq = w3 at *
    clear c5 x0 x1 x2
    have x0 := X3.out.cell 0
    have x1 := X3.out.cell 1
    have dn : decide (n < 0) = false := decide_eq_false (by omega)
    have dm : decide ((lq : Int) < n) = false := decide_eq_false (by omega)
    have z0 : ¬ n < 0 := by omega
    have z1 : ¬ (lq : Int) < n := by omega
    clear hr
    have FA := Lib.hid (falls_any K3.out)
    go_wp2_with fail
    refine FA.out.mono ?_
    rintro e w5 ⟨rfl, k5, f5⟩
    have K5 := Lib.hid k5
    have F5 := Lib.hid (F3.out.next f5)
    have X5 := Lib.hid (f5.blk X3.out (fun e => by have := NX.out _ e; omega))
    have Q5 := Lib.hid (f5.own Q3.out (fun i hi => (LQ.out i hi).2.1))
    have U5 : Hid (∀ w', Fr (Ft h (.slice As ls cs) (.slice Al ll cl)) w5 w' → Bytes n₀ w' (.slice Au m cu) d) := Lib.hid fun w' hf => U3.out w' (f5.next hf)
    clear k5 f5 FA K3 F3 X3 Q3 U3
    have x9 := X5.out.cell 0
    cases hf : W.fallsE
    · have e2 : (if W.fallsE = true then 40 else 0) = 0 := by rw [hf]; rfl
      have e3 : (if W.fallsE = true then W.fallen else { W.fallen with safe := (W.safe ++ W.loose).take n.toNat, loose := [] }) = { W.fallen with safe := (W.safe ++ W.loose).take n.toNat, loose := [] } := by rw [hf]; rfl
      have c0 := K5.out.blk.cell 0
      have c1 := K5.out.blk.cell 1
      have f0 := K5.out.blk.frozen 0
      have f1 := K5.out.blk.frozen 1
      have ly := K5.out.blk.lt
      have y1 := X5.out.cell 1
      obtain ⟨n', hn'⟩ : ∃ n' : Nat, n = (n' : Int) := ⟨n.toNat, by omega⟩
      have hnt : n.toNat = n' := by omega
      have FIN : Hid (DidW h (.slice As ls cs) (.slice Al ll cl) { W.fallen with safe := (W.safe ++ W.loose).take n.toNat, loose := [] } w ((w5.setCell ⟨h, 0, none⟩ (.slice Aq n' cq)).setCell ⟨h, 1, none⟩ (.slice none 0 0))) := Lib.hid (by
        rw [hnt]
        exact trimS OK.out NX.out (fun i hi => LQ.out i (by cases Aq <;> simp_all [Value.ownBlock])) HX.out K5.out.toTwB (Q5.out.take (by rw [← NQ.out]; omega)) F5.out)
      clear hnt
      subst hn'
      rcases Q5.out.form with ⟨hv, hq0⟩ | ⟨gq, cq', hv, hcq⟩
      · injection hv with v1 v2 v3
        subst v1 v2 v3
        obtain rfl : n' = 0 := by omega
        go_wp2
        go_ret
        refine ⟨ret_int (by rw [NW.out.1, e2]; rfl), ?_⟩
        rw [NW.out.2, e3]
        exact FIN.out
      · rw [← NQ.out] at hv hcq
        injection hv with v1 v2 v3
        subst v1 v3
        go_wp2
        go_ret
        refine ⟨ret_int (by rw [NW.out.1, e2]; rfl), ?_⟩
        rw [NW.out.2, e3]
        exact FIN.out
    · have e2 : (if W.fallsE = true then 40 else 0) = 40 := by rw [hf]; rfl
      have e3 : (if W.fallsE = true then W.fallen else { W.fallen with safe := (W.safe ++ W.loose).take n.toNat, loose := [] }) = W.fallen := by rw [hf]; rfl
      go_wp2
      go_ret
      refine ⟨ret_int (by rw [NW.out.1, e2]; rfl), ?_⟩
      rw [NW.out.2, e3]
      exact DidW.same K5.out F5.out
end Go.Proofs.Ytjnhjpjebklalaa
