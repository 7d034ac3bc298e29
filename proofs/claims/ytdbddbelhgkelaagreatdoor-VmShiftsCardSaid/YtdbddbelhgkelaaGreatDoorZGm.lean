/- The writer: nodes. -/
import Derived.Test.YtdbddbelhgkelaaGreatDoorZGm0
namespace Go.Proofs.YtdbddbelhgkelaaGreatDoor
open Go.RowKit
open Go.Proofs.YtdbddbelhgkelaaGreatDoor.Cl (Rg SetV SetAt rgCells info_three)
variable {w w' w0 : World} {n₀ wb lp lp' base : Nat} {fo : Bool} {M : List In} {G : Int}

set_option maxRecDepth 100000 in
set_option maxHeartbeats 1000000 in
theorem node_step (hG : G ≤ 1000) (n : Nat) (ihR : RowG n₀ wb fo G n) (ihA : ChoiceG n₀ wb fo G n) : NodeC n₀ wb fo G (n + 1) := by
  have hRep := repeat_step n ihR
  have hLook := look_step n ihR
  intro nd hx w M A1 A2 p1 p2 hE hN hW hlen
  have hkids := hx.kids
  obtain ⟨hlow1, hlow2⟩ := Wr.low hW
  obtain ⟨b, off, hkv, hm⟩ := NodeB.kids hN
  have HRow := Lib.hid (fun W M' (h1 : Env5 n₀ W) (h2 : KidsB n₀ W nd.kids A2 b off) (h3 : Wm n₀ wb fo W M') h4 => ihR nd.kids hkids hm W M' A2 p2 b off h1 h2 h3 h4)
  have HAlt := Lib.hid (fun hne W M' (h1 : Env5 n₀ W) (h2 : KidsB n₀ W nd.kids A2 b off) (h3 : Wm n₀ wb fo W M') h4 => ihA nd.kids hkids hne hm W M' A2 p2 b off h1 h2 h3 h4)
  have HRep := Lib.hid (fun (hok : repOk nd) W M' (h1 : Env5 n₀ W) (h2 : NodeB n₀ W nd A1 A2 p1 p2) (h3 : Wm n₀ wb fo W M') h4 => hRep nd hok hkids W M' A1 A2 p1 p2 h1 h2 h3 h4)
  have HLook := Lib.hid (fun (hok : lookOk nd) W M' (h1 : Env5 n₀ W) (h2 : NodeB n₀ W nd A1 A2 p1 p2) (h3 : Wm n₀ wb fo W M') h4 => hLook nd hok hkids W M' A1 A2 p1 p2 h1 h2 h3 h4)
  have HClo := Lib.hid (fun W bw bn (h1 : Env5 n₀ W) (h2 : NodeB n₀ W nd A1 A2 p1 p2) M' (h3 : Wm n₀ wb fo W M') h4 h5 h6 => lookClo n ihR hkids h1 h2 h3 h4 h5 h6 (bw := bw) (bn := bn) (.inr rfl))
  have HE := Lib.hid hE
  have HN := Lib.hid hN
  have HK := Lib.hid hkv
  have HX := Lib.hid hx
  have hsh := hx.wf.shape
  have hb0 := (Below.refl w.heap.size w).alloc (Nat.le_refl _) (.cells #[.pointer (some ⟨wb, 0, none⟩)] 137)
  have hs0 : (w.alloc (.cells #[.pointer (some ⟨wb, 0, none⟩)] 137)).heap.size = w.heap.size + 1 := by simp
  have hb1 := hb0.alloc (by omega) (.cells #[.int .i64 nd.kind, .int .i64 nd.lo, .int .i64 nd.hi, .int .i64 nd.mode, .int .i64 nd.ref, .slice A1 nd.set.length p1, .slice A2 nd.kids.length p2] 27)
  have HBw := Lib.hid ((Blk.new w 137 #[.pointer (some ⟨wb, 0, none⟩)]).alloc (.cells #[.int .i64 nd.kind, .int .i64 nd.lo, .int .i64 nd.hi, .int .i64 nd.mode, .int .i64 nd.ref, .slice A1 nd.set.length p1, .slice A2 nd.kids.length p2] 27))
  have HBn := Lib.hid (Blk.new (w.alloc (.cells #[.pointer (some ⟨wb, 0, none⟩)] 137)) 27 #[.int .i64 nd.kind, .int .i64 nd.lo, .int .i64 nd.hi, .int .i64 nd.mode, .int .i64 nd.ref, .slice A1 nd.set.length p1, .slice A2 nd.kids.length p2])
  rw [hs0] at HBn
  have HW0 := Lib.hid (hW.on hb1)
  have HF0 := Lib.hid (FrW.of_below (n₀ := n₀) (wb := wb) hb1)
  have HCo := Lib.hid (nd_code fo nd)
  have hWm := Lib.hid hW
  clear hs0 hE hN hW hkv ihR ihA hkids hx hRep hLook hb0
  unfold shapeOk at hsh
  rcases hsh with ⟨hkd, hsh⟩ | ⟨hkd, hsh⟩ | ⟨hkd, hsh⟩ | ⟨hkd, hsh⟩ | ⟨hkd, hsh⟩ | ⟨hkd, hsh⟩ | ⟨hkd, hsh⟩ | ⟨hkd, hsh⟩ | ⟨hkd, hsh⟩ | ⟨hkd, hsh⟩
  · have HKd := Lib.hid hkd
    have HSh := Lib.hid hsh
    rw [hkd] at HBn HBw hb1 HW0 HF0 HCo ⊢
    clear hkd hsh
    rw [show code fo nd = [] by rw [HCo.out, cF0], app_nil]
    go_enter Tryz.func68, Tryz.ntmps68
    go_upto_region 1 with (fail)
    generalize (w.alloc _).alloc _ = W at *
    have hs1 := hb1.size
    have h7 := HBn.out.c7
    have c0 := HBw.out.cell 0
    simp at c0
    have HW1 := HW0
    have HF1 := HF0
    clear h7 c0
    have h7 := HBn.out.c7
    go_wp2
    exact ⟨rfl, .tuple #[], by simp [results, Tryz.results68, go_sem], rfl, HW1.out, HF1.out⟩
  · rw [hkd]
    exact node_unit (n + 1) HX.out hkd HE.out HN.out (hWm.out) hlen
  · have HKd := Lib.hid hkd
    have HSh := Lib.hid hsh
    rw [hkd] at HBn HBw hb1 HW0 HF0 HCo ⊢
    clear hkd hsh
    rw [show code fo nd = rowC (nd.kids.map (code fo)) by rw [HCo.out, cF2]]
    have hc1 : M.length + (rowC (nd.kids.map (code fo))).length ≤ 90000 := by have := hlen; rw [HCo.out, cF2] at this; exact this
    go_enter Tryz.func68, Tryz.ntmps68
    go_upto_region 1 with (fail)
    generalize (w.alloc _).alloc _ = W at *
    have hs1 := hb1.size
    have h7 := HBn.out.c7
    have c0 := HBw.out.cell 0
    simp at c0
    have HC := Lib.hid (HRow.out W M (HE.out.low (HF0.out.old (by omega))) (HK.out.low (HF0.out.old (by omega))) HW0.out hc1)
    go_wp2_with fail
    refine HC.out.mono ?_
    rintro e w1 ⟨rfl, hW1, hF1⟩
    have HW1 := Lib.hid hW1
    have HF1 := Lib.hid (HF0.out.trans hF1)
    clear hW1 hF1 h7 c0
    go_wp2
    exact ⟨rfl, .tuple #[], by simp [results, Tryz.results68, go_sem], rfl, HW1.out, HF1.out⟩
  · have HKd := Lib.hid hkd
    have HSh := Lib.hid hsh
    rw [hkd] at HBn HBw hb1 HW0 HF0 HCo ⊢
    clear hkd hsh
    rw [show code fo nd = altC (nd.kids.map (code fo)) by rw [HCo.out, cF3]]
    have hc1 : M.length + (altC (nd.kids.map (code fo))).length ≤ 90000 := by have := hlen; rw [HCo.out, cF3] at this; exact this
    have hne : nd.kids ≠ [] := by have hsh := HSh.out; intro e; rw [e] at hsh; simp at hsh
    go_enter Tryz.func68, Tryz.ntmps68
    go_upto_region 1 with (fail)
    generalize (w.alloc _).alloc _ = W at *
    have hs1 := hb1.size
    have h7 := HBn.out.c7
    have c0 := HBw.out.cell 0
    simp at c0
    have HC := Lib.hid (HAlt.out hne W M (HE.out.low (HF0.out.old (by omega))) (HK.out.low (HF0.out.old (by omega))) HW0.out hc1)
    go_wp2_with fail
    refine HC.out.mono ?_
    rintro e w1 ⟨rfl, hW1, hF1⟩
    have HW1 := Lib.hid hW1
    have HF1 := Lib.hid (HF0.out.trans hF1)
    clear hW1 hF1 h7 c0
    go_wp2
    exact ⟨rfl, .tuple #[], by simp [results, Tryz.results68, go_sem], rfl, HW1.out, HF1.out⟩
  · have HKd := Lib.hid hkd
    have HSh := Lib.hid hsh
    rw [hkd] at HBn HBw hb1 HW0 HF0 HCo ⊢
    clear hkd hsh
    have hrep : code fo nd = repG fo nd := by
      rw [HCo.out]
      unfold repG
      by_cases h2 : nd.mode = 2
      · rw [if_pos h2, h2, cF42]
        exact congrArg _ (by unfold timesN restC kidsC timesC; rw [h2]; rfl)
      · rw [if_neg h2, cF4 _ _ _ _ _ _ _ _ _ h2]
        unfold timesN restC kidsC timesC
        rfl
    rw [hrep]
    have hc1 : M.length + (repG fo nd).length ≤ 90000 := by rw [← hrep]; exact hlen
    have hok : repOk nd := by have hsh := HSh.out; exact ⟨⟨by omega, by omega, by omega, by omega⟩, by omega, by omega⟩
    clear hrep
    go_enter Tryz.func68, Tryz.ntmps68
    go_upto_region 1 with (fail)
    generalize (w.alloc _).alloc _ = W at *
    have hs1 := hb1.size
    have h7 := HBn.out.c7
    have c0 := HBw.out.cell 0
    simp at c0
    have HC := Lib.hid (HRep.out hok W M (HE.out.low (HF0.out.old (by omega))) (HN.out.lowB (HF0.out.old (by omega))) HW0.out hc1)
    rw [HKd.out] at HC
    go_wp2_with fail
    refine HC.out.mono ?_
    rintro e w1 ⟨rfl, hW1, hF1⟩
    have HW1 := Lib.hid hW1
    have HF1 := Lib.hid (HF0.out.trans hF1)
    clear hW1 hF1 h7 c0
    go_wp2
    exact ⟨rfl, .tuple #[], by simp [results, Tryz.results68, go_sem], rfl, HW1.out, HF1.out⟩
  · have HKd := Lib.hid hkd
    have HSh := Lib.hid hsh
    rw [hkd] at HBn HBw hb1 HW0 HF0 HCo ⊢
    clear hkd hsh
    have hco : code fo nd = app [saveI (2 * nd.ref)] (app (rowC (nd.kids.map (code fo))) [saveI (2 * nd.ref + 1)]) := by rw [HCo.out, cF5]
    have hcl : (code fo nd).length = (rowC (nd.kids.map (code fo))).length + 2 := by rw [hco, app_len, app_len]; simp; omega
    have hlen' := hlen
    rw [hcl] at hlen'
    have HFin : Hid (app (M ++ [saveI (2 * nd.ref)]) (rowC (nd.kids.map (code fo))) ++ [saveI (2 * nd.ref + 1)] = app M (code fo nd)) := Lib.hid (by
      rw [hco, ← app_assoc, ← app_assoc, app_one M (saveI (2 * nd.ref)) (.inr (.inr (.inl rfl))), app_one _ (saveI (2 * nd.ref + 1)) (.inr (.inr (.inl rfl)))])
    have hr := HX.out.wn.ref5 HKd.out
    rw [← HFin.out]
    clear hco hcl
    go_enter Tryz.func68, Tryz.ntmps68
    go_upto_region 1 with (fail)
    generalize (w.alloc _).alloc _ = W at *
    have hs1 := hb1.size
    have h7 := HBn.out.c7
    have c0 := HBw.out.cell 0
    simp at c0
    generalize rowC (nd.kids.map (code fo)) = X at *
    have HP := Lib.hid (put_i 4 (2 * nd.ref) 0 0 0 HW0.out (by omega))
    go_wp2_with fail
    refine HP.out.mono ?_
    rintro e w2 ⟨rfl, hW2, hF2⟩
    have hs2 := hF2.size
    have HB2 := Lib.hid (hF2.blk HBn.out (by decide) (by omega))
    have HBw2 := Lib.hid (hF2.blk HBw.out (by decide) (by omega))
    have HF2 := Lib.hid (HF0.out.trans hF2)
    have HW2 : Hid (Wm n₀ wb fo w2 (M ++ [saveI (2 * nd.ref)])) := Lib.hid (by unfold Wm; rw [marks_snoc _ _ (show (4 : Int) ≠ 10 by decide)]; exact hW2)
    clear hW2 hF2 HP h7 c0
    have h7 := HB2.out.c7
    have c0 := HBw2.out.cell 0
    simp at c0
    have HC := Lib.hid (HRow.out w2 _ (HE.out.low (HF2.out.old (by omega))) (HK.out.low (HF2.out.old (by omega))) HW2.out (by rw [List.length_append]; simp; omega))
    go_wp2_with fail
    refine HC.out.mono ?_
    rintro e w3 ⟨rfl, hW3, hF3⟩
    have hs3 := hF3.size
    have HB3 := Lib.hid (hF3.blk HB2.out (by decide) (by omega))
    have HBw3 := Lib.hid (hF3.blk HBw2.out (by decide) (by omega))
    have HF3 := Lib.hid (HF2.out.trans hF3)
    have HW3 := Lib.hid hW3
    clear hW3 hF3 HC h7 c0
    have h7 := HB3.out.c7
    have c0 := HBw3.out.cell 0
    simp at c0
    have HP := Lib.hid (put_i 4 (2 * nd.ref + 1) 0 0 0 HW3.out (by rw [app_len, List.length_append]; simp; omega))
    go_wp2_with fail
    refine HP.out.mono ?_
    rintro e w4 ⟨rfl, hW4, hF4⟩
    have HF1 := Lib.hid (HF3.out.trans hF4)
    have HW1 : Hid (Wm n₀ wb fo w4 (app (M ++ [saveI (2 * nd.ref)]) X ++ [saveI (2 * nd.ref + 1)])) := Lib.hid (by unfold Wm; rw [marks_snoc _ (saveI (2 * nd.ref + 1)) (show (4 : Int) ≠ 10 by decide)]; exact hW4)
    clear hW4 hF4 HP h7 c0
    go_wp2
    exact ⟨rfl, .tuple #[], by simp [results, Tryz.results68, go_sem], rfl, HW1.out, HF1.out⟩
  · have HKd := Lib.hid hkd
    have HSh := Lib.hid hsh
    rw [hkd] at HBn HBw hb1 HW0 HF0 HCo ⊢
    clear hkd hsh
    rw [show code fo nd = [backI fo nd.ref] by rw [HCo.out, cF6], app_one M (backI fo nd.ref) (.inr (.inr (.inr (.inl rfl))))]
    have hc1 : M.length + 1 ≤ 90000 := by have := hlen; rw [HCo.out, cF6] at this; exact this
    go_enter Tryz.func68, Tryz.ntmps68
    go_upto_region 1 with (fail)
    generalize (w.alloc _).alloc _ = W at *
    have hs1 := hb1.size
    have h7 := HBn.out.c7
    have c0 := HBw.out.cell 0
    simp at c0
    have HC := Lib.hid (back_any nd.ref HW0.out (by omega))
    have hmk : marks (M ++ [backI fo nd.ref]) = marks M := marks_snoc _ _ (show (5 : Int) ≠ 10 by decide)
    rw [← hmk] at HC
    clear hmk
    go_wp2_with fail
    refine HC.out.mono ?_
    rintro e w1 ⟨rfl, hW1, hF1⟩
    have HW1 := Lib.hid hW1
    have HF1 := Lib.hid (HF0.out.trans hF1)
    clear hW1 hF1 h7 c0
    go_wp2
    exact ⟨rfl, .tuple #[], by simp [results, Tryz.results68, go_sem], rfl, HW1.out, HF1.out⟩
  · have HKd := Lib.hid hkd
    have HSh := Lib.hid hsh
    rw [hkd] at HBn HBw hb1 HW0 HF0 HCo ⊢
    clear hkd hsh
    have hco : code fo nd = lookN fo nd := by rw [HCo.out, cF7]; rfl
    rw [hco]
    have hc1 : M.length + (lookN fo nd).length ≤ 90000 := by rw [← hco]; exact hlen
    have hok : lookOk nd := by have hsh := HSh.out; exact ⟨fun x hx => (HX.out.kids x hx).wf, by omega, by omega⟩
    clear hco
    go_enter Tryz.func68, Tryz.ntmps68
    go_upto_region 1 with (fail)
    generalize (w.alloc _).alloc _ = W at *
    have hs1 := hb1.size
    have h7 := HBn.out.c7
    have c0 := HBw.out.cell 0
    simp at c0
    have HC := Lib.hid (HLook.out hok W M (HE.out.low (HF0.out.old (by omega))) (HN.out.lowB (HF0.out.old (by omega))) HW0.out hc1)
    rw [HKd.out] at HC
    go_wp2_with fail
    refine HC.out.mono ?_
    rintro e w1 ⟨rfl, hW1, hF1⟩
    have HW1 := Lib.hid hW1
    have HF1 := Lib.hid (HF0.out.trans hF1)
    clear hW1 hF1 h7 c0
    go_wp2
    exact ⟨rfl, .tuple #[], by simp [results, Tryz.results68, go_sem], rfl, HW1.out, HF1.out⟩
  · have HKd := Lib.hid hkd
    have HSh := Lib.hid hsh
    rw [hkd] at HBn HBw hb1 HW0 HF0 HCo ⊢
    clear hkd hsh
    have hco : code fo nd = withinC (.i 8 0 0 0 0) (kidsC fo nd) := by rw [HCo.out, cF8]; rfl
    have hcl : (code fo nd).length = (kidsC fo nd).length + 2 := by rw [hco]; have := withinC_len (.i 8 0 0 0 0) (kidsC fo nd); unfold len at this; omega
    have hlen' := hlen
    rw [hcl] at hlen'
    rw [hco]
    clear hco hcl
    go_enter Tryz.func68, Tryz.ntmps68
    go_upto_region 1 with (fail)
    generalize (w.alloc _).alloc _ = W at *
    have hs1 := hb1.size
    have h7 := HBn.out.c7
    have c0 := HBw.out.cell 0
    simp at c0
    have HC := Lib.hid (within_code (w := W) (M := M) (p1 := .pointer (some ⟨w.heap.size, 0, none⟩)) (p2 := .pointer (some ⟨w.heap.size + 1, 0, none⟩)) (.inl rfl) 8 0 0 0 (.inr rfl) (kidsC fo nd) HW0.out (by omega) (fun W' hW' hF' =>
      HClo.out W' _ _ (HE.out.low ((HF0.out.trans hF').old (by omega))) (HN.out.lowB ((HF0.out.trans hF').old (by omega))) _ hW' (by rw [List.length_append]; simp; omega) (hF'.blk HBw.out (by decide) (by omega)) (by rw [HKd.out]; exact hF'.blk HBn.out (by decide) (by omega))))
    go_wp2_with fail
    refine HC.out.mono ?_
    rintro e w1 ⟨rfl, hW1, hF1⟩
    have HW1 := Lib.hid hW1
    have HF1 := Lib.hid (HF0.out.trans hF1)
    clear hW1 hF1 h7 c0
    go_wp2
    exact ⟨rfl, .tuple #[], by simp [results, Tryz.results68, go_sem], rfl, HW1.out, HF1.out⟩
  · have HKd := Lib.hid hkd
    have HSh := Lib.hid hsh
    rw [hkd] at HBn HBw hb1 HW0 HF0 HCo ⊢
    clear hkd hsh
    rw [show code fo nd = [.i 6 nd.ref 0 0 0] by rw [HCo.out, cF9], app_one M (.i 6 nd.ref 0 0 0) (.inr (.inr (.inr (.inr (.inl rfl)))))]
    have hc1 : M.length + 1 ≤ 90000 := by have := hlen; rw [HCo.out, cF9] at this; exact this
    go_enter Tryz.func68, Tryz.ntmps68
    go_upto_region 1 with (fail)
    generalize (w.alloc _).alloc _ = W at *
    have hs1 := hb1.size
    have h7 := HBn.out.c7
    have c0 := HBw.out.cell 0
    simp at c0
    have HP := Lib.hid (put_i 6 nd.ref 0 0 0 HW0.out (by omega))
    go_wp2_with fail
    refine HP.out.mono ?_
    rintro e w4 ⟨rfl, hW4, hF4⟩
    have HF1 := Lib.hid (HF0.out.trans hF4)
    have HW1 : Hid (Wm n₀ wb fo w4 (M ++ [.i 6 nd.ref 0 0 0])) := Lib.hid (by unfold Wm; rw [marks_snoc _ (.i 6 nd.ref 0 0 0) (show (6 : Int) ≠ 10 by decide)]; exact hW4)
    clear hW4 hF4 HP h7 c0
    go_wp2
    exact ⟨rfl, .tuple #[], by simp [results, Tryz.results68, go_sem], rfl, HW1.out, HF1.out⟩

end Go.Proofs.YtdbddbelhgkelaaGreatDoor
