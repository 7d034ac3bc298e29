/- Joined: LdG1, LdG2, LdG3, LdG4, LdG5. -/
import Derived.Test.YtefgobmpleoafaaGreatLdF
import Derived.Test.YtefgobmpleoafaaGreatLdB
/- Layer 13: what comes of a state by a record. (Written by genLdG.py.) -/
namespace Go.Proofs.YtefgobmpleoafaaGreat
open Go.RowKit
variable {w w' : World} {S : Nat → Prop}

set_option maxRecDepth 100000 in
set_option maxHeartbeats 8000000 in
theorem chg1_any (vi no co ac k a b : Int) (A B : Option Addr) (n c m d : Nat) (l rl : List En) (w : World) (hk : k = 1) (hl : LogV S w (.slice A n c) l) (hr : LogV S w (.slice B m d) rl) (hS : ∀ i, S i → i < w.heap.size) :
    Calls Tryz.prog 38 #[.agg #[.int .i64 vi, .int .i64 no, .int .i64 co, .int .i64 ac, .slice A n c], .agg #[.int .i64 k, .int .i64 a, .int .i64 b, .slice B m d]] w fun e w' => ∃ A' n' c', e = .returned (.agg #[.int .i64 a, .int .i64 b, .int .i64 co, .int .i64 ac, .slice A' n' c']) ∧ LogV S w' (.slice A' n' c') l ∧ n' = (l).length ∧ Below w.heap.size w w' := by
  subst hk
  have b0 : Below w.heap.size w (((w.alloc (.cells #[.int .i64 vi, .int .i64 no, .int .i64 co, .int .i64 ac, .slice A n c] 41)).alloc (.cells #[.int .i64 1, .int .i64 a, .int .i64 b, .slice B m d] 82)).alloc (.cells #[.int .i64 0, .int .i64 0, .int .i64 0, .int .i64 0, .slice none 0 0] 41)) := (((Below.refl _ _).alloc (Nat.le_refl _) _).alloc (by simp) _).alloc (by simp; omega) _
  have HX : Hid (Blk (((w.alloc (.cells #[.int .i64 vi, .int .i64 no, .int .i64 co, .int .i64 ac, .slice A n c] 41)).alloc (.cells #[.int .i64 1, .int .i64 a, .int .i64 b, .slice B m d] 82)).alloc (.cells #[.int .i64 0, .int .i64 0, .int .i64 0, .int .i64 0, .slice none 0 0] 41)) w.heap.size 41 #[.int .i64 vi, .int .i64 no, .int .i64 co, .int .i64 ac, .slice A n c]) := Lib.hid (((Blk.new _ _ _).alloc _).alloc _)
  have HR : Hid (Blk (((w.alloc (.cells #[.int .i64 vi, .int .i64 no, .int .i64 co, .int .i64 ac, .slice A n c] 41)).alloc (.cells #[.int .i64 1, .int .i64 a, .int .i64 b, .slice B m d] 82)).alloc (.cells #[.int .i64 0, .int .i64 0, .int .i64 0, .int .i64 0, .slice none 0 0] 41)) (w.heap.size + 1) 82 #[.int .i64 1, .int .i64 a, .int .i64 b, .slice B m d]) := Lib.hid ((Blk.at_new _ _ (by simp) _ _).alloc _)
  have HZ : Hid (Blk (((w.alloc (.cells #[.int .i64 vi, .int .i64 no, .int .i64 co, .int .i64 ac, .slice A n c] 41)).alloc (.cells #[.int .i64 1, .int .i64 a, .int .i64 b, .slice B m d] 82)).alloc (.cells #[.int .i64 0, .int .i64 0, .int .i64 0, .int .i64 0, .slice none 0 0] 41)) (w.heap.size + 2) 41 #[.int .i64 0, .int .i64 0, .int .i64 0, .int .i64 0, .slice none 0 0]) := Lib.hid (Blk.at_new _ _ (by simp) _ _)
  have hs0 : (((w.alloc (.cells #[.int .i64 vi, .int .i64 no, .int .i64 co, .int .i64 ac, .slice A n c] 41)).alloc (.cells #[.int .i64 1, .int .i64 a, .int .i64 b, .slice B m d] 82)).alloc (.cells #[.int .i64 0, .int .i64 0, .int .i64 0, .int .i64 0, .slice none 0 0] 41)).heap.size = w.heap.size + 3 := by simp
  have hn : n = l.length := by obtain ⟨_, _, h⟩ := hl.form; injection h
  have HN := Lib.hid hn
  have HL := Lib.hid hl
  have HRL := Lib.hid hr
  have HSS := Lib.hid hS
  clear hl hr hS hn
  go_enter Tryz.func38, Tryz.ntmps38
  go_upto_region 1 with (fail)
  generalize ((w.alloc _).alloc _).alloc _ = wx at *
  have B5 : Hid (Below w.heap.size w wx) := Lib.hid b0
  have LX : Hid (LogV S wx (.slice A n c) l) := Lib.hid (HL.out.on b0)
  have LR : Hid (LogV S wx (.slice B m d) rl) := Lib.hid (HRL.out.on b0)
  have r0 := HR.out.cell 0
  have r1 := HR.out.cell 1
  have r2 := HR.out.cell 2
  have r3 := HR.out.cell 3
  have x0 := HX.out.cell 0
  have x1 := HX.out.cell 1
  have x2 := HX.out.cell 2
  have x3 := HX.out.cell 3
  have x4 := HX.out.cell 4
  have xf := HX.out.frozen
  have z0 := HZ.out.cell 0
  have z1 := HZ.out.cell 1
  have z2 := HZ.out.cell 2
  have z3 := HZ.out.cell 3
  have z4 := HZ.out.cell 4
  have zf := HZ.out.frozen
  have hx : w.heap.size < wx.heap.size := by omega
  have hr : w.heap.size + 1 < wx.heap.size := by omega
  have hz : w.heap.size + 2 < wx.heap.size := by omega
  have HS0 := Lib.hid hs0
  clear b0 hs0
  go_upto_region 3 with (fail)
  refine wp_region_held_drew (S := fun w' => Blk w' (w.heap.size + 1) 82 #[.int .i64 1, .int .i64 a, .int .i64 b, .slice B m d]) (by kernel_rfl) HR.out (fun hHeld => ?_)
  have xd0 : wx.drew.cell? ⟨w.heap.size, 0, none⟩ = some (.int .i64 vi) := x0
  have xd1 : wx.drew.cell? ⟨w.heap.size, 1, none⟩ = some (.int .i64 no) := x1
  have xd2 : wx.drew.cell? ⟨w.heap.size, 2, none⟩ = some (.int .i64 co) := x2
  have xd3 : wx.drew.cell? ⟨w.heap.size, 3, none⟩ = some (.int .i64 ac) := x3
  have xd4 : wx.drew.cell? ⟨w.heap.size, 4, none⟩ = some (.slice A n c) := x4
  have xdf : ∀ i, wx.drew.frozen? ⟨w.heap.size, i, none⟩ = false := xf
  have zd0 : wx.drew.cell? ⟨w.heap.size + 2, 0, none⟩ = some (.int .i64 0) := z0
  have zd1 : wx.drew.cell? ⟨w.heap.size + 2, 1, none⟩ = some (.int .i64 0) := z1
  have zd2 : wx.drew.cell? ⟨w.heap.size + 2, 2, none⟩ = some (.int .i64 0) := z2
  have zd3 : wx.drew.cell? ⟨w.heap.size + 2, 3, none⟩ = some (.int .i64 0) := z3
  have zd4 : wx.drew.cell? ⟨w.heap.size + 2, 4, none⟩ = some (.slice none 0 0) := z4
  have zdf : ∀ i, wx.drew.frozen? ⟨w.heap.size + 2, i, none⟩ = false := zf
  have hxd : w.heap.size < wx.drew.heap.size := hx
  have hzd : w.heap.size + 2 < wx.drew.heap.size := hz
  have B6 : Hid (Below w.heap.size w wx.drew) := Lib.hid (Below.drewN' B5.out 1)
  have L6 : Hid (LogV S wx.drew (.slice A n c) l) := Lib.hid LX.out.drew
  have HRd : Hid (Blk wx.drew (w.heap.size + 1) 82 #[.int .i64 1, .int .i64 a, .int .i64 b, .slice B m d]) := Lib.hid HR.out
  generalize wx.drew = wd at *
  refine take_d 0 9 (.pointer (some ⟨w.heap.size + 1, 1, none⟩)) _ rfl rfl (by kernel_rfl) (by kernel_rfl) (by kernel_rfl) (fun _ _ _ h => h) (Or.inl ⟨by rfl, fun w' hSw => ?_⟩) hHeld ?_
  · go_simp
  simp only [List.setIfInBounds_toArray, List.set_cons_zero, List.set_cons_succ]
  refine take_d 1 10 (.int .i64 a) _ rfl rfl (by kernel_rfl) (by kernel_rfl) (by kernel_rfl) (fun _ _ _ h => h) (Or.inl ⟨by rfl, fun w' hSw => ?_⟩) hHeld ?_
  · have q := Blk.cell hSw 1
    go_simp
  simp only [List.setIfInBounds_toArray, List.set_cons_zero, List.set_cons_succ]
  refine take_d 2 11 (.pointer (some ⟨w.heap.size + 1, 2, none⟩)) _ rfl rfl (by kernel_rfl) (by kernel_rfl) (by kernel_rfl) (fun _ _ _ h => h) (Or.inl ⟨by rfl, fun w' hSw => ?_⟩) hHeld ?_
  · go_simp
  simp only [List.setIfInBounds_toArray, List.set_cons_zero, List.set_cons_succ]
  refine take_d 3 12 (.int .i64 b) _ rfl rfl (by kernel_rfl) (by kernel_rfl) (by kernel_rfl) (fun _ _ _ h => h) (Or.inl ⟨by rfl, fun w' hSw => ?_⟩) hHeld ?_
  · have q := Blk.cell hSw 2
    go_simp
  simp only [List.setIfInBounds_toArray, List.set_cons_zero, List.set_cons_succ]
  refine take_d 4 13 (.pointer (some ⟨w.heap.size, 0, none⟩)) _ rfl rfl (by kernel_rfl) (by kernel_rfl) (by kernel_rfl) (fun _ _ _ h => h) (Or.inl ⟨by rfl, fun w' hSw => ?_⟩) hHeld ?_
  · go_simp
  simp only [List.setIfInBounds_toArray, List.set_cons_zero, List.set_cons_succ]
  refine wpAnyH_ready (rs := [5]) (by kernel_rfl) (by simp) ?_
  refine AllReadyH.cons rfl (fun K hK => ?_) AllReadyH.nil
  go_simp
  refine hK.out _ _ (Blk.far hHeld (p := ⟨w.heap.size, 0, none⟩) (by simp) _) (fun hHeld => ?_)
  clear hK K
  refine take_d 6 14 (.pointer (some ⟨w.heap.size, 1, none⟩)) _ rfl rfl (by kernel_rfl) (by kernel_rfl) (by kernel_rfl) (fun _ _ _ h => h) (Or.inl ⟨by rfl, fun w' hSw => ?_⟩) hHeld ?_
  · go_simp
  simp only [List.setIfInBounds_toArray, List.set_cons_zero, List.set_cons_succ]
  refine wpAnyH_ready (rs := [7]) (by kernel_rfl) (by simp) ?_
  refine AllReadyH.cons rfl (fun K hK => ?_) AllReadyH.nil
  go_simp
  refine hK.out _ _ (Blk.far hHeld (p := ⟨w.heap.size, 1, none⟩) (by simp) _) (fun hHeld => ?_)
  clear hK K
  refine wpAnyH_done (by kernel_rfl) ?_ _
  go_wp2
  have hB := ((((((((((((B6.out.setCell (p := ⟨w.heap.size, 0, none⟩) (Nat.le_refl _) (.int .i64 a)).setCell (p := ⟨w.heap.size, 1, none⟩) (Nat.le_refl _) (.int .i64 b))).setCell (p := ⟨w.heap.size + 2, 0, none⟩) (by simp) (.int .i64 a))).setCell (p := ⟨w.heap.size + 2, 1, none⟩) (by simp) (.int .i64 b))).setCell (p := ⟨w.heap.size + 2, 2, none⟩) (by simp) (.int .i64 co))).setCell (p := ⟨w.heap.size + 2, 3, none⟩) (by simp) (.int .i64 ac))).setCell (p := ⟨w.heap.size + 2, 4, none⟩) (by simp) (.slice A n c))
  refine bodyPost_ret (v := .agg #[.int .i64 a, .int .i64 b, .int .i64 co, .int .i64 ac, .slice A n c]) (by simp [results, Tryz.results38, go_sem, *]) rfl ⟨A, n, c, rfl, ?_, HN.out, hB⟩
  exact HL.out.on hB
end Go.Proofs.YtefgobmpleoafaaGreat

/- Layer 13: what comes of a state by a record. (Written by genLdG.py.) -/
namespace Go.Proofs.YtefgobmpleoafaaGreat
open Go.RowKit
variable {w w' : World} {S : Nat → Prop}

set_option maxRecDepth 100000 in
set_option maxHeartbeats 8000000 in
theorem chg2_any (vi no co ac k a b : Int) (A B : Option Addr) (n c m d : Nat) (l rl : List En) (w : World) (hk : k = 2) (hl : LogV S w (.slice A n c) l) (hr : LogV S w (.slice B m d) rl) (hS : ∀ i, S i → i < w.heap.size) (hm1 : l.length ≤ 1000000) (hm2 : rl.length ≤ 1000000) :
    Calls Tryz.prog 38 #[.agg #[.int .i64 vi, .int .i64 no, .int .i64 co, .int .i64 ac, .slice A n c], .agg #[.int .i64 k, .int .i64 a, .int .i64 b, .slice B m d]] w fun e w' => ∃ A' n' c', e = .returned (.agg #[.int .i64 vi, .int .i64 no, .int .i64 co, .int .i64 ac, .slice A' n' c']) ∧ LogV S w' (.slice A' n' c') (l ++ rl) ∧ n' = ((l ++ rl)).length ∧ Below w.heap.size w w' := by
  subst hk
  have b0 : Below w.heap.size w (((w.alloc (.cells #[.int .i64 vi, .int .i64 no, .int .i64 co, .int .i64 ac, .slice A n c] 41)).alloc (.cells #[.int .i64 2, .int .i64 a, .int .i64 b, .slice B m d] 82)).alloc (.cells #[.int .i64 0, .int .i64 0, .int .i64 0, .int .i64 0, .slice none 0 0] 41)) := (((Below.refl _ _).alloc (Nat.le_refl _) _).alloc (by simp) _).alloc (by simp; omega) _
  have HX : Hid (Blk (((w.alloc (.cells #[.int .i64 vi, .int .i64 no, .int .i64 co, .int .i64 ac, .slice A n c] 41)).alloc (.cells #[.int .i64 2, .int .i64 a, .int .i64 b, .slice B m d] 82)).alloc (.cells #[.int .i64 0, .int .i64 0, .int .i64 0, .int .i64 0, .slice none 0 0] 41)) w.heap.size 41 #[.int .i64 vi, .int .i64 no, .int .i64 co, .int .i64 ac, .slice A n c]) := Lib.hid (((Blk.new _ _ _).alloc _).alloc _)
  have HR : Hid (Blk (((w.alloc (.cells #[.int .i64 vi, .int .i64 no, .int .i64 co, .int .i64 ac, .slice A n c] 41)).alloc (.cells #[.int .i64 2, .int .i64 a, .int .i64 b, .slice B m d] 82)).alloc (.cells #[.int .i64 0, .int .i64 0, .int .i64 0, .int .i64 0, .slice none 0 0] 41)) (w.heap.size + 1) 82 #[.int .i64 2, .int .i64 a, .int .i64 b, .slice B m d]) := Lib.hid ((Blk.at_new _ _ (by simp) _ _).alloc _)
  have HZ : Hid (Blk (((w.alloc (.cells #[.int .i64 vi, .int .i64 no, .int .i64 co, .int .i64 ac, .slice A n c] 41)).alloc (.cells #[.int .i64 2, .int .i64 a, .int .i64 b, .slice B m d] 82)).alloc (.cells #[.int .i64 0, .int .i64 0, .int .i64 0, .int .i64 0, .slice none 0 0] 41)) (w.heap.size + 2) 41 #[.int .i64 0, .int .i64 0, .int .i64 0, .int .i64 0, .slice none 0 0]) := Lib.hid (Blk.at_new _ _ (by simp) _ _)
  have hs0 : (((w.alloc (.cells #[.int .i64 vi, .int .i64 no, .int .i64 co, .int .i64 ac, .slice A n c] 41)).alloc (.cells #[.int .i64 2, .int .i64 a, .int .i64 b, .slice B m d] 82)).alloc (.cells #[.int .i64 0, .int .i64 0, .int .i64 0, .int .i64 0, .slice none 0 0] 41)).heap.size = w.heap.size + 3 := by simp
  have hn : n = l.length := by obtain ⟨_, _, h⟩ := hl.form; injection h
  have HN := Lib.hid hn
  have HL := Lib.hid hl
  have HRL := Lib.hid hr
  have HSS := Lib.hid hS
  clear hl hr hS hn
  go_enter Tryz.func38, Tryz.ntmps38
  go_upto_region 1 with (fail)
  generalize ((w.alloc _).alloc _).alloc _ = wx at *
  have B5 : Hid (Below w.heap.size w wx) := Lib.hid b0
  have LX : Hid (LogV S wx (.slice A n c) l) := Lib.hid (HL.out.on b0)
  have LR : Hid (LogV S wx (.slice B m d) rl) := Lib.hid (HRL.out.on b0)
  have r0 := HR.out.cell 0
  have r1 := HR.out.cell 1
  have r2 := HR.out.cell 2
  have r3 := HR.out.cell 3
  have x0 := HX.out.cell 0
  have x1 := HX.out.cell 1
  have x2 := HX.out.cell 2
  have x3 := HX.out.cell 3
  have x4 := HX.out.cell 4
  have xf := HX.out.frozen
  have z0 := HZ.out.cell 0
  have z1 := HZ.out.cell 1
  have z2 := HZ.out.cell 2
  have z3 := HZ.out.cell 3
  have z4 := HZ.out.cell 4
  have zf := HZ.out.frozen
  have hx : w.heap.size < wx.heap.size := by omega
  have hr : w.heap.size + 1 < wx.heap.size := by omega
  have hz : w.heap.size + 2 < wx.heap.size := by omega
  have HS0 := Lib.hid hs0
  clear b0 hs0
  obtain ⟨S2, hS2⟩ : ∃ S2 : Nat → Prop, S2 = fun i => S i ∨ i = w.heap.size ∨ i = w.heap.size + 2 := ⟨_, rfl⟩
  have L2 : LogV S2 wx (.slice A n c) l := (HL.out.sub (S' := S2) (fun i hi => by rw [hS2] at hi; rcases hi with hi | hi | hi <;> first | exact .inl hi | exact .inr (by omega))).on B5.out
  have R2 : LogV S2 wx (.slice B m d) rl := (HRL.out.sub (S' := S2) (fun i hi => by rw [hS2] at hi; rcases hi with hi | hi | hi <;> first | exact .inl hi | exact .inr (by omega))).on B5.out
  have hlt2 : ∀ i, S2 i → i < wx.heap.size := fun i hi => by rw [hS2] at hi; rcases hi with hi | hi | hi <;> first | omega | (have := HSS.out i hi; omega)
  have BA : Hid (∀ o, Below wx.heap.size wx (wx.alloc o)) := Lib.hid fun o => (Below.refl _ _).alloc (Nat.le_refl _) o
  have CC : Hid (Calls Tryz.prog 57 #[.slice (some ⟨wx.heap.size, 0, none⟩) 2 2] (wx.alloc (.cells #[.slice A n c, .slice B m d] 39)) fun e w' => ∃ A' c', e = .returned (.slice A' (l ++ rl).length c') ∧ LogV S2 w' (.slice A' (l ++ rl).length c') (l ++ rl) ∧ Below (wx.alloc (.cells #[.slice A n c, .slice B m d] 39)).heap.size (wx.alloc (.cells #[.slice A n c, .slice B m d] 39)) w') := Lib.hid
    (concat_any _ _ l rl _ _ (Blk.new _ _ _) (L2.alloc _) (R2.alloc _) (fun i hi => by have := hlt2 i hi; simp; omega) hm1 hm2)
  generalize hn9 : (l ++ rl).length = n9 at CC
  have HN9 := Lib.hid hn9
  have HS2 := Lib.hid hS2
  clear hn9 hm1 hm2 L2 R2 hlt2 hS2
  go_wp2_with fail
  refine CC.out.mono ?_
  rintro e w6 ⟨A9, c9, rfl, l9, b9⟩
  have b10 := (BA.out (.cells #[.slice A n c, .slice B m d] 39)).trans (b9.mono (by simp))
  have X6 := Lib.hid (HX.out.on b10)
  have Z6 := Lib.hid (HZ.out.on b10)
  have B6 := Lib.hid (B5.out.trans (b10.mono (by omega)))
  have L6 := Lib.hid l9
  have hs6 : wx.heap.size ≤ w6.heap.size := b10.size
  clear x0 x1 x2 x3 x4 xf z0 z1 z2 z3 z4 zf r0 r1 r2 r3 b9 b10 l9
  have x0 := X6.out.cell 0
  have x1 := X6.out.cell 1
  have x2 := X6.out.cell 2
  have x3 := X6.out.cell 3
  have x4 := X6.out.cell 4
  have xf := X6.out.frozen
  have z0 := Z6.out.cell 0
  have z1 := Z6.out.cell 1
  have z2 := Z6.out.cell 2
  have z3 := Z6.out.cell 3
  have z4 := Z6.out.cell 4
  have zf := Z6.out.frozen
  have hx6 : w.heap.size < w6.heap.size := by omega
  have hz6 : w.heap.size + 2 < w6.heap.size := by omega
  go_wp2
  have hB := (((((((((((B6.out.setCell (p := ⟨w.heap.size, 4, none⟩) (Nat.le_refl _) (.slice A9 n9 c9))).setCell (p := ⟨w.heap.size + 2, 0, none⟩) (by simp) (.int .i64 vi))).setCell (p := ⟨w.heap.size + 2, 1, none⟩) (by simp) (.int .i64 no))).setCell (p := ⟨w.heap.size + 2, 2, none⟩) (by simp) (.int .i64 co))).setCell (p := ⟨w.heap.size + 2, 3, none⟩) (by simp) (.int .i64 ac))).setCell (p := ⟨w.heap.size + 2, 4, none⟩) (by simp) (.slice A9 n9 c9))
  refine bodyPost_ret (v := .agg #[.int .i64 vi, .int .i64 no, .int .i64 co, .int .i64 ac, .slice A9 n9 c9]) (by simp [results, Tryz.results38, go_sem, *]) rfl ⟨A9, n9, c9, rfl, ?_, HN9.out.symm, hB⟩
  have hF : Fr S2 w6 ((((((w6.setCell ⟨w.heap.size, 4, none⟩ (.slice A9 n9 c9)).setCell ⟨w.heap.size + 2, 0, none⟩ (.int .i64 vi)).setCell ⟨w.heap.size + 2, 1, none⟩ (.int .i64 no)).setCell ⟨w.heap.size + 2, 2, none⟩ (.int .i64 co)).setCell ⟨w.heap.size + 2, 3, none⟩ (.int .i64 ac)).setCell ⟨w.heap.size + 2, 4, none⟩ (.slice A9 n9 c9)) := (((((((Fr.refl w6).set_ (q := ⟨w.heap.size, 4, none⟩) (.inl (by rw [HS2.out]; exact .inr (.inl rfl))) (.slice A9 n9 c9)).set_ (q := ⟨w.heap.size + 2, 0, none⟩) (.inl (by rw [HS2.out]; exact .inr (.inr rfl))) (.int .i64 vi)).set_ (q := ⟨w.heap.size + 2, 1, none⟩) (.inl (by rw [HS2.out]; exact .inr (.inr rfl))) (.int .i64 no)).set_ (q := ⟨w.heap.size + 2, 2, none⟩) (.inl (by rw [HS2.out]; exact .inr (.inr rfl))) (.int .i64 co)).set_ (q := ⟨w.heap.size + 2, 3, none⟩) (.inl (by rw [HS2.out]; exact .inr (.inr rfl))) (.int .i64 ac)).set_ (q := ⟨w.heap.size + 2, 4, none⟩) (.inl (by rw [HS2.out]; exact .inr (.inr rfl))) (.slice A9 n9 c9))
  exact (L6.out.next hF).sub fun i hi => .inl (by rw [HS2.out]; exact .inl hi)
end Go.Proofs.YtefgobmpleoafaaGreat

/- Layer 13: what comes of a state by a record. (Written by genLdG.py.) -/
namespace Go.Proofs.YtefgobmpleoafaaGreat
open Go.RowKit
variable {w w' : World} {S : Nat → Prop}

set_option maxRecDepth 100000 in
set_option maxHeartbeats 8000000 in
theorem chg3_any (vi no co ac k a b : Int) (A B : Option Addr) (n c m d : Nat) (l rl : List En) (w : World) (hk : k = 3) (hl : LogV S w (.slice A n c) l) (hr : LogV S w (.slice B m d) rl) (hS : ∀ i, S i → i < w.heap.size) (ha : 0 ≤ a ∧ a ≤ (l.length : Int)) :
    Calls Tryz.prog 38 #[.agg #[.int .i64 vi, .int .i64 no, .int .i64 co, .int .i64 ac, .slice A n c], .agg #[.int .i64 k, .int .i64 a, .int .i64 b, .slice B m d]] w fun e w' => ∃ A' n' c', e = .returned (.agg #[.int .i64 vi, .int .i64 no, .int .i64 co, .int .i64 ac, .slice A' n' c']) ∧ LogV S w' (.slice A' n' c') (l.take a.toNat) ∧ n' = ((l.take a.toNat)).length ∧ Below w.heap.size w w' := by
  subst hk
  obtain ⟨a0, rfl⟩ : ∃ a0 : Nat, a = (a0 : Int) := ⟨a.toNat, by omega⟩
  rw [Int.toNat_natCast]
  have b0 : Below w.heap.size w (((w.alloc (.cells #[.int .i64 vi, .int .i64 no, .int .i64 co, .int .i64 ac, .slice A n c] 41)).alloc (.cells #[.int .i64 3, .int .i64 (a0 : Int), .int .i64 b, .slice B m d] 82)).alloc (.cells #[.int .i64 0, .int .i64 0, .int .i64 0, .int .i64 0, .slice none 0 0] 41)) := (((Below.refl _ _).alloc (Nat.le_refl _) _).alloc (by simp) _).alloc (by simp; omega) _
  have HX : Hid (Blk (((w.alloc (.cells #[.int .i64 vi, .int .i64 no, .int .i64 co, .int .i64 ac, .slice A n c] 41)).alloc (.cells #[.int .i64 3, .int .i64 (a0 : Int), .int .i64 b, .slice B m d] 82)).alloc (.cells #[.int .i64 0, .int .i64 0, .int .i64 0, .int .i64 0, .slice none 0 0] 41)) w.heap.size 41 #[.int .i64 vi, .int .i64 no, .int .i64 co, .int .i64 ac, .slice A n c]) := Lib.hid (((Blk.new _ _ _).alloc _).alloc _)
  have HR : Hid (Blk (((w.alloc (.cells #[.int .i64 vi, .int .i64 no, .int .i64 co, .int .i64 ac, .slice A n c] 41)).alloc (.cells #[.int .i64 3, .int .i64 (a0 : Int), .int .i64 b, .slice B m d] 82)).alloc (.cells #[.int .i64 0, .int .i64 0, .int .i64 0, .int .i64 0, .slice none 0 0] 41)) (w.heap.size + 1) 82 #[.int .i64 3, .int .i64 (a0 : Int), .int .i64 b, .slice B m d]) := Lib.hid ((Blk.at_new _ _ (by simp) _ _).alloc _)
  have HZ : Hid (Blk (((w.alloc (.cells #[.int .i64 vi, .int .i64 no, .int .i64 co, .int .i64 ac, .slice A n c] 41)).alloc (.cells #[.int .i64 3, .int .i64 (a0 : Int), .int .i64 b, .slice B m d] 82)).alloc (.cells #[.int .i64 0, .int .i64 0, .int .i64 0, .int .i64 0, .slice none 0 0] 41)) (w.heap.size + 2) 41 #[.int .i64 0, .int .i64 0, .int .i64 0, .int .i64 0, .slice none 0 0]) := Lib.hid (Blk.at_new _ _ (by simp) _ _)
  have hs0 : (((w.alloc (.cells #[.int .i64 vi, .int .i64 no, .int .i64 co, .int .i64 ac, .slice A n c] 41)).alloc (.cells #[.int .i64 3, .int .i64 (a0 : Int), .int .i64 b, .slice B m d] 82)).alloc (.cells #[.int .i64 0, .int .i64 0, .int .i64 0, .int .i64 0, .slice none 0 0] 41)).heap.size = w.heap.size + 3 := by simp
  have hn : n = l.length := by obtain ⟨_, _, h⟩ := hl.form; injection h
  have HN := Lib.hid hn
  have HL := Lib.hid hl
  have HRL := Lib.hid hr
  have HSS := Lib.hid hS
  clear hl hr hS hn
  go_enter Tryz.func38, Tryz.ntmps38
  go_upto_region 1 with (fail)
  generalize ((w.alloc _).alloc _).alloc _ = wx at *
  have B5 : Hid (Below w.heap.size w wx) := Lib.hid b0
  have LX : Hid (LogV S wx (.slice A n c) l) := Lib.hid (HL.out.on b0)
  have LR : Hid (LogV S wx (.slice B m d) rl) := Lib.hid (HRL.out.on b0)
  have r0 := HR.out.cell 0
  have r1 := HR.out.cell 1
  have r2 := HR.out.cell 2
  have r3 := HR.out.cell 3
  have x0 := HX.out.cell 0
  have x1 := HX.out.cell 1
  have x2 := HX.out.cell 2
  have x3 := HX.out.cell 3
  have x4 := HX.out.cell 4
  have xf := HX.out.frozen
  have z0 := HZ.out.cell 0
  have z1 := HZ.out.cell 1
  have z2 := HZ.out.cell 2
  have z3 := HZ.out.cell 3
  have z4 := HZ.out.cell 4
  have zf := HZ.out.frozen
  have hx : w.heap.size < wx.heap.size := by omega
  have hr : w.heap.size + 1 < wx.heap.size := by omega
  have hz : w.heap.size + 2 < wx.heap.size := by omega
  have HS0 := Lib.hid hs0
  clear b0 hs0
  have hcap : n ≤ c := by obtain ⟨_, _, hv, hc, _⟩ := LX.out.read; injection hv with _ e2 e3; rw [e3]; omega
  have ha1 : a0 ≤ n := by have := HN.out; omega
  have ha2 : (a0 : Int) ≤ (n : Int) := by omega
  clear ha
  go_wp2
  have hB := (((((((((((B5.out.setCell (p := ⟨w.heap.size, 4, none⟩) (Nat.le_refl _) (.slice A a0 c))).setCell (p := ⟨w.heap.size + 2, 0, none⟩) (by simp) (.int .i64 vi))).setCell (p := ⟨w.heap.size + 2, 1, none⟩) (by simp) (.int .i64 no))).setCell (p := ⟨w.heap.size + 2, 2, none⟩) (by simp) (.int .i64 co))).setCell (p := ⟨w.heap.size + 2, 3, none⟩) (by simp) (.int .i64 ac))).setCell (p := ⟨w.heap.size + 2, 4, none⟩) (by simp) (.slice A a0 c))
  have ha3 : a0 ≤ l.length := by rw [← HN.out]; exact ha1
  refine bodyPost_ret (v := .agg #[.int .i64 vi, .int .i64 no, .int .i64 co, .int .i64 ac, .slice A a0 c]) (by simp [results, Tryz.results38, go_sem, *]) rfl ⟨A, a0, c, rfl, ?_, by rw [List.length_take, Nat.min_eq_left ha3], hB⟩
  exact (HL.out.take ha3).on hB
end Go.Proofs.YtefgobmpleoafaaGreat

/- Layer 13: what comes of a state by a record. (Written by genLdG.py.) -/
namespace Go.Proofs.YtefgobmpleoafaaGreat
open Go.RowKit
variable {w w' : World} {S : Nat → Prop}

set_option maxRecDepth 100000 in
set_option maxHeartbeats 8000000 in
theorem chg4_any (vi no co ac k a b : Int) (A B : Option Addr) (n c m d : Nat) (l rl : List En) (w : World) (hk : k = 4) (hl : LogV S w (.slice A n c) l) (hr : LogV S w (.slice B m d) rl) (hS : ∀ i, S i → i < w.heap.size) :
    Calls Tryz.prog 38 #[.agg #[.int .i64 vi, .int .i64 no, .int .i64 co, .int .i64 ac, .slice A n c], .agg #[.int .i64 k, .int .i64 a, .int .i64 b, .slice B m d]] w fun e w' => ∃ A' n' c', e = .returned (.agg #[.int .i64 vi, .int .i64 no, .int .i64 a, .int .i64 ac, .slice A' n' c']) ∧ LogV S w' (.slice A' n' c') l ∧ n' = (l).length ∧ Below w.heap.size w w' := by
  subst hk
  have b0 : Below w.heap.size w (((w.alloc (.cells #[.int .i64 vi, .int .i64 no, .int .i64 co, .int .i64 ac, .slice A n c] 41)).alloc (.cells #[.int .i64 4, .int .i64 a, .int .i64 b, .slice B m d] 82)).alloc (.cells #[.int .i64 0, .int .i64 0, .int .i64 0, .int .i64 0, .slice none 0 0] 41)) := (((Below.refl _ _).alloc (Nat.le_refl _) _).alloc (by simp) _).alloc (by simp; omega) _
  have HX : Hid (Blk (((w.alloc (.cells #[.int .i64 vi, .int .i64 no, .int .i64 co, .int .i64 ac, .slice A n c] 41)).alloc (.cells #[.int .i64 4, .int .i64 a, .int .i64 b, .slice B m d] 82)).alloc (.cells #[.int .i64 0, .int .i64 0, .int .i64 0, .int .i64 0, .slice none 0 0] 41)) w.heap.size 41 #[.int .i64 vi, .int .i64 no, .int .i64 co, .int .i64 ac, .slice A n c]) := Lib.hid (((Blk.new _ _ _).alloc _).alloc _)
  have HR : Hid (Blk (((w.alloc (.cells #[.int .i64 vi, .int .i64 no, .int .i64 co, .int .i64 ac, .slice A n c] 41)).alloc (.cells #[.int .i64 4, .int .i64 a, .int .i64 b, .slice B m d] 82)).alloc (.cells #[.int .i64 0, .int .i64 0, .int .i64 0, .int .i64 0, .slice none 0 0] 41)) (w.heap.size + 1) 82 #[.int .i64 4, .int .i64 a, .int .i64 b, .slice B m d]) := Lib.hid ((Blk.at_new _ _ (by simp) _ _).alloc _)
  have HZ : Hid (Blk (((w.alloc (.cells #[.int .i64 vi, .int .i64 no, .int .i64 co, .int .i64 ac, .slice A n c] 41)).alloc (.cells #[.int .i64 4, .int .i64 a, .int .i64 b, .slice B m d] 82)).alloc (.cells #[.int .i64 0, .int .i64 0, .int .i64 0, .int .i64 0, .slice none 0 0] 41)) (w.heap.size + 2) 41 #[.int .i64 0, .int .i64 0, .int .i64 0, .int .i64 0, .slice none 0 0]) := Lib.hid (Blk.at_new _ _ (by simp) _ _)
  have hs0 : (((w.alloc (.cells #[.int .i64 vi, .int .i64 no, .int .i64 co, .int .i64 ac, .slice A n c] 41)).alloc (.cells #[.int .i64 4, .int .i64 a, .int .i64 b, .slice B m d] 82)).alloc (.cells #[.int .i64 0, .int .i64 0, .int .i64 0, .int .i64 0, .slice none 0 0] 41)).heap.size = w.heap.size + 3 := by simp
  have hn : n = l.length := by obtain ⟨_, _, h⟩ := hl.form; injection h
  have HN := Lib.hid hn
  have HL := Lib.hid hl
  have HRL := Lib.hid hr
  have HSS := Lib.hid hS
  clear hl hr hS hn
  go_enter Tryz.func38, Tryz.ntmps38
  go_upto_region 1 with (fail)
  generalize ((w.alloc _).alloc _).alloc _ = wx at *
  have B5 : Hid (Below w.heap.size w wx) := Lib.hid b0
  have LX : Hid (LogV S wx (.slice A n c) l) := Lib.hid (HL.out.on b0)
  have LR : Hid (LogV S wx (.slice B m d) rl) := Lib.hid (HRL.out.on b0)
  have r0 := HR.out.cell 0
  have r1 := HR.out.cell 1
  have r2 := HR.out.cell 2
  have r3 := HR.out.cell 3
  have x0 := HX.out.cell 0
  have x1 := HX.out.cell 1
  have x2 := HX.out.cell 2
  have x3 := HX.out.cell 3
  have x4 := HX.out.cell 4
  have xf := HX.out.frozen
  have z0 := HZ.out.cell 0
  have z1 := HZ.out.cell 1
  have z2 := HZ.out.cell 2
  have z3 := HZ.out.cell 3
  have z4 := HZ.out.cell 4
  have zf := HZ.out.frozen
  have hx : w.heap.size < wx.heap.size := by omega
  have hr : w.heap.size + 1 < wx.heap.size := by omega
  have hz : w.heap.size + 2 < wx.heap.size := by omega
  have HS0 := Lib.hid hs0
  clear b0 hs0
  go_wp2
  have hB := (((((((((((B5.out.setCell (p := ⟨w.heap.size, 2, none⟩) (Nat.le_refl _) (.int .i64 a))).setCell (p := ⟨w.heap.size + 2, 0, none⟩) (by simp) (.int .i64 vi))).setCell (p := ⟨w.heap.size + 2, 1, none⟩) (by simp) (.int .i64 no))).setCell (p := ⟨w.heap.size + 2, 2, none⟩) (by simp) (.int .i64 a))).setCell (p := ⟨w.heap.size + 2, 3, none⟩) (by simp) (.int .i64 ac))).setCell (p := ⟨w.heap.size + 2, 4, none⟩) (by simp) (.slice A n c))
  refine bodyPost_ret (v := .agg #[.int .i64 vi, .int .i64 no, .int .i64 a, .int .i64 ac, .slice A n c]) (by simp [results, Tryz.results38, go_sem, *]) rfl ⟨A, n, c, rfl, ?_, HN.out, hB⟩
  exact HL.out.on hB
end Go.Proofs.YtefgobmpleoafaaGreat

/- Layer 13: what comes of a state by a record. (Written by genLdG.py.) -/
namespace Go.Proofs.YtefgobmpleoafaaGreat
open Go.RowKit
variable {w w' : World} {S : Nat → Prop}

set_option maxRecDepth 100000 in
set_option maxHeartbeats 8000000 in
theorem chg5_any (vi no co ac k a b : Int) (A B : Option Addr) (n c m d : Nat) (l rl : List En) (w : World) (hk : k = 5) (hl : LogV S w (.slice A n c) l) (hr : LogV S w (.slice B m d) rl) (hS : ∀ i, S i → i < w.heap.size) :
    Calls Tryz.prog 38 #[.agg #[.int .i64 vi, .int .i64 no, .int .i64 co, .int .i64 ac, .slice A n c], .agg #[.int .i64 k, .int .i64 a, .int .i64 b, .slice B m d]] w fun e w' => ∃ A' n' c', e = .returned (.agg #[.int .i64 vi, .int .i64 no, .int .i64 co, .int .i64 a, .slice A' n' c']) ∧ LogV S w' (.slice A' n' c') l ∧ n' = (l).length ∧ Below w.heap.size w w' := by
  subst hk
  have b0 : Below w.heap.size w (((w.alloc (.cells #[.int .i64 vi, .int .i64 no, .int .i64 co, .int .i64 ac, .slice A n c] 41)).alloc (.cells #[.int .i64 5, .int .i64 a, .int .i64 b, .slice B m d] 82)).alloc (.cells #[.int .i64 0, .int .i64 0, .int .i64 0, .int .i64 0, .slice none 0 0] 41)) := (((Below.refl _ _).alloc (Nat.le_refl _) _).alloc (by simp) _).alloc (by simp; omega) _
  have HX : Hid (Blk (((w.alloc (.cells #[.int .i64 vi, .int .i64 no, .int .i64 co, .int .i64 ac, .slice A n c] 41)).alloc (.cells #[.int .i64 5, .int .i64 a, .int .i64 b, .slice B m d] 82)).alloc (.cells #[.int .i64 0, .int .i64 0, .int .i64 0, .int .i64 0, .slice none 0 0] 41)) w.heap.size 41 #[.int .i64 vi, .int .i64 no, .int .i64 co, .int .i64 ac, .slice A n c]) := Lib.hid (((Blk.new _ _ _).alloc _).alloc _)
  have HR : Hid (Blk (((w.alloc (.cells #[.int .i64 vi, .int .i64 no, .int .i64 co, .int .i64 ac, .slice A n c] 41)).alloc (.cells #[.int .i64 5, .int .i64 a, .int .i64 b, .slice B m d] 82)).alloc (.cells #[.int .i64 0, .int .i64 0, .int .i64 0, .int .i64 0, .slice none 0 0] 41)) (w.heap.size + 1) 82 #[.int .i64 5, .int .i64 a, .int .i64 b, .slice B m d]) := Lib.hid ((Blk.at_new _ _ (by simp) _ _).alloc _)
  have HZ : Hid (Blk (((w.alloc (.cells #[.int .i64 vi, .int .i64 no, .int .i64 co, .int .i64 ac, .slice A n c] 41)).alloc (.cells #[.int .i64 5, .int .i64 a, .int .i64 b, .slice B m d] 82)).alloc (.cells #[.int .i64 0, .int .i64 0, .int .i64 0, .int .i64 0, .slice none 0 0] 41)) (w.heap.size + 2) 41 #[.int .i64 0, .int .i64 0, .int .i64 0, .int .i64 0, .slice none 0 0]) := Lib.hid (Blk.at_new _ _ (by simp) _ _)
  have hs0 : (((w.alloc (.cells #[.int .i64 vi, .int .i64 no, .int .i64 co, .int .i64 ac, .slice A n c] 41)).alloc (.cells #[.int .i64 5, .int .i64 a, .int .i64 b, .slice B m d] 82)).alloc (.cells #[.int .i64 0, .int .i64 0, .int .i64 0, .int .i64 0, .slice none 0 0] 41)).heap.size = w.heap.size + 3 := by simp
  have hn : n = l.length := by obtain ⟨_, _, h⟩ := hl.form; injection h
  have HN := Lib.hid hn
  have HL := Lib.hid hl
  have HRL := Lib.hid hr
  have HSS := Lib.hid hS
  clear hl hr hS hn
  go_enter Tryz.func38, Tryz.ntmps38
  go_upto_region 1 with (fail)
  generalize ((w.alloc _).alloc _).alloc _ = wx at *
  have B5 : Hid (Below w.heap.size w wx) := Lib.hid b0
  have LX : Hid (LogV S wx (.slice A n c) l) := Lib.hid (HL.out.on b0)
  have LR : Hid (LogV S wx (.slice B m d) rl) := Lib.hid (HRL.out.on b0)
  have r0 := HR.out.cell 0
  have r1 := HR.out.cell 1
  have r2 := HR.out.cell 2
  have r3 := HR.out.cell 3
  have x0 := HX.out.cell 0
  have x1 := HX.out.cell 1
  have x2 := HX.out.cell 2
  have x3 := HX.out.cell 3
  have x4 := HX.out.cell 4
  have xf := HX.out.frozen
  have z0 := HZ.out.cell 0
  have z1 := HZ.out.cell 1
  have z2 := HZ.out.cell 2
  have z3 := HZ.out.cell 3
  have z4 := HZ.out.cell 4
  have zf := HZ.out.frozen
  have hx : w.heap.size < wx.heap.size := by omega
  have hr : w.heap.size + 1 < wx.heap.size := by omega
  have hz : w.heap.size + 2 < wx.heap.size := by omega
  have HS0 := Lib.hid hs0
  clear b0 hs0
  go_wp2
  have hB := (((((((((((B5.out.setCell (p := ⟨w.heap.size, 3, none⟩) (Nat.le_refl _) (.int .i64 a))).setCell (p := ⟨w.heap.size + 2, 0, none⟩) (by simp) (.int .i64 vi))).setCell (p := ⟨w.heap.size + 2, 1, none⟩) (by simp) (.int .i64 no))).setCell (p := ⟨w.heap.size + 2, 2, none⟩) (by simp) (.int .i64 co))).setCell (p := ⟨w.heap.size + 2, 3, none⟩) (by simp) (.int .i64 a))).setCell (p := ⟨w.heap.size + 2, 4, none⟩) (by simp) (.slice A n c))
  refine bodyPost_ret (v := .agg #[.int .i64 vi, .int .i64 no, .int .i64 co, .int .i64 a, .slice A n c]) (by simp [results, Tryz.results38, go_sem, *]) rfl ⟨A, n, c, rfl, ?_, HN.out, hB⟩
  exact HL.out.on hB
end Go.Proofs.YtefgobmpleoafaaGreat

