/- The document's things made of the program's: colandermade's Message, Record. -/
import Derived.Test.YtgddcbjlhplmgaaPkP
namespace Go.Proofs.Ytgddcbjlhplmgaa
open Go.RowKit
variable {w w' : World}

theorem OwnX.lowX {n₀ base b : Nat} {v : Value} {l : List En} (h : OwnX n₀ base w v l) (hb : b ≤ base) : OwnX n₀ b w v l := by
  obtain ⟨L, hL, h, hx⟩ := h
  exact ⟨L, hL, orow_low h hb, fun x hm => ⟨orow_low (hx x hm).1 hb, (hx x hm).2⟩⟩
theorem OwnX.set_ {n₀ base : Nat} {v : Value} {l : List En} (h : OwnX n₀ base w v l) {q : Addr} (hq : q.block < base) (hn : n₀ ≤ q.block) (u : Value) : OwnX n₀ base (w.setCell q u) v l := by
  obtain ⟨L, hL, h, hx⟩ := h
  exact ⟨L, hL, orow_set h hq u, fun x hm => ⟨orow_set (hx x hm).1 hq u, (hx x hm).2.below ((Below.refl _ _).setCell hn u)⟩⟩
/-- The document's Message, made of the program's. -/
def XMsgV (n₀ base : Nat) (w : World) (v : Value) (m : Ms) : Prop := ∃ A c, v = .agg #[.int .i64 m.k, .int .i64 m.vi, .int .i64 m.fr, .int .i64 m.to, .int .i64 m.op, .int .i64 m.co, .int .i64 m.no, .slice A m.log.length c] ∧ OwnX n₀ base w (.slice A m.log.length c) m.log
/-- The document's Record, made of the program's. -/
def XRecV (n₀ base : Nat) (w : World) (v : Value) (m : Rc) : Prop := ∃ A c, v = .agg #[.int .i64 m.k, .int .i64 m.a, .int .i64 m.b, .slice A m.log.length c] ∧ OwnX n₀ base w (.slice A m.log.length c) m.log
set_option maxRecDepth 100000 in
set_option maxHeartbeats 8000000 in
theorem madeRec_any (n₀ : Nat) (m : Rc) (v : Value) (w : World) (hn0 : n₀ ≤ w.heap.size) (hm : m.log.length ≤ 70) (hs : ∀ e ∈ m.log, smallE e = true) (hV : EntsV n₀ w v m.log) :
    Calls Try.prog 14 #[m.val v] w fun e w' => ∃ V, e = .returned V ∧ XRecV n₀ w.heap.size w' V m ∧ Below w.heap.size w w' := by
  obtain ⟨A, cp, rfl⟩ := hV.form
  have HM := Lib.hid hm
  have HSm := Lib.hid hs
  obtain ⟨n, hn⟩ : ∃ n, n = m.log.length := ⟨_, rfl⟩
  have hV' := hV
  rw [← hn] at hV' ⊢
  have HL := Lib.hid hn
  have b0 : Below w.heap.size w ((w.alloc (.cells #[.int .i64 m.k, .int .i64 m.a, .int .i64 m.b, .slice A n cp] 26)).alloc (.cells #[.int .i64 0, .int .i64 0, .int .i64 0, .slice none 0 0] 38)) := ((Below.refl _ _).alloc (Nat.le_refl _) _).alloc (by simp) _
  have B0 := Lib.hid b0
  have HX : Hid (Blk ((w.alloc (.cells #[.int .i64 m.k, .int .i64 m.a, .int .i64 m.b, .slice A n cp] 26)).alloc (.cells #[.int .i64 0, .int .i64 0, .int .i64 0, .slice none 0 0] 38)) w.heap.size 26 #[.int .i64 m.k, .int .i64 m.a, .int .i64 m.b, .slice A n cp]) := Lib.hid ((Blk.new _ _ _).alloc _)
  have HZ : Hid (Blk ((w.alloc (.cells #[.int .i64 m.k, .int .i64 m.a, .int .i64 m.b, .slice A n cp] 26)).alloc (.cells #[.int .i64 0, .int .i64 0, .int .i64 0, .slice none 0 0] 38)) (w.heap.size + 1) 38 #[.int .i64 0, .int .i64 0, .int .i64 0, .slice none 0 0]) := Lib.hid (Blk.at_new _ _ (by simp) _ _)
  have HV := Lib.hid (hV'.below (b0.mono hn0))
  have hs0 : ((w.alloc (.cells #[.int .i64 m.k, .int .i64 m.a, .int .i64 m.b, .slice A n cp] 26)).alloc (.cells #[.int .i64 0, .int .i64 0, .int .i64 0, .slice none 0 0] 38)).heap.size = w.heap.size + 2 := by simp
  clear hV hV' hn hm hs b0
  go_enter Try.func14, Try.ntmps14
  go_upto_region 1 with (fail)
  generalize (w.alloc _).alloc _ = wx at *
  have B5 : Hid (Below w.heap.size w wx.drew) := Lib.hid (Below.drewN' B0.out 1)
  have hs5 : w.heap.size ≤ wx.drew.heap.size := by show w.heap.size ≤ wx.heap.size; omega
  have hs7 : w.heap.size + 2 ≤ wx.drew.heap.size := by show w.heap.size + 2 ≤ wx.heap.size; omega
  have hn1 : n₀ ≤ wx.drew.heap.size := by omega
  have HVd : Hid (EntsV n₀ wx.drew (.slice A n cp) m.log) := Lib.hid (HV.out.below (Below.drewN' (Below.refl _ _) 1))
  have HZd : Hid (Blk wx.drew (w.heap.size + 1) 38 #[.int .i64 0, .int .i64 0, .int .i64 0, .slice none 0 0]) := Lib.hid HZ.out
  refine wp_region_held_drew (S := fun w' => Blk w' w.heap.size 26 #[.int .i64 m.k, .int .i64 m.a, .int .i64 m.b, .slice A n cp]) (by kernel_rfl) HX.out (fun hHeld => ?_)
  refine take_d 0 3 (.pointer (some ⟨w.heap.size, 0, none⟩)) _ rfl rfl (by kernel_rfl) (by kernel_rfl) (by kernel_rfl) (fun _ _ _ h => h) (Or.inl ⟨by rfl, fun w' hSw => ?_⟩) hHeld ?_
  · go_simp
  simp only [List.setIfInBounds_toArray, List.set_cons_zero, List.set_cons_succ]
  refine take_d 1 4 (.int .i64 m.k) _ rfl rfl (by kernel_rfl) (by kernel_rfl) (by kernel_rfl) (fun _ _ _ h => h) (Or.inl ⟨by rfl, fun w' hSw => ?_⟩) hHeld ?_
  · have q := Blk.cell hSw 0
    go_simp
  simp only [List.setIfInBounds_toArray, List.set_cons_zero, List.set_cons_succ]
  refine take_d 2 5 (.pointer (some ⟨w.heap.size, 1, none⟩)) _ rfl rfl (by kernel_rfl) (by kernel_rfl) (by kernel_rfl) (fun _ _ _ h => h) (Or.inl ⟨by rfl, fun w' hSw => ?_⟩) hHeld ?_
  · go_simp
  simp only [List.setIfInBounds_toArray, List.set_cons_zero, List.set_cons_succ]
  refine take_d 3 6 (.int .i64 m.a) _ rfl rfl (by kernel_rfl) (by kernel_rfl) (by kernel_rfl) (fun _ _ _ h => h) (Or.inl ⟨by rfl, fun w' hSw => ?_⟩) hHeld ?_
  · have q := Blk.cell hSw 1
    go_simp
  simp only [List.setIfInBounds_toArray, List.set_cons_zero, List.set_cons_succ]
  refine take_d 4 7 (.pointer (some ⟨w.heap.size, 2, none⟩)) _ rfl rfl (by kernel_rfl) (by kernel_rfl) (by kernel_rfl) (fun _ _ _ h => h) (Or.inl ⟨by rfl, fun w' hSw => ?_⟩) hHeld ?_
  · go_simp
  simp only [List.setIfInBounds_toArray, List.set_cons_zero, List.set_cons_succ]
  refine take_d 5 8 (.int .i64 m.b) _ rfl rfl (by kernel_rfl) (by kernel_rfl) (by kernel_rfl) (fun _ _ _ h => h) (Or.inl ⟨by rfl, fun w' hSw => ?_⟩) hHeld ?_
  · have q := Blk.cell hSw 2
    go_simp
  simp only [List.setIfInBounds_toArray, List.set_cons_zero, List.set_cons_succ]
  refine take_d 6 9 (.pointer (some ⟨w.heap.size, 3, none⟩)) _ rfl rfl (by kernel_rfl) (by kernel_rfl) (by kernel_rfl) (fun _ _ _ h => h) (Or.inl ⟨by rfl, fun w' hSw => ?_⟩) hHeld ?_
  · go_simp
  simp only [List.setIfInBounds_toArray, List.set_cons_zero, List.set_cons_succ]
  refine take_d 7 10 (.slice A n cp) _ rfl rfl (by kernel_rfl) (by kernel_rfl) (by kernel_rfl) (fun _ _ _ h => h) (Or.inl ⟨by rfl, fun w' hSw => ?_⟩) hHeld ?_
  · have q := Blk.cell hSw 3
    go_simp
  simp only [List.setIfInBounds_toArray, List.set_cons_zero, List.set_cons_succ]
  refine wpAnyH_ready (rs := [8]) (by kernel_rfl) (by simp) ?_
  refine AllReadyH.cons rfl (fun K hK => ?_) AllReadyH.nil
  go_simp
  refine (entries_any _ _ m.log _ hn1 HM.out HSm.out HVd.out).mono ?_
  rintro e w6 ⟨V6, rfl, o6, hB6⟩
  obtain ⟨A6, c6, rfl⟩ := o6.len
  rw [← HL.out] at o6 ⊢
  have hS6 : Blk w6 w.heap.size 26 #[.int .i64 m.k, .int .i64 m.a, .int .i64 m.b, .slice A n cp] := Blk.on hHeld hB6
  have B6 := Lib.hid (B5.out.trans (hB6.mono hs5))
  have Z6 := Blk.on HZd.out hB6
  have O6 := Lib.hid (o6.lowX (b := w.heap.size + 2) hs7)
  have z0 := Z6.cell 0
  have z1 := Z6.cell 1
  have z2 := Z6.cell 2
  have z3 := Z6.cell 3
  have f := Z6.frozen
  have hl6 := Z6.lt
  refine hK.out _ _ hS6 (fun hHeld => ?_)
  clear hK K hS6 o6 hB6
  refine take_d 9 12 (.agg #[.int .i64 m.k, .int .i64 m.a, .int .i64 m.b, .slice A6 n c6]) _ rfl rfl (by kernel_rfl) (by kernel_rfl) (by kernel_rfl) (fun _ _ _ h => h) (Or.inl ⟨by rfl, fun w' hSw => ?_⟩) hHeld ?_
  · go_simp
  simp only [List.setIfInBounds_toArray, List.set_cons_zero, List.set_cons_succ]
  refine wpAnyH_ready (rs := [10]) (by kernel_rfl) (by simp) ?_
  refine AllReadyH.cons rfl (fun K hK => ?_) AllReadyH.nil
  go_simp
  refine hK.out _ _ (Blk.far ((Blk.far ((Blk.far ((Blk.far (hHeld) (p := ⟨w.heap.size + 1, 0, none⟩) (by simp) _)) (p := ⟨w.heap.size + 1, 1, none⟩) (by simp) _)) (p := ⟨w.heap.size + 1, 2, none⟩) (by simp) _)) (p := ⟨w.heap.size + 1, 3, none⟩) (by simp) _) (fun hHeld => ?_)
  clear hK K
  refine wpAnyH_done (by kernel_rfl) ?_ _
  go_wp2
  refine bodyPost_ret (v := .agg #[.int .i64 m.k, .int .i64 m.a, .int .i64 m.b, .slice A6 n c6]) (by simp [results, Try.results14, go_sem, *]) rfl ⟨_, rfl, ⟨A6, c6, by rw [← HL.out], ?_⟩, ((((B6.out).setCell (p := ⟨w.heap.size + 1, 0, none⟩) (by simp) _).setCell (p := ⟨w.heap.size + 1, 1, none⟩) (by simp) _).setCell (p := ⟨w.heap.size + 1, 2, none⟩) (by simp) _).setCell (p := ⟨w.heap.size + 1, 3, none⟩) (by simp) _⟩
  rw [← HL.out]
  exact OwnX.lowX (((((O6.out).set_ (q := ⟨w.heap.size + 1, 0, none⟩) (by simp only; omega) (by simp only; omega) (.int .i64 m.k)).set_ (q := ⟨w.heap.size + 1, 1, none⟩) (by simp only; omega) (by simp only; omega) (.int .i64 m.a)).set_ (q := ⟨w.heap.size + 1, 2, none⟩) (by simp only; omega) (by simp only; omega) (.int .i64 m.b)).set_ (q := ⟨w.heap.size + 1, 3, none⟩) (by simp only; omega) (by simp only; omega) (.slice A6 n c6)) (by omega)
end Go.Proofs.Ytgddcbjlhplmgaa
