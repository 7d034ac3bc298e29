/- The document's bytes: an entry. -/
import Derived.Test.YtiheeafmplccoaaPkBa
import Derived.Lib.AppendStr
namespace Go.Proofs.Ytiheeafmplccoaa
open Go.RowKit
variable {w w' w'' : World} {base : Nat} {s : List UInt8}

theorem Blk.drw {g : Nat} {t : TypeId} {cs : Array Value} (h : Blk w g t cs) : Blk w.drew g t cs := h
theorem step_append_str (w : World) {ops : Array Oper} {o : Oper} {a : Act} {K : Act → World → Prop} {Q : Exit → Act → World → Prop} {E : Prop} (hgd : o.guard = none) (dd : Nat) (hdd : o.dst = some dd) (x y : Operand)
    (ho : o.op = .call { callee := .builtin .append, args := #[x, y], argTypes := #[31, 9] }) (base : Nat) (i : TypeInfo) (hi : Try.prog.info? 5 = some i) (hz : i.zero = some (.int .u8 0)) (hsize : i.size = 1) (hby : i.bytes = 1)
    (v : Value) (s : List UInt8) (hs : a.eval x = v) (hown : Own w base v s) (p : ByteArray) (hy : a.eval y = .string p) (hL : s.length + p.size ≤ 1000000000) (hbase : base ≤ w.heap.size)
    (h : ∀ v' w', Own w' base v' (s ++ p.data.toList) → Fr8 base w w' → K { tmps := a.tmps.setIfInBounds dd v', defers := a.defers } w') :
    if Region.wanted o (yielded ops a.tmps) = true then Oper.wp Try.prog o a w K Q else E := by
  have hw : Region.wanted o (yielded ops a.tmps) = true := by simp [Region.wanted, hgd]
  rw [if_pos hw]
  obtain ⟨v', w', hrun, h2, h3, _⟩ := Lib.run_append_own_string (P := Try.prog) w base 31 9 o.type 5 i Try.underlying31 Try.underlying9 hi hz hsize hby v s.length (Lib.byteCells s) hown p (by unfold maxLen; omega) (by omega) hbase
  unfold Oper.wp execOp
  simp only [ho, resolve, invoke, builtin, Sem.run_bind, Sem.run_pure, Result.andThen_ok, List.map_toArray, List.map_cons, List.map_nil, hs, hy, hrun]
  show K (a.put o.dst v') w'
  rw [hdd]
  refine h v' w' ?_ (Fr8.push hown h3)
  unfold Own
  rw [List.length_append, Lib.byteCells_append]
  exact h2
set_option maxRecDepth 100000 in
set_option maxHeartbeats 16000000 in
theorem xentryB_any (x : En) (p d v : Value) (hok : x.ok = true) (hp : RulesV base w p x.d.put) (hd : Row base w d (zI x.d.drop)) (h : Own w base v s) (hb : base ≤ w.heap.size) (hl : s.length ≤ 400000000) :
    Calls Try.prog 60 #[v, x.val p d] w fun e w' => ∃ v', e = .returned v' ∧ Own w' base v' (s ++ eE x) ∧ Fr8 base w w' := by
  obtain ⟨i0, hi, hz0, hz1, hz2⟩ := info_three info_u8
  obtain ⟨h1, h2, h3, h4⟩ := En.ok_iff.1 hok
  obtain ⟨⟨h5, h6, h7, h8⟩, h9, h10, h11, h12⟩ := Dl.okP_iff.1 h4
  obtain ⟨Ap, cp, rfl⟩ := hp.form
  obtain ⟨Ad, cd, rfl⟩ := hd.form
  obtain ⟨vi, cl, re, x⟩ := x
  obtain ⟨de, dcl, fu, st, put, drop⟩ := x
  have heE : ∀ s : List UInt8, s ++ eE ⟨vi, cl, re, ⟨de, dcl, fu, st, put, drop⟩⟩ = s ++ n6 vi ++ n6 cl ++ n6 re ++ n6 de ++ n6 dcl ++ n6 fu ++ n6 st ++ n6 (put.length : Int) ++ put.flatMap eR ++ n6 (drop.length : Int) ++ drop.flatMap n6 := by intro s; simp [eE, eD, eL]
  rw [heE]
  clear heE hok h4
  simp only at h1 h2 h3 h5 h6 h7 h8 h9 h10 h11 h12 hp hd ⊢
  rw [zI_len] at hd ⊢
  obtain ⟨np, hnp⟩ : ∃ np, np = put.length := ⟨_, rfl⟩
  obtain ⟨nd, hnd⟩ : ∃ nd, nd = drop.length := ⟨_, rfl⟩
  rw [← hnp] at hp h9 ⊢
  rw [← hnd] at hd h11 ⊢
  have HNP := Lib.hid hnp
  have HND := Lib.hid hnd
  have HP := Lib.hid hp
  have HD := Lib.hid hd
  have N1 : Hid (-1 ≤ vi ∧ vi ≤ 1099511627776) := Lib.hid (by omega)
  have N2 : Hid (-1 ≤ cl ∧ cl ≤ 1099511627776) := Lib.hid (by omega)
  have N3 : Hid (-1 ≤ re ∧ re ≤ 1099511627776) := Lib.hid (by omega)
  have N4 := Lib.hid h5
  have N5 := Lib.hid h6
  have N6 := Lib.hid h7
  have N7 := Lib.hid h8
  have HR := Lib.hid h10
  have HDr := Lib.hid h12
  have B0 : Fr8 base w ((w.alloc (.cells #[.int .i64 vi, .int .i64 cl, .int .i64 re, .int .i64 de, .int .i64 dcl, .int .i64 fu, .int .i64 st, .slice Ap np cp, .slice Ad nd cd] 68)).alloc (.cells #[.int .i64 de, .int .i64 dcl, .int .i64 fu, .int .i64 st, .slice Ap np cp, .slice Ad nd cd] 66)) := ((Fr8.refl _).alloc _).alloc _
  have OX0 := Lib.hid (World.ownsRow.alloc (World.ownsRow.alloc (show w.ownsRow base 5 1 v s.length (Lib.byteCells s) from h) (.cells #[.int .i64 vi, .int .i64 cl, .int .i64 re, .int .i64 de, .int .i64 dcl, .int .i64 fu, .int .i64 st, .slice Ap np cp, .slice Ad nd cd] 68)) (.cells #[.int .i64 de, .int .i64 dcl, .int .i64 fu, .int .i64 st, .slice Ap np cp, .slice Ad nd cd] 66))
  have XE0 : Hid (Blk ((w.alloc (.cells #[.int .i64 vi, .int .i64 cl, .int .i64 re, .int .i64 de, .int .i64 dcl, .int .i64 fu, .int .i64 st, .slice Ap np cp, .slice Ad nd cd] 68)).alloc (.cells #[.int .i64 de, .int .i64 dcl, .int .i64 fu, .int .i64 st, .slice Ap np cp, .slice Ad nd cd] 66)) w.heap.size 68 #[.int .i64 vi, .int .i64 cl, .int .i64 re, .int .i64 de, .int .i64 dcl, .int .i64 fu, .int .i64 st, .slice Ap np cp, .slice Ad nd cd]) := Lib.hid ((Blk.new _ _ _).alloc _)
  have XD0 : Hid (Blk ((w.alloc (.cells #[.int .i64 vi, .int .i64 cl, .int .i64 re, .int .i64 de, .int .i64 dcl, .int .i64 fu, .int .i64 st, .slice Ap np cp, .slice Ad nd cd] 68)).alloc (.cells #[.int .i64 de, .int .i64 dcl, .int .i64 fu, .int .i64 st, .slice Ap np cp, .slice Ad nd cd] 66)) (w.heap.size + 1) 66 #[.int .i64 de, .int .i64 dcl, .int .i64 fu, .int .i64 st, .slice Ap np cp, .slice Ad nd cd]) := Lib.hid (Blk.at_new _ _ (by simp) _ _)
  have FX0 := Lib.hid B0
  have hs0 : w.heap.size + 1 < ((w.alloc (.cells #[.int .i64 vi, .int .i64 cl, .int .i64 re, .int .i64 de, .int .i64 dcl, .int .i64 fu, .int .i64 st, .slice Ap np cp, .slice Ad nd cd] 68)).alloc (.cells #[.int .i64 de, .int .i64 dcl, .int .i64 fu, .int .i64 st, .slice Ap np cp, .slice Ad nd cd] 66)).heap.size := by simp
  clear h1 h2 h3 h5 h6 h7 h8 h10 h12 hp hd h B0 hnp hnd
  go_enter Try.func60, Try.ntmps60
  go_upto_region 2 with (fail)
  generalize (w.alloc _).alloc _ = wx at *
  have XE : Hid (Blk wx.drew w.heap.size 68 #[.int .i64 vi, .int .i64 cl, .int .i64 re, .int .i64 de, .int .i64 dcl, .int .i64 fu, .int .i64 st, .slice Ap np cp, .slice Ad nd cd]) := Lib.hid XE0.out
  have XD : Hid (Blk wx.drew (w.heap.size + 1) 66 #[.int .i64 de, .int .i64 dcl, .int .i64 fu, .int .i64 st, .slice Ap np cp, .slice Ad nd cd]) := Lib.hid XD0.out
  have OX : Hid (Own wx.drew base v s) := Lib.hid OX0.out
  have FX : Hid (Fr8 base wx.drew wx.drew) := Lib.hid (Fr8.refl _)
  have zx : w.heap.size + 1 < wx.drew.heap.size := hs0
  go_wp2_with fail
  refine wp_region_held_drew (S := fun w' => Blk w' w.heap.size 68 #[.int .i64 vi, .int .i64 cl, .int .i64 re, .int .i64 de, .int .i64 dcl, .int .i64 fu, .int .i64 st, .slice Ap np cp, .slice Ad nd cd]) (by kernel_rfl) XE.out (fun hHeld => ?_)
  refine take_d 0 11 (v) _ rfl rfl (by kernel_rfl) (by kernel_rfl) (by kernel_rfl) (fun _ _ _ h => h) (Or.inl ⟨by rfl, fun w' hSw => ?_⟩) hHeld ?_
  · go_simp
  simp only [List.setIfInBounds_toArray, List.set_cons_zero, List.set_cons_succ]
  refine take_d 1 12 (.pointer (some ⟨w.heap.size, 0, none⟩)) _ rfl rfl (by kernel_rfl) (by kernel_rfl) (by kernel_rfl) (fun _ _ _ h => h) (Or.inl ⟨by rfl, fun w' hSw => ?_⟩) hHeld ?_
  · go_simp
  simp only [List.setIfInBounds_toArray, List.set_cons_zero, List.set_cons_succ]
  refine take_d 2 13 (.int .i64 vi) _ rfl rfl (by kernel_rfl) (by kernel_rfl) (by kernel_rfl) (fun _ _ _ h => h) (Or.inl ⟨by rfl, fun w' hSw => ?_⟩) hHeld ?_
  · have q := Blk.cell hSw 0
    go_simp
  simp only [List.setIfInBounds_toArray, List.set_cons_zero, List.set_cons_succ]
  refine take_d 4 15 (.pointer (some ⟨w.heap.size, 1, none⟩)) _ rfl rfl (by kernel_rfl) (by kernel_rfl) (by kernel_rfl) (fun _ _ _ h => h) (Or.inl ⟨by rfl, fun w' hSw => ?_⟩) hHeld ?_
  · go_simp
  simp only [List.setIfInBounds_toArray, List.set_cons_zero, List.set_cons_succ]
  refine take_d 5 16 (.int .i64 cl) _ rfl rfl (by kernel_rfl) (by kernel_rfl) (by kernel_rfl) (fun _ _ _ h => h) (Or.inl ⟨by rfl, fun w' hSw => ?_⟩) hHeld ?_
  · have q := Blk.cell hSw 1
    go_simp
  simp only [List.setIfInBounds_toArray, List.set_cons_zero, List.set_cons_succ]
  refine take_d 7 18 (.pointer (some ⟨w.heap.size, 2, none⟩)) _ rfl rfl (by kernel_rfl) (by kernel_rfl) (by kernel_rfl) (fun _ _ _ h => h) (Or.inl ⟨by rfl, fun w' hSw => ?_⟩) hHeld ?_
  · go_simp
  simp only [List.setIfInBounds_toArray, List.set_cons_zero, List.set_cons_succ]
  refine take_d 8 19 (.int .i64 re) _ rfl rfl (by kernel_rfl) (by kernel_rfl) (by kernel_rfl) (fun _ _ _ h => h) (Or.inl ⟨by rfl, fun w' hSw => ?_⟩) hHeld ?_
  · have q := Blk.cell hSw 2
    go_simp
  simp only [List.setIfInBounds_toArray, List.set_cons_zero, List.set_cons_succ]
  refine wpAnyH_ready (rs := [3]) (by kernel_rfl) (by simp) ?_
  refine AllReadyH.cons rfl (fun K hK => ?_) AllReadyH.nil
  go_simp
  refine (xnum_any (base := base) _ _ N1.out OX.out (by omega) (by omega)).mono ?_
  rintro e wa0 ⟨va0, rfl, hOa0, hFa0⟩
  have Sa0 := Fr8.blk hFa0 hHeld (by decide)
  have Oa0 := Lib.hid hOa0
  have Fa0 := Lib.hid (FX.out.trans hFa0)
  have za0 : base ≤ wa0.heap.size := Nat.le_trans (by omega) hFa0.size
  refine hK.out _ _ Sa0 (fun hHeld => ?_)
  clear hK K hOa0 hFa0 Sa0
  refine wpAnyH_ready (rs := [6]) (by kernel_rfl) (by simp) ?_
  refine AllReadyH.cons rfl (fun K hK => ?_) AllReadyH.nil
  go_simp
  refine (xnum_any (base := base) _ _ N2.out Oa0.out (by omega) (by simp only [List.length_append, n6_len]; omega)).mono ?_
  rintro e wa1 ⟨va1, rfl, hOa1, hFa1⟩
  have Sa1 := Fr8.blk hFa1 hHeld (by decide)
  have Oa1 := Lib.hid hOa1
  have Fa1 := Lib.hid (Fa0.out.trans hFa1)
  have za1 : base ≤ wa1.heap.size := Nat.le_trans (by omega) hFa1.size
  refine hK.out _ _ Sa1 (fun hHeld => ?_)
  clear hK K hOa1 hFa1 Sa1
  refine wpAnyH_ready (rs := [9]) (by kernel_rfl) (by simp) ?_
  refine AllReadyH.cons rfl (fun K hK => ?_) AllReadyH.nil
  go_simp
  refine (xnum_any (base := base) _ _ N3.out Oa1.out (by omega) (by simp only [List.length_append, n6_len]; omega)).mono ?_
  rintro e wa2 ⟨va2, rfl, hOa2, hFa2⟩
  have Sa2 := Fr8.blk hFa2 hHeld (by decide)
  have Oa2 := Lib.hid hOa2
  have Fa2 := Lib.hid (Fa1.out.trans hFa2)
  have za2 : base ≤ wa2.heap.size := Nat.le_trans (by omega) hFa2.size
  refine hK.out _ _ Sa2 (fun hHeld => ?_)
  clear hK K hOa2 hFa2 Sa2
  refine take_d 10 0 (va2) _ rfl rfl (by kernel_rfl) (by kernel_rfl) (by kernel_rfl) (fun _ _ _ h => h) (Or.inl ⟨by rfl, fun w' hSw => ?_⟩) hHeld ?_
  · go_simp
  simp only [List.setIfInBounds_toArray, List.set_cons_zero, List.set_cons_succ]
  refine wpAnyH_done (by kernel_rfl) ?_ _
  have XD2 : Hid (Blk wa2.drew (w.heap.size + 1) 66 #[.int .i64 de, .int .i64 dcl, .int .i64 fu, .int .i64 st, .slice Ap np cp, .slice Ad nd cd]) := Lib.hid (Fr8.blk Fa2.out XD.out (by decide))
  have OB : Hid (Own wa2.drew base va2 (s ++ n6 vi ++ n6 cl ++ n6 re)) := Lib.hid Oa2.out
  have FB : Hid (Fr8 base wa2.drew wa2.drew) := Lib.hid (Fr8.refl _)
  have zb : base ≤ wa2.drew.heap.size := za2
  obtain ⟨s2, hs2⟩ : ∃ s2, s2 = s ++ n6 vi ++ n6 cl ++ n6 re := ⟨_, rfl⟩
  have hl2 : s2.length ≤ 500000000 := by rw [hs2]; simp only [List.length_append, n6_len]; omega
  rw [← hs2] at OB
  have HS2 := Lib.hid hs2
  have FW2 : Hid (Fr8 base w wa2.drew) := Lib.hid ((FX0.out.drew.trans Fa2.out).drew)
  clear hs2
  go_wp2_with fail
  refine wp_region_held_drew (S := fun w' => Blk w' (w.heap.size + 1) 66 #[.int .i64 de, .int .i64 dcl, .int .i64 fu, .int .i64 st, .slice Ap np cp, .slice Ad nd cd]) (by kernel_rfl) XD2.out (fun hHeld => ?_)
  refine take_d 0 21 (va2) _ rfl rfl (by kernel_rfl) (by kernel_rfl) (by kernel_rfl) (fun _ _ _ h => h) (Or.inl ⟨by rfl, fun w' hSw => ?_⟩) hHeld ?_
  · go_simp
  simp only [List.setIfInBounds_toArray, List.set_cons_zero, List.set_cons_succ]
  refine take_d 1 22 (.pointer (some ⟨w.heap.size + 1, 0, none⟩)) _ rfl rfl (by kernel_rfl) (by kernel_rfl) (by kernel_rfl) (fun _ _ _ h => h) (Or.inl ⟨by rfl, fun w' hSw => ?_⟩) hHeld ?_
  · go_simp
  simp only [List.setIfInBounds_toArray, List.set_cons_zero, List.set_cons_succ]
  refine take_d 2 23 (.int .i64 de) _ rfl rfl (by kernel_rfl) (by kernel_rfl) (by kernel_rfl) (fun _ _ _ h => h) (Or.inl ⟨by rfl, fun w' hSw => ?_⟩) hHeld ?_
  · have q := Blk.cell hSw 0
    go_simp
  simp only [List.setIfInBounds_toArray, List.set_cons_zero, List.set_cons_succ]
  refine take_d 4 25 (.pointer (some ⟨w.heap.size + 1, 1, none⟩)) _ rfl rfl (by kernel_rfl) (by kernel_rfl) (by kernel_rfl) (fun _ _ _ h => h) (Or.inl ⟨by rfl, fun w' hSw => ?_⟩) hHeld ?_
  · go_simp
  simp only [List.setIfInBounds_toArray, List.set_cons_zero, List.set_cons_succ]
  refine take_d 5 26 (.int .i64 dcl) _ rfl rfl (by kernel_rfl) (by kernel_rfl) (by kernel_rfl) (fun _ _ _ h => h) (Or.inl ⟨by rfl, fun w' hSw => ?_⟩) hHeld ?_
  · have q := Blk.cell hSw 1
    go_simp
  simp only [List.setIfInBounds_toArray, List.set_cons_zero, List.set_cons_succ]
  refine take_d 7 28 (.pointer (some ⟨w.heap.size + 1, 2, none⟩)) _ rfl rfl (by kernel_rfl) (by kernel_rfl) (by kernel_rfl) (fun _ _ _ h => h) (Or.inl ⟨by rfl, fun w' hSw => ?_⟩) hHeld ?_
  · go_simp
  simp only [List.setIfInBounds_toArray, List.set_cons_zero, List.set_cons_succ]
  refine take_d 8 29 (.int .i64 fu) _ rfl rfl (by kernel_rfl) (by kernel_rfl) (by kernel_rfl) (fun _ _ _ h => h) (Or.inl ⟨by rfl, fun w' hSw => ?_⟩) hHeld ?_
  · have q := Blk.cell hSw 2
    go_simp
  simp only [List.setIfInBounds_toArray, List.set_cons_zero, List.set_cons_succ]
  refine take_d 10 31 (.pointer (some ⟨w.heap.size + 1, 3, none⟩)) _ rfl rfl (by kernel_rfl) (by kernel_rfl) (by kernel_rfl) (fun _ _ _ h => h) (Or.inl ⟨by rfl, fun w' hSw => ?_⟩) hHeld ?_
  · go_simp
  simp only [List.setIfInBounds_toArray, List.set_cons_zero, List.set_cons_succ]
  refine take_d 11 32 (.int .i64 st) _ rfl rfl (by kernel_rfl) (by kernel_rfl) (by kernel_rfl) (fun _ _ _ h => h) (Or.inl ⟨by rfl, fun w' hSw => ?_⟩) hHeld ?_
  · have q := Blk.cell hSw 3
    go_simp
  simp only [List.setIfInBounds_toArray, List.set_cons_zero, List.set_cons_succ]
  refine wpAnyH_ready (rs := [3]) (by kernel_rfl) (by simp) ?_
  refine AllReadyH.cons rfl (fun K hK => ?_) AllReadyH.nil
  go_simp
  refine (xnum_any (base := base) _ _ N4.out OB.out (by omega) (by omega)).mono ?_
  rintro e wb0 ⟨vb0, rfl, hOb0, hFb0⟩
  have Sb0 := Fr8.blk hFb0 hHeld (by decide)
  have Ob0 := Lib.hid hOb0
  have Fb0 := Lib.hid (FB.out.trans hFb0)
  have zb0 : base ≤ wb0.heap.size := Nat.le_trans (by omega) hFb0.size
  refine hK.out _ _ Sb0 (fun hHeld => ?_)
  clear hK K hOb0 hFb0 Sb0
  refine wpAnyH_ready (rs := [6]) (by kernel_rfl) (by simp) ?_
  refine AllReadyH.cons rfl (fun K hK => ?_) AllReadyH.nil
  go_simp
  refine (xnum_any (base := base) _ _ N5.out Ob0.out (by omega) (by simp only [List.length_append, n6_len]; omega)).mono ?_
  rintro e wb1 ⟨vb1, rfl, hOb1, hFb1⟩
  have Sb1 := Fr8.blk hFb1 hHeld (by decide)
  have Ob1 := Lib.hid hOb1
  have Fb1 := Lib.hid (Fb0.out.trans hFb1)
  have zb1 : base ≤ wb1.heap.size := Nat.le_trans (by omega) hFb1.size
  refine hK.out _ _ Sb1 (fun hHeld => ?_)
  clear hK K hOb1 hFb1 Sb1
  refine wpAnyH_ready (rs := [9]) (by kernel_rfl) (by simp) ?_
  refine AllReadyH.cons rfl (fun K hK => ?_) AllReadyH.nil
  go_simp
  refine (xnum_any (base := base) _ _ N6.out Ob1.out (by omega) (by simp only [List.length_append, n6_len]; omega)).mono ?_
  rintro e wb2 ⟨vb2, rfl, hOb2, hFb2⟩
  have Sb2 := Fr8.blk hFb2 hHeld (by decide)
  have Ob2 := Lib.hid hOb2
  have Fb2 := Lib.hid (Fb1.out.trans hFb2)
  have zb2 : base ≤ wb2.heap.size := Nat.le_trans (by omega) hFb2.size
  refine hK.out _ _ Sb2 (fun hHeld => ?_)
  clear hK K hOb2 hFb2 Sb2
  refine wpAnyH_ready (rs := [12]) (by kernel_rfl) (by simp) ?_
  refine AllReadyH.cons rfl (fun K hK => ?_) AllReadyH.nil
  go_simp
  refine (xnum_any (base := base) _ _ N7.out Ob2.out (by omega) (by simp only [List.length_append, n6_len]; omega)).mono ?_
  rintro e wb3 ⟨vb3, rfl, hOb3, hFb3⟩
  have Sb3 := Fr8.blk hFb3 hHeld (by decide)
  have Ob3 := Lib.hid hOb3
  have Fb3 := Lib.hid (Fb2.out.trans hFb3)
  have zb3 : base ≤ wb3.heap.size := Nat.le_trans (by omega) hFb3.size
  refine hK.out _ _ Sb3 (fun hHeld => ?_)
  clear hK K hOb3 hFb3 Sb3
  refine take_d 13 0 (vb3) _ rfl rfl (by kernel_rfl) (by kernel_rfl) (by kernel_rfl) (fun _ _ _ h => h) (Or.inl ⟨by rfl, fun w' hSw => ?_⟩) hHeld ?_
  · go_simp
  simp only [List.setIfInBounds_toArray, List.set_cons_zero, List.set_cons_succ]
  refine wpAnyH_done (by kernel_rfl) ?_ _
  have XD3 := Lib.hid (Fr8.blk Fb3.out XD2.out (by decide))
  have FW3 := Lib.hid (FW2.out.trans Fb3.out)
  have x4 := XD3.out.cell 4
  go_wp2_with fail
  refine (xnum_any (base := base) _ (np : Int) (by omega) Ob3.out zb3 (by simp only [List.length_append, n6_len]; omega)).mono ?_
  rintro e w4 ⟨v4, rfl, hO4, hF4⟩
  have XD4 := Lib.hid (Fr8.blk hF4 XD3.out (by decide))
  have FW4 := Lib.hid (FW3.out.trans hF4)
  obtain ⟨T4, hT4⟩ : ∃ T4, T4 = s2 ++ n6 de ++ n6 dcl ++ n6 fu ++ n6 st ++ n6 (np : Int) := ⟨_, rfl⟩
  have hl4 : T4.length ≤ 510000000 := by rw [hT4]; simp only [List.length_append, n6_len]; omega
  rw [← hT4] at hO4
  have O4 := Lib.hid hO4
  have HT4 := Lib.hid hT4
  clear hO4 hF4 hT4 x4
  go_wp2
  go_loopw [0, 6] (fun v i wr => ∃ k : Nat, k ≤ np ∧ i = .int .i64 k ∧ Hid (Own wr base v (T4 ++ (put.take k).flatMap eR)) ∧ Hid (Fr8 base w wr) ∧ Hid (Blk wr (w.heap.size + 1) 66 #[.int .i64 de, .int .i64 dcl, .int .i64 fu, .int .i64 st, .slice Ap np cp, .slice Ad nd cd])) (fun _ i _ => np - (intOf i).toNat)
  case atStart => exact ⟨0, Nat.zero_le _, rfl, Lib.hid (by simpa using O4.out), FW4, XD4⟩
  case round =>
    obtain ⟨k, hk, rfl, HO, HF, HX⟩ := hrel
    have hbw : base ≤ wr.heap.size := Nat.le_trans hb HF.out.size
    have y4 := HX.out.cell 4
    by_cases hlt : k < np
    · have hkl : k < put.length := by rw [← HNP.out]; exact hlt
      have hlti : (k : Int) < (np : Int) := by omega
      obtain ⟨b, off, rfl, hbb, c0, c1, c2, c3, c4⟩ := (HP.out.below (HF.out.old hb)).at_ hkl
      have HG := Lib.hid (List.getElem?_eq_getElem hkl)
      have hr := HR.out put[k] (List.getElem_mem _)
      generalize put[k] = r at HG hr c0 c1 c2 c3 c4
      simp only [Ru.ok, decide_eq_true_eq] at hr
      obtain ⟨r1, r2, r3, r4, r5, r6, r7, r8, r9⟩ := hr
      have N8 : Hid (-1 ≤ r.id ∧ r.id ≤ 1099511627776) := Lib.hid (by omega)
      have N9 : Hid (-1 ≤ r.pr ∧ r.pr ≤ 1099511627776) := Lib.hid (by omega)
      have N10 : Hid (-1 ≤ r.ac ∧ r.ac ≤ 1099511627776) := Lib.hid (by omega)
      have N11 : Hid (-1 ≤ r.sc ∧ r.sc ≤ 1099511627776) := Lib.hid (by omega)
      have N12 : Hid (-1 ≤ (r.pat.size : Int) ∧ (r.pat.size : Int) ≤ 1099511627776) := Lib.hid (by omega)
      have hfl := RulesV.take_flat HR.out (by rw [← HNP.out]; exact h9) k
      obtain ⟨s3, hs3⟩ : ∃ s3, s3 = T4 ++ (put.take k).flatMap eR := ⟨_, rfl⟩
      have hl3 : s3.length ≤ 520000000 := by rw [hs3, List.length_append]; omega
      rw [← hs3] at HO
      have HS3 := Lib.hid hs3
      have OC0 := Lib.hid (World.ownsRow.alloc (show wr.ownsRow base 5 1 u0 s3.length (Lib.byteCells s3) from HO.out) (.cells #[.int .i64 r.id, .int .i64 r.pr, .int .i64 r.ac, .int .i64 r.sc, .string r.pat] 104))
      have FC0 := Lib.hid (HF.out.alloc (.cells #[.int .i64 r.id, .int .i64 r.pr, .int .i64 r.ac, .int .i64 r.sc, .string r.pat] 104))
      have XR0 := Lib.hid (Blk.new wr 104 #[.int .i64 r.id, .int .i64 r.pr, .int .i64 r.ac, .int .i64 r.sc, .string r.pat])
      have XDc := Lib.hid (HX.out.alloc (.cells #[.int .i64 r.id, .int .i64 r.pr, .int .i64 r.ac, .int .i64 r.sc, .string r.pat] 104))
      have zc0 : base ≤ (wr.alloc (.cells #[.int .i64 r.id, .int .i64 r.pr, .int .i64 r.ac, .int .i64 r.sc, .string r.pat] 104)).heap.size := by simp; omega
      clear r1 r2 r3 r4 r5 r6 r7 r8 hkl hs3 hfl
      go_upto_region 9 with (fail)
      generalize wr.alloc _ = wc at *
      have XR : Hid (Blk wc.drew wr.heap.size 104 #[.int .i64 r.id, .int .i64 r.pr, .int .i64 r.ac, .int .i64 r.sc, .string r.pat]) := Lib.hid XR0.out
      have OC : Hid (Own wc.drew base u0 s3) := Lib.hid OC0.out
      have FC : Hid (Fr8 base wc.drew wc.drew) := Lib.hid (Fr8.refl _)
      have zc : base ≤ wc.drew.heap.size := zc0
      clear c0 c1 c2 c3 c4 y4
      go_wp2_with fail
      refine wp_region_held_drew (S := fun w' => Blk w' wr.heap.size 104 #[.int .i64 r.id, .int .i64 r.pr, .int .i64 r.ac, .int .i64 r.sc, .string r.pat]) (by kernel_rfl) XR.out (fun hHeld => ?_)
      refine take_d 0 51 (u0) _ rfl rfl (by kernel_rfl) (by kernel_rfl) (by kernel_rfl) (fun _ _ _ h => h) (Or.inl ⟨by rfl, fun w' hSw => ?_⟩) hHeld ?_
      · go_simp
      simp only [List.setIfInBounds_toArray, List.set_cons_zero, List.set_cons_succ]
      refine take_d 1 52 (.pointer (some ⟨wr.heap.size, 0, none⟩)) _ rfl rfl (by kernel_rfl) (by kernel_rfl) (by kernel_rfl) (fun _ _ _ h => h) (Or.inl ⟨by rfl, fun w' hSw => ?_⟩) hHeld ?_
      · go_simp
      simp only [List.setIfInBounds_toArray, List.set_cons_zero, List.set_cons_succ]
      refine take_d 2 53 (.int .i64 r.id) _ rfl rfl (by kernel_rfl) (by kernel_rfl) (by kernel_rfl) (fun _ _ _ h => h) (Or.inl ⟨by rfl, fun w' hSw => ?_⟩) hHeld ?_
      · have q := Blk.cell hSw 0
        go_simp
      simp only [List.setIfInBounds_toArray, List.set_cons_zero, List.set_cons_succ]
      refine take_d 4 55 (.pointer (some ⟨wr.heap.size, 1, none⟩)) _ rfl rfl (by kernel_rfl) (by kernel_rfl) (by kernel_rfl) (fun _ _ _ h => h) (Or.inl ⟨by rfl, fun w' hSw => ?_⟩) hHeld ?_
      · go_simp
      simp only [List.setIfInBounds_toArray, List.set_cons_zero, List.set_cons_succ]
      refine take_d 5 56 (.int .i64 r.pr) _ rfl rfl (by kernel_rfl) (by kernel_rfl) (by kernel_rfl) (fun _ _ _ h => h) (Or.inl ⟨by rfl, fun w' hSw => ?_⟩) hHeld ?_
      · have q := Blk.cell hSw 1
        go_simp
      simp only [List.setIfInBounds_toArray, List.set_cons_zero, List.set_cons_succ]
      refine take_d 7 58 (.pointer (some ⟨wr.heap.size, 2, none⟩)) _ rfl rfl (by kernel_rfl) (by kernel_rfl) (by kernel_rfl) (fun _ _ _ h => h) (Or.inl ⟨by rfl, fun w' hSw => ?_⟩) hHeld ?_
      · go_simp
      simp only [List.setIfInBounds_toArray, List.set_cons_zero, List.set_cons_succ]
      refine take_d 8 59 (.int .i64 r.ac) _ rfl rfl (by kernel_rfl) (by kernel_rfl) (by kernel_rfl) (fun _ _ _ h => h) (Or.inl ⟨by rfl, fun w' hSw => ?_⟩) hHeld ?_
      · have q := Blk.cell hSw 2
        go_simp
      simp only [List.setIfInBounds_toArray, List.set_cons_zero, List.set_cons_succ]
      refine take_d 10 61 (.pointer (some ⟨wr.heap.size, 3, none⟩)) _ rfl rfl (by kernel_rfl) (by kernel_rfl) (by kernel_rfl) (fun _ _ _ h => h) (Or.inl ⟨by rfl, fun w' hSw => ?_⟩) hHeld ?_
      · go_simp
      simp only [List.setIfInBounds_toArray, List.set_cons_zero, List.set_cons_succ]
      refine take_d 11 62 (.int .i64 r.sc) _ rfl rfl (by kernel_rfl) (by kernel_rfl) (by kernel_rfl) (fun _ _ _ h => h) (Or.inl ⟨by rfl, fun w' hSw => ?_⟩) hHeld ?_
      · have q := Blk.cell hSw 3
        go_simp
      simp only [List.setIfInBounds_toArray, List.set_cons_zero, List.set_cons_succ]
      refine wpAnyH_ready (rs := [3]) (by kernel_rfl) (by simp) ?_
      refine AllReadyH.cons rfl (fun K hK => ?_) AllReadyH.nil
      go_simp
      refine (xnum_any (base := base) _ _ N8.out OC.out (by omega) (by omega)).mono ?_
      rintro e wc0 ⟨vc0, rfl, hOc0, hFc0⟩
      have Sc0 := Fr8.blk hFc0 hHeld (by decide)
      have Oc0 := Lib.hid hOc0
      have Fc0 := Lib.hid (FC.out.trans hFc0)
      have zc0 : base ≤ wc0.heap.size := Nat.le_trans (by omega) hFc0.size
      refine hK.out _ _ Sc0 (fun hHeld => ?_)
      clear hK K hOc0 hFc0 Sc0
      refine wpAnyH_ready (rs := [6]) (by kernel_rfl) (by simp) ?_
      refine AllReadyH.cons rfl (fun K hK => ?_) AllReadyH.nil
      go_simp
      refine (xnum_any (base := base) _ _ N9.out Oc0.out (by omega) (by simp only [List.length_append, n6_len]; omega)).mono ?_
      rintro e wc1 ⟨vc1, rfl, hOc1, hFc1⟩
      have Sc1 := Fr8.blk hFc1 hHeld (by decide)
      have Oc1 := Lib.hid hOc1
      have Fc1 := Lib.hid (Fc0.out.trans hFc1)
      have zc1 : base ≤ wc1.heap.size := Nat.le_trans (by omega) hFc1.size
      refine hK.out _ _ Sc1 (fun hHeld => ?_)
      clear hK K hOc1 hFc1 Sc1
      refine wpAnyH_ready (rs := [9]) (by kernel_rfl) (by simp) ?_
      refine AllReadyH.cons rfl (fun K hK => ?_) AllReadyH.nil
      go_simp
      refine (xnum_any (base := base) _ _ N10.out Oc1.out (by omega) (by simp only [List.length_append, n6_len]; omega)).mono ?_
      rintro e wc2 ⟨vc2, rfl, hOc2, hFc2⟩
      have Sc2 := Fr8.blk hFc2 hHeld (by decide)
      have Oc2 := Lib.hid hOc2
      have Fc2 := Lib.hid (Fc1.out.trans hFc2)
      have zc2 : base ≤ wc2.heap.size := Nat.le_trans (by omega) hFc2.size
      refine hK.out _ _ Sc2 (fun hHeld => ?_)
      clear hK K hOc2 hFc2 Sc2
      refine wpAnyH_ready (rs := [12]) (by kernel_rfl) (by simp) ?_
      refine AllReadyH.cons rfl (fun K hK => ?_) AllReadyH.nil
      go_simp
      refine (xnum_any (base := base) _ _ N11.out Oc2.out (by omega) (by simp only [List.length_append, n6_len]; omega)).mono ?_
      rintro e wc3 ⟨vc3, rfl, hOc3, hFc3⟩
      have Sc3 := Fr8.blk hFc3 hHeld (by decide)
      have Oc3 := Lib.hid hOc3
      have Fc3 := Lib.hid (Fc2.out.trans hFc3)
      have zc3 : base ≤ wc3.heap.size := Nat.le_trans (by omega) hFc3.size
      refine hK.out _ _ Sc3 (fun hHeld => ?_)
      clear hK K hOc3 hFc3 Sc3
      refine take_d 13 0 (vc3) _ rfl rfl (by kernel_rfl) (by kernel_rfl) (by kernel_rfl) (fun _ _ _ h => h) (Or.inl ⟨by rfl, fun w' hSw => ?_⟩) hHeld ?_
      · go_simp
      simp only [List.setIfInBounds_toArray, List.set_cons_zero, List.set_cons_succ]
      refine wpAnyH_done (by kernel_rfl) ?_ _
      have XR2 : Hid (Blk wc3.drew wr.heap.size 104 #[.int .i64 r.id, .int .i64 r.pr, .int .i64 r.ac, .int .i64 r.sc, .string r.pat]) := Lib.hid (Fr8.blk Fc3.out XR.out (by decide))
      have OD : Hid (Own wc3.drew base vc3 (s3 ++ n6 r.id ++ n6 r.pr ++ n6 r.ac ++ n6 r.sc)) := Lib.hid Oc3.out
      have FD : Hid (Fr8 base wc3.drew wc3.drew) := Lib.hid (Fr8.refl _)
      have zd : base ≤ wc3.drew.heap.size := zc3
      go_wp2_with fail
      refine wp_region_held_drew (S := fun w' => Blk w' wr.heap.size 104 #[.int .i64 r.id, .int .i64 r.pr, .int .i64 r.ac, .int .i64 r.sc, .string r.pat]) (by kernel_rfl) XR2.out (fun hHeld => ?_)
      refine take_d 0 64 (vc3) _ rfl rfl (by kernel_rfl) (by kernel_rfl) (by kernel_rfl) (fun _ _ _ h => h) (Or.inl ⟨by rfl, fun w' hSw => ?_⟩) hHeld ?_
      · go_simp
      simp only [List.setIfInBounds_toArray, List.set_cons_zero, List.set_cons_succ]
      refine take_d 1 65 (.pointer (some ⟨wr.heap.size, 4, none⟩)) _ rfl rfl (by kernel_rfl) (by kernel_rfl) (by kernel_rfl) (fun _ _ _ h => h) (Or.inl ⟨by rfl, fun w' hSw => ?_⟩) hHeld ?_
      · go_simp
      simp only [List.setIfInBounds_toArray, List.set_cons_zero, List.set_cons_succ]
      refine take_d 2 66 (.string r.pat) _ rfl rfl (by kernel_rfl) (by kernel_rfl) (by kernel_rfl) (fun _ _ _ h => h) (Or.inl ⟨by rfl, fun w' hSw => ?_⟩) hHeld ?_
      · have q := Blk.cell hSw 4
        go_simp
      simp only [List.setIfInBounds_toArray, List.set_cons_zero, List.set_cons_succ]
      refine take_d 3 67 (.int .i64 (r.pat.size : Int)) _ rfl rfl (by kernel_rfl) (by kernel_rfl) (by kernel_rfl) (fun _ _ _ h => h) (Or.inl ⟨by rfl, fun w' hSw => ?_⟩) hHeld ?_
      · go_simp
      simp only [List.setIfInBounds_toArray, List.set_cons_zero, List.set_cons_succ]
      refine take_d 5 69 (.pointer (some ⟨wr.heap.size, 4, none⟩)) _ rfl rfl (by kernel_rfl) (by kernel_rfl) (by kernel_rfl) (fun _ _ _ h => h) (Or.inl ⟨by rfl, fun w' hSw => ?_⟩) hHeld ?_
      · go_simp
      simp only [List.setIfInBounds_toArray, List.set_cons_zero, List.set_cons_succ]
      refine take_d 6 70 (.string r.pat) _ rfl rfl (by kernel_rfl) (by kernel_rfl) (by kernel_rfl) (fun _ _ _ h => h) (Or.inl ⟨by rfl, fun w' hSw => ?_⟩) hHeld ?_
      · have q := Blk.cell hSw 4
        go_simp
      simp only [List.setIfInBounds_toArray, List.set_cons_zero, List.set_cons_succ]
      refine wpAnyH_ready (rs := [4]) (by kernel_rfl) (by simp) ?_
      refine AllReadyH.cons rfl (fun K hK => ?_) AllReadyH.nil
      go_simp
      refine (xnum_any (base := base) _ _ N12.out OD.out (by omega) (by simp only [List.length_append, n6_len]; omega)).mono ?_
      rintro e wd0 ⟨vd0, rfl, hOd0, hFd0⟩
      have Sd0 := Fr8.blk hFd0 hHeld (by decide)
      have Od0 := Lib.hid hOd0
      have Fd0 := Lib.hid (FD.out.trans hFd0)
      have zd0 : base ≤ wd0.heap.size := Nat.le_trans (by omega) hFd0.size
      refine hK.out _ _ Sd0 (fun hHeld => ?_)
      clear hK K hOd0 hFd0 Sd0
      refine wpAnyH_ready (rs := [7]) (by kernel_rfl) (by simp) ?_
      refine AllReadyH.cons rfl (fun K hK => ?_) AllReadyH.nil
      refine step_append_str _ rfl 71 rfl (.tmp 68) (.tmp 70) rfl base i0 hi hz0 hz1 hz2 vd0 _ (by simp [Act.eval]) Od0.out r.pat (by simp [Act.eval]) (by simp only [List.length_append, n6_len]; omega) zd0 ?_
      intro vd1 wd1 hOd1 hFd1
      have Sd1 := Fr8.blk hFd1 hHeld (by decide)
      have Od1 := Lib.hid hOd1
      have Fd1 := Lib.hid (Fd0.out.trans hFd1)
      have zd1 : base ≤ wd1.heap.size := Nat.le_trans zd0 hFd1.size
      simp only [List.setIfInBounds_toArray, List.set_cons_zero, List.set_cons_succ]
      refine hK.out _ _ Sd1 (fun hHeld => ?_)
      clear hK K hOd1 hFd1 Sd1
      refine take_d 8 0 (vd1) _ rfl rfl (by kernel_rfl) (by kernel_rfl) (by kernel_rfl) (fun _ _ _ h => h) (Or.inl ⟨by rfl, fun w' hSw => ?_⟩) hHeld ?_
      · go_simp
      simp only [List.setIfInBounds_toArray, List.set_cons_zero, List.set_cons_succ]
      refine wpAnyH_done (by kernel_rfl) ?_ _
      have FWn : Hid (Fr8 base w wd1) := Lib.hid (((FC0.out.drew.trans Fc3.out).drew).trans Fd1.out)
      have XDn := Lib.hid (Fr8.blk Fd1.out (Blk.drw (Fr8.blk Fc3.out (Blk.drw XDc.out) (by decide))) (by decide))
      go_wp2
      go_roundw
      case rel =>
        refine ⟨k + 1, by omega, by go_num, Lib.hid ?_, FWn, XDn⟩
        have := Od1.out
        rw [HS3.out] at this
        rw [flat_take HG.out]
        simpa only [eR, pt, List.append_assoc] using this
      case measure => simp [intOf]; omega
    · obtain rfl : np = k := by omega
      have hfl := RulesV.take_flat HR.out (by rw [← HNP.out]; exact h9) np
      have ho := HO.out
      rw [List.take_of_length_le (by rw [← HNP.out]; omega)] at ho hfl
      have HOn := Lib.hid ho
      have z5 : base ≤ wr.heap.size := hbw
      have y5 := HX.out.cell 5
      clear ho hlt hk
      go_wp2_with fail
      refine (xnum_any (base := base) _ (nd : Int) (by omega) HOn.out z5 (by rw [List.length_append]; omega)).mono ?_
      rintro e w6 ⟨v6, rfl, hO6, hF6⟩
      have XD6 := Lib.hid (Fr8.blk hF6 HX.out (by decide))
      have FW6 := Lib.hid (HF.out.trans hF6)
      obtain ⟨T6, hT6⟩ : ∃ T6, T6 = T4 ++ put.flatMap eR ++ n6 (nd : Int) := ⟨_, rfl⟩
      have hl6 : T6.length ≤ 530000000 := by rw [hT6]; simp only [List.length_append, n6_len]; omega
      rw [← hT6] at hO6
      have O6 := Lib.hid hO6
      have HT6 := Lib.hid hT6
      clear hO6 hF6 hT6 y4 y5 hfl
      go_wp2
      go_loopw [0, 8] (fun v i wr => ∃ q : Nat, q ≤ nd ∧ i = .int .i64 q ∧ Hid (Own wr base v (T6 ++ (drop.take q).flatMap n6)) ∧ Hid (Fr8 base w wr) ∧ Hid (Blk wr (w.heap.size + 1) 66 #[.int .i64 de, .int .i64 dcl, .int .i64 fu, .int .i64 st, .slice Ap np cp, .slice Ad nd cd])) (fun _ i _ => nd - (intOf i).toNat)
      case atStart => exact ⟨0, Nat.zero_le _, rfl, Lib.hid (by simpa using O6.out), FW6, XD6⟩
      case round =>
        obtain ⟨q, hq, rfl, HO', HF', HX'⟩ := hrel
        have hbw' : base ≤ wr.heap.size := Nat.le_trans hb HF'.out.size
        have y5 := HX'.out.cell 5
        by_cases hlt : q < nd
        · have hql : q < drop.length := by rw [← HND.out]; exact hlt
          have hlti : (q : Int) < (nd : Int) := by omega
          obtain ⟨b, off, rfl, hbb, c0⟩ := (HD.out.below (HF'.out.old hb)).at_ hql
          have HG := Lib.hid (List.getElem?_eq_getElem hql)
          have hr := HDr.out drop[q] (List.getElem_mem _)
          generalize drop[q] = r at HG hr c0
          have hl7 : (T6 ++ (drop.take q).flatMap n6).length ≤ 900000000 := by rw [List.length_append, flat6]; simp; omega
          have HL7 := Lib.hid hl7
          have NR : Hid (-1 ≤ r ∧ r ≤ 1099511627776) := Lib.hid (by omega)
          clear hql hr hl7
          go_wp2_with fail
          refine (xnum_any (base := base) _ r NR.out HO'.out hbw' HL7.out).mono ?_
          rintro e w7 ⟨v7, rfl, hO7, hF7⟩
          have XD7 := Lib.hid (Fr8.blk hF7 HX'.out (by decide))
          have FW7 := Lib.hid (HF'.out.trans hF7)
          have O7 := Lib.hid hO7
          clear hO7 hF7
          go_wp2
          go_roundw
          case rel => exact ⟨q + 1, by omega, by go_num, Lib.hid (by rw [flat_take HG.out, ← List.append_assoc]; exact O7.out), FW7, XD7⟩
          case measure => simp [intOf]; omega
        · obtain rfl : nd = q := by omega
          have ho := HO'.out
          rw [List.take_of_length_le (by rw [← HND.out]; omega), HT6.out, HT4.out, HS2.out] at ho
          have HOf := Lib.hid ho
          clear ho
          go_wp2
          go_ret
          exact ⟨_, rfl, HOf.out, HF'.out⟩
end Go.Proofs.Ytiheeafmplccoaa
