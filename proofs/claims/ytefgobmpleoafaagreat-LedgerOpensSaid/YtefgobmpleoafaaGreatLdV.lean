/- Layer 13: Apply, the program's and the document's; whether a state is the document's. (Written by genLdV.py.) -/
import Derived.Test.YtefgobmpleoafaaGreatMLu
import Derived.Test.YtefgobmpleoafaaGreatLdN0
import Derived.Test.YtefgobmpleoafaaGreatLdR
import Derived.Test.YtefgobmpleoafaaGreatLdB
import Derived.Test.YtefgobmpleoafaaGreatMEf
namespace Go.Proofs.YtefgobmpleoafaaGreat
open Go.RowKit
variable {w w' : World}

theorem xapply13_any (s : St) (r : Rc) (v u : Value) (w : World) (S : Nat → Prop) (hs : s.ok = true) (hr : r.ok = true) (hV : LogV S w v s.log) (hU : LogV S w u r.log) (hS : ∀ i, S i → i < w.heap.size) :
    Calls Tryz.prog 21 #[s.val v, r.val u] w (ApIf S w s r) := by
  obtain ⟨vi, no, co, ac, l⟩ := s
  obtain ⟨k, a, b, rl⟩ := r
  obtain ⟨_, _, h5, _, _, _⟩ := St.ok_iff.1 hs
  obtain ⟨⟨k1, k2⟩, ⟨k3, k4⟩, _, k7, _⟩ := Rc.ok_iff.1 hr
  simp only at *
  have hk : k = 1 ∨ k = 2 ∨ k = 3 ∨ k = 4 ∨ k = 5 := by omega
  rcases hk with rfl | rfl | rfl | rfl | rfl
  · exact xapply1_any vi no co ac a b l rl v u w S h5 hV hU hS
  · exact xapply2_any vi no co ac a b l rl v u w S h5 hV hU hS (by have : (rl.length : Int) = 1 := k7; omega)
  · exact xapply3_any vi no co ac a b l rl v u w S h5 hV hU hS k3
  · exact xapply4_any vi no co ac a b l rl v u w S h5 hV hU hS
  · exact xapply5_any vi no co ac a b l rl v u w S h5 hV hU hS
def apT (s : St) (r : Rc) : St := if (s.ok && r.ok) = true then (if fits s r = true then chg s r else .zero) else .zero
def apX (s : St) (r : Rc) : Int := if (s.ok && r.ok) = true then (if fits s r = true then 0 else 54) else 10
def ApRt (w : World) (s : St) (r : Rc) (e : Ending) (w' : World) : Prop := ApOut (fun _ => False) w (apT s r) (apX s r) e w'
theorem ap_bad {s : St} {r : Rc} {e : Ending} (h : (s.ok && r.ok) = false) (k : ApOut (fun _ => False) w .zero 10 e w') : ApRt w s r e w' := by
  unfold ApRt apT apX
  have e1 : ¬ (s.ok && r.ok) = true := by rw [h]; simp
  rw [if_neg e1, if_neg e1]
  exact k
theorem ap_un {s : St} {r : Rc} {e : Ending} (hs : s.ok = true) (hr : r.ok = true) (hf : fits s r = false) (k : ApOut (fun _ => False) w .zero 54 e w') : ApRt w s r e w' := by
  unfold ApRt apT apX
  have e1 : (s.ok && r.ok) = true := by rw [hs, hr]; rfl
  have e2 : ¬ fits s r = true := by rw [hf]; simp
  rw [if_pos e1, if_pos e1, if_neg e2, if_neg e2]
  exact k
theorem ap_ok {s : St} {r : Rc} {e : Ending} (hs : s.ok = true) (hr : r.ok = true) (hf : fits s r = true) (k : ApOut (fun _ => False) w (chg s r) 0 e w') : ApRt w s r e w' := by
  unfold ApRt apT apX
  have e1 : (s.ok && r.ok) = true := by rw [hs, hr]; rfl
  rw [if_pos e1, if_pos e1, if_pos hf, if_pos hf]
  exact k
set_option maxRecDepth 100000 in
set_option maxHeartbeats 8000000 in
theorem same13_any (s x : St) (v u : Value) (w : World) (hm : s.log.length ≤ 70) (hsm : ∀ e ∈ s.log, smallE e = true) (hxs : ∀ e ∈ x.log, e.d.put.length ≤ 1000000 ∧ e.d.drop.length ≤ 1000000) (hV : EntsV w.heap.size w v s.log) (hU : EntsV w.heap.size w u x.log) :
    Calls Tryz.prog 11 #[s.val v, x.val u] w fun e w' => ∃ c, e = .returned (.bool c) ∧ (c = true ↔ s = x) ∧ Below w.heap.size w w' := by
  obtain ⟨A, c, rfl⟩ := hV.form
  obtain ⟨B, d, rfl⟩ := hU.form
  obtain ⟨n, hn⟩ : ∃ n, n = s.log.length := ⟨_, rfl⟩
  obtain ⟨m, hmm⟩ : ∃ m, m = x.log.length := ⟨_, rfl⟩
  rw [← hn] at hV ⊢
  rw [← hmm] at hU ⊢
  have HM := Lib.hid hm
  have HSm := Lib.hid hsm
  have HXs := Lib.hid hxs
  have HV := Lib.hid hV
  have HU := Lib.hid hU
  have b0 : Below w.heap.size w ((w.alloc (.cells #[.int .i64 s.vi, .int .i64 s.no, .int .i64 s.co, .int .i64 s.ac, .slice A n c] 41)).alloc (.cells #[.int .i64 x.vi, .int .i64 x.no, .int .i64 x.co, .int .i64 x.ac, .slice B m d] 31)) := ((Below.refl _ _).alloc (Nat.le_refl _) _).alloc (by simp) _
  have HX : Hid (Blk ((w.alloc (.cells #[.int .i64 s.vi, .int .i64 s.no, .int .i64 s.co, .int .i64 s.ac, .slice A n c] 41)).alloc (.cells #[.int .i64 x.vi, .int .i64 x.no, .int .i64 x.co, .int .i64 x.ac, .slice B m d] 31)) w.heap.size 41 #[.int .i64 s.vi, .int .i64 s.no, .int .i64 s.co, .int .i64 s.ac, .slice A n c]) := Lib.hid ((Blk.new _ _ _).alloc _)
  have HY : Hid (Blk ((w.alloc (.cells #[.int .i64 s.vi, .int .i64 s.no, .int .i64 s.co, .int .i64 s.ac, .slice A n c] 41)).alloc (.cells #[.int .i64 x.vi, .int .i64 x.no, .int .i64 x.co, .int .i64 x.ac, .slice B m d] 31)) (w.heap.size + 1) 31 #[.int .i64 x.vi, .int .i64 x.no, .int .i64 x.co, .int .i64 x.ac, .slice B m d]) := Lib.hid (Blk.at_new _ _ (by simp) _ _)
  clear hm hsm hxs hV hU hn hmm
  go_enter Tryz.func11, Tryz.ntmps11
  go_upto_region 1 with (fail)
  generalize (w.alloc _).alloc _ = wx at *
  have B5 : Hid (Below w.heap.size w wx.drew) := Lib.hid (Below.drewN' b0 1)
  have hs5 : w.heap.size ≤ wx.drew.heap.size := B5.out.size
  have CM : Hid (Calls Tryz.prog 25 #[s.val (.slice A n c)] wx.drew fun e w' => ∃ A c, e = .returned (s.val (.slice A s.log.length c)) ∧ OwnX w.heap.size wx.drew.heap.size w' (.slice A s.log.length c) s.log ∧ Below wx.drew.heap.size wx.drew w') := Lib.hid (madeState_any w.heap.size s _ wx.drew hs5 HM.out HSm.out (HV.out.below B5.out))
  have hb6 : ∀ w6 : World, Below wx.drew.heap.size wx.drew w6 → w.heap.size ≤ w6.heap.size := fun w6 h => Nat.le_trans hs5 h.size
  clear b0
  refine wp_region_held_drew (S := fun w' => Blk w' w.heap.size 41 #[.int .i64 s.vi, .int .i64 s.no, .int .i64 s.co, .int .i64 s.ac, .slice A n c] ∧ Blk w' (w.heap.size + 1) 31 #[.int .i64 x.vi, .int .i64 x.no, .int .i64 x.co, .int .i64 x.ac, .slice B m d]) (by kernel_rfl) ⟨HX.out, HY.out⟩ (fun hHeld => ?_)
  refine take_d 0 5 (.agg #[.int .i64 s.vi, .int .i64 s.no, .int .i64 s.co, .int .i64 s.ac, .slice A n c]) _ rfl rfl (by kernel_rfl) (by kernel_rfl) (by kernel_rfl) (fun _ _ _ h => h) (Or.inl ⟨by rfl, fun w' hSw => ?_⟩) hHeld ?_
  · have q0 := hSw.1.cell 0
    have q1 := hSw.1.cell 1
    have q2 := hSw.1.cell 2
    have q3 := hSw.1.cell 3
    have q4 := hSw.1.cell 4
    go_simp
  simp only [List.setIfInBounds_toArray, List.set_cons_zero, List.set_cons_succ]
  refine take_d 2 7 (.agg #[.int .i64 x.vi, .int .i64 x.no, .int .i64 x.co, .int .i64 x.ac, .slice B m d]) _ rfl rfl (by kernel_rfl) (by kernel_rfl) (by kernel_rfl) (fun _ _ _ h => h) (Or.inl ⟨by rfl, fun w' hSw => ?_⟩) hHeld ?_
  · have q0 := hSw.2.cell 0
    have q1 := hSw.2.cell 1
    have q2 := hSw.2.cell 2
    have q3 := hSw.2.cell 3
    have q4 := hSw.2.cell 4
    go_simp
  simp only [List.setIfInBounds_toArray, List.set_cons_zero, List.set_cons_succ]
  refine wpAnyH_ready (rs := [1]) (by kernel_rfl) (by simp) ?_
  refine AllReadyH.cons rfl (fun K hK => ?_) AllReadyH.nil
  go_simp
  refine CM.out.mono ?_
  rintro e w6 ⟨A6, c6, rfl, o6, hB6⟩
  have hS6 : Blk w6 w.heap.size 41 #[.int .i64 s.vi, .int .i64 s.no, .int .i64 s.co, .int .i64 s.ac, .slice A n c] ∧ Blk w6 (w.heap.size + 1) 31 #[.int .i64 x.vi, .int .i64 x.no, .int .i64 x.co, .int .i64 x.ac, .slice B m d] := ⟨hHeld.1.on hB6, hHeld.2.on hB6⟩
  have B6 := Lib.hid (B5.out.trans (hB6.mono B5.out.size))
  have CE : Hid (Calls Tryz.prog 24 #[s.val (.slice A6 s.log.length c6), x.val (.slice B m d)] w6 fun e w' => ∃ c, e = .returned (.bool c) ∧ (c = true ↔ s = x) ∧ Below w6.heap.size w6 w') := Lib.hid (xsameSt_any s x _ _ w6 (by have := HM.out; omega) (fun e he => smallE_len (HSm.out e he)) HXs.out (o6.read (hb6 w6 hB6)) (HU.out.on B6.out))
  refine hK.out _ _ hS6 (fun hHeld => ?_)
  clear hK K hS6 o6 hB6
  refine wpAnyH_ready (rs := [3]) (by kernel_rfl) (by simp) ?_
  refine AllReadyH.cons rfl (fun K hK => ?_) AllReadyH.nil
  go_simp
  refine CE.out.mono ?_
  rintro e w7 ⟨cc, rfl, hcc, hB7⟩
  have hS7 : Blk w7 w.heap.size 41 #[.int .i64 s.vi, .int .i64 s.no, .int .i64 s.co, .int .i64 s.ac, .slice A n c] ∧ Blk w7 (w.heap.size + 1) 31 #[.int .i64 x.vi, .int .i64 x.no, .int .i64 x.co, .int .i64 x.ac, .slice B m d] := ⟨hHeld.1.on hB7, hHeld.2.on hB7⟩
  have HCC := Lib.hid hcc
  have B7 := Lib.hid (B6.out.trans (hB7.mono B6.out.size))
  refine hK.out _ _ hS7 (fun hHeld => ?_)
  clear hK K hS7 hB7 hcc
  refine take_d 4 4 (.bool cc) _ rfl rfl (by kernel_rfl) (by kernel_rfl) (by kernel_rfl) (fun _ _ _ h => h) (Or.inl ⟨by rfl, fun w' hSw => ?_⟩) hHeld ?_
  · go_simp
  simp only [List.setIfInBounds_toArray, List.set_cons_zero, List.set_cons_succ]
  refine wpAnyH_done (by kernel_rfl) ?_ _
  go_wp2
  go_ret
  exact ⟨cc, rfl, HCC.out, B7.out⟩
end Go.Proofs.YtefgobmpleoafaaGreat
