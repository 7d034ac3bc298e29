/- Layer 13: the records from a state to another one. (Written by genLdN.py.) -/
import Derived.Test.YtefgobmpleoafaaGreatLdN0
import Derived.Test.YtefgobmpleoafaaGreatLdJ
import Derived.Test.YtefgobmpleoafaaGreatLdK
import Derived.Test.YtefgobmpleoafaaGreatLdR
import Derived.Test.YtefgobmpleoafaaGreatLdB
namespace Go.Proofs.YtefgobmpleoafaaGreat
open Go.RowKit
variable {w w' : World}

/-- What Between answers. -/
def BtwP (base : Nat) (w : World) (a b : St) (e : Ending) (w' : World) : Prop :=
  Below w.heap.size w w' ∧ ((a.ok && b.ok) = false ∧ e = .returned (.tuple #[.slice none 0 0, .int .i64 10]) ∨ (a.ok && b.ok) = true ∧ ∃ n, Com n a.log b.log ∧ (runs a (recs n a b) = none ∧ e = .returned (.tuple #[.slice none 0 0, .int .i64 54]) ∨ runs a (recs n a b) = some b ∧ ∃ V c, e = .returned (.tuple #[.slice V (recs n a b).length c, .int .i64 0]) ∧ RecsO base w' (.slice V (recs n a b).length c) (recs n a b)))
theorem between_bad {base : Nat} {a b : St} {x : Int} (hB : Below w.heap.size w w') (h : (a.ok && b.ok) = false) (hx : x = 10) : BtwP base w a b (.returned (.tuple #[.slice none 0 0, .int .i64 x])) w' := ⟨hB, .inl ⟨h, by rw [hx]⟩⟩
set_option maxRecDepth 100000 in
set_option maxHeartbeats 16000000 in
theorem between_any (a b : St) (va vb : Value) (w : World) (hA : EntsV w.heap.size w va a.log) (hB : EntsV w.heap.size w vb b.log) :
    Calls Tryz.prog 27 #[a.val va, b.val vb] w (BtwP w.heap.size w a b) := by
  obtain ⟨A, c, rfl⟩ := hA.form
  obtain ⟨B, d, rfl⟩ := hB.form
  obtain ⟨n, hn⟩ : ∃ n, n = a.log.length := ⟨_, rfl⟩
  obtain ⟨m, hm⟩ : ∃ m, m = b.log.length := ⟨_, rfl⟩
  rw [← hn] at hA ⊢
  rw [← hm] at hB ⊢
  have NA := Lib.hid hn
  have NB := Lib.hid hm
  have b0 : Below w.heap.size w ((w.alloc (.cells #[.int .i64 a.vi, .int .i64 a.no, .int .i64 a.co, .int .i64 a.ac, .slice A n c] 41)).alloc (.cells #[.int .i64 b.vi, .int .i64 b.no, .int .i64 b.co, .int .i64 b.ac, .slice B m d] 41)) := ((Below.refl _ _).alloc (Nat.le_refl _) _).alloc (by simp) _
  have HX : Hid (Blk ((w.alloc (.cells #[.int .i64 a.vi, .int .i64 a.no, .int .i64 a.co, .int .i64 a.ac, .slice A n c] 41)).alloc (.cells #[.int .i64 b.vi, .int .i64 b.no, .int .i64 b.co, .int .i64 b.ac, .slice B m d] 41)) w.heap.size 41 #[.int .i64 a.vi, .int .i64 a.no, .int .i64 a.co, .int .i64 a.ac, .slice A n c]) := Lib.hid ((Blk.new _ _ _).alloc _)
  have HY : Hid (Blk ((w.alloc (.cells #[.int .i64 a.vi, .int .i64 a.no, .int .i64 a.co, .int .i64 a.ac, .slice A n c] 41)).alloc (.cells #[.int .i64 b.vi, .int .i64 b.no, .int .i64 b.co, .int .i64 b.ac, .slice B m d] 41)) (w.heap.size + 1) 41 #[.int .i64 b.vi, .int .i64 b.no, .int .i64 b.co, .int .i64 b.ac, .slice B m d]) := Lib.hid (Blk.at_new _ _ (by simp) _ _)
  have hs0 : ((w.alloc (.cells #[.int .i64 a.vi, .int .i64 a.no, .int .i64 a.co, .int .i64 a.ac, .slice A n c] 41)).alloc (.cells #[.int .i64 b.vi, .int .i64 b.no, .int .i64 b.co, .int .i64 b.ac, .slice B m d] 41)).heap.size = w.heap.size + 2 := by simp
  have HA := Lib.hid hA
  have HB := Lib.hid hB
  clear hn hm hA hB
  go_enter Tryz.func27, Tryz.ntmps27
  go_upto_region 1 with (fail)
  generalize (w.alloc _).alloc _ = wx at *
  have B0 : Hid (Below w.heap.size w wx) := Lib.hid b0
  have HS0 := Lib.hid hs0
  have hs1 : w.heap.size + 2 ≤ wx.heap.size := by omega
  clear b0 hs0
  have CA : Hid (Calls Tryz.prog 42 #[a.val (.slice A n c)] wx fun e w' => e = .returned (.bool a.ok) ∧ Below wx.heap.size wx w') := Lib.hid (sright_any a _ wx (HA.out.on B0.out))
  have CB : Hid (∀ W, Below wx.heap.size wx W → Calls Tryz.prog 42 #[b.val (.slice B m d)] W fun e w' => e = .returned (.bool b.ok) ∧ Below W.heap.size W w') := Lib.hid fun W hW => sright_any b _ W (HB.out.on (B0.out.trans (hW.mono (by omega))))
  have x0 := HX.out.cell 0
  have x1 := HX.out.cell 1
  have x2 := HX.out.cell 2
  have x3 := HX.out.cell 3
  have x4 := HX.out.cell 4
  have lx := HX.out.lt
  cases ha : a.ok with
  | false =>
    have HAo := Lib.hid ha
    clear ha
    go_wp2_with fail
    refine CA.out.mono ?_
    rintro e w1 ⟨rfl, hb1⟩
    rw [HAo.out]
    have B1 := Lib.hid (B0.out.trans (hb1.mono (by omega)))
    clear hb1
    go_wp2
    go_ret2
    exact between_bad B1.out (by rw [HAo.out]; rfl) rfl
  | true =>
    have HAo := Lib.hid ha
    clear ha
    go_wp2_with fail
    refine CA.out.mono ?_
    rintro e w1 ⟨rfl, hb1⟩
    rw [HAo.out]
    have W1 := Lib.hid hb1
    have Y1 := Lib.hid (HY.out.on hb1)
    have X1 := Lib.hid (HX.out.on hb1)
    clear hb1 x0 x1 x2 x3 x4 lx
    have y0 := Y1.out.cell 0
    have y1 := Y1.out.cell 1
    have y2 := Y1.out.cell 2
    have y3 := Y1.out.cell 3
    have y4 := Y1.out.cell 4
    have ly := Y1.out.lt
    cases hb : b.ok with
    | false =>
      have HBo := Lib.hid hb
      clear hb
      go_wp2_with fail
      refine (CB.out _ W1.out).mono ?_
      rintro e w2 ⟨rfl, hb2⟩
      rw [HBo.out]
      have B2 := Lib.hid (B0.out.trans ((W1.out.trans (hb2.mono W1.out.size)).mono (by omega)))
      clear hb2
      go_wp2
      go_ret2
      exact between_bad B2.out (by rw [HAo.out, HBo.out]; rfl) rfl
    | true =>
      have HBo := Lib.hid hb
      clear hb
      go_wp2_with fail
      refine (CB.out _ W1.out).mono ?_
      rintro e w2 ⟨rfl, hb2⟩
      rw [HBo.out]
      have W2 := Lib.hid (W1.out.trans (hb2.mono W1.out.size))
      have B2 := Lib.hid (B0.out.trans (W2.out.mono (by omega)))
      have X2 := Lib.hid (HX.out.on W2.out)
      have Y2 := Lib.hid (HY.out.on W2.out)
      have hs2 : w.heap.size + 2 ≤ w2.heap.size := Nat.le_trans hs1 W2.out.size
      clear hb2 y0 y1 y2 y3 y4 ly CA CB
      have hla : n ≤ 64 := by rw [NA.out]; exact (St.ok_iff.1 HAo.out).2.2.1
      have hlb : m ≤ 64 := by rw [NB.out]; exact (St.ok_iff.1 HBo.out).2.2.1
      have CL : Hid (∀ W, Below w2.heap.size w2 W → Calls Tryz.prog 43 #[.slice A n c, .slice B m d] W fun e w' => ∃ j A c, e = .returned (.slice A (logR j a.log b.log).length c) ∧ Com j a.log b.log ∧ RecsO W.heap.size w' (.slice A (logR j a.log b.log).length c) (logR j a.log b.log) ∧ Below W.heap.size W w') := Lib.hid fun W hW =>
        logRecords_any a.log b.log _ _ W (by rw [← NA.out]; omega) (by rw [← NB.out]; omega) (short_ok (St.ok_iff.1 HAo.out).2.2.2.1) (short_ok (St.ok_iff.1 HBo.out).2.2.2.1) (HA.out.on (B2.out.trans (hW.mono (by omega)))) (HB.out.on (B2.out.trans (hW.mono (by omega))))
      have CN : Hid (∀ W, Calls Tryz.prog 44 #[a.val (.slice A n c), b.val (.slice B m d)] W fun e w' => ∃ A' c', e = .returned (.slice A' (numR13 a b).length c') ∧ RecsO W.heap.size w' (.slice A' (numR13 a b).length c') (numR13 a b) ∧ Below W.heap.size W w') := Lib.hid fun W =>
        numberRecords_any a.vi a.no a.co a.ac b.vi b.no b.co b.ac A B n c m d a.log b.log W
      go_upto_region 3 with (fail)
      refine wp_region_held_drew (S := fun w' => Blk w' w.heap.size 41 #[.int .i64 a.vi, .int .i64 a.no, .int .i64 a.co, .int .i64 a.ac, .slice A n c] ∧ Blk w' (w.heap.size + 1) 41 #[.int .i64 b.vi, .int .i64 b.no, .int .i64 b.co, .int .i64 b.ac, .slice B m d]) (by kernel_rfl) ⟨X2.out, Y2.out⟩ (fun hHeld => ?_)
      refine take_d 0 17 (.pointer (some ⟨w.heap.size, 4, none⟩)) _ rfl rfl (by kernel_rfl) (by kernel_rfl) (by kernel_rfl) (fun _ _ _ h => h) (Or.inl ⟨by rfl, fun w' hSw => ?_⟩) hHeld ?_
      · go_simp
      simp only [List.setIfInBounds_toArray, List.set_cons_zero, List.set_cons_succ]
      refine take_d 1 18 (.slice A n c) _ rfl rfl (by kernel_rfl) (by kernel_rfl) (by kernel_rfl) (fun _ _ _ h => h) (Or.inl ⟨by rfl, fun w' hSw => ?_⟩) hHeld ?_
      · have q := hSw.1.cell 4
        go_simp
      simp only [List.setIfInBounds_toArray, List.set_cons_zero, List.set_cons_succ]
      refine take_d 2 19 (.pointer (some ⟨w.heap.size + 1, 4, none⟩)) _ rfl rfl (by kernel_rfl) (by kernel_rfl) (by kernel_rfl) (fun _ _ _ h => h) (Or.inl ⟨by rfl, fun w' hSw => ?_⟩) hHeld ?_
      · go_simp
      simp only [List.setIfInBounds_toArray, List.set_cons_zero, List.set_cons_succ]
      refine take_d 3 20 (.slice B m d) _ rfl rfl (by kernel_rfl) (by kernel_rfl) (by kernel_rfl) (fun _ _ _ h => h) (Or.inl ⟨by rfl, fun w' hSw => ?_⟩) hHeld ?_
      · have q := hSw.2.cell 4
        go_simp
      simp only [List.setIfInBounds_toArray, List.set_cons_zero, List.set_cons_succ]
      refine take_d 5 22 (.agg #[.int .i64 a.vi, .int .i64 a.no, .int .i64 a.co, .int .i64 a.ac, .slice A n c]) _ rfl rfl (by kernel_rfl) (by kernel_rfl) (by kernel_rfl) (fun _ _ _ h => h) (Or.inl ⟨by rfl, fun w' hSw => ?_⟩) hHeld ?_
      · have q0 := hSw.1.cell 0
        have q1 := hSw.1.cell 1
        have q2 := hSw.1.cell 2
        have q3 := hSw.1.cell 3
        have q4 := hSw.1.cell 4
        go_simp
      simp only [List.setIfInBounds_toArray, List.set_cons_zero, List.set_cons_succ]
      refine take_d 6 23 (.agg #[.int .i64 b.vi, .int .i64 b.no, .int .i64 b.co, .int .i64 b.ac, .slice B m d]) _ rfl rfl (by kernel_rfl) (by kernel_rfl) (by kernel_rfl) (fun _ _ _ h => h) (Or.inl ⟨by rfl, fun w' hSw => ?_⟩) hHeld ?_
      · have q0 := hSw.2.cell 0
        have q1 := hSw.2.cell 1
        have q2 := hSw.2.cell 2
        have q3 := hSw.2.cell 3
        have q4 := hSw.2.cell 4
        go_simp
      simp only [List.setIfInBounds_toArray, List.set_cons_zero, List.set_cons_succ]
      refine wpAnyH_ready (rs := [4]) (by kernel_rfl) (by simp) ?_
      refine AllReadyH.cons rfl (fun K hK => ?_) AllReadyH.nil
      go_simp
      refine (CL.out _ (Below.drewN' (Below.refl _ _) 1)).mono ?_
      rintro e w6 ⟨j, A6, c6, rfl, hc, o6, hB6⟩
      have HC := Lib.hid hc
      have W6 := Lib.hid hB6
      have hs6 : w.heap.size + 2 ≤ w6.heap.size := Nat.le_trans hs2 hB6.size
      have O6 : Hid (RecsO (w.heap.size + 2) w6 (.slice A6 (logR j a.log b.log).length c6) (logR j a.log b.log)) := Lib.hid (o6.low hs2)
      have hS6 : Blk w6 w.heap.size 41 #[.int .i64 a.vi, .int .i64 a.no, .int .i64 a.co, .int .i64 a.ac, .slice A n c] ∧ Blk w6 (w.heap.size + 1) 41 #[.int .i64 b.vi, .int .i64 b.no, .int .i64 b.co, .int .i64 b.ac, .slice B m d] := ⟨hHeld.1.on hB6, hHeld.2.on hB6⟩
      generalize hlj : logR j a.log b.log = l1 at O6
      have HLJ := Lib.hid hlj
      have hl1 : l1.length ≤ 65 := by rw [← hlj]; unfold logR; have := NB.out; simp only [List.length_append, List.length_map, List.length_drop]; split <;> simp <;> omega
      generalize hn1 : l1.length = n1 at *
      have HN1 := Lib.hid hn1
      clear hlj hn1
      refine hK.out _ _ hS6 (fun hHeld => ?_)
      clear hK K hS6 o6 hB6 hc
      refine wpAnyH_ready (rs := [7]) (by kernel_rfl) (by simp) ?_
      refine AllReadyH.cons rfl (fun K hK => ?_) AllReadyH.nil
      go_simp
      refine (CN.out _).mono ?_
      rintro e w7 ⟨A7, c7, rfl, o7, hB7⟩
      have W7 := Lib.hid (W6.out.trans (hB7.mono W6.out.size))
      have O6b := Lib.hid (O6.out.on hB7)
      have hs7 : w.heap.size + 2 ≤ w7.heap.size := Nat.le_trans hs6 hB7.size
      have O7 : Hid (RecsO (w.heap.size + 2) w7 (.slice A7 (numR13 a b).length c7) (numR13 a b)) := Lib.hid (o7.low hs6)
      have hS7 : Blk w7 w.heap.size 41 #[.int .i64 a.vi, .int .i64 a.no, .int .i64 a.co, .int .i64 a.ac, .slice A n c] ∧ Blk w7 (w.heap.size + 1) 41 #[.int .i64 b.vi, .int .i64 b.no, .int .i64 b.co, .int .i64 b.ac, .slice B m d] := ⟨hHeld.1.on hB7, hHeld.2.on hB7⟩
      have hl2 : (numR13 a b).length ≤ 3 := by unfold numR13; simp only [List.length_append]; have h1 : (if b.vi ≠ a.vi ∨ b.no ≠ a.no then [(⟨1, b.vi, b.no, []⟩ : Rc)] else []).length ≤ 1 := (by split <;> simp); have h2 : (if b.co ≠ a.co then [(⟨4, b.co, 0, []⟩ : Rc)] else []).length ≤ 1 := (by split <;> simp); have h3 : (if b.ac ≠ a.ac then [(⟨5, b.ac, 0, []⟩ : Rc)] else []).length ≤ 1 := (by split <;> simp); omega
      generalize hl2q : numR13 a b = l2 at O7 hl2
      have HL2 := Lib.hid hl2q
      generalize hn2 : l2.length = n2 at *
      have HN2 := Lib.hid hn2
      clear hl2q hn2
      refine hK.out _ _ hS7 (fun hHeld => ?_)
      clear hK K hS7 o7 hB7
      refine wpAnyH_ready (rs := [8]) (by kernel_rfl) (by simp) ?_
      refine AllReadyH.cons rfl (fun K hK => ?_) AllReadyH.nil
      refine step_append_recs _ rfl 25 rfl (.tmp 21) (.tmp 24) rfl (w.heap.size + 2) (.slice A6 n1 c6) (.slice A7 n2 c7) l1 l2 (by simp [Act.eval]) O6b.out (by simp [Act.eval]) O7.out (by rw [HN1.out, HN2.out]; omega) hs7 ?_
      intro v8 w8 o8 g8
      have ne : ∀ g cs, Blk w7 g 41 cs → some g ≠ (Value.slice A6 n1 c6).ownBlock := fun g cs hg e => O6b.out.ne hg (by decide) e.symm
      have hS8 : Blk w8 w.heap.size 41 #[.int .i64 a.vi, .int .i64 a.no, .int .i64 a.co, .int .i64 a.ac, .slice A n c] ∧ Blk w8 (w.heap.size + 1) 41 #[.int .i64 b.vi, .int .i64 b.no, .int .i64 b.co, .int .i64 b.ac, .slice B m d] := ⟨hHeld.1.grown g8 (ne _ _ hHeld.1), hHeld.2.grown g8 (ne _ _ hHeld.2)⟩
      have B8 : Hid (Below w.heap.size w w8) := Lib.hid (((Below.drewN' B2.out 1).trans (W7.out.mono (show w.heap.size ≤ w2.heap.size by omega))).grown g8 (by omega) (fun j hj => by have := (O6b.out.lt j hj).1; omega))
      have hs8g : w.heap.size + 2 ≤ w8.heap.size := Nat.le_trans hs7 g8.size
      obtain ⟨A8, c8, hv8⟩ := o8.len
      subst hv8
      have O8 := Lib.hid o8
      simp only [List.setIfInBounds_toArray, List.set_cons_zero, List.set_cons_succ]
      refine hK.out _ _ hS8 (fun hHeld => ?_)
      clear hK K hS8 o8 g8 ne
      refine take_d 9 6 (.slice A8 (l1 ++ l2).length c8) _ rfl rfl (by kernel_rfl) (by kernel_rfl) (by kernel_rfl) (fun _ _ _ h => h) (Or.inl ⟨by rfl, fun w' hSw => ?_⟩) hHeld ?_
      · go_simp
      simp only [List.setIfInBounds_toArray, List.set_cons_zero, List.set_cons_succ]
      refine wpAnyH_done (by kernel_rfl) ?_ _
      have X8 := Lib.hid hHeld.1
      clear hHeld
      have HRun : Hid (recs j a b = l1 ++ l2) := Lib.hid (by unfold recs; rw [HLJ.out, HL2.out])
      have HOK : Hid (∀ r ∈ l1 ++ l2, r.ok = true) := Lib.hid (by rw [← HRun.out]; exact recs_ok HAo.out HBo.out)
      have hN : (l1 ++ l2).length ≤ 100 := by rw [List.length_append, HN1.out, HN2.out]; omega
      have hs8 : w.heap.size + 2 ≤ w8.heap.size := hs8g
      generalize hL : l1 ++ l2 = L at *
      have HL := Lib.hid hL
      clear hL
      obtain ⟨N, hNN⟩ : ∃ N, N = L.length := ⟨_, rfl⟩
      rw [← hNN] at O8 hN ⊢
      have HNN := Lib.hid hNN
      clear hNN
      have LV : Hid (LogV (fun i => i = w.heap.size) w8 (.slice A n c) a.log) := Lib.hid (((LogV.of_ents HA.out).sub (fun i hi => .inr (by omega))).on B8.out)
      go_wp2
      go_loopw [28] (fun i wr => ∃ (k : Nat) (s : St) (As : Option Addr) (ns cs : Nat), k ≤ N ∧ i = .int .i64 (k : Int) ∧ Hid (runs a (L.take k) = some s) ∧ Hid (s.ok = true) ∧ Hid (ns = s.log.length) ∧ Hid (Blk wr w.heap.size 41 #[.int .i64 s.vi, .int .i64 s.no, .int .i64 s.co, .int .i64 s.ac, .slice As ns cs]) ∧ Hid (LogV (fun i => i = w.heap.size) wr (.slice As ns cs) s.log) ∧ Hid (RecsO (w.heap.size + 2) wr (.slice A8 N c8) L) ∧ Hid (Below w.heap.size w wr) ∧ w.heap.size + 2 ≤ wr.heap.size) (fun i _ => N - (intOf i).toNat)
      case atStart => exact ⟨0, a, A, n, c, Nat.zero_le _, rfl, Lib.hid rfl, HAo, NA, X8, LV, O8, B8, hs8⟩
      case round =>
        obtain ⟨k, s, As, ns, cs, hk, rfl, HR, HSo, HNs, HX8, HLV, HO, HW, hsr⟩ := hrel
        by_cases hlt : k < N
        · have hkl : k < L.length := by rw [← HNN.out]; exact hlt
          obtain ⟨br, Ar, cr, rfl, hbb, c0, c1, c2, c3, he⟩ := HO.out.at_ hkl
          have HG := Lib.hid (List.getElem?_eq_getElem hkl)
          have hrok := HOK.out L[k] (List.getElem_mem _)
          generalize L[k] = r at HG hrok c0 c1 c2 c3 he
          have HRo := Lib.hid hrok
          obtain ⟨nr, hnr⟩ : ∃ nr, nr = r.log.length := ⟨_, rfl⟩
          rw [← hnr] at c3 he
          have HLr : Hid (LogV (fun i => i = w.heap.size) wr (.slice Ar nr cr) r.log) := Lib.hid (LogV.of_own he (fun i hi => by omega))
          clear he hnr hrok hkl
          have BA : Hid (∀ o, Below wr.heap.size wr (wr.alloc o)) := Lib.hid fun o => (Below.refl _ _).alloc (Nat.le_refl _) o
          have AP : Hid (∀ W, Calls Tryz.prog 37 #[s.val (.slice As ns cs), r.val (.slice Ar nr cr)] W fun e w' => e = .returned (.bool (fits s r)) ∧ Below W.heap.size W w') := Lib.hid fun W => applies_any s r As Ar ns cs nr cr HNs.out W
          have x0 := HX8.out.cell 0
          have x1 := HX8.out.cell 1
          have x2 := HX8.out.cell 2
          have x3 := HX8.out.cell 3
          have x4 := HX8.out.cell 4
          have xl := HX8.out.lt
          cases hf : fits s r with
          | false =>
            have HF := Lib.hid hf
            clear hf
            go_wp2_with fail
            refine (AP.out _).mono ?_
            rintro e w9 ⟨rfl, hb9⟩
            rw [HF.out]
            have B9 := Lib.hid (HW.out.trans (((BA.out _).trans (hb9.mono (by simp))).mono (by omega)))
            clear hb9
            go_wp2
            go_ret2
            exact ⟨B9.out, .inr ⟨by rw [HAo.out, HBo.out]; rfl, j, HC.out, .inl ⟨by rw [HRun.out]; exact runs_stop HR.out HG.out HF.out, rfl⟩⟩⟩
          | true =>
            have HF := Lib.hid hf
            clear hf
            go_wp2_with fail
            refine (AP.out _).mono ?_
            rintro e w9 ⟨rfl, hb9⟩
            rw [HF.out]
            have V9 := Lib.hid ((BA.out (.cells #[.int .i64 r.k, .int .i64 r.a, .int .i64 r.b, .slice Ar nr cr] 82)).trans (hb9.mono (by simp)))
            have R9 := Lib.hid ((Blk.new wr 82 #[.int .i64 r.k, .int .i64 r.a, .int .i64 r.b, .slice Ar nr cr]).on hb9)
            have X9 := Lib.hid (HX8.out.on V9.out)
            have hs9 : wr.heap.size < w9.heap.size := R9.out.lt
            have CH : Hid (Calls Tryz.prog 38 #[s.val (.slice As ns cs), r.val (.slice Ar nr cr)] w9 fun e w' => ∃ A' n' c', e = .returned ((chg s r).val (.slice A' n' c')) ∧ LogV (fun i => i = w.heap.size) w' (.slice A' n' c') (chg s r).log ∧ n' = (chg s r).log.length ∧ Below w9.heap.size w9 w') := Lib.hid
              (change_any s r As Ar ns cs nr cr w9 HSo.out HRo.out HF.out (HLV.out.on V9.out) (HLr.out.on V9.out) (fun i hi => by omega))
            clear hb9 x0 x1 x2 x3 x4 xl c0 c1 c2 c3
            have x0 := X9.out.cell 0
            have x1 := X9.out.cell 1
            have x2 := X9.out.cell 2
            have x3 := X9.out.cell 3
            have x4 := X9.out.cell 4
            have xl := X9.out.lt
            have c0 := R9.out.cell 0
            have c1 := R9.out.cell 1
            have c2 := R9.out.cell 2
            have c3 := R9.out.cell 3
            have cl := R9.out.lt
            go_wp2_with fail
            refine CH.out.mono ?_
            rintro e w10 ⟨A10, n10, c10, rfl, l10, hn10, hb10⟩
            have V10 := Lib.hid (V9.out.trans (hb10.mono V9.out.size))
            have X10 := Lib.hid (HX8.out.on V10.out)
            have O10 := Lib.hid (HO.out.on V10.out)
            have B10 := Lib.hid (HW.out.trans (V10.out.mono (by omega)))
            have L10 := Lib.hid l10
            have N10 := Lib.hid hn10
            have hs10 : w.heap.size + 2 ≤ w10.heap.size := Nat.le_trans hsr V10.out.size
            have HRn := Lib.hid (runs_snoc HR.out HG.out HF.out)
            have HSn := Lib.hid (chg_ok HSo.out HRo.out HF.out)
            generalize chg s r = s2 at *
            clear hb10 l10 hn10 x0 x1 x2 x3 x4 xl c0 c1 c2 c3 cl
            have x0 := X10.out.cell 0
            have x1 := X10.out.cell 1
            have x2 := X10.out.cell 2
            have x3 := X10.out.cell 3
            have x4 := X10.out.cell 4
            have xl := X10.out.lt
            have xf := X10.out.frozen
            go_wp2
            go_roundw
            case rel => exact ⟨k + 1, s2, A10, n10, c10, by omega, by go_num, HRn, HSn, N10, Lib.hid (by simpa using (((((X10.out.set_ 0 (.int .i64 s2.vi)).set_ 1 (.int .i64 s2.no)).set_ 2 (.int .i64 s2.co)).set_ 3 (.int .i64 s2.ac)).set_ 4 (.slice A10 n10 c10))), Lib.hid (L10.out.next ((((((Fr.refl (S := fun i => i = w.heap.size) w10).set_ (q := ⟨w.heap.size, 0, none⟩) (.inl (show w.heap.size = w.heap.size from rfl)) (.int .i64 s2.vi)).set_ (q := ⟨w.heap.size, 1, none⟩) (.inl (show w.heap.size = w.heap.size from rfl)) (.int .i64 s2.no)).set_ (q := ⟨w.heap.size, 2, none⟩) (.inl (show w.heap.size = w.heap.size from rfl)) (.int .i64 s2.co)).set_ (q := ⟨w.heap.size, 3, none⟩) (.inl (show w.heap.size = w.heap.size from rfl)) (.int .i64 s2.ac)).set_ (q := ⟨w.heap.size, 4, none⟩) (.inl (show w.heap.size = w.heap.size from rfl)) (.slice A10 n10 c10))), Lib.hid (((((O10.out.set_ (q := ⟨w.heap.size, 0, none⟩) (by simp) (.int .i64 s2.vi)).set_ (q := ⟨w.heap.size, 1, none⟩) (by simp) (.int .i64 s2.no)).set_ (q := ⟨w.heap.size, 2, none⟩) (by simp) (.int .i64 s2.co)).set_ (q := ⟨w.heap.size, 3, none⟩) (by simp) (.int .i64 s2.ac)).set_ (q := ⟨w.heap.size, 4, none⟩) (by simp) (.slice A10 n10 c10)), Lib.hid (((((B10.out.setCell (p := ⟨w.heap.size, 0, none⟩) (Nat.le_refl _) (.int .i64 s2.vi)).setCell (p := ⟨w.heap.size, 1, none⟩) (Nat.le_refl _) (.int .i64 s2.no)).setCell (p := ⟨w.heap.size, 2, none⟩) (Nat.le_refl _) (.int .i64 s2.co)).setCell (p := ⟨w.heap.size, 3, none⟩) (Nat.le_refl _) (.int .i64 s2.ac)).setCell (p := ⟨w.heap.size, 4, none⟩) (Nat.le_refl _) (.slice A10 n10 c10)), by simpa [World.setCell] using hs10⟩
            case measure => simp [intOf]; omega
        · obtain rfl : k = N := by omega
          have hR := HR.out
          rw [List.take_of_length_le (by rw [← HNN.out]; omega)] at hR
          have HR2 := Lib.hid hR
          clear hR
          go_wp2
          go_ret2
          refine ⟨HW.out, .inr ⟨by rw [HAo.out, HBo.out]; rfl, j, HC.out, .inr ⟨?_, A8, c8, ?_, ?_⟩⟩⟩
          · have h := HR2.out
            have e := recs_lead HC.out (t := s) (a := a) (b := b) (by rw [HRun.out]; exact h)
            rw [HRun.out, h, e]
          · rw [HRun.out, ← HNN.out]
            rfl
          · rw [HRun.out, ← HNN.out]
            exact HO.out.low (by omega)
end Go.Proofs.YtefgobmpleoafaaGreat
