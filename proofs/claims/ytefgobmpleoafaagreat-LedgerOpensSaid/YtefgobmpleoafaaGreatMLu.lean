/- Joined: LdU1, LdU2, LdU3, LdU4, LdU5. -/
import Derived.Test.YtefgobmpleoafaaGreatMLs
import Derived.Test.YtefgobmpleoafaaGreatLdF
/- The document's Apply of a record to a state. (Written by genLdU.py.) -/
namespace Go.Proofs.YtefgobmpleoafaaGreat
open Go.RowKit
variable {w w' : World}

/-- What Apply answers: a state, an error's number. -/
def ApOut (S : Nat → Prop) (w : World) (t : St) (x : Int) (e : Ending) (w' : World) : Prop :=
  ∃ A n c, e = .returned (.tuple #[t.val (.slice A n c), .int .i64 x]) ∧ n = t.log.length ∧ LogV S w' (.slice A n c) t.log ∧ Below w.heap.size w w'
def ApIf (S : Nat → Prop) (w : World) (s : St) (r : Rc) (e : Ending) (w' : World) : Prop := (fits s r = true → ApOut S w (chg s r) 0 e w') ∧ (¬ fits s r = true → ApOut S w .zero 54 e w')
theorem ApIf.good {S : Nat → Prop} {s : St} {r : Rc} {e : Ending} (hf : fits s r = true) (h : ApOut S w (chg s r) 0 e w') : ApIf S w s r e w' := ⟨fun _ => h, fun k => absurd hf k⟩
theorem ApIf.bad {S : Nat → Prop} {s : St} {r : Rc} {e : Ending} (hf : ¬ fits s r = true) (h : ApOut S w .zero 54 e w') : ApIf S w s r e w' := ⟨fun k => absurd k hf, fun _ => h⟩
set_option maxRecDepth 100000 in
set_option maxHeartbeats 8000000 in
theorem xapply1_any (vi no co ac a b : Int) (l rl : List En) (v u : Value) (w : World) (S : Nat → Prop) (hm : l.length ≤ 64) (hV : LogV S w v l) (hU : LogV S w u rl) (hS : ∀ i, S i → i < w.heap.size) :
    Calls Tryz.prog 21 #[(⟨vi, no, co, ac, l⟩ : St).val v, (⟨1, a, b, rl⟩ : Rc).val u] w (ApIf S w ⟨vi, no, co, ac, l⟩ ⟨1, a, b, rl⟩) := by
  obtain ⟨A, c, rfl⟩ := hV.form
  obtain ⟨B, d, rfl⟩ := hU.form
  obtain ⟨n, hn⟩ : ∃ n, n = l.length := ⟨_, rfl⟩
  obtain ⟨m, hmm⟩ : ∃ m, m = rl.length := ⟨_, rfl⟩
  rw [← hn] at hV hm ⊢
  rw [← hmm] at hU ⊢
  have HN := Lib.hid hn
  have HMM := Lib.hid hmm
  obtain ⟨L, hL, hP⟩ := id hV
  have HSS := Lib.hid hS
  have HLE := Lib.hid hL
  have hnL : n = L.length := by rw [hn, ← hL, List.length_map]
  have HNL := Lib.hid hnL
  obtain ⟨i0, hi, hz0, hz1, hz2⟩ := info_three info_xentry
  have b0 : Below w.heap.size w (((w.alloc (.cells #[.int .i64 vi, .int .i64 no, .int .i64 co, .int .i64 ac, .slice A n c] 31)).alloc (.cells #[.int .i64 1, .int .i64 a, .int .i64 b, .slice B m d] 52)).alloc (.cells #[.int .i64 0, .int .i64 0, .int .i64 0, .int .i64 0, .slice none 0 0] 31)) := (((Below.refl _ _).alloc (Nat.le_refl _) _).alloc (by simp) _).alloc (by simp; omega) _
  have HX : Hid (Blk (((w.alloc (.cells #[.int .i64 vi, .int .i64 no, .int .i64 co, .int .i64 ac, .slice A n c] 31)).alloc (.cells #[.int .i64 1, .int .i64 a, .int .i64 b, .slice B m d] 52)).alloc (.cells #[.int .i64 0, .int .i64 0, .int .i64 0, .int .i64 0, .slice none 0 0] 31)) w.heap.size 31 #[.int .i64 vi, .int .i64 no, .int .i64 co, .int .i64 ac, .slice A n c]) := Lib.hid (((Blk.new _ _ _).alloc _).alloc _)
  have HR : Hid (Blk (((w.alloc (.cells #[.int .i64 vi, .int .i64 no, .int .i64 co, .int .i64 ac, .slice A n c] 31)).alloc (.cells #[.int .i64 1, .int .i64 a, .int .i64 b, .slice B m d] 52)).alloc (.cells #[.int .i64 0, .int .i64 0, .int .i64 0, .int .i64 0, .slice none 0 0] 31)) (w.heap.size + 1) 52 #[.int .i64 1, .int .i64 a, .int .i64 b, .slice B m d]) := Lib.hid ((Blk.at_new _ _ (by simp) _ _).alloc _)
  have HZ : Hid (Blk (((w.alloc (.cells #[.int .i64 vi, .int .i64 no, .int .i64 co, .int .i64 ac, .slice A n c] 31)).alloc (.cells #[.int .i64 1, .int .i64 a, .int .i64 b, .slice B m d] 52)).alloc (.cells #[.int .i64 0, .int .i64 0, .int .i64 0, .int .i64 0, .slice none 0 0] 31)) (w.heap.size + 2) 31 #[.int .i64 0, .int .i64 0, .int .i64 0, .int .i64 0, .slice none 0 0]) := Lib.hid (Blk.at_new _ _ (by simp) _ _)
  have hs0 : (((w.alloc (.cells #[.int .i64 vi, .int .i64 no, .int .i64 co, .int .i64 ac, .slice A n c] 31)).alloc (.cells #[.int .i64 1, .int .i64 a, .int .i64 b, .slice B m d] 52)).alloc (.cells #[.int .i64 0, .int .i64 0, .int .i64 0, .int .i64 0, .slice none 0 0] 31)).heap.size = w.heap.size + 3 := by simp
  have HP := Lib.hid hP
  have HV := Lib.hid hV
  have HU := Lib.hid hU
  clear hn hmm hL hnL hP hV hU hS
  go_enter Tryz.func21, Tryz.ntmps21
  go_upto_region 1 with (fail)
  generalize ((w.alloc _).alloc _).alloc _ = wx at *
  have HS0 := Lib.hid hs0
  have B0 := Lib.hid b0
  have hsx : w.heap.size + 3 ≤ wx.heap.size := by omega
  clear b0 hs0
  have BE : Hid (Below w.heap.size w (wx.alloc (.cells #[] 78))) := Lib.hid (B0.out.alloc (by omega) _)
  have OE : Hid ((wx.alloc (.cells #[] 78)).ownsRow (w.heap.size + 3) 78 9 (.slice (some ⟨wx.heap.size, 0, none⟩) 0 0) 0 []) := Lib.hid (World.ownsRow_made wx #[] 0 hsx (by unfold maxLen; omega) (by simp))
  have SRC := Lib.hid (HP.out (wx.alloc (.cells #[] 78)) (Fr.of_below BE.out)).src
  have x4 := HX.out.cell 4
  have xl := HX.out.lt
  have x4b := (HX.out.alloc (.cells #[] 78)).cell 4
  have xlb := (HX.out.alloc (.cells #[] 78)).lt
  go_upto_region 2 with (at_builtin
                         refine wpList_append_gen _ rfl (.tmp 7) (.tmp 9) 29 rfl (w.heap.size + 3) 78 i0 _ 9 104 Tryz.underlying29 hi hz0 hz1 hz2 rfl (by decide) _ 0 [] rfl OE.out A n c (enCells L) rfl (by rw [enCells_len, HNL.out]) SRC.out.2.1 SRC.out.2.2.1 SRC.out.2.2.2 (by unfold maxLen; omega) (by omega) (by simp; omega) ?_
                         intro v4 w4 o4 g4
                         rw [List.nil_append, Nat.zero_add] at o4
                         obtain ⟨A4, c4, hv4⟩ := orow_form o4
                         subst hv4
                         have B4 : Hid (Below w.heap.size w w4) := Lib.hid (BE.out.grown g4 (by simp; omega) (fun j hj => by have := (World.ownsRow.lt OE.out j hj).1; omega))
                         have X4 := Lib.hid ((HX.out.alloc (.cells #[] 78)).grown g4 (fun e => by have := (World.ownsRow.lt OE.out _ e.symm).1; omega))
                         have R4 := Lib.hid ((HR.out.alloc (.cells #[] 78)).grown g4 (fun e => by have := (World.ownsRow.lt OE.out _ e.symm).1; omega))
                         have Z4 := Lib.hid ((HZ.out.alloc (.cells #[] 78)).grown g4 (fun e => by have := (World.ownsRow.lt OE.out _ e.symm).1; omega))
                         have O4 : Hid (w4.ownsRow (w.heap.size + 3) 78 9 (.slice A4 n c4) n (enCells L)) := Lib.hid o4
                         have hs4 : w.heap.size + 3 ≤ w4.heap.size := by have := g4.size; simp at this; omega
                         clear o4 g4)
  clear x4 xl x4b xlb SRC
  have x0 := X4.out.cell 0
  have x1 := X4.out.cell 1
  have x2 := X4.out.cell 2
  have x3 := X4.out.cell 3
  have x4 := X4.out.cell 4
  have xln := X4.out.lt
  have xf := X4.out.frozen
  have r0 := R4.out.cell 0
  have r1 := R4.out.cell 1
  have r2 := R4.out.cell 2
  have r3 := R4.out.cell 3
  have rln := R4.out.lt
  have z0 := Z4.out.cell 0
  have z1 := Z4.out.cell 1
  have z2 := Z4.out.cell 2
  have z3 := Z4.out.cell 3
  have z4 := Z4.out.cell 4
  have zln := Z4.out.lt
  have zf := Z4.out.frozen
  have RDR : Hid (∀ wf, Below w.heap.size w wf → wf.ownsRow (w.heap.size + 3) 78 9 (.slice A4 n c4) n (enCells L) → LogV S wf (.slice A4 n c4) l) := Lib.hid fun wf hB ho => by
    have h := LogV.of_row (S := S) (L := L) (v := .slice A4 n c4) (te := 78) (base := w.heap.size + 3) (by rw [← HNL.out]; exact ho) (fun i e => by have := HSS.out i e; omega) (fun x hx w2 k2 => by
      obtain ⟨q1, q2⟩ := (HP.out w2 ((Fr.of_below hB).next k2)).lists hx
      exact ⟨q1.more hB.size, q2.more hB.size⟩)
    rw [HLE.out] at h
    exact h
  by_cases hf : fits ⟨vi, no, co, ac, l⟩ ⟨1, a, b, rl⟩ = true
  · have HF := Lib.hid hf
    have hg : vi ≤ a ∧ no ≤ b ∧ b ≤ a := by unfold fits at hf; simp only [if_true, Bool.and_eq_true, decide_eq_true_eq, inR_iff] at hf; omega
    obtain ⟨h1, h2, h3⟩ := hg
    clear hf
    go_wp2
    have hB := ((((((((B4.out.setCell (p := ⟨w.heap.size, 0, none⟩) (by simp) (.int .i64 a)).setCell (p := ⟨w.heap.size, 1, none⟩) (by simp) (.int .i64 b)).setCell (p := ⟨w.heap.size, 4, none⟩) (by simp) (.slice A4 n c4)).setCell (p := ⟨w.heap.size + 2, 0, none⟩) (by simp) (.int .i64 a)).setCell (p := ⟨w.heap.size + 2, 1, none⟩) (by simp) (.int .i64 b)).setCell (p := ⟨w.heap.size + 2, 2, none⟩) (by simp) (.int .i64 co)).setCell (p := ⟨w.heap.size + 2, 3, none⟩) (by simp) (.int .i64 ac)).setCell (p := ⟨w.heap.size + 2, 4, none⟩) (by simp) (.slice A4 n c4))
    refine bodyPost_ret (v := .tuple #[.agg #[.int .i64 a, .int .i64 b, .int .i64 co, .int .i64 ac, .slice A4 n c4], .int .i64 0]) (by simp [results, Tryz.results21, go_sem, *]) rfl (ApIf.good HF.out ⟨A4, n, c4, ?_, ?_, ?_, hB⟩)
    · rfl
    · exact HN.out
    · exact RDR.out _ hB (orow_set (orow_set (orow_set (orow_set (orow_set (orow_set (orow_set (orow_set O4.out (q := ⟨w.heap.size, 0, none⟩) (by simp) (.int .i64 a)) (q := ⟨w.heap.size, 1, none⟩) (by simp) (.int .i64 b)) (q := ⟨w.heap.size, 4, none⟩) (by simp) (.slice A4 n c4)) (q := ⟨w.heap.size + 2, 0, none⟩) (by simp) (.int .i64 a)) (q := ⟨w.heap.size + 2, 1, none⟩) (by simp) (.int .i64 b)) (q := ⟨w.heap.size + 2, 2, none⟩) (by simp) (.int .i64 co)) (q := ⟨w.heap.size + 2, 3, none⟩) (by simp) (.int .i64 ac)) (q := ⟨w.heap.size + 2, 4, none⟩) (by simp) (.slice A4 n c4))
  · have hg : ¬ (vi ≤ a ∧ no ≤ b ∧ b ≤ a) := fun h => hf (by unfold fits; simp only [if_true, Bool.and_eq_true, decide_eq_true_eq, inR_iff]; omega)
    by_cases h1 : a < vi
    · skip
      have HF := Lib.hid hf
      clear hf
      go_wp2
      exact bodyPost_ret (v := .tuple #[.agg #[.int .i64 0, .int .i64 0, .int .i64 0, .int .i64 0, .slice none 0 0], .int .i64 54]) (by simp [results, Tryz.results21, go_sem, *]) rfl (ApIf.bad HF.out ⟨none, 0, 0, rfl, rfl, LogV.nil _ _, (((((B4.out.setCell (p := ⟨w.heap.size + 2, 0, none⟩) (by simp) (.int .i64 0)).setCell (p := ⟨w.heap.size + 2, 1, none⟩) (by simp) (.int .i64 0)).setCell (p := ⟨w.heap.size + 2, 2, none⟩) (by simp) (.int .i64 0)).setCell (p := ⟨w.heap.size + 2, 3, none⟩) (by simp) (.int .i64 0)).setCell (p := ⟨w.heap.size + 2, 4, none⟩) (by simp) (.slice none 0 0))⟩)
    by_cases h2 : b < no
    · skip
      have HF := Lib.hid hf
      clear hf
      go_wp2
      exact bodyPost_ret (v := .tuple #[.agg #[.int .i64 0, .int .i64 0, .int .i64 0, .int .i64 0, .slice none 0 0], .int .i64 54]) (by simp [results, Tryz.results21, go_sem, *]) rfl (ApIf.bad HF.out ⟨none, 0, 0, rfl, rfl, LogV.nil _ _, (((((B4.out.setCell (p := ⟨w.heap.size + 2, 0, none⟩) (by simp) (.int .i64 0)).setCell (p := ⟨w.heap.size + 2, 1, none⟩) (by simp) (.int .i64 0)).setCell (p := ⟨w.heap.size + 2, 2, none⟩) (by simp) (.int .i64 0)).setCell (p := ⟨w.heap.size + 2, 3, none⟩) (by simp) (.int .i64 0)).setCell (p := ⟨w.heap.size + 2, 4, none⟩) (by simp) (.slice none 0 0))⟩)
    have h3 : a < b := by omega
    clear hg
    have HF := Lib.hid hf
    clear hf
    go_wp2
    exact bodyPost_ret (v := .tuple #[.agg #[.int .i64 0, .int .i64 0, .int .i64 0, .int .i64 0, .slice none 0 0], .int .i64 54]) (by simp [results, Tryz.results21, go_sem, *]) rfl (ApIf.bad HF.out ⟨none, 0, 0, rfl, rfl, LogV.nil _ _, (((((B4.out.setCell (p := ⟨w.heap.size + 2, 0, none⟩) (by simp) (.int .i64 0)).setCell (p := ⟨w.heap.size + 2, 1, none⟩) (by simp) (.int .i64 0)).setCell (p := ⟨w.heap.size + 2, 2, none⟩) (by simp) (.int .i64 0)).setCell (p := ⟨w.heap.size + 2, 3, none⟩) (by simp) (.int .i64 0)).setCell (p := ⟨w.heap.size + 2, 4, none⟩) (by simp) (.slice none 0 0))⟩)
end Go.Proofs.YtefgobmpleoafaaGreat

/- The document's Apply of a record to a state. (Written by genLdU.py.) -/
namespace Go.Proofs.YtefgobmpleoafaaGreat
open Go.RowKit
variable {w w' : World}

set_option maxRecDepth 100000 in
set_option maxHeartbeats 8000000 in
theorem xapply2_any (vi no co ac a b : Int) (l rl : List En) (v u : Value) (w : World) (S : Nat → Prop) (hm : l.length ≤ 64) (hV : LogV S w v l) (hU : LogV S w u rl) (hS : ∀ i, S i → i < w.heap.size) (hr : rl.length = 1) :
    Calls Tryz.prog 21 #[(⟨vi, no, co, ac, l⟩ : St).val v, (⟨2, a, b, rl⟩ : Rc).val u] w (ApIf S w ⟨vi, no, co, ac, l⟩ ⟨2, a, b, rl⟩) := by
  obtain ⟨A, c, rfl⟩ := hV.form
  obtain ⟨B, d, rfl⟩ := hU.form
  obtain ⟨n, hn⟩ : ∃ n, n = l.length := ⟨_, rfl⟩
  obtain ⟨m, hmm⟩ : ∃ m, m = rl.length := ⟨_, rfl⟩
  rw [← hn] at hV hm ⊢
  rw [← hmm] at hU ⊢
  have HN := Lib.hid hn
  have HMM := Lib.hid hmm
  obtain ⟨L, hL, hP⟩ := id hV
  have HSS := Lib.hid hS
  have HLE := Lib.hid hL
  have hnL : n = L.length := by rw [hn, ← hL, List.length_map]
  have HNL := Lib.hid hnL
  obtain ⟨i0, hi, hz0, hz1, hz2⟩ := info_three info_xentry
  have b0 : Below w.heap.size w (((w.alloc (.cells #[.int .i64 vi, .int .i64 no, .int .i64 co, .int .i64 ac, .slice A n c] 31)).alloc (.cells #[.int .i64 2, .int .i64 a, .int .i64 b, .slice B m d] 52)).alloc (.cells #[.int .i64 0, .int .i64 0, .int .i64 0, .int .i64 0, .slice none 0 0] 31)) := (((Below.refl _ _).alloc (Nat.le_refl _) _).alloc (by simp) _).alloc (by simp; omega) _
  have HX : Hid (Blk (((w.alloc (.cells #[.int .i64 vi, .int .i64 no, .int .i64 co, .int .i64 ac, .slice A n c] 31)).alloc (.cells #[.int .i64 2, .int .i64 a, .int .i64 b, .slice B m d] 52)).alloc (.cells #[.int .i64 0, .int .i64 0, .int .i64 0, .int .i64 0, .slice none 0 0] 31)) w.heap.size 31 #[.int .i64 vi, .int .i64 no, .int .i64 co, .int .i64 ac, .slice A n c]) := Lib.hid (((Blk.new _ _ _).alloc _).alloc _)
  have HR : Hid (Blk (((w.alloc (.cells #[.int .i64 vi, .int .i64 no, .int .i64 co, .int .i64 ac, .slice A n c] 31)).alloc (.cells #[.int .i64 2, .int .i64 a, .int .i64 b, .slice B m d] 52)).alloc (.cells #[.int .i64 0, .int .i64 0, .int .i64 0, .int .i64 0, .slice none 0 0] 31)) (w.heap.size + 1) 52 #[.int .i64 2, .int .i64 a, .int .i64 b, .slice B m d]) := Lib.hid ((Blk.at_new _ _ (by simp) _ _).alloc _)
  have HZ : Hid (Blk (((w.alloc (.cells #[.int .i64 vi, .int .i64 no, .int .i64 co, .int .i64 ac, .slice A n c] 31)).alloc (.cells #[.int .i64 2, .int .i64 a, .int .i64 b, .slice B m d] 52)).alloc (.cells #[.int .i64 0, .int .i64 0, .int .i64 0, .int .i64 0, .slice none 0 0] 31)) (w.heap.size + 2) 31 #[.int .i64 0, .int .i64 0, .int .i64 0, .int .i64 0, .slice none 0 0]) := Lib.hid (Blk.at_new _ _ (by simp) _ _)
  have hs0 : (((w.alloc (.cells #[.int .i64 vi, .int .i64 no, .int .i64 co, .int .i64 ac, .slice A n c] 31)).alloc (.cells #[.int .i64 2, .int .i64 a, .int .i64 b, .slice B m d] 52)).alloc (.cells #[.int .i64 0, .int .i64 0, .int .i64 0, .int .i64 0, .slice none 0 0] 31)).heap.size = w.heap.size + 3 := by simp
  have HP := Lib.hid hP
  have HV := Lib.hid hV
  have HU := Lib.hid hU
  clear hn hmm hL hnL hP hV hU hS
  go_enter Tryz.func21, Tryz.ntmps21
  go_upto_region 1 with (fail)
  generalize ((w.alloc _).alloc _).alloc _ = wx at *
  have HS0 := Lib.hid hs0
  have B0 := Lib.hid b0
  have hsx : w.heap.size + 3 ≤ wx.heap.size := by omega
  clear b0 hs0
  have BE : Hid (Below w.heap.size w (wx.alloc (.cells #[] 78))) := Lib.hid (B0.out.alloc (by omega) _)
  have OE : Hid ((wx.alloc (.cells #[] 78)).ownsRow (w.heap.size + 3) 78 9 (.slice (some ⟨wx.heap.size, 0, none⟩) 0 0) 0 []) := Lib.hid (World.ownsRow_made wx #[] 0 hsx (by unfold maxLen; omega) (by simp))
  have SRC := Lib.hid (HP.out (wx.alloc (.cells #[] 78)) (Fr.of_below BE.out)).src
  have x4 := HX.out.cell 4
  have xl := HX.out.lt
  have x4b := (HX.out.alloc (.cells #[] 78)).cell 4
  have xlb := (HX.out.alloc (.cells #[] 78)).lt
  go_upto_region 2 with (at_builtin
                         refine wpList_append_gen _ rfl (.tmp 7) (.tmp 9) 29 rfl (w.heap.size + 3) 78 i0 _ 9 104 Tryz.underlying29 hi hz0 hz1 hz2 rfl (by decide) _ 0 [] rfl OE.out A n c (enCells L) rfl (by rw [enCells_len, HNL.out]) SRC.out.2.1 SRC.out.2.2.1 SRC.out.2.2.2 (by unfold maxLen; omega) (by omega) (by simp; omega) ?_
                         intro v4 w4 o4 g4
                         rw [List.nil_append, Nat.zero_add] at o4
                         obtain ⟨A4, c4, hv4⟩ := orow_form o4
                         subst hv4
                         have B4 : Hid (Below w.heap.size w w4) := Lib.hid (BE.out.grown g4 (by simp; omega) (fun j hj => by have := (World.ownsRow.lt OE.out j hj).1; omega))
                         have X4 := Lib.hid ((HX.out.alloc (.cells #[] 78)).grown g4 (fun e => by have := (World.ownsRow.lt OE.out _ e.symm).1; omega))
                         have R4 := Lib.hid ((HR.out.alloc (.cells #[] 78)).grown g4 (fun e => by have := (World.ownsRow.lt OE.out _ e.symm).1; omega))
                         have Z4 := Lib.hid ((HZ.out.alloc (.cells #[] 78)).grown g4 (fun e => by have := (World.ownsRow.lt OE.out _ e.symm).1; omega))
                         have O4 : Hid (w4.ownsRow (w.heap.size + 3) 78 9 (.slice A4 n c4) n (enCells L)) := Lib.hid o4
                         have hs4 : w.heap.size + 3 ≤ w4.heap.size := by have := g4.size; simp at this; omega
                         clear o4 g4)
  clear x4 xl x4b xlb SRC
  have x0 := X4.out.cell 0
  have x1 := X4.out.cell 1
  have x2 := X4.out.cell 2
  have x3 := X4.out.cell 3
  have x4 := X4.out.cell 4
  have xln := X4.out.lt
  have xf := X4.out.frozen
  have r0 := R4.out.cell 0
  have r1 := R4.out.cell 1
  have r2 := R4.out.cell 2
  have r3 := R4.out.cell 3
  have rln := R4.out.lt
  have z0 := Z4.out.cell 0
  have z1 := Z4.out.cell 1
  have z2 := Z4.out.cell 2
  have z3 := Z4.out.cell 3
  have z4 := Z4.out.cell 4
  have zln := Z4.out.lt
  have zf := Z4.out.frozen
  have RDR : Hid (∀ wf, Below w.heap.size w wf → wf.ownsRow (w.heap.size + 3) 78 9 (.slice A4 n c4) n (enCells L) → LogV S wf (.slice A4 n c4) l) := Lib.hid fun wf hB ho => by
    have h := LogV.of_row (S := S) (L := L) (v := .slice A4 n c4) (te := 78) (base := w.heap.size + 3) (by rw [← HNL.out]; exact ho) (fun i e => by have := HSS.out i e; omega) (fun x hx w2 k2 => by
      obtain ⟨q1, q2⟩ := (HP.out w2 ((Fr.of_below hB).next k2)).lists hx
      exact ⟨q1.more hB.size, q2.more hB.size⟩)
    rw [HLE.out] at h
    exact h
  by_cases hf : fits ⟨vi, no, co, ac, l⟩ ⟨2, a, b, rl⟩ = true
  · have HF := Lib.hid hf
    have hg : (n : Int) < 64 := by unfold fits at hf; simp only [Int.reduceEq, if_false, if_true, decide_eq_true_eq] at hf; have := HN.out; omega
    clear hf
    obtain ⟨r, rfl⟩ : ∃ r, rl = [r] := List.length_eq_one_iff.1 hr
    obtain ⟨LU, hLU, hPU⟩ := HU.out
    obtain ⟨y, rfl⟩ : ∃ y, LU = [y] := List.length_eq_one_iff.1 (by rw [← List.length_map (f := (·.1)), hLU]; rfl)
    obtain ⟨ry, pr, dr⟩ := y
    obtain rfl : ry = r := by simpa using hLU
    have HPU := Lib.hid hPU
    obtain ⟨Au, cu, hvu, _, htu⟩ := hPU w4 (Fr.of_below B4.out)
    obtain ⟨br, orr, hAu, hbr, hxu⟩ := htu (by simp)
    injection hvu with hu1 hu2 hu3
    subst hu1
    subst hAu
    obtain ⟨hEr, hpr, hdr⟩ := hxu 0 _ rfl
    simp only [Nat.zero_mul, Nat.add_zero] at hEr hpr hdr
    clear hu2 hu3 hLU hPU htu hxu
    obtain rfl : m = 1 := HMM.out
    obtain ⟨Ap, cp, rfl⟩ := hpr.form
    obtain ⟨Ad, cd, rfl⟩ := hdr.form
    obtain ⟨e0, e1, e2, e3, e4, e5, e6, e7, e8⟩ := hEr
    obtain ⟨np, hnp⟩ : ∃ np, np = ry.d.put.length := ⟨_, rfl⟩
    obtain ⟨nd, hnd⟩ : ∃ nd, nd = (zI ry.d.drop).length := ⟨_, rfl⟩
    rw [← hnp] at e7 HPU
    rw [← hnd] at e8 HPU
    clear hpr hdr hnp hnd
    have O4a := Lib.hid (World.ownsRow.alloc O4.out (.cells #[.int .i64 ry.vi, .int .i64 ry.cl, .int .i64 ry.re, .int .i64 ry.d.de, .int .i64 ry.d.cl, .int .i64 ry.d.fu, .int .i64 ry.d.st, .slice Ap np cp, .slice Ad nd cd] 78))
    have B4a : Hid (Below w.heap.size w (w4.alloc (.cells #[.int .i64 ry.vi, .int .i64 ry.cl, .int .i64 ry.re, .int .i64 ry.d.de, .int .i64 ry.d.cl, .int .i64 ry.d.fu, .int .i64 ry.d.st, .slice Ap np cp, .slice Ad nd cd] 78))) := Lib.hid (B4.out.alloc (by omega) _)
    have C4a : Hid (Blk (w4.alloc (.cells #[.int .i64 ry.vi, .int .i64 ry.cl, .int .i64 ry.re, .int .i64 ry.d.de, .int .i64 ry.d.cl, .int .i64 ry.d.fu, .int .i64 ry.d.st, .slice Ap np cp, .slice Ad nd cd] 78)) w4.heap.size 78 #[.int .i64 ry.vi, .int .i64 ry.cl, .int .i64 ry.re, .int .i64 ry.d.de, .int .i64 ry.d.cl, .int .i64 ry.d.fu, .int .i64 ry.d.st, .slice Ap np cp, .slice Ad nd cd]) := Lib.hid (Blk.new _ _ _)
    have hbr1 : br < w4.heap.size := by omega
    go_wp2_with (at_builtin
                 refine wpList_append_gen _ rfl (.tmp 48) (.tmp 53) 29 rfl (w.heap.size + 3) 78 i0 _ 9 104 Tryz.underlying29 hi hz0 hz1 hz2 rfl (by decide) _ n (enCells L) rfl O4a.out (some ⟨w4.heap.size, 0, none⟩) 1 1 (enCells [(ry, .slice Ap np cp, .slice Ad nd cd)]) rfl rfl (fun h => by cases h) (fun ad ha j u hu => by
                   obtain rfl := Option.some.inj ha
                   have hadd : (⟨w4.heap.size, 0, none⟩ : Addr).add j = ⟨w4.heap.size, 0 + j, none⟩ := by unfold Addr.add; split <;> simp_all
                   rw [hadd, Nat.zero_add, C4a.out.cell j, ← hu, enCells_one, En.cells, ← List.getElem?_toArray]) (by rw [enCells_one]; exact en_one ry _ _ _ _ _ _) (by unfold maxLen; omega) (by omega) (by simp; omega) ?_
                 intro v6 w6 o6 g6
                 obtain ⟨A6, c6, hv6⟩ := orow_form o6
                 subst hv6
                 have B6 : Hid (Below w.heap.size w w6) := Lib.hid (B4a.out.grown g6 (by simp; omega) (fun j hj => by have := (World.ownsRow.lt O4a.out j hj).1; omega))
                 have X6 := Lib.hid ((X4.out.alloc (.cells #[.int .i64 ry.vi, .int .i64 ry.cl, .int .i64 ry.re, .int .i64 ry.d.de, .int .i64 ry.d.cl, .int .i64 ry.d.fu, .int .i64 ry.d.st, .slice Ap np cp, .slice Ad nd cd] 78)).grown g6 (fun e => by have := (World.ownsRow.lt O4a.out _ e.symm).1; omega))
                 have R6 := Lib.hid ((R4.out.alloc (.cells #[.int .i64 ry.vi, .int .i64 ry.cl, .int .i64 ry.re, .int .i64 ry.d.de, .int .i64 ry.d.cl, .int .i64 ry.d.fu, .int .i64 ry.d.st, .slice Ap np cp, .slice Ad nd cd] 78)).grown g6 (fun e => by have := (World.ownsRow.lt O4a.out _ e.symm).1; omega))
                 have Z6 := Lib.hid ((Z4.out.alloc (.cells #[.int .i64 ry.vi, .int .i64 ry.cl, .int .i64 ry.re, .int .i64 ry.d.de, .int .i64 ry.d.cl, .int .i64 ry.d.fu, .int .i64 ry.d.st, .slice Ap np cp, .slice Ad nd cd] 78)).grown g6 (fun e => by have := (World.ownsRow.lt O4a.out _ e.symm).1; omega))
                 have O6 : Hid (w6.ownsRow (w.heap.size + 3) 78 9 (.slice A6 (n + 1) c6) (n + 1) (enCells L ++ enCells [(ry, .slice Ap np cp, .slice Ad nd cd)])) := Lib.hid o6
                 clear o6 g6 x0 x1 x2 x3 x4 xln xf r0 r1 r2 r3 rln z0 z1 z2 z3 z4 zf zln
                 have x0 := X6.out.cell 0
                 have x1 := X6.out.cell 1
                 have x2 := X6.out.cell 2
                 have x3 := X6.out.cell 3
                 have x4 := X6.out.cell 4
                 have xln := X6.out.lt
                 have xf := X6.out.frozen
                 have r0 := R6.out.cell 0
                 have r1 := R6.out.cell 1
                 have r2 := R6.out.cell 2
                 have r3 := R6.out.cell 3
                 have rln := R6.out.lt
                 have z0 := Z6.out.cell 0
                 have z1 := Z6.out.cell 1
                 have z2 := Z6.out.cell 2
                 have z3 := Z6.out.cell 3
                 have z4 := Z6.out.cell 4
                 have zln := Z6.out.lt
                 have zf := Z6.out.frozen)
    have hB := ((((((B6.out.setCell (p := ⟨w.heap.size, 4, none⟩) (by simp) (.slice A6 (n + 1) c6)).setCell (p := ⟨w.heap.size + 2, 0, none⟩) (by simp) (.int .i64 vi)).setCell (p := ⟨w.heap.size + 2, 1, none⟩) (by simp) (.int .i64 no)).setCell (p := ⟨w.heap.size + 2, 2, none⟩) (by simp) (.int .i64 co)).setCell (p := ⟨w.heap.size + 2, 3, none⟩) (by simp) (.int .i64 ac)).setCell (p := ⟨w.heap.size + 2, 4, none⟩) (by simp) (.slice A6 (n + 1) c6))
    refine bodyPost_ret (v := .tuple #[.agg #[.int .i64 vi, .int .i64 no, .int .i64 co, .int .i64 ac, .slice A6 (n + 1) c6], .int .i64 0]) (by simp [results, Tryz.results21, go_sem, *]) rfl (ApIf.good HF.out ⟨A6, (n + 1), c6, ?_, ?_, ?_, hB⟩)
    · rfl
    · simp [chg]; exact HN.out
    · have ho := (orow_set (orow_set (orow_set (orow_set (orow_set (orow_set O6.out (q := ⟨w.heap.size, 4, none⟩) (by simp) (.slice A6 (n + 1) c6)) (q := ⟨w.heap.size + 2, 0, none⟩) (by simp) (.int .i64 vi)) (q := ⟨w.heap.size + 2, 1, none⟩) (by simp) (.int .i64 no)) (q := ⟨w.heap.size + 2, 2, none⟩) (by simp) (.int .i64 co)) (q := ⟨w.heap.size + 2, 3, none⟩) (by simp) (.int .i64 ac)) (q := ⟨w.heap.size + 2, 4, none⟩) (by simp) (.slice A6 (n + 1) c6))
      have h := LogV.of_row (S := S) (L := L ++ [(ry, .slice Ap np cp, .slice Ad nd cd)]) (te := 78) (base := w.heap.size + 3) (by rw [List.length_append, ← HNL.out, enCells_append]; exact ho) (fun i e => by have := HSS.out i e; omega) (fun x hx w2 k2 => by
        have F2 : Fr S w w2 := (Fr.of_below hB).next k2
        rcases List.mem_append.1 hx with hx | hx
        · obtain ⟨q1, q2⟩ := (HP.out w2 F2).lists hx
          exact ⟨q1.more hB.size, q2.more hB.size⟩
        · obtain ⟨q1, q2⟩ := (HPU.out w2 F2).lists hx
          exact ⟨q1.more hB.size, q2.more hB.size⟩)
      rw [List.map_append, HLE.out] at h
      exact h
  · have hg : ¬ (n : Int) < 64 := fun h => hf (by unfold fits; simp only [Int.reduceEq, if_false, if_true, decide_eq_true_eq]; have := HN.out; omega)
    have HF := Lib.hid hf
    clear hf
    go_wp2
    exact bodyPost_ret (v := .tuple #[.agg #[.int .i64 0, .int .i64 0, .int .i64 0, .int .i64 0, .slice none 0 0], .int .i64 54]) (by simp [results, Tryz.results21, go_sem, *]) rfl (ApIf.bad HF.out ⟨none, 0, 0, rfl, rfl, LogV.nil _ _, (((((B4.out.setCell (p := ⟨w.heap.size + 2, 0, none⟩) (by simp) (.int .i64 0)).setCell (p := ⟨w.heap.size + 2, 1, none⟩) (by simp) (.int .i64 0)).setCell (p := ⟨w.heap.size + 2, 2, none⟩) (by simp) (.int .i64 0)).setCell (p := ⟨w.heap.size + 2, 3, none⟩) (by simp) (.int .i64 0)).setCell (p := ⟨w.heap.size + 2, 4, none⟩) (by simp) (.slice none 0 0))⟩)
end Go.Proofs.YtefgobmpleoafaaGreat

/- The document's Apply of a record to a state. (Written by genLdU.py.) -/
namespace Go.Proofs.YtefgobmpleoafaaGreat
open Go.RowKit
variable {w w' : World}

set_option maxRecDepth 100000 in
set_option maxHeartbeats 8000000 in
theorem xapply3_any (vi no co ac a b : Int) (l rl : List En) (v u : Value) (w : World) (S : Nat → Prop) (hm : l.length ≤ 64) (hV : LogV S w v l) (hU : LogV S w u rl) (hS : ∀ i, S i → i < w.heap.size) (ha : 0 ≤ a) :
    Calls Tryz.prog 21 #[(⟨vi, no, co, ac, l⟩ : St).val v, (⟨3, a, b, rl⟩ : Rc).val u] w (ApIf S w ⟨vi, no, co, ac, l⟩ ⟨3, a, b, rl⟩) := by
  obtain ⟨A, c, rfl⟩ := hV.form
  obtain ⟨B, d, rfl⟩ := hU.form
  obtain ⟨n, hn⟩ : ∃ n, n = l.length := ⟨_, rfl⟩
  obtain ⟨m, hmm⟩ : ∃ m, m = rl.length := ⟨_, rfl⟩
  rw [← hn] at hV hm ⊢
  rw [← hmm] at hU ⊢
  have HN := Lib.hid hn
  have HMM := Lib.hid hmm
  obtain ⟨L, hL, hP⟩ := id hV
  have HSS := Lib.hid hS
  have HLE := Lib.hid hL
  have hnL : n = L.length := by rw [hn, ← hL, List.length_map]
  have HNL := Lib.hid hnL
  obtain ⟨i0, hi, hz0, hz1, hz2⟩ := info_three info_xentry
  have b0 : Below w.heap.size w (((w.alloc (.cells #[.int .i64 vi, .int .i64 no, .int .i64 co, .int .i64 ac, .slice A n c] 31)).alloc (.cells #[.int .i64 3, .int .i64 a, .int .i64 b, .slice B m d] 52)).alloc (.cells #[.int .i64 0, .int .i64 0, .int .i64 0, .int .i64 0, .slice none 0 0] 31)) := (((Below.refl _ _).alloc (Nat.le_refl _) _).alloc (by simp) _).alloc (by simp; omega) _
  have HX : Hid (Blk (((w.alloc (.cells #[.int .i64 vi, .int .i64 no, .int .i64 co, .int .i64 ac, .slice A n c] 31)).alloc (.cells #[.int .i64 3, .int .i64 a, .int .i64 b, .slice B m d] 52)).alloc (.cells #[.int .i64 0, .int .i64 0, .int .i64 0, .int .i64 0, .slice none 0 0] 31)) w.heap.size 31 #[.int .i64 vi, .int .i64 no, .int .i64 co, .int .i64 ac, .slice A n c]) := Lib.hid (((Blk.new _ _ _).alloc _).alloc _)
  have HR : Hid (Blk (((w.alloc (.cells #[.int .i64 vi, .int .i64 no, .int .i64 co, .int .i64 ac, .slice A n c] 31)).alloc (.cells #[.int .i64 3, .int .i64 a, .int .i64 b, .slice B m d] 52)).alloc (.cells #[.int .i64 0, .int .i64 0, .int .i64 0, .int .i64 0, .slice none 0 0] 31)) (w.heap.size + 1) 52 #[.int .i64 3, .int .i64 a, .int .i64 b, .slice B m d]) := Lib.hid ((Blk.at_new _ _ (by simp) _ _).alloc _)
  have HZ : Hid (Blk (((w.alloc (.cells #[.int .i64 vi, .int .i64 no, .int .i64 co, .int .i64 ac, .slice A n c] 31)).alloc (.cells #[.int .i64 3, .int .i64 a, .int .i64 b, .slice B m d] 52)).alloc (.cells #[.int .i64 0, .int .i64 0, .int .i64 0, .int .i64 0, .slice none 0 0] 31)) (w.heap.size + 2) 31 #[.int .i64 0, .int .i64 0, .int .i64 0, .int .i64 0, .slice none 0 0]) := Lib.hid (Blk.at_new _ _ (by simp) _ _)
  have hs0 : (((w.alloc (.cells #[.int .i64 vi, .int .i64 no, .int .i64 co, .int .i64 ac, .slice A n c] 31)).alloc (.cells #[.int .i64 3, .int .i64 a, .int .i64 b, .slice B m d] 52)).alloc (.cells #[.int .i64 0, .int .i64 0, .int .i64 0, .int .i64 0, .slice none 0 0] 31)).heap.size = w.heap.size + 3 := by simp
  have HP := Lib.hid hP
  have HV := Lib.hid hV
  have HU := Lib.hid hU
  clear hn hmm hL hnL hP hV hU hS
  go_enter Tryz.func21, Tryz.ntmps21
  go_upto_region 1 with (fail)
  generalize ((w.alloc _).alloc _).alloc _ = wx at *
  have HS0 := Lib.hid hs0
  have B0 := Lib.hid b0
  have hsx : w.heap.size + 3 ≤ wx.heap.size := by omega
  clear b0 hs0
  have BE : Hid (Below w.heap.size w (wx.alloc (.cells #[] 78))) := Lib.hid (B0.out.alloc (by omega) _)
  have OE : Hid ((wx.alloc (.cells #[] 78)).ownsRow (w.heap.size + 3) 78 9 (.slice (some ⟨wx.heap.size, 0, none⟩) 0 0) 0 []) := Lib.hid (World.ownsRow_made wx #[] 0 hsx (by unfold maxLen; omega) (by simp))
  have SRC := Lib.hid (HP.out (wx.alloc (.cells #[] 78)) (Fr.of_below BE.out)).src
  have x4 := HX.out.cell 4
  have xl := HX.out.lt
  have x4b := (HX.out.alloc (.cells #[] 78)).cell 4
  have xlb := (HX.out.alloc (.cells #[] 78)).lt
  go_upto_region 2 with (at_builtin
                         refine wpList_append_gen _ rfl (.tmp 7) (.tmp 9) 29 rfl (w.heap.size + 3) 78 i0 _ 9 104 Tryz.underlying29 hi hz0 hz1 hz2 rfl (by decide) _ 0 [] rfl OE.out A n c (enCells L) rfl (by rw [enCells_len, HNL.out]) SRC.out.2.1 SRC.out.2.2.1 SRC.out.2.2.2 (by unfold maxLen; omega) (by omega) (by simp; omega) ?_
                         intro v4 w4 o4 g4
                         rw [List.nil_append, Nat.zero_add] at o4
                         obtain ⟨A4, c4, hv4⟩ := orow_form o4
                         subst hv4
                         have B4 : Hid (Below w.heap.size w w4) := Lib.hid (BE.out.grown g4 (by simp; omega) (fun j hj => by have := (World.ownsRow.lt OE.out j hj).1; omega))
                         have X4 := Lib.hid ((HX.out.alloc (.cells #[] 78)).grown g4 (fun e => by have := (World.ownsRow.lt OE.out _ e.symm).1; omega))
                         have R4 := Lib.hid ((HR.out.alloc (.cells #[] 78)).grown g4 (fun e => by have := (World.ownsRow.lt OE.out _ e.symm).1; omega))
                         have Z4 := Lib.hid ((HZ.out.alloc (.cells #[] 78)).grown g4 (fun e => by have := (World.ownsRow.lt OE.out _ e.symm).1; omega))
                         have O4 : Hid (w4.ownsRow (w.heap.size + 3) 78 9 (.slice A4 n c4) n (enCells L)) := Lib.hid o4
                         have hs4 : w.heap.size + 3 ≤ w4.heap.size := by have := g4.size; simp at this; omega
                         clear o4 g4)
  clear x4 xl x4b xlb SRC
  have x0 := X4.out.cell 0
  have x1 := X4.out.cell 1
  have x2 := X4.out.cell 2
  have x3 := X4.out.cell 3
  have x4 := X4.out.cell 4
  have xln := X4.out.lt
  have xf := X4.out.frozen
  have r0 := R4.out.cell 0
  have r1 := R4.out.cell 1
  have r2 := R4.out.cell 2
  have r3 := R4.out.cell 3
  have rln := R4.out.lt
  have z0 := Z4.out.cell 0
  have z1 := Z4.out.cell 1
  have z2 := Z4.out.cell 2
  have z3 := Z4.out.cell 3
  have z4 := Z4.out.cell 4
  have zln := Z4.out.lt
  have zf := Z4.out.frozen
  have RDR : Hid (∀ wf, Below w.heap.size w wf → wf.ownsRow (w.heap.size + 3) 78 9 (.slice A4 n c4) n (enCells L) → LogV S wf (.slice A4 n c4) l) := Lib.hid fun wf hB ho => by
    have h := LogV.of_row (S := S) (L := L) (v := .slice A4 n c4) (te := 78) (base := w.heap.size + 3) (by rw [← HNL.out]; exact ho) (fun i e => by have := HSS.out i e; omega) (fun x hx w2 k2 => by
      obtain ⟨q1, q2⟩ := (HP.out w2 ((Fr.of_below hB).next k2)).lists hx
      exact ⟨q1.more hB.size, q2.more hB.size⟩)
    rw [HLE.out] at h
    exact h
  by_cases hf : fits ⟨vi, no, co, ac, l⟩ ⟨3, a, b, rl⟩ = true
  · have HF := Lib.hid hf
    have hg : co ≤ a ∧ a ≤ (n : Int) := by unfold fits at hf; simp only [Int.reduceEq, if_false, true_or, if_true, inR_iff] at hf; have := HN.out; omega
    obtain ⟨h1, h2⟩ := hg
    clear hf
    obtain ⟨a0, rfl⟩ : ∃ a0 : Nat, a = (a0 : Int) := ⟨a.toNat, by omega⟩
    have hcap : n ≤ c4 := by rcases O4.out.2 with ⟨hv, h0⟩ | ⟨g, cap, cur, hv, _, _, hnc, _⟩; omega; (injection hv with _ _ e3; omega)
    have ha1 : a0 ≤ n := by omega
    clear ha
    have ha3 : a0 ≤ l.length := by rw [← HN.out]; exact ha1
    have HA3 := Lib.hid ha3
    clear ha3
    go_wp2
    have hB := ((((((B4.out.setCell (p := ⟨w.heap.size, 4, none⟩) (by simp) (.slice A4 a0 c4)).setCell (p := ⟨w.heap.size + 2, 0, none⟩) (by simp) (.int .i64 vi)).setCell (p := ⟨w.heap.size + 2, 1, none⟩) (by simp) (.int .i64 no)).setCell (p := ⟨w.heap.size + 2, 2, none⟩) (by simp) (.int .i64 co)).setCell (p := ⟨w.heap.size + 2, 3, none⟩) (by simp) (.int .i64 ac)).setCell (p := ⟨w.heap.size + 2, 4, none⟩) (by simp) (.slice A4 a0 c4))
    refine bodyPost_ret (v := .tuple #[.agg #[.int .i64 vi, .int .i64 no, .int .i64 co, .int .i64 ac, .slice A4 a0 c4], .int .i64 0]) (by simp [results, Tryz.results21, go_sem, *]) rfl (ApIf.good HF.out ⟨A4, a0, c4, ?_, ?_, ?_, hB⟩)
    · rfl
    · show a0 = (l.take ((a0 : Int)).toNat).length
      rw [Int.toNat_natCast, List.length_take, Nat.min_eq_left HA3.out]
    · show LogV _ _ _ (l.take ((a0 : Int)).toNat)
      rw [Int.toNat_natCast]
      have h := RDR.out _ hB (orow_set (orow_set (orow_set (orow_set (orow_set (orow_set O4.out (q := ⟨w.heap.size, 4, none⟩) (by simp) (.slice A4 a0 c4)) (q := ⟨w.heap.size + 2, 0, none⟩) (by simp) (.int .i64 vi)) (q := ⟨w.heap.size + 2, 1, none⟩) (by simp) (.int .i64 no)) (q := ⟨w.heap.size + 2, 2, none⟩) (by simp) (.int .i64 co)) (q := ⟨w.heap.size + 2, 3, none⟩) (by simp) (.int .i64 ac)) (q := ⟨w.heap.size + 2, 4, none⟩) (by simp) (.slice A4 a0 c4))
      exact h.take HA3.out
  · have hg : ¬ (co ≤ a ∧ a ≤ (n : Int)) := fun h => hf (by unfold fits; simp only [Int.reduceEq, if_false, true_or, if_true, inR_iff]; have := HN.out; omega)
    by_cases h1 : a < co
    · skip
      have HF := Lib.hid hf
      clear hf
      go_wp2
      exact bodyPost_ret (v := .tuple #[.agg #[.int .i64 0, .int .i64 0, .int .i64 0, .int .i64 0, .slice none 0 0], .int .i64 54]) (by simp [results, Tryz.results21, go_sem, *]) rfl (ApIf.bad HF.out ⟨none, 0, 0, rfl, rfl, LogV.nil _ _, (((((B4.out.setCell (p := ⟨w.heap.size + 2, 0, none⟩) (by simp) (.int .i64 0)).setCell (p := ⟨w.heap.size + 2, 1, none⟩) (by simp) (.int .i64 0)).setCell (p := ⟨w.heap.size + 2, 2, none⟩) (by simp) (.int .i64 0)).setCell (p := ⟨w.heap.size + 2, 3, none⟩) (by simp) (.int .i64 0)).setCell (p := ⟨w.heap.size + 2, 4, none⟩) (by simp) (.slice none 0 0))⟩)
    have h2 : (n : Int) < a := by omega
    clear hg
    have HF := Lib.hid hf
    clear hf
    go_wp2
    exact bodyPost_ret (v := .tuple #[.agg #[.int .i64 0, .int .i64 0, .int .i64 0, .int .i64 0, .slice none 0 0], .int .i64 54]) (by simp [results, Tryz.results21, go_sem, *]) rfl (ApIf.bad HF.out ⟨none, 0, 0, rfl, rfl, LogV.nil _ _, (((((B4.out.setCell (p := ⟨w.heap.size + 2, 0, none⟩) (by simp) (.int .i64 0)).setCell (p := ⟨w.heap.size + 2, 1, none⟩) (by simp) (.int .i64 0)).setCell (p := ⟨w.heap.size + 2, 2, none⟩) (by simp) (.int .i64 0)).setCell (p := ⟨w.heap.size + 2, 3, none⟩) (by simp) (.int .i64 0)).setCell (p := ⟨w.heap.size + 2, 4, none⟩) (by simp) (.slice none 0 0))⟩)
end Go.Proofs.YtefgobmpleoafaaGreat

/- The document's Apply of a record to a state. (Written by genLdU.py.) -/
namespace Go.Proofs.YtefgobmpleoafaaGreat
open Go.RowKit
variable {w w' : World}

set_option maxRecDepth 100000 in
set_option maxHeartbeats 8000000 in
theorem xapply4_any (vi no co ac a b : Int) (l rl : List En) (v u : Value) (w : World) (S : Nat → Prop) (hm : l.length ≤ 64) (hV : LogV S w v l) (hU : LogV S w u rl) (hS : ∀ i, S i → i < w.heap.size) :
    Calls Tryz.prog 21 #[(⟨vi, no, co, ac, l⟩ : St).val v, (⟨4, a, b, rl⟩ : Rc).val u] w (ApIf S w ⟨vi, no, co, ac, l⟩ ⟨4, a, b, rl⟩) := by
  obtain ⟨A, c, rfl⟩ := hV.form
  obtain ⟨B, d, rfl⟩ := hU.form
  obtain ⟨n, hn⟩ : ∃ n, n = l.length := ⟨_, rfl⟩
  obtain ⟨m, hmm⟩ : ∃ m, m = rl.length := ⟨_, rfl⟩
  rw [← hn] at hV hm ⊢
  rw [← hmm] at hU ⊢
  have HN := Lib.hid hn
  have HMM := Lib.hid hmm
  obtain ⟨L, hL, hP⟩ := id hV
  have HSS := Lib.hid hS
  have HLE := Lib.hid hL
  have hnL : n = L.length := by rw [hn, ← hL, List.length_map]
  have HNL := Lib.hid hnL
  obtain ⟨i0, hi, hz0, hz1, hz2⟩ := info_three info_xentry
  have b0 : Below w.heap.size w (((w.alloc (.cells #[.int .i64 vi, .int .i64 no, .int .i64 co, .int .i64 ac, .slice A n c] 31)).alloc (.cells #[.int .i64 4, .int .i64 a, .int .i64 b, .slice B m d] 52)).alloc (.cells #[.int .i64 0, .int .i64 0, .int .i64 0, .int .i64 0, .slice none 0 0] 31)) := (((Below.refl _ _).alloc (Nat.le_refl _) _).alloc (by simp) _).alloc (by simp; omega) _
  have HX : Hid (Blk (((w.alloc (.cells #[.int .i64 vi, .int .i64 no, .int .i64 co, .int .i64 ac, .slice A n c] 31)).alloc (.cells #[.int .i64 4, .int .i64 a, .int .i64 b, .slice B m d] 52)).alloc (.cells #[.int .i64 0, .int .i64 0, .int .i64 0, .int .i64 0, .slice none 0 0] 31)) w.heap.size 31 #[.int .i64 vi, .int .i64 no, .int .i64 co, .int .i64 ac, .slice A n c]) := Lib.hid (((Blk.new _ _ _).alloc _).alloc _)
  have HR : Hid (Blk (((w.alloc (.cells #[.int .i64 vi, .int .i64 no, .int .i64 co, .int .i64 ac, .slice A n c] 31)).alloc (.cells #[.int .i64 4, .int .i64 a, .int .i64 b, .slice B m d] 52)).alloc (.cells #[.int .i64 0, .int .i64 0, .int .i64 0, .int .i64 0, .slice none 0 0] 31)) (w.heap.size + 1) 52 #[.int .i64 4, .int .i64 a, .int .i64 b, .slice B m d]) := Lib.hid ((Blk.at_new _ _ (by simp) _ _).alloc _)
  have HZ : Hid (Blk (((w.alloc (.cells #[.int .i64 vi, .int .i64 no, .int .i64 co, .int .i64 ac, .slice A n c] 31)).alloc (.cells #[.int .i64 4, .int .i64 a, .int .i64 b, .slice B m d] 52)).alloc (.cells #[.int .i64 0, .int .i64 0, .int .i64 0, .int .i64 0, .slice none 0 0] 31)) (w.heap.size + 2) 31 #[.int .i64 0, .int .i64 0, .int .i64 0, .int .i64 0, .slice none 0 0]) := Lib.hid (Blk.at_new _ _ (by simp) _ _)
  have hs0 : (((w.alloc (.cells #[.int .i64 vi, .int .i64 no, .int .i64 co, .int .i64 ac, .slice A n c] 31)).alloc (.cells #[.int .i64 4, .int .i64 a, .int .i64 b, .slice B m d] 52)).alloc (.cells #[.int .i64 0, .int .i64 0, .int .i64 0, .int .i64 0, .slice none 0 0] 31)).heap.size = w.heap.size + 3 := by simp
  have HP := Lib.hid hP
  have HV := Lib.hid hV
  have HU := Lib.hid hU
  clear hn hmm hL hnL hP hV hU hS
  go_enter Tryz.func21, Tryz.ntmps21
  go_upto_region 1 with (fail)
  generalize ((w.alloc _).alloc _).alloc _ = wx at *
  have HS0 := Lib.hid hs0
  have B0 := Lib.hid b0
  have hsx : w.heap.size + 3 ≤ wx.heap.size := by omega
  clear b0 hs0
  have BE : Hid (Below w.heap.size w (wx.alloc (.cells #[] 78))) := Lib.hid (B0.out.alloc (by omega) _)
  have OE : Hid ((wx.alloc (.cells #[] 78)).ownsRow (w.heap.size + 3) 78 9 (.slice (some ⟨wx.heap.size, 0, none⟩) 0 0) 0 []) := Lib.hid (World.ownsRow_made wx #[] 0 hsx (by unfold maxLen; omega) (by simp))
  have SRC := Lib.hid (HP.out (wx.alloc (.cells #[] 78)) (Fr.of_below BE.out)).src
  have x4 := HX.out.cell 4
  have xl := HX.out.lt
  have x4b := (HX.out.alloc (.cells #[] 78)).cell 4
  have xlb := (HX.out.alloc (.cells #[] 78)).lt
  go_upto_region 2 with (at_builtin
                         refine wpList_append_gen _ rfl (.tmp 7) (.tmp 9) 29 rfl (w.heap.size + 3) 78 i0 _ 9 104 Tryz.underlying29 hi hz0 hz1 hz2 rfl (by decide) _ 0 [] rfl OE.out A n c (enCells L) rfl (by rw [enCells_len, HNL.out]) SRC.out.2.1 SRC.out.2.2.1 SRC.out.2.2.2 (by unfold maxLen; omega) (by omega) (by simp; omega) ?_
                         intro v4 w4 o4 g4
                         rw [List.nil_append, Nat.zero_add] at o4
                         obtain ⟨A4, c4, hv4⟩ := orow_form o4
                         subst hv4
                         have B4 : Hid (Below w.heap.size w w4) := Lib.hid (BE.out.grown g4 (by simp; omega) (fun j hj => by have := (World.ownsRow.lt OE.out j hj).1; omega))
                         have X4 := Lib.hid ((HX.out.alloc (.cells #[] 78)).grown g4 (fun e => by have := (World.ownsRow.lt OE.out _ e.symm).1; omega))
                         have R4 := Lib.hid ((HR.out.alloc (.cells #[] 78)).grown g4 (fun e => by have := (World.ownsRow.lt OE.out _ e.symm).1; omega))
                         have Z4 := Lib.hid ((HZ.out.alloc (.cells #[] 78)).grown g4 (fun e => by have := (World.ownsRow.lt OE.out _ e.symm).1; omega))
                         have O4 : Hid (w4.ownsRow (w.heap.size + 3) 78 9 (.slice A4 n c4) n (enCells L)) := Lib.hid o4
                         have hs4 : w.heap.size + 3 ≤ w4.heap.size := by have := g4.size; simp at this; omega
                         clear o4 g4)
  clear x4 xl x4b xlb SRC
  have x0 := X4.out.cell 0
  have x1 := X4.out.cell 1
  have x2 := X4.out.cell 2
  have x3 := X4.out.cell 3
  have x4 := X4.out.cell 4
  have xln := X4.out.lt
  have xf := X4.out.frozen
  have r0 := R4.out.cell 0
  have r1 := R4.out.cell 1
  have r2 := R4.out.cell 2
  have r3 := R4.out.cell 3
  have rln := R4.out.lt
  have z0 := Z4.out.cell 0
  have z1 := Z4.out.cell 1
  have z2 := Z4.out.cell 2
  have z3 := Z4.out.cell 3
  have z4 := Z4.out.cell 4
  have zln := Z4.out.lt
  have zf := Z4.out.frozen
  have RDR : Hid (∀ wf, Below w.heap.size w wf → wf.ownsRow (w.heap.size + 3) 78 9 (.slice A4 n c4) n (enCells L) → LogV S wf (.slice A4 n c4) l) := Lib.hid fun wf hB ho => by
    have h := LogV.of_row (S := S) (L := L) (v := .slice A4 n c4) (te := 78) (base := w.heap.size + 3) (by rw [← HNL.out]; exact ho) (fun i e => by have := HSS.out i e; omega) (fun x hx w2 k2 => by
      obtain ⟨q1, q2⟩ := (HP.out w2 ((Fr.of_below hB).next k2)).lists hx
      exact ⟨q1.more hB.size, q2.more hB.size⟩)
    rw [HLE.out] at h
    exact h
  by_cases hf : fits ⟨vi, no, co, ac, l⟩ ⟨4, a, b, rl⟩ = true
  · have HF := Lib.hid hf
    have hg : co ≤ a ∧ a ≤ (n : Int) := by unfold fits at hf; simp only [Int.reduceEq, if_false, or_true, if_true, inR_iff] at hf; have := HN.out; omega
    obtain ⟨h1, h2⟩ := hg
    clear hf
    go_wp2
    have hB := (((((((B4.out.setCell (p := ⟨w.heap.size, 2, none⟩) (by simp) (.int .i64 a)).setCell (p := ⟨w.heap.size, 4, none⟩) (by simp) (.slice A4 n c4)).setCell (p := ⟨w.heap.size + 2, 0, none⟩) (by simp) (.int .i64 vi)).setCell (p := ⟨w.heap.size + 2, 1, none⟩) (by simp) (.int .i64 no)).setCell (p := ⟨w.heap.size + 2, 2, none⟩) (by simp) (.int .i64 a)).setCell (p := ⟨w.heap.size + 2, 3, none⟩) (by simp) (.int .i64 ac)).setCell (p := ⟨w.heap.size + 2, 4, none⟩) (by simp) (.slice A4 n c4))
    refine bodyPost_ret (v := .tuple #[.agg #[.int .i64 vi, .int .i64 no, .int .i64 a, .int .i64 ac, .slice A4 n c4], .int .i64 0]) (by simp [results, Tryz.results21, go_sem, *]) rfl (ApIf.good HF.out ⟨A4, n, c4, ?_, ?_, ?_, hB⟩)
    · rfl
    · exact HN.out
    · exact RDR.out _ hB (orow_set (orow_set (orow_set (orow_set (orow_set (orow_set (orow_set O4.out (q := ⟨w.heap.size, 2, none⟩) (by simp) (.int .i64 a)) (q := ⟨w.heap.size, 4, none⟩) (by simp) (.slice A4 n c4)) (q := ⟨w.heap.size + 2, 0, none⟩) (by simp) (.int .i64 vi)) (q := ⟨w.heap.size + 2, 1, none⟩) (by simp) (.int .i64 no)) (q := ⟨w.heap.size + 2, 2, none⟩) (by simp) (.int .i64 a)) (q := ⟨w.heap.size + 2, 3, none⟩) (by simp) (.int .i64 ac)) (q := ⟨w.heap.size + 2, 4, none⟩) (by simp) (.slice A4 n c4))
  · have hg : ¬ (co ≤ a ∧ a ≤ (n : Int)) := fun h => hf (by unfold fits; simp only [Int.reduceEq, if_false, or_true, if_true, inR_iff]; have := HN.out; omega)
    by_cases h1 : a < co
    · skip
      have HF := Lib.hid hf
      clear hf
      go_wp2
      exact bodyPost_ret (v := .tuple #[.agg #[.int .i64 0, .int .i64 0, .int .i64 0, .int .i64 0, .slice none 0 0], .int .i64 54]) (by simp [results, Tryz.results21, go_sem, *]) rfl (ApIf.bad HF.out ⟨none, 0, 0, rfl, rfl, LogV.nil _ _, (((((B4.out.setCell (p := ⟨w.heap.size + 2, 0, none⟩) (by simp) (.int .i64 0)).setCell (p := ⟨w.heap.size + 2, 1, none⟩) (by simp) (.int .i64 0)).setCell (p := ⟨w.heap.size + 2, 2, none⟩) (by simp) (.int .i64 0)).setCell (p := ⟨w.heap.size + 2, 3, none⟩) (by simp) (.int .i64 0)).setCell (p := ⟨w.heap.size + 2, 4, none⟩) (by simp) (.slice none 0 0))⟩)
    have h2 : (n : Int) < a := by omega
    clear hg
    have HF := Lib.hid hf
    clear hf
    go_wp2
    exact bodyPost_ret (v := .tuple #[.agg #[.int .i64 0, .int .i64 0, .int .i64 0, .int .i64 0, .slice none 0 0], .int .i64 54]) (by simp [results, Tryz.results21, go_sem, *]) rfl (ApIf.bad HF.out ⟨none, 0, 0, rfl, rfl, LogV.nil _ _, (((((B4.out.setCell (p := ⟨w.heap.size + 2, 0, none⟩) (by simp) (.int .i64 0)).setCell (p := ⟨w.heap.size + 2, 1, none⟩) (by simp) (.int .i64 0)).setCell (p := ⟨w.heap.size + 2, 2, none⟩) (by simp) (.int .i64 0)).setCell (p := ⟨w.heap.size + 2, 3, none⟩) (by simp) (.int .i64 0)).setCell (p := ⟨w.heap.size + 2, 4, none⟩) (by simp) (.slice none 0 0))⟩)
end Go.Proofs.YtefgobmpleoafaaGreat

/- The document's Apply of a record to a state. (Written by genLdU.py.) -/
namespace Go.Proofs.YtefgobmpleoafaaGreat
open Go.RowKit
variable {w w' : World}

set_option maxRecDepth 100000 in
set_option maxHeartbeats 8000000 in
theorem xapply5_any (vi no co ac a b : Int) (l rl : List En) (v u : Value) (w : World) (S : Nat → Prop) (hm : l.length ≤ 64) (hV : LogV S w v l) (hU : LogV S w u rl) (hS : ∀ i, S i → i < w.heap.size) :
    Calls Tryz.prog 21 #[(⟨vi, no, co, ac, l⟩ : St).val v, (⟨5, a, b, rl⟩ : Rc).val u] w (ApIf S w ⟨vi, no, co, ac, l⟩ ⟨5, a, b, rl⟩) := by
  obtain ⟨A, c, rfl⟩ := hV.form
  obtain ⟨B, d, rfl⟩ := hU.form
  obtain ⟨n, hn⟩ : ∃ n, n = l.length := ⟨_, rfl⟩
  obtain ⟨m, hmm⟩ : ∃ m, m = rl.length := ⟨_, rfl⟩
  rw [← hn] at hV hm ⊢
  rw [← hmm] at hU ⊢
  have HN := Lib.hid hn
  have HMM := Lib.hid hmm
  obtain ⟨L, hL, hP⟩ := id hV
  have HSS := Lib.hid hS
  have HLE := Lib.hid hL
  have hnL : n = L.length := by rw [hn, ← hL, List.length_map]
  have HNL := Lib.hid hnL
  obtain ⟨i0, hi, hz0, hz1, hz2⟩ := info_three info_xentry
  have b0 : Below w.heap.size w (((w.alloc (.cells #[.int .i64 vi, .int .i64 no, .int .i64 co, .int .i64 ac, .slice A n c] 31)).alloc (.cells #[.int .i64 5, .int .i64 a, .int .i64 b, .slice B m d] 52)).alloc (.cells #[.int .i64 0, .int .i64 0, .int .i64 0, .int .i64 0, .slice none 0 0] 31)) := (((Below.refl _ _).alloc (Nat.le_refl _) _).alloc (by simp) _).alloc (by simp; omega) _
  have HX : Hid (Blk (((w.alloc (.cells #[.int .i64 vi, .int .i64 no, .int .i64 co, .int .i64 ac, .slice A n c] 31)).alloc (.cells #[.int .i64 5, .int .i64 a, .int .i64 b, .slice B m d] 52)).alloc (.cells #[.int .i64 0, .int .i64 0, .int .i64 0, .int .i64 0, .slice none 0 0] 31)) w.heap.size 31 #[.int .i64 vi, .int .i64 no, .int .i64 co, .int .i64 ac, .slice A n c]) := Lib.hid (((Blk.new _ _ _).alloc _).alloc _)
  have HR : Hid (Blk (((w.alloc (.cells #[.int .i64 vi, .int .i64 no, .int .i64 co, .int .i64 ac, .slice A n c] 31)).alloc (.cells #[.int .i64 5, .int .i64 a, .int .i64 b, .slice B m d] 52)).alloc (.cells #[.int .i64 0, .int .i64 0, .int .i64 0, .int .i64 0, .slice none 0 0] 31)) (w.heap.size + 1) 52 #[.int .i64 5, .int .i64 a, .int .i64 b, .slice B m d]) := Lib.hid ((Blk.at_new _ _ (by simp) _ _).alloc _)
  have HZ : Hid (Blk (((w.alloc (.cells #[.int .i64 vi, .int .i64 no, .int .i64 co, .int .i64 ac, .slice A n c] 31)).alloc (.cells #[.int .i64 5, .int .i64 a, .int .i64 b, .slice B m d] 52)).alloc (.cells #[.int .i64 0, .int .i64 0, .int .i64 0, .int .i64 0, .slice none 0 0] 31)) (w.heap.size + 2) 31 #[.int .i64 0, .int .i64 0, .int .i64 0, .int .i64 0, .slice none 0 0]) := Lib.hid (Blk.at_new _ _ (by simp) _ _)
  have hs0 : (((w.alloc (.cells #[.int .i64 vi, .int .i64 no, .int .i64 co, .int .i64 ac, .slice A n c] 31)).alloc (.cells #[.int .i64 5, .int .i64 a, .int .i64 b, .slice B m d] 52)).alloc (.cells #[.int .i64 0, .int .i64 0, .int .i64 0, .int .i64 0, .slice none 0 0] 31)).heap.size = w.heap.size + 3 := by simp
  have HP := Lib.hid hP
  have HV := Lib.hid hV
  have HU := Lib.hid hU
  clear hn hmm hL hnL hP hV hU hS
  go_enter Tryz.func21, Tryz.ntmps21
  go_upto_region 1 with (fail)
  generalize ((w.alloc _).alloc _).alloc _ = wx at *
  have HS0 := Lib.hid hs0
  have B0 := Lib.hid b0
  have hsx : w.heap.size + 3 ≤ wx.heap.size := by omega
  clear b0 hs0
  have BE : Hid (Below w.heap.size w (wx.alloc (.cells #[] 78))) := Lib.hid (B0.out.alloc (by omega) _)
  have OE : Hid ((wx.alloc (.cells #[] 78)).ownsRow (w.heap.size + 3) 78 9 (.slice (some ⟨wx.heap.size, 0, none⟩) 0 0) 0 []) := Lib.hid (World.ownsRow_made wx #[] 0 hsx (by unfold maxLen; omega) (by simp))
  have SRC := Lib.hid (HP.out (wx.alloc (.cells #[] 78)) (Fr.of_below BE.out)).src
  have x4 := HX.out.cell 4
  have xl := HX.out.lt
  have x4b := (HX.out.alloc (.cells #[] 78)).cell 4
  have xlb := (HX.out.alloc (.cells #[] 78)).lt
  go_upto_region 2 with (at_builtin
                         refine wpList_append_gen _ rfl (.tmp 7) (.tmp 9) 29 rfl (w.heap.size + 3) 78 i0 _ 9 104 Tryz.underlying29 hi hz0 hz1 hz2 rfl (by decide) _ 0 [] rfl OE.out A n c (enCells L) rfl (by rw [enCells_len, HNL.out]) SRC.out.2.1 SRC.out.2.2.1 SRC.out.2.2.2 (by unfold maxLen; omega) (by omega) (by simp; omega) ?_
                         intro v4 w4 o4 g4
                         rw [List.nil_append, Nat.zero_add] at o4
                         obtain ⟨A4, c4, hv4⟩ := orow_form o4
                         subst hv4
                         have B4 : Hid (Below w.heap.size w w4) := Lib.hid (BE.out.grown g4 (by simp; omega) (fun j hj => by have := (World.ownsRow.lt OE.out j hj).1; omega))
                         have X4 := Lib.hid ((HX.out.alloc (.cells #[] 78)).grown g4 (fun e => by have := (World.ownsRow.lt OE.out _ e.symm).1; omega))
                         have R4 := Lib.hid ((HR.out.alloc (.cells #[] 78)).grown g4 (fun e => by have := (World.ownsRow.lt OE.out _ e.symm).1; omega))
                         have Z4 := Lib.hid ((HZ.out.alloc (.cells #[] 78)).grown g4 (fun e => by have := (World.ownsRow.lt OE.out _ e.symm).1; omega))
                         have O4 : Hid (w4.ownsRow (w.heap.size + 3) 78 9 (.slice A4 n c4) n (enCells L)) := Lib.hid o4
                         have hs4 : w.heap.size + 3 ≤ w4.heap.size := by have := g4.size; simp at this; omega
                         clear o4 g4)
  clear x4 xl x4b xlb SRC
  have x0 := X4.out.cell 0
  have x1 := X4.out.cell 1
  have x2 := X4.out.cell 2
  have x3 := X4.out.cell 3
  have x4 := X4.out.cell 4
  have xln := X4.out.lt
  have xf := X4.out.frozen
  have r0 := R4.out.cell 0
  have r1 := R4.out.cell 1
  have r2 := R4.out.cell 2
  have r3 := R4.out.cell 3
  have rln := R4.out.lt
  have z0 := Z4.out.cell 0
  have z1 := Z4.out.cell 1
  have z2 := Z4.out.cell 2
  have z3 := Z4.out.cell 3
  have z4 := Z4.out.cell 4
  have zln := Z4.out.lt
  have zf := Z4.out.frozen
  have RDR : Hid (∀ wf, Below w.heap.size w wf → wf.ownsRow (w.heap.size + 3) 78 9 (.slice A4 n c4) n (enCells L) → LogV S wf (.slice A4 n c4) l) := Lib.hid fun wf hB ho => by
    have h := LogV.of_row (S := S) (L := L) (v := .slice A4 n c4) (te := 78) (base := w.heap.size + 3) (by rw [← HNL.out]; exact ho) (fun i e => by have := HSS.out i e; omega) (fun x hx w2 k2 => by
      obtain ⟨q1, q2⟩ := (HP.out w2 ((Fr.of_below hB).next k2)).lists hx
      exact ⟨q1.more hB.size, q2.more hB.size⟩)
    rw [HLE.out] at h
    exact h
  by_cases hf : fits ⟨vi, no, co, ac, l⟩ ⟨5, a, b, rl⟩ = true
  · have HF := Lib.hid hf
    have hg : a ≤ 64 := by unfold fits at hf; simp only [Int.reduceEq, if_false, or_self, if_true, decide_eq_true_eq] at hf; exact hf
    clear hf
    go_wp2
    have hB := (((((((B4.out.setCell (p := ⟨w.heap.size, 3, none⟩) (by simp) (.int .i64 a)).setCell (p := ⟨w.heap.size, 4, none⟩) (by simp) (.slice A4 n c4)).setCell (p := ⟨w.heap.size + 2, 0, none⟩) (by simp) (.int .i64 vi)).setCell (p := ⟨w.heap.size + 2, 1, none⟩) (by simp) (.int .i64 no)).setCell (p := ⟨w.heap.size + 2, 2, none⟩) (by simp) (.int .i64 co)).setCell (p := ⟨w.heap.size + 2, 3, none⟩) (by simp) (.int .i64 a)).setCell (p := ⟨w.heap.size + 2, 4, none⟩) (by simp) (.slice A4 n c4))
    refine bodyPost_ret (v := .tuple #[.agg #[.int .i64 vi, .int .i64 no, .int .i64 co, .int .i64 a, .slice A4 n c4], .int .i64 0]) (by simp [results, Tryz.results21, go_sem, *]) rfl (ApIf.good HF.out ⟨A4, n, c4, ?_, ?_, ?_, hB⟩)
    · rfl
    · exact HN.out
    · exact RDR.out _ hB (orow_set (orow_set (orow_set (orow_set (orow_set (orow_set (orow_set O4.out (q := ⟨w.heap.size, 3, none⟩) (by simp) (.int .i64 a)) (q := ⟨w.heap.size, 4, none⟩) (by simp) (.slice A4 n c4)) (q := ⟨w.heap.size + 2, 0, none⟩) (by simp) (.int .i64 vi)) (q := ⟨w.heap.size + 2, 1, none⟩) (by simp) (.int .i64 no)) (q := ⟨w.heap.size + 2, 2, none⟩) (by simp) (.int .i64 co)) (q := ⟨w.heap.size + 2, 3, none⟩) (by simp) (.int .i64 a)) (q := ⟨w.heap.size + 2, 4, none⟩) (by simp) (.slice A4 n c4))
  · have hg : ¬ a ≤ 64 := fun h => hf (by unfold fits; simp only [Int.reduceEq, if_false, or_self, if_true, decide_eq_true_eq]; exact h)
    have HF := Lib.hid hf
    clear hf
    go_wp2
    exact bodyPost_ret (v := .tuple #[.agg #[.int .i64 0, .int .i64 0, .int .i64 0, .int .i64 0, .slice none 0 0], .int .i64 54]) (by simp [results, Tryz.results21, go_sem, *]) rfl (ApIf.bad HF.out ⟨none, 0, 0, rfl, rfl, LogV.nil _ _, (((((B4.out.setCell (p := ⟨w.heap.size + 2, 0, none⟩) (by simp) (.int .i64 0)).setCell (p := ⟨w.heap.size + 2, 1, none⟩) (by simp) (.int .i64 0)).setCell (p := ⟨w.heap.size + 2, 2, none⟩) (by simp) (.int .i64 0)).setCell (p := ⟨w.heap.size + 2, 3, none⟩) (by simp) (.int .i64 0)).setCell (p := ⟨w.heap.size + 2, 4, none⟩) (by simp) (.slice none 0 0))⟩)
end Go.Proofs.YtefgobmpleoafaaGreat

