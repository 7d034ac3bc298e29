/- The writer: repeats; looks. -/
import Derived.Test.YtkoflhohokdllaaGreatDoorGi
namespace Go.Proofs.YtkoflhohokdllaaGreatDoor
open Go.RowKit
open Go.Proofs.YtkoflhohokdllaaGreatDoor.Cl (Rg SetV SetAt rgCells info_three info3)
variable {w w' w0 : World} {n₀ wb lp lp' base : Nat} {fo : Bool} {M : List In} {G : Int}

def repOk (nd : Nd) : Prop := timesOk nd ∧ 0 ≤ nd.mode ∧ nd.mode ≤ 2
def repG (fo : Bool) (nd : Nd) : List In := if nd.mode = 2 then withinC (.i 8 0 0 0 0) (timesN fo nd) else timesN fo nd
theorem marks_one (i : In) (h : i.op ≠ 10) : marks [i] = 0 := by rw [marks_cons, if_neg h]; rfl
theorem within_app (op a c d : Int) (h : op = 7 ∨ op = 8) (M Y : List In) : M ++ [In.i op a ((M.length : Nat) + (Y.length : Nat) + 2) c d] ++ Y.map (sh ((M ++ [In.i op a 0 c d]).length : Nat) (marks (M ++ [In.i op a 0 c d]) : Nat)) ++ [doneI] = app M (withinC (In.i op a 0 c d) Y) := by
  have hm : marks (M ++ [In.i op a 0 c d]) = marks M := marks_snoc _ _ (by show op ≠ 10; omega)
  have hm1 : marks [In.i op a ((Y.length : Int) + 2) c d] = 0 := marks_one _ (show op ≠ 10 by omega)
  have e1 : withinC (In.i op a 0 c d) Y = In.i op a ((Y.length : Int) + 2) c d :: (Y.map (sh 1 0) ++ [doneI]) := by
    show app [In.i op a ((Y.length : Int) + 2) c d] (app Y [doneI]) = _
    rw [app_one _ _ (.inr (.inr (.inr (.inr (.inr rfl)))))]
    unfold app
    rw [hm1, List.map_append, List.map_cons, List.map_nil, sh_zero_op _ _ doneI (.inr (.inr (.inr (.inr (.inr rfl)))))]
    rfl
  rw [hm, e1]
  have e2 : app M (In.i op a ((Y.length : Int) + 2) c d :: (Y.map (sh 1 0) ++ [doneI])) = M ++ (sh (M.length : Nat) (marks M : Nat) (In.i op a ((Y.length : Int) + 2) c d) :: ((Y.map (sh 1 0)).map (sh (M.length : Nat) (marks M : Nat)) ++ [sh (M.length : Nat) (marks M : Nat) doneI])) := by
    unfold app
    simp
  rw [e2, sh_zero_op _ _ doneI (.inr (.inr (.inr (.inr (.inr rfl))))), List.map_map]
  have e3 : sh (M.length : Nat) (marks M : Nat) (In.i op a ((Y.length : Int) + 2) c d) = In.i op a ((M.length : Nat) + (Y.length : Nat) + 2) c d := by
    rcases h with rfl | rfl <;> simp [sh, In.i] <;> omega
  have e4 : Y.map (sh (M.length : Nat) (marks M : Nat) ∘ sh 1 0) = Y.map (sh ((M ++ [In.i op a 0 c d]).length : Nat) (marks M : Nat)) := by
    apply List.map_congr_left
    intro i _
    simp only [Function.comp, sh_sh, List.length_append, List.length_cons, List.length_nil]
    congr 1 <;> omega
  rw [e3, e4]
  simp
/-- What stands between, and its Done. -/
theorem within_mark (op a c d : Int) (h : op = 7 ∨ op = 8) (M Y : List In) : marks (app M (withinC (In.i op a 0 c d) Y)) = marks M + marks Y := by
  rw [app_marks]
  unfold withinC
  rw [app_marks, app_marks]
  show marks M + (marks [In.i op a ((Y.length : Int) + 2) c d] + (marks Y + marks [doneI])) = _
  have h1 := marks_one (In.i op a ((Y.length : Int) + 2) c d) (show op ≠ 10 by omega)
  have h2 : marks [doneI] = 0 := rfl
  omega
/-- within, where what inside writes is a code. -/
theorem within_code {f : Nat} (hf : f = 82 ∨ f = 94 ∨ f = 96) {p1 p2 : Value} (op a c d : Int) (ho : op = 7 ∨ op = 8) (Y : List In) (h : Wm n₀ wb fo w M) (hl : M.length + Y.length + 2 ≤ 100000)
    (hc : ∀ W, Wm n₀ wb fo W (M ++ [.i op a 0 c d]) → FrW n₀ wb w W → Calls Tryz.prog f #[p1, p2] W (WmP n₀ wb fo W (app (M ++ [.i op a 0 c d]) Y))) :
    Calls Tryz.prog 81 #[.pointer (some ⟨wb, 0, none⟩), .agg #[.int .i64 op, .int .i64 a, .int .i64 0, .int .i64 c, .int .i64 d, .slice none 0 0], .func (.func f) #[] #[p1, p2]] w (WmP n₀ wb fo w (app M (withinC (.i op a 0 c d) Y))) := by
  have hm : marks (M ++ [In.i op a 0 c d]) = marks M := marks_snoc _ _ (by show op ≠ 10; omega)
  have := within_any hf (p1 := p1) (p2 := p2) op a 0 c d (lp' := marks M + marks Y) (Y.map (sh ((M ++ [In.i op a 0 c d]).length : Nat) (marks (M ++ [In.i op a 0 c d]) : Nat))) h (by rw [List.length_map]; exact hl) (fun W hW hF => by
    have e : marks M + marks Y = marks (app (M ++ [In.i op a 0 c d]) Y) := by rw [app_marks, hm]
    rw [e]
    exact hc W (by unfold Wm; rw [hm]; exact hW) hF)
  rw [List.length_map, within_app op a c d ho, ← within_mark op a c d ho] at this
  exact this

set_option maxRecDepth 100000 in
set_option maxHeartbeats 1000000 in
/-- The closure of a possessive repeat. -/
theorem repClo (n : Nat) (ih : AtG n₀ wb fo G n 95 timesOk (timesN fo)) {nd : Nd} (hok : timesOk nd) (hkids : ∀ x ∈ nd.kids, Nx G n x) {bw bn : Nat} {A1 A2 : Option Addr} {p1 p2 : Nat} (hE : Env5 n₀ w) (hN : NodeB n₀ w nd A1 A2 p1 p2) (hW : Wm n₀ wb fo w M) (hl : M.length + (timesN fo nd).length ≤ 90000)
    (hbw : Blk w bw 111 #[.pointer (some ⟨wb, 0, none⟩)]) (hbn : Blk w bn 27 #[.int .i64 nd.kind, .int .i64 nd.lo, .int .i64 nd.hi, .int .i64 nd.mode, .int .i64 nd.ref, .slice A1 nd.set.length p1, .slice A2 nd.kids.length p2]) :
    Calls Tryz.prog 94 #[.pointer (some ⟨bw, 0, none⟩), .pointer (some ⟨bn, 0, none⟩)] w (WmP n₀ wb fo w (app M (timesN fo nd))) := by
  have HC := Lib.hid (ih nd hok hkids w M A1 A2 p1 p2 hE hN hW hl)
  have c0 := hbw.cell 0
  simp at c0
  have h7 := hbn.c7
  clear hE hN hW hbw hbn hok hkids ih
  go_enter Tryz.func94, Tryz.ntmps94
  go_wp2_with fail
  refine HC.out.mono ?_
  rintro e w1 ⟨rfl, hW1, hF1⟩
  have HW1 := Lib.hid hW1
  have HF1 := Lib.hid hF1
  clear hW1 hF1
  go_wp2
  exact ⟨rfl, .tuple #[], by simp [results, Tryz.results94, go_sem], rfl, HW1.out, HF1.out⟩

set_option maxRecDepth 100000 in
set_option maxHeartbeats 1000000 in
theorem repeat_step (n : Nat) (ih : RowG n₀ wb fo G n) : AtG n₀ wb fo G n 78 repOk (repG fo) := by
  have hTimes := times_step n ih
  intro nd hok hkids w M A1 A2 p1 p2 hE hN hW hlen
  obtain ⟨ht, hm0, hm2⟩ := hok
  obtain ⟨hlow1, hlow2⟩ := Wr.low hW
  have hb0 := (Below.refl w.heap.size w).alloc (Nat.le_refl _) (.cells #[.pointer (some ⟨wb, 0, none⟩)] 111)
  have hs0 : (w.alloc (.cells #[.pointer (some ⟨wb, 0, none⟩)] 111)).heap.size = w.heap.size + 1 := by simp
  have hb1 := hb0.alloc (by omega) (.cells #[.int .i64 nd.kind, .int .i64 nd.lo, .int .i64 nd.hi, .int .i64 nd.mode, .int .i64 nd.ref, .slice A1 nd.set.length p1, .slice A2 nd.kids.length p2] 27)
  have HBw := Lib.hid ((Blk.new w 111 #[.pointer (some ⟨wb, 0, none⟩)]).alloc (.cells #[.int .i64 nd.kind, .int .i64 nd.lo, .int .i64 nd.hi, .int .i64 nd.mode, .int .i64 nd.ref, .slice A1 nd.set.length p1, .slice A2 nd.kids.length p2] 27))
  have HBn := Lib.hid (Blk.new (w.alloc (.cells #[.pointer (some ⟨wb, 0, none⟩)] 111)) 27 #[.int .i64 nd.kind, .int .i64 nd.lo, .int .i64 nd.hi, .int .i64 nd.mode, .int .i64 nd.ref, .slice A1 nd.set.length p1, .slice A2 nd.kids.length p2])
  rw [hs0] at HBn
  have HE := Lib.hid hE
  have HN := Lib.hid hN
  have HW0 := Lib.hid (hW.on hb1)
  have HF0 := Lib.hid (FrW.of_below (n₀ := n₀) (wb := wb) hb1)
  by_cases hm : nd.mode = 2
  · have hX : repG fo nd = withinC (.i 8 0 0 0 0) (timesN fo nd) := by unfold repG; rw [if_pos hm]
    have hl : (withinC (.i 8 0 0 0 0) (timesN fo nd)).length = (timesN fo nd).length + 2 := by have := withinC_len (.i 8 0 0 0 0) (timesN fo nd); unfold len at this; omega
    rw [hX] at hlen ⊢
    rw [hl] at hlen
    have hmb : (nd.mode == 2) = true := by simp [hm]
    have HClo := Lib.hid (fun W bw bn (h1 : Env5 n₀ W) (h2 : NodeB n₀ W nd A1 A2 p1 p2) M' (h3 : Wm n₀ wb fo W M') h4 h5 h6 => repClo n hTimes ht hkids h1 h2 h3 h4 h5 h6 (bw := bw) (bn := bn))
    clear hTimes ht hkids hE hN hW hX hl ih hm
    go_enter Tryz.func78, Tryz.ntmps78
    go_upto_region 1 with (fail)
    generalize (w.alloc _).alloc _ = W at *
    have hs1 := hb1.size
    have h7 := HBn.out.c7
    have c0 := HBw.out.cell 0
    simp at c0
    have HWi := Lib.hid (within_code (w := W) (M := M) (p1 := .pointer (some ⟨w.heap.size, 0, none⟩)) (p2 := .pointer (some ⟨w.heap.size + 1, 0, none⟩)) (.inr (.inl rfl)) 8 0 0 0 (.inr rfl) (timesN fo nd) HW0.out (by omega) (fun W' hW' hF' =>
      HClo.out W' _ _ (HE.out.low ((HF0.out.trans hF').old (by omega))) (HN.out.lowB ((HF0.out.trans hF').old (by omega))) _ hW' (by rw [List.length_append]; simp; omega) (hF'.blk HBw.out (by decide) (by omega)) (hF'.blk HBn.out (by decide) (by omega))))
    go_wp2_with fail
    refine HWi.out.mono ?_
    rintro e w1 ⟨rfl, hW1, hF1⟩
    have HW1 := Lib.hid hW1
    have HF1 := Lib.hid (HF0.out.trans hF1)
    clear hW1 hF1
    go_wp2
    exact ⟨rfl, .tuple #[], by simp [results, Tryz.results78, go_sem], rfl, HW1.out, HF1.out⟩
  · have hX : repG fo nd = timesN fo nd := by unfold repG; rw [if_neg hm]
    rw [hX] at hlen ⊢
    have hmb : (nd.mode == 2) = false := by simp [hm]
    have HC := Lib.hid (fun W (h1 : Env5 n₀ W) (h2 : NodeB n₀ W nd A1 A2 p1 p2) (h3 : Wm n₀ wb fo W M) => hTimes nd ht hkids W M A1 A2 p1 p2 h1 h2 h3 hlen)
    clear hTimes ht hkids hE hN hW hX ih hm
    go_enter Tryz.func78, Tryz.ntmps78
    go_upto_region 1 with (fail)
    generalize (w.alloc _).alloc _ = W at *
    have hs1 := hb1.size
    have h7 := HBn.out.c7
    have c0 := HBw.out.cell 0
    simp at c0
    go_wp2_with fail
    refine (HC.out W (HE.out.low (HF0.out.old (by omega))) (HN.out.lowB (HF0.out.old (by omega))) HW0.out).mono ?_
    rintro e w1 ⟨rfl, hW1, hF1⟩
    have HW1 := Lib.hid hW1
    have HF1 := Lib.hid (HF0.out.trans hF1)
    clear hW1 hF1
    go_wp2
    exact ⟨rfl, .tuple #[], by simp [results, Tryz.results78, go_sem], rfl, HW1.out, HF1.out⟩

end Go.Proofs.YtkoflhohokdllaaGreatDoor
