/- A range over an iterator whose variable lies in a box of its own, a new one in each round; no round leaves early. -/
import Derived.RangeFuncBox
import Derived.RangeFuncLeaves
import Derived.RangeFuncFrom
import Derived.RangeFuncKeeps
import Derived.Test.YtifpfpgibjmibaaRuK
namespace Go.Proofs.Ytifpfpgibjmibaa
open Go.RowKit

section
variable {F : Fence} {n : Nat} {P : Program}
theorem rangeFunc_boxed {α : Type} {g : Operand} {ps : Array Tmp} {assign body : Code} {Q : Exit → Act → World → Prop} {a : Act} {w : World} (hro : F.round = none) (h1 : 1 ≤ n) {gf : Nat} {lb : Array Value}
    (hg : a.eval g = .func (.func gf) #[] lb) (hFg : F.fn gf) (eg : ∀ args w, (callFunc gf args).run P w = .ok (.enter gf args) w) {enc : α → Value} {S : List α → Prop} {N : Nat} {w0 : World}
    (hseq : SeqStopsK F (n - 1) P gf lb (fun x => #[enc x]) KeepsWalks S (fun _ => True) N w0) (hb0 : Below w0.heap.size w0 w) (hps : ps.size = 1) (I : List α → World → Prop) (hI : OwnFrom w.heap.size I) (h0 : I [] w) (o : α → Obj) (a₁ : α → Nat → Act)
    (hassign : ∀ (l : Nat) (x : α) (W : World) (K : Act → World → Prop), K (a₁ x W.heap.size) (W.alloc (o x)) →
      assign.wpIn (F.inRound l) (n - 1 - 1) P (Exit.then K (fun _ _ _ => False)) { tmps := (ps.zip #[enc x]).foldl (fun t (p, v) => t.setIfInBounds p v) a.tmps, defers := [] } W)
    (hbody : ∀ (l : Nat) (pre : List α) (x : α) (W : World) (B : Nat), I pre W → pre.length < N → W.heap[B]? = some (o x) → w.heap.size ≤ B →
      body.wpIn (F.inRound l) (n - 1 - 1) P (fun e _ W' => e = .normal ∧ KeepsOthers W W' ∧ I (pre ++ [x]) W') (a₁ x B) W)
    (hdone : ∀ (D : Nat) (xs : List α) (W : World), w.heap.size ≤ D → S xs → I xs W → W.heap[D]? = some (.deferred (some [])) → Q .normal { a with defers := { target := .collected D, args := #[] } :: a.defers } W) :
    (Code.rangeFunc g ps assign body).wpIn F n P Q a w := by
  refine wpIn_rangeFunc fun fn hfn => ?_
  rw [hro]
  generalize hD : w.heap.size = D at *
  let R : LoopState → Loop := fun st => { state := st, pending := none, fn, tmps := a.tmps, params := ps, assign, body, defers := D }
  let V := (w.alloc (.deferred (some []))).alloc (.loop (R .ready))
  have gV : w.grownBy V none := (World.grownBy_alloc w _ none).trans (World.grownBy_alloc _ _ none)
  have vD : V.heap[D]? = some (.deferred (some [])) := by
    rw [← hD]
    exact (Below.heap_alloc _ _ _ (by simp)).trans (World.alloc_heap_new w _)
  have vR : V.heap[D + 1]? = some (.loop (R .ready)) := by
    have := World.alloc_heap_new (w.alloc (.deferred (some []))) (.loop (R .ready))
    rwa [World.size_alloc, hD] at this
  have vI : I [] V := hI [] w V none h0 gV (fun _ e => by cases e)
  have vs : D + 2 ≤ V.heap.size := by simp [V, hD]
  refine ⟨D + 1, [{ target := .collected D, args := #[] }], V, { target := .fn (.func gf) lb, args := #[.func (.yield (D + 1)) #[] #[]] }, V, gf, #[.func (.yield (D + 1)) #[] #[]] ++ lb, V, ?_, ?_, ?_, ?_, fun _ => h1, ?_⟩
  · subst hD
    exact run_enterLoop_outer _ _ _ _ _
  · simp only [resolve, hg]
    simp [go_sem]
  · intro f' hf'
    simp [Target.leads] at hf'
    subst hf'
    exact hFg
  · simp [invoke, go_sem, eg]
  · have low : ∀ {A : World} {row : Option Nat}, (∀ r, row = some r → V.heap.size ≤ r ∧ ∃ o : Obj, A.heap[r]? = some o ∧ o.isWalk = true) → ∀ r, row = some r → D ≤ r ∧ ∃ o : Obj, A.heap[r]? = some o ∧ o.isCells = false := fun hr r e => by
      obtain ⟨hb, o, ho, hw⟩ := hr r e
      exact ⟨by omega, o, ho, Obj.not_cells_of_walk hw⟩
    refine (hseq (D + 1) (fun pre W => I pre W ∧ W.heap[D + 1]? = some (.loop (R .ready)) ∧ W.heap[D]? = some (.deferred (some []))) (fun _ _ => False) V (hb0.trans ((⟨gV.os, gV.tape, gV.output, gV.size, fun i hi => gV.block i (by have := hb0.size; omega) (by simp)⟩ : Below w0.heap.size w V)))
      (fun s A B row hs hg' hr => ⟨hI s A B row hs.1 hg' (low hr), (grownBy_keeps hg' (fun r e => (hr r e).2) hs.2.1 rfl).trans hs.2.1, (grownBy_keeps hg' (fun r e => (hr r e).2) hs.2.2 rfl).trans hs.2.2⟩)
      (fun _ _ _ _ hs _ _ => hs) ?_ ⟨vI, vR, vD⟩).mono ?_
    · rintro pre x W ⟨hi, hl, hk⟩ hlen
      have hlt := (Array.getElem?_eq_some_iff.1 hl).1
      refine ⟨fn, _, assign, body, run_yield (P := P) (args := #[enc x]) hl (by simp [R, hps]), roundIn_of_wpIn hfn (hassign _ x W _ ⟨_, run_beginRound ((Below.heap_alloc _ _ _ hlt).trans hl) rfl, ?_⟩)⟩
      have la : (W.alloc (o x)).heap[D + 1]? = some (.loop (R .ready)) := (Below.heap_alloc _ _ _ hlt).trans hl
      have ka : (W.alloc (o x)).heap[D]? = some (.deferred (some [])) := (Below.heap_alloc _ _ _ (by omega)).trans hk
      have ia : I pre (W.alloc (o x)) := hI.alloc _ hi
      generalize hX : (W.alloc (o x)).putObj (D + 1) (.loop { R .ready with state := .busy }) = X
      have xl : X.heap[D + 1]? = some (.loop { R .ready with state := .busy }) := by rw [← hX]; exact World.putObj_heap_same (by simp; omega)
      have xk : X.heap[D]? = some (.deferred (some [])) := by rw [← hX]; exact (World.putObj_heap_other (by omega)).trans ka
      have xi : I pre X := by rw [← hX]; exact hI.putObj _ ia (by omega) la rfl
      have xw : KeepsWalks W X := by
        rw [← hX]
        exact (KeepsWalks.alloc W (o x)).trans (KeepsWalks.putObj _ la rfl)
      have xb : X.heap[W.heap.size]? = some (o x) := by
        rw [← hX]
        exact (World.putObj_heap_other (by omega)).trans (World.alloc_heap_new W (o x))
      refine wpIn_mono (hbody _ pre x X W.heap.size xi hlen xb (by omega)) ?_
      rintro e a3 Y ⟨rfl, hY, iY⟩
      have yl := hY.same _ _ xl rfl
      have yk := hY.same _ _ xk rfl
      have run := run_endRound (P := P) none yl
      refine ⟨_, _, run, .inl ⟨rfl, ⟨hI.putObj _ iY (by omega) yl rfl, World.putObj_heap_same (Array.getElem?_eq_some_iff.1 yl).1, (World.putObj_heap_other (by omega)).trans yk⟩, (xw.trans hY.walks).trans (KeepsWalks.putObj _ yl rfl)⟩⟩
    · rintro e Y ⟨⟨v, rfl⟩, (⟨xs, hS, hi, hl, hk⟩ | ⟨_, _, h⟩)⟩
      · exact ⟨none, _, run_endLoop (P := P) hl (by simp [R]), hdone _ xs _ (Nat.le_refl _) hS (hI.putObj _ hi (by omega) hl rfl) ((World.putObj_heap_other (by omega)).trans hk)⟩
      · exact h.elim
end

end Go.Proofs.Ytifpfpgibjmibaa
