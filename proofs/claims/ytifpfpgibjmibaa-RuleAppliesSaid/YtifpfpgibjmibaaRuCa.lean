/- Of drawn regions: quiet calls that wait for one another, beside the making of a variable. -/
import Derived.Test.YtifpfpgibjmibaaRuK
import Derived.Deep.RegionHeld
namespace Go.Proofs.Ytifpfpgibjmibaa
open Go.RowKit

section
variable {P : Program} {md : Region.Mode} {ops : Array Oper} {Q : Exit → Act → World → Prop} {S : World → Prop} {fuel : Nat} {listed : Array Bool} {a : Act} {w : World}
theorem wpAnyH_call1 (i d : Nat) {f : FuncId} {args : Array Value} {v : Value} {o : Oper} (ho : ops[i]? = some o) (hd : o.dst = some d) (hr : Region.ready md ops listed = [i]) (hw : o.guard = none)
    (he : (execOp a.eval o).run P w = .ok (.enter f args) w) (hc : Calls P f args w fun e w' => e = .returned v ∧ w' = w) (hS : S w)
    (h : wpAnyH P md ops Q S fuel (listed.setIfInBounds i true) { tmps := a.tmps.setIfInBounds d v, defers := a.defers } w) : wpAnyH P md ops Q S (fuel + 1) listed a w := by
  refine wpAnyH_ready hr (by simp) (AllReadyH.cons ho (fun K hK => ?_) AllReadyH.nil)
  rw [if_pos (by unfold Region.wanted; rw [hw])]
  unfold Oper.wp
  rw [he]
  refine hc.mono ?_
  rintro e w' ⟨rfl, rfl⟩
  refine hK.out _ _ hS (fun _ => ?_)
  rw [hd]
  exact h
theorem wpAnyH_call2 (i j d dj : Nat) {f : FuncId} {args : Array Value} {v p : Value} {o oj : Oper} {w1 : World} (ho : ops[i]? = some o) (hoj : ops[j]? = some oj) (hd : o.dst = some d) (hdj : oj.dst = some dj) (hr : Region.ready md ops listed = [i, j]) (hw : o.guard = none) (hwj : oj.guard = none)
    (he : (execOp a.eval o).run P w = .ok (.enter f args) w) (hc : Calls P f args w fun e w' => e = .returned v ∧ w' = w) (hS : S w)
    (hej : (execOp a.eval oj).run P w = .ok (.value p) w1) (hS1 : S w1)
    (h : wpAnyH P md ops Q S fuel (listed.setIfInBounds i true) { tmps := a.tmps.setIfInBounds d v, defers := a.defers } w)
    (h1 : wpAnyH P md ops Q S fuel (listed.setIfInBounds j true) { tmps := a.tmps.setIfInBounds dj p, defers := a.defers } w1) : wpAnyH P md ops Q S (fuel + 1) listed a w := by
  refine wpAnyH_ready hr (by simp) (AllReadyH.cons ho (fun K hK => ?_) (AllReadyH.cons hoj (fun K hK => ?_) AllReadyH.nil))
  · rw [if_pos (by unfold Region.wanted; rw [hw])]
    unfold Oper.wp
    rw [he]
    refine hc.mono ?_
    rintro e w' ⟨rfl, rfl⟩
    refine hK.out _ _ hS (fun _ => ?_)
    rw [hd]
    exact h
  · rw [if_pos (by unfold Region.wanted; rw [hwj])]
    unfold Oper.wp
    rw [hej]
    refine hK.out _ _ hS1 (fun _ => ?_)
    rw [hdj]
    exact h1
theorem wpAnyH_new1 (j dj : Nat) {p : Value} {oj : Oper} {w1 : World} (hoj : ops[j]? = some oj) (hdj : oj.dst = some dj) (hr : Region.ready md ops listed = [j]) (hwj : oj.guard = none)
    (hej : (execOp a.eval oj).run P w = .ok (.value p) w1) (hS1 : S w1)
    (h1 : wpAnyH P md ops Q S fuel (listed.setIfInBounds j true) { tmps := a.tmps.setIfInBounds dj p, defers := a.defers } w1) : wpAnyH P md ops Q S (fuel + 1) listed a w := by
  refine wpAnyH_ready hr (by simp) (AllReadyH.cons hoj (fun K hK => ?_) AllReadyH.nil)
  rw [if_pos (by unfold Region.wanted; rw [hwj])]
  unfold Oper.wp
  rw [hej]
  refine hK.out _ _ hS1 (fun _ => ?_)
  rw [hdj]
  exact h1
end
theorem run_alloc_delta (w : World) {f : Operand → Value} {dst : Option Nat} {ty : TypeId} {pos : String} {af : Array Edge} {g : Option (Nat × Bool)} : (execOp f { dst := dst, op := Op.alloc 27, type := ty, pos := pos, after := af, guard := g }).run Try.prog w = .ok (.value (.pointer (some ⟨w.heap.size, 0, none⟩))) (w.alloc (.cells #[.int .i64 0, .int .i64 0, .int .i64 0, .int .i64 0, .slice none 0 0, .slice none 0 0] 27)) := by
  kernel_rfl
theorem run_alloc_xset (w : World) {f : Operand → Value} {dst : Option Nat} {ty : TypeId} {pos : String} {af : Array Edge} {g : Option (Nat × Bool)} : (execOp f { dst := dst, op := Op.alloc 35, type := ty, pos := pos, after := af, guard := g }).run Try.prog w = .ok (.value (.pointer (some ⟨w.heap.size, 0, none⟩))) (w.alloc (.cells #[.int .i64 0, .int .i64 0, .int .i64 0, .int .i64 0, .slice none 0 0] 35)) := by
  kernel_rfl

end Go.Proofs.Ytifpfpgibjmibaa
