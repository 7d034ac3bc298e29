/- Joined: RuV, RuR, RuE, RuShelf, RuF, RuG, RuH, RuI, RuJ. -/
import Derived.RangeFuncBox
import Derived.RangeFuncLeaves
import Derived.Shelf.Abstract
import Derived.WalkKit
import Derived.OwnWalkIn
import Derived.TacticsInMore
import Derived.LoopNIn
import Derived.LoopIn
import Derived.Maps.AppendAt
import Derived.Maps.OwnIn
import Derived.Sort.MapsRangeIn
import Derived.Outline
import Derived.Test.YtefgobmpleoafaaGreatDoorJRa
import Derived.RangeFuncFrom
import Derived.RangeFuncKeeps
import Derived.Shelf.SlGeneric
import Derived.Shelf.SlSortCmp.WholeK
import Derived.Ground.SlsfProg
import Derived.Test.YtefgobmpleoafaaGreatDoorJClasses
import Derived.Shelf.SlSortCmp.NoneTotal
import Derived.Maps.OwnSet
import Derived.Maps.OwnOps
/- maps.Values of rules, and what is collected of it. -/
namespace Go.Proofs.YtefgobmpleoafaaGreatDoor
open Go.RowKit Go.Shelf Go.Maps

attribute [local go_sem] Oper.semAt_some

theorem dm_at {L : List Ru} {k : Int} {x : Ru} (h : ∀ zd, (dm L).atKey (.int .i64 k) zd = .held x) : x ∈ L ∧ x.id = k := by
  have h1 := h .nil
  unfold dm DataW.atKey at h1
  simp only [List.find?_map] at h1
  cases hf : L.find? ((fun p : Lit × DataW Ru => p.1.sameKey (.int .i64 k)) ∘ fun r : Ru => ((.int .i64 r.id : Lit), (.held r : DataW Ru))) with
  | none => rw [hf] at h1; simp at h1
  | some y =>
    rw [hf] at h1
    simp at h1
    subst h1
    exact ⟨List.mem_of_find?_eq_some hf, by have := List.find?_some hf; simpa [Lit.sameKey] using this⟩
/-- what has come of a map's values -/
def Coll (L : List Ru) (left : Lit → Bool) (ss : List Ru) : Prop := ss.Nodup ∧ ∀ y, y ∈ ss ↔ y ∈ L ∧ left (.int .i64 y.id) = false
theorem Coll.start (L : List Ru) : Coll L (Maps.has (dm L)) [] := ⟨List.nodup_nil, fun y => by
  simp only [List.not_mem_nil, false_iff, not_and, Bool.not_eq_false]
  intro h
  rw [dm_has, decide_eq_true_eq]
  exact List.mem_map_of_mem h⟩
theorem Coll.step {L : List Ru} {left : Lit → Bool} {ss : List Ru} {x : Ru} {k : Int} (hL : Rise L) (h : Coll L left ss) (hl : left (.int .i64 k) = true) (hx : x ∈ L) (e : x.id = k) : Coll L (fun z => left z && !z.sameKey (.int .i64 k)) (ss ++ [x]) := by
  subst e
  refine ⟨?_, fun y => ?_⟩
  · rw [List.nodup_append]
    refine ⟨h.1, by simp, fun a ha b hb e => ?_⟩
    rw [List.mem_singleton.1 hb] at e
    subst e
    have := ((h.2 a).1 ha).2
    rw [hl] at this
    cases this
  · rw [List.mem_append, List.mem_singleton, h.2 y]
    simp only [Lit.sameKey, Bool.and_eq_false_iff, Bool.not_eq_eq_eq_not, Bool.not_false, decide_eq_true_eq, true_and]
    constructor
    · rintro (⟨h1, h2⟩ | rfl)
      · exact ⟨h1, .inl h2⟩
      · exact ⟨hx, .inr rfl⟩
    · rintro ⟨h1, h2 | h2⟩
      · exact .inl ⟨h1, h2⟩
      · exact .inr (rise_inj hL h1 hx h2)
theorem Coll.perm {L : List Ru} {left : Lit → Bool} {ss : List Ru} (hL : Rise L) (h : Coll L left ss) (hl : ∀ z, left z = false) : ss.Perm L := by
  refine (List.perm_ext_iff_of_nodup h.1 (hL.imp fun hlt e => by rw [e] at hlt; omega)).2 fun y => ?_
  rw [h.2 y, hl]
  simp

set_option maxRecDepth 100000 in
set_option maxHeartbeats 2000000 in
theorem values1_in (n : Nat) (hn : 1 ≤ n) (l Bm b nn : Nat) (L : List Ru) (hL : Rise L) (J Jx : List Ru → World → Prop)
    (hY : ∀ pre x W, J pre W → pre.length < L.length → YieldAt Fence.wide (n - 1) Tryz.prog l #[x.val] W fun e W' =>
      (e = .returned (.bool true) ∧ J (pre ++ [x]) W' ∧ KeepsWalks W W') ∨ (e = .returned (.bool false) ∧ Jx (pre ++ [x]) W'))
    (W : World) (hJ : AbidesFrom W.heap.size J) (hm : W.cell? ⟨Bm, 0, none⟩ = some (.map (some b))) (hown : W.ownsMap Tryz.prog 3 ruR b nn (dm L)) (h0 : J [] W) :
    CallsIn Fence.wide n Tryz.prog 73 #[.func (.yield l) #[] #[], .pointer (some ⟨Bm, 0, none⟩)] W fun e W' => (∃ v, e = .returned v) ∧
      ((∃ ss, ss.Perm L ∧ J ss W') ∨ (∃ pre : List Ru, True ∧ Jx pre W')) := by
  refine callsIn_of_wp Tryz.func73 rfl trivial ?_ rfl
  simp only [Tryz.ntmps73, List.size_toArray, List.length_cons, List.length_nil, Nat.reduceAdd, Nat.reduceSub, Array.replicate_succ, Array.replicate_zero, List.push_toArray, List.append_toArray, List.nil_append, List.cons_append]
  gi_wp2_with (first
    | (gi_at_range; refine wpListIn_range_own _ rfl _ 109 rfl 3 72 (int_keyed Tryz.underlying3) Tryz.underlying109 _ b nn _ rfl hown ?_; intro w0 hrg0 hg0 hs0)
    | gi_in)
  go_frame
  gi_loopw [4] (fun _ wr => ∃ (left : Lit → Bool) (cnt : Nat) (ss : List Ru), wr.ranges Tryz.prog 3 ruR b W.heap.size nn (dm L) left cnt ∧ ss.length + cnt ≤ L.length ∧ Coll L left ss ∧ J ss wr)
    (fun _ wr => wr.rangeLeft b W.heap.size)
  case atStart =>
    exact ⟨_, _, [], hrg0, by simp [dm_size], Coll.start L, hJ [] W w0 none h0 hg0 (fun r e => by cases e)⟩
  case round =>
    obtain ⟨left, cnt, ss, hrg, hcs, hC, hJs⟩ := hrel
    gi_wp2_with (first
      | (gi_at_next; refine wpListIn_next_ranges _ rfl _ rfl 3 (int_keyed Tryz.underlying3) ruR (Value.int .i64) Ru.val (fun key kl hk => by obtain ⟨x, hx, _⟩ := Maps.keyOf_int_inv Tryz.underlying3 hk; exact ⟨x, hx⟩) (fun v y hv => by obtain ⟨r, hr, _⟩ := ruR_inv hv; exact ⟨r, hr⟩) b W.heap.size nn _ _ _ rfl hrg ?_ ?_)
      | gi_in)
    · intro hc0 hl0
      gi_wp2
      go_end0
      exact ⟨⟨_, rfl⟩, .inl ⟨ss, hC.perm hL hl0, hJs⟩⟩
    · intro k x kl yd yp w2 cnt2 hkey hlk hv hat hrg2 hlt hg2 hs2 hen
      obtain ⟨k', ex, rfl, _⟩ := Maps.keyOf_int_inv Tryz.underlying3 hkey
      obtain rfl : k = k' := by simpa using ex
      rw [ruR_val] at hv
      obtain ⟨rfl, rfl⟩ := Prod.mk.inj (Option.some.inj hv)
      obtain ⟨hxL, hxk⟩ := dm_at hat
      have hC2 := hC.step hL hlk hxL hxk
      have hJ2 : J ss w2 := hJ ss wr w2 (some W.heap.size) hJs hg2 (fun r e => by cases e; exact ⟨Nat.le_refl _, hrg.iter_walk⟩)
      have hJ3 : J ss (w2.alloc (.cells #[.int .i64 x.id, .int .i64 x.pr, .int .i64 x.ac, .int .i64 x.sc, .string x.pat] 72)) := hJ ss w2 _ none hJ2 (World.grownBy_alloc w2 _ none) (fun r e => by cases e)
      have hrg3 := hrg2.alloc (.cells #[.int .i64 x.id, .int .i64 x.pr, .int .i64 x.ac, .int .i64 x.sc, .string x.pat] 72)
      obtain ⟨fn, tmps, assign, body, hy, hR⟩ := hY ss x _ hJ3 (by omega)
      have HC := Lib.hid hC2
      unfold Ru.val at hy hen
      clear hs2 hC hC2 hat hkey hv hJ2 hJ3 hJs hxk hxL
      gi_wp2
      refine hR.mono ?_
      rintro e W3 (⟨rfl, hJ4, hk3⟩ | ⟨rfl, hJx3⟩)
      · gi_wp2
        have hrg4 := hrg3.of_walks hk3
        go_roundw
        case rel => exact ⟨_, cnt2, ss ++ [x], hrg4, by simp; omega, HC.out, hJ4⟩
        case measure => rw [hrg4.left_eq, hrg.left_eq]; exact hlt
      · gi_wp2
        refine bodyPost_ret (results_none rfl _ _ _) rfl ?_
        exact ⟨⟨_, rfl⟩, .inr ⟨ss ++ [x], trivial, hJx3⟩⟩

theorem values_in (n : Nat) (mb : Option Nat) (w : World) :
    CallsIn Fence.wide n Tryz.prog 63 #[.map mb] w fun e w' => e = .returned (.func (.func 73) #[] #[.pointer (some ⟨w.heap.size, 0, none⟩)]) ∧ w' = w.alloc (.cells #[.map mb] 109) := by
  refine callsIn_of_wp Tryz.func63 rfl trivial ?_ rfl
  simp only [Tryz.ntmps63, List.size_toArray, List.length_cons, List.length_nil, Nat.reduceAdd, Nat.reduceSub, Array.replicate_succ, Array.replicate_zero, List.push_toArray, List.append_toArray, List.nil_append, List.cons_append]
  gi_wp2
  go_ret
  exact ⟨rfl, rfl⟩

theorem values_stops (n : Nat) (hn : 1 ≤ n) (Bm b nn : Nat) (L : List Ru) (hL : Rise L) (w : World) (hBm : Bm < w.heap.size) (hm : w.cell? ⟨Bm, 0, none⟩ = some (.map (some b))) (hown : w.ownsMap Tryz.prog 3 ruR b nn (dm L)) :
    SeqStopsK Fence.wide n Tryz.prog 73 #[.pointer (some ⟨Bm, 0, none⟩)] (fun x : Ru => #[x.val]) KeepsWalks (fun ss => ss.Perm L) (fun _ => True) L.length w := fun l J Jx W hW hJ _ hY h0 => by
  have hown' : W.ownsMap Tryz.prog 3 ruR b nn (dm L) := by
    have hbl := hown.lt
    obtain ⟨es, clock, hb, Ft, hs, hD⟩ := hown
    exact ⟨es, clock, (hW.block b hbl).trans hb, Ft, hs, hD⟩
  exact values1_in n hn l Bm b nn L hL J Jx hY W hJ ((hW.cell (p := ⟨Bm, 0, none⟩) hBm).trans hm) hown' h0

end Go.Proofs.YtefgobmpleoafaaGreatDoor

/- A range over an iterator whose variable lies in a box of its own, a new one in each round; no round leaves early. -/
namespace Go.Proofs.YtefgobmpleoafaaGreatDoor
open Go.RowKit

section
variable {F : Fence} {n : Nat} {P : Program}
theorem rangeFunc_boxed {α : Type} {g : Operand} {ps : Array Tmp} {assign body : Code} {Q : Exit → Act → World → Prop} {a : Act} {w : World} (hro : F.round = none) (h1 : 1 ≤ n) {gf : Nat} {lb : Array Value}
    (hg : a.eval g = .func (.func gf) #[] lb) (hFg : F.fn gf) (eg : ∀ args w, (callFunc gf args).run P w = .ok (.enter gf args) w) {enc : α → Value} {S : List α → Prop} {N : Nat} {w0 : World}
    (hseq : SeqStopsK F (n - 1) P gf lb (fun x => #[enc x]) KeepsWalks S (fun _ => True) N w0) (hb0 : Below w0.heap.size w0 w) (hps : ps.size = 1) (I : List α → World → Prop) (hI : OwnFrom w.heap.size I) (h0 : I [] w) (o : α → Obj) (a₁ : α → Nat → Act)
    (hassign : ∀ (l : Nat) (x : α) (W : World) (K : Act → World → Prop), K (a₁ x W.heap.size) (W.alloc (o x)) →
      assign.wpIn (F.inRound l) (n - 1 - 1) P (Exit.then K (fun _ _ _ => False)) { tmps := (ps.zip #[enc x]).foldl (fun t (p, v) => t.setIfInBounds p v) a.tmps, defers := [] } W)
    (hbody : ∀ (l : Nat) (pre : List α) (x : α) (W : World) (B : Nat), I pre W → pre.length < N → W.heap[B]? = some (o x) → w.heap.size ≤ B →
      body.wpIn (F.inRound l) (n - 1 - 1) P (fun e _ W' => e = .normal ∧ KeepsOthers W W' ∧ I (pre ++ [x]) W') (a₁ x B) W)
    (hdone : ∀ (D : Nat) (xs : List α) (W : World), w.heap.size ≤ D → S xs → I xs W → W.heap[D]? = some (.deferred (some [])) → Q .normal { a with defers := { target := .collected D, args := #[] } :: a.defers } W) :
    (Code.rangeFunc g ps assign body).wpIn F n P Q a w := by
  refine wpIn_rangeFunc fun fn hfn => ?_
  rw [hro]
  generalize hD : w.heap.size = D at *
  let R : LoopState → Loop := fun st => { state := st, pending := none, fn, tmps := a.tmps, params := ps, assign, body, defers := D }
  let V := (w.alloc (.deferred (some []))).alloc (.loop (R .ready))
  have gV : w.grownBy V none := (World.grownBy_alloc w _ none).trans (World.grownBy_alloc _ _ none)
  have vD : V.heap[D]? = some (.deferred (some [])) := by
    rw [← hD]
    exact (Below.heap_alloc _ _ _ (by simp)).trans (World.alloc_heap_new w _)
  have vR : V.heap[D + 1]? = some (.loop (R .ready)) := by
    have := World.alloc_heap_new (w.alloc (.deferred (some []))) (.loop (R .ready))
    rwa [World.size_alloc, hD] at this
  have vI : I [] V := hI [] w V none h0 gV (fun _ e => by cases e)
  have vs : D + 2 ≤ V.heap.size := by simp [V, hD]
  refine ⟨D + 1, [{ target := .collected D, args := #[] }], V, { target := .fn (.func gf) lb, args := #[.func (.yield (D + 1)) #[] #[]] }, V, gf, #[.func (.yield (D + 1)) #[] #[]] ++ lb, V, ?_, ?_, ?_, ?_, fun _ => h1, ?_⟩
  · subst hD
    exact run_enterLoop_outer _ _ _ _ _
  · simp only [resolve, hg]
    simp [go_sem]
  · intro f' hf'
    simp [Target.leads] at hf'
    subst hf'
    exact hFg
  · simp [invoke, go_sem, eg]
  · have low : ∀ {A : World} {row : Option Nat}, (∀ r, row = some r → V.heap.size ≤ r ∧ ∃ o : Obj, A.heap[r]? = some o ∧ o.isWalk = true) → ∀ r, row = some r → D ≤ r ∧ ∃ o : Obj, A.heap[r]? = some o ∧ o.isCells = false := fun hr r e => by
      obtain ⟨hb, o, ho, hw⟩ := hr r e
      exact ⟨by omega, o, ho, Obj.not_cells_of_walk hw⟩
    refine (hseq (D + 1) (fun pre W => I pre W ∧ W.heap[D + 1]? = some (.loop (R .ready)) ∧ W.heap[D]? = some (.deferred (some []))) (fun _ _ => False) V (hb0.trans ((⟨gV.os, gV.tape, gV.output, gV.size, fun i hi => gV.block i (by have := hb0.size; omega) (by simp)⟩ : Below w0.heap.size w V)))
      (fun s A B row hs hg' hr => ⟨hI s A B row hs.1 hg' (low hr), (grownBy_keeps hg' (fun r e => (hr r e).2) hs.2.1 rfl).trans hs.2.1, (grownBy_keeps hg' (fun r e => (hr r e).2) hs.2.2 rfl).trans hs.2.2⟩)
      (fun _ _ _ _ hs _ _ => hs) ?_ ⟨vI, vR, vD⟩).mono ?_
    · rintro pre x W ⟨hi, hl, hk⟩ hlen
      have hlt := (Array.getElem?_eq_some_iff.1 hl).1
      refine ⟨fn, _, assign, body, run_yield (P := P) (args := #[enc x]) hl (by simp [R, hps]), roundIn_of_wpIn hfn (hassign _ x W _ ⟨_, run_beginRound ((Below.heap_alloc _ _ _ hlt).trans hl) rfl, ?_⟩)⟩
      have la : (W.alloc (o x)).heap[D + 1]? = some (.loop (R .ready)) := (Below.heap_alloc _ _ _ hlt).trans hl
      have ka : (W.alloc (o x)).heap[D]? = some (.deferred (some [])) := (Below.heap_alloc _ _ _ (by omega)).trans hk
      have ia : I pre (W.alloc (o x)) := hI.alloc _ hi
      generalize hX : (W.alloc (o x)).putObj (D + 1) (.loop { R .ready with state := .busy }) = X
      have xl : X.heap[D + 1]? = some (.loop { R .ready with state := .busy }) := by rw [← hX]; exact World.putObj_heap_same (by simp; omega)
      have xk : X.heap[D]? = some (.deferred (some [])) := by rw [← hX]; exact (World.putObj_heap_other (by omega)).trans ka
      have xi : I pre X := by rw [← hX]; exact hI.putObj _ ia (by omega) la rfl
      have xw : KeepsWalks W X := by
        rw [← hX]
        exact (KeepsWalks.alloc W (o x)).trans (KeepsWalks.putObj _ la rfl)
      have xb : X.heap[W.heap.size]? = some (o x) := by
        rw [← hX]
        exact (World.putObj_heap_other (by omega)).trans (World.alloc_heap_new W (o x))
      refine wpIn_mono (hbody _ pre x X W.heap.size xi hlen xb (by omega)) ?_
      rintro e a3 Y ⟨rfl, hY, iY⟩
      have yl := hY.same _ _ xl rfl
      have yk := hY.same _ _ xk rfl
      have run := run_endRound (P := P) none yl
      refine ⟨_, _, run, .inl ⟨rfl, ⟨hI.putObj _ iY (by omega) yl rfl, World.putObj_heap_same (Array.getElem?_eq_some_iff.1 yl).1, (World.putObj_heap_other (by omega)).trans yk⟩, (xw.trans hY.walks).trans (KeepsWalks.putObj _ yl rfl)⟩⟩
    · rintro e Y ⟨⟨v, rfl⟩, (⟨xs, hS, hi, hl, hk⟩ | ⟨_, _, h⟩)⟩
      · exact ⟨none, _, run_endLoop (P := P) hl (by simp [R]), hdone _ xs _ (Nat.le_refl _) hS (hI.putObj _ hi (by omega) hl rfl) ((World.putObj_heap_other (by omega)).trans hk)⟩
      · exact h.elim
end

end Go.Proofs.YtefgobmpleoafaaGreatDoor

/- slices.AppendSeq and slices.Collect of a map's rules. -/
namespace Go.Proofs.YtefgobmpleoafaaGreatDoor
open Go.RowKit Go.Shelf

attribute [local go_sem] Oper.semAt_some

theorem infoRu : (Tryz.prog.info? 72).map (fun i => (i.zero, i.size, i.bytes)) = some (some (.agg #[.int .i64 0, .int .i64 0, .int .i64 0, .int .i64 0, .string ⟨#[]⟩]), 5, 48) := by kernel_rfl
theorem cells5_new (w : World) (a b c d f : Value) (t : TypeId) : ∀ j u, [a, b, c, d, f][j]? = some u → (w.alloc (.cells #[a, b, c, d, f] t)).cell? ((⟨w.heap.size, 0, none⟩ : Addr).add j) = some u := by
  intro j u hj
  match j, hj with
  | 0, hj => simp at hj; subst hj; simp [Addr.add]
  | 1, hj => simp at hj; subst hj; simp [Addr.add]
  | 2, hj => simp at hj; subst hj; simp [Addr.add]
  | 3, hj => simp at hj; subst hj; simp [Addr.add]
  | 4, hj => simp at hj; subst hj; simp [Addr.add]
  | j + 5, hj => simp at hj

set_option maxRecDepth 100000 in
set_option maxHeartbeats 2000000 in
theorem appendSeq_in (n : Nat) (hn : 3 ≤ n) (Bm b nn : Nat) (L : List Ru) (hL : Rise L) (hmax : L.length ≤ 1000000) (w : World) (hBm : Bm < w.heap.size) (hm : w.cell? ⟨Bm, 0, none⟩ = some (.map (some b))) (hown : w.ownsMap Tryz.prog 3 ruR b nn (dm L)) :
    CallsIn Fence.wide n Tryz.prog 89 #[.slice none 0 0, .func (.func 73) #[] #[.pointer (some ⟨Bm, 0, none⟩)]] w fun e W' => ∃ v ss, e = .returned v ∧ ss.Perm L ∧ OwnU W' w.heap.size 72 v ss ∧ Below w.heap.size w W' := by
  obtain ⟨i0, hi, hz0, hz1, hz2⟩ := info_three infoRu
  refine callsIn_of_wp_marks Tryz.func89 rfl trivial ?_ rfl
  simp only [Tryz.ntmps89, List.size_toArray, List.length_cons, List.length_nil, Nat.reduceAdd, Nat.reduceSub, Array.replicate_succ, Array.replicate_zero, List.push_toArray, List.append_toArray, List.nil_append, List.cons_append]
  gi_wp2_with fail
  have bO := Boxed.new w 34 (.slice none 0 0)
  have hB0 : Below w.heap.size w (w.alloc (.cells #[.slice none 0 0] 34)) := (Below.refl _ w).alloc (Nat.le_refl _) _
  refine rangeFunc_boxed rfl (by omega) (gf := 73) (lb := #[.pointer (some ⟨Bm, 0, none⟩)]) rfl trivial (enters_of Tryz.func73 (by kernel_rfl) rfl) (enc := fun x : Ru => .agg #[.int .i64 x.id, .int .i64 x.pr, .int .i64 x.ac, .int .i64 x.sc, .string x.pat])
    (values_stops _ (by omega) Bm b nn L hL w hBm hm hown) hB0 rfl
    (fun pre W => (∃ v, Boxed W w.heap.size 34 v ∧ W.ownsRow w.heap.size 72 5 v pre.length (ruCells pre) ∧ True) ∧ Below w.heap.size w W)
    (OwnFrom.and (Own.from (holdsRow_own w.heap.size w.heap.size 34 72 5 (fun pre : List Ru => pre.length) ruCells (fun _ _ => True)) _) (ownFrom_below (Nat.le_refl _) (by simp)))
    ⟨⟨_, bO, World.ownsRow_nil _ _ _ _, trivial⟩, hB0⟩
    (fun x => .cells #[.int .i64 x.id, .int .i64 x.pr, .int .i64 x.ac, .int .i64 x.sc, .string x.pat] 72)
    (fun x B => { tmps := #[.slice none 0 0, .func (.func 73) #[] #[.pointer (some ⟨Bm, 0, none⟩)], .pointer (some ⟨w.heap.size, 0, none⟩), undef, .slice none 0 0, .pointer (some ⟨B, 0, none⟩), .func (.func 73) #[] #[.pointer (some ⟨Bm, 0, none⟩)], .agg #[.int .i64 x.id, .int .i64 x.pr, .int .i64 x.ac, .int .i64 x.sc, .string x.pat], undef, undef, undef, undef, undef], defers := [] }) ?assign ?body ?done
  case assign =>
    intro l x W K hK
    gi_wp2
    exact hK
  case body =>
    rintro l pre x W B ⟨⟨v, hv, hrow, _⟩, hB⟩ hlt hbx _
    have hc := hv.cell
    have hX : Blk W B 72 #[.int .i64 x.id, .int .i64 x.pr, .int .i64 x.ac, .int .i64 x.sc, .string x.pat] := hbx
    have d0 := hX.cell 0
    have d1 := hX.cell 1
    have d2 := hX.cell 2
    have d3 := hX.cell 3
    have d4 := hX.cell 4
    clear hbx
    gi_wp2_with (gi_at_builtin; refine wpListIn_append_own _ rfl _ _ 34 rfl w.heap.size 72 i0 (.agg #[.int .i64 0, .int .i64 0, .int .i64 0, .int .i64 0, .string ⟨#[]⟩]) 5 48 Tryz.underlying34 hi hz0 hz1 hz2 rfl (by decide) _ _ _ rfl (hrow.alloc _) ⟨W.heap.size, 0, none⟩ 1 1 [.int .i64 x.id, .int .i64 x.pr, .int .i64 x.ac, .int .i64 x.sc, .string x.pat] rfl rfl (cells5_new _ _ _ _ _ _ _) (by intro u hu; simp at hu; rcases hu with rfl | rfl | rfl | rfl | rfl <;> rfl) (by unfold maxLen; omega) (by omega) (by have := hB.size; simp; omega) ?_; intro v' w1 hown' hgrow _; obtain ⟨g', cap', rfl⟩ := ownsRow_succ hown'; obtain ⟨hv1, hv2, hr2, hk2, hb2⟩ := hv.appended (by decide) hrow hB.size (Nat.le_refl _) hown' hgrow; have hc1 := hv1.cell; have hf1 := hv1.frozen)
    exact ⟨⟨_, hv2, by rw [ruCells_append]; simpa [ruCells, Ru.cells] using hr2⟩, hB.trans hb2⟩
  case done =>
    rintro D ys W hD hp ⟨⟨v, hv, hrow, _⟩, hB⟩ hK
    have hc := hv.cell
    gi_wp2
    refine ⟨by simp, .inl ⟨_, _, rfl, run_takeDeferred hK, ?_⟩⟩
    exact ⟨_, results_tmp rfl _ _ _, v, ys, rfl, hp, ownsRow_putObj hrow _ hK rfl, hB.trans (belowK_b (w := w) (Nat.le_refl _) W D _ _ (by simp at hD; omega) hK rfl rfl)⟩

end Go.Proofs.YtefgobmpleoafaaGreatDoor

/-
  DERIVED: THE SHELF's CONTRACTS AT THIS DUMP, IN PLAIN WORDS (tools/lay-plain.mjs out of 'YtefgobmpleoafaaGreatDoorRuShelf.lean', which tools/lay-shelf.mjs wrote): THE SAME DECLARATIONS UNDER THE SAME NAMES: 'import', 'namespace', 'open', 'def', 'theorem' AND NOTHING ELSE: no command of the shelf's: FOR A HAND-IN. Each laying: the table of numbers ('.._ren') and one theorem, a field a fact of the dump's own or the kernel's comparison; each contract: ONE APPLICATION.
-/
namespace Go.Proofs
open Go.Shelf
def Tryz.sortRu_ren : Go.Shelf.Ren := ⟨fun | 6 => 72 | 15 => 91 | 14 => 90 | 28 => 111 | 29 => 112 | 20 => 103 | 21 => 104 | 22 => 105 | 23 => 106 | 24 => 107 | 25 => 108 | 26 => 109 | 27 => 110 | 46 => 123 | 47 => 124 | 48 => 125 | 49 => 126 | 50 => 127 | 57 => 139 | n => n, fun | 22 => 34 | 24 => 72 | 25 => 136 | 3 => 3 | 39 => 174 | 0 => 0 | 53 => 190 | 55 => 192 | 4 => 4 | 46 => 183 | 45 => 182 | 50 => 187 | 5 => 5 | 9 => 9 | 66 => 199 | 70 => 203 | 76 => 210 | 77 => 64 | n => n, fun | n => n⟩
theorem Tryz.sortRu : Go.Proofs.SlLaysF0.n6 Tryz.prog Tryz.sortRu_ren := {
  mixed := by kernel_rfl
  f6 := ⟨Tryz.f72.name, by decide, Tryz.func72.trans (congrArg some (by kernel_rfl))⟩
  f14 := ⟨Tryz.f90.name, by decide, Tryz.func90.trans (congrArg some (by kernel_rfl))⟩
  f15 := Tryz.func91.trans (congrArg some (by kernel_rfl))
  f20 := ⟨Tryz.f103.name, by decide, Tryz.func103.trans (congrArg some (by kernel_rfl))⟩
  f21 := ⟨Tryz.f104.name, by decide, Tryz.func104.trans (congrArg some (by kernel_rfl))⟩
  f22 := ⟨Tryz.f105.name, by decide, Tryz.func105.trans (congrArg some (by kernel_rfl))⟩
  f23 := ⟨Tryz.f106.name, by decide, Tryz.func106.trans (congrArg some (by kernel_rfl))⟩
  f24 := ⟨Tryz.f107.name, by decide, Tryz.func107.trans (congrArg some (by kernel_rfl))⟩
  f25 := ⟨Tryz.f108.name, by decide, Tryz.func108.trans (congrArg some (by kernel_rfl))⟩
  f26 := ⟨Tryz.f109.name, by decide, Tryz.func109.trans (congrArg some (by kernel_rfl))⟩
  f27 := ⟨Tryz.f110.name, by decide, Tryz.func110.trans (congrArg some (by kernel_rfl))⟩
  f28 := Tryz.func111.trans (congrArg some (by kernel_rfl))
  f29 := Tryz.func112.trans (congrArg some (by kernel_rfl))
  f46 := ⟨Tryz.f123.name, by decide, Tryz.func123.trans (congrArg some (by kernel_rfl))⟩
  f47 := Tryz.func124.trans (congrArg some (by kernel_rfl))
  f48 := Tryz.func125.trans (congrArg some (by kernel_rfl))
  f49 := ⟨Tryz.f126.name, by decide, Tryz.func126.trans (congrArg some (by kernel_rfl))⟩
  f50 := ⟨Tryz.f127.name, by decide, Tryz.func127.trans (congrArg some (by kernel_rfl))⟩
  f57 := ⟨Tryz.f139.name, by decide, Tryz.func139.trans (congrArg some (by kernel_rfl))⟩
  t0 := Tryz.underlying0
  a0 := Tryz.isAgg0
  z0 := Tryz.sizeOf0
  v0 := Tryz.zeroValue0
  t3 := Tryz.underlying3
  a3 := Tryz.isAgg3
  z3 := Tryz.sizeOf3
  v3 := Tryz.zeroValue3
  t4 := Tryz.underlying4
  a4 := Tryz.isAgg4
  z4 := Tryz.sizeOf4
  v4 := Tryz.zeroValue4
  t5 := Tryz.underlying5
  a5 := Tryz.isAgg5
  z5 := Tryz.sizeOf5
  v5 := Tryz.zeroValue5
  t9 := Tryz.underlying9
  a9 := Tryz.isAgg9
  z9 := Tryz.sizeOf9
  v9 := Tryz.zeroValue9
  t22 := Tryz.underlying34
  a22 := Tryz.isAgg34
  z22 := Tryz.sizeOf34
  v22 := Tryz.zeroValue34
  t25 := Tryz.underlying136
  a25 := Tryz.isAgg136
  z25 := Tryz.sizeOf136
  v25 := Tryz.zeroValue136
  t39 := Tryz.underlying174
  a39 := Tryz.isAgg174
  z39 := Tryz.sizeOf174
  v39 := Tryz.zeroValue174
  t45 := Tryz.underlying182
  a45 := Tryz.isAgg182
  z45 := Tryz.sizeOf182
  v45 := Tryz.zeroValue182
  t46 := Tryz.underlying183
  a46 := Tryz.isAgg183
  z46 := Tryz.sizeOf183
  v46 := Tryz.zeroValue183
  t50 := Tryz.underlying187
  a50 := Tryz.isAgg187
  z50 := Tryz.sizeOf187
  v50 := Tryz.zeroValue187
  t53 := Tryz.underlying190
  a53 := Tryz.isAgg190
  z53 := Tryz.sizeOf190
  v53 := Tryz.zeroValue190
  t55 := Tryz.underlying192
  a55 := Tryz.isAgg192
  z55 := Tryz.sizeOf192
  v55 := Tryz.zeroValue192
  t66 := Tryz.underlying199
  a66 := Tryz.isAgg199
  z66 := Tryz.sizeOf199
  v66 := Tryz.zeroValue199
  t70 := Tryz.underlying203
  a70 := Tryz.isAgg203
  z70 := Tryz.sizeOf203
  v70 := Tryz.zeroValue203
  t76 := Tryz.underlying210
  a76 := Tryz.isAgg210
  z76 := Tryz.sizeOf210
  v76 := Tryz.zeroValue210
  t77 := Tryz.underlying64
  a77 := Tryz.isAgg64
  z77 := Tryz.sizeOf64
  v77 := Tryz.zeroValue64 }
end Go.Proofs

/- slices.SortFunc by ID over a row of rules of the call's own. -/
namespace Go.Proofs.YtefgobmpleoafaaGreatDoor
open Go.RowKit Go.Shelf Go.Lib

def cfId (x y : Ru) : Int := Lib.compareInt x.id y.id
instance : Inhabited Ru := ⟨Ru.none⟩

theorem ltId (x y : Ru) : ltOf cfId x y = decide (x.id < y.id) := by
  unfold ltOf cfId Lib.compareInt
  by_cases h1 : x.id < y.id
  · simp [h1]
  · by_cases h2 : y.id < x.id <;> simp [h1, h2]
theorem swoId : Sort.SWO (ltOf cfId) where
  irrefl x := by rw [ltId]; simp
  trans x y z h1 h2 := by rw [ltId] at *; simp at *; omega
  ntrans x y z h1 h2 := by rw [ltId] at *; simp at *; omega

set_option maxHeartbeats 1000000 in
/-- The comparison's literal: in whatever world: two blocks are laid. -/
theorem cmpId_any (x y : Ru) (W : World) : Calls Tryz.prog 64 #[.agg x.cells.toArray, .agg y.cells.toArray] W fun e w' => e = .returned (.int .i64 (cfId x y)) ∧ ∃ q os', w' = Sort.grow (W.drewN q) os' := by
  have hcon := fun W' => AnyG.cmp_Compare_int Tryz.cmpInt x.id y.id W'
  change ∀ W', Calls Tryz.prog 65 _ _ _ at hcon
  unfold cfId
  generalize Lib.compareInt x.id y.id = r at hcon ⊢
  simp only [Ru.cells, List.toArray]
  go_enter Tryz.func64, Tryz.ntmps64
  go_wp2_with (go_at_call 65; refine (hcon _).mono ?_; rintro e w' ⟨rfl, rfl⟩)
  go_ret
  exact ⟨rfl, 0, _, by rw [Sort.alloc_eq_grow, Sort.alloc_eq_grow, Sort.grow_grow]; rfl⟩
theorem cmpId_lays (blk off size : Nat) (w : World) : CmpLays Tryz.prog 64 #[] Ru.cells 5 cfId blk off size w :=
  fun _ _ _ _ x y => cmpId_any x y _

theorem flat_get (d : Array Ru) (j : Nat) (h : j < d.size * 5) : some (Sort.flatK Ru.cells 5 d)[j]! = d[j / 5]!.cells[j % 5]? := by
  rw [Sort.get_flatK _ _ _ _ h]
  have : j % 5 < (d[j / 5]!).cells.length := by simp [Ru.cells]; omega
  rw [List.getElem?_eq_getElem this, getElem!_pos (d[j / 5]!).cells (j % 5) this]
theorem get_of_toList (d : Array Ru) (i : Nat) (r : Ru) (h : d.toList[i]? = some r) : i < d.size ∧ d[i]! = r := by
  obtain ⟨hi, rfl⟩ := List.getElem?_eq_some_iff.1 h
  have hi' : i < d.size := by simpa using hi
  exact ⟨hi', by rw [getElem!_pos d i hi']; simp⟩

theorem below_sortWorld (w : World) (base g n : Nat) (d : Array Ru) (os : Array Obj) (hg : base ≤ g) (hb : base ≤ w.heap.size) : Below base w (sortWorldK Ru.cells 5 w g 0 n d os) := by
  refine ⟨rfl, rfl, rfl, size_sortWorldK_c Ru.cells 5 w g 0 n d os, fun k hk => ?_⟩
  unfold sortWorldK
  rw [Sort.heap_grow_old _ _ (by rw [Sort.size_putRowK]; show k < w.heap.size; omega)]
  unfold Sort.putRowK Sort.putRow Sort.mapBlock
  simp only [Sort.heap_ahead]
  rw [Array.getElem?_modify, if_neg (by omega)]

theorem sort_ownU (v : Value) (l : List Ru) (base : Nat) (w : World) (hb : base ≤ w.heap.size) (hmax : l.length ≤ 1000000) (h : OwnU w base 72 v l) :
    Calls Tryz.prog 72 #[v, .func (.func 64) #[] #[]] w fun e w' => e = .returned (.tuple #[]) ∧ ∃ l', l'.Perm l ∧ l'.Pairwise (fun a b => a.id ≤ b.id) ∧ RulesV w'.heap.size w' v l' ∧ Below base w w' := by
  by_cases hl : l = []
  · subst hl
    obtain ⟨p, cap, rfl⟩ : ∃ p cap, v = .slice p 0 cap := by
      obtain ⟨A, cap, hv, _⟩ := h.set
      exact ⟨A, cap, hv⟩
    have hs := h.set
    have hcon := AnyF.slices_SortFunc_none { Tryz.sortRu with } p cap (.func (.func 64) #[] #[]) w
    change Calls Tryz.prog 72 _ _ _ at hcon
    refine hcon.mono ?_
    rintro e w' ⟨rfl, rfl⟩
    exact ⟨rfl, [], List.Perm.refl _, List.Pairwise.nil, hs, Below.refl _ _⟩
  · have hlen : 0 < l.length := List.length_pos_iff.2 hl
    obtain ⟨g, cap, rfl, hg1, hg2⟩ := World.ownsRow.form h hlen
    have hH : Sort.HoldsK Ru.cells 5 w g 0 l.toArray := by
      intro j hj
      rw [Sort.size_flatK] at hj
      have hj' : j < l.length * 5 := by simpa using hj
      refine ⟨?_, World.ownsRow.frozenAt h (0 + j)⟩
      rw [World.ownsRow.cellAt h (0 + j) (by omega), id_eq, flat_get _ _ hj, Nat.zero_add]
      have hlt : j / 5 < l.length := by omega
      have hg := ruCells_get l (j / 5) (j % 5) l[j / 5] (List.getElem?_eq_getElem hlt) (by omega)
      have he : l.toArray[j / 5]! = l[j / 5] := by rw [getElem!_pos l.toArray (j / 5) (by simpa using hlt)]; simp
      rw [he, ← hg]
      congr 1
      omega
    have eg : ∀ args w, (callFunc 64 args).run Tryz.prog w = .ok (.enter 64 args) w := enters_of Tryz.func64 (by kernel_rfl) rfl
    have hcon := AnyQ.slices_SortFunc Tryz.sortRu 5 Tryz.isAgg72 Tryz.sizeOf72 Ru.cells (fun _ => rfl) (fun x v hv => ru_one x v hv) cfId swoId 64 #[] g 0 cap l.toArray w eg (cmpId_lays g 0 l.toArray.size w) hH hg2 (by simp; omega)
    change Calls Tryz.prog 72 #[.slice (some ⟨g, 0, none⟩) l.length cap, _] _ _ at hcon
    refine hcon.mono ?_
    rintro e w' ⟨rfl, d', n, os, hp, hs, rfl⟩
    obtain ⟨hp1, _, hp3⟩ := hp
    have hsz : d'.size = l.length := by simpa using hp1
    have hperm : d'.toList.Perm l := by
      have h3 := hp3
      simp only [Array.toList_extract, List.extract_eq_take_drop, List.drop_zero, Nat.sub_zero] at h3
      rw [List.take_of_length_le (by rw [Array.length_toList, hp1]; exact Nat.le_refl _), List.take_of_length_le (by simp)] at h3
      exact h3
    refine ⟨rfl, d'.toList, hperm, ?_, ?_, below_sortWorld w base g n d' os hg1 hb⟩
    · rw [List.pairwise_iff_getElem]
      intro i j hi hj hij
      have hj' : j < d'.size := by simpa using hj
      have hi' : i < d'.size := by simpa using hi
      have := hs i j (Nat.zero_le _) hij (by rw [← hp1]; exact hj')
      rw [ltId, getElem!_pos d' i hi', getElem!_pos d' j hj'] at this
      simp only [decide_eq_false_iff_not, Array.getElem_toList] at this ⊢
      omega
    · have hHo := holdsK_sortWorldK_c Ru.cells 5 w g 0 l.toArray d' n os hH hg2 hp1
      have hlt := size_sortWorldK_c Ru.cells 5 w g 0 n d' os
      have hlen' : d'.toList.length = l.length := by simpa using hsz
      have hcapn : l.length ≤ cap := by
        obtain ⟨A, c, hv, hc, _⟩ := h.set
        have : cap = c := by injection hv
        omega
      refine ⟨some ⟨g, 0, none⟩, cap, by rw [hlen'], by rw [hlen']; exact hcapn, fun _ => ⟨g, 0, rfl, by omega, fun i r hr => ?_⟩⟩
      obtain ⟨hi, hr⟩ := get_of_toList d' i r hr
      have c : ∀ k u, k < 5 → r.cells[k]? = some u → (sortWorldK Ru.cells 5 w g 0 n d' os).cell? ⟨g, 0 + (i * 5 + k), none⟩ = some u := fun k u hk hu => by
        rw [(hHo (i * 5 + k) (by rw [Sort.size_flatK]; omega)).1, id_eq, flat_get _ _ (by omega), show (i * 5 + k) / 5 = i by omega, show (i * 5 + k) % 5 = k by omega, hr, hu]
      exact ⟨c 0 _ (by omega) rfl, c 1 _ (by omega) rfl, c 2 _ (by omega) rfl, c 3 _ (by omega) rfl, c 4 _ (by omega) rfl⟩

end Go.Proofs.YtefgobmpleoafaaGreatDoor

/- Package rule: inOrder: a map's rules by rising ID. -/
namespace Go.Proofs.YtefgobmpleoafaaGreatDoor
open Go.RowKit Go.Shelf

/-- a slice that lies in no block below base -/
def Far (base : Nat) (v : Value) : Prop := ∀ b, v.ownBlock = some b → base ≤ b
theorem OwnU.far {w : World} {base : Nat} {e : TypeId} {v : Value} {l : List Ru} (h : OwnU w base e v l) : Far base v := fun b hb => (World.ownsRow.lt h b hb).1
theorem sorted_one {l l' : List Ru} (hp : l'.Perm l) (hs : l'.Pairwise fun a b => a.id ≤ b.id) (hl : Rise l) : l' = l := by
  have hn : (l'.map Ru.id).Nodup := (hp.map Ru.id).nodup_iff.2 (List.pairwise_map.2 (hl.imp fun h => by omega))
  have hne : l'.Pairwise fun a b => a.id ≠ b.id := List.pairwise_map.1 hn
  exact rise_ext (hs.imp₂ (fun a b h1 h2 => by omega) hne) hl fun x => hp.mem_iff

set_option maxRecDepth 100000 in
set_option maxHeartbeats 2000000 in
theorem collect_any (Bm b nn : Nat) (L : List Ru) (hL : Rise L) (hmax : L.length ≤ 1000000) (w : World) (hBm : Bm < w.heap.size) (hm : w.cell? ⟨Bm, 0, none⟩ = some (.map (some b))) (hown : w.ownsMap Tryz.prog 3 ruR b nn (dm L)) :
    Calls Tryz.prog 71 #[.func (.func 73) #[] #[.pointer (some ⟨Bm, 0, none⟩)]] w fun e W' => ∃ v ss, e = .returned v ∧ ss.Perm L ∧ OwnU W' w.heap.size 72 v ss ∧ Below w.heap.size w W' := by
  have C := Lib.hid ((callsIn_wide (n := 5)).1 (appendSeq_in 5 (by omega) Bm b nn L hL hmax w hBm hm hown))
  go_enter Tryz.func71, Tryz.ntmps71
  go_wp2_with fail
  refine C.out.mono ?_
  rintro e W' ⟨v, ss, rfl, h1, h2, h3⟩
  have H := Lib.hid (And.intro h1 (And.intro h2 h3))
  clear h1 h2 h3
  go_wp2
  go_ret
  exact ⟨v, ss, rfl, H.out⟩

set_option maxRecDepth 100000 in
set_option maxHeartbeats 2000000 in
theorem sortedFunc_any (Bm b nn : Nat) (L : List Ru) (hL : Rise L) (hmax : L.length ≤ 1000000) (w : World) (hBm : Bm < w.heap.size) (hm : w.cell? ⟨Bm, 0, none⟩ = some (.map (some b))) (hown : w.ownsMap Tryz.prog 3 ruR b nn (dm L)) :
    Calls Tryz.prog 62 #[.func (.func 73) #[] #[.pointer (some ⟨Bm, 0, none⟩)], .func (.func 64) #[] #[]] w fun e W' => ∃ v, e = .returned v ∧ RulesV W'.heap.size W' v L ∧ Far w.heap.size v ∧ Below w.heap.size w W' := by
  have C := Lib.hid (collect_any Bm b nn L hL hmax w hBm hm hown)
  go_enter Tryz.func62, Tryz.ntmps62
  go_wp2_with fail
  refine C.out.mono ?_
  rintro e w1 ⟨v, ss, rfl, h1, h2, h3⟩
  have S := Lib.hid (sort_ownU v ss w.heap.size w1 h3.size (by have := h1.length_eq; omega) h2)
  have H := Lib.hid (And.intro h1 (And.intro h2.far h3))
  clear h1 h2 h3
  go_wp2_with fail
  refine S.out.mono ?_
  rintro e w2 ⟨rfl, l', p1, p2, p3, p4⟩
  have H2 := Lib.hid (And.intro p1 (And.intro p2 (And.intro p3 p4)))
  clear p1 p2 p3 p4
  go_wp2
  go_ret
  obtain ⟨p1, p2, p3, p4⟩ := H2.out
  obtain ⟨h1, h2, h3⟩ := H.out
  obtain rfl := sorted_one (p1.trans h1) p2 hL
  exact ⟨v, rfl, p3, h2, h3.trans p4⟩

set_option maxRecDepth 100000 in
set_option maxHeartbeats 2000000 in
theorem inOrder_any (b nn : Nat) (L : List Ru) (hL : Rise L) (hmax : L.length ≤ 1000000) (w : World) (hown : w.ownsMap Tryz.prog 3 ruR b nn (dm L)) :
    Calls Tryz.prog 50 #[.map (some b)] w fun e W' => ∃ v, e = .returned v ∧ RulesV W'.heap.size W' v L ∧ Far w.heap.size v ∧ Below w.heap.size w W' := by
  have V := Lib.hid ((callsIn_wide (n := 5)).1 (values_in 5 (some b) w))
  have hb0 := (Below.refl w.heap.size w).alloc (Nat.le_refl _) (.cells #[.map (some b)] 109)
  have S := Lib.hid (sortedFunc_any w.heap.size b nn L hL hmax (w.alloc (.cells #[.map (some b)] 109)) (by simp) (by simp) (hown.alloc _))
  have HB := Lib.hid hb0
  clear hb0
  go_enter Tryz.func50, Tryz.ntmps50
  go_wp2_with fail
  refine V.out.mono ?_
  rintro e w1 ⟨rfl, rfl⟩
  go_wp2_with fail
  refine S.out.mono ?_
  rintro e w2 ⟨v, rfl, h1, h2, h3⟩
  have H := Lib.hid (And.intro h1 (And.intro h2 h3))
  clear h1 h2 h3
  go_wp2
  go_ret
  obtain ⟨h1, h2, h3⟩ := H.out
  exact ⟨v, rfl, h1, fun b hb => by have := h2 b hb; simp at this; omega, HB.out.trans (h3.mono (by simp))⟩

end Go.Proofs.YtefgobmpleoafaaGreatDoor

/- Package rule: byID, twice. -/
namespace Go.Proofs.YtefgobmpleoafaaGreatDoor
open Go.RowKit Go.Maps
variable {w w' : World}

theorem run_makeMap_hint (t k e : TypeId) (n : Int) (w : World) (ht : Tryz.prog.underlying t = some (.map k e)) : (Instr.makeMap t (some (.int .i64 n))).run Tryz.prog w = .ok (.map (some w.heap.size)) (w.alloc (.map #[] 0)) := by
  simp [Instr.makeMap, run_underlying ht, asInt, asIntOf]
theorem wfI {z : Int} (h : -9223372036854775808 ≤ z ∧ z ≤ 9223372036854775807) : (Lit.int .i64 z).wf = true := by
  simp [Lit.wf, IntKind.min, IntKind.max, IntKind.signed, IntKind.bits]
  omega
theorem wfId {r : Ru} (h : r.ok = true) : (Lit.int .i64 r.id).wf = true := by
  simp only [Ru.ok, decide_eq_true_eq] at h
  exact wfI (by omega)
theorem keyI (z : Int) (h : (Lit.int .i64 z).wf = true) : keyOf Tryz.prog 3 (.int .i64 z) = some (.int .i64 z) := keyOf_int_mk Tryz.underlying3 h
theorem ruR_agg (r : Ru) : ruR (.agg #[.int .i64 r.id, .int .i64 r.pr, .int .i64 r.ac, .int .i64 r.sc, .string r.pat]) = some (.held r, []) := rfl
theorem take_put {l : List Ru} {k : Nat} {r : Ru} (hl : Rise l) (h : l[k]? = some r) : (dm (l.take k)).put (.int .i64 r.id) (.held r) = dm (l.take (k + 1)) := by
  obtain ⟨hk, rfl⟩ := List.getElem?_eq_some_iff.1 h
  rw [dm_put (hl.sublist (List.take_sublist _ _)), ins_end, List.take_succ_eq_append_getElem hk]
  intro x hx
  obtain ⟨i, hi, rfl⟩ := List.getElem_of_mem hx
  rw [List.length_take] at hi
  rw [List.getElem_take]
  exact List.pairwise_iff_getElem.1 hl i k (by omega) hk (by omega)

set_option maxRecDepth 100000 in
set_option maxHeartbeats 2000000 in
theorem byID_any (v : Value) (l : List Ru) (w : World) (hmax : l.length ≤ 1000000) (hok : ∀ r ∈ l, r.ok = true) (hl : Rise l) (hS : RulesV w.heap.size w v l) :
    Calls Tryz.prog 49 #[v] w fun e w' => e = .returned (.map (some w.heap.size)) ∧ w'.ownsMap Tryz.prog 3 ruR w.heap.size l.length (dm l) ∧ Below w.heap.size w w' := by
  obtain ⟨A, cap, rfl⟩ := hS.form
  have hmm := fun (n : Int) (w : World) => run_makeMap_hint 109 3 72 n w Tryz.underlying109
  have HO := Lib.hid hok
  have HL := Lib.hid hl
  go_enter Tryz.func49, Tryz.ntmps49
  go_wp2
  go_loopw [11] (fun i wr => ∃ k : Nat, k ≤ l.length ∧ i = .int .i64 k ∧ wr.ownsMap Tryz.prog 3 ruR w.heap.size k (dm (l.take k)) ∧ Below w.heap.size w wr) (fun i _ => l.length - (intOf i).toNat)
  case atStart => exact ⟨0, Nat.zero_le _, rfl, World.ownsMap_made _ _ _ _, (Below.refl _ _).alloc (Nat.le_refl _) _⟩
  case round =>
    obtain ⟨k, hk, rfl, hown, hbel⟩ := hrel
    have hsz := hbel.size
    by_cases hlt : k < l.length
    · obtain ⟨b, off, rfl, hb, c0, c1, c2, c3, c4⟩ := (hS.below hbel).at_ hlt
      have HG := Lib.hid (List.getElem?_eq_getElem hlt)
      have hro := HO.out _ (List.getElem_mem hlt)
      generalize l[k] = r at HG c0 c1 c2 c3 c4 hro
      have hkey := keyI r.id (wfId hro)
      have HK := Lib.hid hkey
      clear hkey hro
      go_wp2_with (first
        | (at_mapUpdate; refine wpList_mapUpdate_own _ rfl _ _ _ 109 rfl 3 72 (int_keyed Tryz.underlying3) Tryz.underlying109 _ w.heap.size k _ rfl (hown.alloc _) (by unfold maxLen; omega) _ _ _ rfl rfl HK.out _ [] (ruR_agg r) ?_; intro w1 hown1 hgrow1)
        | go_in)
      have hb1 : Below w.heap.size w w1 := (hbel.alloc hsz _).grown hgrow1 (by simp; omega) (fun j hj => by cases hj; exact Nat.le_refl _)
      rw [take_put HL.out HG.out] at hown1
      have HB := Lib.hid hb1
      have HW := Lib.hid hown1
      clear hb1 hown1 hgrow1
      go_roundw
      case rel => exact ⟨k + 1, by omega, by go_num, HW.out, HB.out⟩
      case measure => simp [intOf]; omega
    · obtain rfl : k = l.length := by omega
      rw [List.take_length] at hown
      go_wp2
      go_ret
      exact ⟨rfl, hown, hbel⟩

def uD : DataW Unit := .agg []
theorem lits_append (a b : List Int) : lits (a ++ b) = lits a ++ lits b := by simp [lits]
theorem setOf_put {xs : List Int} {x : Int} : (setOf uD (lits xs)).put (.int .i64 x) uD = setOf uD (lits (xs ++ [x])) := by rw [lits_append]; exact (setOf_snoc uD _ _).symm
theorem ids_take {l : List Ru} {k : Nat} {r : Ru} (h : l[k]? = some r) : (l.map Ru.id).take (k + 1) = (l.map Ru.id).take k ++ [r.id] := by
  obtain ⟨hk, rfl⟩ := List.getElem?_eq_some_iff.1 h
  rw [List.take_succ_eq_append_getElem (by simpa using hk), List.getElem_map]
theorem ints_take {l : List Int} {k : Nat} {z : Int} (h : l[k]? = some z) : l.take (k + 1) = l.take k ++ [z] := by
  obtain ⟨hk, rfl⟩ := List.getElem?_eq_some_iff.1 h
  rw [List.take_succ_eq_append_getElem hk]
theorem twice_ans (l : List Int) (n : Nat) (h : l.length = n) : decide ((Maps.size (setOf uD (lits l)) : Int) < (n : Int)) = !decide l.Nodup := by
  obtain ⟨h1, h2⟩ := size_named uD l
  by_cases hn : l.Nodup
  · rw [decide_eq_true hn]
    have := h2.2 hn
    simp
    omega
  · rw [decide_eq_false hn]
    have : Maps.size (setOf uD (lits l)) ≠ l.length := fun e => hn (h2.1 e)
    simp
    omega
theorem Row.form {n₀ : Nat} {v : Value} {xs : List Value} (h : Row n₀ w v xs) : ∃ A cap, v = .slice A xs.length cap := by
  obtain ⟨A, cap, hv, _⟩ := h
  exact ⟨A, cap, hv⟩
theorem Row.at_ {n₀ n cap k : Nat} {A : Option Addr} {l : List Int} (h : Row n₀ w (.slice A n cap) (zI l)) (hk : k < l.length) :
    ∃ b off, A = some ⟨b, off, none⟩ ∧ b < n₀ ∧ w.cell? ⟨b, off + k, none⟩ = some (.int .i64 l[k]) := by
  obtain ⟨A', cap', hv, _, h⟩ := h
  have : A = A' := by injection hv
  subst this
  obtain ⟨b, off, hA, hb, ht⟩ := h (by intro e; have := congrArg List.length e; simp [zI] at this; rw [this] at hk; simp at hk)
  exact ⟨b, off, hA, hb, ht k _ (zI_get (List.getElem?_eq_getElem hk))⟩
theorem zI_len (l : List Int) : (zI l).length = l.length := by simp [zI]

set_option maxRecDepth 100000 in
set_option maxHeartbeats 4000000 in
theorem twice_any (d : Dl) (pv dv : Value) (w : World) (hm1 : d.put.length ≤ 1000000) (hm2 : d.drop.length ≤ 1000000) (hok : ∀ r ∈ d.put, r.ok = true) (hdr : ∀ z ∈ d.drop, (Lit.int .i64 z).wf = true) (hP : RulesV w.heap.size w pv d.put) (hD : Row w.heap.size w dv (zI d.drop)) :
    Calls Tryz.prog 48 #[.agg #[.int .i64 d.de, .int .i64 d.cl, .int .i64 d.fu, .int .i64 d.st, pv, dv]] w fun e w' => e = .returned (.bool (!decide d.ids.Nodup)) ∧ Below w.heap.size w w' := by
  obtain ⟨de, cl, fu, st, pu, dr⟩ := d
  simp only at hm1 hm2 hok hdr hP hD ⊢
  obtain ⟨A, cap, rfl⟩ := hP.form
  obtain ⟨A2, cap2, rfl⟩ := hD.form
  rw [zI_len] at hD ⊢
  have hmm := @run_makeMap Tryz.prog
  have HO := Lib.hid hok
  have HDr := Lib.hid hdr
  obtain ⟨w0, hw0⟩ : ∃ w0, w0 = (w.alloc (.cells #[.int .i64 de, .int .i64 cl, .int .i64 fu, .int .i64 st, .slice A pu.length cap, .slice A2 dr.length cap2] 37)) := ⟨_, rfl⟩
  have hb0 : Below w.heap.size w w0 := by rw [hw0]; exact (Below.refl _ _).alloc (Nat.le_refl _) _
  have hx : Blk w0 w.heap.size 37 #[.int .i64 de, .int .i64 cl, .int .i64 fu, .int .i64 st, .slice A pu.length cap, .slice A2 dr.length cap2] := by rw [hw0]; exact Blk.new _ _ _
  have hs0 : w0.heap.size = w.heap.size + 1 := by rw [hw0]; simp
  have HW0 := Lib.hid hw0
  have HP0 := Lib.hid (hP.on hb0)
  have HD0 := Lib.hid ((hD.below hb0).more hb0.size)
  have HX := Lib.hid hx
  have HB0 := Lib.hid hb0
  clear hb0 hx hP hD hok hdr hw0
  go_enter Tryz.func48, Tryz.ntmps48
  go_wp2
  go_loopw [12] (fun i wr => ∃ k : Nat, k ≤ pu.length ∧ i = .int .i64 k ∧ wr.ownsMap Tryz.prog 3 unitElem (w.heap.size + 1) k (setOf uD (lits ((pu.map Ru.id).take k))) ∧ Below w0.heap.size w0 wr) (fun i _ => pu.length - (intOf i).toNat)
  case atStart => exact ⟨0, Nat.zero_le _, rfl, by have := World.ownsMap_made w0 Tryz.prog 3 (unitElem (H := Unit)); rw [hs0, HW0.out] at this; simpa [setOf, lits] using this, by rw [HW0.out]; exact (Below.refl _ _).alloc (Nat.le_refl _) _⟩
  case round =>
    obtain ⟨k, hk, rfl, hown, hbel⟩ := hrel
    have hsz := hbel.size
    by_cases hlt : k < pu.length
    · obtain ⟨b, off, rfl, hb, c0, c1, c2, c3, c4⟩ := (HP0.out.below hbel).at_ hlt
      have HG := Lib.hid (List.getElem?_eq_getElem hlt)
      have hro := HO.out _ (List.getElem_mem hlt)
      generalize pu[k] = r at HG c0 c1 c2 c3 c4 hro
      have HK := Lib.hid (keyI r.id (wfId hro))
      clear hro
      go_wp2_with (first
        | (at_mapUpdate; refine wpList_mapUpdate_own _ rfl _ _ _ 130 rfl 3 131 (int_keyed Tryz.underlying3) Tryz.underlying130 _ (w.heap.size + 1) k _ rfl (hown.alloc _) (by unfold maxLen; omega) _ _ _ rfl rfl HK.out uD [] unitElem_mk ?_; intro w1 hown1 hgrow1)
        | go_in)
      have hb1 : Below w0.heap.size w0 w1 := (hbel.alloc hsz _).grown hgrow1 (by simp; omega) (fun j hj => by cases hj; omega)
      rw [setOf_put, ← ids_take HG.out] at hown1
      have HB := Lib.hid hb1
      have HW := Lib.hid hown1
      clear hb1 hown1 hgrow1
      go_roundw
      case rel => exact ⟨k + 1, by omega, by go_num, HW.out, HB.out⟩
      case measure => simp [intOf]; omega
    · obtain rfl : k = pu.length := by omega
      rw [List.take_of_length_le (by simp)] at hown
      have e5 := (HX.out.on hbel).cell 5
      have HW := Lib.hid hown
      have HB := Lib.hid hbel
      clear hown hbel hlt
      go_wp2
      go_loopw [24] (fun i wx => ∃ k : Nat, k ≤ dr.length ∧ i = .int .i64 k ∧ wx.ownsMap Tryz.prog 3 unitElem (w.heap.size + 1) (pu.length + k) (setOf uD (lits (pu.map Ru.id ++ dr.take k))) ∧ Below w0.heap.size w0 wx) (fun i _ => dr.length - (intOf i).toNat)
      case atStart => exact ⟨0, Nat.zero_le _, rfl, by simpa using HW.out, HB.out⟩
      case round =>
        clear e5 hsz
        obtain ⟨k, hk, rfl, hown, hbel⟩ := hrel
        have hsz := hbel.size
        by_cases hlt : k < dr.length
        · obtain ⟨b, off, rfl, hb, c0⟩ := (HD0.out.below hbel).at_ hlt
          have HG := Lib.hid (List.getElem?_eq_getElem hlt)
          have hro := HDr.out _ (List.getElem_mem hlt)
          generalize dr[k] = z at HG c0 hro
          have HK := Lib.hid (keyI z hro)
          clear hro
          go_wp2_with (first
            | (at_mapUpdate; refine wpList_mapUpdate_own _ rfl _ _ _ 130 rfl 3 131 (int_keyed Tryz.underlying3) Tryz.underlying130 _ (w.heap.size + 1) (pu.length + k) _ rfl hown (by unfold maxLen; omega) _ _ _ rfl rfl HK.out uD [] unitElem_mk ?_; intro w1 hown1 hgrow1)
            | go_in)
          have hb1 : Below w0.heap.size w0 w1 := hbel.grown hgrow1 hsz (fun j hj => by cases hj; omega)
          rw [setOf_put, List.append_assoc, ← ints_take HG.out] at hown1
          have HB := Lib.hid hb1
          have HW := Lib.hid hown1
          clear hb1 hown1 hgrow1
          go_roundw
          case rel => exact ⟨k + 1, by omega, by go_num, by rw [← Nat.add_assoc]; exact HW.out, HB.out⟩
          case measure => simp [intOf]; omega
        · obtain rfl : k = dr.length := by omega
          rw [List.take_of_length_le (Nat.le_refl _)] at hown
          have e4 := (HX.out.on hbel).cell 4
          have e5 := (HX.out.on hbel).cell 5
          have ha := twice_ans (pu.map Ru.id ++ dr) (pu.length + dr.length) (by simp)
          have hs : Maps.size (setOf uD (lits (pu.map Ru.id ++ dr))) ≤ pu.length + dr.length := hown.size_le
          have hle := fun ty => hown.len Tryz.underlying130 ty
          go_wp2
          go_ret
          refine ⟨ret_bool ?_, HB0.out.trans (hbel.mono HB0.out.size)⟩
          unfold Dl.ids
          simp only
          rw [← ha]
          simp

end Go.Proofs.YtefgobmpleoafaaGreatDoor

/- Package rule: Apply. -/
namespace Go.Proofs.YtefgobmpleoafaaGreatDoor
open Go.RowKit Go.Maps
variable {w w' : World}

section
variable {s : RS} {d : Dl}
theorem applyM_form (h : ¬ s.Ok) : applyM s d = (.zero, 10) := by unfold applyM; rw [if_pos h]
theorem applyM_rule (h : s.Ok) (h2 : (nums s d).num = false ∨ ∃ r ∈ d.put, r.ok = false) : applyM s d = (.zero, 30) := by unfold applyM; rw [if_neg (by simpa using h), if_pos h2]
theorem applyM_twice (h : s.Ok) (h2 : ¬ ((nums s d).num = false ∨ ∃ r ∈ d.put, r.ok = false)) (h3 : ¬ d.ids.Nodup) : applyM s d = (.zero, 31) := by unfold applyM; rw [if_neg (by simpa using h), if_neg h2, if_pos h3]
theorem applyM_none (h : s.Ok) (h2 : ¬ ((nums s d).num = false ∨ ∃ r ∈ d.put, r.ok = false)) (h3 : d.ids.Nodup) (h4 : ∃ i ∈ d.drop, i ∉ s.rs.map Ru.id) : applyM s d = (.zero, 32) := by
  unfold applyM; rw [if_neg (by simpa using h), if_neg h2, if_neg (by simpa using h3), if_pos h4]
theorem applyM_full (h : s.Ok) (h2 : ¬ ((nums s d).num = false ∨ ∃ r ∈ d.put, r.ok = false)) (h3 : d.ids.Nodup) (h4 : ∀ i ∈ d.drop, i ∈ s.rs.map Ru.id) (h5 : 16 < (after s d).length) : applyM s d = (.zero, 33) := by
  unfold applyM; rw [if_neg (by simpa using h), if_neg h2, if_neg (by simpa using h3), if_neg (fun ⟨i, a, b⟩ => b (h4 i a)), if_pos h5]
theorem applyM_ok (h : s.Ok) (h2 : ¬ ((nums s d).num = false ∨ ∃ r ∈ d.put, r.ok = false)) (h3 : d.ids.Nodup) (h4 : ∀ i ∈ d.drop, i ∈ s.rs.map Ru.id) (h5 : ¬ 16 < (after s d).length) : applyM s d = ({ nums s d with rs := after s d }, 0) := by
  unfold applyM; rw [if_neg (by simpa using h), if_neg h2, if_neg (by simpa using h3), if_neg (fun ⟨i, a, b⟩ => b (h4 i a)), if_neg h5]
theorem nums_Ok : (nums s d).Ok ↔ (nums s d).num = true := by
  unfold RS.Ok
  constructor
  · exact fun h => h.1
  · exact fun h => ⟨h, by simp [nums], by simp [nums], by simp [nums]⟩
end
theorem Far.mono {a b : Nat} {v : Value} (h : Far a v) (hb : b ≤ a) : Far b v := fun k hk => Nat.le_trans hb (h k hk)
theorem Far.nil (a : Nat) : Far a (.slice none 0 0) := fun b h => by simp [Value.ownBlock] at h
theorem RulesV.store {n base g i : Nat} {v u : Value} {l : List Ru} (h : RulesV n w v l) (hf : Far base v) (hg : g < base) : RulesV n (w.setCell ⟨g, i, none⟩ u) v l := by
  obtain ⟨A, cap, rfl, hc, h⟩ := h
  refine ⟨A, cap, rfl, hc, fun hs => ?_⟩
  obtain ⟨b, off, rfl, hb, ht⟩ := h hs
  have hbb := hf b rfl
  have hne : b ≠ g := by omega
  have e : ∀ o, (w.setCell ⟨g, i, none⟩ u).cell? ⟨b, o, none⟩ = w.cell? ⟨b, o, none⟩ := fun o => by
    have := Below.heap_setCell w ⟨g, i, none⟩ u b hne
    unfold World.cell?
    rw [this]
  exact ⟨b, off, rfl, hb, fun j r hr => by
    obtain ⟨h0, h1, h2, h3, h4⟩ := ht j r hr
    exact ⟨(e _).trans h0, (e _).trans h1, (e _).trans h2, (e _).trans h3, (e _).trans h4⟩⟩
theorem Blk.c5 {g : Nat} {t : TypeId} {x0 x1 x2 x3 x4 : Value} (h : Blk w g t #[x0, x1, x2, x3, x4]) : w.cell? ⟨g, 0, none⟩ = some x0 ∧ w.cell? ⟨g, 1, none⟩ = some x1 ∧ w.cell? ⟨g, 2, none⟩ = some x2 ∧ w.cell? ⟨g, 3, none⟩ = some x3 ∧ w.cell? ⟨g, 4, none⟩ = some x4 :=
  ⟨h.cell 0, h.cell 1, h.cell 2, h.cell 3, h.cell 4⟩
theorem Blk.c6 {g : Nat} {t : TypeId} {x0 x1 x2 x3 x4 x5 : Value} (h : Blk w g t #[x0, x1, x2, x3, x4, x5]) : w.cell? ⟨g, 0, none⟩ = some x0 ∧ w.cell? ⟨g, 1, none⟩ = some x1 ∧ w.cell? ⟨g, 2, none⟩ = some x2 ∧ w.cell? ⟨g, 3, none⟩ = some x3 ∧ w.cell? ⟨g, 4, none⟩ = some x4 ∧ w.cell? ⟨g, 5, none⟩ = some x5 :=
  ⟨h.cell 0, h.cell 1, h.cell 2, h.cell 3, h.cell 4, h.cell 5⟩
theorem Blk.f5 {g : Nat} {t : TypeId} {cs : Array Value} (h : Blk w g t cs) : w.frozen? ⟨g, 0, none⟩ = false ∧ w.frozen? ⟨g, 1, none⟩ = false ∧ w.frozen? ⟨g, 2, none⟩ = false ∧ w.frozen? ⟨g, 3, none⟩ = false ∧ w.frozen? ⟨g, 4, none⟩ = false :=
  ⟨h.frozen 0, h.frozen 1, h.frozen 2, h.frozen 3, h.frozen 4⟩

theorem Blk.at_new (w : World) (g : Nat) (hg : g = w.heap.size) (t : TypeId) (cs : Array Value) : Blk (w.alloc (.cells cs t)) g t cs := by
  subst hg
  exact Blk.new _ _ _

theorem ru_take {l : List Ru} {k : Nat} {r : Ru} (h : l[k]? = some r) : l.take (k + 1) = l.take k ++ [r] := by
  obtain ⟨hk, rfl⟩ := List.getElem?_eq_some_iff.1 h
  rw [List.take_succ_eq_append_getElem hk]

theorem zeroRu (w : World) : (zeroValue 72).run Tryz.prog w = .ok (.agg #[.int .i64 0, .int .i64 0, .int .i64 0, .int .i64 0, .string ⟨#[]⟩]) w := by kernel_rfl
/-- 'v, ok := m[k]' of a map of rules, the rule's shape written out -/
theorem wpList_lookup_ru (w : World) {ops : Array Oper} {rest : List Oper} {o : Oper} {a : Act} {Q : Exit → Act → World → Prop} (hg : o.guard = none) (m x : Operand) (hop : o.op = Op.lookup 109 m x true) (b n : Nat) (L : List Ru)
    (hm : a.eval m = .map (some b)) (hown : w.ownsMap Tryz.prog 3 ruR b n (dm L)) (z : Int) (hx : a.eval x = .int .i64 z) (hz : (Lit.int .i64 z).wf = true)
    (hK : ∀ r : Ru, r = look L z → wpList Tryz.prog ops Q rest (a.put o.dst (.tuple #[.agg #[.int .i64 r.id, .int .i64 r.pr, .int .i64 r.ac, .int .i64 r.sc, .string r.pat], .bool (decide (z ∈ L.map Ru.id))])) w) :
    wpList Tryz.prog ops Q (o :: rest) a w :=
  wpList_lookup_own_ok w hg m x 109 hop 3 72 (int_keyed Tryz.underlying3) Tryz.underlying109 ruR (zeroRu w) (.held .none) [] rfl b n (dm L) hm hown _ _ hx (keyI z hz) (fun v ps hv => by
    obtain ⟨r, rfl, he⟩ := ruR_inv hv
    rw [dm_atKey] at he
    obtain ⟨h1, _⟩ := Prod.mk.inj he
    rw [dm_has]
    exact hK r (by injection h1 with h1; exact h1.symm))

end Go.Proofs.YtefgobmpleoafaaGreatDoor

/- Package rule: Apply is the document's. -/
namespace Go.Proofs.YtefgobmpleoafaaGreatDoor
open Go.RowKit Go.Maps
variable {w w' : World}

set_option maxRecDepth 100000 in
set_option maxHeartbeats 16000000 in
theorem apply_any (s : RS) (d : Dl) (v pv dv : Value) (w : World) (hm0 : s.rs.length ≤ 1000) (hm1 : d.put.length ≤ 1000) (hm2 : d.drop.length ≤ 1000) (hdr : ∀ z ∈ d.drop, (Lit.int .i64 z).wf = true)
    (hS : RulesV w.heap.size w v s.rs) (hP : RulesV w.heap.size w pv d.put) (hD : Row w.heap.size w dv (zI d.drop)) :
    Calls Tryz.prog 37 #[.agg #[.int .i64 s.de, .int .i64 s.cl, .int .i64 s.fu, .int .i64 s.st, v], .agg #[.int .i64 d.de, .int .i64 d.cl, .int .i64 d.fu, .int .i64 d.st, pv, dv]] w
      fun e w' => ∃ rv, e = .returned (.tuple #[.agg #[.int .i64 (applyM s d).1.de, .int .i64 (applyM s d).1.cl, .int .i64 (applyM s d).1.fu, .int .i64 (applyM s d).1.st, rv], .int .i64 (applyM s d).2]) ∧
        RulesV w'.heap.size w' rv (applyM s d).1.rs ∧ Far w.heap.size rv ∧ Below w.heap.size w w' := by
  obtain ⟨A, cap, rfl⟩ := hS.form
  obtain ⟨A1, cap1, rfl⟩ := hP.form
  obtain ⟨A2, cap2, rfl⟩ := hD.form
  rw [zI_len] at hD ⊢
  have HDr := Lib.hid hdr
  have HS := Lib.hid hS
  have HP := Lib.hid hP
  have HD := Lib.hid hD
  clear hS hP hD hdr
  go_enter Tryz.func37, Tryz.ntmps37
  go_wp2_with fail
  generalize hw0 : ((w.alloc (.cells #[.int .i64 s.de, .int .i64 s.cl, .int .i64 s.fu, .int .i64 s.st, .slice A s.rs.length cap] 54)).alloc (.cells #[.int .i64 d.de, .int .i64 d.cl, .int .i64 d.fu, .int .i64 d.st, .slice A1 d.put.length cap1, .slice A2 d.drop.length cap2] 37)).alloc (.cells #[.int .i64 0, .int .i64 0, .int .i64 0, .int .i64 0, .slice none 0 0] 54) = w0
  have hb0 : Below w.heap.size w w0 := by rw [← hw0]; exact (((Below.refl _ _).alloc (Nat.le_refl _) _).alloc (by simp) _).alloc (by simp; omega) _
  have HX0 : Hid (Blk w0 w.heap.size 54 #[.int .i64 s.de, .int .i64 s.cl, .int .i64 s.fu, .int .i64 s.st, .slice A s.rs.length cap]) := Lib.hid (by rw [← hw0]; exact ((Blk.new _ _ _).alloc _).alloc _)
  have HY0 : Hid (Blk w0 (w.heap.size + 1) 37 #[.int .i64 d.de, .int .i64 d.cl, .int .i64 d.fu, .int .i64 d.st, .slice A1 d.put.length cap1, .slice A2 d.drop.length cap2]) := Lib.hid (by rw [← hw0]; exact (Blk.at_new _ _ (by simp) _ _).alloc _)
  have HZ0 : Hid (Blk w0 (w.heap.size + 2) 54 #[.int .i64 0, .int .i64 0, .int .i64 0, .int .i64 0, .slice none 0 0]) := Lib.hid (by rw [← hw0]; exact Blk.at_new _ _ (by simp) _ _)
  clear hw0
  refine (setRight_any s _ w0 (by omega) (HS.out.on hb0)).mono ?_
  rintro e w1 ⟨rfl, hb1⟩
  have HB1 := Lib.hid (hb0.trans (hb1.mono hb0.size))
  have HX1 := Lib.hid (HX0.out.on hb1)
  have HY1 := Lib.hid (HY0.out.on hb1)
  have HZ1 := Lib.hid (HZ0.out.on hb1)
  clear hb0 hb1 HX0 HY0 HZ0
  by_cases h1 : s.Ok
  · rw [decide_eq_true h1]
    have H1 := Lib.hid h1
    clear h1
    obtain ⟨x0, x1, x2, x3, x4⟩ := HX1.out.c5
    obtain ⟨y0, y1, y2, y3, y4, y5⟩ := HY1.out.c6
    go_wp2_with fail
    refine (numbered_any s d _ _ _ ⟨_, _, _, rfl⟩ ⟨_, _, _, rfl⟩ ⟨_, _, _, rfl⟩ w1).mono ?_
    rintro e w2 ⟨rfl, hb2⟩
    have HB2 := Lib.hid (HB1.out.trans (hb2.mono HB1.out.size))
    have HX2 := Lib.hid (HX1.out.on hb2)
    have HY2 := Lib.hid (HY1.out.on hb2)
    have HZ2 := Lib.hid (HZ1.out.on hb2)
    clear x0 x1 x2 x3 x4 y0 y1 y2 y3 y4 y5 hb2 HX1 HY1 HZ1
    go_wp2_with fail
    generalize hw3 : w2.alloc (.cells #[.int .i64 (orK d.de s.de), .int .i64 (orK d.cl s.cl), .int .i64 (orK d.fu s.fu), .int .i64 (orK d.st s.st), .slice none 0 0] 54) = w3
    have hb3 : Below w2.heap.size w2 w3 := by rw [← hw3]; exact (Below.refl _ _).alloc (Nat.le_refl _) _
    have HC3 : Hid (Blk w3 w2.heap.size 54 #[.int .i64 (orK d.de s.de), .int .i64 (orK d.cl s.cl), .int .i64 (orK d.fu s.fu), .int .i64 (orK d.st s.st), .slice none 0 0]) := Lib.hid (by rw [← hw3]; exact Blk.new _ _ _)
    have HB3 := Lib.hid (HB2.out.trans (hb3.mono HB2.out.size))
    have HX3 := Lib.hid (HX2.out.on hb3)
    have HY3 := Lib.hid (HY2.out.on hb3)
    have HZ3 := Lib.hid (HZ2.out.on hb3)
    have HL2 := Lib.hid HC3.out.lt
    have HZl := Lib.hid HZ2.out.lt
    clear hw3 hb3 HX2 HY2 HZ2
    refine (setRight_any (nums s d) (.slice none 0 0) w3 (by simp [nums]) (RulesV.nil _ _)).mono ?_
    rintro e w4 ⟨rfl, hb4⟩
    have HB4 := Lib.hid (HB3.out.trans (hb4.mono HB3.out.size))
    have HX4 := Lib.hid (HX3.out.on hb4)
    have HY4 := Lib.hid (HY3.out.on hb4)
    have HZ4 := Lib.hid (HZ3.out.on hb4)
    have HC4 := Lib.hid (HC3.out.on hb4)
    clear hb4 HX3 HY3 HZ3 HC3
    by_cases h2 : (nums s d).Ok
    · rw [decide_eq_true h2]
      have H2 := Lib.hid (nums_Ok.1 h2)
      clear h2
      obtain ⟨y0, y1, y2, y3, y4, y5⟩ := HY4.out.c6
      go_wp2_with fail
      refine (ruall_any _ d.put w4 (by omega) (HP.out.on HB4.out)).mono ?_
      rintro e w5 ⟨rfl, hb5⟩
      have HB5 := Lib.hid (HB4.out.trans (hb5.mono HB4.out.size))
      have HX5 := Lib.hid (HX4.out.on hb5)
      have HY5 := Lib.hid (HY4.out.on hb5)
      have HZ5 := Lib.hid (HZ4.out.on hb5)
      have HC5 := Lib.hid (HC4.out.on hb5)
      clear hb5 HX4 HY4 HZ4 HC4 y0 y1 y2 y3 y4 y5
      by_cases h3 : d.put.all Ru.ok = true
      · rw [h3]
        have H3 : Hid (∀ r ∈ d.put, r.ok = true) := Lib.hid (List.all_eq_true.1 h3)
        have H23 : Hid (¬ ((nums s d).num = false ∨ ∃ r ∈ d.put, r.ok = false)) := Lib.hid (by
          rintro (h | ⟨r, hr, h⟩)
          · rw [H2.out] at h; cases h
          · rw [H3.out r hr] at h; cases h)
        clear h3
        obtain ⟨y0, y1, y2, y3, y4, y5⟩ := HY5.out.c6
        go_wp2_with fail
        refine (twice_any d _ _ w5 (by omega) (by omega) H3.out HDr.out (HP.out.on HB5.out) ((HD.out.below HB5.out).more HB5.out.size)).mono ?_
        rintro e w6 ⟨rfl, hb6⟩
        have HB6 := Lib.hid (HB5.out.trans (hb6.mono HB5.out.size))
        have HX6 := Lib.hid (HX5.out.on hb6)
        have HY6 := Lib.hid (HY5.out.on hb6)
        have HZ6 := Lib.hid (HZ5.out.on hb6)
        have HC6 := Lib.hid (HC5.out.on hb6)
        clear hb6 HX5 HY5 HZ5 HC5 y0 y1 y2 y3 y4 y5
        by_cases h4 : d.ids.Nodup
        · rw [decide_eq_true h4]
          have H4 := Lib.hid h4
          clear h4
          obtain ⟨x0, x1, x2, x3, x4⟩ := HX6.out.c5
          go_wp2_with fail
          refine (byID_any _ s.rs w6 (by omega) H1.out.2.2.1 H1.out.2.2.2 (HS.out.on HB6.out)).mono ?_
          rintro e w7 ⟨rfl, hown, hb7⟩
          have HW7 := Lib.hid hown
          have HB7 := Lib.hid hb7
          have y5 := (HY6.out.on hb7).c6.2.2.2.2.2
          clear x0 x1 x2 x3 x4 hown hb7
          go_wp2
          go_loopw [40] (fun i wr => ∃ k : Nat, k ≤ d.drop.length ∧ i = .int .i64 k ∧ wr.ownsMap Tryz.prog 3 ruR w6.heap.size s.rs.length (dm (drops s.rs (d.drop.take k))) ∧ Hid (∀ i ∈ d.drop.take k, i ∈ s.rs.map Ru.id) ∧ Below w6.heap.size w6 wr) (fun i _ => d.drop.length - (intOf i).toNat)
          case atStart => exact ⟨0, Nat.zero_le _, rfl, by rw [List.take_zero, drops_nil]; exact HW7.out, Lib.hid (by simp), HB7.out⟩
          case round =>
            clear y5
            obtain ⟨k, hk, rfl, hown, HIn, hbel⟩ := hrel
            have hsz := hbel.size
            by_cases hlt : k < d.drop.length
            · obtain ⟨b, off, rfl, hb, c0⟩ := ((HD.out.below (HB6.out.trans (hbel.mono HB6.out.size))).at_ hlt)
              have HG := Lib.hid (List.getElem?_eq_getElem hlt)
              have hz := HDr.out _ (List.getElem_mem hlt)
              have hnin : d.drop[k] ∉ d.drop.take k := fun h => by
                have hn := (List.nodup_append.1 H4.out).2.1
                obtain ⟨j, hj, e⟩ := List.getElem_of_mem h
                rw [List.getElem_take] at e
                rw [List.length_take] at hj
                have := (List.getElem_inj hn).1 e
                omega
              have HNin := Lib.hid hnin
              generalize d.drop[k] = z at HG c0 hz HNin hnin
              clear hnin
              have HLt := Lib.hid hlt
              by_cases hin : z ∈ (drops s.rs (d.drop.take k)).map Ru.id
              · have HK := Lib.hid (keyI z hz)
                have HInz := Lib.hid ((mem_drops_ids HNin.out).1 hin)
                have HZz := Lib.hid hz
                have HHin := Lib.hid hin
                clear hz hin
                go_wp2_with (first
                  | (at_lookup; refine wpList_lookup_ru _ rfl _ _ rfl w6.heap.size s.rs.length _ rfl hown z rfl HZz.out ?_; intro r _; rw [decide_eq_true HHin.out])
                  | (at_delete; refine wpList_delete_own _ rfl _ _ 109 3 rfl 72 (int_keyed Tryz.underlying3) Tryz.underlying109 _ w6.heap.size s.rs.length _ rfl (hown.alloc _) _ _ rfl HK.out ?_; intro w8 hown8 hturn8)
                  | go_in)
                have hb8 : Below w6.heap.size w6 w8 := (hbel.alloc hsz _).grown hturn8.grown (by simp; omega) (fun j hj => by cases hj; exact Nat.le_refl _)
                rw [dm_del, ← drops_snoc, ← ints_take HG.out] at hown8
                have HB8 := Lib.hid hb8
                have HW8 := Lib.hid hown8
                clear hb8 hown8 hturn8
                go_roundw
                case rel => exact ⟨k + 1, HLt.out, by go_num, HW8.out, Lib.hid (by
                  rw [ints_take HG.out]
                  intro i hi
                  rcases List.mem_append.1 hi with h | h
                  · exact HIn.out i h
                  · rw [List.mem_singleton.1 h]; exact HInz.out), HB8.out⟩
                case measure => have := HLt.out; simp [intOf]; omega
              · have HEx : Hid (∃ i ∈ d.drop, i ∉ s.rs.map Ru.id) := Lib.hid ⟨z, List.mem_of_getElem? HG.out, fun h => hin ((mem_drops_ids HNin.out).2 h)⟩
                have HZz := Lib.hid hz
                have HHin := Lib.hid hin
                have HBe := Lib.hid hbel
                obtain ⟨z0, z1, z2, z3, z4⟩ := (HZ6.out.on hbel).c5
                obtain ⟨f0, f1, f2, f3, f4⟩ := (HZ6.out.on hbel).f5
                have hlr := (HZ6.out.on hbel).lt
                clear hz hin
                go_wp2_with (first
                  | (at_lookup; refine wpList_lookup_ru _ rfl _ _ rfl w6.heap.size s.rs.length _ rfl hown z rfl HZz.out ?_; intro r _; rw [decide_eq_false HHin.out])
                  | go_in)
                refine bodyPost_ret (v := .tuple #[.agg #[.int .i64 0, .int .i64 0, .int .i64 0, .int .i64 0, .slice none 0 0], .int .i64 32]) (by simp [results, Tryz.results37, go_sem, *]) rfl ⟨.slice none 0 0, by rw [applyM_none H1.out H23.out H4.out HEx.out]; rfl, by rw [applyM_none H1.out H23.out H4.out HEx.out]; exact RulesV.nil _ _, Far.nil _, ?_⟩
                refine Below.alloc ?_ (by have := (HB6.out.trans (HBe.out.mono HB6.out.size)).size; simp; omega) _
                refine Below.setCell ?_ (show w.heap.size ≤ w.heap.size + 2 by omega) _
                refine Below.setCell ?_ (show w.heap.size ≤ w.heap.size + 2 by omega) _
                refine Below.setCell ?_ (show w.heap.size ≤ w.heap.size + 2 by omega) _
                refine Below.setCell ?_ (show w.heap.size ≤ w.heap.size + 2 by omega) _
                refine Below.setCell ?_ (show w.heap.size ≤ w.heap.size + 2 by omega) _
                exact HB6.out.trans (HBe.out.mono HB6.out.size)
            · obtain rfl : k = d.drop.length := by omega
              rw [List.take_length] at hown HIn
              have HW9 := Lib.hid hown
              have HB9 := Lib.hid hbel
              have y4 := (HY6.out.on hbel).c6.2.2.2.2.1
              clear hown hbel hlt hk
              go_wp2
              go_loopw [59] (fun i wx => ∃ k : Nat, k ≤ d.put.length ∧ i = .int .i64 k ∧ wx.ownsMap Tryz.prog 3 ruR w6.heap.size (s.rs.length + k) (dm (puts (drops s.rs d.drop) (d.put.take k))) ∧ Below w6.heap.size w6 wx) (fun i _ => d.put.length - (intOf i).toNat)
              case atStart => exact ⟨0, Nat.zero_le _, rfl, by rw [List.take_zero, puts_nil]; exact HW9.out, HB9.out⟩
              case round =>
                clear y4 hsz
                obtain ⟨k, hk, rfl, hown, hbel⟩ := hrel
                have hsz := hbel.size
                by_cases hlt : k < d.put.length
                · obtain ⟨b, off, rfl, hb, c0, c1, c2, c3, c4⟩ := ((HP.out.on HB6.out).below hbel).at_ hlt
                  have HG := Lib.hid (List.getElem?_eq_getElem hlt)
                  have hro := H3.out _ (List.getElem_mem hlt)
                  generalize d.put[k] = r at HG c0 c1 c2 c3 c4 hro
                  have HK := Lib.hid (keyI r.id (wfId hro))
                  have HLt := Lib.hid hlt
                  clear hro
                  go_wp2_with (first
                    | (at_mapUpdate; refine wpList_mapUpdate_own _ rfl _ _ _ 109 rfl 3 72 (int_keyed Tryz.underlying3) Tryz.underlying109 _ w6.heap.size (s.rs.length + k) _ rfl (hown.alloc _) (by unfold maxLen; omega) _ _ _ rfl rfl HK.out _ [] (ruR_agg r) ?_; intro w8 hown8 hgrow8)
                    | go_in)
                  have hb8 : Below w6.heap.size w6 w8 := (hbel.alloc hsz _).grown hgrow8 (by simp; omega) (fun j hj => by cases hj; exact Nat.le_refl _)
                  rw [dm_put ((H1.out.2.2.2.drops _).puts _), ← puts_snoc, ← ru_take HG.out] at hown8
                  have HB8 := Lib.hid hb8
                  have HW8 := Lib.hid hown8
                  clear hb8 hown8 hgrow8
                  go_roundw
                  case rel => exact ⟨k + 1, HLt.out, by go_num, by rw [← Nat.add_assoc]; exact HW8.out, HB8.out⟩
                  case measure => have := HLt.out; simp [intOf]; omega
                · obtain rfl : k = d.put.length := by omega
                  rw [List.take_length] at hown
                  have hle : ∀ ty, (Builtin.len_ #[109] ty #[.map (some w6.heap.size)]).run Tryz.prog wr = .ok (.int .i64 ((after s d).length : Nat)) wr := fun ty => by
                    have := hown.len Tryz.underlying109 ty
                    rw [dm_size] at this
                    exact this
                  have HW10 := Lib.hid hown
                  have HBe := Lib.hid hbel
                  clear hown hbel hlt hk
                  have HI : Hid (∀ i ∈ d.drop, i ∈ s.rs.map Ru.id) := HIn
                  by_cases h5 : 16 < (after s d).length
                  · have h5i : (16 : Int) < ((after s d).length : Int) := by omega
                    obtain ⟨z0, z1, z2, z3, z4⟩ := (HZ6.out.on HBe.out).c5
                    obtain ⟨f0, f1, f2, f3, f4⟩ := (HZ6.out.on HBe.out).f5
                    have hlr := (HZ6.out.on HBe.out).lt
                    have EA := Lib.hid (applyM_full H1.out H23.out H4.out HI.out h5)
                    clear h5
                    go_wp2
                    refine bodyPost_ret (v := .tuple #[.agg #[.int .i64 0, .int .i64 0, .int .i64 0, .int .i64 0, .slice none 0 0], .int .i64 33]) (by simp [results, Tryz.results37, go_sem, *]) rfl ⟨.slice none 0 0, by rw [EA.out]; rfl, by rw [EA.out]; exact RulesV.nil _ _, Far.nil _, ?_⟩
                    exact (((((HB6.out.trans (HBe.out.mono HB6.out.size)).setCell (p := ⟨w.heap.size + 2, 0, none⟩) (show w.heap.size ≤ w.heap.size + 2 by omega) _).setCell (p := ⟨w.heap.size + 2, 1, none⟩) (show w.heap.size ≤ w.heap.size + 2 by omega) _).setCell (p := ⟨w.heap.size + 2, 2, none⟩) (show w.heap.size ≤ w.heap.size + 2 by omega) _).setCell (p := ⟨w.heap.size + 2, 3, none⟩) (show w.heap.size ≤ w.heap.size + 2 by omega) _).setCell (p := ⟨w.heap.size + 2, 4, none⟩) (show w.heap.size ≤ w.heap.size + 2 by omega) _
                  · have h5i : ¬ (16 : Int) < ((after s d).length : Int) := by omega
                    have EA := Lib.hid (applyM_ok H1.out H23.out H4.out HI.out h5)
                    have hln : (after s d).length ≤ 16 := by omega
                    have HIO := Lib.hid (inOrder_any w6.heap.size _ (after s d) ((H1.out.2.2.2.drops _).puts _) (by omega) wr HW10.out)
                    clear h5 hln
                    go_wp2_with fail
                    refine HIO.out.mono ?_
                    rintro e w10 ⟨rv, rfl, hrv, hfar, hb10⟩
                    obtain ⟨RA, rcap, rfl⟩ := hrv.form
                    have hz10 := (HZ6.out.on HBe.out).on hb10
                    have hc10 := (HC6.out.on HBe.out).on hb10
                    obtain ⟨z0, z1, z2, z3, z4⟩ := hz10.c5
                    obtain ⟨f0, f1, f2, f3, f4⟩ := hz10.f5
                    obtain ⟨c0, c1, c2, c3, c4⟩ := hc10.c5
                    obtain ⟨g0, g1, g2, g3, g4⟩ := hc10.f5
                    have hlr := hz10.lt
                    have hlc := hc10.lt
                    have hzl := HZl.out
                    have hne : ¬ w.heap.size + 2 = w2.heap.size := by omega
                    have hne' : ¬ w2.heap.size = w.heap.size + 2 := by omega
                    have HRv := Lib.hid hrv
                    have HFar := Lib.hid hfar
                    have HB10 := Lib.hid (((HB6.out.trans (HBe.out.mono HB6.out.size))).trans (hb10.mono (Nat.le_trans HB6.out.size HBe.out.size)))
                    have HSz := Lib.hid (show w2.heap.size < wr.heap.size from Nat.lt_of_lt_of_le HC6.out.lt HBe.out.size)
                    clear hrv hfar hb10 hz10 hc10 hle
                    go_wp2
                    refine bodyPost_ret (v := .tuple #[.agg #[.int .i64 (orK d.de s.de), .int .i64 (orK d.cl s.cl), .int .i64 (orK d.fu s.fu), .int .i64 (orK d.st s.st), .slice RA (after s d).length rcap], .int .i64 0]) (by simp [results, Tryz.results37, go_sem, *]) rfl ⟨.slice RA (after s d).length rcap, by rw [EA.out]; rfl, ?_, HFar.out.mono (Nat.le_trans HB6.out.size HBe.out.size), ?_⟩
                    · rw [EA.out]
                      refine RulesV.more (n₀ := w10.heap.size) ?_ (by simp)
                      have hsz' := HSz.out
                      refine RulesV.store (base := wr.heap.size) ?_ HFar.out (by omega)
                      refine RulesV.store (base := wr.heap.size) ?_ HFar.out (by omega)
                      refine RulesV.store (base := wr.heap.size) ?_ HFar.out (by omega)
                      refine RulesV.store (base := wr.heap.size) ?_ HFar.out (by omega)
                      refine RulesV.store (base := wr.heap.size) ?_ HFar.out (by omega)
                      refine RulesV.store (base := wr.heap.size) ?_ HFar.out (by omega)
                      exact HRv.out
                    · refine Below.setCell ?_ (show w.heap.size ≤ w.heap.size + 2 by omega) _
                      refine Below.setCell ?_ (show w.heap.size ≤ w.heap.size + 2 by omega) _
                      refine Below.setCell ?_ (show w.heap.size ≤ w.heap.size + 2 by omega) _
                      refine Below.setCell ?_ (show w.heap.size ≤ w.heap.size + 2 by omega) _
                      refine Below.setCell ?_ (show w.heap.size ≤ w.heap.size + 2 by omega) _
                      refine Below.setCell ?_ (show w.heap.size ≤ w2.heap.size by omega) _
                      exact HB10.out
        · rw [decide_eq_false h4]
          obtain ⟨z0, z1, z2, z3, z4⟩ := HZ6.out.c5
          obtain ⟨f0, f1, f2, f3, f4⟩ := HZ6.out.f5
          have hlr := HZ6.out.lt
          go_wp2
          refine bodyPost_ret (v := .tuple #[.agg #[.int .i64 0, .int .i64 0, .int .i64 0, .int .i64 0, .slice none 0 0], .int .i64 31]) (by simp [results, Tryz.results37, go_sem, *]) rfl ⟨.slice none 0 0, by rw [applyM_twice H1.out H23.out h4]; rfl, by rw [applyM_twice H1.out H23.out h4]; exact RulesV.nil _ _, Far.nil _, ?_⟩
          exact ((((HB6.out.setCell (show w.heap.size ≤ w.heap.size + 2 by omega) _).setCell (show w.heap.size ≤ w.heap.size + 2 by omega) _).setCell (show w.heap.size ≤ w.heap.size + 2 by omega) _).setCell (show w.heap.size ≤ w.heap.size + 2 by omega) _).setCell (show w.heap.size ≤ w.heap.size + 2 by omega) _
      · rw [Bool.eq_false_iff.2 h3]
        have h3' : ∃ r ∈ d.put, r.ok = false := by
          have := Bool.eq_false_iff.2 h3
          rw [List.all_eq_false] at this
          obtain ⟨r, hr, h⟩ := this
          exact ⟨r, hr, by simpa using h⟩
        obtain ⟨z0, z1, z2, z3, z4⟩ := HZ5.out.c5
        obtain ⟨f0, f1, f2, f3, f4⟩ := HZ5.out.f5
        have hlr := HZ5.out.lt
        go_wp2
        refine bodyPost_ret (v := .tuple #[.agg #[.int .i64 0, .int .i64 0, .int .i64 0, .int .i64 0, .slice none 0 0], .int .i64 30]) (by simp [results, Tryz.results37, go_sem, *]) rfl ⟨.slice none 0 0, by rw [applyM_rule H1.out (.inr h3')]; rfl, by rw [applyM_rule H1.out (.inr h3')]; exact RulesV.nil _ _, Far.nil _, ?_⟩
        exact ((((HB5.out.setCell (show w.heap.size ≤ w.heap.size + 2 by omega) _).setCell (show w.heap.size ≤ w.heap.size + 2 by omega) _).setCell (show w.heap.size ≤ w.heap.size + 2 by omega) _).setCell (show w.heap.size ≤ w.heap.size + 2 by omega) _).setCell (show w.heap.size ≤ w.heap.size + 2 by omega) _
    · rw [decide_eq_false h2]
      have h2' : (nums s d).num = false := by
        cases h : (nums s d).num with
        | false => rfl
        | true => exact absurd (nums_Ok.2 h) h2
      obtain ⟨z0, z1, z2, z3, z4⟩ := HZ4.out.c5
      obtain ⟨f0, f1, f2, f3, f4⟩ := HZ4.out.f5
      have hlr := HZ4.out.lt
      go_wp2
      refine bodyPost_ret (v := .tuple #[.agg #[.int .i64 0, .int .i64 0, .int .i64 0, .int .i64 0, .slice none 0 0], .int .i64 30]) (by simp [results, Tryz.results37, go_sem, *]) rfl ⟨.slice none 0 0, by rw [applyM_rule H1.out (.inl h2')]; rfl, by rw [applyM_rule H1.out (.inl h2')]; exact RulesV.nil _ _, Far.nil _, ?_⟩
      exact ((((HB4.out.setCell (show w.heap.size ≤ w.heap.size + 2 by omega) _).setCell (show w.heap.size ≤ w.heap.size + 2 by omega) _).setCell (show w.heap.size ≤ w.heap.size + 2 by omega) _).setCell (show w.heap.size ≤ w.heap.size + 2 by omega) _).setCell (show w.heap.size ≤ w.heap.size + 2 by omega) _
  · rw [decide_eq_false h1]
    obtain ⟨z0, z1, z2, z3, z4⟩ := HZ1.out.c5
    obtain ⟨f0, f1, f2, f3, f4⟩ := HZ1.out.f5
    have hlr := HZ1.out.lt
    go_wp2
    refine bodyPost_ret (v := .tuple #[.agg #[.int .i64 0, .int .i64 0, .int .i64 0, .int .i64 0, .slice none 0 0], .int .i64 10]) (by simp [results, Tryz.results37, go_sem, *]) rfl ⟨.slice none 0 0, by rw [applyM_form h1]; rfl, by rw [applyM_form h1]; exact RulesV.nil _ _, Far.nil _, ?_⟩
    exact ((((HB1.out.setCell (show w.heap.size ≤ w.heap.size + 2 by omega) _).setCell (show w.heap.size ≤ w.heap.size + 2 by omega) _).setCell (show w.heap.size ≤ w.heap.size + 2 by omega) _).setCell (show w.heap.size ≤ w.heap.size + 2 by omega) _).setCell (show w.heap.size ≤ w.heap.size + 2 by omega) _

end Go.Proofs.YtefgobmpleoafaaGreatDoor

