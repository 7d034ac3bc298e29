import Derived.RangeFuncBox
import Derived.RangeFuncLeaves
import Derived.Shelf.Abstract
import Derived.WalkKit
import Derived.OwnWalkIn
import Derived.TacticsInMore
import Derived.LoopNIn
import Derived.LoopIn
import Derived.Maps.AppendAt
import Derived.Maps.OwnIn
import Derived.Sort.MapsRangeIn
import Derived.Outline
import Derived.Test.YtpginkdkblmnbaaGreatDoorXMRa
import Derived.RangeFuncFrom
import Derived.RangeFuncKeeps
import Derived.Shelf.SlGeneric
import Derived.Shelf.SlSortCmp.WholeK
import Derived.Ground.SlsfProg
import Derived.Test.YtpginkdkblmnbaaGreatDoorXMClasses
import Derived.Shelf.SlSortCmp.NoneTotal
import Derived.Maps.OwnSet
import Derived.Maps.OwnOps
namespace Go.Proofs.YtpginkdkblmnbaaGreatDoor
section
open Go.RowKit Go.Shelf Go.Maps
attribute [local go_sem] Oper.semAt_some
theorem Ïc {L : List Ru} {k : Int} {x : Ru} (h : ∀ zd, (dm L).atKey (.int .i64 k) zd = .held x) : x ∈ L ∧ x.id = k := by
 have h1 := h .nil;unfold dm DataW.atKey at h1;simp only [List.find?_map] at h1
 cases hf : L.find? ((fun p : Lit × DataW Ru => p.1.sameKey (.int .i64 k)) ∘ fun r : Ru => ((.int .i64 r.id : Lit), (.held r : DataW Ru))) with
 | none => rw [hf] at h1; simp at h1
 | some y =>
  rw [hf] at h1;simp at h1;subst h1
  exact ⟨List.mem_of_find?_eq_some hf, by have := List.find?_some hf; simpa [Lit.sameKey] using this⟩
def Æy (L : List Ru) (left : Lit → Bool) (ss : List Ru) : Prop := ss.Nodup ∧ ∀ y, y ∈ ss ↔ y ∈ L ∧ left (.int .i64 y.id) = false
theorem Æy.start (L : List Ru) : Æy L (Maps.has (dm L)) [] := ⟨List.nodup_nil, fun y => by
 simp only [List.not_mem_nil, false_iff, not_and, Bool.not_eq_false];intro h;rw [ËZ, decide_eq_true_eq]
 exact List.mem_map_of_mem h⟩
theorem Æy.step {L : List Ru} {left : Lit → Bool} {ss : List Ru} {x : Ru} {k : Int} (hL : ť L) (h : Æy L left ss) (hl : left (.int .i64 k) = true) (hx : x ∈ L) (e : x.id = k) : Æy L (fun z => left z && !z.sameKey (.int .i64 k)) (ss ++ [x]) := by
 subst e
 refine ⟨?_, fun y => ?_⟩
 ·rw [List.nodup_append]
  refine ⟨h.1, by simp, fun a ha b hb e => ?_⟩
  rw [List.mem_singleton.1 hb] at e;subst e;have := ((h.2 a).1 ha).2;rw [hl] at this;cases this
 ·rw [Ė, Ĉ, h.2 y]
  simp only [Lit.sameKey, Bool.and_eq_false_iff, Bool.not_eq_eq_eq_not, Bool.not_false, decide_eq_true_eq, true_and];constructor
  ·rintro (⟨h1, h2⟩ | rfl)
   ·exact ⟨h1, .inl h2⟩
   ·exact ⟨hx, .inr rfl⟩
  ·rintro ⟨h1, h2 | h2⟩
   ·exact .inl ⟨h1, h2⟩
   ·exact .inr (ËW hL h1 hx h2)
theorem Æy.perm {L : List Ru} {left : Lit → Bool} {ss : List Ru} (hL : ť L) (h : Æy L left ss) (hl : ∀ z, left z = false) : ss.Perm L := by
 refine (List.perm_ext_iff_of_nodup h.1 (hL.imp fun hlt e => by rw [e] at hlt; omega)).2 fun y => ?_
 rw [h.2 y, hl];simp
set_option maxRecDepth 100000 in
set_option maxHeartbeats 2000000 in
theorem ÈJ (n : Nat) (hn : 1 ≤ n) (l Bm b nn : Nat) (L : List Ru) (hL : ť L) (J Jx : List Ru → World → Prop)
 (hY : ∀ pre x W, J pre W → pre.length < L.length → YieldAt Fence.wide (n - 1) Tryz.prog l #[x.val] W fun e W' =>
   (e = .returned (.bool true) ∧ J (pre ++ [x]) W' ∧ KeepsWalks W W') ∨ (e = .returned (.bool false) ∧ Jx (pre ++ [x]) W'))
 (W : World) (hJ : AbidesFrom W.heap.size J) (hm : W.cell? ⟨Bm, 0, none⟩ = some (.map (some b))) (hown : W.ownsMap Tryz.prog 3 ruR b nn (dm L)) (h0 : J [] W) :
 CallsIn Fence.wide n Tryz.prog 119 #[.func (.yield l) #[] #[], .pointer (some ⟨Bm, 0, none⟩)] W fun e W' => (∃ v, e = .returned v) ∧
  ((∃ ss, ss.Perm L ∧ J ss W') ∨ (∃ pre : List Ru, True ∧ Jx pre W')) := by
 refine callsIn_of_wp Tryz.func119 rfl trivial ?_ rfl;simp only [Tryz.ntmps119, List.size_toArray, ć, Ď, Nat.reduceAdd, Nat.reduceSub, Array.replicate_succ, Array.replicate_zero, List.push_toArray, List.append_toArray, List.nil_append, List.cons_append]
 gi_wp2_with (first
  | (gi_at_range; refine wpListIn_range_own _ rfl _ 132 rfl 3 71 (int_keyed Tryz.underlying3) Tryz.underlying132 _ b nn _ rfl hown ?_; intro w0 hrg0 hg0 hs0)
  | gi_in)
 go_frame
 gi_loopw [4] (fun _ wr => ∃ (left : Lit → Bool) (cnt : Nat) (ss : List Ru), wr.ranges Tryz.prog 3 ruR b W.heap.size nn (dm L) left cnt ∧ ss.length + cnt ≤ L.length ∧ Æy L left ss ∧ J ss wr)
  (fun _ wr => wr.rangeLeft b W.heap.size)
 case atStart =>
  exact ⟨_, _, [], hrg0, by simp [Êf], Æy.start L, hJ [] W w0 none h0 hg0 (fun r e => by cases e)⟩
 case round =>
  obtain ⟨left, cnt, ss, hrg, hcs, hC, hJs⟩ := hrel
  gi_wp2_with (first
   | (gi_at_next; refine wpListIn_next_ranges _ rfl _ rfl 3 (int_keyed Tryz.underlying3) ruR (Value.int .i64) Ru.val (fun key kl hk => by obtain ⟨x, hx, _⟩ := Maps.keyOf_int_inv Tryz.underlying3 hk; exact ⟨x, hx⟩) (fun v y hv => by obtain ⟨r, hr, _⟩ := Êe hv; exact ⟨r, hr⟩) b W.heap.size nn _ _ _ rfl hrg ?_ ?_)
   | gi_in)
  ·intro hc0 hl0
   gi_wp2
   go_end0;exact ⟨⟨_, rfl⟩, .inl ⟨ss, hC.perm hL hl0, hJs⟩⟩
  ·intro k x kl yd yp w2 cnt2 hkey hlk hv hat hrg2 hlt hg2 hs2 hen
   obtain ⟨k', ex, rfl, _⟩ := Maps.keyOf_int_inv Tryz.underlying3 hkey
   obtain rfl : k = k' := by simpa using ex
   rw [Íu] at hv;obtain ⟨rfl, rfl⟩ := Prod.mk.inj (Option.some.inj hv);obtain ⟨hxL, hxk⟩ := Ïc hat;have hC2 := hC.step hL hlk hxL hxk
   have hJ2 : J ss w2 := hJ ss wr w2 (some W.heap.size) hJs hg2 (fun r e => by cases e; exact ⟨ŋ _, hrg.iter_walk⟩)
   have hJ3 : J ss (w2.alloc (.cells #[.int .i64 x.id, .int .i64 x.pr, .int .i64 x.ac, .int .i64 x.sc, .string x.pat] 71)) := hJ ss w2 _ none hJ2 (World.grownBy_alloc w2 _ none) (fun r e => by cases e)
   have hrg3 := hrg2.alloc (.cells #[.int .i64 x.id, .int .i64 x.pr, .int .i64 x.ac, .int .i64 x.sc, .string x.pat] 71)
   obtain ⟨fn, tmps, assign, body, hy, hR⟩ := hY ss x _ hJ3 (by omega)
   have HC := ħ hC2;unfold Ru.val at hy hen;clear hs2 hC hC2 hat hkey hv hJ2 hJ3 hJs hxk hxL
   gi_wp2
   refine hR.mono ?_
   rintro e W3 (⟨rfl, hJ4, hk3⟩ | ⟨rfl, hJx3⟩)
   ·gi_wp2
    have hrg4 := hrg3.of_walks hk3;go_roundw
    case rel => exact ⟨_, cnt2, ss ++ [x], hrg4, by simp; omega, HC.o, hJ4⟩
    case measure => rw [hrg4.left_eq, hrg.left_eq]; exact hlt
   ·gi_wp2
    refine bodyPost_ret (results_none rfl _ _ _) rfl ?_;exact ⟨⟨_, rfl⟩, .inr ⟨ss ++ [x], trivial, hJx3⟩⟩
theorem ÊF (n : Nat) (mb : Option Nat) (w : World) :
 CallsIn Fence.wide n Tryz.prog 100 #[.map mb] w fun e w' => e = .returned (.func (.func 119) #[] #[.pointer (some ⟨w.heap.size, 0, none⟩)]) ∧ w' = w.alloc (.cells #[.map mb] 132) := by
 refine callsIn_of_wp Tryz.func100 rfl trivial ?_ rfl;simp only [Tryz.ntmps100, List.size_toArray, ć, Ď, Nat.reduceAdd, Nat.reduceSub, Array.replicate_succ, Array.replicate_zero, List.push_toArray, List.append_toArray, List.nil_append, List.cons_append]
 gi_wp2
 go_ret;exact ⟨rfl, rfl⟩
theorem Æz (n : Nat) (hn : 1 ≤ n) (Bm b nn : Nat) (L : List Ru) (hL : ť L) (w : World) (hBm : Bm < w.heap.size) (hm : w.cell? ⟨Bm, 0, none⟩ = some (.map (some b))) (hown : w.ownsMap Tryz.prog 3 ruR b nn (dm L)) :
 SeqStopsK Fence.wide n Tryz.prog 119 #[.pointer (some ⟨Bm, 0, none⟩)] (fun x : Ru => #[x.val]) KeepsWalks (fun ss => ss.Perm L) (fun _ => True) L.length w := fun l J Jx W hW hJ _ hY h0 => by
 have hown' : W.ownsMap Tryz.prog 3 ruR b nn (dm L) := by
  have hbl := hown.lt;obtain ⟨es, clock, hb, Ft, hs, hD⟩ := hown;exact ⟨es, clock, (hW.block b hbl).trans hb, Ft, hs, hD⟩
 exact ÈJ n hn l Bm b nn L hL J Jx hY W hJ ((hW.cell (p := ⟨Bm, 0, none⟩) hBm).trans hm) hown' h0
end
section
open Go.RowKit
section
variable {F : Fence} {n : Nat} {P : Program}
theorem Äh {α : Type} {g : Operand} {ps : Array Tmp} {assign body : Code} {Q : Exit → Act → World → Prop} {a : Act} {w : World} (hro : F.round = none) (h1 : 1 ≤ n) {gf : Nat} {lb : Array Value}
 (hg : a.eval g = .func (.func gf) #[] lb) (hFg : F.fn gf) (eg : ∀ args w, (callFunc gf args).run P w = .ok (.enter gf args) w) {enc : α → Value} {S : List α → Prop} {N : Nat} {w0 : World}
 (hseq : SeqStopsK F (n - 1) P gf lb (fun x => #[enc x]) KeepsWalks S (fun _ => True) N w0) (hb0 : Below w0.heap.size w0 w) (hps : ps.size = 1) (I : List α → World → Prop) (hI : OwnFrom w.heap.size I) (h0 : I [] w) (o : α → Obj) (a₁ : α → Nat → Act)
 (hassign : ∀ (l : Nat) (x : α) (W : World) (K : Act → World → Prop), K (a₁ x W.heap.size) (W.alloc (o x)) →
   assign.wpIn (F.inRound l) (n - 1 - 1) P (Exit.then K (fun _ _ _ => False)) { tmps := (ps.zip #[enc x]).foldl (fun t (p, v) => t.setIfInBounds p v) a.tmps, defers := [] } W)
 (hbody : ∀ (l : Nat) (pre : List α) (x : α) (W : World) (B : Nat), I pre W → pre.length < N → W.heap[B]? = some (o x) → w.heap.size ≤ B →
   body.wpIn (F.inRound l) (n - 1 - 1) P (fun e _ W' => e = .normal ∧ KeepsOthers W W' ∧ I (pre ++ [x]) W') (a₁ x B) W)
 (hdone : ∀ (D : Nat) (xs : List α) (W : World), w.heap.size ≤ D → S xs → I xs W → W.heap[D]? = some (.deferred (some [])) → Q .normal { a with defers := { target := .collected D, args := #[] } :: a.defers } W) :
 (Code.rangeFunc g ps assign body).wpIn F n P Q a w := by
 refine wpIn_rangeFunc fun fn hfn => ?_
 rw [hro];generalize hD : w.heap.size = D at *
 let R : LoopState → Loop := fun st => { state := st, pending := none, fn, tmps := a.tmps, params := ps, assign, body, defers := D }
 let V := (w.alloc (.deferred (some []))).alloc (.loop (R .ready))
 have gV : w.grownBy V none := (World.grownBy_alloc w _ none).trans (World.grownBy_alloc _ _ none)
 have vD : V.heap[D]? = some (.deferred (some [])) := by
  rw [← hD]
  exact (Below.heap_alloc _ _ _ (by simp)).trans (World.alloc_heap_new w _)
 have vR : V.heap[D + 1]? = some (.loop (R .ready)) := by
  have := World.alloc_heap_new (w.alloc (.deferred (some []))) (.loop (R .ready))
  rwa [World.size_alloc, hD] at this
 have vI : I [] V := hI [] w V none h0 gV (fun _ e => by cases e)
 have vs : D + 2 ≤ V.heap.size := by simp [V, hD]
 refine ⟨D + 1, [{ target := .collected D, args := #[] }], V, { target := .fn (.func gf) lb, args := #[.func (.yield (D + 1)) #[] #[]] }, V, gf, #[.func (.yield (D + 1)) #[] #[]] ++ lb, V, ?_, ?_, ?_, ?_, fun _ => h1, ?_⟩
 ·subst hD
  exact run_enterLoop_outer _ _ _ _ _
 ·simp only [resolve, hg]
  simp [go_sem]
 ·intro f' hf'
  simp [Target.leads] at hf';subst hf';exact hFg
 ·simp [invoke, go_sem, eg]
 ·have low : ∀ {A : World} {row : Option Nat}, (∀ r, row = some r → V.heap.size ≤ r ∧ ∃ o : Obj, A.heap[r]? = some o ∧ o.isWalk = true) → ∀ r, row = some r → D ≤ r ∧ ∃ o : Obj, A.heap[r]? = some o ∧ o.isCells = false := fun hr r e => by
   obtain ⟨hb, o, ho, hw⟩ := hr r e
   exact ⟨by omega, o, ho, Obj.not_cells_of_walk hw⟩
  refine (hseq (D + 1) (fun pre W => I pre W ∧ W.heap[D + 1]? = some (.loop (R .ready)) ∧ W.heap[D]? = some (.deferred (some []))) (fun _ _ => False) V (hb0.trans ((⟨gV.os, gV.tape, gV.output, gV.size, fun i hi => gV.block i (by have := hb0.size; omega) (by simp)⟩ : Below w0.heap.size w V)))
   (fun s A B row hs hg' hr => ⟨hI s A B row hs.1 hg' (low hr), (grownBy_keeps hg' (fun r e => (hr r e).2) hs.2.1 rfl).trans hs.2.1, (grownBy_keeps hg' (fun r e => (hr r e).2) hs.2.2 rfl).trans hs.2.2⟩)
   (fun _ _ _ _ hs _ _ => hs) ?_ ⟨vI, vR, vD⟩).mono ?_
  ·rintro pre x W ⟨hi, hl, hk⟩ hlen
   have hlt := (Array.getElem?_eq_some_iff.1 hl).1
   refine ⟨fn, _, assign, body, run_yield (P := P) (args := #[enc x]) hl (by simp [R, hps]), roundIn_of_wpIn hfn (hassign _ x W _ ⟨_, run_beginRound ((Below.heap_alloc _ _ _ hlt).trans hl) rfl, ?_⟩)⟩
   have la : (W.alloc (o x)).heap[D + 1]? = some (.loop (R .ready)) := (Below.heap_alloc _ _ _ hlt).trans hl
   have ka : (W.alloc (o x)).heap[D]? = some (.deferred (some [])) := (Below.heap_alloc _ _ _ (by omega)).trans hk
   have ia : I pre (W.alloc (o x)) := hI.alloc _ hi
   generalize hX : (W.alloc (o x)).putObj (D + 1) (.loop { R .ready with state := .busy }) = X
   have xl : X.heap[D + 1]? = some (.loop { R .ready with state := .busy }) := by rw [← hX]; exact World.putObj_heap_same (by simp; omega)
   have xk : X.heap[D]? = some (.deferred (some [])) := by rw [← hX]; exact (World.putObj_heap_other (by omega)).trans ka
   have xi : I pre X := by rw [← hX]; exact hI.putObj _ ia (by omega) la rfl
   have xw : KeepsWalks W X := by
    rw [← hX];exact (KeepsWalks.alloc W (o x)).trans (KeepsWalks.putObj _ la rfl)
   have xb : X.heap[W.heap.size]? = some (o x) := by
    rw [← hX]
    exact (World.putObj_heap_other (by omega)).trans (World.alloc_heap_new W (o x))
   refine wpIn_mono (hbody _ pre x X W.heap.size xi hlen xb (by omega)) ?_
   rintro e a3 Y ⟨rfl, hY, iY⟩;have yl := hY.same _ _ xl rfl;have yk := hY.same _ _ xk rfl;have run := run_endRound (P := P) none yl
   refine ⟨_, _, run, .inl ⟨rfl, ⟨hI.putObj _ iY (by omega) yl rfl, World.putObj_heap_same (Array.getElem?_eq_some_iff.1 yl).1, (World.putObj_heap_other (by omega)).trans yk⟩, (xw.trans hY.walks).trans (KeepsWalks.putObj _ yl rfl)⟩⟩
  ·rintro e Y ⟨⟨v, rfl⟩, (⟨xs, hS, hi, hl, hk⟩ | ⟨_, _, h⟩)⟩
   ·exact ⟨none, _, run_endLoop (P := P) hl (by simp [R]), hdone _ xs _ (ŋ _) hS (hI.putObj _ hi (by omega) hl rfl) ((World.putObj_heap_other (by omega)).trans hk)⟩
   ·exact h.elim
end
end
section
open Go.RowKit Go.Shelf
attribute [local go_sem] Oper.semAt_some
theorem ÎB : (Tryz.prog.info? 71).map (fun i => (i.zero, i.size, i.bytes)) = some (some (.agg #[.int .i64 0, .int .i64 0, .int .i64 0, .int .i64 0, .string ⟨#[]⟩]), 5, 48) := by kernel_rfl
theorem ÈK (w : World) (a b c d f : Value) (t : TypeId) : ∀ j u, [a, b, c, d, f][j]? = some u → (w.alloc (.cells #[a, b, c, d, f] t)).cell? ((⟨w.heap.size, 0, none⟩ : Addr).add j) = some u := by
 intro j u hj
 match j, hj with
 | 0, hj => simp at hj; subst hj; simp [Addr.add]
 | 1, hj => simp at hj; subst hj; simp [Addr.add]
 | 2, hj => simp at hj; subst hj; simp [Addr.add]
 | 3, hj => simp at hj; subst hj; simp [Addr.add]
 | 4, hj => simp at hj; subst hj; simp [Addr.add]
 | j + 5, hj => simp at hj
set_option maxRecDepth 100000 in
set_option maxHeartbeats 2000000 in
theorem ÆA (n : Nat) (hn : 3 ≤ n) (Bm b nn : Nat) (L : List Ru) (hL : ť L) (hmax : L.length ≤ 1000000) (w : World) (hBm : Bm < w.heap.size) (hm : w.cell? ⟨Bm, 0, none⟩ = some (.map (some b))) (hown : w.ownsMap Tryz.prog 3 ruR b nn (dm L)) :
 CallsIn Fence.wide n Tryz.prog 139 #[.slice none 0 0, .func (.func 119) #[] #[.pointer (some ⟨Bm, 0, none⟩)]] w fun e W' => ∃ v ss, e = .returned v ∧ ss.Perm L ∧ Ú W' w.heap.size 71 v ss ∧ Below w.heap.size w W' := by
 obtain ⟨i0, hi, hz0, hz1, hz2⟩ := Ã ÎB;refine callsIn_of_wp_marks Tryz.func139 rfl trivial ?_ rfl;simp only [Tryz.ntmps139, List.size_toArray, ć, Ď, Nat.reduceAdd, Nat.reduceSub, Array.replicate_succ, Array.replicate_zero, List.push_toArray, List.append_toArray, List.nil_append, List.cons_append]
 gi_wp2_with fail
 have bO := Boxed.new w 57 (.slice none 0 0);have hB0 : Below w.heap.size w (w.alloc (.cells #[.slice none 0 0] 57)) := (ā _ w).alloc (ŋ _) _
 refine Äh rfl (by omega) (gf := 119) (lb := #[.pointer (some ⟨Bm, 0, none⟩)]) rfl trivial (enters_of Tryz.func119 (by kernel_rfl) rfl) (enc := fun x : Ru => .agg #[.int .i64 x.id, .int .i64 x.pr, .int .i64 x.ac, .int .i64 x.sc, .string x.pat])
  (Æz _ (by omega) Bm b nn L hL w hBm hm hown) hB0 rfl
  (fun pre W => (∃ v, Boxed W w.heap.size 57 v ∧ W.ownsRow w.heap.size 71 5 v pre.length (Ķ pre) ∧ True) ∧ Below w.heap.size w W)
  (OwnFrom.and (Own.from (holdsRow_own w.heap.size w.heap.size 57 71 5 (fun pre : List Ru => pre.length) Ķ (fun _ _ => True)) _) (ownFrom_below (ŋ _) (by simp)))
  ⟨⟨_, bO, World.ownsRow_nil _ _ _ _, trivial⟩, hB0⟩
  (fun x => .cells #[.int .i64 x.id, .int .i64 x.pr, .int .i64 x.ac, .int .i64 x.sc, .string x.pat] 71)
  (fun x B => { tmps := #[.slice none 0 0, .func (.func 119) #[] #[.pointer (some ⟨Bm, 0, none⟩)], .pointer (some ⟨w.heap.size, 0, none⟩), undef, .slice none 0 0, .pointer (some ⟨B, 0, none⟩), .func (.func 119) #[] #[.pointer (some ⟨Bm, 0, none⟩)], .agg #[.int .i64 x.id, .int .i64 x.pr, .int .i64 x.ac, .int .i64 x.sc, .string x.pat], undef, undef, undef, undef, undef], defers := [] }) ?assign ?body ?done
 case assign =>
  intro l x W K hK
  gi_wp2
  exact hK
 case body =>
  rintro l pre x W B ⟨⟨v, hv, hrow, _⟩, hB⟩ hlt hbx _;have hc := hv.cell;have hX : Blk W B 71 #[.int .i64 x.id, .int .i64 x.pr, .int .i64 x.ac, .int .i64 x.sc, .string x.pat] := hbx;have d0 := hX.cell 0;have d1 := hX.cell 1;have d2 := hX.cell 2;have d3 := hX.cell 3;have d4 := hX.cell 4;clear hbx
  gi_wp2_with (gi_at_builtin; refine wpListIn_append_own _ rfl _ _ 57 rfl w.heap.size 71 i0 (.agg #[.int .i64 0, .int .i64 0, .int .i64 0, .int .i64 0, .string ⟨#[]⟩]) 5 48 Tryz.underlying57 hi hz0 hz1 hz2 rfl (by decide) _ _ _ rfl (hrow.alloc _) ⟨W.heap.size, 0, none⟩ 1 1 [.int .i64 x.id, .int .i64 x.pr, .int .i64 x.ac, .int .i64 x.sc, .string x.pat] rfl rfl (ÈK _ _ _ _ _ _ _) (by intro u hu; simp at hu; rcases hu with rfl | rfl | rfl | rfl | rfl <;> rfl) (by unfold maxLen; omega) (by omega) (by have := hB.size; simp; omega) ?_; intro v' w1 hown' hgrow _; obtain ⟨g', cap', rfl⟩ := ownsRow_succ hown'; obtain ⟨hv1, hv2, hr2, hk2, hb2⟩ := hv.appended (by decide) hrow hB.size (ŋ _) hown' hgrow; have hc1 := hv1.cell; have hf1 := hv1.frozen)
  exact ⟨⟨_, hv2, by rw [ÀK]; simpa [Ķ, Ru.cells] using hr2⟩, hB.trans hb2⟩
 case done =>
  rintro D ys W hD hp ⟨⟨v, hv, hrow, _⟩, hB⟩ hK;have hc := hv.cell
  gi_wp2
  refine ⟨by simp, .inl ⟨_, _, rfl, run_takeDeferred hK, ?_⟩⟩
  exact ⟨_, results_tmp rfl _ _ _, v, ys, rfl, hp, ownsRow_putObj hrow _ hK rfl, hB.trans (belowK_b (w := w) (ŋ _) W D _ _ (by simp at hD; omega) hK rfl rfl)⟩
end
end Go.Proofs.YtpginkdkblmnbaaGreatDoor
namespace Go.Proofs
open Go.Shelf
def Tryz.sortRu_ren : Go.Shelf.Ren := ⟨fun | 6 => 118 | 15 => 141 | 14 => 140 | 28 => 162 | 29 => 163 | 20 => 154 | 21 => 155 | 22 => 156 | 23 => 157 | 24 => 158 | 25 => 159 | 26 => 160 | 27 => 161 | 46 => 181 | 47 => 182 | 48 => 183 | 49 => 184 | 50 => 185 | 57 => 197 | n => n, fun | 22 => 57 | 24 => 71 | 25 => 156 | 3 => 3 | 39 => 180 | 0 => 0 | 53 => 195 | 55 => 197 | 4 => 4 | 46 => 188 | 45 => 187 | 50 => 192 | 5 => 5 | 9 => 9 | 66 => 207 | 70 => 211 | 76 => 220 | 77 => 41 | n => n, fun | n => n⟩
theorem Tryz.sortRu : Go.Proofs.SlLaysF0.n6 Tryz.prog Tryz.sortRu_ren := {
 mixed := by kernel_rfl
 f6 := ⟨Tryz.f118.name, by decide, Tryz.func118.trans (congrArg some (by kernel_rfl))⟩
 f14 := ⟨Tryz.f140.name, by decide, Tryz.func140.trans (congrArg some (by kernel_rfl))⟩
 f15 := Tryz.func141.trans (congrArg some (by kernel_rfl))
 f20 := ⟨Tryz.f154.name, by decide, Tryz.func154.trans (congrArg some (by kernel_rfl))⟩
 f21 := ⟨Tryz.f155.name, by decide, Tryz.func155.trans (congrArg some (by kernel_rfl))⟩
 f22 := ⟨Tryz.f156.name, by decide, Tryz.func156.trans (congrArg some (by kernel_rfl))⟩
 f23 := ⟨Tryz.f157.name, by decide, Tryz.func157.trans (congrArg some (by kernel_rfl))⟩
 f24 := ⟨Tryz.f158.name, by decide, Tryz.func158.trans (congrArg some (by kernel_rfl))⟩
 f25 := ⟨Tryz.f159.name, by decide, Tryz.func159.trans (congrArg some (by kernel_rfl))⟩
 f26 := ⟨Tryz.f160.name, by decide, Tryz.func160.trans (congrArg some (by kernel_rfl))⟩
 f27 := ⟨Tryz.f161.name, by decide, Tryz.func161.trans (congrArg some (by kernel_rfl))⟩
 f28 := Tryz.func162.trans (congrArg some (by kernel_rfl))
 f29 := Tryz.func163.trans (congrArg some (by kernel_rfl))
 f46 := ⟨Tryz.f181.name, by decide, Tryz.func181.trans (congrArg some (by kernel_rfl))⟩
 f47 := Tryz.func182.trans (congrArg some (by kernel_rfl))
 f48 := Tryz.func183.trans (congrArg some (by kernel_rfl))
 f49 := ⟨Tryz.f184.name, by decide, Tryz.func184.trans (congrArg some (by kernel_rfl))⟩
 f50 := ⟨Tryz.f185.name, by decide, Tryz.func185.trans (congrArg some (by kernel_rfl))⟩
 f57 := ⟨Tryz.f197.name, by decide, Tryz.func197.trans (congrArg some (by kernel_rfl))⟩
 t0 := Tryz.underlying0
 a0 := Tryz.isAgg0
 z0 := Tryz.sizeOf0
 v0 := Tryz.zeroValue0
 t3 := Tryz.underlying3
 a3 := Tryz.isAgg3
 z3 := Tryz.sizeOf3
 v3 := Tryz.zeroValue3
 t4 := Tryz.underlying4
 a4 := Tryz.isAgg4
 z4 := Tryz.sizeOf4
 v4 := Tryz.zeroValue4
 t5 := Tryz.underlying5
 a5 := Tryz.isAgg5
 z5 := Tryz.sizeOf5
 v5 := Tryz.zeroValue5
 t9 := Tryz.underlying9
 a9 := Tryz.isAgg9
 z9 := Tryz.sizeOf9
 v9 := Tryz.zeroValue9
 t22 := Tryz.underlying57
 a22 := Tryz.isAgg57
 z22 := Tryz.sizeOf57
 v22 := Tryz.zeroValue57
 t25 := Tryz.underlying156
 a25 := Tryz.isAgg156
 z25 := Tryz.sizeOf156
 v25 := Tryz.zeroValue156
 t39 := Tryz.underlying180
 a39 := Tryz.isAgg180
 z39 := Tryz.sizeOf180
 v39 := Tryz.zeroValue180
 t45 := Tryz.underlying187
 a45 := Tryz.isAgg187
 z45 := Tryz.sizeOf187
 v45 := Tryz.zeroValue187
 t46 := Tryz.underlying188
 a46 := Tryz.isAgg188
 z46 := Tryz.sizeOf188
 v46 := Tryz.zeroValue188
 t50 := Tryz.underlying192
 a50 := Tryz.isAgg192
 z50 := Tryz.sizeOf192
 v50 := Tryz.zeroValue192
 t53 := Tryz.underlying195
 a53 := Tryz.isAgg195
 z53 := Tryz.sizeOf195
 v53 := Tryz.zeroValue195
 t55 := Tryz.underlying197
 a55 := Tryz.isAgg197
 z55 := Tryz.sizeOf197
 v55 := Tryz.zeroValue197
 t66 := Tryz.underlying207
 a66 := Tryz.isAgg207
 z66 := Tryz.sizeOf207
 v66 := Tryz.zeroValue207
 t70 := Tryz.underlying211
 a70 := Tryz.isAgg211
 z70 := Tryz.sizeOf211
 v70 := Tryz.zeroValue211
 t76 := Tryz.underlying220
 a76 := Tryz.isAgg220
 z76 := Tryz.sizeOf220
 v76 := Tryz.zeroValue220
 t77 := Tryz.underlying41
 a77 := Tryz.isAgg41
 z77 := Tryz.sizeOf41
 v77 := Tryz.zeroValue41 }
end Go.Proofs
namespace Go.Proofs.YtpginkdkblmnbaaGreatDoor
section
open Go.RowKit Go.Shelf Go.Lib
def ÈL (x y : Ru) : Int := Lib.compareInt x.id y.id
instance : Inhabited Ru := ⟨Ru.none⟩
theorem Ív (x y : Ru) : ltOf ÈL x y = decide (x.id < y.id) := by
 unfold ltOf ÈL Lib.compareInt
 by_cases h1 : x.id < y.id
 ·simp [h1]
 ·by_cases h2 : y.id < x.id <;> simp [h1, h2]
theorem Ïd : Sort.SWO (ltOf ÈL) where
 irrefl x := by rw [Ív]; simp
 trans x y z h1 h2 := by rw [Ív] at *; simp at *; omega
 ntrans x y z h1 h2 := by rw [Ív] at *; simp at *; omega
set_option maxHeartbeats 1000000 in
theorem ÊG (x y : Ru) (W : World) : Calls Tryz.prog 101 #[.agg x.cells.toArray, .agg y.cells.toArray] W fun e w' => e = .returned (.int .i64 (ÈL x y)) ∧ ∃ q os', w' = Sort.grow (W.drewN q) os' := by
 have hcon := fun W' => AnyG.cmp_Compare_int Tryz.cmpInt x.id y.id W'
 change ∀ W', Calls Tryz.prog 102 _ _ _ at hcon
 unfold ÈL;generalize Lib.compareInt x.id y.id = r at hcon ⊢;simp only [Ru.cells, List.toArray];go_enter Tryz.func101, Tryz.ntmps101
 go_wp2_with (go_at_call 102; refine (hcon _).mono ?_; rintro e w' ⟨rfl, rfl⟩)
 go_ret
 exact ⟨rfl, 0, _, by rw [Sort.alloc_eq_grow, Sort.alloc_eq_grow, Sort.grow_grow]; rfl⟩
theorem ÈM (blk off size : Nat) (w : World) : CmpLays Tryz.prog 101 #[] Ru.cells 5 ÈL blk off size w :=
 fun _ _ _ _ x y => ÊG x y _
theorem ÁQ (d : Array Ru) (j : Nat) (h : j < d.size * 5) : some (Sort.flatK Ru.cells 5 d)[j]! = d[j / 5]!.cells[j % 5]? := by
 rw [Sort.get_flatK _ _ _ _ h]
 have : j % 5 < (d[j / 5]!).cells.length := by simp [Ru.cells]; omega
 rw [Ā this, getElem!_pos (d[j / 5]!).cells (j % 5) this]
theorem Áa (d : Array Ru) (i : Nat) (r : Ru) (h : d.toList[i]? = some r) : i < d.size ∧ d[i]! = r := by
 obtain ⟨hi, rfl⟩ := List.getElem?_eq_some_iff.1 h
 have hi' : i < d.size := by simpa using hi
 exact ⟨hi', by rw [getElem!_pos d i hi']; simp⟩
theorem Àq (w : World) (base g n : Nat) (d : Array Ru) (os : Array Obj) (hg : base ≤ g) (hb : base ≤ w.heap.size) : Below base w (sortWorldK Ru.cells 5 w g 0 n d os) := by
 refine ⟨rfl, rfl, rfl, size_sortWorldK_c Ru.cells 5 w g 0 n d os, fun k hk => ?_⟩
 unfold sortWorldK
 rw [Sort.heap_grow_old _ _ (by rw [Sort.size_putRowK]; show k < w.heap.size; omega)]
 unfold Sort.putRowK Sort.putRow Sort.mapBlock;simp only [Sort.heap_ahead]
 rw [Array.getElem?_modify, if_neg (by omega)]
theorem ÊH (v : Value) (l : List Ru) (base : Nat) (w : World) (hb : base ≤ w.heap.size) (hmax : l.length ≤ 1000000) (h : Ú w base 71 v l) :
 Calls Tryz.prog 118 #[v, .func (.func 101) #[] #[]] w fun e w' => e = .returned (.tuple #[]) ∧ ∃ l', l'.Perm l ∧ l'.Pairwise (fun a b => a.id ≤ b.id) ∧ Á w'.heap.size w' v l' ∧ Below base w w' := by
 by_cases hl : l = []
 ·subst hl
  obtain ⟨p, cap, rfl⟩ : ∃ p cap, v = .slice p 0 cap := by
   obtain ⟨A, cap, hv, _⟩ := h.set;exact ⟨A, cap, hv⟩
  have hs := h.set
  have hcon := AnyF.slices_SortFunc_none { Tryz.sortRu with } p cap (.func (.func 101) #[] #[]) w
  change Calls Tryz.prog 118 _ _ _ at hcon
  refine hcon.mono ?_;rintro e w' ⟨rfl, rfl⟩;exact ⟨rfl, [], List.Perm.refl _, List.Pairwise.nil, hs, ā _ _⟩
 ·have hlen : 0 < l.length := List.length_pos_iff.2 hl
  obtain ⟨g, cap, rfl, hg1, hg2⟩ := World.ownsRow.form h hlen
  have hH : Sort.HoldsK Ru.cells 5 w g 0 l.toArray := by
   intro j hj;rw [Sort.size_flatK] at hj
   have hj' : j < l.length * 5 := by simpa using hj
   refine ⟨?_, World.ownsRow.frozenAt h (0 + j)⟩
   rw [World.ownsRow.cellAt h (0 + j) (by omega), id_eq, ÁQ _ _ hj, ĉ]
   have hlt : j / 5 < l.length := by omega
   have hg := ÁP l (j / 5) (j % 5) l[j / 5] (Ā hlt) (by omega)
   have he : l.toArray[j / 5]! = l[j / 5] := by rw [getElem!_pos l.toArray (j / 5) (by simpa using hlt)]; simp
   rw [he, ← hg]
   congr 1
   omega
  have eg : ∀ args w, (callFunc 101 args).run Tryz.prog w = .ok (.enter 101 args) w := enters_of Tryz.func101 (by kernel_rfl) rfl
  have hcon := AnyQ.slices_SortFunc Tryz.sortRu 5 Tryz.isAgg71 Tryz.sizeOf71 Ru.cells (fun _ => rfl) (fun x v hv => ÈI x v hv) ÈL Ïd 101 #[] g 0 cap l.toArray w eg (ÈM g 0 l.toArray.size w) hH hg2 (by simp; omega)
  change Calls Tryz.prog 118 #[.slice (some ⟨g, 0, none⟩) l.length cap, _] _ _ at hcon
  refine hcon.mono ?_;rintro e w' ⟨rfl, d', n, os, hp, hs, rfl⟩;obtain ⟨hp1, _, hp3⟩ := hp
  have hsz : d'.size = l.length := by simpa using hp1
  have hperm : d'.toList.Perm l := by
   have h3 := hp3;simp only [Array.toList_extract, List.extract_eq_take_drop, List.drop_zero, Nat.sub_zero] at h3
   rw [List.take_of_length_le (by rw [Array.length_toList, hp1]; exact ŋ _), List.take_of_length_le (by simp)] at h3
   exact h3
  refine ⟨rfl, d'.toList, hperm, ?_, ?_, Àq w base g n d' os hg1 hb⟩
  ·rw [List.pairwise_iff_getElem]
   intro i j hi hj hij
   have hj' : j < d'.size := by simpa using hj
   have hi' : i < d'.size := by simpa using hi
   have := hs i j (Ą _) hij (by rw [← hp1]; exact hj')
   rw [Ív, getElem!_pos d' i hi', getElem!_pos d' j hj'] at this;simp only [decide_eq_false_iff_not, Array.getElem_toList] at this ⊢;omega
  ·have hHo := holdsK_sortWorldK_c Ru.cells 5 w g 0 l.toArray d' n os hH hg2 hp1
   have hlt := size_sortWorldK_c Ru.cells 5 w g 0 n d' os
   have hlen' : d'.toList.length = l.length := by simpa using hsz
   have hcapn : l.length ≤ cap := by
    obtain ⟨A, c, hv, hc, _⟩ := h.set
    have : cap = c := by injection hv
    omega
   refine ⟨some ⟨g, 0, none⟩, cap, by rw [hlen'], by rw [hlen']; exact hcapn, fun _ => ⟨g, 0, rfl, by omega, fun i r hr => ?_⟩⟩
   obtain ⟨hi, hr⟩ := Áa d' i r hr
   have c : ∀ k u, k < 5 → r.cells[k]? = some u → (sortWorldK Ru.cells 5 w g 0 n d' os).cell? ⟨g, 0 + (i * 5 + k), none⟩ = some u := fun k u hk hu => by
    rw [(hHo (i * 5 + k) (by rw [Sort.size_flatK]; omega)).1, id_eq, ÁQ _ _ (by omega), show (i * 5 + k) / 5 = i by omega, show (i * 5 + k) % 5 = k by omega, hr, hu]
   exact ⟨c 0 _ (by omega) rfl, c 1 _ (by omega) rfl, c 2 _ (by omega) rfl, c 3 _ (by omega) rfl, c 4 _ (by omega) rfl⟩
end
section
open Go.RowKit Go.Shelf
def Far (base : Nat) (v : Value) : Prop := ∀ b, v.ownBlock = some b → base ≤ b
theorem Ú.far {w : World} {base : Nat} {e : TypeId} {v : Value} {l : List Ru} (h : Ú w base e v l) : Far base v := fun b hb => (World.ownsRow.lt h b hb).1
theorem ÈN {l l' : List Ru} (hp : l'.Perm l) (hs : l'.Pairwise fun a b => a.id ≤ b.id) (hl : ť l) : l' = l := by
 have hn : (l'.map Ru.id).Nodup := (hp.map Ru.id).nodup_iff.2 (List.pairwise_map.2 (hl.imp fun h => by omega))
 have hne : l'.Pairwise fun a b => a.id ≠ b.id := List.pairwise_map.1 hn
 exact Çt (hs.imp₂ (fun a b h1 h2 => by omega) hne) hl fun x => hp.mem_iff
set_option maxRecDepth 100000 in
set_option maxHeartbeats 2000000 in
theorem Çu (Bm b nn : Nat) (L : List Ru) (hL : ť L) (hmax : L.length ≤ 1000000) (w : World) (hBm : Bm < w.heap.size) (hm : w.cell? ⟨Bm, 0, none⟩ = some (.map (some b))) (hown : w.ownsMap Tryz.prog 3 ruR b nn (dm L)) :
 Calls Tryz.prog 117 #[.func (.func 119) #[] #[.pointer (some ⟨Bm, 0, none⟩)]] w fun e W' => ∃ v ss, e = .returned v ∧ ss.Perm L ∧ Ú W' w.heap.size 71 v ss ∧ Below w.heap.size w W' := by
 have C := ħ ((callsIn_wide (n := 5)).1 (ÆA 5 (by omega) Bm b nn L hL hmax w hBm hm hown))
 go_enter Tryz.func117, Tryz.ntmps117
 go_wp2_with fail
 refine C.o.mono ?_;rintro e W' ⟨v, ss, rfl, h1, h2, h3⟩;have H := ħ (And.intro h1 (And.intro h2 h3));clear h1 h2 h3;go_wp2;go_ret;exact ⟨v, ss, rfl, H.o⟩
set_option maxRecDepth 100000 in
set_option maxHeartbeats 2000000 in
theorem ÄB (Bm b nn : Nat) (L : List Ru) (hL : ť L) (hmax : L.length ≤ 1000000) (w : World) (hBm : Bm < w.heap.size) (hm : w.cell? ⟨Bm, 0, none⟩ = some (.map (some b))) (hown : w.ownsMap Tryz.prog 3 ruR b nn (dm L)) :
 Calls Tryz.prog 99 #[.func (.func 119) #[] #[.pointer (some ⟨Bm, 0, none⟩)], .func (.func 101) #[] #[]] w fun e W' => ∃ v, e = .returned v ∧ Á W'.heap.size W' v L ∧ Far w.heap.size v ∧ Below w.heap.size w W' := by
 have C := ħ (Çu Bm b nn L hL hmax w hBm hm hown);go_enter Tryz.func99, Tryz.ntmps99
 go_wp2_with fail
 refine C.o.mono ?_;rintro e w1 ⟨v, ss, rfl, h1, h2, h3⟩
 have S := ħ (ÊH v ss w.heap.size w1 h3.size (by have := h1.length_eq; omega) h2)
 have H := ħ (And.intro h1 (And.intro h2.far h3));clear h1 h2 h3
 go_wp2_with fail
 refine S.o.mono ?_;rintro e w2 ⟨rfl, l', p1, p2, p3, p4⟩;have H2 := ħ (And.intro p1 (And.intro p2 (And.intro p3 p4)));clear p1 p2 p3 p4;go_wp2;go_ret;obtain ⟨p1, p2, p3, p4⟩ := H2.o;obtain ⟨h1, h2, h3⟩ := H.o;obtain rfl := ÈN (p1.trans h1) p2 hL;exact ⟨v, rfl, p3, h2, h3.trans p4⟩
set_option maxRecDepth 100000 in
set_option maxHeartbeats 2000000 in
theorem Çv (b nn : Nat) (L : List Ru) (hL : ť L) (hmax : L.length ≤ 1000000) (w : World) (hown : w.ownsMap Tryz.prog 3 ruR b nn (dm L)) :
 Calls Tryz.prog 81 #[.map (some b)] w fun e W' => ∃ v, e = .returned v ∧ Á W'.heap.size W' v L ∧ Far w.heap.size v ∧ Below w.heap.size w W' := by
 have V := ħ ((callsIn_wide (n := 5)).1 (ÊF 5 (some b) w));have hb0 := (ā w.heap.size w).alloc (ŋ _) (.cells #[.map (some b)] 132)
 have S := ħ (ÄB w.heap.size b nn L hL hmax (w.alloc (.cells #[.map (some b)] 132)) (by simp) (by simp) (hown.alloc _))
 have HB := ħ hb0;clear hb0;go_enter Tryz.func81, Tryz.ntmps81
 go_wp2_with fail
 refine V.o.mono ?_;rintro e w1 ⟨rfl, rfl⟩
 go_wp2_with fail
 refine S.o.mono ?_;rintro e w2 ⟨v, rfl, h1, h2, h3⟩;have H := ħ (And.intro h1 (And.intro h2 h3));clear h1 h2 h3;go_wp2;go_ret;obtain ⟨h1, h2, h3⟩ := H.o
 exact ⟨v, rfl, h1, fun b hb => by have := h2 b hb; simp at this; omega, HB.o.trans (h3.mono (by simp))⟩
end
section
open Go.RowKit Go.Maps
variable {w w' : World}
theorem Ão (t k e : TypeId) (n : Int) (w : World) (ht : Tryz.prog.underlying t = some (.map k e)) : (Instr.makeMap t (some (.int .i64 n))).run Tryz.prog w = .ok (.map (some w.heap.size)) (w.alloc (.map #[] 0)) := by
 simp [Instr.makeMap, run_underlying ht, asInt, asIntOf]
theorem wfI {z : Int} (h : -9223372036854775808 ≤ z ∧ z ≤ 9223372036854775807) : (Lit.int .i64 z).wf = true := by
 simp [Lit.wf, IntKind.min, IntKind.max, IntKind.signed, IntKind.bits];omega
theorem ÎC {r : Ru} (h : r.ok = true) : (Lit.int .i64 r.id).wf = true := by
 simp only [Ru.ok, decide_eq_true_eq] at h
 exact wfI (by omega)
theorem ÊI (z : Int) (h : (Lit.int .i64 z).wf = true) : keyOf Tryz.prog 3 (.int .i64 z) = some (.int .i64 z) := keyOf_int_mk Tryz.underlying3 h
theorem Êh (r : Ru) : ruR (.agg #[.int .i64 r.id, .int .i64 r.pr, .int .i64 r.ac, .int .i64 r.sc, .string r.pat]) = some (.held r, []) := rfl
theorem Ìd {l : List Ru} {k : Nat} {r : Ru} (hl : ť l) (h : l[k]? = some r) : (dm (l.take k)).put (.int .i64 r.id) (.held r) = dm (l.take (k + 1)) := by
 obtain ⟨hk, rfl⟩ := List.getElem?_eq_some_iff.1 h;rw [ËY (hl.sublist (List.take_sublist _ _)), Äk, ĕ hk];intro x hx;obtain ⟨i, hi, rfl⟩ := List.getElem_of_mem hx;rw [List.length_take] at hi;rw [List.getElem_take]
 exact List.pairwise_iff_getElem.1 hl i k (by omega) hk (by omega)
set_option maxRecDepth 100000 in
set_option maxHeartbeats 2000000 in
theorem Ìe (v : Value) (l : List Ru) (w : World) (hmax : l.length ≤ 1000000) (hok : ∀ r ∈ l, r.ok = true) (hl : ť l) (hS : Á w.heap.size w v l) :
 Calls Tryz.prog 80 #[v] w fun e w' => e = .returned (.map (some w.heap.size)) ∧ w'.ownsMap Tryz.prog 3 ruR w.heap.size l.length (dm l) ∧ Below w.heap.size w w' := by
 obtain ⟨A, cap, rfl⟩ := hS.form
 have hmm := fun (n : Int) (w : World) => Ão 132 3 71 n w Tryz.underlying132
 have HO := ħ hok;have HL := ħ hl;go_enter Tryz.func80, Tryz.ntmps80;go_wp2
 go_loopw [11] (fun i wr => ∃ k : Nat, k ≤ l.length ∧ i = .int .i64 k ∧ wr.ownsMap Tryz.prog 3 ruR w.heap.size k (dm (l.take k)) ∧ Below w.heap.size w wr) (fun i _ => l.length - (intOf i).toNat)
 case atStart => exact ⟨0, Ą _, rfl, World.ownsMap_made _ _ _ _, (ā _ _).alloc (ŋ _) _⟩
 case round =>
  obtain ⟨k, hk, rfl, hown, hbel⟩ := hrel;have hsz := hbel.size
  by_cases hlt : k < l.length
  ·obtain ⟨b, off, rfl, hb, c0, c1, c2, c3, c4⟩ := (hS.below hbel).at_ hlt
   have HG := ħ (Ā hlt);have hro := HO.o _ (Ē hlt);generalize l[k] = r at HG c0 c1 c2 c3 c4 hro;have hkey := ÊI r.id (ÎC hro);have HK := ħ hkey;clear hkey hro
   go_wp2_with (first
    | (at_mapUpdate; refine wpList_mapUpdate_own _ rfl _ _ _ 132 rfl 3 71 (int_keyed Tryz.underlying3) Tryz.underlying132 _ w.heap.size k _ rfl (hown.alloc _) (by unfold maxLen; omega) _ _ _ rfl rfl HK.o _ [] (Êh r) ?_; intro w1 hown1 hgrow1)
    | go_in)
   have hb1 : Below w.heap.size w w1 := (hbel.alloc hsz _).grown hgrow1 (by simp; omega) (fun j hj => by cases hj; exact ŋ _)
   rw [Ìd HL.o HG.o] at hown1;have HB := ħ hb1;have HW := ħ hown1;clear hb1 hown1 hgrow1;go_roundw
   case rel => exact ⟨k + 1, by omega, by go_num, HW.o, HB.o⟩
   case measure => simp [intOf]; omega
  ·obtain rfl : k = l.length := by omega
   rw [Ă] at hown;go_wp2;go_ret;exact ⟨rfl, hown, hbel⟩
def uD : DataW Unit := .agg []
theorem Çw (a b : List Int) : ÀZ (a ++ b) = ÀZ a ++ ÀZ b := by simp [ÀZ]
theorem ÅL {xs : List Int} {x : Int} : (setOf uD (ÀZ xs)).put (.int .i64 x) uD = setOf uD (ÀZ (xs ++ [x])) := by rw [Çw]; exact (setOf_snoc uD _ _).symm
theorem Ìf {l : List Ru} {k : Nat} {r : Ru} (h : l[k]? = some r) : (l.map Ru.id).take (k + 1) = (l.map Ru.id).take k ++ [r.id] := by
 obtain ⟨hk, rfl⟩ := List.getElem?_eq_some_iff.1 h
 rw [ĕ (by simpa using hk), List.getElem_map]
theorem Ãp {l : List Int} {k : Nat} {z : Int} (h : l[k]? = some z) : l.take (k + 1) = l.take k ++ [z] := by
 obtain ⟨hk, rfl⟩ := List.getElem?_eq_some_iff.1 h;rw [ĕ hk]
theorem ÊJ (l : List Int) (n : Nat) (h : l.length = n) : decide ((Maps.size (setOf uD (ÀZ l)) : Int) < (n : Int)) = !decide l.Nodup := by
 obtain ⟨h1, h2⟩ := ÈH uD l
 by_cases hn : l.Nodup
 ·rw [decide_eq_true hn]
  have := h2.2 hn;simp;omega
 ·rw [decide_eq_false hn]
  have : Maps.size (setOf uD (ÀZ l)) ≠ l.length := fun e => hn (h2.1 e)
  simp;omega
theorem Row.form {n₀ : Nat} {v : Value} {xs : List Value} (h : Row n₀ w v xs) : ∃ A cap, v = .slice A xs.length cap := by
 obtain ⟨A, cap, hv, _⟩ := h;exact ⟨A, cap, hv⟩
theorem Row.at_ {n₀ n cap k : Nat} {A : Option Addr} {l : List Int} (h : Row n₀ w (.slice A n cap) (zI l)) (hk : k < l.length) :
 ∃ b off, A = some ⟨b, off, none⟩ ∧ b < n₀ ∧ w.cell? ⟨b, off + k, none⟩ = some (.int .i64 l[k]) := by
 obtain ⟨A', cap', hv, _, h⟩ := h
 have : A = A' := by injection hv
 subst this
 obtain ⟨b, off, hA, hb, ht⟩ := h (by intro e; have := congrArg List.length e; simp [zI] at this; rw [this] at hk; simp at hk)
 exact ⟨b, off, hA, hb, ht k _ (Îy (Ā hk))⟩
theorem ÆB (l : List Int) : (zI l).length = l.length := by simp [zI]
set_option maxRecDepth 100000 in
set_option maxHeartbeats 4000000 in
theorem ÊK (d : Dl) (pv dv : Value) (w : World) (hm1 : d.put.length ≤ 1000000) (hm2 : d.drop.length ≤ 1000000) (hok : ∀ r ∈ d.put, r.ok = true) (hdr : ∀ z ∈ d.drop, (Lit.int .i64 z).wf = true) (hP : Á w.heap.size w pv d.put) (hD : Row w.heap.size w dv (zI d.drop)) :
 Calls Tryz.prog 79 #[.agg #[.int .i64 d.de, .int .i64 d.cl, .int .i64 d.fu, .int .i64 d.st, pv, dv]] w fun e w' => e = .returned (.bool (!decide d.ids.Nodup)) ∧ Below w.heap.size w w' := by
 obtain ⟨de, cl, fu, st, pu, dr⟩ := d;simp only at hm1 hm2 hok hdr hP hD ⊢;obtain ⟨A, cap, rfl⟩ := hP.form;obtain ⟨A2, cap2, rfl⟩ := hD.form;rw [ÆB] at hD ⊢;have hmm := @run_makeMap Tryz.prog;have HO := ħ hok;have HDr := ħ hdr;obtain ⟨w0, hw0⟩ : ∃ w0, w0 = (w.alloc (.cells #[.int .i64 de, .int .i64 cl, .int .i64 fu, .int .i64 st, .slice A pu.length cap, .slice A2 dr.length cap2] 63)) := ⟨_, rfl⟩
 have hb0 : Below w.heap.size w w0 := by rw [hw0]; exact (ā _ _).alloc (ŋ _) _
 have hx : Blk w0 w.heap.size 63 #[.int .i64 de, .int .i64 cl, .int .i64 fu, .int .i64 st, .slice A pu.length cap, .slice A2 dr.length cap2] := by rw [hw0]; exact Blk.new _ _ _
 have hs0 : w0.heap.size = w.heap.size + 1 := by rw [hw0]; simp
 have HW0 := ħ hw0;have HP0 := ħ (hP.on hb0);have HD0 := ħ ((hD.below hb0).more hb0.size);have HX := ħ hx;have HB0 := ħ hb0;clear hb0 hx hP hD hok hdr hw0;go_enter Tryz.func79, Tryz.ntmps79;go_wp2
 go_loopw [12] (fun i wr => ∃ k : Nat, k ≤ pu.length ∧ i = .int .i64 k ∧ wr.ownsMap Tryz.prog 3 unitElem (w.heap.size + 1) k (setOf uD (ÀZ ((pu.map Ru.id).take k))) ∧ Below w0.heap.size w0 wr) (fun i _ => pu.length - (intOf i).toNat)
 case atStart => exact ⟨0, Ą _, rfl, by have := World.ownsMap_made w0 Tryz.prog 3 (unitElem (H := Unit)); rw [hs0, HW0.o] at this; simpa [setOf, ÀZ] using this, by rw [HW0.o]; exact (ā _ _).alloc (ŋ _) _⟩
 case round =>
  obtain ⟨k, hk, rfl, hown, hbel⟩ := hrel;have hsz := hbel.size
  by_cases hlt : k < pu.length
  ·obtain ⟨b, off, rfl, hb, c0, c1, c2, c3, c4⟩ := (HP0.o.below hbel).at_ hlt
   have HG := ħ (Ā hlt);have hro := HO.o _ (Ē hlt);generalize pu[k] = r at HG c0 c1 c2 c3 c4 hro;have HK := ħ (ÊI r.id (ÎC hro));clear hro
   go_wp2_with (first
    | (at_mapUpdate; refine wpList_mapUpdate_own _ rfl _ _ _ 150 rfl 3 151 (int_keyed Tryz.underlying3) Tryz.underlying150 _ (w.heap.size + 1) k _ rfl (hown.alloc _) (by unfold maxLen; omega) _ _ _ rfl rfl HK.o uD [] unitElem_mk ?_; intro w1 hown1 hgrow1)
    | go_in)
   have hb1 : Below w0.heap.size w0 w1 := (hbel.alloc hsz _).grown hgrow1 (by simp; omega) (fun j hj => by cases hj; omega)
   rw [ÅL, ← Ìf HG.o] at hown1;have HB := ħ hb1;have HW := ħ hown1;clear hb1 hown1 hgrow1;go_roundw
   case rel => exact ⟨k + 1, by omega, by go_num, HW.o, HB.o⟩
   case measure => simp [intOf]; omega
  ·obtain rfl : k = pu.length := by omega
   rw [List.take_of_length_le (by simp)] at hown
   have e5 := (HX.o.on hbel).cell 5;have HW := ħ hown;have HB := ħ hbel;clear hown hbel hlt;go_wp2
   go_loopw [24] (fun i wx => ∃ k : Nat, k ≤ dr.length ∧ i = .int .i64 k ∧ wx.ownsMap Tryz.prog 3 unitElem (w.heap.size + 1) (pu.length + k) (setOf uD (ÀZ (pu.map Ru.id ++ dr.take k))) ∧ Below w0.heap.size w0 wx) (fun i _ => dr.length - (intOf i).toNat)
   case atStart => exact ⟨0, Ą _, rfl, by simpa using HW.o, HB.o⟩
   case round =>
    clear e5 hsz;obtain ⟨k, hk, rfl, hown, hbel⟩ := hrel;have hsz := hbel.size
    by_cases hlt : k < dr.length
    ·obtain ⟨b, off, rfl, hb, c0⟩ := (HD0.o.below hbel).at_ hlt
     have HG := ħ (Ā hlt);have hro := HDr.o _ (Ē hlt);generalize dr[k] = z at HG c0 hro;have HK := ħ (ÊI z hro);clear hro
     go_wp2_with (first
      | (at_mapUpdate; refine wpList_mapUpdate_own _ rfl _ _ _ 150 rfl 3 151 (int_keyed Tryz.underlying3) Tryz.underlying150 _ (w.heap.size + 1) (pu.length + k) _ rfl hown (by unfold maxLen; omega) _ _ _ rfl rfl HK.o uD [] unitElem_mk ?_; intro w1 hown1 hgrow1)
      | go_in)
     have hb1 : Below w0.heap.size w0 w1 := hbel.grown hgrow1 hsz (fun j hj => by cases hj; omega)
     rw [ÅL, List.append_assoc, ← Ãp HG.o] at hown1;have HB := ħ hb1;have HW := ħ hown1;clear hb1 hown1 hgrow1;go_roundw
     case rel => exact ⟨k + 1, by omega, by go_num, by rw [← Nat.add_assoc]; exact HW.o, HB.o⟩
     case measure => simp [intOf]; omega
    ·obtain rfl : k = dr.length := by omega
     rw [List.take_of_length_le (ŋ _)] at hown;have e4 := (HX.o.on hbel).cell 4;have e5 := (HX.o.on hbel).cell 5
     have ha := ÊJ (pu.map Ru.id ++ dr) (pu.length + dr.length) (by simp)
     have hs : Maps.size (setOf uD (ÀZ (pu.map Ru.id ++ dr))) ≤ pu.length + dr.length := hown.size_le
     have hle := fun ty => hown.len Tryz.underlying150 ty
     go_wp2;go_ret;refine ⟨ë ?_, HB0.o.trans (hbel.mono HB0.o.size)⟩;unfold Dl.ids;simp only;rw [← ha];simp
end
section
open Go.RowKit Go.Maps
variable {w w' : World}
section
variable {s : RS} {d : Dl}
theorem ÃX (h : ¬ s.Ok) : Õ s d = (.zero, 10) := by unfold Õ; rw [if_pos h]
theorem ÀY (h : s.Ok) (h2 : (Ÿ s d).num = false ∨ ∃ r ∈ d.put, r.ok = false) : Õ s d = (.zero, 30) := by unfold Õ; rw [if_neg (by simpa using h), if_pos h2]
theorem Ãi (h : s.Ok) (h2 : ¬ ((Ÿ s d).num = false ∨ ∃ r ∈ d.put, r.ok = false)) (h3 : ¬ d.ids.Nodup) : Õ s d = (.zero, 31) := by unfold Õ; rw [if_neg (by simpa using h), if_neg h2, if_pos h3]
theorem ÃY (h : s.Ok) (h2 : ¬ ((Ÿ s d).num = false ∨ ∃ r ∈ d.put, r.ok = false)) (h3 : d.ids.Nodup) (h4 : ∃ i ∈ d.drop, i ∉ s.rs.map Ru.id) : Õ s d = (.zero, 32) := by
 unfold Õ; rw [if_neg (by simpa using h), if_neg h2, if_neg (by simpa using h3), if_pos h4]
theorem ÃZ (h : s.Ok) (h2 : ¬ ((Ÿ s d).num = false ∨ ∃ r ∈ d.put, r.ok = false)) (h3 : d.ids.Nodup) (h4 : ∀ i ∈ d.drop, i ∈ s.rs.map Ru.id) (h5 : 16 < (after s d).length) : Õ s d = (.zero, 33) := by
 unfold Õ; rw [if_neg (by simpa using h), if_neg h2, if_neg (by simpa using h3), if_neg (fun ⟨i, a, b⟩ => b (h4 i a)), if_pos h5]
theorem Æn (h : s.Ok) (h2 : ¬ ((Ÿ s d).num = false ∨ ∃ r ∈ d.put, r.ok = false)) (h3 : d.ids.Nodup) (h4 : ∀ i ∈ d.drop, i ∈ s.rs.map Ru.id) (h5 : ¬ 16 < (after s d).length) : Õ s d = ({ Ÿ s d with rs := after s d }, 0) := by
 unfold Õ; rw [if_neg (by simpa using h), if_neg h2, if_neg (by simpa using h3), if_neg (fun ⟨i, a, b⟩ => b (h4 i a)), if_neg h5]
theorem ÊA : (Ÿ s d).Ok ↔ (Ÿ s d).num = true := by
 unfold RS.Ok;constructor
 ·exact fun h => h.1
 ·exact fun h => ⟨h, by simp [Ÿ], by simp [Ÿ], by simp [Ÿ]⟩
end
theorem Far.mono {a b : Nat} {v : Value} (h : Far a v) (hb : b ≤ a) : Far b v := fun k hk => ē hb (h k hk)
theorem Far.nil (a : Nat) : Far a (.slice none 0 0) := fun b h => by simp [Value.ownBlock] at h
theorem Á.store {n base g i : Nat} {v u : Value} {l : List Ru} (h : Á n w v l) (hf : Far base v) (hg : g < base) : Á n (w.setCell ⟨g, i, none⟩ u) v l := by
 obtain ⟨A, cap, rfl, hc, h⟩ := h
 refine ⟨A, cap, rfl, hc, fun hs => ?_⟩
 obtain ⟨b, off, rfl, hb, ht⟩ := h hs;have hbb := hf b rfl
 have hne : b ≠ g := by omega
 have e : ∀ o, (w.setCell ⟨g, i, none⟩ u).cell? ⟨b, o, none⟩ = w.cell? ⟨b, o, none⟩ := fun o => by
  have := Below.heap_setCell w ⟨g, i, none⟩ u b hne;unfold World.cell?;rw [this]
 exact ⟨b, off, rfl, hb, fun j r hr => by
  obtain ⟨h0, h1, h2, h3, h4⟩ := ht j r hr
  exact ⟨(e _).trans h0, (e _).trans h1, (e _).trans h2, (e _).trans h3, (e _).trans h4⟩⟩
theorem Blk.c5 {g : Nat} {t : TypeId} {x0 x1 x2 x3 x4 : Value} (h : Blk w g t #[x0, x1, x2, x3, x4]) : w.cell? ⟨g, 0, none⟩ = some x0 ∧ w.cell? ⟨g, 1, none⟩ = some x1 ∧ w.cell? ⟨g, 2, none⟩ = some x2 ∧ w.cell? ⟨g, 3, none⟩ = some x3 ∧ w.cell? ⟨g, 4, none⟩ = some x4 :=
 ⟨h.cell 0, h.cell 1, h.cell 2, h.cell 3, h.cell 4⟩
theorem Blk.c6 {g : Nat} {t : TypeId} {x0 x1 x2 x3 x4 x5 : Value} (h : Blk w g t #[x0, x1, x2, x3, x4, x5]) : w.cell? ⟨g, 0, none⟩ = some x0 ∧ w.cell? ⟨g, 1, none⟩ = some x1 ∧ w.cell? ⟨g, 2, none⟩ = some x2 ∧ w.cell? ⟨g, 3, none⟩ = some x3 ∧ w.cell? ⟨g, 4, none⟩ = some x4 ∧ w.cell? ⟨g, 5, none⟩ = some x5 :=
 ⟨h.cell 0, h.cell 1, h.cell 2, h.cell 3, h.cell 4, h.cell 5⟩
theorem Blk.f5 {g : Nat} {t : TypeId} {cs : Array Value} (h : Blk w g t cs) : w.frozen? ⟨g, 0, none⟩ = false ∧ w.frozen? ⟨g, 1, none⟩ = false ∧ w.frozen? ⟨g, 2, none⟩ = false ∧ w.frozen? ⟨g, 3, none⟩ = false ∧ w.frozen? ⟨g, 4, none⟩ = false :=
 ⟨h.frozen 0, h.frozen 1, h.frozen 2, h.frozen 3, h.frozen 4⟩
theorem Blk.at_new (w : World) (g : Nat) (hg : g = w.heap.size) (t : TypeId) (cs : Array Value) : Blk (w.alloc (.cells cs t)) g t cs := by
 subst hg;exact Blk.new _ _ _
theorem Ő {l : List Ru} {k : Nat} {r : Ru} (h : l[k]? = some r) : l.take (k + 1) = l.take k ++ [r] := by
 obtain ⟨hk, rfl⟩ := List.getElem?_eq_some_iff.1 h;rw [ĕ hk]
theorem Ïa (w : World) : (zeroValue 71).run Tryz.prog w = .ok (.agg #[.int .i64 0, .int .i64 0, .int .i64 0, .int .i64 0, .string ⟨#[]⟩]) w := by kernel_rfl
theorem Áp (w : World) {ops : Array Oper} {rest : List Oper} {o : Oper} {a : Act} {Q : Exit → Act → World → Prop} (hg : o.guard = none) (m x : Operand) (hop : o.op = Op.lookup 132 m x true) (b n : Nat) (L : List Ru)
 (hm : a.eval m = .map (some b)) (hown : w.ownsMap Tryz.prog 3 ruR b n (dm L)) (z : Int) (hx : a.eval x = .int .i64 z) (hz : (Lit.int .i64 z).wf = true)
 (hK : ∀ r : Ru, r = ÎA L z → wpList Tryz.prog ops Q rest (a.put o.dst (.tuple #[.agg #[.int .i64 r.id, .int .i64 r.pr, .int .i64 r.ac, .int .i64 r.sc, .string r.pat], .bool (decide (z ∈ L.map Ru.id))])) w) :
 wpList Tryz.prog ops Q (o :: rest) a w :=
 wpList_lookup_own_ok w hg m x 132 hop 3 71 (int_keyed Tryz.underlying3) Tryz.underlying132 ruR (Ïa w) (.held .none) [] rfl b n (dm L) hm hown _ _ hx (ÊI z hz) (fun v ps hv => by
  obtain ⟨r, rfl, he⟩ := Êe hv;rw [Ìa] at he;obtain ⟨h1, _⟩ := Prod.mk.inj he;rw [ËZ]
  exact hK r (by injection h1 with h1; exact h1.symm))
end
section
open Go.RowKit Go.Maps
variable {w w' : World}
set_option maxRecDepth 100000 in
set_option maxHeartbeats 16000000 in
theorem ËF (s : RS) (d : Dl) (v pv dv : Value) (w : World) (hm0 : s.rs.length ≤ 1000) (hm1 : d.put.length ≤ 1000) (hm2 : d.drop.length ≤ 1000) (hdr : ∀ z ∈ d.drop, (Lit.int .i64 z).wf = true)
 (hS : Á w.heap.size w v s.rs) (hP : Á w.heap.size w pv d.put) (hD : Row w.heap.size w dv (zI d.drop)) :
 Calls Tryz.prog 53 #[.agg #[.int .i64 s.de, .int .i64 s.cl, .int .i64 s.fu, .int .i64 s.st, v], .agg #[.int .i64 d.de, .int .i64 d.cl, .int .i64 d.fu, .int .i64 d.st, pv, dv]] w
  fun e w' => ∃ rv, e = .returned (.tuple #[.agg #[.int .i64 (Õ s d).1.de, .int .i64 (Õ s d).1.cl, .int .i64 (Õ s d).1.fu, .int .i64 (Õ s d).1.st, rv], .int .i64 (Õ s d).2]) ∧
   Á w'.heap.size w' rv (Õ s d).1.rs ∧ Far w.heap.size rv ∧ Below w.heap.size w w' := by
 obtain ⟨A, cap, rfl⟩ := hS.form;obtain ⟨A1, cap1, rfl⟩ := hP.form;obtain ⟨A2, cap2, rfl⟩ := hD.form;rw [ÆB] at hD ⊢;have HDr := ħ hdr;have HS := ħ hS;have HP := ħ hP;have HD := ħ hD;clear hS hP hD hdr;go_enter Tryz.func53, Tryz.ntmps53
 go_wp2_with fail
 generalize hw0 : ((w.alloc (.cells #[.int .i64 s.de, .int .i64 s.cl, .int .i64 s.fu, .int .i64 s.st, .slice A s.rs.length cap] 59)).alloc (.cells #[.int .i64 d.de, .int .i64 d.cl, .int .i64 d.fu, .int .i64 d.st, .slice A1 d.put.length cap1, .slice A2 d.drop.length cap2] 63)).alloc (.cells #[.int .i64 0, .int .i64 0, .int .i64 0, .int .i64 0, .slice none 0 0] 59) = w0
 have hb0 : Below w.heap.size w w0 := by rw [← hw0]; exact (((ā _ _).alloc (ŋ _) _).alloc (by simp) _).alloc (by simp; omega) _
 have HX0 : Hid (Blk w0 w.heap.size 59 #[.int .i64 s.de, .int .i64 s.cl, .int .i64 s.fu, .int .i64 s.st, .slice A s.rs.length cap]) := ħ (by rw [← hw0]; exact ((Blk.new _ _ _).alloc _).alloc _)
 have HY0 : Hid (Blk w0 (w.heap.size + 1) 63 #[.int .i64 d.de, .int .i64 d.cl, .int .i64 d.fu, .int .i64 d.st, .slice A1 d.put.length cap1, .slice A2 d.drop.length cap2]) := ħ (by rw [← hw0]; exact (Blk.at_new _ _ (by simp) _ _).alloc _)
 have HZ0 : Hid (Blk w0 (w.heap.size + 2) 59 #[.int .i64 0, .int .i64 0, .int .i64 0, .int .i64 0, .slice none 0 0]) := ħ (by rw [← hw0]; exact Blk.at_new _ _ (by simp) _ _)
 clear hw0
 refine (ÁD s _ w0 (by omega) (HS.o.on hb0)).mono ?_
 rintro e w1 ⟨rfl, hb1⟩;have HB1 := ħ (hb0.trans (hb1.mono hb0.size));have HX1 := ħ (HX0.o.on hb1);have HY1 := ħ (HY0.o.on hb1);have HZ1 := ħ (HZ0.o.on hb1);clear hb0 hb1 HX0 HY0 HZ0
 by_cases h1 : s.Ok
 ·rw [decide_eq_true h1]
  have H1 := ħ h1;clear h1;obtain ⟨x0, x1, x2, x3, x4⟩ := HX1.o.c5;obtain ⟨y0, y1, y2, y3, y4, y5⟩ := HY1.o.c6
  go_wp2_with fail
  refine (Çe s d _ _ _ ⟨_, _, _, rfl⟩ ⟨_, _, _, rfl⟩ ⟨_, _, _, rfl⟩ w1).mono ?_;rintro e w2 ⟨rfl, hb2⟩;have HB2 := ħ (HB1.o.trans (hb2.mono HB1.o.size));have HX2 := ħ (HX1.o.on hb2);have HY2 := ħ (HY1.o.on hb2);have HZ2 := ħ (HZ1.o.on hb2);clear x0 x1 x2 x3 x4 y0 y1 y2 y3 y4 y5 hb2 HX1 HY1 HZ1
  go_wp2_with fail
  generalize hw3 : w2.alloc (.cells #[.int .i64 (orK d.de s.de), .int .i64 (orK d.cl s.cl), .int .i64 (orK d.fu s.fu), .int .i64 (orK d.st s.st), .slice none 0 0] 59) = w3
  have hb3 : Below w2.heap.size w2 w3 := by rw [← hw3]; exact (ā _ _).alloc (ŋ _) _
  have HC3 : Hid (Blk w3 w2.heap.size 59 #[.int .i64 (orK d.de s.de), .int .i64 (orK d.cl s.cl), .int .i64 (orK d.fu s.fu), .int .i64 (orK d.st s.st), .slice none 0 0]) := ħ (by rw [← hw3]; exact Blk.new _ _ _)
  have HB3 := ħ (HB2.o.trans (hb3.mono HB2.o.size));have HX3 := ħ (HX2.o.on hb3);have HY3 := ħ (HY2.o.on hb3);have HZ3 := ħ (HZ2.o.on hb3);have HL2 := ħ HC3.o.lt;have HZl := ħ HZ2.o.lt;clear hw3 hb3 HX2 HY2 HZ2
  refine (ÁD (Ÿ s d) (.slice none 0 0) w3 (by simp [Ÿ]) (Á.nil _ _)).mono ?_
  rintro e w4 ⟨rfl, hb4⟩;have HB4 := ħ (HB3.o.trans (hb4.mono HB3.o.size));have HX4 := ħ (HX3.o.on hb4);have HY4 := ħ (HY3.o.on hb4);have HZ4 := ħ (HZ3.o.on hb4);have HC4 := ħ (HC3.o.on hb4);clear hb4 HX3 HY3 HZ3 HC3
  by_cases h2 : (Ÿ s d).Ok
  ·rw [decide_eq_true h2]
   have H2 := ħ (ÊA.1 h2);clear h2;obtain ⟨y0, y1, y2, y3, y4, y5⟩ := HY4.o.c6
   go_wp2_with fail
   refine (Æk _ d.put w4 (by omega) (HP.o.on HB4.o)).mono ?_
   rintro e w5 ⟨rfl, hb5⟩;have HB5 := ħ (HB4.o.trans (hb5.mono HB4.o.size));have HX5 := ħ (HX4.o.on hb5);have HY5 := ħ (HY4.o.on hb5);have HZ5 := ħ (HZ4.o.on hb5);have HC5 := ħ (HC4.o.on hb5);clear hb5 HX4 HY4 HZ4 HC4 y0 y1 y2 y3 y4 y5
   by_cases h3 : d.put.all Ru.ok = true
   ·rw [h3]
    have H3 : Hid (∀ r ∈ d.put, r.ok = true) := ħ (List.all_eq_true.1 h3)
    have H23 : Hid (¬ ((Ÿ s d).num = false ∨ ∃ r ∈ d.put, r.ok = false)) := ħ (by
     rintro (h | ⟨r, hr, h⟩)
     ·rw [H2.o] at h; cases h
     ·rw [H3.o r hr] at h; cases h)
    clear h3;obtain ⟨y0, y1, y2, y3, y4, y5⟩ := HY5.o.c6
    go_wp2_with fail
    refine (ÊK d _ _ w5 (by omega) (by omega) H3.o HDr.o (HP.o.on HB5.o) ((HD.o.below HB5.o).more HB5.o.size)).mono ?_
    rintro e w6 ⟨rfl, hb6⟩;have HB6 := ħ (HB5.o.trans (hb6.mono HB5.o.size));have HX6 := ħ (HX5.o.on hb6);have HY6 := ħ (HY5.o.on hb6);have HZ6 := ħ (HZ5.o.on hb6);have HC6 := ħ (HC5.o.on hb6);clear hb6 HX5 HY5 HZ5 HC5 y0 y1 y2 y3 y4 y5
    by_cases h4 : d.ids.Nodup
    ·rw [decide_eq_true h4]
     have H4 := ħ h4;clear h4;obtain ⟨x0, x1, x2, x3, x4⟩ := HX6.o.c5
     go_wp2_with fail
     refine (Ìe _ s.rs w6 (by omega) H1.o.2.2.1 H1.o.2.2.2 (HS.o.on HB6.o)).mono ?_
     rintro e w7 ⟨rfl, hown, hb7⟩;have HW7 := ħ hown;have HB7 := ħ hb7;have y5 := (HY6.o.on hb7).c6.2.2.2.2.2;clear x0 x1 x2 x3 x4 hown hb7;go_wp2
     go_loopw [40] (fun i wr => ∃ k : Nat, k ≤ d.drop.length ∧ i = .int .i64 k ∧ wr.ownsMap Tryz.prog 3 ruR w6.heap.size s.rs.length (dm (drops s.rs (d.drop.take k))) ∧ Hid (∀ i ∈ d.drop.take k, i ∈ s.rs.map Ru.id) ∧ Below w6.heap.size w6 wr) (fun i _ => d.drop.length - (intOf i).toNat)
     case atStart => exact ⟨0, Ą _, rfl, by rw [List.take_zero, ÊE]; exact HW7.o, ħ (by simp), HB7.o⟩
     case round =>
      clear y5;obtain ⟨k, hk, rfl, hown, HIn, hbel⟩ := hrel;have hsz := hbel.size
      by_cases hlt : k < d.drop.length
      ·obtain ⟨b, off, rfl, hb, c0⟩ := ((HD.o.below (HB6.o.trans (hbel.mono HB6.o.size))).at_ hlt)
       have HG := ħ (Ā hlt);have hz := HDr.o _ (Ē hlt)
       have hnin : d.drop[k] ∉ d.drop.take k := fun h => by
        have hn := (List.nodup_append.1 H4.o).2.1;obtain ⟨j, hj, e⟩ := List.getElem_of_mem h;rw [List.getElem_take] at e;rw [List.length_take] at hj;have := (List.getElem_inj hn).1 e;omega
       have HNin := ħ hnin;generalize d.drop[k] = z at HG c0 hz HNin hnin;clear hnin;have HLt := ħ hlt
       by_cases hin : z ∈ (drops s.rs (d.drop.take k)).map Ru.id
       ·have HK := ħ (ÊI z hz)
        have HInz := ħ ((Âv HNin.o).1 hin);have HZz := ħ hz;have HHin := ħ hin;clear hz hin
        go_wp2_with (first
         | (at_lookup; refine Áp _ rfl _ _ rfl w6.heap.size s.rs.length _ rfl hown z rfl HZz.o ?_; intro r _; rw [decide_eq_true HHin.o])
         | (at_delete; refine wpList_delete_own _ rfl _ _ 132 3 rfl 71 (int_keyed Tryz.underlying3) Tryz.underlying132 _ w6.heap.size s.rs.length _ rfl (hown.alloc _) _ _ rfl HK.o ?_; intro w8 hown8 hturn8)
         | go_in)
        have hb8 : Below w6.heap.size w6 w8 := (hbel.alloc hsz _).grown hturn8.grown (by simp; omega) (fun j hj => by cases hj; exact ŋ _)
        rw [Îz, ← ÈG, ← Ãp HG.o] at hown8;have HB8 := ħ hb8;have HW8 := ħ hown8;clear hb8 hown8 hturn8;go_roundw
        case rel => exact ⟨k + 1, HLt.o, by go_num, HW8.o, ħ (by
         rw [Ãp HG.o];intro i hi
         rcases List.mem_append.1 hi with h | h
         ·exact HIn.o i h
         ·rw [List.mem_singleton.1 h]; exact HInz.o), HB8.o⟩
        case measure => have := HLt.o; simp [intOf]; omega
       ·have HEx : Hid (∃ i ∈ d.drop, i ∉ s.rs.map Ru.id) := ħ ⟨z, Č HG.o, fun h => hin ((Âv HNin.o).2 h)⟩
        have HZz := ħ hz;have HHin := ħ hin;have HBe := ħ hbel;obtain ⟨z0, z1, z2, z3, z4⟩ := (HZ6.o.on hbel).c5;obtain ⟨f0, f1, f2, f3, f4⟩ := (HZ6.o.on hbel).f5;have hlr := (HZ6.o.on hbel).lt;clear hz hin
        go_wp2_with (first
         | (at_lookup; refine Áp _ rfl _ _ rfl w6.heap.size s.rs.length _ rfl hown z rfl HZz.o ?_; intro r _; rw [decide_eq_false HHin.o])
         | go_in)
        refine bodyPost_ret (v := .tuple #[.agg #[.int .i64 0, .int .i64 0, .int .i64 0, .int .i64 0, .slice none 0 0], .int .i64 32]) (by simp [results, Tryz.results53, go_sem, *]) rfl ⟨.slice none 0 0, by rw [ÃY H1.o H23.o H4.o HEx.o]; rfl, by rw [ÃY H1.o H23.o H4.o HEx.o]; exact Á.nil _ _, Far.nil _, ?_⟩
        refine Below.alloc ?_ (by have := (HB6.o.trans (HBe.o.mono HB6.o.size)).size; simp; omega) _
        refine Below.setCell ?_ (show w.heap.size ≤ w.heap.size + 2 by omega) _
        refine Below.setCell ?_ (show w.heap.size ≤ w.heap.size + 2 by omega) _
        refine Below.setCell ?_ (show w.heap.size ≤ w.heap.size + 2 by omega) _
        refine Below.setCell ?_ (show w.heap.size ≤ w.heap.size + 2 by omega) _
        refine Below.setCell ?_ (show w.heap.size ≤ w.heap.size + 2 by omega) _
        exact HB6.o.trans (HBe.o.mono HB6.o.size)
      ·obtain rfl : k = d.drop.length := by omega
       rw [Ă] at hown HIn;have HW9 := ħ hown;have HB9 := ħ hbel;have y4 := (HY6.o.on hbel).c6.2.2.2.2.1;clear hown hbel hlt hk;go_wp2
       go_loopw [59] (fun i wx => ∃ k : Nat, k ≤ d.put.length ∧ i = .int .i64 k ∧ wx.ownsMap Tryz.prog 3 ruR w6.heap.size (s.rs.length + k) (dm (puts (drops s.rs d.drop) (d.put.take k))) ∧ Below w6.heap.size w6 wx) (fun i _ => d.put.length - (intOf i).toNat)
       case atStart => exact ⟨0, Ą _, rfl, by rw [List.take_zero, ËX]; exact HW9.o, HB9.o⟩
       case round =>
        clear y4 hsz;obtain ⟨k, hk, rfl, hown, hbel⟩ := hrel;have hsz := hbel.size
        by_cases hlt : k < d.put.length
        ·obtain ⟨b, off, rfl, hb, c0, c1, c2, c3, c4⟩ := ((HP.o.on HB6.o).below hbel).at_ hlt
         have HG := ħ (Ā hlt);have hro := H3.o _ (Ē hlt);generalize d.put[k] = r at HG c0 c1 c2 c3 c4 hro;have HK := ħ (ÊI r.id (ÎC hro));have HLt := ħ hlt;clear hro
         go_wp2_with (first
          | (at_mapUpdate; refine wpList_mapUpdate_own _ rfl _ _ _ 132 rfl 3 71 (int_keyed Tryz.underlying3) Tryz.underlying132 _ w6.heap.size (s.rs.length + k) _ rfl (hown.alloc _) (by unfold maxLen; omega) _ _ _ rfl rfl HK.o _ [] (Êh r) ?_; intro w8 hown8 hgrow8)
          | go_in)
         have hb8 : Below w6.heap.size w6 w8 := (hbel.alloc hsz _).grown hgrow8 (by simp; omega) (fun j hj => by cases hj; exact ŋ _)
         rw [ËY ((H1.o.2.2.2.drops _).puts _), ← ÅJ, ← Ő HG.o] at hown8;have HB8 := ħ hb8;have HW8 := ħ hown8;clear hb8 hown8 hgrow8;go_roundw
         case rel => exact ⟨k + 1, HLt.o, by go_num, by rw [← Nat.add_assoc]; exact HW8.o, HB8.o⟩
         case measure => have := HLt.o; simp [intOf]; omega
        ·obtain rfl : k = d.put.length := by omega
         rw [Ă] at hown
         have hle : ∀ ty, (Builtin.len_ #[132] ty #[.map (some w6.heap.size)]).run Tryz.prog wr = .ok (.int .i64 ((after s d).length : Nat)) wr := fun ty => by
          have := hown.len Tryz.underlying132 ty;rw [Êf] at this;exact this
         have HW10 := ħ hown;have HBe := ħ hbel;clear hown hbel hlt hk;have HI : Hid (∀ i ∈ d.drop, i ∈ s.rs.map Ru.id) := HIn
         by_cases h5 : 16 < (after s d).length
         ·have h5i : (16 : Int) < ((after s d).length : Int) := by omega
          obtain ⟨z0, z1, z2, z3, z4⟩ := (HZ6.o.on HBe.o).c5;obtain ⟨f0, f1, f2, f3, f4⟩ := (HZ6.o.on HBe.o).f5;have hlr := (HZ6.o.on HBe.o).lt;have EA := ħ (ÃZ H1.o H23.o H4.o HI.o h5);clear h5;go_wp2
          refine bodyPost_ret (v := .tuple #[.agg #[.int .i64 0, .int .i64 0, .int .i64 0, .int .i64 0, .slice none 0 0], .int .i64 33]) (by simp [results, Tryz.results53, go_sem, *]) rfl ⟨.slice none 0 0, by rw [EA.o]; rfl, by rw [EA.o]; exact Á.nil _ _, Far.nil _, ?_⟩
          exact (((((HB6.o.trans (HBe.o.mono HB6.o.size)).setCell (p := ⟨w.heap.size + 2, 0, none⟩) (show w.heap.size ≤ w.heap.size + 2 by omega) _).setCell (p := ⟨w.heap.size + 2, 1, none⟩) (show w.heap.size ≤ w.heap.size + 2 by omega) _).setCell (p := ⟨w.heap.size + 2, 2, none⟩) (show w.heap.size ≤ w.heap.size + 2 by omega) _).setCell (p := ⟨w.heap.size + 2, 3, none⟩) (show w.heap.size ≤ w.heap.size + 2 by omega) _).setCell (p := ⟨w.heap.size + 2, 4, none⟩) (show w.heap.size ≤ w.heap.size + 2 by omega) _
         ·have h5i : ¬ (16 : Int) < ((after s d).length : Int) := by omega
          have EA := ħ (Æn H1.o H23.o H4.o HI.o h5)
          have hln : (after s d).length ≤ 16 := by omega
          have HIO := ħ (Çv w6.heap.size _ (after s d) ((H1.o.2.2.2.drops _).puts _) (by omega) wr HW10.o)
          clear h5 hln
          go_wp2_with fail
          refine HIO.o.mono ?_;rintro e w10 ⟨rv, rfl, hrv, hfar, hb10⟩;obtain ⟨RA, rcap, rfl⟩ := hrv.form;have hz10 := (HZ6.o.on HBe.o).on hb10;have hc10 := (HC6.o.on HBe.o).on hb10;obtain ⟨z0, z1, z2, z3, z4⟩ := hz10.c5;obtain ⟨f0, f1, f2, f3, f4⟩ := hz10.f5;obtain ⟨c0, c1, c2, c3, c4⟩ := hc10.c5;obtain ⟨g0, g1, g2, g3, g4⟩ := hc10.f5;have hlr := hz10.lt;have hlc := hc10.lt;have hzl := HZl.o
          have hne : ¬ w.heap.size + 2 = w2.heap.size := by omega
          have hne' : ¬ w2.heap.size = w.heap.size + 2 := by omega
          have HRv := ħ hrv;have HFar := ħ hfar;have HB10 := ħ (((HB6.o.trans (HBe.o.mono HB6.o.size))).trans (hb10.mono (ē HB6.o.size HBe.o.size)))
          have HSz := ħ (show w2.heap.size < wr.heap.size from Ć HC6.o.lt HBe.o.size)
          clear hrv hfar hb10 hz10 hc10 hle;go_wp2
          refine bodyPost_ret (v := .tuple #[.agg #[.int .i64 (orK d.de s.de), .int .i64 (orK d.cl s.cl), .int .i64 (orK d.fu s.fu), .int .i64 (orK d.st s.st), .slice RA (after s d).length rcap], .int .i64 0]) (by simp [results, Tryz.results53, go_sem, *]) rfl ⟨.slice RA (after s d).length rcap, by rw [EA.o]; rfl, ?_, HFar.o.mono (ē HB6.o.size HBe.o.size), ?_⟩
          ·rw [EA.o]
           refine Á.more (n₀ := w10.heap.size) ?_ (by simp)
           have hsz' := HSz.o
           refine Á.store (base := wr.heap.size) ?_ HFar.o (by omega)
           refine Á.store (base := wr.heap.size) ?_ HFar.o (by omega)
           refine Á.store (base := wr.heap.size) ?_ HFar.o (by omega)
           refine Á.store (base := wr.heap.size) ?_ HFar.o (by omega)
           refine Á.store (base := wr.heap.size) ?_ HFar.o (by omega)
           refine Á.store (base := wr.heap.size) ?_ HFar.o (by omega)
           exact HRv.o
          ·refine Below.setCell ?_ (show w.heap.size ≤ w.heap.size + 2 by omega) _
           refine Below.setCell ?_ (show w.heap.size ≤ w.heap.size + 2 by omega) _
           refine Below.setCell ?_ (show w.heap.size ≤ w.heap.size + 2 by omega) _
           refine Below.setCell ?_ (show w.heap.size ≤ w.heap.size + 2 by omega) _
           refine Below.setCell ?_ (show w.heap.size ≤ w.heap.size + 2 by omega) _
           refine Below.setCell ?_ (show w.heap.size ≤ w2.heap.size by omega) _
           exact HB10.o
    ·rw [decide_eq_false h4]
     obtain ⟨z0, z1, z2, z3, z4⟩ := HZ6.o.c5;obtain ⟨f0, f1, f2, f3, f4⟩ := HZ6.o.f5;have hlr := HZ6.o.lt;go_wp2
     refine bodyPost_ret (v := .tuple #[.agg #[.int .i64 0, .int .i64 0, .int .i64 0, .int .i64 0, .slice none 0 0], .int .i64 31]) (by simp [results, Tryz.results53, go_sem, *]) rfl ⟨.slice none 0 0, by rw [Ãi H1.o H23.o h4]; rfl, by rw [Ãi H1.o H23.o h4]; exact Á.nil _ _, Far.nil _, ?_⟩
     exact ((((HB6.o.setCell (show w.heap.size ≤ w.heap.size + 2 by omega) _).setCell (show w.heap.size ≤ w.heap.size + 2 by omega) _).setCell (show w.heap.size ≤ w.heap.size + 2 by omega) _).setCell (show w.heap.size ≤ w.heap.size + 2 by omega) _).setCell (show w.heap.size ≤ w.heap.size + 2 by omega) _
   ·rw [Bool.eq_false_iff.2 h3]
    have h3' : ∃ r ∈ d.put, r.ok = false := by
     have := Bool.eq_false_iff.2 h3;rw [List.all_eq_false] at this;obtain ⟨r, hr, h⟩ := this
     exact ⟨r, hr, by simpa using h⟩
    obtain ⟨z0, z1, z2, z3, z4⟩ := HZ5.o.c5;obtain ⟨f0, f1, f2, f3, f4⟩ := HZ5.o.f5;have hlr := HZ5.o.lt;go_wp2
    refine bodyPost_ret (v := .tuple #[.agg #[.int .i64 0, .int .i64 0, .int .i64 0, .int .i64 0, .slice none 0 0], .int .i64 30]) (by simp [results, Tryz.results53, go_sem, *]) rfl ⟨.slice none 0 0, by rw [ÀY H1.o (.inr h3')]; rfl, by rw [ÀY H1.o (.inr h3')]; exact Á.nil _ _, Far.nil _, ?_⟩
    exact ((((HB5.o.setCell (show w.heap.size ≤ w.heap.size + 2 by omega) _).setCell (show w.heap.size ≤ w.heap.size + 2 by omega) _).setCell (show w.heap.size ≤ w.heap.size + 2 by omega) _).setCell (show w.heap.size ≤ w.heap.size + 2 by omega) _).setCell (show w.heap.size ≤ w.heap.size + 2 by omega) _
  ·rw [decide_eq_false h2]
   have h2' : (Ÿ s d).num = false := by
    cases h : (Ÿ s d).num with
    | false => rfl
    | true => exact absurd (ÊA.2 h) h2
   obtain ⟨z0, z1, z2, z3, z4⟩ := HZ4.o.c5;obtain ⟨f0, f1, f2, f3, f4⟩ := HZ4.o.f5;have hlr := HZ4.o.lt;go_wp2
   refine bodyPost_ret (v := .tuple #[.agg #[.int .i64 0, .int .i64 0, .int .i64 0, .int .i64 0, .slice none 0 0], .int .i64 30]) (by simp [results, Tryz.results53, go_sem, *]) rfl ⟨.slice none 0 0, by rw [ÀY H1.o (.inl h2')]; rfl, by rw [ÀY H1.o (.inl h2')]; exact Á.nil _ _, Far.nil _, ?_⟩
   exact ((((HB4.o.setCell (show w.heap.size ≤ w.heap.size + 2 by omega) _).setCell (show w.heap.size ≤ w.heap.size + 2 by omega) _).setCell (show w.heap.size ≤ w.heap.size + 2 by omega) _).setCell (show w.heap.size ≤ w.heap.size + 2 by omega) _).setCell (show w.heap.size ≤ w.heap.size + 2 by omega) _
 ·rw [decide_eq_false h1]
  obtain ⟨z0, z1, z2, z3, z4⟩ := HZ1.o.c5;obtain ⟨f0, f1, f2, f3, f4⟩ := HZ1.o.f5;have hlr := HZ1.o.lt;go_wp2
  refine bodyPost_ret (v := .tuple #[.agg #[.int .i64 0, .int .i64 0, .int .i64 0, .int .i64 0, .slice none 0 0], .int .i64 10]) (by simp [results, Tryz.results53, go_sem, *]) rfl ⟨.slice none 0 0, by rw [ÃX h1]; rfl, by rw [ÃX h1]; exact Á.nil _ _, Far.nil _, ?_⟩
  exact ((((HB1.o.setCell (show w.heap.size ≤ w.heap.size + 2 by omega) _).setCell (show w.heap.size ≤ w.heap.size + 2 by omega) _).setCell (show w.heap.size ≤ w.heap.size + 2 by omega) _).setCell (show w.heap.size ≤ w.heap.size + 2 by omega) _).setCell (show w.heap.size ≤ w.heap.size + 2 by omega) _
end
end Go.Proofs.YtpginkdkblmnbaaGreatDoor
