/- maps.Values of rules, and what is collected of it. -/
import Derived.RangeFuncBox
import Derived.RangeFuncLeaves
import Derived.Shelf.Abstract
import Derived.WalkKit
import Derived.OwnWalkIn
import Derived.TacticsInMore
import Derived.LoopNIn
import Derived.LoopIn
import Derived.Maps.AppendAt
import Derived.Maps.OwnIn
import Derived.Sort.MapsRangeIn
import Derived.Outline
import Derived.Test.YtifpfpgibjmibaaRuW
namespace Go.Proofs.Ytifpfpgibjmibaa
open Go.RowKit Go.Shelf Go.Maps

attribute [local go_sem] Oper.semAt_some

theorem dm_at {L : List Ru} {k : Int} {x : Ru} (h : ∀ zd, (dm L).atKey (.int .i64 k) zd = .held x) : x ∈ L ∧ x.id = k := by
  have h1 := h .nil
  unfold dm DataW.atKey at h1
  simp only [List.find?_map] at h1
  cases hf : L.find? ((fun p : Lit × DataW Ru => p.1.sameKey (.int .i64 k)) ∘ fun r : Ru => ((.int .i64 r.id : Lit), (.held r : DataW Ru))) with
  | none => rw [hf] at h1; simp at h1
  | some y =>
    rw [hf] at h1
    simp at h1
    subst h1
    exact ⟨List.mem_of_find?_eq_some hf, by have := List.find?_some hf; simpa [Lit.sameKey] using this⟩
/-- what has come of a map's values -/
def Coll (L : List Ru) (left : Lit → Bool) (ss : List Ru) : Prop := ss.Nodup ∧ ∀ y, y ∈ ss ↔ y ∈ L ∧ left (.int .i64 y.id) = false
theorem Coll.start (L : List Ru) : Coll L (Maps.has (dm L)) [] := ⟨List.nodup_nil, fun y => by
  simp only [List.not_mem_nil, false_iff, not_and, Bool.not_eq_false]
  intro h
  rw [dm_has, decide_eq_true_eq]
  exact List.mem_map_of_mem h⟩
theorem Coll.step {L : List Ru} {left : Lit → Bool} {ss : List Ru} {x : Ru} {k : Int} (hL : Rise L) (h : Coll L left ss) (hl : left (.int .i64 k) = true) (hx : x ∈ L) (e : x.id = k) : Coll L (fun z => left z && !z.sameKey (.int .i64 k)) (ss ++ [x]) := by
  subst e
  refine ⟨?_, fun y => ?_⟩
  · rw [List.nodup_append]
    refine ⟨h.1, by simp, fun a ha b hb e => ?_⟩
    rw [List.mem_singleton.1 hb] at e
    subst e
    have := ((h.2 a).1 ha).2
    rw [hl] at this
    cases this
  · rw [List.mem_append, List.mem_singleton, h.2 y]
    simp only [Lit.sameKey, Bool.and_eq_false_iff, Bool.not_eq_eq_eq_not, Bool.not_false, decide_eq_true_eq, true_and]
    constructor
    · rintro (⟨h1, h2⟩ | rfl)
      · exact ⟨h1, .inl h2⟩
      · exact ⟨hx, .inr rfl⟩
    · rintro ⟨h1, h2 | h2⟩
      · exact .inl ⟨h1, h2⟩
      · exact .inr (rise_inj hL h1 hx h2)
theorem Coll.perm {L : List Ru} {left : Lit → Bool} {ss : List Ru} (hL : Rise L) (h : Coll L left ss) (hl : ∀ z, left z = false) : ss.Perm L := by
  refine (List.perm_ext_iff_of_nodup h.1 (hL.imp fun hlt e => by rw [e] at hlt; omega)).2 fun y => ?_
  rw [h.2 y, hl]
  simp

set_option maxRecDepth 100000 in
set_option maxHeartbeats 2000000 in
theorem values1_in (n : Nat) (hn : 1 ≤ n) (l Bm b nn : Nat) (L : List Ru) (hL : Rise L) (J Jx : List Ru → World → Prop)
    (hY : ∀ pre x W, J pre W → pre.length < L.length → YieldAt Fence.wide (n - 1) Try.prog l #[x.val] W fun e W' =>
      (e = .returned (.bool true) ∧ J (pre ++ [x]) W' ∧ KeepsWalks W W') ∨ (e = .returned (.bool false) ∧ Jx (pre ++ [x]) W'))
    (W : World) (hJ : AbidesFrom W.heap.size J) (hm : W.cell? ⟨Bm, 0, none⟩ = some (.map (some b))) (hown : W.ownsMap Try.prog 3 ruR b nn (dm L)) (h0 : J [] W) :
    CallsIn Fence.wide n Try.prog 36 #[.func (.yield l) #[] #[], .pointer (some ⟨Bm, 0, none⟩)] W fun e W' => (∃ v, e = .returned v) ∧
      ((∃ ss, ss.Perm L ∧ J ss W') ∨ (∃ pre : List Ru, True ∧ Jx pre W')) := by
  refine callsIn_of_wp Try.func36 rfl trivial ?_ rfl
  simp only [Try.ntmps36, List.size_toArray, List.length_cons, List.length_nil, Nat.reduceAdd, Nat.reduceSub, Array.replicate_succ, Array.replicate_zero, List.push_toArray, List.append_toArray, List.nil_append, List.cons_append]
  gi_wp2_with (first
    | (gi_at_range; refine wpListIn_range_own _ rfl _ 53 rfl 3 44 (int_keyed Try.underlying3) Try.underlying53 _ b nn _ rfl hown ?_; intro w0 hrg0 hg0 hs0)
    | gi_in)
  go_frame
  gi_loopw [4] (fun _ wr => ∃ (left : Lit → Bool) (cnt : Nat) (ss : List Ru), wr.ranges Try.prog 3 ruR b W.heap.size nn (dm L) left cnt ∧ ss.length + cnt ≤ L.length ∧ Coll L left ss ∧ J ss wr)
    (fun _ wr => wr.rangeLeft b W.heap.size)
  case atStart =>
    exact ⟨_, _, [], hrg0, by simp [dm_size], Coll.start L, hJ [] W w0 none h0 hg0 (fun r e => by cases e)⟩
  case round =>
    obtain ⟨left, cnt, ss, hrg, hcs, hC, hJs⟩ := hrel
    gi_wp2_with (first
      | (gi_at_next; refine wpListIn_next_ranges _ rfl _ rfl 3 (int_keyed Try.underlying3) ruR (Value.int .i64) Ru.val (fun key kl hk => by obtain ⟨x, hx, _⟩ := Maps.keyOf_int_inv Try.underlying3 hk; exact ⟨x, hx⟩) (fun v y hv => by obtain ⟨r, hr, _⟩ := ruR_inv hv; exact ⟨r, hr⟩) b W.heap.size nn _ _ _ rfl hrg ?_ ?_)
      | gi_in)
    · intro hc0 hl0
      gi_wp2
      go_end0
      exact ⟨⟨_, rfl⟩, .inl ⟨ss, hC.perm hL hl0, hJs⟩⟩
    · intro k x kl yd yp w2 cnt2 hkey hlk hv hat hrg2 hlt hg2 hs2 hen
      obtain ⟨k', ex, rfl, _⟩ := Maps.keyOf_int_inv Try.underlying3 hkey
      obtain rfl : k = k' := by simpa using ex
      rw [ruR_val] at hv
      obtain ⟨rfl, rfl⟩ := Prod.mk.inj (Option.some.inj hv)
      obtain ⟨hxL, hxk⟩ := dm_at hat
      have hC2 := hC.step hL hlk hxL hxk
      have hJ2 : J ss w2 := hJ ss wr w2 (some W.heap.size) hJs hg2 (fun r e => by cases e; exact ⟨Nat.le_refl _, hrg.iter_walk⟩)
      have hJ3 : J ss (w2.alloc (.cells #[.int .i64 x.id, .int .i64 x.pr, .int .i64 x.ac, .int .i64 x.sc, .string x.pat] 44)) := hJ ss w2 _ none hJ2 (World.grownBy_alloc w2 _ none) (fun r e => by cases e)
      have hrg3 := hrg2.alloc (.cells #[.int .i64 x.id, .int .i64 x.pr, .int .i64 x.ac, .int .i64 x.sc, .string x.pat] 44)
      obtain ⟨fn, tmps, assign, body, hy, hR⟩ := hY ss x _ hJ3 (by omega)
      have HC := Lib.hid hC2
      unfold Ru.val at hy hen
      clear hs2 hC hC2 hat hkey hv hJ2 hJ3 hJs hxk hxL
      gi_wp2
      refine hR.mono ?_
      rintro e W3 (⟨rfl, hJ4, hk3⟩ | ⟨rfl, hJx3⟩)
      · gi_wp2
        have hrg4 := hrg3.of_walks hk3
        go_roundw
        case rel => exact ⟨_, cnt2, ss ++ [x], hrg4, by simp; omega, HC.out, hJ4⟩
        case measure => rw [hrg4.left_eq, hrg.left_eq]; exact hlt
      · gi_wp2
        refine bodyPost_ret (results_none rfl _ _ _) rfl ?_
        exact ⟨⟨_, rfl⟩, .inr ⟨ss ++ [x], trivial, hJx3⟩⟩

theorem values_in (n : Nat) (mb : Option Nat) (w : World) :
    CallsIn Fence.wide n Try.prog 31 #[.map mb] w fun e w' => e = .returned (.func (.func 36) #[] #[.pointer (some ⟨w.heap.size, 0, none⟩)]) ∧ w' = w.alloc (.cells #[.map mb] 53) := by
  refine callsIn_of_wp Try.func31 rfl trivial ?_ rfl
  simp only [Try.ntmps31, List.size_toArray, List.length_cons, List.length_nil, Nat.reduceAdd, Nat.reduceSub, Array.replicate_succ, Array.replicate_zero, List.push_toArray, List.append_toArray, List.nil_append, List.cons_append]
  gi_wp2
  go_ret
  exact ⟨rfl, rfl⟩

theorem values_stops (n : Nat) (hn : 1 ≤ n) (Bm b nn : Nat) (L : List Ru) (hL : Rise L) (w : World) (hBm : Bm < w.heap.size) (hm : w.cell? ⟨Bm, 0, none⟩ = some (.map (some b))) (hown : w.ownsMap Try.prog 3 ruR b nn (dm L)) :
    SeqStopsK Fence.wide n Try.prog 36 #[.pointer (some ⟨Bm, 0, none⟩)] (fun x : Ru => #[x.val]) KeepsWalks (fun ss => ss.Perm L) (fun _ => True) L.length w := fun l J Jx W hW hJ _ hY h0 => by
  have hown' : W.ownsMap Try.prog 3 ruR b nn (dm L) := by
    have hbl := hown.lt
    obtain ⟨es, clock, hb, Ft, hs, hD⟩ := hown
    exact ⟨es, clock, (hW.block b hbl).trans hb, Ft, hs, hD⟩
  exact values1_in n hn l Bm b nn L hL J Jx hY W hJ ((hW.cell (p := ⟨Bm, 0, none⟩) hBm).trans hm) hown' h0

end Go.Proofs.Ytifpfpgibjmibaa
