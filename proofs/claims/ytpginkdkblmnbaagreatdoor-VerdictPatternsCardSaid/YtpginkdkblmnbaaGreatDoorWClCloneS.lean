import Derived.Test.YtpginkdkblmnbaaGreatDoorWMClasses
import Derived.Lib.SliceRun
namespace Go.Proofs.YtpginkdkblmnbaaGreatDoor
namespace Cl
open Go.RowKit
theorem ÊJ (a b c d : Int) (w : World) : Calls Tryz.prog 112 #[.agg #[.int .i64 a, .int .i64 b], .agg #[.int .i64 c, .int .i64 d]] w fun e w' =>
 e = .returned (.tuple #[.agg #[.int .i64 (max a c), .int .i64 (min b d)], .bool (decide (max a c ≤ min b d))]) ∧ Below w.heap.size w w' := by
 have key : ∀ x y : Int, (x = a ∧ c ≤ a ∨ x = c ∧ a < c) → (y = b ∧ b ≤ d ∨ y = d ∧ d < b) → Calls Tryz.prog 112 #[.agg #[.int .i64 a, .int .i64 b], .agg #[.int .i64 c, .int .i64 d]] w fun e w' =>
  e = .returned (.tuple #[.agg #[.int .i64 x, .int .i64 y], .bool (decide (x ≤ y))]) ∧ Below w.heap.size w w' := by
  rintro x y (⟨rfl, h1⟩ | ⟨rfl, h1⟩) (⟨rfl, h2⟩ | ⟨rfl, h2⟩)
  all_goals
   go_enter Tryz.func112, Tryz.ntmps112;go_wp2
   go_region
   go_wp2
   refine bodyPost_ret (v := .tuple #[.agg #[.int .i64 _, .int .i64 _], .bool (decide (_ ≤ _))]) (by simp [results, Tryz.results112, go_sem] <;> omega) rfl ⟨rfl, ?_⟩
   exact (((((ā _ _).alloc (ŋ _) _).alloc (by simp) _).alloc (by simp; omega) _).alloc (by simp; omega) _).drew
 exact key _ _ (by omega) (by omega)
set_option maxHeartbeats 1000000 in
theorem Èj (v : Value) (l : List Rg) (w : World) (hmax : l.length ≤ 1000000) (hS : à w.heap.size w v l) :
 Calls Tryz.prog 111 #[v] w fun e w' => ∃ v', e = .returned v' ∧ Own w' w.heap.size 164 v' l ∧ Below w.heap.size w w' := by
 obtain ⟨A, cap, rfl, hcap, hS0⟩ := id hS;obtain ⟨i0, hi, hz0, hz1, hz2⟩ := Á info46
 have q : ∀ (w : World) (a : Option Addr) (n c n' c' : Nat), (binOp .eql 24 (.slice a n c) (.slice none n' c')).run Tryz.prog w = .ok (.bool a.isNone) w := fun w a n c n' c' => Lib.run_eql_slice_nil w _ _ a n c n' c' Tryz.underlying24
 cases A with
 | none =>
  obtain rfl : l = [] := by
   refine Decidable.byContradiction fun hne => ?_
   obtain ⟨b, off, h, _⟩ := hS0 hne;cases h
  clear hS0 hS;go_enter Tryz.func111, Tryz.ntmps111;go_wp2;go_ret;exact ⟨_, rfl, Own.nil _ _ _, ā _ _⟩
 | some a =>
  clear hS0;have hB := (ā w.heap.size w).alloc (ŋ _) (.cells #[] 164);have hO := Äv w w.heap.size 164 (ŋ _);have hS1 := hS.below hB;go_enter Tryz.func111, Tryz.ntmps111
  go_wp2_with (at_builtin; refine í _ rfl _ _ 24 rfl w.heap.size 164 i0 (.agg #[.int .i64 0, .int .i64 0]) 16 Tryz.underlying24 hi hz0 hz1 hz2 rfl _ _ rfl hO w.heap.size _ l rfl hS1 (by unfold maxLen; simp; omega) (by simp; omega) (by simp) ?_; intro v' w1 hown' hgrow)
  go_ret
  exact ⟨_, rfl, hown', ö hB hO (ŋ _) hgrow (by simp)⟩
end Cl
end Go.Proofs.YtpginkdkblmnbaaGreatDoor
