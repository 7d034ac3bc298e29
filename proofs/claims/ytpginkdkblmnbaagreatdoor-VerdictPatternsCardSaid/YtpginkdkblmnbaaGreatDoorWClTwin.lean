import Derived.Test.YtpginkdkblmnbaaGreatDoorWMClass
namespace Go.Proofs.YtpginkdkblmnbaaGreatDoor
namespace Cl
open Go.RowKit
def LU (n₀ : Nat) (w : World) : Prop := 1 < n₀ ∧ w.cell? ⟨0, 0, none⟩ = some (.int .i64 97) ∧ w.cell? ⟨0, 1, none⟩ = some (.int .i64 122) ∧ w.cell? ⟨1, 0, none⟩ = some (.int .i64 65) ∧ w.cell? ⟨1, 1, none⟩ = some (.int .i64 90)
theorem LU.below {n₀ : Nat} {w w' : World} (h : LU n₀ w) (hB : Below n₀ w w') : LU n₀ w' := by
 obtain ⟨h1, a, b, c, d⟩ := h
 have h0 : 0 < n₀ := by omega
 exact ⟨h1, (hB.cell (p := ⟨0, 0, none⟩) h0).trans a, (hB.cell (p := ⟨0, 1, none⟩) h0).trans b, (hB.cell (p := ⟨1, 0, none⟩) h1).trans c, (hB.cell (p := ⟨1, 1, none⟩) h1).trans d⟩
theorem LU.more {n₀ n₁ : Nat} {w : World} (h : LU n₀ w) (hn : n₀ ≤ n₁) : LU n₁ w := ⟨by have := h.1; omega, h.2⟩
theorem LU.on {w w' : World} (h : LU w.heap.size w) (hB : Below w.heap.size w w') : LU w'.heap.size w' := (h.below hB).more hB.size
set_option maxHeartbeats 1000000 in
theorem Îa (u : Int) (w : World) (hL : LU w.heap.size w) : Calls Tryz.prog 113 #[.int .i64 u] w fun e w' => e = .returned (.int .i64 (tw u)) ∧ Below w.heap.size w w' := by
 obtain ⟨h1, a, b, c, d⟩ := id hL;cases hlo : inB (97, 122) u
 ·cases hup : inB (65, 90) u
  ·have HLo := ħ hlo
   have HUp := ħ hup;go_enter Tryz.func113, Tryz.ntmps113
   go_wp2_with fail
   refine (ÃQ _ _ _ _).mono ?_;rintro e w1 ⟨rfl, hb1⟩;obtain ⟨_, a1, b1, c1, d1⟩ := hL.below hb1
   go_wp2_with fail
   refine (ÃQ _ _ _ _).mono ?_;rintro e w2 ⟨rfl, hb2⟩;go_wp2;go_ret;refine ⟨Åm ?_, hb1.trans (hb2.mono hb1.size)⟩;have x1 := HLo.o;have x2 := HUp.o;simp only [inB, decide_eq_false_iff_not] at x1 x2;unfold tw;rw [if_neg x1, if_neg x2]
  ·have HLo := ħ hlo
   have HUp := (Áu _ _).1 hup;simp only at HUp;obtain ⟨u1, u2⟩ := HUp;go_enter Tryz.func113, Tryz.ntmps113
   go_wp2_with fail
   refine (ÃQ _ _ _ _).mono ?_;rintro e w1 ⟨rfl, hb1⟩;obtain ⟨_, a1, b1, c1, d1⟩ := hL.below hb1
   go_wp2_with fail
   refine (ÃQ _ _ _ _).mono ?_;rintro e w2 ⟨rfl, hb2⟩;obtain ⟨_, a2, b2, c2, d2⟩ := hL.below (hb1.trans (hb2.mono hb1.size));go_wp2;go_ret;refine ⟨Åm ?_, hb1.trans (hb2.mono hb1.size)⟩;unfold tw
   rw [if_neg (by omega), if_pos ⟨u1, u2⟩]
   omega
 ·have HLo := (Áu _ _).1 hlo
  simp only at HLo;obtain ⟨u1, u2⟩ := HLo;go_enter Tryz.func113, Tryz.ntmps113
  go_wp2_with fail
  refine (ÃQ _ _ _ _).mono ?_;rintro e w1 ⟨rfl, hb1⟩;obtain ⟨_, a1, b1, c1, d1⟩ := hL.below hb1;go_wp2;go_ret;refine ⟨Åm ?_, hb1⟩;unfold tw;rw [if_pos ⟨u1, u2⟩];omega
end Cl
end Go.Proofs.YtpginkdkblmnbaaGreatDoor
