import Derived.Test.YtpginkdkblmnbaaGreatDoorXMModel
import Derived.Test.YtpginkdkblmnbaaGreatDoorXMClass
import Derived.BigQuiet
import Derived.IntWalk
namespace Go.Proofs.YtpginkdkblmnbaaGreatDoor
section
open Go.RowKit
variable {w w' : World}
theorem Ĺ (x : Int) : Calls Tryz.prog 38 #[.int .i64 x] w fun e w' => e = .returned (.int .i64 (ä x)) ∧ w = w' := by
 by_cases h : (1048576 : Int) < x
 ·have e : ä x = 1048576 := by unfold ä far; rw [if_pos h]
  rw [e];go_enter Tryz.func38, Tryz.ntmps38;go_wp2;go_ret;exact ⟨rfl, rfl⟩
 ·have e : ä x = x := by unfold ä far; rw [if_neg h]
  have h' : ¬ (1048576 : Int) < x := h;rw [e];clear h;go_enter Tryz.func38, Tryz.ntmps38;go_wp2;go_ret;exact ⟨rfl, rfl⟩
theorem ÂY (x : Int) : Calls Tryz.prog 66 #[.int .i64 x] w fun e w' => e = .returned (.int .i64 (Às x)) ∧ w = w' := by
 by_cases h : (1048576 : Int) < x
 ·have e : Às x = -1 := by unfold Às far; rw [if_pos h]
  rw [e];go_enter Tryz.func66, Tryz.ntmps66;go_wp2;go_ret;exact ⟨rfl, rfl⟩
 ·have e : Às x = x := by unfold Às far; rw [if_neg h]
  rw [e];go_enter Tryz.func66, Tryz.ntmps66;go_wp2;go_ret;exact ⟨rfl, rfl⟩
theorem Áx (a b : Int) (ha : -1 ≤ a ∧ a ≤ 1048576) (hb : -1 ≤ b ∧ b ≤ 1048576) : Calls Tryz.prog 64 #[.int .i64 a, .int .i64 b] w fun e w' => e = .returned (.int .i64 (ÂG a b)) ∧ w = w' := by
 obtain ⟨a1, a2⟩ := ha;obtain ⟨b1, b2⟩ := hb
 by_cases h1 : a = -1
 ·subst h1
  have e : ÂG (-1) b = -1 := by simp [ÂG]
  rw [e];go_enter Tryz.func64, Tryz.ntmps64;go_wp2;go_ret;exact ⟨rfl, rfl⟩
 by_cases h2 : b = -1
 ·subst h2
  have e : ÂG a (-1) = -1 := by simp [ÂG]
  have h1' : (a == -1) = false := by simp [h1]
  rw [e];go_enter Tryz.func64, Tryz.ntmps64;go_wp2;go_ret;exact ⟨rfl, rfl⟩
 have e : ÂG a b = Às (a + b) := by simp [ÂG, h1, h2]
 have h1' : (a == -1) = false := by simp [h1]
 have h2' : (b == -1) = false := by simp [h2]
 have HG := ħ (ÂY (w := w) (a + b));rw [e];clear e;go_enter Tryz.func64, Tryz.ntmps64
 go_wp2_with fail
 refine HG.o.mono ?_;rintro e w1 ⟨rfl, rfl⟩;go_wp2;go_ret;exact ⟨rfl, rfl⟩
theorem ÅU (a b : Int) (ha : -1 ≤ a ∧ a ≤ 1048576) (hb : -1 ≤ b ∧ b ≤ 1048576) : Calls Tryz.prog 65 #[.int .i64 a, .int .i64 b] w fun e w' => e = .returned (.int .i64 (ÁI a b)) ∧ w = w' := by
 obtain ⟨a1, a2⟩ := ha;obtain ⟨b1, b2⟩ := hb
 by_cases h1 : a = -1
 ·subst h1
  have e : ÁI (-1) b = -1 := by simp [ÁI]
  rw [e];go_enter Tryz.func65, Tryz.ntmps65;go_wp2;go_ret;exact ⟨rfl, rfl⟩
 by_cases h2 : b = -1
 ·subst h2
  have e : ÁI a (-1) = -1 := by simp [ÁI]
  have h1' : (a == -1) = false := by simp [h1]
  rw [e];go_enter Tryz.func65, Tryz.ntmps65;go_wp2;go_ret;exact ⟨rfl, rfl⟩
 have h1' : (a == -1) = false := by simp [h1]
 have h2' : (b == -1) = false := by simp [h2]
 by_cases h3 : a < b
 ·have e : ÁI a b = b := by simp [ÁI, h1, h2]; omega
  rw [e];clear e;go_enter Tryz.func65, Tryz.ntmps65;go_wp2;go_ret;exact ⟨rfl, rfl⟩
 ·have e : ÁI a b = a := by simp [ÁI, h1, h2]; omega
  rw [e];clear e;go_enter Tryz.func65, Tryz.ntmps65;go_wp2;go_ret;exact ⟨rfl, rfl⟩
theorem ÆI (m x : Int) (hm : -1 ≤ m ∧ m ≤ 64) (hx : -1 ≤ x ∧ x ≤ 1048576) : Calls Tryz.prog 39 #[.int .i64 m, .int .i64 x] w fun e w' => e = .returned (.int .i64 (Àt m x)) ∧ w = w' := by
 obtain ⟨a1, a2⟩ := hm;obtain ⟨b1, b2⟩ := hx
 by_cases h1 : m = 0
 ·subst h1
  have e : Àt 0 x = 0 := by simp [Àt]
  rw [e];go_enter Tryz.func39, Tryz.ntmps39;go_wp2;go_ret;exact ⟨rfl, rfl⟩
 have h1' : (m == 0) = false := by simp [h1]
 by_cases h2 : x = 0
 ·subst h2
  have e : Àt m 0 = 0 := by simp [Àt]
  rw [e];go_enter Tryz.func39, Tryz.ntmps39;go_wp2;go_ret;exact ⟨rfl, rfl⟩
 have h2' : (x == 0) = false := by simp [h2]
 by_cases h3 : m = -1
 ·subst h3
  have e : Àt (-1) x = -1 := by simp [Àt, h2]
  rw [e];go_enter Tryz.func39, Tryz.ntmps39;go_wp2;go_ret;exact ⟨rfl, rfl⟩
 have h3' : (m == -1) = false := by simp [h3]
 by_cases h4 : x = -1
 ·subst h4
  have e : Àt m (-1) = -1 := by simp [Àt, h1]
  rw [e];go_enter Tryz.func39, Tryz.ntmps39;go_wp2;go_ret;exact ⟨rfl, rfl⟩
 have h4' : (x == -1) = false := by simp [h4]
 have e : Àt m x = Às (m * x) := by simp [Àt, h1, h2, h3, h4]
 have HG := ħ (ÂY (w := w) (m * x))
 have p0 : 0 ≤ m * x := Int.mul_nonneg (by omega) (by omega)
 have p1 : m * x ≤ 64 * 1048576 := Int.mul_le_mul (by omega) b2 (by omega) (by omega)
 rw [e];clear e;go_enter Tryz.func39, Tryz.ntmps39
 go_wp2_with fail
 refine HG.o.mono ?_;rintro e w1 ⟨rfl, rfl⟩;go_wp2;go_ret;exact ⟨rfl, rfl⟩
end
end Go.Proofs.YtpginkdkblmnbaaGreatDoor
