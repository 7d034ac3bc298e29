import Derived.Test.YtpginkdkblmnbaaGreatDoorWMModel
import Derived.Test.YtpginkdkblmnbaaGreatDoorWMClass
import Derived.BigQuiet
import Derived.IntWalk
namespace Go.Proofs.YtpginkdkblmnbaaGreatDoor
section
open Go.RowKit
variable {w w' : World}
theorem ň (x : Int) : Calls Tryz.prog 38 #[.int .i64 x] w fun e w' => e = .returned (.int .i64 (Ï x)) ∧ w = w' := by
 by_cases h : (1048576 : Int) < x
 ·have e : Ï x = 1048576 := by unfold Ï far; rw [if_pos h]
  rw [e];go_enter Tryz.func38, Tryz.ntmps38;go_wp2;go_ret;exact ⟨rfl, rfl⟩
 ·have e : Ï x = x := by unfold Ï far; rw [if_neg h]
  have h' : ¬ (1048576 : Int) < x := h;rw [e];clear h;go_enter Tryz.func38, Tryz.ntmps38;go_wp2;go_ret;exact ⟨rfl, rfl⟩
theorem ÃN (x : Int) : Calls Tryz.prog 66 #[.int .i64 x] w fun e w' => e = .returned (.int .i64 (ÀM x)) ∧ w = w' := by
 by_cases h : (1048576 : Int) < x
 ·have e : ÀM x = -1 := by unfold ÀM far; rw [if_pos h]
  rw [e];go_enter Tryz.func66, Tryz.ntmps66;go_wp2;go_ret;exact ⟨rfl, rfl⟩
 ·have e : ÀM x = x := by unfold ÀM far; rw [if_neg h]
  rw [e];go_enter Tryz.func66, Tryz.ntmps66;go_wp2;go_ret;exact ⟨rfl, rfl⟩
theorem Âh (a b : Int) (ha : -1 ≤ a ∧ a ≤ 1048576) (hb : -1 ≤ b ∧ b ≤ 1048576) : Calls Tryz.prog 64 #[.int .i64 a, .int .i64 b] w fun e w' => e = .returned (.int .i64 (Ãq a b)) ∧ w = w' := by
 obtain ⟨a1, a2⟩ := ha;obtain ⟨b1, b2⟩ := hb
 by_cases h1 : a = -1
 ·subst h1
  have e : Ãq (-1) b = -1 := by simp [Ãq]
  rw [e];go_enter Tryz.func64, Tryz.ntmps64;go_wp2;go_ret;exact ⟨rfl, rfl⟩
 by_cases h2 : b = -1
 ·subst h2
  have e : Ãq a (-1) = -1 := by simp [Ãq]
  have h1' : (a == -1) = false := by simp [h1]
  rw [e];go_enter Tryz.func64, Tryz.ntmps64;go_wp2;go_ret;exact ⟨rfl, rfl⟩
 have e : Ãq a b = ÀM (a + b) := by simp [Ãq, h1, h2]
 have h1' : (a == -1) = false := by simp [h1]
 have h2' : (b == -1) = false := by simp [h2]
 have HG := ħ (ÃN (w := w) (a + b));rw [e];clear e;go_enter Tryz.func64, Tryz.ntmps64
 go_wp2_with fail
 refine HG.o.mono ?_;rintro e w1 ⟨rfl, rfl⟩;go_wp2;go_ret;exact ⟨rfl, rfl⟩
theorem Çh (a b : Int) (ha : -1 ≤ a ∧ a ≤ 1048576) (hb : -1 ≤ b ∧ b ≤ 1048576) : Calls Tryz.prog 65 #[.int .i64 a, .int .i64 b] w fun e w' => e = .returned (.int .i64 (Âp a b)) ∧ w = w' := by
 obtain ⟨a1, a2⟩ := ha;obtain ⟨b1, b2⟩ := hb
 by_cases h1 : a = -1
 ·subst h1
  have e : Âp (-1) b = -1 := by simp [Âp]
  rw [e];go_enter Tryz.func65, Tryz.ntmps65;go_wp2;go_ret;exact ⟨rfl, rfl⟩
 by_cases h2 : b = -1
 ·subst h2
  have e : Âp a (-1) = -1 := by simp [Âp]
  have h1' : (a == -1) = false := by simp [h1]
  rw [e];go_enter Tryz.func65, Tryz.ntmps65;go_wp2;go_ret;exact ⟨rfl, rfl⟩
 have h1' : (a == -1) = false := by simp [h1]
 have h2' : (b == -1) = false := by simp [h2]
 by_cases h3 : a < b
 ·have e : Âp a b = b := by simp [Âp, h1, h2]; omega
  rw [e];clear e;go_enter Tryz.func65, Tryz.ntmps65;go_wp2;go_ret;exact ⟨rfl, rfl⟩
 ·have e : Âp a b = a := by simp [Âp, h1, h2]; omega
  rw [e];clear e;go_enter Tryz.func65, Tryz.ntmps65;go_wp2;go_ret;exact ⟨rfl, rfl⟩
theorem Èc (m x : Int) (hm : -1 ≤ m ∧ m ≤ 64) (hx : -1 ≤ x ∧ x ≤ 1048576) : Calls Tryz.prog 39 #[.int .i64 m, .int .i64 x] w fun e w' => e = .returned (.int .i64 (ÀN m x)) ∧ w = w' := by
 obtain ⟨a1, a2⟩ := hm;obtain ⟨b1, b2⟩ := hx
 by_cases h1 : m = 0
 ·subst h1
  have e : ÀN 0 x = 0 := by simp [ÀN]
  rw [e];go_enter Tryz.func39, Tryz.ntmps39;go_wp2;go_ret;exact ⟨rfl, rfl⟩
 have h1' : (m == 0) = false := by simp [h1]
 by_cases h2 : x = 0
 ·subst h2
  have e : ÀN m 0 = 0 := by simp [ÀN]
  rw [e];go_enter Tryz.func39, Tryz.ntmps39;go_wp2;go_ret;exact ⟨rfl, rfl⟩
 have h2' : (x == 0) = false := by simp [h2]
 by_cases h3 : m = -1
 ·subst h3
  have e : ÀN (-1) x = -1 := by simp [ÀN, h2]
  rw [e];go_enter Tryz.func39, Tryz.ntmps39;go_wp2;go_ret;exact ⟨rfl, rfl⟩
 have h3' : (m == -1) = false := by simp [h3]
 by_cases h4 : x = -1
 ·subst h4
  have e : ÀN m (-1) = -1 := by simp [ÀN, h1]
  rw [e];go_enter Tryz.func39, Tryz.ntmps39;go_wp2;go_ret;exact ⟨rfl, rfl⟩
 have h4' : (x == -1) = false := by simp [h4]
 have e : ÀN m x = ÀM (m * x) := by simp [ÀN, h1, h2, h3, h4]
 have HG := ħ (ÃN (w := w) (m * x))
 have p0 : 0 ≤ m * x := Int.mul_nonneg (by omega) (by omega)
 have p1 : m * x ≤ 64 * 1048576 := Int.mul_le_mul (by omega) b2 (by omega) (by omega)
 rw [e];clear e;go_enter Tryz.func39, Tryz.ntmps39
 go_wp2_with fail
 refine HG.o.mono ?_;rintro e w1 ⟨rfl, rfl⟩;go_wp2;go_ret;exact ⟨rfl, rfl⟩
end
end Go.Proofs.YtpginkdkblmnbaaGreatDoor
