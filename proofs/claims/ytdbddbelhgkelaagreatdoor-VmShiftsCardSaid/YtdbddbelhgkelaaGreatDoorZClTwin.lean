/- class.Twin and the reference's Twin. -/
import Derived.Test.YtdbddbelhgkelaaGreatDoorZMClass
namespace Go.Proofs.YtdbddbelhgkelaaGreatDoor.Cl
open Go.RowKit

/-- The variables lower and upper, below a number of blocks. -/
def LU (n₀ : Nat) (w : World) : Prop := 1 < n₀ ∧ w.cell? ⟨0, 0, none⟩ = some (.int .i64 97) ∧ w.cell? ⟨0, 1, none⟩ = some (.int .i64 122) ∧ w.cell? ⟨1, 0, none⟩ = some (.int .i64 65) ∧ w.cell? ⟨1, 1, none⟩ = some (.int .i64 90)
theorem LU.below {n₀ : Nat} {w w' : World} (h : LU n₀ w) (hB : Below n₀ w w') : LU n₀ w' := by
  obtain ⟨h1, a, b, c, d⟩ := h
  have h0 : 0 < n₀ := by omega
  exact ⟨h1, (hB.cell (p := ⟨0, 0, none⟩) h0).trans a, (hB.cell (p := ⟨0, 1, none⟩) h0).trans b, (hB.cell (p := ⟨1, 0, none⟩) h1).trans c, (hB.cell (p := ⟨1, 1, none⟩) h1).trans d⟩
theorem LU.more {n₀ n₁ : Nat} {w : World} (h : LU n₀ w) (hn : n₀ ≤ n₁) : LU n₁ w := ⟨by have := h.1; omega, h.2⟩
theorem LU.on {w w' : World} (h : LU w.heap.size w) (hB : Below w.heap.size w w') : LU w'.heap.size w' := (h.below hB).more hB.size

set_option maxHeartbeats 1000000 in
theorem twin_any (u : Int) (w : World) (hL : LU w.heap.size w) : Calls Tryz.prog 103 #[.int .i64 u] w fun e w' => e = .returned (.int .i64 (tw u)) ∧ Below w.heap.size w w' := by
  obtain ⟨h1, a, b, c, d⟩ := id hL
  cases hlo : inB (97, 122) u
  · cases hup : inB (65, 90) u
    · have HLo := Lib.hid hlo
      have HUp := Lib.hid hup
      go_enter Tryz.func103, Tryz.ntmps103
      go_wp2_with fail
      refine (has_any _ _ _ _).mono ?_
      rintro e w1 ⟨rfl, hb1⟩
      obtain ⟨_, a1, b1, c1, d1⟩ := hL.below hb1
      go_wp2_with fail
      refine (has_any _ _ _ _).mono ?_
      rintro e w2 ⟨rfl, hb2⟩
      go_wp2
      go_ret
      refine ⟨ret_int ?_, hb1.trans (hb2.mono hb1.size)⟩
      have x1 := HLo.out
      have x2 := HUp.out
      simp only [inB, decide_eq_false_iff_not] at x1 x2
      unfold tw
      rw [if_neg x1, if_neg x2]
    · have HLo := Lib.hid hlo
      have HUp := (inB_iff _ _).1 hup
      simp only at HUp
      obtain ⟨u1, u2⟩ := HUp
      go_enter Tryz.func103, Tryz.ntmps103
      go_wp2_with fail
      refine (has_any _ _ _ _).mono ?_
      rintro e w1 ⟨rfl, hb1⟩
      obtain ⟨_, a1, b1, c1, d1⟩ := hL.below hb1
      go_wp2_with fail
      refine (has_any _ _ _ _).mono ?_
      rintro e w2 ⟨rfl, hb2⟩
      obtain ⟨_, a2, b2, c2, d2⟩ := hL.below (hb1.trans (hb2.mono hb1.size))
      go_wp2
      go_ret
      refine ⟨ret_int ?_, hb1.trans (hb2.mono hb1.size)⟩
      unfold tw
      rw [if_neg (by omega), if_pos ⟨u1, u2⟩]
      omega
  · have HLo := (inB_iff _ _).1 hlo
    simp only at HLo
    obtain ⟨u1, u2⟩ := HLo
    go_enter Tryz.func103, Tryz.ntmps103
    go_wp2_with fail
    refine (has_any _ _ _ _).mono ?_
    rintro e w1 ⟨rfl, hb1⟩
    obtain ⟨_, a1, b1, c1, d1⟩ := hL.below hb1
    go_wp2
    go_ret
    refine ⟨ret_int ?_, hb1⟩
    unfold tw
    rw [if_pos ⟨u1, u2⟩]
    omega

theorem small_at : ∀ k : Fin 26, ((⟨#[97, 98, 99, 100, 101, 102, 103, 104, 105, 106, 107, 108, 109, 110, 111, 112, 113, 114, 115, 116, 117, 118, 119, 120, 121, 122]⟩ : ByteArray)[k.1]'(by have := k.2; exact this)).toNat = 97 + k.1 := by decide
theorem big_at : ∀ k : Fin 26, ((⟨#[65, 66, 67, 68, 69, 70, 71, 72, 73, 74, 75, 76, 77, 78, 79, 80, 81, 82, 83, 84, 85, 86, 87, 88, 89, 90]⟩ : ByteArray)[k.1]'(by have := k.2; exact this)).toNat = 65 + k.1 := by decide

end Go.Proofs.YtdbddbelhgkelaaGreatDoor.Cl
