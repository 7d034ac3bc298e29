/- ParseRepeats' walk, whole. -/
import Derived.Test.YthipgidddgdojaaDoorMRn
import Derived.Test.YthipgidddgdojaaDoorMRq
import Derived.Test.YthipgidddgdojaaDoorMRp
namespace Go.Proofs.YthipgidddgdojaaDoor
open Go.RowKit
open Go.Proofs.YthipgidddgdojaaDoor.Cl (Rg SetV SetAt rgCells hasB setHas_any same_any sameB_refl)
variable {w w' : World}

set_option maxRecDepth 100000 in
set_option maxHeartbeats 2000000 in
theorem rep_out (c : Nat) (hc : isCh c) (lo hi mode : Int) (hbad : ((c : Int) < 128 ∧ hasB [((48 : Int), (57 : Int)), (65, 90), (97, 122)] (c : Int) = false) ∨ lo < 0 ∨ 99 < lo ∨ hi < -1 ∨ 99 < hi ∨ mode < 0 ∨ 2 < mode) (hT : TabsAt w.heap.size w) :
    Calls Tryd.prog 5 #[.int .i64 (c : Int), .int .i64 lo, .int .i64 hi, .int .i64 mode] w fun e w' => e = .returned (.bool true) ∧ Below w.heap.size w w' := by
  have HA := Lib.hid (anchor_any hT)
  clear hT
  have HCH : Hid (charB (c : Int) = true) := Lib.hid (by obtain ⟨q1, q2⟩ := hc; simp [charB]; omega)
  have HBAD0 := Lib.hid hbad
  clear hc hbad
  by_cases h128 : (c : Int) < 128
  · cases hal : hasB [((48 : Int), (57 : Int)), (65, 90), (97, 122)] (c : Int) with
    | false =>
      have HAL := Lib.hid hal
      clear hal HBAD0
      go_enter Tryd.func5, Tryd.ntmps5
      go_wp2_with fail
      refine HA.out.mono ?_
      rintro e w0 ⟨rfl, hb0⟩
      go_wp2_with fail
      refine (char_is (c : Int) true HCH.out _).mono ?_
      rintro e wy ⟨rfl, hwy⟩
      rw [hwy]
      clear hwy wy
      have HL : Hid (SetV (w0.heap.size + 1) (w0.alloc (.cells #[.int .i64 48, .int .i64 57, .int .i64 65, .int .i64 90, .int .i64 97, .int .i64 122] 39)) (.slice (some ⟨w0.heap.size, 0, none⟩) 3 3) [((48 : Int), (57 : Int)), (65, 90), (97, 122)]) := Lib.hid (set_lit w0 [((48 : Int), (57 : Int)), (65, 90), (97, 122)] 3 rfl)
      have hal := (Below.refl w0.heap.size w0).alloc (Nat.le_refl _) (.cells #[.int .i64 48, .int .i64 57, .int .i64 65, .int .i64 90, .int .i64 97, .int .i64 122] 39)
      go_wp2_with fail
      refine (setHas_any _ [((48 : Int), (57 : Int)), (65, 90), (97, 122)] (c : Int) _ (by simp) (by rw [World.size_alloc]; exact HL.out)).mono ?_
      rintro e wx ⟨rfl, hbh⟩
      have hbx := hb0.trans ((hal.trans (hbh.mono hal.size)).mono hb0.size)
      rw [HAL.out]
      clear hal hbh HL hb0
      go_wp2
      go_ret
      exact ⟨rfl, hbx⟩
    | true =>
      have HAL := Lib.hid hal
      have HBAD : Hid (lo < 0 ∨ 99 < lo ∨ hi < -1 ∨ 99 < hi ∨ mode < 0 ∨ 2 < mode) := Lib.hid (by
        rcases HBAD0.out with ⟨_, h⟩ | h
        · rw [hal] at h; cases h
        · exact h)
      clear hal HBAD0
      go_enter Tryd.func5, Tryd.ntmps5
      go_wp2_with fail
      refine HA.out.mono ?_
      rintro e w0 ⟨rfl, hb0⟩
      go_wp2_with fail
      refine (char_is (c : Int) true HCH.out _).mono ?_
      rintro e wy ⟨rfl, hwy⟩
      rw [hwy]
      clear hwy wy
      have HL : Hid (SetV (w0.heap.size + 1) (w0.alloc (.cells #[.int .i64 48, .int .i64 57, .int .i64 65, .int .i64 90, .int .i64 97, .int .i64 122] 39)) (.slice (some ⟨w0.heap.size, 0, none⟩) 3 3) [((48 : Int), (57 : Int)), (65, 90), (97, 122)]) := Lib.hid (set_lit w0 [((48 : Int), (57 : Int)), (65, 90), (97, 122)] 3 rfl)
      have hal := (Below.refl w0.heap.size w0).alloc (Nat.le_refl _) (.cells #[.int .i64 48, .int .i64 57, .int .i64 65, .int .i64 90, .int .i64 97, .int .i64 122] 39)
      go_wp2_with fail
      refine (setHas_any _ [((48 : Int), (57 : Int)), (65, 90), (97, 122)] (c : Int) _ (by simp) (by rw [World.size_alloc]; exact HL.out)).mono ?_
      rintro e wx ⟨rfl, hbh⟩
      have hbx := hb0.trans ((hal.trans (hbh.mono hal.size)).mono hb0.size)
      rw [HAL.out]
      clear hal hbh HL hb0
      by_cases c1 : lo < 0
      · go_wp2
        go_ret
        exact ⟨rfl, hbx⟩
      by_cases c2 : 99 < lo
      · go_wp2
        go_ret
        exact ⟨rfl, hbx⟩
      by_cases c3 : hi < -1
      · go_wp2
        go_ret
        exact ⟨rfl, hbx⟩
      by_cases c4 : 99 < hi
      · go_wp2
        go_ret
        exact ⟨rfl, hbx⟩
      by_cases c5 : mode < 0
      · go_wp2
        go_ret
        exact ⟨rfl, hbx⟩
      by_cases c6 : 2 < mode
      · go_wp2
        go_ret
        exact ⟨rfl, hbx⟩
      exact absurd HBAD.out (by omega)
  · have HBAD : Hid (lo < 0 ∨ 99 < lo ∨ hi < -1 ∨ 99 < hi ∨ mode < 0 ∨ 2 < mode) := Lib.hid (by
      rcases HBAD0.out with ⟨h, _⟩ | h
      · exact absurd h h128
      · exact h)
    clear HBAD0
    go_enter Tryd.func5, Tryd.ntmps5
    go_wp2_with fail
    refine HA.out.mono ?_
    rintro e wx ⟨rfl, hbx⟩
    go_wp2_with fail
    refine (char_is (c : Int) true HCH.out _).mono ?_
    rintro e wy ⟨rfl, hwy⟩
    rw [hwy]
    clear hwy wy
    by_cases c1 : lo < 0
    · go_wp2
      go_ret
      exact ⟨rfl, hbx⟩
    by_cases c2 : 99 < lo
    · go_wp2
      go_ret
      exact ⟨rfl, hbx⟩
    by_cases c3 : hi < -1
    · go_wp2
      go_ret
      exact ⟨rfl, hbx⟩
    by_cases c4 : 99 < hi
    · go_wp2
      go_ret
      exact ⟨rfl, hbx⟩
    by_cases c5 : mode < 0
    · go_wp2
      go_ret
      exact ⟨rfl, hbx⟩
    by_cases c6 : 2 < mode
    · go_wp2
      go_ret
      exact ⟨rfl, hbx⟩
    exact absurd HBAD.out (by omega)

set_option maxRecDepth 100000 in
set_option maxHeartbeats 2000000 in
theorem rep_no_char (u lo hi mode : Int) (hch : charB u = false) (hT : TabsAt w.heap.size w) :
    Calls Tryd.prog 5 #[.int .i64 u, .int .i64 lo, .int .i64 hi, .int .i64 mode] w fun e w' => e = .returned (.bool true) ∧ Below w.heap.size w w' := by
  have HA := Lib.hid (anchor_any hT)
  clear hT
  go_enter Tryd.func5, Tryd.ntmps5
  go_wp2_with fail
  refine HA.out.mono ?_
  rintro e w0 ⟨rfl, hb0⟩
  go_wp2_with fail
  refine (char_is u false hch _).mono ?_
  rintro e w1 ⟨rfl, hw1⟩
  rw [hw1]
  clear hw1 w1
  go_wp2
  go_ret
  exact ⟨rfl, hb0⟩

theorem parseRepeats_law (u lo hi mode : Int) (w : World) (hT : TabsAt w.heap.size w) : Calls Tryd.prog 5 #[.int .i64 u, .int .i64 lo, .int .i64 hi, .int .i64 mode] w fun e w' => e = .returned (.bool true) ∧ Below w.heap.size w w' := by
  cases hch : charB u with
  | false => exact rep_no_char u lo hi mode hch hT
  | true =>
    have hc := isCh_of hch
    obtain ⟨c, rfl⟩ : ∃ c : Nat, u = (c : Int) := ⟨u.toNat, by simp [charB] at hch; omega⟩
    rw [Int.toNat_natCast] at hc
    by_cases hbad : ((c : Int) < 128 ∧ hasB [((48 : Int), (57 : Int)), (65, 90), (97, 122)] (c : Int) = false) ∨ lo < 0 ∨ 99 < lo ∨ hi < -1 ∨ 99 < hi ∨ mode < 0 ∨ 2 < mode
    · exact rep_out c hc lo hi mode hbad hT
    · have ha : (c : Int) < 128 → hasB [((48 : Int), (57 : Int)), (65, 90), (97, 122)] (c : Int) = true := fun h => by
        cases hal : hasB [((48 : Int), (57 : Int)), (65, 90), (97, 122)] (c : Int) with
        | false => exact absurd (.inl ⟨h, hal⟩) hbad
        | true => rfl
      have hs : isSign (c : Int) = false := by
        by_cases h : (c : Int) < 128
        · exact alnum_no_sign _ (ha h)
        · simp [isSign]; omega
      have hr : ¬ (lo < 0 ∨ 99 < lo ∨ hi < -1 ∨ 99 < hi ∨ mode < 0 ∨ 2 < mode) := fun h => hbad (.inr h)
      obtain ⟨l, rfl⟩ : ∃ l : Nat, lo = (l : Int) := ⟨lo.toNat, by omega⟩
      by_cases hn : hi = -1
      · subst hn
        obtain rfl | rfl | rfl : mode = 0 ∨ mode = 1 ∨ mode = 2 := by omega
        · exact rep_neg0 c hc hs ha l (by omega) hT
        · exact rep_neg1 c hc hs ha l (by omega) hT
        · exact rep_neg2 c hc hs ha l (by omega) hT
      · obtain ⟨k, rfl⟩ : ∃ k : Nat, hi = (k : Int) := ⟨hi.toNat, by omega⟩
        obtain rfl | rfl | rfl : mode = 0 ∨ mode = 1 ∨ mode = 2 := by omega
        · exact rep_pos0 c hc hs ha l (by omega) k (by omega) hT
        · exact rep_pos1 c hc hs ha l (by omega) k (by omega) hT
        · exact rep_pos2 c hc hs ha l (by omega) k (by omega) hT

end Go.Proofs.YthipgidddgdojaaDoor
