/- Set.Normal and the reference's Normal, of any ranges. -/
import Derived.Test.YthipgidddgdojaaDoorClSmall
import Derived.BigQuiet
import Derived.Deep.QuietTactic
import Derived.IntWalk
namespace Go.Proofs.YthipgidddgdojaaDoor.Cl
open Go.RowKit

theorem ok_zero {l : List Rg} {r : Rg} (h : l[0]? = some r) (hr : rightB r = true) : okAt l 0 := by
  intro x hx
  rw [h] at hx
  cases hx
  exact ⟨(rightB_iff _).1 hr, fun s h0 => absurd h0 (by omega)⟩
theorem ok_succ {l : List Rg} {k : Nat} {r s : Rg} (h : l[k]? = some r) (hs : l[k - 1]? = some s) (hr : rightB r = true) (hd : s.2 + 2 ≤ r.1) : okAt l k := by
  intro x hx
  rw [h] at hx
  cases hx
  refine ⟨(rightB_iff _).1 hr, fun y _ hy => ?_⟩
  rw [hs] at hy
  cases hy
  exact hd
theorem ok_all {l : List Rg} (h : ∀ j, j < l.length → okAt l j) : Norm l := norm_of_ok l fun k => by
  by_cases hk : k < l.length
  · exact h k hk
  · intro r hr
    rw [List.getElem?_eq_none (by omega)] at hr
    cases hr
theorem ok_more {l : List Rg} {k : Nat} (h : ∀ j, j < k → okAt l j) (hk : okAt l k) : ∀ j, j < k + 1 → okAt l j := fun j hj => by
  rcases Nat.lt_succ_iff_lt_or_eq.1 hj with h1 | rfl
  · exact h j h1
  · exact hk
theorem not_ok_right {l : List Rg} {k : Nat} {r : Rg} (h : l[k]? = some r) (hr : rightB r = false) : ¬ Norm l := fun hn => by
  have := (ok_of_norm hn k r h).1
  rw [← rightB_iff, hr] at this
  cases this
theorem not_ok_gap {l : List Rg} {k : Nat} {r s : Rg} (hk : 0 < k) (h : l[k]? = some r) (hs : l[k - 1]? = some s) (hd : ¬ s.2 + 2 ≤ r.1) : ¬ Norm l := fun hn =>
  hd ((ok_of_norm hn k r h).2 s hk hs)

set_option maxHeartbeats 1000000 in
theorem normal_any (v : Value) (l : List Rg) (w : World) (hmax : l.length ≤ 1000000) (hS : SetV w.heap.size w v l) :
    Calls Tryd.prog 57 #[v] w fun e w' => e = .returned (.bool (normB l)) ∧ Below w.heap.size w w' := by
  obtain ⟨A, cap, rfl, hcap, hS0⟩ := id hS
  clear hS0
  go_enter Tryd.func57, Tryd.ntmps57
  go_wp2
  go_loopw [7] (fun i wr => ∃ k : Nat, k ≤ l.length ∧ i = .int .i64 k ∧ Hid (∀ j, j < k → okAt l j) ∧ Below w.heap.size w wr) (fun i _ => l.length - (intOf i).toNat)
  case atStart => exact ⟨0, Nat.zero_le _, rfl, Lib.hid (fun j hj => absurd hj (by omega)), Below.refl _ _⟩
  case round =>
    obtain ⟨k, hk, rfl, HH, hbel⟩ := hrel
    have hsz := hbel.size
    by_cases hlt : k < l.length
    · have hSr := hS.below hbel
      obtain ⟨b, off, lo, hi, rfl, hb, hget, c0, c1⟩ := hSr.at_ hlt
      have HG := Lib.hid hget
      clear hget
      cases hin : rightB (lo, hi)
      · have HI := Lib.hid hin
        go_wp2_with (go_at_call 51; refine (right_any _ _ _).mono ?_; rintro e w1 ⟨rfl, hb1⟩)
        go_ret
        exact ⟨ret_bool (normB_false (not_ok_right HG.out HI.out)).symm, below_call hbel hsz hb1⟩
      · have HI := Lib.hid hin
        have hR := (rightB_iff _).1 hin
        unfold Rt at hR
        simp only at hR
        obtain ⟨r0, r1, r2⟩ := hR
        by_cases hk0 : 0 < k
        · obtain ⟨b', off', lo', hi', hA', hb', hget', d0, d1⟩ := hSr.at_ (show k - 1 < l.length by omega)
          obtain ⟨rfl, rfl⟩ : b = b' ∧ off = off' := by simpa using hA'
          have hp := (HH.out (k - 1) (by omega) _ hget').1
          unfold Rt at hp
          simp only at hp
          obtain ⟨p0, p1, p2⟩ := hp
          have HG' := Lib.hid hget'
          clear hget' hA'
          have h3 : (0 : Int) < k := by omega
          have s1 : IntKind.i64.wrap ((k : Int) - 1) = (k : Int) - 1 := IntWalk.i64_in _ (by omega)
          have s2 : (0 : Int) ≤ (k : Int) - 1 := by omega
          have s3 : ((k : Int) - 1).toNat = k - 1 := by omega
          have s4 : IntKind.i64.wrap (lo - hi') = lo - hi' := IntWalk.i64_in _ (by omega)
          by_cases hd : lo - hi' < 2
          all_goals
            go_wp2_with (go_at_call 51; refine (right_any _ _ _).mono ?_; rintro e w1 ⟨rfl, hb1⟩)
            have x0 : w1.cell? ⟨wr.heap.size, 0, none⟩ = some (.int .i64 lo) := (hb1.cell (p := ⟨wr.heap.size, 0, none⟩) (by simp)).trans (by simp)
            have x1 : w1.cell? ⟨b, off + (k - 1) * 2 + 1, none⟩ = some (.int .i64 hi') := (hb1.cell (p := ⟨b, off + (k - 1) * 2 + 1, none⟩) (by simp; omega)).trans ((World.cell?_alloc_lt _ _ _ (by simp; omega)).trans d1)
            have hB := below_call hbel hsz hb1
            clear hb1 d0 d1 c0 c1
            go_quiet (fail)
            go_wp2
          · go_ret
            exact ⟨ret_bool (normB_false (not_ok_gap hk0 HG.out HG'.out (by simp only; omega))).symm, below_drewN hB _⟩
          · go_roundw
            case rel => exact ⟨k + 1, by omega, by go_num, Lib.hid (ok_more HH.out (ok_succ HG.out HG'.out HI.out (by simp only; omega))), below_drewN hB _⟩
            case measure => simp [intOf]; omega
        · have hd : decide ((0 : Int) < (k : Int)) = false := by simp; omega
          have HK : Hid (k = 0) := Lib.hid (by omega)
          go_wp2_with (go_at_call 51; refine (right_any _ _ _).mono ?_; rintro e w1 ⟨rfl, hb1⟩)
          have hB := below_call hbel hsz hb1
          go_quiet (fail)
          go_wp2
          go_roundw
          case rel => exact ⟨k + 1, by omega, by go_num, Lib.hid (ok_more HH.out (by have h0 := HK.out; have hg := HG.out; rw [h0] at hg ⊢; exact ok_zero hg HI.out)), below_drewN hB _⟩
          case measure => simp [intOf]; omega
    · obtain rfl : k = l.length := by omega
      go_wp2
      go_ret
      exact ⟨ret_bool (normB_true (ok_all HH.out)).symm, hbel⟩

end Go.Proofs.YthipgidddgdojaaDoor.Cl
