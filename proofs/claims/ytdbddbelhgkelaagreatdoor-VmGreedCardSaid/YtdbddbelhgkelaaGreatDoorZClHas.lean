/- Set.Has and the reference's Has, of any ranges. -/
import Derived.Test.YtdbddbelhgkelaaGreatDoorZMClass
namespace Go.Proofs.YtdbddbelhgkelaaGreatDoor.Cl
open Go.RowKit

theorem has_take_succ (l : List Rg) (k : Nat) (r : Rg) (u : Int) (h : l[k]? = some r) : hasB (l.take (k + 1)) u = (hasB (l.take k) u || inB r u) := by
  obtain ⟨hk, rfl⟩ := List.getElem?_eq_some_iff.1 h
  rw [List.take_succ_eq_append_getElem hk, hasB_append]
  simp [hasB]
theorem has_of_get (l : List Rg) (k : Nat) (r : Rg) (u : Int) (h : l[k]? = some r) (hu : inB r u = true) : hasB l u = true := by
  rw [inB_iff] at hu
  exact (hasB_iff l u).2 ⟨r, List.mem_of_getElem? h, hu⟩

set_option maxHeartbeats 1000000 in
theorem setHas_any (v : Value) (l : List Rg) (u : Int) (w : World) (hmax : l.length ≤ 1000000) (hS : SetV w.heap.size w v l) :
    Calls Tryz.prog 102 #[v, .int .i64 u] w fun e w' => e = .returned (.bool (hasB l u)) ∧ Below w.heap.size w w' := by
  obtain ⟨A, cap, rfl, hcap, hS0⟩ := id hS
  clear hS0
  go_enter Tryz.func102, Tryz.ntmps102
  go_wp2
  go_loopw [9] (fun i wr => ∃ k : Nat, k ≤ l.length ∧ i = .int .i64 k ∧ Hid (hasB (l.take k) u = false) ∧ Below w.heap.size w wr) (fun i _ => l.length - (intOf i).toNat)
  case atStart => exact ⟨0, Nat.zero_le _, rfl, rfl, Below.refl _ _⟩
  case round =>
    obtain ⟨k, hk, rfl, HH, hbel⟩ := hrel
    have hsz := hbel.size
    by_cases hlt : k < l.length
    · obtain ⟨b, off, lo, hi, rfl, hb, hget, c0, c1⟩ := (hS.below hbel).at_ hlt
      have HG := Lib.hid hget
      clear hget
      cases hin : inB (lo, hi) u
      · have HI := Lib.hid hin
        go_wp2_with (go_at_call 124; refine (has_any _ _ _ _).mono ?_; rintro e w1 ⟨rfl, hb1⟩)
        go_roundw
        case rel => exact ⟨k + 1, by omega, by go_num, Lib.hid (by rw [has_take_succ l k _ u HG.out, HH.out, HI.out]; rfl), below_call hbel hsz hb1⟩
        case measure => simp [intOf]; omega
      · have HI := Lib.hid hin
        go_wp2_with (go_at_call 124; refine (has_any _ _ _ _).mono ?_; rintro e w1 ⟨rfl, hb1⟩)
        go_ret
        exact ⟨ret_bool (has_of_get l k _ u HG.out HI.out).symm, below_call hbel hsz hb1⟩
    · obtain rfl : k = l.length := by omega
      go_wp2
      go_ret
      exact ⟨ret_bool (by have := HH.out; rw [List.take_length] at this; exact this.symm), hbel⟩

end Go.Proofs.YtdbddbelhgkelaaGreatDoor.Cl
