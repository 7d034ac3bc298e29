/- class.Make, of any ranges. -/
import Derived.Test.YthipgidddgdojaaDoorClTogether
import Derived.Test.YthipgidddgdojaaDoorClSorts
import Derived.Test.YthipgidddgdojaaDoorClClone
namespace Go.Proofs.YthipgidddgdojaaDoor.Cl
open Go.RowKit

theorem ret_set {v : Value} {a b : Int} (h : a = b) : Ending.returned (.tuple #[v, .int .i64 a]) = .returned (.tuple #[v, .int .i64 b]) := by rw [h]

set_option maxRecDepth 100000 in
set_option maxHeartbeats 1000000 in
/-- One range isn't right: ErrRange. -/
theorem make_wrong (v : Value) (l : List Rg) (w : World) (hmax : l.length ≤ 1000000) (hW : ¬ ∀ r ∈ l, Rt r) (hS : SetV w.heap.size w v l) :
    Calls Tryd.prog 42 #[v] w fun e w' => e = .returned (.tuple #[.slice none 0 0, .int .i64 13]) ∧ Below w.heap.size w w' := by
  obtain ⟨A, cap, rfl, hcap, hS0⟩ := id hS
  clear hS0
  have HW := Lib.hid hW
  clear hW
  go_enter Tryd.func42, Tryd.ntmps42
  go_wp2
  go_loopw [9] (fun i wr => ∃ k : Nat, k ≤ l.length ∧ i = .int .i64 k ∧ Hid (∀ r ∈ l.take k, Rt r) ∧ Below w.heap.size w wr) (fun i _ => l.length - (intOf i).toNat)
  case atStart => exact ⟨0, Nat.zero_le _, rfl, Lib.hid (by simp), Below.refl _ _⟩
  case round =>
    obtain ⟨k, hk, rfl, HH, hbel⟩ := hrel
    have hsz := hbel.size
    by_cases hlt : k < l.length
    · obtain ⟨b, off, lo, hi, rfl, hb, hget, c0, c1⟩ := (hS.below hbel).at_ hlt
      have HG := Lib.hid hget
      clear hget
      cases hin : rightB (lo, hi)
      · have HI := Lib.hid hin
        go_wp2_with (go_at_call 51; refine (right_any _ _ _).mono ?_; rintro e w1 ⟨rfl, hb1⟩)
        go_ret2
        exact ⟨rfl, below_call hbel hsz hb1⟩
      · have HI := Lib.hid hin
        go_wp2_with (go_at_call 51; refine (right_any _ _ _).mono ?_; rintro e w1 ⟨rfl, hb1⟩)
        go_roundw
        case rel =>
          refine ⟨k + 1, by omega, by go_num, Lib.hid ?_, below_call hbel hsz hb1⟩
          obtain ⟨hk', he⟩ := List.getElem?_eq_some_iff.1 HG.out
          rw [List.take_succ_eq_append_getElem hk', he]
          intro r hr
          rcases List.mem_append.1 hr with hr | hr
          · exact HH.out r hr
          · obtain rfl := List.mem_singleton.1 hr
            exact (rightB_iff _).1 HI.out
        case measure => simp [intOf]; omega
    · exfalso
      obtain rfl : k = l.length := by omega
      have := HH.out
      rw [List.take_length] at this
      exact HW.out this

set_option maxRecDepth 100000 in
set_option maxHeartbeats 1000000 in
/-- All are right: their numbers as a normal set. -/
theorem make_right (v : Value) (l : List Rg) (w : World) (hmax : l.length ≤ 1000000) (hR : ∀ r ∈ l, Rt r) (hS : SetV w.heap.size w v l) :
    Calls Tryd.prog 42 #[v] w fun e w' => ∃ v' m, e = .returned (.tuple #[v', .int .i64 0]) ∧ SetV w'.heap.size w' v' m ∧ Norm m ∧ (∀ u, hasB m u = hasB l u) ∧ m.length ≤ l.length ∧ Below w.heap.size w w' := by
  obtain ⟨A, cap, rfl, hcap, hS0⟩ := id hS
  clear hS0
  have HR := Lib.hid hR
  clear hR
  go_enter Tryd.func42, Tryd.ntmps42
  go_wp2
  go_loopw [9] (fun i wr => ∃ k : Nat, k ≤ l.length ∧ i = .int .i64 k ∧ Below w.heap.size w wr) (fun i _ => l.length - (intOf i).toNat)
  case atStart => exact ⟨0, Nat.zero_le _, rfl, Below.refl _ _⟩
  case round =>
    obtain ⟨k, hk, rfl, hbel⟩ := hrel
    have hsz := hbel.size
    by_cases hlt : k < l.length
    · obtain ⟨b, off, lo, hi, rfl, hb, hget, c0, c1⟩ := (hS.below hbel).at_ hlt
      have hin : rightB (lo, hi) = true := (rightB_iff _).2 (HR.out _ (List.mem_of_getElem? hget))
      clear hget
      go_wp2_with (go_at_call 51; refine (right_any _ _ _).mono ?_; rintro e w1 ⟨rfl, hb1⟩)
      go_roundw
      case rel => exact ⟨k + 1, by omega, by go_num, below_call hbel hsz hb1⟩
      case measure => simp [intOf]; omega
    · have hSr := (hS.below hbel).more hsz
      have HS := Lib.hid hSr
      clear hSr
      go_wp2_with fail
      refine (clone_any _ l _ hmax HS.out).mono ?_
      rintro e w1 ⟨v1, rfl, hown1, hb1⟩
      have hsz1 := hb1.size
      go_wp2_with fail
      refine (sort_own _ l wr.heap.size _ hsz1 hmax hown1).mono ?_
      rintro e w2 ⟨rfl, l', hp, hs, hS2, hb2⟩
      have hsz2 := hb2.size
      have hl' : l'.length ≤ 1000000 := by rw [hp.length_eq]; exact hmax
      have HP := Lib.hid hp
      have HSo := Lib.hid hs
      clear hp hs
      go_wp2_with fail
      refine (together_any _ l' _ hl' (fun r hr => HR.out r (HP.out.mem_iff.1 hr)) hS2).mono ?_
      rintro e w3 ⟨v3, rfl, hown3, hb3⟩
      go_wp2
      go_ret2
      obtain ⟨hn, hh⟩ := together_ok l' (fun r hr => HR.out r (HP.out.mem_iff.1 hr)) HSo.out
      exact ⟨_, together l', rfl, hown3.set, hn, fun u => (hh u).trans (hasB_perm HP.out u), by have := together_len l'; rw [HP.out.length_eq] at this; exact this,
        ((hbel.trans (hb1.mono hsz)).trans (hb2.mono hsz)).trans (hb3.mono (by omega))⟩

end Go.Proofs.YthipgidddgdojaaDoor.Cl
