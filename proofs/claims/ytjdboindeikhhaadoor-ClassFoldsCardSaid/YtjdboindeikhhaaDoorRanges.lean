/- The law's ranges: the same ranges in a row of the call's own. -/
import Derived.Test.YtjdboindeikhhaaDoorSmall
namespace Go.Proofs.YtjdboindeikhhaaDoor
open Go.RowKit

theorem take_snoc (l : List Rg) (k : Nat) (r : Rg) (h : l[k]? = some r) : l.take (k + 1) = l.take k ++ [r] := by
  obtain ⟨hk, rfl⟩ := List.getElem?_eq_some_iff.1 h
  exact List.take_succ_eq_append_getElem hk

set_option maxHeartbeats 1000000 in
theorem ranges_any (v : Value) (l : List Rg) (w : World) (hmax : l.length ≤ 1000000) (hS : SetV w.heap.size w v l) :
    Calls Tryd.prog 12 #[v] w fun e w' => ∃ v', e = .returned v' ∧ Own w' w.heap.size 31 v' l ∧ Below w.heap.size w w' := by
  obtain ⟨A, cap, rfl, hcap, hS0⟩ := id hS
  clear hS0
  obtain ⟨i0, hi, hz0, hz1, hz2⟩ := info_three info31
  go_enter Tryd.func12, Tryd.ntmps12
  go_wp2
  go_loopw [3, 8] (fun s i wr => ∃ k : Nat, k ≤ l.length ∧ i = .int .i64 k ∧ Own wr w.heap.size 31 s (l.take k) ∧ Below w.heap.size w wr) (fun _ i _ => l.length - (intOf i).toNat)
  case atStart => exact ⟨0, Nat.zero_le _, rfl, Own.nil _ _ _, Below.refl _ _⟩
  case round =>
    obtain ⟨k, hk, rfl, hown, hbel⟩ := hrel
    have hsz := hbel.size
    by_cases hlt : k < l.length
    · obtain ⟨b, off, lo, hi', rfl, hb, hget, c0, c1⟩ := (hS.below hbel).at_ hlt
      have HT := Lib.hid (take_snoc l k _ hget)
      have htl : (l.take k).length ≤ 1000000 := by have := List.length_take_le k l; omega
      clear hget
      go_wp2_with (at_builtin; refine wpList_append_one _ rfl _ _ 28 rfl w.heap.size 31 i0 (.agg #[.int .i64 0, .int .i64 0]) 16 Tryd.underlying28 hi hz0 hz1 hz2 rfl _ _ rfl ((hown.alloc _).alloc _) (wr.heap.size + 1) 1 (lo, hi') rfl (cell_two_at _ _ _ _ _ (by simp)) (by omega) rfl (by simp; omega) ?_; intro v' w1 hown' hgrow)
      go_roundw
      case rel => exact ⟨k + 1, by omega, by go_num, by rw [HT.out]; exact hown', below_append ((hbel.alloc hsz _).alloc (by simp; omega) _) ((hown.alloc _).alloc _) (Nat.le_refl _) hgrow (by simp; omega)⟩
      case measure => simp [intOf]; omega
    · obtain rfl : k = l.length := by omega
      go_wp2
      go_ret
      exact ⟨_, rfl, by rw [List.take_length] at hown; exact hown, hbel⟩

end Go.Proofs.YtjdboindeikhhaaDoor
