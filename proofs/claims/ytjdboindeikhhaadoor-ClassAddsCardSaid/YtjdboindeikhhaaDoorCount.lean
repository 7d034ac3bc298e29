/- Set.Count, of any ranges. -/
import Derived.Test.YtjdboindeikhhaaDoorNorm
namespace Go.Proofs.YtjdboindeikhhaaDoor
open Go.RowKit

open Classical in
noncomputable def countB (l : List Rg) : Int := if Norm l then total l else 0
theorem countB_norm {l : List Rg} (h : Norm l) : countB l = total l := if_pos h
theorem countB_not {l : List Rg} (h : ¬ Norm l) : countB l = 0 := if_neg h
theorem total_take_succ (l : List Rg) (k : Nat) (r : Rg) (h : l[k]? = some r) : total (l.take (k + 1)) = total (l.take k) + (r.2 - r.1 + 1) := by
  obtain ⟨hk, rfl⟩ := List.getElem?_eq_some_iff.1 h
  rw [List.take_succ_eq_append_getElem hk, total_snoc]

set_option maxHeartbeats 1000000 in
theorem count_any (v : Value) (l : List Rg) (w : World) (hmax : l.length ≤ 1000000) (hS : SetV w.heap.size w v l) :
    Calls Tryd.prog 20 #[v] w fun e w' => e = .returned (.int .i64 (countB l)) ∧ Below w.heap.size w w' := by
  obtain ⟨A, cap, rfl, hcap, hS0⟩ := id hS
  clear hS0
  by_cases hN : Norm l
  · have hb := normB_true hN
    have HN := Lib.hid hN
    clear hN
    go_enter Tryd.func20, Tryd.ntmps20
    go_wp2_with (go_at_call 14; refine (normal_any _ l _ hmax hS).mono ?_; rintro e w1 ⟨rfl, hb1⟩)
    clear hb
    go_loopw [3, 11] (fun s i wr => ∃ k : Nat, k ≤ l.length ∧ i = .int .i64 k ∧ s = .int .i64 (total (l.take k)) ∧ Below w.heap.size w wr) (fun _ i _ => l.length - (intOf i).toNat)
    case atStart => exact ⟨0, Nat.zero_le _, rfl, rfl, hb1⟩
    case round =>
      obtain ⟨k, hk, rfl, rfl, hbel⟩ := hrel
      have hsz := hbel.size
      by_cases hlt : k < l.length
      · have hSr := hS.below hbel
        obtain ⟨b, off, lo, hi, rfl, hb, hget, c0, c1⟩ := hSr.at_ hlt
        have hR := HN.out.1 _ (List.mem_of_getElem? hget)
        unfold Rt at hR
        simp only at hR
        obtain ⟨r0, r1, r2⟩ := hR
        have HT := Lib.hid (total_take_succ l k _ hget)
        have ht := total_bound (l.take k) (fun x hx => HN.out.1 x (List.mem_of_mem_take hx))
        have htl : (l.take k).length ≤ 1000000 := by have := List.length_take_le k l; omega
        obtain ⟨t0, t1⟩ := ht
        have t2 : total (l.take k) ≤ 1114368 * 1000000 := by omega
        clear t1 hget
        go_wp2
        go_roundw
        case rel => exact ⟨k + 1, by omega, by go_num, by rw [HT.out], hbel.alloc hsz _⟩
        case measure => simp [intOf]; omega
      · obtain rfl : k = l.length := by omega
        go_wp2
        go_ret
        exact ⟨ret_int (by rw [List.take_length, countB_norm HN.out]), hbel⟩
  · have hb := normB_false hN
    have HN := Lib.hid hN
    clear hN
    go_enter Tryd.func20, Tryd.ntmps20
    go_wp2_with (go_at_call 14; refine (normal_any _ l _ hmax hS).mono ?_; rintro e w1 ⟨rfl, hb1⟩)
    go_ret
    exact ⟨ret_int (countB_not HN.out).symm, hb1⟩

end Go.Proofs.YtjdboindeikhhaaDoor
