/- The reference's Split, and the law UnitSplits, as contracts. -/
import Derived.Test.YtphpcdnefjbopaaDoorRefNext
import Derived.Test.YtphpcdnefjbopaaDoorCounts
namespace Go.Proofs.YtphpcdnefjbopaaDoor
open Go.RowKit Go.Shelf

theorem refNext_bytes (A : Option Addr) (len cap : Nat) (s : List UInt8) (hl : len = s.length) (k : Nat) (hk : k < len) (hmax : len ≤ 1000000) (w : World) (n₀ : Nat) (h : Bytes n₀ w (.slice A len cap) s) :
    Calls Tryd.prog 11 #[.slice A len cap, .int .i64 k] w fun e w' =>
      e = .returned (.tuple #[.int .i64 (nx (s.drop k)).1, .int .i64 (nx (s.drop k)).2]) ∧ Below w.heap.size w w' := by
  obtain ⟨A', cap', hv, hc, h⟩ := h
  obtain ⟨rfl, rfl⟩ : A = A' ∧ cap = cap' := by rw [hl] at hv; simpa using hv
  obtain ⟨b, off, rfl, _, ht⟩ := h (fun e => by rw [e] at hl; simp at hl; omega)
  exact refNext_in s b off cap len k hl hk (by omega) hmax w ht

set_option maxHeartbeats 2000000 in
set_option maxRecDepth 100000 in
theorem refSplit_row (v : Value) (s : List UInt8) (hmax : s.length ≤ 1000000) (w : World) (n₀ : Nat) (hn : n₀ ≤ w.heap.size) (h : Bytes n₀ w v s) :
    Calls Tryd.prog 14 #[v] w fun e W' => ∃ v, e = .returned v ∧ Row W'.heap.size W' v (zs ((un s).map fun n => ((n : Nat) : Int))) ∧ Below w.heap.size w W' := by
  obtain ⟨j0, gi, gz0, gz1, gz2⟩ := info_parts info3
  have HV := Lib.hid (h.more hn)
  obtain ⟨A, cap, rfl, _⟩ := h
  obtain ⟨len, hlen⟩ : ∃ len, len = s.length := ⟨_, rfl⟩
  have hul := un_len s
  rw [← hlen] at hmax HV hul ⊢
  have HL := Lib.hid hlen
  clear hlen
  go_enter Tryd.func14, Tryd.ntmps14
  go_wp2_with fail
  go_loopw [3, 4] (fun v i wr => ∃ (k : Nat) (pre : List Nat), k ≤ len ∧ i = .int .i64 k ∧ un s = pre ++ un (s.drop k) ∧ wr.ownsRow w.heap.size 3 1 v pre.length (ints pre) ∧ Below w.heap.size w wr) (fun _ i _ => len - (intOf i).toNat)
  case atStart => exact ⟨0, [], Nat.zero_le _, rfl, by simp, World.ownsRow_nil _ _ _ _, Below.refl _ _⟩
  case round =>
    obtain ⟨k, pre, hk, rfl, hpre, hown, hB⟩ := hrel
    by_cases hlt : k < len
    · have hne : s.drop k ≠ [] := fun e => by have := congrArg List.length e; rw [List.length_drop, List.length_nil, ← HL.out] at this; omega
      have hstep := un_step (s.drop k) hne
      have hz := nx_le (s.drop k) hne
      rw [List.length_drop, ← HL.out] at hz
      have hnext := refNext_bytes A len cap s HL.out k hlt hmax wr _ (HV.out.below hB)
      obtain ⟨u, z, huz⟩ : ∃ u z, nx (s.drop k) = (u, z) := ⟨_, _, rfl⟩
      rw [huz] at hnext hstep hz
      simp only at hnext hstep hz
      rw [List.drop_drop] at hstep
      rw [hstep] at hpre
      have hpl : pre.length < len := by
        have h2 := congrArg List.length hpre
        rw [List.length_append, List.length_cons] at h2
        omega
      obtain ⟨hz1, hz4, hzl⟩ := hz
      have hzl' : z ≤ len - k := by omega
      have HN := Lib.hid hnext
      have HP := Lib.hid hpre
      clear hnext hpre hstep huz hne hul hzl
      go_wp2_with fail
      refine HN.out.mono ?_
      rintro e w2 ⟨rfl, hB2⟩
      have o2 := own_below hown hB2
      have hC := hB.trans (hB2.mono hB.size)
      clear hown hB2 hB
      go_wp2_with (at_builtin
                   refine wpList_append_row _ rfl (.tmp 17) (.tmp 19) 27 rfl w.heap.size 3 j0 (.int .i64 0) 8 Tryd.underlying27 gi gz0 gz1 gz2 rfl _ _ (ints pre) rfl (o2.alloc _) (w2.heap.size + 1) _ (ints [u]) rfl (Row.lit w2 #[.int .i64 (u : Int)] 3 (0, 0)) (one_ints _) (by rw [ints_len]; unfold maxLen; simp; omega) (by rw [ints_len]; simp; omega) (by simp; have := hC.size; omega) ?_
                   intro v3 w3 o3 g3
                   have hD : Below w.heap.size w w3 := below_append (hC.alloc hC.size _) (o2.alloc _) (Nat.le_refl _) g3 (by simp; have := hC.size; omega)
                   rw [← ints_append, ints_len] at o3
                   have hlen : pre.length + [u].length = (pre ++ [u]).length := by simp
                   rw [hlen] at o3
                   have O3 := Lib.hid o3
                   clear o3 g3 o2 hC hlen)
      go_roundw
      case rel => exact ⟨k + z, pre ++ [u], by omega, by go_num, by rw [HP.out]; simp, O3.out, hD⟩
      case measure => simp [intOf]; omega
    · obtain rfl : k = len := by omega
      have e : un s = pre := by rw [hpre, HL.out, List.drop_length, un_nil, List.append_nil]
      have hr := Row.of_own hown
      rw [← e, ints_zs] at hr
      have HR := Lib.hid hr
      clear e hr hpre hown
      go_wp2
      go_ret
      exact ⟨_, rfl, HR.out, hB⟩

set_option maxHeartbeats 2000000 in
set_option maxRecDepth 100000 in
theorem unitSplits_law (v0 : Value) (s0 : List UInt8) (a1 : Int) (w : World) (hT : TabsAt w.heap.size w) (h0 : Bytes w.heap.size w v0 s0) (_h1 : -9223372036854775808 ≤ a1 ∧ a1 ≤ 9223372036854775807) :
    Calls Tryd.prog 3 #[v0, .int .i64 a1] w fun e w' => e = .returned (.bool true) ∧ Below w.heap.size w w' := by
  have HV := Lib.hid h0
  have H := Lib.hid hT
  have hul := un_len s0
  obtain ⟨A, cap, rfl, _⟩ := h0
  obtain ⟨len, hlen⟩ : ∃ len, len = s0.length := ⟨_, rfl⟩
  rw [← hlen] at HV hul ⊢
  have HL := Lib.hid hlen
  clear hlen hT
  by_cases hl : (len : Int) ≤ 1000
  · have l0 : ¬ (1000 : Int) < (len : Int) := by omega
    have hlN : len ≤ 1000000 := by omega
    by_cases hin : 0 ≤ a1 ∧ a1 < len
    · obtain ⟨k, rfl⟩ : ∃ k : Nat, a1 = (k : Int) := ⟨a1.toNat, by omega⟩
      have hk : k < len := by omega
      have g1 : ¬ (k : Int) < 0 := by omega
      have g2 : ¬ (len : Int) ≤ (k : Int) := by omega
      clear hin _h1
      obtain ⟨u, z, huz⟩ : ∃ u z, nx (s0.drop k) = (u, z) := ⟨_, _, rfl⟩
      have HUZ := Lib.hid huz
      clear huz
      go_enter Tryd.func3, Tryd.ntmps3
      go_wp2_with fail
      refine (anchor_any w H.out).mono ?_
      rintro e w1 ⟨rfl, hB1⟩
      go_wp2_with fail
      refine (next_bytes A len cap s0 HL.out k hk w1 _ (H.out.below hB1) (HV.out.below hB1)).mono ?_
      rintro e w2 ⟨rfl, hB2'⟩
      rw [HUZ.out]
      have hB2 := hB1.trans (hB2'.mono hB1.size)
      clear hB2' hB1
      go_wp2_with fail
      refine (refNext_bytes A len cap s0 HL.out k hk hlN w2 _ (HV.out.below hB2)).mono ?_
      rintro e w3 ⟨rfl, hB3'⟩
      rw [HUZ.out]
      have hB3 := hB2.trans (hB3'.mono hB2.size)
      clear hB3' hB2
      go_wp2_with fail
      refine (split_row _ s0 (by rw [← HL.out]; omega) w3 _ hB3.size (H.out.below hB3) (HV.out.below hB3)).mono ?_
      rintro e w4 ⟨x4, rfl, r4, C4⟩
      have hB4 := hB3.trans (C4.mono hB3.size)
      have R4 := Lib.hid r4
      clear r4 C4 hB3
      go_wp2_with fail
      refine (refSplit_row _ s0 (by rw [← HL.out]; omega) w4 _ hB4.size (HV.out.below hB4)).mono ?_
      rintro e w5 ⟨x5, rfl, r5, C5⟩
      have hB5 := hB4.trans (C5.mono hB4.size)
      have R5 := Lib.hid r5
      clear r5
      go_wp2_with fail
      refine (same_true _ (by rw [List.length_map]; omega) _ _ _ _ w5 (R4.out.below C5) R5.out).mono ?_
      rintro e w6 ⟨rfl, rfl⟩
      go_wp2
      go_ret
      exact ⟨rfl, hB5⟩
    · have hout : a1 < 0 ∨ (len : Int) ≤ a1 := by omega
      have HO := Lib.hid hout
      clear hin _h1
      by_cases g1 : a1 < 0
      · clear hout
        go_enter Tryd.func3, Tryd.ntmps3
        go_wp2_with fail
        refine (anchor_any w H.out).mono ?_
        rintro e w1 ⟨rfl, hB1⟩
        go_wp2_with fail
        refine (next_out A len cap a1 HO.out w1).mono ?_
        rintro e w2 ⟨rfl, rfl⟩
        go_wp2_with fail
        refine (split_row _ s0 (by rw [← HL.out]; omega) w1 _ hB1.size (H.out.below hB1) (HV.out.below hB1)).mono ?_
        rintro e w4 ⟨x4, rfl, r4, C4⟩
        have hB4 := hB1.trans (C4.mono hB1.size)
        have R4 := Lib.hid r4
        clear r4 C4 hB1
        go_wp2_with fail
        refine (refSplit_row _ s0 (by rw [← HL.out]; omega) w4 _ hB4.size (HV.out.below hB4)).mono ?_
        rintro e w5 ⟨x5, rfl, r5, C5⟩
        have hB5 := hB4.trans (C5.mono hB4.size)
        have R5 := Lib.hid r5
        clear r5
        go_wp2_with fail
        refine (same_true _ (by rw [List.length_map]; omega) _ _ _ _ w5 (R4.out.below C5) R5.out).mono ?_
        rintro e w6 ⟨rfl, rfl⟩
        go_wp2
        go_ret
        exact ⟨rfl, hB5⟩
      · have g2 : (len : Int) ≤ a1 := by omega
        clear hout
        go_enter Tryd.func3, Tryd.ntmps3
        go_wp2_with fail
        refine (anchor_any w H.out).mono ?_
        rintro e w1 ⟨rfl, hB1⟩
        go_wp2_with fail
        refine (next_out A len cap a1 HO.out w1).mono ?_
        rintro e w2 ⟨rfl, rfl⟩
        go_wp2_with fail
        refine (split_row _ s0 (by rw [← HL.out]; omega) w1 _ hB1.size (H.out.below hB1) (HV.out.below hB1)).mono ?_
        rintro e w4 ⟨x4, rfl, r4, C4⟩
        have hB4 := hB1.trans (C4.mono hB1.size)
        have R4 := Lib.hid r4
        clear r4 C4 hB1
        go_wp2_with fail
        refine (refSplit_row _ s0 (by rw [← HL.out]; omega) w4 _ hB4.size (HV.out.below hB4)).mono ?_
        rintro e w5 ⟨x5, rfl, r5, C5⟩
        have hB5 := hB4.trans (C5.mono hB4.size)
        have R5 := Lib.hid r5
        clear r5
        go_wp2_with fail
        refine (same_true _ (by rw [List.length_map]; omega) _ _ _ _ w5 (R4.out.below C5) R5.out).mono ?_
        rintro e w6 ⟨rfl, rfl⟩
        go_wp2
        go_ret
        exact ⟨rfl, hB5⟩
  · have l0 : (1000 : Int) < (len : Int) := by omega
    go_enter Tryd.func3, Tryd.ntmps3
    go_wp2_with fail
    refine (anchor_any w H.out).mono ?_
    rintro e w1 ⟨rfl, hB1⟩
    go_wp2
    go_ret
    exact ⟨rfl, hB1⟩

end Go.Proofs.YtphpcdnefjbopaaDoor
