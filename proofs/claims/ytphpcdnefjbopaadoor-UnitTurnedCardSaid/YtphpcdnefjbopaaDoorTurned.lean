/- The law UnitTurned, as a contract: true, and nothing that lay has turned. -/
import Derived.Test.YtphpcdnefjbopaaDoorAppend
namespace Go.Proofs.YtphpcdnefjbopaaDoor
open Go.RowKit Go.Shelf

theorem byteCells_one (c : UInt8) : Lib.byteCells [c] = [.int .u8 (c.toNat : Int)] := rfl
theorem ints_one (n : Nat) : ints [n] = [.int .i64 ((n : Nat) : Int)] := rfl

set_option maxHeartbeats 4000000 in
set_option maxRecDepth 100000 in
theorem turned_small (v0 : Value) (s0 : List UInt8) (c : UInt8) (v2 : Value) (s2 : List UInt8) (w : World) (hT : TabsAt w.heap.size w) (h0 : Bytes w.heap.size w v0 s0) (h2 : Bytes w.heap.size w v2 s2)
    (k0 : s0.length ≤ 300) (k2 : s2.length ≤ 300) (kc : c.toNat < 128) :
    Calls Tryd.prog 8 #[v0, .int .u8 (c.toNat : Int), v2] w fun e w' => e = .returned (.bool true) ∧ Below w.heap.size w w' := by
  obtain ⟨i0, hi, hz0, hz1, hz2⟩ := info_parts info5
  obtain ⟨j0, gi, gz0, gz1, gz2⟩ := info_parts info3
  have H0 := Lib.hid h0
  have H2 := Lib.hid h2
  have H := Lib.hid hT
  have hu0 := un_len s0
  have hu2 := un_len s2
  have l0 : ¬ (300 : Int) < (s0.length : Int) := by omega
  have l2 : ¬ (300 : Int) < (s2.length : Int) := by omega
  have lc : ¬ (128 : Int) ≤ (c.toNat : Int) := by omega
  obtain ⟨A0, cap0, rfl, _⟩ := h0
  obtain ⟨A2, cap2, rfl, _⟩ := h2
  clear hT
  go_enter Tryd.func8, Tryd.ntmps8
  go_wp2_with fail
  refine (anchor_any w H.out).mono ?_
  rintro e w1 ⟨rfl, hB1⟩
  go_wp2_with (first
    | (at_builtin
       refine wpList_append_row _ rfl (.tmp 23) (.tmp 24) 22 rfl w.heap.size 5 i0 (.int .u8 0) 1 Tryd.underlying22 hi hz0 hz1 hz2 rfl _ 0 [] rfl (own_empty _ _ _ hB1.size) w.heap.size _ (Lib.byteCells s0) rfl (Row.of_bytes (H0.out.below (hB1.alloc hB1.size _))) (one_bytes _) (by rw [Lib.byteCells_length]; unfold maxLen; omega) (by rw [Lib.byteCells_length]; omega) (by simp; have := hB1.size; omega) ?_
       intro x2 w2 o2 g2
       have hB2 : Below w.heap.size w w2 := below_append (hB1.alloc hB1.size _) (own_empty _ _ _ hB1.size) (Nat.le_refl _) g2 (by simp; have := hB1.size; omega)
       rw [List.nil_append, Lib.byteCells_length, Nat.zero_add] at o2
       clear g2)
    | (at_builtin
       refine wpList_append_row _ rfl (.tmp 25) (.tmp 27) 22 rfl w.heap.size 5 i0 (.int .u8 0) 1 Tryd.underlying22 hi hz0 hz1 hz2 rfl _ s0.length (Lib.byteCells s0) rfl (o2.alloc _) (w2.heap.size + 1) _ (Lib.byteCells [c]) rfl (Row.lit w2 #[.int .u8 (c.toNat : Int)] 5 (0, 0)) (one_bytes _) (by rw [Lib.byteCells_length]; unfold maxLen; simp; omega) (by rw [Lib.byteCells_length]; simp; omega) (by simp; have := hB2.size; omega) ?_
       intro x3 w3 o3 g3
       have hB3 : Below w.heap.size w w3 := below_append (hB2.alloc hB2.size _) (o2.alloc _) (Nat.le_refl _) g3 (by simp; have := hB2.size; omega)
       rw [← Lib.byteCells_append, Lib.byteCells_length] at o3
       clear g3 o2 hB2)
    | (at_builtin
       refine wpList_append_row _ rfl (.tmp 28) (.tmp 29) 22 rfl w.heap.size 5 i0 (.int .u8 0) 1 Tryd.underlying22 hi hz0 hz1 hz2 rfl _ _ (Lib.byteCells (s0 ++ [c])) rfl o3 w.heap.size _ (Lib.byteCells s2) rfl (Row.of_bytes (H2.out.below hB3)) (one_bytes _) (by rw [Lib.byteCells_length]; unfold maxLen; simp; omega) (by rw [Lib.byteCells_length]; simp; omega) hB3.size ?_
       intro x4 w4 o4 g4
       have hB4 : Below w.heap.size w w4 := below_append hB3 o3 (Nat.le_refl _) g4 hB3.size
       rw [← Lib.byteCells_append] at o4
       have r4 : Bytes w4.heap.size w4 x4 (s0 ++ [c] ++ s2) := Bytes.of_row (Row.of_own o4)
       have R4 := Lib.hid r4
       clear g4 o3 hB3 o4 r4))
  refine (split_own _ s0 (by omega) w4 w.heap.size hB4.size (H.out.below hB4) (H0.out.below hB4)).mono ?_
  rintro e w5 ⟨x5, rfl, o5, C5⟩
  go_wp2_with (at_builtin
               refine wpList_append_row _ rfl (.tmp 32) (.tmp 35) 27 rfl w4.heap.size 3 j0 (.int .i64 0) 8 Tryd.underlying27 gi gz0 gz1 gz2 rfl _ _ (ints (un s0)) rfl (o5.alloc _) (w5.heap.size + 1) _ (ints [c.toNat]) rfl (Row.lit w5 #[.int .i64 (c.toNat : Int)] 3 (0, 0)) (one_ints _) (by rw [ints_len]; unfold maxLen; simp; omega) (by rw [ints_len]; simp; omega) (by simp; have := C5.size; omega) ?_
               intro x6 w6 o6 g6
               have C6 : Below w4.heap.size w4 w6 := below_append (C5.alloc C5.size _) (o5.alloc _) (Nat.le_refl _) g6 (by simp; have := C5.size; omega)
               rw [← ints_append, ints_len] at o6
               clear g6 o5 C5)
  have B6 := hB4.trans (C6.mono hB4.size)
  refine (split_own _ s2 (by omega) w6 w.heap.size B6.size (H.out.below B6) (H2.out.below B6)).mono ?_
  rintro e w7 ⟨x7, rfl, o7, C7⟩
  have o6' := own_below o6 C7
  have C7' := C6.trans (C7.mono C6.size)
  clear o6 C6 C7 B6
  go_wp2_with (at_builtin
               refine wpList_append_row _ rfl (.tmp 36) (.tmp 38) 27 rfl w4.heap.size 3 j0 (.int .i64 0) 8 Tryd.underlying27 gi gz0 gz1 gz2 rfl _ _ (ints (un s0 ++ [c.toNat])) rfl o6' w7.heap.size _ (ints (un s2)) rfl (Row.of_own o7) (one_ints _) (by rw [ints_len]; unfold maxLen; simp; omega) (by rw [ints_len]; simp; omega) C7'.size ?_
               intro x8 w8 o8 g8
               have C8 : Below w4.heap.size w4 w8 := below_append C7' o6' (Nat.le_refl _) g8 C7'.size
               rw [← ints_append] at o8
               clear g8 o6' C7' o7)
  have B8 := hB4.trans (C8.mono hB4.size)
  have r8 := Row.of_own o8
  rw [← un_turned s0 c kc s2, ints_zs] at r8
  have R8 := Lib.hid r8
  clear o8 r8
  have hlen : (s0 ++ [c] ++ s2).length ≤ 1000000 := by simp; omega
  refine (split_row x4 (s0 ++ [c] ++ s2) hlen w8 w4.heap.size C8.size ((H.out.below B8).more hB4.size) (R4.out.below C8)).mono ?_
  rintro e w9 ⟨x9, rfl, r9, C9⟩
  have R9 := Lib.hid r9
  clear r9
  go_wp2_with fail
  have hul := un_len (s0 ++ [c] ++ s2)
  refine (same_true _ (by rw [List.length_map]; omega) _ _ _ _ w9 R9.out (R8.out.below C9)).mono ?_
  rintro e w10 ⟨rfl, rfl⟩
  go_wp2
  go_ret
  exact ⟨rfl, B8.trans (C9.mono B8.size)⟩


set_option maxHeartbeats 1000000 in
set_option maxRecDepth 100000 in
theorem unitTurned_law (v0 : Value) (s0 : List UInt8) (a1 : Int) (v2 : Value) (s2 : List UInt8) (w : World) (hT : TabsAt w.heap.size w) (h0 : Bytes w.heap.size w v0 s0) (h1 : 0 ≤ a1 ∧ a1 < 256) (h2 : Bytes w.heap.size w v2 s2) :
    Calls Tryd.prog 8 #[v0, .int .u8 a1, v2] w fun e w' => e = .returned (.bool true) ∧ Below w.heap.size w w' := by
  have hc : ((a1.toNat.toUInt8.toNat : Nat) : Int) = a1 := by simp; omega
  by_cases k0 : s0.length ≤ 300
  · by_cases k2 : s2.length ≤ 300
    · by_cases kc : a1 < 128
      · have h := turned_small v0 s0 a1.toNat.toUInt8 v2 s2 w hT h0 h2 k0 k2 (by omega)
        rw [hc] at h
        exact h
      · have l0 : ¬ (300 : Int) < (s0.length : Int) := by omega
        have l2 : ¬ (300 : Int) < (s2.length : Int) := by omega
        obtain ⟨A0, cap0, rfl, _⟩ := h0
        obtain ⟨A2, cap2, rfl, _⟩ := h2
        have H := Lib.hid hT
        clear hT hc
        go_enter Tryd.func8, Tryd.ntmps8
        go_wp2_with fail
        refine (anchor_any w H.out).mono ?_
        rintro e w1 ⟨rfl, hB1⟩
        go_wp2_with fail
        go_ret
        exact ⟨rfl, hB1⟩
    · have l0 : ¬ (300 : Int) < (s0.length : Int) := by omega
      have l2 : (300 : Int) < (s2.length : Int) := by omega
      obtain ⟨A0, cap0, rfl, _⟩ := h0
      obtain ⟨A2, cap2, rfl, _⟩ := h2
      have H := Lib.hid hT
      clear hT hc
      go_enter Tryd.func8, Tryd.ntmps8
      go_wp2_with fail
      refine (anchor_any w H.out).mono ?_
      rintro e w1 ⟨rfl, hB1⟩
      go_wp2_with fail
      go_ret
      exact ⟨rfl, hB1⟩
  · have l0 : (300 : Int) < (s0.length : Int) := by omega
    obtain ⟨A0, cap0, rfl, _⟩ := h0
    obtain ⟨A2, cap2, rfl, _⟩ := h2
    have H := Lib.hid hT
    clear hT hc
    go_enter Tryd.func8, Tryd.ntmps8
    go_wp2_with fail
    refine (anchor_any w H.out).mono ?_
    rintro e w1 ⟨rfl, hB1⟩
    go_wp2_with fail
    go_ret
    exact ⟨rfl, hB1⟩

end Go.Proofs.YtphpcdnefjbopaaDoor
