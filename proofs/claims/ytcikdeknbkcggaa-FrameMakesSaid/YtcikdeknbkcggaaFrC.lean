/- A frame of a body (package frame, and the document's answer), as contracts. -/
import Derived.Test.YtcikdeknbkcggaaFrB
namespace Go.Proofs.Ytcikdeknbkcggaa
open Go.RowKit

theorem row_two (w : World) : Row (w.heap.size + 1) (w.alloc (.cells #[.int .u8 67, .int .u8 70] 5)) (.slice (some ⟨w.heap.size, 0, none⟩) 2 2) (Lib.byteCells [67, 70]) := Row.lit w #[.int .u8 67, .int .u8 70] 5 (0, 0)
theorem own_two (w : World) : Own (w.alloc (.cells #[.int .u8 67, .int .u8 70] 5)) w.heap.size (.slice (some ⟨w.heap.size, 0, none⟩) 2 2) [67, 70] :=
  ⟨rfl, .inr ⟨w.heap.size, 2, _, rfl, Nat.le_refl _, heap_alloc_new w _, Nat.le_refl _, by unfold maxLen; omega, rfl, rfl⟩⟩
set_option maxHeartbeats 2000000 in
theorem make_ok (n₀ : Nat) (v : Value) (s : List UInt8) (hs : s.length ≤ 65536) (w : World) (hn : n₀ ≤ w.heap.size) (h : Bytes n₀ w v s) :
    Calls Try.prog 10 #[v] w fun e w' => ∃ v', e = .returned (.tuple #[v', .int .i64 0]) ∧ Own w' w.heap.size v' (frm s) ∧ Below w.heap.size w w' := by
  obtain ⟨i0, hi, hz0, hz1, hz2⟩ := info_three info_u8
  have H := Lib.hid h
  have hadl := adl_lt s
  obtain ⟨A, cap, rfl, hc, ht⟩ := h
  clear ht
  go_enter Try.func10, Try.ntmps10
  go_wp2_with (first
    | (at_make
       refine wpList_make_own _ rfl _ _ 22 rfl w.heap.size 5 i0 (.int .u8 0) 1 Try.underlying22 hi hz0 hz1 _ _ _ (10 + s.length) rfl rfl (by omega) (by rw [hz2]; omega) (by unfold maxLen; omega) (Nat.le_refl _) ?_
       intro w1 o1 g1
       have C1 : Below w.heap.size w w1 := (Below.refl _ w).grown g1 (Nat.le_refl _) (fun k hk => by cases hk)
       have O1 := Lib.hid o1
       clear o1 g1)
    | (at_builtin
       refine wpList_append_row _ rfl (.tmp 12) (.tmp 13) 22 rfl w.heap.size 5 i0 (.int .u8 0) 1 Try.underlying22 hi hz0 hz1 hz2 rfl _ 0 [] rfl (O1.out.alloc _) (w1.heap.size + 1) _ (Lib.byteCells [67, 70]) rfl (row_two w1) (one_bytes _) (by rw [Lib.byteCells_length]; unfold maxLen; simp) (by rw [Lib.byteCells_length]; simp) (by have := C1.size; simp; omega) ?_
       intro v2 w2 o2 g2
       have C2 : Below w.heap.size w w2 := below_append (C1.alloc C1.size _) (O1.out.alloc _) (Nat.le_refl _) g2 (by have := C1.size; simp; omega)
       have o2' : Own w2 w.heap.size v2 [67, 70] := o2
       have O2 := Lib.hid o2'
       clear g2 o2 o2' O1 C1))
  refine (appNum_any v2 [67, 70] w.heap.size s.length (by omega) w2 O2.out (by simp) C2.size).mono ?_
  rintro e w3 ⟨v3, rfl, o3, B3⟩
  have C3 := C2.trans B3
  have O3 := Lib.hid o3
  clear o3 B3 C2 O2
  go_wp2_with fail
  refine (sum_any n₀ _ s (by omega) w3 (H.out.below (C3.mono hn))).mono ?_
  rintro e w4 ⟨rfl, rfl⟩
  go_wp2_with fail
  refine (appNum_any v3 _ w.heap.size (adl s) hadl w3 O3.out (by simp [be4_len]) C3.size).mono ?_
  rintro e w5 ⟨v5, rfl, o5, B5⟩
  have C5 := C3.trans B5
  have O5 := Lib.hid o5
  clear o5 B5 C3 O3
  go_wp2_with (at_builtin
               refine wpList_append_row _ rfl (.tmp 23) (.tmp 24) 22 rfl w.heap.size 5 i0 (.int .u8 0) 1 Try.underlying22 hi hz0 hz1 hz2 rfl _ _ _ rfl O5.out n₀ _ (Lib.byteCells s) rfl (Row.of_bytes (H.out.below (C5.mono hn))) (one_bytes _) (by rw [Lib.byteCells_length]; simp [be4_len]; unfold maxLen; omega) (by rw [Lib.byteCells_length]; simp [be4_len]; omega) C5.size ?_
               intro v6 w6 o6 g6
               have C6 : Below w.heap.size w w6 := below_append C5 O5.out (Nat.le_refl _) g6 C5.size
               rw [Lib.byteCells_length, ← Lib.byteCells_append, ← List.length_append] at o6
               have o6' : Own w6 w.heap.size v6 (frm s) := o6
               have O6 := Lib.hid o6'
               clear g6 o6 o6' O5 C5)
  go_ret2
  exact ⟨_, rfl, O6.out, C6⟩
set_option maxHeartbeats 1000000 in
theorem make_big (n₀ : Nat) (v : Value) (s : List UInt8) (hs : 65536 < s.length) (w : World) (h : Bytes n₀ w v s) :
    Calls Try.prog 10 #[v] w fun e w' => e = .returned (.tuple #[.slice none 0 0, .int .i64 12]) ∧ w = w' := by
  obtain ⟨A, cap, rfl, hc, ht⟩ := h
  clear ht
  go_enter Try.func10, Try.ntmps10
  go_wp2
  go_ret2
  exact ⟨rfl, rfl⟩
set_option maxHeartbeats 2000000 in
theorem refMake_any (n₀ : Nat) (v : Value) (s : List UInt8) (hs : s.length ≤ 65536) (w : World) (hn : n₀ ≤ w.heap.size) (h : Bytes n₀ w v s) :
    Calls Try.prog 14 #[v] w fun e w' => ∃ v', e = .returned v' ∧ Own w' w.heap.size v' (frm s) ∧ Below w.heap.size w w' := by
  obtain ⟨i0, hi, hz0, hz1, hz2⟩ := info_three info_u8
  have H := Lib.hid h
  have hadl := adl_lt s
  obtain ⟨A, cap, rfl, hc, ht⟩ := h
  clear ht
  go_enter Try.func14, Try.ntmps14
  go_wp2_with fail
  have C0 := (Below.refl w.heap.size w).alloc (Nat.le_refl _) (.cells #[.int .u8 67, .int .u8 70] 5)
  refine (refNumber_any s.length (by omega) _).mono ?_
  rintro e w1 ⟨v1, rfl, o1, B1⟩
  have t1 := (own_two w).below B1
  have C1 : Below w.heap.size w w1 := C0.trans (B1.mono (by simp))
  have hz1' : w.heap.size + 1 ≤ w1.heap.size := by have := B1.size; simpa using this
  have T1 := Lib.hid t1
  have O1 := Lib.hid o1
  clear t1 o1 B1 C0
  go_wp2_with (at_builtin
               refine wpList_append_row _ rfl (.tmp 4) (.tmp 7) 22 rfl w.heap.size 5 i0 (.int .u8 0) 1 Try.underlying22 hi hz0 hz1 hz2 rfl _ _ _ rfl T1.out w1.heap.size _ (Lib.byteCells (be4 s.length)) rfl (Row.of_own O1.out) (one_bytes _) (by rw [Lib.byteCells_length]; simp [be4_len]; unfold maxLen; omega) (by rw [Lib.byteCells_length]; simp [be4_len]) C1.size ?_
               intro v2 w2 o2 g2
               have C2 : Below w.heap.size w w2 := below_append C1 T1.out (Nat.le_refl _) g2 C1.size
               rw [Lib.byteCells_length, ← Lib.byteCells_append, ← List.length_append] at o2
               have o2' : Own w2 w.heap.size v2 ([67, 70] ++ be4 s.length) := o2
               have O2 := Lib.hid o2'
               clear g2 o2 o2' O1 T1 C1 hz1')
  refine (refSum_any n₀ _ s (by omega) w2 (H.out.below (C2.mono hn))).mono ?_
  rintro e w4 ⟨rfl, rfl⟩
  go_wp2_with fail
  refine (refNumber_any (adl s) hadl _).mono ?_
  rintro e w3 ⟨v3, rfl, o3, B3⟩
  have t3 := O2.out.below B3
  have C3 : Below w.heap.size w w3 := C2.trans (B3.mono C2.size)
  have T3 := Lib.hid t3
  have O3 := Lib.hid o3
  clear t3 o3 B3 O2 C2
  go_wp2_with (first
    | (at_builtin
       refine wpList_append_row _ rfl (.tmp 9) (.tmp 12) 22 rfl w.heap.size 5 i0 (.int .u8 0) 1 Try.underlying22 hi hz0 hz1 hz2 rfl _ _ _ rfl T3.out w3.heap.size _ (Lib.byteCells (be4 (adl s))) rfl (Row.of_own O3.out) (one_bytes _) (by rw [Lib.byteCells_length]; simp [be4_len]; unfold maxLen; omega) (by rw [Lib.byteCells_length]; simp [be4_len]) C3.size ?_
       intro v4 w4 o4 g4
       have C4 : Below w.heap.size w w4 := below_append C3 T3.out (Nat.le_refl _) g4 C3.size
       rw [Lib.byteCells_length, ← Lib.byteCells_append, ← List.length_append] at o4
       have o4' : Own w4 w.heap.size v4 ([67, 70] ++ be4 s.length ++ be4 (adl s)) := o4
       have O4 := Lib.hid o4'
       clear g4 o4 o4' O3 T3 C3)
    | (at_builtin
       refine wpList_append_row _ rfl (.tmp 14) (.tmp 15) 22 rfl w.heap.size 5 i0 (.int .u8 0) 1 Try.underlying22 hi hz0 hz1 hz2 rfl _ _ _ rfl O4.out n₀ _ (Lib.byteCells s) rfl (Row.of_bytes (H.out.below (C4.mono hn))) (one_bytes _) (by rw [Lib.byteCells_length]; simp [be4_len]; unfold maxLen; omega) (by rw [Lib.byteCells_length]; simp [be4_len]; omega) C4.size ?_
       intro v6 w6 o6 g6
       have C6 : Below w.heap.size w w6 := below_append C4 O4.out (Nat.le_refl _) g6 C4.size
       rw [Lib.byteCells_length, ← Lib.byteCells_append, ← List.length_append] at o6
       have o6' : Own w6 w.heap.size v6 (frm s) := o6
       have O6 := Lib.hid o6'
       clear g6 o6 o6' O4 C4))
  go_ret
  exact ⟨_, rfl, O6.out, C6⟩
end Go.Proofs.Ytcikdeknbkcggaa
