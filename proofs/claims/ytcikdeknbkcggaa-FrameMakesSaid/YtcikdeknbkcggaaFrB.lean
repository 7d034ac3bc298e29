/- A number in four bytes, a copy of bytes: as contracts. -/
import Derived.Test.YtcikdeknbkcggaaFrA
namespace Go.Proofs.Ytcikdeknbkcggaa
open Go.RowKit

theorem be4_cells (x : Nat) (hx : x < 4294967296) : [Value.int .u8 ((x : Int) / 16777216), .int .u8 ((x : Int) / 65536 % 256), .int .u8 ((x : Int) / 256 % 256), .int .u8 ((x : Int) % 256)] = Lib.byteCells (be4 x) := by
  simp only [Lib.byteCells, be4, List.map_cons, List.map_nil]
  rw [u8 _ (by omega), u8 _ (by omega), u8 _ (by omega), u8 _ (by omega)]
  simp
theorem row_be4 (w : World) (x : Nat) (hx : x < 4294967296) : Row (w.heap.size + 1) (w.alloc (.cells #[.int .u8 ((x : Int) / 16777216), .int .u8 ((x : Int) / 65536 % 256), .int .u8 ((x : Int) / 256 % 256), .int .u8 ((x : Int) % 256)] 5)) (.slice (some ⟨w.heap.size, 0, none⟩) 4 4) (Lib.byteCells (be4 x)) := by
  have h := Row.lit w #[.int .u8 ((x : Int) / 16777216), .int .u8 ((x : Int) / 65536 % 256), .int .u8 ((x : Int) / 256 % 256), .int .u8 ((x : Int) % 256)] 5 (0, 0)
  rw [← be4_cells x hx]
  exact h
/-- A row of bytes of the call's own. -/
def Own (w : World) (base : Nat) (v : Value) (s : List UInt8) : Prop := w.ownsRow base 5 1 v s.length (Lib.byteCells s)
theorem Own.bytes {w : World} {base : Nat} {v : Value} {s : List UInt8} (h : Own w base v s) : Bytes w.heap.size w v s := Bytes.of_row (Row.of_own h)
theorem Own.below {w w' : World} {base : Nat} {v : Value} {s : List UInt8} (h : Own w base v s) (hB : Below w.heap.size w w') : Own w' base v s := own_below h hB
theorem own_nil (w : World) (base : Nat) : Own w base (.slice none 0 0) [] := ⟨rfl, .inl ⟨rfl, rfl⟩⟩
set_option maxHeartbeats 1000000 in
theorem appNum_any (v : Value) (s : List UInt8) (base : Nat) (x : Nat) (hx : x < 4294967296) (w : World) (hown : Own w base v s) (hl : s.length ≤ 200000) (hbase : base ≤ w.heap.size) :
    Calls Try.prog 18 #[v, .int .i64 (x : Int)] w fun e w' => ∃ v', e = .returned v' ∧ Own w' base v' (s ++ be4 x) ∧ Below base w w' := by
  obtain ⟨i0, hi, hz0, hz1, hz2⟩ := info_three info_u8
  have H := Lib.hid hown
  clear hown
  go_enter Try.func18, Try.ntmps18
  go_wp2_with (at_builtin
               refine wpList_append_row _ rfl (.tmp 5) (.tmp 17) 22 rfl base 5 i0 (.int .u8 0) 1 Try.underlying22 hi hz0 hz1 hz2 rfl _ s.length (Lib.byteCells s) rfl (H.out.alloc _) (w.heap.size + 1) _ (Lib.byteCells (be4 x)) rfl (row_be4 w x hx) (one_bytes _) (by rw [Lib.byteCells_length, be4_len]; unfold maxLen; omega) (by rw [Lib.byteCells_length, be4_len]; omega) (by simp; omega) ?_
               intro v' w' o3 g3
               have C3 : Below base w w' := below_append ((Below.refl base w).alloc hbase _) (H.out.alloc _) (Nat.le_refl _) g3 (by simp; omega)
               rw [Lib.byteCells_length, ← Lib.byteCells_append, be4_len, ← be4_len x, ← List.length_append] at o3
               have O3 : Hid (Own w' base v' (s ++ be4 x)) := Lib.hid o3
               clear g3 o3)
  go_ret
  exact ⟨_, rfl, O3.out, C3⟩
set_option maxHeartbeats 1000000 in
theorem refNumber_any (x : Nat) (hx : x < 4294967296) (w : World) :
    Calls Try.prog 21 #[.int .i64 (x : Int)] w fun e w' => ∃ v', e = .returned v' ∧ Own w' w.heap.size v' (be4 x) ∧ Below w.heap.size w w' := by
  go_enter Try.func21, Try.ntmps21
  go_wp2
  go_ret
  refine ⟨.slice (some ⟨w.heap.size, 0, none⟩) 4 4, rfl, ?_, (Below.refl _ _).alloc (Nat.le_refl _) _⟩
  refine ⟨by rw [Lib.byteCells_length]; rfl, .inr ⟨w.heap.size, 4, _, rfl, Nat.le_refl _, heap_alloc_new w _, Nat.le_refl _, by unfold maxLen; omega, rfl, ?_⟩⟩
  rw [← be4_cells x hx]
  rfl
set_option maxHeartbeats 1000000 in
theorem clone_any (n₀ : Nat) (v : Value) (s : List UInt8) (hmax : s.length ≤ 140737488351232) (w : World) (hn : n₀ ≤ w.heap.size) (h : Bytes n₀ w v s) :
    Calls Try.prog 20 #[v] w fun e w' => ∃ v', e = .returned v' ∧ Own w' w.heap.size v' s ∧ Below w.heap.size w w' := by
  obtain ⟨i0, hi, hz0, hz1, hz2⟩ := info_three info_u8
  have H := Lib.hid h
  obtain ⟨A, cap, rfl, hc, ht⟩ := h
  cases A with
  | none =>
    obtain rfl : s = [] := by
      by_cases hs : s = []
      · exact hs
      · obtain ⟨b, off, h, _⟩ := ht hs; cases h
    clear ht hc hmax
    have q22 : ∀ (w : World) (a : Option Addr) (n c n' c' : Nat), (binOp .eql 22 (.slice a n c) (.slice none n' c')).run Try.prog w = .ok (.bool a.isNone) w := fun w a n c n' c' => Lib.run_eql_slice_nil w _ _ a n c n' c' Try.underlying22
    go_enter Try.func20, Try.ntmps20
    go_wp2
    go_ret
    exact ⟨_, rfl, own_nil _ _, Below.refl _ _⟩
  | some a =>
    clear ht
    have q22 : ∀ (w : World) (a : Option Addr) (n c n' c' : Nat), (binOp .eql 22 (.slice a n c) (.slice none n' c')).run Try.prog w = .ok (.bool a.isNone) w := fun w a n c n' c' => Lib.run_eql_slice_nil w _ _ a n c n' c' Try.underlying22
    go_enter Try.func20, Try.ntmps20
    go_wp2_with (at_builtin
                 refine wpList_append_row _ rfl (.tmp 5) (.tmp 6) 22 rfl w.heap.size 5 i0 (.int .u8 0) 1 Try.underlying22 hi hz0 hz1 hz2 rfl _ 0 [] rfl (own_empty _ _ _ (Nat.le_refl _)) n₀ _ (Lib.byteCells s) rfl (Row.of_bytes (H.out.below ((Below.refl _ _).alloc hn _))) (one_bytes _) (by rw [Lib.byteCells_length]; unfold maxLen; omega) (by rw [Lib.byteCells_length]; omega) (by simp) ?_
                 intro v' w' o3 g3
                 have C3 : Below w.heap.size w w' := below_append ((Below.refl _ w).alloc (Nat.le_refl _) _) (own_empty _ _ _ (Nat.le_refl _)) (Nat.le_refl _) g3 (by simp)
                 rw [List.nil_append, Lib.byteCells_length, Nat.zero_add] at o3
                 have O3 : Hid (Own w' w.heap.size v' s) := Lib.hid o3
                 clear g3 o3)
    go_ret
    exact ⟨_, rfl, O3.out, C3⟩
end Go.Proofs.Ytcikdeknbkcggaa
