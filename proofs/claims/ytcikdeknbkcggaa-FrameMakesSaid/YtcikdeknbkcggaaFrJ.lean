/- The laws' anchor: true. -/
import Derived.Test.YtcikdeknbkcggaaFrI
namespace Go.Proofs.Ytcikdeknbkcggaa
open Go.RowKit

def Stp (P : Prop) := P
theorem stp {P : Prop} (h : Stp P) : P := h
theorem frm_nil : frm [] = [67, 70, 0, 0, 0, 0, 0, 0, 0, 1] := by decide
theorem adl_abc : adl [97, 98, 99] = 38600999 := by decide
theorem bytes_abc (w : World) (fr : Nat × Nat) : Bytes (w.heap.size + 1) (w.alloc (.cells #[.int .u8 97, .int .u8 98, .int .u8 99] 5 fr)) (.slice (some ⟨w.heap.size, 0, none⟩) 3 3) [97, 98, 99] :=
  Bytes.of_row (Row.lit w #[.int .u8 97, .int .u8 98, .int .u8 99] 5 fr)
set_option maxHeartbeats 1000000 in
theorem anchor10_any (w : World) : Calls Try.prog 9 #[] w fun e w' => e = .returned (.bool true) ∧ Below w.heap.size w w' := by
  have kc := fun (W : World) (C : Array Value) (n c : Nat) => Lib.run_convert_bytes_const (P := Try.prog) W 22 5 C n c Try.underlying22 Try.underlying5
  go_enter Try.func9, Try.ntmps9
  go_wp2_with fail
  refine (make_ok 0 _ [] (by simp) w (Nat.zero_le _) (bytes_nil 0 w)).mono ?_
  rintro e w1 ⟨v1, rfl, o1, B1⟩
  obtain ⟨A, c, rfl⟩ := one_slice o1
  have hs := run_string_bytes o1.bytes
  rw [frm_nil] at hs ⊢
  simp only [List.length_cons, List.length_nil, Nat.reduceAdd] at hs ⊢
  clear o1
  go_wp2_with (go_at_call 12; refine (sum_any (w1.heap.size + 1) _ [97, 98, 99] (by simp) _ (bytes_abc w1 _)).mono ?_; rintro e w' ⟨rfl, rfl⟩; rw [adl_abc])
  go_ret
  exact ⟨rfl, B1.alloc B1.size _⟩
end Go.Proofs.Ytcikdeknbkcggaa
