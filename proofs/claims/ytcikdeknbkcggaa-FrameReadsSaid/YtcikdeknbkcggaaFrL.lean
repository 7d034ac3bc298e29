/- The law FrameReads, as a contract: true, and nothing that lay has turned. -/
import Derived.Test.YtcikdeknbkcggaaFrJ
namespace Go.Proofs.Ytcikdeknbkcggaa
open Go.RowKit

set_option maxHeartbeats 1000000 in
theorem reads_big (A : Option Addr) (n cap : Nat) (h : 3000 < n) (hm : n ≤ 9223372036854775807) (w : World) : Calls Try.prog 4 #[.slice A n cap] w fun e w' => e = .returned (.bool true) ∧ Below w.heap.size w w' := by
  go_enter Try.func4, Try.ntmps4
  go_wp2_with fail
  refine (anchor10_any w).mono ?_
  rintro e w1 ⟨rfl, hB1⟩
  go_wp2
  go_ret
  exact ⟨rfl, hB1⟩
set_option maxHeartbeats 1000000 in
theorem reads_no (v : Value) (s : List UInt8) (hl : s.length ≤ 3000) (w : World) (h : Bytes w.heap.size w v s) (hE : rdE s ≠ 0) : Calls Try.prog 4 #[v] w fun e w' => e = .returned (.bool true) ∧ Below w.heap.size w w' := by
  have H := Lib.hid h
  obtain ⟨A, c, rfl⟩ := one_bytes_slice h
  have HE := Lib.hid hE
  have hx : ((rdE s : Int) != 0) = true := by simp; omega
  obtain ⟨x, hxe⟩ : ∃ x, x = rdE s := ⟨_, rfl⟩
  rw [← hxe] at hx
  have HX := Lib.hid hxe
  have bad : ∀ wr x e w1, RdBad wr x e w1 → e = .returned (.tuple #[.slice none 0 0, .int .i64 0, .int .i64 (x : Int)]) ∧ Below wr.heap.size wr w1 := fun _ _ _ _ h => bad_below h
  have BAD := Lib.hid bad
  have rbad : ∀ wr x e w1, RfBad wr x e w1 → e = .returned (.tuple #[.slice none 0 0, .int .i64 (x : Int)]) ∧ Below wr.heap.size wr w1 := fun _ _ _ _ h => rbad_below h
  have RBAD := Lib.hid rbad
  clear h hE hxe bad rbad
  go_enter Try.func4, Try.ntmps4
  go_wp2_with fail
  refine (anchor10_any w).mono ?_
  rintro e w1 ⟨rfl, hB1⟩
  have C1 := Lib.hid hB1
  clear hB1
  go_wp2_with fail
  refine (read_bad w.heap.size _ s (by omega) w1 (H.out.below C1.out) HE.out).mono ?_
  intro e w2 h1
  obtain ⟨rfl, hB2⟩ := BAD.out _ _ _ _ h1
  rw [← HX.out]
  have C2 := Lib.hid (C1.out.trans (hB2.mono C1.out.size))
  clear h1 hB2 C1
  go_wp2_with fail
  refine (rf_bad w.heap.size _ s (by omega) w2 (H.out.below C2.out) HE.out).mono ?_
  intro e w3 h1
  obtain ⟨rfl, hB3⟩ := RBAD.out _ _ _ _ h1
  rw [← HX.out]
  have C3 := Lib.hid (C2.out.trans (hB3.mono C2.out.size))
  clear h1 hB3 C2
  go_wp2
  go_ret
  exact ⟨rfl, C3.out⟩
set_option maxHeartbeats 1000000 in
theorem reads_yes (v : Value) (s : List UInt8) (hl : s.length ≤ 3000) (w : World) (h : Bytes w.heap.size w v s) (hE : rdE s = 0) : Calls Try.prog 4 #[v] w fun e w' => e = .returned (.bool true) ∧ Below w.heap.size w w' := by
  have H := Lib.hid h
  obtain ⟨A, c, rfl⟩ := one_bytes_slice h
  have HE := Lib.hid hE
  have hb := ten_le (u := 0) (s := s) (by rw [List.drop_zero]; exact hE)
  rw [List.drop_zero] at hb
  obtain ⟨T, hT⟩ : ∃ T, T = rdB s := ⟨_, rfl⟩
  have hbl : T.length ≤ 3000 := by rw [hT]; omega
  have HT := Lib.hid hT
  clear h hE hb hT
  go_enter Try.func4, Try.ntmps4
  go_wp2_with fail
  refine (anchor10_any w).mono ?_
  rintro e w1 ⟨rfl, hB1⟩
  have C1 := Lib.hid hB1
  clear hB1
  go_wp2_with fail
  refine (read_ok w.heap.size _ s (by omega) w1 C1.out.size (H.out.below C1.out) HE.out).mono ?_
  rintro e w2 ⟨x2, rfl, o2, hB2⟩
  rw [← HT.out] at o2 ⊢
  obtain ⟨A2, c2, rfl⟩ := one_slice o2
  have O2 := Lib.hid o2.bytes
  have C2 := Lib.hid (C1.out.trans (hB2.mono C1.out.size))
  clear o2 hB2 C1
  go_wp2_with fail
  refine (rf_ok w.heap.size _ s (by omega) w2 (H.out.below C2.out) HE.out).mono ?_
  intro e w3 h1
  obtain ⟨x3, rfl, o3, hB3⟩ := rok_below h1
  rw [← HT.out] at o3
  obtain ⟨A3, c3, rfl⟩ := one_bytes_slice o3
  have s2 := run_string_bytes (O2.out.below hB3)
  have s3 := run_string_bytes (o3.below (hB3.mono C2.out.size))
  have C3 := Lib.hid (C2.out.trans (hB3.mono C2.out.size))
  clear h1 hB3 C2 o3
  go_wp2
  go_ret
  exact ⟨rfl, C3.out⟩
theorem frameReads_law (v : Value) (s : List UInt8) (w : World) (hm : s.length ≤ 9223372036854775807) (h : Bytes w.heap.size w v s) :
    Calls Try.prog 4 #[v] w fun e w' => e = .returned (.bool true) ∧ Below w.heap.size w w' := by
  by_cases hl : s.length ≤ 3000
  · by_cases hE : rdE s = 0
    · exact reads_yes v s hl w h hE
    · exact reads_no v s hl w h hE
  · obtain ⟨A, c, rfl⟩ := one_bytes_slice h
    exact reads_big A _ c (by omega) hm w
end Go.Proofs.Ytcikdeknbkcggaa
