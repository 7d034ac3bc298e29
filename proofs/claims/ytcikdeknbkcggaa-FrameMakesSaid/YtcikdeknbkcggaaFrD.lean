/- The first frame of bytes (package frame), as contracts. -/
import Derived.Test.YtcikdeknbkcggaaFrC
namespace Go.Proofs.Ytcikdeknbkcggaa
open Go.RowKit

theorem number_at (n₀ : Nat) (b off c : Nat) (s : List UInt8) (i N : Nat) (hb : b < n₀) (w : World) (ht : ∀ j, j < s.length → w.cell? ⟨b, off + j, none⟩ = some (.int .u8 ((at_ s j : Nat) : Int))) (hi : i + 4 ≤ s.length) (hc : 4 ≤ c) (hN : num ((s.drop i).take 4) = N) :
    Calls Try.prog 19 #[.slice (some ⟨b, off + i, none⟩) 4 c] w fun e w' => e = .returned (.int .i64 (N : Int)) ∧ w' = w := by
  subst hN
  exact (number_any n₀ _ _ (by simp; omega) w (Bytes.sub hb ht i 4 c (by omega) hc)).mono fun _ _ h => ⟨h.1, h.2.symm⟩
theorem sum_at (n₀ : Nat) (b off c : Nat) (s t : List UInt8) (i N L S : Nat) (hL : L = N) (hb : b < n₀) (w : World) (ht : ∀ j, j < s.length → w.cell? ⟨b, off + j, none⟩ = some (.int .u8 ((at_ s j : Nat) : Int))) (hi : i + N ≤ s.length) (hm : s.length ≤ 140737488351232) (hc : N ≤ c) (hT : (s.drop i).take N = t) (hS : adl t = S) :
    Calls Try.prog 12 #[.slice (some ⟨b, off + i, none⟩) L c] w fun e w' => e = .returned (.int .i64 (S : Int)) ∧ w' = w := by
  subst hS hT hL
  exact (sum_any n₀ _ _ (by simp; omega) w (Bytes.sub hb ht i _ c hi hc)).mono fun _ _ h => ⟨h.1, h.2.symm⟩
theorem sum_nil (n₀ : Nat) (v : Value) (S : Nat) (w : World) (hS : adl [] = S) (hv : Bytes n₀ w v []) :
    Calls Try.prog 12 #[v] w fun e w' => e = .returned (.int .i64 (S : Int)) ∧ w' = w := by
  subst hS
  exact (sum_any n₀ _ [] (by simp) w hv).mono fun _ _ h => ⟨h.1, h.2.symm⟩
set_option maxHeartbeats 2000000 in
theorem read_ok1 (n₀ b off cap : Nat) (s : List UInt8) (N Sm : Nat) (hm : s.length ≤ 140737488351232) (hc : s.length ≤ cap) (h10 : 10 ≤ s.length) (hcap : 10 < cap) (h0 : at_ s 0 = 67) (h1 : at_ s 1 = 70) (hN : rdN s = N) (h12 : N ≤ 65536) (hl : 10 + N ≤ s.length) (hK : rdK s = Sm) (hS : adl (rdB s) = Sm)
    (w : World) (hn : n₀ ≤ w.heap.size) (hb : b < n₀) (ht : ∀ j, j < s.length → w.cell? ⟨b, off + j, none⟩ = some (.int .u8 ((at_ s j : Nat) : Int))) :
    Calls Try.prog 11 #[.slice (some ⟨b, off, none⟩) s.length cap] w fun e w' => ∃ v', e = .returned (.tuple #[v', .int .i64 ((10 + N : Nat) : Int), .int .i64 0]) ∧ Own w' w.heap.size v' (rdB s) ∧ Below w.heap.size w w' := by
  have HN : Hid (num ((s.drop 2).take 4) = N) := Lib.hid hN
  have HK : Hid (num ((s.drop 6).take 4) = Sm) := Lib.hid hK
  have HB : Hid ((s.drop 10).take N = rdB s) := Lib.hid (by unfold rdB; rw [hN])
  have HS := Lib.hid hS
  have HT := Lib.hid ht
  have g0 := ht 0 (by omega)
  have g1 := ht 1 (by omega)
  rw [Nat.add_zero, h0] at g0
  rw [h1] at g1
  clear hN hK hS ht h0 h1
  go_enter Try.func11, Try.ntmps11
  go_wp2_with fail
  refine (number_at n₀ b off _ s 2 N hb w HT.out (by omega) (by omega) HN.out).mono ?_
  rintro e w1 ⟨rfl, hw1⟩
  have hw2 := hw1.symm
  subst hw2
  go_wp2_with fail
  go_quiet ((first | (go_at_call 12; exact Calls.quiet_of_same (sum_at n₀ b off _ s _ 10 N _ Sm (by omega) hb _ HT.out (by omega) hm (by omega) HB.out HS.out)) | (go_at_call 19; exact Calls.quiet_of_same (number_at n₀ b off _ s 6 Sm hb _ HT.out (by omega) (by omega) HK.out))))
  go_wp2_with fail
  refine (clone_any n₀ _ (rdB s) (by rw [← HB.out]; simp; omega) _ (by simpa using hn) ?_).mono ?_
  · rw [← HB.out]
    exact Bytes.sub hb HT.out 10 N _ hl (by omega)
  rintro e w2 ⟨v2, rfl, o2, B2⟩
  have O2 := Lib.hid o2
  have hB2 : Below w.heap.size w w2 := (Below.drewN' (Below.refl w.heap.size w) _).trans B2
  clear o2 B2
  go_wp2
  go_ret3
  exact ⟨_, rfl, O2.out, hB2⟩
set_option maxHeartbeats 2000000 in
theorem read_ok0 (n₀ b off : Nat) (s : List UInt8) (Sm : Nat) (h10 : s.length = 10) (h0 : at_ s 0 = 67) (h1 : at_ s 1 = 70) (hN : rdN s = 0) (hK : rdK s = Sm) (hS : adl (rdB s) = Sm)
    (w : World) (hn : n₀ ≤ w.heap.size) (hb : b < n₀) (ht : ∀ j, j < s.length → w.cell? ⟨b, off + j, none⟩ = some (.int .u8 ((at_ s j : Nat) : Int))) :
    Calls Try.prog 11 #[.slice (some ⟨b, off, none⟩) 10 10] w fun e w' => ∃ v', e = .returned (.tuple #[v', .int .i64 10, .int .i64 0]) ∧ Own w' w.heap.size v' (rdB s) ∧ Below w.heap.size w w' := by
  have HN : Hid (num ((s.drop 2).take 4) = 0) := Lib.hid hN
  have HK : Hid (num ((s.drop 6).take 4) = Sm) := Lib.hid hK
  have HB : Hid ((s.drop 10).take 0 = rdB s) := Lib.hid (by unfold rdB; rw [hN])
  have HS := Lib.hid hS
  have HT := Lib.hid ht
  have g0 := ht 0 (by omega)
  have g1 := ht 1 (by omega)
  rw [Nat.add_zero, h0] at g0
  rw [h1] at g1
  have hB0 : rdB s = [] := by unfold rdB; rw [hN]; rfl
  rw [hB0] at HS ⊢
  have H10 := Lib.hid h10
  clear h10 hB0 HB
  clear hN hK hS ht h0 h1
  go_enter Try.func11, Try.ntmps11
  go_wp2_with fail
  refine (number_at n₀ b off _ s 2 0 hb w HT.out (by have := H10.out; omega) (by omega) HN.out).mono ?_
  rintro e w1 ⟨rfl, hw1⟩
  have hw2 := hw1.symm
  subst hw2
  go_wp2_with fail
  go_quiet ((first | (go_at_call 12; exact Calls.quiet_of_same (sum_nil n₀ _ Sm _ HS.out (bytes_empty _ _ _ _))) | (go_at_call 19; exact Calls.quiet_of_same (number_at n₀ b off _ s 6 Sm hb _ HT.out (by have := H10.out; omega) (by omega) HK.out))))
  go_wp2_with fail
  refine (clone_any n₀ _ [] (by simp) _ (by simpa using hn) (bytes_empty _ _ _ _)).mono ?_
  rintro e w2 ⟨v2, rfl, o2, B2⟩
  have O2 := Lib.hid o2
  have hB2 : Below w.heap.size w w2 := (Below.drewN' (Below.refl w.heap.size w) _).trans B2
  clear o2 B2
  go_wp2
  go_ret3
  exact ⟨_, rfl, O2.out, hB2⟩
end Go.Proofs.Ytcikdeknbkcggaa
