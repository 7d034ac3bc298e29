/- Bytes that begin with no frame (package frame), as contracts; both together. -/
import Derived.Test.YtcikdeknbkcggaaFrD
namespace Go.Proofs.Ytcikdeknbkcggaa
open Go.RowKit

def RdBad (w : World) (x : Nat) (e : Ending) (w' : World) : Prop := e = .returned (.tuple #[.slice none 0 0, .int .i64 0, .int .i64 (x : Int)]) ∧ ∃ m, w' = w.drewN m
theorem drew0 (w : World) : w = w.drewN 0 := rfl
set_option maxHeartbeats 1000000 in
theorem read_11 (A : Option Addr) (n cap : Nat) (h10 : n < 10) (w : World) : Calls Try.prog 11 #[.slice A n cap] w (RdBad w 11) := by
  go_enter Try.func11, Try.ntmps11
  go_wp2
  go_ret3
  exact ⟨rfl, 0, rfl⟩
set_option maxHeartbeats 1000000 in
theorem read_10a (b off n cap c : Nat) (h10 : 10 ≤ n) (hm : n ≤ 140737488351232) (w : World) (g0 : w.cell? ⟨b, off, none⟩ = some (.int .u8 (c : Int))) (hc : ((c : Int) != 67) = true) : Calls Try.prog 11 #[.slice (some ⟨b, off, none⟩) n cap] w (RdBad w 10) := by
  go_enter Try.func11, Try.ntmps11
  go_wp2
  go_ret3
  exact ⟨rfl, 0, rfl⟩
set_option maxHeartbeats 1000000 in
theorem read_10b (b off n cap c : Nat) (h10 : 10 ≤ n) (hm : n ≤ 140737488351232) (w : World) (g0 : w.cell? ⟨b, off, none⟩ = some (.int .u8 67)) (g1 : w.cell? ⟨b, off + 1, none⟩ = some (.int .u8 (c : Int))) (hc : ((c : Int) != 70) = true) : Calls Try.prog 11 #[.slice (some ⟨b, off, none⟩) n cap] w (RdBad w 10) := by
  go_enter Try.func11, Try.ntmps11
  go_wp2
  go_ret3
  exact ⟨rfl, 0, rfl⟩
set_option maxHeartbeats 1000000 in
theorem read_12 (n₀ b off cap : Nat) (s : List UInt8) (N : Nat) (hm : s.length ≤ 140737488351232) (hc : s.length ≤ cap) (h10 : 10 ≤ s.length) (h0 : at_ s 0 = 67) (h1 : at_ s 1 = 70) (hN : rdN s = N) (h12 : 65536 < N)
    (w : World) (hb : b < n₀) (ht : ∀ j, j < s.length → w.cell? ⟨b, off + j, none⟩ = some (.int .u8 ((at_ s j : Nat) : Int))) :
    Calls Try.prog 11 #[.slice (some ⟨b, off, none⟩) s.length cap] w (RdBad w 12) := by
  have HN : Hid (num ((s.drop 2).take 4) = N) := Lib.hid hN
  have HT := Lib.hid ht
  have g0 := ht 0 (by omega)
  have g1 := ht 1 (by omega)
  rw [Nat.add_zero, h0] at g0
  rw [h1] at g1
  clear hN ht h0 h1
  go_enter Try.func11, Try.ntmps11
  go_wp2_with fail
  refine (number_at n₀ b off _ s 2 N hb w HT.out (by omega) (by omega) HN.out).mono ?_
  rintro e w1 ⟨rfl, hw1⟩
  have hw2 := hw1.symm
  subst hw2
  go_wp2
  go_ret3
  exact ⟨rfl, 0, rfl⟩
set_option maxHeartbeats 1000000 in
theorem read_11b (n₀ b off cap : Nat) (s : List UInt8) (N : Nat) (hm : s.length ≤ 140737488351232) (hc : s.length ≤ cap) (h10 : 10 ≤ s.length) (h0 : at_ s 0 = 67) (h1 : at_ s 1 = 70) (hN : rdN s = N) (h12 : N ≤ 65536) (hl : s.length < 10 + N)
    (w : World) (hb : b < n₀) (ht : ∀ j, j < s.length → w.cell? ⟨b, off + j, none⟩ = some (.int .u8 ((at_ s j : Nat) : Int))) :
    Calls Try.prog 11 #[.slice (some ⟨b, off, none⟩) s.length cap] w (RdBad w 11) := by
  have HN : Hid (num ((s.drop 2).take 4) = N) := Lib.hid hN
  have HT := Lib.hid ht
  have g0 := ht 0 (by omega)
  have g1 := ht 1 (by omega)
  rw [Nat.add_zero, h0] at g0
  rw [h1] at g1
  clear hN ht h0 h1
  go_enter Try.func11, Try.ntmps11
  go_wp2_with fail
  refine (number_at n₀ b off _ s 2 N hb w HT.out (by omega) (by omega) HN.out).mono ?_
  rintro e w1 ⟨rfl, hw1⟩
  have hw2 := hw1.symm
  subst hw2
  go_wp2
  go_ret3
  exact ⟨rfl, 0, rfl⟩
set_option maxHeartbeats 2000000 in
theorem read_151 (n₀ b off cap : Nat) (s : List UInt8) (N Sm Sn : Nat) (hm : s.length ≤ 140737488351232) (hc : s.length ≤ cap) (h10 : 10 ≤ s.length) (hcap : 10 < cap) (h0 : at_ s 0 = 67) (h1 : at_ s 1 = 70) (hN : rdN s = N) (h12 : N ≤ 65536) (hl : 10 + N ≤ s.length) (hK : rdK s = Sm) (hS : adl (rdB s) = Sn) (hne : ((Sn : Int) != (Sm : Int)) = true)
    (w : World) (hb : b < n₀) (ht : ∀ j, j < s.length → w.cell? ⟨b, off + j, none⟩ = some (.int .u8 ((at_ s j : Nat) : Int))) :
    Calls Try.prog 11 #[.slice (some ⟨b, off, none⟩) s.length cap] w (RdBad w 15) := by
  have HN : Hid (num ((s.drop 2).take 4) = N) := Lib.hid hN
  have HK : Hid (num ((s.drop 6).take 4) = Sm) := Lib.hid hK
  have HB : Hid ((s.drop 10).take N = rdB s) := Lib.hid (by unfold rdB; rw [hN])
  have HS := Lib.hid hS
  have HT := Lib.hid ht
  have g0 := ht 0 (by omega)
  have g1 := ht 1 (by omega)
  rw [Nat.add_zero, h0] at g0
  rw [h1] at g1
  clear hN hK hS ht h0 h1
  go_enter Try.func11, Try.ntmps11
  go_wp2_with fail
  refine (number_at n₀ b off _ s 2 N hb w HT.out (by omega) (by omega) HN.out).mono ?_
  rintro e w1 ⟨rfl, hw1⟩
  have hw2 := hw1.symm
  subst hw2
  go_wp2_with fail
  go_quiet ((first | (go_at_call 12; exact Calls.quiet_of_same (sum_at n₀ b off _ s _ 10 N _ Sn (by omega) hb _ HT.out (by omega) hm (by omega) HB.out HS.out)) | (go_at_call 19; exact Calls.quiet_of_same (number_at n₀ b off _ s 6 Sm hb _ HT.out (by omega) (by omega) HK.out))))
  go_wp2
  go_ret3
  exact ⟨rfl, _, rfl⟩
set_option maxHeartbeats 2000000 in
theorem read_150 (n₀ b off : Nat) (s : List UInt8) (Sm Sn : Nat) (h10 : s.length = 10) (h0 : at_ s 0 = 67) (h1 : at_ s 1 = 70) (hN : rdN s = 0) (hK : rdK s = Sm) (hS : adl (rdB s) = Sn) (hne : ((Sn : Int) != (Sm : Int)) = true)
    (w : World) (hb : b < n₀) (ht : ∀ j, j < s.length → w.cell? ⟨b, off + j, none⟩ = some (.int .u8 ((at_ s j : Nat) : Int))) :
    Calls Try.prog 11 #[.slice (some ⟨b, off, none⟩) 10 10] w (RdBad w 15) := by
  have HN : Hid (num ((s.drop 2).take 4) = 0) := Lib.hid hN
  have HK : Hid (num ((s.drop 6).take 4) = Sm) := Lib.hid hK
  have HS := Lib.hid hS
  have HT := Lib.hid ht
  have g0 := ht 0 (by omega)
  have g1 := ht 1 (by omega)
  rw [Nat.add_zero, h0] at g0
  rw [h1] at g1
  have hB0 : rdB s = [] := by unfold rdB; rw [hN]; rfl
  rw [hB0] at HS
  have H10 := Lib.hid h10
  clear h10 hB0
  clear hN hK hS ht h0 h1
  go_enter Try.func11, Try.ntmps11
  go_wp2_with fail
  refine (number_at n₀ b off _ s 2 0 hb w HT.out (by have := H10.out; omega) (by omega) HN.out).mono ?_
  rintro e w1 ⟨rfl, hw1⟩
  have hw2 := hw1.symm
  subst hw2
  go_wp2_with fail
  go_quiet ((first | (go_at_call 12; exact Calls.quiet_of_same (sum_nil n₀ _ Sn _ HS.out (bytes_empty _ _ _ _))) | (go_at_call 19; exact Calls.quiet_of_same (number_at n₀ b off _ s 6 Sm hb _ HT.out (by have := H10.out; omega) (by omega) HK.out))))
  go_wp2
  go_ret3
  exact ⟨rfl, _, rfl⟩
theorem ne_int (a c : Nat) (h : a ≠ c) : ((a : Int) != (c : Int)) = true := by simp; omega
/-- Read of bytes that begin with a frame. -/
theorem read_ok (n₀ : Nat) (v : Value) (s : List UInt8) (hm : s.length ≤ 140737488351232) (w : World) (hn : n₀ ≤ w.heap.size) (h : Bytes n₀ w v s) (h0 : rdE s = 0) :
    Calls Try.prog 11 #[v] w fun e w' => ∃ v', e = .returned (.tuple #[v', .int .i64 ((10 + (rdB s).length : Nat) : Int), .int .i64 0]) ∧ Own w' w.heap.size v' (rdB s) ∧ Below w.heap.size w w' := by
  obtain ⟨A, cap, rfl, hc, ht⟩ := h
  obtain ⟨a, b, c, d, e, f⟩ := rdE_ok h0
  have hl := rdB_len h0
  obtain ⟨B, off, rfl, hb, ht⟩ := ht (by rintro rfl; simp at a)
  rw [hl]
  by_cases hcap : 10 < cap
  · exact read_ok1 n₀ B off cap s (rdN s) (rdK s) hm hc a hcap b c rfl d e rfl f w hn hb ht
  · have hN : rdN s = 0 := by omega
    have hs : s.length = 10 := by omega
    have hcap : cap = 10 := by omega
    rw [hN, hs, hcap]
    exact read_ok0 n₀ B off s (rdK s) hs b c hN rfl f w hn hb ht
theorem read_bad (n₀ : Nat) (v : Value) (s : List UInt8) (hm : s.length ≤ 140737488351232) (w : World) (h : Bytes n₀ w v s) (h0 : rdE s ≠ 0) :
    Calls Try.prog 11 #[v] w (RdBad w (rdE s)) := by
  obtain ⟨A, cap, rfl, hc, ht⟩ := h
  by_cases h10 : s.length < 10
  · rw [show rdE s = 11 from rd_short h10]; exact read_11 A _ _ h10 w
  · obtain ⟨B, off, rfl, hb, ht⟩ := ht (by rintro rfl; simp at h10)
    have g0 := ht 0 (by omega)
    have g1 := ht 1 (by omega)
    rw [Nat.add_zero] at g0
    by_cases ha : at_ s 0 = 67
    · by_cases hb' : at_ s 1 = 70
      · by_cases h12 : 65536 < rdN s
        · rw [show rdE s = 12 by unfold rdE; rw [if_neg h10, if_neg (by omega), if_pos h12]]
          exact read_12 n₀ B off cap s (rdN s) hm hc (by omega) ha hb' rfl h12 w hb ht
        · by_cases hl : s.length < 10 + rdN s
          · rw [show rdE s = 11 by unfold rdE; rw [if_neg h10, if_neg (by omega), if_neg h12, if_pos hl]]
            exact read_11b n₀ B off cap s (rdN s) hm hc (by omega) ha hb' rfl (by omega) hl w hb ht
          · have hS : adl (rdB s) ≠ rdK s := by
              intro hS
              apply h0
              unfold rdE; rw [if_neg h10, if_neg (by omega), if_neg h12, if_neg hl, if_neg (by simpa using hS)]
            rw [show rdE s = 15 by unfold rdE; rw [if_neg h10, if_neg (by omega), if_neg h12, if_neg hl, if_pos hS]]
            by_cases hcap : 10 < cap
            · exact read_151 n₀ B off cap s (rdN s) (rdK s) (adl (rdB s)) hm hc (by omega) hcap ha hb' rfl (by omega) (by omega) rfl rfl (ne_int _ _ hS) w hb ht
            · have hN : rdN s = 0 := by omega
              have hs : s.length = 10 := by omega
              have hcap : cap = 10 := by omega
              rw [hs, hcap]
              exact read_150 n₀ B off s (rdK s) (adl (rdB s)) hs ha hb' hN rfl rfl (ne_int _ _ hS) w hb ht
      · rw [show rdE s = 10 by unfold rdE; rw [if_neg h10, if_pos (.inr hb')]]
        rw [ha] at g0
        exact read_10b B off _ cap (at_ s 1) (by omega) hm w g0 g1 (ne_int _ 70 hb')
    · rw [show rdE s = 10 by unfold rdE; rw [if_neg h10, if_pos (.inl ha)]]
      exact read_10a B off _ cap (at_ s 0) (by omega) hm w g0 (ne_int _ 67 ha)
end Go.Proofs.Ytcikdeknbkcggaa
