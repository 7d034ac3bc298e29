/- The first frame of bytes by the document's answer (colanderref10), as contracts. -/
import Derived.Test.YtcikdeknbkcggaaFrE
namespace Go.Proofs.Ytcikdeknbkcggaa
open Go.RowKit

def QInt (w : World) (S : Nat) (e : Ending) (w' : World) : Prop := e = .returned (.int .i64 (S : Int)) ∧ ∃ m, w' = w.drewN m
theorem four_at (n₀ : Nat) (b off c : Nat) (s : List UInt8) (i N : Nat) (hb : b < n₀) (w : World) (ht : ∀ j, j < s.length → w.cell? ⟨b, off + j, none⟩ = some (.int .u8 ((at_ s j : Nat) : Int))) (hi : i + 4 ≤ s.length) (hc : 4 ≤ c) (hN : num ((s.drop i).take 4) = N) :
    Calls Try.prog 22 #[.slice (some ⟨b, off + i, none⟩) 4 c] w fun e w' => e = .returned (.int .i64 (N : Int)) ∧ ∃ m, w' = w.drewN m := by
  subst hN
  exact four_any n₀ _ _ (by simp; omega) w (Bytes.sub hb ht i 4 c (by omega) hc)
theorem refSum_at (n₀ : Nat) (b off c : Nat) (s t : List UInt8) (i N L S : Nat) (hL : L = N) (hb : b < n₀) (w : World) (ht : ∀ j, j < s.length → w.cell? ⟨b, off + j, none⟩ = some (.int .u8 ((at_ s j : Nat) : Int))) (hi : i + N ≤ s.length) (hm : s.length ≤ 140737488351232) (hc : N ≤ c) (hT : (s.drop i).take N = t) (hS : adl t = S) :
    Calls Try.prog 13 #[.slice (some ⟨b, off + i, none⟩) L c] w fun e w' => e = .returned (.int .i64 (S : Int)) ∧ w' = w := by
  subst hS hT hL
  exact (refSum_any n₀ _ _ (by simp; omega) w (Bytes.sub hb ht i _ c hi hc)).mono fun _ _ h => ⟨h.1, h.2.symm⟩
theorem refSum_nil (n₀ : Nat) (v : Value) (S : Nat) (w : World) (hS : adl [] = S) (hv : Bytes n₀ w v []) :
    Calls Try.prog 13 #[v] w fun e w' => e = .returned (.int .i64 (S : Int)) ∧ w' = w := by
  subst hS
  exact (refSum_any n₀ _ [] (by simp) w hv).mono fun _ _ h => ⟨h.1, h.2.symm⟩
def RfBad (w : World) (x : Nat) (e : Ending) (w' : World) : Prop := e = .returned (.tuple #[.slice none 0 0, .int .i64 (x : Int)]) ∧ ∃ m, w' = w.drewN m
def RfOk (n₀ : Nat) (w : World) (t : List UInt8) (e : Ending) (w' : World) : Prop := ∃ v', e = .returned (.tuple #[v', .int .i64 0]) ∧ Bytes n₀ w v' t ∧ ∃ m, w' = w.drewN m
theorem drewN2 {w w1 w2 : World} {a b : Nat} (h1 : w1 = w.drewN a) (h2 : w2 = w1.drewN b) : ∃ m, w2 = w.drewN m := ⟨a + b, by rw [h2, h1, World.drewN_drewN]⟩
theorem cells_drewN {w w1 : World} {a b off n : Nat} {s : List UInt8} (h : ∀ j, j < n → w.cell? ⟨b, off + j, none⟩ = some (.int .u8 ((at_ s j : Nat) : Int))) (h1 : w1 = w.drewN a) : ∀ j, j < n → w1.cell? ⟨b, off + j, none⟩ = some (.int .u8 ((at_ s j : Nat) : Int)) := by
  subst h1; exact h
set_option maxHeartbeats 1000000 in
theorem rf_11 (A : Option Addr) (n cap : Nat) (h10 : n < 10) (w : World) : Calls Try.prog 15 #[.slice A n cap] w (RfBad w 11) := by
  go_enter Try.func15, Try.ntmps15
  go_wp2
  go_ret2
  exact ⟨rfl, 0, rfl⟩
set_option maxHeartbeats 1000000 in
theorem rf_10a (b off n cap c : Nat) (h10 : 10 ≤ n) (hm : n ≤ 140737488351232) (w : World) (g0 : w.cell? ⟨b, off, none⟩ = some (.int .u8 (c : Int))) (hc : ((c : Int) != 67) = true) : Calls Try.prog 15 #[.slice (some ⟨b, off, none⟩) n cap] w (RfBad w 10) := by
  go_enter Try.func15, Try.ntmps15
  go_wp2
  go_ret2
  exact ⟨rfl, 0, rfl⟩
set_option maxHeartbeats 1000000 in
theorem rf_10b (b off n cap c : Nat) (h10 : 10 ≤ n) (hm : n ≤ 140737488351232) (w : World) (g0 : w.cell? ⟨b, off, none⟩ = some (.int .u8 67)) (g1 : w.cell? ⟨b, off + 1, none⟩ = some (.int .u8 (c : Int))) (hc : ((c : Int) != 70) = true) : Calls Try.prog 15 #[.slice (some ⟨b, off, none⟩) n cap] w (RfBad w 10) := by
  go_enter Try.func15, Try.ntmps15
  go_wp2
  go_ret2
  exact ⟨rfl, 0, rfl⟩
set_option maxHeartbeats 1000000 in
theorem rf_12 (n₀ b off cap : Nat) (s : List UInt8) (N : Nat) (hm : s.length ≤ 140737488351232) (hc : s.length ≤ cap) (h10 : 10 ≤ s.length) (h0 : at_ s 0 = 67) (h1 : at_ s 1 = 70) (hN : rdN s = N) (h12 : 65536 < N)
    (w : World) (hb : b < n₀) (ht : ∀ j, j < s.length → w.cell? ⟨b, off + j, none⟩ = some (.int .u8 ((at_ s j : Nat) : Int))) :
    Calls Try.prog 15 #[.slice (some ⟨b, off, none⟩) s.length cap] w (RfBad w 12) := by
  have HN : Hid (num ((s.drop 2).take 4) = N) := Lib.hid hN
  have HT := Lib.hid ht
  have g0 := ht 0 (by omega)
  have g1 := ht 1 (by omega)
  rw [Nat.add_zero, h0] at g0
  rw [h1] at g1
  clear hN ht h0 h1
  go_enter Try.func15, Try.ntmps15
  go_wp2_with fail
  refine (four_at n₀ b off _ s 2 N hb w HT.out (by omega) (by omega) HN.out).mono ?_
  rintro e w1 ⟨rfl, m1, hw1⟩
  have T1 := Lib.hid (cells_drewN HT.out hw1)
  have HW := Lib.hid hw1
  clear hw1
  go_wp2
  go_ret2
  exact ⟨rfl, _, HW.out⟩
set_option maxHeartbeats 1000000 in
theorem rf_11b (n₀ b off cap : Nat) (s : List UInt8) (N : Nat) (hm : s.length ≤ 140737488351232) (hc : s.length ≤ cap) (h10 : 10 ≤ s.length) (h0 : at_ s 0 = 67) (h1 : at_ s 1 = 70) (hN : rdN s = N) (h12 : N ≤ 65536) (hl : s.length < 10 + N)
    (w : World) (hb : b < n₀) (ht : ∀ j, j < s.length → w.cell? ⟨b, off + j, none⟩ = some (.int .u8 ((at_ s j : Nat) : Int))) :
    Calls Try.prog 15 #[.slice (some ⟨b, off, none⟩) s.length cap] w (RfBad w 11) := by
  have HN : Hid (num ((s.drop 2).take 4) = N) := Lib.hid hN
  have HT := Lib.hid ht
  have g0 := ht 0 (by omega)
  have g1 := ht 1 (by omega)
  rw [Nat.add_zero, h0] at g0
  rw [h1] at g1
  clear hN ht h0 h1
  go_enter Try.func15, Try.ntmps15
  go_wp2_with fail
  refine (four_at n₀ b off _ s 2 N hb w HT.out (by omega) (by omega) HN.out).mono ?_
  rintro e w1 ⟨rfl, m1, hw1⟩
  have T1 := Lib.hid (cells_drewN HT.out hw1)
  have HW := Lib.hid hw1
  clear hw1
  go_wp2
  go_ret2
  exact ⟨rfl, _, HW.out⟩
set_option maxHeartbeats 2000000 in
theorem rf_151 (n₀ b off cap : Nat) (s : List UInt8) (N Sm Sn : Nat) (hm : s.length ≤ 140737488351232) (hc : s.length ≤ cap) (h10 : 10 ≤ s.length) (hcap : 10 < cap) (h0 : at_ s 0 = 67) (h1 : at_ s 1 = 70) (hN : rdN s = N) (h12 : N ≤ 65536) (hl : 10 + N ≤ s.length) (hK : rdK s = Sm) (hS : adl (rdB s) = Sn) (hne : ((Sn : Int) != (Sm : Int)) = true)
    (w : World) (hb : b < n₀) (ht : ∀ j, j < s.length → w.cell? ⟨b, off + j, none⟩ = some (.int .u8 ((at_ s j : Nat) : Int))) :
    Calls Try.prog 15 #[.slice (some ⟨b, off, none⟩) s.length cap] w (RfBad w 15) := by
  have HN : Hid (num ((s.drop 2).take 4) = N) := Lib.hid hN
  have HK : Hid (num ((s.drop 6).take 4) = Sm) := Lib.hid hK
  have HB : Hid ((s.drop 10).take N = rdB s) := Lib.hid (by unfold rdB; rw [hN])
  have HS := Lib.hid hS
  have HT := Lib.hid ht
  have g0 := ht 0 (by omega)
  have g1 := ht 1 (by omega)
  rw [Nat.add_zero, h0] at g0
  rw [h1] at g1
  clear hN hK hS ht h0 h1
  go_enter Try.func15, Try.ntmps15
  go_wp2_with fail
  refine (four_at n₀ b off _ s 2 N hb w HT.out (by omega) (by omega) HN.out).mono ?_
  rintro e w1 ⟨rfl, m1, hw1⟩
  have T1 := Lib.hid (cells_drewN HT.out hw1)
  have HW := Lib.hid hw1
  clear hw1
  go_wp2_with fail
  go_quiet ((first | (go_at_call 13; exact Calls.quiet_of_same (refSum_at n₀ b off _ s _ 10 N _ Sn (by omega) hb _ T1.out (by omega) hm (by omega) HB.out HS.out)) | (go_at_call 22; exact Calls.quiet_of (four_at n₀ b off _ s 6 Sm hb _ T1.out (by omega) (by omega) HK.out))))
  go_wp2
  go_ret2
  exact ⟨rfl, drewN2 HW.out rfl⟩
set_option maxHeartbeats 2000000 in
theorem rf_150 (n₀ b off : Nat) (s : List UInt8) (Sm Sn : Nat) (h10 : s.length = 10) (h0 : at_ s 0 = 67) (h1 : at_ s 1 = 70) (hN : rdN s = 0) (hK : rdK s = Sm) (hS : adl (rdB s) = Sn) (hne : ((Sn : Int) != (Sm : Int)) = true)
    (w : World) (hb : b < n₀) (ht : ∀ j, j < s.length → w.cell? ⟨b, off + j, none⟩ = some (.int .u8 ((at_ s j : Nat) : Int))) :
    Calls Try.prog 15 #[.slice (some ⟨b, off, none⟩) 10 10] w (RfBad w 15) := by
  have HN : Hid (num ((s.drop 2).take 4) = 0) := Lib.hid hN
  have HK : Hid (num ((s.drop 6).take 4) = Sm) := Lib.hid hK
  have HS := Lib.hid hS
  have HT := Lib.hid ht
  have g0 := ht 0 (by omega)
  have g1 := ht 1 (by omega)
  rw [Nat.add_zero, h0] at g0
  rw [h1] at g1
  have hB0 : rdB s = [] := by unfold rdB; rw [hN]; rfl
  rw [hB0] at HS
  have H10 := Lib.hid h10
  clear h10 hB0
  clear hN hK hS ht h0 h1
  go_enter Try.func15, Try.ntmps15
  go_wp2_with fail
  refine (four_at n₀ b off _ s 2 0 hb w HT.out (by have := H10.out; omega) (by omega) HN.out).mono ?_
  rintro e w1 ⟨rfl, m1, hw1⟩
  have T1 := Lib.hid (cells_drewN HT.out hw1)
  have HW := Lib.hid hw1
  clear hw1
  go_wp2_with fail
  go_quiet ((first | (go_at_call 13; exact Calls.quiet_of_same (refSum_nil n₀ _ Sn _ HS.out (bytes_empty _ _ _ _))) | (go_at_call 22; exact Calls.quiet_of (four_at n₀ b off _ s 6 Sm hb _ T1.out (by have := H10.out; omega) (by omega) HK.out))))
  go_wp2
  go_ret2
  exact ⟨rfl, drewN2 HW.out rfl⟩
theorem len_eq {n₀ : Nat} {w : World} {A : Option Addr} {n m c : Nat} {t : List UInt8} (h : n = m) (hb : Bytes n₀ w (.slice A n c) t) : Bytes n₀ w (.slice A m c) t := h ▸ hb
set_option maxHeartbeats 2000000 in
theorem rf_ok1 (n₀ b off cap : Nat) (s : List UInt8) (N Sm : Nat) (hm : s.length ≤ 140737488351232) (hc : s.length ≤ cap) (h10 : 10 ≤ s.length) (hcap : 10 < cap) (h0 : at_ s 0 = 67) (h1 : at_ s 1 = 70) (hN : rdN s = N) (h12 : N ≤ 65536) (hl : 10 + N ≤ s.length) (hK : rdK s = Sm) (hS : adl (rdB s) = Sm)
    (w : World) (hb : b < n₀) (ht : ∀ j, j < s.length → w.cell? ⟨b, off + j, none⟩ = some (.int .u8 ((at_ s j : Nat) : Int))) :
    Calls Try.prog 15 #[.slice (some ⟨b, off, none⟩) s.length cap] w (RfOk n₀ w (rdB s)) := by
  have HN : Hid (num ((s.drop 2).take 4) = N) := Lib.hid hN
  have HK : Hid (num ((s.drop 6).take 4) = Sm) := Lib.hid hK
  have HB : Hid ((s.drop 10).take N = rdB s) := Lib.hid (by unfold rdB; rw [hN])
  have HS := Lib.hid hS
  have HT := Lib.hid ht
  have g0 := ht 0 (by omega)
  have g1 := ht 1 (by omega)
  rw [Nat.add_zero, h0] at g0
  rw [h1] at g1
  clear hN hK hS ht h0 h1
  go_enter Try.func15, Try.ntmps15
  go_wp2_with fail
  refine (four_at n₀ b off _ s 2 N hb w HT.out (by omega) (by omega) HN.out).mono ?_
  rintro e w1 ⟨rfl, m1, hw1⟩
  have T1 := Lib.hid (cells_drewN HT.out hw1)
  have HW := Lib.hid hw1
  clear hw1
  go_wp2_with fail
  go_quiet ((first | (go_at_call 13; exact Calls.quiet_of_same (refSum_at n₀ b off _ s _ 10 N _ Sm (by omega) hb _ T1.out (by omega) hm (by omega) HB.out HS.out)) | (go_at_call 22; exact Calls.quiet_of (four_at n₀ b off _ s 6 Sm hb _ T1.out (by omega) (by omega) HK.out))))
  go_wp2
  go_ret2
  exact ⟨_, rfl, by rw [← HB.out]; exact len_eq (by omega) (Bytes.sub hb HT.out 10 N _ hl (by omega)), drewN2 HW.out rfl⟩
set_option maxHeartbeats 2000000 in
theorem rf_ok0 (n₀ b off : Nat) (s : List UInt8) (Sm : Nat) (h10 : s.length = 10) (h0 : at_ s 0 = 67) (h1 : at_ s 1 = 70) (hN : rdN s = 0) (hK : rdK s = Sm) (hS : adl (rdB s) = Sm)
    (w : World) (hb : b < n₀) (ht : ∀ j, j < s.length → w.cell? ⟨b, off + j, none⟩ = some (.int .u8 ((at_ s j : Nat) : Int))) :
    Calls Try.prog 15 #[.slice (some ⟨b, off, none⟩) 10 10] w (RfOk n₀ w (rdB s)) := by
  have HN : Hid (num ((s.drop 2).take 4) = 0) := Lib.hid hN
  have HK : Hid (num ((s.drop 6).take 4) = Sm) := Lib.hid hK
  have HS := Lib.hid hS
  have HT := Lib.hid ht
  have g0 := ht 0 (by omega)
  have g1 := ht 1 (by omega)
  rw [Nat.add_zero, h0] at g0
  rw [h1] at g1
  have hB0 : rdB s = [] := by unfold rdB; rw [hN]; rfl
  rw [hB0] at HS ⊢
  have H10 := Lib.hid h10
  clear h10 hB0
  clear hN hK hS ht h0 h1
  go_enter Try.func15, Try.ntmps15
  go_wp2_with fail
  refine (four_at n₀ b off _ s 2 0 hb w HT.out (by have := H10.out; omega) (by omega) HN.out).mono ?_
  rintro e w1 ⟨rfl, m1, hw1⟩
  have T1 := Lib.hid (cells_drewN HT.out hw1)
  have HW := Lib.hid hw1
  clear hw1
  go_wp2_with fail
  go_quiet ((first | (go_at_call 13; exact Calls.quiet_of_same (refSum_nil n₀ _ Sm _ HS.out (bytes_empty _ _ _ _))) | (go_at_call 22; exact Calls.quiet_of (four_at n₀ b off _ s 6 Sm hb _ T1.out (by have := H10.out; omega) (by omega) HK.out))))
  go_wp2
  go_ret2
  exact ⟨_, rfl, bytes_empty _ _ _ _, drewN2 HW.out rfl⟩
/-- The document's answer of bytes that begin with a frame. -/
theorem rf_ok (n₀ : Nat) (v : Value) (s : List UInt8) (hm : s.length ≤ 140737488351232) (w : World) (h : Bytes n₀ w v s) (h0 : rdE s = 0) :
    Calls Try.prog 15 #[v] w (RfOk n₀ w (rdB s)) := by
  obtain ⟨A, cap, rfl, hc, ht⟩ := h
  obtain ⟨a, b, c, d, e, f⟩ := rdE_ok h0
  have hl := rdB_len h0
  obtain ⟨B, off, rfl, hb, ht⟩ := ht (by rintro rfl; simp at a)
  by_cases hcap : 10 < cap
  · exact rf_ok1 n₀ B off cap s (rdN s) (rdK s) hm hc a hcap b c rfl d e rfl f w hb ht
  · have hN : rdN s = 0 := by omega
    have hs : s.length = 10 := by omega
    have hcap : cap = 10 := by omega
    rw [hs, hcap]
    exact rf_ok0 n₀ B off s (rdK s) hs b c hN rfl f w hb ht
theorem rf_bad (n₀ : Nat) (v : Value) (s : List UInt8) (hm : s.length ≤ 140737488351232) (w : World) (h : Bytes n₀ w v s) (h0 : rdE s ≠ 0) :
    Calls Try.prog 15 #[v] w (RfBad w (rdE s)) := by
  obtain ⟨A, cap, rfl, hc, ht⟩ := h
  by_cases h10 : s.length < 10
  · rw [show rdE s = 11 from rd_short h10]; exact rf_11 A _ _ h10 w
  · obtain ⟨B, off, rfl, hb, ht⟩ := ht (by rintro rfl; simp at h10)
    have g0 := ht 0 (by omega)
    have g1 := ht 1 (by omega)
    rw [Nat.add_zero] at g0
    by_cases ha : at_ s 0 = 67
    · by_cases hb' : at_ s 1 = 70
      · by_cases h12 : 65536 < rdN s
        · rw [show rdE s = 12 by unfold rdE; rw [if_neg h10, if_neg (by omega), if_pos h12]]
          exact rf_12 n₀ B off cap s (rdN s) hm hc (by omega) ha hb' rfl h12 w hb ht
        · by_cases hl : s.length < 10 + rdN s
          · rw [show rdE s = 11 by unfold rdE; rw [if_neg h10, if_neg (by omega), if_neg h12, if_pos hl]]
            exact rf_11b n₀ B off cap s (rdN s) hm hc (by omega) ha hb' rfl (by omega) hl w hb ht
          · have hS : adl (rdB s) ≠ rdK s := by
              intro hS
              apply h0
              unfold rdE; rw [if_neg h10, if_neg (by omega), if_neg h12, if_neg hl, if_neg (by simpa using hS)]
            rw [show rdE s = 15 by unfold rdE; rw [if_neg h10, if_neg (by omega), if_neg h12, if_neg hl, if_pos hS]]
            by_cases hcap : 10 < cap
            · exact rf_151 n₀ B off cap s (rdN s) (rdK s) (adl (rdB s)) hm hc (by omega) hcap ha hb' rfl (by omega) (by omega) rfl rfl (ne_int _ _ hS) w hb ht
            · have hN : rdN s = 0 := by omega
              have hs : s.length = 10 := by omega
              have hcap : cap = 10 := by omega
              rw [hs, hcap]
              exact rf_150 n₀ B off s (rdK s) (adl (rdB s)) hs ha hb' hN rfl rfl (ne_int _ _ hS) w hb ht
      · rw [show rdE s = 10 by unfold rdE; rw [if_neg h10, if_pos (.inr hb')]]
        rw [ha] at g0
        exact rf_10b B off _ cap (at_ s 1) (by omega) hm w g0 g1 (ne_int _ 70 hb')
    · rw [show rdE s = 10 by unfold rdE; rw [if_neg h10, if_pos (.inl ha)]]
      exact rf_10a B off _ cap (at_ s 0) (by omega) hm w g0 (ne_int _ 67 ha)
end Go.Proofs.Ytcikdeknbkcggaa
