/- Sums and numbers of bytes (package frame, and the document's answers), as contracts. -/
import Derived.Test.YtcikdeknbkcggaaFrK
import Derived.Deep.QuietTactic
import Derived.BigQuiet
namespace Go.Proofs.Ytcikdeknbkcggaa
open Go.RowKit

theorem sums_all (s : List UInt8) : sums (s.take s.length) = sums s := by rw [List.take_length]
theorem num_all (s : List UInt8) : num (s.take s.length) = num s := by rw [List.take_length]
set_option maxHeartbeats 1000000 in
theorem sum_any (n₀ : Nat) (v : Value) (s : List UInt8) (hmax : s.length ≤ 140737488351232) (w : World) (h : Bytes n₀ w v s) :
    Calls Try.prog 12 #[v] w fun e w' => e = .returned (.int .i64 ((adl s : Nat) : Int)) ∧ w = w' := by
  obtain ⟨A, cap, rfl, hc, ht⟩ := h
  by_cases hs : s = []
  · subst hs
    clear ht hc hmax
    go_enter Try.func12, Try.ntmps12
    go_wp2
    go_loop [3, 4, 9] (fun a b i => a = .int .i64 1 ∧ b = .int .i64 0 ∧ i = .int .i64 0) (fun _ _ _ => 0)
    case atStart => exact ⟨rfl, rfl, rfl⟩
    case round =>
      obtain ⟨rfl, rfl, rfl⟩ := hrel
      go_wp2
      go_ret
      exact ⟨rfl, rfl⟩
  · obtain ⟨b, off, rfl, _, ht⟩ := ht hs
    obtain ⟨n, hn⟩ : ∃ n, n = s.length := ⟨_, rfl⟩
    have e1 := sums_all s
    rw [← hn] at hc hmax ht e1 ⊢
    have HN := Lib.hid hn
    have HT := Lib.hid ht
    have H1 := Lib.hid e1
    clear ht hn hs e1
    go_enter Try.func12, Try.ntmps12
    go_wp2
    go_loop [3, 4, 9] (fun a b i => ∃ k : Nat, k ≤ n ∧ i = .int .i64 k ∧ a = .int .i64 (((sums (s.take k)).1 : Nat) : Int) ∧ b = .int .i64 (((sums (s.take k)).2 : Nat) : Int)) (fun _ _ i => n - (intOf i).toNat)
    case atStart => exact ⟨0, Nat.zero_le _, rfl, rfl, rfl⟩
    case round =>
      obtain ⟨k, hk, rfl, rfl, rfl⟩ := hrel
      obtain ⟨q1, q2⟩ := sums_lt (s.take k)
      by_cases hlt : k < n
      · have g := HT.out k hlt
        have c9 := at_lt s k
        have st := Lib.hid (sums_step s k (by rw [← HN.out]; exact hlt))
        go_wp2
        go_round
        case rel => exact ⟨k + 1, by omega, by go_num, by obtain ⟨z1, z2⟩ := st.out; rw [z1]; go_num, by obtain ⟨z1, z2⟩ := st.out; rw [z2, z1]; go_num⟩
        case measure => simp [intOf]; omega
      · obtain rfl : k = n := by omega
        go_wp2
        go_ret
        exact ⟨ret_int (by rw [H1.out]; unfold adl; omega), rfl⟩
set_option maxHeartbeats 1000000 in
theorem refSum_any (n₀ : Nat) (v : Value) (s : List UInt8) (hmax : s.length ≤ 140737488351232) (w : World) (h : Bytes n₀ w v s) :
    Calls Try.prog 13 #[v] w fun e w' => e = .returned (.int .i64 ((adl s : Nat) : Int)) ∧ w = w' := by
  obtain ⟨A, cap, rfl, hc, ht⟩ := h
  by_cases hs : s = []
  · subst hs
    clear ht hc hmax
    go_enter Try.func13, Try.ntmps13
    go_wp2
    go_loop [3, 4, 5] (fun a b i => a = .int .i64 1 ∧ b = .int .i64 0 ∧ i = .int .i64 0) (fun _ _ _ => 0)
    case atStart => exact ⟨rfl, rfl, rfl⟩
    case round =>
      obtain ⟨rfl, rfl, rfl⟩ := hrel
      go_wp2
      go_ret
      exact ⟨rfl, rfl⟩
  · obtain ⟨b, off, rfl, _, ht⟩ := ht hs
    obtain ⟨n, hn⟩ : ∃ n, n = s.length := ⟨_, rfl⟩
    have e1 := sums_all s
    rw [← hn] at hc hmax ht e1 ⊢
    have HN := Lib.hid hn
    have HT := Lib.hid ht
    have H1 := Lib.hid e1
    clear ht hn hs e1
    go_enter Try.func13, Try.ntmps13
    go_wp2
    go_loop [3, 4, 5] (fun a b i => ∃ k : Nat, k ≤ n ∧ i = .int .i64 k ∧ a = .int .i64 (((sums (s.take k)).1 : Nat) : Int) ∧ b = .int .i64 (((sums (s.take k)).2 : Nat) : Int)) (fun _ _ i => n - (intOf i).toNat)
    case atStart => exact ⟨0, Nat.zero_le _, rfl, rfl, rfl⟩
    case round =>
      obtain ⟨k, hk, rfl, rfl, rfl⟩ := hrel
      obtain ⟨q1, q2⟩ := sums_lt (s.take k)
      by_cases hlt : k < n
      · have g := HT.out k hlt
        have c9 := at_lt s k
        have st := Lib.hid (sums_step s k (by rw [← HN.out]; exact hlt))
        go_wp2
        go_round
        case rel => exact ⟨k + 1, by omega, by go_num, by obtain ⟨z1, z2⟩ := st.out; rw [z1]; go_num, by obtain ⟨z1, z2⟩ := st.out; rw [z2, z1]; go_num⟩
        case measure => simp [intOf]; omega
      · obtain rfl : k = n := by omega
        go_wp2
        go_ret
        exact ⟨ret_int (by rw [H1.out]; unfold adl; omega), rfl⟩
theorem or_add (n c : Nat) (hn : n < 16777216) (hc : c < 256) : bits .or .i64 ((n : Int) * 256) (c : Int) = ((n * 256 + c : Nat) : Int) := by
  have e1 : ((n : Int) * 256) = ((n * 256 : Nat) : Int) := by omega
  rw [e1]
  show IntKind.i64.wrap (((BitVec.ofInt 64 ((n * 256 : Nat) : Int)) ||| (BitVec.ofInt 64 (c : Int))).toNat : Int) = _
  rw [BitVec.ofInt_natCast, BitVec.ofInt_natCast, BitVec.toNat_or, BitVec.toNat_ofNat, BitVec.toNat_ofNat, Nat.mod_eq_of_lt (by omega), Nat.mod_eq_of_lt (by omega)]
  have : n * 256 ||| c = n * 256 + c := by
    have := Nat.shiftLeft_add_eq_or_of_lt (i := 8) (b := c) (by omega) n
    rw [Nat.shiftLeft_eq, show (2 : Nat) ^ 8 = 256 from rfl] at this
    exact this.symm
  rw [this]
  exact IntWalk.i64_in _ (by omega)
set_option maxHeartbeats 1000000 in
theorem number_any (n₀ : Nat) (v : Value) (s : List UInt8) (h4 : s.length = 4) (w : World) (h : Bytes n₀ w v s) :
    Calls Try.prog 19 #[v] w fun e w' => e = .returned (.int .i64 ((num s : Nat) : Int)) ∧ w = w' := by
  obtain ⟨A, cap, rfl, hc, ht⟩ := h
  obtain ⟨b, off, rfl, _, ht⟩ := ht (by rintro rfl; simp at h4)
  have e1 := num_all s
  rw [h4] at hc ht e1 ⊢
  have HN := Lib.hid h4
  have HT := Lib.hid ht
  have H1 := Lib.hid e1
  clear ht h4 e1
  go_enter Try.func19, Try.ntmps19
  go_wp2
  go_loop [3, 8] (fun a i => ∃ k : Nat, k ≤ 4 ∧ i = .int .i64 k ∧ a = .int .i64 (((num (s.take k)) : Nat) : Int) ∧ num (s.take k) < 256 ^ k) (fun _ i => 4 - (intOf i).toNat)
  case atStart => exact ⟨0, Nat.zero_le _, rfl, rfl, by simp [num]⟩
  case round =>
    obtain ⟨k, hk, rfl, rfl, hb⟩ := hrel
    by_cases hlt : k < 4
    · have g := HT.out k hlt
      have c9 := at_lt s k
      have hb2 : num (s.take k) < 16777216 := Nat.lt_of_lt_of_le hb (by have : k ≤ 3 := by omega
                                                                        exact Nat.le_trans (Nat.pow_le_pow_right (by decide) this) (by decide))
      have st := Lib.hid (num_step s k (by rw [HN.out]; exact hlt))
      have ho := Lib.hid (or_add (num (s.take k)) (at_ s k) hb2 c9)
      have hb3 := Lib.hid hb
      clear hb
      go_wp2
      go_round
      case rel => exact ⟨k + 1, by omega, by go_num, by rw [st.out, ho.out], by rw [st.out, Nat.pow_succ]; have := hb3.out; omega⟩
      case measure => simp [intOf]; omega
    · obtain rfl : k = 4 := by omega
      have hb3 := Lib.hid hb
      clear hb
      go_wp2
      go_ret
      exact ⟨ret_int (by rw [H1.out]), rfl⟩
set_option maxHeartbeats 1000000 in
theorem four_any (n₀ : Nat) (v : Value) (s : List UInt8) (h4 : s.length = 4) (w : World) (h : Bytes n₀ w v s) :
    Calls Try.prog 22 #[v] w fun e w' => e = .returned (.int .i64 ((num s : Nat) : Int)) ∧ ∃ m, w' = w.drewN m := by
  obtain ⟨A, cap, rfl, hc, ht⟩ := h
  obtain ⟨b, off, rfl, _, ht⟩ := ht (by rintro rfl; simp at h4)
  have e1 := num4 s h4
  rw [h4] at hc ht ⊢
  have g0 := ht 0 (by omega)
  rw [Nat.add_zero] at g0
  have g1 := ht 1 (by omega)
  have g2 := ht 2 (by omega)
  have g3 := ht 3 (by omega)
  have l0 := at_lt s 0
  have l1 := at_lt s 1
  have l2 := at_lt s 2
  have l3 := at_lt s 3
  have H1 := Lib.hid e1
  clear ht h4 e1
  go_enter Try.func22, Try.ntmps22
  go_wp2
  go_quiet (fail)
  go_wp2
  go_ret
  exact ⟨ret_int (by rw [H1.out]; omega), _, rfl⟩
end Go.Proofs.Ytcikdeknbkcggaa
