/- The reader: a number, how many, a text. -/
import Derived.Test.YtefgobmpleoafaaGreatPkH
namespace Go.Proofs.YtefgobmpleoafaaGreat
open Go.RowKit
variable {w w' : World} {n₀ rb : Nat} {s : List UInt8} {wr : Bool}

theorem or_add6 (n c : Nat) (hn : n < 1099511627776) (hc : c < 256) : bits .or .i64 ((n : Int) * 256) (c : Int) = ((n * 256 + c : Nat) : Int) := by
  have e1 : ((n : Int) * 256) = ((n * 256 : Nat) : Int) := by omega
  rw [e1]
  show IntKind.i64.wrap (((BitVec.ofInt 64 ((n * 256 : Nat) : Int)) ||| (BitVec.ofInt 64 (c : Int))).toNat : Int) = _
  rw [BitVec.ofInt_natCast, BitVec.ofInt_natCast, BitVec.toNat_or, BitVec.toNat_ofNat, BitVec.toNat_ofNat, Nat.mod_eq_of_lt (by omega), Nat.mod_eq_of_lt (by omega)]
  have : n * 256 ||| c = n * 256 + c := by
    have := Nat.shiftLeft_add_eq_or_of_lt (i := 8) (b := c) (by omega) n
    rw [Nat.shiftLeft_eq, show (2 : Nat) ^ 8 = 256 from rfl] at this
    exact this.symm
  rw [this]
  exact IntWalk.i64_in _ (by omega)
/-- What a reading of one thing leaves. -/
def RdP {α : Type} (n₀ rb : Nat) (w : World) (p : Option (α × S)) (wr : Bool) (val : World → Value → α → Prop) (e : Ending) (w' : World) : Prop :=
  ∃ x t wr' v, e = .returned v ∧ val w' v x ∧ Rd n₀ rb w' t wr' ∧ FrR rb w w' ∧ Out p wr x t wr'
def NumV (_ : World) (v : Value) (x : Int) : Prop := v = .int .i64 x ∧ -1 ≤ x ∧ x < 281474976710655
set_option maxRecDepth 100000 in
set_option maxHeartbeats 2000000 in
theorem rnum_any (h : Rd n₀ rb w s wr) : Calls Tryz.prog 70 #[.pointer (some ⟨rb, 0, none⟩)] w (RdP n₀ rb w (pN s) wr NumV) := by
  have H := Lib.hid h
  clear h
  by_cases h6 : s.length < 6
  · have hp : pN s = none := by unfold pN; rw [if_pos h6]
    have HP := Lib.hid hp
    have H6 := Lib.hid h6
    clear hp h6
    go_enter Tryz.func70, Tryz.ntmps70
    go_wp2_with fail
    refine (take_bad 6 H6.out H.out).mono ?_
    rintro e w1 ⟨rfl, h1, h2⟩
    have H1 := Lib.hid h1
    have H2 := Lib.hid h2
    clear h1 h2
    go_wp2
    go_loop [3, 9] (fun a i => a = .int .i64 0 ∧ i = .int .i64 0) (fun _ _ => 0)
    case atStart => exact ⟨rfl, rfl⟩
    case round =>
      obtain ⟨rfl, rfl⟩ := hrel
      go_wp2
      go_ret
      exact ⟨-1, _, true, _, rfl, ⟨rfl, by omega, by omega⟩, H1.out, H2.out, Out.none HP.out _ _ _⟩
  · have hp : pN s = some ((num (s.take 6) : Int) - 1, s.drop 6) := by unfold pN; rw [if_neg h6]
    have hnl := num_lt6 (l := s.take 6) (by simp; omega)
    have HP := Lib.hid hp
    have HNL := Lib.hid hnl
    have H6 : Hid (6 ≤ s.length) := Lib.hid (by omega)
    clear hp h6 hnl
    go_enter Tryz.func70, Tryz.ntmps70
    go_wp2_with fail
    refine (take_ok 6 H6.out H.out).mono ?_
    rintro e w1 ⟨v, rfl, hv, h1, h2⟩
    have H1 := Lib.hid h1
    have H2 := Lib.hid h2
    obtain ⟨A, cap, rfl, hc, ht⟩ := hv
    obtain ⟨T, hT⟩ : ∃ T, T = s.take 6 := ⟨_, rfl⟩
    have hTl : T.length = 6 := by rw [hT]; simp; have := H6.out; omega
    rw [← hT] at hc ht HNL HP ⊢
    obtain ⟨b, off, rfl, _, ht⟩ := ht (by rintro rfl; simp at hTl)
    rw [hTl] at hc ht ⊢
    have HT := Lib.hid ht
    have HL := Lib.hid hTl
    clear h1 h2 ht hT hTl
    go_wp2
    go_loop [3, 9] (fun a i => ∃ k : Nat, k ≤ 6 ∧ i = .int .i64 k ∧ a = .int .i64 (((num (T.take k)) : Nat) : Int) ∧ num (T.take k) < 256 ^ k) (fun _ i => 6 - (intOf i).toNat)
    case atStart => exact ⟨0, Nat.zero_le _, rfl, rfl, by simp [num]⟩
    case round =>
      obtain ⟨k, hk, rfl, rfl, hb⟩ := hrel
      by_cases hlt : k < 6
      · have g := HT.out k hlt
        have c9 := at_lt T k
        have hb2 : num (T.take k) < 1099511627776 := Nat.lt_of_lt_of_le hb (Nat.le_trans (Nat.pow_le_pow_right (by decide) (show k ≤ 5 by omega)) (by decide))
        have st := Lib.hid (num_step T k (by rw [HL.out]; exact hlt))
        have ho := Lib.hid (or_add6 (num (T.take k)) (at_ T k) hb2 c9)
        have hb3 := Lib.hid hb
        clear hb
        go_wp2
        go_round
        case rel => exact ⟨k + 1, by omega, by go_num, by rw [st.out, ho.out], by rw [st.out, Nat.pow_succ]; have := hb3.out; omega⟩
        case measure => simp [intOf]; omega
      · obtain rfl : k = 6 := by omega
        have e6 : T.take 6 = T := List.take_of_length_le (by rw [HL.out]; omega)
        rw [e6]
        have hb2 : num T < 281474976710656 := HNL.out
        clear hb
        go_wp2
        go_ret
        exact ⟨_, _, wr, _, rfl, ⟨rfl, by omega, by omega⟩, H1.out, H2.out, by rw [HP.out]; exact Out.pure _ _ _⟩
theorem Rd.wrong (h : Rd n₀ rb w s wr) : Rd n₀ rb (w.setCell ⟨rb, 1, none⟩ (.bool true)) s true := by
  obtain ⟨v, h1, h2, h3, h4⟩ := h
  exact ⟨v, by have := h1.set_ 1 (.bool true); simpa using this, h2.below ((Below.refl n₀ w).setCell h3 _), h3, h4⟩
theorem c_none {x : Int} {t : S} (h : ¬ (0 ≤ x ∧ x ≤ (t.length : Int))) : (fun a : Int × S => if 0 ≤ a.1 ∧ a.1 ≤ (a.2.length : Int) then some (a.1.toNat, a.2) else none) (x, t) = none := if_neg h
set_option maxRecDepth 100000 in
set_option maxHeartbeats 2000000 in
theorem rcount_any (h : Rd n₀ rb w s wr) : Calls Tryz.prog 82 #[.pointer (some ⟨rb, 0, none⟩)] w fun e w' => ∃ (k : Nat) (t : S) (wr' : Bool), e = .returned (.int .i64 (k : Int)) ∧ k ≤ t.length ∧ Rd n₀ rb w' t wr' ∧ FrR rb w w' ∧ Out (pC s) wr k t wr' := by
  have H := Lib.hid h
  clear h
  go_enter Tryz.func82, Tryz.ntmps82
  go_wp2_with fail
  refine (rnum_any H.out).mono ?_
  rintro e w1 ⟨x, t, wr1, _, rfl, ⟨rfl, hx1, hx2⟩, h1, h2, h3⟩
  have H1 := Lib.hid h1
  have H2 := Lib.hid h2
  have H3 := Lib.hid h3
  obtain ⟨v, hB, hS, _, hl⟩ := h1
  have c0 := hB.cell 0
  have f1 := hB.frozen 1
  have c1 := hB.cell 1
  have hlt := hB.lt
  obtain ⟨A, cap, rfl, _, _⟩ := hS
  obtain ⟨n, hn⟩ : ∃ n, n = t.length := ⟨_, rfl⟩
  rw [← hn] at c0 hl
  have HN := Lib.hid hn
  have PI := Lib.hid (pin_any x 0 (n : Int))
  clear hB h2 h3 hn
  by_cases hc : 0 ≤ x ∧ x ≤ (n : Int)
  · have hr : inR 0 (n : Int) x = true := inR_iff.2 hc
    rw [hr] at PI
    have HC := Lib.hid hc
    obtain ⟨k, rfl⟩ : ∃ k : Nat, x = (k : Int) := ⟨x.toNat, by omega⟩
    clear hr hc hx1 hx2
    go_wp2_with fail
    refine (PI.out _).mono ?_
    rintro e w2 ⟨rfl, rfl⟩
    go_wp2
    go_ret
    refine ⟨k, t, wr1, rfl, by rw [← HN.out]; have := HC.out; omega, H1.out, H2.out, Out.bind H3.out ?_⟩
    rw [if_pos (by rw [← HN.out]; exact HC.out)]
    exact Out.pure _ _ _
  · have hr : inR 0 (n : Int) x = false := by
      cases hh : inR 0 (n : Int) x
      · rfl
      · exact absurd (inR_iff.1 hh) hc
    rw [hr] at PI
    have HC := Lib.hid hc
    clear hr hc hx1 hx2
    go_wp2_with fail
    refine (PI.out _).mono ?_
    rintro e w2 ⟨rfl, rfl⟩
    go_wp2
    go_ret
    exact ⟨0, t, true, rfl, Nat.zero_le _, H1.out.wrong, H2.out.trans ((FrR.refl _).set_ (q := ⟨rb, 1, none⟩) (.inl rfl) _), Out.bind H3.out (Out.none (c_none (by rw [← HN.out]; exact HC.out)) _ _ _)⟩
def TxtV (_ : World) (v : Value) (x : S) : Prop := v = .string ⟨x.toArray⟩
set_option maxRecDepth 100000 in
set_option maxHeartbeats 2000000 in
theorem rtext_any (h : Rd n₀ rb w s wr) : Calls Tryz.prog 99 #[.pointer (some ⟨rb, 0, none⟩)] w (RdP n₀ rb w (pT s) wr TxtV) := by
  have H := Lib.hid h
  clear h
  go_enter Tryz.func99, Tryz.ntmps99
  go_wp2_with fail
  refine (rcount_any H.out).mono ?_
  rintro e w1 ⟨k, t, wr1, rfl, hk, h1, h2, h3⟩
  have H1 := Lib.hid h1
  have H2 := Lib.hid h2
  have H3 := Lib.hid h3
  have HK := Lib.hid hk
  have hk2 : k ≤ 65536 := by obtain ⟨_, _, _, _, hl⟩ := h1; omega
  clear h1 h2 h3 hk
  go_wp2_with fail
  refine (take_ok k HK.out H1.out).mono ?_
  rintro e w2 ⟨v, rfl, hv, h1, h2⟩
  have HR := Lib.hid h1
  have HF := Lib.hid (H2.out.trans h2)
  obtain ⟨T, hT⟩ : ∃ T, T = t.take k := ⟨_, rfl⟩
  rw [← hT] at hv
  have HT := Lib.hid hT
  have hs := run_string_bytes hv
  obtain ⟨A, cap, rfl, _, _⟩ := hv
  clear h1 h2 hT
  go_wp2
  go_ret
  refine ⟨T, _, wr1, _, rfl, rfl, HR.out, HF.out, Out.bind H3.out ?_⟩
  rw [HT.out]
  exact Out.pure _ _ _
end Go.Proofs.YtefgobmpleoafaaGreat
