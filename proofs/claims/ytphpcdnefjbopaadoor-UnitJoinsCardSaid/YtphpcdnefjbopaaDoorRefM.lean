/- The reference's first unit is the same unit, in plain mathematics. -/
import Derived.Test.YtphpcdnefjbopaaDoorSmall
import Derived.Test.YtphpcdnefjbopaaDoorMath
namespace Go.Proofs.YtphpcdnefjbopaaDoor

/-- The number after so many more bytes. -/
def acc (t : List UInt8) : Nat → Int
  | 0 => guessN (at_ t 0 : Nat)
  | i + 1 => acc t i * 64 + (at_ t (i + 1) : Nat) - 128

theorem guess_range (x : Nat) : -1 ≤ guessN x ∧ guessN x < 128 ∧ guessM x ≤ 3 := by
  unfold guessN guessM
  repeat' split
  all_goals omega
theorem acc_range (t : List UInt8) (i : Nat) (h : i ≤ 3) : -33554432 ≤ acc t i ∧ acc t i ≤ 67108864 := by
  have g := guess_range (at_ t 0)
  have b1 := at_lt t 1
  have b2 := at_lt t 2
  have b3 := at_lt t 3
  match i, h with
  | 0, _ => simp only [acc]; omega
  | 1, _ => simp only [acc, Nat.reduceAdd]; omega
  | 2, _ => simp only [acc, Nat.reduceAdd]; omega
  | 3, _ => simp only [acc, Nat.reduceAdd]; omega

/-- The reference's test. -/
def refOK (t : List UInt8) : Prop :=
  0 ≤ guessN (at_ t 0 : Nat) ∧ guessM (at_ t 0 : Nat) < t.length ∧ charB (acc t (guessM (at_ t 0 : Nat))) = true ∧
    encN (acc t (guessM (at_ t 0 : Nat))).toNat = tk t (guessM (at_ t 0 : Nat) + 1)

theorem tk_len (t : List UInt8) (k : Nat) : (tk t k).length = k := by simp [tk]
theorem isCh_of {n : Int} (h : charB n = true) : isCh n.toNat := by simp [charB] at h; exact ⟨by omega, by omega⟩

theorem nx_of_ref (t : List UInt8) (h : refOK t) : nx t = ((acc t (guessM (at_ t 0 : Nat))).toNat, guessM (at_ t 0 : Nat) + 1) := by
  obtain ⟨_, h2, h3, h4⟩ := h
  have hl : (encN (acc t (guessM (at_ t 0 : Nat))).toNat).length = guessM (at_ t 0 : Nat) + 1 := by rw [h4, tk_len]
  have := nx_of_tk t _ (isCh_of h3) (by rw [hl]; omega) (by rw [hl, h4])
  rw [this, hl]

set_option maxRecDepth 100000 in
set_option maxHeartbeats 2000000 in
theorem guess_of_tk (t : List UInt8) (c : Nat) (hc : isCh c) (h : tk t (encN c).length = encN c) :
    0 ≤ guessN (at_ t 0 : Nat) ∧ guessM (at_ t 0 : Nat) + 1 = (encN c).length ∧ acc t (guessM (at_ t 0 : Nat)) = (c : Int) := by
  obtain ⟨c1, c2⟩ := hc
  unfold encN at h ⊢
  by_cases e1 : c < 128
  · rw [if_pos e1] at h ⊢
    simp [tk, List.range_succ] at h
    have hm : guessM (at_ t 0 : Nat) = 0 := by unfold guessM; rw [if_pos (by omega)]
    have hg : guessN (at_ t 0 : Nat) = c := by unfold guessN; rw [if_pos (by omega), h]
    rw [hm]
    refine ⟨by omega, by simp, ?_⟩
    simp only [acc]
    exact hg
  · rw [if_neg e1] at h ⊢
    by_cases e2 : c < 2048
    · rw [if_pos e2] at h ⊢
      simp [tk, List.range_succ] at h
      obtain ⟨h0, h1⟩ := h
      have hm : guessM (at_ t 0 : Nat) = 1 := by unfold guessM; rw [if_neg (by omega), if_pos (by omega)]
      have hg : guessN (at_ t 0 : Nat) = (at_ t 0 : Int) - 192 := by unfold guessN; rw [if_neg (by omega), if_pos (by omega)]
      rw [hm]
      refine ⟨by omega, by simp, ?_⟩
      simp only [acc, Nat.reduceAdd]
      omega
    · rw [if_neg e2] at h ⊢
      by_cases e3 : c < 65536
      · rw [if_pos e3] at h ⊢
        simp [tk, List.range_succ] at h
        obtain ⟨h0, h1, h2⟩ := h
        have hm : guessM (at_ t 0 : Nat) = 2 := by unfold guessM; rw [if_neg (by omega), if_neg (by omega), if_pos (by omega)]
        have hg : guessN (at_ t 0 : Nat) = (at_ t 0 : Int) - 224 := by unfold guessN; rw [if_neg (by omega), if_neg (by omega), if_pos (by omega)]
        rw [hm]
        refine ⟨by omega, by simp, ?_⟩
        simp only [acc, Nat.reduceAdd]
        omega
      · rw [if_neg e3] at h ⊢
        simp [tk, List.range_succ] at h
        obtain ⟨h0, h1, h2, h3⟩ := h
        have hm : guessM (at_ t 0 : Nat) = 3 := by unfold guessM; rw [if_neg (by omega), if_neg (by omega), if_neg (by omega), if_pos (by omega)]
        have hg : guessN (at_ t 0 : Nat) = (at_ t 0 : Int) - 240 := by unfold guessN; rw [if_neg (by omega), if_neg (by omega), if_neg (by omega), if_pos (by omega)]
        rw [hm]
        refine ⟨by omega, by simp, ?_⟩
        simp only [acc, Nat.reduceAdd]
        omega

theorem nx_not_ref (t : List UInt8) (hne : t ≠ []) (h : ¬ refOK t) : nx t = (1114112 + at_ t 0, 1) := by
  rcases nx_cases t hne with ⟨h1, h2, h3, h4⟩ | ⟨h1, _⟩
  · rw [h2] at h3 h4
    obtain ⟨g1, g2, g3⟩ := guess_of_tk t _ h1 h4
    refine absurd ⟨g1, by omega, ?_, ?_⟩ h
    · rw [g3]
      obtain ⟨q1, q2⟩ := h1
      simp [charB]
      omega
    · rw [g3, Int.toNat_natCast, g2]
      exact h4.symm
  · exact h1

end Go.Proofs.YtphpcdnefjbopaaDoor
