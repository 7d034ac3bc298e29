/- The law UnitCounts, as a contract: true, and nothing that lay has turned. -/
import Derived.Test.YtphpcdnefjbopaaDoorSame
namespace Go.Proofs.YtphpcdnefjbopaaDoor
open Go.RowKit Go.Shelf

theorem nx_facts (s : List UInt8) (h : s ≠ []) (u z : Nat) (e : nx s = (u, z)) :
    rightB u = true ∧ ((strayB u = true ∧ z = 1) ∨ (strayB u = false ∧ ((u < 128 ∧ z = 1) ∨ (128 ≤ u ∧ 2 ≤ z)))) := by
  have b0 := at_lt s 0
  rcases nx_cases s h with ⟨h1, h2, _⟩ | ⟨h1, h2, _⟩
  · rw [e] at h1 h2
    simp only at h1 h2
    obtain ⟨k1, k2⟩ := h1
    have hs : strayB u = false := by simp [strayB]; omega
    have hr : charB u = true := by simp [charB]; omega
    refine ⟨by simp [rightB, hr], .inr ⟨hs, ?_⟩⟩
    rw [h2]
    unfold encN
    by_cases h : u < 128
    · simp [h]
    · rw [if_neg h]
      refine .inr ⟨by omega, ?_⟩
      repeat' split
      all_goals simp
  · rw [e] at h1
    simp only [Prod.mk.injEq] at h1
    have hs : strayB u = true := by simp [strayB]; omega
    exact ⟨by simp [rightB, hs], .inl ⟨hs, h1.2⟩⟩

/-- unit.Next, of a slice value that reads as a text, at a place that is there. -/
theorem next_bytes (A : Option Addr) (len cap : Nat) (s : List UInt8) (hl : len = s.length) (k : Nat) (hk : k < len) (w : World) (n₀ : Nat) (hT : TabsAt n₀ w) (h : Bytes n₀ w (.slice A len cap) s) :
    Calls Tryd.prog 10 #[.slice A len cap, .int .i64 k] w fun e w' =>
      e = .returned (.tuple #[.int .i64 (nx (s.drop k)).1, .int .i64 (nx (s.drop k)).2]) ∧ Below w.heap.size w w' := by
  obtain ⟨A', cap', hv, hc, h⟩ := h
  obtain ⟨rfl, rfl⟩ : A = A' ∧ cap = cap' := by rw [hl] at hv; simpa using hv
  obtain ⟨b, off, rfl, _, ht⟩ := h (fun e => by rw [e] at hl; simp at hl; omega)
  exact next_in s b off cap len k hl hk (by omega) w hT.2 ht

set_option maxHeartbeats 4000000 in
set_option maxRecDepth 100000 in
theorem counts_small (b : List UInt8) (v : Value) (h1000 : b.length ≤ 1000) (w : World) (hT : TabsAt w.heap.size w) (h : Bytes w.heap.size w v b) :
    Calls Tryd.prog 7 #[v] w fun e w' => e = .returned (.bool true) ∧ Below w.heap.size w w' := by
  have HV := Lib.hid h
  obtain ⟨A, cap, rfl, hcap, hA⟩ := h
  obtain ⟨len, hlen⟩ : ∃ len, len = b.length := ⟨_, rfl⟩
  rw [← hlen] at h1000 hcap HV ⊢
  have HL := Lib.hid hlen
  have H := Lib.hid hT
  clear hlen hA hT
  go_enter Tryd.func7, Tryd.ntmps7
  go_wp2_with fail
  refine (anchor_any w H.out).mono ?_
  rintro e w1 ⟨rfl, hB1⟩
  go_wp2_with fail
  go_loopw [3, 4] (fun i n wr => ∃ k j : Nat, k ≤ len ∧ i = .int .i64 k ∧ n = .int .i64 j ∧ j + (un (b.drop k)).length = (un b).length ∧ Below w.heap.size w wr) (fun i _ _ => len - (intOf i).toNat)
  case atStart => exact ⟨0, 0, Nat.zero_le _, rfl, rfl, by simp, hB1⟩
  case round =>
    obtain ⟨k, j, hk, rfl, rfl, hj, hB⟩ := hrel
    have hul := un_len b
    rw [← HL.out] at hul
    by_cases hlt : k < len
    · have hne : b.drop k ≠ [] := fun e => by have := congrArg List.length e; rw [List.length_drop, List.length_nil, ← HL.out] at this; omega
      have hstep := un_step (b.drop k) hne
      have hz := nx_le (b.drop k) hne
      rw [List.length_drop, ← HL.out] at hz
      have hnext := next_bytes A len cap b HL.out k hlt wr _ (H.out.below hB) (HV.out.below hB)
      obtain ⟨u, z, huz⟩ : ∃ u z, nx (b.drop k) = (u, z) := ⟨_, _, rfl⟩
      have hf := nx_facts _ hne u z huz
      rw [huz] at hnext hstep hz
      simp only at hnext hstep hz
      rw [List.drop_drop] at hstep
      rw [hstep, List.length_cons] at hj
      obtain ⟨hr, hf⟩ := hf
      obtain ⟨hz1, hz4, hzl⟩ := hz
      have hjb : j ≤ 1000 := by omega
      have HJ := Lib.hid hj
      have HN := Lib.hid hnext
      clear hj hnext hstep huz hne hul
      rcases hf with ⟨hs, rfl⟩ | ⟨hs, ⟨hu, rfl⟩ | ⟨hu, hz2⟩⟩
      · go_wp2_with fail
        refine HN.out.mono ?_
        rintro e w2 ⟨rfl, hB2⟩
        go_wp2_with (first | (go_at_call 15; refine (right_any _ _).mono ?_; rintro e w' ⟨rfl, rfl⟩) | (go_at_call 18; refine (stray_any _ _).mono ?_; rintro e w' ⟨rfl, rfl⟩))
        all_goals
          go_roundw
          case rel => exact ⟨k + 1, j + 1, by omega, by go_num, by go_num, by have := HJ.out; omega, hB.trans (hB2.mono hB.size)⟩
          case measure => simp [intOf]; omega
      · have hu' : (u : Int) < 128 := by omega
        go_wp2_with fail
        refine HN.out.mono ?_
        rintro e w2 ⟨rfl, hB2⟩
        go_wp2_with (first | (go_at_call 15; refine (right_any _ _).mono ?_; rintro e w' ⟨rfl, rfl⟩) | (go_at_call 18; refine (stray_any _ _).mono ?_; rintro e w' ⟨rfl, rfl⟩))
        all_goals
          go_roundw
          case rel => exact ⟨k + 1, j + 1, by omega, by go_num, by go_num, by have := HJ.out; omega, hB.trans (hB2.mono hB.size)⟩
          case measure => simp [intOf]; omega
      · have hu' : ¬ (u : Int) < 128 := by omega
        have hzi : ((z : Int) == 1) = false := by simp; omega
        have hzi' : ((z : Int) != 1) = true := by simp; omega
        go_wp2_with fail
        refine HN.out.mono ?_
        rintro e w2 ⟨rfl, hB2⟩
        go_wp2_with (first | (go_at_call 15; refine (right_any _ _).mono ?_; rintro e w' ⟨rfl, rfl⟩) | (go_at_call 18; refine (stray_any _ _).mono ?_; rintro e w' ⟨rfl, rfl⟩))
        all_goals
          go_roundw
          case rel => exact ⟨k + z, j + 1, by omega, by go_num, by go_num, by have := HJ.out; omega, hB.trans (hB2.mono hB.size)⟩
          case measure => simp [intOf]; omega
    · obtain rfl : k = len := by omega
      rw [HL.out, List.drop_length, un_nil, List.length_nil, Nat.add_zero] at hj
      subst hj
      have hsp := split_row _ b (by rw [← HL.out]; omega) wr _ hB.size (H.out.below hB) (HV.out.below hB)
      have HS := Lib.hid hsp
      clear hsp
      go_wp2_with fail
      refine HS.out.mono ?_
      rintro e w2 ⟨v, rfl, hR, hB2⟩
      obtain ⟨A2, c2, rfl, _⟩ := hR
      rw [zs_len, List.length_map]
      go_wp2
      go_ret
      exact ⟨rfl, hB.trans (hB2.mono hB.size)⟩

set_option maxHeartbeats 1000000 in
set_option maxRecDepth 100000 in
theorem unitCounts_law (v0 : Value) (s0 : List UInt8) (w : World) (hT : TabsAt w.heap.size w) (h0 : Bytes w.heap.size w v0 s0) :
    Calls Tryd.prog 7 #[v0] w fun e w' => e = .returned (.bool true) ∧ Below w.heap.size w w' := by
  by_cases hl : s0.length ≤ 1000
  · exact counts_small s0 v0 hl w hT h0
  · obtain ⟨A, cap, rfl, _⟩ := h0
    have hl' : (1000 : Int) < (s0.length : Int) := by omega
    have H := Lib.hid hT
    clear hT
    go_enter Tryd.func7, Tryd.ntmps7
    go_wp2_with fail
    refine (anchor_any w H.out).mono ?_
    rintro e w1 ⟨rfl, hB1⟩
    go_wp2
    go_ret
    exact ⟨rfl, hB1⟩

end Go.Proofs.YtphpcdnefjbopaaDoor
