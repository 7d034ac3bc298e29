/- The law UnitBack, as a contract: true, and nothing that lay has turned. -/
import Derived.Test.YtphpcdnefjbopaaDoorJoin
import Derived.Laws.BytesArg
import Derived.Laws.IdiomStrings
namespace Go.Proofs.YtphpcdnefjbopaaDoor
open Go.RowKit Go.Shelf

/-- string(b) of a slice value that reads as a text. -/
theorem run_string_bytes {n₀ : Nat} {w : World} {v : Value} {s : List UInt8} (h : Bytes n₀ w v s) : (convert 22 9 v).run Tryd.prog w = .ok (.string ⟨s.toArray⟩) w := by
  obtain ⟨A, cap, rfl, _, h⟩ := h
  by_cases hs : s = []
  · subst hs
    cases A with
    | none => exact run_convert_bytes_nil w 22 5 Tryd.underlying22 Tryd.underlying5 _ _ 9 Tryd.underlying9
    | some a => exact run_convert_bytes_back (P := Tryd.prog) w 22 9 5 a cap [] Tryd.underlying22 Tryd.underlying5 Tryd.underlying9 (fun j hj => by simp at hj)
  · obtain ⟨b, off, rfl, _, ht⟩ := h hs
    have e := run_convert_bytes_arg (P := Tryd.prog) w 22 5 Tryd.underlying22 Tryd.underlying5 b off s.length cap (s.map fun b => (b.toNat : Int)) (by simp) (fun i hi => by
      rw [ht i hi]
      simp [at_, List.getD_eq_getElem?_getD, hi]) 9 Tryd.underlying9
    rw [e]
    simp [strOfNums, Function.comp_def]

theorem jn_un (s : List UInt8) : jn ((un s).map fun n => ((n : Nat) : Int)) = s := by
  have := un_join s
  simpa [jn, ub, List.flatMap_map] using this

theorem un_rightB (s : List UInt8) : ∀ u ∈ (un s).map (fun n => ((n : Nat) : Int)), rightB u = true := by
  intro u hu
  obtain ⟨n, hn, rfl⟩ := List.mem_map.1 hu
  rcases un_right s n hn with h | h
  · have : charB (n : Int) = true := by obtain ⟨q1, q2⟩ := h; simp [charB]; omega
    simp [rightB, this]
  · have : strayB (n : Int) = true := by obtain ⟨q1, q2⟩ := h; simp [strayB]; omega
    simp [rightB, this]
theorem un_bd (s : List UInt8) : ∀ u ∈ (un s).map (fun n => ((n : Nat) : Int)), -9223372036854775808 ≤ u ∧ u ≤ 9223372036854775807 := by
  intro u hu
  have := un_rightB s u hu
  simp [rightB, charB, strayB] at this
  omega

set_option maxHeartbeats 2000000 in
set_option maxRecDepth 100000 in
theorem back_small (v0 : Value) (s0 : List UInt8) (k0 : s0.length ≤ 1000) (w : World) (hT : TabsAt w.heap.size w) (h0 : Bytes w.heap.size w v0 s0) :
    Calls Tryd.prog 4 #[v0] w fun e w' => e = .returned (.bool true) ∧ Below w.heap.size w w' := by
  have H0 := Lib.hid h0
  have H := Lib.hid hT
  have hul := un_len s0
  have l0 : ¬ (1000 : Int) < (s0.length : Int) := by omega
  obtain ⟨A0, cap0, rfl, _⟩ := h0
  obtain ⟨L, hL⟩ : ∃ L, L = (un s0).map (fun n => ((n : Nat) : Int)) := ⟨_, rfl⟩
  have hLl : L.length ≤ s0.length := by rw [hL, List.length_map]; exact hul
  have HL := Lib.hid hL
  have HR := Lib.hid (show ∀ u ∈ L, rightB u = true by rw [hL]; exact un_rightB s0)
  have HB := Lib.hid (show ∀ u ∈ L, -9223372036854775808 ≤ u ∧ u ≤ 9223372036854775807 by rw [hL]; exact un_bd s0)
  have HJ := Lib.hid (show jn L = s0 by rw [hL]; exact jn_un s0)
  clear hT hL
  go_enter Tryd.func4, Tryd.ntmps4
  go_wp2_with fail
  refine (anchor_any w H.out).mono ?_
  rintro e w1 ⟨rfl, hB1⟩
  go_wp2_with fail
  refine (split_row _ s0 (by omega) w1 w.heap.size hB1.size (H.out.below hB1) (H0.out.below hB1)).mono ?_
  rintro e w2 ⟨x2, rfl, r2, C2⟩
  rw [← HL.out] at r2
  have hB2 := hB1.trans (C2.mono hB1.size)
  have R2 := Lib.hid r2
  obtain ⟨A2, c2, rfl, _, h2⟩ := r2
  rw [zs_len] at R2 ⊢
  obtain ⟨n, hn⟩ : ∃ n, n = L.length := ⟨_, rfl⟩
  rw [← hn] at hLl R2 ⊢
  have HN := Lib.hid hn
  have HT2 := Lib.hid h2
  clear h2 hn C2 hB1
  go_wp2_with fail
  go_loop [17] (fun i => ∃ k : Nat, k ≤ n ∧ i = .int .i64 k) (fun i => n - (intOf i).toNat)
  case atStart => exact ⟨0, Nat.zero_le _, rfl⟩
  case round =>
    obtain ⟨k, hk, rfl⟩ := hrel
    by_cases hlt : k < n
    · have hkl : k < L.length := by rw [← HN.out]; exact hlt
      obtain ⟨b, off, rfl, _, ht⟩ := HT2.out (fun e => by have := congrArg List.length e; rw [zs_len, List.length_nil] at this; omega)
      have hc := ht k _ (zs_get hkl)
      have hr := HR.out (L[k]?.getD 0) (by rw [List.getElem?_eq_getElem hkl]; exact List.getElem_mem hkl)
      obtain ⟨u, hu⟩ : ∃ u, u = L[k]?.getD 0 := ⟨_, rfl⟩
      rw [← hu] at hc hr
      clear hu ht
      go_wp2_with (go_at_call 15; refine (right_any _ _).mono ?_; rintro e w' ⟨rfl, rfl⟩)
      go_round
      case rel => exact ⟨k + 1, by omega, by go_num⟩
      case measure => simp [intOf]; omega
    · obtain rfl : k = n := by omega
      go_wp2_with fail
      refine (join_any _ L (by rw [← HN.out]; omega) HB.out _ w2 (Nat.le_refl _) (HN.out ▸ R2.out)).mono ?_
      rintro e w3 ⟨⟨_, x3, rfl, o3⟩ | ⟨⟨u, hu, hr⟩, _⟩, C3⟩
      · rw [HJ.out] at o3
        have hk1 := run_string_bytes (Bytes.of_row (Row.of_own o3))
        have hB3 := hB2.trans (C3.mono hB2.size)
        have hk2 := run_string_bytes (H0.out.below hB3)
        go_wp2
        go_ret
        exact ⟨rfl, hB3⟩
      · rw [HR.out u hu] at hr
        cases hr

set_option maxHeartbeats 1000000 in
set_option maxRecDepth 100000 in
theorem unitBack_law (v0 : Value) (s0 : List UInt8) (w : World) (hT : TabsAt w.heap.size w) (h0 : Bytes w.heap.size w v0 s0) :
    Calls Tryd.prog 4 #[v0] w fun e w' => e = .returned (.bool true) ∧ Below w.heap.size w w' := by
  by_cases hl : s0.length ≤ 1000
  · exact back_small v0 s0 hl w hT h0
  · obtain ⟨A, cap, rfl, _⟩ := h0
    have hl' : (1000 : Int) < (s0.length : Int) := by omega
    have H := Lib.hid hT
    clear hT
    go_enter Tryd.func4, Tryd.ntmps4
    go_wp2_with fail
    refine (anchor_any w H.out).mono ?_
    rintro e w1 ⟨rfl, hB1⟩
    go_wp2
    go_ret
    exact ⟨rfl, hB1⟩

end Go.Proofs.YtphpcdnefjbopaaDoor
