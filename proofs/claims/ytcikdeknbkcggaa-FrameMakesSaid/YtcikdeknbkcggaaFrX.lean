/- The law FrameMakes, as a contract: true, and nothing that lay has turned. -/
import Derived.Test.YtcikdeknbkcggaaFrS
import Derived.Deep.RegionHeld
namespace Go.Proofs.Ytcikdeknbkcggaa
open Go.RowKit

/-- An operation of a region that draws its order, taken first: its slot is named. -/
theorem take_d {P : Program} {md : Region.Mode} {ops : Array Oper} {Q : Exit → Act → World → Prop} {S : World → Prop} {fuel : Nat} {listed : Array Bool} {a : Act} {w : World} (i d : Nat) (v : Value) (oi : Oper) (hi : ops[i]? = some oi) (hd : oi.dst = some d)
    (hs : Region.noSelect ops = true) (hf : Region.free md ops listed i = true) (hr : (Region.ready md ops listed).contains i = true)
    (hQ : ∀ c a w, Q (.panic c) (a.put oi.dst v) w → Q (.panic c) a w) (hy : YieldsIf P ops S oi v a) (hS : S w)
    (h : wpAnyH P md ops Q S fuel (listed.setIfInBounds i true) { tmps := a.tmps.setIfInBounds d v, defers := a.defers } w) : wpAnyH P md ops Q S (fuel + 1) listed a w :=
  wpAnyH_take hi hs hf hr hQ hy hS (by rw [hd]; exact h)
set_option maxRecDepth 100000 in
set_option maxHeartbeats 1000000 in
theorem makes_out (A B : Option Addr) (n c m d : Nat) (hn : n ≤ 9223372036854775807) (hm : m ≤ 9223372036854775807) (ho : 3000 < n ∧ n < 65536 ∨ 131072 < n ∨ (n ≤ 3000 ∨ 65536 ≤ n ∧ n ≤ 131072) ∧ 1000 < m) (w : World) :
    Calls Try.prog 3 #[.slice A n c, .slice B m d] w fun e w' => e = .returned (.bool true) ∧ Below w.heap.size w w' := by
  rcases ho with ⟨h1, h2⟩ | h1 | ⟨h1 | ⟨h1, h2⟩, h3⟩
  · have i1 : (3000 : Int) < (n : Int) := by omega
    have i2 : (n : Int) < 65536 := by omega
    go_enter Try.func3, Try.ntmps3
    go_wp2_with fail
    refine (anchor10_any w).mono ?_
    rintro e w1 ⟨rfl, hB1⟩
    go_wp2
    go_ret
    exact ⟨rfl, hB1⟩
  · have i1 : (3000 : Int) < (n : Int) := by omega
    have i2 : ¬ (n : Int) < 65536 := by omega
    have i3 : (131072 : Int) < (n : Int) := by omega
    go_enter Try.func3, Try.ntmps3
    go_wp2_with fail
    refine (anchor10_any w).mono ?_
    rintro e w1 ⟨rfl, hB1⟩
    go_wp2
    go_ret
    exact ⟨rfl, hB1⟩
  · have i1 : ¬ (3000 : Int) < (n : Int) := by omega
    have i3 : ¬ (131072 : Int) < (n : Int) := by omega
    have i4 : (1000 : Int) < (m : Int) := by omega
    go_enter Try.func3, Try.ntmps3
    go_wp2_with fail
    refine (anchor10_any w).mono ?_
    rintro e w1 ⟨rfl, hB1⟩
    go_wp2
    go_ret
    exact ⟨rfl, hB1⟩
  · have i1 : (3000 : Int) < (n : Int) := by omega
    have i2 : ¬ (n : Int) < 65536 := by omega
    have i3 : ¬ (131072 : Int) < (n : Int) := by omega
    have i4 : (1000 : Int) < (m : Int) := by omega
    go_enter Try.func3, Try.ntmps3
    go_wp2_with fail
    refine (anchor10_any w).mono ?_
    rintro e w1 ⟨rfl, hB1⟩
    go_wp2
    go_ret
    exact ⟨rfl, hB1⟩
set_option maxRecDepth 100000 in
set_option maxHeartbeats 1000000 in
theorem makes_big (v u : Value) (s r : List UInt8) (h1 : 65536 < s.length) (h2 : s.length ≤ 131072) (hr : r.length ≤ 1000) (w : World) (hs : Bytes w.heap.size w v s) (hu : Bytes w.heap.size w u r) :
    Calls Try.prog 3 #[v, u] w fun e w' => e = .returned (.bool true) ∧ Below w.heap.size w w' := by
  have H := Lib.hid hs
  obtain ⟨A, c, rfl⟩ := one_bytes_slice hs
  obtain ⟨B, d, rfl⟩ := one_bytes_slice hu
  clear hs hu
  have i1 : (3000 : Int) < (s.length : Int) := by omega
  have i2 : ¬ (s.length : Int) < 65536 := by omega
  have i3 : ¬ (131072 : Int) < (s.length : Int) := by omega
  have i4 : ¬ (1000 : Int) < (r.length : Int) := by omega
  have i5 : (65536 : Int) < (s.length : Int) := by omega
  go_enter Try.func3, Try.ntmps3
  go_wp2_with fail
  refine (anchor10_any w).mono ?_
  rintro e w1 ⟨rfl, hB1⟩
  have C1 := Lib.hid hB1
  clear hB1
  go_wp2_with fail
  refine (make_big w.heap.size _ s h1 w1 (H.out.below C1.out)).mono ?_
  rintro e w2 ⟨rfl, rfl⟩
  go_wp2
  go_ret
  exact ⟨rfl, C1.out⟩
set_option maxRecDepth 100000 in
set_option maxHeartbeats 8000000 in
theorem makes_ok (v u : Value) (s r : List UInt8) (h1 : s.length ≤ 3000 ∨ s.length = 65536) (hr : r.length ≤ 1000) (w : World) (hs : Bytes w.heap.size w v s) (hu : Bytes w.heap.size w u r)
    (hd1 : ¬ (3000 : Int) < (s.length : Int) ∨ ((3000 : Int) < (s.length : Int) ∧ ¬ (s.length : Int) < 65536)) :
    Calls Try.prog 3 #[v, u] w fun e w' => e = .returned (.bool true) ∧ Below w.heap.size w w' := by
  obtain ⟨i0, hi, hz0, hz1, hz2⟩ := info_three info_u8
  have H := Lib.hid hs
  have HU := Lib.hid hu
  obtain ⟨A, c, rfl⟩ := one_bytes_slice hs
  obtain ⟨B, d, rfl⟩ := one_bytes_slice hu
  have hsl : s.length ≤ 65536 := by omega
  have HS : Hid (s.length ≤ 140737488351232) := Lib.hid (by omega)
  have HS2 := Lib.hid hsl
  have hfr := rd_frm s r hsl
  obtain ⟨F, hF⟩ : ∃ F, F = frm s := ⟨_, rfl⟩
  have hFl : F.length = 10 + s.length := by rw [hF, frm_len]
  obtain ⟨Z, hZ⟩ : ∃ Z, Z = adl s := ⟨_, rfl⟩
  have HF := Lib.hid hF
  have HFL := Lib.hid hFl
  have HZ : Hid (adl s = Z) := Lib.hid hZ.symm
  have HFR := Lib.hid hfr
  obtain ⟨n, hn⟩ : ∃ n, n = s.length := ⟨_, rfl⟩
  obtain ⟨m, hm⟩ : ∃ m, m = r.length := ⟨_, rfl⟩
  rw [← hn] at h1 hsl hd1 ⊢
  rw [← hm] at hr ⊢
  have HN := Lib.hid hn
  have HM := Lib.hid hm
  have HS0 : Hid (Bytes w.heap.size w (.slice A n c) s) := Lib.hid (by rw [hn]; exact H.out)
  have HU0 : Hid (Bytes w.heap.size w (.slice B m d) r) := Lib.hid (by rw [hm]; exact HU.out)
  clear hs hu hF hFl hZ hfr hn hm H HU
  have i3 : ¬ (131072 : Int) < (n : Int) := by omega
  have i4 : ¬ (1000 : Int) < (m : Int) := by omega
  have i5 : ¬ (65536 : Int) < (n : Int) := by omega
  clear h1
  have post : Calls Try.prog 3 #[.slice A n c, .slice B m d] w fun e w' => e = .returned (.bool true) ∧ Below w.heap.size w w' := by
    rcases hd1 with hd1 | ⟨hd1, hd2⟩
    all_goals
      go_enter Try.func3, Try.ntmps3
      go_wp2_with fail
      refine (anchor10_any w).mono ?_
      rintro e w1 ⟨rfl, hB1⟩
      have C1 := Lib.hid hB1
      clear hB1
      go_wp2_with fail
      refine (make_ok w.heap.size _ s HS2.out w1 C1.out.size (HS0.out.below C1.out)).mono ?_
      rintro e w2 ⟨v5, rfl, o5, hB2⟩
      rw [← HF.out] at o5
      obtain ⟨A5, c5, hv5⟩ := one_slice o5
      rw [HFL.out, ← HN.out] at hv5
      subst hv5
      have F5b := Lib.hid o5.bytes
      have C2 := Lib.hid (C1.out.trans (hB2.mono C1.out.size))
      have hz2w : w.heap.size ≤ w2.heap.size := C2.out.size
      clear o5 hB2 C1
      go_wp2_with (first
        | (at_builtin
           refine wpList_append_row _ rfl (.tmp 46) (.tmp 47) 22 rfl w2.heap.size 5 i0 (.int .u8 0) 1 Try.underlying22 hi hz0 hz1 hz2 rfl _ 0 [] rfl (own_empty _ _ _ (Nat.le_refl _)) w2.heap.size _ (Lib.byteCells F) rfl (Row.of_bytes (F5b.out.below ((Below.refl _ w2).alloc (Nat.le_refl _) _))) (one_bytes _) (by rw [Lib.byteCells_length, HFL.out, ← HN.out]; unfold maxLen; omega) (by rw [Lib.byteCells_length, HFL.out, ← HN.out]; omega) (by simp) ?_
           intro v3 w3 o3 g3
           have C3 : Hid (Below w2.heap.size w2 w3) := Lib.hid (below_append ((Below.refl _ w2).alloc (Nat.le_refl _) _) (own_empty _ _ _ (Nat.le_refl _)) (Nat.le_refl _) g3 (by simp))
           have hz3 : w2.heap.size ≤ w3.heap.size := C3.out.size
           rw [List.nil_append, Lib.byteCells_length, Nat.zero_add] at o3
           have O3 : Hid (Own w3 w2.heap.size v3 F) := Lib.hid o3
           clear o3 g3)
        | (at_builtin
           refine wpList_append_row _ rfl (.tmp 48) (.tmp 49) 22 rfl w2.heap.size 5 i0 (.int .u8 0) 1 Try.underlying22 hi hz0 hz1 hz2 rfl _ _ _ rfl O3.out w.heap.size _ (Lib.byteCells r) rfl (Row.of_bytes (HU0.out.below (C2.out.trans (C3.out.mono hz2w)))) (one_bytes _) (by rw [Lib.byteCells_length, HFL.out, ← HM.out, ← HN.out]; unfold maxLen; omega) (by rw [Lib.byteCells_length, HFL.out, ← HM.out, ← HN.out]; omega) hz3 ?_
           intro v4 w4 o4 g4
           have C4 : Hid (Below w2.heap.size w2 w4) := Lib.hid (below_append C3.out O3.out (Nat.le_refl _) g4 hz3)
           have hz4 : w2.heap.size ≤ w4.heap.size := C4.out.size
           rw [Lib.byteCells_length, ← Lib.byteCells_append, ← List.length_append] at o4
           have O4 : Hid (Own w4 w2.heap.size v4 (F ++ r)) := Lib.hid o4
           clear o4 g4))
      refine (read_ok w4.heap.size _ (F ++ r) (by rw [List.length_append, HFL.out, ← HM.out, ← HN.out]; omega) w4 (Nat.le_refl _) O4.out.bytes (by rw [HF.out]; exact HFR.out.1)).mono ?_
      rintro e w5 ⟨v7, rfl, o7, hB5⟩
      rw [HF.out, HFR.out.2.1] at o7 ⊢
      obtain ⟨A7, c7, hv7⟩ := one_slice o7
      rw [← HN.out] at hv7 ⊢
      subst hv7
      have F7 := Lib.hid o7.bytes
      have C5 := Lib.hid (C2.out.trans ((C4.out.trans (hB5.mono hz4)).mono hz2w))
      have F5 := Lib.hid ((F5b.out.below (C4.out.trans (hB5.mono hz4))).more (Nat.le_trans hz4 hB5.size))
      have F0 : Hid (Bytes w5.heap.size w5 (.slice A n c) s) := Lib.hid ((HS0.out.below C5.out).more C5.out.size)
      clear o7 hB5
      go_wp2_with fail
      refine wp_region_held_drew (S := fun w' => Below w5.heap.size w5 w') (by kernel_rfl) (Below.drewN' (Below.refl _ w5) 1) (fun hHeld => ?_)
      refine take_d 0 55 (.int .i64 0) _ rfl rfl (by kernel_rfl) (by kernel_rfl) (by kernel_rfl) (fun _ _ _ h => h) (Or.inl ⟨by rfl, fun w' hSw => ?_⟩) hHeld ?_
      · go_simp
      simp only [List.setIfInBounds_toArray, List.set_cons_zero, List.set_cons_succ]
      refine take_d 1 56 (.bool true) _ rfl rfl (by kernel_rfl) (by kernel_rfl) (by kernel_rfl) (fun _ _ _ h => h) (Or.inl ⟨by rfl, fun w' hSw => ?_⟩) hHeld ?_
      · go_simp
      simp only [List.setIfInBounds_toArray, List.set_cons_zero, List.set_cons_succ]
      refine take_d 2 57 (.bool true) _ rfl rfl (by kernel_rfl) (by kernel_rfl) (by kernel_rfl) (fun _ _ _ h => h) (Or.inl ⟨by rfl, fun w' hSw => ?_⟩) hHeld ?_
      · go_simp
      simp only [List.setIfInBounds_toArray, List.set_cons_zero, List.set_cons_succ]
      refine take_d 3 58 (.slice A n c) _ rfl rfl (by kernel_rfl) (by kernel_rfl) (by kernel_rfl) (fun _ _ _ h => h) (Or.inl ⟨by rfl, fun w' hSw => ?_⟩) hHeld ?_
      · go_simp
      simp only [List.setIfInBounds_toArray, List.set_cons_zero, List.set_cons_succ]
      refine take_d 5 60 (.slice A n c) _ rfl rfl (by kernel_rfl) (by kernel_rfl) (by kernel_rfl) (fun _ _ _ h => h) (Or.inl ⟨by rfl, fun w' hSw => ?_⟩) hHeld ?_
      · go_simp
      simp only [List.setIfInBounds_toArray, List.set_cons_zero, List.set_cons_succ]
      refine wpAnyH_ready (rs := [4]) (by kernel_rfl) (by simp) ?_
      refine AllReadyH.cons rfl (fun K hK => ?_) AllReadyH.nil
      go_simp
      refine (sum_any w5.heap.size _ s HS.out _ (F0.out.below hHeld)).mono ?_
      rintro e w' ⟨rfl, rfl⟩
      rw [HZ.out]
      refine hK.out _ _ hHeld (fun hHeld => ?_)
      clear hK K
      refine wpAnyH_ready (rs := [6]) (by kernel_rfl) (by simp) ?_
      refine AllReadyH.cons rfl (fun K hK => ?_) AllReadyH.nil
      go_simp
      refine (refSum_any w5.heap.size _ s HS.out _ (F0.out.below hHeld)).mono ?_
      rintro e w' ⟨rfl, rfl⟩
      rw [HZ.out]
      refine hK.out _ _ hHeld (fun hHeld => ?_)
      clear hK K
      refine take_d 7 62 (.bool true) _ rfl rfl (by kernel_rfl) (by kernel_rfl) (by kernel_rfl) (fun _ _ _ h => h) (Or.inl ⟨by rfl, fun w' hSw => ?_⟩) hHeld ?_
      · go_simp
      simp only [List.setIfInBounds_toArray, List.set_cons_zero, List.set_cons_succ]
      refine take_d 8 63 (.bool true) _ rfl rfl (by kernel_rfl) (by kernel_rfl) (by kernel_rfl) (fun _ _ _ h => h) (Or.inl ⟨by rfl, fun w' hSw => ?_⟩) hHeld ?_
      · go_simp
      simp only [List.setIfInBounds_toArray, List.set_cons_zero, List.set_cons_succ]
      refine take_d 9 64 (.bool true) _ rfl rfl (by kernel_rfl) (by kernel_rfl) (by kernel_rfl) (fun _ _ _ h => h) (Or.inl ⟨by rfl, fun w' hSw => ?_⟩) hHeld ?_
      · go_simp
      simp only [List.setIfInBounds_toArray, List.set_cons_zero, List.set_cons_succ]
      refine take_d 10 65 (.slice A5 (10 + n) c5) _ rfl rfl (by kernel_rfl) (by kernel_rfl) (by kernel_rfl) (fun _ _ _ h => h) (Or.inl ⟨by rfl, fun w' hSw => ?_⟩) hHeld ?_
      · go_simp
      simp only [List.setIfInBounds_toArray, List.set_cons_zero, List.set_cons_succ]
      refine take_d 11 66 (.string ⟨F.toArray⟩) _ rfl rfl (by kernel_rfl) (by kernel_rfl) (by kernel_rfl) (fun _ _ _ h => h) (Or.inl ⟨by rfl, fun w' hSw => ?_⟩) hHeld ?_
      · have q := run_string_bytes (F5.out.below hSw)
        go_simp
      simp only [List.setIfInBounds_toArray, List.set_cons_zero, List.set_cons_succ]
      refine take_d 12 67 (.slice A n c) _ rfl rfl (by kernel_rfl) (by kernel_rfl) (by kernel_rfl) (fun _ _ _ h => h) (Or.inl ⟨by rfl, fun w' hSw => ?_⟩) hHeld ?_
      · go_simp
      simp only [List.setIfInBounds_toArray, List.set_cons_zero, List.set_cons_succ]
      refine wpAnyH_ready (rs := [13]) (by kernel_rfl) (by simp) ?_
      refine AllReadyH.cons rfl (fun K hK => ?_) AllReadyH.nil
      go_simp
      refine (refMake_any w5.heap.size _ s HS2.out _ hHeld.size (F0.out.below hHeld)).mono ?_
      rintro e w6 ⟨v6, rfl, o6, hB6⟩
      have hS6 := hHeld.trans (hB6.mono hHeld.size)
      have k6 := run_string_bytes o6.bytes
      rw [← HF.out] at k6
      obtain ⟨A6, c6, rfl⟩ := one_slice o6
      refine hK.out _ _ hS6 (fun hHeld => ?_)
      clear hK K o6 hB6
      refine wpAnyH_ready (rs := [14]) (by kernel_rfl) (by simp) ?_
      refine AllReadyH.cons rfl (fun K hK => ?_) AllReadyH.nil
      go_simp
      refine hK.out _ _ hS6 (fun hHeld => ?_)
      clear hK K k6 hS6
      refine take_d 15 70 (.bool true) _ rfl rfl (by kernel_rfl) (by kernel_rfl) (by kernel_rfl) (fun _ _ _ h => h) (Or.inl ⟨by rfl, fun w' hSw => ?_⟩) hHeld ?_
      · go_simp
      simp only [List.setIfInBounds_toArray, List.set_cons_zero, List.set_cons_succ]
      refine take_d 16 71 (.bool true) _ rfl rfl (by kernel_rfl) (by kernel_rfl) (by kernel_rfl) (fun _ _ _ h => h) (Or.inl ⟨by rfl, fun w' hSw => ?_⟩) hHeld ?_
      · go_simp
      simp only [List.setIfInBounds_toArray, List.set_cons_zero, List.set_cons_succ]
      refine take_d 17 72 (.bool true) _ rfl rfl (by kernel_rfl) (by kernel_rfl) (by kernel_rfl) (fun _ _ _ h => h) (Or.inl ⟨by rfl, fun w' hSw => ?_⟩) hHeld ?_
      · go_simp
      simp only [List.setIfInBounds_toArray, List.set_cons_zero, List.set_cons_succ]
      refine take_d 18 73 (.int .i64 0) _ rfl rfl (by kernel_rfl) (by kernel_rfl) (by kernel_rfl) (fun _ _ _ h => h) (Or.inl ⟨by rfl, fun w' hSw => ?_⟩) hHeld ?_
      · go_simp
      simp only [List.setIfInBounds_toArray, List.set_cons_zero, List.set_cons_succ]
      refine take_d 19 74 (.bool true) _ rfl rfl (by kernel_rfl) (by kernel_rfl) (by kernel_rfl) (fun _ _ _ h => h) (Or.inl ⟨by rfl, fun w' hSw => ?_⟩) hHeld ?_
      · go_simp
      simp only [List.setIfInBounds_toArray, List.set_cons_zero, List.set_cons_succ]
      refine take_d 20 75 (.bool true) _ rfl rfl (by kernel_rfl) (by kernel_rfl) (by kernel_rfl) (fun _ _ _ h => h) (Or.inl ⟨by rfl, fun w' hSw => ?_⟩) hHeld ?_
      · go_simp
      simp only [List.setIfInBounds_toArray, List.set_cons_zero, List.set_cons_succ]
      refine take_d 21 76 (.bool true) _ rfl rfl (by kernel_rfl) (by kernel_rfl) (by kernel_rfl) (fun _ _ _ h => h) (Or.inl ⟨by rfl, fun w' hSw => ?_⟩) hHeld ?_
      · go_simp
      simp only [List.setIfInBounds_toArray, List.set_cons_zero, List.set_cons_succ]
      refine take_d 22 77 (.slice A7 n c7) _ rfl rfl (by kernel_rfl) (by kernel_rfl) (by kernel_rfl) (fun _ _ _ h => h) (Or.inl ⟨by rfl, fun w' hSw => ?_⟩) hHeld ?_
      · go_simp
      simp only [List.setIfInBounds_toArray, List.set_cons_zero, List.set_cons_succ]
      refine take_d 23 78 (.string ⟨s.toArray⟩) _ rfl rfl (by kernel_rfl) (by kernel_rfl) (by kernel_rfl) (fun _ _ _ h => h) (Or.inl ⟨by rfl, fun w' hSw => ?_⟩) hHeld ?_
      · have q := run_string_bytes (F7.out.below hSw)
        go_simp
      simp only [List.setIfInBounds_toArray, List.set_cons_zero, List.set_cons_succ]
      refine take_d 24 79 (.slice A n c) _ rfl rfl (by kernel_rfl) (by kernel_rfl) (by kernel_rfl) (fun _ _ _ h => h) (Or.inl ⟨by rfl, fun w' hSw => ?_⟩) hHeld ?_
      · go_simp
      simp only [List.setIfInBounds_toArray, List.set_cons_zero, List.set_cons_succ]
      refine take_d 25 80 (.string ⟨s.toArray⟩) _ rfl rfl (by kernel_rfl) (by kernel_rfl) (by kernel_rfl) (fun _ _ _ h => h) (Or.inl ⟨by rfl, fun w' hSw => ?_⟩) hHeld ?_
      · have q := run_string_bytes (F0.out.below hSw)
        go_simp
      simp only [List.setIfInBounds_toArray, List.set_cons_zero, List.set_cons_succ]
      refine take_d 26 81 (.bool true) _ rfl rfl (by kernel_rfl) (by kernel_rfl) (by kernel_rfl) (fun _ _ _ h => h) (Or.inl ⟨by rfl, fun w' hSw => ?_⟩) hHeld ?_
      · go_simp
      simp only [List.setIfInBounds_toArray, List.set_cons_zero, List.set_cons_succ]
      refine take_d 27 82 (.bool true) _ rfl rfl (by kernel_rfl) (by kernel_rfl) (by kernel_rfl) (fun _ _ _ h => h) (Or.inl ⟨by rfl, fun w' hSw => ?_⟩) hHeld ?_
      · go_simp
      simp only [List.setIfInBounds_toArray, List.set_cons_zero, List.set_cons_succ]
      refine take_d 28 83 (.bool true) _ rfl rfl (by kernel_rfl) (by kernel_rfl) (by kernel_rfl) (fun _ _ _ h => h) (Or.inl ⟨by rfl, fun w' hSw => ?_⟩) hHeld ?_
      · go_simp
      simp only [List.setIfInBounds_toArray, List.set_cons_zero, List.set_cons_succ]
      refine take_d 29 84 (.int .i64 (10 + (n : Int))) _ rfl rfl (by kernel_rfl) (by kernel_rfl) (by kernel_rfl) (fun _ _ _ h => h) (Or.inl ⟨by rfl, fun w' hSw => ?_⟩) hHeld ?_
      · go_simp
      simp only [List.setIfInBounds_toArray, List.set_cons_zero, List.set_cons_succ]
      refine take_d 30 85 (.slice A5 (10 + n) c5) _ rfl rfl (by kernel_rfl) (by kernel_rfl) (by kernel_rfl) (fun _ _ _ h => h) (Or.inl ⟨by rfl, fun w' hSw => ?_⟩) hHeld ?_
      · go_simp
      simp only [List.setIfInBounds_toArray, List.set_cons_zero, List.set_cons_succ]
      refine take_d 31 86 (.int .i64 (10 + (n : Int))) _ rfl rfl (by kernel_rfl) (by kernel_rfl) (by kernel_rfl) (fun _ _ _ h => h) (Or.inl ⟨by rfl, fun w' hSw => ?_⟩) hHeld ?_
      · go_simp
      simp only [List.setIfInBounds_toArray, List.set_cons_zero, List.set_cons_succ]
      refine take_d 32 87 (.bool true) _ rfl rfl (by kernel_rfl) (by kernel_rfl) (by kernel_rfl) (fun _ _ _ h => h) (Or.inl ⟨by rfl, fun w' hSw => ?_⟩) hHeld ?_
      · go_simp
      simp only [List.setIfInBounds_toArray, List.set_cons_zero, List.set_cons_succ]
      refine take_d 33 88 (.bool true) _ rfl rfl (by kernel_rfl) (by kernel_rfl) (by kernel_rfl) (fun _ _ _ h => h) (Or.inl ⟨by rfl, fun w' hSw => ?_⟩) hHeld ?_
      · go_simp
      simp only [List.setIfInBounds_toArray, List.set_cons_zero, List.set_cons_succ]
      refine take_d 34 4 (.bool true) _ rfl rfl (by kernel_rfl) (by kernel_rfl) (by kernel_rfl) (fun _ _ _ h => h) (Or.inl ⟨by rfl, fun w' hSw => ?_⟩) hHeld ?_
      · go_simp
      simp only [List.setIfInBounds_toArray, List.set_cons_zero, List.set_cons_succ]
      refine wpAnyH_done (by kernel_rfl) ?_ _
      go_wp2
      go_ret
      exact ⟨rfl, C5.out.trans (hHeld.mono C5.out.size)⟩
  exact post
theorem frameMakes_law (v : Value) (s : List UInt8) (u : Value) (r : List UInt8) (w : World) (hs : s.length ≤ 9223372036854775807) (hb : Bytes w.heap.size w v s) (hr : r.length ≤ 9223372036854775807) (hu : Bytes w.heap.size w u r) :
    Calls Try.prog 3 #[v, u] w fun e w' => e = .returned (.bool true) ∧ Below w.heap.size w w' := by
  by_cases ho : 3000 < s.length ∧ s.length < 65536 ∨ 131072 < s.length ∨ (s.length ≤ 3000 ∨ 65536 ≤ s.length ∧ s.length ≤ 131072) ∧ 1000 < r.length
  · obtain ⟨A, c, rfl⟩ := one_bytes_slice hb
    obtain ⟨B, d, rfl⟩ := one_bytes_slice hu
    exact makes_out A B _ c _ d hs hr ho w
  · by_cases hbig : 65536 < s.length
    · exact makes_big v u s r hbig (by omega) (by omega) w hb hu
    · refine makes_ok v u s r (by omega) (by omega) w hb hu ?_
      by_cases h : s.length ≤ 3000
      · exact .inl (by omega)
      · exact .inr ⟨by omega, by omega⟩
end Go.Proofs.Ytcikdeknbkcggaa
