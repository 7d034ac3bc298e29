/- TapeOwn: the law's walk. -/
import Derived.Test.YtjnhjpjebklalaaTpF
namespace Go.Proofs.Ytjnhjpjebklalaa
open Go.RowKit
variable {w w' : World} {S : Nat → Prop} {g : Nat} {T : Tp}

def Ob (v : Value) (i : Nat) : Prop := v.ownBlock = some i
theorem xor255 (c : Nat) (hc : c < 256) : ∃ y : UInt8, bits .xor .u8 (c : Int) 255 = ((y.toNat : Nat) : Int) := by
  have := xor_uu c.toUInt8 255
  rw [u8 c hc] at this
  exact ⟨_, this⟩
theorem own_lit (w : World) (base : Nat) (hb : base ≤ w.heap.size) : Own (w.alloc (.cells #[] 5)) base (.slice (some ⟨w.heap.size, 0, none⟩) 0 0) [] := own_empty w base 5 hb
set_option maxRecDepth 100000 in
set_option maxHeartbeats 4000000 in
theorem tapeOwn_in (v : Value) (s : List UInt8) (hs : s.length ≤ 300) (w : World) (h : Bytes w.heap.size w v s) :
    Calls Try.prog 5 #[v] w fun e w' => e = .returned (.bool true) ∧ Below w.heap.size w w' := by
  have H := Lib.hid h
  obtain ⟨A, c, rfl, _, _⟩ := h
  obtain ⟨n, hn⟩ : ∃ n, n = s.length := ⟨_, rfl⟩
  rw [← hn] at H hs ⊢
  have HN := Lib.hid hn
  clear hn
  have i1 : ¬ (300 : Int) < (n : Int) := by omega
  go_enter Try.func5, Try.ntmps5
  go_wp2_with fail
  refine (anchor12_any w).mono ?_
  rintro e w1 ⟨rfl, b1⟩
  have B1 := Lib.hid b1
  clear b1
  go_wp2_with fail
  refine (new_any 600 (by decide) (by decide) w1).mono ?_
  rintro e w2 ⟨rfl, t2, b2⟩
  have B2 := Lib.hid (B1.out.trans (b2.mono B1.out.size))
  have T2 := Lib.hid t2
  have HB := Lib.hid (H.out.below (B2.out.alloc B2.out.size (.cells #[] 5)))
  have hlt2 := t2.lt
  clear b2 t2
  go_wp2_with (at_builtin
               refine wpList_app _ rfl (.tmp 14) (.tmp 15) rfl _ [] rfl (own_lit w2 w2.heap.size (Nat.le_refl _)) w.heap.size _ s rfl HB.out (by rw [List.length_nil, ← HN.out]; omega) (by simp) ?_
               intro v' w3 o3 g3 n3
               rw [List.nil_append] at o3
               have O3 := Lib.hid o3
               have B3 : Hid (Below w2.heap.size w2 w3) := Lib.hid (below_append ((Below.refl w2.heap.size w2).alloc (Nat.le_refl _) (.cells #[] 5)) (own_lit w2 w2.heap.size (Nat.le_refl _)) (Nat.le_refl _) g3 (by simp))
               obtain ⟨Ax, cx, rfl⟩ := O3.out.one
               clear o3 g3 n3)
  have T3 := Lib.hid (T2.out.on B3.out)
  have B4 := Lib.hid (B2.out.trans (B3.out.mono B2.out.size))
  have HL : Hid (∀ i, i = w1.heap.size → w.heap.size ≤ i ∧ i < w2.heap.size) := Lib.hid fun i hi => by have := B1.out.size; omega
  have A4 := append_any (n₀ := w3.heap.size) (.slice Ax s.length cx) s (fun w' hf => hf.bytes O3.out (fun i hi hh => by have := O3.out.lt i hi; omega)) T3.out
  obtain ⟨q1, q2⟩ := pl_app (bs := []) (b := s) (room := 600) (safe := 0) (by rw [List.length_nil, ← HN.out]; omega)
  rw [pl_new, q1, q2, List.nil_append] at A4
  have A4 := Lib.hid A4
  clear q1 q2
  go_wp2_with fail
  refine A4.out.mono ?_
  rintro e w4 ⟨rfl, S5, hs5, t5, f5⟩
  have B5 := Lib.hid (B4.out.trans (f5.old B4.out.size (fun i hi => (HL.out i hi).1)))
  have T5 := Lib.hid t5
  have LX : Hid (∀ i, Ob (.slice Ax s.length cx) i → w.heap.size ≤ i) := Lib.hid fun i hi => by have := O3.out.lt i hi; have := B2.out.size; omega
  have DX : Hid (∀ i, S5 i → ¬ Ob (.slice Ax s.length cx) i) := Lib.hid fun i hi hh => by
    have h1 := O3.out.lt i hh
    rcases hs5 i hi with h2 | h2
    · have := HL.out i h2; omega
    · omega
  have O5 : Hid (Own w4 w2.heap.size (.slice Ax s.length cx) s) := Lib.hid (f5.own O3.out (fun i hi hh => by have := O3.out.lt i hi; omega))
  rw [← HN.out] at O5 LX DX
  rw [← HN.out]
  clear A4 f5 t5 hs5 hlt2
  go_wp2
  go_loopw [27] (fun i wr => ∃ (k : Nat) (L : List UInt8), k ≤ n ∧ i = .int .i64 k ∧ Hid (L.length = n) ∧ Hid (Own wr w2.heap.size (.slice Ax n cx) L) ∧ Hid (Fr (Ob (.slice Ax n cx)) w4 wr)) (fun i _ => n - (intOf i).toNat)
  case atStart => exact ⟨0, s, Nat.zero_le _, rfl, Lib.hid HN.out.symm, O5, Lib.hid (Fr.refl _)⟩
  case round =>
    obtain ⟨k, L, hk, rfl, HLL, HO, HF⟩ := hrel
    by_cases hlt : k < n
    · have ho := HO.out
      obtain ⟨gx, hgx⟩ : ∃ gx, Ax = some ⟨gx, 0, none⟩ := by
        rcases ho.form with ⟨hv, hl⟩ | ⟨gx, cc, hv, _⟩
        · have := HLL.out
          rw [hl] at this
          simp at this
          omega
        · injection hv with h1
          exact ⟨gx, h1⟩
      subst hgx
      obtain ⟨y, hy⟩ := xor255 (at_ L k) (at_lt L k)
      have c5 := ho.at_ HLL.out hlt
      have f5 := ho.frozen HLL.out (k := k)
      have l5 := (ho.lt gx rfl).2
      have q5 := at_lt L k
      clear ho
      go_wp2
      go_roundw
      case rel => exact ⟨k + 1, L.set k y, by omega, by go_num, Lib.hid (by rw [List.length_set, HLL.out]), Lib.hid (HO.out.set_ HLL.out y), Lib.hid (HF.out.set_ (q := ⟨gx, k, none⟩) (.inl rfl) _)⟩
      case measure => simp [intOf]; omega
    · obtain rfl : n = k := by omega
      have B6 : Hid (Below w.heap.size w wr) := Lib.hid (B5.out.trans (HF.out.old B5.out.size LX.out))
      have T6 := Lib.hid (T5.out.fr HF.out DX.out)
      generalize wr = w6 at *
      have BY := Lib.hid (bytes_any T6.out)
      clear HO HF HLL
      go_wp2_with fail
      refine BY.out.mono ?_
      rintro e w7 ⟨v7, rfl, o7, b7⟩
      obtain ⟨Ay, cy, rfl⟩ := o7.one
      have B7 := Lib.hid (B6.out.trans (b7.mono B6.out.size))
      have T7 := Lib.hid (T6.out.on b7)
      have LY : Hid (∀ i, Ob (.slice Ay s.length cy) i → w.heap.size ≤ i) := Lib.hid fun i hi => by have := o7.lt i hi; have := B6.out.size; omega
      have DY : Hid (∀ i, S5 i → ¬ Ob (.slice Ay s.length cy) i) := Lib.hid fun i hi hh => by have := o7.lt i hh; have := T6.out.old i hi; omega
      have O7 : Hid (Own w7 w6.heap.size (.slice Ay s.length cy) s) := Lib.hid o7
      rw [← HN.out] at O7 LY DY
      clear o7 b7 BY
      simp only [pl]
      rw [← HN.out]
      go_wp2
      go_loopw [41] (fun i wr => ∃ (k : Nat) (L : List UInt8), k ≤ n ∧ i = .int .i64 k ∧ Hid (L.length = n) ∧ Hid (Own wr w6.heap.size (.slice Ay n cy) L) ∧ Hid (Fr (Ob (.slice Ay n cy)) w7 wr)) (fun i _ => n - (intOf i).toNat)
      case atStart => exact ⟨0, s, Nat.zero_le _, rfl, Lib.hid HN.out.symm, O7, Lib.hid (Fr.refl _)⟩
      case round =>
        obtain ⟨k, L, hk, rfl, HLL, HO, HF⟩ := hrel
        by_cases hlt : k < n
        · have ho := HO.out
          obtain ⟨gx, hgx⟩ : ∃ gx, Ay = some ⟨gx, 0, none⟩ := by
            rcases ho.form with ⟨hv, hl⟩ | ⟨gx, cc, hv, _⟩
            · have := HLL.out
              rw [hl] at this
              simp at this
              omega
            · injection hv with h1
              exact ⟨gx, h1⟩
          subst hgx
          obtain ⟨y, hy⟩ := xor255 (at_ L k) (at_lt L k)
          have c5 := ho.at_ HLL.out hlt
          have f5 := ho.frozen HLL.out (k := k)
          have l5 := (ho.lt gx rfl).2
          have q5 := at_lt L k
          clear ho
          go_wp2
          go_roundw
          case rel => exact ⟨k + 1, L.set k y, by omega, by go_num, Lib.hid (by rw [List.length_set, HLL.out]), Lib.hid (HO.out.set_ HLL.out y), Lib.hid (HF.out.set_ (q := ⟨gx, k, none⟩) (.inl rfl) _)⟩
          case measure => simp [intOf]; omega
        · obtain rfl : n = k := by omega
          have ZF := Lib.hid HF.out
          have B8 : Hid (Below w.heap.size w wr) := Lib.hid (B7.out.trans (HF.out.old B7.out.size LY.out))
          have T8 := Lib.hid (T7.out.fr HF.out DY.out)
          generalize wr = w8 at *
          have HC := Lib.hid ((H.out.below B8.out).more B8.out.size)
          have BY : Hid (∀ w', Below w8.heap.size w8 w' → Calls Try.prog 12 #[.pointer (some ⟨w1.heap.size, 0, none⟩)] w' fun e w'' => ∃ v, e = .returned v ∧ Own w'' w'.heap.size v s ∧ Below w'.heap.size w' w'') := Lib.hid fun w' hb => bytes_any (T8.out.on hb)
          clear HO HF HLL
          go_wp2_with fail
          refine wp_region_held_drew (S := fun w' => Below w8.heap.size w8 w') (by kernel_rfl) (Below.drewN' (Below.refl _ w8) 1) (fun hHeld => ?_)
          refine take_d 0 51 (.pointer (some ⟨w1.heap.size, 0, none⟩)) _ rfl rfl (by kernel_rfl) (by kernel_rfl) (by kernel_rfl) (fun _ _ _ h => h) (Or.inl ⟨by rfl, fun w' hSw => ?_⟩) hHeld ?_
          · go_simp
          simp only [List.setIfInBounds_toArray, List.set_cons_zero, List.set_cons_succ]
          refine take_d 3 54 (.slice A n c) _ rfl rfl (by kernel_rfl) (by kernel_rfl) (by kernel_rfl) (fun _ _ _ h => h) (Or.inl ⟨by rfl, fun w' hSw => ?_⟩) hHeld ?_
          · go_simp
          simp only [List.setIfInBounds_toArray, List.set_cons_zero, List.set_cons_succ]
          refine take_d 4 55 (.string ⟨s.toArray⟩) _ rfl rfl (by kernel_rfl) (by kernel_rfl) (by kernel_rfl) (fun _ _ _ h => h) (Or.inl ⟨by rfl, fun w' hSw => ?_⟩) hHeld ?_
          · have q := run_string_bytes (HC.out.below hSw)
            go_simp
          simp only [List.setIfInBounds_toArray, List.set_cons_zero, List.set_cons_succ]
          refine wpAnyH_ready (rs := [1]) (by kernel_rfl) (by simp) ?_
          refine AllReadyH.cons rfl (fun K hK => ?_) AllReadyH.nil
          go_simp
          refine (BY.out _ hHeld).mono ?_
          rintro e w9 ⟨v9, rfl, o9, b9⟩
          obtain ⟨A9, c9, rfl⟩ := o9.one
          have hS9 := Below.trans hHeld (b9.mono hHeld.size)
          rw [← HN.out] at o9 ⊢
          have q9 := run_string_bytes o9.bytes
          refine hK.out _ _ hS9 (fun hHeld => ?_)
          clear hK K b9 o9 hS9
          refine wpAnyH_ready (rs := [2]) (by kernel_rfl) (by simp) ?_
          refine AllReadyH.cons rfl (fun K hK => ?_) AllReadyH.nil
          go_simp
          refine hK.out _ _ hHeld (fun hHeld => ?_)
          clear hK K q9
          refine take_d 5 56 (.bool true) _ rfl rfl (by kernel_rfl) (by kernel_rfl) (by kernel_rfl) (fun _ _ _ h => h) (Or.inl ⟨by rfl, fun w' hSw => ?_⟩) hHeld ?_
          · go_simp
          simp only [List.setIfInBounds_toArray, List.set_cons_zero, List.set_cons_succ]
          refine take_d 6 2 (.bool true) _ rfl rfl (by kernel_rfl) (by kernel_rfl) (by kernel_rfl) (fun _ _ _ h => h) (Or.inl ⟨by rfl, fun w' hSw => ?_⟩) hHeld ?_
          · go_simp
          simp only [List.setIfInBounds_toArray, List.set_cons_zero, List.set_cons_succ]
          refine wpAnyH_done (by kernel_rfl) ?_ _
          go_wp2
          go_ret
          exact ⟨rfl, B8.out.trans (hHeld.mono B8.out.size)⟩
set_option maxRecDepth 100000 in
theorem tapeOwn_law (v : Value) (s : List UInt8) (w : World) (hl : s.length ≤ 9223372036854775807) (h : Bytes w.heap.size w v s) :
    Calls Try.prog 5 #[v] w fun e w' => e = .returned (.bool true) ∧ Below w.heap.size w w' := by
  by_cases hs : s.length ≤ 300
  · exact tapeOwn_in v s hs w h
  · obtain ⟨A, c, rfl, _, _⟩ := h
    generalize s.length = n at *
    have i1 : (300 : Int) < (n : Int) := by omega
    go_enter Try.func5, Try.ntmps5
    go_wp2_with fail
    refine (anchor12_any w).mono ?_
    rintro e w1 ⟨rfl, b1⟩
    go_wp2
    go_ret
    exact ⟨rfl, b1⟩
end Go.Proofs.Ytjnhjpjebklalaa
