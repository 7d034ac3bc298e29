/- Layer 13: how long the common beginning of two logs is. (Written by genLdH.py.) -/
import Derived.Test.YtefgobmpleoafaaGreatLdE
import Derived.Test.YtefgobmpleoafaaGreatPkY
import Derived.Lib.MinMax
namespace Go.Proofs.YtefgobmpleoafaaGreat
open Go.RowKit
variable {w w' : World}

theorem EntsV.piece {n₀ c k b off : Nat} {l : List En} {r : En} (h : EntsV n₀ w (.slice (some ⟨b, off, none⟩) l.length c) l) (hr : l[k]? = some r) : EntsV n₀ w (.slice (some ⟨b, off + k * 9, none⟩) 1 (c - k)) [r] := by
  obtain ⟨A', c', hv, hc, ht⟩ := h
  injection hv with e1 e2 e3
  subst e1 e3
  have hk := (List.getElem?_eq_some_iff.1 hr).1
  obtain ⟨b', off', hA, hb, hx⟩ := ht (by rintro rfl; simp at hr)
  injection hA with hA
  injection hA with q1 q2 _
  subst q1 q2
  refine ⟨_, c - k, rfl, by simp; omega, fun _ => ⟨b, off + k * 9, rfl, hb, fun i e he => ?_⟩⟩
  cases i with
  | zero =>
    simp at he
    subst he
    rw [Nat.zero_mul, Nat.add_zero]
    exact hx k r hr
  | succ i => simp at he
theorem com_step {k : Nat} {la lb : List En} {r q : En} (h : la.take k = lb.take k) (h1 : la[k]? = some r) (h2 : lb[k]? = some q) (e : r = q) : la.take (k + 1) = lb.take (k + 1) := by
  rw [ent_take h1, ent_take h2, h, e]
set_option maxRecDepth 100000 in
set_option maxHeartbeats 8000000 in
theorem common_any (la lb : List En) (va vb : Value) (w : World) (hma : la.length ≤ 1000000) (hmb : lb.length ≤ 1000000) (hsh : ∀ e ∈ la, short e) (hA : EntsV w.heap.size w va la) (hB : EntsV w.heap.size w vb lb) :
    Calls Tryz.prog 64 #[va, vb] w fun e w' => ∃ n : Nat, e = .returned (.int .i64 (n : Int)) ∧ Com n la lb ∧ Below w.heap.size w w' := by
  obtain ⟨A, ca, rfl⟩ := hA.form
  obtain ⟨B, cb, rfl⟩ := hB.form
  have HA := Lib.hid hA
  have HB := Lib.hid hB
  have HS := Lib.hid hsh
  clear hA hB hsh
  obtain ⟨na, hna⟩ : ∃ n, n = la.length := ⟨_, rfl⟩
  obtain ⟨nb, hnb⟩ : ∃ n, n = lb.length := ⟨_, rfl⟩
  obtain ⟨mn, hmn⟩ : ∃ n, n = min na nb := ⟨_, rfl⟩
  have NA := Lib.hid hna
  have NB := Lib.hid hnb
  have MN : Hid (min (na : Int) (nb : Int) = (mn : Int)) := Lib.hid (by omega)
  have MI : Hid (mn ≤ na ∧ mn ≤ nb ∧ (mn = na ∨ mn = nb)) := Lib.hid (by omega)
  rw [← hna] at hma ⊢
  rw [← hnb] at hmb ⊢
  clear hna hnb hmn
  go_enter Tryz.func64, Tryz.ntmps64
  go_wp2
  go_loopw [5] (fun i wr => ∃ k : Nat, k ≤ mn ∧ i = .int .i64 (k : Int) ∧ Hid (la.take k = lb.take k) ∧ Hid (Below w.heap.size w wr)) (fun i _ => mn - (intOf i).toNat)
  case atStart => exact ⟨0, Nat.zero_le _, rfl, Lib.hid rfl, Lib.hid (Below.refl _ _)⟩
  case round =>
    obtain ⟨k, hk, rfl, HT, HW⟩ := hrel
    have hma1 : (na : Int) ≤ 1000000 := by omega
    have hmb1 : (nb : Int) ≤ 1000000 := by omega
    have hmn1 : (mn : Int) ≤ 1000000 := by have := MI.out; omega
    by_cases hlt : k < mn
    · have hka : k < la.length := by have := MI.out; have := NA.out; omega
      have hkb : k < lb.length := by have := MI.out; have := NB.out; omega
      obtain ⟨b1, o1, _, _, rfl, _, _, _, _⟩ := HA.out.at_ hka
      obtain ⟨b2, o2, _, _, rfl, _, _, _, _⟩ := HB.out.at_ hkb
      have GA := Lib.hid (List.getElem?_eq_getElem hka)
      have GB := Lib.hid (List.getElem?_eq_getElem hkb)
      have hs1 := HS.out la[k] (List.getElem_mem _)
      generalize la[k] = r at GA hs1
      generalize lb[k] = q at GB
      have hca : na ≤ ca := by obtain ⟨_, _, hv, hc, _⟩ := HA.out; injection hv with _ _ e3; rw [e3]; have := NA.out; omega
      have hcb : nb ≤ cb := by obtain ⟨_, _, hv, hc, _⟩ := HB.out; injection hv with _ _ e3; rw [e3]; have := NB.out; omega
      have CS : Hid (∀ W, Below w.heap.size w W → Calls Tryz.prog 76 #[.slice (some ⟨b1, o1 + k * 9, none⟩) 1 (ca - k), .slice (some ⟨b2, o2 + k * 9, none⟩) 1 (cb - k)] W fun e w' => ∃ c, e = .returned (.bool c) ∧ (c = true ↔ r = q) ∧ Below W.heap.size W w') := Lib.hid fun W hW => by
        have p1 := ((HA.out.below hW).more hW.size)
        have p2 := ((HB.out.below hW).more hW.size)
        refine (psame_any [r] [q] _ _ W (by simp) (fun e he => ?_) (p1.piece GA.out) (p2.piece GB.out)).mono ?_
        · obtain rfl := List.mem_singleton.1 he
          exact hs1
        · rintro e w1 ⟨c, rfl, hc, hb⟩
          exact ⟨c, rfl, by rw [hc]; simp, hb⟩
      have hlti : (k : Int) < (mn : Int) := by omega
      have hw1 : IntKind.i64.wrap ((k : Int) + 1) = ((k + 1 : Nat) : Int) := by rw [IntWalk.i64_in] <;> omega
      clear hs1
      have mi := MI.out
      have hk1 : k + 1 ≤ ca := by omega
      have hk2 : k + 1 ≤ cb := by omega
      clear mi
      have hn1 := HW.out.size
      go_upto_region 2 with (fail)
      refine wp_region_held_drew (S := fun w' => Below w.heap.size w w') (by kernel_rfl) (Below.drewN' HW.out 1) (fun hHeld => ?_)
      refine take_d 0 6 (.int .i64 (k : Int)) _ rfl rfl (by kernel_rfl) (by kernel_rfl) (by kernel_rfl) (fun _ _ _ h => h) (Or.inl ⟨by rfl, fun w' hSw => ?_⟩) hHeld ?_
      · go_simp
      simp only [List.setIfInBounds_toArray, List.set_cons_zero, List.set_cons_succ]
      refine take_d 1 7 (.slice (some ⟨b1, o1, none⟩) na ca) _ rfl rfl (by kernel_rfl) (by kernel_rfl) (by kernel_rfl) (fun _ _ _ h => h) (Or.inl ⟨by rfl, fun w' hSw => ?_⟩) hHeld ?_
      · go_simp
      simp only [List.setIfInBounds_toArray, List.set_cons_zero, List.set_cons_succ]
      refine take_d 2 8 (.int .i64 (na : Int)) _ rfl rfl (by kernel_rfl) (by kernel_rfl) (by kernel_rfl) (fun _ _ _ h => h) (Or.inl ⟨by rfl, fun w' hSw => ?_⟩) hHeld ?_
      · go_simp
      simp only [List.setIfInBounds_toArray, List.set_cons_zero, List.set_cons_succ]
      refine take_d 3 9 (.slice (some ⟨b2, o2, none⟩) nb cb) _ rfl rfl (by kernel_rfl) (by kernel_rfl) (by kernel_rfl) (fun _ _ _ h => h) (Or.inl ⟨by rfl, fun w' hSw => ?_⟩) hHeld ?_
      · go_simp
      simp only [List.setIfInBounds_toArray, List.set_cons_zero, List.set_cons_succ]
      refine take_d 4 10 (.int .i64 (nb : Int)) _ rfl rfl (by kernel_rfl) (by kernel_rfl) (by kernel_rfl) (fun _ _ _ h => h) (Or.inl ⟨by rfl, fun w' hSw => ?_⟩) hHeld ?_
      · go_simp
      simp only [List.setIfInBounds_toArray, List.set_cons_zero, List.set_cons_succ]
      refine take_d 5 11 (.int .i64 (mn : Int)) _ rfl rfl (by kernel_rfl) (by kernel_rfl) (by kernel_rfl) (fun _ _ _ h => h) (Or.inl ⟨by rfl, fun w' hSw => ?_⟩) hHeld ?_
      · have q := MN.out
        go_simp
      simp only [List.setIfInBounds_toArray, List.set_cons_zero, List.set_cons_succ]
      refine take_d 6 12 (.bool true) _ rfl rfl (by kernel_rfl) (by kernel_rfl) (by kernel_rfl) (fun _ _ _ h => h) (Or.inl ⟨by rfl, fun w' hSw => ?_⟩) hHeld ?_
      · have q := hlti
        go_simp
      simp only [List.setIfInBounds_toArray, List.set_cons_zero, List.set_cons_succ]
      refine take_d 7 13 (.bool true) _ rfl rfl (by kernel_rfl) (by kernel_rfl) (by kernel_rfl) (fun _ _ _ h => h) (Or.inl ⟨by rfl, fun w' hSw => ?_⟩) hHeld ?_
      · go_simp
      simp only [List.setIfInBounds_toArray, List.set_cons_zero, List.set_cons_succ]
      refine take_d 8 14 (.slice (some ⟨b1, o1, none⟩) na ca) _ rfl rfl (by kernel_rfl) (by kernel_rfl) (by kernel_rfl) (fun _ _ _ h => h) (Or.inl ⟨by rfl, fun w' hSw => ?_⟩) hHeld ?_
      · go_simp
      simp only [List.setIfInBounds_toArray, List.set_cons_zero, List.set_cons_succ]
      refine take_d 9 15 (.int .i64 (k : Int)) _ rfl rfl (by kernel_rfl) (by kernel_rfl) (by kernel_rfl) (fun _ _ _ h => h) (Or.inl ⟨by rfl, fun w' hSw => ?_⟩) hHeld ?_
      · go_simp
      simp only [List.setIfInBounds_toArray, List.set_cons_zero, List.set_cons_succ]
      refine take_d 10 16 (.int .i64 (k : Int)) _ rfl rfl (by kernel_rfl) (by kernel_rfl) (by kernel_rfl) (fun _ _ _ h => h) (Or.inl ⟨by rfl, fun w' hSw => ?_⟩) hHeld ?_
      · go_simp
      simp only [List.setIfInBounds_toArray, List.set_cons_zero, List.set_cons_succ]
      refine take_d 11 17 (.int .i64 ((k + 1 : Nat) : Int)) _ rfl rfl (by kernel_rfl) (by kernel_rfl) (by kernel_rfl) (fun _ _ _ h => h) (Or.inl ⟨by rfl, fun w' hSw => ?_⟩) hHeld ?_
      · have q := hw1
        go_simp
      simp only [List.setIfInBounds_toArray, List.set_cons_zero, List.set_cons_succ]
      refine take_d 12 18 (.slice (some ⟨b1, o1 + k * 9, none⟩) 1 (ca - k)) _ rfl rfl (by kernel_rfl) (by kernel_rfl) (by kernel_rfl) (fun _ _ _ h => h) (Or.inl ⟨by rfl, fun w' hSw => ?_⟩) hHeld ?_
      · have q : (0 : Int) ≤ (k : Int) + 1 := by omega
        have q2 : (k : Int) + 1 ≤ (ca : Int) := by omega
        have q3 : ¬ ca = k := by omega
        go_simp
      simp only [List.setIfInBounds_toArray, List.set_cons_zero, List.set_cons_succ]
      refine take_d 13 19 (.slice (some ⟨b2, o2, none⟩) nb cb) _ rfl rfl (by kernel_rfl) (by kernel_rfl) (by kernel_rfl) (fun _ _ _ h => h) (Or.inl ⟨by rfl, fun w' hSw => ?_⟩) hHeld ?_
      · go_simp
      simp only [List.setIfInBounds_toArray, List.set_cons_zero, List.set_cons_succ]
      refine take_d 14 20 (.int .i64 (k : Int)) _ rfl rfl (by kernel_rfl) (by kernel_rfl) (by kernel_rfl) (fun _ _ _ h => h) (Or.inl ⟨by rfl, fun w' hSw => ?_⟩) hHeld ?_
      · go_simp
      simp only [List.setIfInBounds_toArray, List.set_cons_zero, List.set_cons_succ]
      refine take_d 15 21 (.int .i64 (k : Int)) _ rfl rfl (by kernel_rfl) (by kernel_rfl) (by kernel_rfl) (fun _ _ _ h => h) (Or.inl ⟨by rfl, fun w' hSw => ?_⟩) hHeld ?_
      · go_simp
      simp only [List.setIfInBounds_toArray, List.set_cons_zero, List.set_cons_succ]
      refine take_d 16 22 (.int .i64 ((k + 1 : Nat) : Int)) _ rfl rfl (by kernel_rfl) (by kernel_rfl) (by kernel_rfl) (fun _ _ _ h => h) (Or.inl ⟨by rfl, fun w' hSw => ?_⟩) hHeld ?_
      · have q := hw1
        go_simp
      simp only [List.setIfInBounds_toArray, List.set_cons_zero, List.set_cons_succ]
      refine take_d 17 23 (.slice (some ⟨b2, o2 + k * 9, none⟩) 1 (cb - k)) _ rfl rfl (by kernel_rfl) (by kernel_rfl) (by kernel_rfl) (fun _ _ _ h => h) (Or.inl ⟨by rfl, fun w' hSw => ?_⟩) hHeld ?_
      · have q : (0 : Int) ≤ (k : Int) + 1 := by omega
        have q2 : (k : Int) + 1 ≤ (cb : Int) := by omega
        have q3 : ¬ cb = k := by omega
        go_simp
      simp only [List.setIfInBounds_toArray, List.set_cons_zero, List.set_cons_succ]
      refine wpAnyH_ready (rs := [18]) (by kernel_rfl) (by simp) ?_
      refine AllReadyH.cons rfl (fun K hK => ?_) AllReadyH.nil
      go_simp
      refine (CS.out _ hHeld).mono ?_
      rintro e w6 ⟨c, rfl, hc, hb6⟩
      have HC := Lib.hid hc
      have hS6 := Below.trans hHeld (hb6.mono (Below.size hHeld))
      refine hK.out _ _ hS6 (fun hHeld => ?_)
      clear hK K hS6 hc hb6
      refine take_d 19 25 (.bool c) _ rfl rfl (by kernel_rfl) (by kernel_rfl) (by kernel_rfl) (fun _ _ _ h => h) (Or.inl ⟨by rfl, fun w' hSw => ?_⟩) hHeld ?_
      · go_simp
      simp only [List.setIfInBounds_toArray, List.set_cons_zero, List.set_cons_succ]
      refine wpAnyH_done (by kernel_rfl) ?_ _
      cases c with
      | true =>
        have e := HC.out.1 rfl
        have HT2 := Lib.hid (com_step HT.out GA.out GB.out e)
        have HW2 := Lib.hid hHeld
        clear e
        go_wp2
        go_roundw
        case rel => exact ⟨k + 1, by omega, by go_num, HT2, HW2⟩
        case measure => simp [intOf]; omega
      | false =>
        have HW2 := Lib.hid hHeld
        go_wp2
        go_ret
        exact ⟨k, rfl, ⟨by have := MI.out; have := NA.out; omega, by have := MI.out; have := NB.out; omega, HT.out, fun _ _ => by rw [GA.out, GB.out]; intro h; injection h with h; exact absurd (HC.out.2 h) (by simp)⟩, HW2.out⟩
    · obtain rfl : k = mn := by omega
      have hge : ¬ (k : Int) < (k : Int) := by omega
      go_upto_region 2 with (fail)
      refine wp_region_held_drew (S := fun w' => Below w.heap.size w w') (by kernel_rfl) (Below.drewN' HW.out 1) (fun hHeld => ?_)
      refine take_d 0 6 (.int .i64 (k : Int)) _ rfl rfl (by kernel_rfl) (by kernel_rfl) (by kernel_rfl) (fun _ _ _ h => h) (Or.inl ⟨by rfl, fun w' hSw => ?_⟩) hHeld ?_
      · go_simp
      simp only [List.setIfInBounds_toArray, List.set_cons_zero, List.set_cons_succ]
      refine take_d 1 7 (.slice A na ca) _ rfl rfl (by kernel_rfl) (by kernel_rfl) (by kernel_rfl) (fun _ _ _ h => h) (Or.inl ⟨by rfl, fun w' hSw => ?_⟩) hHeld ?_
      · go_simp
      simp only [List.setIfInBounds_toArray, List.set_cons_zero, List.set_cons_succ]
      refine take_d 2 8 (.int .i64 (na : Int)) _ rfl rfl (by kernel_rfl) (by kernel_rfl) (by kernel_rfl) (fun _ _ _ h => h) (Or.inl ⟨by rfl, fun w' hSw => ?_⟩) hHeld ?_
      · go_simp
      simp only [List.setIfInBounds_toArray, List.set_cons_zero, List.set_cons_succ]
      refine take_d 3 9 (.slice B nb cb) _ rfl rfl (by kernel_rfl) (by kernel_rfl) (by kernel_rfl) (fun _ _ _ h => h) (Or.inl ⟨by rfl, fun w' hSw => ?_⟩) hHeld ?_
      · go_simp
      simp only [List.setIfInBounds_toArray, List.set_cons_zero, List.set_cons_succ]
      refine take_d 4 10 (.int .i64 (nb : Int)) _ rfl rfl (by kernel_rfl) (by kernel_rfl) (by kernel_rfl) (fun _ _ _ h => h) (Or.inl ⟨by rfl, fun w' hSw => ?_⟩) hHeld ?_
      · go_simp
      simp only [List.setIfInBounds_toArray, List.set_cons_zero, List.set_cons_succ]
      refine take_d 5 11 (.int .i64 (k : Int)) _ rfl rfl (by kernel_rfl) (by kernel_rfl) (by kernel_rfl) (fun _ _ _ h => h) (Or.inl ⟨by rfl, fun w' hSw => ?_⟩) hHeld ?_
      · have q := MN.out
        go_simp
      simp only [List.setIfInBounds_toArray, List.set_cons_zero, List.set_cons_succ]
      refine take_d 6 12 (.bool false) _ rfl rfl (by kernel_rfl) (by kernel_rfl) (by kernel_rfl) (fun _ _ _ h => h) (Or.inl ⟨by rfl, fun w' hSw => ?_⟩) hHeld ?_
      · have q := hge
        go_simp
      simp only [List.setIfInBounds_toArray, List.set_cons_zero, List.set_cons_succ]
      refine take_d 7 13 (.bool false) _ rfl rfl (by kernel_rfl) (by kernel_rfl) (by kernel_rfl) (fun _ _ _ h => h) (Or.inl ⟨by rfl, fun w' hSw => ?_⟩) hHeld ?_
      · go_simp
      simp only [List.setIfInBounds_toArray, List.set_cons_zero, List.set_cons_succ]
      refine take_d 8 14 undef _ rfl rfl (by kernel_rfl) (by kernel_rfl) (by kernel_rfl) (fun _ _ _ h => h) (Or.inr ⟨by rfl, rfl⟩) hHeld ?_
      simp only [List.setIfInBounds_toArray, List.set_cons_zero, List.set_cons_succ]
      refine take_d 9 15 undef _ rfl rfl (by kernel_rfl) (by kernel_rfl) (by kernel_rfl) (fun _ _ _ h => h) (Or.inr ⟨by rfl, rfl⟩) hHeld ?_
      simp only [List.setIfInBounds_toArray, List.set_cons_zero, List.set_cons_succ]
      refine take_d 10 16 undef _ rfl rfl (by kernel_rfl) (by kernel_rfl) (by kernel_rfl) (fun _ _ _ h => h) (Or.inr ⟨by rfl, rfl⟩) hHeld ?_
      simp only [List.setIfInBounds_toArray, List.set_cons_zero, List.set_cons_succ]
      refine take_d 11 17 undef _ rfl rfl (by kernel_rfl) (by kernel_rfl) (by kernel_rfl) (fun _ _ _ h => h) (Or.inr ⟨by rfl, rfl⟩) hHeld ?_
      simp only [List.setIfInBounds_toArray, List.set_cons_zero, List.set_cons_succ]
      refine take_d 12 18 undef _ rfl rfl (by kernel_rfl) (by kernel_rfl) (by kernel_rfl) (fun _ _ _ h => h) (Or.inr ⟨by rfl, rfl⟩) hHeld ?_
      simp only [List.setIfInBounds_toArray, List.set_cons_zero, List.set_cons_succ]
      refine take_d 13 19 undef _ rfl rfl (by kernel_rfl) (by kernel_rfl) (by kernel_rfl) (fun _ _ _ h => h) (Or.inr ⟨by rfl, rfl⟩) hHeld ?_
      simp only [List.setIfInBounds_toArray, List.set_cons_zero, List.set_cons_succ]
      refine take_d 14 20 undef _ rfl rfl (by kernel_rfl) (by kernel_rfl) (by kernel_rfl) (fun _ _ _ h => h) (Or.inr ⟨by rfl, rfl⟩) hHeld ?_
      simp only [List.setIfInBounds_toArray, List.set_cons_zero, List.set_cons_succ]
      refine take_d 15 21 undef _ rfl rfl (by kernel_rfl) (by kernel_rfl) (by kernel_rfl) (fun _ _ _ h => h) (Or.inr ⟨by rfl, rfl⟩) hHeld ?_
      simp only [List.setIfInBounds_toArray, List.set_cons_zero, List.set_cons_succ]
      refine take_d 16 22 undef _ rfl rfl (by kernel_rfl) (by kernel_rfl) (by kernel_rfl) (fun _ _ _ h => h) (Or.inr ⟨by rfl, rfl⟩) hHeld ?_
      simp only [List.setIfInBounds_toArray, List.set_cons_zero, List.set_cons_succ]
      refine take_d 17 23 undef _ rfl rfl (by kernel_rfl) (by kernel_rfl) (by kernel_rfl) (fun _ _ _ h => h) (Or.inr ⟨by rfl, rfl⟩) hHeld ?_
      simp only [List.setIfInBounds_toArray, List.set_cons_zero, List.set_cons_succ]
      refine take_d 18 24 undef _ rfl rfl (by kernel_rfl) (by kernel_rfl) (by kernel_rfl) (fun _ _ _ h => h) (Or.inr ⟨by rfl, rfl⟩) hHeld ?_
      simp only [List.setIfInBounds_toArray, List.set_cons_zero, List.set_cons_succ]
      refine take_d 19 25 (.bool false) _ rfl rfl (by kernel_rfl) (by kernel_rfl) (by kernel_rfl) (fun _ _ _ h => h) (Or.inl ⟨by rfl, fun w' hSw => ?_⟩) hHeld ?_
      · go_simp
      simp only [List.setIfInBounds_toArray, List.set_cons_zero, List.set_cons_succ]
      refine wpAnyH_done (by kernel_rfl) ?_ _
      have HW2 := Lib.hid hHeld
      go_wp2
      go_ret
      exact ⟨k, rfl, ⟨by have := MI.out; have := NA.out; omega, by have := MI.out; have := NB.out; omega, HT.out, fun h1 h2 => by have := MI.out; have := NA.out; have := NB.out; omega⟩, HW2.out⟩
end Go.Proofs.YtefgobmpleoafaaGreat
