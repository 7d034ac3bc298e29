/- Joined: PJ, PK, PL. -/
import Derived.Test.YtefgobmpleoafaaGreatDoorJPb
/- A number of one or two digits, as a contract. -/
namespace Go.Proofs.YtefgobmpleoafaaGreatDoor
open Go.RowKit
variable {n₀ rb tb cap d : Nat} {s : List UInt8} {w w' : World} {σ σ1 : St} {fc fa : Int} {bv v : Value}

theorem adv_adv (σ : St) (a b : Nat) : (σ.adv a).adv b = σ.adv (a + b) := by simp [St.adv, List.drop_drop, Nat.add_assoc]
/-- The number behind j digits. -/
def numJ (t : List UInt8) (j : Nat) : Nat := if j = 0 then 0 else if j = 1 then at_ t 0 - 48 else 10 * (at_ t 0 - 48) + (at_ t 1 - 48)
def digsJ (t : List UInt8) (j : Nat) : Prop := (1 ≤ j → dig (at_ t 0) = true) ∧ (2 ≤ j → dig (at_ t 1) = true)
theorem num_exit {t : List UInt8} {j : Nat} (hj : j ≤ 2) (hd : digsJ t j) (hx : j = 2 ∨ dig (at_ t j) = false) : numLen t = j ∧ numOf t = numJ t j ∧ numOk t = (decide (0 < j) && decide (numJ t j ≤ 64)) := by
  have h : j = 0 ∨ j = 1 ∨ j = 2 := by omega
  rcases h with rfl | rfl | rfl
  · have e : dig (at_ t 0) = false := by rcases hx with h | h; (· cases h); exact h
    simp [numLen, numOf, numOk, numJ, e]
  · have e : dig (at_ t 0) = true := hd.1 (by omega)
    have e1 : dig (at_ t 1) = false := by rcases hx with h | h; (· cases h); exact h
    simp [numLen, numOf, numOk, numJ, e, e1]
  · have e : dig (at_ t 0) = true := hd.1 (by omega)
    have e1 : dig (at_ t 1) = true := hd.2 (by omega)
    simp [numLen, numOf, numOk, numJ, e, e1]
theorem numJ_le {t : List UInt8} {j : Nat} (hd : digsJ t j) : numJ t j ≤ 99 := by
  unfold numJ
  split
  · omega
  · split
    · have := (dig_iff _).1 (hd.1 (by omega))
      omega
    · have := (dig_iff _).1 (hd.1 (by omega))
      have := (dig_iff _).1 (hd.2 (by omega))
      omega

/-- What a round of the loop over digits keeps. -/
def DRel (n₀ rb tb cap : Nat) (s : List UInt8) (d : Nat) (fc fa : Int) (bv : Value) (σ : St) (w : World) (g : Nat) (n : Value) (wr : World) : Prop :=
  ∃ j, j ≤ 2 ∧ 2 ≤ j + g ∧ j ≤ σ.t.length ∧ digsJ σ.t j ∧ n = .int .i64 (numJ σ.t j : Nat) ∧ Rd n₀ rb tb cap s wr (σ.adv j) d fc fa bv ∧ Fr n₀ rb w wr

set_option maxRecDepth 100000 in
set_option maxHeartbeats 4000000 in
theorem count_any (hR : Rd n₀ rb tb cap s w σ d fc fa bv) :
    Calls Tryz.prog 162 #[.pointer (some ⟨rb, 0, none⟩)] w fun e w' => e = .returned (.tuple #[.int .i64 (numOf σ.t : Nat), .bool (numOk σ.t)]) ∧ Rd n₀ rb tb cap s w' (σ.adv (numLen σ.t)) d fc fa bv ∧ Fr n₀ rb w w' := by
  have c1 := hR.c1
  have hpos := hR.pos
  have ht := hR.tl
  have hl := hR.len
  have H0 : Hid (DRel n₀ rb tb cap s d fc fa bv σ w 2 (.int .i64 0) w) := Lib.hid ⟨0, by omega, by omega, by omega, ⟨by omega, by omega⟩, rfl, hR, Fr.refl _⟩
  clear hR
  go_enter Tryz.func162, Tryz.ntmps162
  go_wp2
  go_loopg [5] 2 (fun g n wr => DRel n₀ rb tb cap s d fc fa bv σ w g n wr)
  case atStart => exact H0.out
  case round =>
    clear H0 c1
    obtain ⟨j, hj, hg, hjl, hdj, rfl, hRr, hFr⟩ := hrel
    have hnj := numJ_le hdj
    have HRr := Lib.hid hRr
    have HF := Lib.hid hFr
    have HD := Lib.hid hdj
    have HE := Lib.hid (fun W (hW : Rd n₀ rb tb cap s W (σ.adv j) d fc fa bv) => ended_any hW)
    have htl : (σ.adv j).t.length = σ.t.length - j := adv_len σ j
    have hem : (σ.adv j).t.isEmpty = decide (σ.t.length ≤ j) := by
      cases e : (σ.adv j).t with
      | nil => rw [e] at htl; simp at htl; simp; omega
      | cons a b => rw [e] at htl; simp at htl; simp; omega
    rw [hem] at HE
    clear hem htl
    have cc1 := hRr.c1
    have ff1 := hRr.fz 1
    have hps : (σ.adv j).pos = σ.pos + j := rfl
    by_cases hend : σ.t.length ≤ j
    · have hx : j = 2 ∨ dig (at_ σ.t j) = false := .inr (dig_no (by rw [at_out hend]; omega))
      have HX := Lib.hid (num_exit hj hdj hx)
      rw [decide_eq_true hend] at HE
      clear hRr hFr hdj hx
      go_wp2_with fail
      refine wp_region_held_drew (S := fun _ => True) (by kernel_rfl) trivial (fun hHeld => ?_)
      refine take_d 0 10 (.pointer (some ⟨rb, 0, none⟩)) _ rfl rfl (by kernel_rfl) (by kernel_rfl) (by kernel_rfl) (fun _ _ _ h => h) (Or.inl ⟨by rfl, fun w' hSw => ?_⟩) hHeld ?_
      · go_simp
      simp only [List.setIfInBounds_toArray, List.set_cons_zero, List.set_cons_succ]
      refine wpAnyH_ready (rs := [1]) (by kernel_rfl) (by simp) ?_
      refine AllReadyH.cons rfl (fun K hK => ?_) AllReadyH.nil
      go_simp
      refine (HE.out _ HRr.out.drew).mono ?_
      rintro e w1 ⟨rfl, hb⟩
      refine hK.out _ _ trivial (fun hHeld => ?_)
      clear hK K
      refine take_d 2 12 (.bool false) _ rfl rfl (by kernel_rfl) (by kernel_rfl) (by kernel_rfl) (fun _ _ _ h => h) (Or.inl ⟨by rfl, fun w' hSw => ?_⟩) hHeld ?_
      · go_simp
      simp only [List.setIfInBounds_toArray, List.set_cons_zero, List.set_cons_succ]
      refine take_d 3 13 (.bool false) _ rfl rfl (by kernel_rfl) (by kernel_rfl) (by kernel_rfl) (fun _ _ _ h => h) (Or.inl ⟨by rfl, fun w' hSw => ?_⟩) hHeld ?_
      · go_simp
      simp only [List.setIfInBounds_toArray, List.set_cons_zero, List.set_cons_succ]
      refine take_d 4 14 undef _ rfl rfl (by kernel_rfl) (by kernel_rfl) (by kernel_rfl) (fun _ _ _ h => h) (Or.inr ⟨by rfl, rfl⟩) hHeld ?_
      simp only [List.setIfInBounds_toArray, List.set_cons_zero, List.set_cons_succ]
      refine take_d 5 15 undef _ rfl rfl (by kernel_rfl) (by kernel_rfl) (by kernel_rfl) (fun _ _ _ h => h) (Or.inr ⟨by rfl, rfl⟩) hHeld ?_
      simp only [List.setIfInBounds_toArray, List.set_cons_zero, List.set_cons_succ]
      refine take_d 6 16 undef _ rfl rfl (by kernel_rfl) (by kernel_rfl) (by kernel_rfl) (fun _ _ _ h => h) (Or.inr ⟨by rfl, rfl⟩) hHeld ?_
      simp only [List.setIfInBounds_toArray, List.set_cons_zero, List.set_cons_succ]
      refine take_d 7 17 undef _ rfl rfl (by kernel_rfl) (by kernel_rfl) (by kernel_rfl) (fun _ _ _ h => h) (Or.inr ⟨by rfl, rfl⟩) hHeld ?_
      simp only [List.setIfInBounds_toArray, List.set_cons_zero, List.set_cons_succ]
      refine take_d 8 18 undef _ rfl rfl (by kernel_rfl) (by kernel_rfl) (by kernel_rfl) (fun _ _ _ h => h) (Or.inr ⟨by rfl, rfl⟩) hHeld ?_
      simp only [List.setIfInBounds_toArray, List.set_cons_zero, List.set_cons_succ]
      refine take_d 9 19 undef _ rfl rfl (by kernel_rfl) (by kernel_rfl) (by kernel_rfl) (fun _ _ _ h => h) (Or.inr ⟨by rfl, rfl⟩) hHeld ?_
      simp only [List.setIfInBounds_toArray, List.set_cons_zero, List.set_cons_succ]
      refine take_d 10 20 undef _ rfl rfl (by kernel_rfl) (by kernel_rfl) (by kernel_rfl) (fun _ _ _ h => h) (Or.inr ⟨by rfl, rfl⟩) hHeld ?_
      simp only [List.setIfInBounds_toArray, List.set_cons_zero, List.set_cons_succ]
      refine take_d 11 21 (.bool false) _ rfl rfl (by kernel_rfl) (by kernel_rfl) (by kernel_rfl) (fun _ _ _ h => h) (Or.inl ⟨by rfl, fun w' hSw => ?_⟩) hHeld ?_
      · go_simp
      simp only [List.setIfInBounds_toArray, List.set_cons_zero, List.set_cons_succ]
      refine take_d 12 22 (.bool false) _ rfl rfl (by kernel_rfl) (by kernel_rfl) (by kernel_rfl) (fun _ _ _ h => h) (Or.inl ⟨by rfl, fun w' hSw => ?_⟩) hHeld ?_
      · go_simp
      simp only [List.setIfInBounds_toArray, List.set_cons_zero, List.set_cons_succ]
      refine take_d 13 23 undef _ rfl rfl (by kernel_rfl) (by kernel_rfl) (by kernel_rfl) (fun _ _ _ h => h) (Or.inr ⟨by rfl, rfl⟩) hHeld ?_
      simp only [List.setIfInBounds_toArray, List.set_cons_zero, List.set_cons_succ]
      refine take_d 14 24 undef _ rfl rfl (by kernel_rfl) (by kernel_rfl) (by kernel_rfl) (fun _ _ _ h => h) (Or.inr ⟨by rfl, rfl⟩) hHeld ?_
      simp only [List.setIfInBounds_toArray, List.set_cons_zero, List.set_cons_succ]
      refine take_d 15 25 undef _ rfl rfl (by kernel_rfl) (by kernel_rfl) (by kernel_rfl) (fun _ _ _ h => h) (Or.inr ⟨by rfl, rfl⟩) hHeld ?_
      simp only [List.setIfInBounds_toArray, List.set_cons_zero, List.set_cons_succ]
      refine take_d 16 26 undef _ rfl rfl (by kernel_rfl) (by kernel_rfl) (by kernel_rfl) (fun _ _ _ h => h) (Or.inr ⟨by rfl, rfl⟩) hHeld ?_
      simp only [List.setIfInBounds_toArray, List.set_cons_zero, List.set_cons_succ]
      refine take_d 17 27 undef _ rfl rfl (by kernel_rfl) (by kernel_rfl) (by kernel_rfl) (fun _ _ _ h => h) (Or.inr ⟨by rfl, rfl⟩) hHeld ?_
      simp only [List.setIfInBounds_toArray, List.set_cons_zero, List.set_cons_succ]
      refine take_d 18 28 undef _ rfl rfl (by kernel_rfl) (by kernel_rfl) (by kernel_rfl) (fun _ _ _ h => h) (Or.inr ⟨by rfl, rfl⟩) hHeld ?_
      simp only [List.setIfInBounds_toArray, List.set_cons_zero, List.set_cons_succ]
      refine take_d 19 29 undef _ rfl rfl (by kernel_rfl) (by kernel_rfl) (by kernel_rfl) (fun _ _ _ h => h) (Or.inr ⟨by rfl, rfl⟩) hHeld ?_
      simp only [List.setIfInBounds_toArray, List.set_cons_zero, List.set_cons_succ]
      refine take_d 20 30 undef _ rfl rfl (by kernel_rfl) (by kernel_rfl) (by kernel_rfl) (fun _ _ _ h => h) (Or.inr ⟨by rfl, rfl⟩) hHeld ?_
      simp only [List.setIfInBounds_toArray, List.set_cons_zero, List.set_cons_succ]
      refine take_d 21 31 undef _ rfl rfl (by kernel_rfl) (by kernel_rfl) (by kernel_rfl) (fun _ _ _ h => h) (Or.inr ⟨by rfl, rfl⟩) hHeld ?_
      simp only [List.setIfInBounds_toArray, List.set_cons_zero, List.set_cons_succ]
      refine take_d 22 32 undef _ rfl rfl (by kernel_rfl) (by kernel_rfl) (by kernel_rfl) (fun _ _ _ h => h) (Or.inr ⟨by rfl, rfl⟩) hHeld ?_
      simp only [List.setIfInBounds_toArray, List.set_cons_zero, List.set_cons_succ]
      refine take_d 23 33 undef _ rfl rfl (by kernel_rfl) (by kernel_rfl) (by kernel_rfl) (fun _ _ _ h => h) (Or.inr ⟨by rfl, rfl⟩) hHeld ?_
      simp only [List.setIfInBounds_toArray, List.set_cons_zero, List.set_cons_succ]
      refine take_d 24 34 (.bool false) _ rfl rfl (by kernel_rfl) (by kernel_rfl) (by kernel_rfl) (fun _ _ _ h => h) (Or.inl ⟨by rfl, fun w' hSw => ?_⟩) hHeld ?_
      · go_simp
      simp only [List.setIfInBounds_toArray, List.set_cons_zero, List.set_cons_succ]
      refine wpAnyH_done (by kernel_rfl) ?_ _
      have hR1 := HRr.out.drew.on hb
      have hF1 : Fr n₀ rb w w1 := HF.out.trans (Fr.of_below ((bdrew wr 1).trans (hb : Below wr.heap.size wr.drew w1)))
      have c1 := hR1.c1
      rw [hps] at c1
      have HR1 := Lib.hid hR1
      clear hR1 hb hHeld
      by_cases hj0 : 0 < j
      · have q1 : (σ.pos : Int) < ((σ.pos + j : Nat) : Int) := by omega
        by_cases hn : numJ σ.t j ≤ 64
        · have q2 : ((numJ σ.t j : Nat) : Int) ≤ 64 := by omega
          go_wp2
          go_ret2
          exact ⟨ret_int_bool (by rw [HX.out.2.1]) (by rw [HX.out.2.2]; simp [hj0, hn]), by rw [HX.out.1]; exact HR1.out, hF1⟩
        · have q2 : ¬ ((numJ σ.t j : Nat) : Int) ≤ 64 := by omega
          go_wp2
          go_ret2
          exact ⟨ret_int_bool (by rw [HX.out.2.1]) (by rw [HX.out.2.2]; simp [hj0, hn]), by rw [HX.out.1]; exact HR1.out, hF1⟩
      · have q1 : ¬ (σ.pos : Int) < ((σ.pos + j : Nat) : Int) := by omega
        go_wp2
        go_ret2
        exact ⟨ret_int_bool (by rw [HX.out.2.1]) (by rw [HX.out.2.2]; simp [hj0]), by rw [HX.out.1]; exact HR1.out, hF1⟩
    · rw [decide_eq_false hend] at HE
      by_cases hj2 : j = 2
      · subst hj2
        have HX := Lib.hid (num_exit hj hdj (.inl rfl))
        have HC1 := Lib.hid (fun W (hW : Rd n₀ rb tb cap s W (σ.adv 2) d fc fa bv) => show W.cell? ⟨rb, 1, none⟩ = some (.int .i64 ((σ.pos : Int) + 2)) from hW.c1)
        have hc1 := HC1.out _ HRr.out.drew
        have hw2 : IntKind.i64.wrap ((σ.pos : Int) + 2) = (σ.pos : Int) + 2 := IntWalk.i64_in _ (by omega)
        clear hRr hFr hdj cc1 ff1 hps
        go_wp2_with fail
        refine wp_region_held_drew (S := fun W => W.cell? ⟨rb, 1, none⟩ = some (.int .i64 ((σ.pos : Int) + 2))) (by kernel_rfl) hc1 (fun hHeld => ?_)
        refine take_d 0 10 (.pointer (some ⟨rb, 0, none⟩)) _ rfl rfl (by kernel_rfl) (by kernel_rfl) (by kernel_rfl) (fun _ _ _ h => h) (Or.inl ⟨by rfl, fun w' hSw => ?_⟩) hHeld ?_
        · go_simp
        simp only [List.setIfInBounds_toArray, List.set_cons_zero, List.set_cons_succ]
        refine wpAnyH_ready (rs := [1]) (by kernel_rfl) (by simp) ?_
        refine AllReadyH.cons rfl (fun K hK => ?_) AllReadyH.nil
        go_simp
        refine (HE.out _ HRr.out.drew).mono ?_
        rintro e w1 ⟨rfl, hb⟩
        refine hK.out _ _ ((HC1.out _ (HRr.out.drew.on hb))) (fun hHeld => ?_)
        clear hK K
        refine take_d 2 12 (.bool true) _ rfl rfl (by kernel_rfl) (by kernel_rfl) (by kernel_rfl) (fun _ _ _ h => h) (Or.inl ⟨by rfl, fun w' hSw => ?_⟩) hHeld ?_
        · go_simp
        simp only [List.setIfInBounds_toArray, List.set_cons_zero, List.set_cons_succ]
        refine take_d 3 13 (.bool true) _ rfl rfl (by kernel_rfl) (by kernel_rfl) (by kernel_rfl) (fun _ _ _ h => h) (Or.inl ⟨by rfl, fun w' hSw => ?_⟩) hHeld ?_
        · go_simp
        simp only [List.setIfInBounds_toArray, List.set_cons_zero, List.set_cons_succ]
        refine take_d 4 14 (.pointer (some ⟨rb, 0, none⟩)) _ rfl rfl (by kernel_rfl) (by kernel_rfl) (by kernel_rfl) (fun _ _ _ h => h) (Or.inl ⟨by rfl, fun w' hSw => ?_⟩) hHeld ?_
        · go_simp
        simp only [List.setIfInBounds_toArray, List.set_cons_zero, List.set_cons_succ]
        refine take_d 5 15 (.pointer (some ⟨rb, 0, none⟩)) _ rfl rfl (by kernel_rfl) (by kernel_rfl) (by kernel_rfl) (fun _ _ _ h => h) (Or.inl ⟨by rfl, fun w' hSw => ?_⟩) hHeld ?_
        · go_simp
        simp only [List.setIfInBounds_toArray, List.set_cons_zero, List.set_cons_succ]
        refine take_d 6 16 (.pointer (some ⟨rb, 1, none⟩)) _ rfl rfl (by kernel_rfl) (by kernel_rfl) (by kernel_rfl) (fun _ _ _ h => h) (Or.inl ⟨by rfl, fun w' hSw => ?_⟩) hHeld ?_
        · go_simp
        simp only [List.setIfInBounds_toArray, List.set_cons_zero, List.set_cons_succ]
        refine take_d 7 17 (.int .i64 ((σ.pos : Int) + 2)) _ rfl rfl (by kernel_rfl) (by kernel_rfl) (by kernel_rfl) (fun _ _ _ h => h) (Or.inl ⟨by rfl, fun w' hSw => ?_⟩) hHeld ?_
        · go_simp
        simp only [List.setIfInBounds_toArray, List.set_cons_zero, List.set_cons_succ]
        refine take_d 8 18 (.int .i64 (σ.pos : Int)) _ rfl rfl (by kernel_rfl) (by kernel_rfl) (by kernel_rfl) (fun _ _ _ h => h) (Or.inl ⟨by rfl, fun w' hSw => ?_⟩) hHeld ?_
        · go_simp
        simp only [List.setIfInBounds_toArray, List.set_cons_zero, List.set_cons_succ]
        refine take_d 9 19 (.int .i64 ((σ.pos : Int) + 2)) _ rfl rfl (by kernel_rfl) (by kernel_rfl) (by kernel_rfl) (fun _ _ _ h => h) (Or.inl ⟨by rfl, fun w' hSw => ?_⟩) hHeld ?_
        · go_simp
        simp only [List.setIfInBounds_toArray, List.set_cons_zero, List.set_cons_succ]
        refine take_d 10 20 (.bool false) _ rfl rfl (by kernel_rfl) (by kernel_rfl) (by kernel_rfl) (fun _ _ _ h => h) (Or.inl ⟨by rfl, fun w' hSw => ?_⟩) hHeld ?_
        · go_simp
        simp only [List.setIfInBounds_toArray, List.set_cons_zero, List.set_cons_succ]
        refine take_d 11 21 (.bool false) _ rfl rfl (by kernel_rfl) (by kernel_rfl) (by kernel_rfl) (fun _ _ _ h => h) (Or.inl ⟨by rfl, fun w' hSw => ?_⟩) hHeld ?_
        · go_simp
        simp only [List.setIfInBounds_toArray, List.set_cons_zero, List.set_cons_succ]
        refine take_d 12 22 (.bool false) _ rfl rfl (by kernel_rfl) (by kernel_rfl) (by kernel_rfl) (fun _ _ _ h => h) (Or.inl ⟨by rfl, fun w' hSw => ?_⟩) hHeld ?_
        · go_simp
        simp only [List.setIfInBounds_toArray, List.set_cons_zero, List.set_cons_succ]
        refine take_d 13 23 undef _ rfl rfl (by kernel_rfl) (by kernel_rfl) (by kernel_rfl) (fun _ _ _ h => h) (Or.inr ⟨by rfl, rfl⟩) hHeld ?_
        simp only [List.setIfInBounds_toArray, List.set_cons_zero, List.set_cons_succ]
        refine take_d 14 24 undef _ rfl rfl (by kernel_rfl) (by kernel_rfl) (by kernel_rfl) (fun _ _ _ h => h) (Or.inr ⟨by rfl, rfl⟩) hHeld ?_
        simp only [List.setIfInBounds_toArray, List.set_cons_zero, List.set_cons_succ]
        refine take_d 15 25 undef _ rfl rfl (by kernel_rfl) (by kernel_rfl) (by kernel_rfl) (fun _ _ _ h => h) (Or.inr ⟨by rfl, rfl⟩) hHeld ?_
        simp only [List.setIfInBounds_toArray, List.set_cons_zero, List.set_cons_succ]
        refine take_d 16 26 undef _ rfl rfl (by kernel_rfl) (by kernel_rfl) (by kernel_rfl) (fun _ _ _ h => h) (Or.inr ⟨by rfl, rfl⟩) hHeld ?_
        simp only [List.setIfInBounds_toArray, List.set_cons_zero, List.set_cons_succ]
        refine take_d 17 27 undef _ rfl rfl (by kernel_rfl) (by kernel_rfl) (by kernel_rfl) (fun _ _ _ h => h) (Or.inr ⟨by rfl, rfl⟩) hHeld ?_
        simp only [List.setIfInBounds_toArray, List.set_cons_zero, List.set_cons_succ]
        refine take_d 18 28 undef _ rfl rfl (by kernel_rfl) (by kernel_rfl) (by kernel_rfl) (fun _ _ _ h => h) (Or.inr ⟨by rfl, rfl⟩) hHeld ?_
        simp only [List.setIfInBounds_toArray, List.set_cons_zero, List.set_cons_succ]
        refine take_d 19 29 undef _ rfl rfl (by kernel_rfl) (by kernel_rfl) (by kernel_rfl) (fun _ _ _ h => h) (Or.inr ⟨by rfl, rfl⟩) hHeld ?_
        simp only [List.setIfInBounds_toArray, List.set_cons_zero, List.set_cons_succ]
        refine take_d 20 30 undef _ rfl rfl (by kernel_rfl) (by kernel_rfl) (by kernel_rfl) (fun _ _ _ h => h) (Or.inr ⟨by rfl, rfl⟩) hHeld ?_
        simp only [List.setIfInBounds_toArray, List.set_cons_zero, List.set_cons_succ]
        refine take_d 21 31 undef _ rfl rfl (by kernel_rfl) (by kernel_rfl) (by kernel_rfl) (fun _ _ _ h => h) (Or.inr ⟨by rfl, rfl⟩) hHeld ?_
        simp only [List.setIfInBounds_toArray, List.set_cons_zero, List.set_cons_succ]
        refine take_d 22 32 undef _ rfl rfl (by kernel_rfl) (by kernel_rfl) (by kernel_rfl) (fun _ _ _ h => h) (Or.inr ⟨by rfl, rfl⟩) hHeld ?_
        simp only [List.setIfInBounds_toArray, List.set_cons_zero, List.set_cons_succ]
        refine take_d 23 33 undef _ rfl rfl (by kernel_rfl) (by kernel_rfl) (by kernel_rfl) (fun _ _ _ h => h) (Or.inr ⟨by rfl, rfl⟩) hHeld ?_
        simp only [List.setIfInBounds_toArray, List.set_cons_zero, List.set_cons_succ]
        refine take_d 24 34 (.bool false) _ rfl rfl (by kernel_rfl) (by kernel_rfl) (by kernel_rfl) (fun _ _ _ h => h) (Or.inl ⟨by rfl, fun w' hSw => ?_⟩) hHeld ?_
        · go_simp
        simp only [List.setIfInBounds_toArray, List.set_cons_zero, List.set_cons_succ]
        refine wpAnyH_done (by kernel_rfl) ?_ _
        have hR1 := HRr.out.drew.on hb
        have hF1 : Fr n₀ rb w w1 := HF.out.trans (Fr.of_below ((bdrew wr 1).trans (hb : Below wr.heap.size wr.drew w1)))
        have c1 := HC1.out _ hR1
        have HR1 := Lib.hid hR1
        clear hR1 hb hHeld hc1
        have q1 : (σ.pos : Int) < (σ.pos : Int) + 2 := by omega
        by_cases hn : numJ σ.t 2 ≤ 64
        · have q2 : ((numJ σ.t 2 : Nat) : Int) ≤ 64 := by omega
          go_wp2
          go_ret2
          exact ⟨ret_int_bool (by rw [HX.out.2.1]) (by rw [HX.out.2.2]; simp [hn]), by rw [HX.out.1]; exact HR1.out, hF1⟩
        · have q2 : ¬ ((numJ σ.t 2 : Nat) : Int) ≤ 64 := by omega
          go_wp2
          go_ret2
          exact ⟨ret_int_bool (by rw [HX.out.2.1]) (by rw [HX.out.2.2]; simp [hn]), by rw [HX.out.1]; exact HR1.out, hF1⟩
      · have hjl2 : j < 2 := by omega
        have hlt2 : ((σ.pos + j : Nat) : Int) < (σ.pos : Int) + 2 := by omega
        have hw2 : IntKind.i64.wrap ((σ.pos : Int) + 2) = (σ.pos : Int) + 2 := IntWalk.i64_in _ (by omega)
        have hjs : σ.pos + j < s.length := by omega
        have hi1 : ((σ.pos + j : Nat) : Int) < (s.length : Int) := by omega
        have hj1 : j + 1 ≤ σ.t.length := by omega
        have hx := at_lt σ.t j
        have HCT := Lib.hid (fun W (hW : Rd n₀ rb tb cap s W (σ.adv j) d fc fa bv) => show W.cell? ⟨tb, σ.pos + j, none⟩ = some (.int .u8 ((at_ σ.t j : Nat) : Int)) by
          have h := hW.at_ (j := 0) (by rw [adv_len]; omega)
          rw [Nat.zero_add, Nat.add_zero] at h
          rw [show at_ (σ.adv j).t 0 = at_ σ.t j by simp only [St.adv, at_drop, Nat.add_zero]] at h
          exact h)
        have HDI := Lib.hid (isDigit_any (at_ σ.t j))
        have HNE := Lib.hid (fun (h : dig (at_ σ.t j) = false) => num_exit hj hdj (.inr h))
        have HDD := Lib.hid (fun (h : dig (at_ σ.t j) = true) => (show digsJ σ.t (j + 1) ∧ ((numJ σ.t (j + 1) : Nat) : Int) = 10 * ((numJ σ.t j : Nat) : Int) + ((at_ σ.t j : Int) - 48) ∧ 48 ≤ at_ σ.t j ∧ at_ σ.t j ≤ 57 by
          have hr := (dig_iff _).1 h
          have hj' : j = 0 ∨ j = 1 := by omega
          rcases hj' with rfl | rfl
          · refine ⟨⟨fun _ => h, fun q => by omega⟩, ?_, hr⟩
            simp [numJ]
            omega
          · refine ⟨⟨fun _ => hdj.1 (by omega), fun _ => h⟩, ?_, hr⟩
            simp [numJ]
            omega))
        obtain ⟨x, hxx⟩ : ∃ x, x = at_ σ.t j := ⟨_, rfl⟩
        obtain ⟨nn, hnn⟩ : ∃ nn, nn = numJ σ.t j := ⟨_, rfl⟩
        obtain ⟨p, hp⟩ : ∃ p, p = σ.pos + j := ⟨_, rfl⟩
        rw [← hxx] at hx HCT HDI HNE HDD
        rw [← hnn] at HNE HDD hnj ⊢
        rw [hps, ← hp] at cc1
        rw [← hp] at hlt2 hi1 hjs HCT
        have cc0 := hRr.c0
        have cct := HCT.out _ hRr
        have HRF := Lib.hid (fun W (hW : Rd n₀ rb tb cap s W (σ.adv j) d fc fa bv) => show W.cell? ⟨rb, 0, none⟩ = some (.slice (some ⟨tb, 0, none⟩) s.length cap) ∧ W.cell? ⟨rb, 1, none⟩ = some (.int .i64 (p : Nat)) ∧ W.cell? ⟨tb, p, none⟩ = some (.int .u8 (x : Nat)) from ⟨hW.c0, by rw [hp]; exact hW.c1, HCT.out _ hW⟩)
        have HP := Lib.hid hp
        have HNN := Lib.hid hnn
        clear hRr hFr hdj hps hxx hp hnn hend hj2
        cases hdx : dig x with
        | false =>
          rw [hdx] at HDI
          have HX := Lib.hid (HNE.out hdx)
          clear hdx HNE HDD
          go_wp2_with fail
          go_region_held3 (fun W => W.cell? ⟨rb, 0, none⟩ = some (.slice (some ⟨tb, 0, none⟩) s.length cap) ∧ W.cell? ⟨rb, 1, none⟩ = some (.int .i64 (p : Nat)) ∧ W.cell? ⟨tb, p, none⟩ = some (.int .u8 (x : Nat))) (go_keep)
            (first | (go_at_call 77; refine (HE.out _ HRr.out.drew).mono ?_; rintro e w1 ⟨rfl, hb⟩; obtain ⟨k0, k1, kt⟩ := HRF.out _ (HRr.out.drew.on hb)) | (go_at_call 176; refine (HDI.out _).mono ?_; rintro e w2 ⟨rfl, rfl⟩))
          have HR1 := Lib.hid (HRr.out.drew.on hb)
          have hF1 : Fr n₀ rb w w1 := HF.out.trans (Fr.of_below ((bdrew wr 1).trans (hb : Below wr.heap.size wr.drew w1)))
          clear hb
          by_cases hj0 : 0 < j
          · have q1 : (σ.pos : Int) < (p : Int) := by rw [HP.out]; omega
            by_cases hn : nn ≤ 64
            · have q2 : (nn : Int) ≤ 64 := by omega
              go_wp2
              go_ret2
              exact ⟨ret_int_bool (by rw [HX.out.2.1, HNN.out]) (by rw [HX.out.2.2]; simp [hj0, hn]), by rw [HX.out.1]; exact HR1.out, hF1⟩
            · have q2 : ¬ (nn : Int) ≤ 64 := by omega
              go_wp2
              go_ret2
              exact ⟨ret_int_bool (by rw [HX.out.2.1, HNN.out]) (by rw [HX.out.2.2]; simp [hj0, hn]), by rw [HX.out.1]; exact HR1.out, hF1⟩
          · have q1 : ¬ (σ.pos : Int) < (p : Int) := by rw [HP.out]; omega
            go_wp2
            go_ret2
            exact ⟨ret_int_bool (by rw [HX.out.2.1, HNN.out]) (by rw [HX.out.2.2]; simp [hj0]), by rw [HX.out.1]; exact HR1.out, hF1⟩
        | true =>
          rw [hdx] at HDI
          have HX := Lib.hid (HDD.out hdx)
          obtain ⟨_, _, x1, x2⟩ := HDD.out hdx
          clear hdx HNE HDD
          have y1 : (48 : Int) ≤ (x : Int) := by omega
          have y2 : (x : Int) ≤ 57 := by omega
          go_wp2_with fail
          go_region_held3 (fun W => W.cell? ⟨rb, 0, none⟩ = some (.slice (some ⟨tb, 0, none⟩) s.length cap) ∧ W.cell? ⟨rb, 1, none⟩ = some (.int .i64 (p : Nat)) ∧ W.cell? ⟨tb, p, none⟩ = some (.int .u8 (x : Nat))) (go_keep)
            (first | (go_at_call 77; refine (HE.out _ HRr.out.drew).mono ?_; rintro e w1 ⟨rfl, hb⟩; obtain ⟨k0, k1, kt⟩ := HRF.out _ (HRr.out.drew.on hb)) | (go_at_call 176; refine (HDI.out _).mono ?_; rintro e w2 ⟨rfl, rfl⟩))
          have hR1 := HRr.out.drew.on hb
          have f1 := hR1.fz 1
          have HR1 := Lib.hid hR1
          have hF1 : Fr n₀ rb w w1 := HF.out.trans (Fr.of_below ((bdrew wr 1).trans (hb : Below wr.heap.size wr.drew w1)))
          clear hb hR1
          go_wp2
          go_quiet (fail)
          go_wp2
          go_roundg (gk - 1)
          case measure => omega
          case rel =>
            have hst := (HR1.out.drewN nq).step' (n := 1) (by rw [adv_len]; omega)
            rw [adv_adv, show (σ.adv j).pos = p from HP.out.symm] at hst
            exact ⟨j + 1, by omega, by omega, hj1, HX.out.1, by rw [HX.out.2.1], hst, (HR1.out.drewN nq).below_set (hF1.drewN nq) _ _⟩

end Go.Proofs.YtefgobmpleoafaaGreatDoor

/- Quantifiers and opening parentheses, as contracts. -/
namespace Go.Proofs.YtefgobmpleoafaaGreatDoor
open Go.RowKit
variable {n₀ rb tb cap d : Nat} {s : List UInt8} {w w' : World} {σ σ1 : St} {fc fa : Int} {bv v : Value}

theorem take1_yes (c : UInt8) (h0 : c ≠ 0) (h : at_ σ.t 0 = c.toNat) (hR : Rd n₀ rb tb cap s w σ d fc fa bv) :
    Calls Tryz.prog 75 #[.pointer (some ⟨rb, 0, none⟩), .string ⟨[c].toArray⟩] w fun e w' => e = .returned (.bool true) ∧ Rd n₀ rb tb cap s w' (σ.adv 1) d fc fa bv ∧ Fr n₀ rb w w' :=
  take_yes [c] (by rw [pre_one c _ h0]; simpa using h) hR
theorem take1_no (c : UInt8) (h0 : c ≠ 0) (h : ¬ at_ σ.t 0 = c.toNat) (hR : Rd n₀ rb tb cap s w σ d fc fa bv) :
    Calls Tryz.prog 75 #[.pointer (some ⟨rb, 0, none⟩), .string ⟨[c].toArray⟩] w fun e w' => e = .returned (.bool false) ∧ Below w.heap.size w w' :=
  take_no [c] (by rw [pre_one c _ h0]; simpa using h) hR

/-- What a call that reads a quantifier leaves. -/
def QPost (n₀ rb tb cap : Nat) (s : List UInt8) (d : Nat) (fc fa : Int) (bv : Value) (w : World) (r : Option ((Int × Int) × St)) (e : Ending) (w' : World) : Prop :=
  match r with
  | some x => e = .returned (.tuple #[.int .i64 x.1.1, .int .i64 x.1.2, .bool true]) ∧ Rd n₀ rb tb cap s w' x.2 d fc fa bv ∧ Fr n₀ rb w w'
  | none => e = .returned (.tuple #[.int .i64 0, .int .i64 0, .bool false]) ∧ (∃ σ', Rd n₀ rb tb cap s w' σ' d fc fa bv) ∧ Fr n₀ rb w w'

theorem quant_seen (hR : Rd n₀ rb tb cap s w σ d fc fa bv) :
    Calls Tryz.prog 130 #[.pointer (some ⟨rb, 0, none⟩)] w fun e w' => e = .returned (.bool (isQ (at_ σ.t 0))) ∧ Below w.heap.size w w' := by
  have HR := Lib.hid hR
  by_cases h0 : at_ σ.t 0 = 42
  · have H0 := Lib.hid (fun W (hW : Rd n₀ rb tb cap s W σ d fc fa bv) => sees_one 42 true (by decide) (by simp [h0]) hW)
    have hq : isQ (at_ σ.t 0) = true := by rw [h0]; decide
    rw [hq]
    clear hR hq h0
    go_enter Tryz.func130, Tryz.ntmps130
    go_wp2_with fail
    refine (H0.out _ HR.out).mono ?_
    rintro e w1 ⟨rfl, hb1⟩
    have hR1 := Lib.hid (HR.out.on hb1)
    have hbb := hb1
    go_wp2
    go_ret
    exact ⟨rfl, hbb⟩
  · have H0 := Lib.hid (fun W (hW : Rd n₀ rb tb cap s W σ d fc fa bv) => sees_one 42 false (by decide) (by simp [h0]) hW)
    by_cases h1 : at_ σ.t 0 = 43
    · have H1 := Lib.hid (fun W (hW : Rd n₀ rb tb cap s W σ d fc fa bv) => sees_one 43 true (by decide) (by simp [h1]) hW)
      have hq : isQ (at_ σ.t 0) = true := by rw [h1]; decide
      rw [hq]
      clear hR hq h0 h1
      go_enter Tryz.func130, Tryz.ntmps130
      go_wp2_with fail
      refine (H0.out _ HR.out).mono ?_
      rintro e w1 ⟨rfl, hb1⟩
      have hR1 := Lib.hid (HR.out.on hb1)
      have hbb := hb1
      go_wp2_with fail
      refine (H1.out _ hR1.out).mono ?_
      rintro e w2 ⟨rfl, hb2⟩
      have hR2 := Lib.hid (hR1.out.on hb2)
      replace hbb := hbb.trans (hb2.mono hbb.size)
      go_wp2
      go_ret
      exact ⟨rfl, hbb⟩
    · have H1 := Lib.hid (fun W (hW : Rd n₀ rb tb cap s W σ d fc fa bv) => sees_one 43 false (by decide) (by simp [h1]) hW)
      by_cases h2 : at_ σ.t 0 = 63
      · have H2 := Lib.hid (fun W (hW : Rd n₀ rb tb cap s W σ d fc fa bv) => sees_one 63 true (by decide) (by simp [h2]) hW)
        have hq : isQ (at_ σ.t 0) = true := by rw [h2]; decide
        rw [hq]
        clear hR hq h0 h1 h2
        go_enter Tryz.func130, Tryz.ntmps130
        go_wp2_with fail
        refine (H0.out _ HR.out).mono ?_
        rintro e w1 ⟨rfl, hb1⟩
        have hR1 := Lib.hid (HR.out.on hb1)
        have hbb := hb1
        go_wp2_with fail
        refine (H1.out _ hR1.out).mono ?_
        rintro e w2 ⟨rfl, hb2⟩
        have hR2 := Lib.hid (hR1.out.on hb2)
        replace hbb := hbb.trans (hb2.mono hbb.size)
        go_wp2_with fail
        refine (H2.out _ hR2.out).mono ?_
        rintro e w3 ⟨rfl, hb3⟩
        have hR3 := Lib.hid (hR2.out.on hb3)
        replace hbb := hbb.trans (hb3.mono hbb.size)
        go_wp2
        go_ret
        exact ⟨rfl, hbb⟩
      · have H2 := Lib.hid (fun W (hW : Rd n₀ rb tb cap s W σ d fc fa bv) => sees_one 63 false (by decide) (by simp [h2]) hW)
        by_cases h3 : at_ σ.t 0 = 123
        · have H3 := Lib.hid (fun W (hW : Rd n₀ rb tb cap s W σ d fc fa bv) => sees_one 123 true (by decide) (by simp [h3]) hW)
          have hq : isQ (at_ σ.t 0) = true := by rw [h3]; decide
          rw [hq]
          clear hR hq h0 h1 h2 h3
          go_enter Tryz.func130, Tryz.ntmps130
          go_wp2_with fail
          refine (H0.out _ HR.out).mono ?_
          rintro e w1 ⟨rfl, hb1⟩
          have hR1 := Lib.hid (HR.out.on hb1)
          have hbb := hb1
          go_wp2_with fail
          refine (H1.out _ hR1.out).mono ?_
          rintro e w2 ⟨rfl, hb2⟩
          have hR2 := Lib.hid (hR1.out.on hb2)
          replace hbb := hbb.trans (hb2.mono hbb.size)
          go_wp2_with fail
          refine (H2.out _ hR2.out).mono ?_
          rintro e w3 ⟨rfl, hb3⟩
          have hR3 := Lib.hid (hR2.out.on hb3)
          replace hbb := hbb.trans (hb3.mono hbb.size)
          go_wp2_with fail
          refine (H3.out _ hR3.out).mono ?_
          rintro e w4 ⟨rfl, hb4⟩
          have hR4 := Lib.hid (hR3.out.on hb4)
          replace hbb := hbb.trans (hb4.mono hbb.size)
          go_wp2
          go_ret
          exact ⟨rfl, hbb⟩
        · have H3 := Lib.hid (fun W (hW : Rd n₀ rb tb cap s W σ d fc fa bv) => sees_one 123 false (by decide) (by simp [h3]) hW)
          have hq : isQ (at_ σ.t 0) = false := by simp [isQ, h0, h1, h2, h3]
          rw [hq]
          clear hR hq h0 h1 h2 h3
          go_enter Tryz.func130, Tryz.ntmps130
          go_wp2_with fail
          refine (H0.out _ HR.out).mono ?_
          rintro e w1 ⟨rfl, hb1⟩
          have hR1 := Lib.hid (HR.out.on hb1)
          have hbb := hb1
          go_wp2_with fail
          refine (H1.out _ hR1.out).mono ?_
          rintro e w2 ⟨rfl, hb2⟩
          have hR2 := Lib.hid (hR1.out.on hb2)
          replace hbb := hbb.trans (hb2.mono hbb.size)
          go_wp2_with fail
          refine (H2.out _ hR2.out).mono ?_
          rintro e w3 ⟨rfl, hb3⟩
          have hR3 := Lib.hid (hR2.out.on hb3)
          replace hbb := hbb.trans (hb3.mono hbb.size)
          go_wp2_with fail
          refine (H3.out _ hR3.out).mono ?_
          rintro e w4 ⟨rfl, hb4⟩
          have hR4 := Lib.hid (hR3.out.on hb4)
          replace hbb := hbb.trans (hb4.mono hbb.size)
          go_wp2
          go_ret
          exact ⟨rfl, hbb⟩

theorem mode_any (hR : Rd n₀ rb tb cap s w σ d fc fa bv) :
    Calls Tryz.prog 132 #[.pointer (some ⟨rb, 0, none⟩)] w fun e w' => e = .returned (.int .i64 (modeOf σ.t : Nat)) ∧ Rd n₀ rb tb cap s w' (behindMode σ) d fc fa bv ∧ Fr n₀ rb w w' := by
  have HR := Lib.hid hR
  by_cases h1 : at_ σ.t 0 = 63
  · have e1 : modeOf σ.t = 1 := by unfold modeOf; rw [if_pos h1]
    have e2 : behindMode σ = σ.adv 1 := by unfold behindMode; rw [e1]; rfl
    have H := Lib.hid (take1_yes 63 (by decide) (by simpa using h1) hR)
    rw [e1, e2]
    clear hR h1 e1 e2
    go_enter Tryz.func132, Tryz.ntmps132
    go_wp2_with fail
    refine H.out.mono ?_
    rintro e w1 ⟨rfl, hR1, hF1⟩
    have HR1 := Lib.hid hR1
    clear hR1
    go_wp2
    go_ret
    exact ⟨rfl, HR1.out, hF1⟩
  · have H := Lib.hid (take1_no 63 (by decide) (by simpa using h1) hR)
    by_cases h2 : at_ σ.t 0 = 43
    · have e1 : modeOf σ.t = 2 := by unfold modeOf; rw [if_neg h1, if_pos h2]
      have e2 : behindMode σ = σ.adv 1 := by unfold behindMode; rw [e1]; rfl
      have H2 := Lib.hid (fun W (hW : Rd n₀ rb tb cap s W σ d fc fa bv) => take1_yes 43 (by decide) (by simpa using h2) hW)
      rw [e1, e2]
      clear hR h1 h2 e1 e2
      go_enter Tryz.func132, Tryz.ntmps132
      go_wp2_with fail
      refine H.out.mono ?_
      rintro e w1 ⟨rfl, hb1⟩
      go_wp2_with fail
      refine (H2.out _ (HR.out.on hb1)).mono ?_
      rintro e w2 ⟨rfl, hR2, hF2⟩
      have HR2 := Lib.hid hR2
      clear hR2
      go_wp2
      go_ret
      exact ⟨rfl, HR2.out, (Fr.of_below hb1).trans hF2⟩
    · have e1 : modeOf σ.t = 0 := by unfold modeOf; rw [if_neg h1, if_neg h2]
      have e2 : behindMode σ = σ := by unfold behindMode; rw [e1]; rfl
      have H2 := Lib.hid (fun W (hW : Rd n₀ rb tb cap s W σ d fc fa bv) => take1_no 43 (by decide) (by simpa using h2) hW)
      rw [e1, e2]
      clear hR h1 h2 e1 e2
      go_enter Tryz.func132, Tryz.ntmps132
      go_wp2_with fail
      refine H.out.mono ?_
      rintro e w1 ⟨rfl, hb1⟩
      go_wp2_with fail
      refine (H2.out _ (HR.out.on hb1)).mono ?_
      rintro e w2 ⟨rfl, hb2⟩
      go_wp2
      go_ret
      exact ⟨rfl, (HR.out.on hb1).on hb2, (Fr.of_below hb1).trans (Fr.of_below hb2)⟩

theorem numJ_max (t : List UInt8) : numOf t ≤ 99 := by
  unfold numOf
  split
  · rename_i h
    have := (dig_iff _).1 h
    split
    · rename_i h2
      have := (dig_iff _).1 h2
      omega
    · omega
  · omega

set_option maxRecDepth 100000 in
set_option maxHeartbeats 4000000 in
theorem braces_any (hc : at_ σ.t 0 = 123) (hR : Rd n₀ rb tb cap s w σ d fc fa bv) : Calls Tryz.prog 146 #[.pointer (some ⟨rb, 0, none⟩)] w (QPost n₀ rb tb cap s d fc fa bv w (braces σ)) := by
  have HT := Lib.hid (take1_yes 123 (by decide) (by simpa using hc) hR)
  obtain ⟨r, hr⟩ : ∃ r, r = braces σ := ⟨_, rfl⟩
  have hb := hr
  unfold braces at hb
  rw [← hr]
  have HC := Lib.hid (fun W (hW : Rd n₀ rb tb cap s W (σ.adv 1) d fc fa bv) => count_any hW)
  obtain ⟨σ1, hσ1⟩ : ∃ σ1, σ1 = σ.adv 1 := ⟨_, rfl⟩
  rw [← hσ1] at hb HC HT
  have hlo := numJ_max σ1.t
  obtain ⟨lo, hlo'⟩ : ∃ lo, lo = numOf σ1.t := ⟨_, rfl⟩
  obtain ⟨σ2, hσ2⟩ : ∃ σ2, σ2 = σ1.adv (numLen σ1.t) := ⟨_, rfl⟩
  rw [← hσ2, ← hlo'] at hb HC
  rw [← hlo'] at hlo
  have HB := Lib.hid hb
  clear hb hr hR hc hσ1 hlo' hσ2
  cases hok : numOk σ1.t with
  | false =>
    rw [hok] at HC
    have hb := HB.out
    rw [if_neg (by rw [hok]; decide)] at hb
    subst hb
    clear HB hok
    go_enter Tryz.func146, Tryz.ntmps146
    go_wp2_with fail
    refine HT.out.mono ?_
    rintro e w1 ⟨rfl, hR1, hF1⟩
    have hR1' := Lib.hid hR1
    clear hR1
    go_wp2_with fail
    refine (HC.out _ hR1'.out).mono ?_
    rintro e w2 ⟨rfl, hR2, hF2⟩
    have HR2 := Lib.hid hR2
    clear hR2
    go_wp2
    go_ret3
    exact ⟨rfl, ⟨_, HR2.out⟩, hF1.trans hF2⟩
  | true =>
    rw [hok] at HC
    have hb := HB.out
    rw [if_pos hok] at hb
    clear HB hok
    cases hce : pre [44, 125] σ2.t with
    | true =>
      have HT2 := Lib.hid (fun W (hW : Rd n₀ rb tb cap s W σ2 d fc fa bv) => take_yes [44, 125] hce hW)
      rw [if_pos hce] at hb
      subst hb
      clear hce
      go_enter Tryz.func146, Tryz.ntmps146
      go_wp2_with fail
      refine HT.out.mono ?_
      rintro e w1 ⟨rfl, hR1, hF1⟩
      have hR1' := Lib.hid hR1
      clear hR1
      go_wp2_with fail
      refine (HC.out _ hR1'.out).mono ?_
      rintro e w2 ⟨rfl, hR2, hF2⟩
      have HR2 := Lib.hid hR2
      clear hR2
      go_wp2_with fail
      refine (HT2.out _ HR2.out).mono ?_
      rintro e w3 ⟨rfl, hR3, hF3⟩
      have HR3 : Hid (Rd n₀ rb tb cap s w3 (σ2.adv 2) d fc fa bv) := Lib.hid hR3
      clear hR3
      go_wp2
      go_ret3
      exact ⟨rfl, HR3.out, (hF1.trans hF2).trans hF3⟩
    | false =>
      have HT2 := Lib.hid (fun W (hW : Rd n₀ rb tb cap s W σ2 d fc fa bv) => take_no [44, 125] hce hW)
      rw [if_neg (by rw [hce]; decide)] at hb
      clear hce
      by_cases h44 : at_ σ2.t 0 = 44
      · have HT3 := Lib.hid (fun W (hW : Rd n₀ rb tb cap s W σ2 d fc fa bv) => take1_yes 44 (by decide) (by simpa using h44) hW)
        rw [if_pos h44] at hb
        have HC2 := Lib.hid (fun W (hW : Rd n₀ rb tb cap s W (σ2.adv 1) d fc fa bv) => count_any hW)
        obtain ⟨σ3, hσ3⟩ : ∃ σ3, σ3 = σ2.adv 1 := ⟨_, rfl⟩
        rw [← hσ3] at hb HC2 HT3
        have hhi := numJ_max σ3.t
        obtain ⟨hi, hhi'⟩ : ∃ hi, hi = numOf σ3.t := ⟨_, rfl⟩
        obtain ⟨σ4, hσ4⟩ : ∃ σ4, σ4 = σ3.adv (numLen σ3.t) := ⟨_, rfl⟩
        rw [← hσ4, ← hhi'] at hb HC2
        rw [← hhi'] at hhi
        have HB := Lib.hid hb
        clear hb h44 hσ3 hhi' hσ4
        cases hok2 : numOk σ3.t with
        | false =>
          rw [hok2] at HC2
          have hb := HB.out
          rw [if_neg (by simp [hok2])] at hb
          subst hb
          clear HB hok2
          go_enter Tryz.func146, Tryz.ntmps146
          go_wp2_with fail
          refine HT.out.mono ?_
          rintro e w1 ⟨rfl, hR1, hF1⟩
          have hR1' := Lib.hid hR1
          clear hR1
          go_wp2_with fail
          refine (HC.out _ hR1'.out).mono ?_
          rintro e w2 ⟨rfl, hR2, hF2⟩
          have HR2 := Lib.hid hR2
          clear hR2
          go_wp2_with fail
          refine (HT2.out _ HR2.out).mono ?_
          rintro e w3 ⟨rfl, hb3⟩
          go_wp2_with fail
          refine (HT3.out _ (HR2.out.on hb3)).mono ?_
          rintro e w4 ⟨rfl, hR4, hF4⟩
          have HR4 := Lib.hid hR4
          clear hR4
          go_wp2_with fail
          refine (HC2.out _ HR4.out).mono ?_
          rintro e w5 ⟨rfl, hR5, hF5⟩
          have HR5 := Lib.hid hR5
          clear hR5
          go_wp2
          go_ret3
          exact ⟨rfl, ⟨_, HR5.out⟩, (((hF1.trans hF2).trans (Fr.of_below hb3)).trans hF4).trans hF5⟩
        | true =>
          rw [hok2] at HC2
          by_cases hle : lo ≤ hi
          · have hle' : ¬ (hi : Int) < (lo : Int) := by omega
            by_cases h125 : at_ σ4.t 0 = 125
            · have HT4 := Lib.hid (fun W (hW : Rd n₀ rb tb cap s W σ4 d fc fa bv) => take1_yes 125 (by decide) (by simpa using h125) hW)
              have hb := HB.out
              rw [if_pos (by simp [hok2, hle, h125])] at hb
              subst hb
              clear HB hok2 h125 hle
              go_enter Tryz.func146, Tryz.ntmps146
              go_wp2_with fail
              refine HT.out.mono ?_
              rintro e w1 ⟨rfl, hR1, hF1⟩
              have hR1' := Lib.hid hR1
              clear hR1
              go_wp2_with fail
              refine (HC.out _ hR1'.out).mono ?_
              rintro e w2 ⟨rfl, hR2, hF2⟩
              have HR2 := Lib.hid hR2
              clear hR2
              go_wp2_with fail
              refine (HT2.out _ HR2.out).mono ?_
              rintro e w3 ⟨rfl, hb3⟩
              go_wp2_with fail
              refine (HT3.out _ (HR2.out.on hb3)).mono ?_
              rintro e w4 ⟨rfl, hR4, hF4⟩
              have HR4 := Lib.hid hR4
              clear hR4
              go_wp2_with fail
              refine (HC2.out _ HR4.out).mono ?_
              rintro e w5 ⟨rfl, hR5, hF5⟩
              have HR5 := Lib.hid hR5
              clear hR5
              go_wp2_with fail
              refine (HT4.out _ HR5.out).mono ?_
              rintro e w6 ⟨rfl, hR6, hF6⟩
              have HR6 := Lib.hid hR6
              clear hR6
              go_wp2
              go_ret3
              exact ⟨rfl, HR6.out, ((((hF1.trans hF2).trans (Fr.of_below hb3)).trans hF4).trans hF5).trans hF6⟩
            · have HT4 := Lib.hid (fun W (hW : Rd n₀ rb tb cap s W σ4 d fc fa bv) => take1_no 125 (by decide) (by simpa using h125) hW)
              have hb := HB.out
              rw [if_neg (by simp [hok2, hle, h125])] at hb
              subst hb
              clear HB hok2 h125 hle
              go_enter Tryz.func146, Tryz.ntmps146
              go_wp2_with fail
              refine HT.out.mono ?_
              rintro e w1 ⟨rfl, hR1, hF1⟩
              have hR1' := Lib.hid hR1
              clear hR1
              go_wp2_with fail
              refine (HC.out _ hR1'.out).mono ?_
              rintro e w2 ⟨rfl, hR2, hF2⟩
              have HR2 := Lib.hid hR2
              clear hR2
              go_wp2_with fail
              refine (HT2.out _ HR2.out).mono ?_
              rintro e w3 ⟨rfl, hb3⟩
              go_wp2_with fail
              refine (HT3.out _ (HR2.out.on hb3)).mono ?_
              rintro e w4 ⟨rfl, hR4, hF4⟩
              have HR4 := Lib.hid hR4
              clear hR4
              go_wp2_with fail
              refine (HC2.out _ HR4.out).mono ?_
              rintro e w5 ⟨rfl, hR5, hF5⟩
              have HR5 := Lib.hid hR5
              clear hR5
              go_wp2_with fail
              refine (HT4.out _ HR5.out).mono ?_
              rintro e w6 ⟨rfl, hb6⟩
              go_wp2
              go_ret3
              exact ⟨rfl, ⟨_, HR5.out.on hb6⟩, ((((hF1.trans hF2).trans (Fr.of_below hb3)).trans hF4).trans hF5).trans (Fr.of_below hb6)⟩
          · have hle' : (hi : Int) < (lo : Int) := by omega
            have hb := HB.out
            rw [if_neg (by simp [hok2, hle])] at hb
            subst hb
            clear HB hok2 hle
            go_enter Tryz.func146, Tryz.ntmps146
            go_wp2_with fail
            refine HT.out.mono ?_
            rintro e w1 ⟨rfl, hR1, hF1⟩
            have hR1' := Lib.hid hR1
            clear hR1
            go_wp2_with fail
            refine (HC.out _ hR1'.out).mono ?_
            rintro e w2 ⟨rfl, hR2, hF2⟩
            have HR2 := Lib.hid hR2
            clear hR2
            go_wp2_with fail
            refine (HT2.out _ HR2.out).mono ?_
            rintro e w3 ⟨rfl, hb3⟩
            go_wp2_with fail
            refine (HT3.out _ (HR2.out.on hb3)).mono ?_
            rintro e w4 ⟨rfl, hR4, hF4⟩
            have HR4 := Lib.hid hR4
            clear hR4
            go_wp2_with fail
            refine (HC2.out _ HR4.out).mono ?_
            rintro e w5 ⟨rfl, hR5, hF5⟩
            have HR5 := Lib.hid hR5
            clear hR5
            go_wp2
            go_ret3
            exact ⟨rfl, ⟨_, HR5.out⟩, (((hF1.trans hF2).trans (Fr.of_below hb3)).trans hF4).trans hF5⟩
      · have HT3 := Lib.hid (fun W (hW : Rd n₀ rb tb cap s W σ2 d fc fa bv) => take1_no 44 (by decide) (by simpa using h44) hW)
        rw [if_neg h44] at hb
        have hle' : ¬ (lo : Int) < (lo : Int) := by omega
        by_cases h125 : at_ σ2.t 0 = 125
        · have HT4 := Lib.hid (fun W (hW : Rd n₀ rb tb cap s W σ2 d fc fa bv) => take1_yes 125 (by decide) (by simpa using h125) hW)
          rw [if_pos h125] at hb
          subst hb
          clear h44 h125
          go_enter Tryz.func146, Tryz.ntmps146
          go_wp2_with fail
          refine HT.out.mono ?_
          rintro e w1 ⟨rfl, hR1, hF1⟩
          have hR1' := Lib.hid hR1
          clear hR1
          go_wp2_with fail
          refine (HC.out _ hR1'.out).mono ?_
          rintro e w2 ⟨rfl, hR2, hF2⟩
          have HR2 := Lib.hid hR2
          clear hR2
          go_wp2_with fail
          refine (HT2.out _ HR2.out).mono ?_
          rintro e w3 ⟨rfl, hb3⟩
          go_wp2_with fail
          refine (HT3.out _ (HR2.out.on hb3)).mono ?_
          rintro e w4 ⟨rfl, hb4⟩
          have HR4 := Lib.hid ((HR2.out.on hb3).on hb4)
          go_wp2_with fail
          refine (HT4.out _ HR4.out).mono ?_
          rintro e w6 ⟨rfl, hR6, hF6⟩
          have HR6 := Lib.hid hR6
          clear hR6
          go_wp2
          go_ret3
          exact ⟨rfl, HR6.out, (((hF1.trans hF2).trans (Fr.of_below hb3)).trans (Fr.of_below hb4)).trans hF6⟩
        · have HT4 := Lib.hid (fun W (hW : Rd n₀ rb tb cap s W σ2 d fc fa bv) => take1_no 125 (by decide) (by simpa using h125) hW)
          rw [if_neg h125] at hb
          subst hb
          clear h44 h125
          go_enter Tryz.func146, Tryz.ntmps146
          go_wp2_with fail
          refine HT.out.mono ?_
          rintro e w1 ⟨rfl, hR1, hF1⟩
          have hR1' := Lib.hid hR1
          clear hR1
          go_wp2_with fail
          refine (HC.out _ hR1'.out).mono ?_
          rintro e w2 ⟨rfl, hR2, hF2⟩
          have HR2 := Lib.hid hR2
          clear hR2
          go_wp2_with fail
          refine (HT2.out _ HR2.out).mono ?_
          rintro e w3 ⟨rfl, hb3⟩
          go_wp2_with fail
          refine (HT3.out _ (HR2.out.on hb3)).mono ?_
          rintro e w4 ⟨rfl, hb4⟩
          have HR4 := Lib.hid ((HR2.out.on hb3).on hb4)
          go_wp2_with fail
          refine (HT4.out _ HR4.out).mono ?_
          rintro e w6 ⟨rfl, hb6⟩
          go_wp2
          go_ret3
          exact ⟨rfl, ⟨_, HR4.out.on hb6⟩, (((hF1.trans hF2).trans (Fr.of_below hb3)).trans (Fr.of_below hb4)).trans (Fr.of_below hb6)⟩

theorem times_any (hq : isQ (at_ σ.t 0) = true) (hR : Rd n₀ rb tb cap s w σ d fc fa bv) : Calls Tryz.prog 131 #[.pointer (some ⟨rb, 0, none⟩)] w (QPost n₀ rb tb cap s d fc fa bv w (times σ)) := by
  have HR := Lib.hid hR
  by_cases h0 : at_ σ.t 0 = 42
  · have ht : times σ = some ((0, -1), σ.adv 1) := by unfold times; rw [if_pos h0]
    rw [ht]
    have H0 := Lib.hid (fun W (hW : Rd n₀ rb tb cap s W σ d fc fa bv) => take1_yes 42 (by decide) (by simpa using h0) hW)
    clear hR hq ht h0
    go_enter Tryz.func131, Tryz.ntmps131
    go_wp2_with fail
    refine (H0.out _ HR.out).mono ?_
    rintro e wz ⟨rfl, hRz, hFz⟩
    have HRz := Lib.hid hRz
    clear hRz
    go_wp2
    go_ret3
    exact ⟨rfl, HRz.out, hFz⟩
  · have H0 := Lib.hid (fun W (hW : Rd n₀ rb tb cap s W σ d fc fa bv) => take1_no 42 (by decide) (by simpa using h0) hW)
    by_cases h1 : at_ σ.t 0 = 43
    · have ht : times σ = some ((1, -1), σ.adv 1) := by unfold times; rw [if_neg h0, if_pos h1]
      rw [ht]
      have H1 := Lib.hid (fun W (hW : Rd n₀ rb tb cap s W σ d fc fa bv) => take1_yes 43 (by decide) (by simpa using h1) hW)
      clear hR hq ht h0 h1
      go_enter Tryz.func131, Tryz.ntmps131
      go_wp2_with fail
      refine (H0.out _ HR.out).mono ?_
      rintro e w1 ⟨rfl, hb1⟩
      have hR1 := Lib.hid (HR.out.on hb1)
      have hbb := hb1
      go_wp2_with fail
      refine (H1.out _ hR1.out).mono ?_
      rintro e wz ⟨rfl, hRz, hFz⟩
      have HRz := Lib.hid hRz
      clear hRz
      go_wp2
      go_ret3
      exact ⟨rfl, HRz.out, (Fr.of_below hbb).trans hFz⟩
    · have H1 := Lib.hid (fun W (hW : Rd n₀ rb tb cap s W σ d fc fa bv) => take1_no 43 (by decide) (by simpa using h1) hW)
      by_cases h2 : at_ σ.t 0 = 63
      · have ht : times σ = some ((0, 1), σ.adv 1) := by unfold times; rw [if_neg h0, if_neg h1, if_pos h2]
        rw [ht]
        have H2 := Lib.hid (fun W (hW : Rd n₀ rb tb cap s W σ d fc fa bv) => take1_yes 63 (by decide) (by simpa using h2) hW)
        clear hR hq ht h0 h1 h2
        go_enter Tryz.func131, Tryz.ntmps131
        go_wp2_with fail
        refine (H0.out _ HR.out).mono ?_
        rintro e w1 ⟨rfl, hb1⟩
        have hR1 := Lib.hid (HR.out.on hb1)
        have hbb := hb1
        go_wp2_with fail
        refine (H1.out _ hR1.out).mono ?_
        rintro e w2 ⟨rfl, hb2⟩
        have hR2 := Lib.hid (hR1.out.on hb2)
        replace hbb := hbb.trans (hb2.mono hbb.size)
        go_wp2_with fail
        refine (H2.out _ hR2.out).mono ?_
        rintro e wz ⟨rfl, hRz, hFz⟩
        have HRz := Lib.hid hRz
        clear hRz
        go_wp2
        go_ret3
        exact ⟨rfl, HRz.out, (Fr.of_below hbb).trans hFz⟩
      · have H2 := Lib.hid (fun W (hW : Rd n₀ rb tb cap s W σ d fc fa bv) => take1_no 63 (by decide) (by simpa using h2) hW)
        have h3 : at_ σ.t 0 = 123 := by simp [isQ, h0, h1, h2] at hq; exact hq
        have ht : times σ = braces σ := by unfold times; rw [if_neg h0, if_neg h1, if_neg h2]
        rw [ht]
        have H3 := Lib.hid (fun W (hW : Rd n₀ rb tb cap s W σ d fc fa bv) => braces_any h3 hW)
        obtain ⟨r, hr⟩ : ∃ r, r = braces σ := ⟨_, rfl⟩
        rw [← hr] at H3 ⊢
        clear hR hq ht hr h0 h1 h2 h3
        go_enter Tryz.func131, Tryz.ntmps131
        go_wp2_with fail
        refine (H0.out _ HR.out).mono ?_
        rintro e w1 ⟨rfl, hb1⟩
        have hR1 := Lib.hid (HR.out.on hb1)
        have hbb := hb1
        go_wp2_with fail
        refine (H1.out _ hR1.out).mono ?_
        rintro e w2 ⟨rfl, hb2⟩
        have hR2 := Lib.hid (hR1.out.on hb2)
        replace hbb := hbb.trans (hb2.mono hbb.size)
        go_wp2_with fail
        refine (H2.out _ hR2.out).mono ?_
        rintro e w3 ⟨rfl, hb3⟩
        have hR3 := Lib.hid (hR2.out.on hb3)
        replace hbb := hbb.trans (hb3.mono hbb.size)
        go_wp2_with fail
        refine (H3.out _ hR3.out).mono ?_
        rintro e wz hP
        cases r with
        | some x =>
          obtain ⟨rfl, hRz, hFz⟩ := hP
          have HRz := Lib.hid hRz
          clear hRz
          go_wp2
          go_ret3
          exact ⟨rfl, HRz.out, (Fr.of_below hbb).trans hFz⟩
        | none =>
          obtain ⟨rfl, hRz, hFz⟩ := hP
          have HRz := Lib.hid hRz
          clear hRz
          go_wp2
          go_ret3
          exact ⟨rfl, HRz.out, (Fr.of_below hbb).trans hFz⟩

/-- What a call that reads an opening parenthesis leaves. -/
def OPost (n₀ rb tb cap : Nat) (s : List UInt8) (d : Nat) (fc fa : Int) (bv : Value) (w : World) (r : Except Flt ((Int × Int × Int) × St)) (e : Ending) (w' : World) : Prop :=
  match r with
  | .ok x => e = .returned (.tuple #[.agg #[.int .i64 x.1.1, .int .i64 0, .int .i64 0, .int .i64 x.1.2.1, .int .i64 x.1.2.2, .slice none 0 0, .slice none 0 0], .bool true]) ∧ Rd n₀ rb tb cap s w' x.2 d fc fa bv ∧ Fr n₀ rb w w'
  | .error f => e = .returned (.tuple #[.agg zeros, .bool false]) ∧ Bad w' rb f ∧ Fr n₀ rb w w'
theorem Rd.group (h : Rd n₀ rb tb cap s w (σ.adv 1) d fc fa bv) (hg : σ.g ≤ 8) : Rd n₀ rb tb cap s (w.setCell ⟨rb, 3, none⟩ (.int .i64 ((σ.g : Int) + 1))) (opened σ) d fc fa bv := by
  have hb := (h.blk.set_ 3 (.int .i64 ((σ.g : Int) + 1)))
  have hk : ∀ i, i ≠ rb → (w.setCell ⟨rb, 3, none⟩ (.int .i64 ((σ.g : Int) + 1))).heap[i]? = w.heap[i]? := fun i hi => Below.heap_setCell _ _ _ _ hi
  obtain ⟨ct, zt, ht⟩ := h.tok
  have htr : tb ≠ rb := fun e => ne_of_types ht h.blk (by decide) e
  refine ⟨by simpa [opened, St.adv] using hb, fun j hj => (cell_same (hk tb htr) _).trans (h.txt j hj), ⟨ct, zt, (hk tb htr).trans ht⟩, h.len, ?_, h.pos, h.suf, ⟨h.bnd.1, by simp only [opened]; omega, h.bnd.2.2⟩, h.low, ?_⟩
  · exact own_keep h.own fun i hi => hk i (fun e => own_ne h.own h.blk (by decide) (by rw [← hi, e]))
  · have hr := h.low
    have h1 := h.tabs.1
    exact ⟨h1, fun c hc => (cell_same (hk 0 (by omega)) c).trans (h.tabs.2.1 c hc), fun i hi => ⟨(cell_same (hk 1 (by omega)) _).trans (h.tabs.2.2 i hi).1, (cell_same (hk 1 (by omega)) _).trans (h.tabs.2.2 i hi).2⟩⟩

set_option maxRecDepth 100000 in
set_option maxHeartbeats 8000000 in
theorem opening_any (hc : at_ σ.t 0 = 40) (hR : Rd n₀ rb tb cap s w σ d fc fa bv) : Calls Tryz.prog 154 #[.pointer (some ⟨rb, 0, none⟩)] w (OPost n₀ rb tb cap s d fc fa bv w (opening σ)) := by
  have hrl := hR.blk.lt
  have hgb := hR.bnd.2.1
  have HB0 := Lib.hid (Blk.new w 117 zeros)
  have HR0 := Lib.hid (hR.alloc (.cells zeros 117))
  have HF0 : Hid (Fr n₀ rb w (w.alloc (.cells zeros 117))) := Lib.hid ((Fr.refl w).alloc _)
  have HR := Lib.hid hR
  clear hR
  cases h0 : pre [40, 63, 58] σ.t with
  | true =>
    have ho : opening σ = .ok ((0, 0, 0), σ.adv 3) := by unfold opening; rw [if_pos h0]
    rw [ho]
    have HT := Lib.hid (fun W (hW : Rd n₀ rb tb cap s W σ d fc fa bv) => take_yes [40, 63, 58] h0 hW)
    clear ho hc h0
    go_enter Tryz.func154, Tryz.ntmps154
    go_wp2_with fail
    refine (HT.out _ HR0.out).mono ?_
    rintro e wz ⟨rfl, hRz, hFz⟩
    have hBz := hFz.blk HR0.out HB0.out (by decide) (by decide)
    have hz := hBz.zero
    have hfz := hBz.frozen
    have HRz : Hid (Rd n₀ rb tb cap s wz (σ.adv 3) d fc fa bv) := Lib.hid hRz
    clear hRz
    go_wp2
    exact ret_node rfl rfl rfl rfl (st7_blk hBz) ⟨rfl, HRz.out.st7 hBz HR.out.size, (HF0.out.trans hFz).st7 (Nat.le_refl _)⟩
  | false =>
    have H0 := Lib.hid (fun W (hW : Rd n₀ rb tb cap s W σ d fc fa bv) => take_no [40, 63, 58] h0 hW)
    cases h1 : pre [40, 63, 61] σ.t with
    | true =>
      have ho : opening σ = .ok ((7, 0, 0), σ.adv 3) := by unfold opening; rw [if_neg (by rw [h0]; decide), if_pos h1]
      rw [ho]
      have HT := Lib.hid (fun W (hW : Rd n₀ rb tb cap s W σ d fc fa bv) => take_yes [40, 63, 61] h1 hW)
      clear ho hc h0 h1
      go_enter Tryz.func154, Tryz.ntmps154
      go_wp2_with fail
      refine (H0.out _ HR0.out).mono ?_
      rintro e w1 ⟨rfl, hb1⟩
      have hR1 := Lib.hid (HR0.out.on hb1)
      have hB1 := Lib.hid (HB0.out.on hb1)
      have hF := HF0.out.trans (Fr.of_below hb1)
      clear hb1
      go_wp2_with fail
      refine (HT.out _ hR1.out).mono ?_
      rintro e wz ⟨rfl, hRz, hFz⟩
      have hBz := hFz.blk hR1.out hB1.out (by decide) (by decide)
      have hz := hBz.zero
      have hfz := hBz.frozen
      have HRz : Hid (Rd n₀ rb tb cap s wz (σ.adv 3) d fc fa bv) := Lib.hid hRz
      clear hRz
      go_wp2
      exact ret_node rfl rfl rfl rfl (st7_blk hBz) ⟨rfl, HRz.out.st7 hBz HR.out.size, (hF.trans hFz).st7 (Nat.le_refl _)⟩
    | false =>
      have H1 := Lib.hid (fun W (hW : Rd n₀ rb tb cap s W σ d fc fa bv) => take_no [40, 63, 61] h1 hW)
      cases h2 : pre [40, 63, 33] σ.t with
      | true =>
        have ho : opening σ = .ok ((7, 1, 0), σ.adv 3) := by unfold opening; rw [if_neg (by rw [h0]; decide), if_neg (by rw [h1]; decide), if_pos h2]
        rw [ho]
        have HT := Lib.hid (fun W (hW : Rd n₀ rb tb cap s W σ d fc fa bv) => take_yes [40, 63, 33] h2 hW)
        clear ho hc h0 h1 h2
        go_enter Tryz.func154, Tryz.ntmps154
        go_wp2_with fail
        refine (H0.out _ HR0.out).mono ?_
        rintro e w1 ⟨rfl, hb1⟩
        have hR1 := Lib.hid (HR0.out.on hb1)
        have hB1 := Lib.hid (HB0.out.on hb1)
        have hF := HF0.out.trans (Fr.of_below hb1)
        clear hb1
        go_wp2_with fail
        refine (H1.out _ hR1.out).mono ?_
        rintro e w2 ⟨rfl, hb2⟩
        have hR2 := Lib.hid (hR1.out.on hb2)
        have hB2 := Lib.hid (hB1.out.on hb2)
        replace hF := hF.trans (Fr.of_below hb2)
        clear hb2
        go_wp2_with fail
        refine (HT.out _ hR2.out).mono ?_
        rintro e wz ⟨rfl, hRz, hFz⟩
        have hBz := hFz.blk hR2.out hB2.out (by decide) (by decide)
        have hz := hBz.zero
        have hfz := hBz.frozen
        have HRz : Hid (Rd n₀ rb tb cap s wz (σ.adv 3) d fc fa bv) := Lib.hid hRz
        clear hRz
        go_wp2
        exact ret_node rfl rfl rfl rfl (st7_blk hBz) ⟨rfl, HRz.out.st7 hBz HR.out.size, (hF.trans hFz).st7 (Nat.le_refl _)⟩
      | false =>
        have H2 := Lib.hid (fun W (hW : Rd n₀ rb tb cap s W σ d fc fa bv) => take_no [40, 63, 33] h2 hW)
        cases h3 : pre [40, 63, 60, 61] σ.t with
        | true =>
          have ho : opening σ = .ok ((7, 2, 0), σ.adv 4) := by unfold opening; rw [if_neg (by rw [h0]; decide), if_neg (by rw [h1]; decide), if_neg (by rw [h2]; decide), if_pos h3]
          rw [ho]
          have HT := Lib.hid (fun W (hW : Rd n₀ rb tb cap s W σ d fc fa bv) => take_yes [40, 63, 60, 61] h3 hW)
          clear ho hc h0 h1 h2 h3
          go_enter Tryz.func154, Tryz.ntmps154
          go_wp2_with fail
          refine (H0.out _ HR0.out).mono ?_
          rintro e w1 ⟨rfl, hb1⟩
          have hR1 := Lib.hid (HR0.out.on hb1)
          have hB1 := Lib.hid (HB0.out.on hb1)
          have hF := HF0.out.trans (Fr.of_below hb1)
          clear hb1
          go_wp2_with fail
          refine (H1.out _ hR1.out).mono ?_
          rintro e w2 ⟨rfl, hb2⟩
          have hR2 := Lib.hid (hR1.out.on hb2)
          have hB2 := Lib.hid (hB1.out.on hb2)
          replace hF := hF.trans (Fr.of_below hb2)
          clear hb2
          go_wp2_with fail
          refine (H2.out _ hR2.out).mono ?_
          rintro e w3 ⟨rfl, hb3⟩
          have hR3 := Lib.hid (hR2.out.on hb3)
          have hB3 := Lib.hid (hB2.out.on hb3)
          replace hF := hF.trans (Fr.of_below hb3)
          clear hb3
          go_wp2_with fail
          refine (HT.out _ hR3.out).mono ?_
          rintro e wz ⟨rfl, hRz, hFz⟩
          have hBz := hFz.blk hR3.out hB3.out (by decide) (by decide)
          have hz := hBz.zero
          have hfz := hBz.frozen
          have HRz : Hid (Rd n₀ rb tb cap s wz (σ.adv 4) d fc fa bv) := Lib.hid hRz
          clear hRz
          go_wp2
          exact ret_node rfl rfl rfl rfl (st7_blk hBz) ⟨rfl, HRz.out.st7 hBz HR.out.size, (hF.trans hFz).st7 (Nat.le_refl _)⟩
        | false =>
          have H3 := Lib.hid (fun W (hW : Rd n₀ rb tb cap s W σ d fc fa bv) => take_no [40, 63, 60, 61] h3 hW)
          cases h4 : pre [40, 63, 60, 33] σ.t with
          | true =>
            have ho : opening σ = .ok ((7, 3, 0), σ.adv 4) := by unfold opening; rw [if_neg (by rw [h0]; decide), if_neg (by rw [h1]; decide), if_neg (by rw [h2]; decide), if_neg (by rw [h3]; decide), if_pos h4]
            rw [ho]
            have HT := Lib.hid (fun W (hW : Rd n₀ rb tb cap s W σ d fc fa bv) => take_yes [40, 63, 60, 33] h4 hW)
            clear ho hc h0 h1 h2 h3 h4
            go_enter Tryz.func154, Tryz.ntmps154
            go_wp2_with fail
            refine (H0.out _ HR0.out).mono ?_
            rintro e w1 ⟨rfl, hb1⟩
            have hR1 := Lib.hid (HR0.out.on hb1)
            have hB1 := Lib.hid (HB0.out.on hb1)
            have hF := HF0.out.trans (Fr.of_below hb1)
            clear hb1
            go_wp2_with fail
            refine (H1.out _ hR1.out).mono ?_
            rintro e w2 ⟨rfl, hb2⟩
            have hR2 := Lib.hid (hR1.out.on hb2)
            have hB2 := Lib.hid (hB1.out.on hb2)
            replace hF := hF.trans (Fr.of_below hb2)
            clear hb2
            go_wp2_with fail
            refine (H2.out _ hR2.out).mono ?_
            rintro e w3 ⟨rfl, hb3⟩
            have hR3 := Lib.hid (hR2.out.on hb3)
            have hB3 := Lib.hid (hB2.out.on hb3)
            replace hF := hF.trans (Fr.of_below hb3)
            clear hb3
            go_wp2_with fail
            refine (H3.out _ hR3.out).mono ?_
            rintro e w4 ⟨rfl, hb4⟩
            have hR4 := Lib.hid (hR3.out.on hb4)
            have hB4 := Lib.hid (hB3.out.on hb4)
            replace hF := hF.trans (Fr.of_below hb4)
            clear hb4
            go_wp2_with fail
            refine (HT.out _ hR4.out).mono ?_
            rintro e wz ⟨rfl, hRz, hFz⟩
            have hBz := hFz.blk hR4.out hB4.out (by decide) (by decide)
            have hz := hBz.zero
            have hfz := hBz.frozen
            have HRz : Hid (Rd n₀ rb tb cap s wz (σ.adv 4) d fc fa bv) := Lib.hid hRz
            clear hRz
            go_wp2
            exact ret_node rfl rfl rfl rfl (st7_blk hBz) ⟨rfl, HRz.out.st7 hBz HR.out.size, (hF.trans hFz).st7 (Nat.le_refl _)⟩
          | false =>
            have H4 := Lib.hid (fun W (hW : Rd n₀ rb tb cap s W σ d fc fa bv) => take_no [40, 63, 60, 33] h4 hW)
            cases h5 : pre [40, 63, 62] σ.t with
            | true =>
              have ho : opening σ = .ok ((8, 0, 0), σ.adv 3) := by unfold opening; rw [if_neg (by rw [h0]; decide), if_neg (by rw [h1]; decide), if_neg (by rw [h2]; decide), if_neg (by rw [h3]; decide), if_neg (by rw [h4]; decide), if_pos h5]
              rw [ho]
              have HT := Lib.hid (fun W (hW : Rd n₀ rb tb cap s W σ d fc fa bv) => take_yes [40, 63, 62] h5 hW)
              clear ho hc h0 h1 h2 h3 h4 h5
              go_enter Tryz.func154, Tryz.ntmps154
              go_wp2_with fail
              refine (H0.out _ HR0.out).mono ?_
              rintro e w1 ⟨rfl, hb1⟩
              have hR1 := Lib.hid (HR0.out.on hb1)
              have hB1 := Lib.hid (HB0.out.on hb1)
              have hF := HF0.out.trans (Fr.of_below hb1)
              clear hb1
              go_wp2_with fail
              refine (H1.out _ hR1.out).mono ?_
              rintro e w2 ⟨rfl, hb2⟩
              have hR2 := Lib.hid (hR1.out.on hb2)
              have hB2 := Lib.hid (hB1.out.on hb2)
              replace hF := hF.trans (Fr.of_below hb2)
              clear hb2
              go_wp2_with fail
              refine (H2.out _ hR2.out).mono ?_
              rintro e w3 ⟨rfl, hb3⟩
              have hR3 := Lib.hid (hR2.out.on hb3)
              have hB3 := Lib.hid (hB2.out.on hb3)
              replace hF := hF.trans (Fr.of_below hb3)
              clear hb3
              go_wp2_with fail
              refine (H3.out _ hR3.out).mono ?_
              rintro e w4 ⟨rfl, hb4⟩
              have hR4 := Lib.hid (hR3.out.on hb4)
              have hB4 := Lib.hid (hB3.out.on hb4)
              replace hF := hF.trans (Fr.of_below hb4)
              clear hb4
              go_wp2_with fail
              refine (H4.out _ hR4.out).mono ?_
              rintro e w5 ⟨rfl, hb5⟩
              have hR5 := Lib.hid (hR4.out.on hb5)
              have hB5 := Lib.hid (hB4.out.on hb5)
              replace hF := hF.trans (Fr.of_below hb5)
              clear hb5
              go_wp2_with fail
              refine (HT.out _ hR5.out).mono ?_
              rintro e wz ⟨rfl, hRz, hFz⟩
              have hBz := hFz.blk hR5.out hB5.out (by decide) (by decide)
              have hz := hBz.zero
              have hfz := hBz.frozen
              have HRz : Hid (Rd n₀ rb tb cap s wz (σ.adv 3) d fc fa bv) := Lib.hid hRz
              clear hRz
              go_wp2
              exact ret_node rfl rfl rfl rfl (st7_blk hBz) ⟨rfl, HRz.out.st7 hBz HR.out.size, (hF.trans hFz).st7 (Nat.le_refl _)⟩
            | false =>
              have H5 := Lib.hid (fun W (hW : Rd n₀ rb tb cap s W σ d fc fa bv) => take_no [40, 63, 62] h5 hW)
              cases h6 : pre [40, 63] σ.t with
              | true =>
                have ho : opening σ = .error (20, σ.pos) := by unfold opening; rw [if_neg (by rw [h0]; decide), if_neg (by rw [h1]; decide), if_neg (by rw [h2]; decide), if_neg (by rw [h3]; decide), if_neg (by rw [h4]; decide), if_neg (by rw [h5]; decide), if_pos h6]
                rw [ho]
                have HT := Lib.hid (fun W (hW : Rd n₀ rb tb cap s W σ d fc fa bv) => show Calls Tryz.prog 92 #[.pointer (some ⟨rb, 0, none⟩), .string ⟨[40, 63].toArray⟩] W fun e w' => e = .returned (.bool true) ∧ Below W.heap.size W w' by have := sees_any [40, 63] hW; rwa [h6] at this)
                clear ho hc h0 h1 h2 h3 h4 h5 h6
                go_enter Tryz.func154, Tryz.ntmps154
                go_wp2_with fail
                refine (H0.out _ HR0.out).mono ?_
                rintro e w1 ⟨rfl, hb1⟩
                have hR1 := Lib.hid (HR0.out.on hb1)
                have hB1 := Lib.hid (HB0.out.on hb1)
                have hF := HF0.out.trans (Fr.of_below hb1)
                clear hb1
                go_wp2_with fail
                refine (H1.out _ hR1.out).mono ?_
                rintro e w2 ⟨rfl, hb2⟩
                have hR2 := Lib.hid (hR1.out.on hb2)
                have hB2 := Lib.hid (hB1.out.on hb2)
                replace hF := hF.trans (Fr.of_below hb2)
                clear hb2
                go_wp2_with fail
                refine (H2.out _ hR2.out).mono ?_
                rintro e w3 ⟨rfl, hb3⟩
                have hR3 := Lib.hid (hR2.out.on hb3)
                have hB3 := Lib.hid (hB2.out.on hb3)
                replace hF := hF.trans (Fr.of_below hb3)
                clear hb3
                go_wp2_with fail
                refine (H3.out _ hR3.out).mono ?_
                rintro e w4 ⟨rfl, hb4⟩
                have hR4 := Lib.hid (hR3.out.on hb4)
                have hB4 := Lib.hid (hB3.out.on hb4)
                replace hF := hF.trans (Fr.of_below hb4)
                clear hb4
                go_wp2_with fail
                refine (H4.out _ hR4.out).mono ?_
                rintro e w5 ⟨rfl, hb5⟩
                have hR5 := Lib.hid (hR4.out.on hb5)
                have hB5 := Lib.hid (hB4.out.on hb5)
                replace hF := hF.trans (Fr.of_below hb5)
                clear hb5
                go_wp2_with fail
                refine (H5.out _ hR5.out).mono ?_
                rintro e w6 ⟨rfl, hb6⟩
                have hR6 := Lib.hid (hR5.out.on hb6)
                have hB6 := Lib.hid (hB5.out.on hb6)
                replace hF := hF.trans (Fr.of_below hb6)
                clear hb6
                go_wp2_with fail
                refine (HT.out _ hR6.out).mono ?_
                rintro e w7 ⟨rfl, hb7⟩
                have hR7 := Lib.hid (hR6.out.on hb7)
                have hB7 := Lib.hid (hB6.out.on hb7)
                have c1 := hR7.out.c1
                go_wp2_with fail
                refine (refuse_bad 20 σ.pos hR7.out).mono ?_
                rintro e wz ⟨rfl, hB, hFz⟩
                have hBz := hFz.blk hR7.out hB7.out (by decide) (by decide)
                have hz := hBz.zero
                have hfz := hBz.frozen
                go_wp2
                exact ret_node rfl rfl rfl rfl (st7_blk hBz) ⟨rfl, hB.st7 (by omega), ((hF.trans (Fr.of_below hb7)).trans hFz).st7 (Nat.le_refl _)⟩
              | false =>
                have H6 := Lib.hid (fun W (hW : Rd n₀ rb tb cap s W σ d fc fa bv) => show Calls Tryz.prog 92 #[.pointer (some ⟨rb, 0, none⟩), .string ⟨[40, 63].toArray⟩] W fun e w' => e = .returned (.bool false) ∧ Below W.heap.size W w' by have := sees_any [40, 63] hW; rwa [h6] at this)
                by_cases hg : σ.g = 9
                · have ho : opening σ = .error (24, σ.pos) := by unfold opening; rw [if_neg (by rw [h0]; decide), if_neg (by rw [h1]; decide), if_neg (by rw [h2]; decide), if_neg (by rw [h3]; decide), if_neg (by rw [h4]; decide), if_neg (by rw [h5]; decide), if_neg (by rw [h6]; decide), if_pos hg]
                  rw [ho]
                  clear ho hc h0 h1 h2 h3 h4 h5 h6
                  go_enter Tryz.func154, Tryz.ntmps154
                  go_wp2_with fail
                  refine (H0.out _ HR0.out).mono ?_
                  rintro e w1 ⟨rfl, hb1⟩
                  have hR1 := Lib.hid (HR0.out.on hb1)
                  have hB1 := Lib.hid (HB0.out.on hb1)
                  have hF := HF0.out.trans (Fr.of_below hb1)
                  clear hb1
                  go_wp2_with fail
                  refine (H1.out _ hR1.out).mono ?_
                  rintro e w2 ⟨rfl, hb2⟩
                  have hR2 := Lib.hid (hR1.out.on hb2)
                  have hB2 := Lib.hid (hB1.out.on hb2)
                  replace hF := hF.trans (Fr.of_below hb2)
                  clear hb2
                  go_wp2_with fail
                  refine (H2.out _ hR2.out).mono ?_
                  rintro e w3 ⟨rfl, hb3⟩
                  have hR3 := Lib.hid (hR2.out.on hb3)
                  have hB3 := Lib.hid (hB2.out.on hb3)
                  replace hF := hF.trans (Fr.of_below hb3)
                  clear hb3
                  go_wp2_with fail
                  refine (H3.out _ hR3.out).mono ?_
                  rintro e w4 ⟨rfl, hb4⟩
                  have hR4 := Lib.hid (hR3.out.on hb4)
                  have hB4 := Lib.hid (hB3.out.on hb4)
                  replace hF := hF.trans (Fr.of_below hb4)
                  clear hb4
                  go_wp2_with fail
                  refine (H4.out _ hR4.out).mono ?_
                  rintro e w5 ⟨rfl, hb5⟩
                  have hR5 := Lib.hid (hR4.out.on hb5)
                  have hB5 := Lib.hid (hB4.out.on hb5)
                  replace hF := hF.trans (Fr.of_below hb5)
                  clear hb5
                  go_wp2_with fail
                  refine (H5.out _ hR5.out).mono ?_
                  rintro e w6 ⟨rfl, hb6⟩
                  have hR6 := Lib.hid (hR5.out.on hb6)
                  have hB6 := Lib.hid (hB5.out.on hb6)
                  replace hF := hF.trans (Fr.of_below hb6)
                  clear hb6
                  go_wp2_with fail
                  refine (H6.out _ hR6.out).mono ?_
                  rintro e w7 ⟨rfl, hb7⟩
                  have hR7 := Lib.hid (hR6.out.on hb7)
                  have hB7 := Lib.hid (hB6.out.on hb7)
                  replace hF := hF.trans (Fr.of_below hb7)
                  clear hb7
                  have c1 := hR7.out.c1
                  have c3 := hR7.out.c3
                  rw [hg] at c3
                  clear hg
                  go_wp2_with fail
                  refine (refuse_bad 24 σ.pos hR7.out).mono ?_
                  rintro e wz ⟨rfl, hB, hFz⟩
                  have hBz := hFz.blk hR7.out hB7.out (by decide) (by decide)
                  have hz := hBz.zero
                  have hfz := hBz.frozen
                  go_wp2
                  exact ret_node rfl rfl rfl rfl (st7_blk hBz) ⟨rfl, hB.st7 (by omega), (hF.trans hFz).st7 (Nat.le_refl _)⟩
                · have ho : opening σ = .ok ((5, 0, ((σ.g + 1 : Nat) : Int)), opened σ) := by unfold opening; rw [if_neg (by rw [h0]; decide), if_neg (by rw [h1]; decide), if_neg (by rw [h2]; decide), if_neg (by rw [h3]; decide), if_neg (by rw [h4]; decide), if_neg (by rw [h5]; decide), if_neg (by rw [h6]; decide), if_neg hg]
                  rw [ho]
                  have HT := Lib.hid (fun W (hW : Rd n₀ rb tb cap s W σ d fc fa bv) => take1_yes 40 (by decide) (by simpa using hc) hW)
                  have hg8 : σ.g ≤ 8 := by omega
                  have hg9 : ((σ.g : Int) == 9) = false := by simp; omega
                  clear ho hc hg h0 h1 h2 h3 h4 h5 h6
                  go_enter Tryz.func154, Tryz.ntmps154
                  go_wp2_with fail
                  refine (H0.out _ HR0.out).mono ?_
                  rintro e w1 ⟨rfl, hb1⟩
                  have hR1 := Lib.hid (HR0.out.on hb1)
                  have hB1 := Lib.hid (HB0.out.on hb1)
                  have hF := HF0.out.trans (Fr.of_below hb1)
                  clear hb1
                  go_wp2_with fail
                  refine (H1.out _ hR1.out).mono ?_
                  rintro e w2 ⟨rfl, hb2⟩
                  have hR2 := Lib.hid (hR1.out.on hb2)
                  have hB2 := Lib.hid (hB1.out.on hb2)
                  replace hF := hF.trans (Fr.of_below hb2)
                  clear hb2
                  go_wp2_with fail
                  refine (H2.out _ hR2.out).mono ?_
                  rintro e w3 ⟨rfl, hb3⟩
                  have hR3 := Lib.hid (hR2.out.on hb3)
                  have hB3 := Lib.hid (hB2.out.on hb3)
                  replace hF := hF.trans (Fr.of_below hb3)
                  clear hb3
                  go_wp2_with fail
                  refine (H3.out _ hR3.out).mono ?_
                  rintro e w4 ⟨rfl, hb4⟩
                  have hR4 := Lib.hid (hR3.out.on hb4)
                  have hB4 := Lib.hid (hB3.out.on hb4)
                  replace hF := hF.trans (Fr.of_below hb4)
                  clear hb4
                  go_wp2_with fail
                  refine (H4.out _ hR4.out).mono ?_
                  rintro e w5 ⟨rfl, hb5⟩
                  have hR5 := Lib.hid (hR4.out.on hb5)
                  have hB5 := Lib.hid (hB4.out.on hb5)
                  replace hF := hF.trans (Fr.of_below hb5)
                  clear hb5
                  go_wp2_with fail
                  refine (H5.out _ hR5.out).mono ?_
                  rintro e w6 ⟨rfl, hb6⟩
                  have hR6 := Lib.hid (hR5.out.on hb6)
                  have hB6 := Lib.hid (hB5.out.on hb6)
                  replace hF := hF.trans (Fr.of_below hb6)
                  clear hb6
                  go_wp2_with fail
                  refine (H6.out _ hR6.out).mono ?_
                  rintro e w7 ⟨rfl, hb7⟩
                  have hR7 := Lib.hid (hR6.out.on hb7)
                  have hB7 := Lib.hid (hB6.out.on hb7)
                  replace hF := hF.trans (Fr.of_below hb7)
                  clear hb7
                  have c3 := hR7.out.c3
                  go_wp2_with fail
                  refine (HT.out _ hR7.out).mono ?_
                  rintro e w8 ⟨rfl, hR8, hF8⟩
                  have c3' : w8.cell? ⟨rb, 3, none⟩ = some (.int .i64 (σ.g : Nat)) := hR8.c3
                  have f3 := hR8.fz 3
                  have hB8 := (hF8.blk hR7.out hB7.out (by decide) (by decide)).far (p := ⟨rb, 3, none⟩) (ne_of_types hB7.out hR7.out.blk (by decide)) (.int .i64 ((σ.g : Int) + 1))
                  have hz := hB8.zero
                  have hfz := hB8.frozen
                  have hRg := hR8.group hg8
                  have c3g : (w8.setCell ⟨rb, 3, none⟩ (.int .i64 ((σ.g : Int) + 1))).cell? ⟨rb, 3, none⟩ = some (.int .i64 ((σ.g : Int) + 1)) := hRg.c3
                  have HRg := Lib.hid hRg
                  have HR8 := Lib.hid hR8
                  clear hRg hR8
                  go_wp2
                  exact ret_node rfl rfl rfl rfl (st7_blk hB8) ⟨rfl, HRg.out.st7 hB8 HR.out.size, ((hF.trans hF8).set_ HR.out.low (.inr rfl) _).st7 (Nat.le_refl _)⟩

end Go.Proofs.YtefgobmpleoafaaGreatDoor

/- Parentheses: a step of the reader. -/
namespace Go.Proofs.YtefgobmpleoafaaGreatDoor
open Go.RowKit
variable {n₀ rb tb cap d : Nat} {s : List UInt8} {w w' : World} {σ σ1 : St} {fc fa : Int} {bv v : Value}

theorem Rd.depth (h : Rd n₀ rb tb cap s w σ d fc fa bv) (d' : Nat) (hd : d' ≤ 32) (x : Int) (hx : x = (d' : Nat)) : Rd n₀ rb tb cap s (w.setCell ⟨rb, 2, none⟩ (.int .i64 x)) σ d' fc fa bv := by
  subst hx
  have hb := (h.blk.set_ 2 (.int .i64 (d' : Nat)))
  have hk : ∀ i, i ≠ rb → (w.setCell ⟨rb, 2, none⟩ (.int .i64 (d' : Nat))).heap[i]? = w.heap[i]? := fun i hi => Below.heap_setCell _ _ _ _ hi
  obtain ⟨ct, zt, ht⟩ := h.tok
  have htr : tb ≠ rb := fun e => ne_of_types ht h.blk (by decide) e
  refine ⟨by simpa using hb, fun j hj => (cell_same (hk tb htr) _).trans (h.txt j hj), ⟨ct, zt, (hk tb htr).trans ht⟩, h.len, ?_, h.pos, h.suf, ⟨hd, h.bnd.2⟩, h.low, ?_⟩
  · exact own_keep h.own fun i hi => hk i (fun e => own_ne h.own h.blk (by decide) (by rw [← hi, e]))
  · have hr := h.low
    have h1 := h.tabs.1
    exact ⟨h1, fun c hc => (cell_same (hk 0 (by omega)) c).trans (h.tabs.2.1 c hc), fun i hi => ⟨(cell_same (hk 1 (by omega)) _).trans (h.tabs.2.2 i hi).1, (cell_same (hk 1 (by omega)) _).trans (h.tabs.2.2 i hi).2⟩⟩

/-- The seven cells of a block of a node. -/
theorem Blk.seven {g : Nat} {t : TypeId} {x0 x1 x2 x3 x4 x5 x6 : Value} (h : Blk w g t #[x0, x1, x2, x3, x4, x5, x6]) : w.cell? ⟨g, 0, none⟩ = some x0 ∧ w.cell? ⟨g, 1, none⟩ = some x1 ∧ w.cell? ⟨g, 2, none⟩ = some x2 ∧ w.cell? ⟨g, 3, none⟩ = some x3 ∧ w.cell? ⟨g, 4, none⟩ = some x4 ∧
    w.cell? ⟨g, 5, none⟩ = some x5 ∧ w.cell? ⟨g, 6, none⟩ = some x6 :=
  ⟨h.cell 0, h.cell 1, h.cell 2, h.cell 3, h.cell 4, h.cell 5, h.cell 6⟩
theorem opening_kind {sh : Int × Int × Int} (h : opening σ = .ok (sh, σ1)) : σ1.t.length ≤ σ.t.length := by
  unfold opening at h
  repeat' split at h
  all_goals first
    | (injection h with h; injection h with h1 h2; subst h1 h2
       first
         | (rw [adv_len]; omega)
         | (simp only [opened, List.length_drop]; omega))
    | cases h

theorem NodeV.far {a : World} {nd : Nd} {sv kv u : Value} {g o : Nat} (h : NodeV (KB n₀ rb a w) w nd sv kv) {cs : Array Value} (hg : Blk w g 117 cs) (ha : g < a.heap.size) : NodeV (KB n₀ rb a (w.setCell ⟨g, o, none⟩ u)) (w.setCell ⟨g, o, none⟩ u) nd sv kv :=
  h.keep fun b hb => by
    have hne : b ≠ g := by
      rcases hb.2 with h1 | ⟨_, _, h1⟩
      · omega
      · exact ne_of_types h1 hg (by decide)
    have hs := Below.heap_setCell w ⟨g, o, none⟩ u b hne
    refine ⟨⟨⟨by simpa [World.setCell] using hb.1.1, hb.1.2.imp id (fun ⟨h1, h2⟩ => ⟨h1, fun ⟨cs', z, hh⟩ => h2 ⟨cs', z, ?_⟩⟩)⟩, hb.2.imp id (fun h => h.keep hs)⟩, hs⟩
    rw [← hs]
    exact hh
theorem NCells.of_blk {b : Nat} {nd : Nd} {sv kv : Value} {t : TypeId} (h : Blk w b t #[.int .i64 nd.kind, .int .i64 nd.lo, .int .i64 nd.hi, .int .i64 nd.mode, .int .i64 nd.ref, sv, kv]) : NCells w b 0 nd sv kv := fun j u hu => by
  rw [Nat.zero_add, h.cell]
  simpa [ndCells] using hu
theorem Blk.st7 {b g : Nat} {t : TypeId} {cs : Array Value} {c0 c1 c2 c3 c4 c5 c6 : Value} (h : Blk w b t cs) (hb : b ≠ g) : Blk (st7 w g c0 c1 c2 c3 c4 c5 c6) b t cs := (st7_heap hb).trans h
theorem Blk.new_at (w : World) (g : Nat) (hg : g = w.heap.size) (t : TypeId) (cs : Array Value) : Blk (w.alloc (.cells cs t)) g t cs := by
  subst hg
  exact Blk.new w t cs
/-- A block of a node, new since a world. -/
theorem KB.new {a : World} {b : Nat} {cs : Array Value} (h : Blk w b 117 cs) (hb : b ≠ rb) (ha : a.heap.size ≤ b) : KB n₀ rb a w b := ⟨okB.of_type h (by decide) hb, .inl ha⟩
/-- What stands behind the alternatives in parentheses. -/
def parClose (p : Nat) (sh : Int × Int × Int) (rk : R) : R :=
  match rk with
  | .error e => .error e
  | .ok (kid, σ2) => if at_ σ2.t 0 = 41 then .ok (wrap sh kid, σ2.adv 1) else .error (20, p)
theorem run_par (n d : Nat) (acc : List Nd) (σ : St) : run (n + 1) 3 d acc σ = if d = 32 then .error (25, σ.pos)
    else match opening σ with
    | .error e => .error e
    | .ok (sh, σ1) => parClose σ.pos sh (run n 0 (d + 1) [] σ1) := rfl

/-- Alternatives, as a contract at some fuel. -/
def AltC (n₀ rb tb cap : Nat) (s : List UInt8) (fc fa : Int) (N : Nat) : Prop :=
  ∀ (d : Nat) (σ : St) (w : World) (bv : Value), 4 * σ.t.length + 2 ≤ N → Rd n₀ rb tb cap s w σ d fc fa bv → Calls Tryz.prog 76 #[.pointer (some ⟨rb, 0, none⟩)] w (NPost n₀ rb tb cap s d fc fa w (run N 0 d [] σ))
/-- Parentheses. -/
def ParC (n₀ rb tb cap : Nat) (s : List UInt8) (fc fa : Int) (N : Nat) : Prop :=
  ∀ (d : Nat) (σ : St) (w : World) (bv : Value), at_ σ.t 0 = 40 → 4 * σ.t.length ≤ N + 1 → Rd n₀ rb tb cap s w σ d fc fa bv → Calls Tryz.prog 140 #[.pointer (some ⟨rb, 0, none⟩)] w (NPost n₀ rb tb cap s d fc fa w (run N 3 d [] σ))

set_option maxRecDepth 100000 in
set_option maxHeartbeats 8000000 in
theorem paren_step (N : Nat) (hA : AltC n₀ rb tb cap s fc fa N) : ParC n₀ rb tb cap s fc fa (N + 1) := by
  intro d σ w bv hc hN hR
  rw [run_par]
  have hrl := hR.blk.lt
  have HB0 := Lib.hid (Blk.new w 117 zeros)
  have HR0 := Lib.hid (hR.alloc (.cells zeros 117))
  have HF0 : Hid (Fr n₀ rb w (w.alloc (.cells zeros 117))) := Lib.hid ((Fr.refl w).alloc _)
  have HR := Lib.hid hR
  have HA := Lib.hid hA
  have c1 := HR0.out.c1
  have c2 := HR0.out.c2
  unfold zeros at c1 c2
  have hd32 := hR.bnd.1
  clear hR hA
  by_cases hd : d = 32
  · rw [if_pos hd]
    subst hd
    have c2' : (w.alloc (.cells #[.int .i64 0, .int .i64 0, .int .i64 0, .int .i64 0, .int .i64 0, .slice none 0 0, .slice none 0 0] 117)).cell? ⟨rb, 2, none⟩ = some (.int .i64 32) := c2
    clear c2
    go_enter Tryz.func140, Tryz.ntmps140
    go_wp2_with fail
    refine (refuse_bad 25 σ.pos HR0.out).mono ?_
    rintro e w1 ⟨rfl, hB, hF1⟩
    have hB1 := hF1.blk HR0.out HB0.out (by decide) (by decide)
    have hz := hB1.zero
    have hfz := hB1.frozen
    go_wp2
    exact ret_node rfl rfl rfl rfl (st7_blk hB1) ⟨rfl, hB.st7 (by omega), (HF0.out.trans hF1).st7 (Nat.le_refl _)⟩
  · rw [if_neg hd]
    have hdne : ((d : Int) == 32) = false := by simp; omega
    have HO := Lib.hid (opening_any hc HR0.out)
    have hol := fun sh σ1 (h : opening σ = .ok (sh, σ1)) => (opening_len h hc).1
    have hd31 : d + 1 ≤ 32 := by omega
    obtain ⟨ro, hro⟩ : ∃ ro, ro = opening σ := ⟨_, rfl⟩
    rw [← hro] at HO hol ⊢
    have HOL := Lib.hid hol
    clear hol hro hc hd
    cases ro with
    | error f =>
      go_enter Tryz.func140, Tryz.ntmps140
      go_wp2_with fail
      refine HO.out.mono ?_
      rintro e w1 ⟨rfl, hB, hF1⟩
      unfold zeros
      have hB1 := (hF1.blk HR0.out HB0.out (by decide) (by decide)).alloc (.cells zeros 117)
      have hz := hB1.zero
      have hfz := hB1.frozen
      unfold zeros at hz hfz
      go_wp2
      exact ret_node rfl rfl rfl rfl (st7_blk hB1) ⟨rfl, (hB.alloc _).st7 (by omega), ((HF0.out.trans hF1).alloc _).st7 (Nat.le_refl _)⟩
    | ok x =>
      obtain ⟨⟨k, m, rf⟩, σ1⟩ := x
      have hσ1 := HOL.out _ _ rfl
      have hfuel : 4 * σ1.t.length + 2 ≤ N := by omega
      show Calls Tryz.prog 140 _ w (NPost n₀ rb tb cap s d fc fa w (parClose σ.pos (k, m, rf) (run N 0 (d + 1) [] σ1)))
      have HW := Lib.hid (fun W bv (hW : Rd n₀ rb tb cap s W σ1 (d + 1) fc fa bv) => HA.out (d + 1) σ1 W bv hfuel hW)
      obtain ⟨rk, hrk⟩ : ∃ rk, rk = run N 0 (d + 1) [] σ1 := ⟨_, rfl⟩
      rw [← hrk] at HW ⊢
      clear hrk HOL HA
      go_enter Tryz.func140, Tryz.ntmps140
      go_wp2_with fail
      refine HO.out.mono ?_
      rintro e w1 ⟨rfl, hR1', hF1⟩
      have HR1 : Hid (Rd n₀ rb tb cap s w1 σ1 d fc fa bv) := Lib.hid hR1'
      have HB1 := Lib.hid (hF1.blk HR0.out HB0.out (by decide) (by decide))
      have hF := HF0.out.trans hF1
      clear hR1' hF1 HO
      have c2' := (HR1.out.alloc (.cells #[.int .i64 k, .int .i64 0, .int .i64 0, .int .i64 m, .int .i64 rf, .slice none 0 0, .slice none 0 0] 117)).c2
      have f2' := (HR1.out.alloc (.cells #[.int .i64 k, .int .i64 0, .int .i64 0, .int .i64 m, .int .i64 rf, .slice none 0 0, .slice none 0 0] 117)).fz 2
      have HR2 := Lib.hid ((HR1.out.alloc (.cells #[.int .i64 k, .int .i64 0, .int .i64 0, .int .i64 m, .int .i64 rf, .slice none 0 0, .slice none 0 0] 117)).depth (d + 1) hd31 ((d : Int) + 1) (by omega))
      have HB2 := Lib.hid ((HB1.out.alloc (.cells #[.int .i64 k, .int .i64 0, .int .i64 0, .int .i64 m, .int .i64 rf, .slice none 0 0, .slice none 0 0] 117)).far (p := ⟨rb, 2, none⟩) (ne_of_types HB1.out HR1.out.blk (by decide)) (.int .i64 ((d : Int) + 1)))
      have HB5 := Lib.hid ((Blk.new w1 117 #[.int .i64 k, .int .i64 0, .int .i64 0, .int .i64 m, .int .i64 rf, .slice none 0 0, .slice none 0 0]).far (p := ⟨rb, 2, none⟩) (by have := HR1.out.blk.lt; show w1.heap.size ≠ rb; omega) (.int .i64 ((d : Int) + 1)))
      replace hF := (hF.alloc (.cells #[.int .i64 k, .int .i64 0, .int .i64 0, .int .i64 m, .int .i64 rf, .slice none 0 0, .slice none 0 0] 117)).set_ (p := ⟨rb, 2, none⟩) HR.out.low (.inr rfl) (.int .i64 ((d : Int) + 1))
      have hb05 : w.heap.size < w1.heap.size := HB1.out.lt
      go_wp2_with fail
      refine (HW.out _ _ HR2.out).mono ?_
      rintro e w3 hP
      clear c2' f2' c1 c2
      cases rk with
      | error f =>
        obtain ⟨rfl, hB, hF3⟩ := hP
        unfold zeros
        have hB3 := hF3.blk HR2.out HB2.out (by decide) (by decide)
        have hB4 := hB3.alloc (.cells zeros 117)
        have hz := hB4.zero
        have hfz := hB4.frozen
        unfold zeros at hz hfz
        go_wp2
        exact ret_node rfl rfl rfl rfl (st7_blk hB4) ⟨rfl, (hB.alloc _).st7 (by omega), ((hF.trans hF3).alloc _).st7 (Nat.le_refl _)⟩
      | ok y =>
        obtain ⟨kid, σ2⟩ := y
        obtain ⟨sv, kv, bv3, rfl, hNd, hR3, hF3⟩ := hP
        obtain ⟨A1, A2, p1, p2, rfl, rfl⟩ := hNd.lens
        have HB3 := Lib.hid (hF3.blk HR2.out HB2.out (by decide) (by decide))
        have HB53 := Lib.hid (hF3.blk HR2.out HB5.out (by decide) (by decide))
        have HR3 : Hid (Rd n₀ rb tb cap s w3 σ2 (d + 1) fc fa bv3) := Lib.hid hR3
        have HND := Lib.hid hNd
        replace hF := hF.trans hF3
        have hsz2 : ((w1.alloc (.cells #[.int .i64 k, .int .i64 0, .int .i64 0, .int .i64 m, .int .i64 rf, .slice none 0 0, .slice none 0 0] 117)).setCell ⟨rb, 2, none⟩ (.int .i64 ((d : Int) + 1))).heap.size = w1.heap.size + 1 := by simp [World.setCell]
        have hw13 : w1.heap.size < w3.heap.size := by have := hF3.size; omega
        clear hR3 hF3 hNd
        simp only [ndVal]
        obtain ⟨nk, hnk⟩ : ∃ nk : Array Value, nk = #[.int .i64 kid.kind, .int .i64 kid.lo, .int .i64 kid.hi, .int .i64 kid.mode, .int .i64 kid.ref, .slice A1 kid.set.length p1, .slice A2 kid.kids.length p2] := ⟨_, rfl⟩
        have HB4 := Lib.hid (HB3.out.alloc (.cells nk 117))
        have HB54 := Lib.hid (HB53.out.alloc (.cells nk 117))
        have HB74 := Lib.hid (Blk.new w3 117 nk)
        have HR4 := Lib.hid (HR3.out.alloc (.cells nk 117))
        have HND4 := Lib.hid (HND.out.fr ((Fr.refl w3).alloc (.cells nk 117)))
        replace hF := hF.alloc (.cells nk 117)
        subst hnk
        by_cases c41 : at_ σ2.t 0 = 41
        · have HT := Lib.hid (take1_yes 41 (by decide) (by simpa using c41) HR4.out)
          have hpc : Hid (parClose σ.pos (k, m, rf) (.ok (kid, σ2)) = .ok (wrap (k, m, rf) kid, σ2.adv 1)) := Lib.hid (by unfold parClose; exact if_pos c41)
          clear c41
          go_wp2_with fail
          refine HT.out.mono ?_
          rintro e w5 ⟨rfl, hR5, hF5⟩
          have c2 : w5.cell? ⟨rb, 2, none⟩ = some (.int .i64 ((d : Int) + 1)) := hR5.c2
          have f2 := hR5.fz 2
          have HR6 := Lib.hid (hR5.depth d (by omega) (d : Int) rfl)
          have HB6 := Lib.hid ((hF5.blk HR4.out HB4.out (by decide) (by decide)).far (p := ⟨rb, 2, none⟩) (ne_of_types HB4.out HR4.out.blk (by decide)) (.int .i64 (d : Int)))
          have HB56 := Lib.hid ((hF5.blk HR4.out HB54.out (by decide) (by decide)).far (p := ⟨rb, 2, none⟩) (ne_of_types HB54.out HR4.out.blk (by decide)) (.int .i64 (d : Int)))
          have HB76 := Lib.hid ((hF5.blk HR4.out HB74.out (by decide) (by decide)).far (p := ⟨rb, 2, none⟩) (ne_of_types HB74.out HR4.out.blk (by decide)) (.int .i64 (d : Int)))
          have HND6 := Lib.hid ((HND4.out.fr hF5).fr ((Fr.refl w5).set_ (p := ⟨rb, 2, none⟩) HR.out.low (.inr rfl) (.int .i64 (d : Int))))
          replace hF := (hF.trans hF5).set_ (p := ⟨rb, 2, none⟩) HR.out.low (.inr rfl) (.int .i64 (d : Int))
          clear hR5 hF5
          go_upto_region 14 with (fail)
          generalize w5.setCell ⟨rb, 2, none⟩ (.int .i64 (d : Int)) = W6 at HR6 HB6 HB56 HB76 HND6 hF ⊢
          clear c2 f2 HB4 HB54 HB74 HR4 HND4 HT
          by_cases hk : k = 0
          · subst hk
            have hz := HB6.out.zero
            have hfz := HB6.out.frozen
            have b5 := HB56.out.seven
            have b7 := HB76.out.seven
            go_wp2
            exact ret_node rfl rfl rfl rfl (st7_blk HB6.out) (by
              rw [hpc.out]
              exact ⟨_, _, bv3, rfl, (HND6.out.st7 HB6.out (by omega)).low (by omega), HR6.out.st7 HB6.out HR.out.size, hF.st7 (Nat.le_refl _)⟩)
          · have hk' : (k == 0) = false := by simpa using hk
            obtain ⟨nk, hnk⟩ : ∃ nk : Array Value, nk = #[.int .i64 kid.kind, .int .i64 kid.lo, .int .i64 kid.hi, .int .i64 kid.mode, .int .i64 kid.ref, .slice A1 kid.set.length p1, .slice A2 kid.kids.length p2] := ⟨_, rfl⟩
            have hg5 : w1.heap.size < W6.heap.size := HB56.out.lt
            have hg0 : w.heap.size < W6.heap.size := HB6.out.lt
            have h05 : w.heap.size ≠ w1.heap.size := by omega
            have b5 := HB56.out.seven
            have b7 := HB76.out.seven
            have f5 := HB56.out.frozen
            have HB5s := Lib.hid ((HB56.out.set_ 6 (.slice (some ⟨W6.heap.size, 0, none⟩) 1 1)).alloc (.cells nk 117))
            have HB0s := Lib.hid ((HB6.out.far (p := ⟨w1.heap.size, 6, none⟩) h05 (.slice (some ⟨W6.heap.size, 0, none⟩) 1 1)).alloc (.cells nk 117))
            have HB8s := Lib.hid (Blk.new_at (W6.setCell ⟨w1.heap.size, 6, none⟩ (.slice (some ⟨W6.heap.size, 0, none⟩) 1 1)) W6.heap.size (by simp [World.setCell]) 117 nk)
            have HRs := Lib.hid ((HR6.out.far (o := 6) HB56.out (by decide) (by decide) (by decide) (by have := HR.out.size; omega) (.slice (some ⟨W6.heap.size, 0, none⟩) 1 1)).alloc (.cells nk 117))
            have HNs := Lib.hid ((HND6.out.far (o := 6) (u := .slice (some ⟨W6.heap.size, 0, none⟩) 1 1) HB56.out (by omega)).fr ((Fr.refl _).alloc (.cells nk 117)))
            have hFs := (hF.set_ (p := ⟨w1.heap.size, 6, none⟩) HR.out.low (.inl (by show w.heap.size ≤ w1.heap.size; omega)) (.slice (some ⟨W6.heap.size, 0, none⟩) 1 1)).alloc (.cells nk 117)
            subst hnk
            go_upto_region 17 with (fail)
            have h80 : W6.heap.size ≠ w.heap.size := by omega
            have hrb6 := HR6.out.blk.lt
            clear b5 b7 f5 HB6 HB56 HB76 HR6 HND6 hF
            generalize (W6.setCell ⟨w1.heap.size, 6, none⟩ (.slice (some ⟨W6.heap.size, 0, none⟩) 1 1)).alloc (.cells #[.int .i64 kid.kind, .int .i64 kid.lo, .int .i64 kid.hi, .int .i64 kid.mode, .int .i64 kid.ref, .slice A1 kid.set.length p1, .slice A2 kid.kids.length p2] 117) = W8 at HB5s HB0s HB8s HRs HNs hFs ⊢
            have b5s := HB5s.out.seven
            have hz := HB0s.out.zero
            have hfz := HB0s.out.frozen
            go_wp2
            exact ret_node rfl rfl rfl rfl (st7_blk HB0s.out) (by
              rw [hpc.out, show wrap (k, m, rf) kid = .mk k 0 0 m rf [] [kid] from by unfold wrap; exact if_neg hk]
              exact ⟨_, _, bv3, rfl, NodeV.one (SetK.nil _ _) (by simp) (Nat.le_refl _) (KB.new (HB8s.out.st7 h80) (by omega) (by omega)) ((HNs.out.st7 HB0s.out (by omega)).low (by omega)) (NCells.of_blk (HB8s.out.st7 h80)), HRs.out.st7 HB0s.out HR.out.size, hFs.st7 (Nat.le_refl _)⟩)
        · have HT := Lib.hid (take1_no 41 (by decide) (by simpa using c41) HR4.out)
          have hpc : Hid (parClose σ.pos (k, m, rf) (.ok (kid, σ2)) = .error (20, σ.pos)) := Lib.hid (by unfold parClose; exact if_neg c41)
          clear c41
          go_wp2_with fail
          refine HT.out.mono ?_
          rintro e w5 ⟨rfl, hb5⟩
          have hR5 := Lib.hid (HR4.out.on hb5)
          have hB5 := Lib.hid (HB4.out.on hb5)
          go_wp2_with fail
          refine (refuse_bad 20 σ.pos hR5.out).mono ?_
          rintro e w6 ⟨rfl, hB, hF6⟩
          have hB6 := hF6.blk hR5.out hB5.out (by decide) (by decide)
          have hz := hB6.zero
          have hfz := hB6.frozen
          go_wp2
          exact ret_node rfl rfl rfl rfl (st7_blk hB6) (by
            rw [hpc.out]
            exact ⟨rfl, hB.st7 (by omega), ((hF.trans (Fr.of_below hb5)).trans hF6).st7 (Nat.le_refl _)⟩)

end Go.Proofs.YtefgobmpleoafaaGreatDoor

