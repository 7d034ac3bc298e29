/- A number of one or two digits, as a contract. -/
import Derived.Test.YthipgidddgdojaaDoorPI
namespace Go.Proofs.YthipgidddgdojaaDoor
open Go.RowKit
variable {n₀ rb tb cap d : Nat} {s : List UInt8} {w w' : World} {σ σ1 : St} {fc fa : Int} {bv v : Value}

theorem adv_adv (σ : St) (a b : Nat) : (σ.adv a).adv b = σ.adv (a + b) := by simp [St.adv, List.drop_drop, Nat.add_assoc]
/-- The number behind j digits. -/
def numJ (t : List UInt8) (j : Nat) : Nat := if j = 0 then 0 else if j = 1 then at_ t 0 - 48 else 10 * (at_ t 0 - 48) + (at_ t 1 - 48)
def digsJ (t : List UInt8) (j : Nat) : Prop := (1 ≤ j → dig (at_ t 0) = true) ∧ (2 ≤ j → dig (at_ t 1) = true)
theorem num_exit {t : List UInt8} {j : Nat} (hj : j ≤ 2) (hd : digsJ t j) (hx : j = 2 ∨ dig (at_ t j) = false) : numLen t = j ∧ numOf t = numJ t j ∧ numOk t = (decide (0 < j) && decide (numJ t j ≤ 64)) := by
  have h : j = 0 ∨ j = 1 ∨ j = 2 := by omega
  rcases h with rfl | rfl | rfl
  · have e : dig (at_ t 0) = false := by rcases hx with h | h; (· cases h); exact h
    simp [numLen, numOf, numOk, numJ, e]
  · have e : dig (at_ t 0) = true := hd.1 (by omega)
    have e1 : dig (at_ t 1) = false := by rcases hx with h | h; (· cases h); exact h
    simp [numLen, numOf, numOk, numJ, e, e1]
  · have e : dig (at_ t 0) = true := hd.1 (by omega)
    have e1 : dig (at_ t 1) = true := hd.2 (by omega)
    simp [numLen, numOf, numOk, numJ, e, e1]
theorem numJ_le {t : List UInt8} {j : Nat} (hd : digsJ t j) : numJ t j ≤ 99 := by
  unfold numJ
  split
  · omega
  · split
    · have := (dig_iff _).1 (hd.1 (by omega))
      omega
    · have := (dig_iff _).1 (hd.1 (by omega))
      have := (dig_iff _).1 (hd.2 (by omega))
      omega

/-- What a round of the loop over digits keeps. -/
def DRel (n₀ rb tb cap : Nat) (s : List UInt8) (d : Nat) (fc fa : Int) (bv : Value) (σ : St) (w : World) (g : Nat) (n : Value) (wr : World) : Prop :=
  ∃ j, j ≤ 2 ∧ 2 ≤ j + g ∧ j ≤ σ.t.length ∧ digsJ σ.t j ∧ n = .int .i64 (numJ σ.t j : Nat) ∧ Rd n₀ rb tb cap s wr (σ.adv j) d fc fa bv ∧ Fr n₀ rb w wr

set_option maxRecDepth 100000 in
set_option maxHeartbeats 4000000 in
theorem count_any (hR : Rd n₀ rb tb cap s w σ d fc fa bv) :
    Calls Tryd.prog 48 #[.pointer (some ⟨rb, 0, none⟩)] w fun e w' => e = .returned (.tuple #[.int .i64 (numOf σ.t : Nat), .bool (numOk σ.t)]) ∧ Rd n₀ rb tb cap s w' (σ.adv (numLen σ.t)) d fc fa bv ∧ Fr n₀ rb w w' := by
  have c1 := hR.c1
  have hpos := hR.pos
  have ht := hR.tl
  have hl := hR.len
  have H0 : Hid (DRel n₀ rb tb cap s d fc fa bv σ w 2 (.int .i64 0) w) := Lib.hid ⟨0, by omega, by omega, by omega, ⟨by omega, by omega⟩, rfl, hR, Fr.refl _⟩
  clear hR
  go_enter Tryd.func48, Tryd.ntmps48
  go_wp2
  go_loopg [5] 2 (fun g n wr => DRel n₀ rb tb cap s d fc fa bv σ w g n wr)
  case atStart => exact H0.out
  case round =>
    clear H0 c1
    obtain ⟨j, hj, hg, hjl, hdj, rfl, hRr, hFr⟩ := hrel
    have hnj := numJ_le hdj
    have HRr := Lib.hid hRr
    have HF := Lib.hid hFr
    have HD := Lib.hid hdj
    have HE := Lib.hid (fun W (hW : Rd n₀ rb tb cap s W (σ.adv j) d fc fa bv) => ended_any hW)
    have htl : (σ.adv j).t.length = σ.t.length - j := adv_len σ j
    have hem : (σ.adv j).t.isEmpty = decide (σ.t.length ≤ j) := by
      cases e : (σ.adv j).t with
      | nil => rw [e] at htl; simp at htl; simp; omega
      | cons a b => rw [e] at htl; simp at htl; simp; omega
    rw [hem] at HE
    clear hem htl
    have cc1 := hRr.c1
    have ff1 := hRr.fz 1
    have hps : (σ.adv j).pos = σ.pos + j := rfl
    by_cases hend : σ.t.length ≤ j
    · have hx : j = 2 ∨ dig (at_ σ.t j) = false := .inr (dig_no (by rw [at_out hend]; omega))
      have HX := Lib.hid (num_exit hj hdj hx)
      rw [decide_eq_true hend] at HE
      clear hRr hFr hdj hx
      go_wp2_with fail
      refine wp_region_held_drew (S := fun _ => True) (by kernel_rfl) trivial (fun hHeld => ?_)
      refine take_d 0 10 (.pointer (some ⟨rb, 0, none⟩)) _ rfl rfl (by kernel_rfl) (by kernel_rfl) (by kernel_rfl) (fun _ _ _ h => h) (Or.inl ⟨by rfl, fun w' hSw => ?_⟩) hHeld ?_
      · go_simp
      simp only [List.setIfInBounds_toArray, List.set_cons_zero, List.set_cons_succ]
      refine wpAnyH_ready (rs := [1]) (by kernel_rfl) (by simp) ?_
      refine AllReadyH.cons rfl (fun K hK => ?_) AllReadyH.nil
      go_simp
      refine (HE.out _ HRr.out.drew).mono ?_
      rintro e w1 ⟨rfl, hb⟩
      refine hK.out _ _ trivial (fun hHeld => ?_)
      clear hK K
      refine take_d 2 12 (.bool false) _ rfl rfl (by kernel_rfl) (by kernel_rfl) (by kernel_rfl) (fun _ _ _ h => h) (Or.inl ⟨by rfl, fun w' hSw => ?_⟩) hHeld ?_
      · go_simp
      simp only [List.setIfInBounds_toArray, List.set_cons_zero, List.set_cons_succ]
      refine take_d 3 13 (.bool false) _ rfl rfl (by kernel_rfl) (by kernel_rfl) (by kernel_rfl) (fun _ _ _ h => h) (Or.inl ⟨by rfl, fun w' hSw => ?_⟩) hHeld ?_
      · go_simp
      simp only [List.setIfInBounds_toArray, List.set_cons_zero, List.set_cons_succ]
      refine take_d 4 14 undef _ rfl rfl (by kernel_rfl) (by kernel_rfl) (by kernel_rfl) (fun _ _ _ h => h) (Or.inr ⟨by rfl, rfl⟩) hHeld ?_
      simp only [List.setIfInBounds_toArray, List.set_cons_zero, List.set_cons_succ]
      refine take_d 5 15 undef _ rfl rfl (by kernel_rfl) (by kernel_rfl) (by kernel_rfl) (fun _ _ _ h => h) (Or.inr ⟨by rfl, rfl⟩) hHeld ?_
      simp only [List.setIfInBounds_toArray, List.set_cons_zero, List.set_cons_succ]
      refine take_d 6 16 undef _ rfl rfl (by kernel_rfl) (by kernel_rfl) (by kernel_rfl) (fun _ _ _ h => h) (Or.inr ⟨by rfl, rfl⟩) hHeld ?_
      simp only [List.setIfInBounds_toArray, List.set_cons_zero, List.set_cons_succ]
      refine take_d 7 17 undef _ rfl rfl (by kernel_rfl) (by kernel_rfl) (by kernel_rfl) (fun _ _ _ h => h) (Or.inr ⟨by rfl, rfl⟩) hHeld ?_
      simp only [List.setIfInBounds_toArray, List.set_cons_zero, List.set_cons_succ]
      refine take_d 8 18 undef _ rfl rfl (by kernel_rfl) (by kernel_rfl) (by kernel_rfl) (fun _ _ _ h => h) (Or.inr ⟨by rfl, rfl⟩) hHeld ?_
      simp only [List.setIfInBounds_toArray, List.set_cons_zero, List.set_cons_succ]
      refine take_d 9 19 undef _ rfl rfl (by kernel_rfl) (by kernel_rfl) (by kernel_rfl) (fun _ _ _ h => h) (Or.inr ⟨by rfl, rfl⟩) hHeld ?_
      simp only [List.setIfInBounds_toArray, List.set_cons_zero, List.set_cons_succ]
      refine take_d 10 20 undef _ rfl rfl (by kernel_rfl) (by kernel_rfl) (by kernel_rfl) (fun _ _ _ h => h) (Or.inr ⟨by rfl, rfl⟩) hHeld ?_
      simp only [List.setIfInBounds_toArray, List.set_cons_zero, List.set_cons_succ]
      refine take_d 11 21 (.bool false) _ rfl rfl (by kernel_rfl) (by kernel_rfl) (by kernel_rfl) (fun _ _ _ h => h) (Or.inl ⟨by rfl, fun w' hSw => ?_⟩) hHeld ?_
      · go_simp
      simp only [List.setIfInBounds_toArray, List.set_cons_zero, List.set_cons_succ]
      refine take_d 12 22 (.bool false) _ rfl rfl (by kernel_rfl) (by kernel_rfl) (by kernel_rfl) (fun _ _ _ h => h) (Or.inl ⟨by rfl, fun w' hSw => ?_⟩) hHeld ?_
      · go_simp
      simp only [List.setIfInBounds_toArray, List.set_cons_zero, List.set_cons_succ]
      refine take_d 13 23 undef _ rfl rfl (by kernel_rfl) (by kernel_rfl) (by kernel_rfl) (fun _ _ _ h => h) (Or.inr ⟨by rfl, rfl⟩) hHeld ?_
      simp only [List.setIfInBounds_toArray, List.set_cons_zero, List.set_cons_succ]
      refine take_d 14 24 undef _ rfl rfl (by kernel_rfl) (by kernel_rfl) (by kernel_rfl) (fun _ _ _ h => h) (Or.inr ⟨by rfl, rfl⟩) hHeld ?_
      simp only [List.setIfInBounds_toArray, List.set_cons_zero, List.set_cons_succ]
      refine take_d 15 25 undef _ rfl rfl (by kernel_rfl) (by kernel_rfl) (by kernel_rfl) (fun _ _ _ h => h) (Or.inr ⟨by rfl, rfl⟩) hHeld ?_
      simp only [List.setIfInBounds_toArray, List.set_cons_zero, List.set_cons_succ]
      refine take_d 16 26 undef _ rfl rfl (by kernel_rfl) (by kernel_rfl) (by kernel_rfl) (fun _ _ _ h => h) (Or.inr ⟨by rfl, rfl⟩) hHeld ?_
      simp only [List.setIfInBounds_toArray, List.set_cons_zero, List.set_cons_succ]
      refine take_d 17 27 undef _ rfl rfl (by kernel_rfl) (by kernel_rfl) (by kernel_rfl) (fun _ _ _ h => h) (Or.inr ⟨by rfl, rfl⟩) hHeld ?_
      simp only [List.setIfInBounds_toArray, List.set_cons_zero, List.set_cons_succ]
      refine take_d 18 28 undef _ rfl rfl (by kernel_rfl) (by kernel_rfl) (by kernel_rfl) (fun _ _ _ h => h) (Or.inr ⟨by rfl, rfl⟩) hHeld ?_
      simp only [List.setIfInBounds_toArray, List.set_cons_zero, List.set_cons_succ]
      refine take_d 19 29 undef _ rfl rfl (by kernel_rfl) (by kernel_rfl) (by kernel_rfl) (fun _ _ _ h => h) (Or.inr ⟨by rfl, rfl⟩) hHeld ?_
      simp only [List.setIfInBounds_toArray, List.set_cons_zero, List.set_cons_succ]
      refine take_d 20 30 undef _ rfl rfl (by kernel_rfl) (by kernel_rfl) (by kernel_rfl) (fun _ _ _ h => h) (Or.inr ⟨by rfl, rfl⟩) hHeld ?_
      simp only [List.setIfInBounds_toArray, List.set_cons_zero, List.set_cons_succ]
      refine take_d 21 31 undef _ rfl rfl (by kernel_rfl) (by kernel_rfl) (by kernel_rfl) (fun _ _ _ h => h) (Or.inr ⟨by rfl, rfl⟩) hHeld ?_
      simp only [List.setIfInBounds_toArray, List.set_cons_zero, List.set_cons_succ]
      refine take_d 22 32 undef _ rfl rfl (by kernel_rfl) (by kernel_rfl) (by kernel_rfl) (fun _ _ _ h => h) (Or.inr ⟨by rfl, rfl⟩) hHeld ?_
      simp only [List.setIfInBounds_toArray, List.set_cons_zero, List.set_cons_succ]
      refine take_d 23 33 undef _ rfl rfl (by kernel_rfl) (by kernel_rfl) (by kernel_rfl) (fun _ _ _ h => h) (Or.inr ⟨by rfl, rfl⟩) hHeld ?_
      simp only [List.setIfInBounds_toArray, List.set_cons_zero, List.set_cons_succ]
      refine take_d 24 34 (.bool false) _ rfl rfl (by kernel_rfl) (by kernel_rfl) (by kernel_rfl) (fun _ _ _ h => h) (Or.inl ⟨by rfl, fun w' hSw => ?_⟩) hHeld ?_
      · go_simp
      simp only [List.setIfInBounds_toArray, List.set_cons_zero, List.set_cons_succ]
      refine wpAnyH_done (by kernel_rfl) ?_ _
      have hR1 := HRr.out.drew.on hb
      have hF1 : Fr n₀ rb w w1 := HF.out.trans (Fr.of_below ((bdrew wr 1).trans (hb : Below wr.heap.size wr.drew w1)))
      have c1 := hR1.c1
      rw [hps] at c1
      have HR1 := Lib.hid hR1
      clear hR1 hb hHeld
      by_cases hj0 : 0 < j
      · have q1 : (σ.pos : Int) < ((σ.pos + j : Nat) : Int) := by omega
        by_cases hn : numJ σ.t j ≤ 64
        · have q2 : ((numJ σ.t j : Nat) : Int) ≤ 64 := by omega
          go_wp2
          go_ret2
          exact ⟨ret_int_bool (by rw [HX.out.2.1]) (by rw [HX.out.2.2]; simp [hj0, hn]), by rw [HX.out.1]; exact HR1.out, hF1⟩
        · have q2 : ¬ ((numJ σ.t j : Nat) : Int) ≤ 64 := by omega
          go_wp2
          go_ret2
          exact ⟨ret_int_bool (by rw [HX.out.2.1]) (by rw [HX.out.2.2]; simp [hj0, hn]), by rw [HX.out.1]; exact HR1.out, hF1⟩
      · have q1 : ¬ (σ.pos : Int) < ((σ.pos + j : Nat) : Int) := by omega
        go_wp2
        go_ret2
        exact ⟨ret_int_bool (by rw [HX.out.2.1]) (by rw [HX.out.2.2]; simp [hj0]), by rw [HX.out.1]; exact HR1.out, hF1⟩
    · rw [decide_eq_false hend] at HE
      by_cases hj2 : j = 2
      · subst hj2
        have HX := Lib.hid (num_exit hj hdj (.inl rfl))
        have HC1 := Lib.hid (fun W (hW : Rd n₀ rb tb cap s W (σ.adv 2) d fc fa bv) => show W.cell? ⟨rb, 1, none⟩ = some (.int .i64 ((σ.pos : Int) + 2)) from hW.c1)
        have hc1 := HC1.out _ HRr.out.drew
        have hw2 : IntKind.i64.wrap ((σ.pos : Int) + 2) = (σ.pos : Int) + 2 := IntWalk.i64_in _ (by omega)
        clear hRr hFr hdj cc1 ff1 hps
        go_wp2_with fail
        refine wp_region_held_drew (S := fun W => W.cell? ⟨rb, 1, none⟩ = some (.int .i64 ((σ.pos : Int) + 2))) (by kernel_rfl) hc1 (fun hHeld => ?_)
        refine take_d 0 10 (.pointer (some ⟨rb, 0, none⟩)) _ rfl rfl (by kernel_rfl) (by kernel_rfl) (by kernel_rfl) (fun _ _ _ h => h) (Or.inl ⟨by rfl, fun w' hSw => ?_⟩) hHeld ?_
        · go_simp
        simp only [List.setIfInBounds_toArray, List.set_cons_zero, List.set_cons_succ]
        refine wpAnyH_ready (rs := [1]) (by kernel_rfl) (by simp) ?_
        refine AllReadyH.cons rfl (fun K hK => ?_) AllReadyH.nil
        go_simp
        refine (HE.out _ HRr.out.drew).mono ?_
        rintro e w1 ⟨rfl, hb⟩
        refine hK.out _ _ ((HC1.out _ (HRr.out.drew.on hb))) (fun hHeld => ?_)
        clear hK K
        refine take_d 2 12 (.bool true) _ rfl rfl (by kernel_rfl) (by kernel_rfl) (by kernel_rfl) (fun _ _ _ h => h) (Or.inl ⟨by rfl, fun w' hSw => ?_⟩) hHeld ?_
        · go_simp
        simp only [List.setIfInBounds_toArray, List.set_cons_zero, List.set_cons_succ]
        refine take_d 3 13 (.bool true) _ rfl rfl (by kernel_rfl) (by kernel_rfl) (by kernel_rfl) (fun _ _ _ h => h) (Or.inl ⟨by rfl, fun w' hSw => ?_⟩) hHeld ?_
        · go_simp
        simp only [List.setIfInBounds_toArray, List.set_cons_zero, List.set_cons_succ]
        refine take_d 4 14 (.pointer (some ⟨rb, 0, none⟩)) _ rfl rfl (by kernel_rfl) (by kernel_rfl) (by kernel_rfl) (fun _ _ _ h => h) (Or.inl ⟨by rfl, fun w' hSw => ?_⟩) hHeld ?_
        · go_simp
        simp only [List.setIfInBounds_toArray, List.set_cons_zero, List.set_cons_succ]
        refine take_d 5 15 (.pointer (some ⟨rb, 0, none⟩)) _ rfl rfl (by kernel_rfl) (by kernel_rfl) (by kernel_rfl) (fun _ _ _ h => h) (Or.inl ⟨by rfl, fun w' hSw => ?_⟩) hHeld ?_
        · go_simp
        simp only [List.setIfInBounds_toArray, List.set_cons_zero, List.set_cons_succ]
        refine take_d 6 16 (.pointer (some ⟨rb, 1, none⟩)) _ rfl rfl (by kernel_rfl) (by kernel_rfl) (by kernel_rfl) (fun _ _ _ h => h) (Or.inl ⟨by rfl, fun w' hSw => ?_⟩) hHeld ?_
        · go_simp
        simp only [List.setIfInBounds_toArray, List.set_cons_zero, List.set_cons_succ]
        refine take_d 7 17 (.int .i64 ((σ.pos : Int) + 2)) _ rfl rfl (by kernel_rfl) (by kernel_rfl) (by kernel_rfl) (fun _ _ _ h => h) (Or.inl ⟨by rfl, fun w' hSw => ?_⟩) hHeld ?_
        · go_simp
        simp only [List.setIfInBounds_toArray, List.set_cons_zero, List.set_cons_succ]
        refine take_d 8 18 (.int .i64 (σ.pos : Int)) _ rfl rfl (by kernel_rfl) (by kernel_rfl) (by kernel_rfl) (fun _ _ _ h => h) (Or.inl ⟨by rfl, fun w' hSw => ?_⟩) hHeld ?_
        · go_simp
        simp only [List.setIfInBounds_toArray, List.set_cons_zero, List.set_cons_succ]
        refine take_d 9 19 (.int .i64 ((σ.pos : Int) + 2)) _ rfl rfl (by kernel_rfl) (by kernel_rfl) (by kernel_rfl) (fun _ _ _ h => h) (Or.inl ⟨by rfl, fun w' hSw => ?_⟩) hHeld ?_
        · go_simp
        simp only [List.setIfInBounds_toArray, List.set_cons_zero, List.set_cons_succ]
        refine take_d 10 20 (.bool false) _ rfl rfl (by kernel_rfl) (by kernel_rfl) (by kernel_rfl) (fun _ _ _ h => h) (Or.inl ⟨by rfl, fun w' hSw => ?_⟩) hHeld ?_
        · go_simp
        simp only [List.setIfInBounds_toArray, List.set_cons_zero, List.set_cons_succ]
        refine take_d 11 21 (.bool false) _ rfl rfl (by kernel_rfl) (by kernel_rfl) (by kernel_rfl) (fun _ _ _ h => h) (Or.inl ⟨by rfl, fun w' hSw => ?_⟩) hHeld ?_
        · go_simp
        simp only [List.setIfInBounds_toArray, List.set_cons_zero, List.set_cons_succ]
        refine take_d 12 22 (.bool false) _ rfl rfl (by kernel_rfl) (by kernel_rfl) (by kernel_rfl) (fun _ _ _ h => h) (Or.inl ⟨by rfl, fun w' hSw => ?_⟩) hHeld ?_
        · go_simp
        simp only [List.setIfInBounds_toArray, List.set_cons_zero, List.set_cons_succ]
        refine take_d 13 23 undef _ rfl rfl (by kernel_rfl) (by kernel_rfl) (by kernel_rfl) (fun _ _ _ h => h) (Or.inr ⟨by rfl, rfl⟩) hHeld ?_
        simp only [List.setIfInBounds_toArray, List.set_cons_zero, List.set_cons_succ]
        refine take_d 14 24 undef _ rfl rfl (by kernel_rfl) (by kernel_rfl) (by kernel_rfl) (fun _ _ _ h => h) (Or.inr ⟨by rfl, rfl⟩) hHeld ?_
        simp only [List.setIfInBounds_toArray, List.set_cons_zero, List.set_cons_succ]
        refine take_d 15 25 undef _ rfl rfl (by kernel_rfl) (by kernel_rfl) (by kernel_rfl) (fun _ _ _ h => h) (Or.inr ⟨by rfl, rfl⟩) hHeld ?_
        simp only [List.setIfInBounds_toArray, List.set_cons_zero, List.set_cons_succ]
        refine take_d 16 26 undef _ rfl rfl (by kernel_rfl) (by kernel_rfl) (by kernel_rfl) (fun _ _ _ h => h) (Or.inr ⟨by rfl, rfl⟩) hHeld ?_
        simp only [List.setIfInBounds_toArray, List.set_cons_zero, List.set_cons_succ]
        refine take_d 17 27 undef _ rfl rfl (by kernel_rfl) (by kernel_rfl) (by kernel_rfl) (fun _ _ _ h => h) (Or.inr ⟨by rfl, rfl⟩) hHeld ?_
        simp only [List.setIfInBounds_toArray, List.set_cons_zero, List.set_cons_succ]
        refine take_d 18 28 undef _ rfl rfl (by kernel_rfl) (by kernel_rfl) (by kernel_rfl) (fun _ _ _ h => h) (Or.inr ⟨by rfl, rfl⟩) hHeld ?_
        simp only [List.setIfInBounds_toArray, List.set_cons_zero, List.set_cons_succ]
        refine take_d 19 29 undef _ rfl rfl (by kernel_rfl) (by kernel_rfl) (by kernel_rfl) (fun _ _ _ h => h) (Or.inr ⟨by rfl, rfl⟩) hHeld ?_
        simp only [List.setIfInBounds_toArray, List.set_cons_zero, List.set_cons_succ]
        refine take_d 20 30 undef _ rfl rfl (by kernel_rfl) (by kernel_rfl) (by kernel_rfl) (fun _ _ _ h => h) (Or.inr ⟨by rfl, rfl⟩) hHeld ?_
        simp only [List.setIfInBounds_toArray, List.set_cons_zero, List.set_cons_succ]
        refine take_d 21 31 undef _ rfl rfl (by kernel_rfl) (by kernel_rfl) (by kernel_rfl) (fun _ _ _ h => h) (Or.inr ⟨by rfl, rfl⟩) hHeld ?_
        simp only [List.setIfInBounds_toArray, List.set_cons_zero, List.set_cons_succ]
        refine take_d 22 32 undef _ rfl rfl (by kernel_rfl) (by kernel_rfl) (by kernel_rfl) (fun _ _ _ h => h) (Or.inr ⟨by rfl, rfl⟩) hHeld ?_
        simp only [List.setIfInBounds_toArray, List.set_cons_zero, List.set_cons_succ]
        refine take_d 23 33 undef _ rfl rfl (by kernel_rfl) (by kernel_rfl) (by kernel_rfl) (fun _ _ _ h => h) (Or.inr ⟨by rfl, rfl⟩) hHeld ?_
        simp only [List.setIfInBounds_toArray, List.set_cons_zero, List.set_cons_succ]
        refine take_d 24 34 (.bool false) _ rfl rfl (by kernel_rfl) (by kernel_rfl) (by kernel_rfl) (fun _ _ _ h => h) (Or.inl ⟨by rfl, fun w' hSw => ?_⟩) hHeld ?_
        · go_simp
        simp only [List.setIfInBounds_toArray, List.set_cons_zero, List.set_cons_succ]
        refine wpAnyH_done (by kernel_rfl) ?_ _
        have hR1 := HRr.out.drew.on hb
        have hF1 : Fr n₀ rb w w1 := HF.out.trans (Fr.of_below ((bdrew wr 1).trans (hb : Below wr.heap.size wr.drew w1)))
        have c1 := HC1.out _ hR1
        have HR1 := Lib.hid hR1
        clear hR1 hb hHeld hc1
        have q1 : (σ.pos : Int) < (σ.pos : Int) + 2 := by omega
        by_cases hn : numJ σ.t 2 ≤ 64
        · have q2 : ((numJ σ.t 2 : Nat) : Int) ≤ 64 := by omega
          go_wp2
          go_ret2
          exact ⟨ret_int_bool (by rw [HX.out.2.1]) (by rw [HX.out.2.2]; simp [hn]), by rw [HX.out.1]; exact HR1.out, hF1⟩
        · have q2 : ¬ ((numJ σ.t 2 : Nat) : Int) ≤ 64 := by omega
          go_wp2
          go_ret2
          exact ⟨ret_int_bool (by rw [HX.out.2.1]) (by rw [HX.out.2.2]; simp [hn]), by rw [HX.out.1]; exact HR1.out, hF1⟩
      · have hjl2 : j < 2 := by omega
        have hlt2 : ((σ.pos + j : Nat) : Int) < (σ.pos : Int) + 2 := by omega
        have hw2 : IntKind.i64.wrap ((σ.pos : Int) + 2) = (σ.pos : Int) + 2 := IntWalk.i64_in _ (by omega)
        have hjs : σ.pos + j < s.length := by omega
        have hi1 : ((σ.pos + j : Nat) : Int) < (s.length : Int) := by omega
        have hj1 : j + 1 ≤ σ.t.length := by omega
        have hx := at_lt σ.t j
        have HCT := Lib.hid (fun W (hW : Rd n₀ rb tb cap s W (σ.adv j) d fc fa bv) => show W.cell? ⟨tb, σ.pos + j, none⟩ = some (.int .u8 ((at_ σ.t j : Nat) : Int)) by
          have h := hW.at_ (j := 0) (by rw [adv_len]; omega)
          rw [Nat.zero_add, Nat.add_zero] at h
          rw [show at_ (σ.adv j).t 0 = at_ σ.t j by simp only [St.adv, at_drop, Nat.add_zero]] at h
          exact h)
        have HDI := Lib.hid (isDigit_any (at_ σ.t j))
        have HNE := Lib.hid (fun (h : dig (at_ σ.t j) = false) => num_exit hj hdj (.inr h))
        have HDD := Lib.hid (fun (h : dig (at_ σ.t j) = true) => (show digsJ σ.t (j + 1) ∧ ((numJ σ.t (j + 1) : Nat) : Int) = 10 * ((numJ σ.t j : Nat) : Int) + ((at_ σ.t j : Int) - 48) ∧ 48 ≤ at_ σ.t j ∧ at_ σ.t j ≤ 57 by
          have hr := (dig_iff _).1 h
          have hj' : j = 0 ∨ j = 1 := by omega
          rcases hj' with rfl | rfl
          · refine ⟨⟨fun _ => h, fun q => by omega⟩, ?_, hr⟩
            simp [numJ]
            omega
          · refine ⟨⟨fun _ => hdj.1 (by omega), fun _ => h⟩, ?_, hr⟩
            simp [numJ]
            omega))
        obtain ⟨x, hxx⟩ : ∃ x, x = at_ σ.t j := ⟨_, rfl⟩
        obtain ⟨nn, hnn⟩ : ∃ nn, nn = numJ σ.t j := ⟨_, rfl⟩
        obtain ⟨p, hp⟩ : ∃ p, p = σ.pos + j := ⟨_, rfl⟩
        rw [← hxx] at hx HCT HDI HNE HDD
        rw [← hnn] at HNE HDD hnj ⊢
        rw [hps, ← hp] at cc1
        rw [← hp] at hlt2 hi1 hjs HCT
        have cc0 := hRr.c0
        have cct := HCT.out _ hRr
        have HRF := Lib.hid (fun W (hW : Rd n₀ rb tb cap s W (σ.adv j) d fc fa bv) => show W.cell? ⟨rb, 0, none⟩ = some (.slice (some ⟨tb, 0, none⟩) s.length cap) ∧ W.cell? ⟨rb, 1, none⟩ = some (.int .i64 (p : Nat)) ∧ W.cell? ⟨tb, p, none⟩ = some (.int .u8 (x : Nat)) from ⟨hW.c0, by rw [hp]; exact hW.c1, HCT.out _ hW⟩)
        have HP := Lib.hid hp
        have HNN := Lib.hid hnn
        clear hRr hFr hdj hps hxx hp hnn hend hj2
        cases hdx : dig x with
        | false =>
          rw [hdx] at HDI
          have HX := Lib.hid (HNE.out hdx)
          clear hdx HNE HDD
          go_wp2_with fail
          go_region_held3 (fun W => W.cell? ⟨rb, 0, none⟩ = some (.slice (some ⟨tb, 0, none⟩) s.length cap) ∧ W.cell? ⟨rb, 1, none⟩ = some (.int .i64 (p : Nat)) ∧ W.cell? ⟨tb, p, none⟩ = some (.int .u8 (x : Nat))) (go_keep)
            (first | (go_at_call 21; refine (HE.out _ HRr.out.drew).mono ?_; rintro e w1 ⟨rfl, hb⟩; obtain ⟨k0, k1, kt⟩ := HRF.out _ (HRr.out.drew.on hb)) | (go_at_call 59; refine (HDI.out _).mono ?_; rintro e w2 ⟨rfl, rfl⟩))
          have HR1 := Lib.hid (HRr.out.drew.on hb)
          have hF1 : Fr n₀ rb w w1 := HF.out.trans (Fr.of_below ((bdrew wr 1).trans (hb : Below wr.heap.size wr.drew w1)))
          clear hb
          by_cases hj0 : 0 < j
          · have q1 : (σ.pos : Int) < (p : Int) := by rw [HP.out]; omega
            by_cases hn : nn ≤ 64
            · have q2 : (nn : Int) ≤ 64 := by omega
              go_wp2
              go_ret2
              exact ⟨ret_int_bool (by rw [HX.out.2.1, HNN.out]) (by rw [HX.out.2.2]; simp [hj0, hn]), by rw [HX.out.1]; exact HR1.out, hF1⟩
            · have q2 : ¬ (nn : Int) ≤ 64 := by omega
              go_wp2
              go_ret2
              exact ⟨ret_int_bool (by rw [HX.out.2.1, HNN.out]) (by rw [HX.out.2.2]; simp [hj0, hn]), by rw [HX.out.1]; exact HR1.out, hF1⟩
          · have q1 : ¬ (σ.pos : Int) < (p : Int) := by rw [HP.out]; omega
            go_wp2
            go_ret2
            exact ⟨ret_int_bool (by rw [HX.out.2.1, HNN.out]) (by rw [HX.out.2.2]; simp [hj0]), by rw [HX.out.1]; exact HR1.out, hF1⟩
        | true =>
          rw [hdx] at HDI
          have HX := Lib.hid (HDD.out hdx)
          obtain ⟨_, _, x1, x2⟩ := HDD.out hdx
          clear hdx HNE HDD
          have y1 : (48 : Int) ≤ (x : Int) := by omega
          have y2 : (x : Int) ≤ 57 := by omega
          go_wp2_with fail
          go_region_held3 (fun W => W.cell? ⟨rb, 0, none⟩ = some (.slice (some ⟨tb, 0, none⟩) s.length cap) ∧ W.cell? ⟨rb, 1, none⟩ = some (.int .i64 (p : Nat)) ∧ W.cell? ⟨tb, p, none⟩ = some (.int .u8 (x : Nat))) (go_keep)
            (first | (go_at_call 21; refine (HE.out _ HRr.out.drew).mono ?_; rintro e w1 ⟨rfl, hb⟩; obtain ⟨k0, k1, kt⟩ := HRF.out _ (HRr.out.drew.on hb)) | (go_at_call 59; refine (HDI.out _).mono ?_; rintro e w2 ⟨rfl, rfl⟩))
          have hR1 := HRr.out.drew.on hb
          have f1 := hR1.fz 1
          have HR1 := Lib.hid hR1
          have hF1 : Fr n₀ rb w w1 := HF.out.trans (Fr.of_below ((bdrew wr 1).trans (hb : Below wr.heap.size wr.drew w1)))
          clear hb hR1
          go_wp2
          go_quiet (fail)
          go_wp2
          go_roundg (gk - 1)
          case measure => omega
          case rel =>
            have hst := (HR1.out.drewN nq).step' (n := 1) (by rw [adv_len]; omega)
            rw [adv_adv, show (σ.adv j).pos = p from HP.out.symm] at hst
            exact ⟨j + 1, by omega, by omega, hj1, HX.out.1, by rw [HX.out.2.1], hst, (HR1.out.drewN nq).below_set (hF1.drewN nq) _ _⟩

end Go.Proofs.YthipgidddgdojaaDoor
