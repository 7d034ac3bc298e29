/- Quantifiers and opening parentheses, as contracts. -/
import Derived.Test.YthipgidddgdojaaDoorPJ
namespace Go.Proofs.YthipgidddgdojaaDoor
open Go.RowKit
variable {n₀ rb tb cap d : Nat} {s : List UInt8} {w w' : World} {σ σ1 : St} {fc fa : Int} {bv v : Value}

theorem take1_yes (c : UInt8) (h0 : c ≠ 0) (h : at_ σ.t 0 = c.toNat) (hR : Rd n₀ rb tb cap s w σ d fc fa bv) :
    Calls Tryd.prog 19 #[.pointer (some ⟨rb, 0, none⟩), .string ⟨[c].toArray⟩] w fun e w' => e = .returned (.bool true) ∧ Rd n₀ rb tb cap s w' (σ.adv 1) d fc fa bv ∧ Fr n₀ rb w w' :=
  take_yes [c] (by rw [pre_one c _ h0]; simpa using h) hR
theorem take1_no (c : UInt8) (h0 : c ≠ 0) (h : ¬ at_ σ.t 0 = c.toNat) (hR : Rd n₀ rb tb cap s w σ d fc fa bv) :
    Calls Tryd.prog 19 #[.pointer (some ⟨rb, 0, none⟩), .string ⟨[c].toArray⟩] w fun e w' => e = .returned (.bool false) ∧ Below w.heap.size w w' :=
  take_no [c] (by rw [pre_one c _ h0]; simpa using h) hR

/-- What a call that reads a quantifier leaves. -/
def QPost (n₀ rb tb cap : Nat) (s : List UInt8) (d : Nat) (fc fa : Int) (bv : Value) (w : World) (r : Option ((Int × Int) × St)) (e : Ending) (w' : World) : Prop :=
  match r with
  | some x => e = .returned (.tuple #[.int .i64 x.1.1, .int .i64 x.1.2, .bool true]) ∧ Rd n₀ rb tb cap s w' x.2 d fc fa bv ∧ Fr n₀ rb w w'
  | none => e = .returned (.tuple #[.int .i64 0, .int .i64 0, .bool false]) ∧ (∃ σ', Rd n₀ rb tb cap s w' σ' d fc fa bv) ∧ Fr n₀ rb w w'

theorem quant_seen (hR : Rd n₀ rb tb cap s w σ d fc fa bv) :
    Calls Tryd.prog 30 #[.pointer (some ⟨rb, 0, none⟩)] w fun e w' => e = .returned (.bool (isQ (at_ σ.t 0))) ∧ Below w.heap.size w w' := by
  have HR := Lib.hid hR
  by_cases h0 : at_ σ.t 0 = 42
  · have H0 := Lib.hid (fun W (hW : Rd n₀ rb tb cap s W σ d fc fa bv) => sees_one 42 true (by decide) (by simp [h0]) hW)
    have hq : isQ (at_ σ.t 0) = true := by rw [h0]; decide
    rw [hq]
    clear hR hq h0
    go_enter Tryd.func30, Tryd.ntmps30
    go_wp2_with fail
    refine (H0.out _ HR.out).mono ?_
    rintro e w1 ⟨rfl, hb1⟩
    have hR1 := Lib.hid (HR.out.on hb1)
    have hbb := hb1
    go_wp2
    go_ret
    exact ⟨rfl, hbb⟩
  · have H0 := Lib.hid (fun W (hW : Rd n₀ rb tb cap s W σ d fc fa bv) => sees_one 42 false (by decide) (by simp [h0]) hW)
    by_cases h1 : at_ σ.t 0 = 43
    · have H1 := Lib.hid (fun W (hW : Rd n₀ rb tb cap s W σ d fc fa bv) => sees_one 43 true (by decide) (by simp [h1]) hW)
      have hq : isQ (at_ σ.t 0) = true := by rw [h1]; decide
      rw [hq]
      clear hR hq h0 h1
      go_enter Tryd.func30, Tryd.ntmps30
      go_wp2_with fail
      refine (H0.out _ HR.out).mono ?_
      rintro e w1 ⟨rfl, hb1⟩
      have hR1 := Lib.hid (HR.out.on hb1)
      have hbb := hb1
      go_wp2_with fail
      refine (H1.out _ hR1.out).mono ?_
      rintro e w2 ⟨rfl, hb2⟩
      have hR2 := Lib.hid (hR1.out.on hb2)
      replace hbb := hbb.trans (hb2.mono hbb.size)
      go_wp2
      go_ret
      exact ⟨rfl, hbb⟩
    · have H1 := Lib.hid (fun W (hW : Rd n₀ rb tb cap s W σ d fc fa bv) => sees_one 43 false (by decide) (by simp [h1]) hW)
      by_cases h2 : at_ σ.t 0 = 63
      · have H2 := Lib.hid (fun W (hW : Rd n₀ rb tb cap s W σ d fc fa bv) => sees_one 63 true (by decide) (by simp [h2]) hW)
        have hq : isQ (at_ σ.t 0) = true := by rw [h2]; decide
        rw [hq]
        clear hR hq h0 h1 h2
        go_enter Tryd.func30, Tryd.ntmps30
        go_wp2_with fail
        refine (H0.out _ HR.out).mono ?_
        rintro e w1 ⟨rfl, hb1⟩
        have hR1 := Lib.hid (HR.out.on hb1)
        have hbb := hb1
        go_wp2_with fail
        refine (H1.out _ hR1.out).mono ?_
        rintro e w2 ⟨rfl, hb2⟩
        have hR2 := Lib.hid (hR1.out.on hb2)
        replace hbb := hbb.trans (hb2.mono hbb.size)
        go_wp2_with fail
        refine (H2.out _ hR2.out).mono ?_
        rintro e w3 ⟨rfl, hb3⟩
        have hR3 := Lib.hid (hR2.out.on hb3)
        replace hbb := hbb.trans (hb3.mono hbb.size)
        go_wp2
        go_ret
        exact ⟨rfl, hbb⟩
      · have H2 := Lib.hid (fun W (hW : Rd n₀ rb tb cap s W σ d fc fa bv) => sees_one 63 false (by decide) (by simp [h2]) hW)
        by_cases h3 : at_ σ.t 0 = 123
        · have H3 := Lib.hid (fun W (hW : Rd n₀ rb tb cap s W σ d fc fa bv) => sees_one 123 true (by decide) (by simp [h3]) hW)
          have hq : isQ (at_ σ.t 0) = true := by rw [h3]; decide
          rw [hq]
          clear hR hq h0 h1 h2 h3
          go_enter Tryd.func30, Tryd.ntmps30
          go_wp2_with fail
          refine (H0.out _ HR.out).mono ?_
          rintro e w1 ⟨rfl, hb1⟩
          have hR1 := Lib.hid (HR.out.on hb1)
          have hbb := hb1
          go_wp2_with fail
          refine (H1.out _ hR1.out).mono ?_
          rintro e w2 ⟨rfl, hb2⟩
          have hR2 := Lib.hid (hR1.out.on hb2)
          replace hbb := hbb.trans (hb2.mono hbb.size)
          go_wp2_with fail
          refine (H2.out _ hR2.out).mono ?_
          rintro e w3 ⟨rfl, hb3⟩
          have hR3 := Lib.hid (hR2.out.on hb3)
          replace hbb := hbb.trans (hb3.mono hbb.size)
          go_wp2_with fail
          refine (H3.out _ hR3.out).mono ?_
          rintro e w4 ⟨rfl, hb4⟩
          have hR4 := Lib.hid (hR3.out.on hb4)
          replace hbb := hbb.trans (hb4.mono hbb.size)
          go_wp2
          go_ret
          exact ⟨rfl, hbb⟩
        · have H3 := Lib.hid (fun W (hW : Rd n₀ rb tb cap s W σ d fc fa bv) => sees_one 123 false (by decide) (by simp [h3]) hW)
          have hq : isQ (at_ σ.t 0) = false := by simp [isQ, h0, h1, h2, h3]
          rw [hq]
          clear hR hq h0 h1 h2 h3
          go_enter Tryd.func30, Tryd.ntmps30
          go_wp2_with fail
          refine (H0.out _ HR.out).mono ?_
          rintro e w1 ⟨rfl, hb1⟩
          have hR1 := Lib.hid (HR.out.on hb1)
          have hbb := hb1
          go_wp2_with fail
          refine (H1.out _ hR1.out).mono ?_
          rintro e w2 ⟨rfl, hb2⟩
          have hR2 := Lib.hid (hR1.out.on hb2)
          replace hbb := hbb.trans (hb2.mono hbb.size)
          go_wp2_with fail
          refine (H2.out _ hR2.out).mono ?_
          rintro e w3 ⟨rfl, hb3⟩
          have hR3 := Lib.hid (hR2.out.on hb3)
          replace hbb := hbb.trans (hb3.mono hbb.size)
          go_wp2_with fail
          refine (H3.out _ hR3.out).mono ?_
          rintro e w4 ⟨rfl, hb4⟩
          have hR4 := Lib.hid (hR3.out.on hb4)
          replace hbb := hbb.trans (hb4.mono hbb.size)
          go_wp2
          go_ret
          exact ⟨rfl, hbb⟩

theorem mode_any (hR : Rd n₀ rb tb cap s w σ d fc fa bv) :
    Calls Tryd.prog 32 #[.pointer (some ⟨rb, 0, none⟩)] w fun e w' => e = .returned (.int .i64 (modeOf σ.t : Nat)) ∧ Rd n₀ rb tb cap s w' (behindMode σ) d fc fa bv ∧ Fr n₀ rb w w' := by
  have HR := Lib.hid hR
  by_cases h1 : at_ σ.t 0 = 63
  · have e1 : modeOf σ.t = 1 := by unfold modeOf; rw [if_pos h1]
    have e2 : behindMode σ = σ.adv 1 := by unfold behindMode; rw [e1]; rfl
    have H := Lib.hid (take1_yes 63 (by decide) (by simpa using h1) hR)
    rw [e1, e2]
    clear hR h1 e1 e2
    go_enter Tryd.func32, Tryd.ntmps32
    go_wp2_with fail
    refine H.out.mono ?_
    rintro e w1 ⟨rfl, hR1, hF1⟩
    have HR1 := Lib.hid hR1
    clear hR1
    go_wp2
    go_ret
    exact ⟨rfl, HR1.out, hF1⟩
  · have H := Lib.hid (take1_no 63 (by decide) (by simpa using h1) hR)
    by_cases h2 : at_ σ.t 0 = 43
    · have e1 : modeOf σ.t = 2 := by unfold modeOf; rw [if_neg h1, if_pos h2]
      have e2 : behindMode σ = σ.adv 1 := by unfold behindMode; rw [e1]; rfl
      have H2 := Lib.hid (fun W (hW : Rd n₀ rb tb cap s W σ d fc fa bv) => take1_yes 43 (by decide) (by simpa using h2) hW)
      rw [e1, e2]
      clear hR h1 h2 e1 e2
      go_enter Tryd.func32, Tryd.ntmps32
      go_wp2_with fail
      refine H.out.mono ?_
      rintro e w1 ⟨rfl, hb1⟩
      go_wp2_with fail
      refine (H2.out _ (HR.out.on hb1)).mono ?_
      rintro e w2 ⟨rfl, hR2, hF2⟩
      have HR2 := Lib.hid hR2
      clear hR2
      go_wp2
      go_ret
      exact ⟨rfl, HR2.out, (Fr.of_below hb1).trans hF2⟩
    · have e1 : modeOf σ.t = 0 := by unfold modeOf; rw [if_neg h1, if_neg h2]
      have e2 : behindMode σ = σ := by unfold behindMode; rw [e1]; rfl
      have H2 := Lib.hid (fun W (hW : Rd n₀ rb tb cap s W σ d fc fa bv) => take1_no 43 (by decide) (by simpa using h2) hW)
      rw [e1, e2]
      clear hR h1 h2 e1 e2
      go_enter Tryd.func32, Tryd.ntmps32
      go_wp2_with fail
      refine H.out.mono ?_
      rintro e w1 ⟨rfl, hb1⟩
      go_wp2_with fail
      refine (H2.out _ (HR.out.on hb1)).mono ?_
      rintro e w2 ⟨rfl, hb2⟩
      go_wp2
      go_ret
      exact ⟨rfl, (HR.out.on hb1).on hb2, (Fr.of_below hb1).trans (Fr.of_below hb2)⟩

theorem numJ_max (t : List UInt8) : numOf t ≤ 99 := by
  unfold numOf
  split
  · rename_i h
    have := (dig_iff _).1 h
    split
    · rename_i h2
      have := (dig_iff _).1 h2
      omega
    · omega
  · omega

set_option maxRecDepth 100000 in
set_option maxHeartbeats 4000000 in
theorem braces_any (hc : at_ σ.t 0 = 123) (hR : Rd n₀ rb tb cap s w σ d fc fa bv) : Calls Tryd.prog 39 #[.pointer (some ⟨rb, 0, none⟩)] w (QPost n₀ rb tb cap s d fc fa bv w (braces σ)) := by
  have HT := Lib.hid (take1_yes 123 (by decide) (by simpa using hc) hR)
  obtain ⟨r, hr⟩ : ∃ r, r = braces σ := ⟨_, rfl⟩
  have hb := hr
  unfold braces at hb
  rw [← hr]
  have HC := Lib.hid (fun W (hW : Rd n₀ rb tb cap s W (σ.adv 1) d fc fa bv) => count_any hW)
  obtain ⟨σ1, hσ1⟩ : ∃ σ1, σ1 = σ.adv 1 := ⟨_, rfl⟩
  rw [← hσ1] at hb HC HT
  have hlo := numJ_max σ1.t
  obtain ⟨lo, hlo'⟩ : ∃ lo, lo = numOf σ1.t := ⟨_, rfl⟩
  obtain ⟨σ2, hσ2⟩ : ∃ σ2, σ2 = σ1.adv (numLen σ1.t) := ⟨_, rfl⟩
  rw [← hσ2, ← hlo'] at hb HC
  rw [← hlo'] at hlo
  have HB := Lib.hid hb
  clear hb hr hR hc hσ1 hlo' hσ2
  cases hok : numOk σ1.t with
  | false =>
    rw [hok] at HC
    have hb := HB.out
    rw [if_neg (by rw [hok]; decide)] at hb
    subst hb
    clear HB hok
    go_enter Tryd.func39, Tryd.ntmps39
    go_wp2_with fail
    refine HT.out.mono ?_
    rintro e w1 ⟨rfl, hR1, hF1⟩
    have hR1' := Lib.hid hR1
    clear hR1
    go_wp2_with fail
    refine (HC.out _ hR1'.out).mono ?_
    rintro e w2 ⟨rfl, hR2, hF2⟩
    have HR2 := Lib.hid hR2
    clear hR2
    go_wp2
    go_ret3
    exact ⟨rfl, ⟨_, HR2.out⟩, hF1.trans hF2⟩
  | true =>
    rw [hok] at HC
    have hb := HB.out
    rw [if_pos hok] at hb
    clear HB hok
    cases hce : pre [44, 125] σ2.t with
    | true =>
      have HT2 := Lib.hid (fun W (hW : Rd n₀ rb tb cap s W σ2 d fc fa bv) => take_yes [44, 125] hce hW)
      rw [if_pos hce] at hb
      subst hb
      clear hce
      go_enter Tryd.func39, Tryd.ntmps39
      go_wp2_with fail
      refine HT.out.mono ?_
      rintro e w1 ⟨rfl, hR1, hF1⟩
      have hR1' := Lib.hid hR1
      clear hR1
      go_wp2_with fail
      refine (HC.out _ hR1'.out).mono ?_
      rintro e w2 ⟨rfl, hR2, hF2⟩
      have HR2 := Lib.hid hR2
      clear hR2
      go_wp2_with fail
      refine (HT2.out _ HR2.out).mono ?_
      rintro e w3 ⟨rfl, hR3, hF3⟩
      have HR3 : Hid (Rd n₀ rb tb cap s w3 (σ2.adv 2) d fc fa bv) := Lib.hid hR3
      clear hR3
      go_wp2
      go_ret3
      exact ⟨rfl, HR3.out, (hF1.trans hF2).trans hF3⟩
    | false =>
      have HT2 := Lib.hid (fun W (hW : Rd n₀ rb tb cap s W σ2 d fc fa bv) => take_no [44, 125] hce hW)
      rw [if_neg (by rw [hce]; decide)] at hb
      clear hce
      by_cases h44 : at_ σ2.t 0 = 44
      · have HT3 := Lib.hid (fun W (hW : Rd n₀ rb tb cap s W σ2 d fc fa bv) => take1_yes 44 (by decide) (by simpa using h44) hW)
        rw [if_pos h44] at hb
        have HC2 := Lib.hid (fun W (hW : Rd n₀ rb tb cap s W (σ2.adv 1) d fc fa bv) => count_any hW)
        obtain ⟨σ3, hσ3⟩ : ∃ σ3, σ3 = σ2.adv 1 := ⟨_, rfl⟩
        rw [← hσ3] at hb HC2 HT3
        have hhi := numJ_max σ3.t
        obtain ⟨hi, hhi'⟩ : ∃ hi, hi = numOf σ3.t := ⟨_, rfl⟩
        obtain ⟨σ4, hσ4⟩ : ∃ σ4, σ4 = σ3.adv (numLen σ3.t) := ⟨_, rfl⟩
        rw [← hσ4, ← hhi'] at hb HC2
        rw [← hhi'] at hhi
        have HB := Lib.hid hb
        clear hb h44 hσ3 hhi' hσ4
        cases hok2 : numOk σ3.t with
        | false =>
          rw [hok2] at HC2
          have hb := HB.out
          rw [if_neg (by simp [hok2])] at hb
          subst hb
          clear HB hok2
          go_enter Tryd.func39, Tryd.ntmps39
          go_wp2_with fail
          refine HT.out.mono ?_
          rintro e w1 ⟨rfl, hR1, hF1⟩
          have hR1' := Lib.hid hR1
          clear hR1
          go_wp2_with fail
          refine (HC.out _ hR1'.out).mono ?_
          rintro e w2 ⟨rfl, hR2, hF2⟩
          have HR2 := Lib.hid hR2
          clear hR2
          go_wp2_with fail
          refine (HT2.out _ HR2.out).mono ?_
          rintro e w3 ⟨rfl, hb3⟩
          go_wp2_with fail
          refine (HT3.out _ (HR2.out.on hb3)).mono ?_
          rintro e w4 ⟨rfl, hR4, hF4⟩
          have HR4 := Lib.hid hR4
          clear hR4
          go_wp2_with fail
          refine (HC2.out _ HR4.out).mono ?_
          rintro e w5 ⟨rfl, hR5, hF5⟩
          have HR5 := Lib.hid hR5
          clear hR5
          go_wp2
          go_ret3
          exact ⟨rfl, ⟨_, HR5.out⟩, (((hF1.trans hF2).trans (Fr.of_below hb3)).trans hF4).trans hF5⟩
        | true =>
          rw [hok2] at HC2
          by_cases hle : lo ≤ hi
          · have hle' : ¬ (hi : Int) < (lo : Int) := by omega
            by_cases h125 : at_ σ4.t 0 = 125
            · have HT4 := Lib.hid (fun W (hW : Rd n₀ rb tb cap s W σ4 d fc fa bv) => take1_yes 125 (by decide) (by simpa using h125) hW)
              have hb := HB.out
              rw [if_pos (by simp [hok2, hle, h125])] at hb
              subst hb
              clear HB hok2 h125 hle
              go_enter Tryd.func39, Tryd.ntmps39
              go_wp2_with fail
              refine HT.out.mono ?_
              rintro e w1 ⟨rfl, hR1, hF1⟩
              have hR1' := Lib.hid hR1
              clear hR1
              go_wp2_with fail
              refine (HC.out _ hR1'.out).mono ?_
              rintro e w2 ⟨rfl, hR2, hF2⟩
              have HR2 := Lib.hid hR2
              clear hR2
              go_wp2_with fail
              refine (HT2.out _ HR2.out).mono ?_
              rintro e w3 ⟨rfl, hb3⟩
              go_wp2_with fail
              refine (HT3.out _ (HR2.out.on hb3)).mono ?_
              rintro e w4 ⟨rfl, hR4, hF4⟩
              have HR4 := Lib.hid hR4
              clear hR4
              go_wp2_with fail
              refine (HC2.out _ HR4.out).mono ?_
              rintro e w5 ⟨rfl, hR5, hF5⟩
              have HR5 := Lib.hid hR5
              clear hR5
              go_wp2_with fail
              refine (HT4.out _ HR5.out).mono ?_
              rintro e w6 ⟨rfl, hR6, hF6⟩
              have HR6 := Lib.hid hR6
              clear hR6
              go_wp2
              go_ret3
              exact ⟨rfl, HR6.out, ((((hF1.trans hF2).trans (Fr.of_below hb3)).trans hF4).trans hF5).trans hF6⟩
            · have HT4 := Lib.hid (fun W (hW : Rd n₀ rb tb cap s W σ4 d fc fa bv) => take1_no 125 (by decide) (by simpa using h125) hW)
              have hb := HB.out
              rw [if_neg (by simp [hok2, hle, h125])] at hb
              subst hb
              clear HB hok2 h125 hle
              go_enter Tryd.func39, Tryd.ntmps39
              go_wp2_with fail
              refine HT.out.mono ?_
              rintro e w1 ⟨rfl, hR1, hF1⟩
              have hR1' := Lib.hid hR1
              clear hR1
              go_wp2_with fail
              refine (HC.out _ hR1'.out).mono ?_
              rintro e w2 ⟨rfl, hR2, hF2⟩
              have HR2 := Lib.hid hR2
              clear hR2
              go_wp2_with fail
              refine (HT2.out _ HR2.out).mono ?_
              rintro e w3 ⟨rfl, hb3⟩
              go_wp2_with fail
              refine (HT3.out _ (HR2.out.on hb3)).mono ?_
              rintro e w4 ⟨rfl, hR4, hF4⟩
              have HR4 := Lib.hid hR4
              clear hR4
              go_wp2_with fail
              refine (HC2.out _ HR4.out).mono ?_
              rintro e w5 ⟨rfl, hR5, hF5⟩
              have HR5 := Lib.hid hR5
              clear hR5
              go_wp2_with fail
              refine (HT4.out _ HR5.out).mono ?_
              rintro e w6 ⟨rfl, hb6⟩
              go_wp2
              go_ret3
              exact ⟨rfl, ⟨_, HR5.out.on hb6⟩, ((((hF1.trans hF2).trans (Fr.of_below hb3)).trans hF4).trans hF5).trans (Fr.of_below hb6)⟩
          · have hle' : (hi : Int) < (lo : Int) := by omega
            have hb := HB.out
            rw [if_neg (by simp [hok2, hle])] at hb
            subst hb
            clear HB hok2 hle
            go_enter Tryd.func39, Tryd.ntmps39
            go_wp2_with fail
            refine HT.out.mono ?_
            rintro e w1 ⟨rfl, hR1, hF1⟩
            have hR1' := Lib.hid hR1
            clear hR1
            go_wp2_with fail
            refine (HC.out _ hR1'.out).mono ?_
            rintro e w2 ⟨rfl, hR2, hF2⟩
            have HR2 := Lib.hid hR2
            clear hR2
            go_wp2_with fail
            refine (HT2.out _ HR2.out).mono ?_
            rintro e w3 ⟨rfl, hb3⟩
            go_wp2_with fail
            refine (HT3.out _ (HR2.out.on hb3)).mono ?_
            rintro e w4 ⟨rfl, hR4, hF4⟩
            have HR4 := Lib.hid hR4
            clear hR4
            go_wp2_with fail
            refine (HC2.out _ HR4.out).mono ?_
            rintro e w5 ⟨rfl, hR5, hF5⟩
            have HR5 := Lib.hid hR5
            clear hR5
            go_wp2
            go_ret3
            exact ⟨rfl, ⟨_, HR5.out⟩, (((hF1.trans hF2).trans (Fr.of_below hb3)).trans hF4).trans hF5⟩
      · have HT3 := Lib.hid (fun W (hW : Rd n₀ rb tb cap s W σ2 d fc fa bv) => take1_no 44 (by decide) (by simpa using h44) hW)
        rw [if_neg h44] at hb
        have hle' : ¬ (lo : Int) < (lo : Int) := by omega
        by_cases h125 : at_ σ2.t 0 = 125
        · have HT4 := Lib.hid (fun W (hW : Rd n₀ rb tb cap s W σ2 d fc fa bv) => take1_yes 125 (by decide) (by simpa using h125) hW)
          rw [if_pos h125] at hb
          subst hb
          clear h44 h125
          go_enter Tryd.func39, Tryd.ntmps39
          go_wp2_with fail
          refine HT.out.mono ?_
          rintro e w1 ⟨rfl, hR1, hF1⟩
          have hR1' := Lib.hid hR1
          clear hR1
          go_wp2_with fail
          refine (HC.out _ hR1'.out).mono ?_
          rintro e w2 ⟨rfl, hR2, hF2⟩
          have HR2 := Lib.hid hR2
          clear hR2
          go_wp2_with fail
          refine (HT2.out _ HR2.out).mono ?_
          rintro e w3 ⟨rfl, hb3⟩
          go_wp2_with fail
          refine (HT3.out _ (HR2.out.on hb3)).mono ?_
          rintro e w4 ⟨rfl, hb4⟩
          have HR4 := Lib.hid ((HR2.out.on hb3).on hb4)
          go_wp2_with fail
          refine (HT4.out _ HR4.out).mono ?_
          rintro e w6 ⟨rfl, hR6, hF6⟩
          have HR6 := Lib.hid hR6
          clear hR6
          go_wp2
          go_ret3
          exact ⟨rfl, HR6.out, (((hF1.trans hF2).trans (Fr.of_below hb3)).trans (Fr.of_below hb4)).trans hF6⟩
        · have HT4 := Lib.hid (fun W (hW : Rd n₀ rb tb cap s W σ2 d fc fa bv) => take1_no 125 (by decide) (by simpa using h125) hW)
          rw [if_neg h125] at hb
          subst hb
          clear h44 h125
          go_enter Tryd.func39, Tryd.ntmps39
          go_wp2_with fail
          refine HT.out.mono ?_
          rintro e w1 ⟨rfl, hR1, hF1⟩
          have hR1' := Lib.hid hR1
          clear hR1
          go_wp2_with fail
          refine (HC.out _ hR1'.out).mono ?_
          rintro e w2 ⟨rfl, hR2, hF2⟩
          have HR2 := Lib.hid hR2
          clear hR2
          go_wp2_with fail
          refine (HT2.out _ HR2.out).mono ?_
          rintro e w3 ⟨rfl, hb3⟩
          go_wp2_with fail
          refine (HT3.out _ (HR2.out.on hb3)).mono ?_
          rintro e w4 ⟨rfl, hb4⟩
          have HR4 := Lib.hid ((HR2.out.on hb3).on hb4)
          go_wp2_with fail
          refine (HT4.out _ HR4.out).mono ?_
          rintro e w6 ⟨rfl, hb6⟩
          go_wp2
          go_ret3
          exact ⟨rfl, ⟨_, HR4.out.on hb6⟩, (((hF1.trans hF2).trans (Fr.of_below hb3)).trans (Fr.of_below hb4)).trans (Fr.of_below hb6)⟩

theorem times_any (hq : isQ (at_ σ.t 0) = true) (hR : Rd n₀ rb tb cap s w σ d fc fa bv) : Calls Tryd.prog 31 #[.pointer (some ⟨rb, 0, none⟩)] w (QPost n₀ rb tb cap s d fc fa bv w (times σ)) := by
  have HR := Lib.hid hR
  by_cases h0 : at_ σ.t 0 = 42
  · have ht : times σ = some ((0, -1), σ.adv 1) := by unfold times; rw [if_pos h0]
    rw [ht]
    have H0 := Lib.hid (fun W (hW : Rd n₀ rb tb cap s W σ d fc fa bv) => take1_yes 42 (by decide) (by simpa using h0) hW)
    clear hR hq ht h0
    go_enter Tryd.func31, Tryd.ntmps31
    go_wp2_with fail
    refine (H0.out _ HR.out).mono ?_
    rintro e wz ⟨rfl, hRz, hFz⟩
    have HRz := Lib.hid hRz
    clear hRz
    go_wp2
    go_ret3
    exact ⟨rfl, HRz.out, hFz⟩
  · have H0 := Lib.hid (fun W (hW : Rd n₀ rb tb cap s W σ d fc fa bv) => take1_no 42 (by decide) (by simpa using h0) hW)
    by_cases h1 : at_ σ.t 0 = 43
    · have ht : times σ = some ((1, -1), σ.adv 1) := by unfold times; rw [if_neg h0, if_pos h1]
      rw [ht]
      have H1 := Lib.hid (fun W (hW : Rd n₀ rb tb cap s W σ d fc fa bv) => take1_yes 43 (by decide) (by simpa using h1) hW)
      clear hR hq ht h0 h1
      go_enter Tryd.func31, Tryd.ntmps31
      go_wp2_with fail
      refine (H0.out _ HR.out).mono ?_
      rintro e w1 ⟨rfl, hb1⟩
      have hR1 := Lib.hid (HR.out.on hb1)
      have hbb := hb1
      go_wp2_with fail
      refine (H1.out _ hR1.out).mono ?_
      rintro e wz ⟨rfl, hRz, hFz⟩
      have HRz := Lib.hid hRz
      clear hRz
      go_wp2
      go_ret3
      exact ⟨rfl, HRz.out, (Fr.of_below hbb).trans hFz⟩
    · have H1 := Lib.hid (fun W (hW : Rd n₀ rb tb cap s W σ d fc fa bv) => take1_no 43 (by decide) (by simpa using h1) hW)
      by_cases h2 : at_ σ.t 0 = 63
      · have ht : times σ = some ((0, 1), σ.adv 1) := by unfold times; rw [if_neg h0, if_neg h1, if_pos h2]
        rw [ht]
        have H2 := Lib.hid (fun W (hW : Rd n₀ rb tb cap s W σ d fc fa bv) => take1_yes 63 (by decide) (by simpa using h2) hW)
        clear hR hq ht h0 h1 h2
        go_enter Tryd.func31, Tryd.ntmps31
        go_wp2_with fail
        refine (H0.out _ HR.out).mono ?_
        rintro e w1 ⟨rfl, hb1⟩
        have hR1 := Lib.hid (HR.out.on hb1)
        have hbb := hb1
        go_wp2_with fail
        refine (H1.out _ hR1.out).mono ?_
        rintro e w2 ⟨rfl, hb2⟩
        have hR2 := Lib.hid (hR1.out.on hb2)
        replace hbb := hbb.trans (hb2.mono hbb.size)
        go_wp2_with fail
        refine (H2.out _ hR2.out).mono ?_
        rintro e wz ⟨rfl, hRz, hFz⟩
        have HRz := Lib.hid hRz
        clear hRz
        go_wp2
        go_ret3
        exact ⟨rfl, HRz.out, (Fr.of_below hbb).trans hFz⟩
      · have H2 := Lib.hid (fun W (hW : Rd n₀ rb tb cap s W σ d fc fa bv) => take1_no 63 (by decide) (by simpa using h2) hW)
        have h3 : at_ σ.t 0 = 123 := by simp [isQ, h0, h1, h2] at hq; exact hq
        have ht : times σ = braces σ := by unfold times; rw [if_neg h0, if_neg h1, if_neg h2]
        rw [ht]
        have H3 := Lib.hid (fun W (hW : Rd n₀ rb tb cap s W σ d fc fa bv) => braces_any h3 hW)
        obtain ⟨r, hr⟩ : ∃ r, r = braces σ := ⟨_, rfl⟩
        rw [← hr] at H3 ⊢
        clear hR hq ht hr h0 h1 h2 h3
        go_enter Tryd.func31, Tryd.ntmps31
        go_wp2_with fail
        refine (H0.out _ HR.out).mono ?_
        rintro e w1 ⟨rfl, hb1⟩
        have hR1 := Lib.hid (HR.out.on hb1)
        have hbb := hb1
        go_wp2_with fail
        refine (H1.out _ hR1.out).mono ?_
        rintro e w2 ⟨rfl, hb2⟩
        have hR2 := Lib.hid (hR1.out.on hb2)
        replace hbb := hbb.trans (hb2.mono hbb.size)
        go_wp2_with fail
        refine (H2.out _ hR2.out).mono ?_
        rintro e w3 ⟨rfl, hb3⟩
        have hR3 := Lib.hid (hR2.out.on hb3)
        replace hbb := hbb.trans (hb3.mono hbb.size)
        go_wp2_with fail
        refine (H3.out _ hR3.out).mono ?_
        rintro e wz hP
        cases r with
        | some x =>
          obtain ⟨rfl, hRz, hFz⟩ := hP
          have HRz := Lib.hid hRz
          clear hRz
          go_wp2
          go_ret3
          exact ⟨rfl, HRz.out, (Fr.of_below hbb).trans hFz⟩
        | none =>
          obtain ⟨rfl, hRz, hFz⟩ := hP
          have HRz := Lib.hid hRz
          clear hRz
          go_wp2
          go_ret3
          exact ⟨rfl, HRz.out, (Fr.of_below hbb).trans hFz⟩

/-- What a call that reads an opening parenthesis leaves. -/
def OPost (n₀ rb tb cap : Nat) (s : List UInt8) (d : Nat) (fc fa : Int) (bv : Value) (w : World) (r : Except Flt ((Int × Int × Int) × St)) (e : Ending) (w' : World) : Prop :=
  match r with
  | .ok x => e = .returned (.tuple #[.agg #[.int .i64 x.1.1, .int .i64 0, .int .i64 0, .int .i64 x.1.2.1, .int .i64 x.1.2.2, .slice none 0 0, .slice none 0 0], .bool true]) ∧ Rd n₀ rb tb cap s w' x.2 d fc fa bv ∧ Fr n₀ rb w w'
  | .error f => e = .returned (.tuple #[.agg zeros, .bool false]) ∧ Bad w' rb f ∧ Fr n₀ rb w w'
theorem Rd.group (h : Rd n₀ rb tb cap s w (σ.adv 1) d fc fa bv) (hg : σ.g ≤ 8) : Rd n₀ rb tb cap s (w.setCell ⟨rb, 3, none⟩ (.int .i64 ((σ.g : Int) + 1))) (opened σ) d fc fa bv := by
  have hb := (h.blk.set_ 3 (.int .i64 ((σ.g : Int) + 1)))
  have hk : ∀ i, i ≠ rb → (w.setCell ⟨rb, 3, none⟩ (.int .i64 ((σ.g : Int) + 1))).heap[i]? = w.heap[i]? := fun i hi => Below.heap_setCell _ _ _ _ hi
  obtain ⟨ct, zt, ht⟩ := h.tok
  have htr : tb ≠ rb := fun e => ne_of_types ht h.blk (by decide) e
  refine ⟨by simpa [opened, St.adv] using hb, fun j hj => (cell_same (hk tb htr) _).trans (h.txt j hj), ⟨ct, zt, (hk tb htr).trans ht⟩, h.len, ?_, h.pos, h.suf, ⟨h.bnd.1, by simp only [opened]; omega, h.bnd.2.2⟩, h.low, ?_⟩
  · exact own_keep h.own fun i hi => hk i (fun e => own_ne h.own h.blk (by decide) (by rw [← hi, e]))
  · have hr := h.low
    have h1 := h.tabs.1
    exact ⟨h1, fun c hc => (cell_same (hk 0 (by omega)) c).trans (h.tabs.2.1 c hc), fun i hi => ⟨(cell_same (hk 1 (by omega)) _).trans (h.tabs.2.2 i hi).1, (cell_same (hk 1 (by omega)) _).trans (h.tabs.2.2 i hi).2⟩⟩

set_option maxRecDepth 100000 in
set_option maxHeartbeats 8000000 in
theorem opening_any (hc : at_ σ.t 0 = 40) (hR : Rd n₀ rb tb cap s w σ d fc fa bv) : Calls Tryd.prog 40 #[.pointer (some ⟨rb, 0, none⟩)] w (OPost n₀ rb tb cap s d fc fa bv w (opening σ)) := by
  have hrl := hR.blk.lt
  have hgb := hR.bnd.2.1
  have HB0 := Lib.hid (Blk.new w 27 zeros)
  have HR0 := Lib.hid (hR.alloc (.cells zeros 27))
  have HF0 : Hid (Fr n₀ rb w (w.alloc (.cells zeros 27))) := Lib.hid ((Fr.refl w).alloc _)
  have HR := Lib.hid hR
  clear hR
  cases h0 : pre [40, 63, 58] σ.t with
  | true =>
    have ho : opening σ = .ok ((0, 0, 0), σ.adv 3) := by unfold opening; rw [if_pos h0]
    rw [ho]
    have HT := Lib.hid (fun W (hW : Rd n₀ rb tb cap s W σ d fc fa bv) => take_yes [40, 63, 58] h0 hW)
    clear ho hc h0
    go_enter Tryd.func40, Tryd.ntmps40
    go_wp2_with fail
    refine (HT.out _ HR0.out).mono ?_
    rintro e wz ⟨rfl, hRz, hFz⟩
    have hBz := hFz.blk HR0.out HB0.out (by decide) (by decide)
    have hz := hBz.zero
    have hfz := hBz.frozen
    have HRz : Hid (Rd n₀ rb tb cap s wz (σ.adv 3) d fc fa bv) := Lib.hid hRz
    clear hRz
    go_wp2
    exact ret_node rfl rfl rfl rfl (st7_blk hBz) ⟨rfl, HRz.out.st7 hBz HR.out.size, (HF0.out.trans hFz).st7 (Nat.le_refl _)⟩
  | false =>
    have H0 := Lib.hid (fun W (hW : Rd n₀ rb tb cap s W σ d fc fa bv) => take_no [40, 63, 58] h0 hW)
    cases h1 : pre [40, 63, 61] σ.t with
    | true =>
      have ho : opening σ = .ok ((7, 0, 0), σ.adv 3) := by unfold opening; rw [if_neg (by rw [h0]; decide), if_pos h1]
      rw [ho]
      have HT := Lib.hid (fun W (hW : Rd n₀ rb tb cap s W σ d fc fa bv) => take_yes [40, 63, 61] h1 hW)
      clear ho hc h0 h1
      go_enter Tryd.func40, Tryd.ntmps40
      go_wp2_with fail
      refine (H0.out _ HR0.out).mono ?_
      rintro e w1 ⟨rfl, hb1⟩
      have hR1 := Lib.hid (HR0.out.on hb1)
      have hB1 := Lib.hid (HB0.out.on hb1)
      have hF := HF0.out.trans (Fr.of_below hb1)
      clear hb1
      go_wp2_with fail
      refine (HT.out _ hR1.out).mono ?_
      rintro e wz ⟨rfl, hRz, hFz⟩
      have hBz := hFz.blk hR1.out hB1.out (by decide) (by decide)
      have hz := hBz.zero
      have hfz := hBz.frozen
      have HRz : Hid (Rd n₀ rb tb cap s wz (σ.adv 3) d fc fa bv) := Lib.hid hRz
      clear hRz
      go_wp2
      exact ret_node rfl rfl rfl rfl (st7_blk hBz) ⟨rfl, HRz.out.st7 hBz HR.out.size, (hF.trans hFz).st7 (Nat.le_refl _)⟩
    | false =>
      have H1 := Lib.hid (fun W (hW : Rd n₀ rb tb cap s W σ d fc fa bv) => take_no [40, 63, 61] h1 hW)
      cases h2 : pre [40, 63, 33] σ.t with
      | true =>
        have ho : opening σ = .ok ((7, 1, 0), σ.adv 3) := by unfold opening; rw [if_neg (by rw [h0]; decide), if_neg (by rw [h1]; decide), if_pos h2]
        rw [ho]
        have HT := Lib.hid (fun W (hW : Rd n₀ rb tb cap s W σ d fc fa bv) => take_yes [40, 63, 33] h2 hW)
        clear ho hc h0 h1 h2
        go_enter Tryd.func40, Tryd.ntmps40
        go_wp2_with fail
        refine (H0.out _ HR0.out).mono ?_
        rintro e w1 ⟨rfl, hb1⟩
        have hR1 := Lib.hid (HR0.out.on hb1)
        have hB1 := Lib.hid (HB0.out.on hb1)
        have hF := HF0.out.trans (Fr.of_below hb1)
        clear hb1
        go_wp2_with fail
        refine (H1.out _ hR1.out).mono ?_
        rintro e w2 ⟨rfl, hb2⟩
        have hR2 := Lib.hid (hR1.out.on hb2)
        have hB2 := Lib.hid (hB1.out.on hb2)
        replace hF := hF.trans (Fr.of_below hb2)
        clear hb2
        go_wp2_with fail
        refine (HT.out _ hR2.out).mono ?_
        rintro e wz ⟨rfl, hRz, hFz⟩
        have hBz := hFz.blk hR2.out hB2.out (by decide) (by decide)
        have hz := hBz.zero
        have hfz := hBz.frozen
        have HRz : Hid (Rd n₀ rb tb cap s wz (σ.adv 3) d fc fa bv) := Lib.hid hRz
        clear hRz
        go_wp2
        exact ret_node rfl rfl rfl rfl (st7_blk hBz) ⟨rfl, HRz.out.st7 hBz HR.out.size, (hF.trans hFz).st7 (Nat.le_refl _)⟩
      | false =>
        have H2 := Lib.hid (fun W (hW : Rd n₀ rb tb cap s W σ d fc fa bv) => take_no [40, 63, 33] h2 hW)
        cases h3 : pre [40, 63, 60, 61] σ.t with
        | true =>
          have ho : opening σ = .ok ((7, 2, 0), σ.adv 4) := by unfold opening; rw [if_neg (by rw [h0]; decide), if_neg (by rw [h1]; decide), if_neg (by rw [h2]; decide), if_pos h3]
          rw [ho]
          have HT := Lib.hid (fun W (hW : Rd n₀ rb tb cap s W σ d fc fa bv) => take_yes [40, 63, 60, 61] h3 hW)
          clear ho hc h0 h1 h2 h3
          go_enter Tryd.func40, Tryd.ntmps40
          go_wp2_with fail
          refine (H0.out _ HR0.out).mono ?_
          rintro e w1 ⟨rfl, hb1⟩
          have hR1 := Lib.hid (HR0.out.on hb1)
          have hB1 := Lib.hid (HB0.out.on hb1)
          have hF := HF0.out.trans (Fr.of_below hb1)
          clear hb1
          go_wp2_with fail
          refine (H1.out _ hR1.out).mono ?_
          rintro e w2 ⟨rfl, hb2⟩
          have hR2 := Lib.hid (hR1.out.on hb2)
          have hB2 := Lib.hid (hB1.out.on hb2)
          replace hF := hF.trans (Fr.of_below hb2)
          clear hb2
          go_wp2_with fail
          refine (H2.out _ hR2.out).mono ?_
          rintro e w3 ⟨rfl, hb3⟩
          have hR3 := Lib.hid (hR2.out.on hb3)
          have hB3 := Lib.hid (hB2.out.on hb3)
          replace hF := hF.trans (Fr.of_below hb3)
          clear hb3
          go_wp2_with fail
          refine (HT.out _ hR3.out).mono ?_
          rintro e wz ⟨rfl, hRz, hFz⟩
          have hBz := hFz.blk hR3.out hB3.out (by decide) (by decide)
          have hz := hBz.zero
          have hfz := hBz.frozen
          have HRz : Hid (Rd n₀ rb tb cap s wz (σ.adv 4) d fc fa bv) := Lib.hid hRz
          clear hRz
          go_wp2
          exact ret_node rfl rfl rfl rfl (st7_blk hBz) ⟨rfl, HRz.out.st7 hBz HR.out.size, (hF.trans hFz).st7 (Nat.le_refl _)⟩
        | false =>
          have H3 := Lib.hid (fun W (hW : Rd n₀ rb tb cap s W σ d fc fa bv) => take_no [40, 63, 60, 61] h3 hW)
          cases h4 : pre [40, 63, 60, 33] σ.t with
          | true =>
            have ho : opening σ = .ok ((7, 3, 0), σ.adv 4) := by unfold opening; rw [if_neg (by rw [h0]; decide), if_neg (by rw [h1]; decide), if_neg (by rw [h2]; decide), if_neg (by rw [h3]; decide), if_pos h4]
            rw [ho]
            have HT := Lib.hid (fun W (hW : Rd n₀ rb tb cap s W σ d fc fa bv) => take_yes [40, 63, 60, 33] h4 hW)
            clear ho hc h0 h1 h2 h3 h4
            go_enter Tryd.func40, Tryd.ntmps40
            go_wp2_with fail
            refine (H0.out _ HR0.out).mono ?_
            rintro e w1 ⟨rfl, hb1⟩
            have hR1 := Lib.hid (HR0.out.on hb1)
            have hB1 := Lib.hid (HB0.out.on hb1)
            have hF := HF0.out.trans (Fr.of_below hb1)
            clear hb1
            go_wp2_with fail
            refine (H1.out _ hR1.out).mono ?_
            rintro e w2 ⟨rfl, hb2⟩
            have hR2 := Lib.hid (hR1.out.on hb2)
            have hB2 := Lib.hid (hB1.out.on hb2)
            replace hF := hF.trans (Fr.of_below hb2)
            clear hb2
            go_wp2_with fail
            refine (H2.out _ hR2.out).mono ?_
            rintro e w3 ⟨rfl, hb3⟩
            have hR3 := Lib.hid (hR2.out.on hb3)
            have hB3 := Lib.hid (hB2.out.on hb3)
            replace hF := hF.trans (Fr.of_below hb3)
            clear hb3
            go_wp2_with fail
            refine (H3.out _ hR3.out).mono ?_
            rintro e w4 ⟨rfl, hb4⟩
            have hR4 := Lib.hid (hR3.out.on hb4)
            have hB4 := Lib.hid (hB3.out.on hb4)
            replace hF := hF.trans (Fr.of_below hb4)
            clear hb4
            go_wp2_with fail
            refine (HT.out _ hR4.out).mono ?_
            rintro e wz ⟨rfl, hRz, hFz⟩
            have hBz := hFz.blk hR4.out hB4.out (by decide) (by decide)
            have hz := hBz.zero
            have hfz := hBz.frozen
            have HRz : Hid (Rd n₀ rb tb cap s wz (σ.adv 4) d fc fa bv) := Lib.hid hRz
            clear hRz
            go_wp2
            exact ret_node rfl rfl rfl rfl (st7_blk hBz) ⟨rfl, HRz.out.st7 hBz HR.out.size, (hF.trans hFz).st7 (Nat.le_refl _)⟩
          | false =>
            have H4 := Lib.hid (fun W (hW : Rd n₀ rb tb cap s W σ d fc fa bv) => take_no [40, 63, 60, 33] h4 hW)
            cases h5 : pre [40, 63, 62] σ.t with
            | true =>
              have ho : opening σ = .ok ((8, 0, 0), σ.adv 3) := by unfold opening; rw [if_neg (by rw [h0]; decide), if_neg (by rw [h1]; decide), if_neg (by rw [h2]; decide), if_neg (by rw [h3]; decide), if_neg (by rw [h4]; decide), if_pos h5]
              rw [ho]
              have HT := Lib.hid (fun W (hW : Rd n₀ rb tb cap s W σ d fc fa bv) => take_yes [40, 63, 62] h5 hW)
              clear ho hc h0 h1 h2 h3 h4 h5
              go_enter Tryd.func40, Tryd.ntmps40
              go_wp2_with fail
              refine (H0.out _ HR0.out).mono ?_
              rintro e w1 ⟨rfl, hb1⟩
              have hR1 := Lib.hid (HR0.out.on hb1)
              have hB1 := Lib.hid (HB0.out.on hb1)
              have hF := HF0.out.trans (Fr.of_below hb1)
              clear hb1
              go_wp2_with fail
              refine (H1.out _ hR1.out).mono ?_
              rintro e w2 ⟨rfl, hb2⟩
              have hR2 := Lib.hid (hR1.out.on hb2)
              have hB2 := Lib.hid (hB1.out.on hb2)
              replace hF := hF.trans (Fr.of_below hb2)
              clear hb2
              go_wp2_with fail
              refine (H2.out _ hR2.out).mono ?_
              rintro e w3 ⟨rfl, hb3⟩
              have hR3 := Lib.hid (hR2.out.on hb3)
              have hB3 := Lib.hid (hB2.out.on hb3)
              replace hF := hF.trans (Fr.of_below hb3)
              clear hb3
              go_wp2_with fail
              refine (H3.out _ hR3.out).mono ?_
              rintro e w4 ⟨rfl, hb4⟩
              have hR4 := Lib.hid (hR3.out.on hb4)
              have hB4 := Lib.hid (hB3.out.on hb4)
              replace hF := hF.trans (Fr.of_below hb4)
              clear hb4
              go_wp2_with fail
              refine (H4.out _ hR4.out).mono ?_
              rintro e w5 ⟨rfl, hb5⟩
              have hR5 := Lib.hid (hR4.out.on hb5)
              have hB5 := Lib.hid (hB4.out.on hb5)
              replace hF := hF.trans (Fr.of_below hb5)
              clear hb5
              go_wp2_with fail
              refine (HT.out _ hR5.out).mono ?_
              rintro e wz ⟨rfl, hRz, hFz⟩
              have hBz := hFz.blk hR5.out hB5.out (by decide) (by decide)
              have hz := hBz.zero
              have hfz := hBz.frozen
              have HRz : Hid (Rd n₀ rb tb cap s wz (σ.adv 3) d fc fa bv) := Lib.hid hRz
              clear hRz
              go_wp2
              exact ret_node rfl rfl rfl rfl (st7_blk hBz) ⟨rfl, HRz.out.st7 hBz HR.out.size, (hF.trans hFz).st7 (Nat.le_refl _)⟩
            | false =>
              have H5 := Lib.hid (fun W (hW : Rd n₀ rb tb cap s W σ d fc fa bv) => take_no [40, 63, 62] h5 hW)
              cases h6 : pre [40, 63] σ.t with
              | true =>
                have ho : opening σ = .error (20, σ.pos) := by unfold opening; rw [if_neg (by rw [h0]; decide), if_neg (by rw [h1]; decide), if_neg (by rw [h2]; decide), if_neg (by rw [h3]; decide), if_neg (by rw [h4]; decide), if_neg (by rw [h5]; decide), if_pos h6]
                rw [ho]
                have HT := Lib.hid (fun W (hW : Rd n₀ rb tb cap s W σ d fc fa bv) => show Calls Tryd.prog 24 #[.pointer (some ⟨rb, 0, none⟩), .string ⟨[40, 63].toArray⟩] W fun e w' => e = .returned (.bool true) ∧ Below W.heap.size W w' by have := sees_any [40, 63] hW; rwa [h6] at this)
                clear ho hc h0 h1 h2 h3 h4 h5 h6
                go_enter Tryd.func40, Tryd.ntmps40
                go_wp2_with fail
                refine (H0.out _ HR0.out).mono ?_
                rintro e w1 ⟨rfl, hb1⟩
                have hR1 := Lib.hid (HR0.out.on hb1)
                have hB1 := Lib.hid (HB0.out.on hb1)
                have hF := HF0.out.trans (Fr.of_below hb1)
                clear hb1
                go_wp2_with fail
                refine (H1.out _ hR1.out).mono ?_
                rintro e w2 ⟨rfl, hb2⟩
                have hR2 := Lib.hid (hR1.out.on hb2)
                have hB2 := Lib.hid (hB1.out.on hb2)
                replace hF := hF.trans (Fr.of_below hb2)
                clear hb2
                go_wp2_with fail
                refine (H2.out _ hR2.out).mono ?_
                rintro e w3 ⟨rfl, hb3⟩
                have hR3 := Lib.hid (hR2.out.on hb3)
                have hB3 := Lib.hid (hB2.out.on hb3)
                replace hF := hF.trans (Fr.of_below hb3)
                clear hb3
                go_wp2_with fail
                refine (H3.out _ hR3.out).mono ?_
                rintro e w4 ⟨rfl, hb4⟩
                have hR4 := Lib.hid (hR3.out.on hb4)
                have hB4 := Lib.hid (hB3.out.on hb4)
                replace hF := hF.trans (Fr.of_below hb4)
                clear hb4
                go_wp2_with fail
                refine (H4.out _ hR4.out).mono ?_
                rintro e w5 ⟨rfl, hb5⟩
                have hR5 := Lib.hid (hR4.out.on hb5)
                have hB5 := Lib.hid (hB4.out.on hb5)
                replace hF := hF.trans (Fr.of_below hb5)
                clear hb5
                go_wp2_with fail
                refine (H5.out _ hR5.out).mono ?_
                rintro e w6 ⟨rfl, hb6⟩
                have hR6 := Lib.hid (hR5.out.on hb6)
                have hB6 := Lib.hid (hB5.out.on hb6)
                replace hF := hF.trans (Fr.of_below hb6)
                clear hb6
                go_wp2_with fail
                refine (HT.out _ hR6.out).mono ?_
                rintro e w7 ⟨rfl, hb7⟩
                have hR7 := Lib.hid (hR6.out.on hb7)
                have hB7 := Lib.hid (hB6.out.on hb7)
                have c1 := hR7.out.c1
                go_wp2_with fail
                refine (refuse_bad 20 σ.pos hR7.out).mono ?_
                rintro e wz ⟨rfl, hB, hFz⟩
                have hBz := hFz.blk hR7.out hB7.out (by decide) (by decide)
                have hz := hBz.zero
                have hfz := hBz.frozen
                go_wp2
                exact ret_node rfl rfl rfl rfl (st7_blk hBz) ⟨rfl, hB.st7 (by omega), ((hF.trans (Fr.of_below hb7)).trans hFz).st7 (Nat.le_refl _)⟩
              | false =>
                have H6 := Lib.hid (fun W (hW : Rd n₀ rb tb cap s W σ d fc fa bv) => show Calls Tryd.prog 24 #[.pointer (some ⟨rb, 0, none⟩), .string ⟨[40, 63].toArray⟩] W fun e w' => e = .returned (.bool false) ∧ Below W.heap.size W w' by have := sees_any [40, 63] hW; rwa [h6] at this)
                by_cases hg : σ.g = 9
                · have ho : opening σ = .error (24, σ.pos) := by unfold opening; rw [if_neg (by rw [h0]; decide), if_neg (by rw [h1]; decide), if_neg (by rw [h2]; decide), if_neg (by rw [h3]; decide), if_neg (by rw [h4]; decide), if_neg (by rw [h5]; decide), if_neg (by rw [h6]; decide), if_pos hg]
                  rw [ho]
                  clear ho hc h0 h1 h2 h3 h4 h5 h6
                  go_enter Tryd.func40, Tryd.ntmps40
                  go_wp2_with fail
                  refine (H0.out _ HR0.out).mono ?_
                  rintro e w1 ⟨rfl, hb1⟩
                  have hR1 := Lib.hid (HR0.out.on hb1)
                  have hB1 := Lib.hid (HB0.out.on hb1)
                  have hF := HF0.out.trans (Fr.of_below hb1)
                  clear hb1
                  go_wp2_with fail
                  refine (H1.out _ hR1.out).mono ?_
                  rintro e w2 ⟨rfl, hb2⟩
                  have hR2 := Lib.hid (hR1.out.on hb2)
                  have hB2 := Lib.hid (hB1.out.on hb2)
                  replace hF := hF.trans (Fr.of_below hb2)
                  clear hb2
                  go_wp2_with fail
                  refine (H2.out _ hR2.out).mono ?_
                  rintro e w3 ⟨rfl, hb3⟩
                  have hR3 := Lib.hid (hR2.out.on hb3)
                  have hB3 := Lib.hid (hB2.out.on hb3)
                  replace hF := hF.trans (Fr.of_below hb3)
                  clear hb3
                  go_wp2_with fail
                  refine (H3.out _ hR3.out).mono ?_
                  rintro e w4 ⟨rfl, hb4⟩
                  have hR4 := Lib.hid (hR3.out.on hb4)
                  have hB4 := Lib.hid (hB3.out.on hb4)
                  replace hF := hF.trans (Fr.of_below hb4)
                  clear hb4
                  go_wp2_with fail
                  refine (H4.out _ hR4.out).mono ?_
                  rintro e w5 ⟨rfl, hb5⟩
                  have hR5 := Lib.hid (hR4.out.on hb5)
                  have hB5 := Lib.hid (hB4.out.on hb5)
                  replace hF := hF.trans (Fr.of_below hb5)
                  clear hb5
                  go_wp2_with fail
                  refine (H5.out _ hR5.out).mono ?_
                  rintro e w6 ⟨rfl, hb6⟩
                  have hR6 := Lib.hid (hR5.out.on hb6)
                  have hB6 := Lib.hid (hB5.out.on hb6)
                  replace hF := hF.trans (Fr.of_below hb6)
                  clear hb6
                  go_wp2_with fail
                  refine (H6.out _ hR6.out).mono ?_
                  rintro e w7 ⟨rfl, hb7⟩
                  have hR7 := Lib.hid (hR6.out.on hb7)
                  have hB7 := Lib.hid (hB6.out.on hb7)
                  replace hF := hF.trans (Fr.of_below hb7)
                  clear hb7
                  have c1 := hR7.out.c1
                  have c3 := hR7.out.c3
                  rw [hg] at c3
                  clear hg
                  go_wp2_with fail
                  refine (refuse_bad 24 σ.pos hR7.out).mono ?_
                  rintro e wz ⟨rfl, hB, hFz⟩
                  have hBz := hFz.blk hR7.out hB7.out (by decide) (by decide)
                  have hz := hBz.zero
                  have hfz := hBz.frozen
                  go_wp2
                  exact ret_node rfl rfl rfl rfl (st7_blk hBz) ⟨rfl, hB.st7 (by omega), (hF.trans hFz).st7 (Nat.le_refl _)⟩
                · have ho : opening σ = .ok ((5, 0, ((σ.g + 1 : Nat) : Int)), opened σ) := by unfold opening; rw [if_neg (by rw [h0]; decide), if_neg (by rw [h1]; decide), if_neg (by rw [h2]; decide), if_neg (by rw [h3]; decide), if_neg (by rw [h4]; decide), if_neg (by rw [h5]; decide), if_neg (by rw [h6]; decide), if_neg hg]
                  rw [ho]
                  have HT := Lib.hid (fun W (hW : Rd n₀ rb tb cap s W σ d fc fa bv) => take1_yes 40 (by decide) (by simpa using hc) hW)
                  have hg8 : σ.g ≤ 8 := by omega
                  have hg9 : ((σ.g : Int) == 9) = false := by simp; omega
                  clear ho hc hg h0 h1 h2 h3 h4 h5 h6
                  go_enter Tryd.func40, Tryd.ntmps40
                  go_wp2_with fail
                  refine (H0.out _ HR0.out).mono ?_
                  rintro e w1 ⟨rfl, hb1⟩
                  have hR1 := Lib.hid (HR0.out.on hb1)
                  have hB1 := Lib.hid (HB0.out.on hb1)
                  have hF := HF0.out.trans (Fr.of_below hb1)
                  clear hb1
                  go_wp2_with fail
                  refine (H1.out _ hR1.out).mono ?_
                  rintro e w2 ⟨rfl, hb2⟩
                  have hR2 := Lib.hid (hR1.out.on hb2)
                  have hB2 := Lib.hid (hB1.out.on hb2)
                  replace hF := hF.trans (Fr.of_below hb2)
                  clear hb2
                  go_wp2_with fail
                  refine (H2.out _ hR2.out).mono ?_
                  rintro e w3 ⟨rfl, hb3⟩
                  have hR3 := Lib.hid (hR2.out.on hb3)
                  have hB3 := Lib.hid (hB2.out.on hb3)
                  replace hF := hF.trans (Fr.of_below hb3)
                  clear hb3
                  go_wp2_with fail
                  refine (H3.out _ hR3.out).mono ?_
                  rintro e w4 ⟨rfl, hb4⟩
                  have hR4 := Lib.hid (hR3.out.on hb4)
                  have hB4 := Lib.hid (hB3.out.on hb4)
                  replace hF := hF.trans (Fr.of_below hb4)
                  clear hb4
                  go_wp2_with fail
                  refine (H4.out _ hR4.out).mono ?_
                  rintro e w5 ⟨rfl, hb5⟩
                  have hR5 := Lib.hid (hR4.out.on hb5)
                  have hB5 := Lib.hid (hB4.out.on hb5)
                  replace hF := hF.trans (Fr.of_below hb5)
                  clear hb5
                  go_wp2_with fail
                  refine (H5.out _ hR5.out).mono ?_
                  rintro e w6 ⟨rfl, hb6⟩
                  have hR6 := Lib.hid (hR5.out.on hb6)
                  have hB6 := Lib.hid (hB5.out.on hb6)
                  replace hF := hF.trans (Fr.of_below hb6)
                  clear hb6
                  go_wp2_with fail
                  refine (H6.out _ hR6.out).mono ?_
                  rintro e w7 ⟨rfl, hb7⟩
                  have hR7 := Lib.hid (hR6.out.on hb7)
                  have hB7 := Lib.hid (hB6.out.on hb7)
                  replace hF := hF.trans (Fr.of_below hb7)
                  clear hb7
                  have c3 := hR7.out.c3
                  go_wp2_with fail
                  refine (HT.out _ hR7.out).mono ?_
                  rintro e w8 ⟨rfl, hR8, hF8⟩
                  have c3' : w8.cell? ⟨rb, 3, none⟩ = some (.int .i64 (σ.g : Nat)) := hR8.c3
                  have f3 := hR8.fz 3
                  have hB8 := (hF8.blk hR7.out hB7.out (by decide) (by decide)).far (p := ⟨rb, 3, none⟩) (ne_of_types hB7.out hR7.out.blk (by decide)) (.int .i64 ((σ.g : Int) + 1))
                  have hz := hB8.zero
                  have hfz := hB8.frozen
                  have hRg := hR8.group hg8
                  have c3g : (w8.setCell ⟨rb, 3, none⟩ (.int .i64 ((σ.g : Int) + 1))).cell? ⟨rb, 3, none⟩ = some (.int .i64 ((σ.g : Int) + 1)) := hRg.c3
                  have HRg := Lib.hid hRg
                  have HR8 := Lib.hid hR8
                  clear hRg hR8
                  go_wp2
                  exact ret_node rfl rfl rfl rfl (st7_blk hB8) ⟨rfl, HRg.out.st7 hB8 HR.out.size, ((hF.trans hF8).set_ HR.out.low (.inr rfl) _).st7 (Nat.le_refl _)⟩

end Go.Proofs.YthipgidddgdojaaDoor
