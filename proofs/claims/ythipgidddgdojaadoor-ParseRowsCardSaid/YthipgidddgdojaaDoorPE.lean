/- An escape that stands for one unit; a unit of a class. -/
import Derived.Test.YthipgidddgdojaaDoorPD
namespace Go.Proofs.YthipgidddgdojaaDoor
open Go.RowKit
variable {n₀ rb tb cap d : Nat} {s : List UInt8} {w w' : World} {σ σ1 : St} {fc fa : Int} {bv : Value}

/-- What a call that reads a unit leaves. -/
def UPost (n₀ rb tb cap : Nat) (s : List UInt8) (d : Nat) (fc fa : Int) (bv : Value) (w : World) (r : Except Flt (Nat × St)) (e : Ending) (w' : World) : Prop :=
  match r with
  | .ok x => e = .returned (.tuple #[.int .i64 (x.1 : Nat), .bool true]) ∧ Rd n₀ rb tb cap s w' x.2 d fc fa bv ∧ Fr n₀ rb w w'
  | .error f => e = .returned (.tuple #[.int .i64 0, .bool false]) ∧ Bad w' rb f ∧ Fr n₀ rb w w'

theorem hexUnit_any (hs : sign σ.t = 120) (hR : Rd n₀ rb tb cap s w σ d fc fa bv) : Calls Tryd.prog 61 #[.pointer (some ⟨rb, 0, none⟩)] w (UPost n₀ rb tb cap s d fc fa bv w (escUnit σ)) := by
  unfold escUnit
  rw [if_pos hs]
  by_cases h : σ.t.length < 4
  · rw [if_pos h]
    exact (hexUnit_short h hR).mono fun _ _ h => h
  · rw [if_neg h]
    refine (hexUnit_long (by omega) _ _ rfl rfl hR).mono fun e w' hp => ?_
    rcases hp with ⟨h2, h3, he, hr, hf⟩ | ⟨hb, he, hr, hf⟩
    · rw [h2, h3]
      exact ⟨he, hr, hf⟩
    · rw [hb]
      exact ⟨he, hr, hf⟩

set_option maxRecDepth 100000 in
set_option maxHeartbeats 1000000 in
theorem escUnit_any (hR : Rd n₀ rb tb cap s w σ d fc fa bv) : Calls Tryd.prog 46 #[.pointer (some ⟨rb, 0, none⟩)] w (UPost n₀ rb tb cap s d fc fa bv w (escUnit σ)) := by
  have hsg := sign_any hR
  have hx := at_lt σ.t 1
  have hlt : sign σ.t < 256 := by unfold sign; split <;> omega
  have hp := hR.pos
  have ht := hR.tl
  have hl := hR.len
  have HR := Lib.hid hR
  have hmk := isMark_any (sign σ.t)
  by_cases h1 : sign σ.t = 120
  · have hh := fun W (h : Rd n₀ rb tb cap s W σ d fc fa bv) => hexUnit_any h1 h
    obtain ⟨r, hr⟩ : ∃ r, r = escUnit σ := ⟨_, rfl⟩
    rw [← hr] at hh ⊢
    rw [h1] at hsg
    have H := Lib.hid hh
    have HS := Lib.hid hsg
    clear hh hsg hmk hR h1 hr
    go_enter Tryd.func46, Tryd.ntmps46
    go_wp2_with fail
    refine HS.out.mono ?_
    rintro e w1 ⟨rfl, hb⟩
    have hR1 := Lib.hid (HR.out.on hb)
    go_wp2_with fail
    refine (H.out _ hR1.out).mono ?_
    rintro e w2 hP
    cases r with
    | ok x =>
      obtain ⟨rfl, hR2, hF⟩ := hP
      have HR2 := Lib.hid hR2
      clear hR2
      go_wp2
      go_ret2
      exact ⟨rfl, HR2.out, (Fr.of_below hb).trans hF⟩
    | error f =>
      obtain ⟨rfl, hB, hF⟩ := hP
      go_wp2
      go_ret2
      exact ⟨rfl, hB, (Fr.of_below hb).trans hF⟩
  · by_cases h2 : sign σ.t = 110
    · have hr : escUnit σ = .ok (10, σ.adv 2) := by unfold escUnit; rw [if_neg h1, if_pos h2]
      have hl2 := (sign_len (t := σ.t) (by omega)).1
      rw [hr]
      rw [h2] at hsg
      have HS := Lib.hid hsg
      clear hsg hmk hR h1 h2 hr
      go_enter Tryd.func46, Tryd.ntmps46
      go_wp2_with fail
      refine HS.out.mono ?_
      rintro e w1 ⟨rfl, hb⟩
      have hR1 := HR.out.on hb
      have c1 := hR1.c1
      have f1 := hR1.fz 1
      have HR1 := Lib.hid hR1
      clear hR1
      go_wp2
      go_ret2
      exact ⟨rfl, HR1.out.step' (n := 2) hl2, HR1.out.below_set (Fr.of_below hb) _ _⟩
    · by_cases h3 : sign σ.t = 116
      · have hr : escUnit σ = .ok (9, σ.adv 2) := by unfold escUnit; rw [if_neg h1, if_neg h2, if_pos h3]
        have hl2 := (sign_len (t := σ.t) (by omega)).1
        rw [hr]
        rw [h3] at hsg
        have HS := Lib.hid hsg
        clear hsg hmk hR h1 h2 h3 hr
        go_enter Tryd.func46, Tryd.ntmps46
        go_wp2_with fail
        refine HS.out.mono ?_
        rintro e w1 ⟨rfl, hb⟩
        have hR1 := HR.out.on hb
        have c1 := hR1.c1
        have f1 := hR1.fz 1
        have HR1 := Lib.hid hR1
        clear hR1
        go_wp2
        go_ret2
        exact ⟨rfl, HR1.out.step' (n := 2) hl2, HR1.out.below_set (Fr.of_below hb) _ _⟩
      · by_cases h4 : sign σ.t = 114
        · have hr : escUnit σ = .ok (13, σ.adv 2) := by unfold escUnit; rw [if_neg h1, if_neg h2, if_neg h3, if_pos h4]
          have hl2 := (sign_len (t := σ.t) (by omega)).1
          rw [hr]
          rw [h4] at hsg
          have HS := Lib.hid hsg
          clear hsg hmk hR h1 h2 h3 h4 hr
          go_enter Tryd.func46, Tryd.ntmps46
          go_wp2_with fail
          refine HS.out.mono ?_
          rintro e w1 ⟨rfl, hb⟩
          have hR1 := HR.out.on hb
          have c1 := hR1.c1
          have f1 := hR1.fz 1
          have HR1 := Lib.hid hR1
          clear hR1
          go_wp2
          go_ret2
          exact ⟨rfl, HR1.out.step' (n := 2) hl2, HR1.out.below_set (Fr.of_below hb) _ _⟩
        · have e1 : ((sign σ.t : Int) == 120) = false := by simp; omega
          have e2 : ((sign σ.t : Int) == 110) = false := by simp; omega
          have e3 : ((sign σ.t : Int) == 116) = false := by simp; omega
          have e4 : ((sign σ.t : Int) == 114) = false := by simp; omega
          cases h5 : isMark (sign σ.t) with
          | true =>
            have hl2 := (sign_len (t := σ.t) (by intro e; rw [e] at h5; simp [isMark] at h5)).1
            have hr : escUnit σ = .ok (sign σ.t, σ.adv 2) := by unfold escUnit; rw [if_neg h1, if_neg h2, if_neg h3, if_neg h4, if_pos h5]
            rw [hr]
            obtain ⟨c, hc⟩ : ∃ c, c = sign σ.t := ⟨_, rfl⟩
            rw [h5] at hmk
            rw [← hc] at hmk hsg e1 e2 e3 e4 hlt ⊢
            have HS := Lib.hid hsg
            clear hsg hR h1 h2 h3 h4 h5 hr hc
            go_enter Tryd.func46, Tryd.ntmps46
            go_wp2_with fail
            refine HS.out.mono ?_
            rintro e w1 ⟨rfl, hb⟩
            have hR1 := HR.out.on hb
            have c1 := hR1.c1
            have f1 := hR1.fz 1
            have HR1 := Lib.hid hR1
            clear hR1
            go_wp2_with (go_at_call 62; refine (hmk _).mono ?_; rintro e w' ⟨rfl, rfl⟩)
            go_ret2
            exact ⟨rfl, HR1.out.step' (n := 2) hl2, HR1.out.below_set (Fr.of_below hb) _ _⟩
          | false =>
            have hr : escUnit σ = .error (21, σ.pos) := by unfold escUnit; rw [if_neg h1, if_neg h2, if_neg h3, if_neg h4, if_neg (by rw [h5]; decide)]
            rw [hr]
            obtain ⟨c, hc⟩ : ∃ c, c = sign σ.t := ⟨_, rfl⟩
            rw [h5] at hmk
            rw [← hc] at hmk hsg e1 e2 e3 e4 hlt
            have HS := Lib.hid hsg
            clear hsg hR h1 h2 h3 h4 h5 hr hc
            go_enter Tryd.func46, Tryd.ntmps46
            go_wp2_with fail
            refine HS.out.mono ?_
            rintro e w1 ⟨rfl, hb⟩
            have hR1 := HR.out.on hb
            have c1 := hR1.c1
            have HR1 := Lib.hid hR1
            clear hR1
            go_wp2_with (first | (go_at_call 62; refine (hmk _).mono ?_; rintro e w' ⟨rfl, rfl⟩) | (go_at_call 22; refine (refuse_bad 21 σ.pos HR1.out).mono ?_; rintro e w2 ⟨rfl, hB, hF⟩))
            go_ret2
            exact ⟨rfl, hB, (Fr.of_below hb).trans hF⟩

set_option maxRecDepth 100000 in
set_option maxHeartbeats 1000000 in
theorem mUnit_any (hn : σ.t ≠ []) (hR : Rd n₀ rb tb cap s w σ d fc fa bv) : Calls Tryd.prog 49 #[.pointer (some ⟨rb, 0, none⟩)] w (UPost n₀ rb tb cap s d fc fa bv w (mUnit σ)) := by
  have hs := sees_any [92] hR
  rw [pre_one 92 _ (by decide)] at hs
  have HR := Lib.hid hR
  by_cases h : at_ σ.t 0 = 92
  · have hm : mUnit σ = escUnit σ := by unfold mUnit; rw [if_pos h]
    have hd : decide (at_ σ.t 0 = (92 : UInt8).toNat) = true := by simpa using h
    rw [hd] at hs
    rw [hm]
    have H := Lib.hid hs
    obtain ⟨r, hr⟩ : ∃ r, r = escUnit σ := ⟨_, rfl⟩
    have HE := Lib.hid (fun W (h : Rd n₀ rb tb cap s W σ d fc fa bv) => escUnit_any h)
    rw [← hr] at HE ⊢
    clear hs hR h hm hr hd
    go_enter Tryd.func49, Tryd.ntmps49
    go_wp2_with fail
    refine H.out.mono ?_
    rintro e w1 ⟨rfl, hb⟩
    go_wp2_with fail
    refine (HE.out _ (HR.out.on hb)).mono ?_
    rintro e w2 hP
    cases r with
    | ok x =>
      obtain ⟨rfl, hR2, hF⟩ := hP
      have HR2 := Lib.hid hR2
      clear hR2
      go_wp2
      go_ret2
      exact ⟨rfl, HR2.out, (Fr.of_below hb).trans hF⟩
    | error f =>
      obtain ⟨rfl, hB, hF⟩ := hP
      go_wp2
      go_ret2
      exact ⟨rfl, hB, (Fr.of_below hb).trans hF⟩
  · have hm : mUnit σ = .ok ((nx σ.t).1, σ.adv (nx σ.t).2) := by unfold mUnit; rw [if_neg h]
    have hd : decide (at_ σ.t 0 = (92 : UInt8).toNat) = false := by simpa using h
    rw [hd] at hs
    rw [hm]
    have H := Lib.hid hs
    have HE := Lib.hid (fun W (h : Rd n₀ rb tb cap s W σ d fc fa bv) => plain_any hn h)
    obtain ⟨u, hu⟩ : ∃ u, u = (nx σ.t).1 := ⟨_, rfl⟩
    rw [← hu] at HE ⊢
    clear hs hR h hm hu hd
    go_enter Tryd.func49, Tryd.ntmps49
    go_wp2_with fail
    refine H.out.mono ?_
    rintro e w1 ⟨rfl, hb⟩
    go_wp2_with fail
    refine (HE.out _ (HR.out.on hb)).mono ?_
    rintro e w2 ⟨rfl, hR2, hF⟩
    have HR2 := Lib.hid hR2
    clear hR2
    go_wp2
    go_ret2
    exact ⟨rfl, HR2.out, (Fr.of_below hb).trans hF⟩

end Go.Proofs.YthipgidddgdojaaDoor
