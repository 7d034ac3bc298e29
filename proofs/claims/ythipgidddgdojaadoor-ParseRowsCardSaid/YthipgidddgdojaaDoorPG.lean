/- A member of a class. -/
import Derived.Test.YthipgidddgdojaaDoorPF
import Derived.Test.YthipgidddgdojaaDoorPmLen
namespace Go.Proofs.YthipgidddgdojaaDoor
open Go.RowKit
open Go.Proofs.YthipgidddgdojaaDoor.Cl (Rg SetV SetAt rgCells Norm Rt gaps GivesO not_own make_own rgCells_get rgCells_len)
variable {n₀ rb tb cap d : Nat} {s : List UInt8} {w w' : World} {σ σ1 : St} {fc fa : Int} {bv v : Value} {l : List Rg}

def MPost (n₀ rb tb cap : Nat) (s : List UInt8) (d : Nat) (fc fa : Int) (bv : Value) (w : World) (r : Except Flt (List Rg × St)) (e : Ending) (w' : World) : Prop :=
  match r with
  | .ok x => ∃ v, e = .returned (.tuple #[v, .bool true]) ∧ SetR w' v x.1 ∧ Rd n₀ rb tb cap s w' x.2 d fc fa bv ∧ Fr n₀ rb w w'
  | .error f => e = .returned (.tuple #[.slice none 0 0, .bool false]) ∧ Bad w' rb f ∧ Fr n₀ rb w w'

theorem sees_one (c : UInt8) (b : Bool) (h0 : c ≠ 0) (h : decide (at_ σ.t 0 = c.toNat) = b) (hR : Rd n₀ rb tb cap s w σ d fc fa bv) :
    Calls Tryd.prog 24 #[.pointer (some ⟨rb, 0, none⟩), .string ⟨[c].toArray⟩] w fun e w' => e = .returned (.bool b) ∧ Below w.heap.size w w' := by
  have := sees_any [c] hR
  rwa [pre_one c _ h0, h] at this

set_option maxRecDepth 100000 in
set_option maxHeartbeats 2000000 in
theorem member_wrong (h : at_ σ.t 0 = 91 ∨ at_ σ.t 0 = 45) (hR : Rd n₀ rb tb cap s w σ d fc fa bv) :
    Calls Tryd.prog 41 #[.pointer (some ⟨rb, 0, none⟩)] w fun e w' => e = .returned (.tuple #[.slice none 0 0, .bool false]) ∧ Bad w' rb (22, σ.pos) ∧ Fr n₀ rb w w' := by
  have HR := Lib.hid hR
  have c1 := hR.c1
  rcases h with h | h
  · have H1 := Lib.hid (sees_one 91 true (by decide) (by simp [h]) hR)
    clear hR h
    go_enter Tryd.func41, Tryd.ntmps41
    go_wp2_with fail
    refine H1.out.mono ?_
    rintro e w1 ⟨rfl, hb⟩
    go_wp2_with fail
    refine (refuse_bad 22 σ.pos (HR.out.on hb)).mono ?_
    rintro e w2 ⟨rfl, hB, hF⟩
    go_wp2
    go_ret2
    exact ⟨rfl, hB, (Fr.of_below hb).trans hF⟩
  · have H1 := Lib.hid (sees_one 91 false (by decide) (by simp [h]) hR)
    have H2 := Lib.hid (fun W (hW : Rd n₀ rb tb cap s W σ d fc fa bv) => sees_one 45 true (by decide) (by simp [h]) hW)
    clear hR h
    go_enter Tryd.func41, Tryd.ntmps41
    go_wp2_with fail
    refine H1.out.mono ?_
    rintro e w1 ⟨rfl, hb⟩
    have hR1 := Lib.hid (HR.out.on hb)
    go_wp2_with fail
    refine (H2.out _ hR1.out).mono ?_
    rintro e w2 ⟨rfl, hb2⟩
    go_wp2_with fail
    refine (refuse_bad 22 σ.pos (hR1.out.on hb2)).mono ?_
    rintro e w3 ⟨rfl, hB, hF⟩
    go_wp2
    go_ret2
    exact ⟨rfl, hB, ((Fr.of_below hb).trans (Fr.of_below hb2)).trans hF⟩

set_option maxRecDepth 100000 in
set_option maxHeartbeats 4000000 in
theorem member_any (hn : σ.t ≠ []) (hR : Rd n₀ rb tb cap s w σ d fc fa bv) : Calls Tryd.prog 41 #[.pointer (some ⟨rb, 0, none⟩)] w (MPost n₀ rb tb cap s d fc fa bv w (member σ)) := by
  by_cases h : at_ σ.t 0 = 91 ∨ at_ σ.t 0 = 45
  · have e : member σ = .error (22, σ.pos) := by unfold member; rw [if_pos h]
    rw [e]
    exact member_wrong h hR
  have hm : member σ = (match units (sign σ.t) with
    | some l => .ok (l, σ.adv 2)
    | none => match mUnit σ with
      | .error e => .error e
      | .ok (lo, σ1) =>
        if at_ σ1.t 0 = 45 then
          if seesUnit (σ1.adv 1).t then
            match mUnit (σ1.adv 1) with
            | .error e => .error e
            | .ok (hi, σ3) => if hi < lo then .error (22, σ.pos) else .ok ([((lo : Int), (hi : Int))], σ3)
          else .error (22, σ.pos)
        else .ok ([((lo : Int), (lo : Int))], σ1)) := by unfold member; rw [if_neg h]; rfl
  have HR := Lib.hid hR
  have c1 := hR.c1
  have H1 := Lib.hid (sees_one 91 false (by decide) (by simp; omega) hR)
  have H2 := Lib.hid (fun W (hW : Rd n₀ rb tb cap s W σ d fc fa bv) => sees_one 45 false (by decide) (by simp; omega) hW)
  have HS := Lib.hid (fun W (hW : Rd n₀ rb tb cap s W σ d fc fa bv) => shorthand_any hW)
  have HU := Lib.hid (fun W (hW : Rd n₀ rb tb cap s W σ d fc fa bv) => mUnit_any hn hW)
  obtain ⟨r, hr⟩ : ∃ r, r = member σ := ⟨_, rfl⟩
  rw [← hr] at hm ⊢
  have HM := Lib.hid hm
  have hlo := fun u σ1 (h : mUnit σ = .ok (u, σ1)) => mUnit_len h hn
  obtain ⟨ru, hru⟩ : ∃ ru, ru = units (sign σ.t) := ⟨_, rfl⟩
  obtain ⟨rm, hrm⟩ : ∃ rm, rm = mUnit σ := ⟨_, rfl⟩
  rw [← hru] at HS HM
  rw [← hrm] at HU HM hlo
  have HL := Lib.hid hlo
  clear hR h hm hr hn hru hrm hlo
  go_enter Tryd.func41, Tryd.ntmps41
  go_wp2_with fail
  refine H1.out.mono ?_
  rintro e w1 ⟨rfl, hb1⟩
  have hR1 := Lib.hid (HR.out.on hb1)
  go_wp2_with fail
  refine (H2.out _ hR1.out).mono ?_
  rintro e w2 ⟨rfl, hb2⟩
  have hR2 := Lib.hid (hR1.out.on hb2)
  have hbb : Below w.heap.size w w2 := hb1.trans (hb2.mono hb1.size)
  go_wp2_with fail
  refine (HS.out _ hR2.out).mono ?_
  rintro e w3 hP
  cases ru with
  | some l =>
    obtain ⟨v, rfl, hS, hR3, hF⟩ := hP
    have HP := Lib.hid (And.intro hS (And.intro hR3 hF))
    clear hS hR3 hF
    have hm := HM.out
    simp only at hm
    subst hm
    go_wp2
    go_ret2
    exact ⟨_, rfl, HP.out.1, HP.out.2.1, (Fr.of_below hbb).trans HP.out.2.2⟩
  | none =>
    obtain ⟨rfl, hb3⟩ := hP
    have hR3 := Lib.hid (hR2.out.on hb3)
    replace hbb : Below w.heap.size w w3 := hbb.trans (hb3.mono hbb.size)
    go_wp2_with fail
    refine (HU.out _ hR3.out).mono ?_
    rintro e w4 hP
    cases rm with
    | error f =>
      obtain ⟨rfl, hB, hF⟩ := hP
      have hm := HM.out
      simp only at hm
      subst hm
      go_wp2
      go_ret2
      exact ⟨rfl, hB, (Fr.of_below hbb).trans hF⟩
    | ok x =>
      obtain ⟨lo, σa⟩ := x
      obtain ⟨rfl, hR4, hF⟩ := hP
      have hlo := (HL.out lo σa rfl).2.1
      replace hF := (Fr.of_below hbb).trans hF
      have hm := HM.out
      simp only at hm hR4
      have HR4 := Lib.hid hR4
      clear hR4 HM HL
      by_cases c45 : at_ σa.t 0 = 45
      · rw [if_pos c45] at hm
        have hT := Lib.hid (take_yes [45] (by rw [pre_one 45 _ (by decide)]; simpa using c45) HR4.out)
        have hl1 := len_ne (at_ne (t := σa.t) (by omega))
        clear c45
        have HM := Lib.hid hm
        clear hm
        go_wp2_with fail
        refine hT.out.mono ?_
        rintro e w5 ⟨rfl, hR5, hF5⟩
        replace hR5 : Rd n₀ rb tb cap s w5 (σa.adv 1) d fc fa bv := hR5
        have HSU := Lib.hid (seesUnit_any hR5)
        have HR5 := Lib.hid hR5
        replace hF := hF.trans hF5
        clear hR5 hF5
        obtain ⟨bs, hbs⟩ : ∃ bs, bs = seesUnit (σa.adv 1).t := ⟨_, rfl⟩
        rw [← hbs] at HSU HM
        cases bs with
        | false =>
          clear hbs
          have hm := HM.out
          rw [if_neg (by decide)] at hm
          subst hm
          go_wp2_with fail
          refine HSU.out.mono ?_
          rintro e w6 ⟨rfl, hb6⟩
          have c1 := (HR5.out.on hb6).c1
          go_wp2_with fail
          refine (refuse_bad 22 σ.pos (HR5.out.on hb6)).mono ?_
          rintro e w7 ⟨rfl, hB, hF7⟩
          go_wp2
          go_ret2
          exact ⟨rfl, hB, (hF.trans (Fr.of_below hb6)).trans hF7⟩
        | true =>
          have hn2 := seesUnit_ne hbs.symm
          clear hbs
          have hm := HM.out
          rw [if_pos rfl] at hm
          have HU2 := Lib.hid (fun W (hW : Rd n₀ rb tb cap s W (σa.adv 1) d fc fa bv) => mUnit_any hn2 hW)
          have hl2 := fun u σ1 (h : mUnit (σa.adv 1) = .ok (u, σ1)) => mUnit_len h hn2
          obtain ⟨rm, hrm⟩ : ∃ rm, rm = mUnit (σa.adv 1) := ⟨_, rfl⟩
          rw [← hrm] at HU2 hm hl2
          clear HM hn2 hrm
          have HM := Lib.hid hm
          have HL := Lib.hid hl2
          clear hm hl2
          go_wp2_with fail
          refine HSU.out.mono ?_
          rintro e w6 ⟨rfl, hb6⟩
          go_wp2_with fail
          refine (HU2.out _ (HR5.out.on hb6)).mono ?_
          rintro e w7 hP
          replace hF := hF.trans (Fr.of_below hb6)
          cases rm with
          | error f =>
            obtain ⟨rfl, hB, hF7⟩ := hP
            have hm := HM.out
            simp only at hm
            subst hm
            go_wp2
            go_ret2
            exact ⟨rfl, hB, hF.trans hF7⟩
          | ok y =>
            obtain ⟨hi, σb⟩ := y
            obtain ⟨rfl, hR7, hF7⟩ := hP
            have hhi := (HL.out hi σb rfl).2.1
            replace hF := hF.trans hF7
            have hm := HM.out
            simp only at hm hR7
            have c1 := hR7.c1
            have HR7 := Lib.hid hR7
            clear hR7 HM HL
            by_cases hlt : hi < lo
            · rw [if_pos hlt] at hm
              subst hm
              have hlt' : (hi : Int) < (lo : Int) := by omega
              go_wp2_with fail
              refine (refuse_bad 22 σ.pos HR7.out).mono ?_
              rintro e w8 ⟨rfl, hB, hF8⟩
              go_wp2
              go_ret2
              exact ⟨rfl, hB, hF.trans hF8⟩
            · rw [if_neg hlt] at hm
              subst hm
              have hlt' : ¬ (hi : Int) < (lo : Int) := by omega
              go_wp2
              go_ret2
              exact ⟨_, rfl, setR_lit _ #[.int .i64 (lo : Nat), .int .i64 (hi : Nat)] _ _ rfl rfl, HR7.out.alloc _, hF.alloc _⟩
      · rw [if_neg c45] at hm
        have hT := Lib.hid (take_no [45] (by rw [pre_one 45 _ (by decide)]; simpa using c45) HR4.out)
        clear c45
        subst hm
        go_wp2_with fail
        refine hT.out.mono ?_
        rintro e w5 ⟨rfl, hb5⟩
        go_wp2
        go_ret2
        exact ⟨_, rfl, setR_lit _ #[.int .i64 (lo : Nat), .int .i64 (lo : Nat)] _ _ rfl rfl, (HR4.out.on hb5).alloc _, (hF.trans (Fr.of_below hb5)).alloc _⟩

end Go.Proofs.YthipgidddgdojaaDoor
