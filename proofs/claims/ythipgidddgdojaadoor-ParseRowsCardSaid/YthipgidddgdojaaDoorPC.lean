/- Digits and signs, as contracts; the sign behind a backslash. -/
import Derived.Test.YthipgidddgdojaaDoorPB
namespace Go.Proofs.YthipgidddgdojaaDoor
open Go.RowKit
variable {n₀ rb tb cap d : Nat} {s : List UInt8} {w w' : World} {σ : St} {fc fa : Int} {bv : Value}

theorem isDigit_any (c : Nat) (W : World) : Calls Tryd.prog 59 #[.int .u8 (c : Nat)] W fun e w' => e = .returned (.bool (dig c)) ∧ W = w' := by
  by_cases h1 : 48 ≤ c
  · by_cases h2 : c ≤ 57
    · have h1' : (48 : Int) ≤ (c : Int) := by omega
      have h2' : (c : Int) ≤ 57 := by omega
      go_enter Tryd.func59, Tryd.ntmps59
      go_wp2
      go_ret
      exact ⟨ret_bool (by simp [dig]; omega), rfl⟩
    · have h1' : (48 : Int) ≤ (c : Int) := by omega
      have h2' : ¬ (c : Int) ≤ 57 := by omega
      go_enter Tryd.func59, Tryd.ntmps59
      go_wp2
      go_ret
      exact ⟨ret_bool (by simp [dig]; omega), rfl⟩
  · have h1' : ¬ (48 : Int) ≤ (c : Int) := by omega
    go_enter Tryd.func59, Tryd.ntmps59
    go_wp2
    go_ret
    exact ⟨ret_bool (by simp [dig]; omega), rfl⟩
theorem dig_range (c : Nat) (h : dig c = true) : 48 ≤ c ∧ c ≤ 57 := (dig_iff c).1 h

theorem isMark_any (c : Nat) (W : World) : Calls Tryd.prog 62 #[.int .u8 (c : Nat)] W fun e w' => e = .returned (.bool (isMark c)) ∧ W = w' := by
  have hc : (0 ≤ c ∧ c ≤ 32) ∨ (33 ≤ c ∧ c ≤ 47) ∨ (48 ≤ c ∧ c ≤ 57) ∨ (58 ≤ c ∧ c ≤ 64) ∨ (65 ≤ c ∧ c ≤ 90) ∨ (91 ≤ c ∧ c ≤ 96) ∨ (97 ≤ c ∧ c ≤ 122) ∨ (123 ≤ c ∧ c ≤ 126) ∨ 127 ≤ c := by omega
  rcases hc with ⟨h, h0⟩ | ⟨h, h0⟩ | ⟨h, h0⟩ | ⟨h, h0⟩ | ⟨h, h0⟩ | ⟨h, h0⟩ | ⟨h, h0⟩ | ⟨h, h0⟩ | h
  · have hd : dig c = false := by simp [dig]; omega
    have hm : isMark c = false := by simp [isMark]; omega
    have e0 : decide ((65 : Int) ≤ (c : Int)) = false := by simp; omega
    have e1 : decide ((c : Int) ≤ 90) = true := by simp; omega
    have e2 : decide ((97 : Int) ≤ (c : Int)) = false := by simp; omega
    have e3 : decide ((c : Int) ≤ 122) = true := by simp; omega
    have e4 : decide ((33 : Int) ≤ (c : Int)) = false := by simp; omega
    have e5 : decide ((c : Int) ≤ 126) = true := by simp; omega
    have hdc := isDigit_any c
    rw [hd] at hdc
    have HM := Lib.hid hm
    clear hd hm
    go_enter Tryd.func62, Tryd.ntmps62
    go_wp2_with (go_at_call 59; refine (hdc _).mono ?_; rintro e w' ⟨rfl, rfl⟩)
    go_ret
    exact ⟨by rw [HM.out]; rfl, rfl⟩
  · have hd : dig c = false := by simp [dig]; omega
    have hm : isMark c = true := by simp [isMark]; omega
    have e0 : decide ((65 : Int) ≤ (c : Int)) = false := by simp; omega
    have e1 : decide ((c : Int) ≤ 90) = true := by simp; omega
    have e2 : decide ((97 : Int) ≤ (c : Int)) = false := by simp; omega
    have e3 : decide ((c : Int) ≤ 122) = true := by simp; omega
    have e4 : decide ((33 : Int) ≤ (c : Int)) = true := by simp; omega
    have e5 : decide ((c : Int) ≤ 126) = true := by simp; omega
    have hdc := isDigit_any c
    rw [hd] at hdc
    have HM := Lib.hid hm
    clear hd hm
    go_enter Tryd.func62, Tryd.ntmps62
    go_wp2_with (go_at_call 59; refine (hdc _).mono ?_; rintro e w' ⟨rfl, rfl⟩)
    go_ret
    exact ⟨by rw [HM.out]; rfl, rfl⟩
  · have hd : dig c = true := by simp [dig]; omega
    have hm : isMark c = false := by simp [isMark]; omega
    have e0 : decide ((65 : Int) ≤ (c : Int)) = false := by simp; omega
    have e1 : decide ((c : Int) ≤ 90) = true := by simp; omega
    have e2 : decide ((97 : Int) ≤ (c : Int)) = false := by simp; omega
    have e3 : decide ((c : Int) ≤ 122) = true := by simp; omega
    have e4 : decide ((33 : Int) ≤ (c : Int)) = true := by simp; omega
    have e5 : decide ((c : Int) ≤ 126) = true := by simp; omega
    have hdc := isDigit_any c
    rw [hd] at hdc
    have HM := Lib.hid hm
    clear hd hm
    go_enter Tryd.func62, Tryd.ntmps62
    go_wp2_with (go_at_call 59; refine (hdc _).mono ?_; rintro e w' ⟨rfl, rfl⟩)
    go_ret
    exact ⟨by rw [HM.out]; rfl, rfl⟩
  · have hd : dig c = false := by simp [dig]; omega
    have hm : isMark c = true := by simp [isMark]; omega
    have e0 : decide ((65 : Int) ≤ (c : Int)) = false := by simp; omega
    have e1 : decide ((c : Int) ≤ 90) = true := by simp; omega
    have e2 : decide ((97 : Int) ≤ (c : Int)) = false := by simp; omega
    have e3 : decide ((c : Int) ≤ 122) = true := by simp; omega
    have e4 : decide ((33 : Int) ≤ (c : Int)) = true := by simp; omega
    have e5 : decide ((c : Int) ≤ 126) = true := by simp; omega
    have hdc := isDigit_any c
    rw [hd] at hdc
    have HM := Lib.hid hm
    clear hd hm
    go_enter Tryd.func62, Tryd.ntmps62
    go_wp2_with (go_at_call 59; refine (hdc _).mono ?_; rintro e w' ⟨rfl, rfl⟩)
    go_ret
    exact ⟨by rw [HM.out]; rfl, rfl⟩
  · have hd : dig c = false := by simp [dig]; omega
    have hm : isMark c = false := by simp [isMark]; omega
    have e0 : decide ((65 : Int) ≤ (c : Int)) = true := by simp; omega
    have e1 : decide ((c : Int) ≤ 90) = true := by simp; omega
    have e2 : decide ((97 : Int) ≤ (c : Int)) = false := by simp; omega
    have e3 : decide ((c : Int) ≤ 122) = true := by simp; omega
    have e4 : decide ((33 : Int) ≤ (c : Int)) = true := by simp; omega
    have e5 : decide ((c : Int) ≤ 126) = true := by simp; omega
    have hdc := isDigit_any c
    rw [hd] at hdc
    have HM := Lib.hid hm
    clear hd hm
    go_enter Tryd.func62, Tryd.ntmps62
    go_wp2_with (go_at_call 59; refine (hdc _).mono ?_; rintro e w' ⟨rfl, rfl⟩)
    go_ret
    exact ⟨by rw [HM.out]; rfl, rfl⟩
  · have hd : dig c = false := by simp [dig]; omega
    have hm : isMark c = true := by simp [isMark]; omega
    have e0 : decide ((65 : Int) ≤ (c : Int)) = true := by simp; omega
    have e1 : decide ((c : Int) ≤ 90) = false := by simp; omega
    have e2 : decide ((97 : Int) ≤ (c : Int)) = false := by simp; omega
    have e3 : decide ((c : Int) ≤ 122) = true := by simp; omega
    have e4 : decide ((33 : Int) ≤ (c : Int)) = true := by simp; omega
    have e5 : decide ((c : Int) ≤ 126) = true := by simp; omega
    have hdc := isDigit_any c
    rw [hd] at hdc
    have HM := Lib.hid hm
    clear hd hm
    go_enter Tryd.func62, Tryd.ntmps62
    go_wp2_with (go_at_call 59; refine (hdc _).mono ?_; rintro e w' ⟨rfl, rfl⟩)
    go_ret
    exact ⟨by rw [HM.out]; rfl, rfl⟩
  · have hd : dig c = false := by simp [dig]; omega
    have hm : isMark c = false := by simp [isMark]; omega
    have e0 : decide ((65 : Int) ≤ (c : Int)) = true := by simp; omega
    have e1 : decide ((c : Int) ≤ 90) = false := by simp; omega
    have e2 : decide ((97 : Int) ≤ (c : Int)) = true := by simp; omega
    have e3 : decide ((c : Int) ≤ 122) = true := by simp; omega
    have e4 : decide ((33 : Int) ≤ (c : Int)) = true := by simp; omega
    have e5 : decide ((c : Int) ≤ 126) = true := by simp; omega
    have hdc := isDigit_any c
    rw [hd] at hdc
    have HM := Lib.hid hm
    clear hd hm
    go_enter Tryd.func62, Tryd.ntmps62
    go_wp2_with (go_at_call 59; refine (hdc _).mono ?_; rintro e w' ⟨rfl, rfl⟩)
    go_ret
    exact ⟨by rw [HM.out]; rfl, rfl⟩
  · have hd : dig c = false := by simp [dig]; omega
    have hm : isMark c = true := by simp [isMark]; omega
    have e0 : decide ((65 : Int) ≤ (c : Int)) = true := by simp; omega
    have e1 : decide ((c : Int) ≤ 90) = false := by simp; omega
    have e2 : decide ((97 : Int) ≤ (c : Int)) = true := by simp; omega
    have e3 : decide ((c : Int) ≤ 122) = false := by simp; omega
    have e4 : decide ((33 : Int) ≤ (c : Int)) = true := by simp; omega
    have e5 : decide ((c : Int) ≤ 126) = true := by simp; omega
    have hdc := isDigit_any c
    rw [hd] at hdc
    have HM := Lib.hid hm
    clear hd hm
    go_enter Tryd.func62, Tryd.ntmps62
    go_wp2_with (go_at_call 59; refine (hdc _).mono ?_; rintro e w' ⟨rfl, rfl⟩)
    go_ret
    exact ⟨by rw [HM.out]; rfl, rfl⟩
  · have hd : dig c = false := by simp [dig]; omega
    have hm : isMark c = false := by simp [isMark]; omega
    have e0 : decide ((65 : Int) ≤ (c : Int)) = true := by simp; omega
    have e1 : decide ((c : Int) ≤ 90) = false := by simp; omega
    have e2 : decide ((97 : Int) ≤ (c : Int)) = true := by simp; omega
    have e3 : decide ((c : Int) ≤ 122) = false := by simp; omega
    have e4 : decide ((33 : Int) ≤ (c : Int)) = true := by simp; omega
    have e5 : decide ((c : Int) ≤ 126) = false := by simp; omega
    have hdc := isDigit_any c
    rw [hd] at hdc
    have HM := Lib.hid hm
    clear hd hm
    go_enter Tryd.func62, Tryd.ntmps62
    go_wp2_with (go_at_call 59; refine (hdc _).mono ?_; rintro e w' ⟨rfl, rfl⟩)
    go_ret
    exact ⟨by rw [HM.out]; rfl, rfl⟩

theorem hex_yes (c : Nat) (W : World) (h9 : c < 256) (hx : isHex c = true) : Calls Tryd.prog 67 #[.int .u8 (c : Nat)] W fun e w' => e = .returned (.tuple #[.int .i64 (hexV c : Nat), .bool true]) ∧ W = w' := by
  have hc : (48 ≤ c ∧ c ≤ 57) ∨ (97 ≤ c ∧ c ≤ 102) := by simp [isHex] at hx; omega
  clear hx
  rcases hc with ⟨h, h0⟩ | ⟨h, h0⟩
  · have hd : dig c = true := by simp [dig]; omega
    have e0 : decide ((97 : Int) ≤ (c : Int)) = false := by simp; omega
    have e1 : decide ((c : Int) ≤ 102) = true := by simp; omega
    have hv : ((hexV c : Nat) : Int) = (c : Int) - 48 := by unfold hexV; split <;> omega
    have hdc := isDigit_any c
    rw [hd] at hdc
    clear hd
    have HV := Lib.hid hv
    clear hv
    go_enter Tryd.func67, Tryd.ntmps67
    go_wp2_with (go_at_call 59; refine (hdc _).mono ?_; rintro e w' ⟨rfl, rfl⟩)
    go_ret2
    exact ⟨by rw [HV.out]; rfl, rfl⟩
  · have hd : dig c = false := by simp [dig]; omega
    have e0 : decide ((97 : Int) ≤ (c : Int)) = true := by simp; omega
    have e1 : decide ((c : Int) ≤ 102) = true := by simp; omega
    have hv : ((hexV c : Nat) : Int) = (c : Int) - 97 + 10 := by unfold hexV; split <;> omega
    have hdc := isDigit_any c
    rw [hd] at hdc
    clear hd
    have HV := Lib.hid hv
    clear hv
    go_enter Tryd.func67, Tryd.ntmps67
    go_wp2_with (go_at_call 59; refine (hdc _).mono ?_; rintro e w' ⟨rfl, rfl⟩)
    go_ret2
    exact ⟨by rw [HV.out]; rfl, rfl⟩

theorem hex_no (c : Nat) (W : World) (h9 : c < 256) (hx : isHex c = false) : Calls Tryd.prog 67 #[.int .u8 (c : Nat)] W fun e w' => e = .returned (.tuple #[.int .i64 0, .bool false]) ∧ W = w' := by
  have hc : (0 ≤ c ∧ c ≤ 47) ∨ (58 ≤ c ∧ c ≤ 96) ∨ 103 ≤ c := by simp [isHex] at hx; omega
  clear hx
  rcases hc with ⟨h, h0⟩ | ⟨h, h0⟩ | h
  · have hd : dig c = false := by simp [dig]; omega
    have e0 : decide ((97 : Int) ≤ (c : Int)) = false := by simp; omega
    have e1 : decide ((c : Int) ≤ 102) = true := by simp; omega
    have hdc := isDigit_any c
    rw [hd] at hdc
    clear hd
    go_enter Tryd.func67, Tryd.ntmps67
    go_wp2_with (go_at_call 59; refine (hdc _).mono ?_; rintro e w' ⟨rfl, rfl⟩)
    go_ret2
    exact ⟨rfl, rfl⟩
  · have hd : dig c = false := by simp [dig]; omega
    have e0 : decide ((97 : Int) ≤ (c : Int)) = false := by simp; omega
    have e1 : decide ((c : Int) ≤ 102) = true := by simp; omega
    have hdc := isDigit_any c
    rw [hd] at hdc
    clear hd
    go_enter Tryd.func67, Tryd.ntmps67
    go_wp2_with (go_at_call 59; refine (hdc _).mono ?_; rintro e w' ⟨rfl, rfl⟩)
    go_ret2
    exact ⟨rfl, rfl⟩
  · have hd : dig c = false := by simp [dig]; omega
    have e0 : decide ((97 : Int) ≤ (c : Int)) = true := by simp; omega
    have e1 : decide ((c : Int) ≤ 102) = false := by simp; omega
    have hdc := isDigit_any c
    rw [hd] at hdc
    clear hd
    go_enter Tryd.func67, Tryd.ntmps67
    go_wp2_with (go_at_call 59; refine (hdc _).mono ?_; rintro e w' ⟨rfl, rfl⟩)
    go_ret2
    exact ⟨rfl, rfl⟩

/-- An operation of a region that draws its order, taken first: its slot is named. -/
theorem take_d {P : Program} {md : Region.Mode} {ops : Array Oper} {Q : Exit → Act → World → Prop} {S : World → Prop} {fuel : Nat} {listed : Array Bool} {a : Act} {w : World} (i d : Nat) (v : Value) (oi : Oper) (hi : ops[i]? = some oi) (hd : oi.dst = some d)
    (hs : Region.noSelect ops = true) (hf : Region.free md ops listed i = true) (hr : (Region.ready md ops listed).contains i = true)
    (hQ : ∀ c a w, Q (.panic c) (a.put oi.dst v) w → Q (.panic c) a w) (hy : YieldsIf P ops S oi v a) (hS : S w)
    (h : wpAnyH P md ops Q S fuel (listed.setIfInBounds i true) { tmps := a.tmps.setIfInBounds d v, defers := a.defers } w) : wpAnyH P md ops Q S (fuel + 1) listed a w :=
  wpAnyH_take hi hs hf hr hQ hy hS (by rw [hd]; exact h)

theorem pre_one (c : UInt8) (t : List UInt8) (hc : c ≠ 0) : pre [c] t = decide (at_ t 0 = c.toNat) := by
  cases t with
  | nil =>
    have : ¬ (0 : Nat) = c.toNat := fun e => hc (by apply UInt8.toNat_inj.1; simpa using e.symm)
    simp [pre, at_nil, this]
  | cons a t =>
    rw [at_cons]
    simp only [pre, List.isPrefixOf, Bool.and_true]
    rw [Bool.eq_iff_iff, beq_iff_eq, decide_eq_true_eq]
    exact ⟨fun e => by rw [e], fun e => (UInt8.toNat_inj.1 e).symm⟩
theorem at_len {t : List UInt8} {j : Nat} (h : at_ t j ≠ 0) : j < t.length := by
  rcases Nat.lt_or_ge j t.length with hl | hl
  · exact hl
  · exact absurd (at_out hl) h

set_option maxRecDepth 100000 in
set_option maxHeartbeats 1000000 in
theorem sign_any (hR : Rd n₀ rb tb cap s w σ d fc fa bv) :
    Calls Tryd.prog 58 #[.pointer (some ⟨rb, 0, none⟩)] w fun e w' => e = .returned (.int .u8 (sign σ.t : Nat)) ∧ Below w.heap.size w w' := by
  have hs := fun W (h : Rd n₀ rb tb cap s W σ d fc fa bv) => sees_any [92] h
  have hp := hR.pos
  have ht := hR.tl
  have hl := hR.len
  by_cases h : at_ σ.t 0 = 92
  · have hpre : pre [92] σ.t = true := by rw [pre_one 92 _ (by decide)]; simpa using h
    rw [hpre] at hs
    have hlen := at_len (t := σ.t) (j := 0) (by omega)
    by_cases h2 : σ.pos + 1 < s.length
    · have HS := Lib.hid hs
      have HR := Lib.hid hR
      have hx := at_lt σ.t 1
      have c0 := hR.c0
      have c1 := hR.c1
      have hge : ¬ (s.length : Int) ≤ (σ.pos : Int) + 1 := by omega
      have hlt : (σ.pos : Int) + 1 < (s.length : Int) := by omega
      have hw1 : IntKind.i64.wrap ((σ.pos : Int) + 1) = (σ.pos : Int) + 1 := IntWalk.i64_in _ (by omega)
      have hc1 : ∀ W, Rd n₀ rb tb cap s W σ d fc fa bv → W.cell? ⟨tb, σ.pos + 1, none⟩ = some (.int .u8 ((at_ σ.t 1 : Nat) : Int)) := fun W hW => by
        have := hW.at_ (j := 1) (by omega)
        rwa [Nat.zero_add] at this
      have HC := Lib.hid hc1
      have hsg : sign σ.t = at_ σ.t 1 := by unfold sign; rw [if_pos h]
      rw [hsg]
      clear hs hR hc1 h hpre hsg
      go_enter Tryd.func58, Tryd.ntmps58
      go_wp2
      go_region_held3 (fun w' => w'.cell? ⟨rb, 0, none⟩ = some (.slice (some ⟨tb, 0, none⟩) s.length cap) ∧ w'.cell? ⟨rb, 1, none⟩ = some (.int .i64 (σ.pos : Nat))) (go_keep)
        (first | (go_at_call 24; refine (HS.out _ HR.out.drew).mono ?_; rintro e w1 ⟨rfl, hb⟩; have hR1 := HR.out.drew.on hb; have c0' := hR1.c0; have c1' := hR1.c1))
      have cc := HC.out _ hR1
      have hbl := (bdrew w 1).trans (hb : Below w.heap.size w.drew w1)
      clear hR1 hb
      go_wp2
      go_quiet (fail)
      go_wp2
      go_ret
      exact ⟨rfl, hbl.trans (Below.mono (bdrew _ _) hbl.size)⟩
    · have HS := Lib.hid hs
      have HR := Lib.hid hR
      have c0 := hR.c0
      have c1 := hR.c1
      have hge : (s.length : Int) ≤ (σ.pos : Int) + 1 := by omega
      have hw1 : IntKind.i64.wrap ((σ.pos : Int) + 1) = (σ.pos : Int) + 1 := IntWalk.i64_in _ (by omega)
      have hsg : sign σ.t = 0 := by unfold sign; rw [if_pos h]; exact at_out (by omega)
      rw [hsg]
      clear hs hR h hpre hsg
      go_enter Tryd.func58, Tryd.ntmps58
      go_wp2
      go_region_held3 (fun w' => w'.cell? ⟨rb, 0, none⟩ = some (.slice (some ⟨tb, 0, none⟩) s.length cap) ∧ w'.cell? ⟨rb, 1, none⟩ = some (.int .i64 (σ.pos : Nat))) (go_keep)
        (first | (go_at_call 24; refine (HS.out _ HR.out.drew).mono ?_; rintro e w1 ⟨rfl, hb⟩; have hR1 := HR.out.drew.on hb; have c0' := hR1.c0; have c1' := hR1.c1))
      have hbl := (bdrew w 1).trans (hb : Below w.heap.size w.drew w1)
      clear hR1 hb
      go_wp2
      go_ret
      exact ⟨rfl, hbl⟩
  · have hpre : pre [92] σ.t = false := by rw [pre_one 92 _ (by decide)]; simpa using h
    rw [hpre] at hs
    have HS := Lib.hid hs
    have HR := Lib.hid hR
    have c0 := hR.c0
    have c1 := hR.c1
    have hsg : sign σ.t = 0 := sign_else h
    rw [hsg]
    clear hs hR h hpre hsg
    go_enter Tryd.func58, Tryd.ntmps58
    go_wp2
    refine wp_region_held_drew (S := fun _ => True) (by kernel_rfl) trivial (fun hHeld => ?_)
    refine take_d 0 3 (.pointer (some ⟨rb, 0, none⟩)) _ rfl rfl (by kernel_rfl) (by kernel_rfl) (by kernel_rfl) (fun _ _ _ h => h) (Or.inl ⟨by rfl, fun w' hSw => ?_⟩) hHeld ?_
    · go_simp
    simp only [List.setIfInBounds_toArray, List.set_cons_zero, List.set_cons_succ]
    refine wpAnyH_ready (rs := [1]) (by kernel_rfl) (by simp) ?_
    refine AllReadyH.cons rfl (fun K hK => ?_) AllReadyH.nil
    go_simp
    refine (HS.out _ HR.out.drew).mono ?_
    rintro e w1 ⟨rfl, hb⟩
    refine hK.out _ _ trivial (fun hHeld => ?_)
    clear hK K
    refine take_d 2 5 (.bool true) _ rfl rfl (by kernel_rfl) (by kernel_rfl) (by kernel_rfl) (fun _ _ _ h => h) (Or.inl ⟨by rfl, fun w' hSw => ?_⟩) hHeld ?_
    · go_simp
    simp only [List.setIfInBounds_toArray, List.set_cons_zero, List.set_cons_succ]
    refine take_d 3 6 (.bool true) _ rfl rfl (by kernel_rfl) (by kernel_rfl) (by kernel_rfl) (fun _ _ _ h => h) (Or.inl ⟨by rfl, fun w' hSw => ?_⟩) hHeld ?_
    · go_simp
    simp only [List.setIfInBounds_toArray, List.set_cons_zero, List.set_cons_succ]
    refine take_d 4 7 undef _ rfl rfl (by kernel_rfl) (by kernel_rfl) (by kernel_rfl) (fun _ _ _ h => h) (Or.inr ⟨by rfl, rfl⟩) hHeld ?_
    simp only [List.setIfInBounds_toArray, List.set_cons_zero, List.set_cons_succ]
    refine take_d 5 8 undef _ rfl rfl (by kernel_rfl) (by kernel_rfl) (by kernel_rfl) (fun _ _ _ h => h) (Or.inr ⟨by rfl, rfl⟩) hHeld ?_
    simp only [List.setIfInBounds_toArray, List.set_cons_zero, List.set_cons_succ]
    refine take_d 6 9 undef _ rfl rfl (by kernel_rfl) (by kernel_rfl) (by kernel_rfl) (fun _ _ _ h => h) (Or.inr ⟨by rfl, rfl⟩) hHeld ?_
    simp only [List.setIfInBounds_toArray, List.set_cons_zero, List.set_cons_succ]
    refine take_d 7 10 undef _ rfl rfl (by kernel_rfl) (by kernel_rfl) (by kernel_rfl) (fun _ _ _ h => h) (Or.inr ⟨by rfl, rfl⟩) hHeld ?_
    simp only [List.setIfInBounds_toArray, List.set_cons_zero, List.set_cons_succ]
    refine take_d 8 11 undef _ rfl rfl (by kernel_rfl) (by kernel_rfl) (by kernel_rfl) (fun _ _ _ h => h) (Or.inr ⟨by rfl, rfl⟩) hHeld ?_
    simp only [List.setIfInBounds_toArray, List.set_cons_zero, List.set_cons_succ]
    refine take_d 9 12 undef _ rfl rfl (by kernel_rfl) (by kernel_rfl) (by kernel_rfl) (fun _ _ _ h => h) (Or.inr ⟨by rfl, rfl⟩) hHeld ?_
    simp only [List.setIfInBounds_toArray, List.set_cons_zero, List.set_cons_succ]
    refine take_d 10 13 undef _ rfl rfl (by kernel_rfl) (by kernel_rfl) (by kernel_rfl) (fun _ _ _ h => h) (Or.inr ⟨by rfl, rfl⟩) hHeld ?_
    simp only [List.setIfInBounds_toArray, List.set_cons_zero, List.set_cons_succ]
    refine take_d 11 14 undef _ rfl rfl (by kernel_rfl) (by kernel_rfl) (by kernel_rfl) (fun _ _ _ h => h) (Or.inr ⟨by rfl, rfl⟩) hHeld ?_
    simp only [List.setIfInBounds_toArray, List.set_cons_zero, List.set_cons_succ]
    refine take_d 12 15 undef _ rfl rfl (by kernel_rfl) (by kernel_rfl) (by kernel_rfl) (fun _ _ _ h => h) (Or.inr ⟨by rfl, rfl⟩) hHeld ?_
    simp only [List.setIfInBounds_toArray, List.set_cons_zero, List.set_cons_succ]
    refine take_d 13 16 undef _ rfl rfl (by kernel_rfl) (by kernel_rfl) (by kernel_rfl) (fun _ _ _ h => h) (Or.inr ⟨by rfl, rfl⟩) hHeld ?_
    simp only [List.setIfInBounds_toArray, List.set_cons_zero, List.set_cons_succ]
    refine take_d 14 17 undef _ rfl rfl (by kernel_rfl) (by kernel_rfl) (by kernel_rfl) (fun _ _ _ h => h) (Or.inr ⟨by rfl, rfl⟩) hHeld ?_
    simp only [List.setIfInBounds_toArray, List.set_cons_zero, List.set_cons_succ]
    refine take_d 15 18 (.bool true) _ rfl rfl (by kernel_rfl) (by kernel_rfl) (by kernel_rfl) (fun _ _ _ h => h) (Or.inl ⟨by rfl, fun w' hSw => ?_⟩) hHeld ?_
    · go_simp
    simp only [List.setIfInBounds_toArray, List.set_cons_zero, List.set_cons_succ]
    refine wpAnyH_done (by kernel_rfl) ?_ _
    have hbl := (bdrew w 1).trans (hb : Below w.heap.size w.drew w1)
    clear hb
    go_wp2
    go_ret
    exact ⟨rfl, hbl⟩

end Go.Proofs.YthipgidddgdojaaDoor
