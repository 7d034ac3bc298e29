import Derived.Test.YtpginkdkblmnbaaGreatDoorWMQg
namespace Go.Proofs.YtpginkdkblmnbaaGreatDoor
section
open Go.RowKit
open Go.Proofs.YtpginkdkblmnbaaGreatDoor.Cl (Rg à Ý Ä ò Î Á)
variable {w w' w0 : World} {E : RE} {σ σ1 : St} {I g d c p : Nat} {rv rv' : Value} {refs : List (Nat × Nat)} {f : Flt}
theorem Ðr (t : List UInt8) : dgB (onN t 0) = dig (at_ t 0) := by
 unfold dgB dig;rw [decide_eq_decide];constructor
 ·intro h
  obtain ⟨c, hc⟩ : ∃ c : Nat, onN t 0 = (c : Int) := ⟨(onN t 0).toNat, by omega⟩
  have := (Ŋ (t := t) (c := c) (by omega) (by omega)).1 hc
  omega
 ·intro h
  have := (Ŋ (t := t) (c := at_ t 0) (by omega) (by omega)).2 rfl
  omega
theorem Ðs {t : List UInt8} (h : dig (at_ t 0) = true) : onN t 0 = ((at_ t 0 : Nat) : Int) ∧ t ≠ [] ∧ at_ t 0 < 128 ∧ 48 ≤ at_ t 0 ∧ at_ t 0 ≤ 57 := by
 unfold dig at h;have h := of_decide_eq_true h
 exact ⟨(Ŋ (by omega) (by omega)).2 rfl, Àf (by omega), by omega, h.1, h.2⟩
def ÂN (t : List UInt8) : Int := if dig (at_ t 0) then (Ĝ t : Int) else -1
set_option maxRecDepth 100000 in
set_option maxHeartbeats 1000000 in
theorem ÆA (h : Gd E w σ d rv I refs) : Calls Tryz.prog 132 #[.pointer (some ⟨E.rb, 0, none⟩)] w fun e w' => e = .returned (.int .i64 (ÂN σ.t)) ∧ FrR E w rv w' rv ∧ ∃ I', Gd E w' (σ.adv (Ñ σ.t)) d rv I' refs := by
 have hdg := Ðr σ.t;have HO := ħ (on0 h.sv);rw [ÃA h] at HO;have h256 := h.sv.n256;have hle := h.le;have HG := ħ h
 cases hd0 : dig (at_ σ.t 0) with
 | false =>
  rw [hd0] at hdg
  have e1 : ÂN σ.t = -1 := by unfold ÂN; rw [hd0]; rfl
  have e2 : σ.adv (Ñ σ.t) = σ := by unfold Ñ; rw [hd0]; simp [St.adv]
  rw [e1, e2];generalize onN σ.t 0 = v at HO hdg;clear e1 e2 h hd0;go_enter Tryz.func132, Tryz.ntmps132
  go_wp2_with fail
  refine HO.o.mono ?_;rintro e w1 ⟨rfl, m1, hw1⟩
  have HG1 : Hid (Gd E w1 σ d rv I refs) := ħ (by rw [hw1]; exact HG.o.drewN _)
  have HF1 : Hid (FrR E w rv w1 rv) := ħ (by rw [hw1]; exact (FrR.refl w).drewN _)
  clear hw1
  go_wp2_with fail
  refine (þ v false hdg).mono ?_;rintro e w2 ⟨rfl, rfl⟩;go_wp2;go_ret;exact ⟨rfl, HF1.o, I, HG1.o⟩
 | true =>
  rw [hd0] at hdg;obtain ⟨ho, hn, h128, g1, g2⟩ := Ðs hd0;have hlt := h.lt hn;have hp1 := h.pos.small hn h128;have HP1 := ħ hp1
  have hui : 0 ≤ onI E I := by rw [ÃA h, ho]; omega
  obtain ⟨u, hu, hqu, _⟩ := ÀK hui
  have huv : (u : Int) = ((at_ σ.t 0 : Nat) : Int) := by rw [← hqu, ÃA h, ho]
  rw [ho, ← huv] at HO hdg
  have huN : at_ σ.t 0 = u := by omega
  have HUs := ħ hu
  have hst : ∀ W, Sv E W I σ.g d 0 0 rv refs → Sv E (W.setCell ⟨E.rb, 2, none⟩ (.int .i64 ((I : Int) + 1))) (I + 1) σ.g d 0 0 rv refs := fun W hW => by
   have := hW.setI (J := I + 1) (by omega)
   rwa [Int.natCast_add] at this
  have HST := ħ hst
  have hr0 : (48 : Int) ≤ (u : Int) ∧ (u : Int) ≤ 57 := by omega
  obtain ⟨r00, r01⟩ := hr0
  have HO1 : Hid (∀ W, Sv E W (I + 1) σ.g d 0 0 rv refs → Calls Tryz.prog 61 #[.pointer (some ⟨E.rb, 0, none⟩), .int .i64 0] W fun e w' => e = .returned (.int .i64 (onN (σ.adv 1).t 0)) ∧ ∃ m, w' = W.drewN m) := ħ (fun W hW => by
   have := on0 hW
   rwa [show onI E (I + 1) = onN (σ.adv 1).t 0 from HP1.o.on 0] at this)
  have ha1 : at_ (σ.adv 1).t 0 = at_ σ.t 1 := by show at_ (σ.t.drop 1) 0 = _; rw [Àl]
  have hdg1 := Ðr (σ.adv 1).t;rw [ha1] at hdg1;have HD0 := ħ hd0
  have hA0 : ∀ W, Sv E W I σ.g d 0 0 rv refs → E.UA = some ⟨E.ub, 0, none⟩ ∧ W.cell? ⟨E.ub, I, none⟩ = some (.int .i64 (u : Nat)) := fun W hW => by
   obtain ⟨q1, _, q2⟩ := hW.us I u HUs.o;exact ⟨q1, q2⟩
  have HA0 := ħ hA0
  have hIN : (I : Int) < (E.N : Int) := by omega
  cases hd1 : dig (at_ σ.t 1) with
  | false =>
   rw [hd1] at hdg1
   have e1 : ÂN σ.t = (u : Int) - 48 := by unfold ÂN Ĝ; rw [hd0, hd1]; simp; omega
   have e2 : σ.adv (Ñ σ.t) = σ.adv 1 := by unfold Ñ; rw [hd0, hd1]; rfl
   rw [e1, e2];obtain ⟨v, hv⟩ : ∃ v, v = onN (σ.adv 1).t 0 := ⟨_, rfl⟩;rw [← hv] at HO1 hdg1;clear hv e1 e2 h hd0 hd1 hst hp1 ho hu hqu hui huv huN g1 g2 h128 ha1 hA0;go_enter Tryz.func132, Tryz.ntmps132
   go_wp2_with fail
   refine HO.o.mono ?_;rintro e w1 ⟨rfl, m1, hw1⟩
   have HS1 : Hid (Sv E w1 I σ.g d 0 0 rv refs) := ħ (by rw [hw1]; exact HG.o.sv.drewN _)
   have HF1 : Hid (FrR E w rv w1 rv) := ħ (by rw [hw1]; exact (FrR.refl w).drewN _)
   clear hw1
   go_wp2_with fail
   refine (þ u true hdg).mono ?_;rintro e w2 ⟨rfl, rfl⟩;obtain ⟨hA, cu⟩ := HA0.o _ HS1.o;obtain ⟨c0, _, c2, _⟩ := HS1.o.ten;rw [hA] at c0;have f2 := HS1.o.fz 2
   go_wp2_with fail
   go_quiet (fail);have HS2 := ħ (HST.o _ (HS1.o.drewN nq));have HF2 := ħ ((HF1.o.drewN nq).set_ (q := ⟨E.rb, 2, none⟩) (.inl rfl) (.int .i64 ((I : Int) + 1)))
   go_upto_region 5 with (fail)
   clear c0 c2 f2 cu;generalize (w2.drewN nq).setCell ⟨E.rb, 2, none⟩ (.int .i64 ((I : Int) + 1)) = w3 at *
   go_wp2_with fail
   refine (HO1.o _ HS2.o).mono ?_;rintro e w4 ⟨rfl, m4, hw4⟩
   have HS4 : Hid (Sv E w4 (I + 1) σ.g d 0 0 rv refs) := ħ (by rw [hw4]; exact HS2.o.drewN _)
   have HF4 : Hid (FrR E w rv w4 rv) := ħ (by rw [hw4]; exact HF2.o.drewN _)
   clear hw4
   go_wp2_with fail
   refine (þ v false hdg1).mono ?_;rintro e w5 ⟨rfl, rfl⟩;go_wp2;go_ret
   exact ⟨rfl, HF4.o, I + 1, HG.o.move HS4.o HP1.o rfl rfl (by omega) (by omega)⟩
  | true =>
   rw [hd1] at hdg1
   obtain ⟨ho1, hn1, h128', g3, g4⟩ := Ðs (t := (σ.adv 1).t) (by rw [ha1]; exact hd1)
   have hp2 := HP1.o.small hn1 h128'
   have e3 : (σ.adv 1).adv 1 = σ.adv 2 := by simp [St.adv, Nat.add_assoc]
   rw [e3] at hp2;have hoi : onI E (I + 1) = onN (σ.adv 1).t 0 := HP1.o.on 0
   have hui1 : 0 ≤ onI E (I + 1) := by rw [hoi, ho1]; omega
   obtain ⟨u1, hu1, hqu1, hN1⟩ := ÀK hui1
   have huv1 : (u1 : Int) = ((at_ σ.t 1 : Nat) : Int) := by rw [← hqu1, hoi, ho1, ha1]
   have e1 : ÂN σ.t = 10 * ((u : Int) - 48) + (u1 : Int) - 48 := by
    rw [ha1] at g3 g4;unfold ÂN Ĝ;rw [hd0, hd1];simp;omega
   have e2 : σ.adv (Ñ σ.t) = σ.adv 2 := by unfold Ñ; rw [hd0, hd1]; rfl
   rw [e1, e2];rw [ho1, ha1, ← huv1] at HO1 hdg1;have HP2 := ħ hp2
   have r1 : (48 : Int) ≤ (u1 : Int) ∧ (u1 : Int) ≤ 57 := by rw [ha1] at g3 g4; omega
   obtain ⟨r10, r11⟩ := r1
   have hst2 : ∀ W, Sv E W (I + 1) σ.g d 0 0 rv refs → Sv E (W.setCell ⟨E.rb, 2, none⟩ (.int .i64 ((I : Int) + 1 + 1))) (I + 2) σ.g d 0 0 rv refs := fun W hW => by
    have := hW.setI (J := I + 2) (by omega)
    rwa [show ((I + 2 : Nat) : Int) = (I : Int) + 1 + 1 from by omega] at this
   have HST2 := ħ hst2
   have HA1 : Hid (∀ W, Sv E W (I + 1) σ.g d 0 0 rv refs → E.UA = some ⟨E.ub, 0, none⟩ ∧ W.cell? ⟨E.ub, I + 1, none⟩ = some (.int .i64 (u1 : Nat))) := ħ (fun W hW => by
    obtain ⟨q1, _, q2⟩ := hW.us (I + 1) u1 hu1
    exact ⟨q1, q2⟩)
   have hIN1 : (I : Int) + 1 < (E.N : Int) := by omega
   have hI1a : (0 : Int) ≤ (I : Int) + 1 := by omega
   have hI1n : ((I : Int) + 1).toNat = I + 1 := by omega
   clear e1 e2 h hd0 hd1 hst hp1 ho hu hqu hui huv huN g1 g2 h128 ha1 hA0 ho1 hn1 h128' g3 g4 hp2 e3 hoi hui1 hu1 hqu1 huv1 hst2;go_enter Tryz.func132, Tryz.ntmps132
   go_wp2_with fail
   refine HO.o.mono ?_;rintro e w1 ⟨rfl, m1, hw1⟩
   have HS1 : Hid (Sv E w1 I σ.g d 0 0 rv refs) := ħ (by rw [hw1]; exact HG.o.sv.drewN _)
   have HF1 : Hid (FrR E w rv w1 rv) := ħ (by rw [hw1]; exact (FrR.refl w).drewN _)
   clear hw1
   go_wp2_with fail
   refine (þ u true hdg).mono ?_;rintro e w2 ⟨rfl, rfl⟩;obtain ⟨hA, cu⟩ := HA0.o _ HS1.o;obtain ⟨c0, _, c2, _⟩ := HS1.o.ten;rw [hA] at c0;have f2 := HS1.o.fz 2
   go_wp2_with fail
   go_quiet (fail);have HS2 := ħ (HST.o _ (HS1.o.drewN nq));have HF2 := ħ ((HF1.o.drewN nq).set_ (q := ⟨E.rb, 2, none⟩) (.inl rfl) (.int .i64 ((I : Int) + 1)))
   go_upto_region 5 with (fail)
   clear c0 c2 f2 cu;generalize (w2.drewN nq).setCell ⟨E.rb, 2, none⟩ (.int .i64 ((I : Int) + 1)) = w3 at *
   go_wp2_with fail
   refine (HO1.o _ HS2.o).mono ?_;rintro e w4 ⟨rfl, m4, hw4⟩
   have HS4 : Hid (Sv E w4 (I + 1) σ.g d 0 0 rv refs) := ħ (by rw [hw4]; exact HS2.o.drewN _)
   have HF4 : Hid (FrR E w rv w4 rv) := ħ (by rw [hw4]; exact HF2.o.drewN _)
   clear hw4
   go_wp2_with fail
   refine (þ u1 true hdg1).mono ?_;rintro e w5 ⟨rfl, rfl⟩;obtain ⟨_, cu1⟩ := HA1.o _ HS4.o;obtain ⟨c0, _, c2, _⟩ := HS4.o.ten;rw [hA] at c0;rw [Int.natCast_add] at c2;have f2 := HS4.o.fz 2
   go_wp2_with fail
   go_quiet (fail);have HS5 := ħ (HST2.o _ (HS4.o.drewN nq));have HF5 := ħ ((HF4.o.drewN nq).set_ (q := ⟨E.rb, 2, none⟩) (.inl rfl) (.int .i64 ((I : Int) + 1 + 1)));go_wp2;go_ret
   exact ⟨rfl, HF5.o, I + 2, HG.o.move HS5.o HP2.o rfl rfl (by omega) (by omega)⟩
end
section
open Go.RowKit
open Go.Proofs.YtpginkdkblmnbaaGreatDoor.Cl (Rg à Ý Ä ò Î Á)
variable {w w' w0 : World} {E : RE} {σ σ1 : St} {I g d c p : Nat} {rv rv' : Value} {refs : List (Nat × Nat)} {f : Flt}
def BrP (E : RE) (d : Nat) (rv : Value) (refs : List (Nat × Nat)) (w : World) (g : Nat) (r : Option ((Int × Int) × St)) (e : Ending) (w' : World) : Prop :=
 match r with
 | some x => e = .returned (.tuple #[.int .i64 x.1.1, .int .i64 x.1.2, .bool true]) ∧ FrR E w rv w' rv ∧ ∃ I', Gd E w' x.2 d rv I' refs
 | none => ∃ (a b : Int) (I' : Nat), e = .returned (.tuple #[.int .i64 a, .int .i64 b, .bool false]) ∧ FrR E w rv w' rv ∧ Sv E w' I' g d 0 0 rv refs
theorem ÈB {t : List UInt8} (h : Ņ t = true) : ÂN t = (Ĝ t : Int) ∧ Ĝ t ≤ 64 := by
 unfold Ņ at h;rw [Bool.and_eq_true, decide_eq_true_eq] at h
 exact ⟨by unfold ÂN; rw [h.1]; rfl, h.2⟩
theorem ÎS {t : List UInt8} (h : Ņ t = false) : ÂN t < 0 ∨ 64 < ÂN t := by
 unfold Ņ at h;unfold ÂN
 cases hd : dig (at_ t 0) with
 | false => left; simp
 | true =>
  rw [hd] at h;simp at h;right;simp;omega
theorem ÇJ (t : List UInt8) : -1 ≤ ÂN t ∧ ÂN t ≤ 99 := by
 unfold ÂN;split
 ·rename_i h
  unfold Ĝ dig at *;have h := of_decide_eq_true h;simp [h];split
  ·rename_i h1
   omega
  ·omega
 ·omega
set_option maxRecDepth 100000 in
set_option maxHeartbeats 1000000 in
theorem ÉX (h : Gd E w (σ.adv 1) d rv I refs) : Calls Tryz.prog 109 #[.pointer (some ⟨E.rb, 0, none⟩)] w (BrP E d rv refs w σ.g (Àc σ)) := by
 have HN := ħ (ÆA h);obtain ⟨τ, hτ⟩ : ∃ τ, τ = σ.adv 1 := ⟨_, rfl⟩
 have hbr : Àc σ = if Ņ τ.t then
  if pre [44, 125] (τ.adv (Ñ τ.t)).t then some ((((Ĝ τ.t : Nat) : Int), (-1 : Int)), (τ.adv (Ñ τ.t)).adv 2)
  else if at_ (τ.adv (Ñ τ.t)).t 0 = 44 then
   if Ņ ((τ.adv (Ñ τ.t)).adv 1).t && decide (Ĝ τ.t ≤ Ĝ ((τ.adv (Ñ τ.t)).adv 1).t)
    && decide (at_ (((τ.adv (Ñ τ.t)).adv 1).adv (Ñ ((τ.adv (Ñ τ.t)).adv 1).t)).t 0 = 125) then
    some ((((Ĝ τ.t : Nat) : Int), ((Ĝ ((τ.adv (Ñ τ.t)).adv 1).t : Nat) : Int)), (((τ.adv (Ñ τ.t)).adv 1).adv (Ñ ((τ.adv (Ñ τ.t)).adv 1).t)).adv 1)
   else none
  else if at_ (τ.adv (Ñ τ.t)).t 0 = 125 then some ((((Ĝ τ.t : Nat) : Int), ((Ĝ τ.t : Nat) : Int)), (τ.adv (Ñ τ.t)).adv 1)
  else none
  else none := by rw [hτ]; rfl
 have hg : σ.g = τ.g := by rw [hτ]; rfl
 rw [← hτ] at HN;obtain ⟨r, hr⟩ : ∃ r, r = Àc σ := ⟨_, rfl⟩;rw [← hr, hg];rw [← hr] at hbr;have HBR := ħ hbr;clear hbr hr h hg hτ;have hrg := ÇJ τ.t
 cases hok : Ņ τ.t with
 | false =>
  obtain rfl : r = none := by rw [HBR.o, hok]; rfl
  have hno := ÎS hok;generalize hn0 : ÂN τ.t = n0 at *;clear HBR hok hn0
  by_cases q : n0 < 0
  ·go_enter Tryz.func109, Tryz.ntmps109
   go_wp2_with fail
   refine HN.o.mono ?_;rintro e w1 ⟨rfl, hF, I', hG⟩;go_wp2
   go_ret3
   exact ⟨0, 0, I', rfl, hF, hG.sv⟩
  ·have q2 : 64 < n0 := by omega
   go_enter Tryz.func109, Tryz.ntmps109
   go_wp2_with fail
   refine HN.o.mono ?_;rintro e w1 ⟨rfl, hF, I', hG⟩;go_wp2
   go_ret3
   exact ⟨0, 0, I', rfl, hF, hG.sv⟩
 | true =>
  obtain ⟨e0, h64⟩ := ÈB hok;rw [e0] at HN;have hbr := HBR.o;rw [hok] at hbr;simp only [if_true] at hbr;have HB2 := ħ hbr
  have h640 : ((Ĝ τ.t : Nat) : Int) ≤ 64 := by omega
  clear hbr HBR hok e0 hrg;obtain ⟨n0, hn0⟩ : ∃ n0, n0 = Ĝ τ.t := ⟨_, rfl⟩;obtain ⟨τ1, hτ1⟩ : ∃ τ1, τ1 = τ.adv (Ñ τ.t) := ⟨_, rfl⟩
  have hg1 : τ1.g = τ.g := by rw [hτ1]; rfl
  rw [← hτ1, ← hn0] at HN;rw [← hn0] at h640 h64;rw [← hτ1, ← hn0] at HB2;have HG1 := ħ hg1;clear hτ1 hn0 hg1
  have p125 := Ŀ (c := 125) (t := τ1.t) (by decide)
  have p44 := Ŀ (c := 44) (t := τ1.t) (by decide)
  have HP125 := ħ p125;have HP44 := ħ p44;clear p125 p44;go_enter Tryz.func109, Tryz.ntmps109
  go_wp2_with fail
  refine HN.o.mono ?_;rintro e w1 ⟨rfl, hF1, I1, hG1⟩;have HF1 := ħ hF1
  by_cases a125 : at_ τ1.t 0 = 125
  ·have HI := ħ (ù [125] (by simp) (by simp) hG1 true (by rw [HP125.o]; exact decide_eq_true a125))
   obtain rfl : r = some (((n0 : Int), (n0 : Int)), τ1.adv 1) := by
    rw [HB2.o]
    have : pre [44, 125] τ1.t = false := by
     cases hh : τ1.t with
     | nil => rfl
     | cons b t =>
      rw [hh] at a125;have hb : b.toNat = 125 := a125
      have : b ≠ 44 := fun e => by rw [e] at hb; exact absurd hb (by decide)
      simp [pre, List.isPrefixOf, this.symm]
    rw [this, if_neg (by simp), if_neg (by omega), if_pos a125]
   clear HB2 hG1 hF1
   go_wp2_with fail
   refine HI.o.mono ?_;rintro e w2 ⟨rfl, hF2, I2, hG2⟩;go_wp2
   go_ret3
   exact ⟨rfl, HF1.o.trans hF2, I2, hG2⟩
  have HI := ħ (ù [125] (by simp) (by simp) hG1 false (by rw [HP125.o]; exact decide_eq_false a125))
  clear hG1 hF1
  go_wp2_with fail
  refine HI.o.mono ?_;rintro e w2 ⟨rfl, hF2, I2, hG2⟩;simp only [Ċ, if_false] at hG2;have HF2 := ħ (HF1.o.trans hF2);clear hF2
  by_cases a44 : at_ τ1.t 0 = 44
  ·have HI2 := ħ (ù [44] (by simp) (by simp) hG2 true (by rw [HP44.o]; exact decide_eq_true a44))
   clear hG2
   go_wp2_with fail
   refine HI2.o.mono ?_;rintro e w3 ⟨rfl, hF3, I3, hG3⟩;simp only [if_true, ć, Ď, ĉ] at hG3;have HF3 := ħ (HF2.o.trans hF3);clear hF3;obtain ⟨τ2, hτ2⟩ : ∃ τ2, τ2 = τ1.adv 1 := ⟨_, rfl⟩
   have h2 : τ1.adv 2 = τ2.adv 1 := by rw [hτ2]; simp [St.adv, Nat.add_assoc]
   have hpre2 : pre [44, 125] τ1.t = decide (at_ τ2.t 0 = 125) := by
    rw [hτ2]
    show _ = decide (at_ (τ1.t.drop 1) 0 = 125)
    cases hh : τ1.t with
    | nil => rw [hh] at a44; exact absurd a44 (by decide)
    | cons b t =>
     rw [hh] at a44
     have hb : b = 44 := UInt8.toNat_inj.1 (show b.toNat = (44 : UInt8).toNat from a44)
     subst hb
     have := Ŀ (c := 125) (t := t) (by decide)
     have h125 : (125 : UInt8).toNat = 125 := rfl;rw [h125] at this;simp only [pre, List.drop_succ_cons, List.drop_zero] at this ⊢;rw [← this];simp [List.isPrefixOf]
   have hb3 := HB2.o;rw [hpre2, if_pos a44, h2, ← hτ2] at hb3;have HB3 := ħ hb3;rw [← hτ2] at hG3
   have hg2 : τ2.g = τ1.g := by rw [hτ2]; rfl
   have HG2 := ħ hg2;clear hb3 hpre2 h2 hτ2 HB2 hg2
   have p125b := Ŀ (c := 125) (t := τ2.t) (by decide)
   by_cases b125 : at_ τ2.t 0 = 125
   ·have HI3 := ħ (ù [125] (by simp) (by simp) hG3 true (by rw [p125b]; exact decide_eq_true b125))
    obtain rfl : r = some (((n0 : Int), -1), τ2.adv 1) := by rw [HB3.o, if_pos (decide_eq_true b125)]
    clear HB3 hG3 p125b
    go_wp2_with fail
    refine HI3.o.mono ?_;rintro e w4 ⟨rfl, hF4, I4, hG4⟩;go_wp2
    go_ret3
    exact ⟨rfl, HF3.o.trans hF4, I4, hG4⟩
   have HI3 := ħ (ù [125] (by simp) (by simp) hG3 false (by rw [p125b]; exact decide_eq_false b125))
   clear hG3 p125b
   go_wp2_with fail
   refine HI3.o.mono ?_;rintro e w4 ⟨rfl, hF4, I4, hG4⟩;simp only [Ċ, if_false] at hG4;have HF4 := ħ (HF3.o.trans hF4);have HN2 := ħ (ÆA hG4);have hrg2 := ÇJ τ2.t;have hb4 := HB3.o
   rw [if_neg (by simpa using b125)] at hb4
   have HB4 := ħ hb4;obtain ⟨n1, hn1⟩ : ∃ n1, n1 = ÂN τ2.t := ⟨_, rfl⟩;rw [← hn1] at HN2 hrg2;have HN1 := ħ hn1;clear hF4 hG4 hb4 HB3 hn1
   go_wp2_with fail
   refine HN2.o.mono ?_;rintro e w5 ⟨rfl, hF5, I5, hG5⟩;have HF5 := ħ (HF4.o.trans hF5);have HG5 := ħ hG5;clear hF5 hG5
   have hgg : (τ2.adv (Ñ τ2.t)).g = τ.g := by
    have : (τ2.adv (Ñ τ2.t)).g = τ2.g := rfl;rw [this, HG2.o, HG1.o]
   have HGG := ħ hgg;clear hgg
   by_cases c1 : n1 < (n0 : Int)
   ·have c1' : ¬ (n0 : Int) ≤ n1 := by omega
    obtain rfl : r = none := by
     rw [HB4.o]
     cases hk : Ņ τ2.t with
     | false => simp
     | true =>
      have := (ÈB hk).1;rw [← HN1.o] at this;simp;omega
    go_wp2
    go_ret3
    exact ⟨n0, n1, I5, rfl, HF5.o, by rw [← HGG.o]; exact HG5.o.sv⟩
   by_cases c2 : 64 < n1
   ·have c2' : ¬ n1 ≤ 64 := by omega
    have c1' : (n0 : Int) ≤ n1 := by omega
    obtain rfl : r = none := by
     rw [HB4.o]
     cases hk : Ņ τ2.t with
     | false => simp
     | true =>
      have := ÈB hk;rw [← HN1.o] at this;omega
    go_wp2
    go_ret3
    exact ⟨n0, n1, I5, rfl, HF5.o, by rw [← HGG.o]; exact HG5.o.sv⟩
   have c1' : (n0 : Int) ≤ n1 := by omega
   have c2' : n1 ≤ 64 := by omega
   have hk : Ņ τ2.t = true := by
    cases hk : Ņ τ2.t with
    | true => rfl
    | false =>
     have := ÎS hk;rw [← HN1.o] at this;omega
   have hnn := ÈB hk;rw [← HN1.o] at hnn;obtain ⟨hnn1, _⟩ := hnn
   have p125c := Ŀ (c := 125) (t := (τ2.adv (Ñ τ2.t)).t) (by decide)
   by_cases c125 : at_ (τ2.adv (Ñ τ2.t)).t 0 = 125
   ·have HI4 := ħ (ù [125] (by simp) (by simp) HG5.o true (by rw [p125c]; exact decide_eq_true c125))
    obtain rfl : r = some (((n0 : Int), n1), (τ2.adv (Ñ τ2.t)).adv 1) := by
     rw [HB4.o, hk, if_pos (by simp; exact ⟨by omega, c125⟩), hnn1]
    clear HB4 p125c hk hnn1
    go_wp2_with fail
    refine HI4.o.mono ?_;rintro e w6 ⟨rfl, hF6, I6, hG6⟩;go_wp2
    go_ret3
    exact ⟨rfl, HF5.o.trans hF6, I6, hG6⟩
   ·have HI4 := ħ (ù [125] (by simp) (by simp) HG5.o false (by rw [p125c]; exact decide_eq_false c125))
    obtain rfl : r = none := by
     rw [HB4.o, if_neg (by simp; intro _ _; exact c125)]
    clear HB4 p125c hk hnn1
    go_wp2_with fail
    refine HI4.o.mono ?_;rintro e w6 ⟨rfl, hF6, I6, hG6⟩;simp only [Ċ, if_false] at hG6;go_wp2
    go_ret3
    exact ⟨n0, n1, I6, rfl, HF5.o.trans hF6, by rw [← HGG.o]; exact hG6.sv⟩
  ·have HI2 := ħ (ù [44] (by simp) (by simp) hG2 false (by rw [HP44.o]; exact decide_eq_false a44))
   obtain rfl : r = none := by
    rw [HB2.o]
    have : pre [44, 125] τ1.t = false := by
     cases hh : τ1.t with
     | nil => rfl
     | cons b t =>
      rw [hh] at a44;have hb : b.toNat ≠ 44 := a44
      have : b ≠ 44 := fun e => hb (by rw [e]; rfl)
      simp [pre, List.isPrefixOf, this.symm]
    rw [this, if_neg (by simp), if_neg a44, if_neg a125]
   clear HB2 hG2
   go_wp2_with fail
   refine HI2.o.mono ?_;rintro e w3 ⟨rfl, hF3, I3, hG3⟩;simp only [Ċ, if_false] at hG3;go_wp2
   go_ret3
   exact ⟨0, 0, I3, rfl, HF2.o.trans hF3, by rw [← HG1.o]; exact hG3.sv⟩
end
end Go.Proofs.YtpginkdkblmnbaaGreatDoor
