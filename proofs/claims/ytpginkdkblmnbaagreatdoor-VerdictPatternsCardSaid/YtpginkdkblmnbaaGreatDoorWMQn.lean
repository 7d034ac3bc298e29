import Derived.Test.YtpginkdkblmnbaaGreatDoorWQm
namespace Go.Proofs.YtpginkdkblmnbaaGreatDoor
section
open Go.RowKit
open Go.Proofs.YtpginkdkblmnbaaGreatDoor.Cl (Rg à Ý Ä ò Î Á)
variable {w w' w0 : World} {E : RE} {σ σ1 : St} {I g d c p : Nat} {rv rv' : Value} {refs : List (Nat × Nat)} {f : Flt}
def Ş (d : Nat) (σ : St) : Except Flt ((Int × Int × Int) × St) := if d = 32 then .error (25, σ.pos) else Ô σ
def OpP (E : RE) (d : Nat) (rv : Value) (refs : List (Nat × Nat)) (w : World) (r : Except Flt ((Int × Int × Int) × St)) (e : Ending) (w' : World) : Prop :=
 match r with
 | .ok x => e = .returned (.agg #[.int .i64 x.1.1, .int .i64 0, .int .i64 0, .int .i64 x.1.2.1, .int .i64 x.1.2.2, .slice none 0 0, .bool false, .slice none 0 0]) ∧ FrR E w rv w' rv ∧ ∃ I', Gd E w' x.2 d rv I' refs
 | .error f => e = .returned (.agg #[.int .i64 0, .int .i64 0, .int .i64 0, .int .i64 0, .int .i64 0, .slice none 0 0, .bool false, .slice none 0 0]) ∧ FrR E w rv w' rv ∧ Bd E w' d rv f
theorem ÉY (h40 : at_ σ.t 0 = 40) : Ô σ =
 if pre [63, 61] (σ.adv 1).t then .ok ((7, 0, 0), (σ.adv 1).adv 2)
 else if pre [63, 33] (σ.adv 1).t then .ok ((7, 1, 0), (σ.adv 1).adv 2)
 else if pre [63, 60, 61] (σ.adv 1).t then .ok ((7, 2, 0), (σ.adv 1).adv 3)
 else if pre [63, 60, 33] (σ.adv 1).t then .ok ((7, 3, 0), (σ.adv 1).adv 3)
 else if pre [63, 62] (σ.adv 1).t then .ok ((8, 0, 0), (σ.adv 1).adv 2)
 else if pre [63, 58] (σ.adv 1).t then .ok ((0, 0, 0), (σ.adv 1).adv 2)
 else if at_ (σ.adv 1).t 0 = 63 then .error (20, σ.pos)
 else if σ.g = 9 then .error (24, σ.pos)
 else .ok ((5, 0, ((σ.g + 1 : Nat) : Int)), opened σ) := by
 have e2 : (σ.adv 1).adv 2 = σ.adv 3 := by simp [St.adv, Nat.add_assoc]
 have e3 : (σ.adv 1).adv 3 = σ.adv 4 := by simp [St.adv, Nat.add_assoc]
 rw [e2, e3]
 have key : ∀ l, pre (40 :: l) σ.t = pre l (σ.adv 1).t := by
  intro l
  show pre (40 :: l) σ.t = pre l (σ.t.drop 1)
  cases hh : σ.t with
  | nil => rw [hh] at h40; exact absurd h40 (by decide)
  | cons b t =>
   rw [hh] at h40
   have hb : b = 40 := UInt8.toNat_inj.1 (show b.toNat = (40 : UInt8).toNat from h40)
   subst hb;simp [pre]
 unfold Ô;rw [key, key, key, key, key, key, key];generalize (σ.adv 1).t = t
 have p63 := Ŀ (c := 63) (t := t) (by decide)
 have h63 : (63 : UInt8).toNat = 63 := rfl;rw [h63] at p63;rw [p63];simp only [decide_eq_true_eq]
 match t with
 | [] => simp [pre, at_]
 | [b] =>
  by_cases hb : b = 63
  ·subst hb; simp [pre]
  ·simp [pre, Ne.symm hb]
 | b :: c :: t =>
  by_cases hb : b = 63
  ·subst hb
   by_cases c1 : c = 58
   ·subst c1; simp [pre]
   by_cases c2 : c = 61
   ·subst c2; simp [pre]
   by_cases c3 : c = 33
   ·subst c3; simp [pre]
   by_cases c4 : c = 60
   ·subst c4; simp [pre]
   simp [pre, Ne.symm c1, Ne.symm c2, Ne.symm c3, Ne.symm c4]
  ·simp [pre, Ne.symm hb]
theorem ÆD {b : Nat} {W : World} {c0 c1 c2 c3 c4 c5 c6 c7 : Value} {x y z : Int} (hb1 : w.heap.size ≤ b) (hne : b ≠ E.rb ∧ b ≠ E.ub ∧ b ≠ E.ab ∧ rv.ownBlock ≠ some b) (hF : FrR E w rv W rv) (hG : Gd E W σ d rv I refs) :
 OpP E d rv refs w (.ok ((x, y, z), σ)) (.returned (.agg #[.int .i64 x, .int .i64 0, .int .i64 0, .int .i64 y, .int .i64 z, .slice none 0 0, .bool false, .slice none 0 0])) (st8 W b c0 c1 c2 c3 c4 c5 c6 c7) := ⟨rfl, Û hb1 hF, I, ŗ hne hG⟩
theorem ÎU {b : Nat} {W : World} {c0 c1 c2 c3 c4 c5 c6 c7 : Value} (hb1 : w.heap.size ≤ b) (hne : b ≠ E.rb ∧ b ≠ E.ub ∧ b ≠ E.ab ∧ rv.ownBlock ≠ some b) (hF : FrR E w rv W rv) (hB : Bd E W d rv f) :
 OpP E d rv refs w (.error f) (.returned (.agg #[.int .i64 0, .int .i64 0, .int .i64 0, .int .i64 0, .int .i64 0, .slice none 0 0, .bool false, .slice none 0 0])) (st8 W b c0 c1 c2 c3 c4 c5 c6 c7) := ⟨rfl, Û hb1 hF, ĭ hne hB⟩
set_option maxRecDepth 100000 in
set_option maxHeartbeats 1000000 in
theorem ÃB (h : Gd E w0 σ d rv I refs) (h40 : at_ σ.t 0 = 40) (hG : Gd E w (σ.adv 1) d rv (I + 1) refs) : Calls Tryz.prog 131 #[.pointer (some ⟨E.rb, 0, none⟩), .int .i64 (I : Nat)] w (OpP E d rv refs w (Ş d σ)) := by
 obtain ⟨r, hr⟩ : ∃ r, r = Ş d σ := ⟨_, rfl⟩;rw [← hr];unfold Ş at hr;rw [ÉY h40] at hr;have HR0 := ħ hr;have HG := ħ h;have HNE := ħ (ÁD hG.sv);have hd := h.deep;have hg9 := h.sv.bnd.2.1;obtain ⟨zn, hzn⟩ : ∃ zn : Array Value, zn = #[.int .i64 0, .int .i64 0, .int .i64 0, .int .i64 0, .int .i64 0, .slice none 0 0, .bool false, .slice none 0 0] := ⟨_, rfl⟩;have HBa := ħ (Blk.new w 38 zn);have HGa := ħ (hG.alloc (.cells zn 38));have HFa := ħ ((FrR.refl (E := E) (rv := rv) w).alloc (.cells zn 38))
 have hsz : (w.alloc (.cells zn 38)).heap.size = w.heap.size + 1 := by simp
 subst hzn;clear hr h hG h40;go_enter Tryz.func131, Tryz.ntmps131
 go_upto_region 1 with (fail)
 generalize w.alloc _ = w1 at *;obtain ⟨_, _, _, _, c4, _⟩ := HGa.o.sv.ten
 by_cases d32 : d = 32
 ·subst d32
  obtain rfl : r = .error (25, σ.pos) := by rw [HR0.o]; rfl
  have HFl := ħ (Ō (σ0 := σ) (I0 := I) 25 (by omega) HG.o.atI HGa.o.sv)
  go_wp2_with fail
  refine HFl.o.mono ?_;rintro e w8 ⟨rfl, hF8, hB8⟩;have HBf := ħ (À hF8 HBa.o HNE.o);have hz := HBf.o.eight;have hfz := HBf.o.frozen;go_wp2;exact ß rfl rfl rfl (Æ HBf.o) (ÎU (ŋ _) HNE.o (HFa.o.trans hF8) hB8)
 have k32 : ((d : Int) == 32) = false := by simp; omega
 have k32' : ¬ (d : Int) = 32 := by omega
 have HR1 := ħ (show r = _ by rw [HR0.o, if_neg d32])
 obtain ⟨τ, hτ⟩ : ∃ τ, τ = σ.adv 1 := ⟨_, rfl⟩;have HT := ħ hτ;rw [← hτ] at HGa HR1;clear hτ d32 HR0
 go_upto_region 4 with (fail)
 clear c4 k32 k32'
 by_cases q0 : pre [63, 61] τ.t = true
 ·have HI := ħ (ù [63, 61] (by simp) (by decide) HGa.o true q0)
  obtain rfl : r = .ok ((7, 0, 0), τ.adv 2) := by rw [HR1.o, if_pos q0]
  go_wp2_with fail
  refine HI.o.mono ?_;rintro e w8 ⟨rfl, hF8, I8, hG8⟩;simp only [if_true, ć, Ď, ĉ, Nat.reduceAdd] at hG8;have HBf := ħ (À hF8 HBa.o HNE.o);have hz := HBf.o.eight;have hfz := HBf.o.frozen;go_wp2;exact ß rfl rfl rfl (Æ HBf.o) (ÆD (ŋ _) HNE.o (HFa.o.trans hF8) hG8)
 have HR2 := ħ (show r = _ by rw [HR1.o, if_neg q0])
 have q0' : pre [63, 61] τ.t = false := by simpa using q0
 have HI0 := ħ (ù [63, 61] (by simp) (by decide) HGa.o false q0')
 go_wp2_with fail
 refine HI0.o.mono ?_;rintro e wb ⟨rfl, hF8, Ib, hG8⟩;simp only [Ċ, if_false] at hG8;have HGb := ħ hG8;have HBb := ħ (À hF8 HBa.o HNE.o);have HFb := ħ (HFa.o.trans hF8);clear hG8 hF8 HI0 HBa HFa HGa HR1 q0 q0'
 by_cases q1 : pre [63, 33] τ.t = true
 ·have HI := ħ (ù [63, 33] (by simp) (by decide) HGb.o true q1)
  obtain rfl : r = .ok ((7, 1, 0), τ.adv 2) := by rw [HR2.o, if_pos q1]
  go_wp2_with fail
  refine HI.o.mono ?_;rintro e w8 ⟨rfl, hF8, I8, hG8⟩;simp only [if_true, ć, Ď, ĉ, Nat.reduceAdd] at hG8;have HBf := ħ (À hF8 HBb.o HNE.o);have hz := HBf.o.eight;have hfz := HBf.o.frozen;go_wp2;exact ß rfl rfl rfl (Æ HBf.o) (ÆD (ŋ _) HNE.o (HFb.o.trans hF8) hG8)
 have HR3 := ħ (show r = _ by rw [HR2.o, if_neg q1])
 have q1' : pre [63, 33] τ.t = false := by simpa using q1
 have HI1 := ħ (ù [63, 33] (by simp) (by decide) HGb.o false q1')
 go_wp2_with fail
 refine HI1.o.mono ?_;rintro e wc ⟨rfl, hF8, Ic, hG8⟩;simp only [Ċ, if_false] at hG8;have HGc := ħ hG8;have HBc := ħ (À hF8 HBb.o HNE.o);have HFc := ħ (HFb.o.trans hF8);clear hG8 hF8 HI1 HBb HFb HGb HR2 q1 q1'
 by_cases q2 : pre [63, 60, 61] τ.t = true
 ·have HI := ħ (ù [63, 60, 61] (by simp) (by decide) HGc.o true q2)
  obtain rfl : r = .ok ((7, 2, 0), τ.adv 3) := by rw [HR3.o, if_pos q2]
  go_wp2_with fail
  refine HI.o.mono ?_;rintro e w8 ⟨rfl, hF8, I8, hG8⟩;simp only [if_true, ć, Ď, ĉ, Nat.reduceAdd] at hG8;have HBf := ħ (À hF8 HBc.o HNE.o);have hz := HBf.o.eight;have hfz := HBf.o.frozen;go_wp2;exact ß rfl rfl rfl (Æ HBf.o) (ÆD (ŋ _) HNE.o (HFc.o.trans hF8) hG8)
 have HR4 := ħ (show r = _ by rw [HR3.o, if_neg q2])
 have q2' : pre [63, 60, 61] τ.t = false := by simpa using q2
 have HI2 := ħ (ù [63, 60, 61] (by simp) (by decide) HGc.o false q2')
 go_wp2_with fail
 refine HI2.o.mono ?_;rintro e wd ⟨rfl, hF8, Id, hG8⟩;simp only [Ċ, if_false] at hG8;have HGd := ħ hG8;have HBd := ħ (À hF8 HBc.o HNE.o);have HFd := ħ (HFc.o.trans hF8);clear hG8 hF8 HI2 HBc HFc HGc HR3 q2 q2'
 by_cases q3 : pre [63, 60, 33] τ.t = true
 ·have HI := ħ (ù [63, 60, 33] (by simp) (by decide) HGd.o true q3)
  obtain rfl : r = .ok ((7, 3, 0), τ.adv 3) := by rw [HR4.o, if_pos q3]
  go_wp2_with fail
  refine HI.o.mono ?_;rintro e w8 ⟨rfl, hF8, I8, hG8⟩;simp only [if_true, ć, Ď, ĉ, Nat.reduceAdd] at hG8;have HBf := ħ (À hF8 HBd.o HNE.o);have hz := HBf.o.eight;have hfz := HBf.o.frozen;go_wp2;exact ß rfl rfl rfl (Æ HBf.o) (ÆD (ŋ _) HNE.o (HFd.o.trans hF8) hG8)
 have HR5 := ħ (show r = _ by rw [HR4.o, if_neg q3])
 have q3' : pre [63, 60, 33] τ.t = false := by simpa using q3
 have HI3 := ħ (ù [63, 60, 33] (by simp) (by decide) HGd.o false q3')
 go_wp2_with fail
 refine HI3.o.mono ?_;rintro e we ⟨rfl, hF8, Ie, hG8⟩;simp only [Ċ, if_false] at hG8;have HGe := ħ hG8;have HBe := ħ (À hF8 HBd.o HNE.o);have HFe := ħ (HFd.o.trans hF8);clear hG8 hF8 HI3 HBd HFd HGd HR4 q3 q3'
 by_cases q4 : pre [63, 62] τ.t = true
 ·have HI := ħ (ù [63, 62] (by simp) (by decide) HGe.o true q4)
  obtain rfl : r = .ok ((8, 0, 0), τ.adv 2) := by rw [HR5.o, if_pos q4]
  go_wp2_with fail
  refine HI.o.mono ?_;rintro e w8 ⟨rfl, hF8, I8, hG8⟩;simp only [if_true, ć, Ď, ĉ, Nat.reduceAdd] at hG8;have HBf := ħ (À hF8 HBe.o HNE.o);have hz := HBf.o.eight;have hfz := HBf.o.frozen;go_wp2;exact ß rfl rfl rfl (Æ HBf.o) (ÆD (ŋ _) HNE.o (HFe.o.trans hF8) hG8)
 have HR6 := ħ (show r = _ by rw [HR5.o, if_neg q4])
 have q4' : pre [63, 62] τ.t = false := by simpa using q4
 have HI4 := ħ (ù [63, 62] (by simp) (by decide) HGe.o false q4')
 go_wp2_with fail
 refine HI4.o.mono ?_;rintro e wf ⟨rfl, hF8, If, hG8⟩;simp only [Ċ, if_false] at hG8;have HGf := ħ hG8;have HBf := ħ (À hF8 HBe.o HNE.o);have HFf := ħ (HFe.o.trans hF8);clear hG8 hF8 HI4 HBe HFe HGe HR5 q4 q4'
 by_cases q5 : pre [63, 58] τ.t = true
 ·have HI := ħ (ù [63, 58] (by simp) (by decide) HGf.o true q5)
  obtain rfl : r = .ok ((0, 0, 0), τ.adv 2) := by rw [HR6.o, if_pos q5]
  go_wp2_with fail
  refine HI.o.mono ?_;rintro e w8 ⟨rfl, hF8, I8, hG8⟩;simp only [if_true, ć, Ď, ĉ, Nat.reduceAdd] at hG8;have HBf := ħ (À hF8 HBf.o HNE.o);have hz := HBf.o.eight;have hfz := HBf.o.frozen;go_wp2;exact ß rfl rfl rfl (Æ HBf.o) (ÆD (ŋ _) HNE.o (HFf.o.trans hF8) hG8)
 have HR7 := ħ (show r = _ by rw [HR6.o, if_neg q5])
 have q5' : pre [63, 58] τ.t = false := by simpa using q5
 have HI5 := ħ (ù [63, 58] (by simp) (by decide) HGf.o false q5')
 go_wp2_with fail
 refine HI5.o.mono ?_;rintro e wg ⟨rfl, hF8, Ig, hG8⟩;simp only [Ċ, if_false] at hG8;have HGg := ħ hG8;have HBg := ħ (À hF8 HBf.o HNE.o);have HFg := ħ (HFf.o.trans hF8);clear hG8 hF8 HI5 HBf HFf HGf HR6 q5 q5';have HO := ħ (on0 HGg.o.sv);rw [ÃA HGg.o] at HO
 have hon := Ŋ (t := τ.t) (c := 63) (by omega) (by omega)
 by_cases q6 : at_ τ.t 0 = 63
 ·rw [hon.2 q6] at HO
  obtain rfl : r = .error (20, σ.pos) := by rw [HR7.o, if_pos q6]
  clear hon q6
  go_wp2_with fail
  refine HO.o.mono ?_;rintro e w7 ⟨rfl, m7, hw7⟩
  have HS7 : Hid (Sv E w7 Ig τ.g d 0 0 rv refs) := ħ (by rw [hw7]; exact HGg.o.sv.drewN _)
  have HB7 : Hid (Blk w7 w.heap.size 38 _) := ħ (by rw [hw7]; exact HBg.o)
  have HF7 : Hid (FrR E w rv w7 rv) := ħ (by rw [hw7]; exact HFg.o.drewN _)
  clear hw7
  have HFl := ħ (Ō (σ0 := σ) (I0 := I) 20 (by omega) HG.o.atI HS7.o)
  go_wp2_with fail
  refine HFl.o.mono ?_;rintro e w8 ⟨rfl, hF8, hB8⟩;have HBf := ħ (À hF8 HB7.o HNE.o);have hz := HBf.o.eight;have hfz := HBf.o.frozen;go_wp2;exact ß rfl rfl rfl (Æ HBf.o) (ÎU (ŋ _) HNE.o (HF7.o.trans hF8) hB8)
 have HR8 := ħ (show r = _ by rw [HR7.o, if_neg q6])
 obtain ⟨v, hv⟩ : ∃ v, v = onN τ.t 0 := ⟨_, rfl⟩;rw [← hv] at HO hon
 have q6' : ¬ v = 63 := fun e => q6 (hon.1 e)
 have k63 : (v == 63) = false := by simp [q6']
 clear hon hv q6
 go_wp2_with fail
 refine HO.o.mono ?_;rintro e w7 ⟨rfl, m7, hw7⟩
 have HG7 : Hid (Gd E w7 τ d rv Ig refs) := ħ (by rw [hw7]; exact HGg.o.drewN _)
 have HB7 : Hid (Blk w7 w.heap.size 38 _) := ħ (by rw [hw7]; exact HBg.o)
 have HF7 : Hid (FrR E w rv w7 rv) := ħ (by rw [hw7]; exact HFg.o.drewN _)
 clear hw7 HO HR7
 have hτg : τ.g = σ.g := by rw [HT.o]; rfl
 obtain ⟨_, _, _, c3, _⟩ := HG7.o.sv.ten;rw [hτg] at c3
 by_cases g9 : σ.g = 9
 ·obtain rfl : r = .error (24, σ.pos) := by rw [HR8.o, if_pos g9]
  rw [g9] at c3
  have HFl := ħ (Ō (σ0 := σ) (I0 := I) 24 (by omega) HG.o.atI HG7.o.sv)
  go_wp2_with fail
  refine HFl.o.mono ?_;rintro e w8 ⟨rfl, hF8, hB8⟩;have HBf := ħ (À hF8 HB7.o HNE.o);have hz := HBf.o.eight;have hfz := HBf.o.frozen;go_wp2;exact ß rfl rfl rfl (Æ HBf.o) (ÎU (ŋ _) HNE.o (HF7.o.trans hF8) hB8)
 have kg9 : ((σ.g : Int) == 9) = false := by simp; omega
 have kg9' : ¬ (σ.g : Int) = 9 := by omega
 have hg0 : (σ.g : Int) ≤ 9 := by omega
 obtain rfl : r = .ok ((5, 0, ((σ.g + 1 : Nat) : Int)), opened σ) := by rw [HR8.o, if_neg g9]
 have f3 := HG7.o.sv.fz 3
 have hs7 := HG7.o.sv.store (j := 3) (u := .int .i64 ((σ.g : Int) + 1)) (I' := Ig) (g' := σ.g + 1) (d' := d) (c' := 0) (p' := 0) (by rw [Int.natCast_add]; rfl) ⟨HG7.o.sv.bnd.1, by omega, by omega, by omega, by omega⟩
 have hG9 : Gd E (w7.setCell ⟨E.rb, 3, none⟩ (.int .i64 ((σ.g : Int) + 1))) (opened σ) d rv Ig refs := by
  have hp := HG7.o.pos;have hb := HG7.o.refl;have hs := HG7.o.same;rw [HT.o] at hp hb hs;exact ⟨hs7, ⟨hp.suf, hp.le, hp.units, hp.begins⟩, hb, hs, HG7.o.deep, HG7.o.le, HG7.o.rl⟩
 have HG9 := ħ hG9;have HB9 := ħ (HB7.o.far (p := ⟨E.rb, 3, none⟩) HNE.o.1 (.int .i64 ((σ.g : Int) + 1)));have HF9 := ħ (HF7.o.set_ (q := ⟨E.rb, 3, none⟩) (.inl rfl) (.int .i64 ((σ.g : Int) + 1)));clear hs7 hG9
 go_upto_region 23 with (fail)
 clear c3 f3 HB7 HF7 HG7;generalize w7.setCell ⟨E.rb, 3, none⟩ (.int .i64 ((σ.g : Int) + 1)) = w9 at *;obtain ⟨_, _, _, c3, _⟩ := HG9.o.sv.ten;have hz := HB9.o.eight;have hfz := HB9.o.frozen;go_wp2;exact ß rfl rfl rfl (Æ HB9.o) (ÆD (ŋ _) HNE.o HF9.o HG9.o)
end
section
open Go.RowKit
open Go.Proofs.YtpginkdkblmnbaaGreatDoor.Cl (Rg à Ý Ä ò Î Á)
variable {w w' w0 : World} {E : RE} {σ σ1 : St} {I g d c p : Nat} {rv rv' : Value} {refs : List (Nat × Nat)} {f : Flt}
def jV (k : Int) (v : Value) : List QN → Value
 | [] => .agg #[.int .i64 0, .int .i64 0, .int .i64 0, .int .i64 0, .int .i64 0, .slice none 0 0, .bool false, .slice none 0 0]
 | [x] => .agg #[.int .i64 x.1.kind, .int .i64 x.1.lo, .int .i64 x.1.hi, .int .i64 x.1.mode, .int .i64 x.1.ref, x.2.1, .bool x.2.2.1, x.2.2.2]
 | _ => .agg #[.int .i64 k, .int .i64 0, .int .i64 0, .int .i64 0, .int .i64 0, .slice none 0 0, .bool false, v]
structure Âq (w : World) (base : Nat) (v : Value) (L : List QN) : Prop where
 own : w.ownsRow base 38 8 v L.length (ÀP L)
 sl : ∀ x ∈ L, ∃ A n c B m e, x.2.1 = .slice A n c ∧ x.2.2.2 = .slice B m e
theorem Âq.form {base : Nat} {v : Value} {L : List QN} (h : Âq w base v L) : ∃ A c, v = .slice A L.length c := by
 rcases h.own.2 with ⟨rfl, hn⟩ | ⟨b, cap, cur, rfl, _⟩
 ·exact ⟨none, 0, by rw [hn]⟩
 ·exact ⟨_, _, rfl⟩
theorem Âq.first {base : Nat} {v : Value} {x : QN} {L : List QN} (h : Âq w base v (x :: L)) : ∃ b c, v = .slice (some ⟨b, 0, none⟩) (L.length + 1) c ∧ b < w.heap.size ∧ Ás w b 0 x.1 x.2.1 x.2.2.1 x.2.2.2 := by
 obtain ⟨b, cap, hv, _, hb⟩ := h.own.form (by simp)
 refine ⟨b, cap, hv, ?_, fun j u hu => ?_⟩
 ·rcases h.own.2 with ⟨_, hn⟩ | ⟨b', cap', cur, hv', _, hh, _⟩
  ·simp at hn
  ·rw [hv] at hv'
   obtain rfl : b = b' := by injection hv' with e; injection e with e; injection e
   exact ä hh
 ·subst hv
  have hc := h.own.cells (g := b) rfl _ _ (Æu (x :: L) 0 j x u rfl hu)
  have hadd : ∀ j, (⟨b, 0, none⟩ : Addr).add j = ⟨b, 0 + j, none⟩ := fun j => by unfold Addr.add; split <;> simp_all
  rw [hadd] at hc;simpa using hc
set_option maxRecDepth 100000 in
set_option maxHeartbeats 1000000 in
theorem Ų {base : Nat} {v : Value} {L : List QN} (k : Int) (h : Âq w base v L) (hm : L.length ≤ 1000000) : Calls Tryz.prog 63 #[.int .i64 k, v] w fun e w' => e = .returned (jV k v L) ∧ Below w.heap.size w w' := by
 obtain ⟨zn, hzn⟩ : ∃ zn : Array Value, zn = #[.int .i64 0, .int .i64 0, .int .i64 0, .int .i64 0, .int .i64 0, .slice none 0 0, .bool false, .slice none 0 0] := ⟨_, rfl⟩;have HBa := ħ (Blk.new w 38 zn);have hba := (ā w.heap.size w).alloc (ŋ _) (.cells zn 38)
 have hend : ∀ (W : World) (c0 c1 c2 c3 c4 c5 c6 c7 : Value), Below w.heap.size w W → Below w.heap.size w (st8 W w.heap.size c0 c1 c2 c3 c4 c5 c6 c7) := fun W c0 c1 c2 c3 c4 c5 c6 c7 hW => by
  have hf : FrR ⟨w.heap.size, 0, none, none, 0, 0, 0, 0, []⟩ W (.slice none 0 0) (st8 W w.heap.size c0 c1 c2 c3 c4 c5 c6 c7) (.slice none 0 0) :=
   ((((((((FrR.refl W).set_ (.inl rfl) c0).set_ (.inl rfl) c1).set_ (.inl rfl) c2).set_ (.inl rfl) c3).set_ (.inl rfl) c4).set_ (.inl rfl) c5).set_ (.inl rfl) c6).set_ (.inl rfl) c7
  exact ⟨hf.os.trans hW.os, hf.tape.trans hW.tape, hf.output.trans hW.output, ē hW.size hf.size, fun i hi => (hf.block i (Ć hi hW.size) (by simp only; omega) (by simp [Value.ownBlock])).trans (hW.block i hi)⟩
 have HEnd := ħ hend;have HBel := ħ hba;clear hend hba
 match L, h, hm with
 | [], h, _ =>
  obtain ⟨A, c, rfl⟩ := h.form;subst hzn;go_enter Tryz.func63, Tryz.ntmps63
  go_upto_region 1 with (fail)
  generalize w.alloc _ = w1 at *;have hz := HBa.o.eight;have hfz := HBa.o.frozen;go_wp2;exact ß rfl rfl rfl (Æ HBa.o) ⟨rfl, HEnd.o _ _ _ _ _ _ _ _ _ HBel.o⟩
 | [x], h, _ =>
  obtain ⟨b, c, rfl, hlt, hq⟩ := h.first
  obtain ⟨A, n, c', B, m, e', hx1, hx2⟩ := h.sl x (by simp)
  have hq1 := hq.on (Below.heap_alloc w (.cells zn 38) b hlt);have b0 := hq1.eight;simp only [ĉ] at b0;rw [hx1, hx2] at b0
  have hv : jV k (.slice (some ⟨b, 0, none⟩) (([] : List QN).length + 1) c) [x] = .agg #[.int .i64 x.1.kind, .int .i64 x.1.lo, .int .i64 x.1.hi, .int .i64 x.1.mode, .int .i64 x.1.ref, .slice A n c', .bool x.2.2.1, .slice B m e'] := by
   show Value.agg #[.int .i64 x.1.kind, .int .i64 x.1.lo, .int .i64 x.1.hi, .int .i64 x.1.mode, .int .i64 x.1.ref, x.2.1, .bool x.2.2.1, x.2.2.2] = _
   rw [hx1, hx2]
  rw [hv]
  have HNE : Hid (b ≠ w.heap.size) := ħ (by omega)
  subst hzn;clear hq hq1 hx1 hx2 h hv;simp only [Ď, ĉ];go_enter Tryz.func63, Tryz.ntmps63
  go_upto_region 1 with (fail)
  generalize w.alloc _ = w1 at *;have hz := HBa.o.eight;have hfz := HBa.o.frozen;go_wp2;exact ß rfl rfl rfl (Æ HBa.o) ⟨rfl, HEnd.o _ _ _ _ _ _ _ _ _ HBel.o⟩
 | x :: y :: L, h, hm =>
  obtain ⟨b, c, rfl, hlt, _⟩ := h.first
  have hv : jV k (.slice (some ⟨b, 0, none⟩) ((y :: L).length + 1) c) (x :: y :: L) = .agg #[.int .i64 k, .int .i64 0, .int .i64 0, .int .i64 0, .int .i64 0, .slice none 0 0, .bool false, .slice (some ⟨b, 0, none⟩) ((y :: L).length + 1) c] := rfl;rw [hv];obtain ⟨n, hn⟩ : ∃ n, n = (y :: L).length + 1 := ⟨_, rfl⟩
  have n2 : 2 ≤ n := by rw [hn]; simp
  have n3 : n ≤ 1000000 := by rw [hn]; simpa using hm
  rw [← hn]
  have k0 : ¬ (n : Int) = 0 := by omega
  have k1 : ¬ (n : Int) = 1 := by omega
  have k0' : ((n : Int) == 0) = false := by simp; omega
  have k1' : ((n : Int) == 1) = false := by simp; omega
  have n3' : (n : Int) ≤ 1000000 := by omega
  subst hzn;clear hv hn h hm;go_enter Tryz.func63, Tryz.ntmps63
  go_upto_region 1 with (fail)
  generalize w.alloc _ = w1 at *;have hz := HBa.o.eight;have hfz := HBa.o.frozen;go_wp2;exact ß rfl rfl rfl (Æ HBa.o) ⟨rfl, HEnd.o _ _ _ _ _ _ _ _ _ HBel.o⟩
end
section
open Go.RowKit
open Go.Proofs.YtpginkdkblmnbaaGreatDoor.Cl (Rg à Ý Ä ò Î Á)
variable {w w' w0 : World} {E : RE} {σ σ1 : St} {I g d c p : Nat} {rv rv' : Value} {refs : List (Nat × Nat)} {f : Flt}
def ÈC (gr : Bool) (a : Nd) : Bool := !(!gr && (decide (a.kind = 9) || decide (a.kind = 7)))
def BP (E : RE) (d : Nat) (rv : Value) (f : Flt) (w : World) (e : Ending) (w' : World) : Prop := ∃ v, e = .returned v ∧ Íp v ∧ FrR E w rv w' rv ∧ Bd E w' d rv f
def ÉZ (E : RE) (n : Nat) : Prop := ∀ {w : World} {σ : St} {d I : Nat} {rv : Value} {refs : List (Nat × Nat)}, 4 * σ.t.length + 2 ≤ n → Gd E w σ d rv I refs → Calls Tryz.prog 34 #[.pointer (some ⟨E.rb, 0, none⟩)] w (NP1 E d rv w (run n 0 d [] σ))
def ÐV (E : RE) : Prop := ∀ {w : World} {d : Nat} {rv : Value} {f : Flt}, Bd E w d rv f → Calls Tryz.prog 34 #[.pointer (some ⟨E.rb, 0, none⟩)] w (BP E d rv f w)
theorem ÄA (n d : Nat) (σ : St) : run (n + 1) 3 d [] σ = match Ş d σ with
 | .error e => .error e
 | .ok x => match run n 0 (d + 1) [] x.2 with
  | .error e => .error e
  | .ok y => if at_ y.2.t 0 = 41 then .ok (wrap x.1 y.1, y.2.adv 1) else .error (20, σ.pos) := by
 rw [Ác];unfold Ş
 by_cases h : d = 32
 ·rw [if_pos h, if_pos h]
 ·rw [if_neg h, if_neg h]
  cases Ô σ with
  | error e => rfl
  | ok x =>
   obtain ⟨sh, σ1⟩ := x
   dsimp only
   cases run n 0 (d + 1) [] σ1 with
   | error e => rfl
   | ok y => rfl
theorem Bd.to (h : Bd E w d rv f) {d' : Nat} (hd : d' ≤ 33) {x : Int} (hx : x = (d' : Int)) : Bd E (w.setCell ⟨E.rb, 4, none⟩ (.int .i64 x)) d' rv f := by
 subst hx;obtain ⟨h0, g, refs, h⟩ := h;exact ⟨h0, g, refs, h.store (j := 4) rfl ⟨h.bnd.1, h.bnd.2.1, hd, h.bnd.2.2.2.1, h.bnd.2.2.2.2.1⟩⟩
theorem Gd.to (h : Gd E w σ d rv I refs) {d' : Nat} (hd : d' ≤ 32) {x : Int} (hx : x = (d' : Int)) : Gd E (w.setCell ⟨E.rb, 4, none⟩ (.int .i64 x)) σ d' rv I refs := by
 subst hx
 exact ⟨h.sv.store (j := 4) rfl ⟨h.sv.bnd.1, h.sv.bnd.2.1, by omega, h.sv.bnd.2.2.2.1, h.sv.bnd.2.2.2.2.1⟩, h.pos, h.refl, h.same, hd, h.le, h.rl⟩
theorem Bd.c46 (h : Bd E w d rv f) : w.cell? ⟨E.rb, 4, none⟩ = some (.int .i64 (d : Nat)) ∧ w.cell? ⟨E.rb, 6, none⟩ = some (.int .i64 (f.1 : Nat)) ∧ (∀ j, w.frozen? ⟨E.rb, j, none⟩ = false) ∧ d ≤ 33 ∧ f.1 ≠ 0 := by
 obtain ⟨h0, g, refs, h⟩ := h;obtain ⟨_, _, _, _, c4, _, c6, _⟩ := h.ten;exact ⟨c4, c6, h.fz, h.bnd.2.2.1, h0⟩
theorem Bd.alloc (h : Bd E w d rv f) (o : Obj) : Bd E (w.alloc o) d rv f := by
 obtain ⟨h0, g, refs, h⟩ := h;exact ⟨h0, g, refs, h.alloc o⟩
theorem Bd.new (h : Bd E w d rv f) {k : Nat} (hk : w.heap.size ≤ k) : k ≠ E.rb ∧ k ≠ E.ub ∧ k ≠ E.ab ∧ rv.ownBlock ≠ some k := by
 obtain ⟨_, g, refs, h⟩ := h;have h1 := h.blk.lt;have h2 := h.ub_lt
 refine ⟨by omega, by omega, by omega, fun e => ?_⟩
 have := (h.own_lt e).1;omega
theorem Bd.lt (h : Bd E w d rv f) : E.rb < w.heap.size := by
 obtain ⟨_, g, refs, h⟩ := h;exact h.blk.lt
set_option maxRecDepth 100000 in
set_option maxHeartbeats 1000000 in
theorem ÎV {n : Nat} (hA : ÐV E) (h : Gd E w0 σ d rv I refs) (h40 : at_ σ.t 0 = 40) (hG : Gd E w (σ.adv 1) d rv (I + 1) refs) (ho : Ş d σ = .error f) (may : Nd → Bool) : Calls Tryz.prog 108 #[.pointer (some ⟨E.rb, 0, none⟩), .int .i64 (I : Nat)] w (NP E d rv w may (run (n + 1) 3 d [] σ)) := by
 rw [ÄA, ho]
 have HNE : Hid (∀ k, w.heap.size ≤ k → k ≠ E.rb ∧ k ≠ E.ub ∧ k ≠ E.ab ∧ rv.ownBlock ≠ some k) := ħ (fun k hk => by
  have h1 := hG.sv.blk.lt;have h2 := hG.sv.ub_lt
  refine ⟨by omega, by omega, by omega, fun e => ?_⟩
  have := (hG.sv.own_lt e).1
  omega)
 have hrb := hG.sv.blk.lt;have hd := h.deep;obtain ⟨zn, hzn⟩ : ∃ zn : Array Value, zn = #[.int .i64 0, .int .i64 0, .int .i64 0, .int .i64 0, .int .i64 0, .slice none 0 0, .bool false, .slice none 0 0] := ⟨_, rfl⟩;have HB0a := ħ (Blk.new w 38 zn);have hGa := hG.alloc (.cells zn 38);have HFa := ħ ((FrR.refl (E := E) (rv := rv) w).alloc (.cells zn 38))
 have hsz : (w.alloc (.cells zn 38)).heap.size = w.heap.size + 1 := by simp
 have HO := ħ (ÃB h h40 hGa);rw [ho] at HO;subst hzn;clear h hG hGa ho h40;go_enter Tryz.func108, Tryz.ntmps108
 go_upto_region 1 with (fail)
 generalize w.alloc _ = w1 at *
 go_wp2_with fail
 refine HO.o.mono ?_;rintro e w2 ⟨rfl, hF2, hB2⟩
 have HB02 := ħ (À hF2 HB0a.o (HNE.o _ (by omega)))
 have HF2 := ħ (HFa.o.trans hF2);have hs2 := hF2.size;have HBd2 := ħ hB2;clear hF2 hB2 HO HB0a HFa
 go_upto_region 2 with (fail)
 have HB03 := ħ (HB02.o.alloc (.cells #[.int .i64 0, .int .i64 0, .int .i64 0, .int .i64 0, .int .i64 0, .slice none 0 0, .bool false, .slice none 0 0] 38));have HB63 := ħ (Blk.new w2 38 #[.int .i64 0, .int .i64 0, .int .i64 0, .int .i64 0, .int .i64 0, .slice none 0 0, .bool false, .slice none 0 0]);have HBd3 := ħ (HBd2.o.alloc (.cells #[.int .i64 0, .int .i64 0, .int .i64 0, .int .i64 0, .int .i64 0, .slice none 0 0, .bool false, .slice none 0 0] 38));have HF3 := ħ (HF2.o.alloc (.cells #[.int .i64 0, .int .i64 0, .int .i64 0, .int .i64 0, .int .i64 0, .slice none 0 0, .bool false, .slice none 0 0] 38))
 have hs3 : (w2.alloc (.cells #[.int .i64 0, .int .i64 0, .int .i64 0, .int .i64 0, .int .i64 0, .slice none 0 0, .bool false, .slice none 0 0] 38)).heap.size = w2.heap.size + 1 := by simp
 clear HB02 HBd2 HF2;generalize w2.alloc _ = w3 at *;obtain ⟨b6, hb6⟩ : ∃ b6, b6 = w2.heap.size := ⟨_, rfl⟩;rw [← hb6] at HB63 hs2 hs3 ⊢;clear hb6;obtain ⟨c4, _, fz, hd3, _⟩ := HBd3.o.c46;have f4 := fz 4
 have hdi : (d : Int) ≤ 32 := by omega
 clear fz
 go_upto_region 3 with (fail)
 have HB04 := ħ (HB03.o.far (p := ⟨E.rb, 4, none⟩) (by simp only; omega) (.int .i64 ((d : Int) + 1)))
 have HB64 := ħ (HB63.o.far (p := ⟨E.rb, 4, none⟩) (by simp only; omega) (.int .i64 ((d : Int) + 1)))
 have HBd4 := ħ (HBd3.o.to (d' := d + 1) (by omega) (x := (d : Int) + 1) (by omega))
 have HF4 := ħ (HF3.o.set_ (q := ⟨E.rb, 4, none⟩) (.inl rfl) (.int .i64 ((d : Int) + 1)))
 have hs4 : (w3.setCell ⟨E.rb, 4, none⟩ (.int .i64 ((d : Int) + 1))).heap.size = b6 + 1 := by simp [World.setCell, hs3]
 clear c4 f4 HB03 HB63 HBd3 HF3 hs3;generalize w3.setCell ⟨E.rb, 4, none⟩ (.int .i64 ((d : Int) + 1)) = w4 at *;have HAl := ħ (hA HBd4.o)
 go_wp2_with fail
 refine HAl.o.mono ?_;rintro e w5 ⟨v, rfl, ⟨k, lo, hi, m, r, A1, A2, n1, p1, n2, p2, nb, rfl⟩, hF5, hB5⟩
 have HB05 := ħ (À hF5 HB04.o (HNE.o _ (by omega)))
 have HB65 := ħ (À hF5 HB64.o (HNE.o _ (by omega)))
 have HF5 := ħ (HF4.o.trans hF5);have hs5 := hF5.size;have HBd5 := ħ hB5;clear hF5 hB5 HAl HB04 HB64 HBd4 HF4
 go_upto_region 4 with (fail)
 obtain ⟨kn, hkn⟩ : ∃ kn : Array Value, kn = #[.int .i64 k, .int .i64 lo, .int .i64 hi, .int .i64 m, .int .i64 r, .slice A1 n1 p1, .bool nb, .slice A2 n2 p2] := ⟨_, rfl⟩;have HB06 := ħ (HB05.o.alloc (.cells kn 38));have HB66 := ħ (HB65.o.alloc (.cells kn 38));have HB76 := ħ (Blk.new w5 38 kn);have HBd6 := ħ (HBd5.o.alloc (.cells kn 38));have HF6 := ħ (HF5.o.alloc (.cells kn 38))
 have hs6 : (w5.alloc (.cells kn 38)).heap.size = w5.heap.size + 1 := by simp
 subst hkn;clear HB05 HB65 HBd5 HF5;generalize w5.alloc _ = w6 at *;obtain ⟨b7, hb7⟩ : ∃ b7, b7 = w5.heap.size := ⟨_, rfl⟩;rw [← hb7] at HB76 hs5 hs6 ⊢;clear hb7;obtain ⟨c4, _, fz, _, _⟩ := HBd6.o.c46;have f4 := fz 4;rw [Int.natCast_add] at c4;clear fz
 go_upto_region 5 with (fail)
 have HB07 := ħ (HB06.o.far (p := ⟨E.rb, 4, none⟩) (by simp only; omega) (.int .i64 (d : Int)))
 have HB67 := ħ (HB66.o.far (p := ⟨E.rb, 4, none⟩) (by simp only; omega) (.int .i64 (d : Int)))
 have HB77 := ħ (HB76.o.far (p := ⟨E.rb, 4, none⟩) (by simp only; omega) (.int .i64 (d : Int)))
 have HBd7 := ħ (HBd6.o.to (d' := d) (by omega) (x := (d : Int)) rfl)
 have HF7 := ħ (HF6.o.set_ (q := ⟨E.rb, 4, none⟩) (.inl rfl) (.int .i64 (d : Int)));clear c4 f4 HB06 HB66 HB76 HBd6 HF6;generalize w6.setCell ⟨E.rb, 4, none⟩ (.int .i64 (d : Int)) = w7 at *;obtain ⟨_, c6, _, _, hf0⟩ := HBd7.o.c46
 have q6 : ((f.1 : Int) == 0) = false := by simp; omega
 have q6' : ¬ (f.1 : Int) = 0 := by omega
 have z6 := HB67.o.eight;have z7 := HB77.o.eight;have hz := HB07.o.eight;have hfz := HB07.o.frozen;go_wp2
 exact ō rfl rfl rfl rfl (Æ HB07.o) ⟨rv, _, true, rfl, ⟨k, lo, hi, m, r, A1, A2, n1, p1, n2, p2, nb, rfl⟩, Û (ŋ _) HF7.o, ĭ (HNE.o _ (by omega)) HBd7.o⟩
end
section
open Go.RowKit
open Go.Proofs.YtpginkdkblmnbaaGreatDoor.Cl (Rg à Ý Ä ò Î Á)
variable {w w' w0 : World} {E : RE} {σ σ1 : St} {I g d c p : Nat} {rv rv' : Value} {refs : List (Nat × Nat)} {f : Flt}
theorem Blk.drew {b : Nat} {t : TypeId} {cs : Array Value} (h : Blk w b t cs) : Blk w.drew b t cs := h
theorem FrR.drew (h : FrR E w0 rv w rv') : FrR E w0 rv w.drew rv' := ⟨h.os, h.tape, h.output, h.size, h.block, h.row⟩
theorem Bd.drew (h : Bd E w d rv f) : Bd E w.drew d rv f := by
 obtain ⟨h0, g, refs, h⟩ := h
 exact ⟨h0, g, refs, h.keep (fun _ _ _ => rfl) (ŋ _)⟩
set_option maxRecDepth 100000 in
set_option maxHeartbeats 1000000 in
theorem ÎW {n : Nat} (hA : ÉZ E n) (h : Gd E w0 σ d rv I refs) (h40 : at_ σ.t 0 = 40) (hG : Gd E w (σ.adv 1) d rv (I + 1) refs) {x1 x2 x3 : Int} {σ1 : St} (ho : Ş d σ = .ok ((x1, x2, x3), σ1)) (hr : run n 0 (d + 1) [] σ1 = .error f) (hfu : 4 * σ1.t.length + 2 ≤ n) (may : Nd → Bool) :
 Calls Tryz.prog 108 #[.pointer (some ⟨E.rb, 0, none⟩), .int .i64 (I : Nat)] w (NP E d rv w may (run (n + 1) 3 d [] σ)) := by
 rw [ÄA, ho]
 dsimp only
 rw [hr]
 have h32 : d ≠ 32 := by
  rintro rfl;unfold Ş at ho;rw [if_pos rfl] at ho;cases ho
 have HNE : Hid (∀ k, w.heap.size ≤ k → k ≠ E.rb ∧ k ≠ E.ub ∧ k ≠ E.ab ∧ rv.ownBlock ≠ some k) := ħ (fun k hk => by
  have h1 := hG.sv.blk.lt;have h2 := hG.sv.ub_lt
  refine ⟨by omega, by omega, by omega, fun e => ?_⟩
  have := (hG.sv.own_lt e).1
  omega)
 have hrb := hG.sv.blk.lt;have hd := h.deep;obtain ⟨zn, hzn⟩ : ∃ zn : Array Value, zn = #[.int .i64 0, .int .i64 0, .int .i64 0, .int .i64 0, .int .i64 0, .slice none 0 0, .bool false, .slice none 0 0] := ⟨_, rfl⟩;have HB0a := ħ (Blk.new w 38 zn);have hGa := hG.alloc (.cells zn 38);have HFa := ħ ((FrR.refl (E := E) (rv := rv) w).alloc (.cells zn 38))
 have hsz : (w.alloc (.cells zn 38)).heap.size = w.heap.size + 1 := by simp
 have HO := ħ (ÃB h h40 hGa);rw [ho] at HO;have HRn := ħ hr;subst hzn;clear h hG hGa ho h40 hr;go_enter Tryz.func108, Tryz.ntmps108
 go_upto_region 1 with (fail)
 generalize w.alloc _ = w1 at *
 go_wp2_with fail
 refine HO.o.mono ?_;rintro e w2 ⟨rfl, hF2, I2, hG2⟩
 dsimp only at hG2 ⊢
 have HB02 := ħ (À hF2 HB0a.o (HNE.o _ (by omega)))
 have HF2 := ħ (HFa.o.trans hF2);have hs2 := hF2.size;have HGd2 := ħ hG2;clear hF2 hG2 HO HB0a HFa
 go_upto_region 2 with (fail)
 have HB03 := ħ (HB02.o.alloc (.cells #[.int .i64 x1, .int .i64 0, .int .i64 0, .int .i64 x2, .int .i64 x3, .slice none 0 0, .bool false, .slice none 0 0] 38));have HB63 := ħ (Blk.new w2 38 #[.int .i64 x1, .int .i64 0, .int .i64 0, .int .i64 x2, .int .i64 x3, .slice none 0 0, .bool false, .slice none 0 0]);have HGd3 := ħ (HGd2.o.alloc (.cells #[.int .i64 x1, .int .i64 0, .int .i64 0, .int .i64 x2, .int .i64 x3, .slice none 0 0, .bool false, .slice none 0 0] 38));have HF3 := ħ (HF2.o.alloc (.cells #[.int .i64 x1, .int .i64 0, .int .i64 0, .int .i64 x2, .int .i64 x3, .slice none 0 0, .bool false, .slice none 0 0] 38))
 have hs3 : (w2.alloc (.cells #[.int .i64 x1, .int .i64 0, .int .i64 0, .int .i64 x2, .int .i64 x3, .slice none 0 0, .bool false, .slice none 0 0] 38)).heap.size = w2.heap.size + 1 := by simp
 clear HB02 HGd2 HF2;generalize w2.alloc _ = w3 at *;obtain ⟨b6, hb6⟩ : ∃ b6, b6 = w2.heap.size := ⟨_, rfl⟩;rw [← hb6] at HB63 hs2 hs3 ⊢;clear hb6;obtain ⟨_, _, _, _, c4, _⟩ := HGd3.o.sv.ten;have f4 := HGd3.o.sv.fz 4
 have hdi : (d : Int) ≤ 32 := by omega
 go_upto_region 3 with (fail)
 have HB04 := ħ (HB03.o.far (p := ⟨E.rb, 4, none⟩) (by simp only; omega) (.int .i64 ((d : Int) + 1)))
 have HB64 := ħ (HB63.o.far (p := ⟨E.rb, 4, none⟩) (by simp only; omega) (.int .i64 ((d : Int) + 1)))
 have HGd4 := ħ (HGd3.o.to (d' := d + 1) (by omega) (x := (d : Int) + 1) (by omega))
 have HF4 := ħ (HF3.o.set_ (q := ⟨E.rb, 4, none⟩) (.inl rfl) (.int .i64 ((d : Int) + 1)))
 have hs4 : (w3.setCell ⟨E.rb, 4, none⟩ (.int .i64 ((d : Int) + 1))).heap.size = b6 + 1 := by simp [World.setCell, hs3]
 clear c4 f4 HB03 HB63 HGd3 HF3 hs3;generalize w3.setCell ⟨E.rb, 4, none⟩ (.int .i64 ((d : Int) + 1)) = w4 at *;have HAl := ħ (hA hfu HGd4.o);rw [HRn.o] at HAl
 go_wp2_with fail
 refine HAl.o.mono ?_;rintro e w5 ⟨rv', v, rfl, ⟨k, lo, hi, m, r, A1, A2, n1, p1, n2, p2, nb, rfl⟩, hF5, hB5⟩
 have HNE' : Hid (∀ k, w.heap.size ≤ k → k < w4.heap.size → k ≠ E.rb ∧ k ≠ E.ub ∧ k ≠ E.ab ∧ rv'.ownBlock ≠ some k) := ħ (fun k hk hk' => Ű hF5 hk' (HNE.o k hk))
 have HB05 := ħ (À hF5 HB04.o (HNE.o _ (by omega)))
 have HB65 := ħ (À hF5 HB64.o (HNE.o _ (by omega)))
 have HF5 := ħ (HF4.o.trans hF5);have hs5 := hF5.size;have HBd5 := ħ hB5;clear hF5 hB5 HAl HB04 HB64 HGd4 HF4
 go_upto_region 4 with (fail)
 obtain ⟨kn, hkn⟩ : ∃ kn : Array Value, kn = #[.int .i64 k, .int .i64 lo, .int .i64 hi, .int .i64 m, .int .i64 r, .slice A1 n1 p1, .bool nb, .slice A2 n2 p2] := ⟨_, rfl⟩;have HB06 := ħ (HB05.o.alloc (.cells kn 38));have HB66 := ħ (HB65.o.alloc (.cells kn 38));have HB76 := ħ (Blk.new w5 38 kn);have HBd6 := ħ (HBd5.o.alloc (.cells kn 38));have HF6 := ħ (HF5.o.alloc (.cells kn 38))
 have hs6 : (w5.alloc (.cells kn 38)).heap.size = w5.heap.size + 1 := by simp
 have hrb5 := HBd5.o.lt;subst hkn;clear HB05 HB65 HBd5 HF5;generalize w5.alloc _ = w6 at *;obtain ⟨b7, hb7⟩ : ∃ b7, b7 = w5.heap.size := ⟨_, rfl⟩;rw [← hb7] at HB76 hs5 hs6 hrb5 ⊢;clear hb7;obtain ⟨c4, _, fz, _, _⟩ := HBd6.o.c46;have f4 := fz 4;rw [Int.natCast_add] at c4;clear fz
 go_upto_region 5 with (fail)
 have HB07 := ħ (HB06.o.far (p := ⟨E.rb, 4, none⟩) (by simp only; omega) (.int .i64 (d : Int)))
 have HB67 := ħ (HB66.o.far (p := ⟨E.rb, 4, none⟩) (by simp only; omega) (.int .i64 (d : Int)))
 have HB77 := ħ (HB76.o.far (p := ⟨E.rb, 4, none⟩) (by simp only; omega) (.int .i64 (d : Int)))
 have HBd7 := ħ (HBd6.o.to (d' := d) (by omega) (x := (d : Int)) rfl)
 have HF7 := ħ (HF6.o.set_ (q := ⟨E.rb, 4, none⟩) (.inl rfl) (.int .i64 (d : Int)))
 have hs7 : (w6.setCell ⟨E.rb, 4, none⟩ (.int .i64 (d : Int))).heap.size = b7 + 1 := by simp [World.setCell, hs6]
 clear c4 f4 HB06 HB66 HB76 HBd6 HF6;generalize w6.setCell ⟨E.rb, 4, none⟩ (.int .i64 (d : Int)) = w7 at *;obtain ⟨_, c6, _, _, hf0⟩ := HBd7.o.c46
 have q6 : ((f.1 : Int) == 0) = false := by simp; omega
 have q6' : ¬ (f.1 : Int) = 0 := by omega
 have z7 := HB77.o.eight;have hz := HB07.o.eight;have hfz := HB07.o.frozen
 by_cases hx : x1 = 0
 ·subst hx
  have z6 := HB67.o.eight;go_wp2
  exact ō rfl rfl rfl rfl (Æ HB07.o) ⟨rv', _, true, rfl, ⟨k, lo, hi, m, r, A1, A2, n1, p1, n2, p2, nb, rfl⟩, Û (ŋ _) HF7.o, ĭ (HNE'.o _ (by omega) (by omega)) HBd7.o⟩
 have kx : (x1 == 0) = false := by simp [hx]
 obtain ⟨kn, hkn⟩ : ∃ kn : Array Value, kn = #[.int .i64 k, .int .i64 lo, .int .i64 hi, .int .i64 m, .int .i64 r, .slice A1 n1 p1, .bool nb, .slice A2 n2 p2] := ⟨_, rfl⟩;have z6 := HB67.o.eight;have HB08 := ħ (HB07.o.alloc (.cells kn 38));have HB68 := ħ (HB67.o.alloc (.cells kn 38));have HBd8 := ħ (HBd7.o.alloc (.cells kn 38));have HF8 := ħ (HF7.o.alloc (.cells kn 38));have f6 := HB68.o.frozen;have y6 := HB68.o.eight
 have u67 : b6 < w7.heap.size := by omega
 have u68 : b6 ≠ b7 + 1 := by omega
 have hs8 : (w7.alloc (.cells kn 38)).heap.size = b7 + 2 := by simp [hs7]
 subst hkn
 go_upto_region 10 with (fail)
 clear z6 f6 y6 hz hfz z7 c6 q6 q6';generalize w7.alloc _ = w8 at *
 have HB09 := ħ (HB08.o.far (p := ⟨b6, 7, none⟩) (by simp only; omega) (.slice (some ⟨b7 + 1, 0, none⟩) 1 1))
 have HB69 : Hid (Blk (w8.setCell ⟨b6, 7, none⟩ (.slice (some ⟨b7 + 1, 0, none⟩) 1 1)) b6 38 #[.int .i64 x1, .int .i64 0, .int .i64 0, .int .i64 x2, .int .i64 x3, .slice none 0 0, .bool false, .slice (some ⟨b7 + 1, 0, none⟩) 1 1]) := ħ (HB68.o.set_ 7 (.slice (some ⟨b7 + 1, 0, none⟩) 1 1))
 have HBd9 : Hid (Bd E (w8.setCell ⟨b6, 7, none⟩ (.slice (some ⟨b7 + 1, 0, none⟩) 1 1)) d rv' f) := ħ (by
  obtain ⟨h0, g, refs, h⟩ := HBd8.o
  exact ⟨h0, g, refs, h.far (HNE'.o _ (by omega) (by omega)) _⟩)
 have HF9 := ħ (HF8.o.set_ (q := ⟨b6, 7, none⟩) (.inr (by simp only; omega)) (.slice (some ⟨b7 + 1, 0, none⟩) 1 1))
 clear HB08 HB68 HBd8 HF8;generalize w8.setCell ⟨b6, 7, none⟩ (.slice (some ⟨b7 + 1, 0, none⟩) 1 1) = w9 at *;have z6 := HB69.o.eight;have hz := HB09.o.eight;have hfz := HB09.o.frozen;have hBz := Æ (c0 := .int .i64 x1) (c1 := .int .i64 0) (c2 := .int .i64 0) (c3 := .int .i64 x2) (c4 := .int .i64 x3) (c5 := .slice none 0 0) (c6 := .bool false) (c7 := .slice (some ⟨b7 + 1, 0, none⟩) 1 1) HB09.o;have hFz : FrR E w rv (st8 w9 w.heap.size (.int .i64 x1) (.int .i64 0) (.int .i64 0) (.int .i64 x2) (.int .i64 x3) (.slice none 0 0) (.bool false) (.slice (some ⟨b7 + 1, 0, none⟩) 1 1)) rv' := Û (ŋ _) HF9.o
 have hDz : Bd E (st8 w9 w.heap.size (.int .i64 x1) (.int .i64 0) (.int .i64 0) (.int .i64 x2) (.int .i64 x3) (.slice none 0 0) (.bool false) (.slice (some ⟨b7 + 1, 0, none⟩) 1 1)) d rv' f := ĭ (HNE'.o _ (by omega) (by omega)) HBd9.o
 have HBz := ħ hBz.drew;have HFz := ħ hFz.drew;have HDz := ħ hDz.drew;clear hBz hFz hDz;unfold st8 at HBz HFz HDz
 go_region
 generalize World.drew _ = wz at HBz HFz HDz ⊢;go_wp2;exact ō rfl rfl rfl rfl HBz.o ⟨rv', _, (x1 != 7), rfl, ⟨x1, 0, 0, x2, x3, none, some ⟨b7 + 1, 0, none⟩, 0, 0, 1, 1, false, rfl⟩, HFz.o, HDz.o⟩
end
end Go.Proofs.YtpginkdkblmnbaaGreatDoor
