import Derived.Test.YtpginkdkblmnbaaGreatDoorWMQk
namespace Go.Proofs.YtpginkdkblmnbaaGreatDoor
section
open Go.RowKit
open Go.Proofs.YtpginkdkblmnbaaGreatDoor.Cl (Rg à Ý Ä ò Î Á)
variable {w w' w0 : World} {E : RE} {σ σ1 : St} {I g d c p : Nat} {rv rv' : Value} {refs : List (Nat × Nat)} {f : Flt}
def KX (base bx : Nat) (w : World) (rv : Value) (b : Nat) : Prop := KQ base w rv b ∧ b ≠ bx
theorem KX.step {base bx b : Nat} (hb : E.rb < base) (hF : FrR E w rv w' rv') (h : KX base bx w rv b) : KX base bx w' rv' b ∧ w'.heap[b]? = w.heap[b]? := ⟨⟨(h.1.step hb hF).1, h.2⟩, (h.1.step hb hF).2⟩
theorem KX.below {base bx b : Nat} {rv : Value} (hb : Below w.heap.size w w') (h : KX base bx w rv b) : KX base bx w' rv b ∧ w'.heap[b]? = w.heap[b]? := ⟨⟨(h.1.below hb).1, h.2⟩, (h.1.below hb).2⟩
def RpP (E : RE) (d : Nat) (rv : Value) (refs : List (Nat × Nat)) (w : World) (base bx : Nat) (r : R) (e : Ending) (w' : World) : Prop :=
 match r with
 | .ok x => ∃ I' A1 n1 p1 nb A2 p2, e = .returned (.agg #[.int .i64 x.1.kind, .int .i64 x.1.lo, .int .i64 x.1.hi, .int .i64 x.1.mode, .int .i64 x.1.ref, .slice A1 n1 p1, .bool nb, .slice A2 x.1.kids.length p2]) ∧
  Ó (KX base bx w' rv) w' x.1 (.slice A1 n1 p1) nb (.slice A2 x.1.kids.length p2) ∧ FrR E w rv w' rv ∧ Gd E w' x.2 d rv I' refs
 | .error f => ∃ v, e = .returned v ∧ Íp v ∧ FrR E w rv w' rv ∧ Bd E w' d rv f
theorem ÎT {gr may : Bool} {a : Nd} (hmay : may = !(!gr && (decide (a.kind = 9) || decide (a.kind = 7)))) : Ù gr a σ =
 if isQ (at_ σ.t 0) then (if may then (match times σ with | none => .error (23, σ.pos) | some x => .ok (Àz x.1.1 x.1.2 (è x.2.t) a, È x.2)) else .error (23, σ.pos)) else .ok (a, σ) := by
 unfold Ù;rw [hmay]
 cases isQ (at_ σ.t 0) with
 | false => rfl
 | true =>
  cases (!gr && (decide (a.kind = 9) || decide (a.kind = 7))) with
  | true => rfl
  | false =>
   simp only [if_true, Ċ, if_false, Bool.not_false]
   cases times σ with
   | none => rfl
   | some x => rfl
theorem ÆB {b n1 p1 p2 : Nat} {A1 A2 : Option Addr} {nb : Bool} {a : Nd} (h : Blk w b 38 #[.int .i64 a.kind, .int .i64 a.lo, .int .i64 a.hi, .int .i64 a.mode, .int .i64 a.ref, .slice A1 n1 p1, .bool nb, .slice A2 a.kids.length p2]) : Ás w b 0 a (.slice A1 n1 p1) nb (.slice A2 a.kids.length p2) := by
 intro j u hu;rw [ĉ, h.cell j];rw [← hu];simp [Ľ]
theorem ÀQ {base bx b b2 n1 p1 p2 : Nat} {A1 A2 : Option Addr} {nb : Bool} {a : Nd} {lo hi m : Int} {W : World} {c0 c1 c2 c3 c4 c5 c6 c7 : Value} (hN : Ó (KX base bx w rv) w a (.slice A1 n1 p1) nb (.slice A2 a.kids.length p2)) (hb : E.rb < base) (hbw : base ≤ w.heap.size) (hbx : bx < w.heap.size)
 (hb1 : w.heap.size ≤ b) (hne : b ≠ E.rb ∧ b ≠ E.ub ∧ b ≠ E.ab ∧ rv.ownBlock ≠ some b) (hb2 : w.heap.size ≤ b2 ∧ b2 ≠ b) (hne2 : rv.ownBlock ≠ some b2) (hF : FrR E w rv W rv) (hG : Gd E W σ d rv I refs)
 (h2 : Blk W b2 38 #[.int .i64 a.kind, .int .i64 a.lo, .int .i64 a.hi, .int .i64 a.mode, .int .i64 a.ref, .slice A1 n1 p1, .bool nb, .slice A2 a.kids.length p2]) :
 RpP E d rv refs w base bx (.ok (Àz lo hi m a, σ)) (.returned (.agg #[.int .i64 4, .int .i64 lo, .int .i64 hi, .int .i64 m, .int .i64 0, .slice none 0 0, .bool false, .slice (some ⟨b2, 0, none⟩) 1 1])) (st8 W b c0 c1 c2 c3 c4 c5 c6 c7) := by
 have hF' : FrR E w rv (st8 W b c0 c1 c2 c3 c4 c5 c6 c7) rv := Û hb1 hF;have h2' : Blk (st8 W b c0 c1 c2 c3 c4 c5 c6 c7) b2 38 _ := (ÂL hb2.2).trans h2;refine ⟨I, none, 0, 0, false, some ⟨b2, 0, none⟩, 1, rfl, ?_, hF', ŗ hne hG⟩
 exact Ó.one (by decide) (ŋ _) ⟨⟨by omega, h2'.lt, hne2⟩, by omega⟩ (hN.keep fun _ hi => hi.step hb hF') (ÆB h2')
theorem ÆC {base bx b : Nat} {v : Value} {W : World} {c0 c1 c2 c3 c4 c5 c6 c7 : Value} (hb1 : w.heap.size ≤ b) (hne : b ≠ E.rb ∧ b ≠ E.ub ∧ b ≠ E.ab ∧ rv.ownBlock ≠ some b) (hv : Íp v) (hF : FrR E w rv W rv) (hB : Bd E W d rv f) :
 RpP E d rv refs w base bx (.error f) (.returned v) (st8 W b c0 c1 c2 c3 c4 c5 c6 c7) := ⟨v, rfl, hv, Û hb1 hF, ĭ hne hB⟩
theorem ÏZ {base bx b n1 p1 p2 : Nat} {A1 A2 : Option Addr} {nb : Bool} {a : Nd} {W : World} {c0 c1 c2 c3 c4 c5 c6 c7 : Value} (hN : Ó (KX base bx w rv) w a (.slice A1 n1 p1) nb (.slice A2 a.kids.length p2)) (hb : E.rb < base)
 (hb1 : w.heap.size ≤ b) (hne : b ≠ E.rb ∧ b ≠ E.ub ∧ b ≠ E.ab ∧ rv.ownBlock ≠ some b) (hF : FrR E w rv W rv) (hG : Gd E W σ d rv I refs) :
 RpP E d rv refs w base bx (.ok (a, σ)) (.returned (.agg #[.int .i64 a.kind, .int .i64 a.lo, .int .i64 a.hi, .int .i64 a.mode, .int .i64 a.ref, .slice A1 n1 p1, .bool nb, .slice A2 a.kids.length p2])) (st8 W b c0 c1 c2 c3 c4 c5 c6 c7) := by
 have hF' : FrR E w rv (st8 W b c0 c1 c2 c3 c4 c5 c6 c7) rv := Û hb1 hF
 exact ⟨I, A1, n1, p1, nb, A2, p2, rfl, hN.keep fun _ hi => hi.step hb hF', hF', ŗ hne hG⟩
set_option maxRecDepth 100000 in
set_option maxHeartbeats 1000000 in
theorem Ëw (h : Gd E w σ d rv I refs) {gr may : Bool} {a : Nd} {base bx n1 p1 p2 : Nat} {A1 A2 : Option Addr} {nb : Bool} (hN : Ó (KX base bx w rv) w a (.slice A1 n1 p1) nb (.slice A2 a.kids.length p2)) (hb : E.rb < base) (hbw : base ≤ w.heap.size) (hbx : bx < w.heap.size)
 (hmay : may = !(!gr && (decide (a.kind = 9) || decide (a.kind = 7)))) :
 Calls Tryz.prog 92 #[.pointer (some ⟨E.rb, 0, none⟩), .agg #[.int .i64 a.kind, .int .i64 a.lo, .int .i64 a.hi, .int .i64 a.mode, .int .i64 a.ref, .slice A1 n1 p1, .bool nb, .slice A2 a.kids.length p2], .bool may] w (RpP E d rv refs w base bx (Ù gr a σ)) := by
 obtain ⟨r, hr⟩ : ∃ r, r = Ù gr a σ := ⟨_, rfl⟩;rw [← hr];rw [ÎT hmay] at hr;clear hmay;obtain ⟨kn, hkn⟩ : ∃ kn : Array Value, kn = #[.int .i64 a.kind, .int .i64 a.lo, .int .i64 a.hi, .int .i64 a.mode, .int .i64 a.ref, .slice A1 n1 p1, .bool nb, .slice A2 a.kids.length p2] := ⟨_, rfl⟩;obtain ⟨zn, hzn⟩ : ∃ zn : Array Value, zn = #[.int .i64 0, .int .i64 0, .int .i64 0, .int .i64 0, .int .i64 0, .slice none 0 0, .bool false, .slice none 0 0] := ⟨_, rfl⟩;have h256 := h.sv.n256;have hle := h.le;have hrb := h.sv.blk.lt;have HG := ħ h;have HN := ħ hN
 have HNE : Hid (∀ k, w.heap.size ≤ k → k ≠ E.rb ∧ k ≠ E.ub ∧ k ≠ E.ab ∧ rv.ownBlock ≠ some k) := ħ (fun k hk => by
  have h1 := HG.o.sv.blk.lt;have h2 := HG.o.sv.ub_lt
  refine ⟨by omega, by omega, by omega, fun e => ?_⟩
  have := (HG.o.sv.own_lt e).1
  omega)
 have hB0 : Blk ((w.alloc (.cells kn 38)).alloc (.cells zn 38)) w.heap.size 38 kn := (Blk.new w 38 kn).alloc _
 have hB1 : Blk ((w.alloc (.cells kn 38)).alloc (.cells zn 38)) (w.heap.size + 1) 38 zn := by
  have := Blk.new (w.alloc (.cells kn 38)) 38 zn;simpa using this
 have hS1 := (h.alloc (.cells kn 38)).alloc (.cells zn 38);have hF1 := ((FrR.refl (E := E) (rv := rv) w).alloc (.cells kn 38)).alloc (.cells zn 38)
 have hsz1 : ((w.alloc (.cells kn 38)).alloc (.cells zn 38)).heap.size = w.heap.size + 2 := by simp
 have HKN := ħ hkn;have HB0 := ħ hB0;have HB1a := ħ hB1;have HGa := ħ hS1;have HFa := ħ hF1;subst hkn hzn;clear hB0 hB1 hS1 hF1 h hN;have HO0 := ħ (ÃA HG.o);have HR0 := ħ hr;clear hr;go_enter Tryz.func92, Tryz.ntmps92
 go_upto_region 1 with (fail)
 generalize (w.alloc _).alloc _ = w1 at *;have b0 := HB0.o.eight;obtain ⟨_, _, c2, _⟩ := HGa.o.sv.ten
 go_upto_region 3 with (fail)
 obtain ⟨nn, hnn⟩ : ∃ nn : Array Value, nn = #[.int .i64 4, .int .i64 0, .int .i64 (-1), .int .i64 0, .int .i64 0, .slice none 0 0, .bool false, .slice (some ⟨w.heap.size + 2, 0, none⟩) 1 1] := ⟨_, rfl⟩;obtain ⟨kn, hkn⟩ : ∃ kn : Array Value, kn = #[.int .i64 a.kind, .int .i64 a.lo, .int .i64 a.hi, .int .i64 a.mode, .int .i64 a.ref, .slice A1 n1 p1, .bool nb, .slice A2 a.kids.length p2] := ⟨_, rfl⟩;have HB0b := ħ ((HB0.o.alloc (.cells kn 38)).alloc (.cells nn 38));have HB1b := ħ ((HB1a.o.alloc (.cells kn 38)).alloc (.cells nn 38))
 have hB2b : Blk ((w1.alloc (.cells kn 38)).alloc (.cells nn 38)) (w.heap.size + 2) 38 kn := by
  rw [← hsz1];exact (Blk.new w1 38 kn).alloc _
 have hB3b : Blk ((w1.alloc (.cells kn 38)).alloc (.cells nn 38)) (w.heap.size + 2 + 1) 38 nn := by
  have := Blk.new (w1.alloc (.cells kn 38)) 38 nn;simpa [hsz1] using this
 have HGb := ħ ((HGa.o.alloc (.cells kn 38)).alloc (.cells nn 38));have HFb := ħ ((HFa.o.alloc (.cells kn 38)).alloc (.cells nn 38))
 have hszb : ((w1.alloc (.cells kn 38)).alloc (.cells nn 38)).heap.size = w.heap.size + 4 := by simp [hsz1]
 subst hkn hnn;have HB2b := ħ hB2b;have HB3b := ħ hB3b;clear hB2b hB3b b0 c2 hsz1 HB0 HB1a HGa HFa HKN;generalize (w1.alloc _).alloc _ = w2 at *;have HO := ħ (on0 HGb.o.sv);rw [HO0.o] at HO;obtain ⟨v, hv⟩ : ∃ v, v = onN σ.t 0 := ⟨_, rfl⟩;rw [← hv] at HO;have HV := ħ hv;clear hv
 go_wp2_with fail
 refine HO.o.mono ?_;rintro e w3 ⟨rfl, m3, hw3⟩
 have HB0c : Hid (Blk w3 w.heap.size 38 _) := ħ (by rw [hw3]; exact HB0b.o)
 have HB1c : Hid (Blk w3 (w.heap.size + 1) 38 _) := ħ (by rw [hw3]; exact HB1b.o)
 have HB2c : Hid (Blk w3 (w.heap.size + 2) 38 _) := ħ (by rw [hw3]; exact HB2b.o)
 have HB3c : Hid (Blk w3 (w.heap.size + 2 + 1) 38 _) := ħ (by rw [hw3]; exact HB3b.o)
 have HGc : Hid (Gd E w3 σ d rv I refs) := ħ (by rw [hw3]; exact HGb.o.drewN _)
 have HFc : Hid (FrR E w rv w3 rv) := ħ (by rw [hw3]; exact HFb.o.drewN _)
 have hszc : w3.heap.size = w.heap.size + 4 := by rw [hw3]; exact hszb
 clear hw3 HB0b HB1b HB2b HB3b HGb HFb hszb HO
 have HQ : Hid (isQ (at_ σ.t 0) = decide (v = 42 ∨ v = 43 ∨ v = 63 ∨ v = 123)) := ħ (by
  rw [HV.o]
  have e1 := Ŋ (t := σ.t) (c := 42) (by omega) (by omega)
  have e2 := Ŋ (t := σ.t) (c := 43) (by omega) (by omega)
  have e3 := Ŋ (t := σ.t) (c := 63) (by omega) (by omega)
  have e4 := Ŋ (t := σ.t) (c := 123) (by omega) (by omega)
  unfold isQ;rw [decide_eq_decide, ← e1, ← e2, ← e3, ← e4]
  rfl)
 by_cases hq : v = 42 ∨ v = 43 ∨ v = 63 ∨ v = 123
 rotate_left
 ·obtain ⟨q1, hq⟩ := not_or.1 hq
  obtain ⟨q2, hq⟩ := not_or.1 hq;obtain ⟨q3, q4⟩ := not_or.1 hq
  obtain rfl : r = .ok (a, σ) := by
   rw [HR0.o, HQ.o, if_neg (by simp; omega)]
  have b0 := HB0c.o.eight;have hz := HB1c.o.eight;have hfz := HB1c.o.frozen
  have n1 : (v != 42) = true := by simp [q1]
  have n2 : (v != 43) = true := by simp [q2]
  have n3 : (v != 63) = true := by simp [q3]
  have n4 : (v != 123) = true := by simp [q4]
  clear hq;go_wp2
  exact ß rfl rfl rfl (Æ HB1c.o) (ÏZ HN.o hb (by omega) (HNE.o _ (by omega)) HFc.o HGc.o)
 have hat : at_ σ.t 0 = v.toNat ∧ 42 ≤ at_ σ.t 0 ∧ at_ σ.t 0 < 128 := by
  have e1 := Ŋ (t := σ.t) (c := v.toNat) (by omega) (by omega)
  have := e1.1 (by rw [← HV.o]; omega)
  omega
 obtain ⟨hat0, hat1, hat2⟩ := hat
 have hn : σ.t ≠ [] := Àf (by omega)
 have hlt := HG.o.lt hn;have HP1 := ħ (HG.o.pos.small hn hat2)
 have HR1 : Hid (r = if may then (match times σ with | none => .error (23, σ.pos) | some x => .ok (Àz x.1.1 x.1.2 (è x.2.t) a, È x.2)) else .error (23, σ.pos)) := ħ (by
  rw [HR0.o, HQ.o, if_pos (decide_eq_true hq)])
 have HA := ħ hat0;obtain ⟨_, _, c2, _⟩ := HGc.o.sv.ten;have f2 := HGc.o.sv.fz 2
 have HGd : Hid (Gd E (w3.setCell ⟨E.rb, 2, none⟩ (.int .i64 ((I : Int) + 1))) (σ.adv 1) d rv (I + 1) refs) := ħ (by
  have := HGc.o.sv.setI (J := I + 1) (by omega)
  rw [Int.natCast_add] at this
  exact HG.o.move this HP1.o rfl rfl (by omega) hlt)
 have HB1d := ħ (HB1c.o.far (p := ⟨E.rb, 2, none⟩) (by simp only; omega) (.int .i64 ((I : Int) + 1)))
 have HB2d := ħ (HB2c.o.far (p := ⟨E.rb, 2, none⟩) (by simp only; omega) (.int .i64 ((I : Int) + 1)))
 have HB3d := ħ (HB3c.o.far (p := ⟨E.rb, 2, none⟩) (by simp only; omega) (.int .i64 ((I : Int) + 1)))
 have HFd := ħ (HFc.o.set_ (q := ⟨E.rb, 2, none⟩) (.inl rfl) (.int .i64 ((I : Int) + 1)))
 have hszd : (w3.setCell ⟨E.rb, 2, none⟩ (.int .i64 ((I : Int) + 1))).heap.size = w.heap.size + 4 := by simp [World.setCell, hszc]
 clear hat0 hat1 hat2 hn HB0c HB1c HB2c HB3c HGc HFc HR0 HQ HO0
 rcases hq with rfl | hq
 ·have ht : times σ = some ((0, (-1)), σ.adv 1) := by
   have : at_ σ.t 0 = 42 := HA.o;unfold times;simp [this]
  have HR2 := ħ (show r = if may then .ok (Àz 0 (-1) (è (σ.adv 1).t) a, È (σ.adv 1)) else .error (23, σ.pos) by rw [HR1.o, ht])
  clear ht HA HV HR1
  go_upto_region 7 with (fail)
  clear c2 f2;generalize w3.setCell ⟨E.rb, 2, none⟩ (.int .i64 ((I : Int) + 1)) = w4 at *;have b3 := HB3d.o.eight
  cases may with
  | false =>
   obtain rfl : r = .error (23, σ.pos) := HR2.o
   have HFl := ħ (Ō (σ0 := σ) (I0 := I) 23 (by omega) HG.o.atI HGd.o.sv)
   go_wp2_with fail
   refine HFl.o.mono ?_;rintro e w8 ⟨rfl, hF8, hB8⟩
   have HB1f := ħ (À hF8 HB1d.o (HNE.o _ (by omega)))
   have HB2f := ħ (À hF8 HB2d.o (HNE.o _ (by omega)))
   have HB3f := ħ (À hF8 HB3d.o (HNE.o _ (by omega)))
   have HFf := ħ (HFd.o.trans hF8);have b3 := HB3f.o.eight;have hz := HB1f.o.eight;have hfz := HB1f.o.frozen;go_wp2
   exact ß rfl rfl rfl (Æ HB1f.o) (ÆC (by omega) (HNE.o _ (by omega)) ⟨4, 0, (-1), 0, 0, none, _, 0, 0, 1, 1, false, rfl⟩ HFf.o hB8)
  | true =>
   have HR := ħ (show r = .ok (Àz 0 (-1) (è (σ.adv 1).t) a, È (σ.adv 1)) from HR2.o)
   clear HR2;have HGx := ħ (HGd.o)
   have p63 := Ŀ (c := 63) (t := (σ.adv 1).t) (by decide)
   have p43 := Ŀ (c := 43) (t := (σ.adv 1).t) (by decide)
   by_cases m63 : at_ (σ.adv 1).t 0 = 63
   ·have HI := ħ (ù [63] (by simp) (by simp) HGx.o true (by rw [p63]; exact decide_eq_true m63))
    obtain rfl : r = .ok (Àz 0 (-1) 1 a, (σ.adv 1).adv 1) := by rw [HR.o]; simp [È, è, m63]
    clear p63 p43
    go_wp2_with fail
    refine HI.o.mono ?_;rintro e w6 ⟨rfl, hF6, I6, hG6⟩;simp only [if_true, ć, Ď, ĉ] at hG6;have HG6 := ħ hG6
    have HB1g := ħ (À hF6 HB1d.o (HNE.o _ (by omega)))
    have HB2g := ħ (À hF6 HB2d.o (HNE.o _ (by omega)))
    have HB3g := ħ (À hF6 HB3d.o (HNE.o _ (by omega)))
    have HFg := ħ (HFd.o.trans hF6);have b3 := HB3g.o.eight;have f3 := HB3g.o.frozen;clear hG6 hF6
    go_upto_region 21 with (fail)
    have HB1h := ħ (HB1g.o.far (p := ⟨w.heap.size + 2 + 1, 3, none⟩) (by simp only; omega) (.int .i64 1))
    have HB2h := ħ (HB2g.o.far (p := ⟨w.heap.size + 2 + 1, 3, none⟩) (by simp only; omega) (.int .i64 1))
    have HB3h : Hid (Blk (w6.setCell ⟨w.heap.size + 2 + 1, 3, none⟩ (.int .i64 1)) (w.heap.size + 2 + 1) 38 #[.int .i64 4, .int .i64 0, .int .i64 (-1), .int .i64 1, .int .i64 0, .slice none 0 0, .bool false, .slice (some ⟨w.heap.size + 2, 0, none⟩) 1 1]) := ħ (HB3g.o.set_ 3 (.int .i64 1))
    have HFh := ħ (HFg.o.set_ (q := ⟨w.heap.size + 2 + 1, 3, none⟩) (.inr (by simp only; omega)) (.int .i64 1))
    have HG7 : Hid (Gd E (w6.setCell ⟨w.heap.size + 2 + 1, 3, none⟩ (.int .i64 1)) ((σ.adv 1).adv 1) d rv I6 refs) := ħ ⟨HG6.o.sv.far (HNE.o _ (by omega)) _, HG6.o.pos, HG6.o.refl, HG6.o.same, HG6.o.deep, HG6.o.le, HG6.o.rl⟩
    clear b3 f3;generalize w6.setCell ⟨w.heap.size + 2 + 1, 3, none⟩ (.int .i64 1) = w7 at *;have b3 := HB3h.o.eight;have hz := HB1h.o.eight;have hfz := HB1h.o.frozen;go_wp2
    exact ß rfl rfl rfl (Æ HB1h.o) (ÀQ HN.o hb hbw hbx (by omega) (HNE.o _ (by omega)) (by omega) (HNE.o _ (by omega)).2.2.2 HFh.o HG7.o HB2h.o)
   have HI := ħ (ù [63] (by simp) (by simp) HGx.o false (by rw [p63]; exact decide_eq_false m63))
   go_wp2_with fail
   refine HI.o.mono ?_;rintro e w6 ⟨rfl, hF6, I6, hG6⟩;simp only [Ċ, if_false] at hG6;have HG6 := ħ hG6
   have HB1g := ħ (À hF6 HB1d.o (HNE.o _ (by omega)))
   have HB2g := ħ (À hF6 HB2d.o (HNE.o _ (by omega)))
   have HB3g := ħ (À hF6 HB3d.o (HNE.o _ (by omega)))
   have HFg := ħ (HFd.o.trans hF6);clear hG6 hF6
   by_cases m43 : at_ (σ.adv 1).t 0 = 43
   ·have HI2 := ħ (ù [43] (by simp) (by simp) HG6.o true (by rw [p43]; exact decide_eq_true m43))
    obtain rfl : r = .ok (Àz 0 (-1) 2 a, (σ.adv 1).adv 1) := by rw [HR.o]; simp [È, è, m43]
    clear p63 p43
    go_wp2_with fail
    refine HI2.o.mono ?_;rintro e w6b ⟨rfl, hF6, I6b, hG6b⟩;simp only [if_true, ć, Ď, ĉ] at hG6b;have HG6b := ħ hG6b
    have HB1k := ħ (À hF6 HB1g.o (HNE.o _ (by omega)))
    have HB2k := ħ (À hF6 HB2g.o (HNE.o _ (by omega)))
    have HB3k := ħ (À hF6 HB3g.o (HNE.o _ (by omega)))
    have HFk := ħ (HFg.o.trans hF6);have b3 := HB3k.o.eight;have f3 := HB3k.o.frozen;clear hG6b hF6
    go_upto_region 21 with (fail)
    have HB1h := ħ (HB1k.o.far (p := ⟨w.heap.size + 2 + 1, 3, none⟩) (by simp only; omega) (.int .i64 2))
    have HB2h := ħ (HB2k.o.far (p := ⟨w.heap.size + 2 + 1, 3, none⟩) (by simp only; omega) (.int .i64 2))
    have HB3h : Hid (Blk (w6b.setCell ⟨w.heap.size + 2 + 1, 3, none⟩ (.int .i64 2)) (w.heap.size + 2 + 1) 38 #[.int .i64 4, .int .i64 0, .int .i64 (-1), .int .i64 2, .int .i64 0, .slice none 0 0, .bool false, .slice (some ⟨w.heap.size + 2, 0, none⟩) 1 1]) := ħ (HB3k.o.set_ 3 (.int .i64 2))
    have HFh := ħ (HFk.o.set_ (q := ⟨w.heap.size + 2 + 1, 3, none⟩) (.inr (by simp only; omega)) (.int .i64 2))
    have HG7 : Hid (Gd E (w6b.setCell ⟨w.heap.size + 2 + 1, 3, none⟩ (.int .i64 2)) ((σ.adv 1).adv 1) d rv I6b refs) := ħ ⟨HG6b.o.sv.far (HNE.o _ (by omega)) _, HG6b.o.pos, HG6b.o.refl, HG6b.o.same, HG6b.o.deep, HG6b.o.le, HG6b.o.rl⟩
    clear b3 f3;generalize w6b.setCell ⟨w.heap.size + 2 + 1, 3, none⟩ (.int .i64 2) = w7 at *;have b3 := HB3h.o.eight;have hz := HB1h.o.eight;have hfz := HB1h.o.frozen;go_wp2
    exact ß rfl rfl rfl (Æ HB1h.o) (ÀQ HN.o hb hbw hbx (by omega) (HNE.o _ (by omega)) (by omega) (HNE.o _ (by omega)).2.2.2 HFh.o HG7.o HB2h.o)
   have HI2 := ħ (ù [43] (by simp) (by simp) HG6.o false (by rw [p43]; exact decide_eq_false m43))
   obtain rfl : r = .ok (Àz 0 (-1) 0 a, (σ.adv 1)) := by rw [HR.o]; simp [È, è, m63, m43]
   clear p63 p43
   go_wp2_with fail
   refine HI2.o.mono ?_;rintro e w6b ⟨rfl, hF6, I6b, hG6b⟩;simp only [Ċ, if_false] at hG6b
   have HB1k := ħ (À hF6 HB1g.o (HNE.o _ (by omega)))
   have HB2k := ħ (À hF6 HB2g.o (HNE.o _ (by omega)))
   have HB3k := ħ (À hF6 HB3g.o (HNE.o _ (by omega)))
   have HFk := ħ (HFg.o.trans hF6);have b3 := HB3k.o.eight;have hz := HB1k.o.eight;have hfz := HB1k.o.frozen;go_wp2
   exact ß rfl rfl rfl (Æ HB1k.o) (ÀQ HN.o hb hbw hbx (by omega) (HNE.o _ (by omega)) (by omega) (HNE.o _ (by omega)).2.2.2 HFk.o hG6b HB2k.o)
 rcases hq with rfl | hq
 ·have ht : times σ = some ((1, (-1)), σ.adv 1) := by
   have : at_ σ.t 0 = 43 := HA.o;unfold times;simp [this]
  have HR2 := ħ (show r = if may then .ok (Àz 1 (-1) (è (σ.adv 1).t) a, È (σ.adv 1)) else .error (23, σ.pos) by rw [HR1.o, ht])
  clear ht HA HV HR1
  go_upto_region 7 with (fail)
  clear c2 f2;generalize w3.setCell ⟨E.rb, 2, none⟩ (.int .i64 ((I : Int) + 1)) = w4 at *;have b3 := HB3d.o.eight;have f3 := HB3d.o.frozen
  go_upto_region 14 with (fail)
  clear b3 f3
  have HB1e := ħ (HB1d.o.far (p := ⟨w.heap.size + 2 + 1, 1, none⟩) (by simp only; omega) (.int .i64 1))
  have HB2e := ħ (HB2d.o.far (p := ⟨w.heap.size + 2 + 1, 1, none⟩) (by simp only; omega) (.int .i64 1))
  have HB3e : Hid (Blk (w4.setCell ⟨w.heap.size + 2 + 1, 1, none⟩ (.int .i64 1)) (w.heap.size + 2 + 1) 38 #[.int .i64 4, .int .i64 1, .int .i64 (-1), .int .i64 0, .int .i64 0, .slice none 0 0, .bool false, .slice (some ⟨w.heap.size + 2, 0, none⟩) 1 1]) := ħ (HB3d.o.set_ 1 (.int .i64 1))
  have HFe := ħ (HFd.o.set_ (q := ⟨w.heap.size + 2 + 1, 1, none⟩) (.inr (by simp only; omega)) (.int .i64 1))
  have HGe : Hid (Gd E (w4.setCell ⟨w.heap.size + 2 + 1, 1, none⟩ (.int .i64 1)) (σ.adv 1) d rv (I + 1) refs) := ħ ⟨HGd.o.sv.far (HNE.o _ (by omega)) _, HGd.o.pos, HGd.o.refl, HGd.o.same, HGd.o.deep, HGd.o.le, HGd.o.rl⟩
  clear HB1d HB2d HB3d HFd HGd hszd;generalize w4.setCell ⟨w.heap.size + 2 + 1, 1, none⟩ (.int .i64 1) = w5 at *
  cases may with
  | false =>
   obtain rfl : r = .error (23, σ.pos) := HR2.o
   have HFl := ħ (Ō (σ0 := σ) (I0 := I) 23 (by omega) HG.o.atI HGe.o.sv)
   go_wp2_with fail
   refine HFl.o.mono ?_;rintro e w8 ⟨rfl, hF8, hB8⟩
   have HB1f := ħ (À hF8 HB1e.o (HNE.o _ (by omega)))
   have HB2f := ħ (À hF8 HB2e.o (HNE.o _ (by omega)))
   have HB3f := ħ (À hF8 HB3e.o (HNE.o _ (by omega)))
   have HFf := ħ (HFe.o.trans hF8);have b3 := HB3f.o.eight;have hz := HB1f.o.eight;have hfz := HB1f.o.frozen;go_wp2
   exact ß rfl rfl rfl (Æ HB1f.o) (ÆC (by omega) (HNE.o _ (by omega)) ⟨4, 1, (-1), 0, 0, none, _, 0, 0, 1, 1, false, rfl⟩ HFf.o hB8)
  | true =>
   have HR := ħ (show r = .ok (Àz 1 (-1) (è (σ.adv 1).t) a, È (σ.adv 1)) from HR2.o)
   clear HR2;have HGx := ħ (HGe.o)
   have p63 := Ŀ (c := 63) (t := (σ.adv 1).t) (by decide)
   have p43 := Ŀ (c := 43) (t := (σ.adv 1).t) (by decide)
   by_cases m63 : at_ (σ.adv 1).t 0 = 63
   ·have HI := ħ (ù [63] (by simp) (by simp) HGx.o true (by rw [p63]; exact decide_eq_true m63))
    obtain rfl : r = .ok (Àz 1 (-1) 1 a, (σ.adv 1).adv 1) := by rw [HR.o]; simp [È, è, m63]
    clear p63 p43
    go_wp2_with fail
    refine HI.o.mono ?_;rintro e w6 ⟨rfl, hF6, I6, hG6⟩;simp only [if_true, ć, Ď, ĉ] at hG6;have HG6 := ħ hG6
    have HB1g := ħ (À hF6 HB1e.o (HNE.o _ (by omega)))
    have HB2g := ħ (À hF6 HB2e.o (HNE.o _ (by omega)))
    have HB3g := ħ (À hF6 HB3e.o (HNE.o _ (by omega)))
    have HFg := ħ (HFe.o.trans hF6);have b3 := HB3g.o.eight;have f3 := HB3g.o.frozen;clear hG6 hF6
    go_upto_region 21 with (fail)
    have HB1h := ħ (HB1g.o.far (p := ⟨w.heap.size + 2 + 1, 3, none⟩) (by simp only; omega) (.int .i64 1))
    have HB2h := ħ (HB2g.o.far (p := ⟨w.heap.size + 2 + 1, 3, none⟩) (by simp only; omega) (.int .i64 1))
    have HB3h : Hid (Blk (w6.setCell ⟨w.heap.size + 2 + 1, 3, none⟩ (.int .i64 1)) (w.heap.size + 2 + 1) 38 #[.int .i64 4, .int .i64 1, .int .i64 (-1), .int .i64 1, .int .i64 0, .slice none 0 0, .bool false, .slice (some ⟨w.heap.size + 2, 0, none⟩) 1 1]) := ħ (HB3g.o.set_ 3 (.int .i64 1))
    have HFh := ħ (HFg.o.set_ (q := ⟨w.heap.size + 2 + 1, 3, none⟩) (.inr (by simp only; omega)) (.int .i64 1))
    have HG7 : Hid (Gd E (w6.setCell ⟨w.heap.size + 2 + 1, 3, none⟩ (.int .i64 1)) ((σ.adv 1).adv 1) d rv I6 refs) := ħ ⟨HG6.o.sv.far (HNE.o _ (by omega)) _, HG6.o.pos, HG6.o.refl, HG6.o.same, HG6.o.deep, HG6.o.le, HG6.o.rl⟩
    clear b3 f3;generalize w6.setCell ⟨w.heap.size + 2 + 1, 3, none⟩ (.int .i64 1) = w7 at *;have b3 := HB3h.o.eight;have hz := HB1h.o.eight;have hfz := HB1h.o.frozen;go_wp2
    exact ß rfl rfl rfl (Æ HB1h.o) (ÀQ HN.o hb hbw hbx (by omega) (HNE.o _ (by omega)) (by omega) (HNE.o _ (by omega)).2.2.2 HFh.o HG7.o HB2h.o)
   have HI := ħ (ù [63] (by simp) (by simp) HGx.o false (by rw [p63]; exact decide_eq_false m63))
   go_wp2_with fail
   refine HI.o.mono ?_;rintro e w6 ⟨rfl, hF6, I6, hG6⟩;simp only [Ċ, if_false] at hG6;have HG6 := ħ hG6
   have HB1g := ħ (À hF6 HB1e.o (HNE.o _ (by omega)))
   have HB2g := ħ (À hF6 HB2e.o (HNE.o _ (by omega)))
   have HB3g := ħ (À hF6 HB3e.o (HNE.o _ (by omega)))
   have HFg := ħ (HFe.o.trans hF6);clear hG6 hF6
   by_cases m43 : at_ (σ.adv 1).t 0 = 43
   ·have HI2 := ħ (ù [43] (by simp) (by simp) HG6.o true (by rw [p43]; exact decide_eq_true m43))
    obtain rfl : r = .ok (Àz 1 (-1) 2 a, (σ.adv 1).adv 1) := by rw [HR.o]; simp [È, è, m43]
    clear p63 p43
    go_wp2_with fail
    refine HI2.o.mono ?_;rintro e w6b ⟨rfl, hF6, I6b, hG6b⟩;simp only [if_true, ć, Ď, ĉ] at hG6b;have HG6b := ħ hG6b
    have HB1k := ħ (À hF6 HB1g.o (HNE.o _ (by omega)))
    have HB2k := ħ (À hF6 HB2g.o (HNE.o _ (by omega)))
    have HB3k := ħ (À hF6 HB3g.o (HNE.o _ (by omega)))
    have HFk := ħ (HFg.o.trans hF6);have b3 := HB3k.o.eight;have f3 := HB3k.o.frozen;clear hG6b hF6
    go_upto_region 21 with (fail)
    have HB1h := ħ (HB1k.o.far (p := ⟨w.heap.size + 2 + 1, 3, none⟩) (by simp only; omega) (.int .i64 2))
    have HB2h := ħ (HB2k.o.far (p := ⟨w.heap.size + 2 + 1, 3, none⟩) (by simp only; omega) (.int .i64 2))
    have HB3h : Hid (Blk (w6b.setCell ⟨w.heap.size + 2 + 1, 3, none⟩ (.int .i64 2)) (w.heap.size + 2 + 1) 38 #[.int .i64 4, .int .i64 1, .int .i64 (-1), .int .i64 2, .int .i64 0, .slice none 0 0, .bool false, .slice (some ⟨w.heap.size + 2, 0, none⟩) 1 1]) := ħ (HB3k.o.set_ 3 (.int .i64 2))
    have HFh := ħ (HFk.o.set_ (q := ⟨w.heap.size + 2 + 1, 3, none⟩) (.inr (by simp only; omega)) (.int .i64 2))
    have HG7 : Hid (Gd E (w6b.setCell ⟨w.heap.size + 2 + 1, 3, none⟩ (.int .i64 2)) ((σ.adv 1).adv 1) d rv I6b refs) := ħ ⟨HG6b.o.sv.far (HNE.o _ (by omega)) _, HG6b.o.pos, HG6b.o.refl, HG6b.o.same, HG6b.o.deep, HG6b.o.le, HG6b.o.rl⟩
    clear b3 f3;generalize w6b.setCell ⟨w.heap.size + 2 + 1, 3, none⟩ (.int .i64 2) = w7 at *;have b3 := HB3h.o.eight;have hz := HB1h.o.eight;have hfz := HB1h.o.frozen;go_wp2
    exact ß rfl rfl rfl (Æ HB1h.o) (ÀQ HN.o hb hbw hbx (by omega) (HNE.o _ (by omega)) (by omega) (HNE.o _ (by omega)).2.2.2 HFh.o HG7.o HB2h.o)
   have HI2 := ħ (ù [43] (by simp) (by simp) HG6.o false (by rw [p43]; exact decide_eq_false m43))
   obtain rfl : r = .ok (Àz 1 (-1) 0 a, (σ.adv 1)) := by rw [HR.o]; simp [È, è, m63, m43]
   clear p63 p43
   go_wp2_with fail
   refine HI2.o.mono ?_;rintro e w6b ⟨rfl, hF6, I6b, hG6b⟩;simp only [Ċ, if_false] at hG6b
   have HB1k := ħ (À hF6 HB1g.o (HNE.o _ (by omega)))
   have HB2k := ħ (À hF6 HB2g.o (HNE.o _ (by omega)))
   have HB3k := ħ (À hF6 HB3g.o (HNE.o _ (by omega)))
   have HFk := ħ (HFg.o.trans hF6);have b3 := HB3k.o.eight;have hz := HB1k.o.eight;have hfz := HB1k.o.frozen;go_wp2
   exact ß rfl rfl rfl (Æ HB1k.o) (ÀQ HN.o hb hbw hbx (by omega) (HNE.o _ (by omega)) (by omega) (HNE.o _ (by omega)).2.2.2 HFk.o hG6b HB2k.o)
 rcases hq with rfl | hq
 ·have ht : times σ = some ((0, 1), σ.adv 1) := by
   have : at_ σ.t 0 = 63 := HA.o;unfold times;simp [this]
  have HR2 := ħ (show r = if may then .ok (Àz 0 1 (è (σ.adv 1).t) a, È (σ.adv 1)) else .error (23, σ.pos) by rw [HR1.o, ht])
  clear ht HA HV HR1
  go_upto_region 7 with (fail)
  clear c2 f2;generalize w3.setCell ⟨E.rb, 2, none⟩ (.int .i64 ((I : Int) + 1)) = w4 at *;have b3 := HB3d.o.eight;have f3 := HB3d.o.frozen
  go_upto_region 14 with (fail)
  clear b3 f3
  have HB1e := ħ (HB1d.o.far (p := ⟨w.heap.size + 2 + 1, 2, none⟩) (by simp only; omega) (.int .i64 1))
  have HB2e := ħ (HB2d.o.far (p := ⟨w.heap.size + 2 + 1, 2, none⟩) (by simp only; omega) (.int .i64 1))
  have HB3e : Hid (Blk (w4.setCell ⟨w.heap.size + 2 + 1, 2, none⟩ (.int .i64 1)) (w.heap.size + 2 + 1) 38 #[.int .i64 4, .int .i64 0, .int .i64 1, .int .i64 0, .int .i64 0, .slice none 0 0, .bool false, .slice (some ⟨w.heap.size + 2, 0, none⟩) 1 1]) := ħ (HB3d.o.set_ 2 (.int .i64 1))
  have HFe := ħ (HFd.o.set_ (q := ⟨w.heap.size + 2 + 1, 2, none⟩) (.inr (by simp only; omega)) (.int .i64 1))
  have HGe : Hid (Gd E (w4.setCell ⟨w.heap.size + 2 + 1, 2, none⟩ (.int .i64 1)) (σ.adv 1) d rv (I + 1) refs) := ħ ⟨HGd.o.sv.far (HNE.o _ (by omega)) _, HGd.o.pos, HGd.o.refl, HGd.o.same, HGd.o.deep, HGd.o.le, HGd.o.rl⟩
  clear HB1d HB2d HB3d HFd HGd hszd;generalize w4.setCell ⟨w.heap.size + 2 + 1, 2, none⟩ (.int .i64 1) = w5 at *
  cases may with
  | false =>
   obtain rfl : r = .error (23, σ.pos) := HR2.o
   have HFl := ħ (Ō (σ0 := σ) (I0 := I) 23 (by omega) HG.o.atI HGe.o.sv)
   go_wp2_with fail
   refine HFl.o.mono ?_;rintro e w8 ⟨rfl, hF8, hB8⟩
   have HB1f := ħ (À hF8 HB1e.o (HNE.o _ (by omega)))
   have HB2f := ħ (À hF8 HB2e.o (HNE.o _ (by omega)))
   have HB3f := ħ (À hF8 HB3e.o (HNE.o _ (by omega)))
   have HFf := ħ (HFe.o.trans hF8);have b3 := HB3f.o.eight;have hz := HB1f.o.eight;have hfz := HB1f.o.frozen;go_wp2
   exact ß rfl rfl rfl (Æ HB1f.o) (ÆC (by omega) (HNE.o _ (by omega)) ⟨4, 0, 1, 0, 0, none, _, 0, 0, 1, 1, false, rfl⟩ HFf.o hB8)
  | true =>
   have HR := ħ (show r = .ok (Àz 0 1 (è (σ.adv 1).t) a, È (σ.adv 1)) from HR2.o)
   clear HR2;have HGx := ħ (HGe.o)
   have p63 := Ŀ (c := 63) (t := (σ.adv 1).t) (by decide)
   have p43 := Ŀ (c := 43) (t := (σ.adv 1).t) (by decide)
   by_cases m63 : at_ (σ.adv 1).t 0 = 63
   ·have HI := ħ (ù [63] (by simp) (by simp) HGx.o true (by rw [p63]; exact decide_eq_true m63))
    obtain rfl : r = .ok (Àz 0 1 1 a, (σ.adv 1).adv 1) := by rw [HR.o]; simp [È, è, m63]
    clear p63 p43
    go_wp2_with fail
    refine HI.o.mono ?_;rintro e w6 ⟨rfl, hF6, I6, hG6⟩;simp only [if_true, ć, Ď, ĉ] at hG6;have HG6 := ħ hG6
    have HB1g := ħ (À hF6 HB1e.o (HNE.o _ (by omega)))
    have HB2g := ħ (À hF6 HB2e.o (HNE.o _ (by omega)))
    have HB3g := ħ (À hF6 HB3e.o (HNE.o _ (by omega)))
    have HFg := ħ (HFe.o.trans hF6);have b3 := HB3g.o.eight;have f3 := HB3g.o.frozen;clear hG6 hF6
    go_upto_region 21 with (fail)
    have HB1h := ħ (HB1g.o.far (p := ⟨w.heap.size + 2 + 1, 3, none⟩) (by simp only; omega) (.int .i64 1))
    have HB2h := ħ (HB2g.o.far (p := ⟨w.heap.size + 2 + 1, 3, none⟩) (by simp only; omega) (.int .i64 1))
    have HB3h : Hid (Blk (w6.setCell ⟨w.heap.size + 2 + 1, 3, none⟩ (.int .i64 1)) (w.heap.size + 2 + 1) 38 #[.int .i64 4, .int .i64 0, .int .i64 1, .int .i64 1, .int .i64 0, .slice none 0 0, .bool false, .slice (some ⟨w.heap.size + 2, 0, none⟩) 1 1]) := ħ (HB3g.o.set_ 3 (.int .i64 1))
    have HFh := ħ (HFg.o.set_ (q := ⟨w.heap.size + 2 + 1, 3, none⟩) (.inr (by simp only; omega)) (.int .i64 1))
    have HG7 : Hid (Gd E (w6.setCell ⟨w.heap.size + 2 + 1, 3, none⟩ (.int .i64 1)) ((σ.adv 1).adv 1) d rv I6 refs) := ħ ⟨HG6.o.sv.far (HNE.o _ (by omega)) _, HG6.o.pos, HG6.o.refl, HG6.o.same, HG6.o.deep, HG6.o.le, HG6.o.rl⟩
    clear b3 f3;generalize w6.setCell ⟨w.heap.size + 2 + 1, 3, none⟩ (.int .i64 1) = w7 at *;have b3 := HB3h.o.eight;have hz := HB1h.o.eight;have hfz := HB1h.o.frozen;go_wp2
    exact ß rfl rfl rfl (Æ HB1h.o) (ÀQ HN.o hb hbw hbx (by omega) (HNE.o _ (by omega)) (by omega) (HNE.o _ (by omega)).2.2.2 HFh.o HG7.o HB2h.o)
   have HI := ħ (ù [63] (by simp) (by simp) HGx.o false (by rw [p63]; exact decide_eq_false m63))
   go_wp2_with fail
   refine HI.o.mono ?_;rintro e w6 ⟨rfl, hF6, I6, hG6⟩;simp only [Ċ, if_false] at hG6;have HG6 := ħ hG6
   have HB1g := ħ (À hF6 HB1e.o (HNE.o _ (by omega)))
   have HB2g := ħ (À hF6 HB2e.o (HNE.o _ (by omega)))
   have HB3g := ħ (À hF6 HB3e.o (HNE.o _ (by omega)))
   have HFg := ħ (HFe.o.trans hF6);clear hG6 hF6
   by_cases m43 : at_ (σ.adv 1).t 0 = 43
   ·have HI2 := ħ (ù [43] (by simp) (by simp) HG6.o true (by rw [p43]; exact decide_eq_true m43))
    obtain rfl : r = .ok (Àz 0 1 2 a, (σ.adv 1).adv 1) := by rw [HR.o]; simp [È, è, m43]
    clear p63 p43
    go_wp2_with fail
    refine HI2.o.mono ?_;rintro e w6b ⟨rfl, hF6, I6b, hG6b⟩;simp only [if_true, ć, Ď, ĉ] at hG6b;have HG6b := ħ hG6b
    have HB1k := ħ (À hF6 HB1g.o (HNE.o _ (by omega)))
    have HB2k := ħ (À hF6 HB2g.o (HNE.o _ (by omega)))
    have HB3k := ħ (À hF6 HB3g.o (HNE.o _ (by omega)))
    have HFk := ħ (HFg.o.trans hF6);have b3 := HB3k.o.eight;have f3 := HB3k.o.frozen;clear hG6b hF6
    go_upto_region 21 with (fail)
    have HB1h := ħ (HB1k.o.far (p := ⟨w.heap.size + 2 + 1, 3, none⟩) (by simp only; omega) (.int .i64 2))
    have HB2h := ħ (HB2k.o.far (p := ⟨w.heap.size + 2 + 1, 3, none⟩) (by simp only; omega) (.int .i64 2))
    have HB3h : Hid (Blk (w6b.setCell ⟨w.heap.size + 2 + 1, 3, none⟩ (.int .i64 2)) (w.heap.size + 2 + 1) 38 #[.int .i64 4, .int .i64 0, .int .i64 1, .int .i64 2, .int .i64 0, .slice none 0 0, .bool false, .slice (some ⟨w.heap.size + 2, 0, none⟩) 1 1]) := ħ (HB3k.o.set_ 3 (.int .i64 2))
    have HFh := ħ (HFk.o.set_ (q := ⟨w.heap.size + 2 + 1, 3, none⟩) (.inr (by simp only; omega)) (.int .i64 2))
    have HG7 : Hid (Gd E (w6b.setCell ⟨w.heap.size + 2 + 1, 3, none⟩ (.int .i64 2)) ((σ.adv 1).adv 1) d rv I6b refs) := ħ ⟨HG6b.o.sv.far (HNE.o _ (by omega)) _, HG6b.o.pos, HG6b.o.refl, HG6b.o.same, HG6b.o.deep, HG6b.o.le, HG6b.o.rl⟩
    clear b3 f3;generalize w6b.setCell ⟨w.heap.size + 2 + 1, 3, none⟩ (.int .i64 2) = w7 at *;have b3 := HB3h.o.eight;have hz := HB1h.o.eight;have hfz := HB1h.o.frozen;go_wp2
    exact ß rfl rfl rfl (Æ HB1h.o) (ÀQ HN.o hb hbw hbx (by omega) (HNE.o _ (by omega)) (by omega) (HNE.o _ (by omega)).2.2.2 HFh.o HG7.o HB2h.o)
   have HI2 := ħ (ù [43] (by simp) (by simp) HG6.o false (by rw [p43]; exact decide_eq_false m43))
   obtain rfl : r = .ok (Àz 0 1 0 a, (σ.adv 1)) := by rw [HR.o]; simp [È, è, m63, m43]
   clear p63 p43
   go_wp2_with fail
   refine HI2.o.mono ?_;rintro e w6b ⟨rfl, hF6, I6b, hG6b⟩;simp only [Ċ, if_false] at hG6b
   have HB1k := ħ (À hF6 HB1g.o (HNE.o _ (by omega)))
   have HB2k := ħ (À hF6 HB2g.o (HNE.o _ (by omega)))
   have HB3k := ħ (À hF6 HB3g.o (HNE.o _ (by omega)))
   have HFk := ħ (HFg.o.trans hF6);have b3 := HB3k.o.eight;have hz := HB1k.o.eight;have hfz := HB1k.o.frozen;go_wp2
   exact ß rfl rfl rfl (Æ HB1k.o) (ÀQ HN.o hb hbw hbx (by omega) (HNE.o _ (by omega)) (by omega) (HNE.o _ (by omega)).2.2.2 HFk.o hG6b HB2k.o)
 obtain rfl := hq
 have HR2 : Hid (r = if may then (match Àc σ with | none => .error (23, σ.pos) | some x => .ok (Àz x.1.1 x.1.2 (è x.2.t) a, È x.2)) else .error (23, σ.pos)) := ħ (by
  have : at_ σ.t 0 = 123 := HA.o;rw [HR1.o];unfold times
  simp [this])
 clear HA HV HR1
 go_upto_region 7 with (fail)
 clear c2 f2;generalize w3.setCell ⟨E.rb, 2, none⟩ (.int .i64 ((I : Int) + 1)) = w4 at *;have HBr := ħ (ÉX HGd.o)
 go_wp2_with fail
 refine HBr.o.mono ?_;intro e w5 hp5
 cases hbs : Àc σ with
 | none =>
  rw [hbs] at hp5;obtain ⟨l1, l2, I5, rfl, hF5, hS5⟩ := hp5
  obtain rfl : r = .error (23, σ.pos) := by rw [HR2.o, hbs]; cases may <;> rfl
  have HS5 := ħ hS5;clear HBr hbs
  have HB1e := ħ (À hF5 HB1d.o (HNE.o _ (by omega)))
  have HB2e := ħ (À hF5 HB2d.o (HNE.o _ (by omega)))
  have HB3e := ħ (À hF5 HB3d.o (HNE.o _ (by omega)))
  have HFe := ħ (HFd.o.trans hF5);have b3 := HB3e.o.eight;have f3 := HB3e.o.frozen;clear hF5 HB1d HB2d HB3d HFd HGd hszd HR2
  go_upto_region 14 with (fail)
  clear b3 f3
  have HB1g := ħ ((HB1e.o.far (p := ⟨w.heap.size + 2 + 1, 1, none⟩) (by simp only; omega) (.int .i64 l1)).far (p := ⟨w.heap.size + 2 + 1, 2, none⟩) (by simp only; omega) (.int .i64 l2))
  have HB2g := ħ ((HB2e.o.far (p := ⟨w.heap.size + 2 + 1, 1, none⟩) (by simp only; omega) (.int .i64 l1)).far (p := ⟨w.heap.size + 2 + 1, 2, none⟩) (by simp only; omega) (.int .i64 l2))
  have HB3g : Hid (Blk ((w5.setCell ⟨w.heap.size + 2 + 1, 1, none⟩ (.int .i64 l1)).setCell ⟨w.heap.size + 2 + 1, 2, none⟩ (.int .i64 l2)) (w.heap.size + 2 + 1) 38 #[.int .i64 4, .int .i64 l1, .int .i64 l2, .int .i64 0, .int .i64 0, .slice none 0 0, .bool false, .slice (some ⟨w.heap.size + 2, 0, none⟩) 1 1]) := ħ ((HB3e.o.set_ 1 (.int .i64 l1)).set_ 2 (.int .i64 l2))
  have HFg := ħ ((HFe.o.set_ (q := ⟨w.heap.size + 2 + 1, 1, none⟩) (.inr (by simp only; omega)) (.int .i64 l1)).set_ (q := ⟨w.heap.size + 2 + 1, 2, none⟩) (.inr (by simp only; omega)) (.int .i64 l2))
  have HSg := ħ ((HS5.o.far (b := w.heap.size + 2 + 1) (o := 1) (HNE.o _ (by omega)) (.int .i64 l1)).far (b := w.heap.size + 2 + 1) (o := 2) (HNE.o _ (by omega)) (.int .i64 l2))
  clear HB1e HB2e HB3e HFe HS5;generalize (w5.setCell ⟨w.heap.size + 2 + 1, 1, none⟩ (.int .i64 l1)).setCell ⟨w.heap.size + 2 + 1, 2, none⟩ (.int .i64 l2) = w6 at *
  have HFl := ħ (Ō (σ0 := σ) (I0 := I) 23 (by omega) HG.o.atI HSg.o)
  go_wp2_with fail
  refine HFl.o.mono ?_;rintro e w8 ⟨rfl, hF8, hB8⟩
  have HB1f := ħ (À hF8 HB1g.o (HNE.o _ (by omega)))
  have HB2f := ħ (À hF8 HB2g.o (HNE.o _ (by omega)))
  have HB3f := ħ (À hF8 HB3g.o (HNE.o _ (by omega)))
  have HFf := ħ (HFg.o.trans hF8);have b3 := HB3f.o.eight;have hz := HB1f.o.eight;have hfz := HB1f.o.frozen;go_wp2
  exact ß rfl rfl rfl (Æ HB1f.o) (ÆC (by omega) (HNE.o _ (by omega)) ⟨4, l1, l2, 0, 0, none, _, 0, 0, 1, 1, false, rfl⟩ HFf.o hB8)
 | some x =>
  rw [hbs] at hp5;obtain ⟨⟨l1, l2⟩, σ2⟩ := x;obtain ⟨rfl, hF5, I5, hG5⟩ := hp5;have HG5 := ħ hG5
  have HR3 := ħ (show r = if may then .ok (Àz l1 l2 (è σ2.t) a, È σ2) else .error (23, σ.pos) by rw [HR2.o, hbs])
  simp only at HG5;clear HBr hbs hG5
  have HB1e := ħ (À hF5 HB1d.o (HNE.o _ (by omega)))
  have HB2e := ħ (À hF5 HB2d.o (HNE.o _ (by omega)))
  have HB3e := ħ (À hF5 HB3d.o (HNE.o _ (by omega)))
  have HFe := ħ (HFd.o.trans hF5);have b3 := HB3e.o.eight;have f3 := HB3e.o.frozen;clear hF5 HB1d HB2d HB3d HFd HGd hszd HR2
  go_upto_region 14 with (fail)
  clear b3 f3
  have HB1g := ħ ((HB1e.o.far (p := ⟨w.heap.size + 2 + 1, 1, none⟩) (by simp only; omega) (.int .i64 l1)).far (p := ⟨w.heap.size + 2 + 1, 2, none⟩) (by simp only; omega) (.int .i64 l2))
  have HB2g := ħ ((HB2e.o.far (p := ⟨w.heap.size + 2 + 1, 1, none⟩) (by simp only; omega) (.int .i64 l1)).far (p := ⟨w.heap.size + 2 + 1, 2, none⟩) (by simp only; omega) (.int .i64 l2))
  have HB3g : Hid (Blk ((w5.setCell ⟨w.heap.size + 2 + 1, 1, none⟩ (.int .i64 l1)).setCell ⟨w.heap.size + 2 + 1, 2, none⟩ (.int .i64 l2)) (w.heap.size + 2 + 1) 38 #[.int .i64 4, .int .i64 l1, .int .i64 l2, .int .i64 0, .int .i64 0, .slice none 0 0, .bool false, .slice (some ⟨w.heap.size + 2, 0, none⟩) 1 1]) := ħ ((HB3e.o.set_ 1 (.int .i64 l1)).set_ 2 (.int .i64 l2))
  have HFg := ħ ((HFe.o.set_ (q := ⟨w.heap.size + 2 + 1, 1, none⟩) (.inr (by simp only; omega)) (.int .i64 l1)).set_ (q := ⟨w.heap.size + 2 + 1, 2, none⟩) (.inr (by simp only; omega)) (.int .i64 l2))
  have HGg : Hid (Gd E _ σ2 d rv I5 refs) := ħ ⟨(HG5.o.sv.far (b := w.heap.size + 2 + 1) (o := 1) (HNE.o _ (by omega)) (.int .i64 l1)).far (b := w.heap.size + 2 + 1) (o := 2) (HNE.o _ (by omega)) (.int .i64 l2), HG5.o.pos, HG5.o.refl, HG5.o.same, HG5.o.deep, HG5.o.le, HG5.o.rl⟩
  clear HB1e HB2e HB3e HFe HG5;generalize (w5.setCell ⟨w.heap.size + 2 + 1, 1, none⟩ (.int .i64 l1)).setCell ⟨w.heap.size + 2 + 1, 2, none⟩ (.int .i64 l2) = w9 at *
  cases may with
  | false =>
   obtain rfl : r = .error (23, σ.pos) := HR3.o
   have HFl := ħ (Ō (σ0 := σ) (I0 := I) 23 (by omega) HG.o.atI HGg.o.sv)
   go_wp2_with fail
   refine HFl.o.mono ?_;rintro e w8 ⟨rfl, hF8, hB8⟩
   have HB1f := ħ (À hF8 HB1g.o (HNE.o _ (by omega)))
   have HB2f := ħ (À hF8 HB2g.o (HNE.o _ (by omega)))
   have HB3f := ħ (À hF8 HB3g.o (HNE.o _ (by omega)))
   have HFf := ħ (HFg.o.trans hF8);have b3 := HB3f.o.eight;have hz := HB1f.o.eight;have hfz := HB1f.o.frozen;go_wp2
   exact ß rfl rfl rfl (Æ HB1f.o) (ÆC (by omega) (HNE.o _ (by omega)) ⟨4, l1, l2, 0, 0, none, _, 0, 0, 1, 1, false, rfl⟩ HFf.o hB8)
  | true =>
   have HR := ħ (show r = .ok (Àz l1 l2 (è σ2.t) a, È σ2) from HR3.o)
   clear HR3;have HB1m := HB1g;have HB2m := HB2g;have HB3m := HB3g;have HFm := HFg;clear HB1g HB2g HB3g HFg;have HGx := ħ (HGg.o)
   have p63 := Ŀ (c := 63) (t := σ2.t) (by decide)
   have p43 := Ŀ (c := 43) (t := σ2.t) (by decide)
   by_cases m63 : at_ σ2.t 0 = 63
   ·have HI := ħ (ù [63] (by simp) (by simp) HGx.o true (by rw [p63]; exact decide_eq_true m63))
    obtain rfl : r = .ok (Àz l1 l2 1 a, σ2.adv 1) := by rw [HR.o]; simp [È, è, m63]
    clear p63 p43
    go_wp2_with fail
    refine HI.o.mono ?_;rintro e w6 ⟨rfl, hF6, I6, hG6⟩;simp only [if_true, ć, Ď, ĉ] at hG6;have HG6 := ħ hG6
    have HB1g := ħ (À hF6 HB1m.o (HNE.o _ (by omega)))
    have HB2g := ħ (À hF6 HB2m.o (HNE.o _ (by omega)))
    have HB3g := ħ (À hF6 HB3m.o (HNE.o _ (by omega)))
    have HFg := ħ (HFm.o.trans hF6);have b3 := HB3g.o.eight;have f3 := HB3g.o.frozen;clear hG6 hF6
    go_upto_region 21 with (fail)
    have HB1h := ħ (HB1g.o.far (p := ⟨w.heap.size + 2 + 1, 3, none⟩) (by simp only; omega) (.int .i64 1))
    have HB2h := ħ (HB2g.o.far (p := ⟨w.heap.size + 2 + 1, 3, none⟩) (by simp only; omega) (.int .i64 1))
    have HB3h : Hid (Blk (w6.setCell ⟨w.heap.size + 2 + 1, 3, none⟩ (.int .i64 1)) (w.heap.size + 2 + 1) 38 #[.int .i64 4, .int .i64 l1, .int .i64 l2, .int .i64 1, .int .i64 0, .slice none 0 0, .bool false, .slice (some ⟨w.heap.size + 2, 0, none⟩) 1 1]) := ħ (HB3g.o.set_ 3 (.int .i64 1))
    have HFh := ħ (HFg.o.set_ (q := ⟨w.heap.size + 2 + 1, 3, none⟩) (.inr (by simp only; omega)) (.int .i64 1))
    have HG7 : Hid (Gd E (w6.setCell ⟨w.heap.size + 2 + 1, 3, none⟩ (.int .i64 1)) (σ2.adv 1) d rv I6 refs) := ħ ⟨HG6.o.sv.far (HNE.o _ (by omega)) _, HG6.o.pos, HG6.o.refl, HG6.o.same, HG6.o.deep, HG6.o.le, HG6.o.rl⟩
    clear b3 f3;generalize w6.setCell ⟨w.heap.size + 2 + 1, 3, none⟩ (.int .i64 1) = w7 at *;have b3 := HB3h.o.eight;have hz := HB1h.o.eight;have hfz := HB1h.o.frozen;go_wp2
    exact ß rfl rfl rfl (Æ HB1h.o) (ÀQ HN.o hb hbw hbx (by omega) (HNE.o _ (by omega)) (by omega) (HNE.o _ (by omega)).2.2.2 HFh.o HG7.o HB2h.o)
   have HI := ħ (ù [63] (by simp) (by simp) HGx.o false (by rw [p63]; exact decide_eq_false m63))
   go_wp2_with fail
   refine HI.o.mono ?_;rintro e w6 ⟨rfl, hF6, I6, hG6⟩;simp only [Ċ, if_false] at hG6;have HG6 := ħ hG6
   have HB1g := ħ (À hF6 HB1m.o (HNE.o _ (by omega)))
   have HB2g := ħ (À hF6 HB2m.o (HNE.o _ (by omega)))
   have HB3g := ħ (À hF6 HB3m.o (HNE.o _ (by omega)))
   have HFg := ħ (HFm.o.trans hF6);clear hG6 hF6
   by_cases m43 : at_ σ2.t 0 = 43
   ·have HI2 := ħ (ù [43] (by simp) (by simp) HG6.o true (by rw [p43]; exact decide_eq_true m43))
    obtain rfl : r = .ok (Àz l1 l2 2 a, σ2.adv 1) := by rw [HR.o]; simp [È, è, m43]
    clear p63 p43
    go_wp2_with fail
    refine HI2.o.mono ?_;rintro e w6b ⟨rfl, hF6, I6b, hG6b⟩;simp only [if_true, ć, Ď, ĉ] at hG6b;have HG6b := ħ hG6b
    have HB1k := ħ (À hF6 HB1g.o (HNE.o _ (by omega)))
    have HB2k := ħ (À hF6 HB2g.o (HNE.o _ (by omega)))
    have HB3k := ħ (À hF6 HB3g.o (HNE.o _ (by omega)))
    have HFk := ħ (HFg.o.trans hF6);have b3 := HB3k.o.eight;have f3 := HB3k.o.frozen;clear hG6b hF6
    go_upto_region 21 with (fail)
    have HB1h := ħ (HB1k.o.far (p := ⟨w.heap.size + 2 + 1, 3, none⟩) (by simp only; omega) (.int .i64 2))
    have HB2h := ħ (HB2k.o.far (p := ⟨w.heap.size + 2 + 1, 3, none⟩) (by simp only; omega) (.int .i64 2))
    have HB3h : Hid (Blk (w6b.setCell ⟨w.heap.size + 2 + 1, 3, none⟩ (.int .i64 2)) (w.heap.size + 2 + 1) 38 #[.int .i64 4, .int .i64 l1, .int .i64 l2, .int .i64 2, .int .i64 0, .slice none 0 0, .bool false, .slice (some ⟨w.heap.size + 2, 0, none⟩) 1 1]) := ħ (HB3k.o.set_ 3 (.int .i64 2))
    have HFh := ħ (HFk.o.set_ (q := ⟨w.heap.size + 2 + 1, 3, none⟩) (.inr (by simp only; omega)) (.int .i64 2))
    have HG7 : Hid (Gd E (w6b.setCell ⟨w.heap.size + 2 + 1, 3, none⟩ (.int .i64 2)) (σ2.adv 1) d rv I6b refs) := ħ ⟨HG6b.o.sv.far (HNE.o _ (by omega)) _, HG6b.o.pos, HG6b.o.refl, HG6b.o.same, HG6b.o.deep, HG6b.o.le, HG6b.o.rl⟩
    clear b3 f3;generalize w6b.setCell ⟨w.heap.size + 2 + 1, 3, none⟩ (.int .i64 2) = w7 at *;have b3 := HB3h.o.eight;have hz := HB1h.o.eight;have hfz := HB1h.o.frozen;go_wp2
    exact ß rfl rfl rfl (Æ HB1h.o) (ÀQ HN.o hb hbw hbx (by omega) (HNE.o _ (by omega)) (by omega) (HNE.o _ (by omega)).2.2.2 HFh.o HG7.o HB2h.o)
   have HI2 := ħ (ù [43] (by simp) (by simp) HG6.o false (by rw [p43]; exact decide_eq_false m43))
   obtain rfl : r = .ok (Àz l1 l2 0 a, σ2) := by rw [HR.o]; simp [È, è, m63, m43]
   clear p63 p43
   go_wp2_with fail
   refine HI2.o.mono ?_;rintro e w6b ⟨rfl, hF6, I6b, hG6b⟩;simp only [Ċ, if_false] at hG6b
   have HB1k := ħ (À hF6 HB1g.o (HNE.o _ (by omega)))
   have HB2k := ħ (À hF6 HB2g.o (HNE.o _ (by omega)))
   have HB3k := ħ (À hF6 HB3g.o (HNE.o _ (by omega)))
   have HFk := ħ (HFg.o.trans hF6);have b3 := HB3k.o.eight;have hz := HB1k.o.eight;have hfz := HB1k.o.frozen;go_wp2
   exact ß rfl rfl rfl (Æ HB1k.o) (ÀQ HN.o hb hbw hbx (by omega) (HNE.o _ (by omega)) (by omega) (HNE.o _ (by omega)).2.2.2 HFk.o hG6b HB2k.o)
end
end Go.Proofs.YtpginkdkblmnbaaGreatDoor
