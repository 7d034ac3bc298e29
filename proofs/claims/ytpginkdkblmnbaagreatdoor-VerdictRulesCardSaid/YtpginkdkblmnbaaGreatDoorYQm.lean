/- The document's own reader: a quantifier, if one comes next. -/
import Derived.Test.YtpginkdkblmnbaaGreatDoorYMQk
namespace Go.Proofs.YtpginkdkblmnbaaGreatDoor
open Go.RowKit
open Go.Proofs.YtpginkdkblmnbaaGreatDoor.Cl (Rg SetV SetAt rgCells gaps together info_three)
variable {w w' w0 : World} {E : RE} {σ σ1 : St} {I g d c p : Nat} {rv rv' : Value} {refs : List (Nat × Nat)} {f : Flt}

/-- Where a node's parts lie: not in a box that is to be written over. -/
def KX (base bx : Nat) (w : World) (rv : Value) (b : Nat) : Prop := KQ base w rv b ∧ b ≠ bx
theorem KX.step {base bx b : Nat} (hb : E.rb < base) (hF : FrR E w rv w' rv') (h : KX base bx w rv b) : KX base bx w' rv' b ∧ w'.heap[b]? = w.heap[b]? := ⟨⟨(h.1.step hb hF).1, h.2⟩, (h.1.step hb hF).2⟩
theorem KX.below {base bx b : Nat} {rv : Value} (hb : Below w.heap.size w w') (h : KX base bx w rv b) : KX base bx w' rv b ∧ w'.heap[b]? = w.heap[b]? := ⟨⟨(h.1.below hb).1, h.2⟩, (h.1.below hb).2⟩
/-- A node behind its quantifier. -/
def RpP (E : RE) (d : Nat) (rv : Value) (refs : List (Nat × Nat)) (w : World) (base bx : Nat) (r : R) (e : Ending) (w' : World) : Prop :=
  match r with
  | .ok x => ∃ I' A1 n1 p1 nb A2 p2, e = .returned (.agg #[.int .i64 x.1.kind, .int .i64 x.1.lo, .int .i64 x.1.hi, .int .i64 x.1.mode, .int .i64 x.1.ref, .slice A1 n1 p1, .bool nb, .slice A2 x.1.kids.length p2]) ∧
      NodeQ (KX base bx w' rv) w' x.1 (.slice A1 n1 p1) nb (.slice A2 x.1.kids.length p2) ∧ FrR E w rv w' rv ∧ Gd E w' x.2 d rv I' refs
  | .error f => ∃ v, e = .returned v ∧ AnyV v ∧ FrR E w rv w' rv ∧ Bd E w' d rv f

theorem quant_if {gr may : Bool} {a : Nd} (hmay : may = !(!gr && (decide (a.kind = 9) || decide (a.kind = 7)))) : quantRest gr a σ =
    if isQ (at_ σ.t 0) then (if may then (match times σ with | none => .error (23, σ.pos) | some x => .ok (repN x.1.1 x.1.2 (modeOf x.2.t) a, behindMode x.2)) else .error (23, σ.pos)) else .ok (a, σ) := by
  unfold quantRest
  rw [hmay]
  cases isQ (at_ σ.t 0) with
  | false => rfl
  | true =>
    cases (!gr && (decide (a.kind = 9) || decide (a.kind = 7))) with
    | true => rfl
    | false =>
      simp only [if_true, Bool.false_eq_true, if_false, Bool.not_false]
      cases times σ with
      | none => rfl
      | some x => rfl
theorem qcells_blk {b n1 p1 p2 : Nat} {A1 A2 : Option Addr} {nb : Bool} {a : Nd} (h : Blk w b 38 #[.int .i64 a.kind, .int .i64 a.lo, .int .i64 a.hi, .int .i64 a.mode, .int .i64 a.ref, .slice A1 n1 p1, .bool nb, .slice A2 a.kids.length p2]) : QCells w b 0 a (.slice A1 n1 p1) nb (.slice A2 a.kids.length p2) := by
  intro j u hu
  rw [Nat.zero_add, h.cell j]
  rw [← hu]
  simp [qCells]
theorem rep_ok {base bx b b2 n1 p1 p2 : Nat} {A1 A2 : Option Addr} {nb : Bool} {a : Nd} {lo hi m : Int} {W : World} {c0 c1 c2 c3 c4 c5 c6 c7 : Value} (hN : NodeQ (KX base bx w rv) w a (.slice A1 n1 p1) nb (.slice A2 a.kids.length p2)) (hb : E.rb < base) (hbw : base ≤ w.heap.size) (hbx : bx < w.heap.size)
    (hb1 : w.heap.size ≤ b) (hne : b ≠ E.rb ∧ b ≠ E.ub ∧ b ≠ E.ab ∧ rv.ownBlock ≠ some b) (hb2 : w.heap.size ≤ b2 ∧ b2 ≠ b) (hne2 : rv.ownBlock ≠ some b2) (hF : FrR E w rv W rv) (hG : Gd E W σ d rv I refs)
    (h2 : Blk W b2 38 #[.int .i64 a.kind, .int .i64 a.lo, .int .i64 a.hi, .int .i64 a.mode, .int .i64 a.ref, .slice A1 n1 p1, .bool nb, .slice A2 a.kids.length p2]) :
    RpP E d rv refs w base bx (.ok (repN lo hi m a, σ)) (.returned (.agg #[.int .i64 4, .int .i64 lo, .int .i64 hi, .int .i64 m, .int .i64 0, .slice none 0 0, .bool false, .slice (some ⟨b2, 0, none⟩) 1 1])) (st8 W b c0 c1 c2 c3 c4 c5 c6 c7) := by
  have hF' : FrR E w rv (st8 W b c0 c1 c2 c3 c4 c5 c6 c7) rv := st8_fr hb1 hF
  have h2' : Blk (st8 W b c0 c1 c2 c3 c4 c5 c6 c7) b2 38 _ := (st8_heap hb2.2).trans h2
  refine ⟨I, none, 0, 0, false, some ⟨b2, 0, none⟩, 1, rfl, ?_, hF', st8_gd hne hG⟩
  exact NodeQ.one (by decide) (Nat.le_refl _) ⟨⟨by omega, h2'.lt, hne2⟩, by omega⟩ (hN.keep fun _ hi => hi.step hb hF') (qcells_blk h2')
theorem rep_no {base bx b : Nat} {v : Value} {W : World} {c0 c1 c2 c3 c4 c5 c6 c7 : Value} (hb1 : w.heap.size ≤ b) (hne : b ≠ E.rb ∧ b ≠ E.ub ∧ b ≠ E.ab ∧ rv.ownBlock ≠ some b) (hv : AnyV v) (hF : FrR E w rv W rv) (hB : Bd E W d rv f) :
    RpP E d rv refs w base bx (.error f) (.returned v) (st8 W b c0 c1 c2 c3 c4 c5 c6 c7) := ⟨v, rfl, hv, st8_fr hb1 hF, st8_bd hne hB⟩
theorem rep_kid {base bx b n1 p1 p2 : Nat} {A1 A2 : Option Addr} {nb : Bool} {a : Nd} {W : World} {c0 c1 c2 c3 c4 c5 c6 c7 : Value} (hN : NodeQ (KX base bx w rv) w a (.slice A1 n1 p1) nb (.slice A2 a.kids.length p2)) (hb : E.rb < base)
    (hb1 : w.heap.size ≤ b) (hne : b ≠ E.rb ∧ b ≠ E.ub ∧ b ≠ E.ab ∧ rv.ownBlock ≠ some b) (hF : FrR E w rv W rv) (hG : Gd E W σ d rv I refs) :
    RpP E d rv refs w base bx (.ok (a, σ)) (.returned (.agg #[.int .i64 a.kind, .int .i64 a.lo, .int .i64 a.hi, .int .i64 a.mode, .int .i64 a.ref, .slice A1 n1 p1, .bool nb, .slice A2 a.kids.length p2])) (st8 W b c0 c1 c2 c3 c4 c5 c6 c7) := by
  have hF' : FrR E w rv (st8 W b c0 c1 c2 c3 c4 c5 c6 c7) rv := st8_fr hb1 hF
  exact ⟨I, A1, n1, p1, nb, A2, p2, rfl, hN.keep fun _ hi => hi.step hb hF', hF', st8_gd hne hG⟩

set_option maxRecDepth 100000 in
set_option maxHeartbeats 1000000 in
theorem repeat_any (h : Gd E w σ d rv I refs) {gr may : Bool} {a : Nd} {base bx n1 p1 p2 : Nat} {A1 A2 : Option Addr} {nb : Bool} (hN : NodeQ (KX base bx w rv) w a (.slice A1 n1 p1) nb (.slice A2 a.kids.length p2)) (hb : E.rb < base) (hbw : base ≤ w.heap.size) (hbx : bx < w.heap.size)
    (hmay : may = !(!gr && (decide (a.kind = 9) || decide (a.kind = 7)))) :
    Calls Tryz.prog 92 #[.pointer (some ⟨E.rb, 0, none⟩), .agg #[.int .i64 a.kind, .int .i64 a.lo, .int .i64 a.hi, .int .i64 a.mode, .int .i64 a.ref, .slice A1 n1 p1, .bool nb, .slice A2 a.kids.length p2], .bool may] w (RpP E d rv refs w base bx (quantRest gr a σ)) := by
  obtain ⟨r, hr⟩ : ∃ r, r = quantRest gr a σ := ⟨_, rfl⟩
  rw [← hr]
  rw [quant_if hmay] at hr
  clear hmay
  obtain ⟨kn, hkn⟩ : ∃ kn : Array Value, kn = #[.int .i64 a.kind, .int .i64 a.lo, .int .i64 a.hi, .int .i64 a.mode, .int .i64 a.ref, .slice A1 n1 p1, .bool nb, .slice A2 a.kids.length p2] := ⟨_, rfl⟩
  obtain ⟨zn, hzn⟩ : ∃ zn : Array Value, zn = #[.int .i64 0, .int .i64 0, .int .i64 0, .int .i64 0, .int .i64 0, .slice none 0 0, .bool false, .slice none 0 0] := ⟨_, rfl⟩
  have h256 := h.sv.n256
  have hle := h.le
  have hrb := h.sv.blk.lt
  have HG := Lib.hid h
  have HN := Lib.hid hN
  have HNE : Hid (∀ k, w.heap.size ≤ k → k ≠ E.rb ∧ k ≠ E.ub ∧ k ≠ E.ab ∧ rv.ownBlock ≠ some k) := Lib.hid (fun k hk => by
    have h1 := HG.out.sv.blk.lt
    have h2 := HG.out.sv.ub_lt
    refine ⟨by omega, by omega, by omega, fun e => ?_⟩
    have := (HG.out.sv.own_lt e).1
    omega)
  have hB0 : Blk ((w.alloc (.cells kn 38)).alloc (.cells zn 38)) w.heap.size 38 kn := (Blk.new w 38 kn).alloc _
  have hB1 : Blk ((w.alloc (.cells kn 38)).alloc (.cells zn 38)) (w.heap.size + 1) 38 zn := by
    have := Blk.new (w.alloc (.cells kn 38)) 38 zn
    simpa using this
  have hS1 := (h.alloc (.cells kn 38)).alloc (.cells zn 38)
  have hF1 := ((FrR.refl (E := E) (rv := rv) w).alloc (.cells kn 38)).alloc (.cells zn 38)
  have hsz1 : ((w.alloc (.cells kn 38)).alloc (.cells zn 38)).heap.size = w.heap.size + 2 := by simp
  have HKN := Lib.hid hkn
  have HB0 := Lib.hid hB0
  have HB1a := Lib.hid hB1
  have HGa := Lib.hid hS1
  have HFa := Lib.hid hF1
  subst hkn hzn
  clear hB0 hB1 hS1 hF1 h hN
  have HO0 := Lib.hid (gd_at0 HG.out)
  have HR0 := Lib.hid hr
  clear hr
  go_enter Tryz.func92, Tryz.ntmps92
  go_upto_region 1 with (fail)
  generalize (w.alloc _).alloc _ = w1 at *
  have b0 := HB0.out.eight
  obtain ⟨_, _, c2, _⟩ := HGa.out.sv.ten
  go_upto_region 3 with (fail)
  obtain ⟨nn, hnn⟩ : ∃ nn : Array Value, nn = #[.int .i64 4, .int .i64 0, .int .i64 (-1), .int .i64 0, .int .i64 0, .slice none 0 0, .bool false, .slice (some ⟨w.heap.size + 2, 0, none⟩) 1 1] := ⟨_, rfl⟩
  obtain ⟨kn, hkn⟩ : ∃ kn : Array Value, kn = #[.int .i64 a.kind, .int .i64 a.lo, .int .i64 a.hi, .int .i64 a.mode, .int .i64 a.ref, .slice A1 n1 p1, .bool nb, .slice A2 a.kids.length p2] := ⟨_, rfl⟩
  have HB0b := Lib.hid ((HB0.out.alloc (.cells kn 38)).alloc (.cells nn 38))
  have HB1b := Lib.hid ((HB1a.out.alloc (.cells kn 38)).alloc (.cells nn 38))
  have hB2b : Blk ((w1.alloc (.cells kn 38)).alloc (.cells nn 38)) (w.heap.size + 2) 38 kn := by
    rw [← hsz1]
    exact (Blk.new w1 38 kn).alloc _
  have hB3b : Blk ((w1.alloc (.cells kn 38)).alloc (.cells nn 38)) (w.heap.size + 2 + 1) 38 nn := by
    have := Blk.new (w1.alloc (.cells kn 38)) 38 nn
    simpa [hsz1] using this
  have HGb := Lib.hid ((HGa.out.alloc (.cells kn 38)).alloc (.cells nn 38))
  have HFb := Lib.hid ((HFa.out.alloc (.cells kn 38)).alloc (.cells nn 38))
  have hszb : ((w1.alloc (.cells kn 38)).alloc (.cells nn 38)).heap.size = w.heap.size + 4 := by simp [hsz1]
  subst hkn hnn
  have HB2b := Lib.hid hB2b
  have HB3b := Lib.hid hB3b
  clear hB2b hB3b b0 c2 hsz1 HB0 HB1a HGa HFa HKN
  generalize (w1.alloc _).alloc _ = w2 at *
  have HO := Lib.hid (on0 HGb.out.sv)
  rw [HO0.out] at HO
  obtain ⟨v, hv⟩ : ∃ v, v = onN σ.t 0 := ⟨_, rfl⟩
  rw [← hv] at HO
  have HV := Lib.hid hv
  clear hv
  go_wp2_with fail
  refine HO.out.mono ?_
  rintro e w3 ⟨rfl, m3, hw3⟩
  have HB0c : Hid (Blk w3 w.heap.size 38 _) := Lib.hid (by rw [hw3]; exact HB0b.out)
  have HB1c : Hid (Blk w3 (w.heap.size + 1) 38 _) := Lib.hid (by rw [hw3]; exact HB1b.out)
  have HB2c : Hid (Blk w3 (w.heap.size + 2) 38 _) := Lib.hid (by rw [hw3]; exact HB2b.out)
  have HB3c : Hid (Blk w3 (w.heap.size + 2 + 1) 38 _) := Lib.hid (by rw [hw3]; exact HB3b.out)
  have HGc : Hid (Gd E w3 σ d rv I refs) := Lib.hid (by rw [hw3]; exact HGb.out.drewN _)
  have HFc : Hid (FrR E w rv w3 rv) := Lib.hid (by rw [hw3]; exact HFb.out.drewN _)
  have hszc : w3.heap.size = w.heap.size + 4 := by rw [hw3]; exact hszb
  clear hw3 HB0b HB1b HB2b HB3b HGb HFb hszb HO
  have HQ : Hid (isQ (at_ σ.t 0) = decide (v = 42 ∨ v = 43 ∨ v = 63 ∨ v = 123)) := Lib.hid (by
    rw [HV.out]
    have e1 := on_sign (t := σ.t) (c := 42) (by omega) (by omega)
    have e2 := on_sign (t := σ.t) (c := 43) (by omega) (by omega)
    have e3 := on_sign (t := σ.t) (c := 63) (by omega) (by omega)
    have e4 := on_sign (t := σ.t) (c := 123) (by omega) (by omega)
    unfold isQ
    rw [decide_eq_decide, ← e1, ← e2, ← e3, ← e4]
    rfl)
  by_cases hq : v = 42 ∨ v = 43 ∨ v = 63 ∨ v = 123
  rotate_left
  · obtain ⟨q1, hq⟩ := not_or.1 hq
    obtain ⟨q2, hq⟩ := not_or.1 hq
    obtain ⟨q3, q4⟩ := not_or.1 hq
    obtain rfl : r = .ok (a, σ) := by
      rw [HR0.out, HQ.out, if_neg (by simp; omega)]
    have b0 := HB0c.out.eight
    have hz := HB1c.out.eight
    have hfz := HB1c.out.frozen
    have n1 : (v != 42) = true := by simp [q1]
    have n2 : (v != 43) = true := by simp [q2]
    have n3 : (v != 63) = true := by simp [q3]
    have n4 : (v != 123) = true := by simp [q4]
    clear hq
    go_wp2
    exact ret_q1 rfl rfl rfl (st8_blk HB1c.out) (rep_kid HN.out hb (by omega) (HNE.out _ (by omega)) HFc.out HGc.out)
  have hat : at_ σ.t 0 = v.toNat ∧ 42 ≤ at_ σ.t 0 ∧ at_ σ.t 0 < 128 := by
    have e1 := on_sign (t := σ.t) (c := v.toNat) (by omega) (by omega)
    have := e1.1 (by rw [← HV.out]; omega)
    omega
  obtain ⟨hat0, hat1, hat2⟩ := hat
  have hn : σ.t ≠ [] := at_ne (by omega)
  have hlt := HG.out.lt hn
  have HP1 := Lib.hid (HG.out.pos.small hn hat2)
  have HR1 : Hid (r = if may then (match times σ with | none => .error (23, σ.pos) | some x => .ok (repN x.1.1 x.1.2 (modeOf x.2.t) a, behindMode x.2)) else .error (23, σ.pos)) := Lib.hid (by
    rw [HR0.out, HQ.out, if_pos (decide_eq_true hq)])
  have HA := Lib.hid hat0
  obtain ⟨_, _, c2, _⟩ := HGc.out.sv.ten
  have f2 := HGc.out.sv.fz 2
  have HGd : Hid (Gd E (w3.setCell ⟨E.rb, 2, none⟩ (.int .i64 ((I : Int) + 1))) (σ.adv 1) d rv (I + 1) refs) := Lib.hid (by
    have := HGc.out.sv.setI (J := I + 1) (by omega)
    rw [Int.natCast_add] at this
    exact HG.out.move this HP1.out rfl rfl (by omega) hlt)
  have HB1d := Lib.hid (HB1c.out.far (p := ⟨E.rb, 2, none⟩) (by simp only; omega) (.int .i64 ((I : Int) + 1)))
  have HB2d := Lib.hid (HB2c.out.far (p := ⟨E.rb, 2, none⟩) (by simp only; omega) (.int .i64 ((I : Int) + 1)))
  have HB3d := Lib.hid (HB3c.out.far (p := ⟨E.rb, 2, none⟩) (by simp only; omega) (.int .i64 ((I : Int) + 1)))
  have HFd := Lib.hid (HFc.out.set_ (q := ⟨E.rb, 2, none⟩) (.inl rfl) (.int .i64 ((I : Int) + 1)))
  have hszd : (w3.setCell ⟨E.rb, 2, none⟩ (.int .i64 ((I : Int) + 1))).heap.size = w.heap.size + 4 := by simp [World.setCell, hszc]
  clear hat0 hat1 hat2 hn HB0c HB1c HB2c HB3c HGc HFc HR0 HQ HO0
  rcases hq with rfl | hq
  · have ht : times σ = some ((0, (-1)), σ.adv 1) := by
      have : at_ σ.t 0 = 42 := HA.out
      unfold times
      simp [this]
    have HR2 := Lib.hid (show r = if may then .ok (repN 0 (-1) (modeOf (σ.adv 1).t) a, behindMode (σ.adv 1)) else .error (23, σ.pos) by rw [HR1.out, ht])
    clear ht HA HV HR1
    go_upto_region 7 with (fail)
    clear c2 f2
    generalize w3.setCell ⟨E.rb, 2, none⟩ (.int .i64 ((I : Int) + 1)) = w4 at *
    have b3 := HB3d.out.eight
    cases may with
    | false =>
      obtain rfl : r = .error (23, σ.pos) := HR2.out
      have HFl := Lib.hid (fail_gd (σ0 := σ) (I0 := I) 23 (by omega) HG.out.atI HGd.out.sv)
      go_wp2_with fail
      refine HFl.out.mono ?_
      rintro e w8 ⟨rfl, hF8, hB8⟩
      have HB1f := Lib.hid (box_blk hF8 HB1d.out (HNE.out _ (by omega)))
      have HB2f := Lib.hid (box_blk hF8 HB2d.out (HNE.out _ (by omega)))
      have HB3f := Lib.hid (box_blk hF8 HB3d.out (HNE.out _ (by omega)))
      have HFf := Lib.hid (HFd.out.trans hF8)
      have b3 := HB3f.out.eight
      have hz := HB1f.out.eight
      have hfz := HB1f.out.frozen
      go_wp2
      exact ret_q1 rfl rfl rfl (st8_blk HB1f.out) (rep_no (by omega) (HNE.out _ (by omega)) ⟨4, 0, (-1), 0, 0, none, _, 0, 0, 1, 1, false, rfl⟩ HFf.out hB8)
    | true =>
      have HR := Lib.hid (show r = .ok (repN 0 (-1) (modeOf (σ.adv 1).t) a, behindMode (σ.adv 1)) from HR2.out)
      clear HR2
      have HGx := Lib.hid (HGd.out)
      have p63 := pre_iff (c := 63) (t := (σ.adv 1).t) (by decide)
      have p43 := pre_iff (c := 43) (t := (σ.adv 1).t) (by decide)
      by_cases m63 : at_ (σ.adv 1).t 0 = 63
      · have HI := Lib.hid (is_gd [63] (by simp) (by simp) HGx.out true (by rw [p63]; exact decide_eq_true m63))
        obtain rfl : r = .ok (repN 0 (-1) 1 a, (σ.adv 1).adv 1) := by rw [HR.out]; simp [behindMode, modeOf, m63]
        clear p63 p43
        go_wp2_with fail
        refine HI.out.mono ?_
        rintro e w6 ⟨rfl, hF6, I6, hG6⟩
        simp only [if_true, List.length_cons, List.length_nil, Nat.zero_add] at hG6
        have HG6 := Lib.hid hG6
        have HB1g := Lib.hid (box_blk hF6 HB1d.out (HNE.out _ (by omega)))
        have HB2g := Lib.hid (box_blk hF6 HB2d.out (HNE.out _ (by omega)))
        have HB3g := Lib.hid (box_blk hF6 HB3d.out (HNE.out _ (by omega)))
        have HFg := Lib.hid (HFd.out.trans hF6)
        have b3 := HB3g.out.eight
        have f3 := HB3g.out.frozen
        clear hG6 hF6
        go_upto_region 21 with (fail)
        have HB1h := Lib.hid (HB1g.out.far (p := ⟨w.heap.size + 2 + 1, 3, none⟩) (by simp only; omega) (.int .i64 1))
        have HB2h := Lib.hid (HB2g.out.far (p := ⟨w.heap.size + 2 + 1, 3, none⟩) (by simp only; omega) (.int .i64 1))
        have HB3h : Hid (Blk (w6.setCell ⟨w.heap.size + 2 + 1, 3, none⟩ (.int .i64 1)) (w.heap.size + 2 + 1) 38 #[.int .i64 4, .int .i64 0, .int .i64 (-1), .int .i64 1, .int .i64 0, .slice none 0 0, .bool false, .slice (some ⟨w.heap.size + 2, 0, none⟩) 1 1]) := Lib.hid (HB3g.out.set_ 3 (.int .i64 1))
        have HFh := Lib.hid (HFg.out.set_ (q := ⟨w.heap.size + 2 + 1, 3, none⟩) (.inr (by simp only; omega)) (.int .i64 1))
        have HG7 : Hid (Gd E (w6.setCell ⟨w.heap.size + 2 + 1, 3, none⟩ (.int .i64 1)) ((σ.adv 1).adv 1) d rv I6 refs) := Lib.hid ⟨HG6.out.sv.far (HNE.out _ (by omega)) _, HG6.out.pos, HG6.out.refl, HG6.out.same, HG6.out.deep, HG6.out.le, HG6.out.rl⟩
        clear b3 f3
        generalize w6.setCell ⟨w.heap.size + 2 + 1, 3, none⟩ (.int .i64 1) = w7 at *
        have b3 := HB3h.out.eight
        have hz := HB1h.out.eight
        have hfz := HB1h.out.frozen
        go_wp2
        exact ret_q1 rfl rfl rfl (st8_blk HB1h.out) (rep_ok HN.out hb hbw hbx (by omega) (HNE.out _ (by omega)) (by omega) (HNE.out _ (by omega)).2.2.2 HFh.out HG7.out HB2h.out)
      have HI := Lib.hid (is_gd [63] (by simp) (by simp) HGx.out false (by rw [p63]; exact decide_eq_false m63))
      go_wp2_with fail
      refine HI.out.mono ?_
      rintro e w6 ⟨rfl, hF6, I6, hG6⟩
      simp only [Bool.false_eq_true, if_false] at hG6
      have HG6 := Lib.hid hG6
      have HB1g := Lib.hid (box_blk hF6 HB1d.out (HNE.out _ (by omega)))
      have HB2g := Lib.hid (box_blk hF6 HB2d.out (HNE.out _ (by omega)))
      have HB3g := Lib.hid (box_blk hF6 HB3d.out (HNE.out _ (by omega)))
      have HFg := Lib.hid (HFd.out.trans hF6)
      clear hG6 hF6
      by_cases m43 : at_ (σ.adv 1).t 0 = 43
      · have HI2 := Lib.hid (is_gd [43] (by simp) (by simp) HG6.out true (by rw [p43]; exact decide_eq_true m43))
        obtain rfl : r = .ok (repN 0 (-1) 2 a, (σ.adv 1).adv 1) := by rw [HR.out]; simp [behindMode, modeOf, m43]
        clear p63 p43
        go_wp2_with fail
        refine HI2.out.mono ?_
        rintro e w6b ⟨rfl, hF6, I6b, hG6b⟩
        simp only [if_true, List.length_cons, List.length_nil, Nat.zero_add] at hG6b
        have HG6b := Lib.hid hG6b
        have HB1k := Lib.hid (box_blk hF6 HB1g.out (HNE.out _ (by omega)))
        have HB2k := Lib.hid (box_blk hF6 HB2g.out (HNE.out _ (by omega)))
        have HB3k := Lib.hid (box_blk hF6 HB3g.out (HNE.out _ (by omega)))
        have HFk := Lib.hid (HFg.out.trans hF6)
        have b3 := HB3k.out.eight
        have f3 := HB3k.out.frozen
        clear hG6b hF6
        go_upto_region 21 with (fail)
        have HB1h := Lib.hid (HB1k.out.far (p := ⟨w.heap.size + 2 + 1, 3, none⟩) (by simp only; omega) (.int .i64 2))
        have HB2h := Lib.hid (HB2k.out.far (p := ⟨w.heap.size + 2 + 1, 3, none⟩) (by simp only; omega) (.int .i64 2))
        have HB3h : Hid (Blk (w6b.setCell ⟨w.heap.size + 2 + 1, 3, none⟩ (.int .i64 2)) (w.heap.size + 2 + 1) 38 #[.int .i64 4, .int .i64 0, .int .i64 (-1), .int .i64 2, .int .i64 0, .slice none 0 0, .bool false, .slice (some ⟨w.heap.size + 2, 0, none⟩) 1 1]) := Lib.hid (HB3k.out.set_ 3 (.int .i64 2))
        have HFh := Lib.hid (HFk.out.set_ (q := ⟨w.heap.size + 2 + 1, 3, none⟩) (.inr (by simp only; omega)) (.int .i64 2))
        have HG7 : Hid (Gd E (w6b.setCell ⟨w.heap.size + 2 + 1, 3, none⟩ (.int .i64 2)) ((σ.adv 1).adv 1) d rv I6b refs) := Lib.hid ⟨HG6b.out.sv.far (HNE.out _ (by omega)) _, HG6b.out.pos, HG6b.out.refl, HG6b.out.same, HG6b.out.deep, HG6b.out.le, HG6b.out.rl⟩
        clear b3 f3
        generalize w6b.setCell ⟨w.heap.size + 2 + 1, 3, none⟩ (.int .i64 2) = w7 at *
        have b3 := HB3h.out.eight
        have hz := HB1h.out.eight
        have hfz := HB1h.out.frozen
        go_wp2
        exact ret_q1 rfl rfl rfl (st8_blk HB1h.out) (rep_ok HN.out hb hbw hbx (by omega) (HNE.out _ (by omega)) (by omega) (HNE.out _ (by omega)).2.2.2 HFh.out HG7.out HB2h.out)
      have HI2 := Lib.hid (is_gd [43] (by simp) (by simp) HG6.out false (by rw [p43]; exact decide_eq_false m43))
      obtain rfl : r = .ok (repN 0 (-1) 0 a, (σ.adv 1)) := by rw [HR.out]; simp [behindMode, modeOf, m63, m43]
      clear p63 p43
      go_wp2_with fail
      refine HI2.out.mono ?_
      rintro e w6b ⟨rfl, hF6, I6b, hG6b⟩
      simp only [Bool.false_eq_true, if_false] at hG6b
      have HB1k := Lib.hid (box_blk hF6 HB1g.out (HNE.out _ (by omega)))
      have HB2k := Lib.hid (box_blk hF6 HB2g.out (HNE.out _ (by omega)))
      have HB3k := Lib.hid (box_blk hF6 HB3g.out (HNE.out _ (by omega)))
      have HFk := Lib.hid (HFg.out.trans hF6)
      have b3 := HB3k.out.eight
      have hz := HB1k.out.eight
      have hfz := HB1k.out.frozen
      go_wp2
      exact ret_q1 rfl rfl rfl (st8_blk HB1k.out) (rep_ok HN.out hb hbw hbx (by omega) (HNE.out _ (by omega)) (by omega) (HNE.out _ (by omega)).2.2.2 HFk.out hG6b HB2k.out)
  rcases hq with rfl | hq
  · have ht : times σ = some ((1, (-1)), σ.adv 1) := by
      have : at_ σ.t 0 = 43 := HA.out
      unfold times
      simp [this]
    have HR2 := Lib.hid (show r = if may then .ok (repN 1 (-1) (modeOf (σ.adv 1).t) a, behindMode (σ.adv 1)) else .error (23, σ.pos) by rw [HR1.out, ht])
    clear ht HA HV HR1
    go_upto_region 7 with (fail)
    clear c2 f2
    generalize w3.setCell ⟨E.rb, 2, none⟩ (.int .i64 ((I : Int) + 1)) = w4 at *
    have b3 := HB3d.out.eight
    have f3 := HB3d.out.frozen
    go_upto_region 14 with (fail)
    clear b3 f3
    have HB1e := Lib.hid (HB1d.out.far (p := ⟨w.heap.size + 2 + 1, 1, none⟩) (by simp only; omega) (.int .i64 1))
    have HB2e := Lib.hid (HB2d.out.far (p := ⟨w.heap.size + 2 + 1, 1, none⟩) (by simp only; omega) (.int .i64 1))
    have HB3e : Hid (Blk (w4.setCell ⟨w.heap.size + 2 + 1, 1, none⟩ (.int .i64 1)) (w.heap.size + 2 + 1) 38 #[.int .i64 4, .int .i64 1, .int .i64 (-1), .int .i64 0, .int .i64 0, .slice none 0 0, .bool false, .slice (some ⟨w.heap.size + 2, 0, none⟩) 1 1]) := Lib.hid (HB3d.out.set_ 1 (.int .i64 1))
    have HFe := Lib.hid (HFd.out.set_ (q := ⟨w.heap.size + 2 + 1, 1, none⟩) (.inr (by simp only; omega)) (.int .i64 1))
    have HGe : Hid (Gd E (w4.setCell ⟨w.heap.size + 2 + 1, 1, none⟩ (.int .i64 1)) (σ.adv 1) d rv (I + 1) refs) := Lib.hid ⟨HGd.out.sv.far (HNE.out _ (by omega)) _, HGd.out.pos, HGd.out.refl, HGd.out.same, HGd.out.deep, HGd.out.le, HGd.out.rl⟩
    clear HB1d HB2d HB3d HFd HGd hszd
    generalize w4.setCell ⟨w.heap.size + 2 + 1, 1, none⟩ (.int .i64 1) = w5 at *
    cases may with
    | false =>
      obtain rfl : r = .error (23, σ.pos) := HR2.out
      have HFl := Lib.hid (fail_gd (σ0 := σ) (I0 := I) 23 (by omega) HG.out.atI HGe.out.sv)
      go_wp2_with fail
      refine HFl.out.mono ?_
      rintro e w8 ⟨rfl, hF8, hB8⟩
      have HB1f := Lib.hid (box_blk hF8 HB1e.out (HNE.out _ (by omega)))
      have HB2f := Lib.hid (box_blk hF8 HB2e.out (HNE.out _ (by omega)))
      have HB3f := Lib.hid (box_blk hF8 HB3e.out (HNE.out _ (by omega)))
      have HFf := Lib.hid (HFe.out.trans hF8)
      have b3 := HB3f.out.eight
      have hz := HB1f.out.eight
      have hfz := HB1f.out.frozen
      go_wp2
      exact ret_q1 rfl rfl rfl (st8_blk HB1f.out) (rep_no (by omega) (HNE.out _ (by omega)) ⟨4, 1, (-1), 0, 0, none, _, 0, 0, 1, 1, false, rfl⟩ HFf.out hB8)
    | true =>
      have HR := Lib.hid (show r = .ok (repN 1 (-1) (modeOf (σ.adv 1).t) a, behindMode (σ.adv 1)) from HR2.out)
      clear HR2
      have HGx := Lib.hid (HGe.out)
      have p63 := pre_iff (c := 63) (t := (σ.adv 1).t) (by decide)
      have p43 := pre_iff (c := 43) (t := (σ.adv 1).t) (by decide)
      by_cases m63 : at_ (σ.adv 1).t 0 = 63
      · have HI := Lib.hid (is_gd [63] (by simp) (by simp) HGx.out true (by rw [p63]; exact decide_eq_true m63))
        obtain rfl : r = .ok (repN 1 (-1) 1 a, (σ.adv 1).adv 1) := by rw [HR.out]; simp [behindMode, modeOf, m63]
        clear p63 p43
        go_wp2_with fail
        refine HI.out.mono ?_
        rintro e w6 ⟨rfl, hF6, I6, hG6⟩
        simp only [if_true, List.length_cons, List.length_nil, Nat.zero_add] at hG6
        have HG6 := Lib.hid hG6
        have HB1g := Lib.hid (box_blk hF6 HB1e.out (HNE.out _ (by omega)))
        have HB2g := Lib.hid (box_blk hF6 HB2e.out (HNE.out _ (by omega)))
        have HB3g := Lib.hid (box_blk hF6 HB3e.out (HNE.out _ (by omega)))
        have HFg := Lib.hid (HFe.out.trans hF6)
        have b3 := HB3g.out.eight
        have f3 := HB3g.out.frozen
        clear hG6 hF6
        go_upto_region 21 with (fail)
        have HB1h := Lib.hid (HB1g.out.far (p := ⟨w.heap.size + 2 + 1, 3, none⟩) (by simp only; omega) (.int .i64 1))
        have HB2h := Lib.hid (HB2g.out.far (p := ⟨w.heap.size + 2 + 1, 3, none⟩) (by simp only; omega) (.int .i64 1))
        have HB3h : Hid (Blk (w6.setCell ⟨w.heap.size + 2 + 1, 3, none⟩ (.int .i64 1)) (w.heap.size + 2 + 1) 38 #[.int .i64 4, .int .i64 1, .int .i64 (-1), .int .i64 1, .int .i64 0, .slice none 0 0, .bool false, .slice (some ⟨w.heap.size + 2, 0, none⟩) 1 1]) := Lib.hid (HB3g.out.set_ 3 (.int .i64 1))
        have HFh := Lib.hid (HFg.out.set_ (q := ⟨w.heap.size + 2 + 1, 3, none⟩) (.inr (by simp only; omega)) (.int .i64 1))
        have HG7 : Hid (Gd E (w6.setCell ⟨w.heap.size + 2 + 1, 3, none⟩ (.int .i64 1)) ((σ.adv 1).adv 1) d rv I6 refs) := Lib.hid ⟨HG6.out.sv.far (HNE.out _ (by omega)) _, HG6.out.pos, HG6.out.refl, HG6.out.same, HG6.out.deep, HG6.out.le, HG6.out.rl⟩
        clear b3 f3
        generalize w6.setCell ⟨w.heap.size + 2 + 1, 3, none⟩ (.int .i64 1) = w7 at *
        have b3 := HB3h.out.eight
        have hz := HB1h.out.eight
        have hfz := HB1h.out.frozen
        go_wp2
        exact ret_q1 rfl rfl rfl (st8_blk HB1h.out) (rep_ok HN.out hb hbw hbx (by omega) (HNE.out _ (by omega)) (by omega) (HNE.out _ (by omega)).2.2.2 HFh.out HG7.out HB2h.out)
      have HI := Lib.hid (is_gd [63] (by simp) (by simp) HGx.out false (by rw [p63]; exact decide_eq_false m63))
      go_wp2_with fail
      refine HI.out.mono ?_
      rintro e w6 ⟨rfl, hF6, I6, hG6⟩
      simp only [Bool.false_eq_true, if_false] at hG6
      have HG6 := Lib.hid hG6
      have HB1g := Lib.hid (box_blk hF6 HB1e.out (HNE.out _ (by omega)))
      have HB2g := Lib.hid (box_blk hF6 HB2e.out (HNE.out _ (by omega)))
      have HB3g := Lib.hid (box_blk hF6 HB3e.out (HNE.out _ (by omega)))
      have HFg := Lib.hid (HFe.out.trans hF6)
      clear hG6 hF6
      by_cases m43 : at_ (σ.adv 1).t 0 = 43
      · have HI2 := Lib.hid (is_gd [43] (by simp) (by simp) HG6.out true (by rw [p43]; exact decide_eq_true m43))
        obtain rfl : r = .ok (repN 1 (-1) 2 a, (σ.adv 1).adv 1) := by rw [HR.out]; simp [behindMode, modeOf, m43]
        clear p63 p43
        go_wp2_with fail
        refine HI2.out.mono ?_
        rintro e w6b ⟨rfl, hF6, I6b, hG6b⟩
        simp only [if_true, List.length_cons, List.length_nil, Nat.zero_add] at hG6b
        have HG6b := Lib.hid hG6b
        have HB1k := Lib.hid (box_blk hF6 HB1g.out (HNE.out _ (by omega)))
        have HB2k := Lib.hid (box_blk hF6 HB2g.out (HNE.out _ (by omega)))
        have HB3k := Lib.hid (box_blk hF6 HB3g.out (HNE.out _ (by omega)))
        have HFk := Lib.hid (HFg.out.trans hF6)
        have b3 := HB3k.out.eight
        have f3 := HB3k.out.frozen
        clear hG6b hF6
        go_upto_region 21 with (fail)
        have HB1h := Lib.hid (HB1k.out.far (p := ⟨w.heap.size + 2 + 1, 3, none⟩) (by simp only; omega) (.int .i64 2))
        have HB2h := Lib.hid (HB2k.out.far (p := ⟨w.heap.size + 2 + 1, 3, none⟩) (by simp only; omega) (.int .i64 2))
        have HB3h : Hid (Blk (w6b.setCell ⟨w.heap.size + 2 + 1, 3, none⟩ (.int .i64 2)) (w.heap.size + 2 + 1) 38 #[.int .i64 4, .int .i64 1, .int .i64 (-1), .int .i64 2, .int .i64 0, .slice none 0 0, .bool false, .slice (some ⟨w.heap.size + 2, 0, none⟩) 1 1]) := Lib.hid (HB3k.out.set_ 3 (.int .i64 2))
        have HFh := Lib.hid (HFk.out.set_ (q := ⟨w.heap.size + 2 + 1, 3, none⟩) (.inr (by simp only; omega)) (.int .i64 2))
        have HG7 : Hid (Gd E (w6b.setCell ⟨w.heap.size + 2 + 1, 3, none⟩ (.int .i64 2)) ((σ.adv 1).adv 1) d rv I6b refs) := Lib.hid ⟨HG6b.out.sv.far (HNE.out _ (by omega)) _, HG6b.out.pos, HG6b.out.refl, HG6b.out.same, HG6b.out.deep, HG6b.out.le, HG6b.out.rl⟩
        clear b3 f3
        generalize w6b.setCell ⟨w.heap.size + 2 + 1, 3, none⟩ (.int .i64 2) = w7 at *
        have b3 := HB3h.out.eight
        have hz := HB1h.out.eight
        have hfz := HB1h.out.frozen
        go_wp2
        exact ret_q1 rfl rfl rfl (st8_blk HB1h.out) (rep_ok HN.out hb hbw hbx (by omega) (HNE.out _ (by omega)) (by omega) (HNE.out _ (by omega)).2.2.2 HFh.out HG7.out HB2h.out)
      have HI2 := Lib.hid (is_gd [43] (by simp) (by simp) HG6.out false (by rw [p43]; exact decide_eq_false m43))
      obtain rfl : r = .ok (repN 1 (-1) 0 a, (σ.adv 1)) := by rw [HR.out]; simp [behindMode, modeOf, m63, m43]
      clear p63 p43
      go_wp2_with fail
      refine HI2.out.mono ?_
      rintro e w6b ⟨rfl, hF6, I6b, hG6b⟩
      simp only [Bool.false_eq_true, if_false] at hG6b
      have HB1k := Lib.hid (box_blk hF6 HB1g.out (HNE.out _ (by omega)))
      have HB2k := Lib.hid (box_blk hF6 HB2g.out (HNE.out _ (by omega)))
      have HB3k := Lib.hid (box_blk hF6 HB3g.out (HNE.out _ (by omega)))
      have HFk := Lib.hid (HFg.out.trans hF6)
      have b3 := HB3k.out.eight
      have hz := HB1k.out.eight
      have hfz := HB1k.out.frozen
      go_wp2
      exact ret_q1 rfl rfl rfl (st8_blk HB1k.out) (rep_ok HN.out hb hbw hbx (by omega) (HNE.out _ (by omega)) (by omega) (HNE.out _ (by omega)).2.2.2 HFk.out hG6b HB2k.out)
  rcases hq with rfl | hq
  · have ht : times σ = some ((0, 1), σ.adv 1) := by
      have : at_ σ.t 0 = 63 := HA.out
      unfold times
      simp [this]
    have HR2 := Lib.hid (show r = if may then .ok (repN 0 1 (modeOf (σ.adv 1).t) a, behindMode (σ.adv 1)) else .error (23, σ.pos) by rw [HR1.out, ht])
    clear ht HA HV HR1
    go_upto_region 7 with (fail)
    clear c2 f2
    generalize w3.setCell ⟨E.rb, 2, none⟩ (.int .i64 ((I : Int) + 1)) = w4 at *
    have b3 := HB3d.out.eight
    have f3 := HB3d.out.frozen
    go_upto_region 14 with (fail)
    clear b3 f3
    have HB1e := Lib.hid (HB1d.out.far (p := ⟨w.heap.size + 2 + 1, 2, none⟩) (by simp only; omega) (.int .i64 1))
    have HB2e := Lib.hid (HB2d.out.far (p := ⟨w.heap.size + 2 + 1, 2, none⟩) (by simp only; omega) (.int .i64 1))
    have HB3e : Hid (Blk (w4.setCell ⟨w.heap.size + 2 + 1, 2, none⟩ (.int .i64 1)) (w.heap.size + 2 + 1) 38 #[.int .i64 4, .int .i64 0, .int .i64 1, .int .i64 0, .int .i64 0, .slice none 0 0, .bool false, .slice (some ⟨w.heap.size + 2, 0, none⟩) 1 1]) := Lib.hid (HB3d.out.set_ 2 (.int .i64 1))
    have HFe := Lib.hid (HFd.out.set_ (q := ⟨w.heap.size + 2 + 1, 2, none⟩) (.inr (by simp only; omega)) (.int .i64 1))
    have HGe : Hid (Gd E (w4.setCell ⟨w.heap.size + 2 + 1, 2, none⟩ (.int .i64 1)) (σ.adv 1) d rv (I + 1) refs) := Lib.hid ⟨HGd.out.sv.far (HNE.out _ (by omega)) _, HGd.out.pos, HGd.out.refl, HGd.out.same, HGd.out.deep, HGd.out.le, HGd.out.rl⟩
    clear HB1d HB2d HB3d HFd HGd hszd
    generalize w4.setCell ⟨w.heap.size + 2 + 1, 2, none⟩ (.int .i64 1) = w5 at *
    cases may with
    | false =>
      obtain rfl : r = .error (23, σ.pos) := HR2.out
      have HFl := Lib.hid (fail_gd (σ0 := σ) (I0 := I) 23 (by omega) HG.out.atI HGe.out.sv)
      go_wp2_with fail
      refine HFl.out.mono ?_
      rintro e w8 ⟨rfl, hF8, hB8⟩
      have HB1f := Lib.hid (box_blk hF8 HB1e.out (HNE.out _ (by omega)))
      have HB2f := Lib.hid (box_blk hF8 HB2e.out (HNE.out _ (by omega)))
      have HB3f := Lib.hid (box_blk hF8 HB3e.out (HNE.out _ (by omega)))
      have HFf := Lib.hid (HFe.out.trans hF8)
      have b3 := HB3f.out.eight
      have hz := HB1f.out.eight
      have hfz := HB1f.out.frozen
      go_wp2
      exact ret_q1 rfl rfl rfl (st8_blk HB1f.out) (rep_no (by omega) (HNE.out _ (by omega)) ⟨4, 0, 1, 0, 0, none, _, 0, 0, 1, 1, false, rfl⟩ HFf.out hB8)
    | true =>
      have HR := Lib.hid (show r = .ok (repN 0 1 (modeOf (σ.adv 1).t) a, behindMode (σ.adv 1)) from HR2.out)
      clear HR2
      have HGx := Lib.hid (HGe.out)
      have p63 := pre_iff (c := 63) (t := (σ.adv 1).t) (by decide)
      have p43 := pre_iff (c := 43) (t := (σ.adv 1).t) (by decide)
      by_cases m63 : at_ (σ.adv 1).t 0 = 63
      · have HI := Lib.hid (is_gd [63] (by simp) (by simp) HGx.out true (by rw [p63]; exact decide_eq_true m63))
        obtain rfl : r = .ok (repN 0 1 1 a, (σ.adv 1).adv 1) := by rw [HR.out]; simp [behindMode, modeOf, m63]
        clear p63 p43
        go_wp2_with fail
        refine HI.out.mono ?_
        rintro e w6 ⟨rfl, hF6, I6, hG6⟩
        simp only [if_true, List.length_cons, List.length_nil, Nat.zero_add] at hG6
        have HG6 := Lib.hid hG6
        have HB1g := Lib.hid (box_blk hF6 HB1e.out (HNE.out _ (by omega)))
        have HB2g := Lib.hid (box_blk hF6 HB2e.out (HNE.out _ (by omega)))
        have HB3g := Lib.hid (box_blk hF6 HB3e.out (HNE.out _ (by omega)))
        have HFg := Lib.hid (HFe.out.trans hF6)
        have b3 := HB3g.out.eight
        have f3 := HB3g.out.frozen
        clear hG6 hF6
        go_upto_region 21 with (fail)
        have HB1h := Lib.hid (HB1g.out.far (p := ⟨w.heap.size + 2 + 1, 3, none⟩) (by simp only; omega) (.int .i64 1))
        have HB2h := Lib.hid (HB2g.out.far (p := ⟨w.heap.size + 2 + 1, 3, none⟩) (by simp only; omega) (.int .i64 1))
        have HB3h : Hid (Blk (w6.setCell ⟨w.heap.size + 2 + 1, 3, none⟩ (.int .i64 1)) (w.heap.size + 2 + 1) 38 #[.int .i64 4, .int .i64 0, .int .i64 1, .int .i64 1, .int .i64 0, .slice none 0 0, .bool false, .slice (some ⟨w.heap.size + 2, 0, none⟩) 1 1]) := Lib.hid (HB3g.out.set_ 3 (.int .i64 1))
        have HFh := Lib.hid (HFg.out.set_ (q := ⟨w.heap.size + 2 + 1, 3, none⟩) (.inr (by simp only; omega)) (.int .i64 1))
        have HG7 : Hid (Gd E (w6.setCell ⟨w.heap.size + 2 + 1, 3, none⟩ (.int .i64 1)) ((σ.adv 1).adv 1) d rv I6 refs) := Lib.hid ⟨HG6.out.sv.far (HNE.out _ (by omega)) _, HG6.out.pos, HG6.out.refl, HG6.out.same, HG6.out.deep, HG6.out.le, HG6.out.rl⟩
        clear b3 f3
        generalize w6.setCell ⟨w.heap.size + 2 + 1, 3, none⟩ (.int .i64 1) = w7 at *
        have b3 := HB3h.out.eight
        have hz := HB1h.out.eight
        have hfz := HB1h.out.frozen
        go_wp2
        exact ret_q1 rfl rfl rfl (st8_blk HB1h.out) (rep_ok HN.out hb hbw hbx (by omega) (HNE.out _ (by omega)) (by omega) (HNE.out _ (by omega)).2.2.2 HFh.out HG7.out HB2h.out)
      have HI := Lib.hid (is_gd [63] (by simp) (by simp) HGx.out false (by rw [p63]; exact decide_eq_false m63))
      go_wp2_with fail
      refine HI.out.mono ?_
      rintro e w6 ⟨rfl, hF6, I6, hG6⟩
      simp only [Bool.false_eq_true, if_false] at hG6
      have HG6 := Lib.hid hG6
      have HB1g := Lib.hid (box_blk hF6 HB1e.out (HNE.out _ (by omega)))
      have HB2g := Lib.hid (box_blk hF6 HB2e.out (HNE.out _ (by omega)))
      have HB3g := Lib.hid (box_blk hF6 HB3e.out (HNE.out _ (by omega)))
      have HFg := Lib.hid (HFe.out.trans hF6)
      clear hG6 hF6
      by_cases m43 : at_ (σ.adv 1).t 0 = 43
      · have HI2 := Lib.hid (is_gd [43] (by simp) (by simp) HG6.out true (by rw [p43]; exact decide_eq_true m43))
        obtain rfl : r = .ok (repN 0 1 2 a, (σ.adv 1).adv 1) := by rw [HR.out]; simp [behindMode, modeOf, m43]
        clear p63 p43
        go_wp2_with fail
        refine HI2.out.mono ?_
        rintro e w6b ⟨rfl, hF6, I6b, hG6b⟩
        simp only [if_true, List.length_cons, List.length_nil, Nat.zero_add] at hG6b
        have HG6b := Lib.hid hG6b
        have HB1k := Lib.hid (box_blk hF6 HB1g.out (HNE.out _ (by omega)))
        have HB2k := Lib.hid (box_blk hF6 HB2g.out (HNE.out _ (by omega)))
        have HB3k := Lib.hid (box_blk hF6 HB3g.out (HNE.out _ (by omega)))
        have HFk := Lib.hid (HFg.out.trans hF6)
        have b3 := HB3k.out.eight
        have f3 := HB3k.out.frozen
        clear hG6b hF6
        go_upto_region 21 with (fail)
        have HB1h := Lib.hid (HB1k.out.far (p := ⟨w.heap.size + 2 + 1, 3, none⟩) (by simp only; omega) (.int .i64 2))
        have HB2h := Lib.hid (HB2k.out.far (p := ⟨w.heap.size + 2 + 1, 3, none⟩) (by simp only; omega) (.int .i64 2))
        have HB3h : Hid (Blk (w6b.setCell ⟨w.heap.size + 2 + 1, 3, none⟩ (.int .i64 2)) (w.heap.size + 2 + 1) 38 #[.int .i64 4, .int .i64 0, .int .i64 1, .int .i64 2, .int .i64 0, .slice none 0 0, .bool false, .slice (some ⟨w.heap.size + 2, 0, none⟩) 1 1]) := Lib.hid (HB3k.out.set_ 3 (.int .i64 2))
        have HFh := Lib.hid (HFk.out.set_ (q := ⟨w.heap.size + 2 + 1, 3, none⟩) (.inr (by simp only; omega)) (.int .i64 2))
        have HG7 : Hid (Gd E (w6b.setCell ⟨w.heap.size + 2 + 1, 3, none⟩ (.int .i64 2)) ((σ.adv 1).adv 1) d rv I6b refs) := Lib.hid ⟨HG6b.out.sv.far (HNE.out _ (by omega)) _, HG6b.out.pos, HG6b.out.refl, HG6b.out.same, HG6b.out.deep, HG6b.out.le, HG6b.out.rl⟩
        clear b3 f3
        generalize w6b.setCell ⟨w.heap.size + 2 + 1, 3, none⟩ (.int .i64 2) = w7 at *
        have b3 := HB3h.out.eight
        have hz := HB1h.out.eight
        have hfz := HB1h.out.frozen
        go_wp2
        exact ret_q1 rfl rfl rfl (st8_blk HB1h.out) (rep_ok HN.out hb hbw hbx (by omega) (HNE.out _ (by omega)) (by omega) (HNE.out _ (by omega)).2.2.2 HFh.out HG7.out HB2h.out)
      have HI2 := Lib.hid (is_gd [43] (by simp) (by simp) HG6.out false (by rw [p43]; exact decide_eq_false m43))
      obtain rfl : r = .ok (repN 0 1 0 a, (σ.adv 1)) := by rw [HR.out]; simp [behindMode, modeOf, m63, m43]
      clear p63 p43
      go_wp2_with fail
      refine HI2.out.mono ?_
      rintro e w6b ⟨rfl, hF6, I6b, hG6b⟩
      simp only [Bool.false_eq_true, if_false] at hG6b
      have HB1k := Lib.hid (box_blk hF6 HB1g.out (HNE.out _ (by omega)))
      have HB2k := Lib.hid (box_blk hF6 HB2g.out (HNE.out _ (by omega)))
      have HB3k := Lib.hid (box_blk hF6 HB3g.out (HNE.out _ (by omega)))
      have HFk := Lib.hid (HFg.out.trans hF6)
      have b3 := HB3k.out.eight
      have hz := HB1k.out.eight
      have hfz := HB1k.out.frozen
      go_wp2
      exact ret_q1 rfl rfl rfl (st8_blk HB1k.out) (rep_ok HN.out hb hbw hbx (by omega) (HNE.out _ (by omega)) (by omega) (HNE.out _ (by omega)).2.2.2 HFk.out hG6b HB2k.out)
  obtain rfl := hq
  have HR2 : Hid (r = if may then (match braces σ with | none => .error (23, σ.pos) | some x => .ok (repN x.1.1 x.1.2 (modeOf x.2.t) a, behindMode x.2)) else .error (23, σ.pos)) := Lib.hid (by
    have : at_ σ.t 0 = 123 := HA.out
    rw [HR1.out]
    unfold times
    simp [this])
  clear HA HV HR1
  go_upto_region 7 with (fail)
  clear c2 f2
  generalize w3.setCell ⟨E.rb, 2, none⟩ (.int .i64 ((I : Int) + 1)) = w4 at *
  have HBr := Lib.hid (qbraces_any HGd.out)
  go_wp2_with fail
  refine HBr.out.mono ?_
  intro e w5 hp5
  cases hbs : braces σ with
  | none =>
    rw [hbs] at hp5
    obtain ⟨l1, l2, I5, rfl, hF5, hS5⟩ := hp5
    obtain rfl : r = .error (23, σ.pos) := by rw [HR2.out, hbs]; cases may <;> rfl
    have HS5 := Lib.hid hS5
    clear HBr hbs
    have HB1e := Lib.hid (box_blk hF5 HB1d.out (HNE.out _ (by omega)))
    have HB2e := Lib.hid (box_blk hF5 HB2d.out (HNE.out _ (by omega)))
    have HB3e := Lib.hid (box_blk hF5 HB3d.out (HNE.out _ (by omega)))
    have HFe := Lib.hid (HFd.out.trans hF5)
    have b3 := HB3e.out.eight
    have f3 := HB3e.out.frozen
    clear hF5 HB1d HB2d HB3d HFd HGd hszd HR2
    go_upto_region 14 with (fail)
    clear b3 f3
    have HB1g := Lib.hid ((HB1e.out.far (p := ⟨w.heap.size + 2 + 1, 1, none⟩) (by simp only; omega) (.int .i64 l1)).far (p := ⟨w.heap.size + 2 + 1, 2, none⟩) (by simp only; omega) (.int .i64 l2))
    have HB2g := Lib.hid ((HB2e.out.far (p := ⟨w.heap.size + 2 + 1, 1, none⟩) (by simp only; omega) (.int .i64 l1)).far (p := ⟨w.heap.size + 2 + 1, 2, none⟩) (by simp only; omega) (.int .i64 l2))
    have HB3g : Hid (Blk ((w5.setCell ⟨w.heap.size + 2 + 1, 1, none⟩ (.int .i64 l1)).setCell ⟨w.heap.size + 2 + 1, 2, none⟩ (.int .i64 l2)) (w.heap.size + 2 + 1) 38 #[.int .i64 4, .int .i64 l1, .int .i64 l2, .int .i64 0, .int .i64 0, .slice none 0 0, .bool false, .slice (some ⟨w.heap.size + 2, 0, none⟩) 1 1]) := Lib.hid ((HB3e.out.set_ 1 (.int .i64 l1)).set_ 2 (.int .i64 l2))
    have HFg := Lib.hid ((HFe.out.set_ (q := ⟨w.heap.size + 2 + 1, 1, none⟩) (.inr (by simp only; omega)) (.int .i64 l1)).set_ (q := ⟨w.heap.size + 2 + 1, 2, none⟩) (.inr (by simp only; omega)) (.int .i64 l2))
    have HSg := Lib.hid ((HS5.out.far (b := w.heap.size + 2 + 1) (o := 1) (HNE.out _ (by omega)) (.int .i64 l1)).far (b := w.heap.size + 2 + 1) (o := 2) (HNE.out _ (by omega)) (.int .i64 l2))
    clear HB1e HB2e HB3e HFe HS5
    generalize (w5.setCell ⟨w.heap.size + 2 + 1, 1, none⟩ (.int .i64 l1)).setCell ⟨w.heap.size + 2 + 1, 2, none⟩ (.int .i64 l2) = w6 at *
    have HFl := Lib.hid (fail_gd (σ0 := σ) (I0 := I) 23 (by omega) HG.out.atI HSg.out)
    go_wp2_with fail
    refine HFl.out.mono ?_
    rintro e w8 ⟨rfl, hF8, hB8⟩
    have HB1f := Lib.hid (box_blk hF8 HB1g.out (HNE.out _ (by omega)))
    have HB2f := Lib.hid (box_blk hF8 HB2g.out (HNE.out _ (by omega)))
    have HB3f := Lib.hid (box_blk hF8 HB3g.out (HNE.out _ (by omega)))
    have HFf := Lib.hid (HFg.out.trans hF8)
    have b3 := HB3f.out.eight
    have hz := HB1f.out.eight
    have hfz := HB1f.out.frozen
    go_wp2
    exact ret_q1 rfl rfl rfl (st8_blk HB1f.out) (rep_no (by omega) (HNE.out _ (by omega)) ⟨4, l1, l2, 0, 0, none, _, 0, 0, 1, 1, false, rfl⟩ HFf.out hB8)
  | some x =>
    rw [hbs] at hp5
    obtain ⟨⟨l1, l2⟩, σ2⟩ := x
    obtain ⟨rfl, hF5, I5, hG5⟩ := hp5
    have HG5 := Lib.hid hG5
    have HR3 := Lib.hid (show r = if may then .ok (repN l1 l2 (modeOf σ2.t) a, behindMode σ2) else .error (23, σ.pos) by rw [HR2.out, hbs])
    simp only at HG5
    clear HBr hbs hG5
    have HB1e := Lib.hid (box_blk hF5 HB1d.out (HNE.out _ (by omega)))
    have HB2e := Lib.hid (box_blk hF5 HB2d.out (HNE.out _ (by omega)))
    have HB3e := Lib.hid (box_blk hF5 HB3d.out (HNE.out _ (by omega)))
    have HFe := Lib.hid (HFd.out.trans hF5)
    have b3 := HB3e.out.eight
    have f3 := HB3e.out.frozen
    clear hF5 HB1d HB2d HB3d HFd HGd hszd HR2
    go_upto_region 14 with (fail)
    clear b3 f3
    have HB1g := Lib.hid ((HB1e.out.far (p := ⟨w.heap.size + 2 + 1, 1, none⟩) (by simp only; omega) (.int .i64 l1)).far (p := ⟨w.heap.size + 2 + 1, 2, none⟩) (by simp only; omega) (.int .i64 l2))
    have HB2g := Lib.hid ((HB2e.out.far (p := ⟨w.heap.size + 2 + 1, 1, none⟩) (by simp only; omega) (.int .i64 l1)).far (p := ⟨w.heap.size + 2 + 1, 2, none⟩) (by simp only; omega) (.int .i64 l2))
    have HB3g : Hid (Blk ((w5.setCell ⟨w.heap.size + 2 + 1, 1, none⟩ (.int .i64 l1)).setCell ⟨w.heap.size + 2 + 1, 2, none⟩ (.int .i64 l2)) (w.heap.size + 2 + 1) 38 #[.int .i64 4, .int .i64 l1, .int .i64 l2, .int .i64 0, .int .i64 0, .slice none 0 0, .bool false, .slice (some ⟨w.heap.size + 2, 0, none⟩) 1 1]) := Lib.hid ((HB3e.out.set_ 1 (.int .i64 l1)).set_ 2 (.int .i64 l2))
    have HFg := Lib.hid ((HFe.out.set_ (q := ⟨w.heap.size + 2 + 1, 1, none⟩) (.inr (by simp only; omega)) (.int .i64 l1)).set_ (q := ⟨w.heap.size + 2 + 1, 2, none⟩) (.inr (by simp only; omega)) (.int .i64 l2))
    have HGg : Hid (Gd E _ σ2 d rv I5 refs) := Lib.hid ⟨(HG5.out.sv.far (b := w.heap.size + 2 + 1) (o := 1) (HNE.out _ (by omega)) (.int .i64 l1)).far (b := w.heap.size + 2 + 1) (o := 2) (HNE.out _ (by omega)) (.int .i64 l2), HG5.out.pos, HG5.out.refl, HG5.out.same, HG5.out.deep, HG5.out.le, HG5.out.rl⟩
    clear HB1e HB2e HB3e HFe HG5
    generalize (w5.setCell ⟨w.heap.size + 2 + 1, 1, none⟩ (.int .i64 l1)).setCell ⟨w.heap.size + 2 + 1, 2, none⟩ (.int .i64 l2) = w9 at *
    cases may with
    | false =>
      obtain rfl : r = .error (23, σ.pos) := HR3.out
      have HFl := Lib.hid (fail_gd (σ0 := σ) (I0 := I) 23 (by omega) HG.out.atI HGg.out.sv)
      go_wp2_with fail
      refine HFl.out.mono ?_
      rintro e w8 ⟨rfl, hF8, hB8⟩
      have HB1f := Lib.hid (box_blk hF8 HB1g.out (HNE.out _ (by omega)))
      have HB2f := Lib.hid (box_blk hF8 HB2g.out (HNE.out _ (by omega)))
      have HB3f := Lib.hid (box_blk hF8 HB3g.out (HNE.out _ (by omega)))
      have HFf := Lib.hid (HFg.out.trans hF8)
      have b3 := HB3f.out.eight
      have hz := HB1f.out.eight
      have hfz := HB1f.out.frozen
      go_wp2
      exact ret_q1 rfl rfl rfl (st8_blk HB1f.out) (rep_no (by omega) (HNE.out _ (by omega)) ⟨4, l1, l2, 0, 0, none, _, 0, 0, 1, 1, false, rfl⟩ HFf.out hB8)
    | true =>
      have HR := Lib.hid (show r = .ok (repN l1 l2 (modeOf σ2.t) a, behindMode σ2) from HR3.out)
      clear HR3
      have HB1m := HB1g
      have HB2m := HB2g
      have HB3m := HB3g
      have HFm := HFg
      clear HB1g HB2g HB3g HFg
      have HGx := Lib.hid (HGg.out)
      have p63 := pre_iff (c := 63) (t := σ2.t) (by decide)
      have p43 := pre_iff (c := 43) (t := σ2.t) (by decide)
      by_cases m63 : at_ σ2.t 0 = 63
      · have HI := Lib.hid (is_gd [63] (by simp) (by simp) HGx.out true (by rw [p63]; exact decide_eq_true m63))
        obtain rfl : r = .ok (repN l1 l2 1 a, σ2.adv 1) := by rw [HR.out]; simp [behindMode, modeOf, m63]
        clear p63 p43
        go_wp2_with fail
        refine HI.out.mono ?_
        rintro e w6 ⟨rfl, hF6, I6, hG6⟩
        simp only [if_true, List.length_cons, List.length_nil, Nat.zero_add] at hG6
        have HG6 := Lib.hid hG6
        have HB1g := Lib.hid (box_blk hF6 HB1m.out (HNE.out _ (by omega)))
        have HB2g := Lib.hid (box_blk hF6 HB2m.out (HNE.out _ (by omega)))
        have HB3g := Lib.hid (box_blk hF6 HB3m.out (HNE.out _ (by omega)))
        have HFg := Lib.hid (HFm.out.trans hF6)
        have b3 := HB3g.out.eight
        have f3 := HB3g.out.frozen
        clear hG6 hF6
        go_upto_region 21 with (fail)
        have HB1h := Lib.hid (HB1g.out.far (p := ⟨w.heap.size + 2 + 1, 3, none⟩) (by simp only; omega) (.int .i64 1))
        have HB2h := Lib.hid (HB2g.out.far (p := ⟨w.heap.size + 2 + 1, 3, none⟩) (by simp only; omega) (.int .i64 1))
        have HB3h : Hid (Blk (w6.setCell ⟨w.heap.size + 2 + 1, 3, none⟩ (.int .i64 1)) (w.heap.size + 2 + 1) 38 #[.int .i64 4, .int .i64 l1, .int .i64 l2, .int .i64 1, .int .i64 0, .slice none 0 0, .bool false, .slice (some ⟨w.heap.size + 2, 0, none⟩) 1 1]) := Lib.hid (HB3g.out.set_ 3 (.int .i64 1))
        have HFh := Lib.hid (HFg.out.set_ (q := ⟨w.heap.size + 2 + 1, 3, none⟩) (.inr (by simp only; omega)) (.int .i64 1))
        have HG7 : Hid (Gd E (w6.setCell ⟨w.heap.size + 2 + 1, 3, none⟩ (.int .i64 1)) (σ2.adv 1) d rv I6 refs) := Lib.hid ⟨HG6.out.sv.far (HNE.out _ (by omega)) _, HG6.out.pos, HG6.out.refl, HG6.out.same, HG6.out.deep, HG6.out.le, HG6.out.rl⟩
        clear b3 f3
        generalize w6.setCell ⟨w.heap.size + 2 + 1, 3, none⟩ (.int .i64 1) = w7 at *
        have b3 := HB3h.out.eight
        have hz := HB1h.out.eight
        have hfz := HB1h.out.frozen
        go_wp2
        exact ret_q1 rfl rfl rfl (st8_blk HB1h.out) (rep_ok HN.out hb hbw hbx (by omega) (HNE.out _ (by omega)) (by omega) (HNE.out _ (by omega)).2.2.2 HFh.out HG7.out HB2h.out)
      have HI := Lib.hid (is_gd [63] (by simp) (by simp) HGx.out false (by rw [p63]; exact decide_eq_false m63))
      go_wp2_with fail
      refine HI.out.mono ?_
      rintro e w6 ⟨rfl, hF6, I6, hG6⟩
      simp only [Bool.false_eq_true, if_false] at hG6
      have HG6 := Lib.hid hG6
      have HB1g := Lib.hid (box_blk hF6 HB1m.out (HNE.out _ (by omega)))
      have HB2g := Lib.hid (box_blk hF6 HB2m.out (HNE.out _ (by omega)))
      have HB3g := Lib.hid (box_blk hF6 HB3m.out (HNE.out _ (by omega)))
      have HFg := Lib.hid (HFm.out.trans hF6)
      clear hG6 hF6
      by_cases m43 : at_ σ2.t 0 = 43
      · have HI2 := Lib.hid (is_gd [43] (by simp) (by simp) HG6.out true (by rw [p43]; exact decide_eq_true m43))
        obtain rfl : r = .ok (repN l1 l2 2 a, σ2.adv 1) := by rw [HR.out]; simp [behindMode, modeOf, m43]
        clear p63 p43
        go_wp2_with fail
        refine HI2.out.mono ?_
        rintro e w6b ⟨rfl, hF6, I6b, hG6b⟩
        simp only [if_true, List.length_cons, List.length_nil, Nat.zero_add] at hG6b
        have HG6b := Lib.hid hG6b
        have HB1k := Lib.hid (box_blk hF6 HB1g.out (HNE.out _ (by omega)))
        have HB2k := Lib.hid (box_blk hF6 HB2g.out (HNE.out _ (by omega)))
        have HB3k := Lib.hid (box_blk hF6 HB3g.out (HNE.out _ (by omega)))
        have HFk := Lib.hid (HFg.out.trans hF6)
        have b3 := HB3k.out.eight
        have f3 := HB3k.out.frozen
        clear hG6b hF6
        go_upto_region 21 with (fail)
        have HB1h := Lib.hid (HB1k.out.far (p := ⟨w.heap.size + 2 + 1, 3, none⟩) (by simp only; omega) (.int .i64 2))
        have HB2h := Lib.hid (HB2k.out.far (p := ⟨w.heap.size + 2 + 1, 3, none⟩) (by simp only; omega) (.int .i64 2))
        have HB3h : Hid (Blk (w6b.setCell ⟨w.heap.size + 2 + 1, 3, none⟩ (.int .i64 2)) (w.heap.size + 2 + 1) 38 #[.int .i64 4, .int .i64 l1, .int .i64 l2, .int .i64 2, .int .i64 0, .slice none 0 0, .bool false, .slice (some ⟨w.heap.size + 2, 0, none⟩) 1 1]) := Lib.hid (HB3k.out.set_ 3 (.int .i64 2))
        have HFh := Lib.hid (HFk.out.set_ (q := ⟨w.heap.size + 2 + 1, 3, none⟩) (.inr (by simp only; omega)) (.int .i64 2))
        have HG7 : Hid (Gd E (w6b.setCell ⟨w.heap.size + 2 + 1, 3, none⟩ (.int .i64 2)) (σ2.adv 1) d rv I6b refs) := Lib.hid ⟨HG6b.out.sv.far (HNE.out _ (by omega)) _, HG6b.out.pos, HG6b.out.refl, HG6b.out.same, HG6b.out.deep, HG6b.out.le, HG6b.out.rl⟩
        clear b3 f3
        generalize w6b.setCell ⟨w.heap.size + 2 + 1, 3, none⟩ (.int .i64 2) = w7 at *
        have b3 := HB3h.out.eight
        have hz := HB1h.out.eight
        have hfz := HB1h.out.frozen
        go_wp2
        exact ret_q1 rfl rfl rfl (st8_blk HB1h.out) (rep_ok HN.out hb hbw hbx (by omega) (HNE.out _ (by omega)) (by omega) (HNE.out _ (by omega)).2.2.2 HFh.out HG7.out HB2h.out)
      have HI2 := Lib.hid (is_gd [43] (by simp) (by simp) HG6.out false (by rw [p43]; exact decide_eq_false m43))
      obtain rfl : r = .ok (repN l1 l2 0 a, σ2) := by rw [HR.out]; simp [behindMode, modeOf, m63, m43]
      clear p63 p43
      go_wp2_with fail
      refine HI2.out.mono ?_
      rintro e w6b ⟨rfl, hF6, I6b, hG6b⟩
      simp only [Bool.false_eq_true, if_false] at hG6b
      have HB1k := Lib.hid (box_blk hF6 HB1g.out (HNE.out _ (by omega)))
      have HB2k := Lib.hid (box_blk hF6 HB2g.out (HNE.out _ (by omega)))
      have HB3k := Lib.hid (box_blk hF6 HB3g.out (HNE.out _ (by omega)))
      have HFk := Lib.hid (HFg.out.trans hF6)
      have b3 := HB3k.out.eight
      have hz := HB1k.out.eight
      have hfz := HB1k.out.frozen
      go_wp2
      exact ret_q1 rfl rfl rfl (st8_blk HB1k.out) (rep_ok HN.out hb hbw hbx (by omega) (HNE.out _ (by omega)) (by omega) (HNE.out _ (by omega)).2.2.2 HFk.out hG6b HB2k.out)

end Go.Proofs.YtpginkdkblmnbaaGreatDoor
