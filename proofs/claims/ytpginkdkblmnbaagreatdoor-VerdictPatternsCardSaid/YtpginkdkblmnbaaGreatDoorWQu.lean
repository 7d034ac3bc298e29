import Derived.Test.YtpginkdkblmnbaaGreatDoorWQs
import Derived.Deep.RegionHeldLaw
namespace Go.Proofs.YtpginkdkblmnbaaGreatDoor
section
open Go.RowKit
open Go.Proofs.YtpginkdkblmnbaaGreatDoor.Cl (Rg à Ý Ä ò Î Á)
variable {w w' w0 : World} {E : RE} {σ σ1 : St} {I g d c p : Nat} {rv rv' : Value} {refs : List (Nat × Nat)} {f : Flt}
theorem Âl (op : Nat) (neg : Bool) (k : Nat) (acc : List Rg) (σ : St) : Ģ op neg (k + 1) acc σ = (if at_ σ.t 0 = 93 then (if acc.isEmpty then .error (22, op) else .ok (if neg then ò 0 (ť acc) else ť acc, σ.adv 1)) else if σ.t.isEmpty then .error (22, op) else match Ú σ with | .error e => .error e | .ok (l, σ1) => Ģ op neg k (acc ++ l) σ1) := rfl
def Ñv : Except Flt (List Rg × St) → R
 | .error e => .error e
 | .ok (l, σ1) => .ok (Âa l, σ1)
theorem Ís {x : Nd × St} (h : Ğ σ = .ok x) : true = ÈC false x.1 := by
 unfold Ğ at h;split at h
 ·cases h
 ·cases h; rfl
theorem Pos.short (h : Pos E.s σ I) (hl : E.s.length ≤ 256) : σ.t.length ≤ 256 := by
 rw [← h.suf, ċ]; omega
theorem ÁE {σ σ1 : St} {l : List Rg} (h : Ú σ = .ok (l, σ1)) (hn : σ.t ≠ []) : σ1.t.length < σ.t.length := (Áj h hn).1
theorem ÁF {P : Program} {t e : TypeId} (w : World) {ops : Array Oper} {o : Oper} {a : Act} {K : Act → World → Prop} {Q : Exit → Act → World → Prop} {E : Prop} (hgd : o.guard = none) (x y : Operand)
 (ho : o.op = .call { callee := .builtin .append, args := #[x, y], argTypes := #[t, t] }) (i : TypeInfo) (z : Value) (hu : P.underlying t = some (.slice e)) (hi : P.info? e = some i) (hz : i.zero = some z) (hsize : i.size = 2) (hby : i.bytes = 16) (hzc : z.cells.size = 2)
 (base : Nat) (v : Value) (xs : List Rg) (hx : a.eval x = v) (hown : Cl.Own w base e v xs) (n₀ : Nat) (u : Value) (ys : List Rg) (hy : a.eval y = u) (hr : à n₀ w u ys) (h63 : xs.length + ys.length ≤ 1000000) (hbase : base ≤ w.heap.size)
 (h : ∀ v' w', Cl.Own w' base e v' (xs ++ ys) → w.grownBy w' v.ownBlock → K (a.put o.dst v') w') :
 if Region.wanted o (yielded ops a.tmps) = true then Oper.wp P o a w K Q else E := by
 have hw : Region.wanted o (yielded ops a.tmps) = true := by simp [Region.wanted, hgd]
 rw [if_pos hw]
 obtain ⟨v', w', hrun, h2, h3⟩ := Cl.run_append_set (P := P) w base t o.type e i z 16 hu hi hz hsize hby hzc v xs hown n₀ u ys hr (by unfold maxLen; omega) (by omega) hbase
 unfold Oper.wp execOp;simp only [ho, resolve, invoke, builtin, Sem.run_bind, Sem.run_pure, Result.andThen_ok, List.map_toArray, List.map_cons, List.map_nil, hx, hy, hrun];exact h v' w' h2 h3
theorem Ñw {P : Program} {md : Region.Mode} {ops : Array Oper} {Q : Exit → Act → World → Prop} {S : World → Prop} {fuel : Nat} {listed : Array Bool} {a : Act} {w : World} (i d : Nat) {f : FuncId} {args : Array Value} {R : Ending → World → Prop} {o : Oper} (ho : ops[i]? = some o) (hd : o.dst = some d) (hr : Region.ready md ops listed = [i]) (hw : o.guard = none)
 (he : (execOp a.eval o).run P w = .ok (.enter f args) w) (hc : Calls P f args w R)
 (h : ∀ e w', R e w' → ∃ v, e = .returned v ∧ S w' ∧ wpAnyH P md ops Q S fuel (listed.setIfInBounds i true) { tmps := a.tmps.setIfInBounds d v, defers := a.defers } w') : wpAnyH P md ops Q S (fuel + 1) listed a w := by
 refine wpAnyH_ready hr (by simp) (AllReadyH.cons ho (fun K hK => ?_) AllReadyH.nil)
 rw [if_pos (by unfold Region.wanted; rw [hw])]
 unfold Oper.wp;rw [he];refine hc.mono ?_;intro e w' hR;obtain ⟨v, rfl, hS', hh⟩ := h e w' hR
 refine hK.o _ _ hS' (fun _ => ?_)
 rw [hd];exact hh
theorem Ïa {P : Program} {ops : Array Oper} {Q : Exit → Act → World → Prop} {E : Prop} {K : Act → World → Prop} {a : Act} {w : World} {f : FuncId} {args : Array Value} {R : Ending → World → Prop} {o : Oper} (hw : o.guard = none)
 (he : (execOp a.eval o).run P w = .ok (.enter f args) w) (hc : Calls P f args w R) (h : ∀ e w', R e w' → ∃ v, e = .returned v ∧ K (a.put o.dst v) w') : if Region.wanted o (yielded ops a.tmps) = true then Oper.wp P o a w K Q else E := by
 rw [if_pos (by unfold Region.wanted; rw [hw])]
 unfold Oper.wp;rw [he];refine hc.mono ?_;intro e w' hR;obtain ⟨v, rfl, hh⟩ := h e w' hR;exact hh
theorem FrR.grown {w7 : World} {row : Option Nat} (h : FrR E w rv w7 rv') (hg : w7.grownBy w' row) (hr : ∀ k, row = some k → w.heap.size ≤ k) : FrR E w rv w' rv' :=
 ⟨hg.os.trans h.os, hg.tape.trans h.tape, hg.output.trans h.output, ē h.size hg.size, fun i hi h1 h2 => (hg.block i (Ć hi h.size) (fun e => by have := hr i e.symm; omega)).trans (h.block i hi h1 h2), h.row⟩
theorem Gd.kept (h : Gd E w σ d rv I refs) (hk : ∀ i, i < w.heap.size → (i = E.rb ∨ i = E.ub ∨ i = E.ab ∨ rv.ownBlock = some i) → w'.heap[i]? = w.heap[i]?) (hs : w.heap.size ≤ w'.heap.size) : Gd E w' σ d rv I refs :=
 ⟨h.sv.keep hk hs, h.pos, h.refl, h.same, h.deep, h.le, h.rl⟩
theorem Bd.kept (h : Bd E w d rv f) (hk : ∀ i, i < w.heap.size → (i = E.rb ∨ i = E.ub ∨ i = E.ab ∨ rv.ownBlock = some i) → w'.heap[i]? = w.heap[i]?) (hs : w.heap.size ≤ w'.heap.size) : Bd E w' d rv f := by
 obtain ⟨h0, g, refs, h⟩ := h;exact ⟨h0, g, refs, h.keep hk hs⟩
theorem ÈD {P : Program} {md : Region.Mode} {ops : Array Oper} {Q : Exit → Act → World → Prop} {S : World → Prop} {fuel : Nat} {listed : Array Bool} {a : Act} {w : World} (i d : Nat) (v : Value) (oi : Oper) (hi : ops[i]? = some oi) (hd : oi.dst = some d)
 (hs : Region.noSelect ops = true) (hf : Region.free md ops listed i = true) (hr : (Region.ready md ops listed).contains i = true)
 (hQ : ∀ c a w, Q (.panic c) (a.put oi.dst v) w → Q (.panic c) a w) (hy : YieldsIf P ops S oi v a) (hS : S w)
 (h : wpAnyH P md ops Q S fuel (listed.setIfInBounds i true) { tmps := a.tmps.setIfInBounds d v, defers := a.defers } w) : wpAnyH P md ops Q S (fuel + 1) listed a w :=
 wpAnyH_take hi hs hf hr hQ hy hS (by rw [hd]; exact h)
def ClG (E : RE) (d : Nat) (rv : Value) (refs : List (Nat × Nat)) (op : Nat) (ng : Bool) (R : Except Flt (List Rg × St)) (nb j : Nat) (V : Value) (wr : World) : Prop :=
 ∃ (fu : Nat) (acc : List Rg) (σk : St) (Ik : Nat), fu + j = 300 ∧ Ģ op ng fu acc σk = R ∧ σk.t.length < fu ∧ (acc = [] ↔ j = 0) ∧ acc.length ≤ 5 * j ∧ Cl.Own wr (nb + 1) 93 V acc ∧ Gd E wr σk d rv Ik refs
def ClB (E : RE) (d : Nat) (rv : Value) (R : Except Flt (List Rg × St)) (V : Value) (wr : World) : Prop := ∃ f A n c, R = .error f ∧ Bd E wr d rv f ∧ V = .slice A n c
def SpP (E : RE) (d : Nat) (rv : Value) (refs : List (Nat × Nat)) (W : World) (σ : St) (e : Ending) (w' : World) : Prop :=
 ∃ l A n, e = .returned (.slice A l.length n) ∧ l.length ≤ 5 ∧ PV W.heap.size w' (.slice A l.length n) l ∧ FrR E W rv w' rv ∧
  ((∃ σ1 I', Ú σ = .ok (l, σ1) ∧ l ≠ [] ∧ Gd E w' σ1 d rv I' refs) ∨ (∃ f, Bd E w' d rv f ∧ (Ú σ = .error f ∨ ∃ l σ1, Ú σ = .ok (l, σ1) ∧ at_ σ1.t 0 = 45 ∧ f = (22, σ1.pos))))
theorem ÄZ (h : Gd E w σ d rv I refs) (hn : σ.t ≠ []) (h1 : at_ σ.t 0 ≠ 91 ∧ at_ σ.t 0 ≠ 45) : Calls Tryz.prog 130 #[.pointer (some ⟨E.rb, 0, none⟩)] w (SpP E d rv refs w σ) :=
 (ÎR h hn h1).mono fun e w' hp => by
  rcases hp with ⟨l, σ1, b, o, n, I', h1, h2, h3, h4, h5, h6, h7⟩ | ⟨f, l, A, n, h1, h2, h3, h4, h5, h6⟩
  ·exact ⟨l, _, n, h4, h3, h5, h6, .inl ⟨σ1, I', h1, h2, h7⟩⟩
  ·exact ⟨l, A, n, h1, h2, h3, h4, .inr ⟨f, h5, h6⟩⟩
theorem Åa {base : Nat} {V : Value} {l : List Rg} (h : Cl.Own w base 93 V l) (hF : FrR E w rv w' rv') (hb : E.rb < base) (hr : ∀ k, rv.ownBlock = some k → k < base) : Cl.Own w' base 93 V l :=
 Þ h fun i hi => by
  have h1 := World.ownsRow.lt h i hi.symm
  exact hF.block i h1.2 (by omega) (fun e => by have := hr i e; omega)
theorem Ëy {base : Nat} {V : Value} {l : List Rg} (h : Cl.Own w base 93 V l) (hk : ∀ i, base ≤ i → i < w.heap.size → w'.heap[i]? = w.heap[i]?) : Cl.Own w' base 93 V l :=
 Þ h fun i hi => by
  have h1 := World.ownsRow.lt h i hi.symm;exact hk i h1.1 h1.2
theorem ÃC {base : Nat} {V : Value} {l : List Rg} (h : Cl.Own w base 93 V l) : ∃ A c, V = .slice A l.length c := by
 obtain ⟨A, c, hv, _⟩ := h.set;exact ⟨A, c, hv⟩
theorem Ðb {base b' : Nat} {V : Value} {l : List Rg} (h : Cl.Own w base 93 V l) (hb : b' ≤ base) (ho : ∀ k, rv.ownBlock = some k → k < base) : Đ (KQ b' w rv) w V l := ÇH (Ër h) hb ho
set_option maxRecDepth 100000 in
set_option maxHeartbeats 16000000 in
theorem Ít (h : Gd E w0 σ d rv I refs) (h91 : at_ σ.t 0 = 91) (hG : Gd E w (σ.adv 1) d rv (I + 1) refs) : Calls Tryz.prog 107 #[.pointer (some ⟨E.rb, 0, none⟩), .int .i64 (I : Nat)] w (NP1 E d rv w (Ğ σ)) := by
 have HAt := ħ h.atI;have hgne := ÁD hG.sv
 have HRO : Hid (∀ k, rv.ownBlock = some k → k < w.heap.size) := ħ (fun k hk => (hG.sv.own_lt hk).1)
 have hrb := hG.sv.blk.lt;have HUB := ħ hG.sv.ub_lt;have hlen := h.pos.short hG.sv.len.1;have h256 := hG.sv.n256
 have hn0 : σ.t ≠ [] := Àf (by omega)
 obtain ⟨zn, hzn⟩ : ∃ zn : Array Value, zn = #[.int .i64 0, .int .i64 0, .int .i64 0, .int .i64 0, .int .i64 0, .slice none 0 0, .bool false, .slice none 0 0] := ⟨_, rfl⟩;have HB0a := ħ (Blk.new w 38 zn);have hGa := hG.alloc (.cells zn 38);have HFa := ħ ((FrR.refl (E := E) (rv := rv) w).alloc (.cells zn 38))
 have hsz : (w.alloc (.cells zn 38)).heap.size = w.heap.size + 1 := by simp
 obtain ⟨ng, hng⟩ : ∃ ng, ng = ÅA σ := ⟨_, rfl⟩
 have HIs := ħ (ù [94] (by decide) (by decide) hGa ng (by rw [hng, Ŀ (by decide)]; rfl))
 have HBn : Hid ((if ng then (σ.adv 1).adv [(94 : UInt8)].length else σ.adv 1) = é σ) := ħ (by unfold é; rw [hng]; rfl)
 have HLn : Hid ((é σ).t.length < 300) := ħ (by
  have : (é σ).t.length ≤ σ.t.length := by unfold é; split <;> simp [St.adv]
  omega)
 obtain ⟨R, hR⟩ : ∃ R, R = Ģ σ.pos ng 300 [] (é σ) := ⟨_, rfl⟩
 have HBr : Hid (Ğ σ = Ñv R) := ħ (by rw [hR, hng]; unfold Ğ Ñv; rfl)
 obtain ⟨r, hr⟩ : ∃ r, r = Ğ σ := ⟨_, rfl⟩;rw [← hr] at HBr ⊢;have HR := ħ hR
 have HFl := ħ (fun W J gg (hW : Sv E W J gg d 0 0 rv refs) => Ō (σ0 := σ) (I0 := I) 22 (by omega) HAt.o hW)
 subst hzn;clear h hG hGa hr hR hng;go_enter Tryz.func107, Tryz.ntmps107
 go_upto_region 1 with (fail)
 generalize w.alloc _ = w1 at *
 go_wp2_with fail
 refine HIs.o.mono ?_;rintro e w2 ⟨rfl, hF2, I2, hG2⟩;rw [HBn.o] at hG2;have HB02 := ħ (À hF2 HB0a.o hgne);have HF2 := ħ (HFa.o.trans hF2);have hs2 := hF2.size;have HGd2 := ħ hG2;clear hF2 hG2 HIs HB0a HFa HBn
 go_upto_region 3 with (fail)
 have HB03 := ħ (HB02.o.alloc (.cells #[.int .i64 1, .int .i64 0, .int .i64 0, .int .i64 0, .int .i64 0, .slice none 0 0, .bool ng, .slice none 0 0] 38));have HN3 := ħ (Blk.new w2 38 #[.int .i64 1, .int .i64 0, .int .i64 0, .int .i64 0, .int .i64 0, .slice none 0 0, .bool ng, .slice none 0 0]);have HGd3 := ħ (HGd2.o.alloc (.cells #[.int .i64 1, .int .i64 0, .int .i64 0, .int .i64 0, .int .i64 0, .slice none 0 0, .bool ng, .slice none 0 0] 38));have HF3 := ħ (HF2.o.alloc (.cells #[.int .i64 1, .int .i64 0, .int .i64 0, .int .i64 0, .int .i64 0, .slice none 0 0, .bool ng, .slice none 0 0] 38));clear HB02 HGd2 HF2;generalize w2.alloc _ = w3 at *;obtain ⟨nb, hnb⟩ : ∃ nb, nb = w2.heap.size := ⟨_, rfl⟩;rw [← hnb] at HN3 hs2 ⊢;clear hnb
 have hbn : w.heap.size < nb := by omega
 have HNb : Hid (nb ≠ E.rb ∧ nb ≠ E.ub ∧ nb ≠ E.ab ∧ rv.ownBlock ≠ some nb) := ħ ⟨by omega, by have := HUB.o; omega, by have := HUB.o; omega, fun e => by have := HRO.o _ e; omega⟩
 go_loopw [6, 7] (fun kk _ wr => ∃ (j : Nat) (V : Value), kk = .int .i64 j ∧ j ≤ 300 ∧ Hid (Blk wr nb 38 #[.int .i64 1, .int .i64 0, .int .i64 0, .int .i64 0, .int .i64 0, V, .bool ng, .slice none 0 0]) ∧ Hid (Blk wr w.heap.size 38 #[.int .i64 0, .int .i64 0, .int .i64 0, .int .i64 0, .int .i64 0, .slice none 0 0, .bool false, .slice none 0 0]) ∧ Hid (FrR E w rv wr rv) ∧ Hid (ClG E d rv refs σ.pos ng R nb j V wr ∨ ClB E d rv R V wr)) (fun kk _ _ => 300 - (intOf kk).toNat)
 case atStart => exact ⟨0, _, rfl, by omega, HN3, HB03, HF3, ħ (.inl ⟨300, [], é σ, I2, rfl, HR.o.symm, HLn.o, by simp, by simp, Cl.Own.nil _ _ _, HGd3.o⟩)⟩
 case round =>
  clear HN3 HB03 HF3 HGd3 HLn HR;obtain ⟨j, V, rfl, hj, HNk, HBk, HFk, HRel⟩ := hrel;have hnbl := HNk.o.lt
  rcases HRel.o with hg | hb
  ·clear HRel
   obtain ⟨fu, acc, σk, Ik, hfj, hmem, hlt, hacc, hal, hown, hgd⟩ := hg
   obtain ⟨fu, rfl⟩ : ∃ f', fu = f' + 1 := ⟨fu - 1, by omega⟩
   rw [Âl] at hmem;obtain ⟨VA, VC, hVf⟩ := ÃC hown;subst hVf;have HMem := ħ hmem;have HAcc := ħ hacc
   have HO := ħ (Ðp 0 (by omega) hgd)
   obtain ⟨u, hu⟩ : ∃ u, u = onN σk.t 0 := ⟨_, rfl⟩;rw [← hu] at HO
   have hsm : (σk.t = [] ∧ u < 0) ∨ (σk.t ≠ [] ∧ at_ σk.t 0 < 128 ∧ u = (at_ σk.t 0 : Nat)) ∨ (σk.t ≠ [] ∧ 128 ≤ at_ σk.t 0 ∧ 128 ≤ u) := by
    by_cases hh : σk.t = []
    ·exact .inl ⟨hh, by rw [hu]; exact Æs.2 hh⟩
    ·rw [ÀY hh] at hu
     rcases Nat.lt_or_ge (at_ σk.t 0) 128 with h1 | h1
     ·exact .inr (.inl ⟨hh, h1, by rw [hu, ş hh h1]⟩)
     ·exact .inr (.inr ⟨hh, h1, by have := ÂJ hh h1; omega⟩)
   have hul : u ≤ 1114367 := by have := Æt σk.t 0; omega
   obtain ⟨_, _, _, _, _, _, c6, _⟩ := hgd.sv.ten;have HGk := ħ hgd;have HOk := ħ hown
   have hji : (j : Int) ≤ 300 := by omega
   clear hmem hacc hgd hown hu
   go_wp2_with fail
   refine HO.o.mono ?_;rintro e w5 ⟨rfl, m5, hw5⟩
   have HG5 : Hid (Gd E w5 σk d rv Ik refs) := ħ (by rw [hw5]; exact HGk.o.drewN _)
   have HF5 : Hid (FrR E w rv w5 rv) := ħ (by rw [hw5]; exact HFk.o.drewN _)
   have HN5 : Hid (Blk w5 nb 38 #[.int .i64 1, .int .i64 0, .int .i64 0, .int .i64 0, .int .i64 0, .slice VA acc.length VC, .bool ng, .slice none 0 0]) := ħ (by rw [hw5]; exact HNk.o)
   have HB5 : Hid (Blk w5 w.heap.size 38 #[.int .i64 0, .int .i64 0, .int .i64 0, .int .i64 0, .int .i64 0, .slice none 0 0, .bool false, .slice none 0 0]) := ħ (by rw [hw5]; exact HBk.o)
   have HO5 : Hid (Cl.Own w5 (nb + 1) 93 (.slice VA acc.length VC) acc) := ħ (by rw [hw5]; exact HOk.o)
   have hs5 : wr.heap.size = w5.heap.size := by rw [hw5]; rfl
   clear hw5 c6 HGk HFk HNk HBk HOk HO
   by_cases he : σk.t = []
   ·have q0 : u < 0 := by rcases hsm with ⟨_, h1⟩ | ⟨h1, _⟩ | ⟨h1, _⟩; exact h1; exact absurd he h1; exact absurd he h1
    have HRe : Hid (r = .error (22, σ.pos)) := ħ (by rw [HBr.o, ← HMem.o]; rw [if_neg (by rw [he]; decide), if_pos (by rw [he]; rfl)]; rfl)
    go_wp2_with fail
    refine (HFl.o _ _ _ HG5.o.sv).mono ?_;rintro e w6 ⟨rfl, hF6, hB6⟩;have HN6 := ħ (À hF6 HN5.o HNb.o);have HB6 := ħ (À hF6 HB5.o hgne);have HF6 := ħ (HF5.o.trans hF6);have HD6 := ħ hB6;clear hF6 hB6;obtain ⟨y0, y1, y2, y3, y4, y5, y6, y7⟩ := HN6.o.eight;have hz := HB6.o.eight;have hfz := HB6.o.frozen;go_wp2;rw [HRe.o];exact ß rfl rfl rfl (Æ HB6.o) ⟨rv, _, rfl, ⟨1, 0, 0, 0, 0, VA, none, acc.length, VC, 0, 0, ng, rfl⟩, Û (ŋ _) HF6.o, ĭ hgne HD6.o⟩
   have q0 : ¬ u < 0 := by rcases hsm with ⟨h1, _⟩ | ⟨_, _, h1⟩ | ⟨_, _, h1⟩; exact absurd h1 he; omega; omega
   have q0' : decide (u < 0) = false := decide_eq_false q0
   by_cases h93 : u = 93
   ·have ha93 : at_ σk.t 0 = 93 := by rcases hsm with ⟨h1, _⟩ | ⟨_, _, h1⟩ | ⟨_, _, h1⟩; exact absurd h1 he; omega; omega
    subst h93
    by_cases hj0 : j = 0
    ·have HAc := ħ (HAcc.o.2 hj0)
     subst hj0
     have HRe : Hid (r = .error (22, σ.pos)) := ħ (by rw [HBr.o, ← HMem.o]; rw [if_pos ha93, if_pos (by rw [HAc.o]; rfl)]; rfl)
     go_wp2_with fail
     refine (HFl.o _ _ _ HG5.o.sv).mono ?_;rintro e w6 ⟨rfl, hF6, hB6⟩;have HN6 := ħ (À hF6 HN5.o HNb.o);have HB6 := ħ (À hF6 HB5.o hgne);have HF6 := ħ (HF5.o.trans hF6);have HD6 := ħ hB6;clear hF6 hB6;obtain ⟨y0, y1, y2, y3, y4, y5, y6, y7⟩ := HN6.o.eight;have hz := HB6.o.eight;have hfz := HB6.o.frozen;go_wp2;rw [HRe.o];exact ß rfl rfl rfl (Æ HB6.o) ⟨rv, _, rfl, ⟨1, 0, 0, 0, 0, VA, none, acc.length, VC, 0, 0, ng, rfl⟩, Û (ŋ _) HF6.o, ĭ hgne HD6.o⟩
    ·have hac : acc ≠ [] := fun e => hj0 (HAcc.o.1 e)
     have kj : ((j : Int) == 0) = false := by simp; omega
     have kj' : ¬ (j : Int) = 0 := by omega
     have HRe : Hid (r = .ok (Âa (Äd acc ng), σk.adv 1)) := ħ (by
      rw [HBr.o, ← HMem.o, if_pos ha93, if_neg (by cases acc <;> simp_all)]; rfl)
     have hlt5 := HG5.o.lt he;have hIl := HG5.o.le;obtain ⟨_, _, c2, _⟩ := HG5.o.sv.ten;have f2 := HG5.o.sv.fz 2
     have HX := ħ (HG5.o.pos.small he (by omega))
     go_upto_region 11 with (fail)
     have HG6 : Hid (Gd E (w5.setCell ⟨E.rb, 2, none⟩ (.int .i64 ((Ik : Int) + 1))) (σk.adv 1) d rv (Ik + 1) refs) := ħ (by
      have hs := HG5.o.sv.setI (J := Ik + 1) (by omega)
      rw [Int.natCast_add] at hs
      exact HG5.o.move hs HX.o rfl rfl (by omega) (by omega))
     have HF6 := ħ (HF5.o.set_ (q := ⟨E.rb, 2, none⟩) (.inl rfl) (.int .i64 ((Ik : Int) + 1)))
     have HN6 := ħ (HN5.o.far (p := ⟨E.rb, 2, none⟩) (by simp only; omega) (.int .i64 ((Ik : Int) + 1)))
     have HB6 := ħ (HB5.o.far (p := ⟨E.rb, 2, none⟩) hgne.1 (.int .i64 ((Ik : Int) + 1)))
     have HO6 : Hid (Cl.Own (w5.setCell ⟨E.rb, 2, none⟩ (.int .i64 ((Ik : Int) + 1))) (nb + 1) 93 (.slice VA acc.length VC) acc) := ħ (Ëy HO5.o (fun i hi _ => Below.heap_setCell _ _ _ _ (by simp only; omega)))
     clear c2 f2 HG5 HF5 HN5 HB5 HO5;generalize w5.setCell ⟨E.rb, 2, none⟩ (.int .i64 ((Ik : Int) + 1)) = w6 at *;obtain ⟨y0, y1, y2, y3, y4, y5, y6, y7⟩ := HN6.o.eight;have hz := HB6.o.eight;have hfz := HB6.o.frozen;go_wp2;rw [HRe.o]
     exact ß rfl rfl rfl (Æ HB6.o) ⟨rv, Ik + 1, refs, VA, _, VC, ng, none, 0, rfl, ű (P := acc) (Ðb HO6.o (by omega) (fun k hk => by have := HRO.o k hk; omega)) (fun _ => rfl), Û (ŋ _) HF6.o, ŗ hgne HG6.o⟩
   have k93 : (u == 93) = false := by simp [h93]
   by_cases hbad : u = 91 ∨ u = 45
   ·have hab : at_ σk.t 0 = 91 ∨ at_ σk.t 0 = 45 := by rcases hsm with ⟨h1, _⟩ | ⟨_, _, h1⟩ | ⟨_, _, h1⟩; exact absurd h1 he; omega; omega
    have kb : u = 91 ∨ (u ≠ 91 ∧ u = 45) := by omega
    have HFk2 := ħ (fun W J gg (hW : Sv E W J gg d 0 0 rv refs) => Ō (σ0 := σk) (I0 := Ik) 22 (by omega) HG5.o.atI hW)
    obtain ⟨_, _, c2, _⟩ := HG5.o.sv.ten
    rcases kb with kb | ⟨kb1, kb⟩
    all_goals
     subst kb
     have HRe : Hid (r = .error (22, σk.pos)) := ħ (by rw [HBr.o, ← HMem.o]; rw [if_neg (by omega), if_neg (by cases hh : σk.t <;> simp_all)]; unfold Ú; rw [if_pos hab]; rfl)
     go_wp2_with fail
     refine (HFk2.o _ _ _ HG5.o.sv).mono ?_;rintro e w6 ⟨rfl, hF6, hB6⟩;have HN6 := ħ (À hF6 HN5.o HNb.o);have HB6 := ħ (À hF6 HB5.o hgne);have HF6 := ħ (HF5.o.trans hF6);have HD6 := ħ hB6;clear hF6 hB6;obtain ⟨y0, y1, y2, y3, y4, y5, y6, y7⟩ := HN6.o.eight;have hz := HB6.o.eight;have hfz := HB6.o.frozen;go_wp2;rw [HRe.o];exact ß rfl rfl rfl (Æ HB6.o) ⟨rv, _, rfl, ⟨1, 0, 0, 0, 0, VA, none, acc.length, VC, 0, 0, ng, rfl⟩, Û (ŋ _) HF6.o, ĭ hgne HD6.o⟩
   have hn93 : at_ σk.t 0 ≠ 93 := by rcases hsm with ⟨h1, _⟩ | ⟨_, _, h1⟩ | ⟨_, h0, h1⟩; exact absurd h1 he; omega; omega
   have hnb2 : at_ σk.t 0 ≠ 91 ∧ at_ σk.t 0 ≠ 45 := by rcases hsm with ⟨h1, _⟩ | ⟨_, _, h1⟩ | ⟨_, h0, h1⟩; exact absurd h1 he; omega; omega
   have hnem : ¬ σk.t.isEmpty = true := by cases hh : σk.t <;> simp_all
   have k91 : (u == 91) = false := by simp; omega
   have k45 : (u == 45) = false := by simp; omega
   have n91 : ¬ u = 91 := by omega
   have n45 : ¬ u = 45 := by omega
   clear hsm hbad
   go_upto_region 15 with (fail)
   have HGd : Hid (Gd E w5.drew σk d rv Ik refs) := ħ (HG5.o.drewN 1);have HNd : Hid (Blk w5.drew nb 38 #[.int .i64 1, .int .i64 0, .int .i64 0, .int .i64 0, .int .i64 0, .slice VA acc.length VC, .bool ng, .slice none 0 0]) := HN5;have HBd : Hid (Blk w5.drew w.heap.size 38 #[.int .i64 0, .int .i64 0, .int .i64 0, .int .i64 0, .int .i64 0, .slice none 0 0, .bool false, .slice none 0 0]) := HB5;have HFd : Hid (FrR E w rv w5.drew rv) := ħ (HF5.o.drewN 1);have HOd : Hid (Cl.Own w5.drew (nb + 1) 93 (.slice VA acc.length VC) acc) := HO5;have hsd : wr.heap.size = w5.drew.heap.size := hs5
   refine wp_region_held_drew (S := fun _ => True) (by kernel_rfl) trivial (fun hHeld => ?_)
   clear HG5 HN5 HB5 HF5 HO5 hs5;generalize w5.drew = wd at *
   refine ÈD 0 57 (.pointer (some ⟨nb, 5, none⟩)) _ rfl rfl (by kernel_rfl) (by kernel_rfl) (by kernel_rfl) (fun _ _ _ h => h) (Or.inl ⟨by rfl, fun w' hSw => ?_⟩) hHeld ?_
   ·clear hSw
    go_simp
   try simp only [ł, ø, đ]
   refine ÈD 2 59 (.pointer (some ⟨E.rb, 0, none⟩)) _ rfl rfl (by kernel_rfl) (by kernel_rfl) (by kernel_rfl) (fun _ _ _ h => h) (Or.inl ⟨by rfl, fun w' hSw => ?_⟩) hHeld ?_
   ·clear hSw
    go_simp
   try simp only [ł, ø, đ]
   have z5 := HNd.o.cell 5;have l5 := HNd.o.lt
   refine wpAnyH_ready (rs := [1, 3]) (by kernel_rfl) (by simp) ?_
   refine AllReadyH.cons rfl (fun K hK => ?_) (AllReadyH.cons rfl (fun K hK => ?_) AllReadyH.nil)
   ·go_simp
    refine hK.o _ _ trivial (fun _ => ?_)
    clear hK K z5 l5
    try simp only [Act.put, ł, ø, đ]
    refine Ñw 3 60 (f := 130) (args := #[.pointer (some ⟨E.rb, 0, none⟩)]) rfl rfl (by kernel_rfl) rfl (by kernel_rfl) (ÄZ HGd.o he hnb2) ?_
    rintro e w7 ⟨l, A, n, rfl, hl5, hpv, hF7, hor⟩;refine ⟨_, rfl, trivial, ?_⟩
    try simp only [ł, ø, đ]
    have HN7 := ħ (À hF7 HNd.o HNb.o);have HB7 := ħ (À hF7 HBd.o hgne)
    have HO7 := ħ (Åa HOd.o hF7 (by omega) (fun k hk => by have := HRO.o k hk; omega))
    have hs7 := hF7.size;have HF7 := ħ (HFd.o.trans hF7);have HP7 := ħ hpv;have HOr := ħ hor;clear hF7 hpv hor
    refine ŝ 4 (fun K hK => ?_)
    obtain ⟨i0, hi, hz0, hz1, hz2⟩ := Á Ìl
    refine ÁF _ rfl (.tmp 58) (.tmp 60) rfl i0 (.agg #[.int .i64 0, .int .i64 0]) Tryz.underlying35 hi hz0 hz1 hz2 rfl (nb + 1) (.slice VA acc.length VC) acc rfl HO7.o w7.heap.size (.slice A l.length n) l rfl HP7.o.setV (by omega) (by omega) ?_
    intro v' w' hown hgr;obtain ⟨LN, hLN⟩ : ∃ LN, LN = (acc ++ l).length := ⟨_, rfl⟩;obtain ⟨VB, VD, hVf⟩ := ÃC hown;rw [← hLN] at hVf;clear hLN;subst hVf
    have hrow : ∀ k, (Value.slice VA acc.length VC).ownBlock = some k → nb + 1 ≤ k := fun k e => (World.ownsRow.lt HO7.o k e).1
    have hno : ∀ i, i < nb + 1 → i < w7.heap.size → w'.heap[i]? = w7.heap[i]? := fun i h1 h2 => hgr.block i h2 (fun e => by have := hrow i e.symm; omega)
    have hkp : ∀ i, i < w7.heap.size → (i = E.rb ∨ i = E.ub ∨ i = E.ab ∨ rv.ownBlock = some i) → w'.heap[i]? = w7.heap[i]? := fun i hi hc => hno i (by
     rcases hc with rfl | rfl | rfl | hc
     ·omega
     ·have := HUB.o; omega
     ·have := HUB.o; omega
     ·have := HRO.o _ hc; omega) hi
    have hN8 : Blk w' nb 38 #[.int .i64 1, .int .i64 0, .int .i64 0, .int .i64 0, .int .i64 0, .slice VA acc.length VC, .bool ng, .slice none 0 0] := (hno nb (by omega) (by omega)).trans HN7.o
    have hB8 : Blk w' w.heap.size 38 #[.int .i64 0, .int .i64 0, .int .i64 0, .int .i64 0, .int .i64 0, .slice none 0 0, .bool false, .slice none 0 0] := (hno _ (by omega) (by omega)).trans HB7.o
    have hF8 : FrR E w rv w' rv := HF7.o.grown hgr (fun k e => by have := hrow k e; omega)
    have hor8 : (∃ σ1 I', Ú σk = .ok (l, σ1) ∧ l ≠ [] ∧ Gd E w' σ1 d rv I' refs) ∨ (∃ f, Bd E w' d rv f ∧ (Ú σk = .error f ∨ ∃ l σ1, Ú σk = .ok (l, σ1) ∧ at_ σ1.t 0 = 45 ∧ f = (22, σ1.pos))) := by
     rcases HOr.o with ⟨σ1, I', h1, h2, h3⟩ | ⟨f, h1, h2⟩
     ·exact .inl ⟨σ1, I', h1, h2, h3.kept hkp hgr.size⟩
     ·exact .inr ⟨f, h1.kept hkp hgr.size, h2⟩
    have z5 := hN8.cell 5;have f5 := hN8.frozen 5;have l5 := hN8.lt;have HN9 : Hid (Blk (w'.setCell ⟨nb, 5, none⟩ (.slice VB LN VD)) nb 38 #[.int .i64 1, .int .i64 0, .int .i64 0, .int .i64 0, .int .i64 0, .slice VB LN VD, .bool ng, .slice none 0 0]) := ħ (hN8.set_ 5 _)
    have HB9 : Hid (Blk (w'.setCell ⟨nb, 5, none⟩ (.slice VB LN VD)) w.heap.size 38 #[.int .i64 0, .int .i64 0, .int .i64 0, .int .i64 0, .int .i64 0, .slice none 0 0, .bool false, .slice none 0 0]) := ħ (hB8.far (p := ⟨nb, 5, none⟩) (by simp only; omega) _)
    have HF9 : Hid (FrR E w rv (w'.setCell ⟨nb, 5, none⟩ (.slice VB LN VD)) rv) := ħ (hF8.set_ (q := ⟨nb, 5, none⟩) (.inr (by simp only; omega)) _)
    have HO9 : Hid (Cl.Own (w'.setCell ⟨nb, 5, none⟩ (.slice VB LN VD)) (nb + 1) 93 (.slice VB LN VD) (acc ++ l)) := ħ (Ëy hown (fun i hi _ => Below.heap_setCell _ _ _ _ (by simp only; omega)))
    have HR9 : Hid (ClG E d rv refs σ.pos ng R nb (j + 1) (.slice VB LN VD) (w'.setCell ⟨nb, 5, none⟩ (.slice VB LN VD)) ∨ ClB E d rv R (.slice VB LN VD) (w'.setCell ⟨nb, 5, none⟩ (.slice VB LN VD))) := ħ (by
     rcases hor8 with ⟨σ1, I', h1, h2, h3⟩ | ⟨f, h1, h2⟩
     ·have hml := ÁE h1 he
      have hgd9 : Gd E (w'.setCell ⟨nb, 5, none⟩ (.slice VB LN VD)) σ1 d rv I' refs := ⟨h3.sv.far HNb.o _, h3.pos, h3.refl, h3.same, h3.deep, h3.le, h3.rl⟩
      refine .inl ⟨fu, acc ++ l, σ1, I', by omega, ?_, by omega, ⟨fun e => absurd (List.append_eq_nil_iff.1 e).2 h2, fun e => by omega⟩, by rw [ă]; omega, HO9.o, hgd9⟩
      rw [← HMem.o, if_neg hn93, if_neg hnem, h1]
     ·refine .inr ⟨f, VB, _, VD, ?_, by
       obtain ⟨h0, g, refs', h⟩ := h1
       exact ⟨h0, g, refs', h.far HNb.o _⟩, rfl⟩
      rw [← HMem.o, if_neg hn93, if_neg hnem]
      rcases h2 with h2 | ⟨l2, σ1, h2, h3, rfl⟩
      ·rw [h2]
      ·rw [h2]
       have hml := ÁE h2 he
       obtain ⟨fu, rfl⟩ : ∃ f', fu = f' + 1 := ⟨fu - 1, by omega⟩
       show Ģ σ.pos ng (fu + 1) _ σ1 = _
       rw [Âl, if_neg (by omega), if_neg (by cases hh : σ1.t <;> simp_all [at_])]
       have : Ú σ1 = .error (22, σ1.pos) := by unfold Ú; rw [if_pos (.inr h3)]
       rw [this])
    clear hN8 hB8 hF8 hor8 hno hkp hrow hown hgr HN7 HB7 HF7 HO7 HP7 HOr
    refine hK.o _ _ trivial (fun _ => ?_)
    clear hK K
    try simp only [Act.put, ł]
    have hHeld : True := trivial
    refine ÈD 5 62 (.pointer (some ⟨nb, 5, none⟩)) _ rfl rfl (by kernel_rfl) (by kernel_rfl) (by kernel_rfl) (fun _ _ _ h => h) (Or.inl ⟨by rfl, fun w' hSw => ?_⟩) hHeld ?_
    ·clear hSw
     go_simp
    try simp only [Act.put, ł, ø, đ]
    refine ŝ 6 (fun K hK => ?_)
    go_simp
    refine hK.o _ _ trivial (fun _ => ?_)
    clear hK K z5 f5 l5
    refine wpAnyH_done (by kernel_rfl) ?_ _
    try simp only [Act.put, ł, ø, đ]
    generalize w'.setCell ⟨nb, 5, none⟩ (.slice VB LN VD) = w9 at *;clear HMem HAcc;go_wp2;go_roundw
    case rel => exact ⟨j + 1, _, by go_num, by omega, HN9, HB9, HF9, HR9⟩
    case measure => simp [intOf]; omega
   ·refine Ïa (f := 130) (args := #[.pointer (some ⟨E.rb, 0, none⟩)]) rfl (by kernel_rfl) (ÄZ HGd.o he hnb2) ?_
    rintro e w7 ⟨l, A, n, rfl, hl5, hpv, hF7, hor⟩;refine ⟨_, rfl, ?_⟩;have HN7 := ħ (À hF7 HNd.o HNb.o);have HB7 := ħ (À hF7 HBd.o hgne)
    have HO7 := ħ (Åa HOd.o hF7 (by omega) (fun k hk => by have := HRO.o k hk; omega))
    have hs7 := hF7.size;have HF7 := ħ (HFd.o.trans hF7);have HP7 := ħ hpv;have HOr := ħ hor;clear hF7 hpv hor;clear z5 l5
    refine hK.o _ _ trivial (fun _ => ?_)
    clear hK K
    try simp only [Act.put, ł]
    have z5 := HN7.o.cell 5;have l5 := HN7.o.lt
    refine ŝ 1 (fun K hK => ?_)
    go_simp
    refine hK.o _ _ trivial (fun _ => ?_)
    clear hK K z5 l5
    try simp only [Act.put, ł, ø, đ]
    refine ŝ 4 (fun K hK => ?_)
    obtain ⟨i0, hi, hz0, hz1, hz2⟩ := Á Ìl
    refine ÁF _ rfl (.tmp 58) (.tmp 60) rfl i0 (.agg #[.int .i64 0, .int .i64 0]) Tryz.underlying35 hi hz0 hz1 hz2 rfl (nb + 1) (.slice VA acc.length VC) acc rfl HO7.o w7.heap.size (.slice A l.length n) l rfl HP7.o.setV (by omega) (by omega) ?_
    intro v' w' hown hgr;obtain ⟨LN, hLN⟩ : ∃ LN, LN = (acc ++ l).length := ⟨_, rfl⟩;obtain ⟨VB, VD, hVf⟩ := ÃC hown;rw [← hLN] at hVf;clear hLN;subst hVf
    have hrow : ∀ k, (Value.slice VA acc.length VC).ownBlock = some k → nb + 1 ≤ k := fun k e => (World.ownsRow.lt HO7.o k e).1
    have hno : ∀ i, i < nb + 1 → i < w7.heap.size → w'.heap[i]? = w7.heap[i]? := fun i h1 h2 => hgr.block i h2 (fun e => by have := hrow i e.symm; omega)
    have hkp : ∀ i, i < w7.heap.size → (i = E.rb ∨ i = E.ub ∨ i = E.ab ∨ rv.ownBlock = some i) → w'.heap[i]? = w7.heap[i]? := fun i hi hc => hno i (by
     rcases hc with rfl | rfl | rfl | hc
     ·omega
     ·have := HUB.o; omega
     ·have := HUB.o; omega
     ·have := HRO.o _ hc; omega) hi
    have hN8 : Blk w' nb 38 #[.int .i64 1, .int .i64 0, .int .i64 0, .int .i64 0, .int .i64 0, .slice VA acc.length VC, .bool ng, .slice none 0 0] := (hno nb (by omega) (by omega)).trans HN7.o
    have hB8 : Blk w' w.heap.size 38 #[.int .i64 0, .int .i64 0, .int .i64 0, .int .i64 0, .int .i64 0, .slice none 0 0, .bool false, .slice none 0 0] := (hno _ (by omega) (by omega)).trans HB7.o
    have hF8 : FrR E w rv w' rv := HF7.o.grown hgr (fun k e => by have := hrow k e; omega)
    have hor8 : (∃ σ1 I', Ú σk = .ok (l, σ1) ∧ l ≠ [] ∧ Gd E w' σ1 d rv I' refs) ∨ (∃ f, Bd E w' d rv f ∧ (Ú σk = .error f ∨ ∃ l σ1, Ú σk = .ok (l, σ1) ∧ at_ σ1.t 0 = 45 ∧ f = (22, σ1.pos))) := by
     rcases HOr.o with ⟨σ1, I', h1, h2, h3⟩ | ⟨f, h1, h2⟩
     ·exact .inl ⟨σ1, I', h1, h2, h3.kept hkp hgr.size⟩
     ·exact .inr ⟨f, h1.kept hkp hgr.size, h2⟩
    have z5 := hN8.cell 5;have f5 := hN8.frozen 5;have l5 := hN8.lt;have HN9 : Hid (Blk (w'.setCell ⟨nb, 5, none⟩ (.slice VB LN VD)) nb 38 #[.int .i64 1, .int .i64 0, .int .i64 0, .int .i64 0, .int .i64 0, .slice VB LN VD, .bool ng, .slice none 0 0]) := ħ (hN8.set_ 5 _)
    have HB9 : Hid (Blk (w'.setCell ⟨nb, 5, none⟩ (.slice VB LN VD)) w.heap.size 38 #[.int .i64 0, .int .i64 0, .int .i64 0, .int .i64 0, .int .i64 0, .slice none 0 0, .bool false, .slice none 0 0]) := ħ (hB8.far (p := ⟨nb, 5, none⟩) (by simp only; omega) _)
    have HF9 : Hid (FrR E w rv (w'.setCell ⟨nb, 5, none⟩ (.slice VB LN VD)) rv) := ħ (hF8.set_ (q := ⟨nb, 5, none⟩) (.inr (by simp only; omega)) _)
    have HO9 : Hid (Cl.Own (w'.setCell ⟨nb, 5, none⟩ (.slice VB LN VD)) (nb + 1) 93 (.slice VB LN VD) (acc ++ l)) := ħ (Ëy hown (fun i hi _ => Below.heap_setCell _ _ _ _ (by simp only; omega)))
    have HR9 : Hid (ClG E d rv refs σ.pos ng R nb (j + 1) (.slice VB LN VD) (w'.setCell ⟨nb, 5, none⟩ (.slice VB LN VD)) ∨ ClB E d rv R (.slice VB LN VD) (w'.setCell ⟨nb, 5, none⟩ (.slice VB LN VD))) := ħ (by
     rcases hor8 with ⟨σ1, I', h1, h2, h3⟩ | ⟨f, h1, h2⟩
     ·have hml := ÁE h1 he
      have hgd9 : Gd E (w'.setCell ⟨nb, 5, none⟩ (.slice VB LN VD)) σ1 d rv I' refs := ⟨h3.sv.far HNb.o _, h3.pos, h3.refl, h3.same, h3.deep, h3.le, h3.rl⟩
      refine .inl ⟨fu, acc ++ l, σ1, I', by omega, ?_, by omega, ⟨fun e => absurd (List.append_eq_nil_iff.1 e).2 h2, fun e => by omega⟩, by rw [ă]; omega, HO9.o, hgd9⟩
      rw [← HMem.o, if_neg hn93, if_neg hnem, h1]
     ·refine .inr ⟨f, VB, _, VD, ?_, by
       obtain ⟨h0, g, refs', h⟩ := h1
       exact ⟨h0, g, refs', h.far HNb.o _⟩, rfl⟩
      rw [← HMem.o, if_neg hn93, if_neg hnem]
      rcases h2 with h2 | ⟨l2, σ1, h2, h3, rfl⟩
      ·rw [h2]
      ·rw [h2]
       have hml := ÁE h2 he
       obtain ⟨fu, rfl⟩ : ∃ f', fu = f' + 1 := ⟨fu - 1, by omega⟩
       show Ģ σ.pos ng (fu + 1) _ σ1 = _
       rw [Âl, if_neg (by omega), if_neg (by cases hh : σ1.t <;> simp_all [at_])]
       have : Ú σ1 = .error (22, σ1.pos) := by unfold Ú; rw [if_pos (.inr h3)]
       rw [this])
    clear hN8 hB8 hF8 hor8 hno hkp hrow hown hgr HN7 HB7 HF7 HO7 HP7 HOr
    refine hK.o _ _ trivial (fun _ => ?_)
    clear hK K
    try simp only [Act.put, ł]
    have hHeld : True := trivial
    refine ÈD 5 62 (.pointer (some ⟨nb, 5, none⟩)) _ rfl rfl (by kernel_rfl) (by kernel_rfl) (by kernel_rfl) (fun _ _ _ h => h) (Or.inl ⟨by rfl, fun w' hSw => ?_⟩) hHeld ?_
    ·clear hSw
     go_simp
    try simp only [Act.put, ł, ø, đ]
    refine ŝ 6 (fun K hK => ?_)
    go_simp
    refine hK.o _ _ trivial (fun _ => ?_)
    clear hK K z5 f5 l5
    refine wpAnyH_done (by kernel_rfl) ?_ _
    try simp only [Act.put, ł, ø, đ]
    generalize w'.setCell ⟨nb, 5, none⟩ (.slice VB LN VD) = w9 at *;clear HMem HAcc;go_wp2;go_roundw
    case rel => exact ⟨j + 1, _, by go_num, by omega, HN9, HB9, HF9, HR9⟩
    case measure => simp [intOf]; omega
  ·obtain ⟨f, A, n, c, hRf, hB, rfl⟩ := hb
   have HRe : Hid (r = .error f) := ħ (by rw [HBr.o, hRf]; rfl)
   obtain ⟨_, _, _, _, _, c6, k6, _⟩ := hB.ten
   have k6' : ¬ (f.1 : Int) = 0 := by simpa using k6
   have HD := ħ hB;obtain ⟨y0, y1, y2, y3, y4, y5, y6, y7⟩ := HNk.o.eight;have hz := HBk.o.eight;have hfz := HBk.o.frozen;clear hB hRf;go_wp2;rw [HRe.o];exact ß rfl rfl rfl (Æ HBk.o) ⟨rv, _, rfl, ⟨1, 0, 0, 0, 0, A, none, n, c, 0, 0, ng, rfl⟩, Û (ŋ _) HFk.o, ĭ hgne HD.o⟩
end
end Go.Proofs.YtpginkdkblmnbaaGreatDoor
