import Derived.Test.YtpginkdkblmnbaaGreatDoorWMQc
import Derived.Maps.AppendAt
namespace Go.Proofs.YtpginkdkblmnbaaGreatDoor
section
open Go.RowKit
open Go.Proofs.YtpginkdkblmnbaaGreatDoor.Cl (Rg à Ý Ä ò Î Á)
variable {w w' w0 : World} {E : RE} {σ σ1 : St} {I g d c p : Nat} {rv rv' : Value} {refs : List (Nat × Nat)} {f : Flt}
theorem ÿ {P : Program} {ops : Array Oper} {rest : List Oper} {o : Oper} {a : Act} {Q : Exit → Act → World → Prop} (hgd : o.guard = none) (s x : Operand) (t : TypeId)
 (ho : o.op = .call { callee := .builtin .append, args := #[s, x], argTypes := #[t, t] })
 (base : Nat) (e : TypeId) (i : TypeInfo) (z : Value) (size bytes : Nat) (ht : P.underlying t = some (.slice e)) (hi : P.info? e = some i) (hz : i.zero = some z)
 (hsize : i.size = size) (hby : i.bytes = bytes) (hzs : z.cells.size = size) (hsz : 0 < size) (v : Value) (n : Nat) (xs : List Value) (hs : a.eval s = v) (hown : w.ownsRow base e size v n xs)
 (ad : Addr) (m c : Nat) (news : List Value) (hx : a.eval x = .slice (some ad) m c) (hl : news.length = m * size) (hnews : ∀ j u, news[j]? = some u → w.cell? (ad.add j) = some u) (h1 : ∀ u ∈ news, u.oneCell' = true)
 (h63 : n + m ≤ maxLen) (hbytes : (n + m) * bytes ≤ 140737488355328) (hbase : base ≤ w.heap.size)
 (h : ∀ v' w', w'.ownsRow base e size v' (n + m) (xs ++ news) → w.grownBy w' v.ownBlock → (v'.ownBlock = v.ownBlock ∨ v'.ownBlock = some w.heap.size) → wpList P ops Q rest (a.put o.dst v') w') : wpList P ops Q (o :: rest) a w := by
 refine wpList_plain hgd fun K hK => ?_
 obtain ⟨v', w', hrun, h2, h3, _, h4⟩ := run_append_own_at (P := P) w base t o.type e i z size bytes ht hi hz hsize hby hzs hsz v n xs hown ad m c news hl hnews h1 h63 hbytes hbase;unfold Oper.wp execOp;simp only [ho, resolve, invoke, builtin, Sem.run_bind, Sem.run_pure, Result.andThen_ok, List.map_toArray, List.map_cons, List.map_nil, hs, hx, hrun];exact hK _ _ (h v' w' h2 h3 h4)
def st8 (w : World) (g : Nat) (c0 c1 c2 c3 c4 c5 c6 c7 : Value) : World :=
 ((((((((w.setCell ⟨g, 0, none⟩ c0).setCell ⟨g, 1, none⟩ c1).setCell ⟨g, 2, none⟩ c2).setCell ⟨g, 3, none⟩ c3).setCell ⟨g, 4, none⟩ c4).setCell ⟨g, 5, none⟩ c5).setCell ⟨g, 6, none⟩ c6).setCell ⟨g, 7, none⟩ c7)
section
variable {b : Nat} {t : TypeId} {x0 x1 x2 x3 x4 x5 x6 x7 c0 c1 c2 c3 c4 c5 c6 c7 : Value}
theorem Æ (h : Blk w b t #[x0, x1, x2, x3, x4, x5, x6, x7]) : Blk (st8 w b c0 c1 c2 c3 c4 c5 c6 c7) b t #[c0, c1, c2, c3, c4, c5, c6, c7] := by
 have := (((((((h.set_ 0 c0).set_ 1 c1).set_ 2 c2).set_ 3 c3).set_ 4 c4).set_ 5 c5).set_ 6 c6).set_ 7 c7;simpa [st8] using this
theorem ÂL {i : Nat} (h : i ≠ b) : (st8 w b c0 c1 c2 c3 c4 c5 c6 c7).heap[i]? = w.heap[i]? := by
 unfold st8
 repeat rw [Below.heap_setCell _ _ _ _ h]
theorem ÂM : (st8 w b c0 c1 c2 c3 c4 c5 c6 c7).heap.size = w.heap.size := by simp [st8, World.setCell]
theorem Û (hb : w.heap.size ≤ b) (h : FrR E w rv w' rv') : FrR E w rv (st8 w' b c0 c1 c2 c3 c4 c5 c6 c7) rv' :=
 ((((((((h.set_ (.inr hb) c0).set_ (.inr hb) c1).set_ (.inr hb) c2).set_ (.inr hb) c3).set_ (.inr hb) c4).set_ (.inr hb) c5).set_ (.inr hb) c6).set_ (.inr hb) c7)
theorem ÎQ (hb : b ≠ E.rb ∧ b ≠ E.ub ∧ b ≠ E.ab ∧ rv.ownBlock ≠ some b) (h : Sv E w I g d c p rv refs) : Sv E (st8 w b c0 c1 c2 c3 c4 c5 c6 c7) I g d c p rv refs :=
 ((((((((h.far hb c0).far hb c1).far hb c2).far hb c3).far hb c4).far hb c5).far hb c6).far hb c7)
theorem ŗ (hb : b ≠ E.rb ∧ b ≠ E.ub ∧ b ≠ E.ab ∧ rv.ownBlock ≠ some b) (h : Gd E w σ d rv I refs) : Gd E (st8 w b c0 c1 c2 c3 c4 c5 c6 c7) σ d rv I refs := ⟨ÎQ hb h.sv, h.pos, h.refl, h.same, h.deep, h.le, h.rl⟩
theorem ĭ (hb : b ≠ E.rb ∧ b ≠ E.ub ∧ b ≠ E.ab ∧ rv.ownBlock ≠ some b) (h : Bd E w d rv f) : Bd E (st8 w b c0 c1 c2 c3 c4 c5 c6 c7) d rv f := by
 obtain ⟨h0, g, refs, h⟩ := h;exact ⟨h0, g, refs, ÎQ hb h⟩
theorem Äz {base : Nat} {nd : Nd} {pv kv : Value} {nb : Bool} (hb : b < base) (h : Ó (KQ base w rv) w nd pv nb kv) : Ó (KQ base (st8 w b c0 c1 c2 c3 c4 c5 c6 c7) rv) (st8 w b c0 c1 c2 c3 c4 c5 c6 c7) nd pv nb kv :=
 h.keep fun i hi => ⟨⟨hi.1, by rw [ÂM]; exact hi.2.1, hi.2.2⟩, ÂL (by have := hi.1; omega)⟩
theorem Blk.eight (h : Blk w b t #[x0, x1, x2, x3, x4, x5, x6, x7]) : w.cell? ⟨b, 0, none⟩ = some x0 ∧ w.cell? ⟨b, 1, none⟩ = some x1 ∧ w.cell? ⟨b, 2, none⟩ = some x2 ∧ w.cell? ⟨b, 3, none⟩ = some x3 ∧ w.cell? ⟨b, 4, none⟩ = some x4 ∧ w.cell? ⟨b, 5, none⟩ = some x5 ∧ w.cell? ⟨b, 6, none⟩ = some x6 ∧ w.cell? ⟨b, 7, none⟩ = some x7 :=
 ⟨h.cell 0, h.cell 1, h.cell 2, h.cell 3, h.cell 4, h.cell 5, h.cell 6, h.cell 7⟩
theorem ō {fn : Func} {Q : Ending → World → Prop} {a : Act} {v : Value} {i j : Nat} (hres : fn.results = #[.cell i 38, .tmp j]) (h2 : a.tmps.getD i undef = .pointer (some ⟨b, 0, none⟩)) (h3 : a.tmps.getD j undef = v) (hd : a.defers = [])
 (hB : Blk w b 38 #[c0, c1, c2, c3, c4, c5, c6, c7]) (hQ : Q (.returned (.tuple #[.agg #[c0, c1, c2, c3, c4, c5, c6, c7], v])) w) : bodyPost Tryz.prog fn Q Exit.ret a w := by
 obtain ⟨k0, k1, k2, k3, k4, k5, k6, k7⟩ := hB.eight;rw [Array.getD_eq_getD_getElem?] at h2 h3;refine bodyPost_ret (v := .tuple #[.agg #[c0, c1, c2, c3, c4, c5, c6, c7], v]) ?_ hd hQ;simp [results, hres, go_sem, h2, h3, k0, k1, k2, k3, k4, k5, k6, k7]
theorem ß {fn : Func} {Q : Ending → World → Prop} {a : Act} {i : Nat} (hres : fn.results = #[.cell i 38]) (h2 : a.tmps.getD i undef = .pointer (some ⟨b, 0, none⟩)) (hd : a.defers = [])
 (hB : Blk w b 38 #[c0, c1, c2, c3, c4, c5, c6, c7]) (hQ : Q (.returned (.agg #[c0, c1, c2, c3, c4, c5, c6, c7])) w) : bodyPost Tryz.prog fn Q Exit.ret a w := by
 obtain ⟨k0, k1, k2, k3, k4, k5, k6, k7⟩ := hB.eight;rw [Array.getD_eq_getD_getElem?] at h2;refine bodyPost_ret (v := .agg #[c0, c1, c2, c3, c4, c5, c6, c7]) ?_ hd hQ;simp [results, hres, go_sem, h2, k0, k1, k2, k3, k4, k5, k6, k7]
end
def Íp (v : Value) : Prop := ∃ (k lo hi m r : Int) (A1 A2 : Option Addr) (n1 p1 n2 p2 : Nat) (nb : Bool), v = .agg #[.int .i64 k, .int .i64 lo, .int .i64 hi, .int .i64 m, .int .i64 r, .slice A1 n1 p1, .bool nb, .slice A2 n2 p2]
def NP (E : RE) (d : Nat) (rv : Value) (w : World) (may : Nd → Bool) (r : R) (e : Ending) (w' : World) : Prop :=
 match r with
 | .ok x => ∃ rv' I' refs' A1 n1 p1 nb A2 p2, e = .returned (.tuple #[.agg #[.int .i64 x.1.kind, .int .i64 x.1.lo, .int .i64 x.1.hi, .int .i64 x.1.mode, .int .i64 x.1.ref, .slice A1 n1 p1, .bool nb, .slice A2 x.1.kids.length p2], .bool (may x.1)]) ∧
  Ó (KQ w.heap.size w' rv') w' x.1 (.slice A1 n1 p1) nb (.slice A2 x.1.kids.length p2) ∧ FrR E w rv w' rv' ∧ Gd E w' x.2 d rv' I' refs'
 | .error f => ∃ rv' v b, e = .returned (.tuple #[v, .bool b]) ∧ Íp v ∧ FrR E w rv w' rv' ∧ Bd E w' d rv' f
def NP1 (E : RE) (d : Nat) (rv : Value) (w : World) (r : R) (e : Ending) (w' : World) : Prop :=
 match r with
 | .ok x => ∃ rv' I' refs' A1 n1 p1 nb A2 p2, e = .returned (.agg #[.int .i64 x.1.kind, .int .i64 x.1.lo, .int .i64 x.1.hi, .int .i64 x.1.mode, .int .i64 x.1.ref, .slice A1 n1 p1, .bool nb, .slice A2 x.1.kids.length p2]) ∧
  Ó (KQ w.heap.size w' rv') w' x.1 (.slice A1 n1 p1) nb (.slice A2 x.1.kids.length p2) ∧ FrR E w rv w' rv' ∧ Gd E w' x.2 d rv' I' refs'
 | .error f => ∃ rv' v, e = .returned v ∧ Íp v ∧ FrR E w rv w' rv' ∧ Bd E w' d rv' f
theorem Àu (l : List Rg) (h : l.Pairwise (fun a b => a.1 ≤ b.1)) : ť l = Î l := by
 unfold ť;rw [List.mergeSort_of_pairwise]
 exact h.imp (fun hab => by simpa using hab)
theorem ÏX {c : Nat} {l : List Rg} (h : Ť c = some l) : ť l = l := by
 rcases Ág h with ⟨_, rfl⟩ | ⟨_, rfl⟩ | ⟨_, rfl⟩
 ·rw [Àu _ (by simp)]; rfl
 ·rw [Àu _ (by simp)]; rfl
 ·rw [Àu _ (by simp)]; rfl
theorem Èz (u : Int) : Äd [(u, u)] false = [(u, u)] := by
 show ť [(u, u)] = _
 rw [Àu _ (by simp)]; rfl
theorem ÏY : Äd [(10, 10)] true = [(0, 9), (11, 1114367)] := by
 show ò 0 (ť [(10, 10)]) = _
 rw [Àu _ (by simp)]; rfl
theorem ÈA (l : List (Nat × Nat)) (x : Nat × Nat) : Àa (l ++ [x]) = Àa l ++ [.int .i64 (x.1 : Nat), .int .i64 (x.2 : Nat)] := by simp [Àa]
theorem Sv.append (h : Sv E w I g d c p rv refs) {x : Nat × Nat} (hn : w.heap.size ≤ w'.heap.size) (hk : w.grownBy w' rv.ownBlock) (ho : w'.ownsRow E.n₀ 93 2 rv' (refs.length + 1) (Àa refs ++ [.int .i64 (x.1 : Nat), .int .i64 (x.2 : Nat)])) (hb : rv'.ownBlock = rv.ownBlock ∨ rv'.ownBlock = some w.heap.size) (hl : refs.length + 1 ≤ 300) :
 Sv E (w'.setCell ⟨E.rb, 5, none⟩ rv') I g d c p rv' (refs ++ [x]) := by
 have hlt := h.ub_lt;have hrl := h.blk.lt
 have hob : ∀ i, i < w.heap.size → rv.ownBlock ≠ some i → rv'.ownBlock ≠ some i := fun i hi h1 h2 => by
  rcases hb with e | e
  ·exact h1 (e.symm.trans h2)
  ·rw [e] at h2; have := Option.some.inj h2; omega
 have hst : ∀ i, i ≠ E.rb → i < w.heap.size → rv.ownBlock ≠ some i → (w'.setCell ⟨E.rb, 5, none⟩ rv').heap[i]? = w.heap[i]? := fun i h1 h2 h3 => (Below.heap_setCell _ _ _ _ h1).trans (hk.block i h2 (fun e => h3 e.symm))
 have hs : (w'.setCell ⟨E.rb, 5, none⟩ rv').heap.size = w'.heap.size := by simp [World.setCell]
 obtain ⟨⟨cs1, t1, z1, hh1, g1⟩, cs2, t2, z2, hh2, g2⟩ := h.ty;have n1 := h.ne
 refine ⟨?_, h.len, fun i u hu => ?_, fun i a ha => ?_, ?_, ⟨n1.1, n1.2.1, hob _ hrl n1.2.2.1, hob _ hlt.1 n1.2.2.2.1, hob _ hlt.2 n1.2.2.2.2.1, n1.2.2.2.2.2⟩,
  ⟨⟨cs1, t1, z1, (hst _ n1.1 hlt.1 n1.2.2.2.1).trans hh1, g1⟩, cs2, t2, z2, (hst _ n1.2.1 hlt.2 n1.2.2.2.2.1).trans hh2, g2⟩, ⟨h.bnd.1, h.bnd.2.1, h.bnd.2.2.1, h.bnd.2.2.2.1, h.bnd.2.2.2.2.1, by simpa using hl⟩⟩
 ·have hb' : Blk w' E.rb 91 _ := (hk.block E.rb hrl (fun e => n1.2.2.1 e.symm)).trans h.blk
  have := hb'.set_ 5 rv';simpa using this
 ·obtain ⟨h1, h2, h3⟩ := h.us i u hu
  exact ⟨h1, by rw [hs]; omega, (Ì (hst _ n1.1 h2 n1.2.2.2.1) _).trans h3⟩
 ·obtain ⟨h1, h2, h3⟩ := h.at_ i a ha
  exact ⟨h1, by rw [hs]; omega, (Ì (hst _ n1.2.1 h2 n1.2.2.2.2.1) _).trans h3⟩
 ·rw [ÈA, ă]
  refine Þ ho fun i hi => Below.heap_setCell _ _ _ _ ?_
  rintro rfl;exact hob _ hrl n1.2.2.1 hi.symm
theorem FrR.append (h : FrR E w0 rv w rv) (hk : w.grownBy w' rv.ownBlock) (hb : rv'.ownBlock = rv.ownBlock ∨ rv'.ownBlock = some w.heap.size) : FrR E w0 rv w' rv' :=
 h.trans ⟨hk.os, hk.tape, hk.output, hk.size, fun i hi _ h2 => hk.block i hi (fun e => h2 e.symm), fun k hk' => by
  rcases hb with e | e
  ·exact .inl (e.symm.trans hk')
  ·rw [e] at hk'; exact .inr (by have := Option.some.inj hk'; omega)⟩
end
section
open Go.RowKit
open Go.Proofs.YtpginkdkblmnbaaGreatDoor.Cl (Rg à Ý Ä ò Î Á)
variable {w w' w0 : World} {E : RE} {σ σ1 : St} {I g d c p : Nat} {rv rv' : Value} {refs : List (Nat × Nat)} {f : Flt}
def Ñs (nd : Nd) : Bool := !decide (nd.kind = 9)
theorem Sv.rvs (h : Sv E w I g d c p rv refs) : ∃ A n c, rv = .slice A n c := by
 rcases h.own.2 with ⟨rfl, _⟩ | ⟨b, cap, cur, rfl, _⟩
 ·exact ⟨_, _, _, rfl⟩
 ·exact ⟨_, _, _, rfl⟩
theorem ÁD (h : Sv E w I g d c p rv refs) : w.heap.size ≠ E.rb ∧ w.heap.size ≠ E.ub ∧ w.heap.size ≠ E.ab ∧ rv.ownBlock ≠ some w.heap.size := by
 have h1 := h.blk.lt;have h2 := h.ub_lt
 refine ⟨by omega, by omega, by omega, fun e => ?_⟩
 have := (h.own_lt e).1;omega
theorem Ű {b : Nat} (hF : FrR E w rv w' rv') (hb : b < w.heap.size) (h : b ≠ E.rb ∧ b ≠ E.ub ∧ b ≠ E.ab ∧ rv.ownBlock ≠ some b) : b ≠ E.rb ∧ b ≠ E.ub ∧ b ≠ E.ab ∧ rv'.ownBlock ≠ some b :=
 ⟨h.1, h.2.1, h.2.2.1, fun e => by
   rcases hF.row b e with e | e
   ·exact h.2.2.2 e
   ·omega⟩
theorem ÂX {base base' : Nat} {nd : Nd} {pv kv : Value} {nb : Bool} (hb : base' ≤ base) (h : Ó (KQ base w rv) w nd pv nb kv) : Ó (KQ base' w rv) w nd pv nb kv := h.keep fun _ hi => ⟨hi.less hb, rfl⟩
theorem ÇH {base base' : Nat} {v : Value} {l : List Rg} (h : PV base w v l) (hb : base' ≤ base) (ho : ∀ k, rv.ownBlock = some k → k < base) : Đ (KQ base' w rv) w v l :=
 Đ.keep h fun i hi => ⟨⟨ē hb hi.1, hi.2, fun e => by have := ho i e; have := hi.1; omega⟩, rfl⟩
theorem ű {base : Nat} {k lo hi m r : Int} {set P : List Rg} {pv : Value} {nb : Bool} {c0 c1 c2 c3 c4 c5 c6 c7 : Value} (h : Đ (KQ (base + 1) w rv) w pv P) (hset : k = 1 → Äd P nb = set) :
 Ó (KQ base (st8 w base c0 c1 c2 c3 c4 c5 c6 c7) rv) (st8 w base c0 c1 c2 c3 c4 c5 c6 c7) (.mk k lo hi m r set []) pv nb (.slice none 0 0) :=
 ÂX (Nat.le_succ _) (Äz (Nat.lt_succ_self _) (Ó.leaf h hset))
theorem ÂY (w : World) (cs : Array Value) (t : TypeId) (j : Nat) (y : Value) (h : cs[j]? = some y) : (w.alloc (.cells cs t)).cell? ((⟨w.heap.size, 0, none⟩ : Addr).add j) = some y := by
 have hadd : (⟨w.heap.size, 0, none⟩ : Addr).add j = ⟨w.heap.size, 0 + j, none⟩ := by unfold Addr.add; split <;> simp_all
 rw [hadd, ĉ, cell_of_row _ w.heap.size _ _ _ _ (heap_alloc_new w _)];exact h
theorem Gd.refAt (h : Gd E w0 σ d rv I refs) (hn : σ.t ≠ []) (hp : Pos E.s (σ.adv 2) (I + 2)) (hN : I + 2 ≤ E.N) (hs : Sv E w (I + 2) σ.g d 0 0 rv' (refs ++ [(Í σ.t - 48, I)])) : Gd E w (refAt σ) d rv' (I + 2) (refs ++ [(Í σ.t - 48, I)]) := by
 refine ⟨hs, ⟨hp.suf, hp.le, hp.units, hp.begins⟩, by simp [Go.Proofs.YtpginkdkblmnbaaGreatDoor.refAt, h.refl], fun j r b hr hb => ?_, h.deep, hN, by have := h.rl; simp; omega⟩
 rcases Nat.lt_or_ge j refs.length with hlt | hge
 ·rw [List.getElem?_append_left hlt] at hr
  have hb' : (σ.bk ++ [(Í σ.t - 48, σ.pos)])[j]? = some b := hb
  rw [List.getElem?_append_left (by rw [← h.refl]; exact hlt)] at hb'
  exact h.same j r b hr hb'
 ·have hb' : (σ.bk ++ [(Í σ.t - 48, σ.pos)])[j]? = some b := hb
  rw [List.getElem?_append_right hge] at hr
  rw [List.getElem?_append_right (by rw [← h.refl]; exact hge)] at hb'
  have hj : j = refs.length := by
   have := (List.getElem?_eq_some_iff.1 hr).1;simp at this;omega
  subst hj;rw [h.refl] at hb';simp at hr hb';subst hr hb';exact ⟨rfl, h.pos.at_ hn⟩
theorem À {b : Nat} {t : TypeId} {cs : Array Value} (hF : FrR E w rv w' rv') (hB : Blk w b t cs) (h : b ≠ E.rb ∧ b ≠ E.ub ∧ b ≠ E.ab ∧ rv.ownBlock ≠ some b) : Blk w' b t cs := (hF.block b hB.lt h.1 h.2.2.2).trans hB
set_option maxRecDepth 100000 in
set_option maxHeartbeats 1000000 in
theorem ÉU (h : Gd E w0 σ d rv I refs) (hs : Sv E w (I + 1) σ.g d 0 0 rv refs) (h92 : at_ σ.t 0 = 92) : Calls Tryz.prog 106 #[.pointer (some ⟨E.rb, 0, none⟩), .int .i64 (I : Nat)] w (NP E d rv w Ñs (ó σ)) := by
 obtain ⟨RA, RN, RC, rfl⟩ := hs.rvs
 have hn : σ.t ≠ [] := Àf (by omega)
 have hlt := h.lt hn;have h256 := hs.n256;have HG := ħ h
 have hnx : nx σ.t = (92, 1) := by rw [ş hn (by omega), h92]
 have hgne := ÁD hs;have HB0 := ħ (Blk.new w 38 #[.int .i64 0, .int .i64 0, .int .i64 0, .int .i64 0, .int .i64 0, .slice none 0 0, .bool false, .slice none 0 0]);have hF0 : FrR E w (Value.slice RA RN RC) (w.alloc (.cells #[.int .i64 0, .int .i64 0, .int .i64 0, .int .i64 0, .int .i64 0, .slice none 0 0, .bool false, .slice none 0 0] 38)) (Value.slice RA RN RC) := (FrR.refl w).alloc _;have HS0 := ħ (hs.alloc (.cells #[.int .i64 0, .int .i64 0, .int .i64 0, .int .i64 0, .int .i64 0, .slice none 0 0, .bool false, .slice none 0 0] 38))
 have hsz0 : (w.alloc (.cells #[.int .i64 0, .int .i64 0, .int .i64 0, .int .i64 0, .int .i64 0, .slice none 0 0, .bool false, .slice none 0 0] 38)).heap.size = w.heap.size + 1 := by simp
 have HST2 : Hid (∀ W, Sv E W (I + 1) σ.g d 0 0 (Value.slice RA RN RC) refs → Sv E (W.setCell ⟨E.rb, 2, none⟩ (.int .i64 ((I : Int) + 1 + 1))) (I + 2) σ.g d 0 0 (Value.slice RA RN RC) refs) := ħ (fun W hW => by
  have := hW.setI (J := I + 2) (by omega)
  rwa [show ((I + 2 : Nat) : Int) = (I : Int) + 1 + 1 from by omega] at this)
 have HO1 : Hid (∀ W, Sv E W (I + 1) σ.g d 0 0 (Value.slice RA RN RC) refs → Calls Tryz.prog 61 #[.pointer (some ⟨E.rb, 0, none⟩), .int .i64 0] W fun e w' => e = .returned (.int .i64 (onN σ.t 1)) ∧ ∃ m, w' = W.drewN m) := ħ (fun W hW => by
  have := on0 hW
  rwa [HG.o.onI 1] at this)
 have HFl := ħ (fun W (hW : Sv E W (I + 2) σ.g d 0 0 (Value.slice RA RN RC) refs) => Ō (σ0 := σ) (I0 := I) 21 (by omega) HG.o.atI hW)
 have hlet := Ës h92;have hr1 := Æt σ.t 1
 have HSi := ħ (fun W u (hW : Sv E W (I + 2) σ.g d 0 0 (Value.slice RA RN RC) refs) (hu : u = onN σ.t 1) (h0 : 0 ≤ u) => Æz HG.o hW h92 u hu h0)
 have hneg : onN σ.t 1 < 0 → Í σ.t = 0 := fun hh => by
  have h1 : onN σ.t 1 = onN (σ.t.drop 1) 0 := by rw [Äb hn 0, hnx]
  rw [h1] at hh;have := Æs.1 hh;unfold Í;rw [if_pos h92]
  have e : at_ σ.t 1 = at_ (σ.t.drop 1) 0 := by rw [Àl]
  rw [e, this];rfl
 obtain ⟨u, hu⟩ : ∃ u, u = onN σ.t 1 := ⟨_, rfl⟩;rw [← hu] at HO1 hlet hr1 hneg;have HU := ħ hu
 have HX2 : Hid (0 ≤ u → u < 128 → Pos E.s (σ.adv 2) (I + 2)) := ħ (fun q0 hl => by
  rcases hlet q0 with ⟨_, _, h1, h2⟩ | ⟨h1, _⟩
  ·exact Èx HG.o.pos h92 h1 h2
  ·omega)
 have hN2 : 0 ≤ u → I + 2 ≤ E.N := fun q0 => by
  have : 0 ≤ onI E (I + 1) := by rw [HG.o.onI 1, ← hu]; exact q0
  obtain ⟨_, _, _, h⟩ := ÀK this;omega
 obtain ⟨r, hr⟩ : ∃ r, r = ó σ := ⟨_, rfl⟩;rw [← hr];have HR := ħ hr;have hrl := h.rl;clear hu hnx hs h hn hr;go_enter Tryz.func106, Tryz.ntmps106
 go_upto_region 1 with (fail)
 have hb0 : w.heap.size < (w.alloc (.cells #[.int .i64 0, .int .i64 0, .int .i64 0, .int .i64 0, .int .i64 0, .slice none 0 0, .bool false, .slice none 0 0] 38)).heap.size := by omega
 generalize w.alloc (.cells #[.int .i64 0, .int .i64 0, .int .i64 0, .int .i64 0, .int .i64 0, .slice none 0 0, .bool false, .slice none 0 0] 38) = wa at *
 go_wp2_with fail
 refine (HO1.o _ HS0.o).mono ?_;rintro e w3 ⟨rfl, m3, hw3⟩
 have HS3 : Hid (Sv E w3 (I + 1) σ.g d 0 0 (Value.slice RA RN RC) refs) := ħ (by rw [hw3]; exact HS0.o.drewN _)
 have HF3 : Hid (FrR E w (Value.slice RA RN RC) w3 (Value.slice RA RN RC)) := ħ (by rw [hw3]; exact hF0.drewN _)
 have HB3 : Hid (Blk w3 w.heap.size 38 #[.int .i64 0, .int .i64 0, .int .i64 0, .int .i64 0, .int .i64 0, .slice none 0 0, .bool false, .slice none 0 0]) := ħ (by rw [hw3]; exact HB0.o)
 have hs3 : wa.heap.size = w3.heap.size := by rw [hw3]; rfl
 clear hw3;obtain ⟨_, _, c2, _⟩ := HS3.o.ten;rw [Int.natCast_add] at c2;have f2 := HS3.o.fz 2
 go_upto_region 3 with (fail)
 have HS4 := ħ (HST2.o _ HS3.o);have HF4 := ħ (HF3.o.set_ (q := ⟨E.rb, 2, none⟩) (.inl rfl) (.int .i64 ((I : Int) + 1 + 1)));have HB4 := ħ (HB3.o.far (p := ⟨E.rb, 2, none⟩) hgne.1 (.int .i64 ((I : Int) + 1 + 1)))
 have hs4 : (w3.setCell ⟨E.rb, 2, none⟩ (.int .i64 ((I : Int) + 1 + 1))).heap.size = w3.heap.size := by simp [World.setCell]
 clear c2 f2;generalize w3.setCell ⟨E.rb, 2, none⟩ (.int .i64 ((I : Int) + 1 + 1)) = w4 at *
 have hsz4 : w.heap.size < w4.heap.size := by omega
 clear hs3 hs4 HB0 HB3 HS0 HS3 HF3 hF0
 by_cases q0 : u < 0
 ·have hs0 := hneg q0
  obtain rfl : r = .error (21, σ.pos) := by
   rw [HR.o];unfold ó Ð;simp [hs0, ð, units, Ť]
  go_wp2_with fail
  refine (HFl.o _ HS4.o).mono ?_;rintro e w5 ⟨rfl, hF5, hB5⟩;have HB5 := ħ (À hF5 HB4.o hgne);have hg5 := Ű hF5 hsz4 hgne;have hz := HB5.o.eight;have hfz := HB5.o.frozen;go_wp2;exact ō rfl rfl rfl rfl (Æ HB5.o) ⟨(Value.slice RA RN RC), _, true, rfl, ⟨0, 0, 0, 0, 0, none, none, 0, 0, 0, 0, false, rfl⟩, Û (ŋ _) (HF4.o.trans hF5), ĭ hg5 hB5⟩
 have hq0 : 0 ≤ u := by omega
 have hS2N := hN2 hq0
 have HGd : Hid (u < 128 → ∀ W, Sv E W (I + 2) σ.g d 0 0 (Value.slice RA RN RC) refs → Gd E W (σ.adv 2) d (Value.slice RA RN RC) (I + 2) refs) := ħ (fun hl W hW => HG.o.move hW (HX2.o hq0 hl) rfl rfl (by omega) hS2N)
 cases hsh : shB u with
 | true =>
  have hul : u < 128 := by unfold shB at hsh; have := of_decide_eq_true hsh; omega
  have hus : u = (Í σ.t : Int) := by
   rcases hlet hq0 with ⟨h1, _⟩ | ⟨h1, _⟩
   ·exact h1
   ·omega
  have hlow : (Ť (Í σ.t)).isSome = true := by rw [← Åt, ← hus]; exact hsh
  obtain ⟨l, hl⟩ := Option.isSome_iff_exists.1 hlow;have hcs := Ág hl;have hset := ÏX hl
  obtain rfl : r = .ok (Âa (Äd l (bgB u)), σ.adv 2) := by
   rw [HR.o];unfold ó
   rw [if_neg (by omega), if_neg (by omega), if_neg (by omega)]
   have hun : units (Í σ.t) = some (Äd l (bgB u)) := by
    unfold units Äd bgB;rw [hl, hset, hus]
    by_cases hc : 65 ≤ Í σ.t ∧ Í σ.t ≤ 90
    ·rw [if_pos hc, if_pos (by rw [decide_eq_true_eq]; omega)]; rfl
    ·rw [if_neg hc, if_neg (by rw [decide_eq_true_eq]; omega)]
   rw [hun]
  have HKd := ħ (fun W => Æx (w := W) (Í σ.t) l hl)
  rw [← hus] at HKd;clear hus hlow hcs hset hlet;obtain ⟨bg, hbg⟩ : ∃ b, bgB u = b := ⟨_, rfl⟩;have HBg := ħ hbg
  have HO4 : Hid (∀ k, (Value.slice RA RN RC).ownBlock = some k → k < w4.heap.size) := ħ (fun k hk => (HS4.o.own_lt hk).1)
  go_wp2_with fail
  refine (ï u true hsh).mono ?_;rintro e w4b ⟨rfl, rfl⟩
  go_wp2_with fail
  refine (HKd.o _).mono ?_;rintro e w5 ⟨A, n, rfl, hp5, hb5⟩
  go_wp2_with fail
  refine (Ŝ u bg hbg).mono ?_;rintro e w5b ⟨rfl, rfl⟩;have HB5 := ħ (HB4.o.on hb5);have hz := HB5.o.eight;have hfz := HB5.o.frozen;have HP5 := ħ hp5;have HS5 := ħ (HS4.o.on hb5);have HF5 := ħ (HF4.o.trans (FrR.of_below hb5));clear hp5;go_wp2
  exact ō rfl rfl rfl rfl (Æ HB5.o) ⟨(Value.slice RA RN RC), I + 2, refs, A, _, n, bg, none, 0, rfl, ű (P := l) (ÇH HP5.o hsz4 HO4.o) (fun _ => by rw [← HBg.o]), Û (ŋ _) HF5.o, ŗ hgne (HGd.o hul _ HS5.o)⟩
 | false =>
  have hz := HB4.o.eight;have hfz := HB4.o.frozen
  have hno : units (Í σ.t) = none := by
   have hl : Ť (Í σ.t) = none := by
    rcases hlet hq0 with ⟨h1, _⟩ | ⟨_, h1⟩
    ·have := hsh
     rw [h1, Åt] at this
     exact Option.isNone_iff_eq_none.1 (by simpa using this)
    ·unfold Ť
     rw [if_neg (by omega), if_neg (by omega), if_neg (by omega)]
   unfold units;rw [hl]
   split <;> rfl
  by_cases h98 : u = 98
  ·subst h98
   have hsn : Í σ.t = 98 := by
    rcases hlet hq0 with ⟨h1, _⟩ | ⟨h1, _⟩ <;> omega
   obtain rfl : r = .ok (Áw 2, σ.adv 2) := by
    rw [HR.o]; unfold ó; rw [if_pos hsn]
   go_wp2_with fail
   refine (ï 98 false hsh).mono ?_;rintro e w4b ⟨rfl, rfl⟩;go_wp2
   exact ō rfl rfl rfl rfl (Æ HB4.o) ⟨(Value.slice RA RN RC), I + 2, refs, none, 0, 0, false, none, 0, rfl, ű (P := []) (Đ.nil _ _) (fun e => by cases e), Û (ŋ _) HF4.o, ŗ hgne (HGd.o (by omega) _ HS4.o)⟩
  have k98 : (u == 98) = false := by simp [h98]
  by_cases h66 : u = 66
  ·subst h66
   have hsn : Í σ.t = 66 := by
    rcases hlet hq0 with ⟨h1, _⟩ | ⟨h1, _⟩ <;> omega
   obtain rfl : r = .ok (Áw 3, σ.adv 2) := by
    rw [HR.o]; unfold ó; rw [if_neg (by omega), if_pos hsn]
   go_wp2_with fail
   refine (ï 66 false hsh).mono ?_;rintro e w4b ⟨rfl, rfl⟩;go_wp2
   exact ō rfl rfl rfl rfl (Æ HB4.o) ⟨(Value.slice RA RN RC), I + 2, refs, none, 0, 0, false, none, 0, rfl, ű (P := []) (Đ.nil _ _) (fun e => by cases e), Û (ŋ _) HF4.o, ŗ hgne (HGd.o (by omega) _ HS4.o)⟩
  have k66 : (u == 66) = false := by simp [h66]
  have hnsn : Í σ.t ≠ 98 ∧ Í σ.t ≠ 66 := by
   rcases hlet hq0 with ⟨h1, _⟩ | ⟨_, h1⟩ <;> omega
  by_cases hdg : 49 ≤ u ∧ u ≤ 57
  ·obtain ⟨d1, d2⟩ := hdg
   have hsn : u = (Í σ.t : Int) := by
    rcases hlet hq0 with ⟨h1, _⟩ | ⟨h1, _⟩
    ·exact h1
    ·omega
   obtain rfl : r = .ok (ËJ (Í σ.t - 48), refAt σ) := by
    rw [HR.o]; unfold ó; rw [if_neg hnsn.1, if_neg hnsn.2, if_pos (by omega)]
   have hn : σ.t ≠ [] := Àf (by omega)
   have hx : (u - 48) = ((Í σ.t - 48 : Nat) : Int) := by omega
   have HXe := ħ hx;obtain ⟨i0, hi, hz0, hz1, hz2⟩ := Á Ìl;have HS5 := ħ (HS4.o.alloc (.cells #[.int .i64 (u - 48), .int .i64 (I : Nat)] 93));have hO5 := HS5.o.own;have hlit := ÂY w4 #[.int .i64 (u - 48), .int .i64 (I : Nat)] 93
   have hn0 : E.n₀ ≤ (w4.alloc (.cells #[.int .i64 (u - 48), .int .i64 (I : Nat)] 93)).heap.size := by
    have h1 := HS4.o.ne.2.2.2.2.2;have h2 := HS4.o.blk.lt;simp; omega
   have HB5 := ħ (HB4.o.alloc (.cells #[.int .i64 (u - 48), .int .i64 (I : Nat)] 93));have HF5 := ħ (HF4.o.alloc (.cells #[.int .i64 (u - 48), .int .i64 (I : Nat)] 93))
   have hs5 : (w4.alloc (.cells #[.int .i64 (u - 48), .int .i64 (I : Nat)] 93)).heap.size = w4.heap.size + 1 := by simp
   obtain ⟨_, _, _, _, _, c5, _⟩ := HS4.o.ten;have f5 := HS4.o.fz 5
   have hX2 := HX2.o hq0 (by omega)
   have HX3 := ħ hX2
   have hg4 : w.heap.size < (w4.alloc (.cells #[.int .i64 (u - 48), .int .i64 (I : Nat)] 93)).heap.size := by omega
   have hrbl : E.rb < (w4.alloc (.cells #[.int .i64 (u - 48), .int .i64 (I : Nat)] 93)).heap.size := HS5.o.blk.lt;have hown1 := HS4.o.ne.2.2.1;clear hX2 hx hz hfz hno hnsn hlet hsn
   go_wp2_with fail
   refine (ï u false hsh).mono ?_;rintro e w4b ⟨rfl, rfl⟩
   go_wp2_with (at_builtin; refine ÿ rfl _ _ 35 rfl E.n₀ 93 i0 (.agg #[.int .i64 0, .int .i64 0]) 2 16 Tryz.underlying35 hi hz0 hz1 hz2 rfl (by decide) (Value.slice RA RN RC) refs.length (Àa refs) rfl hO5 ⟨w4b.heap.size, 0, none⟩ 1 1 [.int .i64 (u - 48), .int .i64 (I : Nat)] rfl rfl (fun j y hy => hlit j y (by simpa using hy)) (by intro y hy; simp at hy; rcases hy with rfl | rfl <;> rfl) (by unfold maxLen; omega) (by omega) hn0 ?_; intro v' w6 hown0 hgrow0 hwhere0; obtain ⟨gb, cb, hv', _⟩ := hown0.form (Nat.succ_pos _); subst hv'; have HOw := ħ hown0; have HGr := ħ hgrow0; have HWh := ħ hwhere0; clear hown0 hwhere0; have hB6 := (hgrow0.block w.heap.size hg4 (fun e => hgne.2.2.2 e.symm)).trans HB5.o; have hz6 := Blk.eight hB6; have hfz6 := Blk.frozen hB6; have hR6 := (hgrow0.block E.rb hrbl (fun e => hown1 e.symm)).trans HS5.o.blk; have hc6 := Blk.cell hR6 5; have hf6 := Blk.frozen hR6 5; clear hB6 hR6 hgrow0)
   have hown' := HOw.o;have hgrow := HGr.o;have hwhere := HWh.o
   have hS6 := Sv.append (x := (Í σ.t - 48, I)) HS5.o hgrow.size hgrow (by rw [← HXe.o]; exact hown') hwhere (by omega)
   have hF6 := (HF5.o.append hgrow hwhere).set_ (q := ⟨E.rb, 5, none⟩) (.inl rfl) (.slice (some ⟨gb, 0, none⟩) (refs.length + 1) cb)
   have hB6 : Blk w6 w.heap.size 38 #[.int .i64 0, .int .i64 0, .int .i64 0, .int .i64 0, .int .i64 0, .slice none 0 0, .bool false, .slice none 0 0] := (hgrow.block w.heap.size (by omega) (fun e => hgne.2.2.2 e.symm)).trans HB5.o
   have hB7 := hB6.far (p := ⟨E.rb, 5, none⟩) hgne.1 (.slice (some ⟨gb, 0, none⟩) (refs.length + 1) cb)
   have hne6 : (Value.slice (some ⟨gb, 0, none⟩) (refs.length + 1) cb).ownBlock ≠ some w.heap.size := fun e => by
    rcases hwhere with e' | e'
    ·exact hgne.2.2.2 (e'.symm.trans e)
    ·rw [e'] at e; have := Option.some.inj e; omega
   have HS6 := ħ hS6;have HF6 := ħ hF6;have HB7 := ħ hB7;clear hS6 hF6 hB6 hB7;rw [HXe.o]
   exact ō rfl rfl rfl rfl (Æ HB7.o) ⟨.slice (some ⟨gb, 0, none⟩) (refs.length + 1) cb, I + 2, _, none, 0, 0, false, none, 0, rfl, ű (P := []) (Đ.nil _ _) (fun e => by cases e), Û (ŋ _) HF6.o, ŗ ⟨hgne.1, hgne.2.1, hgne.2.2.1, hne6⟩ (Gd.refAt HG.o hn HX3.o hS2N HS6.o)⟩
  ·have hr2 : r = match Ð σ with | .error e => .error e | .ok (u, σ1) => .ok (Âa [((u : Int), (u : Int))], σ1) := by
    rw [HR.o]; unfold ó; rw [if_neg hnsn.1, if_neg hnsn.2, if_neg (by rcases hlet hq0 with ⟨h1, _⟩ | ⟨_, h1⟩ <;> omega), hno]
    rfl
   have HRR := ħ hr2
   have hO4 : ∀ k, (Value.slice RA RN RC).ownBlock = some k → k < w4.heap.size := fun k hk => (HS4.o.own_lt hk).1
   have HO4 := ħ hO4;clear hO4 hr2 hno hz hfz hlet
   by_cases d1 : 49 ≤ u
   ·have d2 : ¬ u ≤ 57 := by omega
    go_wp2_with fail
    refine (ï u false hsh).mono ?_;rintro e w4b ⟨rfl, rfl⟩
    go_wp2_with fail
    refine (HSi.o _ u HS4.o HU.o hq0).mono ?_;intro e w5 hp5
    cases hes : Ð σ with
    | error f =>
     have hr2 := HRR.o;rw [hes] at hr2 hp5;obtain ⟨rfl, hF5, hB5⟩ := hp5;obtain rfl := hr2;have HB5 := ħ (À hF5 HB4.o hgne);have hg5 := Ű hF5 hsz4 hgne;have hs5 := hF5.size
     go_wp2_with fail
     refine (Ŗ 0 0).mono ?_;rintro e w6 ⟨A, n, rfl, hp6, hb6⟩;have HB6 := ħ (HB5.o.on hb6);have hz := HB6.o.eight;have hfz := HB6.o.frozen;go_wp2;exact ō rfl rfl rfl rfl (Æ HB6.o) ⟨(Value.slice RA RN RC), _, true, rfl, ⟨1, 0, 0, 0, 0, A, none, 1, n, 0, 0, false, rfl⟩, Û (ŋ _) ((HF4.o.trans hF5).trans (FrR.of_below hb6)), ĭ hg5 (hB5.on hb6)⟩
    | ok x =>
     have hr2 := HRR.o;rw [hes] at hr2 hp5;obtain ⟨rfl, hF5, I', hG⟩ := hp5;obtain ⟨y, σ2⟩ := x;obtain rfl := hr2;simp only at hG;have HB5 := ħ (À hF5 HB4.o hgne);have hg5 := Ű hF5 hsz4 hgne;have hs5 := hF5.size
     have HO5 : Hid (∀ k, (Value.slice RA RN RC).ownBlock = some k → k < w5.heap.size) := ħ (fun k hk => (hG.sv.own_lt hk).1)
     go_wp2_with fail
     refine (Ŗ y y).mono ?_;rintro e w6 ⟨A, n, rfl, hp6, hb6⟩;have HB6 := ħ (HB5.o.on hb6);have hz := HB6.o.eight;have hfz := HB6.o.frozen;have HP6 := ħ hp6;clear hp6;go_wp2
     exact ō rfl rfl rfl rfl (Æ HB6.o) ⟨(Value.slice RA RN RC), I', refs, A, 1, n, false, none, 0, rfl, ű (P := [((y : Int), (y : Int))]) (ÇH HP6.o (by omega) HO5.o) (fun _ => Èz _), Û (ŋ _) ((HF4.o.trans hF5).trans (FrR.of_below hb6)), ŗ hg5 (hG.on hb6)⟩
   ·go_wp2_with fail
    refine (ï u false hsh).mono ?_;rintro e w4b ⟨rfl, rfl⟩
    go_wp2_with fail
    refine (HSi.o _ u HS4.o HU.o hq0).mono ?_;intro e w5 hp5
    cases hes : Ð σ with
    | error f =>
     have hr2 := HRR.o;rw [hes] at hr2 hp5;obtain ⟨rfl, hF5, hB5⟩ := hp5;obtain rfl := hr2;have HB5 := ħ (À hF5 HB4.o hgne);have hg5 := Ű hF5 hsz4 hgne;have hs5 := hF5.size
     go_wp2_with fail
     refine (Ŗ 0 0).mono ?_;rintro e w6 ⟨A, n, rfl, hp6, hb6⟩;have HB6 := ħ (HB5.o.on hb6);have hz := HB6.o.eight;have hfz := HB6.o.frozen;go_wp2;exact ō rfl rfl rfl rfl (Æ HB6.o) ⟨(Value.slice RA RN RC), _, true, rfl, ⟨1, 0, 0, 0, 0, A, none, 1, n, 0, 0, false, rfl⟩, Û (ŋ _) ((HF4.o.trans hF5).trans (FrR.of_below hb6)), ĭ hg5 (hB5.on hb6)⟩
    | ok x =>
     have hr2 := HRR.o;rw [hes] at hr2 hp5;obtain ⟨rfl, hF5, I', hG⟩ := hp5;obtain ⟨y, σ2⟩ := x;obtain rfl := hr2;simp only at hG;have HB5 := ħ (À hF5 HB4.o hgne);have hg5 := Ű hF5 hsz4 hgne;have hs5 := hF5.size
     have HO5 : Hid (∀ k, (Value.slice RA RN RC).ownBlock = some k → k < w5.heap.size) := ħ (fun k hk => (hG.sv.own_lt hk).1)
     go_wp2_with fail
     refine (Ŗ y y).mono ?_;rintro e w6 ⟨A, n, rfl, hp6, hb6⟩;have HB6 := ħ (HB5.o.on hb6);have hz := HB6.o.eight;have hfz := HB6.o.frozen;have HP6 := ħ hp6;clear hp6;go_wp2
     exact ō rfl rfl rfl rfl (Æ HB6.o) ⟨(Value.slice RA RN RC), I', refs, A, 1, n, false, none, 0, rfl, ű (P := [((y : Int), (y : Int))]) (ÇH HP6.o (by omega) HO5.o) (fun _ => Èz _), Û (ŋ _) ((HF4.o.trans hF5).trans (FrR.of_below hb6)), ŗ hg5 (hG.on hb6)⟩
end
section
open Go.RowKit
open Go.Proofs.YtpginkdkblmnbaaGreatDoor.Cl (Rg à Ý Ä ò Î Á)
variable {w w' w0 : World} {E : RE} {σ σ1 : St} {I g d c p : Nat} {rv rv' : Value} {refs : List (Nat × Nat)} {f : Flt}
theorem Bd.ten (h : Bd E w d rv f) : ∃ g, w.cell? ⟨E.rb, 0, none⟩ = some (.slice E.UA E.N E.uc) ∧ w.cell? ⟨E.rb, 2, none⟩ = some (.int .i64 (E.N : Nat)) ∧ w.cell? ⟨E.rb, 3, none⟩ = some (.int .i64 (g : Nat)) ∧ w.cell? ⟨E.rb, 4, none⟩ = some (.int .i64 (d : Nat)) ∧ w.cell? ⟨E.rb, 6, none⟩ = some (.int .i64 (f.1 : Nat)) ∧ ((f.1 : Int) == 0) = false ∧ ((f.1 : Int) != 0) = true := by
 obtain ⟨h0, g, refs, h⟩ := h;obtain ⟨c0, _, c2, c3, c4, _, c6, _⟩ := h.ten;refine ⟨g, c0, c2, c3, c4, c6, ?_, ?_⟩
 ·simp; omega
 ·simp; omega
theorem ù (ws : List UInt8) (hl : ws.length ≤ 10) (hw : ∀ x ∈ ws, 0 < x.toNat ∧ x.toNat < 128) (h : Gd E w σ d rv I refs) (b : Bool) (hb : pre ws σ.t = b) :
 Calls Tryz.prog 33 #[.pointer (some ⟨E.rb, 0, none⟩), .string ⟨ws.toArray⟩] w fun e w' => e = .returned (.bool b) ∧ FrR E w rv w' rv ∧ ∃ I', Gd E w' (if b then σ.adv ws.length else σ) d rv I' refs := by
 have h256 := h.sv.n256;have hle := h.le;have hB := h.isB hw
 refine (Ðq ws (by omega) (by omega) h.sv).mono ?_
 rintro e w' ⟨he, hF, hS⟩;rw [hB, hb] at he hS;refine ⟨he, hF, ?_⟩
 cases b with
 | false => exact ⟨I, h.move hS h.pos rfl rfl (ŋ _) hle⟩
 | true =>
  have hI : I + ws.length ≤ E.N := by
   rcases Nat.eq_zero_or_pos ws.length with h0 | h0
   ·omega
   ·have h1 := Äc.1 (hB.trans hb) (ws.length - 1) (by omega)
    have hx := hw (ws[ws.length - 1]'(by omega)) (Ē _)
    obtain ⟨_, _, _, h3⟩ := ÀK (E := E) (J := I + (ws.length - 1)) (by rw [h1]; omega)
    omega
  exact ⟨I + ws.length, h.move hS (h.pos.take hw hb) rfl rfl (by omega) hI⟩
theorem Ŀ {c : UInt8} {t : List UInt8} (hc : 0 < c.toNat) : pre [c] t = decide (at_ t 0 = c.toNat) := by
 cases t with
 | nil =>
  have : ¬ (0 : Nat) = c.toNat := by omega
  simp [pre, List.isPrefixOf, at_, this]
 | cons b r =>
  have e : at_ (b :: r) 0 = b.toNat := rfl;rw [e];unfold pre;simp only [List.isPrefixOf, Bool.and_true];rw [Bool.eq_iff_iff, beq_iff_eq, decide_eq_true_eq];constructor
  ·rintro rfl; rfl
  ·intro h; exact (UInt8.toNat_inj.1 h).symm
theorem ÇI {σ : St} {l : List Rg} {x : Nat} {σ1 : St} (h : Ãb σ = .ok ((some l, x), σ1)) : units (Í σ.t) = some l ∧ σ1 = σ.adv 2 := by
 unfold Ãb at h
 cases hu : units (Í σ.t) with
 | some l' => rw [hu] at h; cases h; exact ⟨rfl, rfl⟩
 | none =>
  rw [hu] at h
  cases hm : Ł σ with
  | error e => rw [hm] at h; cases h
  | ok y => rw [hm] at h; cases h
theorem ÉV {σ : St} {u : Nat} {σ1 : St} (h : Ãb σ = .ok ((none, u), σ1)) : units (Í σ.t) = none ∧ Ł σ = .ok (u, σ1) := by
 unfold Ãb at h
 cases hu : units (Í σ.t) with
 | some l' => rw [hu] at h; cases h
 | none =>
  rw [hu] at h
  cases hm : Ł σ with
  | error e => rw [hm] at h; cases h
  | ok y => rw [hm] at h; cases h; exact ⟨rfl, rfl⟩
theorem ÉW {σ : St} {f : Flt} (h : Ãb σ = .error f) : units (Í σ.t) = none ∧ Ł σ = .error f := by
 unfold Ãb at h
 cases hu : units (Í σ.t) with
 | some l' => rw [hu] at h; cases h
 | none =>
  rw [hu] at h
  cases hm : Ł σ with
  | error e => rw [hm] at h; cases h; exact ⟨rfl, rfl⟩
  | ok y => rw [hm] at h; cases h
theorem Íq {c : Nat} {l : List Rg} (h : units c = some l) : l ≠ [] ∧ l.length ≤ 5 := by
 obtain ⟨l0, h0, rfl⟩ := ÇG h;split
 ·exact ⟨(Èy h0).2.1, (Èy h0).2.2.1⟩
 ·exact ⟨(Ëu h0).1, by have := (Ëu h0).2; omega⟩
theorem Ñt {base : Nat} {v : Value} {l : List Rg} (h : PV base w v l) (hF : FrR E w rv w' rv') (hb : E.rb < base) (ho : ∀ k, rv.ownBlock = some k → k < base) : PV base w' v l :=
 Đ.keep h fun i hi => ⟨⟨hi.1, Ć hi.2 hF.size⟩, hF.block i hi.2 (by have := hi.1; omega) (fun e => by have := ho i e; have := hi.1; omega)⟩
def ÑD (E : RE) (d : Nat) (rv : Value) (refs : List (Nat × Nat)) (w : World) (σ : St) (e : Ending) (w' : World) : Prop :=
 ∃ l σ1 b o n I', Ú σ = .ok (l, σ1) ∧ l ≠ [] ∧ l.length ≤ 5 ∧ e = .returned (.slice (some ⟨b, o, none⟩) l.length n) ∧ PV w.heap.size w' (.slice (some ⟨b, o, none⟩) l.length n) l ∧ FrR E w rv w' rv ∧ Gd E w' σ1 d rv I' refs
def ÑE (E : RE) (d : Nat) (rv : Value) (w : World) (σ : St) (e : Ending) (w' : World) : Prop :=
 ∃ f l A n, e = .returned (.slice A l.length n) ∧ l.length ≤ 5 ∧ PV w.heap.size w' (.slice A l.length n) l ∧ FrR E w rv w' rv ∧ Bd E w' d rv f ∧ (Ú σ = .error f ∨ ∃ l σ1, Ú σ = .ok (l, σ1) ∧ at_ σ1.t 0 = 45 ∧ f = (22, σ1.pos))
set_option maxRecDepth 100000 in
set_option maxHeartbeats 1000000 in
theorem ÎR (h : Gd E w σ d rv I refs) (hn : σ.t ≠ []) (h1 : at_ σ.t 0 ≠ 91 ∧ at_ σ.t 0 ≠ 45) : Calls Tryz.prog 130 #[.pointer (some ⟨E.rb, 0, none⟩)] w fun e w' => ÑD E d rv refs w σ e w' ∨ ÑE E d rv w σ e w' := by
 have HM := ħ (ÄY h hn)
 have hmem : Ú σ = match units (Í σ.t) with
  | some l => .ok (l, σ.adv 2)
  | none => match Ł σ with
   | .error e => .error e
   | .ok (lo, σ1) =>
    if at_ σ1.t 0 = 45 then
     if ī (σ1.adv 1).t then
      match Ł (σ1.adv 1) with
      | .error e => .error e
      | .ok (hi, σ3) => if hi < lo then .error (22, σ.pos) else .ok ([((lo : Int), (hi : Int))], σ3)
     else .error (22, σ.pos)
    else .ok ([((lo : Int), (lo : Int))], σ1) := by
  unfold Ú
  rw [if_neg (by omega)]
  rfl
 have HME := ħ hmem;have HG := ħ h;have hrb := h.sv.blk.lt
 have hro : Hid (∀ k, rv.ownBlock = some k → k < w.heap.size) := ħ (fun k hk => (h.sv.own_lt hk).1)
 obtain ⟨_, _, c2, _⟩ := h.sv.ten
 have HFl := ħ (fun W J gg (hW : Sv E W J gg d 0 0 rv refs) => Ō (σ0 := σ) (I0 := I) 22 (by omega) h.atI hW)
 clear hmem h1;go_enter Tryz.func130, Tryz.ntmps130
 go_wp2_with fail
 refine HM.o.mono ?_;intro e w1 hp
 cases hm : Ãb σ with
 | error f =>
  obtain ⟨hu, hmu⟩ := ÉW hm;rw [hm] at hp;obtain ⟨rfl, hF, hB⟩ := hp;obtain ⟨_, _, _, _, _, c6, n1, n2⟩ := hB.ten
  have HR : Hid (Ú σ = .error f) := ħ (by rw [HME.o, hu, hmu])
  go_wp2;go_ret
  exact .inr ⟨f, [], none, 0, rfl, by simp, Đ.nil _ _, hF, hB, .inl HR.o⟩
 | ok x =>
  obtain ⟨⟨ol, u⟩, σ1⟩ := x;rw [hm] at hp
  cases ol with
  | some l =>
   obtain ⟨hu, rfl⟩ := ÇI hm;obtain ⟨b, o, n, rfl, hpv, hF, I', hG⟩ := hp;obtain ⟨hl1, hl2⟩ := Íq hu
   have HR : Hid (Ú σ = .ok (l, σ.adv 2)) := ħ (by rw [HME.o, hu])
   obtain ⟨_, _, c2', _, _, _, c6, _⟩ := hG.sv.ten;have HO := ħ (on0 hG.sv);rw [ÃA hG] at HO;have HG1 := ħ hG;have HPV := ħ hpv
   have hdash := Ŋ (t := (σ.adv 2).t) (c := 45) (by omega) (by omega)
   obtain ⟨v, hv⟩ : ∃ v, v = onN (σ.adv 2).t 0 := ⟨_, rfl⟩;rw [← hv] at HO hdash;clear hv hm hu hG hpv
   by_cases hd : v = 45
   ·subst hd
    have h45 := hdash.1 rfl
    have HF2 := ħ (fun W (hW : Sv E W I' (σ.adv 2).g d 0 0 rv refs) => Ō (σ0 := σ.adv 2) (I0 := I') 22 (by omega) HG1.o.atI hW)
    go_wp2_with fail
    refine HO.o.mono ?_;rintro e w2 ⟨rfl, m2, hw2⟩
    have HS2 : Hid (Sv E w2 I' (σ.adv 2).g d 0 0 rv refs) := ħ (by rw [hw2]; exact HG1.o.sv.drewN _)
    have HFr2 : Hid (FrR E w rv w2 rv) := ħ (by rw [hw2]; exact hF.drewN _)
    have HP2 : Hid (PV w.heap.size w2 (.slice (some ⟨b, o, none⟩) l.length n) l) := ħ (by rw [hw2]; exact HPV.o)
    clear hw2 c2' c6;obtain ⟨_, _, c2', _⟩ := HS2.o.ten
    go_wp2_with fail
    refine (HF2.o _ HS2.o).mono ?_;rintro e w3 ⟨rfl, hF3, hB3⟩;go_wp2;go_ret;exact .inr ⟨_, l, _, n, rfl, hl2, Ñt HP2.o hF3 hrb hro.o, HFr2.o.trans hF3, hB3, .inr ⟨l, _, HR.o, h45, rfl⟩⟩
   ·have hd' : (v == 45) = false := by simp [hd]
    go_wp2_with fail
    refine HO.o.mono ?_;rintro e w2 ⟨rfl, m2, hw2⟩
    have HG2 : Hid (Gd E w2 (σ.adv 2) d rv I' refs) := ħ (by rw [hw2]; exact HG1.o.drewN _)
    have HFr2 : Hid (FrR E w rv w2 rv) := ħ (by rw [hw2]; exact hF.drewN _)
    have HP2 : Hid (PV w.heap.size w2 (.slice (some ⟨b, o, none⟩) l.length n) l) := ħ (by rw [hw2]; exact HPV.o)
    clear hw2;go_wp2;go_ret;exact .inl ⟨l, _, b, o, n, I', HR.o, hl1, hl2, rfl, HP2.o, HFr2.o, HG2.o⟩
  | none =>
   obtain ⟨hu, hmu⟩ := ÉV hm;obtain ⟨rfl, hF, I', hG⟩ := hp
   have HMR : Hid (Ú σ = if at_ σ1.t 0 = 45 then (if ī (σ1.adv 1).t then (match Ł (σ1.adv 1) with | .error e => .error e | .ok (hi, σ3) => if hi < u then .error (22, σ.pos) else .ok ([((u : Int), (hi : Int))], σ3)) else .error (22, σ.pos)) else .ok ([((u : Int), (u : Int))], σ1)) := ħ (by
    rw [HME.o, hu, hmu])
   obtain ⟨_, _, _, _, _, _, c6, _⟩ := hG.sv.ten;have HG1 := ħ hG
   have hpre := Ŀ (c := 45) (t := σ1.t) (by decide)
   clear hu hmu hm hG
   by_cases h45 : at_ σ1.t 0 = 45
   ·have hb : pre [45] σ1.t = true := by rw [hpre]; exact decide_eq_true h45
    have HI := ħ (ù [45] (by simp) (by simp) HG1.o true hb)
    have hMR := HMR.o;rw [if_pos h45] at hMR;have HMR2 := ħ hMR;clear hMR hpre hb HMR HME
    go_wp2_with fail
    refine HI.o.mono ?_;rintro e w2 ⟨rfl, hF2, I2, hG2⟩;simp only [if_true, ć, Ď, ĉ] at hG2;have HF2 := ħ (hF.trans hF2);have HG2 := ħ hG2;have HO := ħ (on0 hG2.sv);rw [ÃA hG2] at HO;have hr := Æt (σ1.adv 1).t 0
    have s91 := Ŋ (t := (σ1.adv 1).t) (c := 91) (by omega) (by omega)
    have s93 := Ŋ (t := (σ1.adv 1).t) (c := 93) (by omega) (by omega)
    have s45 := Ŋ (t := (σ1.adv 1).t) (c := 45) (by omega) (by omega)
    have sneg := Æs (t := (σ1.adv 1).t)
    have HM2 := ħ (fun W (hW : Gd E W (σ1.adv 1) d rv I2 refs) hne => ÄY hW hne)
    have hse : ī (σ1.adv 1).t = (!(σ1.adv 1).t.isEmpty && !decide (at_ (σ1.adv 1).t 0 = 91 ∨ at_ (σ1.adv 1).t 0 = 93 ∨ at_ (σ1.adv 1).t 0 = 45) && (units (Í (σ1.adv 1).t)).isNone) := rfl;have HSE := ħ hse;clear hG2 hF hF2 c6;obtain ⟨v, hv⟩ : ∃ v, v = onN (σ1.adv 1).t 0 := ⟨_, rfl⟩;rw [← hv] at HO hr s91 s93 s45 sneg;clear hv hse;obtain ⟨_, _, _, _, _, _, c6, _⟩ := HG2.o.sv.ten
    by_cases hbad : v < 0 ∨ v = 91 ∨ v = 93 ∨ v = 45
    ·have hns : ī (σ1.adv 1).t = false := by
      rw [HSE.o]
      rcases hbad with hb | hb | hb | hb
      ·have := sneg.1 hb; simp [this]
      ·have := s91.1 (by omega); simp [this]
      ·have := s93.1 (by omega); simp [this]
      ·have := s45.1 (by omega); simp [this]
     have HR : Hid (Ú σ = .error (22, σ.pos)) := ħ (by rw [HMR2.o, hns]; rfl)
     clear hns s91 s93 s45 sneg
     by_cases g1 : v < 0
     ·go_wp2_with fail
      refine HO.o.mono ?_;rintro e w3 ⟨rfl, m3, hw3⟩
      have HG3 : Hid (Gd E w3 (σ1.adv 1) d rv I2 refs) := ħ (by rw [hw3]; exact HG2.o.drewN _)
      have HF3 : Hid (FrR E w rv w3 rv) := ħ (by rw [hw3]; exact HF2.o.drewN _)
      clear hw3 c6;obtain ⟨_, _, _, _, _, _, c6, _⟩ := HG3.o.sv.ten
      go_wp2_with fail
      refine (HFl.o _ _ _ HG3.o.sv).mono ?_;rintro e w4 ⟨rfl, hF4, hB4⟩;go_wp2;go_ret
      exact .inr ⟨(22, σ.pos), [], none, 0, rfl, by simp, Đ.nil _ _, HF3.o.trans hF4, hB4, .inl HR.o⟩
     by_cases g2 : v = 91
     ·subst g2
      go_wp2_with fail
      refine HO.o.mono ?_;rintro e w3 ⟨rfl, m3, hw3⟩
      have HG3 : Hid (Gd E w3 (σ1.adv 1) d rv I2 refs) := ħ (by rw [hw3]; exact HG2.o.drewN _)
      have HF3 : Hid (FrR E w rv w3 rv) := ħ (by rw [hw3]; exact HF2.o.drewN _)
      clear hw3 c6;obtain ⟨_, _, _, _, _, _, c6, _⟩ := HG3.o.sv.ten
      go_wp2_with fail
      refine (HFl.o _ _ _ HG3.o.sv).mono ?_;rintro e w4 ⟨rfl, hF4, hB4⟩;go_wp2;go_ret
      exact .inr ⟨(22, σ.pos), [], none, 0, rfl, by simp, Đ.nil _ _, HF3.o.trans hF4, hB4, .inl HR.o⟩
     have k2 : (v == 91) = false := by simp [g2]
     by_cases g3 : v = 93
     ·subst g3
      go_wp2_with fail
      refine HO.o.mono ?_;rintro e w3 ⟨rfl, m3, hw3⟩
      have HG3 : Hid (Gd E w3 (σ1.adv 1) d rv I2 refs) := ħ (by rw [hw3]; exact HG2.o.drewN _)
      have HF3 : Hid (FrR E w rv w3 rv) := ħ (by rw [hw3]; exact HF2.o.drewN _)
      clear hw3 c6;obtain ⟨_, _, _, _, _, _, c6, _⟩ := HG3.o.sv.ten
      go_wp2_with fail
      refine (HFl.o _ _ _ HG3.o.sv).mono ?_;rintro e w4 ⟨rfl, hF4, hB4⟩;go_wp2;go_ret
      exact .inr ⟨(22, σ.pos), [], none, 0, rfl, by simp, Đ.nil _ _, HF3.o.trans hF4, hB4, .inl HR.o⟩
     have k3 : (v == 93) = false := by simp [g3]
     obtain rfl : v = 45 := by omega
     go_wp2_with fail
     refine HO.o.mono ?_;rintro e w3 ⟨rfl, m3, hw3⟩
     have HG3 : Hid (Gd E w3 (σ1.adv 1) d rv I2 refs) := ħ (by rw [hw3]; exact HG2.o.drewN _)
     have HF3 : Hid (FrR E w rv w3 rv) := ħ (by rw [hw3]; exact HF2.o.drewN _)
     clear hw3 c6;obtain ⟨_, _, _, _, _, _, c6, _⟩ := HG3.o.sv.ten
     go_wp2_with fail
     refine (HFl.o _ _ _ HG3.o.sv).mono ?_;rintro e w4 ⟨rfl, hF4, hB4⟩;go_wp2;go_ret
     exact .inr ⟨(22, σ.pos), [], none, 0, rfl, by simp, Đ.nil _ _, HF3.o.trans hF4, hB4, .inl HR.o⟩
    ·have v0 : ¬ v < 0 := fun hh => hbad (.inl hh)
     have v91 : (v == 91) = false := by simp; exact fun hh => hbad (.inr (.inl hh))
     have v93 : (v == 93) = false := by simp; exact fun hh => hbad (.inr (.inr (.inl hh)))
     have v45 : (v == 45) = false := by simp; exact fun hh => hbad (.inr (.inr (.inr hh)))
     have hne2 : (σ1.adv 1).t ≠ [] := fun hh => v0 (sneg.2 hh)
     have hse : ī (σ1.adv 1).t = (units (Í (σ1.adv 1).t)).isNone := by
      rw [HSE.o]
      have a1 : ¬ at_ (σ1.adv 1).t 0 = 91 := fun hh => hbad (.inr (.inl (s91.2 hh)))
      have a2 : ¬ at_ (σ1.adv 1).t 0 = 93 := fun hh => hbad (.inr (.inr (.inl (s93.2 hh))))
      have a3 : ¬ at_ (σ1.adv 1).t 0 = 45 := fun hh => hbad (.inr (.inr (.inr (s45.2 hh))))
      have a4 : (σ1.adv 1).t.isEmpty = false := by
       cases hh : (σ1.adv 1).t with
       | nil => exact absurd hh hne2
       | cons a b => rfl
      simp [a1, a2, a3, a4]
     have HSE2 := ħ hse;have HNE := ħ hne2;clear hse hne2 s91 s93 s45 sneg hbad HSE
     go_wp2_with fail
     refine HO.o.mono ?_;rintro e w3 ⟨rfl, m3, hw3⟩
     have HG3 : Hid (Gd E w3 (σ1.adv 1) d rv I2 refs) := ħ (by rw [hw3]; exact HG2.o.drewN _)
     have HF3 : Hid (FrR E w rv w3 rv) := ħ (by rw [hw3]; exact HF2.o.drewN _)
     clear hw3 c6;obtain ⟨_, _, _, _, _, _, c6, _⟩ := HG3.o.sv.ten
     go_wp2_with fail
     refine (HM2.o _ HG3.o HNE.o).mono ?_;intro e w4 hp4
     cases hm2 : Ãb (σ1.adv 1) with
     | error f =>
      obtain ⟨hu2, hmu2⟩ := ÉW hm2;rw [hm2] at hp4;obtain ⟨rfl, hF4, hB4⟩ := hp4
      have HR : Hid (Ú σ = .error f) := ħ (by rw [HMR2.o, HSE2.o, hu2, hmu2]; rfl)
      have HF4 := ħ (HF3.o.trans hF4);have hs4 := HF4.o.size;obtain ⟨_, _, _, _, _, c6', n1, n2⟩ := hB4.ten;clear c6 hF4 hmu2 hu2 hm2
      go_wp2_with fail
      refine (Ŗ u 0).mono ?_;rintro e w5 ⟨A, n, rfl, hp5, hb5⟩;go_wp2;go_ret
      exact .inr ⟨f, [((u : Int), 0)], A, n, rfl, by simp, hp5.less hs4, HF4.o.trans (FrR.of_below hb5), hB4.on hb5, .inl HR.o⟩
     | ok x =>
      obtain ⟨⟨ol, hi⟩, σ3⟩ := x;rw [hm2] at hp4
      cases ol with
      | some l2 =>
       obtain ⟨hu2, rfl⟩ := ÇI hm2;obtain ⟨b, o, n, rfl, _, hF4, I4, hG4⟩ := hp4
       have HR : Hid (Ú σ = .error (22, σ.pos)) := ħ (by rw [HMR2.o, HSE2.o, hu2]; rfl)
       have HF4 := ħ (HF3.o.trans hF4);have HG4 := ħ hG4;clear c6 hF4 hu2 hm2 hG4;obtain ⟨_, _, _, _, _, _, c6, _⟩ := HG4.o.sv.ten
       go_wp2_with fail
       refine (HFl.o _ _ _ HG4.o.sv).mono ?_;rintro e w5 ⟨rfl, hF5, hB5⟩;have hs5 := (HF4.o.trans hF5).size
       go_wp2_with fail
       refine (Ŗ u 0).mono ?_;rintro e w6 ⟨A, n, rfl, hp6, hb6⟩;go_wp2;go_ret
       exact .inr ⟨(22, σ.pos), [((u : Int), 0)], A, n, rfl, by simp, hp6.less hs5, (HF4.o.trans hF5).trans (FrR.of_below hb6), hB5.on hb6, .inl HR.o⟩
      | none =>
       obtain ⟨hu2, hmu2⟩ := ÉV hm2;obtain ⟨rfl, hF4, I4, hG4⟩ := hp4
       have HMR3 : Hid (Ú σ = if hi < u then .error (22, σ.pos) else .ok ([((u : Int), (hi : Int))], σ3)) := ħ (by rw [HMR2.o, HSE2.o, hu2, hmu2]; rfl)
       have HF4 := ħ (HF3.o.trans hF4);have HG4 := ħ hG4;clear c6 hF4 hu2 hm2 hG4 hmu2;obtain ⟨_, _, _, _, _, _, c6, _⟩ := HG4.o.sv.ten
       by_cases hlt : hi < u
       ·have hlt' : (hi : Int) < (u : Int) := by omega
        have HR : Hid (Ú σ = .error (22, σ.pos)) := ħ (by rw [HMR3.o, if_pos hlt])
        go_wp2_with fail
        refine (HFl.o _ _ _ HG4.o.sv).mono ?_;rintro e w5 ⟨rfl, hF5, hB5⟩;have hs5 := (HF4.o.trans hF5).size
        go_wp2_with fail
        refine (Ŗ u hi).mono ?_;rintro e w6 ⟨A, n, rfl, hp6, hb6⟩;go_wp2;go_ret
        exact .inr ⟨(22, σ.pos), [((u : Int), (hi : Int))], A, n, rfl, by simp, hp6.less hs5, (HF4.o.trans hF5).trans (FrR.of_below hb6), hB5.on hb6, .inl HR.o⟩
       ·have hlt' : ¬ (hi : Int) < (u : Int) := by omega
        have HR : Hid (Ú σ = .ok ([((u : Int), (hi : Int))], σ3)) := ħ (by rw [HMR3.o, if_neg hlt])
        have hs4 := HF4.o.size
        go_wp2_with fail
        refine (Ŗ u hi).mono ?_;rintro e w6 ⟨A, n, rfl, hp6, hb6⟩
        obtain ⟨b, o, rfl⟩ := hp6.some (by simp)
        go_wp2;go_ret
        exact .inl ⟨[((u : Int), (hi : Int))], σ3, b, o, n, I4, HR.o, by simp, by simp, rfl, hp6.less hs4, HF4.o.trans (FrR.of_below hb6), HG4.o.on hb6⟩
   ·have hb : pre [45] σ1.t = false := by rw [hpre]; exact decide_eq_false h45
    have HI := ħ (ù [45] (by simp) (by simp) HG1.o false hb)
    have HR : Hid (Ú σ = .ok ([((u : Int), (u : Int))], σ1)) := ħ (by rw [HMR.o, if_neg h45])
    clear hpre hb HMR HME
    go_wp2_with fail
    refine HI.o.mono ?_;rintro e w2 ⟨rfl, hF2, I2, hG2⟩;simp only [Ċ, if_false] at hG2;have HF2 := ħ (hF.trans hF2);have HG2 := ħ hG2;have hs2 := HF2.o.size;clear hF hF2 hG2
    go_wp2_with fail
    refine (Ŗ u u).mono ?_;rintro e w3 ⟨A, n, rfl, hp3, hb3⟩
    obtain ⟨b, o, rfl⟩ := hp3.some (by simp)
    go_wp2;go_ret
    exact .inl ⟨[((u : Int), (u : Int))], σ1, b, o, n, I2, HR.o, by simp, by simp, rfl, hp3.less hs2, HF2.o.trans (FrR.of_below hb3), HG2.o.on hb3⟩
end
end Go.Proofs.YtpginkdkblmnbaaGreatDoor
