import Derived.Test.YtpginkdkblmnbaaGreatDoorWQt
namespace Go.Proofs.YtpginkdkblmnbaaGreatDoor
section
open Go.RowKit
open Go.Proofs.YtpginkdkblmnbaaGreatDoor.Cl (Rg à Ý Ä ò Î Á)
variable {w w' w0 : World} {E : RE} {σ σ1 : St} {I g d c p : Nat} {rv rv' : Value} {refs : List (Nat × Nat)} {f : Flt}
def ÀS (k : Int) : List Nd → Nd
 | [] => Êl
 | [x] => x
 | l => .mk k 0 0 0 0 [] l
theorem ÆE (l : List Nd) : joinR l = ÀS 2 l := by
 match l with
 | [] => rfl
 | [_] => rfl
 | _ :: _ :: _ => rfl
theorem Ïd {l : List Nd} (h : l ≠ []) : joinA l = ÀS 3 l := by
 match l, h with
 | [_], _ => rfl
 | _ :: _ :: _, _ => rfl
def KR (base : Nat) (w : World) (rv kv : Value) (b : Nat) : Prop := KQ base w rv b ∧ kv.ownBlock ≠ some b
structure RwV (w : World) (base : Nat) (rv kv : Value) (L : List QN) : Prop where
 own : w.ownsRow base 38 8 kv L.length (ÀP L)
 nodes : ∀ x ∈ L, Ó (KR base w rv kv) w x.1 x.2.1 x.2.2.1 x.2.2.2
theorem ÆF : (Tryz.prog.info? 38).map (fun i => (i.zero, i.size, i.bytes)) = some (some (.agg #[.int .i64 0, .int .i64 0, .int .i64 0, .int .i64 0, .int .i64 0, .slice none 0 0, .bool false, .slice none 0 0]), 8, 96) := by kernel_rfl
section
variable {base : Nat} {kv kv' : Value} {L : List QN}
theorem RwV.nil (w : World) (base : Nat) (rv : Value) : RwV w base rv (.slice none 0 0) [] := ⟨World.ownsRow_nil _ _ _ _, by simp⟩
theorem RwV.rowA (h : RwV w base rv kv L) : Âq w base kv L := ⟨h.own, fun x hx => by
 obtain ⟨A, B, n, c, e, h1, h2⟩ := (h.nodes x hx).lens
 exact ⟨A, n, c, B, _, e, h1, h2⟩⟩
theorem Âm {b1 n₀ n m : Nat} {xs ys : List Value} (h : w.ownsRow b1 38 8 kv n xs) (hs : w.ownsRow n₀ 93 2 rv m ys) : ∀ g, kv.ownBlock = some g → rv.ownBlock ≠ some g := fun g hg => by
 rcases h.2 with ⟨rfl, _⟩ | ⟨b, cap, cur, rfl, _, hh, _⟩
 ·simp [Value.ownBlock] at hg
 ·have e : g = b := by simpa [Value.ownBlock] using hg.symm
  subst e
  exact Ń hs hh (by decide)
theorem RwV.keep (h : RwV w base rv kv L) (hk : ∀ i, base ≤ i → i < w.heap.size → rv.ownBlock ≠ some i → w'.heap[i]? = w.heap[i]?) (hs : w.heap.size ≤ w'.heap.size) (hr : ∀ i, base ≤ i → i < w.heap.size → rv.ownBlock ≠ some i → rv'.ownBlock ≠ some i) (ha : ∀ g, kv.ownBlock = some g → rv.ownBlock ≠ some g) : RwV w' base rv' kv L := by
 refine ⟨Þ h.own fun i hi => ?_, fun x hx => (h.nodes x hx).keep fun b hb => ?_⟩
 ·have h1 := World.ownsRow.lt h.own i hi.symm
  exact hk i h1.1 h1.2 (ha i hi.symm)
 ·obtain ⟨⟨h1, h2, h3⟩, h4⟩ := hb
  exact ⟨⟨⟨h1, Ć h2 hs, hr b h1 h2 h3⟩, h4⟩, hk b h1 h2 h3⟩
theorem RwV.fr (h : RwV w base rv kv L) (hF : FrR E w rv w' rv') (hb : E.rb < base) (ha : ∀ g, kv.ownBlock = some g → rv.ownBlock ≠ some g) : RwV w' base rv' kv L :=
 h.keep (fun i h1 h2 h3 => hF.block i h2 (by omega) h3) hF.size (fun i h1 h2 h3 e => by
  rcases hF.row i e with e | e
  ·exact h3 e
  ·omega) ha
theorem RwV.on (h : RwV w base rv kv L) (hb : Below w.heap.size w w') (ha : ∀ g, kv.ownBlock = some g → rv.ownBlock ≠ some g) : RwV w' base rv kv L :=
 h.keep (fun i _ h2 _ => hb.block i h2) hb.size (fun _ _ _ h => h) ha
theorem Âq.keep (h : Âq w base kv L) (hk : ∀ i, kv.ownBlock = some i → w'.heap[i]? = w.heap[i]?) : Âq w' base kv L := ⟨Þ h.own fun i hi => hk i hi.symm, h.sl⟩
theorem Âq.fr (h : Âq w base kv L) (hF : FrR E w rv w' rv') (hb : E.rb < base) (ha : ∀ g, kv.ownBlock = some g → rv.ownBlock ≠ some g) : Âq w' base kv L :=
 h.keep fun i hi => by
  have h1 := World.ownsRow.lt h.own i hi
  exact hF.block i h1.2 (by omega) (ha i hi)
theorem RwV.snoc {w7 w8 : World} {b2 : Nat} {x : QN} (h : RwV w7 base rv kv L) (hx : Ó (KQ b2 w7 rv) w7 x.1 x.2.1 x.2.2.1 x.2.2.2) (hb2 : base ≤ b2) (hk2 : ∀ g, kv.ownBlock = some g → g < b2) (hg : w7.grownBy w8 kv.ownBlock) (ho : w8.ownsRow base 38 8 kv' (L.length + 1) (ÀP L ++ Ľ x.1 x.2.1 x.2.2.1 x.2.2.2)) (hw : kv'.ownBlock = kv.ownBlock ∨ kv'.ownBlock = some w7.heap.size) :
 RwV w8 base rv kv' (L ++ [x]) := by
 have hnew : ∀ b, b < w7.heap.size → kv.ownBlock ≠ some b → kv'.ownBlock ≠ some b := fun b h1 h2 e => by
  rcases hw with hw | hw
  ·exact h2 (hw.symm.trans e)
  ·rw [hw] at e; have := Option.some.inj e; omega
 refine ⟨by rw [ă, ÄX, ÉP]; exact ho, fun y hy => ?_⟩
 rcases List.mem_append.1 hy with hy | hy
 ·refine (h.nodes y hy).keep fun b hb => ?_
  obtain ⟨⟨h1, h2, h3⟩, h4⟩ := hb
  exact ⟨⟨⟨h1, Ć h2 hg.size, h3⟩, hnew b h2 h4⟩, hg.block b h2 (fun e => h4 e.symm)⟩
 ·rw [List.mem_singleton.1 hy]
  refine hx.keep fun b hb => ?_
  obtain ⟨h1, h2, h3⟩ := hb
  have h4 : kv.ownBlock ≠ some b := fun e => by have := hk2 b e; omega
  exact ⟨⟨⟨ē hb2 h1, Ć h2 hg.size, h3⟩, hnew b h2 h4⟩, hg.block b h2 (fun e => h4 e.symm)⟩
theorem Âq.snoc {w7 w8 : World} {x : QN} (h : Âq w7 base kv L) (hx : ∃ A n c B m e, x.2.1 = .slice A n c ∧ x.2.2.2 = .slice B m e) (ho : w8.ownsRow base 38 8 kv' (L.length + 1) (ÀP L ++ Ľ x.1 x.2.1 x.2.2.1 x.2.2.2)) : Âq w8 base kv' (L ++ [x]) :=
 ⟨by rw [ă, ÄX, ÉP]; exact ho, fun y hy => by
   rcases List.mem_append.1 hy with hy | hy
   ·exact h.sl y hy
   ·rw [List.mem_singleton.1 hy]; exact hx⟩
theorem ÄB (k : Int) (h : Âq w base kv L) : Íp (jV k kv L) := by
 match L, h with
 | [], _ => exact ⟨0, 0, 0, 0, 0, none, none, 0, 0, 0, 0, false, rfl⟩
 | [x], h =>
  obtain ⟨A, n, c, B, m, e, h1, h2⟩ := h.sl x (by simp)
  exact ⟨x.1.kind, x.1.lo, x.1.hi, x.1.mode, x.1.ref, A, B, n, c, m, e, x.2.2.1, by
   show Value.agg #[.int .i64 x.1.kind, .int .i64 x.1.lo, .int .i64 x.1.hi, .int .i64 x.1.mode, .int .i64 x.1.ref, x.2.1, .bool x.2.2.1, x.2.2.2] = _
   rw [h1, h2]⟩
 | x :: y :: L, h =>
  obtain ⟨A, c, hv⟩ := h.form
  exact ⟨k, 0, 0, 0, 0, none, A, 0, 0, _, c, false, by rw [hv]; rfl⟩
theorem Ðd {k : Int} (hk : k ≠ 1) (h : RwV w base rv kv L) (ha : ∀ g, kv.ownBlock = some g → rv.ownBlock ≠ some g) (hm : L.length ≤ 1000000) :
 ∃ A1 n1 p1 nb A2 p2, jV k kv L = .agg #[.int .i64 (ÀS k (L.map (·.1))).kind, .int .i64 (ÀS k (L.map (·.1))).lo, .int .i64 (ÀS k (L.map (·.1))).hi, .int .i64 (ÀS k (L.map (·.1))).mode, .int .i64 (ÀS k (L.map (·.1))).ref, .slice A1 n1 p1, .bool nb, .slice A2 (ÀS k (L.map (·.1))).kids.length p2] ∧
  Ó (KQ base w rv) w (ÀS k (L.map (·.1))) (.slice A1 n1 p1) nb (.slice A2 (ÀS k (L.map (·.1))).kids.length p2) := by
 match L, h, hm with
 | [], _, _ => exact ⟨none, 0, 0, false, none, 0, rfl, Ó.leaf (P := []) (Đ.nil _ _) (fun e => by cases e)⟩
 | [x], h, _ =>
  have hx := (h.nodes x (by simp)).keep (K' := KQ base w rv) (w' := w) fun b hb => ⟨hb.1, rfl⟩
  obtain ⟨A, B, n, c, e, h1, h2⟩ := hx.lens;refine ⟨A, n, c, x.2.2.1, B, e, ?_, ?_⟩
  ·show Value.agg #[.int .i64 x.1.kind, .int .i64 x.1.lo, .int .i64 x.1.hi, .int .i64 x.1.mode, .int .i64 x.1.ref, x.2.1, .bool x.2.2.1, x.2.2.2] = _
   rw [h1, h2]; rfl
  ·rw [h1, h2] at hx; exact hx
 | x :: y :: L, h, hm =>
  have hr : ÎL (KQ base w rv) w base kv (x :: y :: L) := ⟨h.own, fun z hz => (h.nodes z hz).keep fun b hb => ⟨hb.1, rfl⟩⟩
  have hn := hr.node (fun g hg => by
   have h1 := World.ownsRow.lt h.own g hg
   exact ⟨h1.1, h1.2, ha g hg⟩) k 0 0 0 0 hk (by simp) hm
  obtain ⟨A, c, hv⟩ := h.rowA.form;refine ⟨none, 0, 0, false, A, c, ?_, ?_⟩
  ·rw [hv]; show _ = Value.agg #[_, _, _, _, _, _, _, .slice A (List.map (·.1) (x :: y :: L)).length c]
   rw [List.length_map]; rfl
  ·have e : ÀS k (List.map (·.1) (x :: y :: L)) = .mk k 0 0 0 0 [] (List.map (·.1) (x :: y :: L)) := rfl
   rw [e]
   have hl : (Nd.mk k 0 0 0 0 [] (List.map (fun z : QN => z.1) (x :: y :: L))).kids.length = (x :: y :: L).length := by simp [Nd.kids]
   rw [hl, ← hv];exact hn
end
theorem Ðt (h : Bd E w d rv f) (c : UInt8) : Calls Tryz.prog 33 #[.pointer (some ⟨E.rb, 0, none⟩), .string ⟨[c].toArray⟩] w fun e w' => e = .returned (.bool false) ∧ FrR E w rv w' rv ∧ Bd E w' d rv f := by
 obtain ⟨h0, g, refs, h⟩ := h
 have hb : isB E E.N [c] = false := by
  cases hh : isB E E.N [c] with
  | false => rfl
  | true =>
   have := Äc.1 hh 0 (by simp)
   rw [Nat.add_zero, Ìj (ŋ _)] at this;have := this.symm;omega
 refine (Ðq [c] (by simp) (by have := h.n256; omega) h).mono ?_
 rintro e w' ⟨he, hF, hS⟩;rw [hb] at he hS;exact ⟨he, hF, h0, g, refs, hS⟩
end
section
open Go.RowKit
open Go.Proofs.YtpginkdkblmnbaaGreatDoor.Cl (Rg à Ý Ä ò Î Á)
variable {w w' w0 : World} {E : RE} {σ σ1 : St} {I g d c p : Nat} {rv rv' : Value} {refs : List (Nat × Nat)} {f : Flt}
def Ïe (E : RE) (n : Nat) : Prop := ∀ {w : World} {σ : St} {d I : Nat} {rv : Value} {refs : List (Nat × Nat)}, 4 * σ.t.length + 1 ≤ n → Gd E w σ d rv I refs → Calls Tryz.prog 62 #[.pointer (some ⟨E.rb, 0, none⟩)] w (NP1 E d rv w (run n 1 d [] σ))
structure RwS (E : RE) (d : Nat) (rv : Value) (w : World) (σk : St) (Ik : Nat) (rvk kv : Value) (refsk : List (Nat × Nat)) (L : List QN) (wr : World) : Prop where
 gd : Gd E wr σk d rvk Ik refsk
 fr : FrR E w rv wr rvk
 b0 : Blk wr w.heap.size 38 #[.int .i64 0, .int .i64 0, .int .i64 0, .int .i64 0, .int .i64 0, .slice none 0 0, .bool false, .slice none 0 0]
 row : RwV wr (w.heap.size + 1) rvk kv L
 small : L.length + σk.t.length ≤ 300
structure RwB (E : RE) (d : Nat) (rv : Value) (w : World) (f : Flt) (rvk kv : Value) (L : List QN) (wr : World) : Prop where
 bd : Bd E wr d rvk f
 fr : FrR E w rv wr rvk
 b0 : Blk wr w.heap.size 38 #[.int .i64 0, .int .i64 0, .int .i64 0, .int .i64 0, .int .i64 0, .slice none 0 0, .bool false, .slice none 0 0]
 row : Âq wr (w.heap.size + 1) kv L
 small : L.length ≤ 300
section
variable {σk : St} {Ik : Nat} {rvk kv : Value} {refsk : List (Nat × Nat)} {L : List QN} {wr w2 : World}
theorem RwS.apart (h : RwS E d rv w σk Ik rvk kv refsk L wr) : ∀ g, kv.ownBlock = some g → rvk.ownBlock ≠ some g := Âm h.row.own h.gd.sv.own
theorem RwB.apart (h : RwB E d rv w f rvk kv L wr) : ∀ g, kv.ownBlock = some g → rvk.ownBlock ≠ some g := by
 obtain ⟨_, g, refs, hs⟩ := h.bd;exact Âm h.row.own hs.own
theorem RwS.on (h : RwS E d rv w σk Ik rvk kv refsk L wr) (hb : Below wr.heap.size wr w2) : RwS E d rv w σk Ik rvk kv refsk L w2 :=
 ⟨h.gd.on hb, h.fr.trans (FrR.of_below hb), h.b0.on hb, h.row.on hb h.apart, h.small⟩
theorem RwS.drewN (h : RwS E d rv w σk Ik rvk kv refsk L wr) (n : Nat) : RwS E d rv w σk Ik rvk kv refsk L (wr.drewN n) :=
 ⟨h.gd.drewN n, h.fr.drewN n, h.b0, h.row.keep (fun _ _ _ _ => rfl) (ŋ _) (fun _ _ _ h => h) h.apart, h.small⟩
theorem RwB.on (h : RwB E d rv w f rvk kv L wr) (hb : Below wr.heap.size wr w2) : RwB E d rv w f rvk kv L w2 :=
 ⟨h.bd.on hb, h.fr.trans (FrR.of_below hb), h.b0.on hb, h.row.keep (fun i hi => hb.block i (World.ownsRow.lt h.row.own i hi).2), h.small⟩
theorem RwS.told (h : RwS E d rv w σk Ik rvk kv refsk L wr) {k : Int} (hk : k ≠ 1) {R : R} (hR : R = .ok (ÀS k (L.map (·.1)), σk)) {k0 lo hi m r : Int} {A1 A2 : Option Addr} {n1 p1 n2 p2 : Nat} {nb : Bool} (hj : jV k kv L = .agg #[.int .i64 k0, .int .i64 lo, .int .i64 hi, .int .i64 m, .int .i64 r, .slice A1 n1 p1, .bool nb, .slice A2 n2 p2]) {c0 c1 c2 c3 c4 c5 c6 c7 : Value} :
 NP1 E d rv w R (.returned (.agg #[.int .i64 k0, .int .i64 lo, .int .i64 hi, .int .i64 m, .int .i64 r, .slice A1 n1 p1, .bool nb, .slice A2 n2 p2])) (st8 wr w.heap.size c0 c1 c2 c3 c4 c5 c6 c7) := by
 obtain ⟨A1', n1', p1', nb', A2', p2', hj', hN⟩ := Ðd hk h.row h.apart (by have := h.small; omega)
 rw [hj'] at hj;rw [hR, ← hj];have h0 := h.b0.lt
 have hne : w.heap.size ≠ E.rb ∧ w.heap.size ≠ E.ub ∧ w.heap.size ≠ E.ab ∧ rvk.ownBlock ≠ some w.heap.size := by
  refine ⟨?_, ?_, ?_, fun e => ?_⟩
  ·intro e; have h1 := h.gd.sv.blk; rw [← e] at h1; exact Â h.b0 h1 (by decide) rfl
  ·intro e
   obtain ⟨⟨cs, t, z, h1, _, h2⟩, _⟩ := h.gd.sv.ty
   rw [← e] at h1; exact Â h.b0 h1 (fun e => h2 e.symm) rfl
  ·intro e
   obtain ⟨_, cs, t, z, h1, _, h2⟩ := h.gd.sv.ty
   rw [← e] at h1; exact Â h.b0 h1 (fun e => h2 e.symm) rfl
  ·exact Ń h.gd.sv.own h.b0 (by decide) e
 exact ⟨rvk, Ik, refsk, A1', n1', p1', nb', A2', p2', rfl, ÂX (Nat.le_succ _) (Äz (Nat.lt_succ_self _) hN), Û (ŋ _) h.fr, ŗ hne h.gd⟩
theorem RwB.told (h : RwB E d rv w f rvk kv L wr) {_k : Int} {R : R} (hR : R = .error f) {k0 lo hi m r : Int} {A1 A2 : Option Addr} {n1 p1 n2 p2 : Nat} {nb : Bool} {c0 c1 c2 c3 c4 c5 c6 c7 : Value} :
 NP1 E d rv w R (.returned (.agg #[.int .i64 k0, .int .i64 lo, .int .i64 hi, .int .i64 m, .int .i64 r, .slice A1 n1 p1, .bool nb, .slice A2 n2 p2])) (st8 wr w.heap.size c0 c1 c2 c3 c4 c5 c6 c7) := by
 rw [hR]
 have hne : w.heap.size ≠ E.rb ∧ w.heap.size ≠ E.ub ∧ w.heap.size ≠ E.ab ∧ rvk.ownBlock ≠ some w.heap.size := by
  obtain ⟨_, g, refs, hs⟩ := h.bd
  refine ⟨?_, ?_, ?_, fun e => ?_⟩
  ·intro e; have h1 := hs.blk; rw [← e] at h1; exact Â h.b0 h1 (by decide) rfl
  ·intro e
   obtain ⟨⟨cs, t, z, h1, _, h2⟩, _⟩ := hs.ty
   rw [← e] at h1; exact Â h.b0 h1 (fun e => h2 e.symm) rfl
  ·intro e
   obtain ⟨_, cs, t, z, h1, _, h2⟩ := hs.ty
   rw [← e] at h1; exact Â h.b0 h1 (fun e => h2 e.symm) rfl
  ·exact Ń hs.own h.b0 (by decide) e
 exact ⟨rvk, _, rfl, ⟨k0, lo, hi, m, r, A1, A2, n1, p1, n2, p2, nb, rfl⟩, Û (ŋ _) h.fr, ĭ hne h.bd⟩
theorem RwS.snoc {w5 w6 w7 w8 : World} {σ' : St} {I' : Nat} {rv2 kv' : Value} {refs2 : List (Nat × Nat)} {x : QN} {b2 : Nat} (h : RwS E d rv w σk Ik rvk kv refsk L w5) (hF : FrR E w5 rvk w6 rv2) (hrb : E.rb < w.heap.size) (hG : Gd E w6 σ' d rv2 I' refs2) (hb2 : w5.heap.size ≤ b2) (hx : Ó (KQ b2 w7 rv2) w7 x.1 x.2.1 x.2.2.1 x.2.2.2) (h67 : Below w6.heap.size w6 w7)
 (hl : σ'.t.length + 1 ≤ σk.t.length) (hg : w7.grownBy w8 kv.ownBlock) (ho : w8.ownsRow (w.heap.size + 1) 38 8 kv' (L.length + 1) (ÀP L ++ Ľ x.1 x.2.1 x.2.2.1 x.2.2.2)) (hw : kv'.ownBlock = kv.ownBlock ∨ kv'.ownBlock = some w7.heap.size) :
 RwS E d rv w σ' I' rv2 kv' refs2 (L ++ [x]) w8 := by
 have h0 := h.b0.lt;have hap := h.apart
 have hkb := fun i (hi : kv.ownBlock = some i) => World.ownsRow.lt h.row.own i hi
 have r6 := h.row.fr hF (by omega) hap
 have ha6 : ∀ g, kv.ownBlock = some g → rv2.ownBlock ≠ some g := Âm r6.own hG.sv.own;have r7 := r6.on h67 ha6;have hG7 := hG.on h67;have hub := hG.sv.ub_lt;have hty := h.gd.sv.ub_lt
 have hB7 : Blk w7 w.heap.size 38 #[.int .i64 0, .int .i64 0, .int .i64 0, .int .i64 0, .int .i64 0, .slice none 0 0, .bool false, .slice none 0 0] := (À hF h.b0 (by
  have hne : w.heap.size ≠ E.rb := by omega
  refine ⟨hne, ?_, ?_, Ń h.gd.sv.own h.b0 (by decide)⟩
  ·intro e
   obtain ⟨⟨cs, t, z, h1, _, h2⟩, _⟩ := h.gd.sv.ty
   rw [← e] at h1; exact Â h.b0 h1 (fun e => h2 e.symm) rfl
  ·intro e
   obtain ⟨_, cs, t, z, h1, _, h2⟩ := h.gd.sv.ty
   rw [← e] at h1; exact Â h.b0 h1 (fun e => h2 e.symm) rfl)).on h67
 have hkt : ∀ (i : Nat) (cs : Array Value) (t : TypeId) (z : Nat × Nat), w7.heap[i]? = some (.cells cs t z) → t ≠ 38 → kv.ownBlock ≠ some i := fun i cs t z hi ht => Ń r7.own hi (fun e => ht e.symm)
 refine ⟨hG7.kept (fun i hi hc => ?_) hg.size, (h.fr.trans (hF.trans (FrR.of_below h67))).grown hg (fun k e => by have := hkb k e; omega), ?_, r7.snoc hx (by omega) (fun g hg => by have := (hkb g hg).2; omega) hg ho hw, by rw [ă, Ę]; have := h.small; omega⟩
 ·refine hg.block i hi (fun e => ?_)
  rcases hc with rfl | rfl | rfl | hc
  ·exact hkt _ _ _ _ hG7.sv.blk (by decide) e.symm
  ·obtain ⟨⟨cs, t, z, h1, _, h2⟩, _⟩ := hG7.sv.ty
   exact hkt _ _ _ _ h1 h2 e.symm
  ·obtain ⟨_, cs, t, z, h1, _, h2⟩ := hG7.sv.ty
   exact hkt _ _ _ _ h1 h2 e.symm
  ·exact ha6 i e.symm hc
 ·exact (hg.block _ hB7.lt (fun e => by have := (hkb _ e.symm).1; omega)).trans hB7
theorem RwS.fault {w5 w6 w7 w8 : World} {rv2 kv' : Value} {x : QN} (h : RwS E d rv w σk Ik rvk kv refsk L w5) (hF : FrR E w5 rvk w6 rv2) (hrb : E.rb < w.heap.size) (hB : Bd E w6 d rv2 f) (h67 : Below w6.heap.size w6 w7) (hn : σk.t ≠ [])
 (hx : ∃ A n c B m e, x.2.1 = .slice A n c ∧ x.2.2.2 = .slice B m e) (hg : w7.grownBy w8 kv.ownBlock) (ho : w8.ownsRow (w.heap.size + 1) 38 8 kv' (L.length + 1) (ÀP L ++ Ľ x.1 x.2.1 x.2.2.1 x.2.2.2)) :
 RwB E d rv w f rv2 kv' (L ++ [x]) w8 := by
 have h0 := h.b0.lt;have hap := h.apart
 have hkb := fun i (hi : kv.ownBlock = some i) => World.ownsRow.lt h.row.own i hi
 have r6 := h.row.rowA.fr hF (by omega) hap
 have r7 : Âq w7 (w.heap.size + 1) kv L := r6.keep (fun i hi => h67.block i (World.ownsRow.lt r6.own i hi).2)
 have hB7 := hB.on h67
 have hB7b : Blk w7 w.heap.size 38 #[.int .i64 0, .int .i64 0, .int .i64 0, .int .i64 0, .int .i64 0, .slice none 0 0, .bool false, .slice none 0 0] := (À hF h.b0 (by
  have hne : w.heap.size ≠ E.rb := by omega
  refine ⟨hne, ?_, ?_, Ń h.gd.sv.own h.b0 (by decide)⟩
  ·intro e
   obtain ⟨⟨cs, t, z, h1, _, h2⟩, _⟩ := h.gd.sv.ty
   rw [← e] at h1; exact Â h.b0 h1 (fun e => h2 e.symm) rfl
  ·intro e
   obtain ⟨_, cs, t, z, h1, _, h2⟩ := h.gd.sv.ty
   rw [← e] at h1; exact Â h.b0 h1 (fun e => h2 e.symm) rfl)).on h67
 have hkt : ∀ (i : Nat) (cs : Array Value) (t : TypeId) (z : Nat × Nat), w7.heap[i]? = some (.cells cs t z) → t ≠ 38 → kv.ownBlock ≠ some i := fun i cs t z hi ht => Ń r7.own hi (fun e => ht e.symm)
 have hpos := List.length_pos_iff.2 hn
 refine ⟨hB7.kept (fun i hi hc => ?_) hg.size, (h.fr.trans (hF.trans (FrR.of_below h67))).grown hg (fun k e => by have := hkb k e; omega), ?_, r7.snoc hx ho, by rw [ă, Ę]; have := h.small; omega⟩
 ·refine hg.block i hi (fun e => ?_)
  obtain ⟨_, g, refs, hs⟩ := hB7
  rcases hc with rfl | rfl | rfl | hc
  ·exact hkt _ _ _ _ hs.blk (by decide) e.symm
  ·obtain ⟨⟨cs, t, z, h1, _, h2⟩, _⟩ := hs.ty
   exact hkt _ _ _ _ h1 h2 e.symm
  ·obtain ⟨_, cs, t, z, h1, _, h2⟩ := hs.ty
   exact hkt _ _ _ _ h1 h2 e.symm
  ·exact Âm r7.own hs.own i e.symm hc
 ·exact (hg.block _ hB7b.lt (fun e => by have := (hkb _ e.symm).1; omega)).trans hB7b
end
end
section
open Go.RowKit
open Go.Proofs.YtpginkdkblmnbaaGreatDoor.Cl (Rg à Ý Ä ò Î Á)
variable {w w' w0 : World} {E : RE} {σ σ1 : St} {I g d c p : Nat} {rv rv' : Value} {refs : List (Nat × Nat)} {f : Flt}
def ËA : Value → Nat
 | .slice _ n _ => n
 | _ => 0
theorem Ðe {n d : Nat} {acc : List Nd} {σ : St} : run (n + 1) 2 d acc σ = match atM n d σ with
 | .error e => .error e
 | .ok x => Ù (pre [40, 63, 58] σ.t) x.1 x.2 := by
 rw [Áb];unfold atM
 cases (if at_ σ.t 0 = 40 then run n 3 d [] σ else Ĥ σ) with
 | error e => rfl
 | ok x => rfl
theorem Êb {v1 v2 : Value} {A1 A2 : Option Addr} {n1 p1 n2 p2 : Nat} (x : Nd) (nb : Bool) (h1 : v1 = .slice A1 n1 p1) (h2 : v2 = .slice A2 n2 p2) : ∀ u ∈ Ľ x v1 nb v2, u.oneCell' = true := by
 subst h1 h2;intro u hu;simp [Ľ] at hu
 rcases hu with rfl | rfl | rfl | rfl | rfl | rfl | rfl | rfl <;> rfl
theorem Êc {w : World} {x : Nd} {pv kv : Value} {nb : Bool} : ∀ j y, (Ľ x pv nb kv)[j]? = some y → (w.alloc (.cells #[.int .i64 x.kind, .int .i64 x.lo, .int .i64 x.hi, .int .i64 x.mode, .int .i64 x.ref, pv, .bool nb, kv] 38)).cell? ((⟨w.heap.size, 0, none⟩ : Addr).add j) = some y := by
 intro j y hy
 exact ÂY w _ 38 j y (by rw [← hy]; simp [Ľ])
set_option maxRecDepth 100000 in
set_option maxHeartbeats 16000000 in
theorem Ðf {n : Nat} (hP : ∀ k, k < n → Ïb E k) : Ïe E n := by
 intro w σ d I rv refs hfu hG;have hrb := hG.sv.blk.lt;have hlen := hG.pos.short hG.sv.len.1;obtain ⟨R, hR⟩ : ∃ R, R = run n 1 d [] σ := ⟨_, rfl⟩;rw [← hR];have hb1 : Below w.heap.size w (w.alloc (.cells #[.int .i64 0, .int .i64 0, .int .i64 0, .int .i64 0, .int .i64 0, .slice none 0 0, .bool false, .slice none 0 0] 38)) := (ā _ _).alloc (ŋ _) _
 have hst : RwS E d rv w σ I rv (.slice none 0 0) refs [] (w.alloc (.cells #[.int .i64 0, .int .i64 0, .int .i64 0, .int .i64 0, .int .i64 0, .slice none 0 0, .bool false, .slice none 0 0] 38)) := ⟨hG.alloc _, (FrR.refl w).alloc _, Blk.new _ _ _, RwV.nil _ _ _, by simp; omega⟩
 have HST := ħ hst;have HR0 := ħ hR;clear hst hG hR hb1;go_enter Tryz.func62, Tryz.ntmps62
 go_upto_region 2 with (fail)
 generalize w.alloc _ = w1 at *
 go_loopw [3, 4, 5] (fun kvs _ _ wr => ∃ (A : Option Addr) (cc : Nat) (L : List QN) (rvk : Value), kvs = .slice A L.length cc ∧ L.length ≤ 300 ∧ Hid ((∃ m σk Ik refsk, run m 1 d (L.map (·.1)) σk = R ∧ 4 * σk.t.length + 1 ≤ m ∧ m ≤ n ∧ RwS E d rv w σk Ik rvk (.slice A L.length cc) refsk L wr) ∨ (∃ f, R = .error f ∧ RwB E d rv w f rvk (.slice A L.length cc) L wr))) (fun kvs _ _ _ => 300 - ËA kvs)
 case atStart => exact ⟨none, 0, [], rv, rfl, by simp, ħ (.inl ⟨n, σ, I, refs, HR0.o.symm, hfu, ŋ _, HST.o⟩)⟩
 case round =>
  clear HST HR0 hfu;obtain ⟨A, cc, L, rvk, rfl, hl, HRel⟩ := hrel
  rcases HRel.o with hg | hb
  ·clear HRel
   obtain ⟨m, σk, Ik, refsk, hrun, hm, hmn, hS⟩ := hg
   obtain ⟨m, rfl⟩ : ∃ m', m = m' + 1 := ⟨m - 1, by omega⟩
   rw [Âb] at hrun;have HRun := ħ hrun;have HS := ħ hS
   have HO := ħ (fun W rv2 (hW : Gd E W σk d rv2 Ik refsk) => Ðp 0 (by omega) hW)
   obtain ⟨u, hu⟩ : ∃ u, u = onN σk.t 0 := ⟨_, rfl⟩;rw [← hu] at HO
   have hsm : (σk.t = [] ∧ u < 0) ∨ (σk.t ≠ [] ∧ at_ σk.t 0 < 128 ∧ u = (at_ σk.t 0 : Nat)) ∨ (σk.t ≠ [] ∧ 128 ≤ at_ σk.t 0 ∧ 128 ≤ u) := by
    by_cases hh : σk.t = []
    ·exact .inl ⟨hh, by rw [hu]; exact Æs.2 hh⟩
    ·rw [ÀY hh] at hu
     rcases Nat.lt_or_ge (at_ σk.t 0) 128 with h1 | h1
     ·exact .inr (.inl ⟨hh, h1, by rw [hu, ş hh h1]⟩)
     ·exact .inr (.inr ⟨hh, h1, by have := ÂJ hh h1; omega⟩)
   obtain ⟨_, _, _, _, _, _, c6, _⟩ := hS.gd.sv.ten;have hsL := hS.small;clear hrun hS hu
   by_cases he : σk.t = []
   ·have q0 : u < 0 := by rcases hsm with ⟨_, h1⟩ | ⟨h1, _⟩ | ⟨h1, _⟩; exact h1; exact absurd he h1; exact absurd he h1
    have q1 : ¬ u ≥ 0 := by omega
    go_wp2_with fail
    refine (HO.o _ _ HS.o.gd).mono ?_;rintro e u0 ⟨rfl, m0, hw⟩
    have HS0 : Hid (RwS E d rv w σk Ik rvk (.slice A L.length cc) refsk L u0) := ħ (by rw [hw]; exact HS.o.drewN _)
    clear hw HS c6
    have HRe : Hid (R = .ok (ÀS 2 (L.map (·.1)), σk)) := ħ (by rw [← HRun.o, if_pos (by rw [he]; rfl), ÆE])
    go_wp2_with fail
    refine (Ų 2 HS0.o.row.rowA (by omega)).mono ?_
    rintro e w9 ⟨rfl, hb9⟩;obtain ⟨k0, lo, hi, m0, r0, A1, A2, n1, p1, n2, p2, nb, hj⟩ := ÄB 2 HS0.o.row.rowA;rw [hj];have HJ := ħ hj;have HS9 := ħ (HS0.o.on hb9);have hz := HS9.o.b0.eight;have hfz := HS9.o.b0.frozen;clear hj hb9 HS0;go_wp2
    exact ß rfl rfl rfl (Æ HS9.o.b0) (HS9.o.told (by decide) HRe.o HJ.o)
   have q0 : u ≥ 0 := by rcases hsm with ⟨h1, _⟩ | ⟨_, _, h1⟩ | ⟨_, _, h1⟩; exact absurd h1 he; omega; omega
   by_cases h124 : u = 124
   ·have ha : at_ σk.t 0 = 124 := by rcases hsm with ⟨h1, _⟩ | ⟨_, _, h1⟩ | ⟨_, _, h1⟩; exact absurd h1 he; omega; omega
    subst h124
    go_wp2_with fail
    refine (HO.o _ _ HS.o.gd).mono ?_;rintro e u0 ⟨rfl, m0, hw⟩
    have HS0 : Hid (RwS E d rv w σk Ik rvk (.slice A L.length cc) refsk L u0) := ħ (by rw [hw]; exact HS.o.drewN _)
    clear hw HS c6
    go_wp2_with fail
    refine (HO.o _ _ HS0.o.gd).mono ?_;rintro e u1 ⟨rfl, m1, hw⟩
    have HS1 : Hid (RwS E d rv w σk Ik rvk (.slice A L.length cc) refsk L u1) := ħ (by rw [hw]; exact HS0.o.drewN _)
    clear hw HS0
    have HRe : Hid (R = .ok (ÀS 2 (L.map (·.1)), σk)) := ħ (by rw [← HRun.o, if_pos (by simp [ha]), ÆE])
    go_wp2_with fail
    refine (Ų 2 HS1.o.row.rowA (by omega)).mono ?_
    rintro e w9 ⟨rfl, hb9⟩;obtain ⟨k0, lo, hi, m0, r0, A1, A2, n1, p1, n2, p2, nb, hj⟩ := ÄB 2 HS1.o.row.rowA;rw [hj];have HJ := ħ hj;have HS9 := ħ (HS1.o.on hb9);have hz := HS9.o.b0.eight;have hfz := HS9.o.b0.frozen;clear hj hb9 HS1;go_wp2
    exact ß rfl rfl rfl (Æ HS9.o.b0) (HS9.o.told (by decide) HRe.o HJ.o)
   have k124 : (u != 124) = true := by simp [h124]
   by_cases h41 : u = 41
   ·have ha : at_ σk.t 0 = 41 := by rcases hsm with ⟨h1, _⟩ | ⟨_, _, h1⟩ | ⟨_, _, h1⟩; exact absurd h1 he; omega; omega
    subst h41
    go_wp2_with fail
    refine (HO.o _ _ HS.o.gd).mono ?_;rintro e u0 ⟨rfl, m0, hw⟩
    have HS0 : Hid (RwS E d rv w σk Ik rvk (.slice A L.length cc) refsk L u0) := ħ (by rw [hw]; exact HS.o.drewN _)
    clear hw HS c6
    go_wp2_with fail
    refine (HO.o _ _ HS0.o.gd).mono ?_;rintro e u1 ⟨rfl, m1, hw⟩
    have HS1 : Hid (RwS E d rv w σk Ik rvk (.slice A L.length cc) refsk L u1) := ħ (by rw [hw]; exact HS0.o.drewN _)
    clear hw HS0
    go_wp2_with fail
    refine (HO.o _ _ HS1.o.gd).mono ?_;rintro e u2 ⟨rfl, m2, hw⟩
    have HS2 : Hid (RwS E d rv w σk Ik rvk (.slice A L.length cc) refsk L u2) := ħ (by rw [hw]; exact HS1.o.drewN _)
    clear hw HS1
    have HRe : Hid (R = .ok (ÀS 2 (L.map (·.1)), σk)) := ħ (by rw [← HRun.o, if_pos (by simp [ha]), ÆE])
    go_wp2_with fail
    refine (Ų 2 HS2.o.row.rowA (by omega)).mono ?_
    rintro e w9 ⟨rfl, hb9⟩;obtain ⟨k0, lo, hi, m0, r0, A1, A2, n1, p1, n2, p2, nb, hj⟩ := ÄB 2 HS2.o.row.rowA;rw [hj];have HJ := ħ hj;have HS9 := ħ (HS2.o.on hb9);have hz := HS9.o.b0.eight;have hfz := HS9.o.b0.frozen;clear hj hb9 HS2;go_wp2
    exact ß rfl rfl rfl (Æ HS9.o.b0) (HS9.o.told (by decide) HRe.o HJ.o)
   have k41 : (u != 41) = true := by simp [h41]
   have hno : ¬ (at_ σk.t 0 = 124 ∨ at_ σk.t 0 = 41) := by rcases hsm with ⟨h1, _⟩ | ⟨_, _, h1⟩ | ⟨_, h2, h1⟩; exact absurd h1 he; omega; omega
   have hnem : ¬ (σk.t.isEmpty || decide (at_ σk.t 0 = 124 ∨ at_ σk.t 0 = 41)) = true := by
    cases hh : σk.t with
    | nil => exact absurd hh he
    | cons b t => rw [hh] at hno; simp [hno]
   have HRun2 : Hid ((match run m 2 d [] σk with | .error e => .error e | .ok (a, σ1) => run m 1 d (L.map (·.1) ++ [a]) σ1) = R) := ħ (by rw [← HRun.o, if_neg hnem]; rfl)
   have hpos := List.length_pos_iff.2 he
   obtain ⟨m, rfl⟩ : ∃ m', m = m' + 1 := ⟨m - 1, by omega⟩
   have HHe := ħ he;clear hno hnem HRun hsm he
   go_wp2_with fail
   refine (HO.o _ _ HS.o.gd).mono ?_;rintro e u0 ⟨rfl, m0, hw⟩
   have HS0 : Hid (RwS E d rv w σk Ik rvk (.slice A L.length cc) refsk L u0) := ħ (by rw [hw]; exact HS.o.drewN _)
   clear hw HS c6
   go_wp2_with fail
   refine (HO.o _ _ HS0.o.gd).mono ?_;rintro e u1 ⟨rfl, m1, hw⟩
   have HS1 : Hid (RwS E d rv w σk Ik rvk (.slice A L.length cc) refsk L u1) := ħ (by rw [hw]; exact HS0.o.drewN _)
   clear hw HS0
   go_wp2_with fail
   refine (HO.o _ _ HS1.o.gd).mono ?_;rintro e u2 ⟨rfl, m2, hw⟩
   have HS2 : Hid (RwS E d rv w σk Ik rvk (.slice A L.length cc) refsk L u2) := ħ (by rw [hw]; exact HS1.o.drewN _)
   clear hw HS1;obtain ⟨gr, hgr⟩ : ∃ gr, gr = pre [40, 63, 58] σk.t := ⟨_, rfl⟩
   have HAt := ħ (Íu (n := m) (hP m (by omega)) (by omega) HS2.o.gd HHe.o)
   rw [← hgr] at HAt
   have HQ : Hid (run (m + 1) 2 d [] σk = match atM m d σk with | .error e => .error e | .ok x => Ù gr x.1 x.2) := ħ (by rw [Ðe, hgr])
   have HLen : Hid (∀ a σ', run (m + 1) 2 d [] σk = .ok (a, σ') → σ'.t.length + 1 ≤ σk.t.length) := ħ (fun a σ' h => ((ÂQ (m + 1)).2.2.1 _ _ _ _ _ HHe.o h).1)
   clear hgr
   go_wp2_with fail
   refine HAt.o.mono ?_;intro e w5 hp5;clear HAt HO
   cases hat : atM m d σk with
   | error f =>
    rw [hat] at hp5;obtain ⟨rv2, v, b, rfl, ⟨k0, lo, hi, m0, r0, A1, A2, n1, p1, n2, p2, nb, rfl⟩, hF5, hB5⟩ := hp5
    have HRe : Hid (R = .error f) := ħ (by rw [← HRun2.o, HQ.o, hat])
    have hs5 := hF5.size;have hb0l := HS2.o.b0.lt
    have HOn := ħ (HS2.o.row.rowA.fr hF5 (by omega) HS2.o.apart).own
    have HF5 := ħ hF5;have HB5 := ħ hB5;clear hF5 hB5 hat
    go_upto_region 4 with (fail)
    have hbx : Below w5.heap.size w5 (w5.alloc (.cells #[.int .i64 k0, .int .i64 lo, .int .i64 hi, .int .i64 m0, .int .i64 r0, .slice A1 n1 p1, .bool nb, .slice A2 n2 p2] 38)) := (ā _ _).alloc (ŋ _) _;have HX6 : Hid (Blk (w5.alloc (.cells #[.int .i64 k0, .int .i64 lo, .int .i64 hi, .int .i64 m0, .int .i64 r0, .slice A1 n1 p1, .bool nb, .slice A2 n2 p2] 38)) w5.heap.size 38 #[.int .i64 k0, .int .i64 lo, .int .i64 hi, .int .i64 m0, .int .i64 r0, .slice A1 n1 p1, .bool nb, .slice A2 n2 p2]) := ħ (Blk.new _ _ _)
    have hs6 : (w5.alloc (.cells #[.int .i64 k0, .int .i64 lo, .int .i64 hi, .int .i64 m0, .int .i64 r0, .slice A1 n1 p1, .bool nb, .slice A2 n2 p2] 38)).heap.size = w5.heap.size + 1 := by simp
    have HO6 := ħ (World.ownsRow.alloc HOn.o (.cells #[.int .i64 k0, .int .i64 lo, .int .i64 hi, .int .i64 m0, .int .i64 r0, .slice A1 n1 p1, .bool nb, .slice A2 n2 p2] 38));have hB6 := HB5.o.on hbx;have HBx := ħ hbx;generalize (w5.alloc (.cells #[.int .i64 k0, .int .i64 lo, .int .i64 hi, .int .i64 m0, .int .i64 r0, .slice A1 n1 p1, .bool nb, .slice A2 n2 p2] 38)) = w6 at *;obtain ⟨_, _, _, _, _, c6, k6, _⟩ := hB6.ten
    have k6' : ¬ (f.1 : Int) = 0 := by simpa using k6
    obtain ⟨bx, hbxe⟩ : ∃ bx, bx = w5.heap.size := ⟨_, rfl⟩;rw [← hbxe] at HX6 hs6 ⊢;obtain ⟨y0, y1, y2, y3, y4, y5, y6, y7⟩ := HX6.o.eight;have hlx := HX6.o.lt
    have hb65 : w.heap.size + 1 ≤ w6.heap.size := by omega
    clear hbx hbxe hB6 HOn;obtain ⟨i0, hi0, hz0, hz1, hz2⟩ := Á ÆF
    have hbs : w.heap.size + 1 ≤ w6.heap.size := by omega
    have hL63 : L.length + 1 ≤ maxLen := by unfold maxLen; omega
    have hLb : (L.length + 1) * 96 ≤ 140737488355328 := by omega
    go_upto_region 6 with (fail)
    go_wp2_with (
     (at_builtin; (refine ÿ rfl (.tmp 40) (.tmp 42) 36 rfl (w.heap.size + 1) 38 i0 (.agg #[.int .i64 0, .int .i64 0, .int .i64 0, .int .i64 0, .int .i64 0, .slice none 0 0, .bool false, .slice none 0 0]) 8 96 Tryz.underlying36 hi0 hz0 hz1 hz2 rfl (by decide) (.slice A L.length cc) L.length (ÀP L) rfl (HO6.o.alloc _) ⟨bx + 1, 0, none⟩ 1 1 (Ľ (Nd.mk k0 lo hi m0 r0 [] []) (.slice A1 n1 p1) nb (.slice A2 n2 p2)) rfl rfl (by rw [← hs6]; exact Êc) (Êb _ _ rfl rfl) hL63 hLb (by simp; omega) ?_); intro v8 wn hown8 hgrow8 hwh8; obtain ⟨gb, cb, hv8, _⟩ := hown8.form (Nat.succ_pos _); subst hv8; have HOw := ħ hown8; have HGr := ħ hgrow8; have HWh := ħ hwh8; clear hown8 hgrow8 hwh8))
    have HRel8 : Hid ((∃ m σk Ik refsk, run m 1 d ((L ++ [(Nd.mk k0 lo hi m0 r0 [] [], Value.slice A1 n1 p1, nb, Value.slice A2 n2 p2)]).map (·.1)) σk = R ∧ 4 * σk.t.length + 1 ≤ m ∧ m ≤ n ∧ RwS E d rv w σk Ik rv2 (.slice (some ⟨gb, 0, none⟩) (L.length + 1) cb) refsk (L ++ [(Nd.mk k0 lo hi m0 r0 [] [], Value.slice A1 n1 p1, nb, Value.slice A2 n2 p2)]) wn) ∨ (∃ f, R = .error f ∧ RwB E d rv w f rv2 (.slice (some ⟨gb, 0, none⟩) (L.length + 1) cb) (L ++ [(Nd.mk k0 lo hi m0 r0 [] [], Value.slice A1 n1 p1, nb, Value.slice A2 n2 p2)]) wn)) := ħ (.inr ⟨f, HRe.o, HS2.o.fault (x := (Nd.mk k0 lo hi m0 r0 [] [], .slice A1 n1 p1, nb, .slice A2 n2 p2)) HF5.o hrb HB5.o (HBx.o.trans (((ā _ _).alloc (ŋ _) _).mono HBx.o.size)) HHe.o ⟨A1, n1, p1, A2, n2, p2, rfl, rfl⟩ HGr.o HOw.o⟩)
    go_roundw
    case rel => exact ⟨some ⟨gb, 0, none⟩, cb, L ++ [(Nd.mk k0 lo hi m0 r0 [] [], .slice A1 n1 p1, nb, .slice A2 n2 p2)], rv2, by rw [ă]; rfl, by rw [ă, Ę]; omega, by rw [ă, Ę]; exact HRel8⟩
    case measure => simp [ËA]; omega
   | ok x =>
    obtain ⟨a, σ1⟩ := x;rw [hat] at hp5;obtain ⟨rv2, I2, refs2, A1, n1, p1, nb, A2, p2, rfl, hN5, hF5, hG5⟩ := hp5
    dsimp only at hN5 hG5 ⊢
    have HQ2 : Hid (run (m + 1) 2 d [] σk = Ù gr a σ1) := ħ (by rw [HQ.o, hat])
    have hs5 := hF5.size;have hb0l := HS2.o.b0.lt;have HNe := ħ (ÁD hG5.sv);have HN5 := ħ hN5;have HF5 := ħ hF5;have HG5 := ħ hG5;clear hN5 hF5 hG5 hat
    go_upto_region 4 with (fail)
    have HX6 : Hid (Blk (w5.alloc (.cells #[.int .i64 a.kind, .int .i64 a.lo, .int .i64 a.hi, .int .i64 a.mode, .int .i64 a.ref, .slice A1 n1 p1, .bool nb, .slice A2 a.kids.length p2] 38)) w5.heap.size 38 #[.int .i64 a.kind, .int .i64 a.lo, .int .i64 a.hi, .int .i64 a.mode, .int .i64 a.ref, .slice A1 n1 p1, .bool nb, .slice A2 a.kids.length p2]) := ħ (Blk.new _ _ _)
    have hs6 : (w5.alloc (.cells #[.int .i64 a.kind, .int .i64 a.lo, .int .i64 a.hi, .int .i64 a.mode, .int .i64 a.ref, .slice A1 n1 p1, .bool nb, .slice A2 a.kids.length p2] 38)).heap.size = w5.heap.size + 1 := by simp
    have HG6 := ħ (HG5.o.alloc (.cells #[.int .i64 a.kind, .int .i64 a.lo, .int .i64 a.hi, .int .i64 a.mode, .int .i64 a.ref, .slice A1 n1 p1, .bool nb, .slice A2 a.kids.length p2] 38));have HF6 := ħ (HF5.o.alloc (.cells #[.int .i64 a.kind, .int .i64 a.lo, .int .i64 a.hi, .int .i64 a.mode, .int .i64 a.ref, .slice A1 n1 p1, .bool nb, .slice A2 a.kids.length p2] 38))
    have HN6 : Hid (Ó (KX u2.heap.size w5.heap.size (w5.alloc (.cells #[.int .i64 a.kind, .int .i64 a.lo, .int .i64 a.hi, .int .i64 a.mode, .int .i64 a.ref, .slice A1 n1 p1, .bool nb, .slice A2 a.kids.length p2] 38)) rv2) (w5.alloc (.cells #[.int .i64 a.kind, .int .i64 a.lo, .int .i64 a.hi, .int .i64 a.mode, .int .i64 a.ref, .slice A1 n1 p1, .bool nb, .slice A2 a.kids.length p2] 38)) a (.slice A1 n1 p1) nb (.slice A2 a.kids.length p2)) := ħ (HN5.o.keep fun b hb => ⟨⟨⟨hb.1, Ć hb.2.1 (by simp), hb.2.2⟩, Nat.ne_of_lt hb.2.1⟩, Below.heap_alloc _ _ _ hb.2.1⟩)
    clear HN5 HG5 HF5;generalize (w5.alloc (.cells #[.int .i64 a.kind, .int .i64 a.lo, .int .i64 a.hi, .int .i64 a.mode, .int .i64 a.ref, .slice A1 n1 p1, .bool nb, .slice A2 a.kids.length p2] 38)) = w6 at *;obtain ⟨bx, hbxe⟩ : ∃ bx, bx = w5.heap.size := ⟨_, rfl⟩;rw [← hbxe] at HX6 hs6 HN6 HNe hs5 ⊢;obtain ⟨_, _, _, _, _, _, c6, _⟩ := HG6.o.sv.ten;obtain ⟨y0, y1, y2, y3, y4, y5, y6, y7⟩ := HX6.o.eight;have hlx := HX6.o.lt;clear hbxe
    go_wp2_with fail
    refine (Ëw (gr := gr) (may := ÈC gr a) (a := a) (base := u2.heap.size) (bx := bx) HG6.o HN6.o (by omega) (by omega) (by omega) rfl).mono ?_
    intro e w7 hp7;clear y0 y1 y2 y3 y4 y5 y6 y7 hlx c6
    cases hq : Ù gr a σ1 with
    | error f =>
     rw [hq] at hp7;obtain ⟨v, rfl, ⟨k0, lo, hi, m0, r0, B1, B2, m1, q1, m2, q2, nb2, rfl⟩, hF7, hB7⟩ := hp7
     have HRe : Hid (R = .error f) := ħ (by rw [← HRun2.o, HQ2.o, hq])
     have hs7 := hF7.size;have HX7 := ħ (À hF7 HX6.o HNe.o);have HX8 := ħ (Æ (c0 := .int .i64 k0) (c1 := .int .i64 lo) (c2 := .int .i64 hi) (c3 := .int .i64 m0) (c4 := .int .i64 r0) (c5 := .slice B1 m1 q1) (c6 := .bool nb2) (c7 := .slice B2 m2 q2) HX7.o)
     have HF8 := ħ (Û (c0 := .int .i64 k0) (c1 := .int .i64 lo) (c2 := .int .i64 hi) (c3 := .int .i64 m0) (c4 := .int .i64 r0) (c5 := .slice B1 m1 q1) (c6 := .bool nb2) (c7 := .slice B2 m2 q2) (show u2.heap.size ≤ bx by omega) (HF6.o.trans hF7))
     have HB8 := ħ (ĭ (c0 := .int .i64 k0) (c1 := .int .i64 lo) (c2 := .int .i64 hi) (c3 := .int .i64 m0) (c4 := .int .i64 r0) (c5 := .slice B1 m1 q1) (c6 := .bool nb2) (c7 := .slice B2 m2 q2) HNe.o hB7)
     have HO8 := ħ (HS2.o.row.rowA.fr HF8.o (by omega) HS2.o.apart).own
     have hs8 : (st8 w7 bx (.int .i64 k0) (.int .i64 lo) (.int .i64 hi) (.int .i64 m0) (.int .i64 r0) (.slice B1 m1 q1) (.bool nb2) (.slice B2 m2 q2)).heap.size = w7.heap.size := ÂM;obtain ⟨y0, y1, y2, y3, y4, y5, y6, y7⟩ := HX7.o.eight;have hfx := HX7.o.frozen;clear hF7 hB7 hq HX6
     go_upto_region 6 with (fail)
     unfold st8 at HX8 HF8 HB8 HO8 hs8;generalize World.setCell _ _ _ = w8 at HX8 HF8 HB8 HO8 hs8 ⊢;clear y0 y1 y2 y3 y4 y5 y6 y7 hfx HX7;obtain ⟨y0, y1, y2, y3, y4, y5, y6, y7⟩ := HX8.o.eight;have hlx := HX8.o.lt;obtain ⟨i0, hi0, hz0, hz1, hz2⟩ := Á ÆF
     have hbs : w.heap.size + 1 ≤ w8.heap.size := by omega
     have hL63 : L.length + 1 ≤ maxLen := by unfold maxLen; omega
     have hLb : (L.length + 1) * 96 ≤ 140737488355328 := by omega
     go_wp2_with (
      (at_builtin; (refine ÿ rfl (.tmp 40) (.tmp 42) 36 rfl (w.heap.size + 1) 38 i0 (.agg #[.int .i64 0, .int .i64 0, .int .i64 0, .int .i64 0, .int .i64 0, .slice none 0 0, .bool false, .slice none 0 0]) 8 96 Tryz.underlying36 hi0 hz0 hz1 hz2 rfl (by decide) (.slice A L.length cc) L.length (ÀP L) rfl (HO8.o.alloc _) ⟨w7.heap.size, 0, none⟩ 1 1 (Ľ (Nd.mk k0 lo hi m0 r0 [] []) (.slice B1 m1 q1) nb2 (.slice B2 m2 q2)) rfl rfl (by rw [← hs8]; exact Êc) (Êb _ _ rfl rfl) hL63 hLb (by simp; omega) ?_); intro v8 wn hown8 hgrow8 hwh8; obtain ⟨gb, cb, hv8, _⟩ := hown8.form (Nat.succ_pos _); subst hv8; have HOw := ħ hown8; have HGr := ħ hgrow8; have HWh := ħ hwh8; clear hown8 hgrow8 hwh8))
     have HRel8 : Hid ((∃ m σk Ik refsk, run m 1 d ((L ++ [(Nd.mk k0 lo hi m0 r0 [] [], Value.slice B1 m1 q1, nb2, Value.slice B2 m2 q2)]).map (·.1)) σk = R ∧ 4 * σk.t.length + 1 ≤ m ∧ m ≤ n ∧ RwS E d rv w σk Ik rv2 (.slice (some ⟨gb, 0, none⟩) (L.length + 1) cb) refsk (L ++ [(Nd.mk k0 lo hi m0 r0 [] [], Value.slice B1 m1 q1, nb2, Value.slice B2 m2 q2)]) wn) ∨ (∃ f, R = .error f ∧ RwB E d rv w f rv2 (.slice (some ⟨gb, 0, none⟩) (L.length + 1) cb) (L ++ [(Nd.mk k0 lo hi m0 r0 [] [], Value.slice B1 m1 q1, nb2, Value.slice B2 m2 q2)]) wn)) := ħ (.inr ⟨f, HRe.o, HS2.o.fault (x := (Nd.mk k0 lo hi m0 r0 [] [], Value.slice B1 m1 q1, nb2, Value.slice B2 m2 q2)) HF8.o hrb HB8.o ((ā _ _).alloc (ŋ _) _) HHe.o ⟨B1, m1, q1, B2, m2, q2, rfl, rfl⟩ HGr.o HOw.o⟩)
     go_roundw
     case rel => exact ⟨some ⟨gb, 0, none⟩, cb, L ++ [(Nd.mk k0 lo hi m0 r0 [] [], Value.slice B1 m1 q1, nb2, Value.slice B2 m2 q2)], rv2, by rw [ă]; rfl, by rw [ă, Ę]; omega, by rw [ă, Ę]; exact HRel8⟩
     case measure => simp [ËA]; omega
    | ok z =>
     obtain ⟨y, σ3⟩ := z;rw [hq] at hp7;obtain ⟨I3, B1, m1, q1, nb2, B2, q2, rfl, hN7, hF7, hG7⟩ := hp7
     dsimp only at hN7 hG7 ⊢
     have HRe : Hid (run (m + 1) 1 d (L.map (·.1) ++ [y]) σ3 = R) := ħ (by rw [← HRun2.o, HQ2.o, hq])
     have HLe := ħ (HLen.o y σ3 (by rw [HQ2.o, hq]))
     have hs7 := hF7.size;have HX7 := ħ (À hF7 HX6.o HNe.o);have HX8 := ħ (Æ (c0 := .int .i64 y.kind) (c1 := .int .i64 y.lo) (c2 := .int .i64 y.hi) (c3 := .int .i64 y.mode) (c4 := .int .i64 y.ref) (c5 := .slice B1 m1 q1) (c6 := .bool nb2) (c7 := .slice B2 y.kids.length q2) HX7.o)
     have HF8 := ħ (Û (c0 := .int .i64 y.kind) (c1 := .int .i64 y.lo) (c2 := .int .i64 y.hi) (c3 := .int .i64 y.mode) (c4 := .int .i64 y.ref) (c5 := .slice B1 m1 q1) (c6 := .bool nb2) (c7 := .slice B2 y.kids.length q2) (show u2.heap.size ≤ bx by omega) (HF6.o.trans hF7))
     have HG8 := ħ (ŗ (c0 := .int .i64 y.kind) (c1 := .int .i64 y.lo) (c2 := .int .i64 y.hi) (c3 := .int .i64 y.mode) (c4 := .int .i64 y.ref) (c5 := .slice B1 m1 q1) (c6 := .bool nb2) (c7 := .slice B2 y.kids.length q2) HNe.o hG7)
     have HN8 : Hid (Ó (KQ u2.heap.size (st8 w7 bx (.int .i64 y.kind) (.int .i64 y.lo) (.int .i64 y.hi) (.int .i64 y.mode) (.int .i64 y.ref) (.slice B1 m1 q1) (.bool nb2) (.slice B2 y.kids.length q2)) rv2) (st8 w7 bx (.int .i64 y.kind) (.int .i64 y.lo) (.int .i64 y.hi) (.int .i64 y.mode) (.int .i64 y.ref) (.slice B1 m1 q1) (.bool nb2) (.slice B2 y.kids.length q2)) y (.slice B1 m1 q1) nb2 (.slice B2 y.kids.length q2)) := ħ (hN7.keep fun b hb => ⟨⟨hb.1.1, by rw [ÂM]; exact hb.1.2.1, hb.1.2.2⟩, ÂL hb.2⟩)
     have HO8 := ħ (HS2.o.row.rowA.fr HF8.o (by omega) HS2.o.apart).own
     have hs8 : (st8 w7 bx (.int .i64 y.kind) (.int .i64 y.lo) (.int .i64 y.hi) (.int .i64 y.mode) (.int .i64 y.ref) (.slice B1 m1 q1) (.bool nb2) (.slice B2 y.kids.length q2)).heap.size = w7.heap.size := ÂM;obtain ⟨y0, y1, y2, y3, y4, y5, y6, y7⟩ := HX7.o.eight;have hfx := HX7.o.frozen;clear hF7 hG7 hN7 hq HX6
     go_upto_region 6 with (fail)
     unfold st8 at HX8 HF8 HG8 HN8 HO8 hs8;generalize World.setCell _ _ _ = w8 at HX8 HF8 HG8 HN8 HO8 hs8 ⊢;clear y0 y1 y2 y3 y4 y5 y6 y7 hfx HX7;obtain ⟨y0, y1, y2, y3, y4, y5, y6, y7⟩ := HX8.o.eight;have hlx := HX8.o.lt;obtain ⟨i0, hi0, hz0, hz1, hz2⟩ := Á ÆF
     have hbs : w.heap.size + 1 ≤ w8.heap.size := by omega
     have hL63 : L.length + 1 ≤ maxLen := by unfold maxLen; omega
     have hLb : (L.length + 1) * 96 ≤ 140737488355328 := by omega
     go_wp2_with (
      (at_builtin; (refine ÿ rfl (.tmp 40) (.tmp 42) 36 rfl (w.heap.size + 1) 38 i0 (.agg #[.int .i64 0, .int .i64 0, .int .i64 0, .int .i64 0, .int .i64 0, .slice none 0 0, .bool false, .slice none 0 0]) 8 96 Tryz.underlying36 hi0 hz0 hz1 hz2 rfl (by decide) (.slice A L.length cc) L.length (ÀP L) rfl (HO8.o.alloc _) ⟨w7.heap.size, 0, none⟩ 1 1 (Ľ y (.slice B1 m1 q1) nb2 (.slice B2 y.kids.length q2)) rfl rfl (by rw [← hs8]; exact Êc) (Êb _ _ rfl rfl) hL63 hLb (by simp; omega) ?_); intro v8 wn hown8 hgrow8 hwh8; obtain ⟨gb, cb, hv8, _⟩ := hown8.form (Nat.succ_pos _); subst hv8; have HOw := ħ hown8; have HGr := ħ hgrow8; have HWh := ħ hwh8; clear hown8 hgrow8 hwh8))
     have HRel8 : Hid ((∃ m σk Ik refsk, run m 1 d ((L ++ [(y, Value.slice B1 m1 q1, nb2, Value.slice B2 y.kids.length q2)]).map (·.1)) σk = R ∧ 4 * σk.t.length + 1 ≤ m ∧ m ≤ n ∧ RwS E d rv w σk Ik rv2 (.slice (some ⟨gb, 0, none⟩) (L.length + 1) cb) refsk (L ++ [(y, Value.slice B1 m1 q1, nb2, Value.slice B2 y.kids.length q2)]) wn) ∨ (∃ f, R = .error f ∧ RwB E d rv w f rv2 (.slice (some ⟨gb, 0, none⟩) (L.length + 1) cb) (L ++ [(y, Value.slice B1 m1 q1, nb2, Value.slice B2 y.kids.length q2)]) wn)) := ħ (.inl ⟨m + 1, σ3, I3, refs2, by rw [Ĕ]; exact HRe.o, by have := HLe.o; omega, by omega, HS2.o.snoc (x := (y, Value.slice B1 m1 q1, nb2, Value.slice B2 y.kids.length q2)) (b2 := u2.heap.size) HF8.o hrb HG8.o (ŋ _) (Äf _ HN8.o) ((ā _ _).alloc (ŋ _) _) HLe.o HGr.o HOw.o HWh.o⟩)
     go_roundw
     case rel => exact ⟨some ⟨gb, 0, none⟩, cb, L ++ [(y, Value.slice B1 m1 q1, nb2, Value.slice B2 y.kids.length q2)], rv2, by rw [ă]; rfl, by rw [ă, Ę]; omega, by rw [ă, Ę]; exact HRel8⟩
     case measure => simp [ËA]; omega
  ·obtain ⟨f, hRf, hB⟩ := hb
   have HB := ħ hB;obtain ⟨_, _, _, _, _, c6, k6, _⟩ := hB.bd.ten
   have k6' : ¬ (f.1 : Int) = 0 := by simpa using k6
   have hsL := hB.small;have HRe := ħ hRf;clear hB hRf HRel
   go_wp2_with fail
   refine (Ų 2 HB.o.row (by omega)).mono ?_
   rintro e w9 ⟨rfl, hb9⟩;obtain ⟨k0, lo, hi, m0, r0, A1, A2, n1, p1, n2, p2, nb, hj⟩ := ÄB 2 HB.o.row;rw [hj];have HB9 := ħ (HB.o.on hb9);have hz := HB9.o.b0.eight;have hfz := HB9.o.b0.frozen;clear hj hb9 HB c6 k6 k6';go_wp2;exact ß rfl rfl rfl (Æ HB9.o.b0) (HB9.o.told (_k := 2) HRe.o)
end
section
open Go.RowKit
open Go.Proofs.YtpginkdkblmnbaaGreatDoor.Cl (Rg à Ý Ä ò Î Á)
variable {w w' w0 : World} {E : RE} {σ σ1 : St} {I g d c p : Nat} {rv rv' : Value} {refs : List (Nat × Nat)} {f : Flt}
set_option maxRecDepth 100000 in
set_option maxHeartbeats 4000000 in
theorem ÐW (h : Bd E w d rv f) : Calls Tryz.prog 62 #[.pointer (some ⟨E.rb, 0, none⟩)] w (BP E d rv f w) := by
 have hgn := h.new (ŋ w.heap.size);have HB0 := ħ (Blk.new w 38 #[.int .i64 0, .int .i64 0, .int .i64 0, .int .i64 0, .int .i64 0, .slice none 0 0, .bool false, .slice none 0 0]);have HF0 := ħ ((FrR.refl (E := E) (rv := rv) w).alloc (.cells #[.int .i64 0, .int .i64 0, .int .i64 0, .int .i64 0, .int .i64 0, .slice none 0 0, .bool false, .slice none 0 0] 38));have HB := ħ (h.alloc (.cells #[.int .i64 0, .int .i64 0, .int .i64 0, .int .i64 0, .int .i64 0, .slice none 0 0, .bool false, .slice none 0 0] 38));clear h;go_enter Tryz.func62, Tryz.ntmps62
 go_upto_region 2 with (fail)
 generalize w.alloc _ = w1 at *;obtain ⟨_, _, _, _, _, c6, k6, _⟩ := HB.o.ten
 have k6' : ¬ (f.1 : Int) = 0 := by simpa using k6
 go_loopw [3, 4, 5] (fun kvs _ _ wr => kvs = .slice none 0 0 ∧ wr = w1) (fun _ _ _ _ => 0)
 case atStart => exact ⟨rfl, rfl⟩
 case round =>
  obtain ⟨rfl, rfl⟩ := hrel
  go_wp2_with fail
  refine (Ų (base := wr.heap.size) (v := .slice none 0 0) (L := []) 2 ⟨World.ownsRow_nil _ _ _ _, by simp⟩ (by simp)).mono ?_
  rintro e w9 ⟨rfl, hb9⟩;unfold jV;have HB9 := ħ (HB0.o.on hb9);have HD9 := ħ (HB.o.on hb9);have HF9 := ħ (HF0.o.trans (FrR.of_below hb9));have hz := HB9.o.eight;have hfz := HB9.o.frozen;clear hb9 c6 k6 k6';go_wp2;exact ß rfl rfl rfl (Æ HB9.o) ⟨_, rfl, ⟨0, 0, 0, 0, 0, none, none, 0, 0, 0, 0, false, rfl⟩, Û (ŋ _) HF9.o, ĭ hgn HD9.o⟩
theorem ÆG (w : World) (base : Nat) (x : Nd) (pv kv : Value) (nb : Bool) (h : base ≤ w.heap.size) : (w.alloc (.cells #[.int .i64 x.kind, .int .i64 x.lo, .int .i64 x.hi, .int .i64 x.mode, .int .i64 x.ref, pv, .bool nb, kv] 38)).ownsRow base 38 8 (.slice (some ⟨w.heap.size, 0, none⟩) 1 1) 1 (ÀP [(x, pv, nb, kv)]) :=
 ⟨by simp [ÀP, Ľ], .inr ⟨w.heap.size, 1, _, rfl, h, heap_alloc_new w _, ŋ _, by unfold maxLen; omega, rfl, by simp [ÀP, Ľ]⟩⟩
set_option maxRecDepth 100000 in
set_option maxHeartbeats 8000000 in
theorem ÐX : ÐV E := by
 intro w d rv f h;have hgn := h.new (ŋ w.heap.size);have HB0 := ħ (Blk.new w 38 #[.int .i64 0, .int .i64 0, .int .i64 0, .int .i64 0, .int .i64 0, .slice none 0 0, .bool false, .slice none 0 0]);have HF0 := ħ ((FrR.refl (E := E) (rv := rv) w).alloc (.cells #[.int .i64 0, .int .i64 0, .int .i64 0, .int .i64 0, .int .i64 0, .slice none 0 0, .bool false, .slice none 0 0] 38));have HB := ħ (h.alloc (.cells #[.int .i64 0, .int .i64 0, .int .i64 0, .int .i64 0, .int .i64 0, .slice none 0 0, .bool false, .slice none 0 0] 38))
 have hsz : (w.alloc (.cells #[.int .i64 0, .int .i64 0, .int .i64 0, .int .i64 0, .int .i64 0, .slice none 0 0, .bool false, .slice none 0 0] 38)).heap.size = w.heap.size + 1 := by simp
 clear h;go_enter Tryz.func34, Tryz.ntmps34
 go_upto_region 1 with (fail)
 generalize w.alloc _ = w1 at *
 go_wp2_with fail
 refine (ÐW HB.o).mono ?_;rintro e w2 ⟨v, rfl, ⟨k0, lo, hi, m0, r0, A1, A2, n1, p1, n2, p2, nb, rfl⟩, hF2, hB2⟩;have HB02 := ħ (À hF2 HB0.o hgn);have HF2 := ħ (HF0.o.trans hF2);have HD2 := ħ hB2;have hs2 := hF2.size;clear hF2 hB2 HB0 HF0 HB
 go_upto_region 2 with (fail)
 have HO3 := ħ (ÆG w2 w1.heap.size (.mk k0 lo hi m0 r0 [] []) (.slice A1 n1 p1) (.slice A2 n2 p2) nb hs2);have hb3 : Below w2.heap.size w2 (w2.alloc (.cells #[.int .i64 k0, .int .i64 lo, .int .i64 hi, .int .i64 m0, .int .i64 r0, .slice A1 n1 p1, .bool nb, .slice A2 n2 p2] 38)) := (ā _ _).alloc (ŋ _) _;have HO3 : Hid (World.ownsRow (w2.alloc (.cells #[.int .i64 k0, .int .i64 lo, .int .i64 hi, .int .i64 m0, .int .i64 r0, .slice A1 n1 p1, .bool nb, .slice A2 n2 p2] 38)) w1.heap.size 38 8 (.slice (some ⟨w2.heap.size, 0, none⟩) 1 1) 1 (ÀP [(Nd.mk k0 lo hi m0 r0 [] [], .slice A1 n1 p1, nb, .slice A2 n2 p2)])) := HO3;generalize (w2.alloc (.cells #[.int .i64 k0, .int .i64 lo, .int .i64 hi, .int .i64 m0, .int .i64 r0, .slice A1 n1 p1, .bool nb, .slice A2 n2 p2] 38)) = w3 at *;have HB03 := ħ (HB02.o.on hb3);have HF3 := ħ (HF2.o.trans (FrR.of_below hb3));have HD3 := ħ (HD2.o.on hb3);have hlt3 := HO3.o;obtain ⟨kb, hkb⟩ : ∃ kb, kb = w2.heap.size := ⟨_, rfl⟩;rw [← hkb] at HO3 hlt3 ⊢;have hkl := (World.ownsRow.lt hlt3 kb rfl).2;clear hkb hb3 HB02 HF2 HD2 hlt3
 go_loopw [3] (fun kvs wr => kvs = .slice (some ⟨kb, 0, none⟩) 1 1 ∧ wr = w3) (fun _ _ => 0)
 case atStart => exact ⟨rfl, rfl⟩
 case round =>
  obtain ⟨rfl, rfl⟩ := hrel
  go_wp2_with fail
  refine (Ðt HD3.o 124).mono ?_;rintro e w4 ⟨rfl, hF4, hB4⟩;have HB04 := ħ (À hF4 HB03.o hgn)
  have HO4 := ħ (Þ HO3.o (w' := w4) (fun i hi => by
   have e : i = kb := by simpa [Value.ownBlock] using hi
   subst e;obtain ⟨_, gg, rr, hs⟩ := HD3.o
   refine hF4.block i hkl (fun e => ?_) (fun e => ?_)
   ·have h1 := hs.blk
    rcases HO3.o.2 with ⟨h, _⟩ | ⟨b, cap, cur, hv, _, hh, _⟩
    ·cases h
    ·have : i = b := by injection hv with h; injection h with h; injection h
     subst this
     exact Â hh (e ▸ h1) (by decide) rfl
   ·rcases HO3.o.2 with ⟨h, _⟩ | ⟨b, cap, cur, hv, _, hh, _⟩
    ·cases h
    ·have : i = b := by injection hv with h; injection h with h; injection h
     subst this
     exact Ń hs.own hh (by decide) e))
  have HF4 := ħ (HF3.o.trans hF4);have HD4 := ħ hB4;clear hF4 hB4
  go_wp2_with fail
  refine (Ų (base := w1.heap.size) (v := .slice (some ⟨kb, 0, none⟩) 1 1) (L := [(Nd.mk k0 lo hi m0 r0 [] [], .slice A1 n1 p1, nb, .slice A2 n2 p2)]) 3 ⟨HO4.o, fun x hx => by rw [List.mem_singleton.1 hx]; exact ⟨A1, n1, p1, A2, n2, p2, rfl, rfl⟩⟩ (by simp)).mono ?_
  rintro e w9 ⟨rfl, hb9⟩;unfold jV
  dsimp only [Nd.kind, Nd.lo, Nd.hi, Nd.mode, Nd.ref]
  have HB9 := ħ (HB04.o.on hb9);have HD9 := ħ (HD4.o.on hb9);have HF9 := ħ (HF4.o.trans (FrR.of_below hb9));have hz := HB9.o.eight;have hfz := HB9.o.frozen;clear hb9;go_wp2;exact ß rfl rfl rfl (Æ HB9.o) ⟨_, rfl, ⟨k0, lo, hi, m0, r0, A1, A2, n1, p1, n2, p2, nb, rfl⟩, Û (ŋ _) HF9.o, ĭ hgn HD9.o⟩
theorem Êd {n d : Nat} {acc : List Nd} {σ : St} : run (n + 1) 0 d acc σ = match run n 1 d [] σ with
 | .error e => .error e
 | .ok x => if at_ x.2.t 0 = 124 then run n 0 d (acc ++ [x.1]) (x.2.adv 1) else .ok (joinA (acc ++ [x.1]), x.2) := by
 rw [Ái]
 cases run n 1 d [] σ with
 | error e => rfl
 | ok x => rfl
set_option maxRecDepth 100000 in
set_option maxHeartbeats 16000000 in
theorem Ðg {n : Nat} (hQ : ∀ k, k < n → Ïe E k) : ÉZ E n := by
 intro w σ d I rv refs hfu hG
 obtain ⟨n, rfl⟩ : ∃ n', n = n' + 1 := ⟨n - 1, by omega⟩
 have hrb := hG.sv.blk.lt;have hlen := hG.pos.short hG.sv.len.1;obtain ⟨R, hR⟩ : ∃ R, R = run (n + 1) 0 d [] σ := ⟨_, rfl⟩;rw [← hR];rw [Êd] at hR;have hgn := ÁD hG.sv;have HB0 := ħ (Blk.new w 38 #[.int .i64 0, .int .i64 0, .int .i64 0, .int .i64 0, .int .i64 0, .slice none 0 0, .bool false, .slice none 0 0]);have HF0 := ħ ((FrR.refl (E := E) (rv := rv) w).alloc (.cells #[.int .i64 0, .int .i64 0, .int .i64 0, .int .i64 0, .int .i64 0, .slice none 0 0, .bool false, .slice none 0 0] 38))
 have hsz : (w.alloc (.cells #[.int .i64 0, .int .i64 0, .int .i64 0, .int .i64 0, .int .i64 0, .slice none 0 0, .bool false, .slice none 0 0] 38)).heap.size = w.heap.size + 1 := by simp
 have HRw := ħ (hQ n (by omega) (by omega) (hG.alloc (.cells #[.int .i64 0, .int .i64 0, .int .i64 0, .int .i64 0, .int .i64 0, .slice none 0 0, .bool false, .slice none 0 0] 38)))
 have HR := ħ hR;clear hG hR;go_enter Tryz.func34, Tryz.ntmps34
 go_upto_region 1 with (fail)
 generalize w.alloc _ = w1 at *
 go_wp2_with fail
 refine HRw.o.mono ?_;intro e w2 hp2;clear HRw
 have key : ∃ (k0 lo hi m0 r0 : Int) (A1 A2 : Option Addr) (n1 p1 n2 p2 : Nat) (nb : Bool) (L : List QN) (rv2 : Value), e = .returned (.agg #[.int .i64 k0, .int .i64 lo, .int .i64 hi, .int .i64 m0, .int .i64 r0, .slice A1 n1 p1, .bool nb, .slice A2 n2 p2]) ∧ w1.heap.size ≤ w2.heap.size ∧ L.length = 1 ∧
  Hid ((∃ m σk Ik refsk, L ≠ [] ∧ (if at_ σk.t 0 = 124 then run m 0 d (L.map (·.1)) (σk.adv 1) else .ok (joinA (L.map (·.1)), σk)) = R ∧ 4 * σk.t.length + 1 ≤ m ∧ m ≤ n ∧ RwS E d rv w σk Ik rv2 (.slice (some ⟨w2.heap.size, 0, none⟩) L.length 1) refsk L (w2.alloc (.cells #[.int .i64 k0, .int .i64 lo, .int .i64 hi, .int .i64 m0, .int .i64 r0, .slice A1 n1 p1, .bool nb, .slice A2 n2 p2] 38))) ∨ (∃ f, R = .error f ∧ RwB E d rv w f rv2 (.slice (some ⟨w2.heap.size, 0, none⟩) L.length 1) L (w2.alloc (.cells #[.int .i64 k0, .int .i64 lo, .int .i64 hi, .int .i64 m0, .int .i64 r0, .slice A1 n1 p1, .bool nb, .slice A2 n2 p2] 38)))) := by
  have hR := HR.o
  cases hr : run n 1 d [] σ with
  | error f =>
   rw [hr] at hp2 hR;obtain ⟨rv2, v, rfl, ⟨k0, lo, hi, m0, r0, A1, A2, n1, p1, n2, p2, nb, rfl⟩, hF2, hB2⟩ := hp2;refine ⟨k0, lo, hi, m0, r0, A1, A2, n1, p1, n2, p2, nb, [(Nd.mk k0 lo hi m0 r0 [] [], .slice A1 n1 p1, nb, .slice A2 n2 p2)], rv2, rfl, hF2.size, rfl, ħ (.inr ⟨f, hR, ?_⟩)⟩
   exact ⟨hB2.alloc _, (HF0.o.trans hF2).alloc _, (À hF2 HB0.o hgn).alloc _, ⟨ÆG w2 (w.heap.size + 1) (.mk k0 lo hi m0 r0 [] []) (.slice A1 n1 p1) (.slice A2 n2 p2) nb (by have := hF2.size; omega), fun x hx => by rw [List.mem_singleton.1 hx]; exact ⟨A1, n1, p1, A2, n2, p2, rfl, rfl⟩⟩, by simp⟩
  | ok x =>
   obtain ⟨y, σ2⟩ := x;have hlen2 := ((ÂQ n).2.1 _ _ _ _ _ hr).1;rw [hr] at hp2 hR;obtain ⟨rv2, I2, refs2, A1, n1, p1, nb, A2, p2, rfl, hN2, hF2, hG2⟩ := hp2
   dsimp only at hN2 hG2 hR
   refine ⟨y.kind, y.lo, y.hi, y.mode, y.ref, A1, A2, n1, p1, y.kids.length, p2, nb, [(y, .slice A1 n1 p1, nb, .slice A2 y.kids.length p2)], rv2, rfl, hF2.size, rfl, ħ (.inl ⟨n, σ2, I2, refs2, by simp, hR.symm, by omega, ŋ _, ?_⟩)⟩
   refine ⟨hG2.alloc _, (HF0.o.trans hF2).alloc _, (À hF2 HB0.o hgn).alloc _, ⟨ÆG w2 (w.heap.size + 1) y (.slice A1 n1 p1) (.slice A2 y.kids.length p2) nb (by have := hF2.size; omega), fun x hx => ?_⟩, by simp; omega⟩
   rw [List.mem_singleton.1 hx]
   refine hN2.keep fun b hb => ⟨⟨⟨by have := hb.1; omega, Ć hb.2.1 (by simp), hb.2.2⟩, fun e => ?_⟩, Below.heap_alloc _ _ _ hb.2.1⟩
   have e' : w2.heap.size = b := by simpa [Value.ownBlock] using e
   have := hb.2.1;omega
 obtain ⟨k0, lo, hi, m0, r0, A1, A2, n1, p1, n2, p2, nb, L, rv2, rfl, hs2, hL1, HRel0⟩ := key;clear hp2 HR HF0 HB0
 go_upto_region 2 with (fail)
 generalize (w2.alloc (.cells #[.int .i64 k0, .int .i64 lo, .int .i64 hi, .int .i64 m0, .int .i64 r0, .slice A1 n1 p1, .bool nb, .slice A2 n2 p2] 38)) = w3 at *;obtain ⟨kb, hkb⟩ : ∃ kb, kb = w2.heap.size := ⟨_, rfl⟩;rw [← hkb] at HRel0 ⊢
 have hkv : Value.slice (some ⟨kb, 0, none⟩) 1 1 = .slice (some ⟨kb, 0, none⟩) L.length 1 := by rw [hL1]
 have hL300 : L.length ≤ 300 := by omega
 have hKv := ħ hkv;clear hkb hkv hL1
 go_loopw [3] (fun kvs wr => ∃ (A : Option Addr) (cc : Nat) (L : List QN) (rvk : Value), kvs = .slice A L.length cc ∧ L.length ≤ 300 ∧ Hid ((∃ m σk Ik refsk, L ≠ [] ∧ (if at_ σk.t 0 = 124 then run m 0 d (L.map (·.1)) (σk.adv 1) else .ok (joinA (L.map (·.1)), σk)) = R ∧ 4 * σk.t.length + 1 ≤ m ∧ m ≤ n ∧ RwS E d rv w σk Ik rvk (.slice A L.length cc) refsk L wr) ∨ (∃ f, R = .error f ∧ RwB E d rv w f rvk (.slice A L.length cc) L wr))) (fun kvs _ => 300 - ËA kvs)
 case atStart => exact ⟨some ⟨kb, 0, none⟩, 1, L, rv2, hKv.o, hL300, HRel0⟩
 case round =>
  clear HRel0 hKv hL300;obtain ⟨A, cc, L, rvk, rfl, hl, HRel⟩ := hrel
  rcases HRel.o with hg | hb
  ·clear HRel
   obtain ⟨m, σk, Ik, refsk, hLn, hrun, hm, hmn, hS⟩ := hg;have HS := ħ hS;obtain ⟨bb, hbb⟩ : ∃ bb, bb = decide (at_ σk.t 0 = 124) := ⟨_, rfl⟩
   have HIs := ħ (ù [124] (by decide) (by decide) hS.gd bb (by rw [hbb, Ŀ (by decide)]; rfl))
   have HBB := ħ hbb;have hsL := hS.small;have HRun := ħ hrun;have HLn := ħ hLn;clear hS hbb hrun hLn
   go_wp2_with fail
   refine HIs.o.mono ?_;rintro e w4 ⟨rfl, hF4, I4, hG4⟩
   cases bb with
   | false =>
    have h124 : ¬ at_ σk.t 0 = 124 := of_decide_eq_false HBB.o.symm;have hb0l := HS.o.b0.lt
    have hne : w.heap.size ≠ E.rb ∧ w.heap.size ≠ E.ub ∧ w.heap.size ≠ E.ab ∧ rvk.ownBlock ≠ some w.heap.size := by
     refine ⟨by omega, ?_, ?_, Ń HS.o.gd.sv.own HS.o.b0 (by decide)⟩
     ·intro e
      obtain ⟨⟨cs, t, z, h1, _, h2⟩, _⟩ := HS.o.gd.sv.ty
      rw [← e] at h1; exact Â HS.o.b0 h1 (fun e => h2 e.symm) rfl
     ·intro e
      obtain ⟨_, cs, t, z, h1, _, h2⟩ := HS.o.gd.sv.ty
      rw [← e] at h1; exact Â HS.o.b0 h1 (fun e => h2 e.symm) rfl
    have HS4 : Hid (RwS E d rv w σk I4 rvk (.slice A L.length cc) refsk L w4) := ħ ⟨hG4, HS.o.fr.trans hF4, À hF4 HS.o.b0 hne, HS.o.row.fr hF4 (by omega) HS.o.apart, HS.o.small⟩
    have HRe : Hid (R = .ok (ÀS 3 (L.map (·.1)), σk)) := ħ (by
     rw [← HRun.o, if_neg h124, Ïd (fun e => HLn.o (List.map_eq_nil_iff.1 e))])
    clear hF4 hG4 HIs HS
    go_wp2_with fail
    refine (Ų 3 HS4.o.row.rowA (by omega)).mono ?_
    rintro e w9 ⟨rfl, hb9⟩;obtain ⟨k0, lo, hi, m0, r0, A1, A2, n1, p1, n2, p2, nb, hj⟩ := ÄB 3 HS4.o.row.rowA;rw [hj];have HJ := ħ hj;have HS9 := ħ (HS4.o.on hb9);have hz := HS9.o.b0.eight;have hfz := HS9.o.b0.frozen;clear hj hb9 HS4;go_wp2
    exact ß rfl rfl rfl (Æ HS9.o.b0) (HS9.o.told (by decide) HRe.o HJ.o)
   | true =>
    have h124 : at_ σk.t 0 = 124 := of_decide_eq_true HBB.o.symm
    have hkn : σk.t ≠ [] := Àf (by omega)
    have hpos := List.length_pos_iff.2 hkn
    obtain ⟨m, rfl⟩ : ∃ m', m = m' + 1 := ⟨m - 1, by omega⟩
    have hadv : (σk.adv 1).t.length = σk.t.length - 1 := ã σk 1
    have HRun2 : Hid ((match run m 1 d [] (σk.adv 1) with | .error e => .error e | .ok x => if at_ x.2.t 0 = 124 then run m 0 d (L.map (·.1) ++ [x.1]) (x.2.adv 1) else .ok (joinA (L.map (·.1) ++ [x.1]), x.2)) = R) := ħ (by
     rw [← HRun.o, if_pos h124, Êd])
    have HRw := ħ (hQ m (by omega) (by omega) (show Gd E w4 (σk.adv 1) d rvk I4 refsk from hG4))
    have HF4 := ħ hF4;have hs4 := hF4.size;have hb0l := HS.o.b0.lt;have HKn := ħ hkn;clear hG4 hF4 HIs hkn HRun
    go_wp2_with fail
    refine HRw.o.mono ?_;intro e w5 hp5;clear HRw
    cases hr : run m 1 d [] (σk.adv 1) with
    | error f =>
     rw [hr] at hp5;obtain ⟨rv2, v, rfl, ⟨k0, lo, hi, m0, r0, A1, A2, n1, p1, n2, p2, nb, rfl⟩, hF5, hB5⟩ := hp5
     have HRe : Hid (R = .error f) := ħ (by rw [← HRun2.o, hr])
     have hs5 := hF5.size;have HF5 := ħ (HF4.o.trans hF5);have HB5 := ħ hB5;clear hF5 hB5 hr HRun2;obtain ⟨i0, hi0, hz0, hz1, hz2⟩ := Á ÆF
     have hbs : w.heap.size + 1 ≤ w5.heap.size := by omega
     have hL63 : L.length + 1 ≤ maxLen := by unfold maxLen; omega
     have hLb : (L.length + 1) * 96 ≤ 140737488355328 := by omega
     have HO5 := ħ (HS.o.row.rowA.fr HF5.o (by omega) HS.o.apart).own
     go_wp2_with (
      (at_builtin; refine ÿ rfl _ _ 36 rfl (w.heap.size + 1) 38 i0 (.agg #[.int .i64 0, .int .i64 0, .int .i64 0, .int .i64 0, .int .i64 0, .slice none 0 0, .bool false, .slice none 0 0]) 8 96 Tryz.underlying36 hi0 hz0 hz1 hz2 rfl (by decide) (.slice A L.length cc) L.length (ÀP L) rfl (HO5.o.alloc _) ⟨w5.heap.size, 0, none⟩ 1 1 (Ľ (Nd.mk k0 lo hi m0 r0 [] []) (.slice A1 n1 p1) nb (.slice A2 n2 p2)) rfl rfl Êc (Êb _ _ rfl rfl) hL63 hLb (by simp; omega) ?_; intro v8 wn hown8 hgrow8 hwh8; obtain ⟨gb, cb, hv8, _⟩ := hown8.form (Nat.succ_pos _); subst hv8; have HOw := ħ hown8; have HGr := ħ hgrow8; have HWh := ħ hwh8; clear hown8 hgrow8 hwh8))
     have HRel8 : Hid ((∃ m σk Ik refsk, L ++ [(Nd.mk k0 lo hi m0 r0 [] [], Value.slice A1 n1 p1, nb, Value.slice A2 n2 p2)] ≠ [] ∧ (if at_ σk.t 0 = 124 then run m 0 d ((L ++ [(Nd.mk k0 lo hi m0 r0 [] [], Value.slice A1 n1 p1, nb, Value.slice A2 n2 p2)]).map (·.1)) (σk.adv 1) else .ok (joinA ((L ++ [(Nd.mk k0 lo hi m0 r0 [] [], Value.slice A1 n1 p1, nb, Value.slice A2 n2 p2)]).map (·.1)), σk)) = R ∧ 4 * σk.t.length + 1 ≤ m ∧ m ≤ n ∧ RwS E d rv w σk Ik rv2 (.slice (some ⟨gb, 0, none⟩) (L.length + 1) cb) refsk (L ++ [(Nd.mk k0 lo hi m0 r0 [] [], Value.slice A1 n1 p1, nb, Value.slice A2 n2 p2)]) wn) ∨ (∃ f, R = .error f ∧ RwB E d rv w f rv2 (.slice (some ⟨gb, 0, none⟩) (L.length + 1) cb) (L ++ [(Nd.mk k0 lo hi m0 r0 [] [], Value.slice A1 n1 p1, nb, Value.slice A2 n2 p2)]) wn)) := ħ ((.inr ⟨f, HRe.o, HS.o.fault (x := (Nd.mk k0 lo hi m0 r0 [] [], Value.slice A1 n1 p1, nb, Value.slice A2 n2 p2)) HF5.o hrb HB5.o ((ā _ _).alloc (ŋ _) _) HKn.o ⟨A1, n1, p1, A2, n2, p2, rfl, rfl⟩ HGr.o HOw.o⟩))
     go_roundw
     case rel => exact ⟨some ⟨gb, 0, none⟩, cb, L ++ [(Nd.mk k0 lo hi m0 r0 [] [], Value.slice A1 n1 p1, nb, Value.slice A2 n2 p2)], rv2, by rw [ă]; rfl, by rw [ă, Ę]; omega, by rw [ă, Ę]; exact HRel8⟩
     case measure => simp [ËA]; omega
    | ok x =>
     obtain ⟨y, σ2⟩ := x;have hlen2 := ((ÂQ m).2.1 _ _ _ _ _ hr).1;rw [hr] at hp5;obtain ⟨rv2, I2, refs2, A1, n1, p1, nb, A2, p2, rfl, hN5, hF5, hG5⟩ := hp5
     dsimp only at hN5 hG5 ⊢
     have HRe : Hid ((if at_ σ2.t 0 = 124 then run m 0 d (L.map (·.1) ++ [y]) (σ2.adv 1) else .ok (joinA (L.map (·.1) ++ [y]), σ2)) = R) := ħ (by rw [← HRun2.o, hr])
     have hs5 := hF5.size;have HF5 := ħ (HF4.o.trans hF5);have HG5 := ħ hG5;have HN5 := ħ hN5;clear hF5 hG5 hN5 hr HRun2;obtain ⟨i0, hi0, hz0, hz1, hz2⟩ := Á ÆF
     have hbs : w.heap.size + 1 ≤ w5.heap.size := by omega
     have hL63 : L.length + 1 ≤ maxLen := by unfold maxLen; omega
     have hLb : (L.length + 1) * 96 ≤ 140737488355328 := by omega
     have HO5 := ħ (HS.o.row.rowA.fr HF5.o (by omega) HS.o.apart).own
     go_wp2_with (
      (at_builtin; refine ÿ rfl _ _ 36 rfl (w.heap.size + 1) 38 i0 (.agg #[.int .i64 0, .int .i64 0, .int .i64 0, .int .i64 0, .int .i64 0, .slice none 0 0, .bool false, .slice none 0 0]) 8 96 Tryz.underlying36 hi0 hz0 hz1 hz2 rfl (by decide) (.slice A L.length cc) L.length (ÀP L) rfl (HO5.o.alloc _) ⟨w5.heap.size, 0, none⟩ 1 1 (Ľ y (.slice A1 n1 p1) nb (.slice A2 y.kids.length p2)) rfl rfl Êc (Êb _ _ rfl rfl) hL63 hLb (by simp; omega) ?_; intro v8 wn hown8 hgrow8 hwh8; obtain ⟨gb, cb, hv8, _⟩ := hown8.form (Nat.succ_pos _); subst hv8; have HOw := ħ hown8; have HGr := ħ hgrow8; have HWh := ħ hwh8; clear hown8 hgrow8 hwh8))
     have HRel8 : Hid ((∃ m σk Ik refsk, L ++ [(y, Value.slice A1 n1 p1, nb, Value.slice A2 y.kids.length p2)] ≠ [] ∧ (if at_ σk.t 0 = 124 then run m 0 d ((L ++ [(y, Value.slice A1 n1 p1, nb, Value.slice A2 y.kids.length p2)]).map (·.1)) (σk.adv 1) else .ok (joinA ((L ++ [(y, Value.slice A1 n1 p1, nb, Value.slice A2 y.kids.length p2)]).map (·.1)), σk)) = R ∧ 4 * σk.t.length + 1 ≤ m ∧ m ≤ n ∧ RwS E d rv w σk Ik rv2 (.slice (some ⟨gb, 0, none⟩) (L.length + 1) cb) refsk (L ++ [(y, Value.slice A1 n1 p1, nb, Value.slice A2 y.kids.length p2)]) wn) ∨ (∃ f, R = .error f ∧ RwB E d rv w f rv2 (.slice (some ⟨gb, 0, none⟩) (L.length + 1) cb) (L ++ [(y, Value.slice A1 n1 p1, nb, Value.slice A2 y.kids.length p2)]) wn)) := ħ ((.inl ⟨m, σ2, I2, refs2, by simp, by rw [Ĕ]; exact HRe.o, by omega, by omega, HS.o.snoc (x := (y, Value.slice A1 n1 p1, nb, Value.slice A2 y.kids.length p2)) (b2 := w4.heap.size) HF5.o hrb HG5.o hs4 (Äf _ HN5.o) ((ā _ _).alloc (ŋ _) _) (by omega) HGr.o HOw.o HWh.o⟩))
     go_roundw
     case rel => exact ⟨some ⟨gb, 0, none⟩, cb, L ++ [(y, Value.slice A1 n1 p1, nb, Value.slice A2 y.kids.length p2)], rv2, by rw [ă]; rfl, by rw [ă, Ę]; omega, by rw [ă, Ę]; exact HRel8⟩
     case measure => simp [ËA]; omega
  ·obtain ⟨f, hRf, hB⟩ := hb
   have HB := ħ hB;have hsL := hB.small;have HRe := ħ hRf;clear hB hRf HRel
   go_wp2_with fail
   refine (Ðt HB.o.bd 124).mono ?_;rintro e w4 ⟨rfl, hF4, hB4⟩;have hb0l := HB.o.b0.lt
   have hne : w.heap.size ≠ E.rb ∧ w.heap.size ≠ E.ub ∧ w.heap.size ≠ E.ab ∧ rvk.ownBlock ≠ some w.heap.size := by
    obtain ⟨_, g, refs, hs⟩ := HB.o.bd
    refine ⟨by omega, ?_, ?_, Ń hs.own HB.o.b0 (by decide)⟩
    ·intro e
     obtain ⟨⟨cs, t, z, h1, _, h2⟩, _⟩ := hs.ty
     rw [← e] at h1; exact Â HB.o.b0 h1 (fun e => h2 e.symm) rfl
    ·intro e
     obtain ⟨_, cs, t, z, h1, _, h2⟩ := hs.ty
     rw [← e] at h1; exact Â HB.o.b0 h1 (fun e => h2 e.symm) rfl
   have HB4 : Hid (RwB E d rv w f rvk (.slice A L.length cc) L w4) := ħ ⟨hB4, HB.o.fr.trans hF4, À hF4 HB.o.b0 hne, HB.o.row.fr hF4 (by omega) HB.o.apart, HB.o.small⟩
   clear hF4 hB4 HB
   go_wp2_with fail
   refine (Ų 3 HB4.o.row (by omega)).mono ?_
   rintro e w9 ⟨rfl, hb9⟩;obtain ⟨k0, lo, hi, m0, r0, A1, A2, n1, p1, n2, p2, nb, hj⟩ := ÄB 3 HB4.o.row;rw [hj];have HB9 := ħ (HB4.o.on hb9);have hz := HB9.o.b0.eight;have hfz := HB9.o.b0.frozen;clear hj hb9 HB4;go_wp2;exact ß rfl rfl rfl (Æ HB9.o.b0) (HB9.o.told (_k := 3) HRe.o)
theorem Ïf (E : RE) : ∀ n, ÉZ E n ∧ Ïe E n ∧ Ïb E n := by
 intro n
 induction n using Nat.strongRecOn with
 | _ n ih =>
  refine ⟨Ðg fun k hk => (ih k hk).2.1, Ðf fun k hk => (ih k hk).2.2, ?_⟩
  intro w0 w σ d I rv refs hfu hG h40 hG1
  have hn : σ.t ≠ [] := Àf (by omega)
  have hp := List.length_pos_iff.2 hn
  obtain ⟨n, rfl⟩ : ∃ n', n = n' + 1 := ⟨n - 1, by omega⟩
  exact Ír (ih n (Nat.lt_succ_self _)).1 ÐX (by omega) hG h40 hG1
end
end Go.Proofs.YtpginkdkblmnbaaGreatDoor
