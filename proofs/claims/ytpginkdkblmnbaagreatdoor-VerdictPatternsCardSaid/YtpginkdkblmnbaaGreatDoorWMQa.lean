import Derived.Test.YtpginkdkblmnbaaGreatDoorWMPa
import Derived.WalkSmall
import Derived.BigQuiet
import Derived.Deep.QuietTactic
import Derived.Deep.RegionWith
import Derived.Deep.Cut
import Derived.IntWalk
import Derived.Laws.IdiomStrings
namespace Go.Proofs.YtpginkdkblmnbaaGreatDoor
section
open Go.RowKit
open Go.Proofs.YtpginkdkblmnbaaGreatDoor.Cl (Rg)
variable {w w' w'' : World}
structure RE where
 rb : Nat
 n₀ : Nat
 UA : Option Addr
 AA : Option Addr
 ub : Nat
 ab : Nat
 uc : Nat
 ac : Nat
 s : List UInt8
def RE.N (E : RE) : Nat := (un E.s).length
def Àa (l : List (Nat × Nat)) : List Value := l.flatMap fun x => [.int .i64 (x.1 : Nat), .int .i64 (x.2 : Nat)]
structure Sv (E : RE) (w : World) (I g d c p : Nat) (rv : Value) (refs : List (Nat × Nat)) : Prop where
 blk : Blk w E.rb 91 #[.slice E.UA E.N E.uc, .slice E.AA E.N E.ac, .int .i64 (I : Nat), .int .i64 (g : Nat), .int .i64 (d : Nat), rv, .int .i64 (c : Nat), .int .i64 (p : Nat), .bool false, .int .i64 (E.s.length : Nat)]
 len : E.s.length ≤ 256 ∧ E.N ≤ E.uc ∧ E.N ≤ E.ac
 us : ∀ i u, (un E.s)[i]? = some u → E.UA = some ⟨E.ub, 0, none⟩ ∧ E.ub < w.heap.size ∧ w.cell? ⟨E.ub, i, none⟩ = some (.int .i64 (u : Nat))
 at_ : ∀ i a, (ats 0 E.s)[i]? = some a → E.AA = some ⟨E.ab, 0, none⟩ ∧ E.ab < w.heap.size ∧ w.cell? ⟨E.ab, i, none⟩ = some (.int .i64 (a : Nat))
 own : w.ownsRow E.n₀ 93 2 rv refs.length (Àa refs)
 ne : E.ub ≠ E.rb ∧ E.ab ≠ E.rb ∧ rv.ownBlock ≠ some E.rb ∧ rv.ownBlock ≠ some E.ub ∧ rv.ownBlock ≠ some E.ab ∧ E.n₀ ≤ E.rb
 ty : (∃ cs t z, w.heap[E.ub]? = some (.cells cs t z) ∧ t ≠ 93 ∧ t ≠ 38) ∧ (∃ cs t z, w.heap[E.ab]? = some (.cells cs t z) ∧ t ≠ 93 ∧ t ≠ 38)
 bnd : I ≤ 100000 ∧ g ≤ 9 ∧ d ≤ 33 ∧ c ≤ 100 ∧ p ≤ 256 ∧ refs.length ≤ 300
theorem Ìi (s : List UInt8) : (un s).length ≤ s.length := by
 refine ÇN (P := fun s => (un s).length ≤ s.length) (by simp [Äh]) (fun s h ih => ?_) s
 rw [ÀT s h, ć];have := ÁJ s h;rw [ċ] at ih;omega
section
variable {E : RE} {I g d c p : Nat} {rv : Value} {refs : List (Nat × Nat)}
theorem Sv.ten (h : Sv E w I g d c p rv refs) : w.cell? ⟨E.rb, 0, none⟩ = some (.slice E.UA E.N E.uc) ∧ w.cell? ⟨E.rb, 1, none⟩ = some (.slice E.AA E.N E.ac) ∧ w.cell? ⟨E.rb, 2, none⟩ = some (.int .i64 (I : Nat)) ∧ w.cell? ⟨E.rb, 3, none⟩ = some (.int .i64 (g : Nat)) ∧
 w.cell? ⟨E.rb, 4, none⟩ = some (.int .i64 (d : Nat)) ∧ w.cell? ⟨E.rb, 5, none⟩ = some rv ∧ w.cell? ⟨E.rb, 6, none⟩ = some (.int .i64 (c : Nat)) ∧ w.cell? ⟨E.rb, 7, none⟩ = some (.int .i64 (p : Nat)) ∧ w.cell? ⟨E.rb, 9, none⟩ = some (.int .i64 (E.s.length : Nat)) :=
 ⟨h.blk.cell 0, h.blk.cell 1, h.blk.cell 2, h.blk.cell 3, h.blk.cell 4, h.blk.cell 5, h.blk.cell 6, h.blk.cell 7, h.blk.cell 9⟩
theorem Sv.fz (h : Sv E w I g d c p rv refs) (j : Nat) : w.frozen? ⟨E.rb, j, none⟩ = false := h.blk.frozen j
theorem Sv.n256 (h : Sv E w I g d c p rv refs) : E.N ≤ 256 := ē (Ìi _) h.len.1
theorem Sv.ub_lt (h : Sv E w I g d c p rv refs) : E.ub < w.heap.size ∧ E.ab < w.heap.size := by
 obtain ⟨⟨_, _, _, h1, _⟩, _, _, _, h2, _⟩ := h.ty;exact ⟨ä h1, ä h2⟩
theorem Sv.own_lt (h : Sv E w I g d c p rv refs) {k : Nat} (hk : rv.ownBlock = some k) : k < w.heap.size ∧ E.n₀ ≤ k := by
 rcases h.own.2 with ⟨rfl, _⟩ | ⟨b, cap, cur, rfl, hb, hh, _⟩
 ·simp [Value.ownBlock] at hk
 ·obtain rfl : k = b := by simpa [Value.ownBlock] using hk.symm
  exact ⟨ä hh, hb⟩
theorem Sv.keep (h : Sv E w I g d c p rv refs) (hk : ∀ i, i < w.heap.size → (i = E.rb ∨ i = E.ub ∨ i = E.ab ∨ rv.ownBlock = some i) → w'.heap[i]? = w.heap[i]?) (hs : w.heap.size ≤ w'.heap.size) : Sv E w' I g d c p rv refs := by
 obtain ⟨⟨cs1, t1, z1, hh1, g1⟩, cs2, t2, z2, hh2, g2⟩ := h.ty
 refine ⟨(hk E.rb h.blk.lt (.inl rfl)).trans h.blk, h.len, fun i u hu => ?_, fun i a ha => ?_, ?_, h.ne, ⟨⟨cs1, t1, z1, (hk E.ub (ä hh1) (.inr (.inl rfl))).trans hh1, g1⟩, cs2, t2, z2, (hk E.ab (ä hh2) (.inr (.inr (.inl rfl)))).trans hh2, g2⟩, h.bnd⟩
 ·obtain ⟨h1, h2, h3⟩ := h.us i u hu
  exact ⟨h1, Ć h2 hs, (Ì (hk E.ub h2 (.inr (.inl rfl))) _).trans h3⟩
 ·obtain ⟨h1, h2, h3⟩ := h.at_ i a ha
  exact ⟨h1, Ć h2 hs, (Ì (hk E.ab h2 (.inr (.inr (.inl rfl)))) _).trans h3⟩
 ·exact Þ h.own fun i hi => hk i (h.own_lt hi.symm).1 (.inr (.inr (.inr hi.symm)))
theorem Sv.on (h : Sv E w I g d c p rv refs) (hb : Below w.heap.size w w') : Sv E w' I g d c p rv refs := h.keep (fun i hi _ => hb.block i hi) hb.size
theorem Sv.drewN (h : Sv E w I g d c p rv refs) (n : Nat) : Sv E (w.drewN n) I g d c p rv refs := h.keep (fun _ _ _ => rfl) (ŋ _)
theorem Sv.alloc (h : Sv E w I g d c p rv refs) (o : Obj) : Sv E (w.alloc o) I g d c p rv refs := h.keep (fun i hi _ => Below.heap_alloc w o i hi) (by simp)
theorem Sv.far (h : Sv E w I g d c p rv refs) {b o : Nat} (hb : b ≠ E.rb ∧ b ≠ E.ub ∧ b ≠ E.ab ∧ rv.ownBlock ≠ some b) (u : Value) : Sv E (w.setCell ⟨b, o, none⟩ u) I g d c p rv refs := h.keep (fun i _ hc => Below.heap_setCell _ _ _ _ (by
 rintro rfl
 rcases hc with rfl | rfl | rfl | hc
 ·exact hb.1 rfl
 ·exact hb.2.1 rfl
 ·exact hb.2.2.1 rfl
 ·exact hb.2.2.2 hc)) (by simp [World.setCell])
theorem Sv.store (h : Sv E w I g d c p rv refs) {j : Nat} {u : Value} {I' g' d' c' p' : Nat} (hc : (#[.slice E.UA E.N E.uc, .slice E.AA E.N E.ac, .int .i64 (I : Nat), .int .i64 (g : Nat), .int .i64 (d : Nat), rv, .int .i64 (c : Nat), .int .i64 (p : Nat), .bool false, .int .i64 (E.s.length : Nat)] : Array Value).setIfInBounds j u = #[.slice E.UA E.N E.uc, .slice E.AA E.N E.ac, .int .i64 (I' : Nat), .int .i64 (g' : Nat), .int .i64 (d' : Nat), rv, .int .i64 (c' : Nat), .int .i64 (p' : Nat), .bool false, .int .i64 (E.s.length : Nat)])
 (hb : I' ≤ 100000 ∧ g' ≤ 9 ∧ d' ≤ 33 ∧ c' ≤ 100 ∧ p' ≤ 256) : Sv E (w.setCell ⟨E.rb, j, none⟩ u) I' g' d' c' p' rv refs := by
 have hk : ∀ i, i ≠ E.rb → (w.setCell ⟨E.rb, j, none⟩ u).heap[i]? = w.heap[i]? := fun i hi => Below.heap_setCell _ _ _ _ hi
 have hs : (w.setCell ⟨E.rb, j, none⟩ u).heap.size = w.heap.size := by simp [World.setCell]
 obtain ⟨⟨cs1, t1, z1, hh1, g1⟩, cs2, t2, z2, hh2, g2⟩ := h.ty
 refine ⟨?_, h.len, fun i u hu => ?_, fun i a ha => ?_, ?_, h.ne, ⟨⟨cs1, t1, z1, (hk E.ub h.ne.1).trans hh1, g1⟩, cs2, t2, z2, (hk E.ab h.ne.2.1).trans hh2, g2⟩, ⟨hb.1, hb.2.1, hb.2.2.1, hb.2.2.2.1, hb.2.2.2.2, h.bnd.2.2.2.2.2⟩⟩
 ·have := h.blk.set_ j u
  rwa [hc] at this
 ·obtain ⟨h1, h2, h3⟩ := h.us i u hu
  exact ⟨h1, by rw [hs]; exact h2, (Ì (hk E.ub h.ne.1) _).trans h3⟩
 ·obtain ⟨h1, h2, h3⟩ := h.at_ i a ha
  exact ⟨h1, by rw [hs]; exact h2, (Ì (hk E.ab h.ne.2.1) _).trans h3⟩
 ·exact Þ h.own fun i hi => hk i (by rintro rfl; exact h.ne.2.2.1 hi.symm)
theorem Sv.setI (h : Sv E w I g d c p rv refs) {J : Nat} (hJ : J ≤ 100000) : Sv E (w.setCell ⟨E.rb, 2, none⟩ (.int .i64 (J : Nat))) J g d c p rv refs := h.store rfl ⟨hJ, h.bnd.2.1, h.bnd.2.2.1, h.bnd.2.2.2.1, h.bnd.2.2.2.2.1⟩
end
structure FrR (E : RE) (w : World) (rv : Value) (w' : World) (rv' : Value) : Prop where
 os : w'.os = w.os
 tape : w'.tape = w.tape
 output : w'.output = w.output
 size : w.heap.size ≤ w'.heap.size
 block : ∀ i, i < w.heap.size → i ≠ E.rb → rv.ownBlock ≠ some i → w'.heap[i]? = w.heap[i]?
 row : ∀ k, rv'.ownBlock = some k → rv.ownBlock = some k ∨ w.heap.size ≤ k
section
variable {E : RE} {rv rv' rv'' : Value}
theorem FrR.refl (w : World) : FrR E w rv w rv := ⟨rfl, rfl, rfl, ŋ _, fun _ _ _ _ => rfl, fun _ h => .inl h⟩
theorem FrR.trans (h : FrR E w rv w' rv') (k : FrR E w' rv' w'' rv'') : FrR E w rv w'' rv'' :=
 ⟨k.os.trans h.os, k.tape.trans h.tape, k.output.trans h.output, ē h.size k.size, fun i hi h1 h2 => (k.block i (Ć hi h.size) h1 (fun e => by
   rcases h.row i e with e | e
   ·exact h2 e
   ·omega)).trans (h.block i hi h1 h2), fun j hj => by
   rcases k.row j hj with e | e
   ·exact h.row j e
   ·exact .inr (ē h.size e)⟩
theorem FrR.of_below (h : Below w.heap.size w w') : FrR E w rv w' rv := ⟨h.os, h.tape, h.output, h.size, fun i hi _ _ => h.block i hi, fun _ h => .inl h⟩
theorem FrR.alloc (h : FrR E w rv w' rv') (o : Obj) : FrR E w rv (w'.alloc o) rv' := h.trans (FrR.of_below ((ā _ _).alloc (ŋ _) o))
theorem FrR.drewN (h : FrR E w rv w' rv') (n : Nat) : FrR E w rv (w'.drewN n) rv' := ⟨h.os, h.tape, h.output, h.size, h.block, h.row⟩
theorem FrR.set_ (h : FrR E w rv w' rv') {q : Addr} (hq : q.block = E.rb ∨ w.heap.size ≤ q.block) (u : Value) : FrR E w rv (w'.setCell q u) rv' :=
 ⟨h.os, h.tape, h.output, by simpa [World.setCell] using h.size, fun i hi h1 h2 => (Below.heap_setCell _ _ _ _ (by rcases hq with e | e <;> omega)).trans (h.block i hi h1 h2), h.row⟩
theorem FrR.old {n : Nat} (h : FrR E w rv w' rv') (hn : n ≤ w.heap.size) (h1 : n ≤ E.rb) (h2 : ∀ k, rv.ownBlock = some k → n ≤ k) : Below n w w' :=
 ⟨h.os, h.tape, h.output, h.size, fun i hi => h.block i (by omega) (by omega) (fun e => by have := h2 i e; omega)⟩
end
structure Gd (E : RE) (w : World) (σ : St) (d : Nat) (rv : Value) (I : Nat) (refs : List (Nat × Nat)) : Prop where
 sv : Sv E w I σ.g d 0 0 rv refs
 pos : Pos E.s σ I
 refl : refs.length = σ.bk.length
 same : ∀ (j : Nat) (r b : Nat × Nat), refs[j]? = some r → σ.bk[j]? = some b → r.1 = b.1 ∧ (ats 0 E.s)[r.2]? = some b.2
 deep : d ≤ 32
 le : I ≤ E.N
 rl : refs.length ≤ I
def Bd (E : RE) (w : World) (d : Nat) (rv : Value) (f : Flt) : Prop := f.1 ≠ 0 ∧ ∃ g refs, Sv E w E.N g d f.1 f.2 rv refs
section
variable {E : RE} {σ : St} {d I : Nat} {rv : Value} {refs : List (Nat × Nat)} {f : Flt}
theorem Gd.on (h : Gd E w σ d rv I refs) (hb : Below w.heap.size w w') : Gd E w' σ d rv I refs := ⟨h.sv.on hb, h.pos, h.refl, h.same, h.deep, h.le, h.rl⟩
theorem Gd.alloc (h : Gd E w σ d rv I refs) (o : Obj) : Gd E (w.alloc o) σ d rv I refs := ⟨h.sv.alloc o, h.pos, h.refl, h.same, h.deep, h.le, h.rl⟩
theorem Gd.drewN (h : Gd E w σ d rv I refs) (n : Nat) : Gd E (w.drewN n) σ d rv I refs := ⟨h.sv.drewN n, h.pos, h.refl, h.same, h.deep, h.le, h.rl⟩
theorem Bd.on (h : Bd E w d rv f) (hb : Below w.heap.size w w') : Bd E w' d rv f := by
 obtain ⟨h0, g, refs, h⟩ := h;exact ⟨h0, g, refs, h.on hb⟩
end
end
section
open Go.RowKit
open Go.Proofs.YtpginkdkblmnbaaGreatDoor.Cl (Rg)
variable {w w' : World} {E : RE} {σ : St} {I g d c p : Nat} {rv : Value} {refs : List (Nat × Nat)} {f : Flt}
def onI (E : RE) (J : Nat) : Int := match (un E.s)[J]? with | some u => (u : Int) | none => -1
theorem Ìj {J : Nat} (h : E.N ≤ J) : onI E J = -1 := by
 unfold onI;rw [List.getElem?_eq_none h]
theorem Gd.onI (h : Gd E w σ d rv I refs) (k : Nat) : onI E (I + k) = onN σ.t k := h.pos.on k
set_option maxRecDepth 100000 in
set_option maxHeartbeats 2000000 in
theorem Ìk (k : Nat) (hk : k ≤ 1000) (h : Sv E w I g d c p rv refs) : Calls Tryz.prog 61 #[.pointer (some ⟨E.rb, 0, none⟩), .int .i64 (k : Nat)] w fun e w' => e = .returned (.int .i64 (onI E (I + k))) ∧ ∃ m, w' = w.drewN m := by
 obtain ⟨c0, _, c2, _⟩ := h.ten;have hI := h.bnd.1
 have hI' : (I : Int) ≤ 100000 := by omega
 have hk' : (k : Int) ≤ 1000 := by omega
 have hwr : IntKind.i64.wrap ((I : Int) + (k : Int)) = (I : Int) + (k : Int) := IntWalk.i64_in _ (by omega)
 by_cases hlt : I + k < E.N
 ·obtain ⟨hA, _, hc⟩ := h.us (I + k) _ (Ā hlt)
  have e : Go.Proofs.YtpginkdkblmnbaaGreatDoor.onI E (I + k) = ((un E.s)[I + k] : Nat) := by unfold Go.Proofs.YtpginkdkblmnbaaGreatDoor.onI; rw [Ā hlt]
  rw [e];generalize (un E.s)[I + k] = u at hc ⊢;rw [hA] at c0
  have h0 : (0 : Int) ≤ (I : Int) + (k : Int) := by omega
  have htn : ((I : Int) + (k : Int)).toNat = I + k := by omega
  have hi : (I : Int) + (k : Int) < (E.N : Int) := by omega
  clear h e hA hlt;go_enter Tryz.func61, Tryz.ntmps61;go_wp2;go_quiet (fail);go_wp2;go_quiet (fail);go_wp2;go_ret;exact ⟨rfl, _, World.drewN_drewN _ _ _⟩
 ·have hi : ¬ (I : Int) + (k : Int) < (E.N : Int) := by omega
  rw [Ìj (by omega)]
  clear h hlt;go_enter Tryz.func61, Tryz.ntmps61;go_wp2;go_quiet (fail);go_wp2;go_ret;exact ⟨rfl, _, rfl⟩
theorem Ðp (k : Nat) (hk : k ≤ 1000) (h : Gd E w σ d rv I refs) : Calls Tryz.prog 61 #[.pointer (some ⟨E.rb, 0, none⟩), .int .i64 (k : Nat)] w fun e w' => e = .returned (.int .i64 (onN σ.t k)) ∧ ∃ m, w' = w.drewN m := by
 rw [← h.onI k];exact Ìk k hk h.sv
def isB (E : RE) (I : Nat) (ws : List UInt8) : Bool := (List.range ws.length).all fun k => decide (onI E (I + k) = ((at_ ws k : Nat) : Int))
theorem Äc {ws : List UInt8} : isB E I ws = true ↔ ∀ k, k < ws.length → onI E (I + k) = ((at_ ws k : Nat) : Int) := by simp [isB]
theorem Gd.isB (h : Gd E w σ d rv I refs) {ws : List UInt8} (hw : ∀ x ∈ ws, 0 < x.toNat ∧ x.toNat < 128) : isB E I ws = pre ws σ.t := by
 rw [Bool.eq_iff_iff, Äc, ← ÇF ws σ.t hw];unfold Ìh;constructor
 ·intro hh k hk; rw [← h.onI]; exact hh k hk
 ·intro hh k hk; rw [h.onI]; exact hh k hk
set_option maxRecDepth 100000 in
set_option maxHeartbeats 2000000 in
theorem Ðq (ws : List UInt8) (hl : ws.length ≤ 100) (hI1 : I ≤ 1000) (h : Sv E w I g d c p rv refs) : Calls Tryz.prog 33 #[.pointer (some ⟨E.rb, 0, none⟩), .string ⟨ws.toArray⟩] w fun e w' => e = .returned (.bool (isB E I ws)) ∧ FrR E w rv w' rv ∧ Sv E w' (if isB E I ws then I + ws.length else I) g d c p rv refs := by
 obtain ⟨x, hx⟩ : ∃ x : ByteArray, x = ⟨ws.toArray⟩ := ⟨_, rfl⟩
 have hxs : x.size = ws.length := by rw [hx]; rfl
 have hxg : ∀ k, k < ws.length → (x.get! k).toNat = at_ ws k := fun k hk => by
  rw [hx];simp [at_, ByteArray.get!, List.getD_eq_getElem?_getD, hk]
 obtain ⟨bb, hbb⟩ : ∃ bb, bb = isB E I ws := ⟨_, rfl⟩;rw [← hx, ← hbb];have HBB := ħ hbb
 have hx100 : x.size ≤ 100 := by omega
 have HXG := ħ hxg;have HXS := ħ hxs;have HH := ħ h;have hI := h.bnd.1
 have hI' : (I : Int) ≤ 100000 := by omega
 clear h hx hxg hxs hbb;go_enter Tryz.func33, Tryz.ntmps33;go_wp2
 go_loopw [5] (fun i wr => ∃ k : Nat, k ≤ x.size ∧ i = .int .i64 k ∧ Hid (∀ j, j < k → onI E (I + j) = ((at_ ws j : Nat) : Int)) ∧ Below w.heap.size w wr) (fun i _ => x.size - (intOf i).toNat)
 case atStart => exact ⟨0, Ą _, rfl, ħ (fun j hj => absurd hj (by omega)), ā _ _⟩
 case round =>
  obtain ⟨k, hk, rfl, HK, hbel⟩ := hrel;have hsz := hbel.size
  by_cases hlt : k < x.size
  ·have hlti : (k : Int) < x.size := by omega
   have hk1000 : k ≤ 1000 := by omega
   have HO := ħ (fun W (hW : Below w.heap.size w W) => Ìk k hk1000 (HH.o.on hW))
   have hg : RowKit.wrap64 ((x[k].toNat : Nat) : Int) = ((at_ ws k : Nat) : Int) := by
    have h1 := HXG.o k (by rw [← HXS.o]; exact hlt)
    have h2 : (x.get! k).toNat = x[k].toNat := by
     show (x.data[k]!).toNat = _
     rw [getElem!_pos x.data k hlt];rfl
    rw [← h1, h2];have := x[k].toNat_lt;unfold RowKit.wrap64;omega
   obtain ⟨u, hu⟩ : ∃ u, u = onI E (I + k) := ⟨_, rfl⟩;rw [← hu] at HO;have HU := ħ hu;clear hu
   by_cases heq : u = ((at_ ws k : Nat) : Int)
   ·obtain rfl := heq
    go_wp2;go_quiet ((go_at_call 61; exact Calls.quiet_of (HO.o _ (below_drewN hbel _))));go_wp2;go_roundw
    case rel =>
     refine ⟨k + 1, by omega, by go_num, ħ fun j hj => ?_, below_drewN hbel _⟩
     rcases Nat.lt_or_ge j k with h | h
     ·exact HK.o j h
     ·obtain rfl : j = k := by omega
      exact HU.o.symm
    case measure => simp [intOf]; omega
   ·have hne : (u != ((at_ ws k : Nat) : Int)) = true := by simp [heq]
    have hb : isB E I ws = false := by
     cases hh : isB E I ws with
     | false => rfl
     | true => exact absurd (HU.o.trans (Äc.1 hh k (by rw [← HXS.o]; exact hlt))) heq
    obtain rfl : bb = false := HBB.o.trans hb;clear heq hb HBB;go_wp2;go_quiet ((go_at_call 61; exact Calls.quiet_of (HO.o _ (below_drewN hbel _))));go_wp2;go_ret;refine ⟨rfl, (FrR.of_below hbel).drewN _, ?_⟩;exact (HH.o.on hbel).drewN _
  ·obtain rfl : k = x.size := by omega
   have hb : isB E I ws = true := Äc.2 fun j hj => HK.o j (by rw [HXS.o]; exact hj)
   obtain rfl : bb = true := HBB.o.trans hb;clear hb HBB;obtain ⟨_, _, c2, _⟩ := (HH.o.on hbel).ten;have f2 := (HH.o.on hbel).fz 2
   have hx0 : (x.size : Int) ≤ 100 := by omega
   go_wp2;go_ret;refine ⟨rfl, (FrR.of_below hbel).set_ (.inl rfl) _, ?_⟩;rw [← HXS.o]
   have := (HH.o.on hbel).setI (J := I + x.size) (by omega)
   rwa [Int.natCast_add] at this
def atI (E : RE) (i : Nat) : Nat := match (ats 0 E.s)[i]? with | some a => a | none => E.s.length
theorem ÐT (s : List UInt8) : ∀ (p : Nat), ∀ a ∈ ats p s, a ≤ p + s.length := by
 refine ÇN (P := fun s => ∀ p, ∀ a ∈ ats p s, a ≤ p + s.length) (fun p a h => by simp [Ìg] at h) (fun s h ih p a ha => ?_) s
 rw [ÂI p s h] at ha;have := ÁJ s h
 rcases List.mem_cons.1 ha with rfl | ha
 ·omega
 ·have := ih _ a ha
  rw [ċ] at this;omega
theorem Gd.atI (h : Gd E w σ d rv I refs) : atI E I = σ.pos := by
 unfold Go.Proofs.YtpginkdkblmnbaaGreatDoor.atI
 by_cases hn : σ.t = []
 ·rw [List.getElem?_eq_none (by rw [Äa]; exact h.pos.end_.1 hn)]
  exact (h.pos.pos_end hn).symm
 ·rw [h.pos.at_ hn]
set_option maxRecDepth 100000 in
set_option maxHeartbeats 2000000 in
theorem Ãz (c' i : Nat) (hc : c' ≠ 0 ∧ c' ≤ 100) (h : Sv E w I g d 0 p rv refs) : Calls Tryz.prog 35 #[.pointer (some ⟨E.rb, 0, none⟩), .int .i64 (c' : Nat), .int .i64 (i : Nat)] w fun e w' => e = .returned (.tuple #[]) ∧ FrR E w rv w' rv ∧ Sv E w' E.N g d c' (atI E i) rv refs := by
 obtain ⟨c0, c1, c2, _, _, _, c6, c7, c9⟩ := h.ten;have f2 := h.fz 2;have f6 := h.fz 6;have f7 := h.fz 7;have hn := h.n256;have hl := h.len.1;have hb := h.bnd
 by_cases hlt : i < E.N
 ·obtain ⟨a, ha⟩ : ∃ a, (ats 0 E.s)[i]? = some a := ⟨_, Ā (by rw [Äa]; exact hlt)⟩
  obtain ⟨hA, hab, hc1⟩ := h.at_ i a ha
  have e : atI E i = a := by unfold atI; rw [ha]
  have ha2 := ÐT E.s 0 a (Č ha);rw [e];rw [hA] at c1;have hne := h.ne.2.1
  have hlti : (i : Int) < (E.N : Int) := by omega
  have HH := ħ h;clear h e hA ha hlt;go_enter Tryz.func35, Tryz.ntmps35;go_wp2
  refine ⟨rfl, .tuple #[], by simp [results, Tryz.results35, go_sem], rfl, ((((FrR.refl w).set_ (.inl rfl) _).set_ (.inl rfl) _).set_ (.inl rfl) _).set_ (.inl rfl) _, ?_⟩
  have s1 := HH.o.store (j := 6) (u := .int .i64 (c' : Nat)) (I' := I) (g' := g) (d' := d) (c' := c') (p' := p) rfl ⟨hb.1, hb.2.1, hb.2.2.1, hc.2, hb.2.2.2.2.1⟩;have s2 := s1.store (j := 7) (u := .int .i64 (E.s.length : Nat)) (I' := I) (g' := g) (d' := d) (c' := c') (p' := E.s.length) rfl ⟨hb.1, hb.2.1, hb.2.2.1, hc.2, hl⟩
  have s3 := s2.store (j := 7) (u := .int .i64 (a : Nat)) (I' := I) (g' := g) (d' := d) (c' := c') (p' := a) rfl ⟨hb.1, hb.2.1, hb.2.2.1, hc.2, by omega⟩
  exact s3.setI (by omega)
 ·have e : atI E i = E.s.length := by unfold atI; rw [List.getElem?_eq_none (by rw [Äa]; exact Nat.le_of_not_lt hlt)]
  rw [e]
  have hlti : ¬ (i : Int) < (E.N : Int) := by omega
  have HH := ħ h;clear h e hlt;go_enter Tryz.func35, Tryz.ntmps35;go_wp2
  refine ⟨rfl, .tuple #[], by simp [results, Tryz.results35, go_sem], rfl, (((FrR.refl w).set_ (.inl rfl) _).set_ (.inl rfl) _).set_ (.inl rfl) _, ?_⟩
  have s1 := HH.o.store (j := 6) (u := .int .i64 (c' : Nat)) (I' := I) (g' := g) (d' := d) (c' := c') (p' := p) rfl ⟨hb.1, hb.2.1, hb.2.2.1, hc.2, hb.2.2.2.2.1⟩;have s2 := s1.store (j := 7) (u := .int .i64 (E.s.length : Nat)) (I' := I) (g' := g) (d' := d) (c' := c') (p' := E.s.length) rfl ⟨hb.1, hb.2.1, hb.2.2.1, hc.2, hl⟩
  exact s2.setI (by omega)
theorem Ō {I0 : Nat} {σ0 : St} (c' : Nat) (hc : c' ≠ 0 ∧ c' ≤ 100) (hp : atI E I0 = σ0.pos) (h : Sv E w I g d 0 p rv refs) :
 Calls Tryz.prog 35 #[.pointer (some ⟨E.rb, 0, none⟩), .int .i64 (c' : Nat), .int .i64 (I0 : Nat)] w fun e w' => e = .returned (.tuple #[]) ∧ FrR E w rv w' rv ∧ Bd E w' d rv (c', σ0.pos) :=
 (Ãz c' I0 hc h).mono fun _ _ ⟨h1, h2, h3⟩ => ⟨h1, h2, hc.1, g, refs, by rw [← hp]; exact h3⟩
def dgB (u : Int) : Bool := decide (48 ≤ u ∧ u ≤ 57)
def smB (u : Int) : Bool := decide (97 ≤ u ∧ u ≤ 122)
def bgB (u : Int) : Bool := decide (65 ≤ u ∧ u ≤ 90)
theorem þ (u : Int) (b : Bool) (hb : dgB u = b) : Calls Tryz.prog 150 #[.int .i64 u] w fun e w' => e = .returned (.bool b) ∧ w' = w := by
 by_cases h1 : 48 ≤ u
 ·by_cases h2 : u ≤ 57
  ·obtain rfl : b = true := by rw [← hb]; simp [dgB, h1, h2]
   clear hb;go_enter Tryz.func150, Tryz.ntmps150;go_wp2;go_ret;exact ⟨rfl, rfl⟩
  ·obtain rfl : b = false := by rw [← hb]; simp [dgB]; omega
   clear hb;go_enter Tryz.func150, Tryz.ntmps150;go_wp2;go_ret;exact ⟨rfl, rfl⟩
 ·obtain rfl : b = false := by rw [← hb]; simp [dgB]; omega
  clear hb;go_enter Tryz.func150, Tryz.ntmps150;go_wp2;go_ret;exact ⟨rfl, rfl⟩
theorem ů (u : Int) (b : Bool) (hb : smB u = b) : Calls Tryz.prog 151 #[.int .i64 u] w fun e w' => e = .returned (.bool b) ∧ w' = w := by
 by_cases h1 : 97 ≤ u
 ·by_cases h2 : u ≤ 122
  ·obtain rfl : b = true := by rw [← hb]; simp [smB, h1, h2]
   clear hb;go_enter Tryz.func151, Tryz.ntmps151;go_wp2;go_ret;exact ⟨rfl, rfl⟩
  ·obtain rfl : b = false := by rw [← hb]; simp [smB]; omega
   clear hb;go_enter Tryz.func151, Tryz.ntmps151;go_wp2;go_ret;exact ⟨rfl, rfl⟩
 ·obtain rfl : b = false := by rw [← hb]; simp [smB]; omega
  clear hb;go_enter Tryz.func151, Tryz.ntmps151;go_wp2;go_ret;exact ⟨rfl, rfl⟩
theorem Ŝ (u : Int) (b : Bool) (hb : bgB u = b) : Calls Tryz.prog 128 #[.int .i64 u] w fun e w' => e = .returned (.bool b) ∧ w' = w := by
 by_cases h1 : 65 ≤ u
 ·by_cases h2 : u ≤ 90
  ·obtain rfl : b = true := by rw [← hb]; simp [bgB, h1, h2]
   clear hb;go_enter Tryz.func128, Tryz.ntmps128;go_wp2;go_ret;exact ⟨rfl, rfl⟩
  ·obtain rfl : b = false := by rw [← hb]; simp [bgB]; omega
   clear hb;go_enter Tryz.func128, Tryz.ntmps128;go_wp2;go_ret;exact ⟨rfl, rfl⟩
 ·obtain rfl : b = false := by rw [← hb]; simp [bgB]; omega
  clear hb;go_enter Tryz.func128, Tryz.ntmps128;go_wp2;go_ret;exact ⟨rfl, rfl⟩
end
section
open Go.RowKit
open Go.Proofs.YtpginkdkblmnbaaGreatDoor.Cl (Rg à Ý Ä ò Î)
variable {w w' : World} {E : RE} {σ : St} {I g d c p : Nat} {rv : Value} {refs : List (Nat × Nat)} {f : Flt}
def Äd (l : List Rg) (nb : Bool) : List Rg := if nb then ò 0 (ť l) else ť l
def Ľ (nd : Nd) (pv : Value) (nb : Bool) (kv : Value) : List Value := [.int .i64 nd.kind, .int .i64 nd.lo, .int .i64 nd.hi, .int .i64 nd.mode, .int .i64 nd.ref, pv, .bool nb, kv]
def Ás (w : World) (b off : Nat) (nd : Nd) (pv : Value) (nb : Bool) (kv : Value) : Prop := ∀ j u, (Ľ nd pv nb kv)[j]? = some u → w.cell? ⟨b, off + j, none⟩ = some u
inductive Ó (K : Nat → Prop) (w : World) : Nd → Value → Bool → Value → Prop
 | mk {k lo hi m r : Int} {set : List Rg} {kids : List Nd} {pv : Value} {nb : Bool} {A : Option Addr} {cap b off : Nat} (F G : Nat → Value) (H : Nat → Bool) (P : List Rg)
  (hp : Đ K w pv P) (hset : k = 1 → Äd P nb = set) (hl : kids.length ≤ cap) (hm : kids.length ≤ 1000000) (hA : kids ≠ [] → A = some ⟨b, off, none⟩ ∧ K b)
  (hk : ∀ (i : Nat) (nd : Nd), kids[i]? = some nd → Ó K w nd (F i) (H i) (G i))
  (hc : ∀ (i : Nat) (nd : Nd), kids[i]? = some nd → Ás w b (off + i * 8) nd (F i) (H i) (G i)) : Ó K w (.mk k lo hi m r set kids) pv nb (.slice A kids.length cap)
theorem Ó.keep {K K' : Nat → Prop} {w w' : World} (hk : ∀ b, K b → K' b ∧ w'.heap[b]? = w.heap[b]?) {nd : Nd} {pv kv : Value} {nb : Bool} (h : Ó K w nd pv nb kv) : Ó K' w' nd pv nb kv := by
 induction h with
 | mk F G H P hp hset hl hm hA _ hc ih =>
  refine Ó.mk F G H P (hp.keep hk) hset hl hm (fun hn => ⟨(hA hn).1, (hk _ (hA hn).2).1⟩) ih (fun i nd hi j u hu => ?_)
  refine (Ì (hk _ (hA ?_).2).2 _).trans (hc i nd hi j u hu);rintro rfl;simp at hi
theorem Ó.leaf {K : Nat → Prop} {k lo hi m r : Int} {set P : List Rg} {pv : Value} {nb : Bool} (h : Đ K w pv P) (hset : k = 1 → Äd P nb = set) : Ó K w (.mk k lo hi m r set []) pv nb (.slice none 0 0) :=
 Ó.mk (b := 0) (off := 0) (fun _ => .slice none 0 0) (fun _ => .slice none 0 0) (fun _ => false) P h hset (ŋ _) (by simp) (fun e => absurd rfl e) (fun _ _ e => by simp at e) (fun _ _ e => by simp at e)
theorem Ó.one {K : Nat → Prop} {k lo hi m r : Int} {set : List Rg} {nd : Nd} {p0 k0 : Value} {nb0 : Bool} {b off cap : Nat} (h1 : k ≠ 1) (hc : 1 ≤ cap) (hb : K b) (hn : Ó K w nd p0 nb0 k0) (hx : Ás w b off nd p0 nb0 k0) :
 Ó K w (.mk k lo hi m r set [nd]) (.slice none 0 0) false (.slice (some ⟨b, off, none⟩) 1 cap) :=
 Ó.mk (b := b) (off := off) (fun _ => p0) (fun _ => k0) (fun _ => nb0) [] (Đ.nil _ _) (fun e => absurd e h1) hc (by simp) (fun _ => ⟨rfl, hb⟩)
  (fun i x e => by
    obtain ⟨hi, rfl⟩ := List.getElem?_eq_some_iff.1 e
    match i, hi with
    | 0, _ => exact hn)
  (fun i x e => by
    obtain ⟨hi, rfl⟩ := List.getElem?_eq_some_iff.1 e
    match i, hi with
    | 0, _ => simpa using hx)
theorem Ó.lens {K : Nat → Prop} {nd : Nd} {pv kv : Value} {nb : Bool} (h : Ó K w nd pv nb kv) : ∃ A B n c e, pv = .slice A n c ∧ kv = .slice B nd.kids.length e := by
 cases h with
 | mk F G H P hp _ _ _ _ _ =>
  obtain ⟨A, c, rfl, _⟩ := hp;exact ⟨A, _, _, c, _, rfl, rfl⟩
theorem Ó.parts {K : Nat → Prop} {nd : Nd} {pv kv : Value} {nb : Bool} (h : Ó K w nd pv nb kv) : ∃ A cap b off, kv = .slice A nd.kids.length cap ∧ nd.kids.length ≤ cap ∧ nd.kids.length ≤ 1000000 ∧
 ∀ i x, nd.kids[i]? = some x → A = some ⟨b, off, none⟩ ∧ K b ∧ ∃ A1 n1 p1 nb1 A2 p2, Ó K w x (.slice A1 n1 p1) nb1 (.slice A2 x.kids.length p2) ∧ Ás w b (off + i * 8) x (.slice A1 n1 p1) nb1 (.slice A2 x.kids.length p2) := by
 cases h with
 | @mk _ _ _ _ _ set kids _ _ A cap b off F G H P hp _ hl hm hA hk hc =>
  refine ⟨A, cap, b, off, rfl, hl, hm, fun i x hx => ?_⟩
  have hne : kids ≠ [] := by rintro rfl; simp [Nd.kids] at hx
  obtain ⟨A1, A2, n1, p1, p2, e1, e2⟩ := (hk i x hx).lens;refine ⟨(hA hne).1, (hA hne).2, A1, n1, p1, H i, A2, p2, ?_, ?_⟩
  ·have := hk i x hx
   rwa [e1, e2] at this
  ·have := hc i x hx
   rwa [e1, e2] at this
theorem Ás.eight {b o : Nat} {x : Nd} {pv kv : Value} {nb : Bool} (h : Ás w b o x pv nb kv) : w.cell? ⟨b, o, none⟩ = some (.int .i64 x.kind) ∧ w.cell? ⟨b, o + 1, none⟩ = some (.int .i64 x.lo) ∧ w.cell? ⟨b, o + 2, none⟩ = some (.int .i64 x.hi) ∧ w.cell? ⟨b, o + 3, none⟩ = some (.int .i64 x.mode) ∧
 w.cell? ⟨b, o + 4, none⟩ = some (.int .i64 x.ref) ∧ w.cell? ⟨b, o + 5, none⟩ = some pv ∧ w.cell? ⟨b, o + 6, none⟩ = some (.bool nb) ∧ w.cell? ⟨b, o + 7, none⟩ = some kv :=
 ⟨h 0 _ rfl, h 1 _ rfl, h 2 _ rfl, h 3 _ rfl, h 4 _ rfl, h 5 _ rfl, h 6 _ rfl, h 7 _ rfl⟩
theorem Ás.on {b o : Nat} {x : Nd} {pv kv : Value} {nb : Bool} (h : Ás w b o x pv nb kv) (hk : w'.heap[b]? = w.heap[b]?) : Ás w' b o x pv nb kv := fun j u hu => (Ì hk _).trans (h j u hu)
abbrev QN := Nd × Value × Bool × Value
def ÀP (L : List QN) : List Value := L.flatMap fun x => Ľ x.1 x.2.1 x.2.2.1 x.2.2.2
theorem ÄX (a b : List QN) : ÀP (a ++ b) = ÀP a ++ ÀP b := by simp [ÀP]
theorem ÉP (x : QN) : ÀP [x] = Ľ x.1 x.2.1 x.2.2.1 x.2.2.2 := by simp [ÀP]
theorem Æu : ∀ (L : List QN) (i j : Nat) (x : QN) (u : Value), L[i]? = some x → (Ľ x.1 x.2.1 x.2.2.1 x.2.2.2)[j]? = some u → (ÀP L)[i * 8 + j]? = some u
 | [], _, _, _, _, h, _ => by simp at h
 | y :: L, 0, j, x, u, h, hu => by
  simp at h;subst h;rw [ÀP, List.flatMap_cons, Nat.zero_mul, ĉ];rw [List.getElem?_append_left (List.getElem?_eq_some_iff.1 hu).1];exact hu
 | y :: L, i + 1, j, x, u, h, hu => by
  have := Æu L i j x u (by simpa using h) hu
  rw [ÀP, List.flatMap_cons, List.getElem?_append_right (by simp [Ľ]; omega)]
  rw [show (i + 1) * 8 + j - (Ľ y.1 y.2.1 y.2.2.1 y.2.2.2).length = i * 8 + j by simp [Ľ]; omega]
  exact this
structure ÎL (K : Nat → Prop) (w : World) (base : Nat) (v : Value) (L : List QN) : Prop where
 own : w.ownsRow base 38 8 v L.length (ÀP L)
 nodes : ∀ x ∈ L, Ó K w x.1 x.2.1 x.2.2.1 x.2.2.2
theorem ÎL.nil (K : Nat → Prop) (w : World) (base : Nat) : ÎL K w base (.slice none 0 0) [] := ⟨World.ownsRow_nil _ _ _ _, by simp⟩
theorem ÎL.node {K : Nat → Prop} {base : Nat} {v : Value} {L : List QN} (h : ÎL K w base v L) (hK : ∀ g, v.ownBlock = some g → K g) (k lo hi m r : Int) (h1 : k ≠ 1) (hne : L ≠ []) (hm : L.length ≤ 1000000) :
 Ó K w (.mk k lo hi m r [] (L.map (·.1))) (.slice none 0 0) false v := by
 obtain ⟨hown, hnd⟩ := h
 have hL : 0 < L.length := by cases L <;> simp_all
 obtain ⟨g, cap, hv, _, _⟩ := hown.form hL
 have hcap : L.length ≤ cap := by
  rcases hown.2 with ⟨hv', hn⟩ | ⟨g', cap', cur, hv', _, _, hnc, _⟩
  ·omega
  ·rw [hv] at hv'
   injection hv' with _ _ hc
   omega
 have hv0 := hv;subst hv
 have hadd : ∀ j, (⟨g, 0, none⟩ : Addr).add j = ⟨g, 0 + j, none⟩ := fun j => by unfold Addr.add; split <;> simp_all
 have hlen : (L.map (·.1)).length = L.length := by simp
 have key : ∀ (i : Nat) (nd : Nd), (L.map (·.1))[i]? = some nd → ∃ x, L[i]? = some x ∧ x.1 = nd := by
  intro i nd hi;rw [List.getElem?_map] at hi;obtain ⟨x, hx, he⟩ := Option.map_eq_some_iff.1 hi;exact ⟨x, hx, he⟩
 have e := Ó.mk (K := K) (w := w) (k := k) (lo := lo) (hi := hi) (m := m) (r := r) (set := []) (kids := L.map (·.1)) (pv := .slice none 0 0) (nb := false) (A := some ⟨g, 0, none⟩) (cap := cap) (b := g) (off := 0)
  (fun i => (L[i]?.map (·.2.1)).getD (.slice none 0 0)) (fun i => (L[i]?.map (·.2.2.2)).getD (.slice none 0 0)) (fun i => (L[i]?.map (·.2.2.1)).getD false) [] (Đ.nil _ _) (fun e => absurd e h1) (by rw [hlen]; exact hcap) (by rw [hlen]; exact hm) (fun _ => ⟨rfl, hK g rfl⟩)
  (fun i nd hi => by
    obtain ⟨x, hx, rfl⟩ := key i nd hi;simp only [hx, Option.map_some, Option.getD_some]
    exact hnd x (Č hx))
  (fun i nd hi j u hu => by
    obtain ⟨x, hx, rfl⟩ := key i nd hi;simp only [hx, Option.map_some, Option.getD_some] at hu;have hc := hown.cells (g := g) rfl _ _ (Æu L i j x u hx hu);rw [hadd] at hc;rw [← hc]
    congr 2
    omega)
 rw [hlen] at e;exact e
def KQ (base : Nat) (w : World) (rv : Value) (b : Nat) : Prop := base ≤ b ∧ b < w.heap.size ∧ rv.ownBlock ≠ some b
theorem KQ.step {base b : Nat} {rv rv' : Value} (hb : E.rb < base) (hF : FrR E w rv w' rv') (h : KQ base w rv b) : KQ base w' rv' b ∧ w'.heap[b]? = w.heap[b]? := by
 obtain ⟨h1, h2, h3⟩ := h
 refine ⟨⟨h1, Ć h2 hF.size, fun e => ?_⟩, hF.block b h2 (by omega) h3⟩
 rcases hF.row b e with e | e
 ·exact h3 e
 ·omega
theorem KQ.less {base base' b : Nat} {rv : Value} (hb : base' ≤ base) (h : KQ base w rv b) : KQ base' w rv b := ⟨ē hb h.1, h.2⟩
theorem KQ.far {base b o : Nat} {rv : Value} {q : Nat} {u : Value} (hq : q < base) (h : KQ base w rv b) : KQ base (w.setCell ⟨q, o, none⟩ u) rv b ∧ (w.setCell ⟨q, o, none⟩ u).heap[b]? = w.heap[b]? :=
 ⟨⟨h.1, by simpa [World.setCell] using h.2.1, h.2.2⟩, Below.heap_setCell _ _ _ _ (by have := h.1; simp only; omega)⟩
theorem KQ.below {base b : Nat} {rv : Value} (hb : Below w.heap.size w w') (h : KQ base w rv b) : KQ base w' rv b ∧ w'.heap[b]? = w.heap[b]? :=
 ⟨⟨h.1, Ć h.2.1 hb.size, h.2.2⟩, hb.block b h.2.1⟩
end
end Go.Proofs.YtpginkdkblmnbaaGreatDoor
