/- Joined: TpW, TpA, TpB, TpE. -/
import Derived.Test.YtefgobmpleoafaaGreatPkP
import Derived.Test.YtefgobmpleoafaaGreatMPk
import Derived.BigQuiet
import Derived.Deep.QuietTactic
import Derived.Deep.RegionWith
import Derived.Deep.RegionLaw
import Derived.Deep.RegionHeld
import Derived.Deep.Cut
import Derived.IntWalk
import Derived.Laws.StructEq
import Derived.Laws.CopyOwn
import Derived.Deep.OwnRows
import Derived.Lib.MinMax
/- The tape in memory; what a call of it keeps. -/
namespace Go.Proofs.YtefgobmpleoafaaGreat
open Go.RowKit
variable {w w' w'' : World} {S S' : Nat → Prop} {base : Nat}

theorem Own.one {v : Value} {s : List UInt8} (h : Own w base v s) : ∃ A c, v = .slice A s.length c := by
  rcases h.2 with ⟨hv, hn⟩ | ⟨g, c, cur, hv, _, _, hc, _⟩
  · exact ⟨none, 0, by rw [hv, hn]⟩
  · exact ⟨_, c, hv⟩
/-- A row of bytes of the call's own, opened: nil, or a block. -/
theorem Own.form {v : Value} {s : List UInt8} (h : Own w base v s) : (v = .slice none 0 0 ∧ s = []) ∨ ∃ g c, v = .slice (some ⟨g, 0, none⟩) s.length c ∧ s.length ≤ c := by
  rcases h.2 with ⟨hv, hn⟩ | ⟨g, c, cur, hv, _, _, hc, _⟩
  · exact .inl ⟨hv, List.eq_nil_of_length_eq_zero hn⟩
  · exact .inr ⟨g, c, hv, hc⟩
theorem Own.lt {v : Value} {s : List UInt8} (h : Own w base v s) : ∀ k, v.ownBlock = some k → base ≤ k ∧ k < w.heap.size := World.ownsRow.lt h
theorem Own.kind {v : Value} {s : List UInt8} (h : Own w base v s) {g : Nat} {t : TypeId} {cs : Array Value} {z : Nat × Nat} (hg : w.heap[g]? = some (.cells cs t z)) (ht : 5 ≠ t) : v.ownBlock ≠ some g := own_ne h hg ht
theorem Own.keep {v : Value} {s : List UInt8} (h : Own w base v s) (hk : ∀ i, v.ownBlock = some i → w'.heap[i]? = w.heap[i]?) : Own w' base v s := own_keep h fun i hi => hk i hi.symm
theorem Own.mono {base' : Nat} {v : Value} {s : List UInt8} (h : Own w base v s) (hb : base' ≤ base) : Own w base' v s := ⟨h.1, h.2.imp id fun ⟨g, c, cur, e, q, r⟩ => ⟨g, c, cur, e, by omega, r⟩⟩
theorem Own.take {A : Option Addr} {m c n : Nat} {s : List UInt8} (h : Own w base (.slice A m c) s) (hn : n ≤ s.length) : Own w base (.slice A n c) (s.take n) := by
  have hl : (s.take n).length = n := by simp; omega
  unfold Own at h ⊢
  rw [hl]
  refine ⟨by rw [Lib.byteCells_length, hl, Nat.mul_one], ?_⟩
  rcases h.2 with ⟨hv, h0⟩ | ⟨g, cap, cur, hv, hb, hg, hc, hm, hs, hx⟩
  · injection hv with h1 h2 h3
    subst h1 h3
    obtain rfl : n = 0 := by omega
    exact .inl ⟨rfl, rfl⟩
  · injection hv with h1 h2 h3
    subst h1 h3
    refine .inr ⟨g, c, cur, rfl, hb, hg, by omega, hm, hs, ?_⟩
    have : Lib.byteCells (s.take n) = (Lib.byteCells s).take n := by simp [Lib.byteCells]
    rw [this, ← hx, List.take_take]
    congr 1
    omega
theorem Own.set_ {g n c k : Nat} {s : List UInt8} (h : Own w base (.slice (some ⟨g, 0, none⟩) n c) s) (hn : s.length = n) (y : UInt8) : Own (w.setCell ⟨g, k, none⟩ (.int .u8 (y.toNat : Int))) base (.slice (some ⟨g, 0, none⟩) n c) (s.set k y) := by
  unfold Own at h ⊢
  rw [hn] at h
  rw [List.length_set, hn]
  have := (World.ownsRow.stored h k (.int .u8 (y.toNat : Int))).1
  rwa [show Lib.byteCells (s.set k y) = (Lib.byteCells s).set k (.int .u8 (y.toNat : Int)) by simp [Lib.byteCells, List.map_set]]
theorem Own.at_ {g n c k : Nat} {s : List UInt8} (h : Own w base (.slice (some ⟨g, 0, none⟩) n c) s) (hn : s.length = n) (hk : k < n) : w.cell? ⟨g, k, none⟩ = some (.int .u8 ((Go.Proofs.YtefgobmpleoafaaGreat.at_ s k : Nat) : Int)) := by
  unfold Own at h
  rw [hn] at h
  rw [World.ownsRow.cellAt h k (by omega)]
  exact byteCells_get (by omega)
theorem Own.frozen {g n c k : Nat} {s : List UInt8} (h : Own w base (.slice (some ⟨g, 0, none⟩) n c) s) (hn : s.length = n) : w.frozen? ⟨g, k, none⟩ = false := by
  unfold Own at h
  rw [hn] at h
  exact World.ownsRow.frozenAt h k

/-- What a call leaves: all but the blocks of S. -/
structure Fr (S : Nat → Prop) (w w' : World) : Prop where
  os : w'.os = w.os
  tape : w'.tape = w.tape
  output : w'.output = w.output
  size : w.heap.size ≤ w'.heap.size
  block : ∀ i, i < w.heap.size → ¬ S i → w'.heap[i]? = w.heap[i]?
theorem Fr.refl (w : World) : Fr S w w := ⟨rfl, rfl, rfl, Nat.le_refl _, fun _ _ _ => rfl⟩
theorem Fr.trans (h : Fr S w w') (k : Fr S' w' w'') (hs : ∀ i, S' i → S i ∨ w.heap.size ≤ i) : Fr S w w'' :=
  ⟨k.os.trans h.os, k.tape.trans h.tape, k.output.trans h.output, Nat.le_trans h.size k.size, fun i hi hc => (k.block i (Nat.lt_of_lt_of_le hi h.size) (fun e => (hs i e).elim hc (by omega))).trans (h.block i hi hc)⟩
theorem Fr.next (h : Fr S w w') (k : Fr S w' w'') : Fr S w w'' := h.trans k fun _ e => .inl e
theorem Fr.of_below (h : Below w.heap.size w w') : Fr S w w' := ⟨h.os, h.tape, h.output, h.size, fun i hi _ => h.block i hi⟩
theorem Fr.below (h : Fr S w w') (k : Below w'.heap.size w' w'') : Fr S w w'' := h.next (Fr.of_below k)
theorem Fr.alloc (h : Fr S w w') (o : Obj) : Fr S w (w'.alloc o) := h.below ((Below.refl _ _).alloc (Nat.le_refl _) o)
theorem Fr.drew (h : Fr S w w') : Fr S w w'.drew := ⟨h.os, h.tape, h.output, h.size, h.block⟩
theorem Fr.set_ (h : Fr S w w') {q : Addr} (hq : S q.block ∨ w.heap.size ≤ q.block) (u : Value) : Fr S w (w'.setCell q u) :=
  ⟨h.os, h.tape, h.output, by simpa [World.setCell] using h.size, fun i hi hc => (Below.heap_setCell _ _ _ _ (by rintro rfl; exact hq.elim hc (by omega))).trans (h.block i hi hc)⟩
theorem Fr.grown (h : Fr S w w') {row : Option Nat} (hg : w'.grownBy w'' row) (hr : ∀ k, row = some k → S k ∨ w.heap.size ≤ k) : Fr S w w'' :=
  ⟨hg.os.trans h.os, hg.tape.trans h.tape, hg.output.trans h.output, Nat.le_trans h.size hg.size, fun i hi hc => (hg.block i (Nat.lt_of_lt_of_le hi h.size) (fun e => (hr i e.symm).elim hc (by omega))).trans (h.block i hi hc)⟩
theorem Fr.old (h : Fr S w w') {B : Nat} (hB : B ≤ w.heap.size) (hs : ∀ i, S i → B ≤ i) : Below B w w' := ⟨h.os, h.tape, h.output, h.size, fun i hi => h.block i (by omega) (fun e => by have := hs i e; omega)⟩
theorem Fr.blk (h : Fr S w w') {g : Nat} {t : TypeId} {cs : Array Value} (hg : Blk w g t cs) (hw : ¬ S g) : Blk w' g t cs := (h.block g hg.lt hw).trans hg
theorem Fr.own (h : Fr S w w') {v : Value} {s : List UInt8} (ho : Own w base v s) (hv : ∀ i, v.ownBlock = some i → ¬ S i) : Own w' base v s := ho.keep fun i hi => h.block i (ho.lt i hi).2 (hv i hi)

theorem Fr.cell (h : Fr S w w') {p : Addr} (hp : p.block < w.heap.size) (hs : ¬ S p.block) : w'.cell? p = w.cell? p := by
  unfold World.cell?
  rw [h.block p.block hp hs]
theorem Fr.bytes (h : Fr S w w') {v : Value} {s : List UInt8} (ho : Own w base v s) (hv : ∀ i, v.ownBlock = some i → ¬ S i) : Bytes w.heap.size w' v s := by
  obtain ⟨A, cap, rfl, hc, ht⟩ := ho.bytes
  exact ⟨A, cap, rfl, hc, fun hs => by
    obtain ⟨b, off, rfl, hb, hcc⟩ := ht hs
    exact ⟨b, off, rfl, hb, fun j hj => (h.cell (p := ⟨b, off + j, none⟩) hb (hv b rfl)).trans (hcc j hj)⟩⟩
/-- A tape in memory: its block, its bytes' row. -/
structure TapeV (w : World) (g : Nat) (S : Nat → Prop) (T : Tp) (v : Value) : Prop where
  blk : Blk w g 48 #[v, .int .i64 T.room, .int .i64 (T.safe : Int), .int .i64 T.left, .bool T.down]
  own : Own w g v T.bs
  foot : ∀ i, v.ownBlock = some i → S i
  self : S g
  old : ∀ i, S i → g ≤ i ∧ i < w.heap.size
  ok : T.ok
def TapeAt (w : World) (g : Nat) (S : Nat → Prop) (T : Tp) : Prop := ∃ v, TapeV w g S T v
/-- What a call of a tape does: all but the tape's blocks stays, and these are the elder ones or new. -/
def Did (g : Nat) (S : Nat → Prop) (T : Tp) (w w' : World) : Prop := ∃ S', (∀ i, S' i → S i ∨ w.heap.size ≤ i) ∧ TapeAt w' g S' T ∧ Fr S w w'
section
variable {g : Nat} {T T' : Tp}
theorem TapeAt.on (h : TapeAt w g S T) (hB : Below w.heap.size w w') : TapeAt w' g S T := by
  obtain ⟨v, h⟩ := h
  exact ⟨v, h.blk.on hB, h.own.below hB, h.foot, h.self, fun i hi => ⟨(h.old i hi).1, Nat.lt_of_lt_of_le (h.old i hi).2 hB.size⟩, h.ok⟩
theorem TapeAt.alloc (h : TapeAt w g S T) (o : Obj) : TapeAt (w.alloc o) g S T := h.on ((Below.refl _ _).alloc (Nat.le_refl _) o)
theorem TapeAt.fr (h : TapeAt w g S T) (hF : Fr S' w w') (hd : ∀ i, S i → ¬ S' i) : TapeAt w' g S T := by
  obtain ⟨v, h⟩ := h
  exact ⟨v, hF.blk h.blk (hd g h.self), hF.own h.own (fun i hi => hd i (h.foot i hi)), h.foot, h.self, fun i hi => ⟨(h.old i hi).1, Nat.lt_of_lt_of_le (h.old i hi).2 hF.size⟩, h.ok⟩
theorem TapeAt.ok (h : TapeAt w g S T) : T.ok := h.choose_spec.ok
theorem TapeAt.old (h : TapeAt w g S T) : ∀ i, S i → g ≤ i ∧ i < w.heap.size := h.choose_spec.old
theorem TapeAt.lt (h : TapeAt w g S T) : g < w.heap.size := h.choose_spec.blk.lt
theorem Did.drew (h : Did g S T w w') : Did g S T w w'.drew := by
  obtain ⟨S', hs, ⟨v, ht⟩, hf⟩ := h
  exact ⟨S', hs, ⟨v, ht.blk, ht.own, ht.foot, ht.self, ht.old, ht.ok⟩, hf.drew⟩
theorem Did.same (h : TapeAt w' g S T) (hF : Fr S w w') : Did g S T w w' := ⟨S, fun _ e => .inl e, h, hF⟩
theorem Did.trans (h : Did g S T w w') (k : ∀ S', TapeAt w' g S' T → Did g S' T' w' w'') : Did g S T' w w'' := by
  obtain ⟨S', hs, ht, hf⟩ := h
  obtain ⟨S2, hs2, ht2, hf2⟩ := k S' ht
  exact ⟨S2, fun i hi => (hs2 i hi).elim (hs i) (fun e => .inr (Nat.le_trans hf.size e)), ht2, hf.trans hf2 hs⟩
end

theorem made_cells (z : Value) (m : Nat) : madeCells #[z] m = (List.replicate m z).toArray := by
  apply Array.ext
  · simp [madeCells]
  · intro i h1 h2
    simp [madeCells, Nat.mod_one]
/-- make([]byte, m). -/
theorem own_made (w : World) (m : Nat) (hm : m ≤ maxLen) : Own (w.alloc (.cells (madeCells #[.int .u8 0] m) 5)) w.heap.size (.slice (some ⟨w.heap.size, 0, none⟩) m m) (List.replicate m 0) := by
  unfold Own
  rw [List.length_replicate]
  refine ⟨by simp [Lib.byteCells_length], .inr ⟨w.heap.size, m, _, rfl, Nat.le_refl _, heap_alloc_new w _, Nat.le_refl _, hm, by simp [made_cells], ?_⟩⟩
  rw [made_cells]
  simp [Lib.byteCells]
theorem Bytes.src {n₀ : Nat} {A : Option Addr} {m c : Nat} {s : List UInt8} (h : Bytes n₀ w (.slice A m c) s) (hs : 0 < s.length) : ∃ ad, A = some ad ∧ ∀ j v, (Lib.byteCells s)[j]? = some v → w.cell? (ad.add j) = some v := by
  obtain ⟨A', c', hv, _, ht⟩ := h
  injection hv with h1 h2 h3
  subst h1
  obtain ⟨b, off, rfl, _, hc⟩ := ht (by rintro rfl; simp at hs)
  refine ⟨_, rfl, fun j v hj => ?_⟩
  have hadd : (⟨b, off, none⟩ : Addr).add j = ⟨b, off + j, none⟩ := by unfold Addr.add; split <;> simp_all
  have hl : j < s.length := by
    have := (List.getElem?_eq_some_iff.1 hj).1
    rwa [Lib.byteCells_length] at this
  rw [byteCells_get hl] at hj
  rw [hadd, hc j hl]
  exact hj
theorem own_whole {b : Nat} {s : List UInt8} {m : Nat} (hb : base ≤ b) (hm : m = s.length) (hmx : m ≤ maxLen) {L : List Value} (hL : L.length = m) (h : w.heap[b]? = some (.cells (splice L 0 (Lib.byteCells s)).toArray 5 (0, 0))) : Own w base (.slice (some ⟨b, 0, none⟩) m m) s := by
  subst hm
  have e : splice L 0 (Lib.byteCells s) = Lib.byteCells s := by
    unfold splice
    rw [List.drop_of_length_le (by rw [Lib.byteCells_length]; omega)]
    simp
  rw [e] at h
  exact ⟨by rw [Lib.byteCells_length, Nat.mul_one], .inr ⟨b, s.length, _, rfl, hb, h, Nat.le_refl _, hmx, by simp [Lib.byteCells_length], by rw [List.take_of_length_le (by rw [Lib.byteCells_length]; omega)]⟩⟩
theorem xor_uu (a b : UInt8) : bits .xor .u8 (a.toNat : Int) (b.toNat : Int) = (((a ^^^ b).toNat : Nat) : Int) := by
  have ha := a.toNat_lt
  have hb := b.toNat_lt
  show IntKind.u8.wrap (((BitVec.ofInt 8 (a.toNat : Int)) ^^^ (BitVec.ofInt 8 (b.toNat : Int))).toNat : Int) = _
  rw [BitVec.ofInt_natCast, BitVec.ofInt_natCast, BitVec.toNat_xor, BitVec.toNat_ofNat, BitVec.toNat_ofNat, Nat.mod_eq_of_lt (by omega), Nat.mod_eq_of_lt (by omega), UInt8.toNat_xor]
  have := Nat.xor_lt_two_pow (n := 8) (x := a.toNat) (y := b.toNat) (by omega) (by omega)
  simp [IntKind.wrap, IntKind.bits, IntKind.signed]
  omega
/-- append of a slice that reads as bytes to a row of the call's own: the row behind it is the elder one's block, or a new one. -/
theorem run_app (w : World) (ty : TypeId) (v : Value) (s : List UInt8) (hown : Own w base v s) (n₀ : Nat) (u : Value) (b : List UInt8) (hr : Bytes n₀ w u b) (hL : s.length + b.length ≤ 140737488355328) (hbase : base ≤ w.heap.size) :
    ∃ v' w', (Builtin.append_ #[22, 22] ty #[v, u]).run Tryz.prog w = .ok v' w' ∧ Own w' base v' (s ++ b) ∧ w.grownBy w' v.ownBlock ∧ (v'.ownBlock = v.ownBlock ∨ v'.ownBlock = some w.heap.size) := by
  obtain ⟨i0, hi, hz0, hz1, hz2⟩ := info_three info_u8
  have hR := Row.of_bytes hr
  obtain ⟨A, cap, rfl, _, hA⟩ := hR
  rw [Lib.byteCells_length]
  cases A with
  | none =>
    have hy : b = [] := by
      rcases b with _ | ⟨y, b⟩
      · rfl
      · obtain ⟨b, off, h, _⟩ := hA (by simp [Lib.byteCells])
        cases h
    subst hy
    refine ⟨v, w, ?_, by simpa using hown, World.grownBy.refl w _, .inl rfl⟩
    rcases hown.2 with ⟨rfl, _⟩ | ⟨g, c, cur, rfl, _, _, hnc, _⟩
    · simp [Builtin.append_, run_underlying Tryz.underlying22, sizeOf, typeInfo, hi, Builtin.lenOf, Builtin.firstCells]
    · simp [Builtin.append_, run_underlying Tryz.underlying22, sizeOf, typeInfo, hi, Builtin.lenOf, Builtin.firstCells, hnc, storeCells]
  | some a =>
    have hcells : ∀ j y, (Lib.byteCells b)[j]? = some y → w.cell? (a.add j) = some y := by
      intro j y hy
      obtain ⟨b, off, h, _, hc⟩ := hA (by intro e; rw [e] at hy; simp at hy)
      cases h
      have hadd : (⟨b, off, none⟩ : Addr).add j = ⟨b, off + j, none⟩ := by unfold Addr.add; split <;> simp_all
      rw [hadd]
      exact hc j y hy
    obtain ⟨v', w', hrun, h2, h3, _, h5⟩ := run_append_own_at (P := Tryz.prog) w base 22 ty 5 i0 (.int .u8 0) 1 1 Tryz.underlying22 hi hz0 hz1 hz2 rfl (by decide) v s.length (Lib.byteCells s) hown a b.length cap (Lib.byteCells b) (by rw [Lib.byteCells_length, Nat.mul_one]) hcells (one_bytes b) (by unfold maxLen; omega) (by omega) hbase
    refine ⟨v', w', hrun, ?_, h3, h5⟩
    unfold Own
    rw [List.length_append, Lib.byteCells_append]
    exact h2
theorem wpList_app (w : World) {ops : Array Oper} {rest : List Oper} {o : Oper} {a : Act} {Q : Exit → Act → World → Prop} (hgd : o.guard = none) (x y : Operand)
    (ho : o.op = .call { callee := .builtin .append, args := #[x, y], argTypes := #[22, 22] })
    (v : Value) (s : List UInt8) (hs : a.eval x = v) (hown : Own w base v s) (n₀ : Nat) (u : Value) (b : List UInt8) (hx : a.eval y = u) (hr : Bytes n₀ w u b) (hL : s.length + b.length ≤ 140737488355328) (hbase : base ≤ w.heap.size)
    (h : ∀ v' w', Own w' base v' (s ++ b) → w.grownBy w' v.ownBlock → (v'.ownBlock = v.ownBlock ∨ v'.ownBlock = some w.heap.size) → wpList Tryz.prog ops Q rest (a.put o.dst v') w') : wpList Tryz.prog ops Q (o :: rest) a w := by
  refine wpList_plain hgd fun K hK => ?_
  obtain ⟨v', w', hrun, h2, h3, h4⟩ := run_app w o.type v s hown n₀ u b hr hL hbase
  unfold Oper.wp execOp
  simp only [ho, resolve, invoke, builtin, Sem.run_bind, Sem.run_pure, Result.andThen_ok, List.map_toArray, List.map_cons, List.map_nil, hs, hx, hrun]
  exact hK _ _ (h v' w' h2 h3 h4)
/-- The same as a step of a region that draws its order. -/
theorem step_app (w : World) {ops : Array Oper} {o : Oper} {a : Act} {K : Act → World → Prop} {Q : Exit → Act → World → Prop} {E : Prop} (hgd : o.guard = none) (x y : Operand)
    (ho : o.op = .call { callee := .builtin .append, args := #[x, y], argTypes := #[22, 22] })
    (v : Value) (s : List UInt8) (hs : a.eval x = v) (hown : Own w base v s) (n₀ : Nat) (u : Value) (b : List UInt8) (hx : a.eval y = u) (hr : Bytes n₀ w u b) (hL : s.length + b.length ≤ 140737488355328) (hbase : base ≤ w.heap.size)
    (h : ∀ v' w', Own w' base v' (s ++ b) → w.grownBy w' v.ownBlock → (v'.ownBlock = v.ownBlock ∨ v'.ownBlock = some w.heap.size) → K (a.put o.dst v') w') :
    if Region.wanted o (yielded ops a.tmps) = true then Oper.wp Tryz.prog o a w K Q else E := by
  have hw : Region.wanted o (yielded ops a.tmps) = true := by simp [Region.wanted, hgd]
  rw [if_pos hw]
  obtain ⟨v', w', hrun, h2, h3, h4⟩ := run_app w o.type v s hown n₀ u b hr hL hbase
  unfold Oper.wp execOp
  simp only [ho, resolve, invoke, builtin, Sem.run_bind, Sem.run_pure, Result.andThen_ok, List.map_toArray, List.map_cons, List.map_nil, hs, hx, hrun]
  exact h v' w' h2 h3 h4
end Go.Proofs.YtefgobmpleoafaaGreat

/- Package tape: the small calls, as contracts. -/
namespace Go.Proofs.YtefgobmpleoafaaGreat
open Go.RowKit
variable {w w' : World} {S : Nat → Prop} {g : Nat} {T : Tp}

set_option maxRecDepth 100000 in
set_option maxHeartbeats 2000000 in
theorem spend_any (h : TapeAt w g S T) : Calls Tryz.prog 17 #[.pointer (some ⟨g, 0, none⟩)] w fun e w' => e = .returned (.int .i64 (T.spendE : Int)) ∧ TapeAt w' g S T.spent ∧ Fr S w w' := by
  obtain ⟨v, h⟩ := h
  have c3 := h.blk.cell 3
  have f3 := h.blk.frozen 3
  have c4 := h.blk.cell 4
  have f4 := h.blk.frozen 4
  have hlt := h.blk.lt
  have H := Lib.hid h
  obtain ⟨hl1, hl2⟩ := h.ok.left
  obtain ⟨bs, room, safe, left, down⟩ := T
  simp only at c3 c4 hl1 hl2
  have st : ∀ (i : Nat) (u : Value) (T' : Tp), T'.bs = bs → #[v, .int .i64 T'.room, .int .i64 (T'.safe : Int), .int .i64 T'.left, .bool T'.down] = (#[v, .int .i64 room, .int .i64 (safe : Int), .int .i64 left, .bool down] : Array Value).setIfInBounds i u → T'.ok → TapeAt (w.setCell ⟨g, i, none⟩ u) g S T' ∧ Fr S w (w.setCell ⟨g, i, none⟩ u) := fun i u T' hb hc hok =>
    ⟨⟨v, by rw [hc]; exact H.out.blk.set_ i u, by rw [hb]; exact H.out.own.keep fun j hj => Below.heap_setCell _ _ _ _ (by rintro rfl; exact H.out.own.kind H.out.blk (by decide) hj), H.out.foot, H.out.self, fun j hj => by have := H.out.old j hj; simpa [World.setCell] using this, hok⟩, (Fr.refl w).set_ (q := ⟨g, i, none⟩) (.inl H.out.self) u⟩
  have ST := Lib.hid st
  have HK := Lib.hid h.ok.spent
  clear h st
  by_cases h0 : left = 0
  · subst h0
    go_enter Tryz.func17, Tryz.ntmps17
    go_wp2
    go_ret
    exact ⟨rfl, ST.out 4 _ _ rfl rfl HK.out⟩
  · have h0' : (left == 0) = false := by simpa using h0
    by_cases h1 : 0 < left
    · have e1 : Tp.spent ⟨bs, room, safe, left, down⟩ = ⟨bs, room, safe, left - 1, down⟩ := by simp [Tp.spent, h0, h1]
      have e2 : Tp.spendE ⟨bs, room, safe, left, down⟩ = 0 := by simp [Tp.spendE, h0]
      rw [e1] at HK ⊢
      rw [e2]
      clear h0 e1 e2
      go_enter Tryz.func17, Tryz.ntmps17
      go_wp2
      go_ret
      exact ⟨rfl, ST.out 3 _ _ rfl rfl HK.out⟩
    · have e1 : Tp.spent ⟨bs, room, safe, left, down⟩ = ⟨bs, room, safe, left, down⟩ := by simp [Tp.spent, h0, h1]
      have e2 : Tp.spendE ⟨bs, room, safe, left, down⟩ = 0 := by simp [Tp.spendE, h0]
      rw [e1, e2]
      clear h0 e1 e2
      go_enter Tryz.func17, Tryz.ntmps17
      go_wp2
      go_ret
      exact ⟨rfl, ⟨v, H.out⟩, Fr.refl w⟩

set_option maxRecDepth 100000 in
set_option maxHeartbeats 2000000 in
theorem keep_any (n : Nat) (hn : n ≤ T.bs.length) (h : TapeAt w g S T) : Calls Tryz.prog 18 #[.pointer (some ⟨g, 0, none⟩), .int .i64 (n : Int)] w fun e w' => e = .returned (.tuple #[]) ∧ TapeAt w' g S (T.kept n) ∧ Fr S w w' := by
  obtain ⟨v, h⟩ := h
  have c0 := h.blk.cell 0
  have f0 := h.blk.frozen 0
  have c2 := h.blk.cell 2
  have f2 := h.blk.frozen 2
  have hlt := h.blk.lt
  have H := Lib.hid h
  have hok := h.ok.kept hn
  have fin : ∀ (A : Option Addr) (m c : Nat), v = .slice A m c → TapeAt ((w.setCell ⟨g, 0, none⟩ (.slice A n c)).setCell ⟨g, 2, none⟩ (.int .i64 (n : Int))) g S (T.kept n) ∧ Fr S w ((w.setCell ⟨g, 0, none⟩ (.slice A n c)).setCell ⟨g, 2, none⟩ (.int .i64 (n : Int))) := by
    rintro A m c rfl
    refine ⟨⟨.slice A n c, ?_, ?_, fun i hi => H.out.foot i (by cases A <;> simp_all [Value.ownBlock]), H.out.self, fun j hj => by have := H.out.old j hj; simpa [World.setCell] using this, hok⟩, ((Fr.refl w).set_ (q := ⟨g, 0, none⟩) (.inl H.out.self) _).set_ (q := ⟨g, 2, none⟩) (.inl H.out.self) _⟩
    · have := (H.out.blk.set_ 0 (.slice A n c)).set_ 2 (.int .i64 (n : Int))
      simpa [Tp.kept] using this
    · refine (H.out.own.take hn).keep fun j hj => ?_
      have hne : j ≠ g := by
        rintro rfl
        exact H.out.own.kind H.out.blk (by decide) (by cases A <;> simp_all [Value.ownBlock])
      exact (Below.heap_setCell _ _ _ _ hne).trans (Below.heap_setCell _ _ _ _ hne)
  have FIN := Lib.hid fin
  have ho := h.own
  clear h hok fin
  rcases ho.form with ⟨rfl, hb⟩ | ⟨b, c, rfl, hc⟩
  · obtain rfl : n = 0 := by rw [hb] at hn; simpa using hn
    clear hb ho hn
    go_enter Tryz.func18, Tryz.ntmps18
    go_wp2
    go_end0
    exact ⟨rfl, FIN.out _ _ _ rfl⟩
  · obtain ⟨m, hm⟩ : ∃ m, m = T.bs.length := ⟨_, rfl⟩
    rw [← hm] at hn hc c0 FIN
    clear ho hm
    go_enter Tryz.func18, Tryz.ntmps18
    go_wp2
    go_end0
    exact ⟨rfl, FIN.out _ _ _ rfl⟩

set_option maxRecDepth 100000 in
theorem safe_any (h : TapeAt w g S T) : Calls Tryz.prog 15 #[.pointer (some ⟨g, 0, none⟩)] w fun e w' => e = .returned (.int .i64 (T.safe : Int)) ∧ w' = w := by
  obtain ⟨v, h⟩ := h
  have c2 := h.blk.cell 2
  go_enter Tryz.func15, Tryz.ntmps15
  go_wp2
  go_ret
  exact ⟨rfl, rfl⟩
set_option maxRecDepth 100000 in
set_option maxHeartbeats 1000000 in
theorem room_any (h : TapeAt w g S T) : Calls Tryz.prog 16 #[.pointer (some ⟨g, 0, none⟩)] w fun e w' => e = .returned (.int .i64 (T.room - (T.bs.length : Int))) ∧ Below w.heap.size w w' := by
  obtain ⟨v, h⟩ := h
  have c1 := h.blk.cell 1
  have c0 := h.blk.cell 0
  obtain ⟨A, c, rfl⟩ := h.own.one
  have h1 := h.ok.fits
  have h2 := h.ok.room
  clear h
  generalize T.bs.length = m at *
  go_enter Tryz.func16, Tryz.ntmps16
  go_wp2_with fail
  go_quiet (fail)
  go_wp2
  go_ret
  exact ⟨rfl, Below.drewN' (Below.refl _ _) _⟩
set_option maxRecDepth 100000 in
theorem arm_any (n : Int) (hn : -9223372036854775808 ≤ n ∧ n ≤ 9223372036854775807) (h : TapeAt w g S T) : Calls Tryz.prog 9 #[.pointer (some ⟨g, 0, none⟩), .int .i64 n] w fun e w' => e = .returned (.tuple #[]) ∧ TapeAt w' g S (T.arm n) ∧ Fr S w w' := by
  obtain ⟨v, h⟩ := h
  have c3 := h.blk.cell 3
  have f3 := h.blk.frozen 3
  have hlt := h.blk.lt
  have H := Lib.hid h
  have hok := Lib.hid (h.ok.arm hn)
  clear h
  go_enter Tryz.func9, Tryz.ntmps9
  go_wp2
  go_end0
  exact ⟨rfl, ⟨v, H.out.blk.set_ 3 _, H.out.own.keep fun j hj => Below.heap_setCell _ _ _ _ (by rintro rfl; exact H.out.own.kind H.out.blk (by decide) hj), H.out.foot, H.out.self, fun j hj => by have := H.out.old j hj; simpa [World.setCell] using this, hok.out⟩, (Fr.refl w).set_ (q := ⟨g, 3, none⟩) (.inl H.out.self) _⟩
set_option maxRecDepth 100000 in
theorem new_bad (n : Int) (hn : n < 0 ∨ 1048576 < n) (w : World) : Calls Tryz.prog 5 #[.int .i64 n] w fun e w' => e = .returned (.pointer none) ∧ w' = w := by
  by_cases h0 : n < 0
  · go_enter Tryz.func5, Tryz.ntmps5
    go_wp2
    go_ret
    exact ⟨rfl, rfl⟩
  · have h1 : 1048576 < n := by omega
    go_enter Tryz.func5, Tryz.ntmps5
    go_wp2
    go_ret
    exact ⟨rfl, rfl⟩
set_option maxRecDepth 100000 in
theorem new_any (n : Int) (h1 : 0 ≤ n) (h2 : n ≤ 1048576) (w : World) : Calls Tryz.prog 5 #[.int .i64 n] w fun e w' => e = .returned (.pointer (some ⟨w.heap.size, 0, none⟩)) ∧ TapeAt w' w.heap.size (fun i => i = w.heap.size) (Tp.new n) ∧ Below w.heap.size w w' := by
  have e1 : ¬ n < 0 := by omega
  have e2 : ¬ 1048576 < n := by omega
  go_enter Tryz.func5, Tryz.ntmps5
  go_wp2
  go_ret
  refine ⟨rfl, ⟨.slice none 0 0, Blk.new w _ _, own_nil _ _, fun i hi => (by cases hi), rfl, fun i hi => (by subst hi; simp), Tp.new_ok h1 h2⟩, (Below.refl _ _).alloc (Nat.le_refl _) _⟩
set_option maxRecDepth 100000 in
set_option maxHeartbeats 2000000 in
theorem bytes_at (h : TapeAt w g S T) : Calls Tryz.prog 13 #[.pointer (some ⟨g, 0, none⟩)] w fun e w' => e = .returned (.slice (some ⟨w.heap.size, 0, none⟩) T.bs.length T.bs.length) ∧ Own w' w.heap.size (.slice (some ⟨w.heap.size, 0, none⟩) T.bs.length T.bs.length) T.bs ∧ Below w.heap.size w w' := by
  have HT := Lib.hid h
  obtain ⟨v, h⟩ := h
  have c0 := h.blk.cell 0
  obtain ⟨i0, hi, hz0, hz1, hz2⟩ := info_three info_u8
  have ho := h.own
  have hL := h.ok.fits
  have hL2 := h.ok.room
  have HO := Lib.hid ho.bytes
  clear h
  obtain ⟨A, c, rfl⟩ := ho.one
  obtain ⟨m, hm⟩ : ∃ m, m = T.bs.length := ⟨_, rfl⟩
  rw [← hm] at c0 HO hL ⊢
  have HM := Lib.hid hm
  have hmk : ∀ w : World, (Instr.makeSlice 22 (.int .i64 (m : Int)) (.int .i64 (m : Int))).run Tryz.prog w = .ok (.slice (some ⟨w.heap.size, 0, none⟩) m m) (w.alloc (.cells (madeCells #[Value.int .u8 0] m) 5)) :=
    run_make_row 22 5 i0 (.int .u8 0) Tryz.underlying22 hi hz0 hz1 rfl .i64 .i64 m (by rw [hz2]; omega) (by omega)
  have isz : (Tryz.prog.info? 5).map (·.size) = some 1 := by rw [hi]; simp [hz1]
  clear ho hm
  go_enter Tryz.func13, Tryz.ntmps13
  go_upto_region 2 with (fail)
  have HG : Hid ((w.alloc (.cells (madeCells #[Value.int .u8 0] m) 5)).heap[w.heap.size]? = some (.cells (List.replicate m (Value.int .u8 0)).toArray 5 (0, 0))) := Lib.hid (by rw [heap_alloc_new, made_cells])
  have HB := Lib.hid ((Below.refl w.heap.size w).alloc (Nat.le_refl _) (.cells (madeCells #[Value.int .u8 0] m) 5))
  have cg := (Below.cell HB.out (p := ⟨g, 0, none⟩) HT.out.lt).trans c0
  have HS : Hid (0 < T.bs.length → ∃ ad, A = some ad ∧ ∀ j v, (Lib.byteCells T.bs)[j]? = some v → (w.alloc (.cells (madeCells #[Value.int .u8 0] m) 5)).cell? (ad.add j) = some v) := Lib.hid fun hp => Bytes.src (HO.out.below HB.out) hp
  generalize w.alloc _ = w1 at *
  go_wp2_with (with_reducible refine wpList_copy_splice rfl (.tmp 10) (.tmp 14) 22 22 rfl 5 Tryz.underlying22 isz _ _ m m m c rfl rfl w.heap.size 0 _ 5 HG.out (Lib.byteCells T.bs) (by rw [Lib.byteCells_length, ← HM.out]; simp) (fun hp => ⟨rfl, HS.out (by simpa [Lib.byteCells_length] using hp)⟩) (by simp [Lib.byteCells_length, ← HM.out]) (one_bytes _) w.heap.size w HB.out (Nat.le_refl _) ?_; intro w4 hg4 hb4)
  go_ret
  exact ⟨rfl, own_whole (Nat.le_refl _) HM.out (by unfold maxLen; omega) (by simp) hg4.out, hb4⟩
theorem bytes_any (h : TapeAt w g S T) : Calls Tryz.prog 13 #[.pointer (some ⟨g, 0, none⟩)] w fun e w' => ∃ v, e = .returned v ∧ Own w' w.heap.size v T.bs ∧ Below w.heap.size w w' :=
  (bytes_at h).mono fun _ _ ⟨he, ho, hb⟩ => ⟨_, he, ho, hb⟩
end Go.Proofs.YtefgobmpleoafaaGreat

/- Package tape: Append, Sync, Trim, as contracts. -/
namespace Go.Proofs.YtefgobmpleoafaaGreat
open Go.RowKit
variable {w w' : World} {S : Nat → Prop} {g : Nat} {T : Tp}

set_option maxRecDepth 100000 in
set_option maxHeartbeats 2000000 in
theorem sync_any (h : TapeAt w g S T) : Calls Tryz.prog 7 #[.pointer (some ⟨g, 0, none⟩)] w fun e w' => e = .returned (.int .i64 (T.syncE : Int)) ∧ TapeAt w' g S T.sync ∧ Fr S w w' := by
  have H := Lib.hid h
  obtain ⟨v, hv⟩ := h
  have c4 := hv.blk.cell 4
  clear hv
  cases hd : T.down
  · have e1 : T.syncE = T.spendE := by simp [Tp.syncE, hd]
    rw [hd] at c4
    rw [e1]
    have e2 : T.left ≠ 0 → T.sync = T.spent.kept T.spent.bs.length := fun h0 => by simp [Tp.sync, hd, h0, Tp.spent_bs]
    have e3 : T.left = 0 → T.sync = T.spent := fun h0 => by simp [Tp.sync, hd, h0]
    have E2 := Lib.hid e2
    have E3 := Lib.hid e3
    clear e1 e2 e3 hd
    have SP := Lib.hid (spend_any H.out)
    by_cases h0 : T.left = 0
    · have e4 : T.spendE = 40 := by simp [Tp.spendE, h0]
      rw [E3.out h0]
      rw [e4] at SP ⊢
      clear e4 h0
      go_enter Tryz.func7, Tryz.ntmps7
      go_wp2_with fail
      refine SP.out.mono ?_
      rintro e w1 ⟨rfl, t1, f1⟩
      go_wp2
      go_ret
      exact ⟨rfl, t1, f1⟩
    · have e4 : T.spendE = 0 := by simp [Tp.spendE, h0]
      rw [E2.out h0]
      rw [e4] at SP ⊢
      clear e4 h0
      go_enter Tryz.func7, Tryz.ntmps7
      go_wp2_with fail
      refine SP.out.mono ?_
      rintro e w1 ⟨rfl, t1, f1⟩
      have K1 := Lib.hid (keep_any T.spent.bs.length (Nat.le_refl _) t1)
      obtain ⟨v1, hv1⟩ := t1
      have d0 := hv1.blk.cell 0
      obtain ⟨A, c, rfl⟩ := hv1.own.one
      have F1 := Lib.hid f1
      clear hv1 f1 c4
      go_wp2_with fail
      refine K1.out.mono ?_
      rintro e w2 ⟨rfl, t2, f2⟩
      go_wp2
      go_ret
      exact ⟨rfl, t2, F1.out.next f2⟩
  · have e1 : T.syncE = 40 := by simp [Tp.syncE, hd]
    have e2 : T.sync = T := by simp [Tp.sync, hd]
    rw [hd] at c4
    rw [e1, e2]
    clear e1 e2 hd
    go_enter Tryz.func7, Tryz.ntmps7
    go_wp2
    go_ret
    exact ⟨rfl, H.out, Fr.refl _⟩

set_option maxRecDepth 100000 in
set_option maxHeartbeats 2000000 in
theorem trim_any (n : Int) (h : TapeAt w g S T) : Calls Tryz.prog 23 #[.pointer (some ⟨g, 0, none⟩), .int .i64 n] w fun e w' => e = .returned (.int .i64 (T.trimE n : Int)) ∧ TapeAt w' g S (T.trim n) ∧ Fr S w w' := by
  have H := Lib.hid h
  obtain ⟨v, hv⟩ := h
  have c4 := hv.blk.cell 4
  have c0 := hv.blk.cell 0
  obtain ⟨A, c, rfl⟩ := hv.own.one
  clear hv
  cases hd : T.down
  · rw [hd] at c4
    by_cases hr : n < 0 ∨ (T.bs.length : Int) < n
    · have e1 : T.trimE n = 13 := by simp [Tp.trimE, hd, hr]
      have e2 : T.trim n = T := by simp [Tp.trim, hd, hr]
      rw [e1, e2]
      clear e1 e2 hd
      generalize T.bs.length = m at *
      by_cases h1 : n < 0
      · go_enter Tryz.func23, Tryz.ntmps23
        go_wp2
        go_ret
        exact ⟨rfl, H.out, Fr.refl _⟩
      · have h2 : (m : Int) < n := by omega
        go_enter Tryz.func23, Tryz.ntmps23
        go_wp2
        go_ret
        exact ⟨rfl, H.out, Fr.refl _⟩
    have e1 : T.trimE n = T.spendE := by simp [Tp.trimE, hd, hr]
    have e2 : T.left ≠ 0 → T.trim n = T.spent.kept n.toNat := fun h0 => by simp [Tp.trim, hd, h0, hr]
    have e3 : T.left = 0 → T.trim n = T.spent := fun h0 => by simp [Tp.trim, hd, h0, hr]
    have hn1 : ¬ n < 0 := by omega
    have hn2 : ¬ (T.bs.length : Int) < n := by omega
    have hn3 : n.toNat ≤ T.spent.bs.length := by rw [Tp.spent_bs]; omega
    rw [e1]
    have E2 := Lib.hid e2
    have E3 := Lib.hid e3
    have N3 := Lib.hid hn3
    clear e1 e2 e3 hd hr hn3
    have SP := Lib.hid (spend_any H.out)
    obtain ⟨m, hm⟩ : ∃ m, m = T.bs.length := ⟨_, rfl⟩
    rw [← hm] at c0 hn2
    clear hm
    by_cases h0 : T.left = 0
    · have e4 : T.spendE = 40 := by simp [Tp.spendE, h0]
      rw [E3.out h0]
      rw [e4] at SP ⊢
      clear e4 h0
      go_enter Tryz.func23, Tryz.ntmps23
      go_wp2_with fail
      refine SP.out.mono ?_
      rintro e w1 ⟨rfl, t1, f1⟩
      go_wp2
      go_ret
      exact ⟨rfl, t1, f1⟩
    · have e4 : T.spendE = 0 := by simp [Tp.spendE, h0]
      rw [E2.out h0]
      rw [e4] at SP ⊢
      clear e4 h0
      go_enter Tryz.func23, Tryz.ntmps23
      go_wp2_with fail
      refine SP.out.mono ?_
      rintro e w1 ⟨rfl, t1, f1⟩
      have K1 := keep_any n.toNat N3.out t1
      rw [show ((n.toNat : Nat) : Int) = n by omega] at K1
      have K1 := Lib.hid K1
      have F1 := Lib.hid f1
      clear f1 c4 c0 t1
      go_wp2_with fail
      refine K1.out.mono ?_
      rintro e w2 ⟨rfl, t2, f2⟩
      go_wp2
      go_ret
      exact ⟨rfl, t2, F1.out.next f2⟩
  · have e1 : T.trimE n = 40 := by simp [Tp.trimE, hd]
    have e2 : T.trim n = T := by simp [Tp.trim, hd]
    rw [hd] at c4
    rw [e1, e2]
    clear e1 e2 hd
    go_enter Tryz.func23, Tryz.ntmps23
    go_wp2
    go_ret
    exact ⟨rfl, H.out, Fr.refl _⟩

set_option maxRecDepth 100000 in
set_option maxHeartbeats 2000000 in
theorem append_any {n₀ : Nat} (u : Value) (b : List UInt8) (hu : ∀ w', Fr S w w' → Bytes n₀ w' u b) (h : TapeAt w g S T) : Calls Tryz.prog 6 #[.pointer (some ⟨g, 0, none⟩), u] w fun e w' => e = .returned (.int .i64 (T.appE b : Int)) ∧ Did g S (T.app b) w w' := by
  have H := Lib.hid h
  have HU := Lib.hid hu
  obtain ⟨A, c, rfl, _, _⟩ := hu w (Fr.refl w)
  obtain ⟨v, hv⟩ := h
  have c4 := hv.blk.cell 4
  clear hv hu
  cases hd : T.down
  · rw [hd] at c4
    have RM := Lib.hid (room_any H.out)
    have hok := H.out.ok
    have k1 := hok.fits
    have k2 := hok.room
    clear hok
    by_cases hr : T.room - (T.bs.length : Int) < (b.length : Int)
    · have e1 : T.appE b = 41 := by simp [Tp.appE, hd, hr]
      have e2 : T.app b = T := by simp [Tp.app, hd, hr]
      rw [e1, e2]
      clear e1 e2 hd HU
      generalize b.length = q at *
      generalize T.bs.length = m at *
      go_enter Tryz.func6, Tryz.ntmps6
      go_wp2_with fail
      refine RM.out.mono ?_
      rintro e w1 ⟨rfl, b1⟩
      go_wp2
      go_ret
      exact ⟨rfl, Did.same (H.out.on b1) (Fr.of_below b1)⟩
    have e1 : T.appE b = T.spendE := by simp [Tp.appE, hd, hr]
    have e2 : T.app b = T.spent.more b := by simp [Tp.app, hd, hr]
    rw [e1, e2]
    clear e1 e2 hd
    obtain ⟨q, hq⟩ : ∃ q, q = b.length := ⟨_, rfl⟩
    obtain ⟨m, hm⟩ : ∃ m, m = T.bs.length := ⟨_, rfl⟩
    rw [← hq] at hr HU ⊢
    rw [← hm] at RM hr k1
    have HQ := Lib.hid hq
    have HM := Lib.hid hm
    clear hq hm
    go_enter Tryz.func6, Tryz.ntmps6
    go_wp2_with fail
    refine RM.out.mono ?_
    rintro e w1 ⟨rfl, b1⟩
    have B1 := Lib.hid b1
    have SP := Lib.hid (spend_any (H.out.on b1))
    clear b1 RM
    go_wp2_with fail
    refine SP.out.mono ?_
    rintro e w2 ⟨rfl, t2, f2⟩
    have F2 := Lib.hid ((Fr.of_below B1.out : Fr S w w1).next f2)
    have T2 := Lib.hid t2
    obtain ⟨v, hv⟩ := t2
    have c0 := hv.blk.cell 0
    have f0 := hv.blk.frozen 0
    have hlt := hv.blk.lt
    obtain ⟨A2, c2, rfl⟩ := hv.own.one
    have hml : T.spent.bs.length = m := by rw [Tp.spent_bs]; exact HM.out.symm
    have HV := Lib.hid hv
    rw [hml] at c0
    have HML := Lib.hid hml
    have HR := Lib.hid (HU.out w2 F2.out)
    clear hv f2 hml c4
    go_wp2_with (at_builtin
                 refine wpList_app _ rfl (.tmp 21) (.tmp 22) rfl _ T.spent.bs (by rw [HML.out]; rfl) HV.out.own n₀ _ b rfl HR.out (by rw [HML.out, ← HQ.out]; omega) (Nat.le_of_lt hlt) ?_
                 intro v' w3 o3 g3 n3
                 have O3 : Hid (Own w3 g v' (T.spent.bs ++ b)) := Lib.hid o3
                 have G3 := Lib.hid g3
                 have e0 := (HV.out.blk.grown g3 (fun e => HV.out.own.kind HV.out.blk (by decide) e.symm))
                 have q0 := e0.cell 0
                 have z0 := e0.frozen 0
                 have z1 := e0.lt
                 have E0 := Lib.hid e0
                 have N3 := Lib.hid n3
                 obtain ⟨A3, c3, rfl⟩ := O3.out.one
                 obtain ⟨l3, hl3⟩ : ∃ l3, l3 = (T.spent.bs ++ b).length := ⟨_, rfl⟩
                 rw [← hl3] at O3 N3 ⊢
                 clear o3 g3 e0 n3 hl3)
    go_ret
    refine ⟨rfl, fun i => S i ∨ (Value.slice A3 l3 c3).ownBlock = some i, fun i hi => ?_, ⟨_, ?_, ?_, fun i hi => .inr hi, .inl HV.out.self, fun i hi => ?_, ?_⟩, ?_⟩
    · rcases hi with hi | hi
      · exact .inl hi
      · rcases N3.out with e | e
        · exact .inl (HV.out.foot i (by rw [← e]; exact hi))
        · rw [e] at hi
          injection hi with hi
          exact .inr (by rw [← hi]; exact F2.out.size)
    · exact E0.out.set_ 0 _
    · exact O3.out.keep fun j hj => Below.heap_setCell _ _ _ _ (by rintro rfl; exact O3.out.kind E0.out (by decide) hj)
    · rcases hi with hi | hi
      · have := HV.out.old i hi
        have := G3.out.size
        simp [World.setCell]
        omega
      · have := O3.out.lt i hi
        simpa [World.setCell] using this
    · exact HV.out.ok.more (by rw [Tp.spent_room, HML.out, ← HQ.out]; omega)
    · exact (F2.out.grown G3.out (fun k hk => .inl (HV.out.foot k hk))).set_ (q := ⟨g, 0, none⟩) (.inl HV.out.self) _
  · have e1 : T.appE b = 40 := by simp [Tp.appE, hd]
    have e2 : T.app b = T := by simp [Tp.app, hd]
    rw [hd] at c4
    rw [e1, e2]
    clear e1 e2 hd
    go_enter Tryz.func6, Tryz.ntmps6
    go_wp2
    go_ret
    exact ⟨rfl, Did.same H.out (Fr.refl _)⟩
end Go.Proofs.YtefgobmpleoafaaGreat

/- The laws' anchor. -/
namespace Go.Proofs.YtefgobmpleoafaaGreat
open Go.RowKit
variable {w w' : World} {S : Nat → Prop} {g : Nat} {T : Tp}

theorem lit_bytes {w : World} {cs : Array Value} {s : List UInt8} {n : Nat} (hc : cs.toList = Lib.byteCells s) (hn : n = s.length) (hs : ∀ i, S i → i < w.heap.size) :
    ∀ w', Fr S (w.alloc (.cells cs 5)) w' → Bytes (w.heap.size + 1) w' (.slice (some ⟨w.heap.size, 0, none⟩) n n) s := by
  subst hn
  intro w' hf
  have hb : Blk w' w.heap.size 5 cs := hf.blk (Blk.new w 5 cs) (fun e => by have := hs _ e; omega)
  refine ⟨_, s.length, rfl, Nat.le_refl _, fun _ => ⟨w.heap.size, 0, rfl, by omega, fun j hj => ?_⟩⟩
  rw [Nat.zero_add, hb.cell j, ← byteCells_get hj, ← hc]
  simp
def aT1 : Tp := (Tp.new 10).app [1, 2, 3]
def aT2 : Tp := aT1.sync
def aT3 : Tp := aT2.app [4, 5]
def aT4 : Tp := aT3.crash 1 [240]
end Go.Proofs.YtefgobmpleoafaaGreat

