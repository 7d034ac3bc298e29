/- The tape in memory; what a call of it keeps. -/
import Derived.Test.YtjnhjpjebklalaaFrK
import Derived.Test.YtjnhjpjebklalaaTpM
import Derived.BigQuiet
import Derived.Deep.QuietTactic
import Derived.Deep.RegionWith
import Derived.Deep.RegionLaw
import Derived.Deep.RegionHeld
import Derived.Deep.Cut
import Derived.IntWalk
import Derived.Laws.StructEq
import Derived.Laws.CopyOwn
import Derived.Deep.OwnRows
import Derived.Lib.MinMax
namespace Go.Proofs.Ytjnhjpjebklalaa
open Go.RowKit
variable {w w' w'' : World} {S S' : Nat → Prop} {base : Nat}

def Stp (P : Prop) := P
theorem stp {P : Prop} (h : Stp P) : P := h
/-- An operation of a region that draws its order, taken first: its slot is named. -/
theorem take_d {P : Program} {md : Region.Mode} {ops : Array Oper} {Q : Exit → Act → World → Prop} {S : World → Prop} {fuel : Nat} {listed : Array Bool} {a : Act} {w : World} (i d : Nat) (v : Value) (oi : Oper) (hi : ops[i]? = some oi) (hd : oi.dst = some d)
    (hs : Region.noSelect ops = true) (hf : Region.free md ops listed i = true) (hr : (Region.ready md ops listed).contains i = true)
    (hQ : ∀ c a w, Q (.panic c) (a.put oi.dst v) w → Q (.panic c) a w) (hy : YieldsIf P ops S oi v a) (hS : S w)
    (h : wpAnyH P md ops Q S fuel (listed.setIfInBounds i true) { tmps := a.tmps.setIfInBounds d v, defers := a.defers } w) : wpAnyH P md ops Q S (fuel + 1) listed a w :=
  wpAnyH_take hi hs hf hr hQ hy hS (by rw [hd]; exact h)
/-- A row of bytes of the call's own. -/
def Own (w : World) (base : Nat) (v : Value) (s : List UInt8) : Prop := w.ownsRow base 5 1 v s.length (Lib.byteCells s)
theorem Own.bytes {v : Value} {s : List UInt8} (h : Own w base v s) : Bytes w.heap.size w v s := Bytes.of_row (Row.of_own h)
theorem Own.below {v : Value} {s : List UInt8} (h : Own w base v s) (hB : Below w.heap.size w w') : Own w' base v s := own_below h hB
theorem own_nil (w : World) (base : Nat) : Own w base (.slice none 0 0) [] := ⟨rfl, .inl ⟨rfl, rfl⟩⟩
theorem Own.one {v : Value} {s : List UInt8} (h : Own w base v s) : ∃ A c, v = .slice A s.length c := by
  rcases h.2 with ⟨hv, hn⟩ | ⟨g, c, cur, hv, _, _, hc, _⟩
  · exact ⟨none, 0, by rw [hv, hn]⟩
  · exact ⟨_, c, hv⟩
/-- A row of bytes of the call's own, opened: nil, or a block. -/
theorem Own.form {v : Value} {s : List UInt8} (h : Own w base v s) : (v = .slice none 0 0 ∧ s = []) ∨ ∃ g c, v = .slice (some ⟨g, 0, none⟩) s.length c ∧ s.length ≤ c := by
  rcases h.2 with ⟨hv, hn⟩ | ⟨g, c, cur, hv, _, _, hc, _⟩
  · exact .inl ⟨hv, List.eq_nil_of_length_eq_zero hn⟩
  · exact .inr ⟨g, c, hv, hc⟩
theorem Own.lt {v : Value} {s : List UInt8} (h : Own w base v s) : ∀ k, v.ownBlock = some k → base ≤ k ∧ k < w.heap.size := World.ownsRow.lt h
theorem Own.kind {v : Value} {s : List UInt8} (h : Own w base v s) {g : Nat} {t : TypeId} {cs : Array Value} {z : Nat × Nat} (hg : w.heap[g]? = some (.cells cs t z)) (ht : 5 ≠ t) : v.ownBlock ≠ some g := own_ne h hg ht
theorem Own.keep {v : Value} {s : List UInt8} (h : Own w base v s) (hk : ∀ i, v.ownBlock = some i → w'.heap[i]? = w.heap[i]?) : Own w' base v s := own_keep h fun i hi => hk i hi.symm
theorem Own.mono {base' : Nat} {v : Value} {s : List UInt8} (h : Own w base v s) (hb : base' ≤ base) : Own w base' v s := ⟨h.1, h.2.imp id fun ⟨g, c, cur, e, q, r⟩ => ⟨g, c, cur, e, by omega, r⟩⟩
theorem Own.take {A : Option Addr} {m c n : Nat} {s : List UInt8} (h : Own w base (.slice A m c) s) (hn : n ≤ s.length) : Own w base (.slice A n c) (s.take n) := by
  have hl : (s.take n).length = n := by simp; omega
  unfold Own at h ⊢
  rw [hl]
  refine ⟨by rw [Lib.byteCells_length, hl, Nat.mul_one], ?_⟩
  rcases h.2 with ⟨hv, h0⟩ | ⟨g, cap, cur, hv, hb, hg, hc, hm, hs, hx⟩
  · injection hv with h1 h2 h3
    subst h1 h3
    obtain rfl : n = 0 := by omega
    exact .inl ⟨rfl, rfl⟩
  · injection hv with h1 h2 h3
    subst h1 h3
    refine .inr ⟨g, c, cur, rfl, hb, hg, by omega, hm, hs, ?_⟩
    have : Lib.byteCells (s.take n) = (Lib.byteCells s).take n := by simp [Lib.byteCells]
    rw [this, ← hx, List.take_take]
    congr 1
    omega
theorem Own.set_ {g n c k : Nat} {s : List UInt8} (h : Own w base (.slice (some ⟨g, 0, none⟩) n c) s) (hn : s.length = n) (y : UInt8) : Own (w.setCell ⟨g, k, none⟩ (.int .u8 (y.toNat : Int))) base (.slice (some ⟨g, 0, none⟩) n c) (s.set k y) := by
  unfold Own at h ⊢
  rw [hn] at h
  rw [List.length_set, hn]
  have := (World.ownsRow.stored h k (.int .u8 (y.toNat : Int))).1
  rwa [show Lib.byteCells (s.set k y) = (Lib.byteCells s).set k (.int .u8 (y.toNat : Int)) by simp [Lib.byteCells, List.map_set]]
theorem Own.at_ {g n c k : Nat} {s : List UInt8} (h : Own w base (.slice (some ⟨g, 0, none⟩) n c) s) (hn : s.length = n) (hk : k < n) : w.cell? ⟨g, k, none⟩ = some (.int .u8 ((Go.Proofs.Ytjnhjpjebklalaa.at_ s k : Nat) : Int)) := by
  unfold Own at h
  rw [hn] at h
  rw [World.ownsRow.cellAt h k (by omega)]
  exact byteCells_get (by omega)
theorem Own.frozen {g n c k : Nat} {s : List UInt8} (h : Own w base (.slice (some ⟨g, 0, none⟩) n c) s) (hn : s.length = n) : w.frozen? ⟨g, k, none⟩ = false := by
  unfold Own at h
  rw [hn] at h
  exact World.ownsRow.frozenAt h k

/-- What a call leaves: all but the blocks of S. -/
structure Fr (S : Nat → Prop) (w w' : World) : Prop where
  os : w'.os = w.os
  tape : w'.tape = w.tape
  output : w'.output = w.output
  size : w.heap.size ≤ w'.heap.size
  block : ∀ i, i < w.heap.size → ¬ S i → w'.heap[i]? = w.heap[i]?
theorem Fr.refl (w : World) : Fr S w w := ⟨rfl, rfl, rfl, Nat.le_refl _, fun _ _ _ => rfl⟩
theorem Fr.trans (h : Fr S w w') (k : Fr S' w' w'') (hs : ∀ i, S' i → S i ∨ w.heap.size ≤ i) : Fr S w w'' :=
  ⟨k.os.trans h.os, k.tape.trans h.tape, k.output.trans h.output, Nat.le_trans h.size k.size, fun i hi hc => (k.block i (Nat.lt_of_lt_of_le hi h.size) (fun e => (hs i e).elim hc (by omega))).trans (h.block i hi hc)⟩
theorem Fr.next (h : Fr S w w') (k : Fr S w' w'') : Fr S w w'' := h.trans k fun _ e => .inl e
theorem Fr.of_below (h : Below w.heap.size w w') : Fr S w w' := ⟨h.os, h.tape, h.output, h.size, fun i hi _ => h.block i hi⟩
theorem Fr.below (h : Fr S w w') (k : Below w'.heap.size w' w'') : Fr S w w'' := h.next (Fr.of_below k)
theorem Fr.alloc (h : Fr S w w') (o : Obj) : Fr S w (w'.alloc o) := h.below ((Below.refl _ _).alloc (Nat.le_refl _) o)
theorem Fr.drew (h : Fr S w w') : Fr S w w'.drew := ⟨h.os, h.tape, h.output, h.size, h.block⟩
theorem Fr.set_ (h : Fr S w w') {q : Addr} (hq : S q.block ∨ w.heap.size ≤ q.block) (u : Value) : Fr S w (w'.setCell q u) :=
  ⟨h.os, h.tape, h.output, by simpa [World.setCell] using h.size, fun i hi hc => (Below.heap_setCell _ _ _ _ (by rintro rfl; exact hq.elim hc (by omega))).trans (h.block i hi hc)⟩
theorem Fr.grown (h : Fr S w w') {row : Option Nat} (hg : w'.grownBy w'' row) (hr : ∀ k, row = some k → S k ∨ w.heap.size ≤ k) : Fr S w w'' :=
  ⟨hg.os.trans h.os, hg.tape.trans h.tape, hg.output.trans h.output, Nat.le_trans h.size hg.size, fun i hi hc => (hg.block i (Nat.lt_of_lt_of_le hi h.size) (fun e => (hr i e.symm).elim hc (by omega))).trans (h.block i hi hc)⟩
theorem Fr.old (h : Fr S w w') {B : Nat} (hB : B ≤ w.heap.size) (hs : ∀ i, S i → B ≤ i) : Below B w w' := ⟨h.os, h.tape, h.output, h.size, fun i hi => h.block i (by omega) (fun e => by have := hs i e; omega)⟩
theorem Fr.blk (h : Fr S w w') {g : Nat} {t : TypeId} {cs : Array Value} (hg : Blk w g t cs) (hw : ¬ S g) : Blk w' g t cs := (h.block g hg.lt hw).trans hg
theorem Fr.own (h : Fr S w w') {v : Value} {s : List UInt8} (ho : Own w base v s) (hv : ∀ i, v.ownBlock = some i → ¬ S i) : Own w' base v s := ho.keep fun i hi => h.block i (ho.lt i hi).2 (hv i hi)

theorem Fr.cell (h : Fr S w w') {p : Addr} (hp : p.block < w.heap.size) (hs : ¬ S p.block) : w'.cell? p = w.cell? p := by
  unfold World.cell?
  rw [h.block p.block hp hs]
theorem Fr.bytes (h : Fr S w w') {v : Value} {s : List UInt8} (ho : Own w base v s) (hv : ∀ i, v.ownBlock = some i → ¬ S i) : Bytes w.heap.size w' v s := by
  obtain ⟨A, cap, rfl, hc, ht⟩ := ho.bytes
  exact ⟨A, cap, rfl, hc, fun hs => by
    obtain ⟨b, off, rfl, hb, hcc⟩ := ht hs
    exact ⟨b, off, rfl, hb, fun j hj => (h.cell (p := ⟨b, off + j, none⟩) hb (hv b rfl)).trans (hcc j hj)⟩⟩
/-- A tape in memory: its block, its bytes' row. -/
structure TapeV (w : World) (g : Nat) (S : Nat → Prop) (T : Tp) (v : Value) : Prop where
  blk : Blk w g 47 #[v, .int .i64 T.room, .int .i64 (T.safe : Int), .int .i64 T.left, .bool T.down]
  own : Own w g v T.bs
  foot : ∀ i, v.ownBlock = some i → S i
  self : S g
  old : ∀ i, S i → g ≤ i ∧ i < w.heap.size
  ok : T.ok
def TapeAt (w : World) (g : Nat) (S : Nat → Prop) (T : Tp) : Prop := ∃ v, TapeV w g S T v
/-- What a call of a tape does: all but the tape's blocks stays, and these are the elder ones or new. -/
def Did (g : Nat) (S : Nat → Prop) (T : Tp) (w w' : World) : Prop := ∃ S', (∀ i, S' i → S i ∨ w.heap.size ≤ i) ∧ TapeAt w' g S' T ∧ Fr S w w'
section
variable {g : Nat} {T T' : Tp}
theorem TapeAt.on (h : TapeAt w g S T) (hB : Below w.heap.size w w') : TapeAt w' g S T := by
  obtain ⟨v, h⟩ := h
  exact ⟨v, h.blk.on hB, h.own.below hB, h.foot, h.self, fun i hi => ⟨(h.old i hi).1, Nat.lt_of_lt_of_le (h.old i hi).2 hB.size⟩, h.ok⟩
theorem TapeAt.alloc (h : TapeAt w g S T) (o : Obj) : TapeAt (w.alloc o) g S T := h.on ((Below.refl _ _).alloc (Nat.le_refl _) o)
theorem TapeAt.fr (h : TapeAt w g S T) (hF : Fr S' w w') (hd : ∀ i, S i → ¬ S' i) : TapeAt w' g S T := by
  obtain ⟨v, h⟩ := h
  exact ⟨v, hF.blk h.blk (hd g h.self), hF.own h.own (fun i hi => hd i (h.foot i hi)), h.foot, h.self, fun i hi => ⟨(h.old i hi).1, Nat.lt_of_lt_of_le (h.old i hi).2 hF.size⟩, h.ok⟩
theorem TapeAt.ok (h : TapeAt w g S T) : T.ok := h.choose_spec.ok
theorem TapeAt.old (h : TapeAt w g S T) : ∀ i, S i → g ≤ i ∧ i < w.heap.size := h.choose_spec.old
theorem TapeAt.lt (h : TapeAt w g S T) : g < w.heap.size := h.choose_spec.blk.lt
theorem Did.drew (h : Did g S T w w') : Did g S T w w'.drew := by
  obtain ⟨S', hs, ⟨v, ht⟩, hf⟩ := h
  exact ⟨S', hs, ⟨v, ht.blk, ht.own, ht.foot, ht.self, ht.old, ht.ok⟩, hf.drew⟩
theorem Did.same (h : TapeAt w' g S T) (hF : Fr S w w') : Did g S T w w' := ⟨S, fun _ e => .inl e, h, hF⟩
theorem Did.trans (h : Did g S T w w') (k : ∀ S', TapeAt w' g S' T → Did g S' T' w' w'') : Did g S T' w w'' := by
  obtain ⟨S', hs, ht, hf⟩ := h
  obtain ⟨S2, hs2, ht2, hf2⟩ := k S' ht
  exact ⟨S2, fun i hi => (hs2 i hi).elim (hs i) (fun e => .inr (Nat.le_trans hf.size e)), ht2, hf.trans hf2 hs⟩
end

theorem made_cells (z : Value) (m : Nat) : madeCells #[z] m = (List.replicate m z).toArray := by
  apply Array.ext
  · simp [madeCells]
  · intro i h1 h2
    simp [madeCells, Nat.mod_one]
/-- make([]byte, m). -/
theorem own_made (w : World) (m : Nat) (hm : m ≤ maxLen) : Own (w.alloc (.cells (madeCells #[.int .u8 0] m) 5)) w.heap.size (.slice (some ⟨w.heap.size, 0, none⟩) m m) (List.replicate m 0) := by
  unfold Own
  rw [List.length_replicate]
  refine ⟨by simp [Lib.byteCells_length], .inr ⟨w.heap.size, m, _, rfl, Nat.le_refl _, heap_alloc_new w _, Nat.le_refl _, hm, by simp [made_cells], ?_⟩⟩
  rw [made_cells]
  simp [Lib.byteCells]
theorem Bytes.src {n₀ : Nat} {A : Option Addr} {m c : Nat} {s : List UInt8} (h : Bytes n₀ w (.slice A m c) s) (hs : 0 < s.length) : ∃ ad, A = some ad ∧ ∀ j v, (Lib.byteCells s)[j]? = some v → w.cell? (ad.add j) = some v := by
  obtain ⟨A', c', hv, _, ht⟩ := h
  injection hv with h1 h2 h3
  subst h1
  obtain ⟨b, off, rfl, _, hc⟩ := ht (by rintro rfl; simp at hs)
  refine ⟨_, rfl, fun j v hj => ?_⟩
  have hadd : (⟨b, off, none⟩ : Addr).add j = ⟨b, off + j, none⟩ := by unfold Addr.add; split <;> simp_all
  have hl : j < s.length := by
    have := (List.getElem?_eq_some_iff.1 hj).1
    rwa [Lib.byteCells_length] at this
  rw [byteCells_get hl] at hj
  rw [hadd, hc j hl]
  exact hj
theorem own_whole {b : Nat} {s : List UInt8} {m : Nat} (hb : base ≤ b) (hm : m = s.length) (hmx : m ≤ maxLen) {L : List Value} (hL : L.length = m) (h : w.heap[b]? = some (.cells (splice L 0 (Lib.byteCells s)).toArray 5 (0, 0))) : Own w base (.slice (some ⟨b, 0, none⟩) m m) s := by
  subst hm
  have e : splice L 0 (Lib.byteCells s) = Lib.byteCells s := by
    unfold splice
    rw [List.drop_of_length_le (by rw [Lib.byteCells_length]; omega)]
    simp
  rw [e] at h
  exact ⟨by rw [Lib.byteCells_length, Nat.mul_one], .inr ⟨b, s.length, _, rfl, hb, h, Nat.le_refl _, hmx, by simp [Lib.byteCells_length], by rw [List.take_of_length_le (by rw [Lib.byteCells_length]; omega)]⟩⟩
theorem xor_uu (a b : UInt8) : bits .xor .u8 (a.toNat : Int) (b.toNat : Int) = (((a ^^^ b).toNat : Nat) : Int) := by
  have ha := a.toNat_lt
  have hb := b.toNat_lt
  show IntKind.u8.wrap (((BitVec.ofInt 8 (a.toNat : Int)) ^^^ (BitVec.ofInt 8 (b.toNat : Int))).toNat : Int) = _
  rw [BitVec.ofInt_natCast, BitVec.ofInt_natCast, BitVec.toNat_xor, BitVec.toNat_ofNat, BitVec.toNat_ofNat, Nat.mod_eq_of_lt (by omega), Nat.mod_eq_of_lt (by omega), UInt8.toNat_xor]
  have := Nat.xor_lt_two_pow (n := 8) (x := a.toNat) (y := b.toNat) (by omega) (by omega)
  simp [IntKind.wrap, IntKind.bits, IntKind.signed]
  omega
/-- append of a slice that reads as bytes to a row of the call's own: the row behind it is the elder one's block, or a new one. -/
theorem run_app (w : World) (ty : TypeId) (v : Value) (s : List UInt8) (hown : Own w base v s) (n₀ : Nat) (u : Value) (b : List UInt8) (hr : Bytes n₀ w u b) (hL : s.length + b.length ≤ 140737488355328) (hbase : base ≤ w.heap.size) :
    ∃ v' w', (Builtin.append_ #[27, 27] ty #[v, u]).run Try.prog w = .ok v' w' ∧ Own w' base v' (s ++ b) ∧ w.grownBy w' v.ownBlock ∧ (v'.ownBlock = v.ownBlock ∨ v'.ownBlock = some w.heap.size) := by
  obtain ⟨i0, hi, hz0, hz1, hz2⟩ := info_three info_u8
  have hR := Row.of_bytes hr
  obtain ⟨A, cap, rfl, _, hA⟩ := hR
  rw [Lib.byteCells_length]
  cases A with
  | none =>
    have hy : b = [] := by
      rcases b with _ | ⟨y, b⟩
      · rfl
      · obtain ⟨b, off, h, _⟩ := hA (by simp [Lib.byteCells])
        cases h
    subst hy
    refine ⟨v, w, ?_, by simpa using hown, World.grownBy.refl w _, .inl rfl⟩
    rcases hown.2 with ⟨rfl, _⟩ | ⟨g, c, cur, rfl, _, _, hnc, _⟩
    · simp [Builtin.append_, run_underlying Try.underlying27, sizeOf, typeInfo, hi, Builtin.lenOf, Builtin.firstCells]
    · simp [Builtin.append_, run_underlying Try.underlying27, sizeOf, typeInfo, hi, Builtin.lenOf, Builtin.firstCells, hnc, storeCells]
  | some a =>
    have hcells : ∀ j y, (Lib.byteCells b)[j]? = some y → w.cell? (a.add j) = some y := by
      intro j y hy
      obtain ⟨b, off, h, _, hc⟩ := hA (by intro e; rw [e] at hy; simp at hy)
      cases h
      have hadd : (⟨b, off, none⟩ : Addr).add j = ⟨b, off + j, none⟩ := by unfold Addr.add; split <;> simp_all
      rw [hadd]
      exact hc j y hy
    obtain ⟨v', w', hrun, h2, h3, _, h5⟩ := run_append_own_at (P := Try.prog) w base 27 ty 5 i0 (.int .u8 0) 1 1 Try.underlying27 hi hz0 hz1 hz2 rfl (by decide) v s.length (Lib.byteCells s) hown a b.length cap (Lib.byteCells b) (by rw [Lib.byteCells_length, Nat.mul_one]) hcells (one_bytes b) (by unfold maxLen; omega) (by omega) hbase
    refine ⟨v', w', hrun, ?_, h3, h5⟩
    unfold Own
    rw [List.length_append, Lib.byteCells_append]
    exact h2
theorem wpList_app (w : World) {ops : Array Oper} {rest : List Oper} {o : Oper} {a : Act} {Q : Exit → Act → World → Prop} (hgd : o.guard = none) (x y : Operand)
    (ho : o.op = .call { callee := .builtin .append, args := #[x, y], argTypes := #[27, 27] })
    (v : Value) (s : List UInt8) (hs : a.eval x = v) (hown : Own w base v s) (n₀ : Nat) (u : Value) (b : List UInt8) (hx : a.eval y = u) (hr : Bytes n₀ w u b) (hL : s.length + b.length ≤ 140737488355328) (hbase : base ≤ w.heap.size)
    (h : ∀ v' w', Own w' base v' (s ++ b) → w.grownBy w' v.ownBlock → (v'.ownBlock = v.ownBlock ∨ v'.ownBlock = some w.heap.size) → wpList Try.prog ops Q rest (a.put o.dst v') w') : wpList Try.prog ops Q (o :: rest) a w := by
  refine wpList_plain hgd fun K hK => ?_
  obtain ⟨v', w', hrun, h2, h3, h4⟩ := run_app w o.type v s hown n₀ u b hr hL hbase
  unfold Oper.wp execOp
  simp only [ho, resolve, invoke, builtin, Sem.run_bind, Sem.run_pure, Result.andThen_ok, List.map_toArray, List.map_cons, List.map_nil, hs, hx, hrun]
  exact hK _ _ (h v' w' h2 h3 h4)
/-- The same as a step of a region that draws its order. -/
theorem step_app (w : World) {ops : Array Oper} {o : Oper} {a : Act} {K : Act → World → Prop} {Q : Exit → Act → World → Prop} {E : Prop} (hgd : o.guard = none) (x y : Operand)
    (ho : o.op = .call { callee := .builtin .append, args := #[x, y], argTypes := #[27, 27] })
    (v : Value) (s : List UInt8) (hs : a.eval x = v) (hown : Own w base v s) (n₀ : Nat) (u : Value) (b : List UInt8) (hx : a.eval y = u) (hr : Bytes n₀ w u b) (hL : s.length + b.length ≤ 140737488355328) (hbase : base ≤ w.heap.size)
    (h : ∀ v' w', Own w' base v' (s ++ b) → w.grownBy w' v.ownBlock → (v'.ownBlock = v.ownBlock ∨ v'.ownBlock = some w.heap.size) → K (a.put o.dst v') w') :
    if Region.wanted o (yielded ops a.tmps) = true then Oper.wp Try.prog o a w K Q else E := by
  have hw : Region.wanted o (yielded ops a.tmps) = true := by simp [Region.wanted, hgd]
  rw [if_pos hw]
  obtain ⟨v', w', hrun, h2, h3, h4⟩ := run_app w o.type v s hown n₀ u b hr hL hbase
  unfold Oper.wp execOp
  simp only [ho, resolve, invoke, builtin, Sem.run_bind, Sem.run_pure, Result.andThen_ok, List.map_toArray, List.map_cons, List.map_nil, hs, hx, hrun]
  exact h v' w' h2 h3 h4
end Go.Proofs.Ytjnhjpjebklalaa
