/- The writer of bytes in memory; what a call of it keeps. -/
import Derived.Test.YtiheeafmplccoaaRuB
import Derived.Test.YtiheeafmplccoaaPkM
import Derived.BigQuiet
import Derived.Deep.QuietTactic
import Derived.Deep.RegionWith
import Derived.Deep.RegionLaw
import Derived.Deep.Cut
import Derived.IntWalk
import Derived.Laws.StructEq
namespace Go.Proofs.Ytiheeafmplccoaa
open Go.RowKit
variable {w w' w'' : World}

def Stp (P : Prop) := P
theorem stp {P : Prop} (h : Stp P) : P := h
/-- A row of bytes of the call's own. -/
def Own (w : World) (base : Nat) (v : Value) (s : List UInt8) : Prop := w.ownsRow base 5 1 v s.length (Lib.byteCells s)
theorem Own.bytes {base : Nat} {v : Value} {s : List UInt8} (h : Own w base v s) : Bytes w.heap.size w v s := Bytes.of_row (Row.of_own h)
def isU8 (w : World) (i : Nat) : Prop := ∃ cs z, w.heap[i]? = some (.cells cs 5 z)
structure FrW (wb : Nat) (w w' : World) : Prop where
  os : w'.os = w.os
  tape : w'.tape = w.tape
  output : w'.output = w.output
  size : w.heap.size ≤ w'.heap.size
  block : ∀ i, i < w.heap.size → (i < wb ∨ (i ≠ wb ∧ ¬ isU8 w i)) → w'.heap[i]? = w.heap[i]?
section
variable {wb : Nat}
theorem FrW.refl (w : World) : FrW wb w w := ⟨rfl, rfl, rfl, Nat.le_refl _, fun _ _ _ => rfl⟩
theorem FrW.trans (h : FrW wb w w') (k : FrW wb w' w'') : FrW wb w w'' :=
  ⟨k.os.trans h.os, k.tape.trans h.tape, k.output.trans h.output, Nat.le_trans h.size k.size, fun i hi hc => by
    have e := h.block i hi hc
    refine (k.block i (Nat.lt_of_lt_of_le hi h.size) ?_).trans e
    rcases hc with hc | ⟨h1, h2⟩
    · exact .inl hc
    · refine .inr ⟨h1, fun ⟨cs, z, hb⟩ => h2 ⟨cs, z, ?_⟩⟩
      rw [← e]
      exact hb⟩
theorem FrW.of_below (h : Below w.heap.size w w') : FrW wb w w' := ⟨h.os, h.tape, h.output, h.size, fun i hi _ => h.block i hi⟩
theorem FrW.alloc (h : FrW wb w w') (o : Obj) : FrW wb w (w'.alloc o) := h.trans (FrW.of_below ((Below.refl _ _).alloc (Nat.le_refl _) o))
theorem FrW.drew (h : FrW wb w w') : FrW wb w w'.drew := ⟨h.os, h.tape, h.output, h.size, h.block⟩
theorem FrW.old (h : FrW wb w w') (hn : wb ≤ w.heap.size) : Below wb w w' := ⟨h.os, h.tape, h.output, h.size, fun i hi => h.block i (by omega) (.inl hi)⟩
theorem FrW.blk (h : FrW wb w w') {g : Nat} {t : TypeId} {cs : Array Value} (hg : Blk w g t cs) (ht : t ≠ 5) (hw : g ≠ wb) : Blk w' g t cs :=
  (h.block g hg.lt (.inr ⟨hw, fun ⟨_, _, hh⟩ => ne_of_types hg hh ht rfl⟩)).trans hg

/-- The writer: its block, and the bytes that it has. -/
def Wt (wb : Nat) (w : World) (s : List UInt8) : Prop := ∃ v, Blk w wb 75 #[v] ∧ Own w wb v s
variable {s : List UInt8}
theorem Wt.keep (h : Wt wb w s) (hk : ∀ i, i < w.heap.size → w'.heap[i]? = w.heap[i]?) : Wt wb w' s := by
  obtain ⟨v, hb, ho⟩ := h
  exact ⟨v, (hk wb hb.lt).trans hb, own_keep ho fun i hi => hk i (World.ownsRow.lt ho i hi.symm).2⟩
theorem Wt.on (h : Wt wb w s) (hb : Below w.heap.size w w') : Wt wb w' s := h.keep fun i hi => hb.block i hi
theorem Wt.alloc (h : Wt wb w s) (o : Obj) : Wt wb (w.alloc o) s := h.keep fun i hi => Below.heap_alloc w o i hi
theorem Wt.drew (h : Wt wb w s) : Wt wb w.drew s := h.keep fun _ _ => rfl
theorem Wt.lt (h : Wt wb w s) : wb < w.heap.size := by
  obtain ⟨v, hb, _⟩ := h
  exact hb.lt
/-- A store into a block of another kind. -/
theorem Wt.far (h : Wt wb w s) {b o : Nat} {t : TypeId} {cs : Array Value} {z : Nat × Nat} (hg : w.heap[b]? = some (.cells cs t z)) (h1 : t ≠ 75) (h2 : t ≠ 5) (u : Value) : Wt wb (w.setCell ⟨b, o, none⟩ u) s := by
  obtain ⟨v, hb, ho⟩ := h
  refine ⟨v, hb.far (ne_of_types hb hg (Ne.symm h1)) u, own_keep ho fun i hi => Below.heap_setCell _ _ _ _ ?_⟩
  rintro rfl
  exact own_ne ho hg (Ne.symm h2) hi.symm
theorem Wt.push {v v' : Value} {t : List UInt8} (hB : Blk w wb 75 #[v]) (hO : Own w wb v s) (hg : w.grownBy w' v.ownBlock) (h' : w'.ownsRow wb 5 1 v' (s.length + t.length) (Lib.byteCells s ++ Lib.byteCells t)) :
    Wt wb (w'.setCell ⟨wb, 0, none⟩ v') (s ++ t) ∧ FrW wb w (w'.setCell ⟨wb, 0, none⟩ v') := by
  have hB' : Blk w' wb 75 #[v] := hB.grown hg (fun e => own_ne hO hB (by decide) e.symm)
  refine ⟨⟨v', by simpa using hB'.set_ 0 v', ?_⟩, hg.os, hg.tape, hg.output, by simpa [World.setCell] using hg.size, fun i hi hc => ?_⟩
  · unfold Own
    rw [List.length_append, show Lib.byteCells (s ++ t) = Lib.byteCells s ++ Lib.byteCells t by simp [Lib.byteCells]]
    exact own_keep h' fun i hi => Below.heap_setCell _ _ _ _ (by
      rintro rfl
      exact own_ne h' hB' (by decide) hi.symm)
  · refine (Below.heap_setCell _ _ _ _ (by simp only; omega)).trans (hg.block i hi ?_)
    intro e
    rcases hO.2 with ⟨hv, _⟩ | ⟨g, cap, cur, hv, hb, hh, _⟩
    · rw [hv] at e; simp [Value.ownBlock] at e
    · rw [hv] at e
      obtain rfl : i = g := by simpa [Value.ownBlock] using e
      rcases hc with hc | ⟨_, hc⟩
      · omega
      · exact hc ⟨cur, _, hh⟩
end
/-- append of one byte, as a step of a region that draws. -/
theorem step_append_u8 (w : World) {ops : Array Oper} {o : Oper} {a : Act} {K : Act → World → Prop} {Q : Exit → Act → World → Prop} {E : Prop} (hgd : o.guard = none) (x y : Operand)
    (ho : o.op = .call { callee := .builtin .append, args := #[x, y], argTypes := #[31, 31] }) (base : Nat) (i : TypeInfo) (hi : Try.prog.info? 5 = some i) (hz : i.zero = some (.int .u8 0)) (hsize : i.size = 1) (hby : i.bytes = 1)
    (v : Value) (s : List UInt8) (hs : a.eval x = v) (hown : Own w base v s) (b : Nat) (c : UInt8) (hy : a.eval y = .slice (some ⟨b, 0, none⟩) 1 1)
    (hb : Blk w b 5 #[.int .u8 (c.toNat : Int)]) (hL : s.length ≤ 1000000000) (hbase : base ≤ w.heap.size)
    (h : ∀ v' w', w'.ownsRow base 5 1 v' (s.length + [c].length) (Lib.byteCells s ++ Lib.byteCells [c]) → w.grownBy w' v.ownBlock → K (a.put o.dst v') w') :
    if Region.wanted o (yielded ops a.tmps) = true then Oper.wp Try.prog o a w K Q else E := by
  have hw : Region.wanted o (yielded ops a.tmps) = true := by simp [Region.wanted, hgd]
  rw [if_pos hw]
  obtain ⟨v', w', hrun, h2, h3, _, h5⟩ := run_append_own_at (P := Try.prog) w base 31 o.type 5 i _ 1 1 Try.underlying31 hi hz hsize hby rfl (by decide) v s.length (Lib.byteCells s) hown ⟨b, 0, none⟩ 1 1 (Lib.byteCells [c]) rfl
    (fun j u hu => by
      have hl : j < 1 := (List.getElem?_eq_some_iff.1 hu).1
      obtain rfl : j = 0 := by omega
      have e : (⟨b, 0, none⟩ : Addr).add 0 = ⟨b, 0, none⟩ := by unfold Addr.add; split <;> simp_all
      rw [e, hb.cell 0]
      rw [← hu]
      rfl) (one_bytes [c]) (by unfold maxLen; omega) (by omega) hbase
  unfold Oper.wp execOp
  simp only [ho, resolve, invoke, builtin, Sem.run_bind, Sem.run_pure, Result.andThen_ok, List.map_toArray, List.map_cons, List.map_nil, hs, hy, hrun]
  exact h v' w' h2 h3
theorem n6_take (n : Int) (k : Nat) (hk : k < 6) : (n6 n).take (k + 1) = (n6 n).take k ++ [((n + 1).toNat / 2 ^ (40 - 8 * k) % 256).toUInt8] := by
  match k, hk with
  | 0, _ => rfl
  | 1, _ => rfl
  | 2, _ => rfl
  | 3, _ => rfl
  | 4, _ => rfl
  | 5, _ => simp [n6, be6]
end Go.Proofs.Ytiheeafmplccoaa
