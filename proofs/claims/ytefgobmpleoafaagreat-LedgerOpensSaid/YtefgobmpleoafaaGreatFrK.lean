/- Words for memory: a block that is known whole, rows of the call's own, append; a slice that reads as bytes. (Out of the texts of stages 1 to 7.) -/
import Derived.Test.YtefgobmpleoafaaGreatFrM
import Derived.Laws.BytesArg
import Derived.Laws.IdiomStrings
import Derived.Lib.SlBytesConst
import Derived.LoopTactic
import Derived.Test.YtefgobmpleoafaaGreatChecked
import Derived.WalkKit
import Derived.WalkSpells
import Derived.WalkLawsBesides
import Derived.Outline
import Derived.Below
import Derived.Laws.OwnMore
import Derived.Laws.Rows
import Derived.Deep.Draws
import Derived.Deep.AppendLies
import Derived.Deep.Onto
import Derived.Maps.AppendAt
import Derived.Lib.Hide
import Derived.OwnWalk
namespace Go.Proofs.YtefgobmpleoafaaGreat
open Go.RowKit

theorem grown_of_below {a w : World} (h : Below a.heap.size a w) (row : Option Nat) : a.grownBy w row := ⟨h.os, h.tape, h.output, h.size, fun i hi _ => h.block i hi⟩
theorem below_call {B : Nat} {a w w1 : World} {o : Obj} (h : Below B a w) (hB : B ≤ w.heap.size) (h1 : Below (w.alloc o).heap.size (w.alloc o) w1) : Below B a w1 :=
  (h.alloc hB o).trans (h1.mono (by simp; omega))
theorem Below.drewN' {B : Nat} {a w : World} (h : Below B a w) (n : Nat) : Below B a (w.drewN n) := ⟨h.os, h.tape, h.output, h.size, h.block⟩
theorem info_three {P : Program} {e : TypeId} {z : Value} {s b : Nat} (h : (P.info? e).map (fun i => (i.zero, i.size, i.bytes)) = some (some z, s, b)) : ∃ i, P.info? e = some i ∧ i.zero = some z ∧ i.size = s ∧ i.bytes = b := by
  obtain ⟨i, hi, h⟩ := Option.map_eq_some_iff.1 h
  simp only [Prod.mk.injEq] at h
  exact ⟨i, hi, h.1, h.2.1, h.2.2⟩
theorem ret_bool {a b : Bool} (h : a = b) : Ending.returned (.bool a) = .returned (.bool b) := by rw [h]
theorem ret_int {k : IntKind} {a b : Int} (h : a = b) : Ending.returned (.int k a) = .returned (.int k b) := by rw [h]
def Blk (w : World) (g : Nat) (t : TypeId) (cs : Array Value) : Prop := w.heap[g]? = some (.cells cs t (0, 0))
section
variable {w w' : World} {g : Nat} {t : TypeId} {cs : Array Value}
theorem lt_of_some {o : Obj} (h : w.heap[g]? = some o) : g < w.heap.size := by
  rcases Nat.lt_or_ge g w.heap.size with hlt | hge
  · exact hlt
  · rw [Array.getElem?_eq_none hge] at h; cases h
theorem Blk.lt (h : Blk w g t cs) : g < w.heap.size := lt_of_some h
theorem Blk.cell (h : Blk w g t cs) (i : Nat) : w.cell? ⟨g, i, none⟩ = cs[i]? := cell_of_row w g i cs t (0, 0) h
theorem Blk.frozen (h : Blk w g t cs) (i : Nat) : w.frozen? ⟨g, i, none⟩ = false := by
  unfold Blk at h
  simp [World.frozen?, h]
theorem Blk.new (w : World) (t : TypeId) (cs : Array Value) : Blk (w.alloc (.cells cs t)) w.heap.size t cs := heap_alloc_new w _
theorem Blk.alloc (h : Blk w g t cs) (o : Obj) : Blk (w.alloc o) g t cs := (Below.heap_alloc w o g h.lt).trans h
theorem Blk.set_ (h : Blk w g t cs) (i : Nat) (u : Value) : Blk (w.setCell ⟨g, i, none⟩ u) g t (cs.setIfInBounds i u) := by
  unfold Blk at h ⊢
  simp [World.setCell, Array.getElem?_modify, h]
theorem Blk.far (h : Blk w g t cs) {p : Addr} (hp : g ≠ p.block) (u : Value) : Blk (w.setCell p u) g t cs := (Below.heap_setCell w p u g hp).trans h
theorem Blk.below {B : Nat} (h : Blk w g t cs) (hb : Below B w w') (hg : g < B) : Blk w' g t cs := (hb.block g hg).trans h
theorem Blk.on (h : Blk w g t cs) (hb : Below w.heap.size w w') : Blk w' g t cs := (hb.block g h.lt).trans h
theorem Blk.grown {row : Option Nat} (h : Blk w g t cs) (hb : w.grownBy w' row) (hg : some g ≠ row) : Blk w' g t cs := (hb.block g h.lt hg).trans h
theorem ne_of_types {a b : Array Value} {y z : Nat × Nat} {g' : Nat} {t' : TypeId} (h : w.heap[g]? = some (.cells a t y)) (h' : w.heap[g']? = some (.cells b t' z)) (hne : t ≠ t') : g ≠ g' := by
  rintro rfl
  rw [h] at h'
  injection h' with h'
  injection h' with _ ht
  exact hne ht
theorem Blk.ne_ {g' : Nat} {t' : TypeId} {cs' : Array Value} (h : Blk w g t cs) (h' : Blk w g' t' cs') (hne : t ≠ t') : g ≠ g' := ne_of_types h h' hne
theorem own_ne {base : Nat} {e : TypeId} {size n : Nat} {v : Value} {xs : List Value} {cs : Array Value} {z : Nat × Nat} (h : w.ownsRow base e size v n xs) (hg : w.heap[g]? = some (.cells cs t z)) (hne : e ≠ t) : v.ownBlock ≠ some g := by
  rcases h.2 with ⟨rfl, _⟩ | ⟨g', cap, cur, rfl, _, hh, _⟩
  · simp [Value.ownBlock]
  · intro he
    have : g' = g := by simpa [Value.ownBlock] using he
    subst this
    exact ne_of_types hh hg hne rfl
theorem own_keep {base : Nat} {e : TypeId} {size n : Nat} {v : Value} {xs : List Value} (h : w.ownsRow base e size v n xs) (hk : ∀ i, some i = v.ownBlock → w'.heap[i]? = w.heap[i]?) : w'.ownsRow base e size v n xs := by
  refine ⟨h.1, ?_⟩
  rcases h.2 with h0 | ⟨g, cap, cur, rfl, hb, hh, hr⟩
  · exact .inl h0
  · exact .inr ⟨g, cap, cur, rfl, hb, (hk g rfl).trans hh, hr⟩
theorem own_kept {base n : Nat} {e : TypeId} {size : Nat} {v : Value} {xs : List Value} (h : w.ownsRow base e size v n xs) (hk : ∀ i, i < w.heap.size → base ≤ i → (∃ cs z, w.heap[i]? = some (.cells cs e z)) → w'.heap[i]? = w.heap[i]?) : w'.ownsRow base e size v n xs :=
  own_keep h fun i hi => by
    rcases h.2 with ⟨rfl, _⟩ | ⟨g, cap, cur, rfl, hb, hh, _⟩
    · simp [Value.ownBlock] at hi
    · obtain rfl : i = g := by simpa [Value.ownBlock] using hi
      exact hk i (lt_of_some hh) hb ⟨cur, _, hh⟩
theorem own_at {base n : Nat} {e : TypeId} {size : Nat} {v : Value} {xs : List Value} (h : w.ownsRow base e size v n xs) : (v = .slice none 0 0 ∧ n = 0) ∨ ∃ g c, v = .slice (some ⟨g, 0, none⟩) n c ∧ n ≤ c ∧ base ≤ g ∧ (∃ cs z, w.heap[g]? = some (.cells cs e z)) ∧ (∀ j, j < n * size → w.cell? ⟨g, j, none⟩ = xs[j]?) ∧ ∀ j, w.frozen? ⟨g, j, none⟩ = false := by
  rcases h.2 with h0 | ⟨g, c, cur, rfl, hb, hh, hn, _⟩
  · exact .inl h0
  · exact .inr ⟨g, c, rfl, hn, hb, ⟨cur, _, hh⟩, fun j hj => World.ownsRow.cellAt h j hj, fun j => World.ownsRow.frozenAt h j⟩
end
def zI (l : List Int) : List Value := l.map (Value.int .i64)
theorem zI_get {l : List Int} {i : Nat} {u : Int} (h : l[i]? = some u) : (zI l)[i]? = some (.int .i64 u) := by simp [zI, h]
/-- A slice value that reads as a list of values of one cell each; below n₀; one of no values may lie anywhere. -/
def Row (n₀ : Nat) (w : World) (v : Value) (xs : List Value) : Prop :=
  ∃ A cap, v = .slice A xs.length cap ∧ xs.length ≤ cap ∧ (xs ≠ [] → ∃ b off, A = some ⟨b, off, none⟩ ∧ b < n₀ ∧ ∀ j u, xs[j]? = some u → w.cell? ⟨b, off + j, none⟩ = some u)
theorem Row.below {n₀ : Nat} {w w' : World} {v : Value} {xs : List Value} (h : Row n₀ w v xs) (hB : Below n₀ w w') : Row n₀ w' v xs := by
  obtain ⟨A, cap, hv, hc, h⟩ := h
  exact ⟨A, cap, hv, hc, fun hs => by
    obtain ⟨b, off, hA, hb, ht⟩ := h hs
    exact ⟨b, off, hA, hb, fun j u hu => (hB.cell (p := ⟨b, off + j, none⟩) hb).trans (ht j u hu)⟩⟩
theorem Row.more {n₀ n₁ : Nat} {w : World} {v : Value} {xs : List Value} (h : Row n₀ w v xs) (hn : n₀ ≤ n₁) : Row n₁ w v xs := by
  obtain ⟨A, cap, hv, hc, h⟩ := h
  exact ⟨A, cap, hv, hc, fun hs => by
    obtain ⟨b, off, hA, hb, ht⟩ := h hs
    exact ⟨b, off, hA, by omega, ht⟩⟩
theorem Row.of_own {w : World} {base : Nat} {e : TypeId} {v : Value} {n : Nat} {xs : List Value} (h : w.ownsRow base e 1 v n xs) : Row w.heap.size w v xs := by
  have hl : xs.length = n := by simpa using h.1
  rcases h.2 with ⟨rfl, hn⟩ | ⟨g, cap, cur, rfl, hb, hg, hnc, _⟩
  · subst hn
    have : xs = [] := List.eq_nil_of_length_eq_zero hl
    subst this
    exact ⟨none, 0, rfl, Nat.le_refl _, fun h => absurd rfl h⟩
  · refine ⟨some ⟨g, 0, none⟩, cap, by rw [hl], by rw [hl]; exact hnc, fun _ => ⟨g, 0, rfl, (Array.getElem?_eq_some_iff.1 hg).1, fun j u hu => ?_⟩⟩
    have := h.cells (g := g) rfl j u hu
    have hadd : (⟨g, 0, none⟩ : Addr).add j = ⟨g, 0 + j, none⟩ := by unfold Addr.add; split <;> simp_all
    rwa [hadd] at this
theorem Row.lit (w : World) (cs : Array Value) (e : TypeId) (fr : Nat × Nat) : Row (w.heap.size + 1) (w.alloc (.cells cs e fr)) (.slice (some ⟨w.heap.size, 0, none⟩) cs.size cs.size) cs.toList :=
  ⟨some ⟨w.heap.size, 0, none⟩, cs.size, by simp, by simp, fun _ => ⟨w.heap.size, 0, rfl, by omega, fun j u hu => by
    simp only [Nat.zero_add]
    rw [cell_of_row _ w.heap.size j cs e fr (heap_alloc_new w _)]
    simpa using hu⟩⟩

section
variable {P : Program} (w : World)
theorem run_append_row (base : Nat) (t ty e : TypeId) (i : TypeInfo) (z : Value) (bytes : Nat) (ht : P.underlying t = some (.slice e)) (hi : P.info? e = some i) (hz : i.zero = some z)
    (hsize : i.size = 1) (hby : i.bytes = bytes) (hzs : z.cells.size = 1) (v : Value) (n : Nat) (xs : List Value) (hown : w.ownsRow base e 1 v n xs)
    (n₀ : Nat) (u : Value) (ys : List Value) (hr : Row n₀ w u ys) (h1 : ∀ y ∈ ys, y.oneCell' = true) (h63 : n + ys.length ≤ maxLen) (hbytes : (n + ys.length) * bytes ≤ 140737488355328) (hbase : base ≤ w.heap.size) :
    ∃ v' w', (Builtin.append_ #[t, t] ty #[v, u]).run P w = .ok v' w' ∧ w'.ownsRow base e 1 v' (n + ys.length) (xs ++ ys) ∧ w.grownBy w' v.ownBlock := by
  obtain ⟨A, cap, rfl, _, hA⟩ := hr
  cases A with
  | none =>
    have hy : ys = [] := by
      rcases ys with _ | ⟨y, ys⟩
      · rfl
      · obtain ⟨b, off, h, _⟩ := hA (by simp)
        cases h
    subst hy
    refine ⟨v, w, ?_, by simpa using hown, World.grownBy.refl w _⟩
    rcases hown.2 with ⟨rfl, _⟩ | ⟨g, c, cur, rfl, _, _, hnc, _⟩
    · simp [Builtin.append_, run_underlying ht, sizeOf, typeInfo, hi, Builtin.lenOf, Builtin.firstCells]
    · simp [Builtin.append_, run_underlying ht, sizeOf, typeInfo, hi, Builtin.lenOf, Builtin.firstCells, hnc, storeCells]
  | some a =>
    have hcells : ∀ j y, ys[j]? = some y → w.cell? (a.add j) = some y := by
      intro j y hy
      have hne : ys ≠ [] := by rintro rfl; simp at hy
      obtain ⟨b, off, h, _, hc⟩ := hA hne
      cases h
      have hadd : (⟨b, off, none⟩ : Addr).add j = ⟨b, off + j, none⟩ := by unfold Addr.add; split <;> simp_all
      rw [hadd]
      exact hc j y hy
    obtain ⟨v', w', hrun, h2, h3, _, _⟩ := run_append_own_at (P := P) w base t ty e i z 1 bytes ht hi hz hsize hby hzs (by decide) v n xs hown a ys.length cap ys (by simp) hcells h1 h63 hbytes hbase
    exact ⟨v', w', hrun, h2, h3⟩

theorem wpList_append_row {ops : Array Oper} {rest : List Oper} {o : Oper} {a : Act} {Q : Exit → Act → World → Prop} (hgd : o.guard = none) (s x : Operand) (t : TypeId)
    (ho : o.op = .call { callee := .builtin .append, args := #[s, x], argTypes := #[t, t] })
    (base : Nat) (e : TypeId) (i : TypeInfo) (z : Value) (bytes : Nat) (ht : P.underlying t = some (.slice e)) (hi : P.info? e = some i) (hz : i.zero = some z)
    (hsize : i.size = 1) (hby : i.bytes = bytes) (hzs : z.cells.size = 1) (v : Value) (n : Nat) (xs : List Value) (hs : a.eval s = v) (hown : w.ownsRow base e 1 v n xs)
    (n₀ : Nat) (u : Value) (ys : List Value) (hx : a.eval x = u) (hr : Row n₀ w u ys) (h1 : ∀ y ∈ ys, y.oneCell' = true) (h63 : n + ys.length ≤ maxLen) (hbytes : (n + ys.length) * bytes ≤ 140737488355328) (hbase : base ≤ w.heap.size)
    (h : ∀ v' w', w'.ownsRow base e 1 v' (n + ys.length) (xs ++ ys) → w.grownBy w' v.ownBlock → wpList P ops Q rest (a.put o.dst v') w') : wpList P ops Q (o :: rest) a w := by
  refine wpList_plain hgd fun K hK => ?_
  obtain ⟨v', w', hrun, h2, h3⟩ := run_append_row (P := P) w base t o.type e i z bytes ht hi hz hsize hby hzs v n xs hown n₀ u ys hr h1 h63 hbytes hbase
  unfold Oper.wp execOp
  simp only [ho, resolve, invoke, builtin, Sem.run_bind, Sem.run_pure, Result.andThen_ok, List.map_toArray, List.map_cons, List.map_nil, hs, hx, hrun]
  exact hK _ _ (h v' w' h2 h3)
end
/-- A composite literal without elements: it owns a row of none. -/
theorem own_empty (w : World) (base : Nat) (e : TypeId) (h : base ≤ w.heap.size) : (w.alloc (.cells #[] e)).ownsRow base e 1 (.slice (some ⟨w.heap.size, 0, none⟩) 0 0) 0 [] :=
  World.ownsRow_made w #[] 0 h (by unfold maxLen; omega) (by simp)

/-- What a call leaves of a row of the caller's own. -/
theorem own_below {w w' : World} {base : Nat} {e : TypeId} {v : Value} {n : Nat} {xs : List Value} (h : w.ownsRow base e 1 v n xs) (hB : Below w.heap.size w w') : w'.ownsRow base e 1 v n xs :=
  h.kept (grown_of_below hB none) (by cases hv : v.ownBlock <;> simp)
theorem below_append {B : Nat} {a w w' : World} {base : Nat} {e : TypeId} {v : Value} {n : Nat} {xs : List Value} (hB : Below B a w) (h : w.ownsRow base e 1 v n xs) (hb : B ≤ base) (hg : w.grownBy w' v.ownBlock) (hs : B ≤ w.heap.size) : Below B a w' :=
  hB.grown hg hs (fun k hk => by have := (h.lt k hk).1; omega)

/-- A slice value that reads as a text; below n₀; a text of no bytes may lie anywhere. -/
def Bytes (n₀ : Nat) (w : World) (v : Value) (s : List UInt8) : Prop :=
  ∃ A cap, v = .slice A s.length cap ∧ s.length ≤ cap ∧ (s ≠ [] → ∃ b off, A = some ⟨b, off, none⟩ ∧ b < n₀ ∧ ∀ j, j < s.length → w.cell? ⟨b, off + j, none⟩ = some (.int .u8 ((at_ s j : Nat) : Int)))
theorem Bytes.below {n₀ : Nat} {w w' : World} {v : Value} {s : List UInt8} (h : Bytes n₀ w v s) (hB : Below n₀ w w') : Bytes n₀ w' v s := by
  obtain ⟨A, cap, hv, hc, h⟩ := h
  exact ⟨A, cap, hv, hc, fun hs => by
    obtain ⟨b, off, hA, hb, ht⟩ := h hs
    exact ⟨b, off, hA, hb, fun j hj => (hB.cell (p := ⟨b, off + j, none⟩) hb).trans (ht j hj)⟩⟩
theorem Bytes.more {n₀ n₁ : Nat} {w : World} {v : Value} {s : List UInt8} (h : Bytes n₀ w v s) (hn : n₀ ≤ n₁) : Bytes n₁ w v s := by
  obtain ⟨A, cap, hv, hc, h⟩ := h
  exact ⟨A, cap, hv, hc, fun hs => by
    obtain ⟨b, off, hA, hb, ht⟩ := h hs
    exact ⟨b, off, hA, by omega, ht⟩⟩
theorem byteCells_get {s : List UInt8} {j : Nat} (h : j < s.length) : (Lib.byteCells s)[j]? = some (.int .u8 ((at_ s j : Nat) : Int)) := by
  simp [Lib.byteCells, at_, List.getD_eq_getElem?_getD, h]
theorem Bytes.of_row {n₀ : Nat} {w : World} {v : Value} {s : List UInt8} (h : Row n₀ w v (Lib.byteCells s)) : Bytes n₀ w v s := by
  obtain ⟨A, cap, hv, hc, h⟩ := h
  rw [Lib.byteCells_length] at hv hc
  exact ⟨A, cap, hv, hc, fun hs => by
    obtain ⟨b, off, hA, hb, ht⟩ := h (fun e => hs (by have := congrArg List.length e; rw [Lib.byteCells_length, List.length_nil] at this; exact List.eq_nil_of_length_eq_zero this))
    exact ⟨b, off, hA, hb, fun j hj => ht j _ (byteCells_get hj)⟩⟩
theorem Row.of_bytes {n₀ : Nat} {w : World} {v : Value} {s : List UInt8} (h : Bytes n₀ w v s) : Row n₀ w v (Lib.byteCells s) := by
  obtain ⟨A, cap, hv, hc, h⟩ := h
  rw [← Lib.byteCells_length s] at hv hc
  exact ⟨A, cap, hv, hc, fun hs => by
    obtain ⟨b, off, hA, hb, ht⟩ := h (fun e => hs (by rw [e]; rfl))
    exact ⟨b, off, hA, hb, fun j u hu => by
      have hj : j < s.length := by
        have := (List.getElem?_eq_some_iff.1 hu).1
        rwa [Lib.byteCells_length] at this
      rw [byteCells_get hj] at hu
      cases hu
      exact ht j hj⟩⟩
theorem one_bytes (s : List UInt8) : ∀ y ∈ Lib.byteCells s, y.oneCell' = true := by
  intro y hy
  simp only [Lib.byteCells, List.mem_map] at hy
  obtain ⟨b, _, rfl⟩ := hy
  rfl
theorem bytes_nil (n₀ : Nat) (w : World) : Bytes n₀ w (.slice none 0 0) [] := ⟨none, 0, rfl, Nat.le_refl _, fun h => absurd rfl h⟩
theorem at_drop (s : List UInt8) (k i : Nat) : at_ (s.drop k) i = at_ s (k + i) := by simp [at_, List.getD_eq_getElem?_getD]
theorem at_take {s : List UInt8} {n i : Nat} (h : i < n) : at_ (s.take n) i = at_ s i := by simp [at_, List.getD_eq_getElem?_getD, h]
/-- A part of a slice that reads as a text. -/
theorem Bytes.sub {n₀ : Nat} {w : World} {b off : Nat} {s : List UInt8} (hb : b < n₀) (ht : ∀ j, j < s.length → w.cell? ⟨b, off + j, none⟩ = some (.int .u8 ((at_ s j : Nat) : Int))) (i n c : Nat) (hi : i + n ≤ s.length) (hc : n ≤ c) :
    Bytes n₀ w (.slice (some ⟨b, off + i, none⟩) n c) ((s.drop i).take n) := by
  have hl : ((s.drop i).take n).length = n := by simp; omega
  refine ⟨_, c, by rw [hl], by rw [hl]; exact hc, fun _ => ⟨b, off + i, rfl, hb, fun j hj => ?_⟩⟩
  rw [hl] at hj
  rw [show off + i + j = off + (i + j) by omega, ht (i + j) (by omega), at_take hj, at_drop]
theorem bytes_empty (n₀ : Nat) (w : World) (A : Option Addr) (c : Nat) : Bytes n₀ w (.slice A 0 c) [] := ⟨A, c, rfl, Nat.zero_le _, fun h => absurd rfl h⟩
/-- string(b) of a slice value that reads as a text. -/
theorem run_string_bytes {n₀ : Nat} {w : World} {v : Value} {s : List UInt8} (h : Bytes n₀ w v s) : (convert 22 9 v).run Tryz.prog w = .ok (.string ⟨s.toArray⟩) w := by
  obtain ⟨A, cap, rfl, _, h⟩ := h
  by_cases hs : s = []
  · subst hs
    cases A with
    | none => exact run_convert_bytes_nil w 22 5 Tryz.underlying22 Tryz.underlying5 _ _ 9 Tryz.underlying9
    | some a => exact run_convert_bytes_back (P := Tryz.prog) w 22 9 5 a cap [] Tryz.underlying22 Tryz.underlying5 Tryz.underlying9 (fun j hj => by simp at hj)
  · obtain ⟨b, off, rfl, _, ht⟩ := h hs
    have e := run_convert_bytes_arg (P := Tryz.prog) w 22 5 Tryz.underlying22 Tryz.underlying5 b off s.length cap (s.map fun b => (b.toNat : Int)) (by simp) (fun i hi => by
      rw [ht i hi]
      simp [at_, List.getD_eq_getElem?_getD, hi]) 9 Tryz.underlying9
    rw [e]
    simp [strOfNums, Function.comp_def]
theorem info_u8 : (Tryz.prog.info? 5).map (fun i => (i.zero, i.size, i.bytes)) = some (some (.int .u8 0), 1, 1) := by kernel_rfl
theorem info_bytes : (Tryz.prog.info? 22).map (fun i => (i.zero, i.size, i.bytes)) = some (some (.slice none 0 0), 1, 24) := by kernel_rfl
theorem info_int : (Tryz.prog.info? 3).map (fun i => (i.zero, i.size, i.bytes)) = some (some (.int .i64 0), 1, 8) := by kernel_rfl

end Go.Proofs.YtefgobmpleoafaaGreat
