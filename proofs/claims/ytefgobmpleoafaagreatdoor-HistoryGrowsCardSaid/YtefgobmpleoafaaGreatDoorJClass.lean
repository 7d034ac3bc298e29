/- Joined: ClWords, ClSmall, ClBox, ClTogether. -/
import Derived.Test.YtefgobmpleoafaaGreatDoorChecked
import Derived.Test.YtefgobmpleoafaaGreatDoorJMath
import Derived.WalkKit
import Derived.WalkSpells
import Derived.WalkLawsBesides
import Derived.Outline
import Derived.Below
import Derived.Laws.OwnMore
import Derived.Deep.AppendLies
import Derived.Deep.Onto
import Derived.Maps.AppendAt
import Derived.Lib.Hide
import Derived.OwnWalk
import Derived.Deep.LoopGhost
import Derived.WalkMore
import Derived.Deep.DeepCutAuto
/- Sets in memory: a slice value that reads as a list of ranges; a row of ranges of the call's own; append onto such a row. -/
namespace Go.Proofs.YtefgobmpleoafaaGreatDoor.Cl
open Go.RowKit

theorem ret_bool {a b : Bool} (h : a = b) : Ending.returned (.bool a) = .returned (.bool b) := by rw [h]
theorem ret_int {k : IntKind} {a b : Int} (h : a = b) : Ending.returned (.int k a) = .returned (.int k b) := by rw [h]

/-- The cells of ranges. -/
def rgCells (l : List Rg) : List Value := l.flatMap fun r => [.int .i64 r.1, .int .i64 r.2]
theorem rgCells_cons (r : Rg) (l : List Rg) : rgCells (r :: l) = .int .i64 r.1 :: .int .i64 r.2 :: rgCells l := rfl
theorem rgCells_append (a b : List Rg) : rgCells (a ++ b) = rgCells a ++ rgCells b := by simp [rgCells]
theorem rgCells_one (r : Rg) : rgCells [r] = [.int .i64 r.1, .int .i64 r.2] := rfl
theorem rgCells_len : ∀ (l : List Rg), (rgCells l).length = l.length * 2
  | [] => rfl
  | r :: l => by rw [rgCells_cons, List.length_cons, List.length_cons, rgCells_len l, List.length_cons]; omega
theorem rgCells_get : ∀ (l : List Rg) (i : Nat) (r : Rg), l[i]? = some r → (rgCells l)[i * 2]? = some (.int .i64 r.1) ∧ (rgCells l)[i * 2 + 1]? = some (.int .i64 r.2)
  | [], i, r, h => by simp at h
  | x :: l, 0, r, h => by
    simp at h
    subst h
    simp [rgCells_cons]
  | x :: l, i + 1, r, h => by
    have := rgCells_get l i r (by simpa using h)
    rw [rgCells_cons, show (i + 1) * 2 = i * 2 + 1 + 1 by omega, show i * 2 + 1 + 1 + 1 = i * 2 + 1 + 1 + 1 from rfl]
    simpa using this
theorem rgCells_inv : ∀ (l : List Rg) (j : Nat) (u : Value), (rgCells l)[j]? = some u → ∃ r, l[j / 2]? = some r ∧ u = if j % 2 = 0 then .int .i64 r.1 else .int .i64 r.2
  | [], j, u, h => by simp [rgCells] at h
  | x :: l, 0, u, h => ⟨x, rfl, by simpa [rgCells_cons] using h.symm⟩
  | x :: l, 1, u, h => ⟨x, rfl, by simpa [rgCells_cons] using h.symm⟩
  | x :: l, j + 2, u, h => by
    obtain ⟨r, h1, h2⟩ := rgCells_inv l j u (by simpa [rgCells_cons] using h)
    refine ⟨r, ?_, ?_⟩
    · rw [show (j + 2) / 2 = j / 2 + 1 by omega]
      simpa using h1
    · rw [h2, show (j + 2) % 2 = j % 2 by omega]
theorem rgCells_one_cell (l : List Rg) : ∀ y ∈ rgCells l, y.oneCell' = true := by
  intro y hy
  simp only [rgCells, List.mem_flatMap] at hy
  obtain ⟨r, _, hy⟩ := hy
  simp at hy
  rcases hy with rfl | rfl <;> rfl

/-- The cells from an address on hold the ranges. -/
def SetAt (w : World) (b off : Nat) (l : List Rg) : Prop :=
  ∀ i r, l[i]? = some r → w.cell? ⟨b, off + i * 2, none⟩ = some (.int .i64 r.1) ∧ w.cell? ⟨b, off + i * 2 + 1, none⟩ = some (.int .i64 r.2)
theorem SetAt.below {n₀ b off : Nat} {l : List Rg} {w w' : World} (h : SetAt w b off l) (hb : b < n₀) (hB : Below n₀ w w') : SetAt w' b off l := fun i r hr =>
  ⟨(hB.cell (p := ⟨b, off + i * 2, none⟩) hb).trans (h i r hr).1, (hB.cell (p := ⟨b, off + i * 2 + 1, none⟩) hb).trans (h i r hr).2⟩

/-- A slice value that reads as a list of ranges; below n₀; of no ranges it may lie anywhere. -/
def SetV (n₀ : Nat) (w : World) (v : Value) (l : List Rg) : Prop :=
  ∃ A cap, v = .slice A l.length cap ∧ l.length ≤ cap ∧ (l ≠ [] → ∃ b off, A = some ⟨b, off, none⟩ ∧ b < n₀ ∧ SetAt w b off l)
theorem SetV.below {n₀ : Nat} {w w' : World} {v : Value} {l : List Rg} (h : SetV n₀ w v l) (hB : Below n₀ w w') : SetV n₀ w' v l := by
  obtain ⟨A, cap, hv, hc, h⟩ := h
  exact ⟨A, cap, hv, hc, fun hs => by
    obtain ⟨b, off, hA, hb, ht⟩ := h hs
    exact ⟨b, off, hA, hb, ht.below hb hB⟩⟩
theorem SetV.more {n₀ n₁ : Nat} {w : World} {v : Value} {l : List Rg} (h : SetV n₀ w v l) (hn : n₀ ≤ n₁) : SetV n₁ w v l := by
  obtain ⟨A, cap, hv, hc, h⟩ := h
  exact ⟨A, cap, hv, hc, fun hs => by
    obtain ⟨b, off, hA, hb, ht⟩ := h hs
    exact ⟨b, off, hA, by omega, ht⟩⟩
/-- .. in a later world, of the whole heap of it. -/
theorem SetV.on {w w' : World} {v : Value} {l : List Rg} (h : SetV w.heap.size w v l) (hB : Below w.heap.size w w') : SetV w'.heap.size w' v l := (h.below hB).more hB.size
theorem SetV.nil (n₀ : Nat) (w : World) : SetV n₀ w (.slice none 0 0) [] := ⟨none, 0, rfl, Nat.le_refl _, fun h => absurd rfl h⟩
theorem SetV.at_ {n₀ : Nat} {w : World} {A : Option Addr} {n cap k : Nat} {l : List Rg} (h : SetV n₀ w (.slice A n cap) l) (hk : k < l.length) :
    ∃ b off lo hi, A = some ⟨b, off, none⟩ ∧ b < n₀ ∧ l[k]? = some (lo, hi) ∧ w.cell? ⟨b, off + k * 2, none⟩ = some (.int .i64 lo) ∧ w.cell? ⟨b, off + k * 2 + 1, none⟩ = some (.int .i64 hi) := by
  obtain ⟨A', cap', hv, _, h⟩ := h
  have : A = A' := by injection hv
  subst this
  obtain ⟨b, off, hA, hb, ht⟩ := h (by rintro rfl; simp at hk)
  obtain ⟨c0, c1⟩ := ht k l[k] (List.getElem?_eq_getElem hk)
  exact ⟨b, off, l[k].1, l[k].2, hA, hb, List.getElem?_eq_getElem hk, c0, c1⟩

/-- A row of ranges of the call's own. -/
def Own (w : World) (base : Nat) (e : TypeId) (v : Value) (l : List Rg) : Prop := w.ownsRow base e 2 v l.length (rgCells l)
theorem Own.nil (w : World) (base : Nat) (e : TypeId) : Own w base e (.slice none 0 0) [] := World.ownsRow_nil _ _ _ _
theorem Own.set {w : World} {base : Nat} {e : TypeId} {v : Value} {l : List Rg} (h : Own w base e v l) : SetV w.heap.size w v l := by
  have h0 := h
  unfold Own at h
  rcases h.2 with ⟨hv, hn⟩ | ⟨g, cap, cur, hv, _, _, hnc, _⟩
  · obtain rfl : l = [] := List.length_eq_zero_iff.1 hn
    subst hv
    exact SetV.nil _ _
  · subst hv
    refine ⟨_, cap, rfl, hnc, fun _ => ⟨g, 0, rfl, (h.lt g rfl).2, fun i r hr => ?_⟩⟩
    have hg := rgCells_get l i r hr
    have hadd : ∀ j, (⟨g, 0, none⟩ : Addr).add j = ⟨g, 0 + j, none⟩ := fun j => by unfold Addr.add; split <;> simp_all
    have c0 := h.cells (g := g) rfl _ _ hg.1
    have c1 := h.cells (g := g) rfl _ _ hg.2
    rw [hadd] at c0 c1
    exact ⟨c0, c1⟩
theorem Own.below {w w' : World} {base : Nat} {e : TypeId} {v : Value} {l : List Rg} (h : Own w base e v l) (hB : Below w.heap.size w w') : Own w' base e v l :=
  World.ownsRow.kept h ⟨hB.os, hB.tape, hB.output, hB.size, fun i hi _ => hB.block i hi⟩ (row := none) (by cases hv : v.ownBlock <;> simp)
theorem Own.alloc {w : World} {base : Nat} {e : TypeId} {v : Value} {l : List Rg} (h : Own w base e v l) (o : Obj) : Own (w.alloc o) base e v l := World.ownsRow.alloc h o
theorem Own.far {w : World} {base : Nat} {e : TypeId} {v : Value} {l : List Rg} (h : Own w base e v l) {b : Nat} (hb : b < base ∨ w.heap.size ≤ b) : some b ≠ v.ownBlock := fun e => by
  have := World.ownsRow.lt h b e.symm
  omega
theorem Own.setCell {w : World} {base : Nat} {e : TypeId} {v : Value} {l : List Rg} (h : Own w base e v l) {a : Addr} (ha : v.ownBlock ≠ some a.block) (u : Value) : Own (w.setCell a u) base e v l := ownsRow_setCell_other h ha u
/-- What an append leaves below. -/
theorem below_append {B : Nat} {a w w' : World} {base : Nat} {e : TypeId} {v : Value} {n : Nat} {xs : List Value} {sz : Nat} (hB : Below B a w) (h : w.ownsRow base e sz v n xs) (hb : B ≤ base) (hg : w.grownBy w' v.ownBlock) (hs : B ≤ w.heap.size) : Below B a w' :=
  hB.grown hg hs (fun k hk => by have := (h.lt k hk).1; omega)
theorem Below.drewN' {B : Nat} {a w : World} (h : Below B a w) (n : Nat) : Below B a (w.drewN n) := ⟨h.os, h.tape, h.output, h.size, h.block⟩
/-- What a call behind a new block leaves. -/
theorem below_call {B : Nat} {a w w1 : World} {o : Obj} (h : Below B a w) (hB : B ≤ w.heap.size) (h1 : Below (w.alloc o).heap.size (w.alloc o) w1) : Below B a w1 :=
  (h.alloc hB o).trans (h1.mono (by simp; omega))
/-- Two cells of a new block. -/
theorem cell_two_new (w : World) (a b : Value) (t : TypeId) : ∀ j u, [a, b][j]? = some u → (w.alloc (.cells #[a, b] t)).cell? ((⟨w.heap.size, 0, none⟩ : Addr).add j) = some u := by
  intro j u hj
  match j, hj with
  | 0, hj => simp at hj; subst hj; simp [Addr.add]
  | 1, hj => simp at hj; subst hj; simp [Addr.add]
  | j + 2, hj => simp at hj

theorem cell_two_at (w : World) (a b : Value) (t : TypeId) (n : Nat) (hn : w.heap.size = n) : ∀ j u, [a, b][j]? = some u → (w.alloc (.cells #[a, b] t)).cell? ((⟨n, 0, none⟩ : Addr).add j) = some u := by
  subst hn
  exact cell_two_new w a b t

theorem info46 : (Tryz.prog.info? 223).map (fun i => (i.zero, i.size, i.bytes)) = some (some (.agg #[.int .i64 0, .int .i64 0]), 2, 16) := by kernel_rfl
theorem info3 : (Tryz.prog.info? 3).map (fun i => (i.zero, i.size, i.bytes)) = some (some (.int .i64 0), 1, 8) := by kernel_rfl
theorem info_three {P : Program} {e : TypeId} {z : Value} {s b : Nat} (h : (P.info? e).map (fun i => (i.zero, i.size, i.bytes)) = some (some z, s, b)) : ∃ i, P.info? e = some i ∧ i.zero = some z ∧ i.size = s ∧ i.bytes = b := by
  obtain ⟨i, hi, h⟩ := Option.map_eq_some_iff.1 h
  simp only [Prod.mk.injEq] at h
  exact ⟨i, hi, h.1, h.2.1, h.2.2⟩

section
variable {P : Program} (w : World)

/-- append of a slice that reads as ranges, nil or not, onto a row of the call's own. -/
theorem run_append_set (base : Nat) (t ty e : TypeId) (i : TypeInfo) (z : Value) (bytes : Nat) (ht : P.underlying t = some (.slice e)) (hi : P.info? e = some i) (hz : i.zero = some z)
    (hsize : i.size = 2) (hby : i.bytes = bytes) (hzs : z.cells.size = 2) (v : Value) (xs : List Rg) (hown : Own w base e v xs)
    (n₀ : Nat) (u : Value) (ys : List Rg) (hr : SetV n₀ w u ys) (h63 : xs.length + ys.length ≤ maxLen) (hbytes : (xs.length + ys.length) * bytes ≤ 140737488355328) (hbase : base ≤ w.heap.size) :
    ∃ v' w', (Builtin.append_ #[t, t] ty #[v, u]).run P w = .ok v' w' ∧ Own w' base e v' (xs ++ ys) ∧ w.grownBy w' v.ownBlock := by
  obtain ⟨A, cap, rfl, _, hA⟩ := hr
  unfold Own at *
  cases A with
  | none =>
    have hy : ys = [] := by
      rcases ys with _ | ⟨y, ys⟩
      · rfl
      · obtain ⟨b, off, h, _⟩ := hA (by simp)
        cases h
    subst hy
    refine ⟨v, w, ?_, by simpa using hown, World.grownBy.refl w _⟩
    rcases hown.2 with ⟨rfl, _⟩ | ⟨g, c, cur, rfl, _, _, hnc, _⟩
    · simp [Builtin.append_, run_underlying ht, sizeOf, typeInfo, hi, Builtin.lenOf, Builtin.firstCells]
    · simp [Builtin.append_, run_underlying ht, sizeOf, typeInfo, hi, Builtin.lenOf, Builtin.firstCells, hnc, storeCells]
  | some a =>
    have hcells : ∀ j y, (rgCells ys)[j]? = some y → w.cell? (a.add j) = some y := by
      intro j y hy
      obtain ⟨r, hr, hu⟩ := rgCells_inv ys j y hy
      have hne : ys ≠ [] := by rintro rfl; simp at hr
      obtain ⟨b, off, h, _, hc⟩ := hA hne
      cases h
      have hadd : (⟨b, off, none⟩ : Addr).add j = ⟨b, off + j, none⟩ := by unfold Addr.add; split <;> simp_all
      rw [hadd]
      have hc := hc (j / 2) r hr
      by_cases hj : j % 2 = 0
      · rw [hu, if_pos hj, ← hc.1, show off + j / 2 * 2 = off + j by omega]
      · rw [hu, if_neg hj, ← hc.2, show off + j / 2 * 2 + 1 = off + j by omega]
    obtain ⟨v', w', hrun, h2, h3, _, _⟩ := run_append_own_at (P := P) w base t ty e i z 2 bytes ht hi hz hsize hby hzs (by decide) v xs.length (rgCells xs) hown a ys.length cap (rgCells ys) (rgCells_len ys) hcells (rgCells_one_cell ys) h63 hbytes hbase
    refine ⟨v', w', hrun, ?_, h3⟩
    rw [List.length_append, rgCells_append]
    exact h2

theorem wpList_append_set {ops : Array Oper} {rest : List Oper} {o : Oper} {a : Act} {Q : Exit → Act → World → Prop} (hgd : o.guard = none) (s x : Operand) (t : TypeId)
    (ho : o.op = .call { callee := .builtin .append, args := #[s, x], argTypes := #[t, t] })
    (base : Nat) (e : TypeId) (i : TypeInfo) (z : Value) (bytes : Nat) (ht : P.underlying t = some (.slice e)) (hi : P.info? e = some i) (hz : i.zero = some z)
    (hsize : i.size = 2) (hby : i.bytes = bytes) (hzs : z.cells.size = 2) (v : Value) (xs : List Rg) (hs : a.eval s = v) (hown : Own w base e v xs)
    (n₀ : Nat) (u : Value) (ys : List Rg) (hx : a.eval x = u) (hr : SetV n₀ w u ys) (h63 : xs.length + ys.length ≤ maxLen) (hbytes : (xs.length + ys.length) * bytes ≤ 140737488355328) (hbase : base ≤ w.heap.size)
    (h : ∀ v' w', Own w' base e v' (xs ++ ys) → w.grownBy w' v.ownBlock → wpList P ops Q rest (a.put o.dst v') w') : wpList P ops Q (o :: rest) a w := by
  refine wpList_plain hgd fun K hK => ?_
  obtain ⟨v', w', hrun, h2, h3⟩ := run_append_set (P := P) w base t o.type e i z bytes ht hi hz hsize hby hzs v xs hown n₀ u ys hr h63 hbytes hbase
  unfold Oper.wp execOp
  simp only [ho, resolve, invoke, builtin, Sem.run_bind, Sem.run_pure, Result.andThen_ok, List.map_toArray, List.map_cons, List.map_nil, hs, hx, hrun]
  exact hK _ _ (h v' w' h2 h3)

/-- append of one range that lies in a block of its own, onto a row of the call's own. -/
theorem wpList_append_one {ops : Array Oper} {rest : List Oper} {o : Oper} {a : Act} {Q : Exit → Act → World → Prop} (hgd : o.guard = none) (s x : Operand) (t : TypeId)
    (ho : o.op = .call { callee := .builtin .append, args := #[s, x], argTypes := #[t, t] })
    (base : Nat) (e : TypeId) (i : TypeInfo) (z : Value) (bytes : Nat) (ht : P.underlying t = some (.slice e)) (hi : P.info? e = some i) (hz : i.zero = some z)
    (hsize : i.size = 2) (hby : i.bytes = bytes) (hzs : z.cells.size = 2) (v : Value) (xs : List Rg) (hs : a.eval s = v) (hown : Own w base e v xs)
    (b c : Nat) (r : Rg) (hx : a.eval x = .slice (some ⟨b, 0, none⟩) 1 c) (hr : ∀ j u, [Value.int .i64 r.1, .int .i64 r.2][j]? = some u → w.cell? ((⟨b, 0, none⟩ : Addr).add j) = some u) (h63 : xs.length + 1 ≤ 8796093022208) (hbytes : bytes = 16) (hbase : base ≤ w.heap.size)
    (h : ∀ v' w', Own w' base e v' (xs ++ [r]) → w.grownBy w' v.ownBlock → wpList P ops Q rest (a.put o.dst v') w') : wpList P ops Q (o :: rest) a w := by
  subst hbytes
  refine wpList_append_own w hgd s x t ho base e i z 2 16 ht hi hz hsize hby hzs (by decide) v xs.length (rgCells xs) hs hown ⟨b, 0, none⟩ 1 c [.int .i64 r.1, .int .i64 r.2] hx rfl hr (by intro u hu; simp at hu; rcases hu with rfl | rfl <;> rfl) (by unfold maxLen; omega) (by omega) hbase fun v' w' h1 h2 _ => h v' w' ?_ h2
  unfold Own
  rw [List.length_append, rgCells_append]
  exact h1
end

end Go.Proofs.YtefgobmpleoafaaGreatDoor.Cl

/- The small functions on ranges, as contracts. -/
namespace Go.Proofs.YtefgobmpleoafaaGreatDoor.Cl
open Go.RowKit

theorem right_any (lo hi : Int) (w : World) : Calls Tryz.prog 169 #[.agg #[.int .i64 lo, .int .i64 hi]] w fun e w' => e = .returned (.bool (rightB (lo, hi))) ∧ Below w.heap.size w w' := by
  by_cases h1 : 0 ≤ lo
  · by_cases h2 : lo ≤ hi
    · by_cases h3 : hi ≤ 1114367
      · go_enter Tryz.func169, Tryz.ntmps169
        go_wp2
        go_ret
        exact ⟨ret_bool (by simp [rightB]; omega), (Below.refl _ _).alloc (Nat.le_refl _) _⟩
      · go_enter Tryz.func169, Tryz.ntmps169
        go_wp2
        go_ret
        exact ⟨ret_bool (by simp [rightB]; omega), (Below.refl _ _).alloc (Nat.le_refl _) _⟩
    · go_enter Tryz.func169, Tryz.ntmps169
      go_wp2
      go_ret
      exact ⟨ret_bool (by simp [rightB]; omega), (Below.refl _ _).alloc (Nat.le_refl _) _⟩
  · go_enter Tryz.func169, Tryz.ntmps169
    go_wp2
    go_ret
    exact ⟨ret_bool (by simp [rightB]; omega), (Below.refl _ _).alloc (Nat.le_refl _) _⟩

end Go.Proofs.YtefgobmpleoafaaGreatDoor.Cl

/- A range in a block of its own. -/
namespace Go.Proofs.YtefgobmpleoafaaGreatDoor.Cl
open Go.RowKit

/-- A set and OK. -/
def Gives (P : List Rg → Prop) (w : World) (e : Ending) (w' : World) : Prop :=
  ∃ v' m, e = .returned (.tuple #[v', .int .i64 0]) ∧ SetV w'.heap.size w' v' m ∧ P m ∧ Below w.heap.size w w'

def Box2 (W : World) (B : Nat) (lo hi : Int) : Prop := W.heap[B]? = some (.cells #[.int .i64 lo, .int .i64 hi] 223)
section
variable {W W' : World} {B : Nat} {lo hi : Int}
theorem Box2.new (w : World) (lo hi : Int) : Box2 (w.alloc (.cells #[.int .i64 lo, .int .i64 hi] 223)) w.heap.size lo hi := heap_alloc_new w _
theorem Box2.cell0 (h : Box2 W B lo hi) : W.cell? ⟨B, 0, none⟩ = some (.int .i64 lo) := by rw [cell_of_row W B 0 _ _ _ h]; rfl
theorem Box2.cell1 (h : Box2 W B lo hi) : W.cell? ⟨B, 1, none⟩ = some (.int .i64 hi) := by rw [cell_of_row W B 1 _ _ _ h]; rfl
theorem Box2.frozen (h : Box2 W B lo hi) (j : Nat) : W.frozen? ⟨B, j, none⟩ = false := frozen_of_row W B j _ _ h
theorem Box2.lt (h : Box2 W B lo hi) : B < W.heap.size := by
  rcases Nat.lt_or_ge B W.heap.size with hlt | hge
  · exact hlt
  · unfold Box2 at h
    rw [Array.getElem?_eq_none hge] at h
    cases h
theorem Box2.alloc (h : Box2 W B lo hi) (o : Obj) : Box2 (W.alloc o) B lo hi := (Below.heap_alloc W o B h.lt).trans h
theorem Box2.kept {row : Option Nat} (h : Box2 W B lo hi) (hg : W.grownBy W' row) (hne : some B ≠ row) : Box2 W' B lo hi := (hg.block B h.lt hne).trans h
theorem Box2.below {n : Nat} (h : Box2 W B lo hi) (hB : Below n W W') (hn : B < n) : Box2 W' B lo hi := (hB.block B hn).trans h
theorem Box2.drewN (h : Box2 W B lo hi) (n : Nat) : Box2 (W.drewN n) B lo hi := h
theorem Box2.store (h : Box2 W B lo hi) (x : Int) : Box2 (W.setCell ⟨B, 1, none⟩ (.int .i64 x)) B lo x := by
  have := heap_setCell_same W B 1 _ _ (.int .i64 x) h
  simpa [Box2] using this
end

end Go.Proofs.YtefgobmpleoafaaGreatDoor.Cl

/- class.together: ranges that rise, put together, in a row of the call's own. -/
namespace Go.Proofs.YtefgobmpleoafaaGreatDoor.Cl
open Go.RowKit

theorem drop_cons (l : List Rg) (k : Nat) (r : Rg) (h : l[k]? = some r) : l.drop k = r :: l.drop (k + 1) := by
  obtain ⟨hk, rfl⟩ := List.getElem?_eq_some_iff.1 h
  exact List.drop_eq_getElem_cons hk
theorem tog_drop (l : List Rg) (k : Nat) (r : Rg) (h : l[k]? = some r) : together (l.drop k) = merge r (l.drop (k + 1)) := by
  rw [drop_cons l k r h]
  rfl
theorem merge_apart (l : List Rg) (j : Nat) (r n : Rg) (h : l[j]? = some n) (hlt : r.2 + 1 < n.1) : merge r (l.drop j) = r :: together (l.drop j) := by
  rw [drop_cons l j n h, merge, if_pos hlt]
  rfl
theorem merge_on (l : List Rg) (j : Nat) (r n : Rg) (h : l[j]? = some n) (hlt : ¬ r.2 + 1 < n.1) : merge r (l.drop j) = merge (r.1, max r.2 n.2) (l.drop (j + 1)) := by
  rw [drop_cons l j n h, merge, if_neg hlt]
theorem merge_end (l : List Rg) (r : Rg) : merge r (l.drop l.length) = r :: together (l.drop l.length) := by
  rw [List.drop_length]
  rfl

set_option maxRecDepth 100000 in
set_option maxHeartbeats 2000000 in
theorem together_any (v : Value) (l : List Rg) (w : World) (hmax : l.length ≤ 1000000) (hR : ∀ r ∈ l, Rt r) (hS : SetV w.heap.size w v l) :
    Calls Tryz.prog 173 #[v] w fun e w' => ∃ v', e = .returned v' ∧ Own w' w.heap.size 223 v' (together l) ∧ Below w.heap.size w w' := by
  obtain ⟨A, cap, rfl, hcap, hS0⟩ := id hS
  clear hS0
  have HR := Lib.hid hR
  clear hR
  obtain ⟨i0, hi, hz0, hz1, hz2⟩ := info_three info46
  go_enter Tryz.func173, Tryz.ntmps173
  go_wp2
  go_step3
  go_wp2
  go_step3
  go_wp2
  go_loopg [3, 4] l.length (fun g s i wr => ∃ (k : Nat) (acc : List Rg), k + g = l.length ∧ i = .int .i64 k ∧ acc.length ≤ k ∧ Own wr w.heap.size 223 s acc ∧ Hid (together l = acc ++ together (l.drop k)) ∧ Below w.heap.size w wr)
  case atStart => exact ⟨0, [], by omega, rfl, Nat.le_refl _, Own.nil _ _ _, Lib.hid rfl, Below.refl _ _⟩
  case round =>
    obtain ⟨k, acc, hk, rfl, hacc, hown, HH, hbel⟩ := hrel
    have hsz := hbel.size
    by_cases hlt : k < l.length
    · obtain ⟨b, off, lo, hi0, rfl, hb, hget, c0, c1⟩ := (hS.below hbel).at_ hlt
      have hr := HR.out _ (List.mem_of_getElem? hget)
      unfold Rt at hr
      simp only at hr
      obtain ⟨r0, r1, r2⟩ := hr
      have HG := Lib.hid hget
      clear hget
      have hkl : l.length ≤ 1000000 := hmax
      have hk2 : (k : Int) + 1 ≤ 2000000 := by omega
      have hk3 : l.length ≤ k + gk := by omega
      have hk4 : k + gk ≤ l.length := by omega
      clear hk
      have hne : u3.ownBlock ≠ some wr.heap.size := fun e => by have := (World.ownsRow.lt hown _ e).2; omega
      have HN := Lib.hid hne
      clear hne
      go_wp2
      go_loopg [3, 4] (l.length - (k + 1)) (fun g2 s i W => ∃ (j : Nat) (h : Int), j + g2 = l.length ∧ k + 1 ≤ j ∧ i = .int .i64 j ∧ s = u3 ∧ 0 ≤ lo ∧ lo ≤ h ∧ h ≤ 1114367 ∧ Box2 W wr.heap.size lo h ∧
        Own W w.heap.size 223 u3 acc ∧ Hid (together (l.drop k) = merge (lo, h) (l.drop j)) ∧ Below w.heap.size w W ∧ wr.heap.size < W.heap.size)
      case atStart => exact ⟨k + 1, hi0, by omega, by omega, by go_num, rfl, r0, r1, r2, Box2.new _ _ _, hown.alloc _, Lib.hid (tog_drop l k _ HG.out), hbel.alloc hsz _, by simp⟩
      case round =>
        obtain ⟨j, h, hj, hjk, rfl, rfl, q0, q1, q2, hx, hownW, HM, hbelW, hszW⟩ := hrel
        have hj3 : l.length ≤ j + gk := by omega
        have x0 := hx.cell0
        have x1 := hx.cell1
        have x2 := hx.frozen 1
        have hj4 : j ≤ l.length := by omega
        clear hj
        have hszw : w.heap.size ≤ wr.heap.size := by omega
        by_cases hlj : j < l.length
        · obtain ⟨b', off', nlo, nhi, hA', hb', hget', d0, d1⟩ := (hS.below hbelW).at_ hlj
          obtain ⟨rfl, rfl⟩ : b = b' ∧ off = off' := by simpa using hA'
          have hnr := HR.out _ (List.mem_of_getElem? hget')
          unfold Rt at hnr
          simp only at hnr
          obtain ⟨n0, n1, n2⟩ := hnr
          have HG' := Lib.hid hget'
          clear hget' hA'
          have hj2 : (j : Int) + 1 ≤ 2000000 := by omega
          by_cases hgap : h + 1 < nlo
          · go_wp2_with (at_builtin; refine wpList_append_one _ rfl _ _ 114 rfl w.heap.size 223 i0 (.agg #[.int .i64 0, .int .i64 0]) 16 Tryz.underlying114 hi hz0 hz1 hz2 rfl _ _ rfl ((hownW.alloc _).alloc _) (wr.heap.size + 1) 1 (lo, h) rfl (cell_two_at _ _ _ _ _ (by simp)) (by omega) rfl (by simp; omega) ?_; intro v' w1 hown' hgrow)
            go_roundg (l.length - j)
            case measure => omega
            case rel =>
              exact ⟨j, acc ++ [(lo, h)], by omega, by go_num, by simp; omega, hown', Lib.hid (by rw [HH.out, HM.out, merge_apart l j (lo, h) (nlo, nhi) HG'.out hgap]; simp),
                below_append ((hbelW.alloc hszw _).alloc (by simp; omega) _) ((hownW.alloc _).alloc _) (Nat.le_refl _) hgrow (by simp; omega)⟩
          · go_upto_region 11 with (fail)
            replace hx := hx.alloc (.cells #[.int .i64 nlo, .int .i64 nhi] 223)
            have hy := Box2.new wr nlo nhi
            replace hbelW := hbelW.alloc hszw (.cells #[.int .i64 nlo, .int .i64 nhi] 223)
            replace hownW := hownW.alloc (.cells #[.int .i64 nlo, .int .i64 nhi] 223)
            have hsz2 : wr.heap.size < (wr.alloc (.cells #[.int .i64 nlo, .int .i64 nhi] 223)).heap.size := by simp
            generalize wr.alloc (Obj.cells #[Value.int IntKind.i64 nlo, Value.int IntKind.i64 nhi] 223) = W2 at hx hy hbelW hownW hsz2 ⊢
            have y1 := hy.cell1
            have x1 := hx.cell1
            have x2 := hx.frozen 1
            clear x0 c0 c1 d0 d1
            by_cases hle : h < nhi
            · skip
              go_wp2
              go_roundg (l.length - (j + 1))
              case measure => omega
              case rel =>
                exact ⟨j + 1, nhi, by omega, by omega, by go_num, rfl, q0, by omega, by omega, hx.store nhi, hownW.setCell HN.out _, Lib.hid (by rw [HM.out, merge_on l j (lo, h) (nlo, nhi) HG'.out (by simp only; omega)]; simp only; rw [Int.max_eq_right (by omega)]), hbelW.setCell hsz _, by simp; omega⟩
            · skip
              go_wp2
              go_roundg (l.length - (j + 1))
              case measure => omega
              case rel =>
                exact ⟨j + 1, h, by omega, by omega, by go_num, rfl, q0, by omega, by omega, hx.store h, hownW.setCell HN.out _, Lib.hid (by rw [HM.out, merge_on l j (lo, h) (nlo, nhi) HG'.out (by simp only; omega)]; simp only; rw [Int.max_eq_left (by omega)]), hbelW.setCell hsz _, by simp; omega⟩
        · have hje : j = l.length := by omega
          have HJ := Lib.hid hje
          clear hje
          go_wp2_with (at_builtin; refine wpList_append_one _ rfl _ _ 114 rfl w.heap.size 223 i0 (.agg #[.int .i64 0, .int .i64 0]) 16 Tryz.underlying114 hi hz0 hz1 hz2 rfl _ _ rfl (hownW.alloc _) wr.heap.size 1 (lo, h) rfl (cell_two_at _ _ _ _ _ (by simp)) (by omega) rfl (by simp; omega) ?_; intro v' w1 hown' hgrow)
          go_roundg (l.length - j)
          case measure => omega
          case rel =>
            exact ⟨j, acc ++ [(lo, h)], by omega, by go_num, by simp; omega, hown', Lib.hid (by rw [HH.out, HM.out, HJ.out, merge_end]; simp),
              below_append (hbelW.alloc hszw _) (hownW.alloc _) (Nat.le_refl _) hgrow (by simp; omega)⟩
    · have hk' : k = l.length := by omega
      have HK := Lib.hid hk'
      clear hk'
      go_wp2
      try rw [Exit.noGoto_ret]
      go_ret
      exact ⟨_, rfl, by have := HH.out; rw [HK.out, List.drop_length, together, List.append_nil] at this; rw [this]; exact hown, hbel⟩

end Go.Proofs.YtefgobmpleoafaaGreatDoor.Cl

