/- Joined: Same, Append. -/
import Derived.Test.YtefgobmpleoafaaGreatDoorJUnit
import Derived.LoopTactic
import Derived.Lib.SlBytesConst
import Derived.WalkLawsBesides
/- Slices that read as a list of values; the law's own 'same'; its anchor. -/
namespace Go.Proofs.YtefgobmpleoafaaGreatDoor
open Go.RowKit Go.Shelf

/-- A slice value that reads as a list of values of one cell each; below n₀; one of no values may lie anywhere. -/
def Row (n₀ : Nat) (w : World) (v : Value) (xs : List Value) : Prop :=
  ∃ A cap, v = .slice A xs.length cap ∧ xs.length ≤ cap ∧ (xs ≠ [] → ∃ b off, A = some ⟨b, off, none⟩ ∧ b < n₀ ∧ ∀ j u, xs[j]? = some u → w.cell? ⟨b, off + j, none⟩ = some u)
theorem Row.below {n₀ : Nat} {w w' : World} {v : Value} {xs : List Value} (h : Row n₀ w v xs) (hB : Below n₀ w w') : Row n₀ w' v xs := by
  obtain ⟨A, cap, hv, hc, h⟩ := h
  exact ⟨A, cap, hv, hc, fun hs => by
    obtain ⟨b, off, hA, hb, ht⟩ := h hs
    exact ⟨b, off, hA, hb, fun j u hu => (hB.cell (p := ⟨b, off + j, none⟩) hb).trans (ht j u hu)⟩⟩
theorem Row.more {n₀ n₁ : Nat} {w : World} {v : Value} {xs : List Value} (h : Row n₀ w v xs) (hn : n₀ ≤ n₁) : Row n₁ w v xs := by
  obtain ⟨A, cap, hv, hc, h⟩ := h
  exact ⟨A, cap, hv, hc, fun hs => by
    obtain ⟨b, off, hA, hb, ht⟩ := h hs
    exact ⟨b, off, hA, by omega, ht⟩⟩
theorem Row.of_own {w : World} {base : Nat} {e : TypeId} {v : Value} {n : Nat} {xs : List Value} (h : w.ownsRow base e 1 v n xs) : Row w.heap.size w v xs := by
  have hl : xs.length = n := by simpa using h.1
  rcases h.2 with ⟨rfl, hn⟩ | ⟨g, cap, cur, rfl, hb, hg, hnc, _⟩
  · subst hn
    have : xs = [] := List.eq_nil_of_length_eq_zero hl
    subst this
    exact ⟨none, 0, rfl, Nat.le_refl _, fun h => absurd rfl h⟩
  · refine ⟨some ⟨g, 0, none⟩, cap, by rw [hl], by rw [hl]; exact hnc, fun _ => ⟨g, 0, rfl, (Array.getElem?_eq_some_iff.1 hg).1, fun j u hu => ?_⟩⟩
    have := h.cells (g := g) rfl j u hu
    have hadd : (⟨g, 0, none⟩ : Addr).add j = ⟨g, 0 + j, none⟩ := by unfold Addr.add; split <;> simp_all
    rwa [hadd] at this
theorem Row.lit (w : World) (cs : Array Value) (e : TypeId) (fr : Nat × Nat) : Row (w.heap.size + 1) (w.alloc (.cells cs e fr)) (.slice (some ⟨w.heap.size, 0, none⟩) cs.size cs.size) cs.toList :=
  ⟨some ⟨w.heap.size, 0, none⟩, cs.size, by simp, by simp, fun _ => ⟨w.heap.size, 0, rfl, by omega, fun j u hu => by
    simp only [Nat.zero_add]
    rw [cell_of_row _ w.heap.size j cs e fr (heap_alloc_new w _)]
    simpa using hu⟩⟩

theorem byteCells_get {s : List UInt8} {j : Nat} (h : j < s.length) : (Lib.byteCells s)[j]? = some (.int .u8 ((at_ s j : Nat) : Int)) := by
  simp [Lib.byteCells, at_, List.getD_eq_getElem?_getD, h]
theorem Bytes.of_row {n₀ : Nat} {w : World} {v : Value} {s : List UInt8} (h : Row n₀ w v (Lib.byteCells s)) : Bytes n₀ w v s := by
  obtain ⟨A, cap, hv, hc, h⟩ := h
  rw [Lib.byteCells_length] at hv hc
  exact ⟨A, cap, hv, hc, fun hs => by
    obtain ⟨b, off, hA, hb, ht⟩ := h (fun e => hs (by have := congrArg List.length e; rw [Lib.byteCells_length, List.length_nil] at this; exact List.eq_nil_of_length_eq_zero this))
    exact ⟨b, off, hA, hb, fun j hj => ht j _ (byteCells_get hj)⟩⟩
theorem Row.of_bytes {n₀ : Nat} {w : World} {v : Value} {s : List UInt8} (h : Bytes n₀ w v s) : Row n₀ w v (Lib.byteCells s) := by
  obtain ⟨A, cap, hv, hc, h⟩ := h
  rw [← Lib.byteCells_length s] at hv hc
  exact ⟨A, cap, hv, hc, fun hs => by
    obtain ⟨b, off, hA, hb, ht⟩ := h (fun e => hs (by rw [e]; rfl))
    exact ⟨b, off, hA, hb, fun j u hu => by
      have hj : j < s.length := by
        have := (List.getElem?_eq_some_iff.1 hu).1
        rwa [Lib.byteCells_length] at this
      rw [byteCells_get hj] at hu
      cases hu
      exact ht j hj⟩⟩

def zs (l : List Int) : List Value := l.map (Value.int .i64)
theorem zs_get {l : List Int} {j : Nat} (h : j < l.length) : (zs l)[j]? = some (.int .i64 (l[j]?.getD 0)) := by simp [zs, h]
theorem zs_len (l : List Int) : (zs l).length = l.length := by simp [zs]
theorem ints_zs (l : List Nat) : ints l = zs (l.map fun n => ((n : Nat) : Int)) := by simp [ints, zs]

theorem TabsAt.more {n₀ n₁ : Nat} {w : World} (h : TabsAt n₀ w) (hn : n₀ ≤ n₁) : TabsAt n₁ w := ⟨by have := h.1; omega, h.2⟩
theorem un_one : un [97, 195, 169, 255] = [97, 233, 1114367] := by decide
theorem un_two : un [192, 128] = [1114304, 1114240] := by decide

theorem bytes_lit (w : World) (cs : Array Value) (s : List UInt8) (fr : Nat × Nat) (n : Nat) (hn : cs.size = n) (h : cs.toList = Lib.byteCells s) : Bytes (w.heap.size + 1) (w.alloc (.cells cs 5 fr)) (.slice (some ⟨w.heap.size, 0, none⟩) n n) s := by
  have h1 := Row.lit w cs 5 fr
  rw [h, hn] at h1
  exact Bytes.of_row h1
theorem zs_lit (w : World) (cs : Array Value) (l : List Int) (n : Nat) (hn : cs.size = n) (h : cs.toList = zs l) : Row (w.heap.size + 1) (w.alloc (.cells cs 3)) (.slice (some ⟨w.heap.size, 0, none⟩) n n) (zs l) := by
  have h1 := Row.lit w cs 3 (0, 0)
  rw [h, hn] at h1
  exact h1

end Go.Proofs.YtefgobmpleoafaaGreatDoor

/- append onto a row of the call's own, of a slice that reads as a list of values, nil or not; unit.Split as a row of the call's own. -/
namespace Go.Proofs.YtefgobmpleoafaaGreatDoor
open Go.RowKit Go.Shelf

section
variable {P : Program} (w : World)

theorem run_append_row (base : Nat) (t ty e : TypeId) (i : TypeInfo) (z : Value) (bytes : Nat) (ht : P.underlying t = some (.slice e)) (hi : P.info? e = some i) (hz : i.zero = some z)
    (hsize : i.size = 1) (hby : i.bytes = bytes) (hzs : z.cells.size = 1) (v : Value) (n : Nat) (xs : List Value) (hown : w.ownsRow base e 1 v n xs)
    (n₀ : Nat) (u : Value) (ys : List Value) (hr : Row n₀ w u ys) (h1 : ∀ y ∈ ys, y.oneCell' = true) (h63 : n + ys.length ≤ maxLen) (hbytes : (n + ys.length) * bytes ≤ 140737488355328) (hbase : base ≤ w.heap.size) :
    ∃ v' w', (Builtin.append_ #[t, t] ty #[v, u]).run P w = .ok v' w' ∧ w'.ownsRow base e 1 v' (n + ys.length) (xs ++ ys) ∧ w.grownBy w' v.ownBlock := by
  obtain ⟨A, cap, rfl, _, hA⟩ := hr
  cases A with
  | none =>
    have hy : ys = [] := by
      rcases ys with _ | ⟨y, ys⟩
      · rfl
      · obtain ⟨b, off, h, _⟩ := hA (by simp)
        cases h
    subst hy
    refine ⟨v, w, ?_, by simpa using hown, World.grownBy.refl w _⟩
    rcases hown.2 with ⟨rfl, _⟩ | ⟨g, c, cur, rfl, _, _, hnc, _⟩
    · simp [Builtin.append_, run_underlying ht, sizeOf, typeInfo, hi, Builtin.lenOf, Builtin.firstCells]
    · simp [Builtin.append_, run_underlying ht, sizeOf, typeInfo, hi, Builtin.lenOf, Builtin.firstCells, hnc, storeCells]
  | some a =>
    have hcells : ∀ j y, ys[j]? = some y → w.cell? (a.add j) = some y := by
      intro j y hy
      have hne : ys ≠ [] := by rintro rfl; simp at hy
      obtain ⟨b, off, h, _, hc⟩ := hA hne
      cases h
      have hadd : (⟨b, off, none⟩ : Addr).add j = ⟨b, off + j, none⟩ := by unfold Addr.add; split <;> simp_all
      rw [hadd]
      exact hc j y hy
    obtain ⟨v', w', hrun, h2, h3, _, _⟩ := run_append_own_at (P := P) w base t ty e i z 1 bytes ht hi hz hsize hby hzs (by decide) v n xs hown a ys.length cap ys (by simp) hcells h1 h63 hbytes hbase
    exact ⟨v', w', hrun, h2, h3⟩

theorem wpList_append_row {ops : Array Oper} {rest : List Oper} {o : Oper} {a : Act} {Q : Exit → Act → World → Prop} (hgd : o.guard = none) (s x : Operand) (t : TypeId)
    (ho : o.op = .call { callee := .builtin .append, args := #[s, x], argTypes := #[t, t] })
    (base : Nat) (e : TypeId) (i : TypeInfo) (z : Value) (bytes : Nat) (ht : P.underlying t = some (.slice e)) (hi : P.info? e = some i) (hz : i.zero = some z)
    (hsize : i.size = 1) (hby : i.bytes = bytes) (hzs : z.cells.size = 1) (v : Value) (n : Nat) (xs : List Value) (hs : a.eval s = v) (hown : w.ownsRow base e 1 v n xs)
    (n₀ : Nat) (u : Value) (ys : List Value) (hx : a.eval x = u) (hr : Row n₀ w u ys) (h1 : ∀ y ∈ ys, y.oneCell' = true) (h63 : n + ys.length ≤ maxLen) (hbytes : (n + ys.length) * bytes ≤ 140737488355328) (hbase : base ≤ w.heap.size)
    (h : ∀ v' w', w'.ownsRow base e 1 v' (n + ys.length) (xs ++ ys) → w.grownBy w' v.ownBlock → wpList P ops Q rest (a.put o.dst v') w') : wpList P ops Q (o :: rest) a w := by
  refine wpList_plain hgd fun K hK => ?_
  obtain ⟨v', w', hrun, h2, h3⟩ := run_append_row (P := P) w base t o.type e i z bytes ht hi hz hsize hby hzs v n xs hown n₀ u ys hr h1 h63 hbytes hbase
  unfold Oper.wp execOp
  simp only [ho, resolve, invoke, builtin, Sem.run_bind, Sem.run_pure, Result.andThen_ok, List.map_toArray, List.map_cons, List.map_nil, hs, hx, hrun]
  exact hK _ _ (h v' w' h2 h3)
end

theorem info5 : (Tryz.prog.info? 5).map (fun i => (i.zero, i.size, i.bytes)) = some (some (.int .u8 0), 1, 1) := by kernel_rfl

theorem one_bytes (s : List UInt8) : ∀ y ∈ Lib.byteCells s, y.oneCell' = true := by
  intro y hy
  simp only [Lib.byteCells, List.mem_map] at hy
  obtain ⟨b, _, rfl⟩ := hy
  rfl
theorem one_zs (l : List Int) : ∀ y ∈ zs l, y.oneCell' = true := by
  intro y hy
  simp only [zs, List.mem_map] at hy
  obtain ⟨b, _, rfl⟩ := hy
  rfl
theorem one_ints (l : List Nat) : ∀ y ∈ ints l, y.oneCell' = true := by rw [ints_zs]; exact one_zs _
theorem ints_len (l : List Nat) : (ints l).length = l.length := by simp [ints]
theorem ints_append (a b : List Nat) : ints (a ++ b) = ints a ++ ints b := by simp [ints]

/-- A composite literal without elements: it owns a row of none. -/
theorem own_empty (w : World) (base : Nat) (e : TypeId) (h : base ≤ w.heap.size) : (w.alloc (.cells #[] e)).ownsRow base e 1 (.slice (some ⟨w.heap.size, 0, none⟩) 0 0) 0 [] :=
  World.ownsRow_made w #[] 0 h (by unfold maxLen; omega) (by simp)

/-- What a call leaves of a row of the caller's own. -/
theorem own_below {w w' : World} {base : Nat} {e : TypeId} {v : Value} {n : Nat} {xs : List Value} (h : w.ownsRow base e 1 v n xs) (hB : Below w.heap.size w w') : w'.ownsRow base e 1 v n xs :=
  h.kept (grown_of_below hB none) (by cases hv : v.ownBlock <;> simp)
theorem below_append {B : Nat} {a w w' : World} {base : Nat} {e : TypeId} {v : Value} {n : Nat} {xs : List Value} (hB : Below B a w) (h : w.ownsRow base e 1 v n xs) (hb : B ≤ base) (hg : w.grownBy w' v.ownBlock) (hs : B ≤ w.heap.size) : Below B a w' :=
  hB.grown hg hs (fun k hk => by have := (h.lt k hk).1; omega)

end Go.Proofs.YtefgobmpleoafaaGreatDoor

