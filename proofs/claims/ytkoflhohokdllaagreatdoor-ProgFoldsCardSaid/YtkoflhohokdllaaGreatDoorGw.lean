/- The writer of programs in memory: its block, its row of instructions; what a call of the writer keeps. -/
import Derived.Test.YtkoflhohokdllaaGreatDoorMPg
import Derived.Test.YtkoflhohokdllaaGreatDoorMPa
import Derived.Laws.OwnMore
import Derived.WalkSmall
import Derived.BigQuiet
import Derived.Deep.QuietTactic
import Derived.Deep.RegionWith
import Derived.Deep.Cut
import Derived.IntWalk
namespace Go.Proofs.YtkoflhohokdllaaGreatDoor
open Go.RowKit
open Go.Proofs.YtkoflhohokdllaaGreatDoor.Cl (Rg SetV SetAt rgCells)

variable {w w' w'' : World}

def inCells (x : In) (v : Value) : List Value := [.int .i64 x.op, .int .i64 x.a, .int .i64 x.b, .int .i64 x.c, .int .i64 x.d, v]
def ciCells (L : List (In × Value)) : List Value := L.flatMap fun x => inCells x.1 x.2
theorem ciCells_append (a b : List (In × Value)) : ciCells (a ++ b) = ciCells a ++ ciCells b := by simp [ciCells]
theorem ciCells_one (x : In) (v : Value) : ciCells [(x, v)] = inCells x v := by simp [ciCells]
theorem ciCells_get : ∀ (L : List (In × Value)) (i j : Nat) (x : In × Value) (u : Value), L[i]? = some x → (inCells x.1 x.2)[j]? = some u → (ciCells L)[i * 6 + j]? = some u
  | [], _, _, _, _, h, _ => by simp at h
  | y :: L, 0, j, x, u, h, hu => by
    simp at h
    subst h
    rw [ciCells, List.flatMap_cons, Nat.zero_mul, Nat.zero_add]
    rw [List.getElem?_append_left (List.getElem?_eq_some_iff.1 hu).1]
    exact hu
  | y :: L, i + 1, j, x, u, h, hu => by
    have := ciCells_get L i j x u (by simpa using h) hu
    rw [ciCells, List.flatMap_cons, List.getElem?_append_right (by simp [inCells]; omega)]
    rw [show (i + 1) * 6 + j - (inCells y.1 y.2).length = i * 6 + j by simp [inCells]; omega]
    exact this
theorem ciCells_set : ∀ (L : List (In × Value)) (i j : Nat) (x : In × Value) (y : In) (u : Value), L[i]? = some x → j < 6 → (inCells x.1 x.2).set j u = inCells y x.2 → (ciCells L).set (i * 6 + j) u = ciCells (L.set i (y, x.2))
  | [], _, _, _, _, _, h, _, _ => by simp at h
  | z :: L, 0, j, x, y, u, h, hj, hu => by
    simp at h
    subst h
    rw [ciCells, List.flatMap_cons, Nat.zero_mul, Nat.zero_add, List.set_append_left _ _ (by simp [inCells]; omega), hu]
    rfl
  | z :: L, i + 1, j, x, y, u, h, hj, hu => by
    have := ciCells_set L i j x y u (by simpa using h) hj hu
    rw [ciCells, List.flatMap_cons, List.set_append_right _ _ (by simp [inCells]; omega)]
    rw [show (i + 1) * 6 + j - (inCells z.1 z.2).length = i * 6 + j by simp [inCells]; omega]
    have e : (z :: L).set (i + 1) (y, x.2) = z :: L.set i (y, x.2) := rfl
    rw [e, ciCells, List.flatMap_cons]
    exact congrArg _ this

abbrev OwnS (w : World) (n₀ : Nat) (v : Value) (l : List Rg) : Prop := w.ownsRow n₀ 57 2 v l.length (rgCells l)

/-! ### What a call of the writer keeps -/
def isIn (w : World) (i : Nat) : Prop := ∃ cs z, w.heap[i]? = some (.cells cs 51 z)
structure FrW (n₀ wb : Nat) (w w' : World) : Prop where
  os : w'.os = w.os
  tape : w'.tape = w.tape
  output : w'.output = w.output
  size : w.heap.size ≤ w'.heap.size
  block : ∀ i, i < w.heap.size → (i < n₀ ∨ (i ≠ wb ∧ ¬ isIn w i)) → w'.heap[i]? = w.heap[i]?
section
variable {n₀ wb : Nat}
theorem FrW.refl (w : World) : FrW n₀ wb w w := ⟨rfl, rfl, rfl, Nat.le_refl _, fun _ _ _ => rfl⟩
theorem FrW.trans (h : FrW n₀ wb w w') (k : FrW n₀ wb w' w'') : FrW n₀ wb w w'' :=
  ⟨k.os.trans h.os, k.tape.trans h.tape, k.output.trans h.output, Nat.le_trans h.size k.size, fun i hi hc => by
    have e := h.block i hi hc
    refine (k.block i (Nat.lt_of_lt_of_le hi h.size) ?_).trans e
    rcases hc with hc | ⟨h1, h2⟩
    · exact .inl hc
    · refine .inr ⟨h1, fun ⟨cs, z, hb⟩ => h2 ⟨cs, z, ?_⟩⟩
      rw [← e]
      exact hb⟩
theorem FrW.of_below (h : Below w.heap.size w w') : FrW n₀ wb w w' := ⟨h.os, h.tape, h.output, h.size, fun i hi _ => h.block i hi⟩
theorem FrW.alloc (h : FrW n₀ wb w w') (o : Obj) : FrW n₀ wb w (w'.alloc o) := h.trans (FrW.of_below ((Below.refl _ _).alloc (Nat.le_refl _) o))
theorem FrW.drewN (h : FrW n₀ wb w w') (n : Nat) : FrW n₀ wb w (w'.drewN n) := ⟨h.os, h.tape, h.output, h.size, h.block⟩
theorem FrW.drew (h : FrW n₀ wb w w') : FrW n₀ wb w w'.drew := ⟨h.os, h.tape, h.output, h.size, h.block⟩
theorem FrW.old (h : FrW n₀ wb w w') (hn : n₀ ≤ w.heap.size) : Below n₀ w w' := ⟨h.os, h.tape, h.output, h.size, fun i hi => h.block i (by omega) (.inl hi)⟩
/-- A store into the writer's block, or a block of the call's own. -/
theorem FrW.set_ (h : FrW n₀ wb w w') (hn : n₀ ≤ wb) {q : Addr} (hq : q.block = wb ∨ w.heap.size ≤ q.block) (u : Value) : FrW n₀ wb w (w'.setCell q u) :=
  ⟨h.os, h.tape, h.output, by simpa [World.setCell] using h.size, fun i hi hc => by
    refine (Below.heap_setCell _ _ _ _ ?_).trans (h.block i hi hc)
    rcases hq with hq | hq <;> rcases hc with hc | hc <;> omega⟩
theorem FrW.blk (h : FrW n₀ wb w w') {g : Nat} {t : TypeId} {cs : Array Value} (hg : Blk w g t cs) (ht : t ≠ 51) (hw : g ≠ wb) : Blk w' g t cs :=
  (h.block g hg.lt (.inr ⟨hw, fun ⟨_, _, hh⟩ => ne_of_types hg hh ht rfl⟩)).trans hg
end

/-! ### The writer -/
structure Wc (n₀ wb : Nat) (fo : Bool) (w : World) (cv : Value) (L : List (In × Value)) (lp : Nat) : Prop where
  blk : Blk w wb 96 #[cv, .int .i64 (lp : Nat), .bool fo]
  own : w.ownsRow n₀ 51 6 cv L.length (ciCells L)
  sets : ∀ x ∈ L, OwnS w n₀ x.2 x.1.set
  low : n₀ ≤ wb
  bnd : L.length ≤ 100000 ∧ lp ≤ 100000
def Wr (n₀ wb : Nat) (fo : Bool) (w : World) (M : List In) (lp : Nat) : Prop := ∃ cv L, Wc n₀ wb fo w cv L lp ∧ L.map (·.1) = M
section
variable {n₀ wb lp : Nat} {fo : Bool} {cv : Value} {L : List (In × Value)} {M : List In}
theorem own_kept {base n : Nat} {e : TypeId} {size : Nat} {v : Value} {xs : List Value} (h : w.ownsRow base e size v n xs) (hk : ∀ i, i < w.heap.size → base ≤ i → (∃ cs z, w.heap[i]? = some (.cells cs e z)) → w'.heap[i]? = w.heap[i]?) : w'.ownsRow base e size v n xs :=
  own_keep h fun i hi => by
    rcases h.2 with ⟨rfl, _⟩ | ⟨g, cap, cur, rfl, hb, hh, _⟩
    · simp [Value.ownBlock] at hi
    · obtain rfl : i = g := by simpa [Value.ownBlock] using hi
      exact hk i (lt_of_some hh) hb ⟨cur, _, hh⟩
theorem Wc.keep (h : Wc n₀ wb fo w cv L lp) (hk : ∀ i, i < w.heap.size → (∃ cs t z, w.heap[i]? = some (.cells cs t z) ∧ ((t = 96 ∧ i = wb) ∨ (t = 51 ∧ cv.ownBlock = some i) ∨ t = 57)) → w'.heap[i]? = w.heap[i]?) : Wc n₀ wb fo w' cv L lp := by
  refine ⟨(hk wb h.blk.lt ⟨_, _, _, h.blk, .inl ⟨rfl, rfl⟩⟩).trans h.blk, own_keep h.own fun i hi => ?_, fun x hx => own_kept (h.sets x hx) fun i hi _ ⟨cs, z, hh⟩ => hk i hi ⟨cs, _, z, hh, .inr (.inr rfl)⟩, h.low, h.bnd⟩
  rcases h.own.2 with ⟨rfl, _⟩ | ⟨g, cap, cur, rfl, hb, hh, _⟩
  · simp [Value.ownBlock] at hi
  · obtain rfl : i = g := by simpa [Value.ownBlock] using hi
    exact hk i (lt_of_some hh) ⟨cur, _, _, hh, .inr (.inl ⟨rfl, rfl⟩)⟩
theorem Wc.on (h : Wc n₀ wb fo w cv L lp) (hb : Below w.heap.size w w') : Wc n₀ wb fo w' cv L lp := h.keep fun i hi _ => hb.block i hi
theorem Wc.alloc (h : Wc n₀ wb fo w cv L lp) (o : Obj) : Wc n₀ wb fo (w.alloc o) cv L lp := h.keep fun i hi _ => Below.heap_alloc w o i hi
theorem Wc.drewN (h : Wc n₀ wb fo w cv L lp) (n : Nat) : Wc n₀ wb fo (w.drewN n) cv L lp := h.keep fun _ _ _ => rfl
theorem Wc.drew (h : Wc n₀ wb fo w cv L lp) : Wc n₀ wb fo w.drew cv L lp := h.keep fun _ _ _ => rfl
/-- A store into a block of another kind. -/
theorem Wc.far (h : Wc n₀ wb fo w cv L lp) {b o : Nat} {t : TypeId} {cs : Array Value} {z : Nat × Nat} (hg : w.heap[b]? = some (.cells cs t z)) (h1 : t ≠ 96) (h2 : t ≠ 51) (h3 : t ≠ 57) (u : Value) : Wc n₀ wb fo (w.setCell ⟨b, o, none⟩ u) cv L lp :=
  h.keep fun i _ ⟨cs', t', z', hh, hc⟩ => Below.heap_setCell _ _ _ _ (by
    rintro rfl
    rcases hc with ⟨rfl, _⟩ | ⟨rfl, _⟩ | rfl
    · exact ne_of_types hg hh h1 rfl
    · exact ne_of_types hg hh h2 rfl
    · exact ne_of_types hg hh h3 rfl)
theorem Wc.c3 (h : Wc n₀ wb fo w cv L lp) : w.cell? ⟨wb, 0, none⟩ = some cv ∧ w.cell? ⟨wb, 1, none⟩ = some (.int .i64 (lp : Nat)) ∧ w.cell? ⟨wb, 2, none⟩ = some (.bool fo) := ⟨h.blk.cell 0, h.blk.cell 1, h.blk.cell 2⟩
theorem Wc.fz (h : Wc n₀ wb fo w cv L lp) (j : Nat) : w.frozen? ⟨wb, j, none⟩ = false := h.blk.frozen j
theorem Wc.form (h : Wc n₀ wb fo w cv L lp) : ∃ A c, cv = .slice A L.length c ∧ L.length ≤ c := by
  rcases h.own.2 with ⟨hv, hn⟩ | ⟨g, c, cur, hv, _, _, hc, _⟩
  · exact ⟨none, 0, by rw [hv, hn], by omega⟩
  · exact ⟨_, c, hv, hc⟩
theorem Wc.size (h : Wc n₀ wb fo w cv L lp) : n₀ ≤ w.heap.size := Nat.le_trans h.low (Nat.le_of_lt h.blk.lt)
theorem Wr.on (h : Wr n₀ wb fo w M lp) (hb : Below w.heap.size w w') : Wr n₀ wb fo w' M lp := by
  obtain ⟨cv, L, h, hM⟩ := h
  exact ⟨cv, L, h.on hb, hM⟩
theorem Wr.alloc (h : Wr n₀ wb fo w M lp) (o : Obj) : Wr n₀ wb fo (w.alloc o) M lp := by
  obtain ⟨cv, L, h, hM⟩ := h
  exact ⟨cv, L, h.alloc o, hM⟩
theorem Wr.drew (h : Wr n₀ wb fo w M lp) : Wr n₀ wb fo w.drew M lp := by
  obtain ⟨cv, L, h, hM⟩ := h
  exact ⟨cv, L, h.drew, hM⟩
theorem Wr.far (h : Wr n₀ wb fo w M lp) {b o : Nat} {t : TypeId} {cs : Array Value} {z : Nat × Nat} (hg : w.heap[b]? = some (.cells cs t z)) (h1 : t ≠ 96) (h2 : t ≠ 51) (h3 : t ≠ 57) (u : Value) : Wr n₀ wb fo (w.setCell ⟨b, o, none⟩ u) M lp := by
  obtain ⟨cv, L, h, hM⟩ := h
  exact ⟨cv, L, h.far hg h1 h2 h3 u, hM⟩
theorem Wr.blk (h : Wr n₀ wb fo w M lp) : ∃ cv, Blk w wb 96 #[cv, .int .i64 (lp : Nat), .bool fo] := by
  obtain ⟨cv, L, h, _⟩ := h
  exact ⟨cv, h.blk⟩
theorem Wr.low (h : Wr n₀ wb fo w M lp) : n₀ ≤ wb ∧ wb < w.heap.size := by
  obtain ⟨cv, L, h, _⟩ := h
  exact ⟨h.low, h.blk.lt⟩
theorem Wr.bnd (h : Wr n₀ wb fo w M lp) : M.length ≤ 100000 ∧ lp ≤ 100000 := by
  obtain ⟨cv, L, h, rfl⟩ := h
  rw [List.length_map]
  exact h.bnd
/-- An instruction more. -/
theorem Wc.push {v' v : Value} {x : In} (h : Wc n₀ wb fo w cv L lp) (hl : L.length + 1 ≤ 100000) (hv : OwnS w n₀ v x.set) (hO : w'.ownsRow n₀ 51 6 v' (L.length + 1) (ciCells L ++ inCells x v)) (hg : w.grownBy w' cv.ownBlock) : Wc n₀ wb fo (w'.setCell ⟨wb, 0, none⟩ v') v' (L ++ [(x, v)]) lp := by
  have hB : Blk w' wb 96 #[cv, .int .i64 (lp : Nat), .bool fo] := h.blk.grown hg (fun e => own_ne h.own h.blk (by decide) e.symm)
  have hr : ∀ (y : Value) (l : List Rg), OwnS w n₀ y l → OwnS (w'.setCell ⟨wb, 0, none⟩ v') n₀ y l := fun y l hy => by
    refine own_kept hy fun i hi _ ⟨cs, z, hh⟩ => ?_
    have hne : i ≠ wb := ne_of_types hh h.blk (by decide)
    refine (Below.heap_setCell _ _ _ _ hne).trans (hg.block i hi ?_)
    intro e
    exact own_ne h.own hh (by decide) e.symm
  refine ⟨?_, ?_, fun y hy => ?_, h.low, by simpa using hl, h.bnd.2⟩
  · have := hB.set_ 0 v'
    simpa using this
  · have e : ciCells (L ++ [(x, v)]) = ciCells L ++ inCells x v := by rw [ciCells_append, ciCells_one]
    rw [e, List.length_append]
    refine own_keep hO fun i hi => Below.heap_setCell _ _ _ _ (by
      rintro rfl
      exact own_ne hO hB (by decide) hi.symm)
  · rcases List.mem_append.1 hy with hy | hy
    · exact hr _ _ (h.sets y hy)
    · obtain rfl := List.mem_singleton.1 hy
      exact hr _ _ hv
theorem FrW.push {v' : Value} (h : Wc n₀ wb fo w cv L lp) (hg : w.grownBy w' cv.ownBlock) : FrW n₀ wb w (w'.setCell ⟨wb, 0, none⟩ v') := by
  refine ⟨hg.os, hg.tape, hg.output, by simpa [World.setCell] using hg.size, fun i hi hc => ?_⟩
  have hlo := h.low
  refine (Below.heap_setCell _ _ _ _ (by simp only; omega)).trans (hg.block i hi ?_)
  intro e
  rcases h.own.2 with ⟨hv, _⟩ | ⟨g, cap, cur, hv, hb, hh, _⟩
  · rw [hv] at e; simp [Value.ownBlock] at e
  · rw [hv] at e
    obtain rfl : i = g := by simpa [Value.ownBlock] using e
    rcases hc with hc | ⟨_, hc⟩
    · omega
    · exact hc ⟨cur, _, hh⟩
/-- A number of an instruction turned. -/
theorem Wc.turn {g c i j : Nat} {x : In × Value} {y : In} {u : Value} (h : Wc n₀ wb fo w (.slice (some ⟨g, 0, none⟩) L.length c) L lp) (hi : L[i]? = some x) (hj : j < 6) (hu : (inCells x.1 x.2).set j u = inCells y x.2) (hs : y.set = x.1.set) :
    Wc n₀ wb fo (w.setCell ⟨g, i * 6 + j, none⟩ u) (.slice (some ⟨g, 0, none⟩) L.length c) (L.set i (y, x.2)) lp ∧ FrW n₀ wb w (w.setCell ⟨g, i * 6 + j, none⟩ u) := by
  obtain ⟨hO, hg⟩ := h.own.stored (i * 6 + j) u
  obtain ⟨cur, hgb, hlow⟩ : ∃ cur, w.heap[g]? = some (.cells cur 51 (0, 0)) ∧ n₀ ≤ g := by
    rcases h.own.2 with ⟨hv, _⟩ | ⟨g', cap, cur, hv, hb, hh, _⟩
    · simp at hv
    · simp only [Value.slice.injEq, Option.some.injEq, Addr.mk.injEq, and_true, true_and] at hv
      obtain ⟨rfl, rfl⟩ := hv
      exact ⟨cur, hh, hb⟩
  have hw : wb ≠ g := ne_of_types h.blk hgb (by decide)
  refine ⟨⟨h.blk.far hw u, ?_, fun z hz => ?_, h.low, by simpa using h.bnd.1, h.bnd.2⟩, ⟨hg.os, hg.tape, hg.output, hg.size, fun k hk hc => hg.block k hk ?_⟩⟩
  · rw [List.length_set, ← ciCells_set L i j x y u hi hj hu]
    exact hO
  · have key : OwnS w n₀ z.2 z.1.set := by
      rcases List.mem_or_eq_of_mem_set hz with hz | rfl
      · exact h.sets z hz
      · simp only [hs]
        exact h.sets x (List.mem_of_getElem? hi)
    exact own_kept key fun k hk _ ⟨cs, z', hh⟩ => Below.heap_setCell _ _ _ _ (ne_of_types hh hgb (by decide))
  · intro e
    have e := Option.some.inj e
    rcases hc with hc | ⟨_, hc⟩
    · omega
    · exact hc ⟨cur, _, by rw [e]; exact hgb⟩
end

end Go.Proofs.YtkoflhohokdllaaGreatDoor
