/- Joined: VmW, VmR, VmU, VmS, VmT, VmB. -/
import Derived.Test.YtdbddbelhgkelaaGreatDoorZMGa
import Derived.Test.YtdbddbelhgkelaaGreatDoorZMVm
import Derived.WalkSmall
import Derived.RangeFuncBox
import Derived.RangeFuncCalls
import Derived.RangeFuncNested
import Derived.RangeFuncLeaves
import Derived.OrdersIn
import Derived.TacticsIn
import Derived.Shelf.Abstract
import Derived.WalkKit
import Derived.OwnWalkIn
import Derived.TacticsInMore
import Derived.LoopNIn
import Derived.LoopIn
import Derived.Outline
import Derived.Shelf.RegionOpen
import Derived.Deep.RegionHeldLaw
/- The machine in memory: its block, its rows; what a call of it keeps. -/
namespace Go.Proofs.YtdbddbelhgkelaaGreatDoor
open Go.RowKit
open Go.Proofs.YtdbddbelhgkelaaGreatDoor.Cl (Rg SetV SetAt rgCells info_three)
variable {w w' w'' w0 : World} {n₀ : Nat}

def zI (l : List Int) : List Value := l.map (Value.int .i64)
def chC (c : Nat × Int) : List Value := [.int .i64 (c.1 : Nat), .int .i64 c.2]
def chgC (l : List (Nat × Int)) : List Value := l.flatMap chC
def coC (c : Nat × Nat × Nat) : List Value := [.int .i64 (c.1 : Nat), .int .i64 (c.2.1 : Nat), .int .i64 (c.2.2 : Nat)]
def choC (l : List (Nat × Nat × Nat)) : List Value := l.flatMap coC
theorem chgC_append (a b : List (Nat × Int)) : chgC (a ++ b) = chgC a ++ chgC b := by simp [chgC]
theorem choC_append (a b : List (Nat × Nat × Nat)) : choC (a ++ b) = choC a ++ choC b := by simp [choC]
theorem chgC_len (l : List (Nat × Int)) : (chgC l).length = l.length * 2 := by
  induction l with
  | nil => rfl
  | cons c l ih => rw [chgC, List.flatMap_cons, List.length_append, ← chgC, ih]; simp [chC]; omega
theorem choC_len (l : List (Nat × Nat × Nat)) : (choC l).length = l.length * 3 := by
  induction l with
  | nil => rfl
  | cons c l ih => rw [choC, List.flatMap_cons, List.length_append, ← choC, ih]; simp [coC]; omega
theorem flat_get {α : Type} (f : α → List Value) (k : Nat) (hf : ∀ x, (f x).length = k) : ∀ (L : List α) (i j : Nat) (x : α) (u : Value), L[i]? = some x → (f x)[j]? = some u → (L.flatMap f)[i * k + j]? = some u
  | [], _, _, _, _, h, _ => by simp at h
  | y :: L, 0, j, x, u, h, hu => by
    simp at h
    subst h
    rw [List.flatMap_cons, Nat.zero_mul, Nat.zero_add, List.getElem?_append_left (List.getElem?_eq_some_iff.1 hu).1]
    exact hu
  | y :: L, i + 1, j, x, u, h, hu => by
    have := flat_get f k hf L i j x u (by simpa using h) hu
    rw [List.flatMap_cons, List.getElem?_append_right (by rw [hf, Nat.add_mul]; omega)]
    rw [show (i + 1) * k + j - (f y).length = i * k + j by rw [hf, Nat.add_mul]; omega]
    exact this

/-! ### What a call of the machine keeps -/
def isVm (w : World) (i : Nat) : Prop := ∃ cs t z, w.heap[i]? = some (.cells cs t z) ∧ (t = 3 ∨ t = 136 ∨ t = 131)
structure FrV (n₀ mb ex : Nat) (w w' : World) : Prop where
  os : w'.os = w.os
  tape : w'.tape = w.tape
  output : w'.output = w.output
  size : w.heap.size ≤ w'.heap.size
  block : ∀ i, i < w.heap.size → (i < n₀ ∨ (i ≠ mb ∧ i ≠ ex ∧ ¬ isVm w i)) → w'.heap[i]? = w.heap[i]?
section
variable {mb ex : Nat}
theorem FrV.refl (w : World) : FrV n₀ mb ex w w := ⟨rfl, rfl, rfl, Nat.le_refl _, fun _ _ _ => rfl⟩
theorem FrV.trans (h : FrV n₀ mb ex w w') (k : FrV n₀ mb ex w' w'') : FrV n₀ mb ex w w'' :=
  ⟨k.os.trans h.os, k.tape.trans h.tape, k.output.trans h.output, Nat.le_trans h.size k.size, fun i hi hc => by
    have e := h.block i hi hc
    refine (k.block i (Nat.lt_of_lt_of_le hi h.size) ?_).trans e
    rcases hc with hc | ⟨h1, h2, h3⟩
    · exact .inl hc
    · refine .inr ⟨h1, h2, fun ⟨cs, t, z, hb, ht⟩ => h3 ⟨cs, t, z, ?_, ht⟩⟩
      rw [← e]
      exact hb⟩
theorem FrV.of_below (h : Below w.heap.size w w') : FrV n₀ mb ex w w' := ⟨h.os, h.tape, h.output, h.size, fun i hi _ => h.block i hi⟩
theorem FrV.alloc (h : FrV n₀ mb ex w w') (o : Obj) : FrV n₀ mb ex w (w'.alloc o) := h.trans (FrV.of_below ((Below.refl _ _).alloc (Nat.le_refl _) o))
theorem FrV.drewN (h : FrV n₀ mb ex w w') (n : Nat) : FrV n₀ mb ex w (w'.drewN n) := ⟨h.os, h.tape, h.output, h.size, h.block⟩
theorem FrV.drew (h : FrV n₀ mb ex w w') : FrV n₀ mb ex w w'.drew := ⟨h.os, h.tape, h.output, h.size, h.block⟩
theorem FrV.old (h : FrV n₀ mb ex w w') (hn : n₀ ≤ w.heap.size) : Below n₀ w w' := ⟨h.os, h.tape, h.output, h.size, fun i hi => h.block i (by omega) (.inl hi)⟩
/-- What a call whose own block is new keeps for its caller. -/
theorem FrV.drop {ex' : Nat} (h : FrV n₀ mb ex w w') (he : w.heap.size ≤ ex ∨ ex = mb) : FrV n₀ mb ex' w w' :=
  ⟨h.os, h.tape, h.output, h.size, fun i hi hc => h.block i hi (by
    rcases hc with hc | ⟨h1, h2, h3⟩
    · exact .inl hc
    · exact .inr ⟨h1, by rcases he with he | he <;> omega, h3⟩)⟩
/-- A store into the machine's block, the run's, a row of the machine's, or a new block. -/
theorem FrV.set_ (h : FrV n₀ mb ex w w') {q : Addr} (hq : w.heap.size ≤ q.block ∨ (n₀ ≤ q.block ∧ (q.block = mb ∨ q.block = ex ∨ isVm w' q.block))) (u : Value) : FrV n₀ mb ex w (w'.setCell q u) :=
  ⟨h.os, h.tape, h.output, by simpa [World.setCell] using h.size, fun i hi hc => by
    refine (Below.heap_setCell _ _ _ _ ?_).trans (h.block i hi hc)
    rcases hq with hq | ⟨hn, hq⟩
    · omega
    · rcases hc with hc | ⟨h1, h2, h3⟩
      · omega
      · rcases hq with hq | hq | ⟨cs, t, z, hb, ht⟩
        · omega
        · omega
        · rintro rfl
          exact h3 ⟨cs, t, z, by rw [← h.block _ hi (.inr ⟨h1, h2, h3⟩)]; exact hb, ht⟩⟩
theorem FrV.grown (h : FrV n₀ mb ex w w') {row : Option Nat} (hg : w'.grownBy w'' row) (hr : ∀ k, row = some k → n₀ ≤ k ∧ isVm w' k) : FrV n₀ mb ex w w'' :=
  ⟨hg.os.trans h.os, hg.tape.trans h.tape, hg.output.trans h.output, Nat.le_trans h.size hg.size, fun i hi hc => by
    refine (hg.block i (Nat.lt_of_lt_of_le hi h.size) ?_).trans (h.block i hi hc)
    intro e
    obtain ⟨hn, cs, t, z, hb, ht⟩ := hr i e.symm
    rcases hc with hc | ⟨h1, h2, h3⟩
    · omega
    · exact h3 ⟨cs, t, z, by rw [← h.block _ hi (.inr ⟨h1, h2, h3⟩)]; exact hb, ht⟩⟩
theorem FrV.blk (h : FrV n₀ mb ex w w') {g : Nat} {t : TypeId} {cs : Array Value} (hg : Blk w g t cs) (h1 : t ≠ 3) (h2 : t ≠ 136) (h3 : t ≠ 131) (hm : g ≠ mb) (he : g ≠ ex) : Blk w' g t cs :=
  (h.block g hg.lt (.inr ⟨hm, he, fun ⟨_, _, _, hh, ht⟩ => by
    rcases ht with rfl | rfl | rfl
    · exact ne_of_types hg hh h1 rfl
    · exact ne_of_types hg hh h2 rfl
    · exact ne_of_types hg hh h3 rfl⟩)).trans hg
end

/-! ### The machine -/
structure Mch (n₀ : Nat) (w : World) (mb : Nat) (cv uv : Value) (F S : Nat) (s : Ms) (V1 V2 V3 : Value) : Prop where
  blk : Blk w mb 108 #[cv, uv, .int .i64 (F : Nat), .int .i64 (S : Nat), .int .i64 (s.steps : Nat), .int .i64 (s.deep : Nat), V1, V2, V3]
  low : n₀ ≤ mb
  sl : w.ownsRow n₀ 3 1 V1 s.sl.length (zI s.sl)
  cg : w.ownsRow n₀ 136 2 V2 s.chg.length (chgC s.chg)
  co : w.ownsRow n₀ 131 3 V3 s.cho.length (choC s.cho)
section
variable {mb : Nat} {cv uv V1 V2 V3 : Value} {F S : Nat} {s : Ms}
theorem Mch.keep (h : Mch n₀ w mb cv uv F S s V1 V2 V3) (hk : ∀ i, i < w.heap.size → n₀ ≤ i → (∃ cs t z, w.heap[i]? = some (.cells cs t z) ∧ (t = 108 ∨ t = 3 ∨ t = 136 ∨ t = 131)) → w'.heap[i]? = w.heap[i]?) : Mch n₀ w' mb cv uv F S s V1 V2 V3 :=
  ⟨(hk mb h.blk.lt h.low ⟨_, _, _, h.blk, .inl rfl⟩).trans h.blk, h.low,
   own_kept h.sl fun i hi hn ⟨cs, z, hh⟩ => hk i hi hn ⟨cs, _, z, hh, .inr (.inl rfl)⟩,
   own_kept h.cg fun i hi hn ⟨cs, z, hh⟩ => hk i hi hn ⟨cs, _, z, hh, .inr (.inr (.inl rfl))⟩,
   own_kept h.co fun i hi hn ⟨cs, z, hh⟩ => hk i hi hn ⟨cs, _, z, hh, .inr (.inr (.inr rfl))⟩⟩
theorem Mch.on (h : Mch n₀ w mb cv uv F S s V1 V2 V3) (hb : Below w.heap.size w w') : Mch n₀ w' mb cv uv F S s V1 V2 V3 := h.keep fun i hi _ _ => hb.block i hi
theorem Mch.alloc (h : Mch n₀ w mb cv uv F S s V1 V2 V3) (o : Obj) : Mch n₀ (w.alloc o) mb cv uv F S s V1 V2 V3 := h.keep fun i hi _ _ => Below.heap_alloc w o i hi
theorem Mch.drewN (h : Mch n₀ w mb cv uv F S s V1 V2 V3) (n : Nat) : Mch n₀ (w.drewN n) mb cv uv F S s V1 V2 V3 := h.keep fun _ _ _ _ => rfl
theorem Mch.drew (h : Mch n₀ w mb cv uv F S s V1 V2 V3) : Mch n₀ w.drew mb cv uv F S s V1 V2 V3 := h.keep fun _ _ _ _ => rfl
/-- A store into a block of another kind. -/
theorem Mch.far (h : Mch n₀ w mb cv uv F S s V1 V2 V3) {b o : Nat} {t : TypeId} {cs : Array Value} {z : Nat × Nat} (hg : w.heap[b]? = some (.cells cs t z)) (h1 : t ≠ 108) (h2 : t ≠ 3) (h3 : t ≠ 136) (h4 : t ≠ 131) (u : Value) : Mch n₀ (w.setCell ⟨b, o, none⟩ u) mb cv uv F S s V1 V2 V3 :=
  h.keep fun i _ _ ⟨cs', t', z', hh, hc⟩ => Below.heap_setCell _ _ _ _ (by
    rintro rfl
    rcases hc with rfl | rfl | rfl | rfl
    · exact ne_of_types hg hh h1 rfl
    · exact ne_of_types hg hh h2 rfl
    · exact ne_of_types hg hh h3 rfl
    · exact ne_of_types hg hh h4 rfl)
theorem Mch.c9 (h : Mch n₀ w mb cv uv F S s V1 V2 V3) : w.cell? ⟨mb, 0, none⟩ = some cv ∧ w.cell? ⟨mb, 1, none⟩ = some uv ∧ w.cell? ⟨mb, 2, none⟩ = some (.int .i64 (F : Nat)) ∧ w.cell? ⟨mb, 3, none⟩ = some (.int .i64 (S : Nat)) ∧ w.cell? ⟨mb, 4, none⟩ = some (.int .i64 (s.steps : Nat)) ∧ w.cell? ⟨mb, 5, none⟩ = some (.int .i64 (s.deep : Nat)) ∧ w.cell? ⟨mb, 6, none⟩ = some V1 ∧ w.cell? ⟨mb, 7, none⟩ = some V2 ∧ w.cell? ⟨mb, 8, none⟩ = some V3 :=
  ⟨h.blk.cell 0, h.blk.cell 1, h.blk.cell 2, h.blk.cell 3, h.blk.cell 4, h.blk.cell 5, h.blk.cell 6, h.blk.cell 7, h.blk.cell 8⟩
theorem Mch.fz (h : Mch n₀ w mb cv uv F S s V1 V2 V3) (j : Nat) : w.frozen? ⟨mb, j, none⟩ = false := h.blk.frozen j
theorem own_far {base n g : Nat} {e t : TypeId} {size : Nat} {v : Value} {xs : List Value} {cs : Array Value} {z : Nat × Nat} (h : w.ownsRow base e size v n xs) (hg : w.heap[g]? = some (.cells cs t z)) (hne : e ≠ t) (o : Nat) (u : Value) : (w.setCell ⟨g, o, none⟩ u).ownsRow base e size v n xs :=
  own_keep h fun i hi => Below.heap_setCell _ _ _ _ (by
    rintro rfl
    have := own_ne h hg hne
    exact this hi.symm)
/-- A store into the machine's own block. -/
theorem Mch.own_ {s' : Ms} {V1' V2' V3' : Value} (h : Mch n₀ w mb cv uv F S s V1 V2 V3) (j : Nat) (u : Value)
    (hb : (#[cv, uv, .int .i64 (F : Nat), .int .i64 (S : Nat), .int .i64 (s.steps : Nat), .int .i64 (s.deep : Nat), V1, V2, V3] : Array Value).setIfInBounds j u = #[cv, uv, .int .i64 (F : Nat), .int .i64 (S : Nat), .int .i64 (s'.steps : Nat), .int .i64 (s'.deep : Nat), V1', V2', V3'])
    (h1 : w.ownsRow n₀ 3 1 V1' s'.sl.length (zI s'.sl)) (h2 : w.ownsRow n₀ 136 2 V2' s'.chg.length (chgC s'.chg)) (h3 : w.ownsRow n₀ 131 3 V3' s'.cho.length (choC s'.cho)) : Mch n₀ (w.setCell ⟨mb, j, none⟩ u) mb cv uv F S s' V1' V2' V3' :=
  ⟨by have := h.blk.set_ j u; rw [hb] at this; exact this, h.low, own_far h1 h.blk (by decide) _ _, own_far h2 h.blk (by decide) _ _, own_far h3 h.blk (by decide) _ _⟩
/-- A store into a slot. -/
theorem Mch.slot {i : Nat} {v : Int} {g c : Nat} (h : Mch n₀ w mb cv uv F S s V1 V2 V3) (hv : V1 = .slice (some ⟨g, 0, none⟩) s.sl.length c) : Mch n₀ (w.setCell ⟨g, i, none⟩ (.int .i64 v)) mb cv uv F S { s with sl := s.sl.set i v } V1 V2 V3 := by
  subst hv
  obtain ⟨e1, e2⟩ := World.ownsRow.stored h.sl i (.int .i64 v)
  have hg : ∃ cs z, w.heap[g]? = some (.cells cs 3 z) := by
    rcases h.sl.2 with ⟨h0, _⟩ | ⟨g', _, cur, hv, _, hh, _⟩
    · cases h0
    · obtain ⟨rfl⟩ : g = g' := by simpa using (Value.slice.inj hv).1
      exact ⟨_, _, hh⟩
  obtain ⟨cs, z, hg⟩ := hg
  refine ⟨h.blk.far (fun e => ?_) _, h.low, ?_, own_far h.cg hg (by decide) _ _, own_far h.co hg (by decide) _ _⟩
  · exact ne_of_types h.blk hg (by decide) e
  · have : zI (s.sl.set i v) = (zI s.sl).set i (.int .i64 v) := by unfold zI; rw [List.map_set]
    rw [this, List.length_set]
    exact e1
theorem own_at {base n : Nat} {e : TypeId} {size : Nat} {v : Value} {xs : List Value} (h : w.ownsRow base e size v n xs) : (v = .slice none 0 0 ∧ n = 0) ∨ ∃ g c, v = .slice (some ⟨g, 0, none⟩) n c ∧ n ≤ c ∧ base ≤ g ∧ (∃ cs z, w.heap[g]? = some (.cells cs e z)) ∧ (∀ j, j < n * size → w.cell? ⟨g, j, none⟩ = xs[j]?) ∧ ∀ j, w.frozen? ⟨g, j, none⟩ = false := by
  rcases h.2 with h0 | ⟨g, c, cur, rfl, hb, hh, hn, _⟩
  · exact .inl h0
  · exact .inr ⟨g, c, rfl, hn, hb, ⟨cur, _, hh⟩, fun j hj => World.ownsRow.cellAt h j hj, fun j => World.ownsRow.frozenAt h j⟩
/-- A row whose end is cut off. -/
theorem own_take {base n m : Nat} {e : TypeId} {size g c : Nat} {xs : List Value} (h : w.ownsRow base e size (.slice (some ⟨g, 0, none⟩) n c) n xs) (hm : m ≤ n) : w.ownsRow base e size (.slice (some ⟨g, 0, none⟩) m c) m (xs.take (m * size)) := by
  rcases h.2 with ⟨h0, _⟩ | ⟨g', c', cur, hv, hb, hh, hn, hc, hs, ht⟩
  · cases h0
  · cases hv
    have hms : m * size ≤ n * size := Nat.mul_le_mul_right _ hm
    refine ⟨by rw [List.length_take, h.1]; omega, .inr ⟨g, c, cur, rfl, hb, hh, by omega, hc, hs, ?_⟩⟩
    rw [← ht, List.take_take, Nat.min_eq_left hms]
theorem mown_empty {base : Nat} {e : TypeId} {size : Nat} {v : Value} {xs : List Value} (h : w.ownsRow base e size v 0 xs) : xs = [] := by
  have := h.1
  rw [Nat.zero_mul] at this
  exact List.length_eq_zero_iff.1 this
theorem zI_get {l : List Int} {i : Nat} {u : Int} (h : l[i]? = some u) : (zI l)[i]? = some (.int .i64 u) := by simp [zI, h]
theorem isVm_of {g : Nat} {cs : Array Value} {t : TypeId} {z : Nat × Nat} (h : w.heap[g]? = some (.cells cs t z)) (ht : t = 3 ∨ t = 136 ∨ t = 131) : isVm w g := ⟨cs, t, z, h, ht⟩
end

end Go.Proofs.YtdbddbelhgkelaaGreatDoor

/- A range over a function that goes on from what its own memory holds: the law for a loop that is never left early. -/
namespace Go.Proofs.YtdbddbelhgkelaaGreatDoor
open Go.RowKit

variable {F : Fence} {n : Nat} {P : Program} {w : World}
/-- What holds no cells lies as it lay. -/
def Nc (W W' : World) : Prop := ∀ (i : Nat) (o : Obj), W.heap[i]? = some o → o.isCells = false → W'.heap[i]? = some o
theorem Nc.refl (W : World) : Nc W W := fun _ _ h _ => h
theorem Nc.trans {A B C : World} (h : Nc A B) (k : Nc B C) : Nc A C := fun i o hi ho => k i o (h i o hi ho) ho
/-- Own stores: K (ahead of a round), Ka (its variable is laid), Kb (behind it), Z (at the end). -/
theorem range_st {α : Type} {g : Operand} {ps : Array Tmp} {assign body : Code} {Q : Exit → Act → World → Prop} {a : Act}
    (hro : F.round = none) (h1 : 1 ≤ n) {gf : Nat} {lb : Array Value} (hg : a.eval g = .func (.func gf) #[] lb) (hFg : F.fn gf) (eg : ∀ args w, (callFunc gf args).run P w = .ok (.enter gf args) w)
    (enc : α → Array Value) (hps : ∀ x, (enc x).size = ps.size) (K Kb : α → World → Prop) (Ka : α → Act → World → Prop) (Z : World → Prop)
    (sa : ∀ x a' W l o o', Ka x a' W → w.heap.size ≤ l → W.heap[l]? = some o → o.isCells = false → Ka x a' (W.putObj l o'))
    (sb : ∀ x W l o o', Kb x W → w.heap.size ≤ l → W.heap[l]? = some o → o.isCells = false → Kb x (W.putObj l o'))
    (sz : ∀ W l o o', Z W → w.heap.size ≤ l → W.heap[l]? = some o → o.isCells = false → Z (W.putObj l o'))
    (hit : ∀ (l : Nat) (B : World → Prop) (W : World), Below w.heap.size w W → B W → (∀ W1 W2, B W1 → Nc W1 W2 → B W2) →
      (∀ x W1, K x W1 → B W1 → YieldAt F (n - 1 - 1) P l (enc x) W1 fun e W' => e = .returned (.bool true) ∧ Kb x W' ∧ B W') →
      CallsIn F (n - 1) P gf (#[.func (.yield l) #[] #[]] ++ lb) W fun e W' => (∃ v, e = .returned v) ∧ Z W' ∧ B W')
    (hassign : ∀ (l : Nat) (x : α) (W : World) (K1 : Act → World → Prop), K x W → (∀ a' W', Ka x a' W' → Nc W W' → K1 a' W') →
      assign.wpIn (F.inRound l) (n - 1 - 1) P (Exit.then K1 (fun _ _ _ => False)) { tmps := (ps.zip (enc x)).foldl (fun t (p, v) => t.setIfInBounds p v) a.tmps, defers := [] } W)
    (hbody : ∀ (l : Nat) (x : α) (a' : Act) (W : World), Ka x a' W → body.wpIn (F.inRound l) (n - 1 - 1) P (fun e _ W' => e = .normal ∧ Kb x W' ∧ Nc W W') a' W)
    (hdone : ∀ (D : Nat) (W : World), w.heap.size ≤ D → Z W → W.heap[D]? = some (.deferred (some [])) → Q .normal { a with defers := { target := .collected D, args := #[] } :: a.defers } W) :
    (Code.rangeFunc g ps assign body).wpIn F n P Q a w := by
  refine wpIn_rangeFunc fun fn hfn => ?_
  rw [hro]
  obtain ⟨mk, hmk⟩ : ∃ mk : LoopState → Option Code → Loop, mk = fun st pe => { state := st, pending := pe, fn, tmps := a.tmps, params := ps, assign, body, defers := w.heap.size } := ⟨_, rfl⟩
  obtain ⟨W1, hW1⟩ : ∃ W1, (w.alloc (.deferred (some []))).alloc (.loop (mk .ready none)) = W1 := ⟨_, rfl⟩
  have hl1 : W1.heap[w.heap.size + 1]? = some (.loop (mk .ready none)) := by
    have := World.alloc_heap_new (w.alloc (.deferred (some []))) (.loop (mk .ready none))
    rw [World.size_alloc, hW1] at this
    exact this
  have hd1 : W1.heap[w.heap.size]? = some (.deferred (some [])) := by
    rw [← hW1]
    exact (Below.heap_alloc _ _ _ (by simp)).trans (World.alloc_heap_new w _)
  have hb1 : Below w.heap.size w W1 := by
    rw [← hW1]
    exact ((Below.refl _ w).alloc (Nat.le_refl _) _).alloc (by simp) _
  refine ⟨w.heap.size + 1, [{ target := .collected w.heap.size, args := #[] }], W1, { target := .fn (.func gf) lb, args := #[.func (.yield (w.heap.size + 1)) #[] #[]] }, W1, gf,
    #[.func (.yield (w.heap.size + 1)) #[] #[]] ++ lb, W1, ?_, ?_, ?_, ?_, fun _ => h1, ?_⟩
  · rw [← hW1, hmk]
    exact run_enterLoop_outer _ _ _ _ _
  · simp only [resolve, hg]
    simp [go_sem]
  · intro f' hf'
    simp [Target.leads] at hf'
    subst hf'
    exact hFg
  · simp [invoke, go_sem, eg]
  refine (hit (w.heap.size + 1) (fun W => W.heap[w.heap.size + 1]? = some (.loop (mk .ready none)) ∧ W.heap[w.heap.size]? = some (.deferred (some []))) W1 hb1 ⟨hl1, hd1⟩
    (fun A B h hn => ⟨hn _ _ h.1 rfl, hn _ _ h.2 rfl⟩) ?_).mono ?_
  · rintro x W hk ⟨hl, hd⟩
    have hy := run_yield (P := P) (args := enc x) hl (by rw [hmk]; exact hps x)
    rw [hmk] at hy
    refine ⟨fn, _, assign, body, hy, roundIn_of_wpIn hfn (hassign _ x W _ hk ?_)⟩
    intro a' Wa hka hnc
    have hla := hnc _ _ hl rfl
    have hda := hnc _ _ hd rfl
    have hlt : w.heap.size + 1 < Wa.heap.size := (Array.getElem?_eq_some_iff.1 hla).1
    refine ⟨_, run_beginRound hla (by rw [hmk]), ?_⟩
    have hl2 : (Wa.putObj (w.heap.size + 1) (.loop { mk .ready none with state := .busy })).heap[w.heap.size + 1]? = some (.loop { mk .ready none with state := .busy }) := World.putObj_heap_same hlt
    have hd2 : (Wa.putObj (w.heap.size + 1) (.loop { mk .ready none with state := .busy })).heap[w.heap.size]? = some (.deferred (some [])) := (World.putObj_heap_other (by omega)).trans hda
    refine wpIn_mono (hbody _ x a' _ (sa x a' Wa _ _ _ hka (by omega) hla rfl)) ?_
    rintro e a3 W3 ⟨rfl, hkb, hn3⟩
    have hl3 := hn3 _ _ hl2 rfl
    have hd3 := hn3 _ _ hd2 rfl
    have hr := run_endRound (P := P) none hl3
    refine ⟨_, _, hr, rfl, sb x W3 _ _ _ hkb (by omega) hl3 rfl, ?_, ?_⟩
    · rw [World.putObj_heap_same (Array.getElem?_eq_some_iff.1 hl3).1, hmk]
      rfl
    · exact (World.putObj_heap_other (by omega)).trans hd3
  · rintro e W2 ⟨⟨v, rfl⟩, hz, hl, hd⟩
    refine ⟨none, _, ?_, hdone _ _ (Nat.le_refl _) (sz W2 _ _ (.loop { mk .ready none with state := .exhausted }) hz (by omega) hl rfl) ((World.putObj_heap_other (by omega)).trans hd)⟩
    have := run_endLoop (P := P) hl (by rw [hmk]; simp)
    rw [this, hmk]

/-- No operation is a defer statement. -/
def noDefer (ops : Array Oper) : Bool := ops.toList.all fun o => match o.op with | .defer _ => false | _ => true
theorem noDefer_at {ops : Array Oper} (h : noDefer ops = true) {i : Nat} {o : Oper} (ho : ops[i]? = some o) : ∀ c, o.op ≠ .defer c := by
  intro c hc
  have hm : o ∈ ops.toList := by
    rw [Array.mem_toList_iff]
    exact Array.mem_of_getElem? ho
  have := List.all_eq_true.1 h o hm
  rw [hc] at this
  cases this
theorem uponIn_round' {F : Fence} {n : Nat} {P : Program} {o : Oper} {a : Act} {l : Nat} {K K' : Act → World → Prop} {Q : Exit → Act → World → Prop} (hK : ∀ a w, K a w → K' a w) : ∀ r : Result Next, o.uponIn F n P a K Q r → o.uponIn (F.inRound l) n P a K' Q r := by
  intro r h
  cases r with
  | ok x w' =>
    cases x with
    | value v => exact hK _ _ h
    | skip => exact hK _ _ h
    | defer d => exact hK _ _ h
    | enter f args => exact ⟨h.1, CallsIn.mono (CallsIn.inRound l h.2) (fun e w'' he => by cases e with | returned v => exact hK _ _ he | panicked c => exact he | outgrown => exact he)⟩
    | row row args => exact ⟨h.1, RowsIn.mono (show RowsIn (F.inRound l) (n - 1) P row args w' _ from h.2) (fun v w'' he => hK _ _ he)⟩
    | round l' f tmps assign body => exact ⟨h.1, RoundIn.mono (show RoundIn (F.inRound l) (n - 1) P l' f tmps assign body w' _ from h.2) (fun e w'' he => by cases e with | returned v => exact hK _ _ he | panicked c => exact he | outgrown => exact he)⟩
    | _ => exact h.elim
  | halt h' w' =>
    cases h' with
    | panic v => exact h
    | _ => exact h.elim
theorem opsIn_round {F : Fence} {n : Nat} {P : Program} {ops : Array Oper} {Q : Exit → Act → World → Prop} {l : Nat} (hro : F.round = none) (hnd : noDefer ops = true) : ∀ (idx : List Nat) (a : Act) (w : World), wpOpsIn F n P ops Q idx a w → wpOpsIn (F.inRound l) n P ops Q idx a w
  | [], _, _, h => h
  | i :: rest, a, w, h => by
    have ih := opsIn_round (P := P) (n := n) (Q := Q) (l := l) hro hnd rest
    unfold wpOpsIn at h ⊢
    cases ho : ops[i]? with
    | none =>
      simp only [ho] at h ⊢
      exact ih a w h
    | some o =>
      simp only [ho] at h ⊢
      by_cases hw : Region.wanted o (yielded ops a.tmps) = true
      · rw [if_pos hw] at h ⊢
        obtain ⟨h1, h2⟩ := h
        refine ⟨h1, ?_⟩
        rw [hro, Oper.semAt_none] at h2
        rw [show (F.inRound l).round = some l from rfl, Oper.semAt_some l _ _ (noDefer_at hnd ho)]
        exact uponIn_round' ih _ h2
      · rw [if_neg hw] at h ⊢
        exact ⟨h.1, ih _ _ h.2⟩
/-- A region within a round, as without one. -/
theorem region_round {F : Fence} {n : Nat} {P : Program} {ops : Array Oper} {Q : Exit → Act → World → Prop} {l id : Nat} {a : Act} {w : World} (hro : F.round = none) (hm : P.follows .mixedOrders = true) (hnd : noDefer ops = true)
    (h : wpAnyIn F n P .any ops Q ops.size (Array.replicate ops.size false) a w.drew) : (Code.region id ops true).wpIn (F.inRound l) n P Q a w :=
  wpIn_region_draw fun t => opsIn_round hro hnd _ _ _ (by
    simp only [Region.schedule, hm, Bool.true_or, if_true]
    exact wpAnyIn_sound ops.size t _ a _ h)

end Go.Proofs.YtdbddbelhgkelaaGreatDoor

/- The machine: changes that are taken away. -/
namespace Go.Proofs.YtdbddbelhgkelaaGreatDoor
open Go.RowKit Go.Shelf

attribute [local go_sem] Oper.semAt_some

variable {w w' w0 : World} {n₀ mb F S : Nat} {cv uv V1 V2 V3 : Value} {s : Ms}

/-- While changes are taken away: j of them are there, the slots are those ahead of all but k. -/
def Ms.at_ (s : Ms) (j k : Nat) : Ms := { s with chg := s.chg.take j, sl := undoL s.sl (s.chg.drop k) }
theorem at_self (s : Ms) : s.at_ s.chg.length s.chg.length = s := by simp [Ms.at_, undoL]
theorem at_undo (s : Ms) (k : Nat) : s.at_ k k = s.undo k := rfl
theorem undo_step {sl : List Int} {l : List (Nat × Int)} {k : Nat} {c : Nat × Int} (h : l[k]? = some c) : undoL sl (l.drop k) = (undoL sl (l.drop (k + 1))).set c.1 c.2 := by
  obtain ⟨hk, rfl⟩ := List.getElem?_eq_some_iff.1 h
  rw [List.drop_eq_getElem_cons hk]
  rfl
theorem undoL_len (sl : List Int) (l : List (Nat × Int)) : (undoL sl l).length = sl.length := by
  induction l with
  | nil => rfl
  | cons c l ih => unfold undoL at ih ⊢; rw [List.foldr_cons, List.length_set, ih]
theorem at_slot (s : Ms) {k : Nat} {c : Nat × Int} (h : s.chg[k]? = some c) : ({ s.at_ k (k + 1) with sl := (s.at_ k (k + 1)).sl.set c.1 c.2 } : Ms) = s.at_ k k := by
  unfold Ms.at_
  simp only
  rw [← undo_step h]
structure Un (n₀ mb F S : Nat) (cv uv V1 V3 : Value) (s : Ms) (w : World) (b0 b1 b2 n j k : Nat) (W : World) : Prop where
  mch : ∃ V2, Mch n₀ W mb cv uv F S (s.at_ j k) V1 V2 V3
  m0 : Blk W b0 87 #[.pointer (some ⟨mb, 0, none⟩)]
  m1 : Blk W b1 87 #[.pointer (some ⟨mb, 0, none⟩)]
  m2 : Blk W b2 3 #[.int .i64 (n : Nat)]
  fr : FrV n₀ mb mb w W
variable {b0 b1 b2 n j k : Nat} {W W' : World}
theorem putObj_cells {l i : Nat} {o o' : Obj} {cs : Array Value} {t : TypeId} {z : Nat × Nat} (hl : W.heap[l]? = some o) (ho : o.isCells = false) (h : W.heap[i]? = some (.cells cs t z)) : (W.putObj l o').heap[i]? = some (.cells cs t z) := by
  refine (World.putObj_heap_other ?_).trans h
  rintro rfl
  rw [hl] at h
  cases h
  cases ho
theorem Un.putObj (h : Un n₀ mb F S cv uv V1 V3 s w b0 b1 b2 n j k W) {l : Nat} {o : Obj} (o' : Obj) (hw : w.heap.size ≤ l) (hl : W.heap[l]? = some o) (ho : o.isCells = false) : Un n₀ mb F S cv uv V1 V3 s w b0 b1 b2 n j k (W.putObj l o') := by
  obtain ⟨⟨V2, hm⟩, h0, h1, h2, hf⟩ := h
  refine ⟨⟨V2, hm.keep fun i hi _ ⟨cs, t, z, hh, _⟩ => ?_⟩, putObj_cells hl ho h0, putObj_cells hl ho h1, putObj_cells hl ho h2, hf.os, hf.tape, hf.output, by simpa using hf.size, fun i hi hc => ?_⟩
  · rw [putObj_cells hl ho hh, hh]
  · exact (World.putObj_heap_other (by omega)).trans (hf.block i hi hc)

theorem getD_some {α : Type} {l : List α} {k : Nat} {c d : α} (h : l[k]? = some c) : l.getD k d = c := by simp [List.getD, h]
theorem Un.on (h : Un n₀ mb F S cv uv V1 V3 s w b0 b1 b2 n j k W) (hb : Below W.heap.size W W') : Un n₀ mb F S cv uv V1 V3 s w b0 b1 b2 n j k W' := by
  obtain ⟨⟨V2, hm⟩, h0, h1, h2, hf⟩ := h
  exact ⟨⟨V2, hm.on hb⟩, h0.on hb, h1.on hb, h2.on hb, hf.trans (FrV.of_below hb)⟩
theorem Un.drew (h : Un n₀ mb F S cv uv V1 V3 s w b0 b1 b2 n j k W) : Un n₀ mb F S cv uv V1 V3 s w b0 b1 b2 n j k W.drew := by
  obtain ⟨⟨V2, hm⟩, h0, h1, h2, hf⟩ := h
  exact ⟨⟨V2, hm.drew⟩, h0, h1, h2, hf.drew⟩
theorem Un.alloc (h : Un n₀ mb F S cv uv V1 V3 s w b0 b1 b2 n j k W) (o : Obj) : Un n₀ mb F S cv uv V1 V3 s w b0 b1 b2 n j k (W.alloc o) := by
  obtain ⟨⟨V2, hm⟩, h0, h1, h2, hf⟩ := h
  exact ⟨⟨V2, hm.alloc o⟩, h0.alloc o, h1.alloc o, h2.alloc o, hf.alloc o⟩
theorem Nc.drew (W : World) : Nc W W.drew := fun _ _ h _ => h
theorem Nc.alloc (W : World) (o : Obj) : Nc W (W.alloc o) := fun i _ h _ => (Below.heap_alloc W o i (lt_of_some h)).trans h
theorem Nc.set_ {g : Nat} {cs : Array Value} {t : TypeId} {z : Nat × Nat} (h : W.heap[g]? = some (.cells cs t z)) (o : Nat) (u : Value) : Nc W (W.setCell ⟨g, o, none⟩ u) := fun i ob hi ho => (Below.heap_setCell _ _ _ _ (by
  rintro rfl
  rw [h] at hi
  cases hi
  cases ho)).trans hi
theorem Un.gslot {g1 c1 : Nat} (h : Un n₀ mb F S cv uv (.slice (some ⟨g1, 0, none⟩) s.sl.length c1) V3 s w b0 b1 b2 n j k W) : ∃ cs z, W.heap[g1]? = some (.cells cs 3 z) ∧ n₀ ≤ g1 := by
  obtain ⟨⟨V2, hm⟩, _⟩ := h
  rcases own_at hm.sl with ⟨hv, _⟩ | ⟨g, c, hv, _, hb, ⟨cs, z, hg⟩, _⟩
  · cases hv
  · have e := (Value.slice.inj hv).1
    obtain ⟨rfl⟩ : g1 = g := by simpa using e
    exact ⟨cs, z, hg, hb⟩
theorem Un.ncSlot {g1 c1 : Nat} (h : Un n₀ mb F S cv uv (.slice (some ⟨g1, 0, none⟩) s.sl.length c1) V3 s w b0 b1 b2 n j k W) (o : Nat) (u : Value) : Nc W (W.setCell ⟨g1, o, none⟩ u) := by
  obtain ⟨cs, z, hg, _⟩ := h.gslot
  exact Nc.set_ hg o u
theorem Un.body {g1 c1 a1 : Nat} {a2 : Int} (h : Un n₀ mb F S cv uv (.slice (some ⟨g1, 0, none⟩) s.sl.length c1) V3 s w b0 b1 b2 n k (k + 1) W) (hc : s.chg[k]? = some (a1, a2)) (hb2 : g1 ≠ b2) : Un n₀ mb F S cv uv (.slice (some ⟨g1, 0, none⟩) s.sl.length c1) V3 s w b0 b1 b2 n k k (W.setCell ⟨g1, a1, none⟩ (.int .i64 a2)) := by
  obtain ⟨cs, z, hg, hn⟩ := h.gslot
  obtain ⟨⟨V2, hm⟩, h0, h1, h2, hf⟩ := h
  refine ⟨⟨V2, ?_⟩, h0.far (fun e => ne_of_types h0 hg (by decide) e) _, h1.far (fun e => ne_of_types h1 hg (by decide) e) _, h2.far (Ne.symm hb2) _, hf.set_ (.inr ⟨hn, .inr (.inr ⟨cs, _, z, hg, .inl rfl⟩)⟩) _⟩
  have hlen : (s.at_ k (k + 1)).sl.length = s.sl.length := undoL_len _ _
  have := hm.slot (i := a1) (v := a2) (by rw [hlen])
  rw [at_slot s hc] at this
  exact this
/-- One change more is taken off the list. -/
theorem mch_pop {c : Nat} {g : Nat} (h : Mch n₀ W mb cv uv F S (s.at_ (j + 1) k) V1 (.slice (some ⟨g, 0, none⟩) (j + 1) c) V3) (hj : j + 1 ≤ s.chg.length) : Mch n₀ (W.setCell ⟨mb, 7, none⟩ (.slice (some ⟨g, 0, none⟩) j c)) mb cv uv F S (s.at_ j k) V1 (.slice (some ⟨g, 0, none⟩) j c) V3 := by
  have hl : (s.at_ (j + 1) k).chg.length = j + 1 := by simp [Ms.at_]; omega
  have hl' : (s.at_ j k).chg.length = j := by simp [Ms.at_]; omega
  refine h.own_ 7 _ rfl h.sl ?_ h.co
  have h2 := h.cg
  rw [hl] at h2
  have := own_take (m := j) h2 (by omega)
  rw [hl']
  have e : (chgC (s.at_ (j + 1) k).chg).take (j * 2) = chgC (s.at_ j k).chg := by
    simp only [Ms.at_]
    have e1 : s.chg.take (j + 1) = s.chg.take j ++ [s.chg[j]] := List.take_succ_eq_append_getElem (by omega)
    rw [e1, chgC_append, List.take_append_of_le_length (by rw [chgC_len, List.length_take]; omega), List.take_of_length_le (by rw [chgC_len, List.length_take]; omega)]
  rw [e] at this
  exact this

def lenAt (mb : Nat) (W : World) : Nat := match W.cell? ⟨mb, 7, none⟩ with | some (.slice _ n _) => n | _ => 0
theorem cg_at (h : Mch n₀ W mb cv uv F S (s.at_ j k) V1 V2 V3) (hj : j ≤ s.chg.length) : ∃ A c, V2 = .slice A j c ∧ j ≤ c ∧ (∀ q, q < j → ∃ g, A = some ⟨g, 0, none⟩ ∧ g < W.heap.size ∧ W.cell? ⟨g, q * 2, none⟩ = some (.int .i64 ((s.chg.getD q (0, 0)).1 : Nat)) ∧ W.cell? ⟨g, q * 2 + 1, none⟩ = some (.int .i64 (s.chg.getD q (0, 0)).2)) := by
  have hl : (s.at_ j k).chg.length = j := by simp [Ms.at_]; omega
  have hc := h.cg
  rw [hl] at hc
  rcases own_at hc with ⟨rfl, h0⟩ | ⟨g, c, rfl, hcap, _, ⟨cs, z, hg⟩, hcell, _⟩
  · exact ⟨none, 0, by rw [h0], by omega, fun q hq => by omega⟩
  · refine ⟨_, c, rfl, hcap, fun q hq => ?_⟩
    have hq' : s.chg[q]? = some s.chg[q] := List.getElem?_eq_getElem (by omega)
    have hq2 : (s.at_ j k).chg[q]? = some s.chg[q] := by
      simp only [Ms.at_]
      rw [List.getElem?_take, if_pos hq]
      exact hq'
    have f := fun (x : Nat) (u : Value) => flat_get chC 2 (fun _ => rfl) (s.at_ j k).chg q x s.chg[q] u hq2
    refine ⟨g, rfl, lt_of_some hg, ?_, ?_⟩
    · rw [hcell _ (by omega)]
      rw [getD_some hq']
      exact f 0 _ rfl
    · rw [hcell _ (by omega)]
      rw [getD_some hq']
      exact f 1 _ rfl
theorem Un.pop {A : Option Addr} {c : Nat} (h : Un n₀ mb F S cv uv V1 V3 s w b0 b1 b2 n (j + 1) k W) (hj : j + 1 ≤ s.chg.length) (h7 : W.cell? ⟨mb, 7, none⟩ = some (.slice A (j + 1) c)) : Un n₀ mb F S cv uv V1 V3 s w b0 b1 b2 n j k (W.setCell ⟨mb, 7, none⟩ (.slice A j c)) := by
  obtain ⟨⟨V2, hm⟩, h0, h1, h2, hf⟩ := h
  have e := hm.c9.2.2.2.2.2.2.2.1
  rw [h7] at e
  obtain rfl := Option.some.inj e
  have hl : (s.at_ (j + 1) k).chg.length = j + 1 := by simp [Ms.at_]; omega
  have hA : ∃ g, A = some ⟨g, 0, none⟩ := by
    have hc := hm.cg
    rw [hl] at hc
    rcases own_at hc with ⟨_, h0⟩ | ⟨g, c, hv, _⟩
    · omega
    · exact ⟨g, (Value.slice.inj hv).1⟩
  obtain ⟨g, rfl⟩ := hA
  have hb := hm.blk
  exact ⟨⟨_, mch_pop hm hj⟩, h0.far (h0.ne_ hb (by decide)) _, h1.far (h1.ne_ hb (by decide)) _, h2.far (h2.ne_ hb (by decide)) _, hf.set_ (.inr ⟨hm.low, .inl rfl⟩) _⟩
theorem Un.blk (h : Un n₀ mb F S cv uv V1 V3 s w b0 b1 b2 n j k W) : ∃ cs, Blk W mb 108 cs := by
  obtain ⟨⟨V2, hm⟩, _⟩ := h
  exact ⟨_, hm.blk⟩
theorem Un.len (h : Un n₀ mb F S cv uv V1 V3 s w b0 b1 b2 n j k W) (hj : j ≤ s.chg.length) : lenAt mb W = j := by
  obtain ⟨⟨V2, hm⟩, _⟩ := h
  obtain ⟨A, c, rfl, _⟩ := cg_at hm hj
  unfold lenAt
  rw [hm.c9.2.2.2.2.2.2.2.1]
def encC (s : Ms) (k : Nat) : Array Value := #[.agg #[.int .i64 ((s.chg.getD k (0, 0)).1 : Nat), .int .i64 (s.chg.getD k (0, 0)).2]]

set_option maxRecDepth 100000 in
set_option maxHeartbeats 2000000 in
theorem taken1_in (m : Nat) (hm : 2 ≤ m) (l : Nat) (B : World → Prop) (hB : ∀ W1 W2, B W1 → Nc W1 W2 → B W2) (hlen : s.chg.length ≤ 100000000) (hn : n ≤ s.chg.length)
    (hY : ∀ k W1, (Un n₀ mb F S cv uv V1 V3 s w b0 b1 b2 n k (k + 1) W1 ∧ n ≤ k ∧ k < s.chg.length) → B W1 → YieldAt Fence.wide (m - 1) Tryz.prog l (encC s k) W1 fun e W' => e = .returned (.bool true) ∧ (Un n₀ mb F S cv uv V1 V3 s w b0 b1 b2 n k k W' ∧ n ≤ k ∧ k < s.chg.length) ∧ B W')
    (h0 : Un n₀ mb F S cv uv V1 V3 s w b0 b1 b2 n s.chg.length s.chg.length W) (hb : B W) :
    CallsIn Fence.wide m Tryz.prog 105 #[.func (.yield l) #[] #[], .pointer (some ⟨b1, 0, none⟩), .pointer (some ⟨b2, 0, none⟩)] W fun e W' => (∃ v, e = .returned v) ∧ Un n₀ mb F S cv uv V1 V3 s w b0 b1 b2 n n n W' ∧ B W' := by
  have HY := Lib.hid hY
  have HB := Lib.hid hB
  clear hY hB
  refine callsIn_of_wp Tryz.func105 rfl trivial ?_ rfl
  simp only [Tryz.ntmps105, List.size_toArray, List.length_cons, List.length_nil, Nat.reduceAdd, Nat.reduceSub, Array.replicate_succ, Array.replicate_zero, List.push_toArray, List.append_toArray, List.nil_append, List.cons_append]
  gi_wp2
  gi_loopw [] (fun wr => ∃ k : Nat, n ≤ k ∧ k ≤ s.chg.length ∧ Un n₀ mb F S cv uv V1 V3 s w b0 b1 b2 n k k wr ∧ B wr) (fun wr => lenAt mb wr)
  case atStart => exact ⟨_, hn, Nat.le_refl _, h0, hb⟩
  case round =>
    obtain ⟨k, hk1, hk2, hU, hBw⟩ := hrel
    have HU := Lib.hid hU
    have HBw := Lib.hid hBw
    obtain ⟨⟨V2, hm2⟩, m0, m1, m2, hf⟩ := hU
    obtain ⟨A, c, rfl, hjc, hcells⟩ := cg_at hm2 hk2
    obtain ⟨_, _, _, _, _, _, _, c7, _⟩ := hm2.c9
    have f7 := hm2.fz 7
    have c1 := m1.cell 0
    have c2 := m2.cell 0
    simp only [List.getElem?_toArray, List.getElem?_cons_zero] at c1 c2
    by_cases hlt : n < k
    · obtain ⟨j, rfl⟩ : ∃ j, k = j + 1 := ⟨k - 1, by omega⟩
      obtain ⟨g, rfl, hg, d0, d1⟩ := hcells j (by omega)
      have HUd := Lib.hid HU.out.drew
      have HU0 := Lib.hid HU.out
      have HBd := Lib.hid (HB.out _ _ HBw.out (Nc.drew wr))
      have HE := Lib.hid (rfl : encC s j = encC s j)
      generalize hw1 : (s.chg.getD j (0, 0)).1 = a1 at *
      generalize hw2 : (s.chg.getD j (0, 0)).2 = a2 at *
      clear hcells hm2 m0 m1 m2 hf hBw
      gi_wp2
      gi_region
      gi_wp2
      have HUa := Lib.hid (HU.out.alloc (.cells #[.int .i64 (a1 : Nat), .int .i64 a2] 136)).drew
      have HBa := Lib.hid (HB.out _ _ (HB.out _ _ HBw.out (Nc.alloc wr (.cells #[.int .i64 (a1 : Nat), .int .i64 a2] 136))) (Nc.drew _))
      have HCa : Hid (Blk (wr.alloc (.cells #[.int .i64 (a1 : Nat), .int .i64 a2] 136)).drew wr.heap.size 136 #[.int .i64 (a1 : Nat), .int .i64 a2]) := Lib.hid (Blk.new wr 136 #[.int .i64 (a1 : Nat), .int .i64 a2])
      clear HUd HBd HU HBw c7 f7 c1 c2 d0 d1
      generalize (wr.alloc (.cells #[.int .i64 (a1 : Nat), .int .i64 a2] 136)).drew = Wa at *
      obtain ⟨⟨V2, hm2⟩, m0, m1, m2, hf⟩ := HUa.out
      obtain ⟨A, c', rfl, hjc', hcells⟩ := cg_at hm2 hk2
      have c7 := hm2.c9.2.2.2.2.2.2.2.1
      have f7 := hm2.fz 7
      have c1 := m1.cell 0
      have e0 := HCa.out.cell 0
      have e1 := HCa.out.cell 1
      simp only [List.getElem?_toArray, List.getElem?_cons_zero, List.getElem?_cons_succ] at c1 e0 e1
      clear hcells hm2 m0 m1 m2 hf
      gi_region
      have HUb := Lib.hid (HUa.out.pop hk2 c7).drew
      have hbm := HUa.out.blk
      have HBb : Hid (B (Wa.setCell ⟨mb, 7, none⟩ (.slice A j c')).drew) := Lib.hid (by obtain ⟨cs, hbm⟩ := hbm; exact HB.out _ _ (HB.out _ _ HBa.out (Nc.set_ hbm _ _)) (Nc.drew _))
      have HCb : Hid (Blk (Wa.setCell ⟨mb, 7, none⟩ (.slice A j c')).drew wr.heap.size 136 #[.int .i64 (a1 : Nat), .int .i64 a2]) := Lib.hid (by obtain ⟨cs, hbm⟩ := hbm; exact HCa.out.far (HCa.out.ne_ hbm (by decide)) _)
      have hl0 := HU0.out.len hk2
      clear hbm c7 f7 c1 e0 e1 HUa HBa HCa
      generalize (Wa.setCell ⟨mb, 7, none⟩ (.slice A j c')).drew = Wb at *
      obtain ⟨fn, tmps, assign, body, hy, hR⟩ := HY.out j Wb ⟨HUb.out, by omega, by omega⟩ HBb.out
      have hen : encC s j = #[.agg #[.int .i64 (a1 : Nat), .int .i64 a2]] := by unfold encC; rw [hw1, hw2]
      rw [hen] at hy
      have e0 := HCb.out.cell 0
      have e1 := HCb.out.cell 1
      simp only [List.getElem?_toArray, List.getElem?_cons_zero, List.getElem?_cons_succ] at e0 e1
      gi_wp2
      refine ⟨fun _ => by omega, hR.mono ?_⟩
      rintro e W3 ⟨rfl, ⟨hU3, _, _⟩, hB3⟩
      have HU3 := Lib.hid hU3
      have hl3 := HU3.out.len (by omega)
      clear hU3
      gi_wp2
      go_roundw
      case rel => exact ⟨j, by omega, by omega, HU3.out, hB3⟩
      case measure => rw [hl3, hl0]; omega
    · obtain rfl : n = k := by omega
      have HUo := HU.out.drew
      clear HU hm2 m0 m1 m2 hf hcells hBw
      gi_wp2
      gi_region
      gi_wp2
      go_end0
      exact ⟨⟨_, rfl⟩, HUo, HB.out _ _ HBw.out (Nc.drew _)⟩

set_option maxHeartbeats 1000000 in
theorem taken_in (m : Nat) (W : World) (b : Nat) : CallsIn Fence.wide m Tryz.prog 83 #[.pointer (some ⟨b, 0, none⟩), .int .i64 (n : Nat)] W fun e w' => e = .returned (.func (.func 105) #[] #[.pointer (some ⟨W.heap.size, 0, none⟩), .pointer (some ⟨W.heap.size + 1, 0, none⟩)]) ∧ w' = (W.alloc (.cells #[.pointer (some ⟨b, 0, none⟩)] 87)).alloc (.cells #[.int .i64 (n : Nat)] 3) := by
  refine callsIn_of_wp Tryz.func83 rfl trivial ?_ rfl
  simp only [Tryz.ntmps83, List.size_toArray, List.length_cons, List.length_nil, Nat.reduceAdd, Nat.reduceSub, Array.replicate_succ, Array.replicate_zero, List.push_toArray, List.append_toArray, List.nil_append, List.cons_append]
  gi_wp2
  go_ret
  exact ⟨rfl, rfl⟩

set_option maxRecDepth 100000 in
set_option maxHeartbeats 2000000 in
theorem undo_any (h : Mch n₀ w mb cv uv F S s V1 V2 V3) (hn : n ≤ s.chg.length) (hlen : s.chg.length ≤ 100000000) (hs : ∀ c ∈ s.chg, c.1 < s.sl.length) (hsl : 0 < s.sl.length ∧ s.sl.length ≤ 100000) :
    Calls Tryz.prog 65 #[.pointer (some ⟨mb, 0, none⟩), .int .i64 (n : Nat)] w fun e w' => (∃ v, e = .returned v) ∧ (∃ V2', Mch n₀ w' mb cv uv F S (s.undo n) V1 V2' V3) ∧ FrV n₀ mb mb w w' := by
  have HM := Lib.hid h
  have hmb := h.blk.lt
  have HS := Lib.hid hs
  obtain ⟨g1, c1, rfl, hc1, hg1⟩ : ∃ g c, V1 = .slice (some ⟨g, 0, none⟩) s.sl.length c ∧ s.sl.length ≤ c ∧ g < w.heap.size := by
    rcases own_at h.sl with ⟨_, h0⟩ | ⟨g, c, hv, hc, _, ⟨cs, z, hh⟩, _⟩
    · omega
    · exact ⟨g, c, hv, hc, lt_of_some hh⟩
  have HG1 := Lib.hid hg1
  clear h hs
  refine (callsIn_wide (n := 5)).1 ?_
  refine callsIn_of_wp_marks Tryz.func65 rfl trivial ?_ rfl
  simp only [Tryz.ntmps65, List.size_toArray, List.length_cons, List.length_nil, Nat.reduceAdd, Nat.reduceSub, Array.replicate_succ, Array.replicate_zero, List.push_toArray, List.append_toArray, List.nil_append, List.cons_append]
  gi_wp2_with fail
  refine ⟨trivial, (taken_in _ _ _).mono ?_⟩
  rintro e w' ⟨rfl, rfl⟩
  gi_wp2_with fail
  obtain ⟨W0, hW0⟩ : ∃ W0, ((w.alloc (.cells #[.pointer (some ⟨mb, 0, none⟩)] 87)).alloc (.cells #[.pointer (some ⟨mb, 0, none⟩)] 87)).alloc (.cells #[.int .i64 (n : Nat)] 3) = W0 := ⟨_, rfl⟩
  have hU0 : Un n₀ mb F S cv uv (.slice (some ⟨g1, 0, none⟩) s.sl.length c1) V3 s w w.heap.size (w.heap.size + 1) (w.heap.size + 1 + 1) n s.chg.length s.chg.length W0 := by
    have e0 := Blk.new w 87 #[.pointer (some ⟨mb, 0, none⟩)]
    have e1 := Blk.new (w.alloc (.cells #[.pointer (some ⟨mb, 0, none⟩)] 87)) 87 #[.pointer (some ⟨mb, 0, none⟩)]
    have e2 := Blk.new ((w.alloc (.cells #[.pointer (some ⟨mb, 0, none⟩)] 87)).alloc (.cells #[.pointer (some ⟨mb, 0, none⟩)] 87)) 3 #[.int .i64 (n : Nat)]
    rw [World.size_alloc, World.size_alloc] at e2
    rw [World.size_alloc] at e1
    rw [← hW0]
    exact ⟨⟨V2, by rw [at_self]; exact ((HM.out.alloc _).alloc _).alloc _⟩, (e0.alloc _).alloc _, e1.alloc _, e2, (((FrV.refl w).alloc _).alloc _).alloc _⟩
  have hsz : w.heap.size ≤ W0.heap.size := hU0.fr.size
  rw [hW0]
  have HU0 := Lib.hid hU0
  have HSz := Lib.hid hsz
  clear hU0 hsz hW0
  refine range_st rfl (by omega) (gf := 105) (lb := #[.pointer (some ⟨w.heap.size + 1, 0, none⟩), .pointer (some ⟨w.heap.size + 1 + 1, 0, none⟩)]) rfl trivial (enters_of Tryz.func105 (by kernel_rfl) rfl) (encC s) (fun _ => rfl)
    (fun k W => Un n₀ mb F S cv uv (.slice (some ⟨g1, 0, none⟩) s.sl.length c1) V3 s w w.heap.size (w.heap.size + 1) (w.heap.size + 1 + 1) n k (k + 1) W ∧ n ≤ k ∧ k < s.chg.length)
    (fun k W => Un n₀ mb F S cv uv (.slice (some ⟨g1, 0, none⟩) s.sl.length c1) V3 s w w.heap.size (w.heap.size + 1) (w.heap.size + 1 + 1) n k k W ∧ n ≤ k ∧ k < s.chg.length)
    (fun k a' W => ∃ (b a1 : Nat) (a2 : Int), (Un n₀ mb F S cv uv (.slice (some ⟨g1, 0, none⟩) s.sl.length c1) V3 s w w.heap.size (w.heap.size + 1) (w.heap.size + 1 + 1) n k (k + 1) W ∧ n ≤ k ∧ k < s.chg.length) ∧ s.chg[k]? = some (a1, a2) ∧ Blk W b 136 #[.int .i64 (a1 : Nat), .int .i64 a2] ∧
      a' = { tmps := #[.pointer (some ⟨mb, 0, none⟩), .int .i64 (n : Nat), .pointer (some ⟨w.heap.size, 0, none⟩), undef, .pointer (some ⟨b, 0, none⟩), .pointer (some ⟨mb, 0, none⟩), .int .i64 (n : Nat), .func (.func 105) #[] #[.pointer (some ⟨w.heap.size + 1, 0, none⟩), .pointer (some ⟨w.heap.size + 1 + 1, 0, none⟩)], .agg #[.int .i64 (a1 : Nat), .int .i64 a2], undef, undef, undef, undef, undef, undef, undef, undef, undef], defers := [] })
    (fun W => Un n₀ mb F S cv uv (.slice (some ⟨g1, 0, none⟩) s.sl.length c1) V3 s w w.heap.size (w.heap.size + 1) (w.heap.size + 1 + 1) n n n W)
    ?sa ?sb ?sz ?hit ?assign ?body ?done
  case sa =>
    rintro k a' W l o o' ⟨b, a1, a2, ⟨hU, h1, h2⟩, h3, h4, h5⟩ hl ho hc
    exact ⟨b, a1, a2, ⟨hU.putObj o' (Nat.le_trans HSz.out hl) ho hc, h1, h2⟩, h3, putObj_cells ho hc h4, h5⟩
  case sb =>
    rintro k W l o o' ⟨hU, h1, h2⟩ hl ho hc
    exact ⟨hU.putObj o' (Nat.le_trans HSz.out hl) ho hc, h1, h2⟩
  case sz =>
    rintro W l o o' hU hl ho hc
    exact hU.putObj o' (Nat.le_trans HSz.out hl) ho hc
  case hit =>
    intro l B W hbel hB hBn hY
    exact taken1_in 4 (by omega) l B hBn hlen hn hY (HU0.out.on hbel) hB
  case assign =>
    rintro l k W K1 ⟨hU, h1, h2⟩ hK
    have hg : s.chg[k]? = some s.chg[k] := List.getElem?_eq_getElem h2
    have hen : encC s k = #[.agg #[.int .i64 (s.chg[k].1 : Nat), .int .i64 s.chg[k].2]] := by unfold encC; rw [getD_some hg]
    rw [hen]
    have HK := Lib.hid (hK { tmps := #[.pointer (some ⟨mb, 0, none⟩), .int .i64 (n : Nat), .pointer (some ⟨w.heap.size, 0, none⟩), undef, .pointer (some ⟨W.heap.size, 0, none⟩), .pointer (some ⟨mb, 0, none⟩), .int .i64 (n : Nat), .func (.func 105) #[] #[.pointer (some ⟨w.heap.size + 1, 0, none⟩), .pointer (some ⟨w.heap.size + 1 + 1, 0, none⟩)], .agg #[.int .i64 (s.chg[k].1 : Nat), .int .i64 s.chg[k].2], undef, undef, undef, undef, undef, undef, undef, undef, undef], defers := [] } (W.alloc (.cells #[.int .i64 (s.chg[k].1 : Nat), .int .i64 s.chg[k].2] 136)) ⟨W.heap.size, s.chg[k].1, s.chg[k].2, ⟨hU.alloc _, h1, h2⟩, hg, Blk.new _ _ _, rfl⟩ (Nc.alloc _ _))
    clear hK hU
    generalize s.chg[k].1 = a1 at *
    generalize s.chg[k].2 = a2 at *
    gi_wp2
    exact HK.out
  case body =>
    rintro l k a' W ⟨b, a1, a2, ⟨hU, h1, h2⟩, h3, h4, rfl⟩
    have HU := Lib.hid hU
    have HB := Lib.hid h4
    obtain ⟨⟨V2', hm⟩, m0, m1, m2, hf⟩ := hU
    have c0 := m0.cell 0
    have e0 := h4.cell 0
    have e1 := h4.cell 1
    simp only [List.getElem?_toArray, List.getElem?_cons_zero, List.getElem?_cons_succ] at c0 e0 e1
    have c6 := hm.c9.2.2.2.2.2.2.1
    have hlt : a1 < s.sl.length := HS.out _ (List.mem_of_getElem? h3)
    have hlti : (a1 : Int) < (s.sl.length : Int) := by omega
    have hlen1 : (s.at_ k (k + 1)).sl.length = s.sl.length := undoL_len _ _
    have f6 : W.frozen? ⟨g1, a1, none⟩ = false ∧ ∃ u0, W.cell? ⟨g1, a1, none⟩ = some (.int .i64 u0) := by
      rcases own_at hm.sl with ⟨hv, _⟩ | ⟨g, c, hv, _, _, _, hcell, hfz⟩
      · cases hv
      · have e := (Value.slice.inj hv).1
        obtain ⟨rfl⟩ : g1 = g := by simpa using e
        have hb : a1 < (s.at_ k (k + 1)).sl.length := by rw [hlen1]; exact hlt
        exact ⟨hfz a1, _, (hcell a1 (by omega)).trans (zI_get (List.getElem?_eq_getElem hb))⟩
    obtain ⟨f6, u0, e6⟩ := f6
    clear hm m0 m1 m2 hf h4
    have HFin : Hid ((Un n₀ mb F S cv uv (.slice (some ⟨g1, 0, none⟩) s.sl.length c1) V3 s w w.heap.size (w.heap.size + 1) (w.heap.size + 1 + 1) n k k (W.drew.setCell ⟨g1, a1, none⟩ (.int .i64 a2)) ∧ n ≤ k ∧ k < s.chg.length) ∧ Nc W (W.drew.setCell ⟨g1, a1, none⟩ (.int .i64 a2))) := Lib.hid ⟨⟨HU.out.drew.body h3 (by have := HG1.out; omega), h1, h2⟩, (Nc.drew W).trans (HU.out.drew.ncSlot a1 _)⟩
    have hmx : Tryz.prog.follows .mixedOrders = true := by kernel_rfl
    gi_wp2
    refine region_round rfl hmx (by kernel_rfl) ?_
    have hcd : W.drew.cell? ⟨g1, a1, none⟩ = some (.int .i64 u0) := e6
    refine wpAnyIn_take (i := 4) (v := .pointer (some ⟨b, 0, none⟩)) rfl rfl (by kernel_rfl) (by kernel_rfl) (by kernel_rfl) (fun _ _ _ h => h) ⟨Or.inl ⟨by rfl, (by intro w; go_simp)⟩, fun _ => rfl⟩ ?_
    refine wpAnyIn_take (i := 6) (v := .pointer (some ⟨b, 1, none⟩)) rfl rfl (by kernel_rfl) (by kernel_rfl) (by kernel_rfl) (fun _ _ _ h => h) ⟨Or.inl ⟨by rfl, (by intro w; go_simp)⟩, fun _ => rfl⟩ ?_
    refine wpAnyIn_ready (rs := [0, 5, 7]) (by kernel_rfl) (by simp) ?_
    refine AllReadyIn.cons rfl (fun K hK => ?_) ?_
    · go_simp
      refine hK _ _ ?_
      clear hK K
      refine wpAnyIn_take (i := 1) (v := .pointer (some ⟨mb, 0, none⟩)) rfl rfl (by kernel_rfl) (by kernel_rfl) (by kernel_rfl) (fun _ _ _ h => h) ⟨Or.inl ⟨by rfl, (by intro w; go_simp)⟩, fun _ => rfl⟩ ?_
      refine wpAnyIn_take (i := 2) (v := .pointer (some ⟨mb, 6, none⟩)) rfl rfl (by kernel_rfl) (by kernel_rfl) (by kernel_rfl) (fun _ _ _ h => h) ⟨Or.inl ⟨by rfl, (by intro w; go_simp)⟩, fun _ => rfl⟩ ?_
      refine wpAnyIn_ready (rs := [3, 5, 7]) (by kernel_rfl) (by simp) ?_
      refine AllReadyIn.cons rfl (fun K hK => ?_) ?_
      · go_simp
        refine hK _ _ ?_
        clear hK K
        refine wpAnyIn_ready (rs := [5, 7]) (by kernel_rfl) (by simp) ?_
        refine AllReadyIn.cons rfl (fun K hK => ?_) ?_
        · go_simp
          refine hK _ _ ?_
          clear hK K
          refine wpAnyIn_ready (rs := [7]) (by kernel_rfl) (by simp) ?_
          refine AllReadyIn.cons rfl (fun K hK => ?_) ?_
          · go_simp
            refine hK _ _ ?_
            clear hK K
            refine wpAnyIn_take (i := 8) (v := .pointer (some ⟨g1, a1, none⟩)) rfl rfl (by kernel_rfl) (by kernel_rfl) (by kernel_rfl) (fun _ _ _ h => h) ⟨Or.inl ⟨by rfl, (by intro w; go_simp)⟩, fun _ => rfl⟩ ?_
            refine wpAnyIn_ready (rs := [9]) (by kernel_rfl) (by simp) ?_
            refine AllReadyIn.cons rfl (fun K hK => ?_) ?_
            · go_simp
              refine hK _ _ ?_
              clear hK K
              refine wpAnyIn_done (by kernel_rfl) ?_ _
              exact ⟨rfl, HFin.out.1, HFin.out.2⟩
            exact AllReadyIn.nil
          exact AllReadyIn.nil
        refine AllReadyIn.cons rfl (fun K hK => ?_) ?_
        · go_simp
          refine hK _ _ ?_
          clear hK K
          refine wpAnyIn_ready (rs := [5]) (by kernel_rfl) (by simp) ?_
          refine AllReadyIn.cons rfl (fun K hK => ?_) ?_
          · go_simp
            refine hK _ _ ?_
            clear hK K
            refine wpAnyIn_take (i := 8) (v := .pointer (some ⟨g1, a1, none⟩)) rfl rfl (by kernel_rfl) (by kernel_rfl) (by kernel_rfl) (fun _ _ _ h => h) ⟨Or.inl ⟨by rfl, (by intro w; go_simp)⟩, fun _ => rfl⟩ ?_
            refine wpAnyIn_ready (rs := [9]) (by kernel_rfl) (by simp) ?_
            refine AllReadyIn.cons rfl (fun K hK => ?_) ?_
            · go_simp
              refine hK _ _ ?_
              clear hK K
              refine wpAnyIn_done (by kernel_rfl) ?_ _
              exact ⟨rfl, HFin.out.1, HFin.out.2⟩
            exact AllReadyIn.nil
          exact AllReadyIn.nil
        exact AllReadyIn.nil
      refine AllReadyIn.cons rfl (fun K hK => ?_) ?_
      · go_simp
        refine hK _ _ ?_
        clear hK K
        refine wpAnyIn_ready (rs := [3, 7]) (by kernel_rfl) (by simp) ?_
        refine AllReadyIn.cons rfl (fun K hK => ?_) ?_
        · go_simp
          refine hK _ _ ?_
          clear hK K
          refine wpAnyIn_ready (rs := [7]) (by kernel_rfl) (by simp) ?_
          refine AllReadyIn.cons rfl (fun K hK => ?_) ?_
          · go_simp
            refine hK _ _ ?_
            clear hK K
            refine wpAnyIn_take (i := 8) (v := .pointer (some ⟨g1, a1, none⟩)) rfl rfl (by kernel_rfl) (by kernel_rfl) (by kernel_rfl) (fun _ _ _ h => h) ⟨Or.inl ⟨by rfl, (by intro w; go_simp)⟩, fun _ => rfl⟩ ?_
            refine wpAnyIn_ready (rs := [9]) (by kernel_rfl) (by simp) ?_
            refine AllReadyIn.cons rfl (fun K hK => ?_) ?_
            · go_simp
              refine hK _ _ ?_
              clear hK K
              refine wpAnyIn_done (by kernel_rfl) ?_ _
              exact ⟨rfl, HFin.out.1, HFin.out.2⟩
            exact AllReadyIn.nil
          exact AllReadyIn.nil
        refine AllReadyIn.cons rfl (fun K hK => ?_) ?_
        · go_simp
          refine hK _ _ ?_
          clear hK K
          refine wpAnyIn_ready (rs := [3]) (by kernel_rfl) (by simp) ?_
          refine AllReadyIn.cons rfl (fun K hK => ?_) ?_
          · go_simp
            refine hK _ _ ?_
            clear hK K
            refine wpAnyIn_take (i := 8) (v := .pointer (some ⟨g1, a1, none⟩)) rfl rfl (by kernel_rfl) (by kernel_rfl) (by kernel_rfl) (fun _ _ _ h => h) ⟨Or.inl ⟨by rfl, (by intro w; go_simp)⟩, fun _ => rfl⟩ ?_
            refine wpAnyIn_ready (rs := [9]) (by kernel_rfl) (by simp) ?_
            refine AllReadyIn.cons rfl (fun K hK => ?_) ?_
            · go_simp
              refine hK _ _ ?_
              clear hK K
              refine wpAnyIn_done (by kernel_rfl) ?_ _
              exact ⟨rfl, HFin.out.1, HFin.out.2⟩
            exact AllReadyIn.nil
          exact AllReadyIn.nil
        exact AllReadyIn.nil
      refine AllReadyIn.cons rfl (fun K hK => ?_) ?_
      · go_simp
        refine hK _ _ ?_
        clear hK K
        refine wpAnyIn_ready (rs := [3, 5]) (by kernel_rfl) (by simp) ?_
        refine AllReadyIn.cons rfl (fun K hK => ?_) ?_
        · go_simp
          refine hK _ _ ?_
          clear hK K
          refine wpAnyIn_ready (rs := [5]) (by kernel_rfl) (by simp) ?_
          refine AllReadyIn.cons rfl (fun K hK => ?_) ?_
          · go_simp
            refine hK _ _ ?_
            clear hK K
            refine wpAnyIn_take (i := 8) (v := .pointer (some ⟨g1, a1, none⟩)) rfl rfl (by kernel_rfl) (by kernel_rfl) (by kernel_rfl) (fun _ _ _ h => h) ⟨Or.inl ⟨by rfl, (by intro w; go_simp)⟩, fun _ => rfl⟩ ?_
            refine wpAnyIn_ready (rs := [9]) (by kernel_rfl) (by simp) ?_
            refine AllReadyIn.cons rfl (fun K hK => ?_) ?_
            · go_simp
              refine hK _ _ ?_
              clear hK K
              refine wpAnyIn_done (by kernel_rfl) ?_ _
              exact ⟨rfl, HFin.out.1, HFin.out.2⟩
            exact AllReadyIn.nil
          exact AllReadyIn.nil
        refine AllReadyIn.cons rfl (fun K hK => ?_) ?_
        · go_simp
          refine hK _ _ ?_
          clear hK K
          refine wpAnyIn_ready (rs := [3]) (by kernel_rfl) (by simp) ?_
          refine AllReadyIn.cons rfl (fun K hK => ?_) ?_
          · go_simp
            refine hK _ _ ?_
            clear hK K
            refine wpAnyIn_take (i := 8) (v := .pointer (some ⟨g1, a1, none⟩)) rfl rfl (by kernel_rfl) (by kernel_rfl) (by kernel_rfl) (fun _ _ _ h => h) ⟨Or.inl ⟨by rfl, (by intro w; go_simp)⟩, fun _ => rfl⟩ ?_
            refine wpAnyIn_ready (rs := [9]) (by kernel_rfl) (by simp) ?_
            refine AllReadyIn.cons rfl (fun K hK => ?_) ?_
            · go_simp
              refine hK _ _ ?_
              clear hK K
              refine wpAnyIn_done (by kernel_rfl) ?_ _
              exact ⟨rfl, HFin.out.1, HFin.out.2⟩
            exact AllReadyIn.nil
          exact AllReadyIn.nil
        exact AllReadyIn.nil
      exact AllReadyIn.nil
    refine AllReadyIn.cons rfl (fun K hK => ?_) ?_
    · go_simp
      refine hK _ _ ?_
      clear hK K
      refine wpAnyIn_ready (rs := [0, 7]) (by kernel_rfl) (by simp) ?_
      refine AllReadyIn.cons rfl (fun K hK => ?_) ?_
      · go_simp
        refine hK _ _ ?_
        clear hK K
        refine wpAnyIn_take (i := 1) (v := .pointer (some ⟨mb, 0, none⟩)) rfl rfl (by kernel_rfl) (by kernel_rfl) (by kernel_rfl) (fun _ _ _ h => h) ⟨Or.inl ⟨by rfl, (by intro w; go_simp)⟩, fun _ => rfl⟩ ?_
        refine wpAnyIn_take (i := 2) (v := .pointer (some ⟨mb, 6, none⟩)) rfl rfl (by kernel_rfl) (by kernel_rfl) (by kernel_rfl) (fun _ _ _ h => h) ⟨Or.inl ⟨by rfl, (by intro w; go_simp)⟩, fun _ => rfl⟩ ?_
        refine wpAnyIn_ready (rs := [3, 7]) (by kernel_rfl) (by simp) ?_
        refine AllReadyIn.cons rfl (fun K hK => ?_) ?_
        · go_simp
          refine hK _ _ ?_
          clear hK K
          refine wpAnyIn_ready (rs := [7]) (by kernel_rfl) (by simp) ?_
          refine AllReadyIn.cons rfl (fun K hK => ?_) ?_
          · go_simp
            refine hK _ _ ?_
            clear hK K
            refine wpAnyIn_take (i := 8) (v := .pointer (some ⟨g1, a1, none⟩)) rfl rfl (by kernel_rfl) (by kernel_rfl) (by kernel_rfl) (fun _ _ _ h => h) ⟨Or.inl ⟨by rfl, (by intro w; go_simp)⟩, fun _ => rfl⟩ ?_
            refine wpAnyIn_ready (rs := [9]) (by kernel_rfl) (by simp) ?_
            refine AllReadyIn.cons rfl (fun K hK => ?_) ?_
            · go_simp
              refine hK _ _ ?_
              clear hK K
              refine wpAnyIn_done (by kernel_rfl) ?_ _
              exact ⟨rfl, HFin.out.1, HFin.out.2⟩
            exact AllReadyIn.nil
          exact AllReadyIn.nil
        refine AllReadyIn.cons rfl (fun K hK => ?_) ?_
        · go_simp
          refine hK _ _ ?_
          clear hK K
          refine wpAnyIn_ready (rs := [3]) (by kernel_rfl) (by simp) ?_
          refine AllReadyIn.cons rfl (fun K hK => ?_) ?_
          · go_simp
            refine hK _ _ ?_
            clear hK K
            refine wpAnyIn_take (i := 8) (v := .pointer (some ⟨g1, a1, none⟩)) rfl rfl (by kernel_rfl) (by kernel_rfl) (by kernel_rfl) (fun _ _ _ h => h) ⟨Or.inl ⟨by rfl, (by intro w; go_simp)⟩, fun _ => rfl⟩ ?_
            refine wpAnyIn_ready (rs := [9]) (by kernel_rfl) (by simp) ?_
            refine AllReadyIn.cons rfl (fun K hK => ?_) ?_
            · go_simp
              refine hK _ _ ?_
              clear hK K
              refine wpAnyIn_done (by kernel_rfl) ?_ _
              exact ⟨rfl, HFin.out.1, HFin.out.2⟩
            exact AllReadyIn.nil
          exact AllReadyIn.nil
        exact AllReadyIn.nil
      refine AllReadyIn.cons rfl (fun K hK => ?_) ?_
      · go_simp
        refine hK _ _ ?_
        clear hK K
        refine wpAnyIn_ready (rs := [0]) (by kernel_rfl) (by simp) ?_
        refine AllReadyIn.cons rfl (fun K hK => ?_) ?_
        · go_simp
          refine hK _ _ ?_
          clear hK K
          refine wpAnyIn_take (i := 1) (v := .pointer (some ⟨mb, 0, none⟩)) rfl rfl (by kernel_rfl) (by kernel_rfl) (by kernel_rfl) (fun _ _ _ h => h) ⟨Or.inl ⟨by rfl, (by intro w; go_simp)⟩, fun _ => rfl⟩ ?_
          refine wpAnyIn_take (i := 2) (v := .pointer (some ⟨mb, 6, none⟩)) rfl rfl (by kernel_rfl) (by kernel_rfl) (by kernel_rfl) (fun _ _ _ h => h) ⟨Or.inl ⟨by rfl, (by intro w; go_simp)⟩, fun _ => rfl⟩ ?_
          refine wpAnyIn_ready (rs := [3]) (by kernel_rfl) (by simp) ?_
          refine AllReadyIn.cons rfl (fun K hK => ?_) ?_
          · go_simp
            refine hK _ _ ?_
            clear hK K
            refine wpAnyIn_take (i := 8) (v := .pointer (some ⟨g1, a1, none⟩)) rfl rfl (by kernel_rfl) (by kernel_rfl) (by kernel_rfl) (fun _ _ _ h => h) ⟨Or.inl ⟨by rfl, (by intro w; go_simp)⟩, fun _ => rfl⟩ ?_
            refine wpAnyIn_ready (rs := [9]) (by kernel_rfl) (by simp) ?_
            refine AllReadyIn.cons rfl (fun K hK => ?_) ?_
            · go_simp
              refine hK _ _ ?_
              clear hK K
              refine wpAnyIn_done (by kernel_rfl) ?_ _
              exact ⟨rfl, HFin.out.1, HFin.out.2⟩
            exact AllReadyIn.nil
          exact AllReadyIn.nil
        exact AllReadyIn.nil
      exact AllReadyIn.nil
    refine AllReadyIn.cons rfl (fun K hK => ?_) ?_
    · go_simp
      refine hK _ _ ?_
      clear hK K
      refine wpAnyIn_ready (rs := [0, 5]) (by kernel_rfl) (by simp) ?_
      refine AllReadyIn.cons rfl (fun K hK => ?_) ?_
      · go_simp
        refine hK _ _ ?_
        clear hK K
        refine wpAnyIn_take (i := 1) (v := .pointer (some ⟨mb, 0, none⟩)) rfl rfl (by kernel_rfl) (by kernel_rfl) (by kernel_rfl) (fun _ _ _ h => h) ⟨Or.inl ⟨by rfl, (by intro w; go_simp)⟩, fun _ => rfl⟩ ?_
        refine wpAnyIn_take (i := 2) (v := .pointer (some ⟨mb, 6, none⟩)) rfl rfl (by kernel_rfl) (by kernel_rfl) (by kernel_rfl) (fun _ _ _ h => h) ⟨Or.inl ⟨by rfl, (by intro w; go_simp)⟩, fun _ => rfl⟩ ?_
        refine wpAnyIn_ready (rs := [3, 5]) (by kernel_rfl) (by simp) ?_
        refine AllReadyIn.cons rfl (fun K hK => ?_) ?_
        · go_simp
          refine hK _ _ ?_
          clear hK K
          refine wpAnyIn_ready (rs := [5]) (by kernel_rfl) (by simp) ?_
          refine AllReadyIn.cons rfl (fun K hK => ?_) ?_
          · go_simp
            refine hK _ _ ?_
            clear hK K
            refine wpAnyIn_take (i := 8) (v := .pointer (some ⟨g1, a1, none⟩)) rfl rfl (by kernel_rfl) (by kernel_rfl) (by kernel_rfl) (fun _ _ _ h => h) ⟨Or.inl ⟨by rfl, (by intro w; go_simp)⟩, fun _ => rfl⟩ ?_
            refine wpAnyIn_ready (rs := [9]) (by kernel_rfl) (by simp) ?_
            refine AllReadyIn.cons rfl (fun K hK => ?_) ?_
            · go_simp
              refine hK _ _ ?_
              clear hK K
              refine wpAnyIn_done (by kernel_rfl) ?_ _
              exact ⟨rfl, HFin.out.1, HFin.out.2⟩
            exact AllReadyIn.nil
          exact AllReadyIn.nil
        refine AllReadyIn.cons rfl (fun K hK => ?_) ?_
        · go_simp
          refine hK _ _ ?_
          clear hK K
          refine wpAnyIn_ready (rs := [3]) (by kernel_rfl) (by simp) ?_
          refine AllReadyIn.cons rfl (fun K hK => ?_) ?_
          · go_simp
            refine hK _ _ ?_
            clear hK K
            refine wpAnyIn_take (i := 8) (v := .pointer (some ⟨g1, a1, none⟩)) rfl rfl (by kernel_rfl) (by kernel_rfl) (by kernel_rfl) (fun _ _ _ h => h) ⟨Or.inl ⟨by rfl, (by intro w; go_simp)⟩, fun _ => rfl⟩ ?_
            refine wpAnyIn_ready (rs := [9]) (by kernel_rfl) (by simp) ?_
            refine AllReadyIn.cons rfl (fun K hK => ?_) ?_
            · go_simp
              refine hK _ _ ?_
              clear hK K
              refine wpAnyIn_done (by kernel_rfl) ?_ _
              exact ⟨rfl, HFin.out.1, HFin.out.2⟩
            exact AllReadyIn.nil
          exact AllReadyIn.nil
        exact AllReadyIn.nil
      refine AllReadyIn.cons rfl (fun K hK => ?_) ?_
      · go_simp
        refine hK _ _ ?_
        clear hK K
        refine wpAnyIn_ready (rs := [0]) (by kernel_rfl) (by simp) ?_
        refine AllReadyIn.cons rfl (fun K hK => ?_) ?_
        · go_simp
          refine hK _ _ ?_
          clear hK K
          refine wpAnyIn_take (i := 1) (v := .pointer (some ⟨mb, 0, none⟩)) rfl rfl (by kernel_rfl) (by kernel_rfl) (by kernel_rfl) (fun _ _ _ h => h) ⟨Or.inl ⟨by rfl, (by intro w; go_simp)⟩, fun _ => rfl⟩ ?_
          refine wpAnyIn_take (i := 2) (v := .pointer (some ⟨mb, 6, none⟩)) rfl rfl (by kernel_rfl) (by kernel_rfl) (by kernel_rfl) (fun _ _ _ h => h) ⟨Or.inl ⟨by rfl, (by intro w; go_simp)⟩, fun _ => rfl⟩ ?_
          refine wpAnyIn_ready (rs := [3]) (by kernel_rfl) (by simp) ?_
          refine AllReadyIn.cons rfl (fun K hK => ?_) ?_
          · go_simp
            refine hK _ _ ?_
            clear hK K
            refine wpAnyIn_take (i := 8) (v := .pointer (some ⟨g1, a1, none⟩)) rfl rfl (by kernel_rfl) (by kernel_rfl) (by kernel_rfl) (fun _ _ _ h => h) ⟨Or.inl ⟨by rfl, (by intro w; go_simp)⟩, fun _ => rfl⟩ ?_
            refine wpAnyIn_ready (rs := [9]) (by kernel_rfl) (by simp) ?_
            refine AllReadyIn.cons rfl (fun K hK => ?_) ?_
            · go_simp
              refine hK _ _ ?_
              clear hK K
              refine wpAnyIn_done (by kernel_rfl) ?_ _
              exact ⟨rfl, HFin.out.1, HFin.out.2⟩
            exact AllReadyIn.nil
          exact AllReadyIn.nil
        exact AllReadyIn.nil
      exact AllReadyIn.nil
    exact AllReadyIn.nil
  case done =>
    intro D W hD hU hK
    gi_wp2
    have hU2 := hU.putObj (.deferred none) (Nat.le_trans HSz.out hD) hK rfl
    refine ⟨by simp, .inl ⟨_, _, rfl, run_takeDeferred hK, ?_⟩⟩
    refine ⟨.tuple #[], by simp [results, Tryz.results65, go_sem], ⟨_, rfl⟩, ?_, hU2.fr⟩
    obtain ⟨V2', hm⟩ := hU2.mch
    exact ⟨V2', hm⟩

end Go.Proofs.YtdbddbelhgkelaaGreatDoor

/- The machine: a slot is changed; a choice is kept. -/
namespace Go.Proofs.YtdbddbelhgkelaaGreatDoor
open Go.RowKit
open Go.Proofs.YtdbddbelhgkelaaGreatDoor.Cl (Rg SetV SetAt rgCells info_three)
variable {w w' w0 : World} {n₀ mb F S : Nat} {cv uv V1 V2 V3 : Value} {s : Ms}

theorem info_ch : (Tryz.prog.info? 136).map (fun i => (i.zero, i.size, i.bytes)) = some (some (.agg #[.int .i64 0, .int .i64 0]), 2, 16) := by kernel_rfl
theorem info_co : (Tryz.prog.info? 131).map (fun i => (i.zero, i.size, i.bytes)) = some (some (.agg #[.int .i64 0, .int .i64 0, .int .i64 0]), 3, 24) := by kernel_rfl
theorem Blk.row_cells {b : Nat} {t : TypeId} {l : List Value} (h : Blk w b t l.toArray) : ∀ j u, l[j]? = some u → w.cell? ((⟨b, 0, none⟩ : Addr).add j) = some u := by
  intro j u hu
  have e : (⟨b, 0, none⟩ : Addr).add j = ⟨b, j, none⟩ := by unfold Addr.add; split <;> simp_all
  rw [e, h.cell j, ← hu]
  simp
/-- append of a row's element, as a step of a region that draws. -/
theorem step_append_row {t e : TypeId} {size bytes : Nat} (z : Value) (hu : Tryz.prog.underlying t = some (.slice e)) (hzc : z.cells.size = size) (hp : 0 < size) (hb24 : bytes ≤ 24) (w : World) {ops : Array Oper} {o : Oper} {a : Act} {K : Act → World → Prop} {Q : Exit → Act → World → Prop} {E : Prop} (hgd : o.guard = none) (x y : Operand)
    (ho : o.op = .call { callee := .builtin .append, args := #[x, y], argTypes := #[t, t] }) (base : Nat) (i : TypeInfo) (hi : Tryz.prog.info? e = some i) (hz : i.zero = some z) (hsize : i.size = size) (hby : i.bytes = bytes)
    (v : Value) (n : Nat) (L : List Value) (hs : a.eval x = v) (hown : w.ownsRow base e size v n L) (b : Nat) (l : List Value) (hy : a.eval y = .slice (some ⟨b, 0, none⟩) 1 1)
    (hb : Blk w b e l.toArray) (hl : l.length = size) (h1 : ∀ u ∈ l, u.oneCell' = true) (hL : n ≤ 100000000) (hbase : base ≤ w.heap.size)
    (h : ∀ v' w', w'.ownsRow base e size v' (n + 1) (L ++ l) → w.grownBy w' v.ownBlock → K (a.put o.dst v') w') :
    if Region.wanted o (yielded ops a.tmps) = true then Oper.wp Tryz.prog o a w K Q else E := by
  have hw : Region.wanted o (yielded ops a.tmps) = true := by simp [Region.wanted, hgd]
  rw [if_pos hw]
  obtain ⟨v', w', hrun, h2, h3, _, h5⟩ := run_append_own_at (P := Tryz.prog) w base t o.type e i z size bytes hu hi hz hsize hby hzc hp v n L hown ⟨b, 0, none⟩ 1 1 l (by simpa using hl)
    hb.row_cells h1 (by unfold maxLen; omega) (by have : (n + 1) * bytes ≤ 100000001 * 24 := Nat.mul_le_mul (by omega) hb24; omega) hbase
  unfold Oper.wp execOp
  simp only [ho, resolve, invoke, builtin, Sem.run_bind, Sem.run_pure, Result.andThen_ok, List.map_toArray, List.map_cons, List.map_nil, hs, hy, hrun]
  exact h v' w' h2 h3

theorem Mch.rowVm (h : Mch n₀ w mb cv uv F S s V1 V2 V3) {k : Nat} (hk : V2.ownBlock = some k) : n₀ ≤ k ∧ isVm w k := by
  rcases own_at h.cg with ⟨rfl, _⟩ | ⟨g, c, rfl, _, hb, ⟨cs, z, hg⟩, _⟩
  · cases hk
  · obtain rfl : g = k := by simpa [Value.ownBlock] using hk
    exact ⟨hb, cs, _, z, hg, .inr (.inl rfl)⟩
theorem V1_form (h : Mch n₀ w mb cv uv F S s V1 V2 V3) (hp : 0 < s.sl.length) : ∃ g c, V1 = .slice (some ⟨g, 0, none⟩) s.sl.length c ∧ s.sl.length ≤ c ∧ n₀ ≤ g ∧ (∃ cs z, w.heap[g]? = some (.cells cs 3 z)) ∧ (∀ i v, s.sl[i]? = some v → w.cell? ⟨g, i, none⟩ = some (.int .i64 v)) ∧ ∀ i, w.frozen? ⟨g, i, none⟩ = false := by
  rcases own_at h.sl with ⟨_, h0⟩ | ⟨g, c, hv, hc, hb, hg, hcell, hfz⟩
  · omega
  · exact ⟨g, c, hv, hc, hb, hg, fun i v hi => by rw [hcell i (by have := (List.getElem?_eq_some_iff.1 hi).1; omega), zI_get hi], hfz⟩
theorem own_form2 {base n : Nat} {e : TypeId} {size : Nat} {v : Value} {xs : List Value} (h : w.ownsRow base e size v n xs) : ∃ A c, v = .slice A n c ∧ n ≤ c := by
  rcases own_at h with ⟨rfl, h0⟩ | ⟨g, c, hv, hc, _⟩
  · exact ⟨none, 0, by rw [h0], by omega⟩
  · exact ⟨_, c, hv, hc⟩
/-- A change more, and the slot that it is of. -/
theorem Mch.more {w1 : World} {V2' : Value} {i : Nat} (h : Mch n₀ w mb cv uv F S s V1 V2 V3) (hown : w1.ownsRow n₀ 136 2 V2' (s.chg.length + 1) (chgC s.chg ++ chC (i, s.sl.getD i 0))) (hg : w.grownBy w1 V2.ownBlock) :
    Mch n₀ (w1.setCell ⟨mb, 7, none⟩ V2') mb cv uv F S { s with chg := s.chg ++ [(i, s.sl.getD i 0)] } V1 V2' V3 := by
  have hk : ∀ {g : Nat} {cs : Array Value} {t : TypeId} {z : Nat × Nat}, w.heap[g]? = some (.cells cs t z) → t ≠ 136 → w1.heap[g]? = w.heap[g]? := fun hh ht => hg.block _ (lt_of_some hh) (fun e => by
    have := own_ne h.cg hh (Ne.symm ht)
    exact this e.symm)
  have hb1 : Blk w1 mb 108 #[cv, uv, .int .i64 (F : Nat), .int .i64 (S : Nat), .int .i64 (s.steps : Nat), .int .i64 (s.deep : Nat), V1, V2, V3] := (hk h.blk (by decide)).trans h.blk
  have h1 : w1.ownsRow n₀ 3 1 V1 s.sl.length (zI s.sl) := own_kept h.sl fun i hi _ ⟨cs, z, hh⟩ => hk hh (by decide)
  have h3 : w1.ownsRow n₀ 131 3 V3 s.cho.length (choC s.cho) := own_kept h.co fun i hi _ ⟨cs, z, hh⟩ => hk hh (by decide)
  have hm : Mch n₀ w1 mb cv uv F S { s with chg := [], cho := s.cho } V1 (.slice none 0 0) V3 ∨ True := .inr trivial
  clear hm
  have hb2 := hb1.set_ 7 V2'
  refine ⟨hb2, h.low, own_far h1 hb1 (by decide) _ _, ?_, own_far h3 hb1 (by decide) _ _⟩
  have hl : ({ s with chg := s.chg ++ [(i, s.sl.getD i 0)] } : Ms).chg.length = s.chg.length + 1 := by simp
  rw [hl, chgC_append]
  have e : chgC [(i, s.sl.getD i 0)] = chC (i, s.sl.getD i 0) := by simp [chgC]
  rw [e]
  exact own_far hown hb1 (by decide) _ _

set_option maxRecDepth 100000 in
set_option maxHeartbeats 2000000 in
theorem set_any {i : Nat} {v : Int} (h : Mch n₀ w mb cv uv F S s V1 V2 V3) (hi : i < s.sl.length) (hsl : s.sl.length ≤ 100000) (hlen : s.chg.length ≤ 100000000) (hn : n₀ ≤ w.heap.size) :
    Calls Tryz.prog 80 #[.pointer (some ⟨mb, 0, none⟩), .int .i64 (i : Nat), .int .i64 v] w fun e w' => (∃ u, e = .returned u) ∧ (∃ V2', Mch n₀ w' mb cv uv F S (s.put i v) V1 V2' V3) ∧ FrV n₀ mb mb w w' := by
  obtain ⟨g1, c1, rfl, hc1, hng1, ⟨cs1, z1, hg1⟩, hcell, hfz⟩ := V1_form h (by omega)
  have hx : s.sl[i]? = some s.sl[i] := List.getElem?_eq_getElem hi
  have hgd : s.sl.getD i 0 = s.sl[i] := by simp [List.getD, hx]
  have e1 := hcell i _ hx
  have f1 := hfz i
  have HM := Lib.hid h
  obtain ⟨A2, c2, rfl, hc2⟩ := own_form2 h.cg
  obtain ⟨_, _, _, _, _, _, k6, k7, _⟩ := h.c9
  have hii : (i : Int) < (s.sl.length : Int) := by omega
  have fm := h.fz 7
  have hmb := h.blk.lt
  obtain ⟨i0, hi0, hz0, hz1, hz2⟩ := info_three info_ch
  have HG := Lib.hid hg1
  have HGd := Lib.hid hgd
  generalize s.sl[i] = x at *
  clear hcell hfz hx hgd hg1
  go_enter Tryz.func80, Tryz.ntmps80
  have HMa := Lib.hid (HM.out.alloc (.cells #[.int .i64 (i : Nat), .int .i64 x] 136)).drew
  have HBa : Hid (Blk (w.alloc (.cells #[.int .i64 (i : Nat), .int .i64 x] 136)).drew w.heap.size 136 [.int .i64 (i : Nat), .int .i64 x].toArray) := Lib.hid (Blk.new w 136 #[.int .i64 (i : Nat), .int .i64 x])
  have HFa : Hid (FrV n₀ mb mb w (w.alloc (.cells #[.int .i64 (i : Nat), .int .i64 x] 136)).drew) := Lib.hid ((FrV.refl w).alloc _).drew
  clear h
  go_wp2_with fail
  go_region_law (refine step_append_row (.agg #[.int .i64 0, .int .i64 0]) Tryz.underlying105 rfl (by decide) (by decide) _ rfl (.tmp 10) (.tmp 20) rfl n₀ i0 hi0 hz0 hz1 hz2 _ s.chg.length (chgC s.chg) (by simp [Act.eval]) HMa.out.cg w.heap.size [.int .i64 (i : Nat), .int .i64 x] (by simp [Act.eval]) HBa.out rfl (by simp [Value.oneCell']) hlen (by simp; omega) ?_; intro v' w4 hown' hgrow; obtain ⟨A9, c9, rfl, _⟩ := own_form2 hown'; have hB4 := HMa.out.blk.grown hgrow (fun e => own_ne HMa.out.cg HMa.out.blk (by decide) e.symm); have c4 := hB4.cell 7; have f4 := hB4.frozen 7)
  all_goals
    have HM9 := Lib.hid (HMa.out.more (i := i) (by rw [HGd.out]; exact hown') hgrow)
    have HF9 := Lib.hid ((HFa.out.grown hgrow (fun k hk => HMa.out.rowVm hk)).set_ (q := ⟨mb, 7, none⟩) (.inr ⟨HM.out.low, .inl rfl⟩) (.slice A9 (s.chg.length + 1) c9))
    clear hown' hgrow hB4 c4 f4 k6 k7 fm e1 f1
    generalize (w4.setCell ⟨mb, 7, none⟩ (.slice A9 (s.chg.length + 1) c9)) = W at *
    have k6 := HM9.out.c9.2.2.2.2.2.2.1
    obtain ⟨g', c', hv', _, _, hgv, hcell, hfz⟩ := V1_form HM9.out (by show 0 < s.sl.length; omega)
    have ee := (Value.slice.inj hv').1
    obtain ⟨rfl⟩ : g1 = g' := by simpa using ee
    have f1 := hfz i
    have e1 := hcell i _ (List.getElem?_eq_getElem hi)
    have HV : Hid (isVm W g1) := Lib.hid (by obtain ⟨cs, z, hh⟩ := hgv; exact ⟨cs, _, z, hh, .inl rfl⟩)
    clear hv' ee hcell hfz hgv
    go_wp2
    refine ⟨rfl, .tuple #[], by simp [results, Tryz.results80, go_sem], ⟨_, rfl⟩, ?_, HF9.out.set_ (.inr ⟨hng1, .inr (.inr HV.out)⟩) _⟩
    exact ⟨_, HM9.out.slot rfl⟩

end Go.Proofs.YtdbddbelhgkelaaGreatDoor

/- The machine: a run in memory; a choice is kept. -/
namespace Go.Proofs.YtdbddbelhgkelaaGreatDoor
open Go.RowKit
open Go.Proofs.YtdbddbelhgkelaaGreatDoor.Cl (Rg SetV SetAt rgCells info_three)
variable {w w' w0 : World} {n₀ mb F S : Nat} {cv uv V1 V2 V3 : Value} {s : Ms}

/-- A run in memory. -/
def RunB (w : World) (rb mb pl p : Nat) (tg : Int) (fc fg : Nat) : Prop := Blk w rb 110 #[.pointer (some ⟨mb, 0, none⟩), .int .i64 (pl : Nat), .int .i64 (p : Nat), .int .i64 tg, .int .i64 (fc : Nat), .int .i64 (fg : Nat)]
variable {rb pl p fc fg : Nat} {tg : Int}
theorem RunB.c6 (h : RunB w rb mb pl p tg fc fg) : w.cell? ⟨rb, 0, none⟩ = some (.pointer (some ⟨mb, 0, none⟩)) ∧ w.cell? ⟨rb, 1, none⟩ = some (.int .i64 (pl : Nat)) ∧ w.cell? ⟨rb, 2, none⟩ = some (.int .i64 (p : Nat)) ∧ w.cell? ⟨rb, 3, none⟩ = some (.int .i64 tg) ∧ w.cell? ⟨rb, 4, none⟩ = some (.int .i64 (fc : Nat)) ∧ w.cell? ⟨rb, 5, none⟩ = some (.int .i64 (fg : Nat)) :=
  ⟨Blk.cell h 0, Blk.cell h 1, Blk.cell h 2, Blk.cell h 3, Blk.cell h 4, Blk.cell h 5⟩
theorem RunB.fz (h : RunB w rb mb pl p tg fc fg) (j : Nat) : w.frozen? ⟨rb, j, none⟩ = false := Blk.frozen h j
theorem RunB.place (h : RunB w rb mb pl p tg fc fg) (q : Nat) : RunB (w.setCell ⟨rb, 1, none⟩ (.int .i64 (q : Nat))) rb mb q p tg fc fg := Blk.set_ h 1 _
theorem RunB.pos (h : RunB w rb mb pl p tg fc fg) (q : Nat) : RunB (w.setCell ⟨rb, 2, none⟩ (.int .i64 (q : Nat))) rb mb pl q tg fc fg := Blk.set_ h 2 _
theorem Mch.rowVm3 (h : Mch n₀ w mb cv uv F S s V1 V2 V3) {k : Nat} (hk : V3.ownBlock = some k) : n₀ ≤ k ∧ isVm w k := by
  rcases own_at h.co with ⟨rfl, _⟩ | ⟨g, c, rfl, _, hb, ⟨cs, z, hg⟩, _⟩
  · cases hk
  · obtain rfl : g = k := by simpa [Value.ownBlock] using hk
    exact ⟨hb, cs, _, z, hg, .inr (.inr rfl)⟩
theorem grown_kept {w1 : World} {g : Nat} {cs : Array Value} {t : TypeId} {z : Nat × Nat} (h : Mch n₀ w mb cv uv F S s V1 V2 V3) (hg : w.grownBy w1 V3.ownBlock) (hh : w.heap[g]? = some (.cells cs t z)) (ht : t ≠ 131) : w1.heap[g]? = some (.cells cs t z) :=
  (hg.block _ (lt_of_some hh) (fun e => own_ne h.co hh (Ne.symm ht) e.symm)).trans hh
theorem Mch.gkeep {w1 : World} {g o : Nat} {v : Value} (h : Mch n₀ w mb cv uv F S s V1 V2 V3) (hg : w.grownBy w1 V3.ownBlock) (hlt : g < n₀) (hv : w.cell? ⟨g, o, none⟩ = some v) : w1.cell? ⟨g, o, none⟩ = some v := by
  have hl : g < w.heap.size := block_lt_of_cell hv
  refine (World.cell?_of_block (hg.block g hl (fun e => ?_))).trans hv
  have := (h.rowVm3 e.symm).1
  omega
/-- A choice more. -/
theorem Mch.moreC {w1 : World} {V3' : Value} {c : Nat × Nat × Nat} (h : Mch n₀ w mb cv uv F S s V1 V2 V3) (hown : w1.ownsRow n₀ 131 3 V3' (s.cho.length + 1) (choC s.cho ++ coC c)) (hg : w.grownBy w1 V3.ownBlock) :
    Mch n₀ (w1.setCell ⟨mb, 8, none⟩ V3') mb cv uv F S { s with cho := s.cho ++ [c] } V1 V2 V3' := by
  have hb1 : Blk w1 mb 108 #[cv, uv, .int .i64 (F : Nat), .int .i64 (S : Nat), .int .i64 (s.steps : Nat), .int .i64 (s.deep : Nat), V1, V2, V3] := grown_kept h hg h.blk (by decide)
  have h1 : w1.ownsRow n₀ 3 1 V1 s.sl.length (zI s.sl) := own_kept h.sl fun i hi _ ⟨cs, z, hh⟩ => (grown_kept h hg hh (by decide)).trans hh.symm
  have h2 : w1.ownsRow n₀ 136 2 V2 s.chg.length (chgC s.chg) := own_kept h.cg fun i hi _ ⟨cs, z, hh⟩ => (grown_kept h hg hh (by decide)).trans hh.symm
  refine ⟨hb1.set_ 8 V3', h.low, own_far h1 hb1 (by decide) _ _, own_far h2 hb1 (by decide) _ _, ?_⟩
  have hl : ({ s with cho := s.cho ++ [c] } : Ms).cho.length = s.cho.length + 1 := by simp
  rw [hl, choC_append]
  have e : choC [c] = coC c := by simp [choC]
  rw [e]
  exact own_far hown hb1 (by decide) _ _
theorem Mch.deeper {d : Nat} (h : Mch n₀ w mb cv uv F S s V1 V2 V3) : Mch n₀ (w.setCell ⟨mb, 5, none⟩ (.int .i64 (d : Nat))) mb cv uv F S { s with deep := d } V1 V2 V3 := h.own_ 5 _ rfl h.sl h.cg h.co
theorem Mch.stepped {d : Nat} (h : Mch n₀ w mb cv uv F S s V1 V2 V3) : Mch n₀ (w.setCell ⟨mb, 4, none⟩ (.int .i64 (d : Nat))) mb cv uv F S { s with steps := d } V1 V2 V3 := h.own_ 4 _ rfl h.sl h.cg h.co
theorem cell_far {b o b' o' : Nat} {v u : Value} (h : w.cell? ⟨b, o, none⟩ = some v) (hne : b ≠ b' ∨ o ≠ o') : (w.setCell ⟨b', o', none⟩ u).cell? ⟨b, o, none⟩ = some v := by
  rw [World.cell?_setCell_other w _ _ u (fun e => by
    have e1 := congrArg Addr.block e
    have e2 := congrArg Addr.off e
    simp only at e1 e2
    omega)]
  exact h

theorem take_v {P : Program} {md : Region.Mode} {ops : Array Oper} {Q : Exit → Act → World → Prop} {S : World → Prop} {fuel : Nat} {listed : Array Bool} {a : Act} {w : World} (i d : Nat) (v : Value) (oi : Oper) (hi : ops[i]? = some oi) (hd : oi.dst = some d)
    (hs : Region.noSelect ops = true) (hf : Region.free md ops listed i = true) (hr : (Region.ready md ops listed).contains i = true)
    (hQ : ∀ c a w, Q (.panic c) (a.put oi.dst v) w → Q (.panic c) a w) (hy : YieldsIf P ops S oi v a) (hS : S w)
    (h : wpAnyH P md ops Q S fuel (listed.setIfInBounds i true) { tmps := a.tmps.setIfInBounds d v, defers := a.defers } w) : wpAnyH P md ops Q S (fuel + 1) listed a w :=
  wpAnyH_take hi hs hf hr hQ hy hS (by rw [hd]; exact h)

set_option maxRecDepth 100000 in
set_option maxHeartbeats 4000000 in
theorem split_full {gc o : Nat} (h : Mch n₀ w mb cv uv F S s V1 V2 V3) (hr : RunB w rb mb pl p tg fc fg) (hfull : s.cho.length = S) :
    Calls Tryz.prog 76 #[.pointer (some ⟨rb, 0, none⟩), .pointer (some ⟨gc, o, none⟩)] w fun e w' => e = .returned (.int .i64 2) ∧ ∃ m, w' = w.drewN m := by
  obtain ⟨k0, _⟩ := hr.c6
  obtain ⟨A3, c3, rfl, hc3⟩ := own_form2 h.co
  obtain ⟨_, _, _, m3, _, _, _, _, m8⟩ := h.c9
  rw [hfull] at m8
  clear h hr
  go_enter Tryz.func76, Tryz.ntmps76
  go_wp2
  go_region
  go_wp2
  go_ret
  exact ⟨rfl, 1, rfl⟩

set_option maxRecDepth 100000 in
set_option maxHeartbeats 4000000 in
theorem vsplit_any {gc o : Nat} {b a : Nat} (h : Mch n₀ w mb cv uv F S s V1 V2 V3) (hr : RunB w rb mb pl p tg fc fg) (hroom : s.cho.length ≠ S) (hS : s.cho.length ≤ 4096) (_ : s.chg.length ≤ 100000000) (_ : s.deep ≤ 4097) (hn : n₀ ≤ w.heap.size) (hgc : gc < n₀) (hrb : n₀ ≤ rb)
    (d1 : w.cell? ⟨gc, o + 1, none⟩ = some (.int .i64 (a : Nat))) (d2 : w.cell? ⟨gc, o + 2, none⟩ = some (.int .i64 (b : Nat))) :
    Calls Tryz.prog 76 #[.pointer (some ⟨rb, 0, none⟩), .pointer (some ⟨gc, o, none⟩)] w fun e w' => e = .returned (.int .i64 3) ∧ (∃ V3', Mch n₀ w' mb cv uv F S { s with cho := s.cho ++ [(b, p, s.chg.length)], deep := max s.deep (s.cho.length + 1) } V1 V2 V3') ∧ RunB w' rb mb a p tg fc fg ∧ FrV n₀ mb rb w w' := by
  obtain ⟨k0, _, k2, _⟩ := hr.c6
  obtain ⟨A3, c3, rfl, hc3⟩ := own_form2 h.co
  obtain ⟨A2, c2, rfl, hc2⟩ := own_form2 h.cg
  obtain ⟨_, _, _, m3, _, _, _, m7, m8⟩ := h.c9
  have f8 := h.fz 8
  have hmr : mb ≠ rb := fun e => ne_of_types h.blk hr (by decide) e
  have hne : ((s.cho.length : Int) == (S : Int)) = false := beq_false_of_ne (by omega)
  have hmb := h.blk.lt
  have hrbl := Blk.lt hr
  have hmlow := h.low
  have HM := Lib.hid h
  have HR := Lib.hid hr
  obtain ⟨i0, hi0, hz0, hz1, hz2⟩ := info_three info_co
  clear h hr
  go_enter Tryz.func76, Tryz.ntmps76
  go_wp2
  go_region
  go_wp2_with fail
  have HMd := Lib.hid HM.out.drew
  have HRd : Hid (RunB w.drew rb mb pl p tg fc fg) := Lib.hid HR.out
  have HFd : Hid (FrV n₀ mb rb w w.drew) := Lib.hid (FrV.refl w).drew
  have d1' : w.drew.cell? ⟨gc, o + 1, none⟩ = some (.int .i64 (a : Nat)) := d1
  have d2' : w.drew.cell? ⟨gc, o + 2, none⟩ = some (.int .i64 (b : Nat)) := d2
  have hw : w.heap.size = w.drew.heap.size := rfl
  have HW : Hid (w.heap.size = w.drew.heap.size) := Lib.hid rfl
  rw [hw] at hn hmb hrbl
  clear k0 k2 m3 m7 m8 f8 d1 d2 HM HR hw
  generalize w.drew = wd at *
  obtain ⟨k0, _, k2, _⟩ := HRd.out.c6
  have m7 := HMd.out.c9.2.2.2.2.2.2.2.1
  have m8 := HMd.out.c9.2.2.2.2.2.2.2.2
  have f8 := HMd.out.fz 8
  have HMa := Lib.hid (HMd.out.alloc (.cells #[.int .i64 (b : Nat), .int .i64 (p : Nat), .int .i64 (s.chg.length : Nat)] 131)).drew
  have HRa : Hid (RunB (wd.alloc (.cells #[.int .i64 (b : Nat), .int .i64 (p : Nat), .int .i64 (s.chg.length : Nat)] 131)).drew rb mb pl p tg fc fg) := Lib.hid (Blk.alloc HRd.out _)
  have HCa : Hid ((wd.alloc (.cells #[.int .i64 (b : Nat), .int .i64 (p : Nat), .int .i64 (s.chg.length : Nat)] 131)).drew.cell? ⟨gc, o + 2, none⟩ = some (.int .i64 (b : Nat)) ∧ (wd.alloc (.cells #[.int .i64 (b : Nat), .int .i64 (p : Nat), .int .i64 (s.chg.length : Nat)] 131)).drew.cell? ⟨gc, o + 1, none⟩ = some (.int .i64 (a : Nat))) := Lib.hid (by
    have hl : gc < wd.heap.size := by omega
    exact ⟨(World.cell?_of_block (Below.heap_alloc wd _ gc hl)).trans d2', (World.cell?_of_block (Below.heap_alloc wd _ gc hl)).trans d1'⟩)
  have HBa : Hid (Blk (wd.alloc (.cells #[.int .i64 (b : Nat), .int .i64 (p : Nat), .int .i64 (s.chg.length : Nat)] 131)).drew wd.heap.size 131 [.int .i64 (b : Nat), .int .i64 (p : Nat), .int .i64 (s.chg.length : Nat)].toArray) := Lib.hid (Blk.new wd 131 #[.int .i64 (b : Nat), .int .i64 (p : Nat), .int .i64 (s.chg.length : Nat)])
  have HFa : Hid (FrV n₀ mb rb w (wd.alloc (.cells #[.int .i64 (b : Nat), .int .i64 (p : Nat), .int .i64 (s.chg.length : Nat)] 131)).drew) := Lib.hid (HFd.out.alloc _).drew
  refine wp_region_held_drew (S := fun w' => w'.cell? ⟨rb, 0, none⟩ = some (.pointer (some ⟨mb, 0, none⟩)) ∧ w'.cell? ⟨rb, 2, none⟩ = some (.int .i64 (p : Nat)) ∧ w'.cell? ⟨gc, o + 2, none⟩ = some (.int .i64 (b : Nat)) ∧ w'.cell? ⟨mb, 7, none⟩ = some (.slice A2 s.chg.length c2)) (by kernel_rfl) ⟨k0, k2, d2', m7⟩ (fun hHeld => ?_)
  refine take_v 0 22 (.pointer (some ⟨rb, 0, none⟩)) _ rfl rfl (by kernel_rfl) (by kernel_rfl) (by kernel_rfl) (fun _ _ _ h => h) (Or.inl ⟨by rfl, fun w' hSw => ?_⟩) hHeld ?_
  · obtain ⟨q1, q2, q3, q4⟩ := hSw
    go_simp
  simp only [List.setIfInBounds_toArray, List.set_cons_zero, List.set_cons_succ]
  refine take_v 1 23 (.pointer (some ⟨rb, 0, none⟩)) _ rfl rfl (by kernel_rfl) (by kernel_rfl) (by kernel_rfl) (fun _ _ _ h => h) (Or.inl ⟨by rfl, fun w' hSw => ?_⟩) hHeld ?_
  · obtain ⟨q1, q2, q3, q4⟩ := hSw
    go_simp
  simp only [List.setIfInBounds_toArray, List.set_cons_zero, List.set_cons_succ]
  refine take_v 2 24 (.pointer (some ⟨rb, 0, none⟩)) _ rfl rfl (by kernel_rfl) (by kernel_rfl) (by kernel_rfl) (fun _ _ _ h => h) (Or.inl ⟨by rfl, fun w' hSw => ?_⟩) hHeld ?_
  · obtain ⟨q1, q2, q3, q4⟩ := hSw
    go_simp
  simp only [List.setIfInBounds_toArray, List.set_cons_zero, List.set_cons_succ]
  refine take_v 3 25 (.pointer (some ⟨mb, 0, none⟩)) _ rfl rfl (by kernel_rfl) (by kernel_rfl) (by kernel_rfl) (fun _ _ _ h => h) (Or.inl ⟨by rfl, fun w' hSw => ?_⟩) hHeld ?_
  · obtain ⟨q1, q2, q3, q4⟩ := hSw
    go_simp
  simp only [List.setIfInBounds_toArray, List.set_cons_zero, List.set_cons_succ]
  refine take_v 4 26 (.pointer (some ⟨rb, 0, none⟩)) _ rfl rfl (by kernel_rfl) (by kernel_rfl) (by kernel_rfl) (fun _ _ _ h => h) (Or.inl ⟨by rfl, fun w' hSw => ?_⟩) hHeld ?_
  · obtain ⟨q1, q2, q3, q4⟩ := hSw
    go_simp
  simp only [List.setIfInBounds_toArray, List.set_cons_zero, List.set_cons_succ]
  refine take_v 5 27 (.pointer (some ⟨rb, 0, none⟩)) _ rfl rfl (by kernel_rfl) (by kernel_rfl) (by kernel_rfl) (fun _ _ _ h => h) (Or.inl ⟨by rfl, fun w' hSw => ?_⟩) hHeld ?_
  · obtain ⟨q1, q2, q3, q4⟩ := hSw
    go_simp
  simp only [List.setIfInBounds_toArray, List.set_cons_zero, List.set_cons_succ]
  refine take_v 6 28 (.pointer (some ⟨rb, 0, none⟩)) _ rfl rfl (by kernel_rfl) (by kernel_rfl) (by kernel_rfl) (fun _ _ _ h => h) (Or.inl ⟨by rfl, fun w' hSw => ?_⟩) hHeld ?_
  · obtain ⟨q1, q2, q3, q4⟩ := hSw
    go_simp
  simp only [List.setIfInBounds_toArray, List.set_cons_zero, List.set_cons_succ]
  refine take_v 7 29 (.pointer (some ⟨mb, 0, none⟩)) _ rfl rfl (by kernel_rfl) (by kernel_rfl) (by kernel_rfl) (fun _ _ _ h => h) (Or.inl ⟨by rfl, fun w' hSw => ?_⟩) hHeld ?_
  · obtain ⟨q1, q2, q3, q4⟩ := hSw
    go_simp
  simp only [List.setIfInBounds_toArray, List.set_cons_zero, List.set_cons_succ]
  refine take_v 8 30 (.pointer (some ⟨mb, 0, none⟩)) _ rfl rfl (by kernel_rfl) (by kernel_rfl) (by kernel_rfl) (fun _ _ _ h => h) (Or.inl ⟨by rfl, fun w' hSw => ?_⟩) hHeld ?_
  · obtain ⟨q1, q2, q3, q4⟩ := hSw
    go_simp
  simp only [List.setIfInBounds_toArray, List.set_cons_zero, List.set_cons_succ]
  refine take_v 9 31 (.pointer (some ⟨mb, 8, none⟩)) _ rfl rfl (by kernel_rfl) (by kernel_rfl) (by kernel_rfl) (fun _ _ _ h => h) (Or.inl ⟨by rfl, fun w' hSw => ?_⟩) hHeld ?_
  · obtain ⟨q1, q2, q3, q4⟩ := hSw
    go_simp
  simp only [List.setIfInBounds_toArray, List.set_cons_zero, List.set_cons_succ]
  refine take_v 11 33 (.pointer (some ⟨gc, o, none⟩)) _ rfl rfl (by kernel_rfl) (by kernel_rfl) (by kernel_rfl) (fun _ _ _ h => h) (Or.inl ⟨by rfl, fun w' hSw => ?_⟩) hHeld ?_
  · obtain ⟨q1, q2, q3, q4⟩ := hSw
    go_simp
  simp only [List.setIfInBounds_toArray, List.set_cons_zero, List.set_cons_succ]
  refine take_v 12 34 (.pointer (some ⟨gc, o, none⟩)) _ rfl rfl (by kernel_rfl) (by kernel_rfl) (by kernel_rfl) (fun _ _ _ h => h) (Or.inl ⟨by rfl, fun w' hSw => ?_⟩) hHeld ?_
  · obtain ⟨q1, q2, q3, q4⟩ := hSw
    go_simp
  simp only [List.setIfInBounds_toArray, List.set_cons_zero, List.set_cons_succ]
  refine take_v 13 35 (.pointer (some ⟨gc, o + 2, none⟩)) _ rfl rfl (by kernel_rfl) (by kernel_rfl) (by kernel_rfl) (fun _ _ _ h => h) (Or.inl ⟨by rfl, fun w' hSw => ?_⟩) hHeld ?_
  · obtain ⟨q1, q2, q3, q4⟩ := hSw
    go_simp
  simp only [List.setIfInBounds_toArray, List.set_cons_zero, List.set_cons_succ]
  refine take_v 14 36 (.int .i64 (b : Nat)) _ rfl rfl (by kernel_rfl) (by kernel_rfl) (by kernel_rfl) (fun _ _ _ h => h) (Or.inl ⟨by rfl, fun w' hSw => ?_⟩) hHeld ?_
  · obtain ⟨q1, q2, q3, q4⟩ := hSw
    go_simp
  simp only [List.setIfInBounds_toArray, List.set_cons_zero, List.set_cons_succ]
  refine take_v 15 37 (.pointer (some ⟨rb, 0, none⟩)) _ rfl rfl (by kernel_rfl) (by kernel_rfl) (by kernel_rfl) (fun _ _ _ h => h) (Or.inl ⟨by rfl, fun w' hSw => ?_⟩) hHeld ?_
  · obtain ⟨q1, q2, q3, q4⟩ := hSw
    go_simp
  simp only [List.setIfInBounds_toArray, List.set_cons_zero, List.set_cons_succ]
  refine take_v 16 38 (.pointer (some ⟨rb, 0, none⟩)) _ rfl rfl (by kernel_rfl) (by kernel_rfl) (by kernel_rfl) (fun _ _ _ h => h) (Or.inl ⟨by rfl, fun w' hSw => ?_⟩) hHeld ?_
  · obtain ⟨q1, q2, q3, q4⟩ := hSw
    go_simp
  simp only [List.setIfInBounds_toArray, List.set_cons_zero, List.set_cons_succ]
  refine take_v 17 39 (.pointer (some ⟨rb, 2, none⟩)) _ rfl rfl (by kernel_rfl) (by kernel_rfl) (by kernel_rfl) (fun _ _ _ h => h) (Or.inl ⟨by rfl, fun w' hSw => ?_⟩) hHeld ?_
  · obtain ⟨q1, q2, q3, q4⟩ := hSw
    go_simp
  simp only [List.setIfInBounds_toArray, List.set_cons_zero, List.set_cons_succ]
  refine take_v 18 40 (.int .i64 (p : Nat)) _ rfl rfl (by kernel_rfl) (by kernel_rfl) (by kernel_rfl) (fun _ _ _ h => h) (Or.inl ⟨by rfl, fun w' hSw => ?_⟩) hHeld ?_
  · obtain ⟨q1, q2, q3, q4⟩ := hSw
    go_simp
  simp only [List.setIfInBounds_toArray, List.set_cons_zero, List.set_cons_succ]
  refine take_v 19 41 (.pointer (some ⟨rb, 0, none⟩)) _ rfl rfl (by kernel_rfl) (by kernel_rfl) (by kernel_rfl) (fun _ _ _ h => h) (Or.inl ⟨by rfl, fun w' hSw => ?_⟩) hHeld ?_
  · obtain ⟨q1, q2, q3, q4⟩ := hSw
    go_simp
  simp only [List.setIfInBounds_toArray, List.set_cons_zero, List.set_cons_succ]
  refine take_v 20 42 (.pointer (some ⟨rb, 0, none⟩)) _ rfl rfl (by kernel_rfl) (by kernel_rfl) (by kernel_rfl) (fun _ _ _ h => h) (Or.inl ⟨by rfl, fun w' hSw => ?_⟩) hHeld ?_
  · obtain ⟨q1, q2, q3, q4⟩ := hSw
    go_simp
  simp only [List.setIfInBounds_toArray, List.set_cons_zero, List.set_cons_succ]
  refine take_v 21 43 (.pointer (some ⟨rb, 0, none⟩)) _ rfl rfl (by kernel_rfl) (by kernel_rfl) (by kernel_rfl) (fun _ _ _ h => h) (Or.inl ⟨by rfl, fun w' hSw => ?_⟩) hHeld ?_
  · obtain ⟨q1, q2, q3, q4⟩ := hSw
    go_simp
  simp only [List.setIfInBounds_toArray, List.set_cons_zero, List.set_cons_succ]
  refine take_v 22 44 (.pointer (some ⟨mb, 0, none⟩)) _ rfl rfl (by kernel_rfl) (by kernel_rfl) (by kernel_rfl) (fun _ _ _ h => h) (Or.inl ⟨by rfl, fun w' hSw => ?_⟩) hHeld ?_
  · obtain ⟨q1, q2, q3, q4⟩ := hSw
    go_simp
  simp only [List.setIfInBounds_toArray, List.set_cons_zero, List.set_cons_succ]
  refine take_v 23 45 (.pointer (some ⟨mb, 0, none⟩)) _ rfl rfl (by kernel_rfl) (by kernel_rfl) (by kernel_rfl) (fun _ _ _ h => h) (Or.inl ⟨by rfl, fun w' hSw => ?_⟩) hHeld ?_
  · obtain ⟨q1, q2, q3, q4⟩ := hSw
    go_simp
  simp only [List.setIfInBounds_toArray, List.set_cons_zero, List.set_cons_succ]
  refine take_v 24 46 (.pointer (some ⟨mb, 7, none⟩)) _ rfl rfl (by kernel_rfl) (by kernel_rfl) (by kernel_rfl) (fun _ _ _ h => h) (Or.inl ⟨by rfl, fun w' hSw => ?_⟩) hHeld ?_
  · obtain ⟨q1, q2, q3, q4⟩ := hSw
    go_simp
  simp only [List.setIfInBounds_toArray, List.set_cons_zero, List.set_cons_succ]
  refine take_v 25 47 (.slice A2 s.chg.length c2) _ rfl rfl (by kernel_rfl) (by kernel_rfl) (by kernel_rfl) (fun _ _ _ h => h) (Or.inl ⟨by rfl, fun w' hSw => ?_⟩) hHeld ?_
  · obtain ⟨q1, q2, q3, q4⟩ := hSw
    go_simp
  simp only [List.setIfInBounds_toArray, List.set_cons_zero, List.set_cons_succ]
  refine take_v 26 48 (.int .i64 (s.chg.length : Nat)) _ rfl rfl (by kernel_rfl) (by kernel_rfl) (by kernel_rfl) (fun _ _ _ h => h) (Or.inl ⟨by rfl, fun w' hSw => ?_⟩) hHeld ?_
  · obtain ⟨q1, q2, q3, q4⟩ := hSw
    go_simp
  simp only [List.setIfInBounds_toArray, List.set_cons_zero, List.set_cons_succ]
  refine take_v 27 49 (.agg #[.int .i64 (b : Nat), .int .i64 (p : Nat), .int .i64 (s.chg.length : Nat)]) _ rfl rfl (by kernel_rfl) (by kernel_rfl) (by kernel_rfl) (fun _ _ _ h => h) (Or.inl ⟨by rfl, fun w' hSw => ?_⟩) hHeld ?_
  · obtain ⟨q1, q2, q3, q4⟩ := hSw
    go_simp
  simp only [List.setIfInBounds_toArray, List.set_cons_zero, List.set_cons_succ]
  refine wpAnyH_ready (rs := [10, 28]) (by kernel_rfl) (by simp) ?_
  refine AllReadyH.cons rfl (fun K hK => ?_) (AllReadyH.cons rfl (fun K hK => ?_) AllReadyH.nil)
  · go_simp
    refine hK.out _ _ hHeld (fun hHeld => ?_)
    clear hK K
    refine wpAnyH_ready (rs := [28]) (by kernel_rfl) (by simp) ?_
    refine AllReadyH.cons rfl (fun K hK => ?_) AllReadyH.nil
    go_simp
    refine hK.out _ _ ⟨HRa.out.c6.1, HRa.out.c6.2.2.1, HCa.out.1, HMa.out.c9.2.2.2.2.2.2.2.1⟩ (fun hHeld => ?_)
    clear hK K
    refine wpAnyH_ready (rs := [29]) (by kernel_rfl) (by simp) ?_
    refine AllReadyH.cons rfl (fun K hK => ?_) AllReadyH.nil
    refine step_append_row (.agg #[.int .i64 0, .int .i64 0, .int .i64 0]) Tryz.underlying106 rfl (by decide) (by decide) _ rfl (.tmp 32) (.tmp 50) rfl n₀ i0 hi0 hz0 hz1 hz2 _ s.cho.length (choC s.cho) (by simp [Act.eval]) HMa.out.co wd.heap.size [.int .i64 (b : Nat), .int .i64 (p : Nat), .int .i64 (s.chg.length : Nat)] (by simp [Act.eval]) HBa.out rfl (by simp [Value.oneCell']) (by omega) (by simp; omega) ?_
    intro v' w4 hown' hgrow
    obtain ⟨A9, c9, rfl, _⟩ := own_form2 hown'
    have hB4 : Blk w4 mb _ _ := grown_kept HMa.out hgrow HMa.out.blk (by decide)
    have hR4 : RunB w4 rb mb pl p tg fc fg := grown_kept HMa.out hgrow HRa.out (by decide)
    have hb4 := HMa.out.gkeep hgrow hgc HCa.out.1
    have ha4 := HMa.out.gkeep hgrow hgc HCa.out.2
    have k04 := hR4.c6.1
    have k24 := hR4.c6.2.2.1
    have c4 := hB4.cell 8
    have f4 := hB4.frozen 8
    have c74 := hB4.cell 7
    simp only [List.getElem?_toArray, List.getElem?_cons_zero, List.getElem?_cons_succ] at c4 c74
    refine hK.out _ _ ⟨k04, k24, hb4, c74⟩ (fun hHeld => ?_)
    clear hK K
    simp only [Act.put, List.getElem_toArray, List.getElem_cons_zero, List.getElem_cons_succ, List.setIfInBounds_toArray, List.set_cons_zero, List.set_cons_succ]
    refine take_v 30 52 (.pointer (some ⟨mb, 0, none⟩)) _ rfl rfl (by kernel_rfl) (by kernel_rfl) (by kernel_rfl) (fun _ _ _ h => h) (Or.inl ⟨by rfl, fun w' hSw => ?_⟩) hHeld ?_
    · obtain ⟨q1, q2, q3, q4⟩ := hSw
      go_simp
    simp only [List.setIfInBounds_toArray, List.set_cons_zero, List.set_cons_succ]
    refine take_v 31 53 (.pointer (some ⟨mb, 8, none⟩)) _ rfl rfl (by kernel_rfl) (by kernel_rfl) (by kernel_rfl) (fun _ _ _ h => h) (Or.inl ⟨by rfl, fun w' hSw => ?_⟩) hHeld ?_
    · obtain ⟨q1, q2, q3, q4⟩ := hSw
      go_simp
    simp only [List.setIfInBounds_toArray, List.set_cons_zero, List.set_cons_succ]
    refine wpAnyH_ready (rs := [32]) (by kernel_rfl) (by simp) ?_
    refine AllReadyH.cons rfl (fun K hK => ?_) AllReadyH.nil
    go_simp
    refine hK.out _ _ ⟨cell_far k04 (by omega), cell_far k24 (by omega), cell_far hb4 (by omega), cell_far c74 (by omega)⟩ (fun hHeld => ?_)
    clear hK K
    refine wpAnyH_done (by kernel_rfl) ?_ _
    have HM9 := Lib.hid (HMa.out.moreC (c := (b, p, s.chg.length)) hown' hgrow)
    have HR9 : Hid (RunB (w4.setCell ⟨mb, 8, none⟩ (.slice A9 (s.cho.length + 1) c9)) rb mb pl p tg fc fg) := Lib.hid (Blk.far hR4 (Ne.symm hmr) _)
    have HF9 := Lib.hid ((HFa.out.grown hgrow (fun k hk => HMa.out.rowVm3 hk)).set_ (q := ⟨mb, 8, none⟩) (.inr ⟨hmlow, .inl rfl⟩) (.slice A9 (s.cho.length + 1) c9))
    have HA9 : Hid ((w4.setCell ⟨mb, 8, none⟩ (.slice A9 (s.cho.length + 1) c9)).cell? ⟨gc, o + 1, none⟩ = some (.int .i64 (a : Nat))) := Lib.hid (cell_far ha4 (by omega))
    clear hHeld hown' hgrow hB4 hR4 hb4 ha4 k04 k24 c4 f4 c74 HMa HRa HCa HBa HFa HMd HRd HFd k0 k2 m7 m8 f8 d1' d2'
    generalize (w4.setCell ⟨mb, 8, none⟩ (.slice A9 (s.cho.length + 1) c9)) = W at *
    obtain ⟨k0, k1, _⟩ := HR9.out.c6
    have m5 := HM9.out.c9.2.2.2.2.2.1
    have m8 := HM9.out.c9.2.2.2.2.2.2.2.2
    have f5 := HM9.out.fz 5
    have g1 := HR9.out.fz 1
    have a9 := HA9.out
    go_wp2
    go_region
    have em : max ((s.deep : Nat) : Int) (((s.cho.length : Nat) : Int) + 1) = ((max s.deep (s.cho.length + 1) : Nat) : Int) := by omega
    rw [em]
    clear em
    have HM8 := Lib.hid (HM9.out.deeper (d := max s.deep (s.cho.length + 1))).drew
    have HR8 : Hid (RunB (W.setCell ⟨mb, 5, none⟩ (.int .i64 (max s.deep (s.cho.length + 1) : Nat))).drew rb mb pl p tg fc fg) := Lib.hid (Blk.far HR9.out (Ne.symm hmr) _)
    have HF8 := Lib.hid (HF9.out.set_ (q := ⟨mb, 5, none⟩) (.inr ⟨hmlow, .inl rfl⟩) (.int .i64 (max s.deep (s.cho.length + 1) : Nat))).drew
    have HA8 : Hid ((W.setCell ⟨mb, 5, none⟩ (.int .i64 (max s.deep (s.cho.length + 1) : Nat))).drew.cell? ⟨gc, o + 1, none⟩ = some (.int .i64 (a : Nat))) := Lib.hid (cell_far HA9.out (by omega))
    clear HM9 HR9 HF9 HA9 k0 k1 m5 m8 f5 g1 a9
    generalize (W.setCell ⟨mb, 5, none⟩ (.int .i64 (max s.deep (s.cho.length + 1) : Nat))).drew = W2 at *
    obtain ⟨_, k1, _⟩ := HR8.out.c6
    have g1 := HR8.out.fz 1
    have a8 := HA8.out
    go_wp2
    go_ret
    exact ⟨rfl, ⟨_, HM8.out.far HR8.out (by decide) (by decide) (by decide) (by decide) _⟩, HR8.out.place a, HF8.out.set_ (q := ⟨rb, 1, none⟩) (.inr ⟨hrb, .inr (.inl rfl)⟩) _⟩
  · go_simp
    refine hK.out _ _ ⟨HRa.out.c6.1, HRa.out.c6.2.2.1, HCa.out.1, HMa.out.c9.2.2.2.2.2.2.2.1⟩ (fun hHeld => ?_)
    clear hK K
    refine wpAnyH_ready (rs := [10]) (by kernel_rfl) (by simp) ?_
    refine AllReadyH.cons rfl (fun K hK => ?_) AllReadyH.nil
    have m8a := HMa.out.c9.2.2.2.2.2.2.2.2
    go_simp
    refine hK.out _ _ hHeld (fun hHeld => ?_)
    clear hK K
    refine wpAnyH_ready (rs := [29]) (by kernel_rfl) (by simp) ?_
    refine AllReadyH.cons rfl (fun K hK => ?_) AllReadyH.nil
    refine step_append_row (.agg #[.int .i64 0, .int .i64 0, .int .i64 0]) Tryz.underlying106 rfl (by decide) (by decide) _ rfl (.tmp 32) (.tmp 50) rfl n₀ i0 hi0 hz0 hz1 hz2 _ s.cho.length (choC s.cho) (by simp [Act.eval]) HMa.out.co wd.heap.size [.int .i64 (b : Nat), .int .i64 (p : Nat), .int .i64 (s.chg.length : Nat)] (by simp [Act.eval]) HBa.out rfl (by simp [Value.oneCell']) (by omega) (by simp; omega) ?_
    intro v' w4 hown' hgrow
    obtain ⟨A9, c9, rfl, _⟩ := own_form2 hown'
    have hB4 : Blk w4 mb _ _ := grown_kept HMa.out hgrow HMa.out.blk (by decide)
    have hR4 : RunB w4 rb mb pl p tg fc fg := grown_kept HMa.out hgrow HRa.out (by decide)
    have hb4 := HMa.out.gkeep hgrow hgc HCa.out.1
    have ha4 := HMa.out.gkeep hgrow hgc HCa.out.2
    have k04 := hR4.c6.1
    have k24 := hR4.c6.2.2.1
    have c4 := hB4.cell 8
    have f4 := hB4.frozen 8
    have c74 := hB4.cell 7
    simp only [List.getElem?_toArray, List.getElem?_cons_zero, List.getElem?_cons_succ] at c4 c74
    refine hK.out _ _ ⟨k04, k24, hb4, c74⟩ (fun hHeld => ?_)
    clear hK K
    simp only [Act.put, List.getElem_toArray, List.getElem_cons_zero, List.getElem_cons_succ, List.setIfInBounds_toArray, List.set_cons_zero, List.set_cons_succ]
    refine take_v 30 52 (.pointer (some ⟨mb, 0, none⟩)) _ rfl rfl (by kernel_rfl) (by kernel_rfl) (by kernel_rfl) (fun _ _ _ h => h) (Or.inl ⟨by rfl, fun w' hSw => ?_⟩) hHeld ?_
    · obtain ⟨q1, q2, q3, q4⟩ := hSw
      go_simp
    simp only [List.setIfInBounds_toArray, List.set_cons_zero, List.set_cons_succ]
    refine take_v 31 53 (.pointer (some ⟨mb, 8, none⟩)) _ rfl rfl (by kernel_rfl) (by kernel_rfl) (by kernel_rfl) (fun _ _ _ h => h) (Or.inl ⟨by rfl, fun w' hSw => ?_⟩) hHeld ?_
    · obtain ⟨q1, q2, q3, q4⟩ := hSw
      go_simp
    simp only [List.setIfInBounds_toArray, List.set_cons_zero, List.set_cons_succ]
    refine wpAnyH_ready (rs := [32]) (by kernel_rfl) (by simp) ?_
    refine AllReadyH.cons rfl (fun K hK => ?_) AllReadyH.nil
    go_simp
    refine hK.out _ _ ⟨cell_far k04 (by omega), cell_far k24 (by omega), cell_far hb4 (by omega), cell_far c74 (by omega)⟩ (fun hHeld => ?_)
    clear hK K
    refine wpAnyH_done (by kernel_rfl) ?_ _
    have HM9 := Lib.hid (HMa.out.moreC (c := (b, p, s.chg.length)) hown' hgrow)
    have HR9 : Hid (RunB (w4.setCell ⟨mb, 8, none⟩ (.slice A9 (s.cho.length + 1) c9)) rb mb pl p tg fc fg) := Lib.hid (Blk.far hR4 (Ne.symm hmr) _)
    have HF9 := Lib.hid ((HFa.out.grown hgrow (fun k hk => HMa.out.rowVm3 hk)).set_ (q := ⟨mb, 8, none⟩) (.inr ⟨hmlow, .inl rfl⟩) (.slice A9 (s.cho.length + 1) c9))
    have HA9 : Hid ((w4.setCell ⟨mb, 8, none⟩ (.slice A9 (s.cho.length + 1) c9)).cell? ⟨gc, o + 1, none⟩ = some (.int .i64 (a : Nat))) := Lib.hid (cell_far ha4 (by omega))
    clear hHeld hown' hgrow hB4 hR4 hb4 ha4 k04 k24 c4 f4 c74 HMa HRa HCa HBa HFa HMd HRd HFd k0 k2 m7 m8 f8 d1' d2'
    generalize (w4.setCell ⟨mb, 8, none⟩ (.slice A9 (s.cho.length + 1) c9)) = W at *
    obtain ⟨k0, k1, _⟩ := HR9.out.c6
    have m5 := HM9.out.c9.2.2.2.2.2.1
    have m8 := HM9.out.c9.2.2.2.2.2.2.2.2
    have f5 := HM9.out.fz 5
    have g1 := HR9.out.fz 1
    have a9 := HA9.out
    go_wp2
    go_region
    have em : max ((s.deep : Nat) : Int) (((s.cho.length : Nat) : Int) + 1) = ((max s.deep (s.cho.length + 1) : Nat) : Int) := by omega
    rw [em]
    clear em
    have HM8 := Lib.hid (HM9.out.deeper (d := max s.deep (s.cho.length + 1))).drew
    have HR8 : Hid (RunB (W.setCell ⟨mb, 5, none⟩ (.int .i64 (max s.deep (s.cho.length + 1) : Nat))).drew rb mb pl p tg fc fg) := Lib.hid (Blk.far HR9.out (Ne.symm hmr) _)
    have HF8 := Lib.hid (HF9.out.set_ (q := ⟨mb, 5, none⟩) (.inr ⟨hmlow, .inl rfl⟩) (.int .i64 (max s.deep (s.cho.length + 1) : Nat))).drew
    have HA8 : Hid ((W.setCell ⟨mb, 5, none⟩ (.int .i64 (max s.deep (s.cho.length + 1) : Nat))).drew.cell? ⟨gc, o + 1, none⟩ = some (.int .i64 (a : Nat))) := Lib.hid (cell_far HA9.out (by omega))
    clear HM9 HR9 HF9 HA9 k0 k1 m5 m8 f5 g1 a9
    generalize (W.setCell ⟨mb, 5, none⟩ (.int .i64 (max s.deep (s.cho.length + 1) : Nat))).drew = W2 at *
    obtain ⟨_, k1, _⟩ := HR8.out.c6
    have g1 := HR8.out.fz 1
    have a8 := HA8.out
    go_wp2
    go_ret
    exact ⟨rfl, ⟨_, HM8.out.far HR8.out (by decide) (by decide) (by decide) (by decide) _⟩, HR8.out.place a, HF8.out.set_ (q := ⟨rb, 1, none⟩) (.inr ⟨hrb, .inr (.inl rfl)⟩) _⟩

end Go.Proofs.YtdbddbelhgkelaaGreatDoor

/- The machine: back to a choice; done; a unit taken; edges. -/
namespace Go.Proofs.YtdbddbelhgkelaaGreatDoor
open Go.RowKit
open Go.Proofs.YtdbddbelhgkelaaGreatDoor.Cl (Rg SetV SetAt rgCells info_three)
variable {w w' w0 : World} {n₀ mb F S : Nat} {cv uv V1 V2 V3 : Value} {s : Ms} {rb pl p fc fg : Nat} {tg : Int}

/-- What holds of a machine all along. -/
structure FitB (s : Ms) : Prop where
  slots : 0 < s.sl.length ∧ s.sl.length ≤ 100000
  chg : s.chg.length ≤ 100000000
  slot : ∀ c ∈ s.chg, c.1 < s.sl.length
  cho : s.cho.length ≤ 4096
  kept : ∀ c ∈ s.cho, c.2.2 ≤ s.chg.length
  deep : s.deep ≤ 4097
theorem FrV.blkRun {rb' : Nat} (h : FrV n₀ mb mb w w') (hr : RunB w rb' mb pl p tg fc fg) (hne : mb ≠ rb') : RunB w' rb' mb pl p tg fc fg := h.blk hr (by decide) (by decide) (by decide) (Ne.symm hne) (Ne.symm hne)
theorem done_any (hr : RunB w rb mb pl p tg fc fg) (htg : tg = -1) : Calls Tryz.prog 75 #[.pointer (some ⟨rb, 0, none⟩)] w fun e w' => e = .returned (.int .i64 1) ∧ ∃ m, w' = w.drewN m := by
  subst htg
  obtain ⟨_, _, _, k3, _⟩ := hr.c6
  clear hr
  go_enter Tryz.func75, Tryz.ntmps75
  go_wp2
  go_quiet (fail)
  go_wp2
  go_ret
  exact ⟨rfl, _, rfl⟩
theorem back_no (h : Mch n₀ w mb cv uv F S s V1 V2 V3) (hr : RunB w rb mb pl p tg fc fg) (hc : s.cho.length ≤ fc) (hfc : fc ≤ 4096) : Calls Tryz.prog 64 #[.pointer (some ⟨rb, 0, none⟩)] w fun e w' => e = .returned (.bool false) ∧ w' = w := by
  obtain ⟨k0, _, _, _, k4, _⟩ := hr.c6
  obtain ⟨A3, c3, rfl, hc3⟩ := own_form2 h.co
  have m8 := h.c9.2.2.2.2.2.2.2.2
  have hlt : (s.cho.length : Int) - 1 < (fc : Int) := by omega
  clear h hr
  go_enter Tryz.func64, Tryz.ntmps64
  go_wp2
  go_ret
  exact ⟨rfl, rfl⟩

theorem mch_popC {l : List (Nat × Nat × Nat)} {c : Nat × Nat × Nat} {g k : Nat} (h : Mch n₀ w mb cv uv F S s V1 V2 (.slice (some ⟨g, 0, none⟩) (l.length + 1) k)) (hc : s.cho = l ++ [c]) : Mch n₀ (w.setCell ⟨mb, 8, none⟩ (.slice (some ⟨g, 0, none⟩) l.length k)) mb cv uv F S { s with cho := l } V1 V2 (.slice (some ⟨g, 0, none⟩) l.length k) := by
  refine h.own_ 8 _ rfl h.sl h.cg ?_
  have h3 := h.co
  rw [hc] at h3
  have hl : (l ++ [c]).length = l.length + 1 := by simp
  rw [hl] at h3
  have := own_take (m := l.length) h3 (by omega)
  have e : (choC (l ++ [c])).take (l.length * 3) = choC l := by
    rw [choC_append, List.take_append_of_le_length (by rw [choC_len]; omega), List.take_of_length_le (by rw [choC_len]; omega)]
  rw [e] at this
  exact this
theorem last_choice {l : List (Nat × Nat × Nat)} {c : Nat × Nat × Nat} (h : Mch n₀ w mb cv uv F S s V1 V2 V3) (hc : s.cho = l ++ [c]) : ∃ g k, V3 = .slice (some ⟨g, 0, none⟩) (l.length + 1) k ∧ l.length + 1 ≤ k ∧ w.cell? ⟨g, l.length * 3, none⟩ = some (.int .i64 (c.1 : Nat)) ∧ w.cell? ⟨g, l.length * 3 + 1, none⟩ = some (.int .i64 (c.2.1 : Nat)) ∧ w.cell? ⟨g, l.length * 3 + 2, none⟩ = some (.int .i64 (c.2.2 : Nat)) := by
  have hl : s.cho.length = l.length + 1 := by rw [hc]; simp
  have hg : s.cho[l.length]? = some c := by rw [hc]; simp
  rcases own_at h.co with ⟨_, h0⟩ | ⟨g, k, hv, hk, _, _, hcell, _⟩
  · omega
  · rw [hl] at hv hk
    have f := fun (x : Nat) (u : Value) => flat_get coC 3 (fun _ => rfl) s.cho l.length x c u hg
    exact ⟨g, k, hv, hk, (hcell _ (by omega)).trans (f 0 _ rfl), (hcell _ (by omega)).trans (f 1 _ rfl), (hcell _ (by omega)).trans (f 2 _ rfl)⟩

set_option maxRecDepth 100000 in
set_option maxHeartbeats 4000000 in
theorem back_yes {l : List (Nat × Nat × Nat)} {c : Nat × Nat × Nat} (h : Mch n₀ w mb cv uv F S s V1 V2 V3) (hr : RunB w rb mb pl p tg fc fg) (hc : s.cho = l ++ [c]) (hfc : fc ≤ l.length) (hF : FitB s) (hrb : n₀ ≤ rb) :
    Calls Tryz.prog 64 #[.pointer (some ⟨rb, 0, none⟩)] w fun e w' => e = .returned (.bool true) ∧ (∃ V2' V3', Mch n₀ w' mb cv uv F S (({ s with cho := l } : Ms).undo c.2.2) V1 V2' V3') ∧ RunB w' rb mb c.1 c.2.1 tg fc fg ∧ FrV n₀ mb rb w w' := by
  obtain ⟨k0, _, _, _, k4, _⟩ := hr.c6
  obtain ⟨g3, c3, rfl, hc3, e0, e1, e2⟩ := last_choice h hc
  have m8 := h.c9.2.2.2.2.2.2.2.2
  have hll : l.length + 1 ≤ 4096 := by have := hF.cho; rw [hc] at this; simpa using this
  have hlt : ¬ (l.length : Int) < (fc : Int) := by omega
  have hmr : mb ≠ rb := fun e => ne_of_types h.blk hr (by decide) e
  have hmlow := h.low
  have hkc : c.2.2 ≤ s.chg.length := hF.kept c (by rw [hc]; simp)
  have HM := Lib.hid h
  have HR := Lib.hid hr
  have HC := Lib.hid hc
  have HFt := Lib.hid hF
  clear h hr hc hF
  obtain ⟨c1, c2, c4⟩ := c
  simp only at e0 e1 e2 hkc
  have HMa := Lib.hid (HM.out.alloc (.cells #[.int .i64 (c1 : Nat), .int .i64 (c2 : Nat), .int .i64 (c4 : Nat)] 131))
  have HRa : Hid (RunB (w.alloc (.cells #[.int .i64 (c1 : Nat), .int .i64 (c2 : Nat), .int .i64 (c4 : Nat)] 131)) rb mb pl p tg fc fg) := Lib.hid (Blk.alloc HR.out _)
  have HBa := Lib.hid (Blk.new w 131 #[.int .i64 (c1 : Nat), .int .i64 (c2 : Nat), .int .i64 (c4 : Nat)])
  have HFa : Hid (FrV n₀ mb rb w (w.alloc (.cells #[.int .i64 (c1 : Nat), .int .i64 (c2 : Nat), .int .i64 (c4 : Nat)] 131))) := Lib.hid ((FrV.refl w).alloc _)
  have hnb : w.heap.size ≠ mb := by have := HM.out.blk.lt; omega
  have hnr : w.heap.size ≠ rb := by have := Blk.lt HR.out; omega
  go_enter Tryz.func64, Tryz.ntmps64
  go_upto_region 5 with (fail)
  clear k0 k4 e0 e1 e2 m8
  generalize (w.alloc (.cells #[.int .i64 (c1 : Nat), .int .i64 (c2 : Nat), .int .i64 (c4 : Nat)] 131)) = W at *
  obtain ⟨k0, _⟩ := HRa.out.c6
  have m8 := HMa.out.c9.2.2.2.2.2.2.2.2
  have f8 := HMa.out.fz 8
  go_region
  have HMb := Lib.hid (mch_popC HMa.out HC.out).drew
  have HRb : Hid (RunB (W.setCell ⟨mb, 8, none⟩ (.slice (some ⟨g3, 0, none⟩) l.length c3)).drew rb mb pl p tg fc fg) := Lib.hid (Blk.far HRa.out (Ne.symm hmr) _)
  have HBb : Hid (Blk (W.setCell ⟨mb, 8, none⟩ (.slice (some ⟨g3, 0, none⟩) l.length c3)).drew w.heap.size 131 #[.int .i64 (c1 : Nat), .int .i64 (c2 : Nat), .int .i64 (c4 : Nat)]) := Lib.hid (Blk.far HBa.out hnb _)
  have HFb := Lib.hid (HFa.out.set_ (q := ⟨mb, 8, none⟩) (.inr ⟨hmlow, .inl rfl⟩) (.slice (some ⟨g3, 0, none⟩) l.length c3)).drew
  clear HMa HRa HBa HFa k0 m8 f8
  generalize (W.setCell ⟨mb, 8, none⟩ (.slice (some ⟨g3, 0, none⟩) l.length c3)).drew = W2 at *
  obtain ⟨k0, _⟩ := HRb.out.c6
  have b0 := HBb.out.cell 0
  have b1 := HBb.out.cell 1
  simp only [List.getElem?_toArray, List.getElem?_cons_zero, List.getElem?_cons_succ] at b0 b1
  have r1 := HRb.out.fz 1
  have r2 := HRb.out.fz 2
  go_wp2_with fail
  go_region
  have HRc : Hid (RunB ((W2.setCell ⟨rb, 1, none⟩ (.int .i64 (c1 : Nat))).setCell ⟨rb, 2, none⟩ (.int .i64 (c2 : Nat))).drew rb mb c1 c2 tg fc fg) := Lib.hid ((HRb.out.place c1).pos c2)
  have HMc := Lib.hid ((HMb.out.far HRb.out (by decide) (by decide) (by decide) (by decide) (.int .i64 (c1 : Nat))).far (o := 2) (HRb.out.place c1) (by decide) (by decide) (by decide) (by decide) (.int .i64 (c2 : Nat))).drew
  have HBc : Hid (Blk ((W2.setCell ⟨rb, 1, none⟩ (.int .i64 (c1 : Nat))).setCell ⟨rb, 2, none⟩ (.int .i64 (c2 : Nat))).drew w.heap.size 131 #[.int .i64 (c1 : Nat), .int .i64 (c2 : Nat), .int .i64 (c4 : Nat)]) := Lib.hid (Blk.far (Blk.far HBb.out hnr _) hnr _)
  have HFc := Lib.hid ((HFb.out.set_ (q := ⟨rb, 1, none⟩) (.inr ⟨hrb, .inr (.inl rfl)⟩) (.int .i64 (c1 : Nat))).set_ (q := ⟨rb, 2, none⟩) (.inr ⟨hrb, .inr (.inl rfl)⟩) (.int .i64 (c2 : Nat))).drew
  clear HMb HRb HBb HFb k0 b0 b1 r1 r2
  generalize ((W2.setCell ⟨rb, 1, none⟩ (.int .i64 (c1 : Nat))).setCell ⟨rb, 2, none⟩ (.int .i64 (c2 : Nat))).drew = W3 at *
  have hf := HFt.out
  have HU := Lib.hid (undo_any (n := c4) HMc.out.drew hkc hf.chg hf.slot hf.slots)
  obtain ⟨k0, _⟩ := HRc.out.c6
  have b2 := HBc.out.cell 2
  simp only [List.getElem?_toArray, List.getElem?_cons_zero, List.getElem?_cons_succ] at b2
  clear hf
  go_wp2_with fail
  go_region_with (go_at_call 65; refine HU.out.mono ?_; clear HU; rintro e w9 ⟨⟨u, rfl⟩, hm9, hf9⟩)
  all_goals
    have HR9 : Hid (RunB w9 rb mb c1 c2 tg fc fg) := Lib.hid (FrV.blkRun (w := W3.drew) hf9 HRc.out hmr)
    have HF9 := Lib.hid (HFc.out.drew.trans (hf9.drop (.inr rfl)))
    have HM9 := Lib.hid hm9
    clear hm9 hf9
    go_wp2
    go_ret
    refine ⟨rfl, ?_, HR9.out, HF9.out⟩
    obtain ⟨V2', hm9⟩ := HM9.out
    exact ⟨V2', _, hm9⟩

end Go.Proofs.YtdbddbelhgkelaaGreatDoor

