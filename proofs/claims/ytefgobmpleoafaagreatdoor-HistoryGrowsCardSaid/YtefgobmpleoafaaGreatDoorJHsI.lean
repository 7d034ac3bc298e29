/- Layer 14's laws: one history and two beside one another, while a law goes on. -/
import Derived.Test.YtefgobmpleoafaaGreatDoorJHsH
import Derived.Test.YtefgobmpleoafaaGreatDoorJHsm
import Derived.Test.YtefgobmpleoafaaGreatDoorJHpx
namespace Go.Proofs.YtefgobmpleoafaaGreatDoor
open Go.RowKit Go.Maps
variable {w0 w w' : World} {X : Nat → Prop} {n₀ g h : Nat} {G H : Hs} {x : En}

/-- A history, apart from what the law was handed and from the boxes of X. -/
def One (n₀ : Nat) (w0 w : World) (X : Nat → Prop) (g : Nat) (H : Hs) : Prop := ∃ S U, HistAt w g S U H ∧ (∀ i, S i → n₀ ≤ i) ∧ (∀ i, X i → ¬ S i ∧ i < w.heap.size) ∧ n₀ ≤ w0.heap.size ∧ Below n₀ w0 w
/-- Two histories, apart. -/
def Two (n₀ : Nat) (w0 w : World) (X : Nat → Prop) (g h : Nat) (G H : Hs) : Prop :=
  ∃ S T U, HistAt w g S U G ∧ HistAt w h T U H ∧ (∀ i, S i → ¬ T i) ∧ (∀ i, S i → n₀ ≤ i) ∧ (∀ i, T i → n₀ ≤ i) ∧ (∀ i, X i → (¬ S i ∧ ¬ T i) ∧ i < w.heap.size) ∧ n₀ ≤ w0.heap.size ∧ Below n₀ w0 w
theorem One.below (a : One n₀ w0 w X g H) : Below n₀ w0 w := by obtain ⟨_, _, _, _, _, _, h⟩ := a; exact h
theorem Two.below (a : Two n₀ w0 w X g h G H) : Below n₀ w0 w := by obtain ⟨_, _, _, _, _, _, _, _, _, _, h⟩ := a; exact h
theorem One.on (a : One n₀ w0 w X g H) (b : Below w.heap.size w w') : One n₀ w0 w' X g H := by
  obtain ⟨S, U, h1, h2, h3, h4, h5⟩ := a
  exact ⟨S, U, h1.on b, h2, fun i hi => ⟨(h3 i hi).1, Nat.lt_of_lt_of_le (h3 i hi).2 b.size⟩, h4, h5.trans (b.mono (Nat.le_trans h4 h5.size))⟩
theorem Two.on (a : Two n₀ w0 w X g h G H) (b : Below w.heap.size w w') : Two n₀ w0 w' X g h G H := by
  obtain ⟨S, T, U, h1, h2, hd, h3, h4, h5, h6, h7⟩ := a
  exact ⟨S, T, U, h1.on b, h2.on b, hd, h3, h4, fun i hi => ⟨(h5 i hi).1, Nat.lt_of_lt_of_le (h5 i hi).2 b.size⟩, h6, h7.trans (b.mono (Nat.le_trans h6 h7.size))⟩
theorem One.box (a : One n₀ w0 w X g H) (o : Obj) : One n₀ w0 (w.alloc o) (fun i => X i ∨ i = w.heap.size) g H := by
  have hb : Below w.heap.size w (w.alloc o) := (Below.refl _ _).alloc (Nat.le_refl _) _
  have hl : w.heap.size < (w.alloc o).heap.size := by simp
  obtain ⟨S, U, h1, h2, h3, h4, h5⟩ := a
  exact ⟨S, U, h1.on hb, h2, fun i hi => hi.elim (fun e => ⟨(h3 i e).1, by have := (h3 i e).2; omega⟩) (fun e => ⟨fun f => by have := h1.old _ f; omega, by omega⟩), h4, h5.trans (hb.mono (Nat.le_trans h4 h5.size))⟩
theorem Two.box (a : Two n₀ w0 w X g h G H) (o : Obj) : Two n₀ w0 (w.alloc o) (fun i => X i ∨ i = w.heap.size) g h G H := by
  have hb : Below w.heap.size w (w.alloc o) := (Below.refl _ _).alloc (Nat.le_refl _) _
  have hl : w.heap.size < (w.alloc o).heap.size := by simp
  obtain ⟨S, T, U, h1, h2, hd, h3, h4, h5, h6, h7⟩ := a
  exact ⟨S, T, U, h1.on hb, h2.on hb, hd, h3, h4, fun i hi => hi.elim (fun e => ⟨(h5 i e).1, by have := (h5 i e).2; omega⟩) (fun e => ⟨⟨fun f => by have := h1.old _ f; omega, fun f => by have := h2.old _ f; omega⟩, by omega⟩), h6, h7.trans (hb.mono (Nat.le_trans h6 h7.size))⟩
theorem One.less {Y : Nat → Prop} (a : One n₀ w0 w X g H) (hy : ∀ i, Y i → X i) : One n₀ w0 w Y g H := by
  obtain ⟨S, U, h1, h2, h3, h4⟩ := a
  exact ⟨S, U, h1, h2, fun i hi => h3 i (hy i hi), h4⟩
theorem Two.less {Y : Nat → Prop} (a : Two n₀ w0 w X g h G H) (hy : ∀ i, Y i → X i) : Two n₀ w0 w Y g h G H := by
  obtain ⟨S, T, U, h1, h2, hd, h3, h4, h5, h6⟩ := a
  exact ⟨S, T, U, h1, h2, hd, h3, h4, fun i hi => h5 i (hy i hi), h6⟩
theorem Two.left (a : Two n₀ w0 w X g h G H) : One n₀ w0 w X g G := by
  obtain ⟨S, T, U, h1, h2, hd, h3, h4, h5, h6⟩ := a
  exact ⟨S, U, h1, h3, fun i hi => ⟨(h5 i hi).1.1, (h5 i hi).2⟩, h6⟩
theorem Two.right (a : Two n₀ w0 w X g h G H) : One n₀ w0 w X h H := by
  obtain ⟨S, T, U, h1, h2, hd, h3, h4, h5, h6⟩ := a
  exact ⟨T, U, h2, h4, fun i hi => ⟨(h5 i hi).1.2, (h5 i hi).2⟩, h6⟩
theorem Two.swap (a : Two n₀ w0 w X g h G H) : Two n₀ w0 w X h g H G := by
  obtain ⟨S, T, U, h1, h2, hd, h3, h4, h5, h6⟩ := a
  exact ⟨T, S, U, h2, h1, fun i hi e => hd i e hi, h4, h3, fun i hi => ⟨⟨(h5 i hi).1.2, (h5 i hi).1.1⟩, (h5 i hi).2⟩, h6⟩
/-- The boxes of X stay. -/
def Kp14 (X : Nat → Prop) (w w' : World) : Prop := ∀ i, X i → w'.heap[i]? = w.heap[i]?
theorem Kp14.blk {b : Nat} {t : TypeId} {cs : Array Value} (k : Kp14 X w w') (hx : X b) (hb : Blk w b t cs) : Blk w' b t cs := (k b hx).trans hb
/-- An entry that reads below n₀, whatever is turned from there on. -/
def EnF (n₀ : Nat) (w0 : World) (x : En) (pv dv : Value) : Prop := ∀ w', Below n₀ w0 w' → RulesV n₀ w' pv x.d.put ∧ Row n₀ w' dv (zI x.d.drop)
theorem add_one (x : En) (pv dv : Value) (a : One n₀ w0 w X g H) (hT : TabsAt n₀ w0) (he : EnF n₀ w0 x pv dv) (hl : H.vs.length ≤ 100000) (hn : H.n ≤ 1000000) :
    Calls Tryz.prog 15 #[.pointer (some ⟨g, 0, none⟩), x.val pv dv] w fun e w' => e = .returned (.tuple #[.agg #[.int .i64 (H.outA x).ve, .int .i64 (H.outA x).co, .int .i64 (H.outA x).ru, .int .i64 (H.outA x).at_], .int .i64 (Hs.errA x)]) ∧ One n₀ w0 w' X g (H.put pvM x) ∧ Kp14 X w w' := by
  obtain ⟨S, U, h1, h2, h3, h4, h5⟩ := a
  have hw : n₀ ≤ w.heap.size := Nat.le_trans h4 h5.size
  refine (add_any x pv dv w n₀ (tabs_on hT h5 (Nat.le_refl _)) hw h2 (fun w2 k2 => ((he w2 (h5.trans (k2.old hw h2))).1.more hw)) (fun w2 k2 => ((he w2 (h5.trans (k2.old hw h2))).2.more hw)) hl hn h1).mono ?_
  rintro e w' ⟨rfl, S', hs, ht, hf⟩
  refine ⟨rfl, ⟨S', _, ht, fun i hi => (hs i hi).elim (h2 i) (fun e => by omega), fun i hi => ⟨fun e => (hs i e).elim (h3 i hi).1 (fun e => by have := (h3 i hi).2; omega), Nat.lt_of_lt_of_le (h3 i hi).2 hf.size⟩, h4, h5.trans (hf.old hw h2)⟩, fun i hi => hf.block i (h3 i hi).2 (h3 i hi).1⟩
theorem add_left (x : En) (pv dv : Value) (a : Two n₀ w0 w X g h G H) (hT : TabsAt n₀ w0) (he : EnF n₀ w0 x pv dv) (hl : G.vs.length ≤ 100000) (hn : G.n ≤ 1000000) :
    Calls Tryz.prog 15 #[.pointer (some ⟨g, 0, none⟩), x.val pv dv] w fun e w' => e = .returned (.tuple #[.agg #[.int .i64 (G.outA x).ve, .int .i64 (G.outA x).co, .int .i64 (G.outA x).ru, .int .i64 (G.outA x).at_], .int .i64 (Hs.errA x)]) ∧ Two n₀ w0 w' X g h (G.put pvM x) H ∧ Kp14 X w w' := by
  obtain ⟨S, T, U, h1, k1, hd, h2, k2, h3, h4, h5⟩ := a
  have hw : n₀ ≤ w.heap.size := Nat.le_trans h4 h5.size
  refine (add_any x pv dv w n₀ (tabs_on hT h5 (Nat.le_refl _)) hw h2 (fun w2 k2 => ((he w2 (h5.trans (k2.old hw h2))).1.more hw)) (fun w2 k2 => ((he w2 (h5.trans (k2.old hw h2))).2.more hw)) hl hn h1).mono ?_
  rintro e w' ⟨rfl, S', hs, ht, hf⟩
  have kt : HistAt w' h T (fun i => U i ∨ S' i) H := k1.fr hf (fun i hi e => hd i e hi) (fun i hi => h1.wide i hi) (fun i hi => hi.elim .inl fun e => (hs i e).imp (h1.wide i) id) (fun i hi => .inl (k1.wide i hi)) (fun i hi => ht.uold i hi)
  refine ⟨rfl, ⟨S', T, _, ht, kt, fun i hi e => (hs i hi).elim (fun f => hd i f e) (fun f => by have := k1.old i e; omega), fun i hi => (hs i hi).elim (h2 i) (fun e => by omega), k2, fun i hi => ⟨⟨fun e => (hs i e).elim (h3 i hi).1.1 (fun e => by have := (h3 i hi).2; omega), (h3 i hi).1.2⟩, Nat.lt_of_lt_of_le (h3 i hi).2 hf.size⟩, h4, h5.trans (hf.old hw h2)⟩, fun i hi => hf.block i (h3 i hi).2 (h3 i hi).1.1⟩
theorem add_right (x : En) (pv dv : Value) (a : Two n₀ w0 w X g h G H) (hT : TabsAt n₀ w0) (he : EnF n₀ w0 x pv dv) (hl : H.vs.length ≤ 100000) (hn : H.n ≤ 1000000) :
    Calls Tryz.prog 15 #[.pointer (some ⟨h, 0, none⟩), x.val pv dv] w fun e w' => e = .returned (.tuple #[.agg #[.int .i64 (H.outA x).ve, .int .i64 (H.outA x).co, .int .i64 (H.outA x).ru, .int .i64 (H.outA x).at_], .int .i64 (Hs.errA x)]) ∧ Two n₀ w0 w' X g h G (H.put pvM x) ∧ Kp14 X w w' :=
  (add_left x pv dv a.swap hT he hl hn).mono fun _ _ h => ⟨h.1, h.2.1.swap, h.2.2⟩
end Go.Proofs.YtefgobmpleoafaaGreatDoor

