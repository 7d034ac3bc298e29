/- Layer 14's laws: one history beside blocks that the law writes into. -/
import Derived.Test.YtefgobmpleoafaaGreatDoorJHsK
namespace Go.Proofs.YtefgobmpleoafaaGreatDoor
open Go.RowKit Go.Maps
variable {w0 w w' : World} {X : Nat → Prop} {n₀ g h : Nat} {G H : Hs} {x : En}

/-- A history, whatever is turned in X's blocks. -/
def OneU (n₀ : Nat) (w0 w : World) (X : Nat → Prop) (g : Nat) (H : Hs) : Prop := ∃ S U, HistAt w g S U H ∧ (∀ i, S i → n₀ ≤ i) ∧ (∀ i, X i → ¬ S i ∧ U i ∧ n₀ ≤ i) ∧ n₀ ≤ w0.heap.size ∧ Below n₀ w0 w
/-- The blocks that are made on the way from a to b. -/
def Rg (a b : Nat) (i : Nat) : Prop := a ≤ i ∧ i < b
theorem One.u (a : One n₀ w0 w (fun _ => False) g H) : OneU n₀ w0 w (fun _ => False) g H := by
  obtain ⟨S, U, h1, h2, _, h4, h5⟩ := a
  exact ⟨S, U, h1, h2, fun _ e => e.elim, h4, h5⟩
theorem OneU.one (a : OneU n₀ w0 w X g H) : One n₀ w0 w X g H := by
  obtain ⟨S, U, h1, h2, h3, h4, h5⟩ := a
  exact ⟨S, U, h1, h2, fun i hi => ⟨(h3 i hi).1, h1.uold i (h3 i hi).2.1⟩, h4, h5⟩
theorem OneU.below (a : OneU n₀ w0 w X g H) : Below n₀ w0 w := by obtain ⟨_, _, _, _, _, _, h⟩ := a; exact h
theorem OneU.low (a : OneU n₀ w0 w X g H) : n₀ ≤ w.heap.size := by obtain ⟨_, _, _, _, _, h, k⟩ := a; exact Nat.le_trans h k.size
theorem OneU.less {Y : Nat → Prop} (a : OneU n₀ w0 w X g H) (hy : ∀ i, Y i → X i) : OneU n₀ w0 w Y g H := by
  obtain ⟨S, U, h1, h2, h3, h4⟩ := a
  exact ⟨S, U, h1, h2, fun i hi => h3 i (hy i hi), h4⟩
theorem OneU.more (a : OneU n₀ w0 w X g H) (b : Below w.heap.size w w') : OneU n₀ w0 w' (fun i => X i ∨ Rg w.heap.size w'.heap.size i) g H := by
  have hlow := a.low
  obtain ⟨S, U, h1, h2, h3, h4, h5⟩ := a
  refine ⟨S, fun i => U i ∨ Rg w.heap.size w'.heap.size i, h1.fr (S' := fun _ => False) (Fh.of_below b) (fun _ _ e => e) (fun _ e => e.elim) (fun i hi => hi.imp id (fun e => e.1)) (fun i hi => .inl (h1.wide i hi)) (fun i hi => ?_), h2, fun i hi => ?_, h4, h5.trans (b.mono hlow)⟩
  · rcases hi with hi | hi
    · exact Nat.lt_of_lt_of_le (h1.uold i hi) b.size
    · exact hi.2
  · rcases hi with hi | hi
    · exact ⟨(h3 i hi).1, .inl (h3 i hi).2.1, (h3 i hi).2.2⟩
    · exact ⟨fun e => by have := h1.old i e; have := hi.1; omega, .inr hi, by have := hi.1; omega⟩
theorem OneU.on (a : OneU n₀ w0 w X g H) (b : Below w.heap.size w w') : OneU n₀ w0 w' X g H := (a.more b).less fun _ hi => .inl hi
theorem OneU.store (a : OneU n₀ w0 w X g H) {q : Addr} (hq : X q.block) (u : Value) : OneU n₀ w0 (w.setCell q u) X g H := by
  obtain ⟨S, U, h1, h2, h3, h4, h5⟩ := a
  exact ⟨S, U, h1.store_ (h3 _ hq).1 (h3 _ hq).2.1, h2, h3, h4, h5.setCell (h3 _ hq).2.2 u⟩
theorem add_u (x : En) (pv dv : Value) (a : OneU n₀ w0 w X g H) (hT : TabsAt n₀ w0) (hP : ∀ w', w.heap.size ≤ w'.heap.size → (∀ i, X i → w'.heap[i]? = w.heap[i]?) → RulesV w.heap.size w' pv x.d.put) (hD : ∀ w', Below n₀ w0 w' → Row n₀ w' dv (zI x.d.drop)) (hl : H.vs.length ≤ 100000) (hn : H.n ≤ 1000000) :
    Calls Tryz.prog 15 #[.pointer (some ⟨g, 0, none⟩), x.val pv dv] w fun e w' => e = .returned (.tuple #[.agg #[.int .i64 (H.outA x).ve, .int .i64 (H.outA x).co, .int .i64 (H.outA x).ru, .int .i64 (H.outA x).at_], .int .i64 (Hs.errA x)]) ∧ OneU n₀ w0 w' X g (H.put pvM x) ∧ Kp14 X w w' := by
  have hw := a.low
  obtain ⟨S, U, h1, h2, h3, h4, h5⟩ := a
  have hx : ∀ i, X i → i < w.heap.size := fun i hi => h1.uold i (h3 i hi).2.1
  refine (add_any x pv dv w n₀ (tabs_on hT h5 (Nat.le_refl _)) hw h2 (fun w2 k2 => hP w2 k2.size fun i hi => k2.block i (hx i hi) (h3 i hi).1) (fun w2 k2 => (hD w2 (h5.trans (k2.old hw h2))).more hw) hl hn h1).mono ?_
  rintro e w' ⟨rfl, S', hs, ht, hf⟩
  exact ⟨rfl, ⟨S', _, ht, fun i hi => (hs i hi).elim (h2 i) (fun e => by omega), fun i hi => ⟨fun e => (hs i e).elim (h3 i hi).1 (fun e => by have := hx i hi; omega), .inl (h3 i hi).2.1, (h3 i hi).2.2⟩, h4, h5.trans (hf.old hw h2)⟩, fun i hi => hf.block i (hx i hi) (h3 i hi).1⟩
theorem set_u (j k : Nat) (s : RS) (hk : H.vs.length = k + 1) (hs : H.vs[j]? = some s) (a : OneU n₀ w0 w X g H) : Calls Tryz.prog 20 #[.pointer (some ⟨g, 0, none⟩), .int .i64 (j : Int)] w fun e w' => ∃ A c, e = .returned (.tuple #[.agg #[.int .i64 s.de, .int .i64 s.cl, .int .i64 s.fu, .int .i64 s.st, .slice A s.rs.length c], .bool true]) ∧ OwnU w' w.heap.size 72 (.slice A s.rs.length c) s.rs ∧ s.Ok ∧ Below w.heap.size w w' := by
  obtain ⟨S, U, h1, _⟩ := a
  refine (set_in j k s hk hs h1).mono ?_
  rintro e w' ⟨A, c, rfl, ho, hb⟩
  exact ⟨A, c, rfl, ho, (rulesM_ok.1 (h1.ok.2 s (List.mem_of_getElem? hs))).1, hb⟩
/-- A row whose cells may be turned. -/
def Rw (base : Nat) (w : World) (v : Value) (n : Nat) : Prop := ∃ xs, w.ownsRow base 72 5 v n xs
theorem Rw.keep {base n : Nat} {v : Value} (h : Rw base w v n) (hk : ∀ i, v.ownBlock = some i → w'.heap[i]? = w.heap[i]?) : Rw base w' v n := by
  obtain ⟨xs, h⟩ := h
  exact ⟨xs, own_keep h fun i hi => hk i hi.symm⟩
theorem Rw.open_ {base n c : Nat} {A : Option Addr} (h : Rw base w (.slice A n c) n) (hn : 0 < n) : ∃ b, A = some ⟨b, 0, none⟩ ∧ base ≤ b ∧ b < w.heap.size ∧ (∃ cs z, w.heap[b]? = some (.cells cs 72 z)) ∧ (∀ k, k < n * 5 → ∃ u, w.cell? ⟨b, k, none⟩ = some u) ∧ (∀ k, w.frozen? ⟨b, k, none⟩ = false) ∧ ∀ k u, Rw base (w.setCell ⟨b, k, none⟩ u) (.slice A n c) n := by
  obtain ⟨xs, h⟩ := h
  rcases h.2 with ⟨hv, h0⟩ | ⟨b, c', cur, hv, hb, hh, hn', _⟩
  · omega
  · injection hv with e1 e2 e3
    subst e1
    refine ⟨b, rfl, hb, lt_of_some hh, ⟨cur, _, hh⟩, fun k hk => ?_, fun k => World.ownsRow.frozenAt h k, fun k u => ⟨_, (World.ownsRow.stored h k u).1⟩⟩
    have hc := World.ownsRow.cellAt h k hk
    have hl : k < xs.length := by rw [h.1]; exact hk
    exact ⟨xs[k], hc.trans (List.getElem?_eq_getElem hl)⟩
/-- Rules read as they did, where their block stays. -/
theorem RulesV.kept {m : Nat} {v : Value} {l : List Ru} (h : RulesV m w v l) (hk : ∀ i, v.ownBlock = some i → w'.heap[i]? = w.heap[i]?) : RulesV m w' v l := by
  obtain ⟨A, cap, hv, hc, ht⟩ := h
  refine ⟨A, cap, hv, hc, fun hs => ?_⟩
  obtain ⟨b, off, hA, hb, hx⟩ := ht hs
  subst hA
  refine ⟨b, off, rfl, hb, fun i x hi => ?_⟩
  have c : ∀ o, w'.cell? ⟨b, o, none⟩ = w.cell? ⟨b, o, none⟩ := fun o => by
    unfold World.cell?
    rw [hk b (by rw [hv]; rfl)]
  obtain ⟨c0, c1, c2, c3, c4⟩ := hx i x hi
  exact ⟨(c _).trans c0, (c _).trans c1, (c _).trans c2, (c _).trans c3, (c _).trans c4⟩
end Go.Proofs.YtefgobmpleoafaaGreatDoor

