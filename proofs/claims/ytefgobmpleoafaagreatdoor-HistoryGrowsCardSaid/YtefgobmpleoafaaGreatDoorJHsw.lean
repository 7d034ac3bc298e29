/- Joined: HsW, HsA. -/
import Derived.Test.YtefgobmpleoafaaGreatDoorJHsm
import Derived.Test.YtefgobmpleoafaaGreatDoorJHpx
import Derived.Test.YtefgobmpleoafaaGreatDoorJVd
import Derived.IntWalk
import Derived.Test.YtefgobmpleoafaaGreatDoorJVdA
/- What a call keeps but for some blocks; sets whose rules read; a history in memory. -/
namespace Go.Proofs.YtefgobmpleoafaaGreatDoor
open Go.RowKit Go.Maps
variable {w w' w'' : World} {S S' : Nat → Prop} {n₀ n₁ : Nat}

/-- What a call leaves: all but the blocks of S. -/
structure Fh (S : Nat → Prop) (w w' : World) : Prop where
  os : w'.os = w.os
  tape : w'.tape = w.tape
  output : w'.output = w.output
  size : w.heap.size ≤ w'.heap.size
  block : ∀ i, i < w.heap.size → ¬ S i → w'.heap[i]? = w.heap[i]?
theorem Fh.refl (w : World) : Fh S w w := ⟨rfl, rfl, rfl, Nat.le_refl _, fun _ _ _ => rfl⟩
theorem Fh.trans (h : Fh S w w') (k : Fh S' w' w'') (hs : ∀ i, S' i → S i ∨ w.heap.size ≤ i) : Fh S w w'' :=
  ⟨k.os.trans h.os, k.tape.trans h.tape, k.output.trans h.output, Nat.le_trans h.size k.size, fun i hi hc => (k.block i (Nat.lt_of_lt_of_le hi h.size) (fun e => (hs i e).elim hc (by omega))).trans (h.block i hi hc)⟩
theorem Fh.next (h : Fh S w w') (k : Fh S w' w'') : Fh S w w'' := h.trans k fun _ e => .inl e
theorem Fh.of_below (h : Below w.heap.size w w') : Fh S w w' := ⟨h.os, h.tape, h.output, h.size, fun i hi _ => h.block i hi⟩
theorem Fh.below (h : Fh S w w') (k : Below w'.heap.size w' w'') : Fh S w w'' := h.next (Fh.of_below k)
theorem Fh.alloc (h : Fh S w w') (o : Obj) : Fh S w (w'.alloc o) := h.below ((Below.refl _ _).alloc (Nat.le_refl _) o)
theorem Fh.drew (h : Fh S w w') : Fh S w w'.drew := ⟨h.os, h.tape, h.output, h.size, h.block⟩
theorem Fh.set_ (h : Fh S w w') {q : Addr} (hq : S q.block ∨ w.heap.size ≤ q.block) (u : Value) : Fh S w (w'.setCell q u) :=
  ⟨h.os, h.tape, h.output, by simpa [World.setCell] using h.size, fun i hi hc => (Below.heap_setCell _ _ _ _ (by rintro rfl; exact hq.elim hc (by omega))).trans (h.block i hi hc)⟩
theorem Fh.grown (h : Fh S w w') {row : Option Nat} (hg : w'.grownBy w'' row) (hr : ∀ k, row = some k → S k ∨ w.heap.size ≤ k) : Fh S w w'' :=
  ⟨hg.os.trans h.os, hg.tape.trans h.tape, hg.output.trans h.output, Nat.le_trans h.size hg.size, fun i hi hc => (hg.block i (Nat.lt_of_lt_of_le hi h.size) (fun e => (hr i e.symm).elim hc (by omega))).trans (h.block i hi hc)⟩
theorem Fh.old (h : Fh S w w') {B : Nat} (hB : B ≤ w.heap.size) (hs : ∀ i, S i → B ≤ i) : Below B w w' := ⟨h.os, h.tape, h.output, h.size, fun i hi => h.block i (by omega) (fun e => by have := hs i e; omega)⟩
theorem Fh.blk (h : Fh S w w') {g : Nat} {t : TypeId} {cs : Array Value} (hg : Blk w g t cs) (hw : ¬ S g) : Blk w' g t cs := (h.block g hg.lt hw).trans hg
theorem Fh.sub (h : Fh S w w') (hs : ∀ i, i < w.heap.size → S i → S' i) : Fh S' w w' := ⟨h.os, h.tape, h.output, h.size, fun i hi hc => h.block i hi fun e => hc (hs i hi e)⟩

/-- Rules that read, whatever is turned in S's blocks. -/
def RulesF (S : Nat → Prop) (w : World) (v : Value) (l : List Ru) : Prop := ∀ w', Fh S w w' → RulesV w.heap.size w' v l
section
variable {v : Value} {l : List Ru}
theorem RulesF.read (h : RulesF S w v l) : RulesV w.heap.size w v l := h w (Fh.refl w)
theorem RulesF.next (h : RulesF S w v l) (k : Fh S w w') : RulesF S w' v l := fun w2 k2 => (h w2 (k.next k2)).more k.size
theorem RulesF.on (h : RulesF S w v l) (k : Below w.heap.size w w') : RulesF S w' v l := h.next (Fh.of_below k)
theorem RulesF.sub (h : RulesF S w v l) (hs : ∀ i, S' i → S i ∨ w.heap.size ≤ i) : RulesF S' w v l := fun w2 k2 => h w2 (k2.sub fun i hi e => (hs i e).elim id (by omega))
theorem RulesF.of_far {base : Nat} (h : RulesV w.heap.size w v l) (hf : Far base v) (hS : ∀ i, S i → i < base) : RulesF S w v l := by
  intro w2 k2
  obtain ⟨A, cap, hv, hc, ht⟩ := h
  refine ⟨A, cap, hv, hc, fun hs => ?_⟩
  obtain ⟨b, off, hA, hb, hx⟩ := ht hs
  subst hA
  refine ⟨b, off, rfl, hb, fun i x hi => ?_⟩
  have hn : ¬ S b := fun e => by
    have h1 := hf b (by rw [hv]; rfl)
    have h2 := hS b e
    omega
  have c : ∀ o, w2.cell? ⟨b, o, none⟩ = w.cell? ⟨b, o, none⟩ := fun o => by
    unfold World.cell?
    rw [k2.block b hb hn]
  obtain ⟨c0, c1, c2, c3, c4⟩ := hx i x hi
  exact ⟨(c _).trans c0, (c _).trans c1, (c _).trans c2, (c _).trans c3, (c _).trans c4⟩
theorem RulesF.nil (S : Nat → Prop) (w : World) : RulesF S w (.slice none 0 0) [] := fun _ _ => RulesV.nil _ _
end

abbrev SeV := RS × Value
def SeV.cells (x : SeV) : List Value := [.int .i64 x.1.de, .int .i64 x.1.cl, .int .i64 x.1.fu, .int .i64 x.1.st, x.2]
def seCells (L : List SeV) : List Value := L.flatMap SeV.cells
theorem seCells_append (a b : List SeV) : seCells (a ++ b) = seCells a ++ seCells b := by simp [seCells]
theorem seCells_one (x : SeV) : seCells [x] = SeV.cells x := by simp [seCells]
theorem seCells_get : ∀ (L : List SeV) (i k : Nat) (x : SeV), L[i]? = some x → k < 5 → (seCells L)[i * 5 + k]? = (SeV.cells x)[k]?
  | [], i, k, r, h, _ => by simp at h
  | x :: l, 0, k, r, h, hk => by
    simp at h
    subst h
    rw [Nat.zero_mul, Nat.zero_add]
    show (SeV.cells x ++ seCells l)[k]? = _
    exact List.getElem?_append_left (by simp [SeV.cells]; omega)
  | x :: l, i + 1, k, r, h, hk => by
    have := seCells_get l i k r (by simpa using h) hk
    show (SeV.cells x ++ seCells l)[(i + 1) * 5 + k]? = _
    rw [List.getElem?_append_right (by simp [SeV.cells]; omega), ← this]
    congr 1
    simp [SeV.cells]
    omega
theorem seV_one (s : RS) (A : Option Addr) (n c : Nat) : ∀ y ∈ SeV.cells (s, .slice A n c), y.oneCell' = true := by
  intro y hy
  simp [SeV.cells] at hy
  rcases hy with rfl | rfl | rfl | rfl | rfl <;> rfl

/-- A history in memory: its block, its versions' row, its clients' map, all of them in S; whatever is turned in U's blocks, its versions' rules read. -/
structure HistV (w : World) (g : Nat) (S U : Nat → Prop) (H : Hs) (vv : Value) (L : List SeV) (mb m : Nat) (D : DataW La) : Prop where
  blk : Blk w g 80 #[.int .i64 (H.n : Int), vv, .map (some mb)]
  row : w.ownsRow 0 54 5 vv L.length (seCells L)
  vs : L.map (·.1) = H.vs
  rul : ∀ x ∈ L, RulesF U w x.2 x.1.rs
  map_ : w.ownsMap Tryz.prog 3 laR mb m D
  cm : Cm D H.cl
  few : m + H.q ≤ H.n
  ok : H.Ok pvM
  foot : ∀ i, vv.ownBlock = some i → S i
  self : S g
  smap : S mb
  wide : ∀ i, S i → U i
  uold : ∀ i, U i → i < w.heap.size
def HistAt (w : World) (g : Nat) (S U : Nat → Prop) (H : Hs) : Prop := ∃ vv L mb m D, HistV w g S U H vv L mb m D
/-- What a call of a history does: all but its blocks stays, and these are the elder ones or new. -/
def Did (g : Nat) (S U : Nat → Prop) (H : Hs) (w w' : World) : Prop := ∃ S', (∀ i, S' i → S i ∨ w.heap.size ≤ i) ∧ HistAt w' g S' (fun i => U i ∨ S' i) H ∧ Fh S w w'
section
variable {g : Nat} {U U' : Nat → Prop} {H H' : Hs}
theorem HistAt.old (h : HistAt w g S U H) : ∀ i, S i → i < w.heap.size := by obtain ⟨_, _, _, _, _, h⟩ := h; exact fun i hi => h.uold i (h.wide i hi)
theorem HistAt.wide (h : HistAt w g S U H) : ∀ i, S i → U i := by obtain ⟨_, _, _, _, _, h⟩ := h; exact h.wide
theorem HistAt.uold (h : HistAt w g S U H) : ∀ i, U i → i < w.heap.size := by obtain ⟨_, _, _, _, _, h⟩ := h; exact h.uold
theorem HistAt.lt (h : HistAt w g S U H) : g < w.heap.size := by obtain ⟨_, _, _, _, _, h⟩ := h; exact h.blk.lt
theorem HistAt.self (h : HistAt w g S U H) : S g := by obtain ⟨_, _, _, _, _, h⟩ := h; exact h.self
theorem map_keep {b n : Nat} {D : DataW La} (h : w.ownsMap Tryz.prog 3 laR b n D) (hk : w'.heap[b]? = w.heap[b]?) : w'.ownsMap Tryz.prog 3 laR b n D := by
  unfold World.ownsMap at h ⊢
  rw [hk]
  exact h
/-- Blocks that are not its own are turned. -/
theorem HistAt.fr (h : HistAt w g S U H) (hF : Fh S' w w') (hd : ∀ i, S i → ¬ S' i) (hs : ∀ i, S' i → U i) (hu : ∀ i, U' i → U i ∨ w.heap.size ≤ i) (hw : ∀ i, S i → U' i) (ho : ∀ i, U' i → i < w'.heap.size) : HistAt w' g S U' H := by
  obtain ⟨vv, L, mb, m, D, h⟩ := h
  refine ⟨vv, L, mb, m, D, hF.blk h.blk (hd g h.self), own_keep h.row fun i hi => hF.block i (h.uold i (h.wide i (h.foot i hi.symm))) (hd i (h.foot i hi.symm)), h.vs, fun x hx => ?_, map_keep h.map_ (hF.block mb (h.uold mb (h.wide mb h.smap)) (hd mb h.smap)), h.cm, h.few, h.ok, h.foot, h.self, h.smap, hw, ho⟩
  have a : RulesF (fun i => U i ∨ U' i) w x.2 x.1.rs := (h.rul x hx).sub fun i hi => hi.elim .inl (hu i)
  exact (a.next (hF.sub fun i _ e => .inl (hs i e))).sub fun i hi => .inl (.inr hi)
theorem HistAt.on (h : HistAt w g S U H) (hB : Below w.heap.size w w') : HistAt w' g S U H := by
  obtain ⟨vv, L, mb, m, D, h⟩ := h
  exact ⟨vv, L, mb, m, D, h.blk.on hB, own_keep h.row fun i hi => hB.block i (h.uold i (h.wide i (h.foot i hi.symm))), h.vs, fun x hx => (h.rul x hx).on hB, map_keep h.map_ (hB.block mb (h.uold mb (h.wide mb h.smap))), h.cm, h.few, h.ok, h.foot, h.self, h.smap, h.wide, fun i hi => Nat.lt_of_lt_of_le (h.uold i hi) hB.size⟩
theorem HistAt.alloc (h : HistAt w g S U H) (o : Obj) : HistAt (w.alloc o) g S U H := h.on ((Below.refl _ _).alloc (Nat.le_refl _) o)
theorem HistAt.drew (h : HistAt w g S U H) : HistAt w.drew g S U H := h.on (Below.drewN' (Below.refl _ _) 1)
theorem Did.on (h : Did g S U H w w') (hB : Below w'.heap.size w' w'') : Did g S U H w w'' := by
  obtain ⟨S', hs, ht, hf⟩ := h
  exact ⟨S', hs, ht.on hB, hf.below hB⟩
theorem HistAt.ok (h : HistAt w g S U H) : H.Ok pvM := by obtain ⟨_, _, _, _, _, h⟩ := h; exact h.ok
theorem HistV.len {vv : Value} {L : List SeV} {mb m : Nat} {D : DataW La} (h : HistV w g S U H vv L mb m D) : L.length = H.vs.length := by rw [← h.vs, List.length_map]
/-- Its versions' row is a block. -/
theorem HistV.form {vv : Value} {L : List SeV} {mb m : Nat} {D : DataW La} (h : HistV w g S U H vv L mb m D) : ∃ b c k, vv = .slice (some ⟨b, 0, none⟩) (k + 1) c ∧ L.length = k + 1 ∧ H.vs.length = k + 1 ∧ k + 1 ≤ c ∧ c ≤ maxLen ∧ (∀ j, j < (k + 1) * 5 → w.cell? ⟨b, j, none⟩ = (seCells L)[j]?) := by
  have hl := h.len
  have hp := h.ok.len
  rcases h.row.2 with ⟨_, h0⟩ | ⟨b, c, cur, hv, hb, hh, hn, hm, _⟩
  · omega
  · refine ⟨b, c, H.vs.length - 1, ?_, by omega, by omega, by omega, hm, fun j hj => ?_⟩
    · rw [hv, hl]
      congr 1
      omega
    · have hr := h.row
      rw [hv] at hr
      exact World.ownsRow.cellAt hr j (by omega)
/-- The version k's five cells. -/
theorem HistV.cells_ {b c k n : Nat} {L : List SeV} {mb m : Nat} {D : DataW La} (h : HistV w g S U H (.slice (some ⟨b, 0, none⟩) n c) L mb m D) (hk : k < H.vs.length) : ∃ x : SeV, L[k]? = some x ∧ H.vs[k]? = some x.1 ∧ (∃ A d, x.2 = .slice A x.1.rs.length d) ∧ RulesF U w x.2 x.1.rs ∧ w.cell? ⟨b, k * 5, none⟩ = some (.int .i64 x.1.de) ∧ w.cell? ⟨b, k * 5 + 1, none⟩ = some (.int .i64 x.1.cl) ∧ w.cell? ⟨b, k * 5 + 2, none⟩ = some (.int .i64 x.1.fu) ∧ w.cell? ⟨b, k * 5 + 3, none⟩ = some (.int .i64 x.1.st) ∧ w.cell? ⟨b, k * 5 + 4, none⟩ = some x.2 := by
  have hl := h.len
  have hx : L[k]? = some L[k] := List.getElem?_eq_getElem (by omega)
  have hr := h.row
  have hn : n = L.length := by
    rcases hr.2 with ⟨hv, _⟩ | ⟨_, _, _, hv, _⟩
    · cases hv
    · injection hv
  subst hn
  have hf := h.rul _ (List.mem_of_getElem? hx)
  have cc : ∀ j, j < 5 → w.cell? ⟨b, k * 5 + j, none⟩ = (SeV.cells L[k])[j]? := fun j hj => (World.ownsRow.cellAt hr (k * 5 + j) (by omega)).trans (seCells_get L k j _ hx hj)
  refine ⟨L[k], hx, by rw [← h.vs, List.getElem?_map, hx]; rfl, hf.read.form, hf, cc 0 (by omega), cc 1 (by omega), cc 2 (by omega), cc 3 (by omega), cc 4 (by omega)⟩
end
end Go.Proofs.YtefgobmpleoafaaGreatDoor

/- Package history: Version, Len. -/
namespace Go.Proofs.YtefgobmpleoafaaGreatDoor
open Go.RowKit Go.Maps
variable {w w' : World} {S U : Nat → Prop} {g : Nat} {H : Hs}

theorem run_makeMap_none (w : World) : (Instr.makeMap 78 none).run Tryz.prog w = .ok (.map (some w.heap.size)) (w.alloc (.map #[] 0)) := by
  simp [Instr.makeMap, go_sem]
theorem version_any (k : Nat) (hk : H.vs.length = k + 1) (h : HistAt w g S U H) : Calls Tryz.prog 19 #[.pointer (some ⟨g, 0, none⟩)] w fun e w' => e = .returned (.int .i64 (k : Int)) ∧ w' = w := by
  obtain ⟨vv, L, mb, m, D, h⟩ := h
  obtain ⟨b, c, k', rfl, hL, hl, hc, hm, _⟩ := h.form
  obtain rfl : k' = k := by omega
  have c1 := h.blk.cell 1
  have hlt := h.blk.lt
  have hmx : c ≤ 9223372036854775807 := hm
  have hw : IntKind.i64.wrap (((k' + 1 : Nat) : Int) - 1) = (k' : Int) := by rw [IntWalk.i64_in] <;> omega
  have hw2 : wrap64 (((k' + 1 : Nat) : Int) - 1) = (k' : Int) := by unfold wrap64; omega
  clear h hL hl hk
  go_enter Tryz.func19, Tryz.ntmps19
  go_wp2
  go_ret
  exact ⟨ret_int (by omega), rfl⟩
theorem hlen_any (h : HistAt w g S U H) : Calls Tryz.prog 18 #[.pointer (some ⟨g, 0, none⟩)] w fun e w' => e = .returned (.int .i64 (H.n : Int)) ∧ w' = w := by
  obtain ⟨vv, L, mb, m, D, h⟩ := h
  have c0 := h.blk.cell 0
  have hlt := h.blk.lt
  clear h
  go_enter Tryz.func18, Tryz.ntmps18
  go_wp2
  go_ret
  exact ⟨rfl, rfl⟩
/-- A history's first blocks: of what the literal makes. -/
theorem start_at (w1 : World) (U0 : Nat → Prop) (hU : ∀ i, U0 i → i < w1.heap.size) :
    HistAt (((w1.alloc (.cells #[.int .i64 0, .int .i64 255, .int .i64 10000, .int .i64 500, .slice none 0 0] 54)).alloc (.map #[] 0)).alloc (.cells #[.int .i64 0, .slice (some ⟨w1.heap.size, 0, none⟩) 1 1, .map (some (w1.heap.size + 1))] 80)) (w1.heap.size + 2) (fun i => w1.heap.size ≤ i ∧ i < w1.heap.size + 3) (fun i => U0 i ∨ (w1.heap.size ≤ i ∧ i < w1.heap.size + 3)) .start := by
  have hf : (rulesM pvM RS.first).1 = 0 := by rw [rulesFirst]
  refine ⟨_, [(RS.first, .slice none 0 0)], w1.heap.size + 1, 0, .map [], Blk.at_new _ _ (by simp) _ _, ?_, rfl, ?_, ?_, ⟨isMap_empty, fun c _ => ⟨rfl, rfl⟩⟩, Nat.zero_le _, Hs.start_ok hf, ?_, by omega, by omega, fun i hi => .inr hi, ?_⟩
  · refine (World.ownsRow.alloc (World.ownsRow.alloc ?_ _) _)
    exact ⟨rfl, .inr ⟨w1.heap.size, 1, _, rfl, Nat.zero_le _, heap_alloc_new w1 _, Nat.le_refl _, by unfold maxLen; omega, rfl, rfl⟩⟩
  · intro x hx
    rw [List.mem_singleton.1 hx]
    exact RulesF.nil _ _
  · have h := World.ownsMap_made (H := La) (w1.alloc (.cells #[.int .i64 0, .int .i64 255, .int .i64 10000, .int .i64 500, .slice none 0 0] 54)) Tryz.prog 3 laR
    have := h.alloc (.cells #[.int .i64 0, .slice (some ⟨w1.heap.size, 0, none⟩) 1 1, .map (some (w1.heap.size + 1))] 80)
    simpa using this
  · intro i hi
    have hi : w1.heap.size = i := by simpa [Value.ownBlock] using hi
    show _ ∧ _
    omega
  · intro i hi
    simp
    rcases hi with hi | hi
    · have := hU i hi; omega
    · omega
set_option maxRecDepth 100000 in
theorem new14_any (U0 : Nat → Prop) (w : World) (hU : ∀ i, U0 i → i < w.heap.size) : Calls Tryz.prog 11 #[] w fun e w' => ∃ g S, e = .returned (.pointer (some ⟨g, 0, none⟩)) ∧ (∀ i, S i → w.heap.size ≤ i) ∧ HistAt w' g S (fun i => U0 i ∨ S i) .start ∧ Below w.heap.size w w' := by
  have HU := Lib.hid hU
  clear hU
  have hmm := fun (w : World) => run_makeMap_none w
  go_enter Tryz.func11, Tryz.ntmps11
  go_wp2_with fail
  refine (first_any w).mono ?_
  rintro e w1 ⟨rfl, hb1⟩
  have B1 := Lib.hid hb1
  have ST := Lib.hid (start_at w1 U0 (fun i hi => Nat.lt_of_lt_of_le (HU.out i hi) hb1.size))
  clear hb1
  go_wp2
  go_ret
  refine ⟨_, _, rfl, fun i hi => ?_, ST.out, ((B1.out.alloc B1.out.size _).alloc (by have := B1.out.size; simp; omega) _).alloc (by have := B1.out.size; simp; omega) _⟩
  have := B1.out.size
  omega
end Go.Proofs.YtefgobmpleoafaaGreatDoor

