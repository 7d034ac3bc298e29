/- Nodes that are made; a result that is a node. -/
import Derived.Test.YthipgidddgdojaaDoorPG
import Derived.Deep.LoopGhost
namespace Go.Proofs.YthipgidddgdojaaDoor
open Go.RowKit
open Go.Proofs.YthipgidddgdojaaDoor.Cl (Rg SetV SetAt rgCells Norm Rt gaps GivesO not_own make_own rgCells_get rgCells_len mkSet_norm wpList_append_set info_three)
variable {n₀ rb tb cap d : Nat} {s : List UInt8} {w w' : World} {σ σ1 : St} {fc fa : Int} {bv v : Value} {l : List Rg}

theorem setR_at (w : World) (g : Nat) (hg : g = w.heap.size) (cs : Array Value) (l : List Rg) (n : Nat) (hn : n = l.length) (h : cs.toList = rgCells l) : SetR (w.alloc (.cells cs 39)) (.slice (some ⟨g, 0, none⟩) n n) l := by
  subst hg
  exact setR_lit w cs l n hn h
theorem one_any (u : Nat) (W : World) : Calls Tryd.prog 37 #[.int .i64 (u : Nat)] W fun e w' => ∃ sv, e = .returned (.agg #[.int .i64 1, .int .i64 0, .int .i64 0, .int .i64 0, .int .i64 0, sv, .slice none 0 0]) ∧ SetR w' sv [((u : Int), (u : Int))] ∧ Below W.heap.size W w' := by
  go_enter Tryd.func37, Tryd.ntmps37
  go_wp2
  exact bodyPost_ret (v := .agg #[.int .i64 1, .int .i64 0, .int .i64 0, .int .i64 0, .int .i64 0, .slice (some ⟨W.heap.size + 1, 0, none⟩) 1 1, .slice none 0 0]) (by simp [results, Tryd.results37, go_sem]) rfl
    ⟨_, rfl, setR_at _ _ (by simp) #[.int .i64 (u : Nat), .int .i64 (u : Nat)] _ _ rfl rfl, ((Below.refl _ _).alloc (Nat.le_refl _) _).alloc (by simp) _⟩
theorem dot_any (W : World) : Calls Tryd.prog 36 #[] W fun e w' => ∃ sv, e = .returned sv ∧ SetR w' sv [(0, 9), (11, 1114367)] ∧ Below W.heap.size W w' := by
  go_enter Tryd.func36, Tryd.ntmps36
  go_wp2
  go_ret
  exact ⟨_, rfl, setR_lit _ #[.int .i64 0, .int .i64 9, .int .i64 11, .int .i64 1114367] _ _ rfl rfl, (Below.refl _ _).alloc (Nat.le_refl _) _⟩

/-- A node's value; nothing in a node. -/
def ndVal (nd : Nd) (sv kv : Value) : Value := .agg #[.int .i64 nd.kind, .int .i64 nd.lo, .int .i64 nd.hi, .int .i64 nd.mode, .int .i64 nd.ref, sv, kv]
def zeros : Array Value := #[.int .i64 0, .int .i64 0, .int .i64 0, .int .i64 0, .int .i64 0, .slice none 0 0, .slice none 0 0]
/-- What a call that reads a node leaves. -/
def NPost (n₀ rb tb cap : Nat) (s : List UInt8) (d : Nat) (fc fa : Int) (w : World) (r : R) (e : Ending) (w' : World) : Prop :=
  match r with
  | .ok x => ∃ sv kv bv, e = .returned (.tuple #[ndVal x.1 sv kv, .bool true]) ∧ NodeV (KB n₀ rb w w') w' x.1 sv kv ∧ Rd n₀ rb tb cap s w' x.2 d fc fa bv ∧ Fr n₀ rb w w'
  | .error f => e = .returned (.tuple #[.agg zeros, .bool false]) ∧ Bad w' rb f ∧ Fr n₀ rb w w'

theorem Blk.zero (h : Blk w n₀ 27 zeros) : w.cell? ⟨n₀, 0, none⟩ = some (.int .i64 0) ∧ w.cell? ⟨n₀, 1, none⟩ = some (.int .i64 0) ∧ w.cell? ⟨n₀, 2, none⟩ = some (.int .i64 0) ∧ w.cell? ⟨n₀, 3, none⟩ = some (.int .i64 0) ∧ w.cell? ⟨n₀, 4, none⟩ = some (.int .i64 0) ∧
    w.cell? ⟨n₀, 5, none⟩ = some (.slice none 0 0) ∧ w.cell? ⟨n₀, 6, none⟩ = some (.slice none 0 0) :=
  ⟨h.cell 0, h.cell 1, h.cell 2, h.cell 3, h.cell 4, h.cell 5, h.cell 6⟩

/-- Seven cells of a block are stored. -/
def st7 (w : World) (g : Nat) (c0 c1 c2 c3 c4 c5 c6 : Value) : World :=
  (((((((w.setCell ⟨g, 0, none⟩ c0).setCell ⟨g, 1, none⟩ c1).setCell ⟨g, 2, none⟩ c2).setCell ⟨g, 3, none⟩ c3).setCell ⟨g, 4, none⟩ c4).setCell ⟨g, 5, none⟩ c5).setCell ⟨g, 6, none⟩ c6)
section
variable {g : Nat} {t : TypeId} {x0 x1 x2 x3 x4 x5 x6 c0 c1 c2 c3 c4 c5 c6 : Value}
theorem st7_blk (h : Blk w g t #[x0, x1, x2, x3, x4, x5, x6]) : Blk (st7 w g c0 c1 c2 c3 c4 c5 c6) g t #[c0, c1, c2, c3, c4, c5, c6] := by
  have := ((((((h.set_ 0 c0).set_ 1 c1).set_ 2 c2).set_ 3 c3).set_ 4 c4).set_ 5 c5).set_ 6 c6
  simpa [st7] using this
theorem st7_heap {i : Nat} (h : i ≠ g) : (st7 w g c0 c1 c2 c3 c4 c5 c6).heap[i]? = w.heap[i]? := by
  unfold st7
  repeat rw [Below.heap_setCell _ _ _ _ h]
theorem st7_size : (st7 w g c0 c1 c2 c3 c4 c5 c6).heap.size = w.heap.size := by simp [st7, World.setCell]
theorem setCell_os (w : World) (a : Addr) (u : Value) : (w.setCell a u).os = w.os := rfl
theorem setCell_tape (w : World) (a : Addr) (u : Value) : (w.setCell a u).tape = w.tape := rfl
theorem setCell_output (w : World) (a : Addr) (u : Value) : (w.setCell a u).output = w.output := rfl
theorem st7_os : (st7 w g c0 c1 c2 c3 c4 c5 c6).os = w.os := by unfold st7; simp only [setCell_os]
theorem st7_tape : (st7 w g c0 c1 c2 c3 c4 c5 c6).tape = w.tape := by unfold st7; simp only [setCell_tape]
theorem st7_output : (st7 w g c0 c1 c2 c3 c4 c5 c6).output = w.output := by unfold st7; simp only [setCell_output]
theorem Rd.st7 (h : Rd n₀ rb tb cap s w σ d fc fa bv) {cs : Array Value} (hg : Blk w g 27 cs) (hn : n₀ ≤ g) : Rd n₀ rb tb cap s (st7 w g c0 c1 c2 c3 c4 c5 c6) σ d fc fa bv :=
  h.keep fun i _ hc => st7_heap (h.away hg (by decide) (by decide) (by decide) hn i hc)
theorem Fr.st7 {a : World} (h : Fr n₀ rb a w) (hg : a.heap.size ≤ g) : Fr n₀ rb a (st7 w g c0 c1 c2 c3 c4 c5 c6) :=
  ⟨st7_os.trans h.os, st7_tape.trans h.tape, st7_output.trans h.output, by rw [st7_size]; exact h.size, fun i hi hc => (st7_heap (by omega)).trans (h.block i hi hc)⟩
theorem Bad.st7 {f : Flt} (h : Bad w rb f) (hg : rb ≠ g) : Bad (st7 w g c0 c1 c2 c3 c4 c5 c6) rb f := h.keep (st7_heap hg)
theorem okB.st7 {b : Nat} (h : okB n₀ rb w b) (hb : b ≠ g) : okB n₀ rb (st7 w g c0 c1 c2 c3 c4 c5 c6) b := by
  refine ⟨by rw [st7_size]; exact h.1, h.2.imp id (fun ⟨h1, h2⟩ => ⟨h1, fun ⟨cs', z, hh⟩ => h2 ⟨cs', z, ?_⟩⟩)⟩
  rw [← st7_heap (w := w) (c0 := c0) (c1 := c1) (c2 := c2) (c3 := c3) (c4 := c4) (c5 := c5) (c6 := c6) hb]
  exact hh
theorem NodeV.st7 {a : World} {nd : Nd} {sv kv : Value} (h : NodeV (KB n₀ rb a w) w nd sv kv) {cs : Array Value} (hg : Blk w g 27 cs) (ha : g < a.heap.size) : NodeV (KB n₀ rb a (st7 w g c0 c1 c2 c3 c4 c5 c6)) (st7 w g c0 c1 c2 c3 c4 c5 c6) nd sv kv :=
  h.keep fun b hb => by
    have hne : b ≠ g := by
      rcases hb.2 with h1 | ⟨_, _, h1⟩
      · omega
      · exact ne_of_types h1 hg (by decide)
    exact ⟨⟨hb.1.st7 hne, hb.2.imp id (fun h => h.keep (st7_heap hne))⟩, st7_heap hne⟩
theorem ret_node {fn : Func} {Q : Ending → World → Prop} {a : Act} {b : Value} (hres : fn.results = #[.cell 2 27, .tmp 3]) (h2 : a.tmps.getD 2 undef = .pointer (some ⟨g, 0, none⟩)) (h3 : a.tmps.getD 3 undef = b) (hd : a.defers = [])
    (hB : Blk w g 27 #[c0, c1, c2, c3, c4, c5, c6]) (hQ : Q (.returned (.tuple #[.agg #[c0, c1, c2, c3, c4, c5, c6], b])) w) : bodyPost Tryd.prog fn Q Exit.ret a w := by
  have k0 := hB.cell 0
  have k1 := hB.cell 1
  have k2 := hB.cell 2
  have k3 := hB.cell 3
  have k4 := hB.cell 4
  have k5 := hB.cell 5
  have k6 := hB.cell 6
  simp at k0 k1 k2 k3 k4 k5 k6
  rw [Array.getD_eq_getD_getElem?] at h2 h3
  refine bodyPost_ret (v := .tuple #[.agg #[c0, c1, c2, c3, c4, c5, c6], b]) ?_ hd hQ
  simp [results, hres, go_sem, h2, h3, k0, k1, k2, k3, k4, k5, k6]
end

end Go.Proofs.YthipgidddgdojaaDoor
