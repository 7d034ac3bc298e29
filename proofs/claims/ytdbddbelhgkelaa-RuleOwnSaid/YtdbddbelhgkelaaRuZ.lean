/- The append of a list of rules onto an empty row, as a step of a region that draws its order. -/
import Derived.Test.YtdbddbelhgkelaaRuX
import Derived.Test.YtdbddbelhgkelaaRuM2
namespace Go.Proofs.Ytdbddbelhgkelaa
open Go.RowKit Go.Maps
variable {w w' : World}

theorem step_append_rules {t e : TypeId} {bytes : Nat} (z : Value) (hu : Try.prog.underlying t = some (.slice e)) (hzc : z.cells.size = 5) (hb100 : bytes ≤ 100) (w : World) {ops : Array Oper} {o : Oper} {a : Act} {K : Act → World → Prop} {Q : Exit → Act → World → Prop} {E : Prop} (hgd : o.guard = none) (x y : Operand)
    (ho : o.op = .call { callee := .builtin .append, args := #[x, y], argTypes := #[t, t] }) (i : TypeInfo) (hi : Try.prog.info? e = some i) (hz : i.zero = some z) (hsize : i.size = 5) (hby : i.bytes = bytes)
    (w2 : World) (hB : Below w2.heap.size w2 w) (g : Nat) (hx : a.eval x = .slice (some ⟨g, 0, none⟩) 0 0) (hg : Blk w g e #[]) (hg2 : w2.heap.size ≤ g)
    (u : Value) (ys : List Ru) (hy : a.eval y = u) (hr : RulesV w2.heap.size w2 u ys) (hL : ys.length ≤ 1000000)
    (h : ∀ v' w', Below w2.heap.size w2 w' → OwnU w' w2.heap.size e v' ys → w.grownBy w' (some g) → (v'.ownBlock = some g ∨ v'.ownBlock = some w.heap.size) → K (a.put o.dst v') w') :
    if Region.wanted o (yielded ops a.tmps) = true then Oper.wp Try.prog o a w K Q else E := by
  have hw : Region.wanted o (yielded ops a.tmps) = true := by simp [Region.wanted, hgd]
  rw [if_pos hw]
  have hown : OwnU w w2.heap.size e (.slice (some ⟨g, 0, none⟩) 0 0) [] := ⟨by simp [ruCells], .inr ⟨g, 0, #[], rfl, hg2, hg, by simp, by unfold maxLen; omega, by simp, by simp [ruCells]⟩⟩
  have hsz := hB.size
  obtain ⟨v', w', hrun, h2, h3, h5⟩ := run_append_rules5 (P := Try.prog) w w2.heap.size t o.type e i z bytes hu hi hz hsize hby hzc _ [] hown _ u ys (hr.below hB) (by simpa using hL) hb100 hsz
  unfold Oper.wp execOp
  simp only [ho, resolve, invoke, builtin, Sem.run_bind, Sem.run_pure, Result.andThen_ok, List.map_toArray, List.map_cons, List.map_nil, hx, hy, hrun]
  exact h v' w' (hB.grown h3 hsz (fun k hk => by simp [Value.ownBlock] at hk; omega)) (by simpa using h2) h3 h5

/-- what lies behind a list that may be written to: a block of cells between two places of the memory -/
def Held (lo hi : Nat) (W : World) (A : Option Addr) (n : Nat) : Prop := 0 < n → ∃ g cs, A = some ⟨g, 0, none⟩ ∧ lo ≤ g ∧ g < hi ∧ Blk W g 44 cs ∧ n * 5 ≤ cs.size
theorem Held.of_own {lo hi c : Nat} {W : World} {A : Option Addr} {l : List Ru} (h : OwnU W lo 44 (.slice A l.length c) l) (hh : W.heap.size ≤ hi) : Held lo hi W A l.length := fun hn => by
  obtain ⟨g, cs, h1, h2, h3, h4⟩ := h.held hn
  exact ⟨g, cs, h1, h2, Nat.lt_of_lt_of_le h3.lt hh, h3, h4⟩
theorem Held.below {lo hi n : Nat} {W W' : World} {A : Option Addr} (h : Held lo hi W A n) (hb : Below W.heap.size W W') : Held lo hi W' A n := fun hn => by
  obtain ⟨g, cs, h1, h2, h3, h4, h5⟩ := h hn
  exact ⟨g, cs, h1, h2, h3, h4.on hb, h5⟩
theorem Held.store {lo hi n : Nat} {W : World} {A : Option Addr} (h : Held lo hi W A n) (g j : Nat) (u : Value) : Held lo hi (W.setCell ⟨g, j, none⟩ u) A n := fun hn => by
  obtain ⟨g', cs, h1, h2, h3, h4, h5⟩ := h hn
  by_cases e : g' = g
  · subst e
    exact ⟨g', _, h1, h2, h3, h4.set_ j u, by simpa using h5⟩
  · exact ⟨g', cs, h1, h2, h3, h4.far (p := ⟨g, j, none⟩) e u, h5⟩
/-- what the two writing loops leave as it was -/
structure OI (w : World) (lo hi bt bx : Nat) (CS CD CT CX : Array Value) (A3 A4 : Option Addr) (n m : Nat) (TV XV : Value) (l : List Ru) (W : World) : Prop where
  s : Blk W w.heap.size 24 CS
  d : Blk W (w.heap.size + 1) 27 CD
  t : Blk W bt 24 CT
  x : Blk W bx 35 CX
  h3 : Held lo hi W A3 n
  h4 : Held lo hi W A4 m
  tr : RulesV W.heap.size W TV l
  xr : RulesV W.heap.size W XV l
  tf : Far hi TV
  xf : Far hi XV
  low : w.heap.size + 1 < lo
  topt : hi ≤ bt
  topx : hi ≤ bx
  bel : Below w.heap.size w W
theorem OI.store {w W : World} {lo hi bt bx : Nat} {CS CD CT CX : Array Value} {A3 A4 : Option Addr} {n m : Nat} {TV XV : Value} {l : List Ru} (h : OI w lo hi bt bx CS CD CT CX A3 A4 n m TV XV l W) (g j : Nat) (hg : lo ≤ g) (hg2 : g < hi) (u : Value) :
    OI w lo hi bt bx CS CD CT CX A3 A4 n m TV XV l (W.setCell ⟨g, j, none⟩ u) := by
  have h1 := h.low
  have h2 := h.topt
  have h3 := h.topx
  exact ⟨h.s.far (p := ⟨g, j, none⟩) (by simp only; omega) u, h.d.far (p := ⟨g, j, none⟩) (by simp only; omega) u, h.t.far (p := ⟨g, j, none⟩) (by simp only; omega) u, h.x.far (p := ⟨g, j, none⟩) (by simp only; omega) u,
    h.h3.store g j u, h.h4.store g j u, (h.tr.store h.tf hg2).more (by simp), (h.xr.store h.xf hg2).more (by simp), h.tf, h.xf, h.low, h.topt, h.topx, h.bel.setCell (p := ⟨g, j, none⟩) (by simp only; omega) u⟩

end Go.Proofs.Ytdbddbelhgkelaa
