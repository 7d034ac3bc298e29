/- What each row's proof needs beside its walk: the arguments opened, the two variables read off the row's list. -/
import Derived.Test.YtjdboindeikhhaaDoorRows
import Derived.Test.YtjdboindeikhhaaDoorTwin
import Derived.ProofKit
import Derived.OpenShut
import Derived.PinnedBridge
import Derived.Deep.SlicePairs
import Derived.Lib.LaidU8
import Derived.Lay
import Derived.LaidOnce
import Derived.SevenTiedAt
namespace Go.Proofs.YtjdboindeikhhaaDoor
open Go.ChangeShapes Go.WideShapes Go.ChangeAt Go.RowKit Go.Shelf

theorem own : ownKnob Tryd.prog.godebug = none := by kernel_rfl
theorem laidOut : laidOutB Tryd.prog = true := by kernel_rfl

def laid : List (String × DataW Unit) := Rows.classLawsRow.laid

theorem i64_bounds {z : Int} (h : (Lit.int .i64 z).wf = true) : -9223372036854775808 ≤ z ∧ z ≤ 9223372036854775807 := by
  simpa [Lit.wf, IntKind.min, IntKind.max, IntKind.signed, IntKind.bits] using h

theorem cells_of_var {W : World} {n : String} {g : Nat} {cs : Array Value} (hg : Tryd.prog.globalNamed n = some g) (hv : W.var? Tryd.prog n = some cs) (i : Nat) : W.cell? ⟨g, i, none⟩ = cs.toList[i]? := by
  simp only [World.var?, hg, Option.bind_some] at hv
  split at hv
  · rename_i c t fr heq
    obtain rfl := Option.some.inj hv
    rw [cell_of_row W g i _ _ _ heq]
    simp
  · cases hv

theorem range_cells {W : World} {fuel : Nat} {cs : List Value} {a b : Int} {p : List MemPlace} (h : DataW.trod (fun _ => ()) Tryd.prog W 0 (fun _ => true) false fuel 46 cs = some (.agg [.lit (.int .i64 a), .lit (.int .i64 b)], p)) : cs = [.int .i64 a, .int .i64 b] := by
  refine Lib.ints_of_struct (zs := [a, b]) Tryd.underlying46 ?_ (by kernel_rfl) h
  intro i f hf
  match i, hf with
  | 0, hf => simp at hf; subst hf; exact ⟨Tryd.underlying3, rfl, by kernel_rfl⟩
  | 1, hf => simp at hf; subst hf; exact ⟨Tryd.underlying3, rfl, by kernel_rfl⟩
  | i + 2, hf => simp at hf

theorem lu_of_laid {W : World} (hL : laidMetH Tryd.prog laid W) : LU W.heap.size W := by
  rw [MakeChecks.laidMetH_plain _ _ _ (by kernel_rfl)] at hL
  obtain ⟨ps, ⟨g, t, cs, fuel, p, q, hg, ht, hv, hd, ⟨g', t', cs', fuel', p', q', hg', ht', hv', hd', _, _⟩, _⟩, _, _⟩ := hL
  have k0 : Tryd.prog.globalNamed (laid.getD 0 (default, .nil)).1 = some 0 := by kernel_rfl
  have k1 : Tryd.prog.globalNamed (laid.getD 1 (default, .nil)).1 = some 1 := by kernel_rfl
  obtain rfl := Option.some.inj (k0.symm.trans hg)
  obtain rfl := Option.some.inj (k1.symm.trans hg')
  obtain rfl := Option.some.inj ((show (Tryd.prog.globals[0]?).map (·.type) = some 46 by kernel_rfl).symm.trans ht)
  obtain rfl := Option.some.inj ((show (Tryd.prog.globals[1]?).map (·.type) = some 46 by kernel_rfl).symm.trans ht')
  have e0 := range_cells (a := 97) (b := 122) hd
  have e1 := range_cells (a := 65) (b := 90) hd'
  have c0 := cells_of_var k0 hv 0
  have c1 := cells_of_var k0 hv 1
  have d0 := cells_of_var k1 hv' 0
  have d1 := cells_of_var k1 hv' 1
  rw [e0] at c0 c1
  rw [e1] at d0 d1
  exact ⟨block_lt_of_cell d0, c0, c1, d0, d1⟩

/-- The number that a value holds. -/
def zOf : Value → Int
  | .int _ z => z
  | _ => 0

theorem add_at (b off j : Nat) : (⟨b, off, none⟩ : Addr).add j = ⟨b, off + j, none⟩ := by unfold Addr.add; split <;> simp_all
/-- Opened: nil, or a row of ranges. -/
theorem open_set {H : Type} {enc : TypeId × Value → H} {W : World} {t : TypeId} (ht : Tryd.prog.underlying t = some (.slice 46)) {a : Option Addr} {len cap : Nat} {d : DataW H} {p : List MemPlace}
    (h : DataW.Trod enc Tryd.prog W 0 (fun _ => true) true t (.slice a len cap) d p) : ∃ l : List Rg, SetV W.heap.size W (.slice a len cap) l := by
  obtain ⟨fuel, hf⟩ := h
  rcases Go.Deep.open_slice_pairs ht Tryd.underlying46 (by kernel_rfl) rfl rfl (by kernel_rfl) (by kernel_rfl) hf with ⟨hcs, _⟩ | ⟨x, l, c, m, n, V0, V1, D0, D1, P0, P1, hcs, _, hl, hm, hmm, _, hi⟩
  · simp [Value.cells] at hcs
    obtain ⟨rfl, rfl, rfl⟩ := hcs
    exact ⟨[], SetV.nil _ _⟩
  · simp [Value.cells] at hcs
    obtain ⟨rfl, rfl, rfl⟩ := hcs
    have hmc : m = cap := by simpa using hmm
    subst hmc
    have hlen : ((List.range len).map fun i => (zOf (V0 i), zOf (V1 i))).length = len := by simp
    refine ⟨(List.range len).map fun i => (zOf (V0 i), zOf (V1 i)), some x, m, by rw [hlen], by rw [hlen]; exact hl, fun hne => ?_⟩
    have hpos : 0 < len := by
      rcases Nat.eq_zero_or_pos len with h0 | h0
      · subst h0; simp at hne
      · exact h0
    obtain ⟨b, off, spot⟩ := x
    have hspot : spot = none := by simpa [Addr.add] using World.cell?_spot (hi 0 (by omega)).1
    subst hspot
    have hadd := add_at b off
    refine ⟨b, off, rfl, by have := block_lt_of_cell (hi 0 (by omega)).1; rwa [hadd] at this, fun i r hr => ?_⟩
    obtain ⟨hil, hre⟩ := List.getElem?_eq_some_iff.1 hr
    rw [hlen] at hil
    obtain ⟨c0, c1, t0, t1⟩ := hi i (by omega)
    obtain ⟨z0, hz0, _, _⟩ := DataW.trod_int Tryd.underlying3 t0
    obtain ⟨z1, hz1, _, _⟩ := DataW.trod_int Tryd.underlying3 t1
    have hz0' : V0 i = .int .i64 z0 := by simpa using hz0
    have hz1' : V1 i = .int .i64 z1 := by simpa using hz1
    have hr' : r = (z0, z1) := by
      rw [← hre]
      simp [hz0', hz1', zOf]
    subst hr'
    rw [hadd, hz0'] at c0
    rw [hadd, hz1', ← Nat.add_assoc] at c1
    exact ⟨c0, c1⟩

end Go.Proofs.YtjdboindeikhhaaDoor
