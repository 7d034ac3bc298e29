/- Arguments that are sets, opened. -/
import Derived.Test.YtfngkclfdkeiaaaGreatDoorZFrameG
namespace Go.Proofs.YtfngkclfdkeiaaaGreatDoor
open Go.ChangeShapes Go.WideShapes Go.ChangeAt Go.RowKit Go.Shelf
open Go.Proofs.YtfngkclfdkeiaaaGreatDoor.Cl

/-- The number that a value holds. -/
def zOf : Value → Int
  | .int _ z => z
  | _ => 0

theorem add_at (b off j : Nat) : (⟨b, off, none⟩ : Addr).add j = ⟨b, off + j, none⟩ := by unfold Addr.add; split <;> simp_all
/-- Opened: nil, or a row of ranges. -/
theorem open_set {H : Type} {enc : TypeId × Value → H} {W : World} {t : TypeId} (ht : Tryz.prog.underlying t = some (.slice 48)) {a : Option Addr} {len cap : Nat} {d : DataW H} {p : List MemPlace}
    (h : DataW.Trod enc Tryz.prog W 0 (fun _ => true) true t (.slice a len cap) d p) : ∃ l : List Rg, SetV W.heap.size W (.slice a len cap) l := by
  obtain ⟨fuel, hf⟩ := h
  rcases Go.Deep.open_slice_pairs ht Tryz.underlying48 (by kernel_rfl) rfl rfl (by kernel_rfl) (by kernel_rfl) hf with ⟨hcs, _⟩ | ⟨x, l, c, m, n, V0, V1, D0, D1, P0, P1, hcs, _, hl, hm, hmm, _, hi⟩
  · simp [Value.cells] at hcs
    obtain ⟨rfl, rfl, rfl⟩ := hcs
    exact ⟨[], SetV.nil _ _⟩
  · simp [Value.cells] at hcs
    obtain ⟨rfl, rfl, rfl⟩ := hcs
    have hmc : m = cap := by simpa using hmm
    subst hmc
    have hlen : ((List.range len).map fun i => (zOf (V0 i), zOf (V1 i))).length = len := by simp
    refine ⟨(List.range len).map fun i => (zOf (V0 i), zOf (V1 i)), some x, m, by rw [hlen], by rw [hlen]; exact hl, fun hne => ?_⟩
    have hpos : 0 < len := by
      rcases Nat.eq_zero_or_pos len with h0 | h0
      · subst h0; simp at hne
      · exact h0
    obtain ⟨b, off, spot⟩ := x
    have hspot : spot = none := by simpa [Addr.add] using World.cell?_spot (hi 0 (by omega)).1
    subst hspot
    have hadd := add_at b off
    refine ⟨b, off, rfl, by have := block_lt_of_cell (hi 0 (by omega)).1; rwa [hadd] at this, fun i r hr => ?_⟩
    obtain ⟨hil, hre⟩ := List.getElem?_eq_some_iff.1 hr
    rw [hlen] at hil
    obtain ⟨c0, c1, t0, t1⟩ := hi i (by omega)
    obtain ⟨z0, hz0, _, _⟩ := DataW.trod_int Tryz.underlying3 t0
    obtain ⟨z1, hz1, _, _⟩ := DataW.trod_int Tryz.underlying3 t1
    have hz0' : V0 i = .int .i64 z0 := by simpa using hz0
    have hz1' : V1 i = .int .i64 z1 := by simpa using hz1
    have hr' : r = (z0, z1) := by
      rw [← hre]
      simp [hz0', hz1', zOf]
    subst hr'
    rw [hadd, hz0'] at c0
    rw [hadd, hz1', ← Nat.add_assoc] at c1
    exact ⟨c0, c1⟩

end Go.Proofs.YtfngkclfdkeiaaaGreatDoor
