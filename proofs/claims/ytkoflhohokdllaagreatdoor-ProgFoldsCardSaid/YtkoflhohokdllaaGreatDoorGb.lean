/- The writer: fork. -/
import Derived.Test.YtkoflhohokdllaaGreatDoorGa
namespace Go.Proofs.YtkoflhohokdllaaGreatDoor
open Go.RowKit
open Go.Proofs.YtkoflhohokdllaaGreatDoor.Cl (Rg SetV SetAt rgCells info_three)
variable {w w' : World} {n₀ wb lp : Nat} {fo : Bool} {cv : Value} {L : List (In × Value)} {M : List In}

/-- A call of the writer without a result. -/
def WrP (n₀ wb : Nat) (fo : Bool) (w : World) (M : List In) (lp : Nat) (e : Ending) (w' : World) : Prop :=
  e = .returned (.tuple #[]) ∧ Wr n₀ wb fo w' M lp ∧ FrW n₀ wb w w'
theorem Wc.at_ {i : Nat} {x : In × Value} (h : Wc n₀ wb fo w cv L lp) (hi : L[i]? = some x) : ∃ g c, cv = .slice (some ⟨g, 0, none⟩) L.length c ∧ L.length ≤ c ∧ g < w.heap.size ∧ (∀ j u, (inCells x.1 x.2)[j]? = some u → w.cell? ⟨g, i * 6 + j, none⟩ = some u) ∧ (∀ j, w.frozen? ⟨g, j, none⟩ = false) := by
  have hl : 0 < L.length := by have := (List.getElem?_eq_some_iff.1 hi).1; omega
  obtain ⟨g, c, hv, _, hg⟩ := h.own.form hl
  have hc : L.length ≤ c := by
    obtain ⟨A, c', hv', hc'⟩ := h.form
    rw [hv] at hv'
    injection hv' with _ _ e
    omega
  subst hv
  refine ⟨g, c, rfl, hc, hg, fun j u hu => ?_, fun j => World.ownsRow.frozenAt h.own j⟩
  have := h.own.cells (g := g) rfl _ _ (ciCells_get L i j x u hi hu)
  rw [← this]
  unfold Addr.add
  split <;> simp_all
def forkI (lz : Bool) (s n : Nat) (x : In) : In := { x with a := if lz then (n : Nat) else ((s : Nat) : Int) + 1, b := if lz then ((s : Nat) : Int) + 1 else (n : Nat) }
theorem map_set_fst (L : List (In × Value)) (i : Nat) (y : In) (v : Value) : (L.set i (y, v)).map (·.1) = (L.map (·.1)).set i y := by rw [List.map_set]

theorem Wc.turn2 {g c s : Nat} {y : In} {v : Value} (h : Wc n₀ wb fo w (.slice (some ⟨g, 0, none⟩) L.length c) L lp) (hx : L[s]? = some (y, v)) (p q : Int) :
    Wr n₀ wb fo ((w.setCell ⟨g, s * 6 + 1, none⟩ (.int .i64 p)).setCell ⟨g, s * 6 + 2, none⟩ (.int .i64 q)) ((L.map (·.1)).set s { y with a := p, b := q }) lp ∧ FrW n₀ wb w ((w.setCell ⟨g, s * 6 + 1, none⟩ (.int .i64 p)).setCell ⟨g, s * 6 + 2, none⟩ (.int .i64 q)) := by
  obtain ⟨h1, f1⟩ := h.turn (y := { y with a := p }) hx (j := 1) (u := .int .i64 p) (by omega) rfl rfl
  have hs : s < L.length := (List.getElem?_eq_some_iff.1 hx).1
  have hx1 : (L.set s ({ y with a := p }, v))[s]? = some ({ y with a := p }, v) := by rw [List.getElem?_set_self hs]
  have e : L.length = (L.set s ({ y with a := p }, v)).length := by simp
  rw [e] at h1
  obtain ⟨h2, f2⟩ := h1.turn (y := { y with a := p, b := q }) hx1 (j := 2) (u := .int .i64 q) (by omega) rfl rfl
  refine ⟨⟨_, _, h2, ?_⟩, f1.trans f2⟩
  rw [List.set_set, map_set_fst]

set_option maxRecDepth 100000 in
set_option maxHeartbeats 2000000 in
theorem fork_any {s : Nat} {lz : Bool} {x : In} (h : Wr n₀ wb fo w M lp) (hx : M[s]? = some x) :
    Calls Tryz.prog 93 #[.pointer (some ⟨wb, 0, none⟩), .int .i64 (s : Nat), .bool lz] w (WrP n₀ wb fo w (M.set s (forkI lz s M.length x)) lp) := by
  have HH := Lib.hid (here_any h)
  have hb := h.bnd.1
  have hsl : s < M.length := (List.getElem?_eq_some_iff.1 hx).1
  obtain ⟨cv, L, h, rfl⟩ := h
  rw [List.getElem?_map] at hx
  obtain ⟨⟨y, v⟩, hx', rfl⟩ := Option.map_eq_some_iff.1 hx
  clear hx
  obtain ⟨g, c, rfl, hc, hgs, hcell, hfz⟩ := h.at_ hx'
  have k1 := hcell 1 _ rfl
  have k2 := hcell 2 _ rfl
  have f1 := hfz (s * 6 + 1)
  have f2 := hfz (s * 6 + 2)
  obtain ⟨c0, _, _⟩ := h.c3
  have HW := Lib.hid h
  have HX := Lib.hid hx'
  rw [List.length_map] at HH hb hsl ⊢
  have hsi : (s : Int) < (L.length : Int) := by omega
  clear h hx' hcell hfz
  cases lz with
  | true =>
    go_enter Tryz.func93, Tryz.ntmps93
    go_wp2_with fail
    refine HH.out.mono ?_
    rintro e w1 ⟨rfl, rfl⟩
    go_wp2_with fail
    have H2 := Lib.hid (HW.out.turn2 HX.out (L.length : Nat) (((s : Nat) : Int) + 1))
    go_region
    generalize ((w.setCell _ _).setCell _ _) = w9 at H2 ⊢
    go_wp2
    exact ⟨rfl, .tuple #[], by simp [results, Tryz.results93, go_sem], rfl, H2.out.1.drew, H2.out.2.drew⟩
  | false =>
    go_enter Tryz.func93, Tryz.ntmps93
    go_wp2_with fail
    refine HH.out.mono ?_
    rintro e w1 ⟨rfl, rfl⟩
    go_wp2_with fail
    have H2 := Lib.hid (HW.out.turn2 HX.out (((s : Nat) : Int) + 1) (L.length : Nat))
    go_region
    generalize ((w.setCell _ _).setCell _ _) = w9 at H2 ⊢
    go_wp2
    exact ⟨rfl, .tuple #[], by simp [results, Tryz.results93, go_sem], rfl, H2.out.1.drew, H2.out.2.drew⟩

end Go.Proofs.YtkoflhohokdllaaGreatDoor
