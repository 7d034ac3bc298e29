/- The anchor: the document's examples. -/
import Derived.Test.YtfngkclfdkeiaaaGreatDoorZGo
namespace Go.Proofs.YtfngkclfdkeiaaaGreatDoor
open Go.RowKit
open Go.Proofs.YtfngkclfdkeiaaaGreatDoor.Cl (Rg SetV SetAt rgCells info_three)
variable {w w' w0 : World} {n₀ : Nat}

theorem anc1 : prT ⟨#[97, 124, 98]⟩ = [.i 4 0 0 0 0, .i 3 2 4 0 0, ⟨1, 0, 0, 0, 0, [(97, 97)]⟩, .i 2 5 0 0 0, ⟨1, 0, 0, 0, 0, [(98, 98)]⟩, .i 4 1 0 0 0, .i 0 0 0 0 0] := by kernel_rfl
theorem anc1f : fcT ⟨#[97, 124, 98]⟩ = 0 := by kernel_rfl
theorem anc1v : vdT ⟨#[97, 124, 98]⟩ = 0 := by kernel_rfl
theorem anc2 : prT ⟨#[97, 42]⟩ = [.i 4 0 0 0 0, .i 3 2 6 0 0, .i 10 0 0 0 0, ⟨1, 0, 0, 0, 0, [(97, 97)]⟩, .i 11 0 0 0 0, .i 2 1 0 0 0, .i 4 1 0 0 0, .i 0 0 0 0 0] := by kernel_rfl
theorem anc2f : fcT ⟨#[97, 42]⟩ = 0 := by kernel_rfl
theorem anc2v : vdT ⟨#[97, 42]⟩ = 0 := by kernel_rfl

def ancA : List In := [.i 4 0 0 0 0, .i 3 2 4 0 0, ⟨1, 0, 0, 0, 0, [(97, 97)]⟩, .i 2 5 0 0 0, ⟨1, 0, 0, 0, 0, [(98, 98)]⟩, .i 4 1 0 0 0, .i 0 0 0 0 0]
def ancB : List In := [.i 4 0 0 0 0, .i 3 2 6 0 0, .i 10 0 0 0 0, ⟨1, 0, 0, 0, 0, [(97, 97)]⟩, .i 11 0 0 0 0, .i 2 1 0 0 0, .i 4 1 0 0 0, .i 0 0 0 0 0]
theorem made_a (hT : TabL w.heap.size w) : Calls Tryz.prog 22 #[.string ⟨#[97, 124, 98]⟩] w fun e w' => Below w.heap.size w w' ∧ ∃ A c, e = .returned (.tuple #[.slice A 7 c, .int .i64 0, .int .i64 0]) ∧ PgV w.heap.size w' (.slice A 7 c) ancA := by
  refine (made_any ⟨#[97, 124, 98]⟩ (by decide) hT).mono ?_
  intro e w' h
  unfold MadeP at h
  rw [anc1, anc1f, anc1v] at h
  exact h
theorem made_b (hT : TabL w.heap.size w) : Calls Tryz.prog 22 #[.string ⟨#[97, 42]⟩] w fun e w' => Below w.heap.size w w' ∧ ∃ A c, e = .returned (.tuple #[.slice A 8 c, .int .i64 0, .int .i64 0]) ∧ PgV w.heap.size w' (.slice A 8 c) ancB := by
  refine (made_any ⟨#[97, 42]⟩ (by decide) hT).mono ?_
  intro e w' h
  unfold MadeP at h
  rw [anc2, anc2f, anc2v] at h
  exact h
/-- What the anchor reads. -/
theorem six_a {A : Option Addr} {c : Nat} (h : PgV n₀ w (.slice A 7 c) ancA) : ∃ g, A = some ⟨g, 0, none⟩ ∧ 7 ≤ c ∧ w.cell? ⟨g, 6, none⟩ = some (.int .i64 3) ∧ w.cell? ⟨g, 7, none⟩ = some (.int .i64 2) ∧ w.cell? ⟨g, 8, none⟩ = some (.int .i64 4) ∧ w.cell? ⟨g, 18, none⟩ = some (.int .i64 2) ∧ w.cell? ⟨g, 19, none⟩ = some (.int .i64 5) := by
  obtain ⟨g, c', _, _, hv, hc, _, _, _, a0, a1, a2, _, _, _⟩ := h.six (i := 1) rfl
  obtain ⟨rfl, _, rfl⟩ := Value.slice.inj hv
  obtain ⟨g', c'', _, _, hv', _, _, _, _, d0, d1, _, _, _, _⟩ := h.six (i := 3) rfl
  obtain ⟨hgg, _, _⟩ := Value.slice.inj hv'
  obtain ⟨rfl⟩ : g = g' := by simpa using hgg
  exact ⟨g, rfl, hc, a0, a1, a2, d0, d1⟩
theorem six_b {A : Option Addr} {c : Nat} (h : PgV n₀ w (.slice A 8 c) ancB) : ∃ g, A = some ⟨g, 0, none⟩ ∧ 8 ≤ c ∧ w.cell? ⟨g, 6, none⟩ = some (.int .i64 3) ∧ w.cell? ⟨g, 8, none⟩ = some (.int .i64 6) ∧ w.cell? ⟨g, 24, none⟩ = some (.int .i64 11) := by
  obtain ⟨g, c', _, _, hv, hc, _, _, _, a0, _, a2, _, _, _⟩ := h.six (i := 1) rfl
  obtain ⟨rfl, _, rfl⟩ := Value.slice.inj hv
  obtain ⟨g', c'', _, _, hv', _, _, _, _, d0, _, _, _, _, _⟩ := h.six (i := 4) rfl
  obtain ⟨hgg, _, _⟩ := Value.slice.inj hv'
  obtain ⟨rfl⟩ : g = g' := by simpa using hgg
  exact ⟨g, rfl, hc, a0, a2, d0⟩
theorem loops_b {v : Value} (h : PgV n₀ w v ancB) : Calls Tryz.prog 25 #[v] w fun e w' => e = .returned (.int .i64 1) ∧ Below w.heap.size w w' := loops_any h

set_option maxRecDepth 100000 in
set_option maxHeartbeats 1000000 in
theorem anchor5_any (hT : TabL w.heap.size w) : Calls Tryz.prog 19 #[] w fun e w' => e = .returned (.bool true) ∧ Below w.heap.size w w' := by
  have HT := Lib.hid hT
  have HMa := Lib.hid (made_a hT)
  clear hT
  go_enter Tryz.func19, Tryz.ntmps19
  go_wp2_with fail
  refine HMa.out.mono ?_
  rintro e w1 ⟨hb1, A, c, rfl, hP1⟩
  have HMb := Lib.hid (made_b (HT.out.on hb1))
  have HP1 := Lib.hid hP1
  clear hP1
  go_wp2_with fail
  refine HMb.out.mono ?_
  rintro e w2 ⟨hb2, B, d, rfl, hP2⟩
  have hbw := hb1.trans (hb2.mono hb1.size)
  obtain ⟨g, rfl, hc, a0, a1, a2, d0, d1⟩ := six_a (HP1.out.on hb2)
  obtain ⟨h, rfl, he, b0, b2, f0⟩ := six_b hP2
  have HL := Lib.hid (loops_b hP2)
  clear hP2
  go_wp2_with fail
  refine HL.out.mono ?_
  rintro e w3 ⟨rfl, hb3⟩
  have hb9 := hbw.trans (hb3.mono hbw.size)
  go_wp2
  go_ret
  exact ⟨rfl, hb9⟩

end Go.Proofs.YtfngkclfdkeiaaaGreatDoor
