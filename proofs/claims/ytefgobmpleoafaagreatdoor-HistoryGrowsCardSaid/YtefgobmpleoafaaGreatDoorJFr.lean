/- Joined: RuFr, VdFr. -/
import Derived.Test.YtefgobmpleoafaaGreatDoorRows
import Derived.Test.YtefgobmpleoafaaGreatDoorJRb
import Derived.ProofKit
import Derived.OpenShut
import Derived.Deep.Slices
import Derived.SizedLaws
import Derived.Test.YtefgobmpleoafaaGreatDoorJUnit
import Derived.PinnedBridge
import Derived.Lib.LaidU8T
import Derived.Lay
import Derived.LaidOnce
import Derived.SevenTiedAt
/- What each row's proof of layer 7 needs beside its walk: the arguments opened. -/
namespace Go.Proofs.YtefgobmpleoafaaGreatDoor
open Go.ChangeShapes Go.WideShapes Go.ChangeAt Go.RowKit

theorem own : ownKnob Tryz.prog.godebug = none := by kernel_rfl
theorem laidOut : laidOutB Tryz.prog = true := by kernel_rfl
theorem list5 {α : Type} {l : List α} (h : l.length = 5) : ∃ a b c d e, l = [a, b, c, d, e] := by
  match l, h with
  | [a, b, c, d, e], _ => exact ⟨a, b, c, d, e, rfl⟩
theorem list6 {α : Type} {l : List α} (h : l.length = 6) : ∃ a b c d e f, l = [a, b, c, d, e, f] := by
  match l, h with
  | [a, b, c, d, e, f], _ => exact ⟨a, b, c, d, e, f, rfl⟩
section
variable {H : Type} {enc : TypeId × Value → H} {W : World} {sp : Nat → Bool} {held : Bool}
theorem int_cell {n : Nat} {c : Value} {y : DataW H × List MemPlace} (h : DataW.trod enc Tryz.prog W 0 sp held n 3 [c] = some y) : ∃ z : Int, c = .int .i64 z ∧ (Lit.int .i64 z).wf = true := by
  obtain ⟨z, hz, _, hw⟩ := DataW.trod_int Tryz.underlying3 h
  exact ⟨z, by simpa using hz, hw⟩
theorem str_cell {n : Nat} {c : Value} {y : DataW H × List MemPlace} (h : DataW.trod enc Tryz.prog W 0 sp held n 9 [c] = some y) : ∃ s : ByteArray, c = .string s := by
  obtain ⟨s, hs, _⟩ := DataW.trod_string Tryz.underlying9 h
  exact ⟨s, by simpa using hs⟩
theorem rule_cells {fuel : Nat} {cs : List Value} {x : DataW H × List MemPlace} (h : DataW.trod enc Tryz.prog W 0 sp held fuel 72 cs = some x) : ∃ r : Ru, cs = r.cells := by
  obtain ⟨xs, n, _, _, hl, hlen, hf⟩ := DataW.trod_struct Tryz.underlying72 h
  rw [show Tryz.prog.cellsOf 72 = 5 by kernel_rfl] at hl
  obtain ⟨c0, c1, c2, c3, c4, rfl⟩ := list5 hl
  obtain ⟨y0, y1, y2, y3, y4, rfl⟩ := list5 hlen
  have k : Tryz.prog.cellsOf 3 = 1 := by kernel_rfl
  have ks : Tryz.prog.cellsOf 9 = 1 := by kernel_rfl
  have h0 := hf 0 _ rfl
  have h1 := hf 1 _ rfl
  have h2 := hf 2 _ rfl
  have h3 := hf 3 _ rfl
  have h4 := hf 4 _ rfl
  simp [k, ks] at h0 h1 h2 h3 h4
  obtain ⟨z0, rfl, _⟩ := int_cell h0
  obtain ⟨z1, rfl, _⟩ := int_cell h1
  obtain ⟨z2, rfl, _⟩ := int_cell h2
  obtain ⟨z3, rfl, _⟩ := int_cell h3
  obtain ⟨s4, rfl⟩ := str_cell h4
  exact ⟨⟨z0, z1, z2, z3, s4⟩, rfl⟩
theorem add_at (b off j : Nat) : (⟨b, off, none⟩ : Addr).add j = ⟨b, off + j, none⟩ := by unfold Addr.add; split <;> simp_all
/-- a slice of rules, opened -/
theorem rules_cell {n : Nat} {c : Value} {y : DataW H × List MemPlace} (h : DataW.trod enc Tryz.prog W 0 sp held n 34 [c] = some y) : ∃ l : List Ru, RulesV W.heap.size W c l := by
  rcases Go.Deep.open_slice Tryz.underlying34 h with ⟨hcs, _⟩ | ⟨a, len, cap, m, k, D, Pl, hcs, _, hl, _, hmm, _, hi⟩
  · obtain rfl : c = .slice none 0 0 := by simpa using hcs
    exact ⟨[], RulesV.nil _ _⟩
  · obtain rfl : c = .slice (some a) len cap := by simpa using hcs
    have hlm : len ≤ m := by rw [hmm]; split <;> omega
    have each : ∀ i, i < len → ∃ r : Ru, ∀ j u, r.cells[j]? = some u → W.cell? ((a.add (i * 5)).add j) = some u := by
      intro i hil
      obtain ⟨cs', h1, h2⟩ := hi i (by omega)
      rw [show Tryz.prog.cellsOf 72 = 5 by kernel_rfl] at h1
      obtain ⟨r, rfl⟩ := rule_cells h2
      obtain ⟨_, _, hc⟩ := World.cells?_some h1
      refine ⟨r, fun j u hu => ?_⟩
      have hj : j < 5 := by
        have := (List.getElem?_eq_some_iff.1 hu).1
        simpa [Ru.cells] using this
      rw [hc j hj, hu]
    obtain ⟨q, hq⟩ := Go.Deep.choose_lt (α := Ru) each
    have hlen : ((List.range len).map q).length = len := by simp
    refine ⟨(List.range len).map q, some a, cap, by rw [hlen], by rw [hlen]; exact hl, fun hne => ?_⟩
    have hpos : 0 < len := by
      rcases Nat.eq_zero_or_pos len with h0 | h0
      · subst h0; simp at hne
      · exact h0
    obtain ⟨b, off, spot⟩ := a
    have hspot : spot = none := by
      have := World.cell?_spot (hq 0 hpos 0 _ rfl)
      simpa [Addr.add] using this
    subst hspot
    have cell : ∀ i, i < len → ∀ j u, (q i).cells[j]? = some u → W.cell? ⟨b, off + i * 5 + j, none⟩ = some u := fun i hil j u hu => by
      have := hq i hil j u hu
      rwa [add_at, add_at] at this
    refine ⟨b, off, rfl, block_lt_of_cell (cell 0 hpos 0 _ rfl), fun i r hr => ?_⟩
    obtain ⟨hil, hre⟩ := List.getElem?_eq_some_iff.1 hr
    rw [hlen] at hil
    have hre : q i = r := by simpa using hre
    subst hre
    exact ⟨cell i hil 0 _ rfl, cell i hil 1 _ rfl, cell i hil 2 _ rfl, cell i hil 3 _ rfl, cell i hil 4 _ rfl⟩
/-- a slice of numbers, opened -/
theorem ints_cell {n : Nat} {c : Value} {y : DataW H × List MemPlace} (h : DataW.trod enc Tryz.prog W 0 sp held n 35 [c] = some y) : ∃ l : List Int, Row W.heap.size W c (zI l) ∧ ∀ z ∈ l, (Lit.int .i64 z).wf = true := by
  rcases Go.Deep.open_slice1 Tryz.underlying35 (by kernel_rfl) h with ⟨hcs, _⟩ | ⟨a, len, cap, m, k, V, D, Pl, hcs, _, hl, _, hmm, _, hi⟩
  · obtain rfl : c = .slice none 0 0 := by simpa using hcs
    exact ⟨[], ⟨none, 0, rfl, Nat.le_refl _, fun h => absurd rfl h⟩, by simp⟩
  · obtain rfl : c = .slice (some a) len cap := by simpa using hcs
    have hlm : len ≤ m := by rw [hmm]; split <;> omega
    have each : ∀ i, i < len → ∃ z : Int, W.cell? (a.add i) = some (.int .i64 z) ∧ (Lit.int .i64 z).wf = true := by
      intro i hil
      obtain ⟨h1, h2⟩ := hi i (by omega)
      obtain ⟨z, hz, hw⟩ := int_cell h2
      exact ⟨z, by rw [h1, hz], hw⟩
    obtain ⟨q, hq⟩ := Go.Deep.choose_lt (α := Int) each
    have hlen : (zI ((List.range len).map q)).length = len := by simp [zI]
    refine ⟨(List.range len).map q, ⟨some a, cap, by rw [hlen], by rw [hlen]; exact hl, fun hne => ?_⟩, fun z hz => ?_⟩
    · have hpos : 0 < len := by
        rcases Nat.eq_zero_or_pos len with h0 | h0
        · subst h0; simp [zI] at hne
        · exact h0
      obtain ⟨b, off, spot⟩ := a
      have hspot : spot = none := by
        have := World.cell?_spot (hq 0 hpos).1
        simpa [Addr.add] using this
      subst hspot
      refine ⟨b, off, rfl, ?_, fun j u hu => ?_⟩
      · have := block_lt_of_cell (hq 0 hpos).1
        rwa [add_at] at this
      · obtain ⟨hj, he⟩ := List.getElem?_eq_some_iff.1 hu
        rw [hlen] at hj
        have := (hq j hj).1
        rw [add_at] at this
        rw [this, ← he]
        simp [zI]
    · obtain ⟨i, hi', rfl⟩ := List.mem_map.1 hz
      exact (hq i (List.mem_range.1 hi')).2
end
section
variable {H : Type} {enc : TypeId × Value → H} {W : World} {base : Nat} {v : Value} {d : DataW H} {p : List MemPlace}
set_option maxRecDepth 100000 in
theorem open_set7 (hv : Value.okWide Tryz.prog W .any base 54 v) (h : DataW.Trod enc Tryz.prog W 0 (fun _ => true) true 54 v d p) :
    ∃ (s : RS) (c : Value), v = .agg #[.int .i64 s.de, .int .i64 s.cl, .int .i64 s.fu, .int .i64 s.st, c] ∧ RulesV W.heap.size W c s.rs := by
  obtain ⟨cs, rfl, _⟩ := okWide_struct Tryz.underlying54 hv
  obtain ⟨fuel, h⟩ := h
  obtain ⟨xs, n, _, _, hl, hlen, hf⟩ := DataW.trod_struct Tryz.underlying54 h
  obtain ⟨cs⟩ := cs
  simp only [Value.cells] at hl hf
  rw [show Tryz.prog.cellsOf 54 = 5 by kernel_rfl] at hl
  obtain ⟨c0, c1, c2, c3, c4, rfl⟩ := list5 hl
  obtain ⟨y0, y1, y2, y3, y4, rfl⟩ := list5 hlen
  have k : Tryz.prog.cellsOf 3 = 1 := by kernel_rfl
  have ks : Tryz.prog.cellsOf 34 = 1 := by kernel_rfl
  have h0 := hf 0 _ rfl
  have h1 := hf 1 _ rfl
  have h2 := hf 2 _ rfl
  have h3 := hf 3 _ rfl
  have h4 := hf 4 _ rfl
  simp [k, ks] at h0 h1 h2 h3 h4
  obtain ⟨z0, rfl, _⟩ := int_cell h0
  obtain ⟨z1, rfl, _⟩ := int_cell h1
  obtain ⟨z2, rfl, _⟩ := int_cell h2
  obtain ⟨z3, rfl, _⟩ := int_cell h3
  obtain ⟨l, hr⟩ := rules_cell h4
  exact ⟨⟨z0, z1, z2, z3, l⟩, c4, rfl, hr⟩
set_option maxRecDepth 100000 in
theorem open_delta7 (hv : Value.okWide Tryz.prog W .any base 37 v) (h : DataW.Trod enc Tryz.prog W 0 (fun _ => true) true 37 v d p) :
    ∃ (s : Dl) (c e : Value), v = .agg #[.int .i64 s.de, .int .i64 s.cl, .int .i64 s.fu, .int .i64 s.st, c, e] ∧ RulesV W.heap.size W c s.put ∧ Row W.heap.size W e (zI s.drop) ∧ ∀ z ∈ s.drop, (Lit.int .i64 z).wf = true := by
  obtain ⟨cs, rfl, _⟩ := okWide_struct Tryz.underlying37 hv
  obtain ⟨fuel, h⟩ := h
  obtain ⟨xs, n, _, _, hl, hlen, hf⟩ := DataW.trod_struct Tryz.underlying37 h
  obtain ⟨cs⟩ := cs
  simp only [Value.cells] at hl hf
  rw [show Tryz.prog.cellsOf 37 = 6 by kernel_rfl] at hl
  obtain ⟨c0, c1, c2, c3, c4, c5, rfl⟩ := list6 hl
  obtain ⟨y0, y1, y2, y3, y4, y5, rfl⟩ := list6 hlen
  have k : Tryz.prog.cellsOf 3 = 1 := by kernel_rfl
  have ks : Tryz.prog.cellsOf 34 = 1 := by kernel_rfl
  have ki : Tryz.prog.cellsOf 35 = 1 := by kernel_rfl
  have h0 := hf 0 _ rfl
  have h1 := hf 1 _ rfl
  have h2 := hf 2 _ rfl
  have h3 := hf 3 _ rfl
  have h4 := hf 4 _ rfl
  have h5 := hf 5 _ rfl
  simp [k, ks, ki] at h0 h1 h2 h3 h4 h5
  obtain ⟨z0, rfl, _⟩ := int_cell h0
  obtain ⟨z1, rfl, _⟩ := int_cell h1
  obtain ⟨z2, rfl, _⟩ := int_cell h2
  obtain ⟨z3, rfl, _⟩ := int_cell h3
  obtain ⟨l, hr⟩ := rules_cell h4
  obtain ⟨q, hq, hw⟩ := ints_cell h5
  exact ⟨⟨z0, z1, z2, z3, l, q⟩, c4, c5, rfl, hr, hq, hw⟩
set_option maxRecDepth 100000 in
theorem open_rule7 (hv : Value.okWide Tryz.prog W .any base 72 v) (h : DataW.Trod enc Tryz.prog W 0 (fun _ => true) true 72 v d p) :
    ∃ r : Ru, v = .agg #[.int .i64 r.id, .int .i64 r.pr, .int .i64 r.ac, .int .i64 r.sc, .string r.pat] := by
  obtain ⟨cs, rfl, _⟩ := okWide_struct Tryz.underlying72 hv
  obtain ⟨fuel, h⟩ := h
  obtain ⟨cs⟩ := cs
  obtain ⟨r, hr⟩ := rule_cells h
  simp only [Value.cells] at hr
  exact ⟨r, by rw [hr]; rfl⟩
end

end Go.Proofs.YtefgobmpleoafaaGreatDoor

/- What each row's proof of layer 8 needs beside its walk: the tables read off the row's list, the lengths of what is handed in. -/
namespace Go.Proofs.YtefgobmpleoafaaGreatDoor
open Go.ChangeShapes Go.WideShapes Go.ChangeAt Go.RowKit Go.Shelf

def laid : List (String × DataW Unit) := Rows.historyGrowsRow.laid

def ren : Ren := ⟨fun n => n, fun | 5 => 5 | 119 => 243 | 138 => 245 | 139 => 246 | n => n, fun | 3 => 0 | 4 => 1 | n => n⟩
theorem types : U8Types Tryz.prog ren := ⟨Tryz.underlying5, Tryz.underlying243, Tryz.underlying245, Tryz.underlying246⟩
theorem extra : U8Extra Tryz.prog ren := ⟨by kernel_rfl, by kernel_rfl, by kernel_rfl, by kernel_rfl, by kernel_rfl, by kernel_rfl, by kernel_rfl⟩
theorem accept_eq : (Rows.laid_unicode_utf8_acceptRanges : DataW Unit) = Lib.acceptData := by kernel_rfl

theorem tabs_of_laid {W : World} (hL : laidMetH Tryz.prog laid W) : TabsAt W.heap.size W := by
  rw [MakeChecks.laidMetH_plain _ _ _ (by kernel_rfl)] at hL
  have h : Lib.Utf8Tabs 0 1 W := utf8Tabs_of_readsT (ρ := ren) types extra (Pinned.utf8First_eq ▸ Lib.laidMet.reads hL (.tail _ (.head _))) (accept_eq ▸ Lib.laidMet.reads hL (.head _))
  exact ⟨block_lt_of_cell (h.2 0 (by omega)).1, h⟩


theorem rules_len {H : Type} {enc : TypeId × Value → H} {W : World} {sp : Nat → Bool} {held : Bool} {n m : Nat} {c : Value} {l : List Ru} {y : DataW H × List MemPlace} (h : DataW.trod enc Tryz.prog W 0 sp held n 34 [c] = some y) (hr : RulesV m W c l) : l.length ≤ 9223372036854775807 := by
  obtain ⟨A, k, rfl⟩ := hr.form
  rcases Go.Deep.open_slice Tryz.underlying34 h with ⟨hcs, _⟩ | ⟨a, len, cap, m, k, D, Pl, hcs, _, hl, hc, _, _, _⟩
  · simp at hcs
    obtain ⟨_, rfl, _⟩ := hcs
    simp
  · simp at hcs
    have hc' : cap ≤ 9223372036854775807 := hc
    omega
theorem set_len7 {H : Type} {enc : TypeId × Value → H} {W : World} {m : Nat} {i0 i1 i2 i3 c : Value} {l : List Ru} {d : DataW H} {p : List MemPlace} (h : DataW.Trod enc Tryz.prog W 0 (fun _ => true) true 54 (.agg #[i0, i1, i2, i3, c]) d p) (hr : RulesV m W c l) : l.length ≤ 9223372036854775807 := by
  obtain ⟨fuel, h⟩ := h
  obtain ⟨xs, n, _, _, hl, hlen, hf⟩ := DataW.trod_struct Tryz.underlying54 h
  obtain ⟨y0, y1, y2, y3, y4, rfl⟩ := list5 hlen
  have ks : Tryz.prog.cellsOf 34 = 1 := by kernel_rfl
  have h4 := hf 4 _ rfl
  simp [ks, Value.cells] at h4
  exact rules_len h4 hr
theorem delta_len7 {H : Type} {enc : TypeId × Value → H} {W : World} {m : Nat} {i0 i1 i2 i3 c e : Value} {l : List Ru} {d : DataW H} {p : List MemPlace} (h : DataW.Trod enc Tryz.prog W 0 (fun _ => true) true 37 (.agg #[i0, i1, i2, i3, c, e]) d p) (hr : RulesV m W c l) : l.length ≤ 9223372036854775807 := by
  obtain ⟨fuel, h⟩ := h
  obtain ⟨xs, n, _, _, hl, hlen, hf⟩ := DataW.trod_struct Tryz.underlying37 h
  obtain ⟨y0, y1, y2, y3, y4, y5, rfl⟩ := list6 hlen
  have ks : Tryz.prog.cellsOf 34 = 1 := by kernel_rfl
  have h4 := hf 4 _ rfl
  simp [ks, Value.cells] at h4
  exact rules_len h4 hr

end Go.Proofs.YtefgobmpleoafaaGreatDoor

