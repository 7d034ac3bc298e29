/- What each row's proof needs beside its walk: the arguments opened, the tables read off the row's list, the witness. -/
import Derived.Test.YthfhlkacnpdbiaaDoorRows
import Derived.Test.YthfhlkacnpdbiaaDoorMUnit
import Derived.ProofKit
import Derived.OpenShut
import Derived.PinnedBridge
import Derived.Lib.LaidU8T
import Derived.Lay
import Derived.LaidOnce
import Derived.SevenTiedAt
namespace Go.Proofs.YthfhlkacnpdbiaaDoor
open Go.ChangeShapes Go.WideShapes Go.ChangeAt Go.RowKit Go.Shelf

theorem own : ownKnob Tryd.prog.godebug = none := by kernel_rfl
theorem laidOut : laidOutB Tryd.prog = true := by kernel_rfl

def laid : List (String × DataW Unit) := Rows.shapeOrdersRow.laid

def ren : Ren := ⟨fun n => n, fun | 5 => 5 | 119 => 104 | 138 => 106 | 139 => 107 | n => n, fun | 3 => 0 | 4 => 1 | n => n⟩
theorem types : U8Types Tryd.prog ren := ⟨Tryd.underlying5, Tryd.underlying104, Tryd.underlying106, Tryd.underlying107⟩
theorem extra : U8Extra Tryd.prog ren := ⟨by kernel_rfl, by kernel_rfl, by kernel_rfl, by kernel_rfl, by kernel_rfl, by kernel_rfl, by kernel_rfl⟩
theorem accept_eq : (Rows.laid_unicode_utf8_acceptRanges : DataW Unit) = Lib.acceptData := by kernel_rfl

theorem tabs_of_laid {W : World} (hL : laidMetH Tryd.prog laid W) : TabsAt W.heap.size W := by
  rw [MakeChecks.laidMetH_plain _ _ _ (by kernel_rfl)] at hL
  have h : Lib.Utf8Tabs 0 1 W := utf8Tabs_of_readsT (ρ := ren) types extra (Pinned.utf8First_eq ▸ Lib.laidMet.reads hL (.tail _ (.head _))) (accept_eq ▸ Lib.laidMet.reads hL (.head _))
  exact ⟨block_lt_of_cell (h.2 0 (by omega)).1, h⟩

theorem bytes_nil (W : World) : Bytes W.heap.size W (.slice none 0 0) [] := ⟨none, 0, rfl, Nat.le_refl _, fun h => absurd rfl h⟩
theorem row_nil (W : World) : Row W.heap.size W (.slice none 0 0) (zs []) := ⟨none, 0, rfl, Nat.le_refl _, fun h => absurd rfl h⟩

theorem u8_bounds {z : Int} (h : (Lit.int .u8 z).wf = true) : 0 ≤ z ∧ z < 256 := by
  have : 0 ≤ z ∧ z ≤ 255 := by simpa [Lit.wf, IntKind.min, IntKind.max, IntKind.signed, IntKind.bits] using h
  omega
theorem i64_bounds {z : Int} (h : (Lit.int .i64 z).wf = true) : -9223372036854775808 ≤ z ∧ z ≤ 9223372036854775807 := by
  simpa [Lit.wf, IntKind.min, IntKind.max, IntKind.signed, IntKind.bits] using h

/-- A []byte that came in, as a text. -/
theorem bytes_of_ints {W : World} {x : Addr} {len cap : Nat} {l : List Int} (hl : len ≤ cap) (hz : l.length = cap) (hcell : ∀ i, i < l.length → W.cell? (x.add i) = some (.int .u8 (l.getD i 0)))
    (hwz : ∀ n ∈ l, (Lit.int .u8 n).wf = true) : ∃ s : List UInt8, Bytes W.heap.size W (.slice (some x) len cap) s := by
  have hsl : ((l.take len).map fun z => z.toNat.toUInt8).length = len := by simp; omega
  refine ⟨(l.take len).map fun z => z.toNat.toUInt8, some x, cap, by rw [hsl], by rw [hsl]; exact hl, fun hs => ?_⟩
  have hpos : 0 < len := by
    rcases Nat.eq_zero_or_pos len with h | h
    · subst h; simp at hs
    · exact h
  obtain ⟨b, off, rfl, hc⟩ := ints_at hcell (by omega)
  refine ⟨b, off, rfl, block_lt_of_cell (hc 0 (by omega)), fun j hj => ?_⟩
  rw [hsl] at hj
  have hjl : j < l.length := by omega
  rw [hc j hjl]
  have hb := u8_bounds (hwz (l.getD j 0) (by rw [List.getD_eq_getElem?_getD, List.getElem?_eq_getElem hjl]; exact List.getElem_mem hjl))
  have e : ((at_ ((l.take len).map fun z => z.toNat.toUInt8) j : Nat) : Int) = l.getD j 0 := by
    simp only [at_, List.getD_eq_getElem?_getD, List.getElem?_map, List.getElem?_take, hj, if_true, List.getElem?_eq_getElem hjl, Option.map_some, Option.getD_some] at hb ⊢
    simp
    omega
  rw [e]

/-- A []int that came in, as a list. -/
theorem row_of_ints {W : World} {x : Addr} {len cap : Nat} {l : List Int} (hl : len ≤ cap) (hz : l.length = cap) (hcell : ∀ i, i < l.length → W.cell? (x.add i) = some (.int .i64 (l.getD i 0)))
    (hwz : ∀ n ∈ l, (Lit.int .i64 n).wf = true) : ∃ r : List Int, Row W.heap.size W (.slice (some x) len cap) (zs r) ∧ ∀ n ∈ r, -9223372036854775808 ≤ n ∧ n ≤ 9223372036854775807 := by
  have hsl : (zs (l.take len)).length = len := by rw [zs_len]; simp; omega
  refine ⟨l.take len, ⟨some x, cap, by rw [hsl], by rw [hsl]; exact hl, fun hs => ?_⟩, fun n hn => i64_bounds (hwz n (List.mem_of_mem_take hn))⟩
  have hpos : 0 < len := by
    rcases Nat.eq_zero_or_pos len with h | h
    · subst h; simp [zs] at hs
    · exact h
  obtain ⟨b, off, rfl, hc⟩ := ints_at hcell (by omega)
  refine ⟨b, off, rfl, block_lt_of_cell (hc 0 (by omega)), fun j u hu => ?_⟩
  have hj : j < len := by
    have := (List.getElem?_eq_some_iff.1 hu).1
    omega
  have hjl : j < l.length := by omega
  rw [hc j hjl]
  simp [zs, hj, List.getElem?_eq_getElem hjl] at hu
  rw [List.getD_eq_getElem?_getD, List.getElem?_eq_getElem hjl, ← hu]
  rfl

/-- Opened: nil, or a row. -/
theorem open_bytes {H : Type} {enc : TypeId × Value → H} {W : World} {a : Option Addr} {len cap : Nat} {d : DataW H} {p : List MemPlace}
    (h : DataW.Trod enc Tryd.prog W 0 (fun _ => true) true 44 (.slice a len cap) d p) : ∃ s : List UInt8, Bytes W.heap.size W (.slice a len cap) s := by
  obtain ⟨fuel, hf⟩ := h
  rcases open_ints Tryd.underlying44 Tryd.underlying5 (by kernel_rfl) hf with ⟨hcs, _⟩ | ⟨x, l, c, zs, hcs, _, hl, hm, hz, _, hcell, hwz⟩
  · simp [Value.cells] at hcs
    obtain ⟨rfl, rfl, rfl⟩ := hcs
    exact ⟨[], bytes_nil W⟩
  · simp [Value.cells] at hcs
    obtain ⟨rfl, rfl, rfl⟩ := hcs
    exact bytes_of_ints hl (by simpa using hz) hcell hwz
theorem open_row {H : Type} {enc : TypeId × Value → H} {W : World} {a : Option Addr} {len cap : Nat} {d : DataW H} {p : List MemPlace}
    (h : DataW.Trod enc Tryd.prog W 0 (fun _ => true) true 43 (.slice a len cap) d p) : ∃ r : List Int, Row W.heap.size W (.slice a len cap) (zs r) ∧ ∀ n ∈ r, -9223372036854775808 ≤ n ∧ n ≤ 9223372036854775807 := by
  obtain ⟨fuel, hf⟩ := h
  rcases open_ints Tryd.underlying43 Tryd.underlying3 (by kernel_rfl) hf with ⟨hcs, _⟩ | ⟨x, l, c, zs, hcs, _, hl, hm, hz, _, hcell, hwz⟩
  · simp [Value.cells] at hcs
    obtain ⟨rfl, rfl, rfl⟩ := hcs
    exact ⟨[], row_nil W, fun _ h => by cases h⟩
  · simp [Value.cells] at hcs
    obtain ⟨rfl, rfl, rfl⟩ := hcs
    exact row_of_ints hl (by simpa using hz) hcell hwz

end Go.Proofs.YthfhlkacnpdbiaaDoor
