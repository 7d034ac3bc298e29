/- Joined: FrameG, VmFr. -/
import Derived.Test.YtdbddbelhgkelaaGreatDoorRows
import Derived.Test.YtdbddbelhgkelaaGreatDoorZGo
import Derived.ProofKit
import Derived.OpenShut
import Derived.PinnedBridge
import Derived.Deep.SlicePairs
import Derived.Lib.LaidU8T
import Derived.Lay
import Derived.LaidOnce
import Derived.SevenTiedAt
import Derived.Test.YtdbddbelhgkelaaGreatDoorZMWe
/- What each row's proof needs beside its walk: utf8's tables and the letters with twins, read off the row's list. -/
namespace Go.Proofs.YtdbddbelhgkelaaGreatDoor
open Go.ChangeShapes Go.WideShapes Go.ChangeAt Go.RowKit Go.Shelf

theorem own : ownKnob Tryz.prog.godebug = none := by kernel_rfl
theorem laidOut : laidOutB Tryz.prog = true := by kernel_rfl

def laid : List (String × DataW Unit) := Rows.vmPlainRow.laid

def ren : Ren := ⟨fun n => n, fun | 5 => 5 | 119 => 160 | 138 => 163 | 139 => 164 | n => n, fun | 3 => 2 | 4 => 3 | n => n⟩
theorem types : U8Types Tryz.prog ren := ⟨Tryz.underlying5, Tryz.underlying160, Tryz.underlying163, Tryz.underlying164⟩
theorem extra : U8Extra Tryz.prog ren := ⟨by kernel_rfl, by kernel_rfl, by kernel_rfl, by kernel_rfl, by kernel_rfl, by kernel_rfl, by kernel_rfl⟩
theorem accept_eq : (Rows.laid_unicode_utf8_acceptRanges : DataW Unit) = Lib.acceptData := by kernel_rfl
theorem cells_of_var {W : World} {n : String} {g : Nat} {cs : Array Value} (hg : Tryz.prog.globalNamed n = some g) (hv : W.var? Tryz.prog n = some cs) (i : Nat) : W.cell? ⟨g, i, none⟩ = cs.toList[i]? := by
  simp only [World.var?, hg, Option.bind_some] at hv
  split at hv
  · rename_i c t fr heq
    obtain rfl := Option.some.inj hv
    rw [cell_of_row W g i _ _ _ heq]
    simp
  · cases hv
theorem range_cells {W : World} {fuel : Nat} {cs : List Value} {a b : Int} {p : List MemPlace} (h : DataW.trod (fun _ => ()) Tryz.prog W 0 (fun _ => true) false fuel 155 cs = some (.agg [.lit (.int .i64 a), .lit (.int .i64 b)], p)) : cs = [.int .i64 a, .int .i64 b] := by
  refine Lib.ints_of_struct (zs := [a, b]) Tryz.underlying155 ?_ (by kernel_rfl) h
  intro i f hf
  match i, hf with
  | 0, hf => simp at hf; subst hf; exact ⟨Tryz.underlying3, rfl, by kernel_rfl⟩
  | 1, hf => simp at hf; subst hf; exact ⟨Tryz.underlying3, rfl, by kernel_rfl⟩
  | i + 2, hf => simp at hf
theorem tabs_of_laid {W : World} (hL : laidMetH Tryz.prog laid W) : TabL W.heap.size W := by
  rw [MakeChecks.laidMetH_plain _ _ _ (by kernel_rfl)] at hL
  have h : Lib.Utf8Tabs 2 3 W := utf8Tabs_of_readsT (ρ := ren) types extra (Pinned.utf8First_eq ▸ Lib.laidMet.reads hL (.tail _ (.tail _ (.tail _ (.head _))))) (accept_eq ▸ Lib.laidMet.reads hL (.head _))
  obtain ⟨g, t, cs, fuel, p, hg, ht, hv, hd⟩ := Lib.laidMet.reads hL (n := "colander/class.lower") (d := Rows.laid_colander_class_lower) (.tail _ (.head _))
  obtain ⟨g', t', cs', fuel', p', hg', ht', hv', hd'⟩ := Lib.laidMet.reads hL (n := "colander/class.upper") (d := Rows.laid_colander_class_upper) (.tail _ (.tail _ (.head _)))
  have k0 : Tryz.prog.globalNamed "colander/class.lower" = some 0 := by kernel_rfl
  have k1 : Tryz.prog.globalNamed "colander/class.upper" = some 1 := by kernel_rfl
  obtain rfl := Option.some.inj (k0.symm.trans hg)
  obtain rfl := Option.some.inj (k1.symm.trans hg')
  obtain rfl := Option.some.inj ((show (Tryz.prog.globals[0]?).map (·.type) = some 155 by kernel_rfl).symm.trans ht)
  obtain rfl := Option.some.inj ((show (Tryz.prog.globals[1]?).map (·.type) = some 155 by kernel_rfl).symm.trans ht')
  have e0 := range_cells (a := 97) (b := 122) hd
  have e1 := range_cells (a := 65) (b := 90) hd'
  have c0 := cells_of_var k0 hv 0
  have c1 := cells_of_var k0 hv 1
  have d0 := cells_of_var k1 hv' 0
  have d1 := cells_of_var k1 hv' 1
  rw [e0] at c0 c1
  rw [e1] at d0 d1
  exact ⟨⟨block_lt_of_cell (h.2 0 (by omega)).1, h⟩, block_lt_of_cell d0, c0, c1, d0, d1⟩

end Go.Proofs.YtdbddbelhgkelaaGreatDoor

/- A byte slice and an int of a row opened. -/
namespace Go.Proofs.YtdbddbelhgkelaaGreatDoor
open Go.ChangeShapes Go.WideShapes Go.ChangeAt Go.RowKit Go.Shelf

theorem bytes_nil (W : World) : Bytes W.heap.size W (.slice none 0 0) [] := ⟨none, 0, rfl, Nat.le_refl _, fun h => absurd rfl h⟩
theorem u8_bounds {z : Int} (h : (Lit.int .u8 z).wf = true) : 0 ≤ z ∧ z < 256 := by
  have : 0 ≤ z ∧ z ≤ 255 := by simpa [Lit.wf, IntKind.min, IntKind.max, IntKind.signed, IntKind.bits] using h
  omega
theorem i64_bounds {z : Int} (h : (Lit.int .i64 z).wf = true) : -9223372036854775808 ≤ z ∧ z ≤ 9223372036854775807 := by
  simpa [Lit.wf, IntKind.min, IntKind.max, IntKind.signed, IntKind.bits] using h

/-- A []byte that came in, as a text. -/
theorem bytes_of_ints {W : World} {x : Addr} {len cap : Nat} {l : List Int} (hl : len ≤ cap) (hz : l.length = cap) (hcell : ∀ i, i < l.length → W.cell? (x.add i) = some (.int .u8 (l.getD i 0)))
    (hwz : ∀ n ∈ l, (Lit.int .u8 n).wf = true) : ∃ s : List UInt8, Bytes W.heap.size W (.slice (some x) len cap) s := by
  have hsl : ((l.take len).map fun z => z.toNat.toUInt8).length = len := by simp; omega
  refine ⟨(l.take len).map fun z => z.toNat.toUInt8, some x, cap, by rw [hsl], by rw [hsl]; exact hl, fun hs => ?_⟩
  have hpos : 0 < len := by
    rcases Nat.eq_zero_or_pos len with h | h
    · subst h; simp at hs
    · exact h
  obtain ⟨b, off, rfl, hc⟩ := ints_at hcell (by omega)
  refine ⟨b, off, rfl, block_lt_of_cell (hc 0 (by omega)), fun j hj => ?_⟩
  rw [hsl] at hj
  have hjl : j < l.length := by omega
  rw [hc j hjl]
  have hb := u8_bounds (hwz (l.getD j 0) (by rw [List.getD_eq_getElem?_getD, List.getElem?_eq_getElem hjl]; exact List.getElem_mem hjl))
  have e : ((at_ ((l.take len).map fun z => z.toNat.toUInt8) j : Nat) : Int) = l.getD j 0 := by
    simp only [at_, List.getD_eq_getElem?_getD, List.getElem?_map, List.getElem?_take, hj, if_true, List.getElem?_eq_getElem hjl, Option.map_some, Option.getD_some] at hb ⊢
    simp
    omega
  rw [e]

/-- Opened: nil, or a row. -/
theorem open_bytes {H : Type} {enc : TypeId × Value → H} {W : World} {a : Option Addr} {len cap : Nat} {d : DataW H} {p : List MemPlace}
    (h : DataW.Trod enc Tryz.prog W 0 (fun _ => true) true 47 (.slice a len cap) d p) : ∃ s : List UInt8, Bytes W.heap.size W (.slice a len cap) s := by
  obtain ⟨fuel, hf⟩ := h
  rcases open_ints Tryz.underlying47 Tryz.underlying5 (by kernel_rfl) hf with ⟨hcs, _⟩ | ⟨x, l, c, zs, hcs, _, hl, hm, hz, _, hcell, hwz⟩
  · simp [Value.cells] at hcs
    obtain ⟨rfl, rfl, rfl⟩ := hcs
    exact ⟨[], bytes_nil W⟩
  · simp [Value.cells] at hcs
    obtain ⟨rfl, rfl, rfl⟩ := hcs
    exact bytes_of_ints hl (by simpa using hz) hcell hwz
end Go.Proofs.YtdbddbelhgkelaaGreatDoor

