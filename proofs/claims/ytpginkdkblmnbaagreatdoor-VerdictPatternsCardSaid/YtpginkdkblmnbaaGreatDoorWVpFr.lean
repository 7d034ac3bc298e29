import Derived.Test.YtpginkdkblmnbaaGreatDoorRows
import Derived.Test.YtpginkdkblmnbaaGreatDoorWVpL
import Derived.ProofKit
import Derived.OpenShut
import Derived.PinnedBridge
import Derived.Deep.SlicePairs
import Derived.Lib.LaidU8T
import Derived.Lay
import Derived.LaidOnce
import Derived.SevenTiedAt
namespace Go.Proofs.YtpginkdkblmnbaaGreatDoor
section
open Go.ChangeShapes Go.WideShapes Go.ChangeAt Go.RowKit Go.Shelf
theorem own : ownKnob Tryz.prog.godebug = none := by kernel_rfl
theorem Ðm : laidOutB Tryz.prog = true := by kernel_rfl
def laid : List (String × DataW Unit) := Rows.verdictPatternsRow.laid
def ren : Ren := ⟨fun n => n, fun | 5 => 5 | 119 => 224 | 138 => 226 | 139 => 227 | n => n, fun | 3 => 2 | 4 => 3 | n => n⟩
theorem Ñx : U8Types Tryz.prog ren := ⟨Tryz.underlying5, Tryz.underlying224, Tryz.underlying226, Tryz.underlying227⟩
theorem Ñy : U8Extra Tryz.prog ren := ⟨by kernel_rfl, by kernel_rfl, by kernel_rfl, by kernel_rfl, by kernel_rfl, by kernel_rfl, by kernel_rfl⟩
theorem ÍC : (Rows.laid_unicode_utf8_acceptRanges : DataW Unit) = Lib.acceptData := by kernel_rfl
theorem Áa {W : World} {n : String} {g : Nat} {cs : Array Value} (hg : Tryz.prog.globalNamed n = some g) (hv : W.var? Tryz.prog n = some cs) (i : Nat) : W.cell? ⟨g, i, none⟩ = cs.toList[i]? := by
 simp only [World.var?, hg, Option.bind_some] at hv;split at hv
 ·rename_i c t fr heq
  obtain rfl := Option.some.inj hv;rw [cell_of_row W g i _ _ _ heq];simp
 ·cases hv
theorem Åd {W : World} {fuel : Nat} {cs : List Value} {a b : Int} {p : List MemPlace} (h : DataW.trod (fun _ => ()) Tryz.prog W 0 (fun _ => true) false fuel 164 cs = some (.agg [.lit (.int .i64 a), .lit (.int .i64 b)], p)) : cs = [.int .i64 a, .int .i64 b] := by
 refine Lib.ints_of_struct (zs := [a, b]) Tryz.underlying164 ?_ (by kernel_rfl) h
 intro i f hf
 match i, hf with
 | 0, hf => simp at hf; subst hf; exact ⟨Tryz.underlying3, rfl, by kernel_rfl⟩
 | 1, hf => simp at hf; subst hf; exact ⟨Tryz.underlying3, rfl, by kernel_rfl⟩
 | i + 2, hf => simp at hf
theorem ÈG {W : World} (hL : laidMetH Tryz.prog laid W) : Ïi W.heap.size W := by
 rw [MakeChecks.laidMetH_plain _ _ _ (by kernel_rfl)] at hL
 have h : Lib.Utf8Tabs 2 3 W := utf8Tabs_of_readsT (ρ := ren) Ñx Ñy (Pinned.utf8First_eq ▸ Lib.laidMet.reads hL (.tail _ (.tail _ (.tail _ (.head _))))) (ÍC ▸ Lib.laidMet.reads hL (.head _));obtain ⟨g, t, cs, fuel, p, hg, ht, hv, hd⟩ := Lib.laidMet.reads hL (n := "colander/class.lower") (d := Rows.laid_colander_class_lower) (.tail _ (.head _));obtain ⟨g', t', cs', fuel', p', hg', ht', hv', hd'⟩ := Lib.laidMet.reads hL (n := "colander/class.upper") (d := Rows.laid_colander_class_upper) (.tail _ (.tail _ (.head _)))
 have k0 : Tryz.prog.globalNamed "colander/class.lower" = some 0 := by kernel_rfl
 have k1 : Tryz.prog.globalNamed "colander/class.upper" = some 1 := by kernel_rfl
 obtain rfl := Option.some.inj (k0.symm.trans hg);obtain rfl := Option.some.inj (k1.symm.trans hg')
 obtain rfl := Option.some.inj ((show (Tryz.prog.globals[0]?).map (·.type) = some 164 by kernel_rfl).symm.trans ht)
 obtain rfl := Option.some.inj ((show (Tryz.prog.globals[1]?).map (·.type) = some 164 by kernel_rfl).symm.trans ht')
 have e0 := Åd (a := 97) (b := 122) hd;have e1 := Åd (a := 65) (b := 90) hd';have c0 := Áa k0 hv 0;have c1 := Áa k0 hv 1;have d0 := Áa k1 hv' 0;have d1 := Áa k1 hv' 1;rw [e0] at c0 c1;rw [e1] at d0 d1
 exact ⟨⟨block_lt_of_cell (h.2 0 (by omega)).1, h⟩, block_lt_of_cell d0, c0, c1, d0, d1⟩
end
end Go.Proofs.YtpginkdkblmnbaaGreatDoor
