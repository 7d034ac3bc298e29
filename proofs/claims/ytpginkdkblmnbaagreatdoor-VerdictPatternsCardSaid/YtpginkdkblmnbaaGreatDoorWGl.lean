import Derived.Test.YtpginkdkblmnbaaGreatDoorWMGf
import Derived.Test.YtpginkdkblmnbaaGreatDoorWClFoldO
namespace Go.Proofs.YtpginkdkblmnbaaGreatDoor
section
open Go.RowKit
open Go.Proofs.YtpginkdkblmnbaaGreatDoor.Cl (Rg à Ý Ä Á info46 í Æc ÂC ö)
variable {w w' w0 : World} {n₀ wb lp lp' base : Nat} {fo : Bool} {M : List In} {G : Int}
def Îm (n₀ : Nat) (w : World) (l : List Rg) (e : Ending) (w' : World) : Prop := ∃ A c, e = .returned (.slice A l.length c) ∧ Är w' n₀ (.slice A l.length c) l ∧ Below w.heap.size w w'
theorem Æd {v : Value} {l : List Rg} (h : Är w n₀ v l) : ∃ A c, v = .slice A l.length c := by
 rcases h.2 with ⟨hv, hn⟩ | ⟨g, c, cur, hv, _⟩
 ·exact ⟨none, 0, by rw [hv, hn]⟩
 ·exact ⟨_, c, hv⟩
set_option maxRecDepth 100000 in
set_option maxHeartbeats 1000000 in
theorem ÌI {set : List Rg} {A : Option Addr} {p : Nat} (hs : Ns set) (hE : Àq n₀ w) (hS : à n₀ w (.slice A set.length p) set) (hW : Wr n₀ wb fo w M lp) :
 Calls Tryz.prog 68 #[.pointer (some ⟨wb, 0, none⟩), .slice A set.length p] w (Îm n₀ w (ÄL fo set).set) := by
 obtain ⟨cv, hblk⟩ := hW.blk;have hlow := hW.low;have c2 := hblk.cell 2;simp at c2;have hl := hs.2
 have HS := ħ (hS.more (show n₀ ≤ w.heap.size by omega))
 obtain ⟨i0, hi, hz0, hz1, hz2⟩ := Á info46
 cases fo with
 | false =>
  have hO : Cl.Own w w.heap.size 164 (.slice none 0 0) [] := Cl.Own.nil _ _ _;have HO := ħ hO
  show Calls Tryz.prog 68 #[.pointer (some ⟨wb, 0, none⟩), .slice A set.length p] w (Îm n₀ w set)
  clear hE hS hW hblk hO hs;go_enter Tryz.func68, Tryz.ntmps68
  go_wp2_with (at_builtin; refine í _ rfl _ _ 24 rfl w.heap.size 164 i0 (.agg #[.int .i64 0, .int .i64 0]) 16 Tryz.underlying24 hi hz0 hz1 hz2 rfl _ _ rfl HO.o w.heap.size _ set rfl HS.o (by unfold maxLen; simp; omega) (by simp; omega) (by simp) ?_; intro v' w1 hown' hgrow)
  have hb1 := ö (ā w.heap.size w) HO.o (ŋ _) hgrow (ŋ _)
  have hown : Är w1 n₀ v' set := World.ownsRow.mono hown' (by omega)
  obtain ⟨A', c', hv⟩ := Æd hown;rw [hv] at hown ⊢;clear hown';go_wp2;go_ret;exact ⟨A', c', rfl, hown, hb1⟩
 | true =>
  have HF := ħ (Æc _ set w (by omega) (hE.lu.more (by omega)) HS.o hs.1)
  show Calls Tryz.prog 68 #[.pointer (some ⟨wb, 0, none⟩), .slice A set.length p] w (Îm n₀ w (ÍO set))
  clear hE hS hW hblk hs;go_enter Tryz.func68, Tryz.ntmps68
  go_wp2_with fail
  refine HF.o.mono ?_;rintro e w1 ⟨v, rfl, hown', hb1⟩
  have hown : Är w1 n₀ v (ÍO set) := World.ownsRow.mono hown' (by omega)
  obtain ⟨A', c', rfl⟩ := Æd hown;clear hown';go_wp2;go_ret;exact ⟨A', c', rfl, hown, hb1⟩
end
end Go.Proofs.YtpginkdkblmnbaaGreatDoor
