/- The writer: units; nodes. -/
import Derived.Test.YtdbddbelhgkelaaGreatDoorZMGf
import Derived.Test.YtdbddbelhgkelaaGreatDoorZClFoldO
namespace Go.Proofs.YtdbddbelhgkelaaGreatDoor
open Go.RowKit
open Go.Proofs.YtdbddbelhgkelaaGreatDoor.Cl (Rg SetV SetAt rgCells info_three info46 wpList_append_set fold_right GivesO below_append)
variable {w w' w0 : World} {n₀ wb lp lp' base : Nat} {fo : Bool} {M : List In} {G : Int}

/-- A set as the program has it. -/
def UnitP (n₀ : Nat) (w : World) (l : List Rg) (e : Ending) (w' : World) : Prop := ∃ A c, e = .returned (.slice A l.length c) ∧ OwnS w' n₀ (.slice A l.length c) l ∧ Below w.heap.size w w'
theorem own_form {v : Value} {l : List Rg} (h : OwnS w n₀ v l) : ∃ A c, v = .slice A l.length c := by
  rcases h.2 with ⟨hv, hn⟩ | ⟨g, c, cur, hv, _⟩
  · exact ⟨none, 0, by rw [hv, hn]⟩
  · exact ⟨_, c, hv⟩

set_option maxRecDepth 100000 in
set_option maxHeartbeats 1000000 in
theorem units_any {set : List Rg} {A : Option Addr} {p : Nat} (hs : Ns set) (hE : Env5 n₀ w) (hS : SetV n₀ w (.slice A set.length p) set) (hW : Wr n₀ wb fo w M lp) :
    Calls Tryz.prog 85 #[.pointer (some ⟨wb, 0, none⟩), .slice A set.length p] w (UnitP n₀ w (unitI fo set).set) := by
  obtain ⟨cv, hblk⟩ := hW.blk
  have hlow := hW.low
  have c2 := hblk.cell 2
  simp at c2
  have hl := hs.2
  have HS := Lib.hid (hS.more (show n₀ ≤ w.heap.size by omega))
  obtain ⟨i0, hi, hz0, hz1, hz2⟩ := info_three info46
  cases fo with
  | false =>
    have hO : Cl.Own w w.heap.size 155 (.slice none 0 0) [] := Cl.Own.nil _ _ _
    have HO := Lib.hid hO
    show Calls Tryz.prog 85 #[.pointer (some ⟨wb, 0, none⟩), .slice A set.length p] w (UnitP n₀ w set)
    clear hE hS hW hblk hO hs
    go_enter Tryz.func85, Tryz.ntmps85
    go_wp2_with (at_builtin; refine wpList_append_set _ rfl _ _ 24 rfl w.heap.size 155 i0 (.agg #[.int .i64 0, .int .i64 0]) 16 Tryz.underlying24 hi hz0 hz1 hz2 rfl _ _ rfl HO.out w.heap.size _ set rfl HS.out (by unfold maxLen; simp; omega) (by simp; omega) (by simp) ?_; intro v' w1 hown' hgrow)
    have hb1 := below_append (Below.refl w.heap.size w) HO.out (Nat.le_refl _) hgrow (Nat.le_refl _)
    have hown : OwnS w1 n₀ v' set := World.ownsRow.mono hown' (by omega)
    obtain ⟨A', c', hv⟩ := own_form hown
    rw [hv] at hown ⊢
    clear hown'
    go_wp2
    go_ret
    exact ⟨A', c', rfl, hown, hb1⟩
  | true =>
    have HF := Lib.hid (fold_right _ set w (by omega) (hE.lu.more (by omega)) HS.out hs.1)
    show Calls Tryz.prog 85 #[.pointer (some ⟨wb, 0, none⟩), .slice A set.length p] w (UnitP n₀ w (foldS set))
    clear hE hS hW hblk hs
    go_enter Tryz.func85, Tryz.ntmps85
    go_wp2_with fail
    refine HF.out.mono ?_
    rintro e w1 ⟨v, rfl, hown', hb1⟩
    have hown : OwnS w1 n₀ v (foldS set) := World.ownsRow.mono hown' (by omega)
    obtain ⟨A', c', rfl⟩ := own_form hown
    clear hown'
    go_wp2
    go_ret
    exact ⟨A', c', rfl, hown, hb1⟩

end Go.Proofs.YtdbddbelhgkelaaGreatDoor
