/- The writer: within. -/
import Derived.Test.YtkoflhohokdllaaGreatDoorGc
namespace Go.Proofs.YtkoflhohokdllaaGreatDoor
open Go.RowKit
open Go.Proofs.YtkoflhohokdllaaGreatDoor.Cl (Rg SetV SetAt rgCells info_three)
variable {w w' a0 : World} {n₀ wb lp lp' : Nat} {fo : Bool} {M : List In}

theorem set_mid (M Y : List In) (x y d : In) : (M ++ [x] ++ Y ++ [d]).set M.length y = M ++ [y] ++ Y ++ [d] := by
  rw [List.append_assoc, List.append_assoc, List.set_append_right _ _ (Nat.le_refl _), Nat.sub_self]
  simp

set_option maxRecDepth 100000 in
set_option maxHeartbeats 2000000 in
theorem within_any {f : Nat} (hf : f = 82 ∨ f = 94 ∨ f = 96) {p1 p2 : Value} (op a b c d : Int) (Y : List In) (h : Wr n₀ wb fo w M lp) (hl : M.length + Y.length + 2 ≤ 100000)
    (hc : ∀ W, Wr n₀ wb fo W (M ++ [.i op a b c d]) lp → FrW n₀ wb w W → Calls Tryz.prog f #[p1, p2] W (WrP n₀ wb fo W (M ++ [.i op a b c d] ++ Y) lp')) :
    Calls Tryz.prog 81 #[.pointer (some ⟨wb, 0, none⟩), .agg #[.int .i64 op, .int .i64 a, .int .i64 b, .int .i64 c, .int .i64 d, .slice none 0 0], .func (.func f) #[] #[p1, p2]] w
      (WrP n₀ wb fo w (M ++ [.i op a ((M.length : Nat) + (Y.length : Nat) + 2) c d] ++ Y ++ [doneI]) lp') := by
  have HC := Lib.hid hc
  have HB0 := Lib.hid (Blk.new w 51 #[.int .i64 op, .int .i64 a, .int .i64 b, .int .i64 c, .int .i64 d, .slice none 0 0])
  have HL0 := Lib.hid ((Below.refl w.heap.size w).alloc (Nat.le_refl _) (.cells #[.int .i64 op, .int .i64 a, .int .i64 b, .int .i64 c, .int .i64 d, .slice none 0 0] 51))
  have HW := Lib.hid h
  clear h hc
  obtain ⟨Z, hZ⟩ : ∃ Z, Z = M ++ [.i op a ((M.length : Nat) + (Y.length : Nat) + 2) c d] ++ Y ++ [doneI] := ⟨_, rfl⟩
  rw [← hZ]
  have HZ := Lib.hid hZ
  clear hZ
  rcases hf with rfl | rfl | rfl
  all_goals
    go_enter Tryz.func81, Tryz.ntmps81
    go_upto_region 1 with (fail)
    generalize w.alloc _ = W at HB0 HL0 ⊢
    have HW0 := Lib.hid (HW.out.on HL0.out)
    have HF0 := Lib.hid (FrW.of_below (n₀ := n₀) (wb := wb) HL0.out)
    have b6 := HB0.out.c6_
    have HP := Lib.hid (put_i op a b c d HW0.out (by omega))
    go_wp2_with fail
    refine HP.out.mono ?_
    rintro e w2 ⟨rfl, hW2, hF2⟩
    have HW2 := Lib.hid hW2
    have HF2 := Lib.hid (HF0.out.trans hF2)
    clear hW2 hF2 b6
    go_wp2_with fail
    refine (HC.out _ HW2.out HF2.out).mono ?_
    rintro e w3 ⟨rfl, hW3, hF3⟩
    have HW3 := Lib.hid hW3
    have HF3 := Lib.hid (HF2.out.trans hF3)
    clear hW3 hF3
    have HP9 := Lib.hid (put_i 9 0 0 0 0 HW3.out (by simp; omega))
    go_wp2_with fail
    refine HP9.out.mono ?_
    rintro e w4 ⟨rfl, hW4, hF4⟩
    have HH : Hid (Calls Tryz.prog 74 #[.pointer (some ⟨wb, 0, none⟩)] w4.drew fun e w' => e = .returned (.int .i64 ((M.length : Nat) + (Y.length : Nat) + 2)) ∧ w4.drew = w') := Lib.hid (by
      have := here_any hW4.drew
      have e : (((M ++ [.i op a b c d] ++ Y ++ [.i 9 0 0 0 0] : List In).length : Nat) : Int) = (M.length : Nat) + (Y.length : Nat) + 2 := by simp; omega
      rw [e] at this
      exact this)
    obtain ⟨cv, L, hWc, hL⟩ := hW4
    have HF4 := Lib.hid (HF3.out.trans hF4)
    clear hF4
    have hx : (L.map (·.1))[M.length]? = some (.i op a b c d) := by rw [hL]; simp
    rw [List.getElem?_map] at hx
    obtain ⟨⟨y, v⟩, hx', hy⟩ := Option.map_eq_some_iff.1 hx
    clear hx
    simp only at hy
    subst hy
    obtain ⟨g, cp, rfl, hcp, hgs, hcell, hfz⟩ := hWc.at_ hx'
    have k2 := hcell 2 _ rfl
    have f2 := hfz (M.length * 6 + 2)
    obtain ⟨c0, _, _⟩ := hWc.c3
    have hLl : L.length = M.length + Y.length + 2 := by
      have := congrArg List.length hL
      simp at this
      omega
    have hsi : (M.length : Int) < (L.length : Int) := by omega
    have HT := Lib.hid (hWc.turn (y := .i op a ((M.length : Nat) + (Y.length : Nat) + 2) c d) hx' (j := 2) (u := .int .i64 ((M.length : Nat) + (Y.length : Nat) + 2)) (by omega) rfl rfl)
    have HL := Lib.hid hL
    clear hWc hx' hcell hfz hL
    go_wp2_with fail
    go_region_with (go_at_call 74; refine HH.out.mono ?_; rintro e w1 ⟨rfl, rfl⟩)
    all_goals
      generalize w4.setCell _ _ = w9 at HT ⊢
      exact ⟨rfl, .tuple #[], by simp [results, Tryz.results81, go_sem], rfl, ⟨_, _, HT.out.1.drew, by rw [map_set_fst, HL.out, HZ.out]; exact set_mid _ _ _ _ _⟩, (HF4.out.trans HT.out.2).drew⟩

end Go.Proofs.YtkoflhohokdllaaGreatDoor
