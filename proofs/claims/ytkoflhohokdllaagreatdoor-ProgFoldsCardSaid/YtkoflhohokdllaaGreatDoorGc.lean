/- The writer: back; a plain instruction. -/
import Derived.Test.YtkoflhohokdllaaGreatDoorGb
namespace Go.Proofs.YtkoflhohokdllaaGreatDoor
open Go.RowKit
open Go.Proofs.YtkoflhohokdllaaGreatDoor.Cl (Rg SetV SetAt rgCells info_three)
variable {w w' a0 : World} {n₀ wb lp : Nat} {fo : Bool} {M : List In}

theorem put_i (op a b c d : Int) (h : Wr n₀ wb fo w M lp) (hl : M.length + 1 ≤ 100000) :
    Calls Tryz.prog 59 #[.pointer (some ⟨wb, 0, none⟩), .agg #[.int .i64 op, .int .i64 a, .int .i64 b, .int .i64 c, .int .i64 d, .slice none 0 0]] w (PutP n₀ wb fo w M lp (.i op a b c d)) :=
  put_any (.i op a b c d) (World.ownsRow_nil _ _ _ _) h hl
set_option maxRecDepth 100000 in
set_option maxHeartbeats 2000000 in
theorem back_any (r : Int) (h : Wr n₀ wb fo w M lp) (hl : M.length + 1 ≤ 100000) :
    Calls Tryz.prog 79 #[.pointer (some ⟨wb, 0, none⟩), .int .i64 r] w (WrP n₀ wb fo w (M ++ [backI fo r]) lp) := by
  have HB0 := Lib.hid (Blk.new w 51 #[.int .i64 5, .int .i64 r, .int .i64 0, .int .i64 0, .int .i64 0, .slice none 0 0])
  have HL0 := Lib.hid ((Below.refl w.heap.size w).alloc (Nat.le_refl _) (.cells #[.int .i64 5, .int .i64 r, .int .i64 0, .int .i64 0, .int .i64 0, .slice none 0 0] 51))
  have HW := Lib.hid h
  clear h
  go_enter Tryz.func79, Tryz.ntmps79
  go_upto_region 1 with (fail)
  generalize w.alloc _ = W at HB0 HL0 ⊢
  have HW0 := Lib.hid (HW.out.on HL0.out)
  have HF0 := Lib.hid (FrW.of_below (n₀ := n₀) (wb := wb) HL0.out)
  obtain ⟨cv, hblk⟩ := HW0.out.blk
  have c2 := hblk.cell 2
  simp at c2
  have b6 := HB0.out.c6_
  have f2 := HB0.out.frozen 2
  cases fo with
  | true =>
    have HB1 := Lib.hid (HB0.out.set_ 2 (.int .i64 1))
    have HL1 := Lib.hid (HL0.out.setCell (show w.heap.size ≤ (⟨w.heap.size, 2, none⟩ : Addr).block from Nat.le_refl _) (.int .i64 1))
    go_upto_region 3 with (fail)
    generalize W.setCell _ _ = W1 at HB1 HL1 ⊢
    have HW1 := Lib.hid (HW.out.on HL1.out)
    have HF1 := Lib.hid (FrW.of_below (n₀ := n₀) (wb := wb) HL1.out)
    have HP := Lib.hid (put_i 5 r 1 0 0 HW1.out hl)
    have b61 := (show Blk W1 w.heap.size 51 #[.int .i64 5, .int .i64 r, .int .i64 1, .int .i64 0, .int .i64 0, .slice none 0 0] from HB1.out).c6_
    clear b6 f2 c2 hblk
    go_wp2_with fail
    refine HP.out.mono ?_
    rintro e w2 ⟨rfl, hW2, hF2⟩
    have HW2 := Lib.hid hW2
    have HF2 := Lib.hid (HF1.out.trans hF2)
    clear hW2 hF2
    go_wp2
    exact ⟨rfl, .tuple #[], by simp [results, Tryz.results79, go_sem], rfl, HW2.out, HF2.out⟩
  | false =>
    have HP := Lib.hid (put_i 5 r 0 0 0 HW0.out hl)
    go_wp2_with fail
    refine HP.out.mono ?_
    rintro e w2 ⟨rfl, hW2, hF2⟩
    have HW2 := Lib.hid hW2
    have HF2 := Lib.hid (HF0.out.trans hF2)
    clear hW2 hF2
    go_wp2
    exact ⟨rfl, .tuple #[], by simp [results, Tryz.results79, go_sem], rfl, HW2.out, HF2.out⟩

end Go.Proofs.YtkoflhohokdllaaGreatDoor
