/- Layer 13: the records of a state's numbers. (Written by genLdK.py.) -/
import Derived.Test.YtefgobmpleoafaaGreatLdI
namespace Go.Proofs.YtefgobmpleoafaaGreat
open Go.RowKit
variable {w w' : World}

theorem RecsO.neS {base : Nat} {v : Value} {l : List Rc} (h : RecsO base w v l) {g : Nat} {cs : Array Value} (hg : Blk w g 41 cs) : v.ownBlock ≠ some g := by
  obtain ⟨L, _, h, _⟩ := h
  exact own_ne h hg (by decide)
set_option maxRecDepth 100000 in
set_option maxHeartbeats 16000000 in
theorem numberRecords_any (avi ano aco aac bvi bno bco bac : Int) (A B : Option Addr) (n c m d : Nat) (la lb : List En) (w : World) :
    Calls Tryz.prog 44 #[.agg #[.int .i64 avi, .int .i64 ano, .int .i64 aco, .int .i64 aac, .slice A n c], .agg #[.int .i64 bvi, .int .i64 bno, .int .i64 bco, .int .i64 bac, .slice B m d]] w fun e w' => ∃ A' c', e = .returned (.slice A' (numR13 ⟨avi, ano, aco, aac, la⟩ ⟨bvi, bno, bco, bac, lb⟩).length c') ∧ RecsO w.heap.size w' (.slice A' (numR13 ⟨avi, ano, aco, aac, la⟩ ⟨bvi, bno, bco, bac, lb⟩).length c') (numR13 ⟨avi, ano, aco, aac, la⟩ ⟨bvi, bno, bco, bac, lb⟩) ∧ Below w.heap.size w w' := by
  obtain ⟨q, hq⟩ : ∃ q, q = numR13 ⟨avi, ano, aco, aac, la⟩ ⟨bvi, bno, bco, bac, lb⟩ := ⟨_, rfl⟩
  rw [← hq]
  unfold numR13 at hq
  simp only at hq
  by_cases hv1 : avi = bvi
  · by_cases hv2 : ano = bno
    · skip
      by_cases hco : aco = bco
      · skip
        by_cases hac : aac = bac
        · skip
          obtain rfl := hv1
          obtain rfl := hv2
          obtain rfl := hco
          obtain rfl := hac
          have hqq : q = [] := by rw [hq, if_neg (by simp), if_neg (by simp), if_neg (by simp)]; rfl
          clear hq
          subst hqq
          go_enter Tryz.func44, Tryz.ntmps44
          go_upto_region 1 with (fail)
          have b0 : Below w.heap.size w _ := ((Below.refl w.heap.size w).alloc (Nat.le_refl _) (.cells #[.int .i64 avi, .int .i64 ano, .int .i64 aco, .int .i64 aac, .slice A n c] 41)).alloc (by simp) (.cells #[.int .i64 avi, .int .i64 ano, .int .i64 aco, .int .i64 aac, .slice B m d] 41)
          have HA : Hid (Blk ((w.alloc (.cells #[.int .i64 avi, .int .i64 ano, .int .i64 aco, .int .i64 aac, .slice A n c] 41)).alloc (.cells #[.int .i64 avi, .int .i64 ano, .int .i64 aco, .int .i64 aac, .slice B m d] 41)) w.heap.size 41 #[.int .i64 avi, .int .i64 ano, .int .i64 aco, .int .i64 aac, .slice A n c]) := Lib.hid ((Blk.new _ _ _).alloc _)
          have HB : Hid (Blk ((w.alloc (.cells #[.int .i64 avi, .int .i64 ano, .int .i64 aco, .int .i64 aac, .slice A n c] 41)).alloc (.cells #[.int .i64 avi, .int .i64 ano, .int .i64 aco, .int .i64 aac, .slice B m d] 41)) (w.heap.size + 1) 41 #[.int .i64 avi, .int .i64 ano, .int .i64 aco, .int .i64 aac, .slice B m d]) := Lib.hid (Blk.at_new _ _ (by simp) _ _)
          generalize (w.alloc _).alloc _ = w0 at *
          have B0 := Lib.hid b0
          clear b0
          have a0 := HA.out.cell 0
          have a1 := HA.out.cell 1
          have a2 := HA.out.cell 2
          have a3 := HA.out.cell 3
          have b0 := HB.out.cell 0
          have b1 := HB.out.cell 1
          have b2 := HB.out.cell 2
          have b3 := HB.out.cell 3
          have la0 := HA.out.lt
          have lb0 := HB.out.lt
          go_wp2
          go_ret
          exact ⟨none, 0, rfl, RecsO.nil _ _, B0.out⟩
        · skip
          obtain rfl := hv1
          obtain rfl := hv2
          obtain rfl := hco
          have shac := fun e => hac (Eq.symm e)
          have hqq : q = [(⟨5, bac, 0, []⟩ : Rc)] := by rw [hq, if_neg (by simp), if_neg (by simp), if_pos shac]; rfl
          clear hq
          subst hqq
          go_enter Tryz.func44, Tryz.ntmps44
          go_upto_region 1 with (fail)
          have b0 : Below w.heap.size w _ := ((Below.refl w.heap.size w).alloc (Nat.le_refl _) (.cells #[.int .i64 avi, .int .i64 ano, .int .i64 aco, .int .i64 aac, .slice A n c] 41)).alloc (by simp) (.cells #[.int .i64 avi, .int .i64 ano, .int .i64 aco, .int .i64 bac, .slice B m d] 41)
          have HA : Hid (Blk ((w.alloc (.cells #[.int .i64 avi, .int .i64 ano, .int .i64 aco, .int .i64 aac, .slice A n c] 41)).alloc (.cells #[.int .i64 avi, .int .i64 ano, .int .i64 aco, .int .i64 bac, .slice B m d] 41)) w.heap.size 41 #[.int .i64 avi, .int .i64 ano, .int .i64 aco, .int .i64 aac, .slice A n c]) := Lib.hid ((Blk.new _ _ _).alloc _)
          have HB : Hid (Blk ((w.alloc (.cells #[.int .i64 avi, .int .i64 ano, .int .i64 aco, .int .i64 aac, .slice A n c] 41)).alloc (.cells #[.int .i64 avi, .int .i64 ano, .int .i64 aco, .int .i64 bac, .slice B m d] 41)) (w.heap.size + 1) 41 #[.int .i64 avi, .int .i64 ano, .int .i64 aco, .int .i64 bac, .slice B m d]) := Lib.hid (Blk.at_new _ _ (by simp) _ _)
          generalize (w.alloc _).alloc _ = w0 at *
          have B0 := Lib.hid b0
          clear b0
          have a0 := HA.out.cell 0
          have a1 := HA.out.cell 1
          have a2 := HA.out.cell 2
          have a3 := HA.out.cell 3
          have b0 := HB.out.cell 0
          have b1 := HB.out.cell 1
          have b2 := HB.out.cell 2
          have b3 := HB.out.cell 3
          have la0 := HA.out.lt
          have lb0 := HB.out.lt
          go_wp2_with (first
            | (at_builtin
               refine wpList_append_rec _ rfl (.tmp 42) (.tmp 46) rfl w.heap.size (.slice none 0 0) [] rfl (RecsO.nil _ _) _ 1 ⟨5, bac, 0, []⟩ none 0 rfl (Blk.at_new _ _ rfl _ _) (OwnE.nil _ _ _ _) (by simp) (by have := B0.out.size; simp; omega) ?_
               intro v3 w3 o3 g3
               have B3 : Hid (Below w.heap.size w w3) := Lib.hid ((B0.out.alloc B0.out.size (.cells #[.int .i64 5, .int .i64 bac, .int .i64 0, .slice none 0 0] 82)).grown g3 (by have := B0.out.size; simp; omega) (fun j hj => by cases hj))
               have HA3 := Lib.hid (Blk.grown (HA.out.alloc (.cells #[.int .i64 5, .int .i64 bac, .int .i64 0, .slice none 0 0] 82)) g3 (by intro e; cases e))
               have HB3 := Lib.hid (Blk.grown (HB.out.alloc (.cells #[.int .i64 5, .int .i64 bac, .int .i64 0, .slice none 0 0] 82)) g3 (by intro e; cases e))
               obtain ⟨A3, c3, hv3⟩ := o3.len
               subst hv3
               have O3 : Hid (RecsO w.heap.size w3 (.slice A3 1 c3) [(⟨5, bac, 0, []⟩ : Rc)]) := Lib.hid o3
               clear o3 g3 a0 a1 a2 a3 b0 b1 b2 b3 la0 lb0
               have a0 := HA3.out.cell 0
               have a1 := HA3.out.cell 1
               have a2 := HA3.out.cell 2
               have a3 := HA3.out.cell 3
               have b0 := HB3.out.cell 0
               have b1 := HB3.out.cell 1
               have b2 := HB3.out.cell 2
               have b3 := HB3.out.cell 3
               have la0 := HA3.out.lt
               have lb0 := HB3.out.lt))
          go_ret
          exact ⟨A3, c3, rfl, O3.out, B3.out⟩
      · skip
        by_cases hac : aac = bac
        · skip
          obtain rfl := hv1
          obtain rfl := hv2
          obtain rfl := hac
          have shco := fun e => hco (Eq.symm e)
          have hqq : q = [(⟨4, bco, 0, []⟩ : Rc)] := by rw [hq, if_neg (by simp), if_pos shco, if_neg (by simp)]; rfl
          clear hq
          subst hqq
          go_enter Tryz.func44, Tryz.ntmps44
          go_upto_region 1 with (fail)
          have b0 : Below w.heap.size w _ := ((Below.refl w.heap.size w).alloc (Nat.le_refl _) (.cells #[.int .i64 avi, .int .i64 ano, .int .i64 aco, .int .i64 aac, .slice A n c] 41)).alloc (by simp) (.cells #[.int .i64 avi, .int .i64 ano, .int .i64 bco, .int .i64 aac, .slice B m d] 41)
          have HA : Hid (Blk ((w.alloc (.cells #[.int .i64 avi, .int .i64 ano, .int .i64 aco, .int .i64 aac, .slice A n c] 41)).alloc (.cells #[.int .i64 avi, .int .i64 ano, .int .i64 bco, .int .i64 aac, .slice B m d] 41)) w.heap.size 41 #[.int .i64 avi, .int .i64 ano, .int .i64 aco, .int .i64 aac, .slice A n c]) := Lib.hid ((Blk.new _ _ _).alloc _)
          have HB : Hid (Blk ((w.alloc (.cells #[.int .i64 avi, .int .i64 ano, .int .i64 aco, .int .i64 aac, .slice A n c] 41)).alloc (.cells #[.int .i64 avi, .int .i64 ano, .int .i64 bco, .int .i64 aac, .slice B m d] 41)) (w.heap.size + 1) 41 #[.int .i64 avi, .int .i64 ano, .int .i64 bco, .int .i64 aac, .slice B m d]) := Lib.hid (Blk.at_new _ _ (by simp) _ _)
          generalize (w.alloc _).alloc _ = w0 at *
          have B0 := Lib.hid b0
          clear b0
          have a0 := HA.out.cell 0
          have a1 := HA.out.cell 1
          have a2 := HA.out.cell 2
          have a3 := HA.out.cell 3
          have b0 := HB.out.cell 0
          have b1 := HB.out.cell 1
          have b2 := HB.out.cell 2
          have b3 := HB.out.cell 3
          have la0 := HA.out.lt
          have lb0 := HB.out.lt
          go_wp2_with (first
            | (at_builtin
               refine wpList_append_rec _ rfl (.tmp 31) (.tmp 35) rfl w.heap.size (.slice none 0 0) [] rfl (RecsO.nil _ _) _ 1 ⟨4, bco, 0, []⟩ none 0 rfl (Blk.at_new _ _ rfl _ _) (OwnE.nil _ _ _ _) (by simp) (by have := B0.out.size; simp; omega) ?_
               intro v3 w3 o3 g3
               have B3 : Hid (Below w.heap.size w w3) := Lib.hid ((B0.out.alloc B0.out.size (.cells #[.int .i64 4, .int .i64 bco, .int .i64 0, .slice none 0 0] 82)).grown g3 (by have := B0.out.size; simp; omega) (fun j hj => by cases hj))
               have HA3 := Lib.hid (Blk.grown (HA.out.alloc (.cells #[.int .i64 4, .int .i64 bco, .int .i64 0, .slice none 0 0] 82)) g3 (by intro e; cases e))
               have HB3 := Lib.hid (Blk.grown (HB.out.alloc (.cells #[.int .i64 4, .int .i64 bco, .int .i64 0, .slice none 0 0] 82)) g3 (by intro e; cases e))
               obtain ⟨A3, c3, hv3⟩ := o3.len
               subst hv3
               have O3 : Hid (RecsO w.heap.size w3 (.slice A3 1 c3) [(⟨4, bco, 0, []⟩ : Rc)]) := Lib.hid o3
               clear o3 g3 a0 a1 a2 a3 b0 b1 b2 b3 la0 lb0
               have a0 := HA3.out.cell 0
               have a1 := HA3.out.cell 1
               have a2 := HA3.out.cell 2
               have a3 := HA3.out.cell 3
               have b0 := HB3.out.cell 0
               have b1 := HB3.out.cell 1
               have b2 := HB3.out.cell 2
               have b3 := HB3.out.cell 3
               have la0 := HA3.out.lt
               have lb0 := HB3.out.lt))
          go_ret
          exact ⟨A3, c3, rfl, O3.out, B3.out⟩
        · skip
          obtain rfl := hv1
          obtain rfl := hv2
          have shco := fun e => hco (Eq.symm e)
          have shac := fun e => hac (Eq.symm e)
          have hqq : q = [(⟨4, bco, 0, []⟩ : Rc), (⟨5, bac, 0, []⟩ : Rc)] := by rw [hq, if_neg (by simp), if_pos shco, if_pos shac]; rfl
          clear hq
          subst hqq
          go_enter Tryz.func44, Tryz.ntmps44
          go_upto_region 1 with (fail)
          have b0 : Below w.heap.size w _ := ((Below.refl w.heap.size w).alloc (Nat.le_refl _) (.cells #[.int .i64 avi, .int .i64 ano, .int .i64 aco, .int .i64 aac, .slice A n c] 41)).alloc (by simp) (.cells #[.int .i64 avi, .int .i64 ano, .int .i64 bco, .int .i64 bac, .slice B m d] 41)
          have HA : Hid (Blk ((w.alloc (.cells #[.int .i64 avi, .int .i64 ano, .int .i64 aco, .int .i64 aac, .slice A n c] 41)).alloc (.cells #[.int .i64 avi, .int .i64 ano, .int .i64 bco, .int .i64 bac, .slice B m d] 41)) w.heap.size 41 #[.int .i64 avi, .int .i64 ano, .int .i64 aco, .int .i64 aac, .slice A n c]) := Lib.hid ((Blk.new _ _ _).alloc _)
          have HB : Hid (Blk ((w.alloc (.cells #[.int .i64 avi, .int .i64 ano, .int .i64 aco, .int .i64 aac, .slice A n c] 41)).alloc (.cells #[.int .i64 avi, .int .i64 ano, .int .i64 bco, .int .i64 bac, .slice B m d] 41)) (w.heap.size + 1) 41 #[.int .i64 avi, .int .i64 ano, .int .i64 bco, .int .i64 bac, .slice B m d]) := Lib.hid (Blk.at_new _ _ (by simp) _ _)
          generalize (w.alloc _).alloc _ = w0 at *
          have B0 := Lib.hid b0
          clear b0
          have a0 := HA.out.cell 0
          have a1 := HA.out.cell 1
          have a2 := HA.out.cell 2
          have a3 := HA.out.cell 3
          have b0 := HB.out.cell 0
          have b1 := HB.out.cell 1
          have b2 := HB.out.cell 2
          have b3 := HB.out.cell 3
          have la0 := HA.out.lt
          have lb0 := HB.out.lt
          go_wp2_with (first
            | (at_builtin
               refine wpList_append_rec _ rfl (.tmp 31) (.tmp 35) rfl w.heap.size (.slice none 0 0) [] rfl (RecsO.nil _ _) _ 1 ⟨4, bco, 0, []⟩ none 0 rfl (Blk.at_new _ _ rfl _ _) (OwnE.nil _ _ _ _) (by simp) (by have := B0.out.size; simp; omega) ?_
               intro v3 w3 o3 g3
               have B3 : Hid (Below w.heap.size w w3) := Lib.hid ((B0.out.alloc B0.out.size (.cells #[.int .i64 4, .int .i64 bco, .int .i64 0, .slice none 0 0] 82)).grown g3 (by have := B0.out.size; simp; omega) (fun j hj => by cases hj))
               have HA3 := Lib.hid (Blk.grown (HA.out.alloc (.cells #[.int .i64 4, .int .i64 bco, .int .i64 0, .slice none 0 0] 82)) g3 (by intro e; cases e))
               have HB3 := Lib.hid (Blk.grown (HB.out.alloc (.cells #[.int .i64 4, .int .i64 bco, .int .i64 0, .slice none 0 0] 82)) g3 (by intro e; cases e))
               obtain ⟨A3, c3, hv3⟩ := o3.len
               subst hv3
               have O3 : Hid (RecsO w.heap.size w3 (.slice A3 1 c3) [(⟨4, bco, 0, []⟩ : Rc)]) := Lib.hid o3
               clear o3 g3 a0 a1 a2 a3 b0 b1 b2 b3 la0 lb0
               have a0 := HA3.out.cell 0
               have a1 := HA3.out.cell 1
               have a2 := HA3.out.cell 2
               have a3 := HA3.out.cell 3
               have b0 := HB3.out.cell 0
               have b1 := HB3.out.cell 1
               have b2 := HB3.out.cell 2
               have b3 := HB3.out.cell 3
               have la0 := HA3.out.lt
               have lb0 := HB3.out.lt)
            | (at_builtin
               refine wpList_append_rec _ rfl (.tmp 42) (.tmp 46) rfl w.heap.size (.slice A3 1 c3) [(⟨4, bco, 0, []⟩ : Rc)] rfl (O3.out.alloc _) _ 1 ⟨5, bac, 0, []⟩ none 0 rfl (Blk.at_new _ _ rfl _ _) (OwnE.nil _ _ _ _) (by simp) (by have := B3.out.size; simp; omega) ?_
               intro v4 w4 o4 g4
               have B4 : Hid (Below w.heap.size w w4) := Lib.hid ((B3.out.alloc B3.out.size (.cells #[.int .i64 5, .int .i64 bac, .int .i64 0, .slice none 0 0] 82)).grown g4 (by have := B3.out.size; simp; omega) (fun j hj => (O3.out.lt j hj).1))
               have HA4 := Lib.hid (Blk.grown (HA3.out.alloc (.cells #[.int .i64 5, .int .i64 bac, .int .i64 0, .slice none 0 0] 82)) g4 (fun e => by have := RecsO.neS O3.out HA3.out; exact this e.symm))
               have HB4 := Lib.hid (Blk.grown (HB3.out.alloc (.cells #[.int .i64 5, .int .i64 bac, .int .i64 0, .slice none 0 0] 82)) g4 (fun e => by have := RecsO.neS O3.out HB3.out; exact this e.symm))
               obtain ⟨A4, c4, hv4⟩ := o4.len
               subst hv4
               have O4 : Hid (RecsO w.heap.size w4 (.slice A4 2 c4) [(⟨4, bco, 0, []⟩ : Rc), (⟨5, bac, 0, []⟩ : Rc)]) := Lib.hid o4
               clear o4 g4 a0 a1 a2 a3 b0 b1 b2 b3 la0 lb0
               have a0 := HA4.out.cell 0
               have a1 := HA4.out.cell 1
               have a2 := HA4.out.cell 2
               have a3 := HA4.out.cell 3
               have b0 := HB4.out.cell 0
               have b1 := HB4.out.cell 1
               have b2 := HB4.out.cell 2
               have b3 := HB4.out.cell 3
               have la0 := HA4.out.lt
               have lb0 := HB4.out.lt))
          go_ret
          exact ⟨A4, c4, rfl, O4.out, B4.out⟩
    · skip
      by_cases hco : aco = bco
      · skip
        by_cases hac : aac = bac
        · skip
          obtain rfl := hv1
          obtain rfl := hco
          obtain rfl := hac
          have shv2 := fun e => hv2 (Eq.symm e)
          have hqq : q = [(⟨1, avi, bno, []⟩ : Rc)] := by rw [hq, if_pos (Or.inr shv2), if_neg (by simp), if_neg (by simp)]; rfl
          clear hq
          subst hqq
          go_enter Tryz.func44, Tryz.ntmps44
          go_upto_region 1 with (fail)
          have b0 : Below w.heap.size w _ := ((Below.refl w.heap.size w).alloc (Nat.le_refl _) (.cells #[.int .i64 avi, .int .i64 ano, .int .i64 aco, .int .i64 aac, .slice A n c] 41)).alloc (by simp) (.cells #[.int .i64 avi, .int .i64 bno, .int .i64 aco, .int .i64 aac, .slice B m d] 41)
          have HA : Hid (Blk ((w.alloc (.cells #[.int .i64 avi, .int .i64 ano, .int .i64 aco, .int .i64 aac, .slice A n c] 41)).alloc (.cells #[.int .i64 avi, .int .i64 bno, .int .i64 aco, .int .i64 aac, .slice B m d] 41)) w.heap.size 41 #[.int .i64 avi, .int .i64 ano, .int .i64 aco, .int .i64 aac, .slice A n c]) := Lib.hid ((Blk.new _ _ _).alloc _)
          have HB : Hid (Blk ((w.alloc (.cells #[.int .i64 avi, .int .i64 ano, .int .i64 aco, .int .i64 aac, .slice A n c] 41)).alloc (.cells #[.int .i64 avi, .int .i64 bno, .int .i64 aco, .int .i64 aac, .slice B m d] 41)) (w.heap.size + 1) 41 #[.int .i64 avi, .int .i64 bno, .int .i64 aco, .int .i64 aac, .slice B m d]) := Lib.hid (Blk.at_new _ _ (by simp) _ _)
          generalize (w.alloc _).alloc _ = w0 at *
          have B0 := Lib.hid b0
          clear b0
          have a0 := HA.out.cell 0
          have a1 := HA.out.cell 1
          have a2 := HA.out.cell 2
          have a3 := HA.out.cell 3
          have b0 := HB.out.cell 0
          have b1 := HB.out.cell 1
          have b2 := HB.out.cell 2
          have b3 := HB.out.cell 3
          have la0 := HA.out.lt
          have lb0 := HB.out.lt
          go_wp2_with (first
            | (at_builtin
               refine wpList_append_rec _ rfl (.tmp 18) (.tmp 24) rfl w.heap.size (.slice none 0 0) [] rfl (RecsO.nil _ _) _ 1 ⟨1, avi, bno, []⟩ none 0 rfl (Blk.at_new _ _ rfl _ _) (OwnE.nil _ _ _ _) (by simp) (by have := B0.out.size; simp; omega) ?_
               intro v3 w3 o3 g3
               have B3 : Hid (Below w.heap.size w w3) := Lib.hid ((B0.out.alloc B0.out.size (.cells #[.int .i64 1, .int .i64 avi, .int .i64 bno, .slice none 0 0] 82)).grown g3 (by have := B0.out.size; simp; omega) (fun j hj => by cases hj))
               have HA3 := Lib.hid (Blk.grown (HA.out.alloc (.cells #[.int .i64 1, .int .i64 avi, .int .i64 bno, .slice none 0 0] 82)) g3 (by intro e; cases e))
               have HB3 := Lib.hid (Blk.grown (HB.out.alloc (.cells #[.int .i64 1, .int .i64 avi, .int .i64 bno, .slice none 0 0] 82)) g3 (by intro e; cases e))
               obtain ⟨A3, c3, hv3⟩ := o3.len
               subst hv3
               have O3 : Hid (RecsO w.heap.size w3 (.slice A3 1 c3) [(⟨1, avi, bno, []⟩ : Rc)]) := Lib.hid o3
               clear o3 g3 a0 a1 a2 a3 b0 b1 b2 b3 la0 lb0
               have a0 := HA3.out.cell 0
               have a1 := HA3.out.cell 1
               have a2 := HA3.out.cell 2
               have a3 := HA3.out.cell 3
               have b0 := HB3.out.cell 0
               have b1 := HB3.out.cell 1
               have b2 := HB3.out.cell 2
               have b3 := HB3.out.cell 3
               have la0 := HA3.out.lt
               have lb0 := HB3.out.lt))
          go_ret
          exact ⟨A3, c3, rfl, O3.out, B3.out⟩
        · skip
          obtain rfl := hv1
          obtain rfl := hco
          have shv2 := fun e => hv2 (Eq.symm e)
          have shac := fun e => hac (Eq.symm e)
          have hqq : q = [(⟨1, avi, bno, []⟩ : Rc), (⟨5, bac, 0, []⟩ : Rc)] := by rw [hq, if_pos (Or.inr shv2), if_neg (by simp), if_pos shac]; rfl
          clear hq
          subst hqq
          go_enter Tryz.func44, Tryz.ntmps44
          go_upto_region 1 with (fail)
          have b0 : Below w.heap.size w _ := ((Below.refl w.heap.size w).alloc (Nat.le_refl _) (.cells #[.int .i64 avi, .int .i64 ano, .int .i64 aco, .int .i64 aac, .slice A n c] 41)).alloc (by simp) (.cells #[.int .i64 avi, .int .i64 bno, .int .i64 aco, .int .i64 bac, .slice B m d] 41)
          have HA : Hid (Blk ((w.alloc (.cells #[.int .i64 avi, .int .i64 ano, .int .i64 aco, .int .i64 aac, .slice A n c] 41)).alloc (.cells #[.int .i64 avi, .int .i64 bno, .int .i64 aco, .int .i64 bac, .slice B m d] 41)) w.heap.size 41 #[.int .i64 avi, .int .i64 ano, .int .i64 aco, .int .i64 aac, .slice A n c]) := Lib.hid ((Blk.new _ _ _).alloc _)
          have HB : Hid (Blk ((w.alloc (.cells #[.int .i64 avi, .int .i64 ano, .int .i64 aco, .int .i64 aac, .slice A n c] 41)).alloc (.cells #[.int .i64 avi, .int .i64 bno, .int .i64 aco, .int .i64 bac, .slice B m d] 41)) (w.heap.size + 1) 41 #[.int .i64 avi, .int .i64 bno, .int .i64 aco, .int .i64 bac, .slice B m d]) := Lib.hid (Blk.at_new _ _ (by simp) _ _)
          generalize (w.alloc _).alloc _ = w0 at *
          have B0 := Lib.hid b0
          clear b0
          have a0 := HA.out.cell 0
          have a1 := HA.out.cell 1
          have a2 := HA.out.cell 2
          have a3 := HA.out.cell 3
          have b0 := HB.out.cell 0
          have b1 := HB.out.cell 1
          have b2 := HB.out.cell 2
          have b3 := HB.out.cell 3
          have la0 := HA.out.lt
          have lb0 := HB.out.lt
          go_wp2_with (first
            | (at_builtin
               refine wpList_append_rec _ rfl (.tmp 18) (.tmp 24) rfl w.heap.size (.slice none 0 0) [] rfl (RecsO.nil _ _) _ 1 ⟨1, avi, bno, []⟩ none 0 rfl (Blk.at_new _ _ rfl _ _) (OwnE.nil _ _ _ _) (by simp) (by have := B0.out.size; simp; omega) ?_
               intro v3 w3 o3 g3
               have B3 : Hid (Below w.heap.size w w3) := Lib.hid ((B0.out.alloc B0.out.size (.cells #[.int .i64 1, .int .i64 avi, .int .i64 bno, .slice none 0 0] 82)).grown g3 (by have := B0.out.size; simp; omega) (fun j hj => by cases hj))
               have HA3 := Lib.hid (Blk.grown (HA.out.alloc (.cells #[.int .i64 1, .int .i64 avi, .int .i64 bno, .slice none 0 0] 82)) g3 (by intro e; cases e))
               have HB3 := Lib.hid (Blk.grown (HB.out.alloc (.cells #[.int .i64 1, .int .i64 avi, .int .i64 bno, .slice none 0 0] 82)) g3 (by intro e; cases e))
               obtain ⟨A3, c3, hv3⟩ := o3.len
               subst hv3
               have O3 : Hid (RecsO w.heap.size w3 (.slice A3 1 c3) [(⟨1, avi, bno, []⟩ : Rc)]) := Lib.hid o3
               clear o3 g3 a0 a1 a2 a3 b0 b1 b2 b3 la0 lb0
               have a0 := HA3.out.cell 0
               have a1 := HA3.out.cell 1
               have a2 := HA3.out.cell 2
               have a3 := HA3.out.cell 3
               have b0 := HB3.out.cell 0
               have b1 := HB3.out.cell 1
               have b2 := HB3.out.cell 2
               have b3 := HB3.out.cell 3
               have la0 := HA3.out.lt
               have lb0 := HB3.out.lt)
            | (at_builtin
               refine wpList_append_rec _ rfl (.tmp 42) (.tmp 46) rfl w.heap.size (.slice A3 1 c3) [(⟨1, avi, bno, []⟩ : Rc)] rfl (O3.out.alloc _) _ 1 ⟨5, bac, 0, []⟩ none 0 rfl (Blk.at_new _ _ rfl _ _) (OwnE.nil _ _ _ _) (by simp) (by have := B3.out.size; simp; omega) ?_
               intro v4 w4 o4 g4
               have B4 : Hid (Below w.heap.size w w4) := Lib.hid ((B3.out.alloc B3.out.size (.cells #[.int .i64 5, .int .i64 bac, .int .i64 0, .slice none 0 0] 82)).grown g4 (by have := B3.out.size; simp; omega) (fun j hj => (O3.out.lt j hj).1))
               have HA4 := Lib.hid (Blk.grown (HA3.out.alloc (.cells #[.int .i64 5, .int .i64 bac, .int .i64 0, .slice none 0 0] 82)) g4 (fun e => by have := RecsO.neS O3.out HA3.out; exact this e.symm))
               have HB4 := Lib.hid (Blk.grown (HB3.out.alloc (.cells #[.int .i64 5, .int .i64 bac, .int .i64 0, .slice none 0 0] 82)) g4 (fun e => by have := RecsO.neS O3.out HB3.out; exact this e.symm))
               obtain ⟨A4, c4, hv4⟩ := o4.len
               subst hv4
               have O4 : Hid (RecsO w.heap.size w4 (.slice A4 2 c4) [(⟨1, avi, bno, []⟩ : Rc), (⟨5, bac, 0, []⟩ : Rc)]) := Lib.hid o4
               clear o4 g4 a0 a1 a2 a3 b0 b1 b2 b3 la0 lb0
               have a0 := HA4.out.cell 0
               have a1 := HA4.out.cell 1
               have a2 := HA4.out.cell 2
               have a3 := HA4.out.cell 3
               have b0 := HB4.out.cell 0
               have b1 := HB4.out.cell 1
               have b2 := HB4.out.cell 2
               have b3 := HB4.out.cell 3
               have la0 := HA4.out.lt
               have lb0 := HB4.out.lt))
          go_ret
          exact ⟨A4, c4, rfl, O4.out, B4.out⟩
      · skip
        by_cases hac : aac = bac
        · skip
          obtain rfl := hv1
          obtain rfl := hac
          have shv2 := fun e => hv2 (Eq.symm e)
          have shco := fun e => hco (Eq.symm e)
          have hqq : q = [(⟨1, avi, bno, []⟩ : Rc), (⟨4, bco, 0, []⟩ : Rc)] := by rw [hq, if_pos (Or.inr shv2), if_pos shco, if_neg (by simp)]; rfl
          clear hq
          subst hqq
          go_enter Tryz.func44, Tryz.ntmps44
          go_upto_region 1 with (fail)
          have b0 : Below w.heap.size w _ := ((Below.refl w.heap.size w).alloc (Nat.le_refl _) (.cells #[.int .i64 avi, .int .i64 ano, .int .i64 aco, .int .i64 aac, .slice A n c] 41)).alloc (by simp) (.cells #[.int .i64 avi, .int .i64 bno, .int .i64 bco, .int .i64 aac, .slice B m d] 41)
          have HA : Hid (Blk ((w.alloc (.cells #[.int .i64 avi, .int .i64 ano, .int .i64 aco, .int .i64 aac, .slice A n c] 41)).alloc (.cells #[.int .i64 avi, .int .i64 bno, .int .i64 bco, .int .i64 aac, .slice B m d] 41)) w.heap.size 41 #[.int .i64 avi, .int .i64 ano, .int .i64 aco, .int .i64 aac, .slice A n c]) := Lib.hid ((Blk.new _ _ _).alloc _)
          have HB : Hid (Blk ((w.alloc (.cells #[.int .i64 avi, .int .i64 ano, .int .i64 aco, .int .i64 aac, .slice A n c] 41)).alloc (.cells #[.int .i64 avi, .int .i64 bno, .int .i64 bco, .int .i64 aac, .slice B m d] 41)) (w.heap.size + 1) 41 #[.int .i64 avi, .int .i64 bno, .int .i64 bco, .int .i64 aac, .slice B m d]) := Lib.hid (Blk.at_new _ _ (by simp) _ _)
          generalize (w.alloc _).alloc _ = w0 at *
          have B0 := Lib.hid b0
          clear b0
          have a0 := HA.out.cell 0
          have a1 := HA.out.cell 1
          have a2 := HA.out.cell 2
          have a3 := HA.out.cell 3
          have b0 := HB.out.cell 0
          have b1 := HB.out.cell 1
          have b2 := HB.out.cell 2
          have b3 := HB.out.cell 3
          have la0 := HA.out.lt
          have lb0 := HB.out.lt
          go_wp2_with (first
            | (at_builtin
               refine wpList_append_rec _ rfl (.tmp 18) (.tmp 24) rfl w.heap.size (.slice none 0 0) [] rfl (RecsO.nil _ _) _ 1 ⟨1, avi, bno, []⟩ none 0 rfl (Blk.at_new _ _ rfl _ _) (OwnE.nil _ _ _ _) (by simp) (by have := B0.out.size; simp; omega) ?_
               intro v3 w3 o3 g3
               have B3 : Hid (Below w.heap.size w w3) := Lib.hid ((B0.out.alloc B0.out.size (.cells #[.int .i64 1, .int .i64 avi, .int .i64 bno, .slice none 0 0] 82)).grown g3 (by have := B0.out.size; simp; omega) (fun j hj => by cases hj))
               have HA3 := Lib.hid (Blk.grown (HA.out.alloc (.cells #[.int .i64 1, .int .i64 avi, .int .i64 bno, .slice none 0 0] 82)) g3 (by intro e; cases e))
               have HB3 := Lib.hid (Blk.grown (HB.out.alloc (.cells #[.int .i64 1, .int .i64 avi, .int .i64 bno, .slice none 0 0] 82)) g3 (by intro e; cases e))
               obtain ⟨A3, c3, hv3⟩ := o3.len
               subst hv3
               have O3 : Hid (RecsO w.heap.size w3 (.slice A3 1 c3) [(⟨1, avi, bno, []⟩ : Rc)]) := Lib.hid o3
               clear o3 g3 a0 a1 a2 a3 b0 b1 b2 b3 la0 lb0
               have a0 := HA3.out.cell 0
               have a1 := HA3.out.cell 1
               have a2 := HA3.out.cell 2
               have a3 := HA3.out.cell 3
               have b0 := HB3.out.cell 0
               have b1 := HB3.out.cell 1
               have b2 := HB3.out.cell 2
               have b3 := HB3.out.cell 3
               have la0 := HA3.out.lt
               have lb0 := HB3.out.lt)
            | (at_builtin
               refine wpList_append_rec _ rfl (.tmp 31) (.tmp 35) rfl w.heap.size (.slice A3 1 c3) [(⟨1, avi, bno, []⟩ : Rc)] rfl (O3.out.alloc _) _ 1 ⟨4, bco, 0, []⟩ none 0 rfl (Blk.at_new _ _ rfl _ _) (OwnE.nil _ _ _ _) (by simp) (by have := B3.out.size; simp; omega) ?_
               intro v4 w4 o4 g4
               have B4 : Hid (Below w.heap.size w w4) := Lib.hid ((B3.out.alloc B3.out.size (.cells #[.int .i64 4, .int .i64 bco, .int .i64 0, .slice none 0 0] 82)).grown g4 (by have := B3.out.size; simp; omega) (fun j hj => (O3.out.lt j hj).1))
               have HA4 := Lib.hid (Blk.grown (HA3.out.alloc (.cells #[.int .i64 4, .int .i64 bco, .int .i64 0, .slice none 0 0] 82)) g4 (fun e => by have := RecsO.neS O3.out HA3.out; exact this e.symm))
               have HB4 := Lib.hid (Blk.grown (HB3.out.alloc (.cells #[.int .i64 4, .int .i64 bco, .int .i64 0, .slice none 0 0] 82)) g4 (fun e => by have := RecsO.neS O3.out HB3.out; exact this e.symm))
               obtain ⟨A4, c4, hv4⟩ := o4.len
               subst hv4
               have O4 : Hid (RecsO w.heap.size w4 (.slice A4 2 c4) [(⟨1, avi, bno, []⟩ : Rc), (⟨4, bco, 0, []⟩ : Rc)]) := Lib.hid o4
               clear o4 g4 a0 a1 a2 a3 b0 b1 b2 b3 la0 lb0
               have a0 := HA4.out.cell 0
               have a1 := HA4.out.cell 1
               have a2 := HA4.out.cell 2
               have a3 := HA4.out.cell 3
               have b0 := HB4.out.cell 0
               have b1 := HB4.out.cell 1
               have b2 := HB4.out.cell 2
               have b3 := HB4.out.cell 3
               have la0 := HA4.out.lt
               have lb0 := HB4.out.lt))
          go_ret
          exact ⟨A4, c4, rfl, O4.out, B4.out⟩
        · skip
          obtain rfl := hv1
          have shv2 := fun e => hv2 (Eq.symm e)
          have shco := fun e => hco (Eq.symm e)
          have shac := fun e => hac (Eq.symm e)
          have hqq : q = [(⟨1, avi, bno, []⟩ : Rc), (⟨4, bco, 0, []⟩ : Rc), (⟨5, bac, 0, []⟩ : Rc)] := by rw [hq, if_pos (Or.inr shv2), if_pos shco, if_pos shac]; rfl
          clear hq
          subst hqq
          go_enter Tryz.func44, Tryz.ntmps44
          go_upto_region 1 with (fail)
          have b0 : Below w.heap.size w _ := ((Below.refl w.heap.size w).alloc (Nat.le_refl _) (.cells #[.int .i64 avi, .int .i64 ano, .int .i64 aco, .int .i64 aac, .slice A n c] 41)).alloc (by simp) (.cells #[.int .i64 avi, .int .i64 bno, .int .i64 bco, .int .i64 bac, .slice B m d] 41)
          have HA : Hid (Blk ((w.alloc (.cells #[.int .i64 avi, .int .i64 ano, .int .i64 aco, .int .i64 aac, .slice A n c] 41)).alloc (.cells #[.int .i64 avi, .int .i64 bno, .int .i64 bco, .int .i64 bac, .slice B m d] 41)) w.heap.size 41 #[.int .i64 avi, .int .i64 ano, .int .i64 aco, .int .i64 aac, .slice A n c]) := Lib.hid ((Blk.new _ _ _).alloc _)
          have HB : Hid (Blk ((w.alloc (.cells #[.int .i64 avi, .int .i64 ano, .int .i64 aco, .int .i64 aac, .slice A n c] 41)).alloc (.cells #[.int .i64 avi, .int .i64 bno, .int .i64 bco, .int .i64 bac, .slice B m d] 41)) (w.heap.size + 1) 41 #[.int .i64 avi, .int .i64 bno, .int .i64 bco, .int .i64 bac, .slice B m d]) := Lib.hid (Blk.at_new _ _ (by simp) _ _)
          generalize (w.alloc _).alloc _ = w0 at *
          have B0 := Lib.hid b0
          clear b0
          have a0 := HA.out.cell 0
          have a1 := HA.out.cell 1
          have a2 := HA.out.cell 2
          have a3 := HA.out.cell 3
          have b0 := HB.out.cell 0
          have b1 := HB.out.cell 1
          have b2 := HB.out.cell 2
          have b3 := HB.out.cell 3
          have la0 := HA.out.lt
          have lb0 := HB.out.lt
          go_wp2_with (first
            | (at_builtin
               refine wpList_append_rec _ rfl (.tmp 18) (.tmp 24) rfl w.heap.size (.slice none 0 0) [] rfl (RecsO.nil _ _) _ 1 ⟨1, avi, bno, []⟩ none 0 rfl (Blk.at_new _ _ rfl _ _) (OwnE.nil _ _ _ _) (by simp) (by have := B0.out.size; simp; omega) ?_
               intro v3 w3 o3 g3
               have B3 : Hid (Below w.heap.size w w3) := Lib.hid ((B0.out.alloc B0.out.size (.cells #[.int .i64 1, .int .i64 avi, .int .i64 bno, .slice none 0 0] 82)).grown g3 (by have := B0.out.size; simp; omega) (fun j hj => by cases hj))
               have HA3 := Lib.hid (Blk.grown (HA.out.alloc (.cells #[.int .i64 1, .int .i64 avi, .int .i64 bno, .slice none 0 0] 82)) g3 (by intro e; cases e))
               have HB3 := Lib.hid (Blk.grown (HB.out.alloc (.cells #[.int .i64 1, .int .i64 avi, .int .i64 bno, .slice none 0 0] 82)) g3 (by intro e; cases e))
               obtain ⟨A3, c3, hv3⟩ := o3.len
               subst hv3
               have O3 : Hid (RecsO w.heap.size w3 (.slice A3 1 c3) [(⟨1, avi, bno, []⟩ : Rc)]) := Lib.hid o3
               clear o3 g3 a0 a1 a2 a3 b0 b1 b2 b3 la0 lb0
               have a0 := HA3.out.cell 0
               have a1 := HA3.out.cell 1
               have a2 := HA3.out.cell 2
               have a3 := HA3.out.cell 3
               have b0 := HB3.out.cell 0
               have b1 := HB3.out.cell 1
               have b2 := HB3.out.cell 2
               have b3 := HB3.out.cell 3
               have la0 := HA3.out.lt
               have lb0 := HB3.out.lt)
            | (at_builtin
               refine wpList_append_rec _ rfl (.tmp 31) (.tmp 35) rfl w.heap.size (.slice A3 1 c3) [(⟨1, avi, bno, []⟩ : Rc)] rfl (O3.out.alloc _) _ 1 ⟨4, bco, 0, []⟩ none 0 rfl (Blk.at_new _ _ rfl _ _) (OwnE.nil _ _ _ _) (by simp) (by have := B3.out.size; simp; omega) ?_
               intro v4 w4 o4 g4
               have B4 : Hid (Below w.heap.size w w4) := Lib.hid ((B3.out.alloc B3.out.size (.cells #[.int .i64 4, .int .i64 bco, .int .i64 0, .slice none 0 0] 82)).grown g4 (by have := B3.out.size; simp; omega) (fun j hj => (O3.out.lt j hj).1))
               have HA4 := Lib.hid (Blk.grown (HA3.out.alloc (.cells #[.int .i64 4, .int .i64 bco, .int .i64 0, .slice none 0 0] 82)) g4 (fun e => by have := RecsO.neS O3.out HA3.out; exact this e.symm))
               have HB4 := Lib.hid (Blk.grown (HB3.out.alloc (.cells #[.int .i64 4, .int .i64 bco, .int .i64 0, .slice none 0 0] 82)) g4 (fun e => by have := RecsO.neS O3.out HB3.out; exact this e.symm))
               obtain ⟨A4, c4, hv4⟩ := o4.len
               subst hv4
               have O4 : Hid (RecsO w.heap.size w4 (.slice A4 2 c4) [(⟨1, avi, bno, []⟩ : Rc), (⟨4, bco, 0, []⟩ : Rc)]) := Lib.hid o4
               clear o4 g4 a0 a1 a2 a3 b0 b1 b2 b3 la0 lb0
               have a0 := HA4.out.cell 0
               have a1 := HA4.out.cell 1
               have a2 := HA4.out.cell 2
               have a3 := HA4.out.cell 3
               have b0 := HB4.out.cell 0
               have b1 := HB4.out.cell 1
               have b2 := HB4.out.cell 2
               have b3 := HB4.out.cell 3
               have la0 := HA4.out.lt
               have lb0 := HB4.out.lt)
            | (at_builtin
               refine wpList_append_rec _ rfl (.tmp 42) (.tmp 46) rfl w.heap.size (.slice A4 2 c4) [(⟨1, avi, bno, []⟩ : Rc), (⟨4, bco, 0, []⟩ : Rc)] rfl (O4.out.alloc _) _ 1 ⟨5, bac, 0, []⟩ none 0 rfl (Blk.at_new _ _ rfl _ _) (OwnE.nil _ _ _ _) (by simp) (by have := B4.out.size; simp; omega) ?_
               intro v5 w5 o5 g5
               have B5 : Hid (Below w.heap.size w w5) := Lib.hid ((B4.out.alloc B4.out.size (.cells #[.int .i64 5, .int .i64 bac, .int .i64 0, .slice none 0 0] 82)).grown g5 (by have := B4.out.size; simp; omega) (fun j hj => (O4.out.lt j hj).1))
               have HA5 := Lib.hid (Blk.grown (HA4.out.alloc (.cells #[.int .i64 5, .int .i64 bac, .int .i64 0, .slice none 0 0] 82)) g5 (fun e => by have := RecsO.neS O4.out HA4.out; exact this e.symm))
               have HB5 := Lib.hid (Blk.grown (HB4.out.alloc (.cells #[.int .i64 5, .int .i64 bac, .int .i64 0, .slice none 0 0] 82)) g5 (fun e => by have := RecsO.neS O4.out HB4.out; exact this e.symm))
               obtain ⟨A5, c5, hv5⟩ := o5.len
               subst hv5
               have O5 : Hid (RecsO w.heap.size w5 (.slice A5 3 c5) [(⟨1, avi, bno, []⟩ : Rc), (⟨4, bco, 0, []⟩ : Rc), (⟨5, bac, 0, []⟩ : Rc)]) := Lib.hid o5
               clear o5 g5 a0 a1 a2 a3 b0 b1 b2 b3 la0 lb0
               have a0 := HA5.out.cell 0
               have a1 := HA5.out.cell 1
               have a2 := HA5.out.cell 2
               have a3 := HA5.out.cell 3
               have b0 := HB5.out.cell 0
               have b1 := HB5.out.cell 1
               have b2 := HB5.out.cell 2
               have b3 := HB5.out.cell 3
               have la0 := HA5.out.lt
               have lb0 := HB5.out.lt))
          go_ret
          exact ⟨A5, c5, rfl, O5.out, B5.out⟩
  · skip
    by_cases hco : aco = bco
    · skip
      by_cases hac : aac = bac
      · skip
        obtain rfl := hco
        obtain rfl := hac
        have shv1 := fun e => hv1 (Eq.symm e)
        have hqq : q = [(⟨1, bvi, bno, []⟩ : Rc)] := by rw [hq, if_pos (Or.inl shv1), if_neg (by simp), if_neg (by simp)]; rfl
        clear hq
        subst hqq
        go_enter Tryz.func44, Tryz.ntmps44
        go_upto_region 1 with (fail)
        have b0 : Below w.heap.size w _ := ((Below.refl w.heap.size w).alloc (Nat.le_refl _) (.cells #[.int .i64 avi, .int .i64 ano, .int .i64 aco, .int .i64 aac, .slice A n c] 41)).alloc (by simp) (.cells #[.int .i64 bvi, .int .i64 bno, .int .i64 aco, .int .i64 aac, .slice B m d] 41)
        have HA : Hid (Blk ((w.alloc (.cells #[.int .i64 avi, .int .i64 ano, .int .i64 aco, .int .i64 aac, .slice A n c] 41)).alloc (.cells #[.int .i64 bvi, .int .i64 bno, .int .i64 aco, .int .i64 aac, .slice B m d] 41)) w.heap.size 41 #[.int .i64 avi, .int .i64 ano, .int .i64 aco, .int .i64 aac, .slice A n c]) := Lib.hid ((Blk.new _ _ _).alloc _)
        have HB : Hid (Blk ((w.alloc (.cells #[.int .i64 avi, .int .i64 ano, .int .i64 aco, .int .i64 aac, .slice A n c] 41)).alloc (.cells #[.int .i64 bvi, .int .i64 bno, .int .i64 aco, .int .i64 aac, .slice B m d] 41)) (w.heap.size + 1) 41 #[.int .i64 bvi, .int .i64 bno, .int .i64 aco, .int .i64 aac, .slice B m d]) := Lib.hid (Blk.at_new _ _ (by simp) _ _)
        generalize (w.alloc _).alloc _ = w0 at *
        have B0 := Lib.hid b0
        clear b0
        have a0 := HA.out.cell 0
        have a1 := HA.out.cell 1
        have a2 := HA.out.cell 2
        have a3 := HA.out.cell 3
        have b0 := HB.out.cell 0
        have b1 := HB.out.cell 1
        have b2 := HB.out.cell 2
        have b3 := HB.out.cell 3
        have la0 := HA.out.lt
        have lb0 := HB.out.lt
        go_wp2_with (first
          | (at_builtin
             refine wpList_append_rec _ rfl (.tmp 18) (.tmp 24) rfl w.heap.size (.slice none 0 0) [] rfl (RecsO.nil _ _) _ 1 ⟨1, bvi, bno, []⟩ none 0 rfl (Blk.at_new _ _ rfl _ _) (OwnE.nil _ _ _ _) (by simp) (by have := B0.out.size; simp; omega) ?_
             intro v3 w3 o3 g3
             have B3 : Hid (Below w.heap.size w w3) := Lib.hid ((B0.out.alloc B0.out.size (.cells #[.int .i64 1, .int .i64 bvi, .int .i64 bno, .slice none 0 0] 82)).grown g3 (by have := B0.out.size; simp; omega) (fun j hj => by cases hj))
             have HA3 := Lib.hid (Blk.grown (HA.out.alloc (.cells #[.int .i64 1, .int .i64 bvi, .int .i64 bno, .slice none 0 0] 82)) g3 (by intro e; cases e))
             have HB3 := Lib.hid (Blk.grown (HB.out.alloc (.cells #[.int .i64 1, .int .i64 bvi, .int .i64 bno, .slice none 0 0] 82)) g3 (by intro e; cases e))
             obtain ⟨A3, c3, hv3⟩ := o3.len
             subst hv3
             have O3 : Hid (RecsO w.heap.size w3 (.slice A3 1 c3) [(⟨1, bvi, bno, []⟩ : Rc)]) := Lib.hid o3
             clear o3 g3 a0 a1 a2 a3 b0 b1 b2 b3 la0 lb0
             have a0 := HA3.out.cell 0
             have a1 := HA3.out.cell 1
             have a2 := HA3.out.cell 2
             have a3 := HA3.out.cell 3
             have b0 := HB3.out.cell 0
             have b1 := HB3.out.cell 1
             have b2 := HB3.out.cell 2
             have b3 := HB3.out.cell 3
             have la0 := HA3.out.lt
             have lb0 := HB3.out.lt))
        go_ret
        exact ⟨A3, c3, rfl, O3.out, B3.out⟩
      · skip
        obtain rfl := hco
        have shv1 := fun e => hv1 (Eq.symm e)
        have shac := fun e => hac (Eq.symm e)
        have hqq : q = [(⟨1, bvi, bno, []⟩ : Rc), (⟨5, bac, 0, []⟩ : Rc)] := by rw [hq, if_pos (Or.inl shv1), if_neg (by simp), if_pos shac]; rfl
        clear hq
        subst hqq
        go_enter Tryz.func44, Tryz.ntmps44
        go_upto_region 1 with (fail)
        have b0 : Below w.heap.size w _ := ((Below.refl w.heap.size w).alloc (Nat.le_refl _) (.cells #[.int .i64 avi, .int .i64 ano, .int .i64 aco, .int .i64 aac, .slice A n c] 41)).alloc (by simp) (.cells #[.int .i64 bvi, .int .i64 bno, .int .i64 aco, .int .i64 bac, .slice B m d] 41)
        have HA : Hid (Blk ((w.alloc (.cells #[.int .i64 avi, .int .i64 ano, .int .i64 aco, .int .i64 aac, .slice A n c] 41)).alloc (.cells #[.int .i64 bvi, .int .i64 bno, .int .i64 aco, .int .i64 bac, .slice B m d] 41)) w.heap.size 41 #[.int .i64 avi, .int .i64 ano, .int .i64 aco, .int .i64 aac, .slice A n c]) := Lib.hid ((Blk.new _ _ _).alloc _)
        have HB : Hid (Blk ((w.alloc (.cells #[.int .i64 avi, .int .i64 ano, .int .i64 aco, .int .i64 aac, .slice A n c] 41)).alloc (.cells #[.int .i64 bvi, .int .i64 bno, .int .i64 aco, .int .i64 bac, .slice B m d] 41)) (w.heap.size + 1) 41 #[.int .i64 bvi, .int .i64 bno, .int .i64 aco, .int .i64 bac, .slice B m d]) := Lib.hid (Blk.at_new _ _ (by simp) _ _)
        generalize (w.alloc _).alloc _ = w0 at *
        have B0 := Lib.hid b0
        clear b0
        have a0 := HA.out.cell 0
        have a1 := HA.out.cell 1
        have a2 := HA.out.cell 2
        have a3 := HA.out.cell 3
        have b0 := HB.out.cell 0
        have b1 := HB.out.cell 1
        have b2 := HB.out.cell 2
        have b3 := HB.out.cell 3
        have la0 := HA.out.lt
        have lb0 := HB.out.lt
        go_wp2_with (first
          | (at_builtin
             refine wpList_append_rec _ rfl (.tmp 18) (.tmp 24) rfl w.heap.size (.slice none 0 0) [] rfl (RecsO.nil _ _) _ 1 ⟨1, bvi, bno, []⟩ none 0 rfl (Blk.at_new _ _ rfl _ _) (OwnE.nil _ _ _ _) (by simp) (by have := B0.out.size; simp; omega) ?_
             intro v3 w3 o3 g3
             have B3 : Hid (Below w.heap.size w w3) := Lib.hid ((B0.out.alloc B0.out.size (.cells #[.int .i64 1, .int .i64 bvi, .int .i64 bno, .slice none 0 0] 82)).grown g3 (by have := B0.out.size; simp; omega) (fun j hj => by cases hj))
             have HA3 := Lib.hid (Blk.grown (HA.out.alloc (.cells #[.int .i64 1, .int .i64 bvi, .int .i64 bno, .slice none 0 0] 82)) g3 (by intro e; cases e))
             have HB3 := Lib.hid (Blk.grown (HB.out.alloc (.cells #[.int .i64 1, .int .i64 bvi, .int .i64 bno, .slice none 0 0] 82)) g3 (by intro e; cases e))
             obtain ⟨A3, c3, hv3⟩ := o3.len
             subst hv3
             have O3 : Hid (RecsO w.heap.size w3 (.slice A3 1 c3) [(⟨1, bvi, bno, []⟩ : Rc)]) := Lib.hid o3
             clear o3 g3 a0 a1 a2 a3 b0 b1 b2 b3 la0 lb0
             have a0 := HA3.out.cell 0
             have a1 := HA3.out.cell 1
             have a2 := HA3.out.cell 2
             have a3 := HA3.out.cell 3
             have b0 := HB3.out.cell 0
             have b1 := HB3.out.cell 1
             have b2 := HB3.out.cell 2
             have b3 := HB3.out.cell 3
             have la0 := HA3.out.lt
             have lb0 := HB3.out.lt)
          | (at_builtin
             refine wpList_append_rec _ rfl (.tmp 42) (.tmp 46) rfl w.heap.size (.slice A3 1 c3) [(⟨1, bvi, bno, []⟩ : Rc)] rfl (O3.out.alloc _) _ 1 ⟨5, bac, 0, []⟩ none 0 rfl (Blk.at_new _ _ rfl _ _) (OwnE.nil _ _ _ _) (by simp) (by have := B3.out.size; simp; omega) ?_
             intro v4 w4 o4 g4
             have B4 : Hid (Below w.heap.size w w4) := Lib.hid ((B3.out.alloc B3.out.size (.cells #[.int .i64 5, .int .i64 bac, .int .i64 0, .slice none 0 0] 82)).grown g4 (by have := B3.out.size; simp; omega) (fun j hj => (O3.out.lt j hj).1))
             have HA4 := Lib.hid (Blk.grown (HA3.out.alloc (.cells #[.int .i64 5, .int .i64 bac, .int .i64 0, .slice none 0 0] 82)) g4 (fun e => by have := RecsO.neS O3.out HA3.out; exact this e.symm))
             have HB4 := Lib.hid (Blk.grown (HB3.out.alloc (.cells #[.int .i64 5, .int .i64 bac, .int .i64 0, .slice none 0 0] 82)) g4 (fun e => by have := RecsO.neS O3.out HB3.out; exact this e.symm))
             obtain ⟨A4, c4, hv4⟩ := o4.len
             subst hv4
             have O4 : Hid (RecsO w.heap.size w4 (.slice A4 2 c4) [(⟨1, bvi, bno, []⟩ : Rc), (⟨5, bac, 0, []⟩ : Rc)]) := Lib.hid o4
             clear o4 g4 a0 a1 a2 a3 b0 b1 b2 b3 la0 lb0
             have a0 := HA4.out.cell 0
             have a1 := HA4.out.cell 1
             have a2 := HA4.out.cell 2
             have a3 := HA4.out.cell 3
             have b0 := HB4.out.cell 0
             have b1 := HB4.out.cell 1
             have b2 := HB4.out.cell 2
             have b3 := HB4.out.cell 3
             have la0 := HA4.out.lt
             have lb0 := HB4.out.lt))
        go_ret
        exact ⟨A4, c4, rfl, O4.out, B4.out⟩
    · skip
      by_cases hac : aac = bac
      · skip
        obtain rfl := hac
        have shv1 := fun e => hv1 (Eq.symm e)
        have shco := fun e => hco (Eq.symm e)
        have hqq : q = [(⟨1, bvi, bno, []⟩ : Rc), (⟨4, bco, 0, []⟩ : Rc)] := by rw [hq, if_pos (Or.inl shv1), if_pos shco, if_neg (by simp)]; rfl
        clear hq
        subst hqq
        go_enter Tryz.func44, Tryz.ntmps44
        go_upto_region 1 with (fail)
        have b0 : Below w.heap.size w _ := ((Below.refl w.heap.size w).alloc (Nat.le_refl _) (.cells #[.int .i64 avi, .int .i64 ano, .int .i64 aco, .int .i64 aac, .slice A n c] 41)).alloc (by simp) (.cells #[.int .i64 bvi, .int .i64 bno, .int .i64 bco, .int .i64 aac, .slice B m d] 41)
        have HA : Hid (Blk ((w.alloc (.cells #[.int .i64 avi, .int .i64 ano, .int .i64 aco, .int .i64 aac, .slice A n c] 41)).alloc (.cells #[.int .i64 bvi, .int .i64 bno, .int .i64 bco, .int .i64 aac, .slice B m d] 41)) w.heap.size 41 #[.int .i64 avi, .int .i64 ano, .int .i64 aco, .int .i64 aac, .slice A n c]) := Lib.hid ((Blk.new _ _ _).alloc _)
        have HB : Hid (Blk ((w.alloc (.cells #[.int .i64 avi, .int .i64 ano, .int .i64 aco, .int .i64 aac, .slice A n c] 41)).alloc (.cells #[.int .i64 bvi, .int .i64 bno, .int .i64 bco, .int .i64 aac, .slice B m d] 41)) (w.heap.size + 1) 41 #[.int .i64 bvi, .int .i64 bno, .int .i64 bco, .int .i64 aac, .slice B m d]) := Lib.hid (Blk.at_new _ _ (by simp) _ _)
        generalize (w.alloc _).alloc _ = w0 at *
        have B0 := Lib.hid b0
        clear b0
        have a0 := HA.out.cell 0
        have a1 := HA.out.cell 1
        have a2 := HA.out.cell 2
        have a3 := HA.out.cell 3
        have b0 := HB.out.cell 0
        have b1 := HB.out.cell 1
        have b2 := HB.out.cell 2
        have b3 := HB.out.cell 3
        have la0 := HA.out.lt
        have lb0 := HB.out.lt
        go_wp2_with (first
          | (at_builtin
             refine wpList_append_rec _ rfl (.tmp 18) (.tmp 24) rfl w.heap.size (.slice none 0 0) [] rfl (RecsO.nil _ _) _ 1 ⟨1, bvi, bno, []⟩ none 0 rfl (Blk.at_new _ _ rfl _ _) (OwnE.nil _ _ _ _) (by simp) (by have := B0.out.size; simp; omega) ?_
             intro v3 w3 o3 g3
             have B3 : Hid (Below w.heap.size w w3) := Lib.hid ((B0.out.alloc B0.out.size (.cells #[.int .i64 1, .int .i64 bvi, .int .i64 bno, .slice none 0 0] 82)).grown g3 (by have := B0.out.size; simp; omega) (fun j hj => by cases hj))
             have HA3 := Lib.hid (Blk.grown (HA.out.alloc (.cells #[.int .i64 1, .int .i64 bvi, .int .i64 bno, .slice none 0 0] 82)) g3 (by intro e; cases e))
             have HB3 := Lib.hid (Blk.grown (HB.out.alloc (.cells #[.int .i64 1, .int .i64 bvi, .int .i64 bno, .slice none 0 0] 82)) g3 (by intro e; cases e))
             obtain ⟨A3, c3, hv3⟩ := o3.len
             subst hv3
             have O3 : Hid (RecsO w.heap.size w3 (.slice A3 1 c3) [(⟨1, bvi, bno, []⟩ : Rc)]) := Lib.hid o3
             clear o3 g3 a0 a1 a2 a3 b0 b1 b2 b3 la0 lb0
             have a0 := HA3.out.cell 0
             have a1 := HA3.out.cell 1
             have a2 := HA3.out.cell 2
             have a3 := HA3.out.cell 3
             have b0 := HB3.out.cell 0
             have b1 := HB3.out.cell 1
             have b2 := HB3.out.cell 2
             have b3 := HB3.out.cell 3
             have la0 := HA3.out.lt
             have lb0 := HB3.out.lt)
          | (at_builtin
             refine wpList_append_rec _ rfl (.tmp 31) (.tmp 35) rfl w.heap.size (.slice A3 1 c3) [(⟨1, bvi, bno, []⟩ : Rc)] rfl (O3.out.alloc _) _ 1 ⟨4, bco, 0, []⟩ none 0 rfl (Blk.at_new _ _ rfl _ _) (OwnE.nil _ _ _ _) (by simp) (by have := B3.out.size; simp; omega) ?_
             intro v4 w4 o4 g4
             have B4 : Hid (Below w.heap.size w w4) := Lib.hid ((B3.out.alloc B3.out.size (.cells #[.int .i64 4, .int .i64 bco, .int .i64 0, .slice none 0 0] 82)).grown g4 (by have := B3.out.size; simp; omega) (fun j hj => (O3.out.lt j hj).1))
             have HA4 := Lib.hid (Blk.grown (HA3.out.alloc (.cells #[.int .i64 4, .int .i64 bco, .int .i64 0, .slice none 0 0] 82)) g4 (fun e => by have := RecsO.neS O3.out HA3.out; exact this e.symm))
             have HB4 := Lib.hid (Blk.grown (HB3.out.alloc (.cells #[.int .i64 4, .int .i64 bco, .int .i64 0, .slice none 0 0] 82)) g4 (fun e => by have := RecsO.neS O3.out HB3.out; exact this e.symm))
             obtain ⟨A4, c4, hv4⟩ := o4.len
             subst hv4
             have O4 : Hid (RecsO w.heap.size w4 (.slice A4 2 c4) [(⟨1, bvi, bno, []⟩ : Rc), (⟨4, bco, 0, []⟩ : Rc)]) := Lib.hid o4
             clear o4 g4 a0 a1 a2 a3 b0 b1 b2 b3 la0 lb0
             have a0 := HA4.out.cell 0
             have a1 := HA4.out.cell 1
             have a2 := HA4.out.cell 2
             have a3 := HA4.out.cell 3
             have b0 := HB4.out.cell 0
             have b1 := HB4.out.cell 1
             have b2 := HB4.out.cell 2
             have b3 := HB4.out.cell 3
             have la0 := HA4.out.lt
             have lb0 := HB4.out.lt))
        go_ret
        exact ⟨A4, c4, rfl, O4.out, B4.out⟩
      · skip
        have shv1 := fun e => hv1 (Eq.symm e)
        have shco := fun e => hco (Eq.symm e)
        have shac := fun e => hac (Eq.symm e)
        have hqq : q = [(⟨1, bvi, bno, []⟩ : Rc), (⟨4, bco, 0, []⟩ : Rc), (⟨5, bac, 0, []⟩ : Rc)] := by rw [hq, if_pos (Or.inl shv1), if_pos shco, if_pos shac]; rfl
        clear hq
        subst hqq
        go_enter Tryz.func44, Tryz.ntmps44
        go_upto_region 1 with (fail)
        have b0 : Below w.heap.size w _ := ((Below.refl w.heap.size w).alloc (Nat.le_refl _) (.cells #[.int .i64 avi, .int .i64 ano, .int .i64 aco, .int .i64 aac, .slice A n c] 41)).alloc (by simp) (.cells #[.int .i64 bvi, .int .i64 bno, .int .i64 bco, .int .i64 bac, .slice B m d] 41)
        have HA : Hid (Blk ((w.alloc (.cells #[.int .i64 avi, .int .i64 ano, .int .i64 aco, .int .i64 aac, .slice A n c] 41)).alloc (.cells #[.int .i64 bvi, .int .i64 bno, .int .i64 bco, .int .i64 bac, .slice B m d] 41)) w.heap.size 41 #[.int .i64 avi, .int .i64 ano, .int .i64 aco, .int .i64 aac, .slice A n c]) := Lib.hid ((Blk.new _ _ _).alloc _)
        have HB : Hid (Blk ((w.alloc (.cells #[.int .i64 avi, .int .i64 ano, .int .i64 aco, .int .i64 aac, .slice A n c] 41)).alloc (.cells #[.int .i64 bvi, .int .i64 bno, .int .i64 bco, .int .i64 bac, .slice B m d] 41)) (w.heap.size + 1) 41 #[.int .i64 bvi, .int .i64 bno, .int .i64 bco, .int .i64 bac, .slice B m d]) := Lib.hid (Blk.at_new _ _ (by simp) _ _)
        generalize (w.alloc _).alloc _ = w0 at *
        have B0 := Lib.hid b0
        clear b0
        have a0 := HA.out.cell 0
        have a1 := HA.out.cell 1
        have a2 := HA.out.cell 2
        have a3 := HA.out.cell 3
        have b0 := HB.out.cell 0
        have b1 := HB.out.cell 1
        have b2 := HB.out.cell 2
        have b3 := HB.out.cell 3
        have la0 := HA.out.lt
        have lb0 := HB.out.lt
        go_wp2_with (first
          | (at_builtin
             refine wpList_append_rec _ rfl (.tmp 18) (.tmp 24) rfl w.heap.size (.slice none 0 0) [] rfl (RecsO.nil _ _) _ 1 ⟨1, bvi, bno, []⟩ none 0 rfl (Blk.at_new _ _ rfl _ _) (OwnE.nil _ _ _ _) (by simp) (by have := B0.out.size; simp; omega) ?_
             intro v3 w3 o3 g3
             have B3 : Hid (Below w.heap.size w w3) := Lib.hid ((B0.out.alloc B0.out.size (.cells #[.int .i64 1, .int .i64 bvi, .int .i64 bno, .slice none 0 0] 82)).grown g3 (by have := B0.out.size; simp; omega) (fun j hj => by cases hj))
             have HA3 := Lib.hid (Blk.grown (HA.out.alloc (.cells #[.int .i64 1, .int .i64 bvi, .int .i64 bno, .slice none 0 0] 82)) g3 (by intro e; cases e))
             have HB3 := Lib.hid (Blk.grown (HB.out.alloc (.cells #[.int .i64 1, .int .i64 bvi, .int .i64 bno, .slice none 0 0] 82)) g3 (by intro e; cases e))
             obtain ⟨A3, c3, hv3⟩ := o3.len
             subst hv3
             have O3 : Hid (RecsO w.heap.size w3 (.slice A3 1 c3) [(⟨1, bvi, bno, []⟩ : Rc)]) := Lib.hid o3
             clear o3 g3 a0 a1 a2 a3 b0 b1 b2 b3 la0 lb0
             have a0 := HA3.out.cell 0
             have a1 := HA3.out.cell 1
             have a2 := HA3.out.cell 2
             have a3 := HA3.out.cell 3
             have b0 := HB3.out.cell 0
             have b1 := HB3.out.cell 1
             have b2 := HB3.out.cell 2
             have b3 := HB3.out.cell 3
             have la0 := HA3.out.lt
             have lb0 := HB3.out.lt)
          | (at_builtin
             refine wpList_append_rec _ rfl (.tmp 31) (.tmp 35) rfl w.heap.size (.slice A3 1 c3) [(⟨1, bvi, bno, []⟩ : Rc)] rfl (O3.out.alloc _) _ 1 ⟨4, bco, 0, []⟩ none 0 rfl (Blk.at_new _ _ rfl _ _) (OwnE.nil _ _ _ _) (by simp) (by have := B3.out.size; simp; omega) ?_
             intro v4 w4 o4 g4
             have B4 : Hid (Below w.heap.size w w4) := Lib.hid ((B3.out.alloc B3.out.size (.cells #[.int .i64 4, .int .i64 bco, .int .i64 0, .slice none 0 0] 82)).grown g4 (by have := B3.out.size; simp; omega) (fun j hj => (O3.out.lt j hj).1))
             have HA4 := Lib.hid (Blk.grown (HA3.out.alloc (.cells #[.int .i64 4, .int .i64 bco, .int .i64 0, .slice none 0 0] 82)) g4 (fun e => by have := RecsO.neS O3.out HA3.out; exact this e.symm))
             have HB4 := Lib.hid (Blk.grown (HB3.out.alloc (.cells #[.int .i64 4, .int .i64 bco, .int .i64 0, .slice none 0 0] 82)) g4 (fun e => by have := RecsO.neS O3.out HB3.out; exact this e.symm))
             obtain ⟨A4, c4, hv4⟩ := o4.len
             subst hv4
             have O4 : Hid (RecsO w.heap.size w4 (.slice A4 2 c4) [(⟨1, bvi, bno, []⟩ : Rc), (⟨4, bco, 0, []⟩ : Rc)]) := Lib.hid o4
             clear o4 g4 a0 a1 a2 a3 b0 b1 b2 b3 la0 lb0
             have a0 := HA4.out.cell 0
             have a1 := HA4.out.cell 1
             have a2 := HA4.out.cell 2
             have a3 := HA4.out.cell 3
             have b0 := HB4.out.cell 0
             have b1 := HB4.out.cell 1
             have b2 := HB4.out.cell 2
             have b3 := HB4.out.cell 3
             have la0 := HA4.out.lt
             have lb0 := HB4.out.lt)
          | (at_builtin
             refine wpList_append_rec _ rfl (.tmp 42) (.tmp 46) rfl w.heap.size (.slice A4 2 c4) [(⟨1, bvi, bno, []⟩ : Rc), (⟨4, bco, 0, []⟩ : Rc)] rfl (O4.out.alloc _) _ 1 ⟨5, bac, 0, []⟩ none 0 rfl (Blk.at_new _ _ rfl _ _) (OwnE.nil _ _ _ _) (by simp) (by have := B4.out.size; simp; omega) ?_
             intro v5 w5 o5 g5
             have B5 : Hid (Below w.heap.size w w5) := Lib.hid ((B4.out.alloc B4.out.size (.cells #[.int .i64 5, .int .i64 bac, .int .i64 0, .slice none 0 0] 82)).grown g5 (by have := B4.out.size; simp; omega) (fun j hj => (O4.out.lt j hj).1))
             have HA5 := Lib.hid (Blk.grown (HA4.out.alloc (.cells #[.int .i64 5, .int .i64 bac, .int .i64 0, .slice none 0 0] 82)) g5 (fun e => by have := RecsO.neS O4.out HA4.out; exact this e.symm))
             have HB5 := Lib.hid (Blk.grown (HB4.out.alloc (.cells #[.int .i64 5, .int .i64 bac, .int .i64 0, .slice none 0 0] 82)) g5 (fun e => by have := RecsO.neS O4.out HB4.out; exact this e.symm))
             obtain ⟨A5, c5, hv5⟩ := o5.len
             subst hv5
             have O5 : Hid (RecsO w.heap.size w5 (.slice A5 3 c5) [(⟨1, bvi, bno, []⟩ : Rc), (⟨4, bco, 0, []⟩ : Rc), (⟨5, bac, 0, []⟩ : Rc)]) := Lib.hid o5
             clear o5 g5 a0 a1 a2 a3 b0 b1 b2 b3 la0 lb0
             have a0 := HA5.out.cell 0
             have a1 := HA5.out.cell 1
             have a2 := HA5.out.cell 2
             have a3 := HA5.out.cell 3
             have b0 := HB5.out.cell 0
             have b1 := HB5.out.cell 1
             have b2 := HB5.out.cell 2
             have b3 := HB5.out.cell 3
             have la0 := HA5.out.lt
             have lb0 := HB5.out.lt))
        go_ret
        exact ⟨A5, c5, rfl, O5.out, B5.out⟩
end Go.Proofs.YtefgobmpleoafaaGreat
