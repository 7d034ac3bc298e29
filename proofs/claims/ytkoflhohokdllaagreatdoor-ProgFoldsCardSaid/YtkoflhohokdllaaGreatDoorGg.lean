/- The writer: a loop. -/
import Derived.Test.YtkoflhohokdllaaGreatDoorGf
namespace Go.Proofs.YtkoflhohokdllaaGreatDoor
open Go.RowKit
open Go.Proofs.YtkoflhohokdllaaGreatDoor.Cl (Rg SetV SetAt rgCells info_three info3)
variable {w w' w0 : World} {n₀ wb lp lp' base : Nat} {fo : Bool} {M : List In} {G : Int}

theorem Wr.loops (h : Wr n₀ wb fo w M lp) {x : Int} {k : Nat} (hx : x = (k : Nat)) (hk : k ≤ 100000) : Wr n₀ wb fo (w.setCell ⟨wb, 1, none⟩ (.int .i64 x)) M k ∧ FrW n₀ wb w (w.setCell ⟨wb, 1, none⟩ (.int .i64 x)) := by
  subst hx
  have hlow := h.low
  obtain ⟨cv, L, h, hM⟩ := h
  refine ⟨⟨cv, L, ⟨?_, ?_, fun x hx => ?_, h.low, h.bnd.1, hk⟩, hM⟩, (FrW.refl w).set_ hlow.1 (.inl rfl) _⟩
  · have := h.blk.set_ 1 (.int .i64 ((k : Nat) : Int))
    simpa using this
  · refine own_keep h.own fun i hi => Below.heap_setCell _ _ _ _ ?_
    rintro rfl
    exact own_ne h.own h.blk (by decide) hi.symm
  · exact own_kept (h.sets x hx) fun i _ _ ⟨cs, z, hh⟩ => Below.heap_setCell _ _ _ _ (show i ≠ wb from ne_of_types hh h.blk (by decide))
theorem loop_code (lz : Bool) (M X : List In) : (app (M ++ [In.i 3 0 0 0 0] ++ [In.i 10 (marks M : Nat) 0 0 0]) X ++ [In.i 11 (marks M : Nat) 0 0 0] ++ [In.i 2 (M.length : Nat) 0 0 0]).set M.length (forkI lz M.length (app (M ++ [In.i 3 0 0 0 0] ++ [In.i 10 (marks M : Nat) 0 0 0]) X ++ [In.i 11 (marks M : Nat) 0 0 0] ++ [In.i 2 (M.length : Nat) 0 0 0]).length (In.i 3 0 0 0 0)) = app M (loopC lz X) := by
  have hm : marks (M ++ [In.i 3 0 0 0 0] ++ [In.i 10 (marks M : Nat) 0 0 0]) = marks M + 1 := by
    rw [marks_append, marks_snoc _ _ (by decide)]; rfl
  have e1 : app (M ++ [In.i 3 0 0 0 0] ++ [In.i 10 (marks M : Nat) 0 0 0]) X ++ [In.i 11 (marks M : Nat) 0 0 0] ++ [In.i 2 (M.length : Nat) 0 0 0] = M ++ In.i 3 0 0 0 0 :: (In.i 10 (marks M : Nat) 0 0 0 :: (X.map (sh ((M.length + 2 : Nat) : Int) ((marks M + 1 : Nat) : Int)) ++ [In.i 11 (marks M : Nat) 0 0 0, In.i 2 (M.length : Nat) 0 0 0])) := by
    unfold app
    rw [hm]
    simp
  have hl : (app (M ++ [In.i 3 0 0 0 0] ++ [In.i 10 (marks M : Nat) 0 0 0]) X ++ [In.i 11 (marks M : Nat) 0 0 0] ++ [In.i 2 (M.length : Nat) 0 0 0]).length = M.length + X.length + 4 := by
    rw [List.length_append, List.length_append, app_len]; simp; omega
  rw [hl, e1, List.set_append_right _ _ (Nat.le_refl _), Nat.sub_self]
  have e2 : app M (loopC lz X) = M ++ (loopC lz X).map (sh (M.length : Nat) (marks M : Nat)) := rfl
  rw [e2]
  congr 1
  have ms := marks_split lz ((X.length : Int) + 4)
  have e3 : loopC lz X = splitI lz ((X.length : Int) + 4) :: (In.i 10 0 0 0 0 :: (X.map (sh 2 1) ++ [In.i 11 0 0 0 0, In.i 2 0 0 0 0])) := by
    unfold loopC
    unfold app
    rw [ms]
    have h10 : marks [In.i 10 0 0 0 0] = 1 := rfl
    have h11 : marks [In.i 11 (-(marks X : Int) - 1) 0 0 0] = 0 := rfl
    rw [h10, h11]
    simp only [List.map_append, List.map_map, List.map_cons, List.map_nil, List.cons_append, List.nil_append, List.length_cons, List.length_nil]
    congr 1
    congr 1
    · congr 1
      · apply List.map_congr_left
        intro i _
        simp only [Function.comp, sh_sh]
        congr 1
      · simp [sh, In.i]
        refine ⟨?_, ?_⟩ <;> omega
  rw [e3]
  simp only [List.set_cons_zero, List.map_cons, List.map_append, List.map_map, List.map_nil]
  congr 1
  · cases lz
    · simp [forkI, splitI, sh, In.i]
      refine ⟨?_, ?_⟩ <;> omega
    · simp [forkI, splitI, sh, In.i]
      refine ⟨?_, ?_⟩ <;> omega
  · congr 1
    · simp [sh, In.i]
    · congr 1
      · apply List.map_congr_left
        intro i _
        simp only [Function.comp, sh_sh]
        congr 1 <;> omega
      · simp [sh, In.i]

/-- A call of the writer at a node, whose kids are right. -/
def AtG (n₀ wb : Nat) (fo : Bool) (G : Int) (n f : Nat) (ok : Nd → Prop) (X : Nd → List In) : Prop := ∀ (nd : Nd), ok nd → (∀ x ∈ nd.kids, Nx G n x) → ∀ (w : World) (M : List In) (A1 A2 : Option Addr) (p1 p2 : Nat), Env5 n₀ w → NodeB n₀ w nd A1 A2 p1 p2 → Wm n₀ wb fo w M → M.length + (X nd).length ≤ 90000 →
  Calls Tryz.prog f #[.pointer (some ⟨wb, 0, none⟩), .agg #[.int .i64 nd.kind, .int .i64 nd.lo, .int .i64 nd.hi, .int .i64 nd.mode, .int .i64 nd.ref, .slice A1 nd.set.length p1, .slice A2 nd.kids.length p2]] w (WmP n₀ wb fo w (app M (X nd)))
def kidsC (fo : Bool) (nd : Nd) : List In := rowC (nd.kids.map (code fo))

set_option maxRecDepth 100000 in
set_option maxHeartbeats 2000000 in
theorem loop_step (n : Nat) (ih : RowG n₀ wb fo G n) : AtG n₀ wb fo G n 119 (fun _ => True) (fun nd => loopC (nd.mode == 1) (kidsC fo nd)) := by
  intro nd _ hkids w M A1 A2 p1 p2 hE hN hW hlen
  dsimp only at hlen ⊢
  obtain ⟨b, off, hkv, hm⟩ := NodeB.kids hN
  obtain ⟨hlow1, hlow2⟩ := Wr.low hW
  have hX : (loopC (nd.mode == 1) (kidsC fo nd)).length = (kidsC fo nd).length + 4 := by have := loopC_len (nd.mode == 1) (kidsC fo nd); unfold len at this; omega
  have HRow := Lib.hid (fun W M' (h1 : Env5 n₀ W) (h2 : KidsB n₀ W nd.kids A2 b off) (h3 : Wm n₀ wb fo W M') h4 => ih nd.kids hkids hm W M' A2 p2 b off h1 h2 h3 h4)
  have HB0 := Lib.hid (Blk.new w 27 #[.int .i64 nd.kind, .int .i64 nd.lo, .int .i64 nd.hi, .int .i64 nd.mode, .int .i64 nd.ref, .slice A1 nd.set.length p1, .slice A2 nd.kids.length p2])
  have hb0 := new_blk w #[.int .i64 nd.kind, .int .i64 nd.lo, .int .i64 nd.hi, .int .i64 nd.mode, .int .i64 nd.ref, .slice A1 nd.set.length p1, .slice A2 nd.kids.length p2]
  have HE := Lib.hid hE
  have HK := Lib.hid hkv
  have HW0 := Lib.hid (hW.on hb0)
  have HF0 := Lib.hid (FrW.of_below (n₀ := n₀) (wb := wb) hb0)
  have hmk := marks_le M
  unfold kidsC at *
  clear ih hkids hE hN hW hkv hm
  go_enter Tryz.func119, Tryz.ntmps119
  go_upto_region 1 with (fail)
  generalize w.alloc _ = W at *
  have hs0 := hb0.size
  obtain ⟨X, hXe⟩ : ∃ X, X = rowC (nd.kids.map (code fo)) := ⟨_, rfl⟩
  rw [← hXe] at hX hlen HRow
  have HXe := Lib.hid hXe
  clear hXe
  have HP := Lib.hid (put_i 3 0 0 0 0 HW0.out (by omega))
  go_wp2_with fail
  refine HP.out.mono ?_
  rintro e w1 ⟨rfl, hW1, hF1⟩
  have hs1 := hF1.size
  obtain ⟨cv1, hblk1⟩ := hW1.blk
  have c1 := hblk1.cell 1
  have f1 := hblk1.frozen 1
  simp at c1
  have HB1 := Lib.hid (hF1.blk HB0.out (by decide) (by omega))
  have HF1 := Lib.hid (HF0.out.trans hF1)
  have HWl := Lib.hid (hW1.loops (x := (marks M : Nat) + 1) (k := marks M + 1) (by omega) (by omega))
  clear hW1 hF1 HP hblk1
  go_upto_region 4 with (fail)
  have HF2 := Lib.hid (HF1.out.trans HWl.out.2)
  have HB2 := Lib.hid (HWl.out.2.blk HB1.out (by decide) (by omega))
  have HW2 := Lib.hid HWl.out.1
  have hs2 := HF2.out.size
  clear HWl c1 f1
  generalize w1.setCell _ _ = w2 at *
  have HP := Lib.hid (put_i 10 (marks M : Nat) 0 0 0 HW2.out (by rw [List.length_append]; simp; omega))
  go_wp2_with fail
  refine HP.out.mono ?_
  rintro e w3 ⟨rfl, hW3, hF3⟩
  have hs3 := hF3.size
  have HB3 := Lib.hid (hF3.blk HB2.out (by decide) (by omega))
  have HF3 := Lib.hid (HF2.out.trans hF3)
  have hm3 : marks (M ++ [In.i 3 0 0 0 0] ++ [In.i 10 (marks M : Nat) 0 0 0]) = marks M + 1 := by rw [marks_append, marks_snoc _ _ (by decide)]; rfl
  have HW3 : Hid (Wm n₀ wb fo w3 (M ++ [In.i 3 0 0 0 0] ++ [In.i 10 (marks M : Nat) 0 0 0])) := Lib.hid (by unfold Wm; rw [hm3]; exact hW3)
  clear hW3 hF3 HP
  have h7 := HB3.out.c7
  go_wp2_with fail
  refine (HRow.out w3 _ (HE.out.low (HF3.out.old (by omega))) (HK.out.low (HF3.out.old (by omega))) HW3.out (by rw [List.length_append, List.length_append]; simp; omega)).mono ?_
  rintro e w4 ⟨rfl, hW4, hF4⟩
  have hs4 := hF4.size
  have HB4 := Lib.hid (hF4.blk HB3.out (by decide) (by omega))
  have HF4 := Lib.hid (HF3.out.trans hF4)
  obtain ⟨Q, hQ⟩ : ∃ Q, Q = app (M ++ [In.i 3 0 0 0 0] ++ [In.i 10 (marks M : Nat) 0 0 0]) X := ⟨_, rfl⟩
  have hQl : Q.length = M.length + 2 + X.length := by rw [hQ, app_len, List.length_append, List.length_append]; simp
  have hQb : Q.length + 2 ≤ 90000 := by omega
  have hQm : marks Q = marks M + 1 + marks X := by rw [hQ, app_marks, hm3]
  have hLc := loop_code (nd.mode == 1) M X
  rw [← hQ] at hW4 hLc
  have HLc := Lib.hid hLc
  have HW4 := Lib.hid hW4
  have HQ := Lib.hid hQ
  have HQm := Lib.hid hQm
  clear hW4 hF4 h7 hQ hLc hQl hQm hm3
  have HP := Lib.hid (put_i 11 (marks M : Nat) 0 0 0 HW4.out (by omega))
  go_wp2_with fail
  refine HP.out.mono ?_
  rintro e w5 ⟨rfl, hW5, hF5⟩
  have hs5 := hF5.size
  have HB5 := Lib.hid (hF5.blk HB4.out (by decide) (by omega))
  have HF5 := Lib.hid (HF4.out.trans hF5)
  have HW5 := Lib.hid hW5
  clear hW5 hF5 HP
  have HP := Lib.hid (put_i 2 (M.length : Nat) 0 0 0 HW5.out (by rw [List.length_append]; simp; omega))
  go_wp2_with fail
  refine HP.out.mono ?_
  rintro e w6 ⟨rfl, hW6, hF6⟩
  have hs6 := hF6.size
  have HB6 := Lib.hid (hF6.blk HB5.out (by decide) (by omega))
  have HF6 := Lib.hid (HF5.out.trans hF6)
  have HFk := Lib.hid (fork_any (lz := nd.mode == 1) (s := M.length) (x := In.i 3 0 0 0 0) hW6 (by rw [HQ.out]; unfold app; simp))
  rw [HLc.out] at HFk
  clear hW6 hF6 HP
  have h7 := HB6.out.c7
  go_wp2_with fail
  refine HFk.out.mono ?_
  rintro e w7 ⟨rfl, hW7, hF7⟩
  have HF7 := Lib.hid (HF6.out.trans hF7)
  have HW7 : Hid (Wm n₀ wb fo w7 (app M (loopC (nd.mode == 1) X))) := Lib.hid (by
    have e : marks (app M (loopC (nd.mode == 1) X)) = marks Q := by
      rw [HQm.out, app_marks]
      unfold loopC
      rw [app_marks, app_marks, app_marks, app_marks, marks_split]
      have h10 : marks [In.i 10 0 0 0 0] = 1 := rfl
      have h11 : marks [In.i 11 (-(marks X : Int) - 1) 0 0 0] = 0 := rfl
      have h2 : marks [In.i 2 (-(X.length : Int) - 3) 0 0 0] = 0 := rfl
      omega
    unfold Wm
    rw [e]
    exact hW7)
  clear hW7 hF7
  go_wp2
  exact ⟨rfl, .tuple #[], by simp [results, Tryz.results119, go_sem], rfl, (by have := HW7.out; rw [HXe.out] at this; exact this), HF7.out⟩

end Go.Proofs.YtkoflhohokdllaaGreatDoor
