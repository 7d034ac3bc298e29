/- Joined: PkRe, PkRf. -/
import Derived.Test.YtefgobmpleoafaaGreatMRd
/- The document's reader: an entry. -/
namespace Go.Proofs.YtefgobmpleoafaaGreat
open Go.RowKit
variable {w w' w'' : World} {n₀ rb : Nat} {V : Value} {b s : List UInt8} {wr : Bool}

/-- What entry leaves: the entry, with rows of the call's own. -/
def XEntV (base : Nat) (w : World) (v : Value) (x : En) : Prop := ∃ A c B d, v = x.val (.slice A x.d.put.length c) (.slice B x.d.drop.length d) ∧ OwnU w base 125 (.slice A x.d.put.length c) x.d.put ∧ LIntV base w (.slice B x.d.drop.length d) x.d.drop
set_option maxRecDepth 100000 in
set_option maxHeartbeats 16000000 in
theorem xrentry_any (h : Rx n₀ rb V b w s wr) : Calls Tryz.prog 48 #[.pointer (some ⟨rb, 0, none⟩)] w (RxP n₀ rb V b w (pE s) wr (XEntV w.heap.size)) := by
  have hrb := h.lt
  obtain ⟨i0, hi, hz0, hz1, hz2⟩ := info_three infoX
  obtain ⟨i1, hj, hj0, hj1, hj2⟩ := info_three info_ints
  have H0 := Lib.hid (h.alloc (.cells #[.int .i64 0, .int .i64 0, .int .i64 0, .int .i64 0, .int .i64 0, .int .i64 0, .int .i64 0, .slice none 0 0, .slice none 0 0] 78))
  have F0 := Lib.hid ((FrR.refl (rb := rb) w).alloc (.cells #[.int .i64 0, .int .i64 0, .int .i64 0, .int .i64 0, .int .i64 0, .int .i64 0, .int .i64 0, .slice none 0 0, .slice none 0 0] 78))
  have Z0 := Lib.hid (Blk.new w 78 #[.int .i64 0, .int .i64 0, .int .i64 0, .int .i64 0, .int .i64 0, .int .i64 0, .int .i64 0, .slice none 0 0, .slice none 0 0])
  clear h
  have s0 : w.heap.size < (w.alloc (.cells #[.int .i64 0, .int .i64 0, .int .i64 0, .int .i64 0, .int .i64 0, .int .i64 0, .int .i64 0, .slice none 0 0, .slice none 0 0] 78)).heap.size := by simp
  go_enter Tryz.func48, Tryz.ntmps48
  go_upto_region 1 with (fail)
  generalize w.alloc _ = w0 at *
  go_wp2_with fail
  refine (xrnum_any H0.out).mono ?_
  rintro e w1 ⟨x1, t1, wr1, _, rfl, ⟨rfl, _, _⟩, h1, h2, h3⟩
  have H1 := Lib.hid h1
  have F1 := Lib.hid (F0.out.trans h2)
  have Z1 := Lib.hid (Z0.out.blk0 h2 hrb)
  have O1 := Lib.hid h3
  have s1 : w.heap.size < w1.heap.size := Nat.lt_of_lt_of_le s0 h2.size
  clear h1 h2 h3
  go_wp2_with fail
  refine (xrnum_any H1.out).mono ?_
  rintro e w2 ⟨x2, t2, wr2, _, rfl, ⟨rfl, _, _⟩, h1, h2, h3⟩
  have H2 := Lib.hid h1
  have F2 := Lib.hid (F1.out.trans h2)
  have Z2 := Lib.hid (Z1.out.blk0 h2 hrb)
  have O2 := Lib.hid h3
  have s2 : w.heap.size < w2.heap.size := Nat.lt_of_lt_of_le s1 h2.size
  clear h1 h2 h3
  go_wp2_with fail
  refine (xrnum_any H2.out).mono ?_
  rintro e w3 ⟨x3, t3, wr3, _, rfl, ⟨rfl, _, _⟩, h1, h2, h3⟩
  have H3 := Lib.hid h1
  have F3 := Lib.hid (F2.out.trans h2)
  have Z3 := Lib.hid (Z2.out.blk0 h2 hrb)
  have O3 := Lib.hid h3
  have s3 : w.heap.size < w3.heap.size := Nat.lt_of_lt_of_le s2 h2.size
  clear h1 h2 h3
  go_upto_region 2 with (fail)
  have H3a := Lib.hid (H3.out.alloc (.cells #[.int .i64 x1, .int .i64 x2, .int .i64 x3, .int .i64 0, .int .i64 0, .int .i64 0, .int .i64 0, .slice none 0 0, .slice none 0 0] 78))
  have F3a := Lib.hid (F3.out.alloc (.cells #[.int .i64 x1, .int .i64 x2, .int .i64 x3, .int .i64 0, .int .i64 0, .int .i64 0, .int .i64 0, .slice none 0 0, .slice none 0 0] 78))
  have Z3a := Lib.hid (Z3.out.alloc (.cells #[.int .i64 x1, .int .i64 x2, .int .i64 x3, .int .i64 0, .int .i64 0, .int .i64 0, .int .i64 0, .slice none 0 0, .slice none 0 0] 78))
  have Y3a := Lib.hid (Blk.new w3 78 #[.int .i64 x1, .int .i64 x2, .int .i64 x3, .int .i64 0, .int .i64 0, .int .i64 0, .int .i64 0, .slice none 0 0, .slice none 0 0])
  have s3a : w3.heap.size < (w3.alloc (.cells #[.int .i64 x1, .int .i64 x2, .int .i64 x3, .int .i64 0, .int .i64 0, .int .i64 0, .int .i64 0, .slice none 0 0, .slice none 0 0] 78)).heap.size := by simp
  generalize w3.alloc _ = w3a at *
  obtain ⟨yb, hyb⟩ : ∃ yb, yb = w3.heap.size := ⟨_, rfl⟩
  rw [← hyb] at Y3a s3a s3 ⊢
  have hyr : rb < yb := by omega
  have hyw : w.heap.size ≠ yb := by omega
  clear hyb H3 F3 Z3
  go_wp2_with fail
  refine (xrnum_any H3a.out).mono ?_
  rintro e w4 ⟨x4, t4, wr4, _, rfl, ⟨rfl, _, _⟩, h1, h2, h3⟩
  have O4 := Lib.hid h3
  have s4a : yb < w4.heap.size := Nat.lt_of_lt_of_le s3a h2.size
  have Y4 := Lib.hid (Y3a.out.blk0 h2 hyr)
  have H4a := Lib.hid (h1.far (q := ⟨yb, 3, none⟩) hyr (.int .i64 x4))
  have F4a := Lib.hid ((F3a.out.trans h2).set_ (q := ⟨yb, 3, none⟩) (.inr (by simp only; omega)) (.int .i64 x4))
  have Z4a := Lib.hid ((Z3a.out.blk0 h2 hrb).far (p := ⟨yb, 3, none⟩) hyw (.int .i64 x4))
  have Y4a : Hid (Blk (w4.setCell ⟨yb, 3, none⟩ (.int .i64 x4)) yb 78 #[.int .i64 x1, .int .i64 x2, .int .i64 x3, .int .i64 x4, .int .i64 0, .int .i64 0, .int .i64 0, .slice none 0 0, .slice none 0 0]) := Lib.hid (by have := Y4.out.set_ 3 (.int .i64 x4); simpa using this)
  have y4 := Y4.out.cell 3
  have g4 := Y4.out.frozen
  have l4 := Y4.out.lt
  clear h1 h2 h3 H3a F3a Z3a Y3a
  go_upto_region 3 with (fail)
  clear y4 g4 l4 Y4
  have s4b : yb < (w4.setCell ⟨yb, 3, none⟩ (.int .i64 x4)).heap.size := by simpa [World.setCell] using s4a
  generalize w4.setCell _ _ = w4a at *
  clear s4a
  have s4a := s4b
  clear s4b
  go_wp2_with fail
  refine (xrnum_any H4a.out).mono ?_
  rintro e w5 ⟨x5, t5, wr5, _, rfl, ⟨rfl, _, _⟩, h1, h2, h3⟩
  have O5 := Lib.hid h3
  have s5a : yb < w5.heap.size := Nat.lt_of_lt_of_le s4a h2.size
  have Y5 := Lib.hid (Y4a.out.blk0 h2 hyr)
  have H5a := Lib.hid (h1.far (q := ⟨yb, 4, none⟩) hyr (.int .i64 x5))
  have F5a := Lib.hid ((F4a.out.trans h2).set_ (q := ⟨yb, 4, none⟩) (.inr (by simp only; omega)) (.int .i64 x5))
  have Z5a := Lib.hid ((Z4a.out.blk0 h2 hrb).far (p := ⟨yb, 4, none⟩) hyw (.int .i64 x5))
  have Y5a : Hid (Blk (w5.setCell ⟨yb, 4, none⟩ (.int .i64 x5)) yb 78 #[.int .i64 x1, .int .i64 x2, .int .i64 x3, .int .i64 x4, .int .i64 x5, .int .i64 0, .int .i64 0, .slice none 0 0, .slice none 0 0]) := Lib.hid (by have := Y5.out.set_ 4 (.int .i64 x5); simpa using this)
  have y5 := Y5.out.cell 4
  have g5 := Y5.out.frozen
  have l5 := Y5.out.lt
  clear h1 h2 h3 H4a F4a Z4a Y4a
  go_upto_region 4 with (fail)
  clear y5 g5 l5 Y5
  have s5b : yb < (w5.setCell ⟨yb, 4, none⟩ (.int .i64 x5)).heap.size := by simpa [World.setCell] using s5a
  generalize w5.setCell _ _ = w5a at *
  clear s5a
  have s5a := s5b
  clear s5b
  go_wp2_with fail
  refine (xrnum_any H5a.out).mono ?_
  rintro e w6 ⟨x6, t6, wr6, _, rfl, ⟨rfl, _, _⟩, h1, h2, h3⟩
  have O6 := Lib.hid h3
  have s6a : yb < w6.heap.size := Nat.lt_of_lt_of_le s5a h2.size
  have Y6 := Lib.hid (Y5a.out.blk0 h2 hyr)
  have H6a := Lib.hid (h1.far (q := ⟨yb, 5, none⟩) hyr (.int .i64 x6))
  have F6a := Lib.hid ((F5a.out.trans h2).set_ (q := ⟨yb, 5, none⟩) (.inr (by simp only; omega)) (.int .i64 x6))
  have Z6a := Lib.hid ((Z5a.out.blk0 h2 hrb).far (p := ⟨yb, 5, none⟩) hyw (.int .i64 x6))
  have Y6a : Hid (Blk (w6.setCell ⟨yb, 5, none⟩ (.int .i64 x6)) yb 78 #[.int .i64 x1, .int .i64 x2, .int .i64 x3, .int .i64 x4, .int .i64 x5, .int .i64 x6, .int .i64 0, .slice none 0 0, .slice none 0 0]) := Lib.hid (by have := Y6.out.set_ 5 (.int .i64 x6); simpa using this)
  have y6 := Y6.out.cell 5
  have g6 := Y6.out.frozen
  have l6 := Y6.out.lt
  clear h1 h2 h3 H5a F5a Z5a Y5a
  go_upto_region 5 with (fail)
  clear y6 g6 l6 Y6
  have s6b : yb < (w6.setCell ⟨yb, 5, none⟩ (.int .i64 x6)).heap.size := by simpa [World.setCell] using s6a
  generalize w6.setCell _ _ = w6a at *
  clear s6a
  have s6a := s6b
  clear s6b
  go_wp2_with fail
  refine (xrnum_any H6a.out).mono ?_
  rintro e w7 ⟨x7, t7, wr7, _, rfl, ⟨rfl, _, _⟩, h1, h2, h3⟩
  have O7 := Lib.hid h3
  have s7a : yb < w7.heap.size := Nat.lt_of_lt_of_le s6a h2.size
  have Y7 := Lib.hid (Y6a.out.blk0 h2 hyr)
  have H7a := Lib.hid (h1.far (q := ⟨yb, 6, none⟩) hyr (.int .i64 x7))
  have F7a := Lib.hid ((F6a.out.trans h2).set_ (q := ⟨yb, 6, none⟩) (.inr (by simp only; omega)) (.int .i64 x7))
  have Z7a := Lib.hid ((Z6a.out.blk0 h2 hrb).far (p := ⟨yb, 6, none⟩) hyw (.int .i64 x7))
  have Y7a : Hid (Blk (w7.setCell ⟨yb, 6, none⟩ (.int .i64 x7)) yb 78 #[.int .i64 x1, .int .i64 x2, .int .i64 x3, .int .i64 x4, .int .i64 x5, .int .i64 x6, .int .i64 x7, .slice none 0 0, .slice none 0 0]) := Lib.hid (by have := Y7.out.set_ 6 (.int .i64 x7); simpa using this)
  have y7 := Y7.out.cell 6
  have g7 := Y7.out.frozen
  have l7 := Y7.out.lt
  clear h1 h2 h3 H6a F6a Z6a Y6a
  go_upto_region 6 with (fail)
  clear y7 g7 l7 Y7
  have s7b : yb < (w7.setCell ⟨yb, 6, none⟩ (.int .i64 x7)).heap.size := by simpa [World.setCell] using s7a
  generalize w7.setCell _ _ = w7a at *
  clear s7a
  have s7a := s7b
  clear s7b
  go_wp2_with fail
  refine (xrcount_any H7a.out).mono ?_
  rintro e w8 ⟨n, t8, wr8, rfl, hn, h1, h2, h3⟩
  have H8 := Lib.hid h1
  have F8 := Lib.hid (F7a.out.trans h2)
  have Z8 := Lib.hid (Z7a.out.blk0 h2 hrb)
  have Y8 := Lib.hid (Y7a.out.blk0 h2 hyr)
  have O8 := Lib.hid h3
  have hn2 : n ≤ 100000 := by obtain ⟨_, _, _, _, _, hl, hs⟩ := h1; rw [hs, List.length_drop] at hn; omega
  clear h1 h2 h3 H7a F7a Z7a Y7a hn
  go_wp2
  go_loopw [5] (fun i wr => ∃ (k : Nat) (l : List Ru) (t : S) (wrk : Bool) (U : Value), k ≤ n ∧ i = .int .i64 (k : Int) ∧ Hid (l.length = k) ∧ Hid (OwnU wr w.heap.size 125 U l) ∧ Hid (Blk wr yb 78 #[.int .i64 x1, .int .i64 x2, .int .i64 x3, .int .i64 x4, .int .i64 x5, .int .i64 x6, .int .i64 x7, U, .slice none 0 0]) ∧ Hid (Blk wr w.heap.size 78 #[.int .i64 0, .int .i64 0, .int .i64 0, .int .i64 0, .int .i64 0, .int .i64 0, .int .i64 0, .slice none 0 0, .slice none 0 0]) ∧ Hid (Rx n₀ rb V b wr t wrk) ∧ Hid (FrR rb w wr) ∧ Hid (Out (pK pR k t8) wr8 l t wrk)) (fun i _ => n - (intOf i).toNat)
  case atStart => exact ⟨0, [], t8, wr8, _, Nat.zero_le _, rfl, Lib.hid rfl, Lib.hid (OwnU.nil _ _ _), Y8, Z8, H8, F8, Lib.hid (Out.pure _ _ _)⟩
  case round =>
    obtain ⟨k, l, t, wrk, U, hk, rfl, HL, HV, HY, HZ, HR, HF, HO⟩ := hrel
    obtain ⟨p0, hB, _⟩ := HR.out
    have c2 := hB.cell 2
    have hlt0 := hB.lt
    clear hB
    by_cases hlt : k < n
    · cases wrk
      · go_upto_region 10 with (fail)
        have HRd : Hid (Rx n₀ rb V b wr.drew t false) := Lib.hid (HR.out.on (Below.drewN' (Below.refl _ _) 1))
        have HFd : Hid (FrR rb w wr.drew) := Lib.hid HF.out.drew
        have HVd : Hid (OwnU wr.drew w.heap.size 125 (U) (l)) := HV
        have HYd : Hid (Blk wr.drew yb 78 #[.int .i64 x1, .int .i64 x2, .int .i64 x3, .int .i64 x4, .int .i64 x5, .int .i64 x6, .int .i64 x7, U, .slice none 0 0]) := HY
        have HZd : Hid (Blk wr.drew w.heap.size 78 #[.int .i64 0, .int .i64 0, .int .i64 0, .int .i64 0, .int .i64 0, .int .i64 0, .int .i64 0, .slice none 0 0, .slice none 0 0]) := HZ
        refine wp_region_held_drew (S := fun _ => True) (by kernel_rfl) trivial (fun hHeld => ?_)
        refine take_d 0 44 (.pointer (some ⟨yb, 3, none⟩)) _ rfl rfl (by kernel_rfl) (by kernel_rfl) (by kernel_rfl) (fun _ _ _ h => h) (Or.inl ⟨by rfl, fun w' hSw => ?_⟩) hHeld ?_
        · go_simp
        simp only [List.setIfInBounds_toArray, List.set_cons_zero, List.set_cons_succ]
        refine take_d 1 45 (.pointer (some ⟨yb, 7, none⟩)) _ rfl rfl (by kernel_rfl) (by kernel_rfl) (by kernel_rfl) (fun _ _ _ h => h) (Or.inl ⟨by rfl, fun w' hSw => ?_⟩) hHeld ?_
        · go_simp
        simp only [List.setIfInBounds_toArray, List.set_cons_zero, List.set_cons_succ]
        refine take_d 3 47 (.pointer (some ⟨rb, 0, none⟩)) _ rfl rfl (by kernel_rfl) (by kernel_rfl) (by kernel_rfl) (fun _ _ _ h => h) (Or.inl ⟨by rfl, fun w' hSw => ?_⟩) hHeld ?_
        · go_simp
        simp only [List.setIfInBounds_toArray, List.set_cons_zero, List.set_cons_succ]
        refine wpAnyH_ready (rs := [2, 4]) (by kernel_rfl) (by simp) ?_
        refine AllReadyH.cons rfl (fun K hK => ?_) (AllReadyH.cons rfl (fun K hK => ?_) (AllReadyH.nil))
        · have q := HYd.out.cell 7
          go_simp
          refine hK.out _ _ trivial (fun hHeld => ?_)
          clear hK K q
          refine wpAnyH_ready (rs := [4]) (by kernel_rfl) (by simp) ?_
          refine AllReadyH.cons rfl (fun K hK => ?_) AllReadyH.nil
          go_simp
          refine (xrrule_any HRd.out).mono ?_
          rintro e w2 ⟨x, u, wr2, _, rfl, rfl, h1, h2, h3⟩
          have HR2 := Lib.hid h1
          have HF2 := Lib.hid (HFd.out.trans h2)
          have HO2 := Lib.hid (out_snoc HO.out h3)
          have HV2 := Lib.hid (show OwnU w2 w.heap.size 125 (U) (l) from orow_fr HVd.out h2 hrb)
          have HY2 := Lib.hid (HYd.out.blk0 h2 hyr)
          have HZ2 := Lib.hid (HZd.out.blk0 h2 hrb)
          have hsw2 : w.heap.size ≤ w2.heap.size := HF2.out.size
          have HL1 : Hid ((l ++ [x]).length = k + 1) := Lib.hid (by have := HL.out; simp; omega)
          clear h1 h2 h3
          refine hK.out _ _ trivial (fun hHeld => ?_)
          clear hK K
          refine wpAnyH_ready (rs := [5]) (by kernel_rfl) (by simp) ?_
          refine AllReadyH.cons rfl (fun K hK => ?_) AllReadyH.nil
          go_simp
          have HR3 := Lib.hid (HR2.out.alloc (.cells #[.int .i64 x.id, .int .i64 x.pr, .int .i64 x.ac, .int .i64 x.sc, .string x.pat] 125))
          have HF3 := Lib.hid (HF2.out.alloc (.cells #[.int .i64 x.id, .int .i64 x.pr, .int .i64 x.ac, .int .i64 x.sc, .string x.pat] 125))
          have HV3 := Lib.hid (show OwnU (w2.alloc (.cells #[.int .i64 x.id, .int .i64 x.pr, .int .i64 x.ac, .int .i64 x.sc, .string x.pat] 125)) w.heap.size 125 (U) (l) from World.ownsRow.alloc HV2.out _)
          have HY3 := Lib.hid (HY2.out.alloc (.cells #[.int .i64 x.id, .int .i64 x.pr, .int .i64 x.ac, .int .i64 x.sc, .string x.pat] 125))
          have HZ3 := Lib.hid (HZ2.out.alloc (.cells #[.int .i64 x.id, .int .i64 x.pr, .int .i64 x.ac, .int .i64 x.sc, .string x.pat] 125))
          refine hK.out _ _ trivial (fun hHeld => ?_)
          clear hK K
          refine wpAnyH_ready (rs := [6]) (by kernel_rfl) (by simp) ?_
          refine AllReadyH.cons rfl (fun K hK => ?_) AllReadyH.nil
          refine step_append_ruleX _ rfl 50 rfl (.tmp 46) (.tmp 49) rfl w.heap.size i0 _ 48 hi hz0 hz1 hz2 rfl U l (by simp [Act.eval]) HV3.out w2.heap.size 1 x (by simp [Act.eval]) (Blk.at_new _ _ rfl _ _) (by have := HL.out; omega) (by decide) (by simp; omega) ?_
          intro v7 w7 o7 g7
          obtain ⟨A7, c7, hv7⟩ := OwnU.form o7
          rw [show (l ++ [x]).length = l.length + 1 by simp] at hv7
          subst hv7
          have HY7 := Lib.hid (HY3.out.grown g7 (fun e => own_ne HV3.out HY3.out (by decide) e.symm))
          have HZ7 := Lib.hid (HZ3.out.grown g7 (fun e => own_ne HV3.out HZ3.out (by decide) e.symm))
          have HR7 := Lib.hid (Rx.grown HR3.out g7 (fun k hk => by have := (World.ownsRow.lt HV3.out k hk.symm).1; omega))
          have HF7 := Lib.hid (HF3.out.grown g7 (fun k hk => (World.ownsRow.lt HV3.out k hk.symm).1))
          have HV7 := Lib.hid o7
          simp only [List.setIfInBounds_toArray, List.set_cons_zero, List.set_cons_succ]
          refine hK.out _ _ trivial (fun hHeld => ?_)
          clear hK K o7 g7
          refine take_d 7 51 (.pointer (some ⟨yb, 3, none⟩)) _ rfl rfl (by kernel_rfl) (by kernel_rfl) (by kernel_rfl) (fun _ _ _ h => h) (Or.inl ⟨by rfl, fun w' hSw => ?_⟩) hHeld ?_
          · go_simp
          simp only [List.setIfInBounds_toArray, List.set_cons_zero, List.set_cons_succ]
          refine take_d 8 52 (.pointer (some ⟨yb, 7, none⟩)) _ rfl rfl (by kernel_rfl) (by kernel_rfl) (by kernel_rfl) (fun _ _ _ h => h) (Or.inl ⟨by rfl, fun w' hSw => ?_⟩) hHeld ?_
          · go_simp
          simp only [List.setIfInBounds_toArray, List.set_cons_zero, List.set_cons_succ]
          refine wpAnyH_ready (rs := [9]) (by kernel_rfl) (by simp) ?_
          refine AllReadyH.cons rfl (fun K hK => ?_) AllReadyH.nil
          have q := HY7.out.cell 7
          have fr := HY7.out.frozen
          have ly := HY7.out.lt
          go_simp
          refine hK.out _ _ trivial (fun hHeld => ?_)
          clear hK K q fr ly
          refine wpAnyH_done (by kernel_rfl) ?_ _
          have HY8 : Hid (Blk (w7.setCell ⟨yb, 7, none⟩ (.slice A7 (l.length + 1) c7)) yb 78 #[.int .i64 x1, .int .i64 x2, .int .i64 x3, .int .i64 x4, .int .i64 x5, .int .i64 x6, .int .i64 x7, .slice A7 (l.length + 1) c7, .slice none 0 0]) := Lib.hid (HY7.out.set_ 7 _)
          have HV8 := Lib.hid (show OwnU (w7.setCell ⟨yb, 7, none⟩ (.slice A7 (l.length + 1) c7)) w.heap.size 125 (.slice A7 (l.length + 1) c7) (l ++ [x]) from ownsRow_setCell_other HV7.out (a := ⟨yb, 7, none⟩) (own_ne HV7.out HY7.out (by decide)) (.slice A7 (l.length + 1) c7))
          have HZ8 := Lib.hid (HZ7.out.far (p := ⟨yb, 7, none⟩) hyw (.slice A7 (l.length + 1) c7))
          have HR8 := Lib.hid (HR7.out.far (q := ⟨yb, 7, none⟩) hyr (.slice A7 (l.length + 1) c7))
          have HF8 := Lib.hid (HF7.out.set_ (q := ⟨yb, 7, none⟩) (.inr (by simp only; omega)) (.slice A7 (l.length + 1) c7))
          go_wp2
          go_roundw
          case rel => exact ⟨k + 1, l ++ [x], u, wr2, _, by omega, by go_num, HL1, HV8, HY8, HZ8, HR8, HF8, HO2⟩
          case measure => simp [intOf]; omega
        · go_simp
          refine (xrrule_any HRd.out).mono ?_
          rintro e w2 ⟨x, u, wr2, _, rfl, rfl, h1, h2, h3⟩
          have HR2 := Lib.hid h1
          have HF2 := Lib.hid (HFd.out.trans h2)
          have HO2 := Lib.hid (out_snoc HO.out h3)
          have HV2 := Lib.hid (show OwnU w2 w.heap.size 125 (U) (l) from orow_fr HVd.out h2 hrb)
          have HY2 := Lib.hid (HYd.out.blk0 h2 hyr)
          have HZ2 := Lib.hid (HZd.out.blk0 h2 hrb)
          have hsw2 : w.heap.size ≤ w2.heap.size := HF2.out.size
          have HL1 : Hid ((l ++ [x]).length = k + 1) := Lib.hid (by have := HL.out; simp; omega)
          clear h1 h2 h3
          refine hK.out _ _ trivial (fun hHeld => ?_)
          clear hK K
          refine wpAnyH_ready (rs := [2, 5]) (by kernel_rfl) (by simp) ?_
          refine AllReadyH.cons rfl (fun K hK => ?_) (AllReadyH.cons rfl (fun K hK => ?_) (AllReadyH.nil))
          · have q := HY2.out.cell 7
            go_simp
            refine hK.out _ _ trivial (fun hHeld => ?_)
            clear hK K q
            refine wpAnyH_ready (rs := [5]) (by kernel_rfl) (by simp) ?_
            refine AllReadyH.cons rfl (fun K hK => ?_) AllReadyH.nil
            go_simp
            have HR3 := Lib.hid (HR2.out.alloc (.cells #[.int .i64 x.id, .int .i64 x.pr, .int .i64 x.ac, .int .i64 x.sc, .string x.pat] 125))
            have HF3 := Lib.hid (HF2.out.alloc (.cells #[.int .i64 x.id, .int .i64 x.pr, .int .i64 x.ac, .int .i64 x.sc, .string x.pat] 125))
            have HV3 := Lib.hid (show OwnU (w2.alloc (.cells #[.int .i64 x.id, .int .i64 x.pr, .int .i64 x.ac, .int .i64 x.sc, .string x.pat] 125)) w.heap.size 125 (U) (l) from World.ownsRow.alloc HV2.out _)
            have HY3 := Lib.hid (HY2.out.alloc (.cells #[.int .i64 x.id, .int .i64 x.pr, .int .i64 x.ac, .int .i64 x.sc, .string x.pat] 125))
            have HZ3 := Lib.hid (HZ2.out.alloc (.cells #[.int .i64 x.id, .int .i64 x.pr, .int .i64 x.ac, .int .i64 x.sc, .string x.pat] 125))
            refine hK.out _ _ trivial (fun hHeld => ?_)
            clear hK K
            refine wpAnyH_ready (rs := [6]) (by kernel_rfl) (by simp) ?_
            refine AllReadyH.cons rfl (fun K hK => ?_) AllReadyH.nil
            refine step_append_ruleX _ rfl 50 rfl (.tmp 46) (.tmp 49) rfl w.heap.size i0 _ 48 hi hz0 hz1 hz2 rfl U l (by simp [Act.eval]) HV3.out w2.heap.size 1 x (by simp [Act.eval]) (Blk.at_new _ _ rfl _ _) (by have := HL.out; omega) (by decide) (by simp; omega) ?_
            intro v7 w7 o7 g7
            obtain ⟨A7, c7, hv7⟩ := OwnU.form o7
            rw [show (l ++ [x]).length = l.length + 1 by simp] at hv7
            subst hv7
            have HY7 := Lib.hid (HY3.out.grown g7 (fun e => own_ne HV3.out HY3.out (by decide) e.symm))
            have HZ7 := Lib.hid (HZ3.out.grown g7 (fun e => own_ne HV3.out HZ3.out (by decide) e.symm))
            have HR7 := Lib.hid (Rx.grown HR3.out g7 (fun k hk => by have := (World.ownsRow.lt HV3.out k hk.symm).1; omega))
            have HF7 := Lib.hid (HF3.out.grown g7 (fun k hk => (World.ownsRow.lt HV3.out k hk.symm).1))
            have HV7 := Lib.hid o7
            simp only [List.setIfInBounds_toArray, List.set_cons_zero, List.set_cons_succ]
            refine hK.out _ _ trivial (fun hHeld => ?_)
            clear hK K o7 g7
            refine take_d 7 51 (.pointer (some ⟨yb, 3, none⟩)) _ rfl rfl (by kernel_rfl) (by kernel_rfl) (by kernel_rfl) (fun _ _ _ h => h) (Or.inl ⟨by rfl, fun w' hSw => ?_⟩) hHeld ?_
            · go_simp
            simp only [List.setIfInBounds_toArray, List.set_cons_zero, List.set_cons_succ]
            refine take_d 8 52 (.pointer (some ⟨yb, 7, none⟩)) _ rfl rfl (by kernel_rfl) (by kernel_rfl) (by kernel_rfl) (fun _ _ _ h => h) (Or.inl ⟨by rfl, fun w' hSw => ?_⟩) hHeld ?_
            · go_simp
            simp only [List.setIfInBounds_toArray, List.set_cons_zero, List.set_cons_succ]
            refine wpAnyH_ready (rs := [9]) (by kernel_rfl) (by simp) ?_
            refine AllReadyH.cons rfl (fun K hK => ?_) AllReadyH.nil
            have q := HY7.out.cell 7
            have fr := HY7.out.frozen
            have ly := HY7.out.lt
            go_simp
            refine hK.out _ _ trivial (fun hHeld => ?_)
            clear hK K q fr ly
            refine wpAnyH_done (by kernel_rfl) ?_ _
            have HY8 : Hid (Blk (w7.setCell ⟨yb, 7, none⟩ (.slice A7 (l.length + 1) c7)) yb 78 #[.int .i64 x1, .int .i64 x2, .int .i64 x3, .int .i64 x4, .int .i64 x5, .int .i64 x6, .int .i64 x7, .slice A7 (l.length + 1) c7, .slice none 0 0]) := Lib.hid (HY7.out.set_ 7 _)
            have HV8 := Lib.hid (show OwnU (w7.setCell ⟨yb, 7, none⟩ (.slice A7 (l.length + 1) c7)) w.heap.size 125 (.slice A7 (l.length + 1) c7) (l ++ [x]) from ownsRow_setCell_other HV7.out (a := ⟨yb, 7, none⟩) (own_ne HV7.out HY7.out (by decide)) (.slice A7 (l.length + 1) c7))
            have HZ8 := Lib.hid (HZ7.out.far (p := ⟨yb, 7, none⟩) hyw (.slice A7 (l.length + 1) c7))
            have HR8 := Lib.hid (HR7.out.far (q := ⟨yb, 7, none⟩) hyr (.slice A7 (l.length + 1) c7))
            have HF8 := Lib.hid (HF7.out.set_ (q := ⟨yb, 7, none⟩) (.inr (by simp only; omega)) (.slice A7 (l.length + 1) c7))
            go_wp2
            go_roundw
            case rel => exact ⟨k + 1, l ++ [x], u, wr2, _, by omega, by go_num, HL1, HV8, HY8, HZ8, HR8, HF8, HO2⟩
            case measure => simp [intOf]; omega
          · go_simp
            have HR3 := Lib.hid (HR2.out.alloc (.cells #[.int .i64 x.id, .int .i64 x.pr, .int .i64 x.ac, .int .i64 x.sc, .string x.pat] 125))
            have HF3 := Lib.hid (HF2.out.alloc (.cells #[.int .i64 x.id, .int .i64 x.pr, .int .i64 x.ac, .int .i64 x.sc, .string x.pat] 125))
            have HV3 := Lib.hid (show OwnU (w2.alloc (.cells #[.int .i64 x.id, .int .i64 x.pr, .int .i64 x.ac, .int .i64 x.sc, .string x.pat] 125)) w.heap.size 125 (U) (l) from World.ownsRow.alloc HV2.out _)
            have HY3 := Lib.hid (HY2.out.alloc (.cells #[.int .i64 x.id, .int .i64 x.pr, .int .i64 x.ac, .int .i64 x.sc, .string x.pat] 125))
            have HZ3 := Lib.hid (HZ2.out.alloc (.cells #[.int .i64 x.id, .int .i64 x.pr, .int .i64 x.ac, .int .i64 x.sc, .string x.pat] 125))
            refine hK.out _ _ trivial (fun hHeld => ?_)
            clear hK K
            refine wpAnyH_ready (rs := [2]) (by kernel_rfl) (by simp) ?_
            refine AllReadyH.cons rfl (fun K hK => ?_) AllReadyH.nil
            have q := HY3.out.cell 7
            go_simp
            refine hK.out _ _ trivial (fun hHeld => ?_)
            clear hK K q
            refine wpAnyH_ready (rs := [6]) (by kernel_rfl) (by simp) ?_
            refine AllReadyH.cons rfl (fun K hK => ?_) AllReadyH.nil
            refine step_append_ruleX _ rfl 50 rfl (.tmp 46) (.tmp 49) rfl w.heap.size i0 _ 48 hi hz0 hz1 hz2 rfl U l (by simp [Act.eval]) HV3.out w2.heap.size 1 x (by simp [Act.eval]) (Blk.at_new _ _ rfl _ _) (by have := HL.out; omega) (by decide) (by simp; omega) ?_
            intro v7 w7 o7 g7
            obtain ⟨A7, c7, hv7⟩ := OwnU.form o7
            rw [show (l ++ [x]).length = l.length + 1 by simp] at hv7
            subst hv7
            have HY7 := Lib.hid (HY3.out.grown g7 (fun e => own_ne HV3.out HY3.out (by decide) e.symm))
            have HZ7 := Lib.hid (HZ3.out.grown g7 (fun e => own_ne HV3.out HZ3.out (by decide) e.symm))
            have HR7 := Lib.hid (Rx.grown HR3.out g7 (fun k hk => by have := (World.ownsRow.lt HV3.out k hk.symm).1; omega))
            have HF7 := Lib.hid (HF3.out.grown g7 (fun k hk => (World.ownsRow.lt HV3.out k hk.symm).1))
            have HV7 := Lib.hid o7
            simp only [List.setIfInBounds_toArray, List.set_cons_zero, List.set_cons_succ]
            refine hK.out _ _ trivial (fun hHeld => ?_)
            clear hK K o7 g7
            refine take_d 7 51 (.pointer (some ⟨yb, 3, none⟩)) _ rfl rfl (by kernel_rfl) (by kernel_rfl) (by kernel_rfl) (fun _ _ _ h => h) (Or.inl ⟨by rfl, fun w' hSw => ?_⟩) hHeld ?_
            · go_simp
            simp only [List.setIfInBounds_toArray, List.set_cons_zero, List.set_cons_succ]
            refine take_d 8 52 (.pointer (some ⟨yb, 7, none⟩)) _ rfl rfl (by kernel_rfl) (by kernel_rfl) (by kernel_rfl) (fun _ _ _ h => h) (Or.inl ⟨by rfl, fun w' hSw => ?_⟩) hHeld ?_
            · go_simp
            simp only [List.setIfInBounds_toArray, List.set_cons_zero, List.set_cons_succ]
            refine wpAnyH_ready (rs := [9]) (by kernel_rfl) (by simp) ?_
            refine AllReadyH.cons rfl (fun K hK => ?_) AllReadyH.nil
            have q := HY7.out.cell 7
            have fr := HY7.out.frozen
            have ly := HY7.out.lt
            go_simp
            refine hK.out _ _ trivial (fun hHeld => ?_)
            clear hK K q fr ly
            refine wpAnyH_done (by kernel_rfl) ?_ _
            have HY8 : Hid (Blk (w7.setCell ⟨yb, 7, none⟩ (.slice A7 (l.length + 1) c7)) yb 78 #[.int .i64 x1, .int .i64 x2, .int .i64 x3, .int .i64 x4, .int .i64 x5, .int .i64 x6, .int .i64 x7, .slice A7 (l.length + 1) c7, .slice none 0 0]) := Lib.hid (HY7.out.set_ 7 _)
            have HV8 := Lib.hid (show OwnU (w7.setCell ⟨yb, 7, none⟩ (.slice A7 (l.length + 1) c7)) w.heap.size 125 (.slice A7 (l.length + 1) c7) (l ++ [x]) from ownsRow_setCell_other HV7.out (a := ⟨yb, 7, none⟩) (own_ne HV7.out HY7.out (by decide)) (.slice A7 (l.length + 1) c7))
            have HZ8 := Lib.hid (HZ7.out.far (p := ⟨yb, 7, none⟩) hyw (.slice A7 (l.length + 1) c7))
            have HR8 := Lib.hid (HR7.out.far (q := ⟨yb, 7, none⟩) hyr (.slice A7 (l.length + 1) c7))
            have HF8 := Lib.hid (HF7.out.set_ (q := ⟨yb, 7, none⟩) (.inr (by simp only; omega)) (.slice A7 (l.length + 1) c7))
            go_wp2
            go_roundw
            case rel => exact ⟨k + 1, l ++ [x], u, wr2, _, by omega, by go_num, HL1, HV8, HY8, HZ8, HR8, HF8, HO2⟩
            case measure => simp [intOf]; omega
      · have HOL : Hid (Out (pL pR t7) wr7 l t true) := Lib.hid (Out.bind O8.out (out_gone HO.out hk l t))
        obtain ⟨l5, e5⟩ : ∃ l5, l5 = l := ⟨_, rfl⟩
        subst e5
        obtain ⟨tA, eA⟩ : ∃ tA, tA = t := ⟨_, rfl⟩
        subst eA
        obtain ⟨A5, c5, hv5⟩ := OwnU.form HV.out
        subst hv5
        have HOL5 := HOL
        go_wp2_with fail
        refine (xrcount_any HR.out).mono ?_
        rintro e w9 ⟨n9, t9, wr9, rfl, hn9, h1, h2, h3⟩
        have H9 := Lib.hid h1
        have F9 := Lib.hid (HF.out.trans h2)
        have Z9 := Lib.hid (HZ.out.blk0 h2 hrb)
        have Y9 := Lib.hid (HY.out.blk0 h2 hyr)
        have P9 := Lib.hid (show OwnU w9 w.heap.size 125 (.slice A5 l5.length c5) l5 from orow_fr HV.out h2 hrb)
        have O9 := Lib.hid h3
        have hn3 : n9 ≤ 100000 := by obtain ⟨_, _, _, _, _, hl, hs⟩ := h1; rw [hs, List.length_drop] at hn9; omega
        clear h1 h2 h3 hn9 HR HF HZ HY HV HO HL HOL c2 hlt0
        go_wp2
        go_loopw [6] (fun i wr => ∃ (k : Nat) (l : List Int) (t : S) (wrk : Bool) (U : Value), k ≤ n9 ∧ i = .int .i64 (k : Int) ∧ Hid (l.length = k) ∧ Hid (LIntV w.heap.size wr U l) ∧ Hid (Blk wr yb 78 #[.int .i64 x1, .int .i64 x2, .int .i64 x3, .int .i64 x4, .int .i64 x5, .int .i64 x6, .int .i64 x7, .slice A5 l5.length c5, U]) ∧ Hid (Blk wr w.heap.size 78 #[.int .i64 0, .int .i64 0, .int .i64 0, .int .i64 0, .int .i64 0, .int .i64 0, .int .i64 0, .slice none 0 0, .slice none 0 0]) ∧ Hid (OwnU wr w.heap.size 125 (.slice A5 l5.length c5) l5) ∧ Hid (Rx n₀ rb V b wr t wrk) ∧ Hid (FrR rb w wr) ∧ Hid (Out (pK pN k t9) wr9 l t wrk)) (fun i _ => n9 - (intOf i).toNat)
        case atStart => exact ⟨0, [], t9, wr9, _, Nat.zero_le _, rfl, Lib.hid rfl, Lib.hid (World.ownsRow_nil _ _ _ _), Y9, Z9, P9, H9, F9, Lib.hid (Out.pure _ _ _)⟩
        case round =>
          obtain ⟨k, l, t, wrk, U, hk, rfl, HL, HV, HY, HZ, HP, HR, HF, HO⟩ := hrel
          obtain ⟨p0, hB, _⟩ := HR.out
          have c2 := hB.cell 2
          have hlt0 := hB.lt
          clear hB
          by_cases hlt : k < n9
          · cases wrk
            · go_upto_region 15 with (fail)
              have HRd : Hid (Rx n₀ rb V b wr.drew t false) := Lib.hid (HR.out.on (Below.drewN' (Below.refl _ _) 1))
              have HFd : Hid (FrR rb w wr.drew) := Lib.hid HF.out.drew
              have HVd : Hid (LIntV w.heap.size wr.drew (U) (l)) := HV
              have HYd : Hid (Blk wr.drew yb 78 #[.int .i64 x1, .int .i64 x2, .int .i64 x3, .int .i64 x4, .int .i64 x5, .int .i64 x6, .int .i64 x7, .slice A5 l5.length c5, U]) := HY
              have HZd : Hid (Blk wr.drew w.heap.size 78 #[.int .i64 0, .int .i64 0, .int .i64 0, .int .i64 0, .int .i64 0, .int .i64 0, .int .i64 0, .slice none 0 0, .slice none 0 0]) := HZ
              have HPd : Hid (OwnU wr.drew w.heap.size 125 (.slice A5 l5.length c5) l5) := HP
              refine wp_region_held_drew (S := fun _ => True) (by kernel_rfl) trivial (fun hHeld => ?_)
              refine take_d 0 67 (.pointer (some ⟨yb, 3, none⟩)) _ rfl rfl (by kernel_rfl) (by kernel_rfl) (by kernel_rfl) (fun _ _ _ h => h) (Or.inl ⟨by rfl, fun w' hSw => ?_⟩) hHeld ?_
              · go_simp
              simp only [List.setIfInBounds_toArray, List.set_cons_zero, List.set_cons_succ]
              refine take_d 1 68 (.pointer (some ⟨yb, 8, none⟩)) _ rfl rfl (by kernel_rfl) (by kernel_rfl) (by kernel_rfl) (fun _ _ _ h => h) (Or.inl ⟨by rfl, fun w' hSw => ?_⟩) hHeld ?_
              · go_simp
              simp only [List.setIfInBounds_toArray, List.set_cons_zero, List.set_cons_succ]
              refine take_d 3 70 (.pointer (some ⟨rb, 0, none⟩)) _ rfl rfl (by kernel_rfl) (by kernel_rfl) (by kernel_rfl) (fun _ _ _ h => h) (Or.inl ⟨by rfl, fun w' hSw => ?_⟩) hHeld ?_
              · go_simp
              simp only [List.setIfInBounds_toArray, List.set_cons_zero, List.set_cons_succ]
              refine wpAnyH_ready (rs := [2, 4]) (by kernel_rfl) (by simp) ?_
              refine AllReadyH.cons rfl (fun K hK => ?_) (AllReadyH.cons rfl (fun K hK => ?_) (AllReadyH.nil))
              · have q := HYd.out.cell 8
                go_simp
                refine hK.out _ _ trivial (fun hHeld => ?_)
                clear hK K q
                refine wpAnyH_ready (rs := [4]) (by kernel_rfl) (by simp) ?_
                refine AllReadyH.cons rfl (fun K hK => ?_) AllReadyH.nil
                go_simp
                refine (xrnum_any HRd.out).mono ?_
                rintro e w2 ⟨x, u, wr2, _, rfl, ⟨rfl, _, _⟩, h1, h2, h3⟩
                have HR2 := Lib.hid h1
                have HF2 := Lib.hid (HFd.out.trans h2)
                have HO2 := Lib.hid (out_snoc HO.out h3)
                have HV2 := Lib.hid (show LIntV w.heap.size w2 (U) (l) from orow_fr HVd.out h2 hrb)
                have HY2 := Lib.hid (HYd.out.blk0 h2 hyr)
                have HZ2 := Lib.hid (HZd.out.blk0 h2 hrb)
                have hsw2 : w.heap.size ≤ w2.heap.size := HF2.out.size
                have HL1 : Hid ((l ++ [x]).length = k + 1) := Lib.hid (by have := HL.out; simp; omega)
                have HP2 := Lib.hid (show OwnU w2 w.heap.size 125 (.slice A5 l5.length c5) l5 from orow_fr HPd.out h2 hrb)
                clear h1 h2 h3
                refine hK.out _ _ trivial (fun hHeld => ?_)
                clear hK K
                refine wpAnyH_ready (rs := [5]) (by kernel_rfl) (by simp) ?_
                refine AllReadyH.cons rfl (fun K hK => ?_) AllReadyH.nil
                go_simp
                have HR3 := Lib.hid (HR2.out.alloc (.cells #[.int .i64 x] 3))
                have HF3 := Lib.hid (HF2.out.alloc (.cells #[.int .i64 x] 3))
                have HV3 := Lib.hid (show LIntV w.heap.size (w2.alloc (.cells #[.int .i64 x] 3)) (U) (l) from World.ownsRow.alloc HV2.out _)
                have HY3 := Lib.hid (HY2.out.alloc (.cells #[.int .i64 x] 3))
                have HZ3 := Lib.hid (HZ2.out.alloc (.cells #[.int .i64 x] 3))
                have HP3 := Lib.hid (show OwnU (w2.alloc (.cells #[.int .i64 x] 3)) w.heap.size 125 (.slice A5 l5.length c5) l5 from World.ownsRow.alloc HP2.out _)
                refine hK.out _ _ trivial (fun hHeld => ?_)
                clear hK K
                refine wpAnyH_ready (rs := [6]) (by kernel_rfl) (by simp) ?_
                refine AllReadyH.cons rfl (fun K hK => ?_) AllReadyH.nil
                refine step_append_intX _ rfl 73 rfl (.tmp 69) (.tmp 72) rfl w.heap.size i1 hj hj0 hj1 hj2 U l (by simp [Act.eval]) HV3.out w2.heap.size 1 x (by simp [Act.eval]) (Blk.at_new _ _ rfl _ _) (by have := HL.out; omega) (by simp; omega) ?_
                intro v7 w7 o7 g7
                obtain ⟨A7, c7, hv7⟩ := orow_form o7
                rw [show (l ++ [x]).length = l.length + 1 by simp] at hv7
                subst hv7
                have HY7 := Lib.hid (HY3.out.grown g7 (fun e => own_ne HV3.out HY3.out (by decide) e.symm))
                have HZ7 := Lib.hid (HZ3.out.grown g7 (fun e => own_ne HV3.out HZ3.out (by decide) e.symm))
                have HR7 := Lib.hid (Rx.grown HR3.out g7 (fun k hk => by have := (World.ownsRow.lt HV3.out k hk.symm).1; omega))
                have HF7 := Lib.hid (HF3.out.grown g7 (fun k hk => (World.ownsRow.lt HV3.out k hk.symm).1))
                have HV7 := Lib.hid o7
                have HP7 := Lib.hid (show OwnU w7 w.heap.size 125 (.slice A5 l5.length c5) l5 from own_grown HP3.out HV3.out (by decide) g7)
                simp only [List.setIfInBounds_toArray, List.set_cons_zero, List.set_cons_succ]
                refine hK.out _ _ trivial (fun hHeld => ?_)
                clear hK K o7 g7
                refine take_d 7 74 (.pointer (some ⟨yb, 3, none⟩)) _ rfl rfl (by kernel_rfl) (by kernel_rfl) (by kernel_rfl) (fun _ _ _ h => h) (Or.inl ⟨by rfl, fun w' hSw => ?_⟩) hHeld ?_
                · go_simp
                simp only [List.setIfInBounds_toArray, List.set_cons_zero, List.set_cons_succ]
                refine take_d 8 75 (.pointer (some ⟨yb, 8, none⟩)) _ rfl rfl (by kernel_rfl) (by kernel_rfl) (by kernel_rfl) (fun _ _ _ h => h) (Or.inl ⟨by rfl, fun w' hSw => ?_⟩) hHeld ?_
                · go_simp
                simp only [List.setIfInBounds_toArray, List.set_cons_zero, List.set_cons_succ]
                refine wpAnyH_ready (rs := [9]) (by kernel_rfl) (by simp) ?_
                refine AllReadyH.cons rfl (fun K hK => ?_) AllReadyH.nil
                have q := HY7.out.cell 8
                have fr := HY7.out.frozen
                have ly := HY7.out.lt
                go_simp
                refine hK.out _ _ trivial (fun hHeld => ?_)
                clear hK K q fr ly
                refine wpAnyH_done (by kernel_rfl) ?_ _
                have HY8 : Hid (Blk (w7.setCell ⟨yb, 8, none⟩ (.slice A7 (l.length + 1) c7)) yb 78 #[.int .i64 x1, .int .i64 x2, .int .i64 x3, .int .i64 x4, .int .i64 x5, .int .i64 x6, .int .i64 x7, .slice A5 l5.length c5, .slice A7 (l.length + 1) c7]) := Lib.hid (HY7.out.set_ 8 _)
                have HV8 := Lib.hid (show LIntV w.heap.size (w7.setCell ⟨yb, 8, none⟩ (.slice A7 (l.length + 1) c7)) (.slice A7 (l.length + 1) c7) (l ++ [x]) from ownsRow_setCell_other HV7.out (a := ⟨yb, 8, none⟩) (own_ne HV7.out HY7.out (by decide)) (.slice A7 (l.length + 1) c7))
                have HZ8 := Lib.hid (HZ7.out.far (p := ⟨yb, 8, none⟩) hyw (.slice A7 (l.length + 1) c7))
                have HR8 := Lib.hid (HR7.out.far (q := ⟨yb, 8, none⟩) hyr (.slice A7 (l.length + 1) c7))
                have HF8 := Lib.hid (HF7.out.set_ (q := ⟨yb, 8, none⟩) (.inr (by simp only; omega)) (.slice A7 (l.length + 1) c7))
                have HP8 := Lib.hid (show OwnU (w7.setCell ⟨yb, 8, none⟩ (.slice A7 (l.length + 1) c7)) w.heap.size 125 (.slice A5 l5.length c5) l5 from ownsRow_setCell_other HP7.out (a := ⟨yb, 8, none⟩) (own_ne HP7.out HY7.out (by decide)) (.slice A7 (l.length + 1) c7))
                go_wp2
                go_roundw
                case rel => exact ⟨k + 1, l ++ [x], u, wr2, _, by omega, by go_num, HL1, HV8, HY8, HZ8, HP8, HR8, HF8, HO2⟩
                case measure => simp [intOf]; omega
              · go_simp
                refine (xrnum_any HRd.out).mono ?_
                rintro e w2 ⟨x, u, wr2, _, rfl, ⟨rfl, _, _⟩, h1, h2, h3⟩
                have HR2 := Lib.hid h1
                have HF2 := Lib.hid (HFd.out.trans h2)
                have HO2 := Lib.hid (out_snoc HO.out h3)
                have HV2 := Lib.hid (show LIntV w.heap.size w2 (U) (l) from orow_fr HVd.out h2 hrb)
                have HY2 := Lib.hid (HYd.out.blk0 h2 hyr)
                have HZ2 := Lib.hid (HZd.out.blk0 h2 hrb)
                have hsw2 : w.heap.size ≤ w2.heap.size := HF2.out.size
                have HL1 : Hid ((l ++ [x]).length = k + 1) := Lib.hid (by have := HL.out; simp; omega)
                have HP2 := Lib.hid (show OwnU w2 w.heap.size 125 (.slice A5 l5.length c5) l5 from orow_fr HPd.out h2 hrb)
                clear h1 h2 h3
                refine hK.out _ _ trivial (fun hHeld => ?_)
                clear hK K
                refine wpAnyH_ready (rs := [2, 5]) (by kernel_rfl) (by simp) ?_
                refine AllReadyH.cons rfl (fun K hK => ?_) (AllReadyH.cons rfl (fun K hK => ?_) (AllReadyH.nil))
                · have q := HY2.out.cell 8
                  go_simp
                  refine hK.out _ _ trivial (fun hHeld => ?_)
                  clear hK K q
                  refine wpAnyH_ready (rs := [5]) (by kernel_rfl) (by simp) ?_
                  refine AllReadyH.cons rfl (fun K hK => ?_) AllReadyH.nil
                  go_simp
                  have HR3 := Lib.hid (HR2.out.alloc (.cells #[.int .i64 x] 3))
                  have HF3 := Lib.hid (HF2.out.alloc (.cells #[.int .i64 x] 3))
                  have HV3 := Lib.hid (show LIntV w.heap.size (w2.alloc (.cells #[.int .i64 x] 3)) (U) (l) from World.ownsRow.alloc HV2.out _)
                  have HY3 := Lib.hid (HY2.out.alloc (.cells #[.int .i64 x] 3))
                  have HZ3 := Lib.hid (HZ2.out.alloc (.cells #[.int .i64 x] 3))
                  have HP3 := Lib.hid (show OwnU (w2.alloc (.cells #[.int .i64 x] 3)) w.heap.size 125 (.slice A5 l5.length c5) l5 from World.ownsRow.alloc HP2.out _)
                  refine hK.out _ _ trivial (fun hHeld => ?_)
                  clear hK K
                  refine wpAnyH_ready (rs := [6]) (by kernel_rfl) (by simp) ?_
                  refine AllReadyH.cons rfl (fun K hK => ?_) AllReadyH.nil
                  refine step_append_intX _ rfl 73 rfl (.tmp 69) (.tmp 72) rfl w.heap.size i1 hj hj0 hj1 hj2 U l (by simp [Act.eval]) HV3.out w2.heap.size 1 x (by simp [Act.eval]) (Blk.at_new _ _ rfl _ _) (by have := HL.out; omega) (by simp; omega) ?_
                  intro v7 w7 o7 g7
                  obtain ⟨A7, c7, hv7⟩ := orow_form o7
                  rw [show (l ++ [x]).length = l.length + 1 by simp] at hv7
                  subst hv7
                  have HY7 := Lib.hid (HY3.out.grown g7 (fun e => own_ne HV3.out HY3.out (by decide) e.symm))
                  have HZ7 := Lib.hid (HZ3.out.grown g7 (fun e => own_ne HV3.out HZ3.out (by decide) e.symm))
                  have HR7 := Lib.hid (Rx.grown HR3.out g7 (fun k hk => by have := (World.ownsRow.lt HV3.out k hk.symm).1; omega))
                  have HF7 := Lib.hid (HF3.out.grown g7 (fun k hk => (World.ownsRow.lt HV3.out k hk.symm).1))
                  have HV7 := Lib.hid o7
                  have HP7 := Lib.hid (show OwnU w7 w.heap.size 125 (.slice A5 l5.length c5) l5 from own_grown HP3.out HV3.out (by decide) g7)
                  simp only [List.setIfInBounds_toArray, List.set_cons_zero, List.set_cons_succ]
                  refine hK.out _ _ trivial (fun hHeld => ?_)
                  clear hK K o7 g7
                  refine take_d 7 74 (.pointer (some ⟨yb, 3, none⟩)) _ rfl rfl (by kernel_rfl) (by kernel_rfl) (by kernel_rfl) (fun _ _ _ h => h) (Or.inl ⟨by rfl, fun w' hSw => ?_⟩) hHeld ?_
                  · go_simp
                  simp only [List.setIfInBounds_toArray, List.set_cons_zero, List.set_cons_succ]
                  refine take_d 8 75 (.pointer (some ⟨yb, 8, none⟩)) _ rfl rfl (by kernel_rfl) (by kernel_rfl) (by kernel_rfl) (fun _ _ _ h => h) (Or.inl ⟨by rfl, fun w' hSw => ?_⟩) hHeld ?_
                  · go_simp
                  simp only [List.setIfInBounds_toArray, List.set_cons_zero, List.set_cons_succ]
                  refine wpAnyH_ready (rs := [9]) (by kernel_rfl) (by simp) ?_
                  refine AllReadyH.cons rfl (fun K hK => ?_) AllReadyH.nil
                  have q := HY7.out.cell 8
                  have fr := HY7.out.frozen
                  have ly := HY7.out.lt
                  go_simp
                  refine hK.out _ _ trivial (fun hHeld => ?_)
                  clear hK K q fr ly
                  refine wpAnyH_done (by kernel_rfl) ?_ _
                  have HY8 : Hid (Blk (w7.setCell ⟨yb, 8, none⟩ (.slice A7 (l.length + 1) c7)) yb 78 #[.int .i64 x1, .int .i64 x2, .int .i64 x3, .int .i64 x4, .int .i64 x5, .int .i64 x6, .int .i64 x7, .slice A5 l5.length c5, .slice A7 (l.length + 1) c7]) := Lib.hid (HY7.out.set_ 8 _)
                  have HV8 := Lib.hid (show LIntV w.heap.size (w7.setCell ⟨yb, 8, none⟩ (.slice A7 (l.length + 1) c7)) (.slice A7 (l.length + 1) c7) (l ++ [x]) from ownsRow_setCell_other HV7.out (a := ⟨yb, 8, none⟩) (own_ne HV7.out HY7.out (by decide)) (.slice A7 (l.length + 1) c7))
                  have HZ8 := Lib.hid (HZ7.out.far (p := ⟨yb, 8, none⟩) hyw (.slice A7 (l.length + 1) c7))
                  have HR8 := Lib.hid (HR7.out.far (q := ⟨yb, 8, none⟩) hyr (.slice A7 (l.length + 1) c7))
                  have HF8 := Lib.hid (HF7.out.set_ (q := ⟨yb, 8, none⟩) (.inr (by simp only; omega)) (.slice A7 (l.length + 1) c7))
                  have HP8 := Lib.hid (show OwnU (w7.setCell ⟨yb, 8, none⟩ (.slice A7 (l.length + 1) c7)) w.heap.size 125 (.slice A5 l5.length c5) l5 from ownsRow_setCell_other HP7.out (a := ⟨yb, 8, none⟩) (own_ne HP7.out HY7.out (by decide)) (.slice A7 (l.length + 1) c7))
                  go_wp2
                  go_roundw
                  case rel => exact ⟨k + 1, l ++ [x], u, wr2, _, by omega, by go_num, HL1, HV8, HY8, HZ8, HP8, HR8, HF8, HO2⟩
                  case measure => simp [intOf]; omega
                · go_simp
                  have HR3 := Lib.hid (HR2.out.alloc (.cells #[.int .i64 x] 3))
                  have HF3 := Lib.hid (HF2.out.alloc (.cells #[.int .i64 x] 3))
                  have HV3 := Lib.hid (show LIntV w.heap.size (w2.alloc (.cells #[.int .i64 x] 3)) (U) (l) from World.ownsRow.alloc HV2.out _)
                  have HY3 := Lib.hid (HY2.out.alloc (.cells #[.int .i64 x] 3))
                  have HZ3 := Lib.hid (HZ2.out.alloc (.cells #[.int .i64 x] 3))
                  have HP3 := Lib.hid (show OwnU (w2.alloc (.cells #[.int .i64 x] 3)) w.heap.size 125 (.slice A5 l5.length c5) l5 from World.ownsRow.alloc HP2.out _)
                  refine hK.out _ _ trivial (fun hHeld => ?_)
                  clear hK K
                  refine wpAnyH_ready (rs := [2]) (by kernel_rfl) (by simp) ?_
                  refine AllReadyH.cons rfl (fun K hK => ?_) AllReadyH.nil
                  have q := HY3.out.cell 8
                  go_simp
                  refine hK.out _ _ trivial (fun hHeld => ?_)
                  clear hK K q
                  refine wpAnyH_ready (rs := [6]) (by kernel_rfl) (by simp) ?_
                  refine AllReadyH.cons rfl (fun K hK => ?_) AllReadyH.nil
                  refine step_append_intX _ rfl 73 rfl (.tmp 69) (.tmp 72) rfl w.heap.size i1 hj hj0 hj1 hj2 U l (by simp [Act.eval]) HV3.out w2.heap.size 1 x (by simp [Act.eval]) (Blk.at_new _ _ rfl _ _) (by have := HL.out; omega) (by simp; omega) ?_
                  intro v7 w7 o7 g7
                  obtain ⟨A7, c7, hv7⟩ := orow_form o7
                  rw [show (l ++ [x]).length = l.length + 1 by simp] at hv7
                  subst hv7
                  have HY7 := Lib.hid (HY3.out.grown g7 (fun e => own_ne HV3.out HY3.out (by decide) e.symm))
                  have HZ7 := Lib.hid (HZ3.out.grown g7 (fun e => own_ne HV3.out HZ3.out (by decide) e.symm))
                  have HR7 := Lib.hid (Rx.grown HR3.out g7 (fun k hk => by have := (World.ownsRow.lt HV3.out k hk.symm).1; omega))
                  have HF7 := Lib.hid (HF3.out.grown g7 (fun k hk => (World.ownsRow.lt HV3.out k hk.symm).1))
                  have HV7 := Lib.hid o7
                  have HP7 := Lib.hid (show OwnU w7 w.heap.size 125 (.slice A5 l5.length c5) l5 from own_grown HP3.out HV3.out (by decide) g7)
                  simp only [List.setIfInBounds_toArray, List.set_cons_zero, List.set_cons_succ]
                  refine hK.out _ _ trivial (fun hHeld => ?_)
                  clear hK K o7 g7
                  refine take_d 7 74 (.pointer (some ⟨yb, 3, none⟩)) _ rfl rfl (by kernel_rfl) (by kernel_rfl) (by kernel_rfl) (fun _ _ _ h => h) (Or.inl ⟨by rfl, fun w' hSw => ?_⟩) hHeld ?_
                  · go_simp
                  simp only [List.setIfInBounds_toArray, List.set_cons_zero, List.set_cons_succ]
                  refine take_d 8 75 (.pointer (some ⟨yb, 8, none⟩)) _ rfl rfl (by kernel_rfl) (by kernel_rfl) (by kernel_rfl) (fun _ _ _ h => h) (Or.inl ⟨by rfl, fun w' hSw => ?_⟩) hHeld ?_
                  · go_simp
                  simp only [List.setIfInBounds_toArray, List.set_cons_zero, List.set_cons_succ]
                  refine wpAnyH_ready (rs := [9]) (by kernel_rfl) (by simp) ?_
                  refine AllReadyH.cons rfl (fun K hK => ?_) AllReadyH.nil
                  have q := HY7.out.cell 8
                  have fr := HY7.out.frozen
                  have ly := HY7.out.lt
                  go_simp
                  refine hK.out _ _ trivial (fun hHeld => ?_)
                  clear hK K q fr ly
                  refine wpAnyH_done (by kernel_rfl) ?_ _
                  have HY8 : Hid (Blk (w7.setCell ⟨yb, 8, none⟩ (.slice A7 (l.length + 1) c7)) yb 78 #[.int .i64 x1, .int .i64 x2, .int .i64 x3, .int .i64 x4, .int .i64 x5, .int .i64 x6, .int .i64 x7, .slice A5 l5.length c5, .slice A7 (l.length + 1) c7]) := Lib.hid (HY7.out.set_ 8 _)
                  have HV8 := Lib.hid (show LIntV w.heap.size (w7.setCell ⟨yb, 8, none⟩ (.slice A7 (l.length + 1) c7)) (.slice A7 (l.length + 1) c7) (l ++ [x]) from ownsRow_setCell_other HV7.out (a := ⟨yb, 8, none⟩) (own_ne HV7.out HY7.out (by decide)) (.slice A7 (l.length + 1) c7))
                  have HZ8 := Lib.hid (HZ7.out.far (p := ⟨yb, 8, none⟩) hyw (.slice A7 (l.length + 1) c7))
                  have HR8 := Lib.hid (HR7.out.far (q := ⟨yb, 8, none⟩) hyr (.slice A7 (l.length + 1) c7))
                  have HF8 := Lib.hid (HF7.out.set_ (q := ⟨yb, 8, none⟩) (.inr (by simp only; omega)) (.slice A7 (l.length + 1) c7))
                  have HP8 := Lib.hid (show OwnU (w7.setCell ⟨yb, 8, none⟩ (.slice A7 (l.length + 1) c7)) w.heap.size 125 (.slice A5 l5.length c5) l5 from ownsRow_setCell_other HP7.out (a := ⟨yb, 8, none⟩) (own_ne HP7.out HY7.out (by decide)) (.slice A7 (l.length + 1) c7))
                  go_wp2
                  go_roundw
                  case rel => exact ⟨k + 1, l ++ [x], u, wr2, _, by omega, by go_num, HL1, HV8, HY8, HZ8, HP8, HR8, HF8, HO2⟩
                  case measure => simp [intOf]; omega
            · have HOL : Hid (Out (pL pN tA) true l t true) := Lib.hid (Out.bind O9.out (out_gone HO.out hk l t))
              obtain ⟨A6, c6, hv6⟩ := orow_form HV.out
              subst hv6
              have OD : Hid (Out (pD t3) wr3 ⟨x4, x5, x6, x7, l5, l⟩ t true) := Lib.hid (by unfold pD; exact Out.bind O4.out (Out.bind O5.out (Out.bind O6.out (Out.bind O7.out (Out.bind HOL5.out (Out.bind HOL.out (Out.pure _ _ _)))))))
              have HN1 := Lib.hid (own_ne HP.out HZ.out (by decide))
              have HN2 := Lib.hid (own_ne HV.out HZ.out (by decide))
              have z0 := HZ.out.cell 0
              have z1 := HZ.out.cell 1
              have z2 := HZ.out.cell 2
              have z3 := HZ.out.cell 3
              have z4 := HZ.out.cell 4
              have z5 := HZ.out.cell 5
              have z6 := HZ.out.cell 6
              have z7 := HZ.out.cell 7
              have z8 := HZ.out.cell 8
              have y0 := HY.out.cell 0
              have y1 := HY.out.cell 1
              have y2 := HY.out.cell 2
              have y3 := HY.out.cell 3
              have y4 := HY.out.cell 4
              have y5 := HY.out.cell 5
              have y6 := HY.out.cell 6
              have y7 := HY.out.cell 7
              have y8 := HY.out.cell 8
              have fz := HZ.out.frozen
              have lz := HZ.out.lt
              have ly := HY.out.lt
              go_wp2
              refine bodyPost_ret (v := .agg #[.int .i64 x1, .int .i64 x2, .int .i64 x3, .int .i64 x4, .int .i64 x5, .int .i64 x6, .int .i64 x7, .slice A5 l5.length c5, .slice A6 l.length c6]) (by simp [results, Tryz.results48, go_sem, *]) rfl ⟨⟨x1, x2, x3, x4, x5, x6, x7, l5, l⟩, t, true, _, rfl, ⟨A5, c5, A6, c6, rfl, ?_, ?_⟩, (((((((((HR.out).far (q := ⟨w.heap.size, 0, none⟩) hrb _).far (q := ⟨w.heap.size, 1, none⟩) hrb _).far (q := ⟨w.heap.size, 2, none⟩) hrb _).far (q := ⟨w.heap.size, 3, none⟩) hrb _).far (q := ⟨w.heap.size, 4, none⟩) hrb _).far (q := ⟨w.heap.size, 5, none⟩) hrb _).far (q := ⟨w.heap.size, 6, none⟩) hrb _).far (q := ⟨w.heap.size, 7, none⟩) hrb _).far (q := ⟨w.heap.size, 8, none⟩) hrb _, (((((((((HF.out).set_ (q := ⟨w.heap.size, 0, none⟩) (.inr (Nat.le_refl _)) _).set_ (q := ⟨w.heap.size, 1, none⟩) (.inr (Nat.le_refl _)) _).set_ (q := ⟨w.heap.size, 2, none⟩) (.inr (Nat.le_refl _)) _).set_ (q := ⟨w.heap.size, 3, none⟩) (.inr (Nat.le_refl _)) _).set_ (q := ⟨w.heap.size, 4, none⟩) (.inr (Nat.le_refl _)) _).set_ (q := ⟨w.heap.size, 5, none⟩) (.inr (Nat.le_refl _)) _).set_ (q := ⟨w.heap.size, 6, none⟩) (.inr (Nat.le_refl _)) _).set_ (q := ⟨w.heap.size, 7, none⟩) (.inr (Nat.le_refl _)) _).set_ (q := ⟨w.heap.size, 8, none⟩) (.inr (Nat.le_refl _)) _, Out.bind O1.out (Out.bind O2.out (Out.bind O3.out (Out.bind OD.out (Out.pure _ _ _))))⟩
              · exact ownsRow_setCell_other (ownsRow_setCell_other (ownsRow_setCell_other (ownsRow_setCell_other (ownsRow_setCell_other (ownsRow_setCell_other (ownsRow_setCell_other (ownsRow_setCell_other (ownsRow_setCell_other (HP.out) (a := ⟨w.heap.size, 0, none⟩) HN1.out _) (a := ⟨w.heap.size, 1, none⟩) HN1.out _) (a := ⟨w.heap.size, 2, none⟩) HN1.out _) (a := ⟨w.heap.size, 3, none⟩) HN1.out _) (a := ⟨w.heap.size, 4, none⟩) HN1.out _) (a := ⟨w.heap.size, 5, none⟩) HN1.out _) (a := ⟨w.heap.size, 6, none⟩) HN1.out _) (a := ⟨w.heap.size, 7, none⟩) HN1.out _) (a := ⟨w.heap.size, 8, none⟩) HN1.out _
              · exact ownsRow_setCell_other (ownsRow_setCell_other (ownsRow_setCell_other (ownsRow_setCell_other (ownsRow_setCell_other (ownsRow_setCell_other (ownsRow_setCell_other (ownsRow_setCell_other (ownsRow_setCell_other (HV.out) (a := ⟨w.heap.size, 0, none⟩) HN2.out _) (a := ⟨w.heap.size, 1, none⟩) HN2.out _) (a := ⟨w.heap.size, 2, none⟩) HN2.out _) (a := ⟨w.heap.size, 3, none⟩) HN2.out _) (a := ⟨w.heap.size, 4, none⟩) HN2.out _) (a := ⟨w.heap.size, 5, none⟩) HN2.out _) (a := ⟨w.heap.size, 6, none⟩) HN2.out _) (a := ⟨w.heap.size, 7, none⟩) HN2.out _) (a := ⟨w.heap.size, 8, none⟩) HN2.out _
          · obtain rfl : k = n9 := by omega
            have HOL : Hid (Out (pL pN tA) true l t wrk) := Lib.hid (Out.bind O9.out HO.out)
            obtain ⟨A6, c6, hv6⟩ := orow_form HV.out
            subst hv6
            have OD : Hid (Out (pD t3) wr3 ⟨x4, x5, x6, x7, l5, l⟩ t wrk) := Lib.hid (by unfold pD; exact Out.bind O4.out (Out.bind O5.out (Out.bind O6.out (Out.bind O7.out (Out.bind HOL5.out (Out.bind HOL.out (Out.pure _ _ _)))))))
            have HN1 := Lib.hid (own_ne HP.out HZ.out (by decide))
            have HN2 := Lib.hid (own_ne HV.out HZ.out (by decide))
            have z0 := HZ.out.cell 0
            have z1 := HZ.out.cell 1
            have z2 := HZ.out.cell 2
            have z3 := HZ.out.cell 3
            have z4 := HZ.out.cell 4
            have z5 := HZ.out.cell 5
            have z6 := HZ.out.cell 6
            have z7 := HZ.out.cell 7
            have z8 := HZ.out.cell 8
            have y0 := HY.out.cell 0
            have y1 := HY.out.cell 1
            have y2 := HY.out.cell 2
            have y3 := HY.out.cell 3
            have y4 := HY.out.cell 4
            have y5 := HY.out.cell 5
            have y6 := HY.out.cell 6
            have y7 := HY.out.cell 7
            have y8 := HY.out.cell 8
            have fz := HZ.out.frozen
            have lz := HZ.out.lt
            have ly := HY.out.lt
            go_wp2
            refine bodyPost_ret (v := .agg #[.int .i64 x1, .int .i64 x2, .int .i64 x3, .int .i64 x4, .int .i64 x5, .int .i64 x6, .int .i64 x7, .slice A5 l5.length c5, .slice A6 l.length c6]) (by simp [results, Tryz.results48, go_sem, *]) rfl ⟨⟨x1, x2, x3, x4, x5, x6, x7, l5, l⟩, t, wrk, _, rfl, ⟨A5, c5, A6, c6, rfl, ?_, ?_⟩, (((((((((HR.out).far (q := ⟨w.heap.size, 0, none⟩) hrb _).far (q := ⟨w.heap.size, 1, none⟩) hrb _).far (q := ⟨w.heap.size, 2, none⟩) hrb _).far (q := ⟨w.heap.size, 3, none⟩) hrb _).far (q := ⟨w.heap.size, 4, none⟩) hrb _).far (q := ⟨w.heap.size, 5, none⟩) hrb _).far (q := ⟨w.heap.size, 6, none⟩) hrb _).far (q := ⟨w.heap.size, 7, none⟩) hrb _).far (q := ⟨w.heap.size, 8, none⟩) hrb _, (((((((((HF.out).set_ (q := ⟨w.heap.size, 0, none⟩) (.inr (Nat.le_refl _)) _).set_ (q := ⟨w.heap.size, 1, none⟩) (.inr (Nat.le_refl _)) _).set_ (q := ⟨w.heap.size, 2, none⟩) (.inr (Nat.le_refl _)) _).set_ (q := ⟨w.heap.size, 3, none⟩) (.inr (Nat.le_refl _)) _).set_ (q := ⟨w.heap.size, 4, none⟩) (.inr (Nat.le_refl _)) _).set_ (q := ⟨w.heap.size, 5, none⟩) (.inr (Nat.le_refl _)) _).set_ (q := ⟨w.heap.size, 6, none⟩) (.inr (Nat.le_refl _)) _).set_ (q := ⟨w.heap.size, 7, none⟩) (.inr (Nat.le_refl _)) _).set_ (q := ⟨w.heap.size, 8, none⟩) (.inr (Nat.le_refl _)) _, Out.bind O1.out (Out.bind O2.out (Out.bind O3.out (Out.bind OD.out (Out.pure _ _ _))))⟩
            · exact ownsRow_setCell_other (ownsRow_setCell_other (ownsRow_setCell_other (ownsRow_setCell_other (ownsRow_setCell_other (ownsRow_setCell_other (ownsRow_setCell_other (ownsRow_setCell_other (ownsRow_setCell_other (HP.out) (a := ⟨w.heap.size, 0, none⟩) HN1.out _) (a := ⟨w.heap.size, 1, none⟩) HN1.out _) (a := ⟨w.heap.size, 2, none⟩) HN1.out _) (a := ⟨w.heap.size, 3, none⟩) HN1.out _) (a := ⟨w.heap.size, 4, none⟩) HN1.out _) (a := ⟨w.heap.size, 5, none⟩) HN1.out _) (a := ⟨w.heap.size, 6, none⟩) HN1.out _) (a := ⟨w.heap.size, 7, none⟩) HN1.out _) (a := ⟨w.heap.size, 8, none⟩) HN1.out _
            · exact ownsRow_setCell_other (ownsRow_setCell_other (ownsRow_setCell_other (ownsRow_setCell_other (ownsRow_setCell_other (ownsRow_setCell_other (ownsRow_setCell_other (ownsRow_setCell_other (ownsRow_setCell_other (HV.out) (a := ⟨w.heap.size, 0, none⟩) HN2.out _) (a := ⟨w.heap.size, 1, none⟩) HN2.out _) (a := ⟨w.heap.size, 2, none⟩) HN2.out _) (a := ⟨w.heap.size, 3, none⟩) HN2.out _) (a := ⟨w.heap.size, 4, none⟩) HN2.out _) (a := ⟨w.heap.size, 5, none⟩) HN2.out _) (a := ⟨w.heap.size, 6, none⟩) HN2.out _) (a := ⟨w.heap.size, 7, none⟩) HN2.out _) (a := ⟨w.heap.size, 8, none⟩) HN2.out _
    · obtain rfl : k = n := by omega
      have HOL : Hid (Out (pL pR t7) wr7 l t wrk) := Lib.hid (Out.bind O8.out HO.out)
      obtain ⟨l5, e5⟩ : ∃ l5, l5 = l := ⟨_, rfl⟩
      subst e5
      obtain ⟨tA, eA⟩ : ∃ tA, tA = t := ⟨_, rfl⟩
      subst eA
      obtain ⟨wA, ewA⟩ : ∃ wA, wA = wrk := ⟨_, rfl⟩
      subst ewA
      obtain ⟨A5, c5, hv5⟩ := OwnU.form HV.out
      subst hv5
      have HOL5 := HOL
      go_wp2_with fail
      refine (xrcount_any HR.out).mono ?_
      rintro e w9 ⟨n9, t9, wr9, rfl, hn9, h1, h2, h3⟩
      have H9 := Lib.hid h1
      have F9 := Lib.hid (HF.out.trans h2)
      have Z9 := Lib.hid (HZ.out.blk0 h2 hrb)
      have Y9 := Lib.hid (HY.out.blk0 h2 hyr)
      have P9 := Lib.hid (show OwnU w9 w.heap.size 125 (.slice A5 l5.length c5) l5 from orow_fr HV.out h2 hrb)
      have O9 := Lib.hid h3
      have hn3 : n9 ≤ 100000 := by obtain ⟨_, _, _, _, _, hl, hs⟩ := h1; rw [hs, List.length_drop] at hn9; omega
      clear h1 h2 h3 hn9 HR HF HZ HY HV HO HL HOL c2 hlt0
      go_wp2
      go_loopw [6] (fun i wr => ∃ (k : Nat) (l : List Int) (t : S) (wrk : Bool) (U : Value), k ≤ n9 ∧ i = .int .i64 (k : Int) ∧ Hid (l.length = k) ∧ Hid (LIntV w.heap.size wr U l) ∧ Hid (Blk wr yb 78 #[.int .i64 x1, .int .i64 x2, .int .i64 x3, .int .i64 x4, .int .i64 x5, .int .i64 x6, .int .i64 x7, .slice A5 l5.length c5, U]) ∧ Hid (Blk wr w.heap.size 78 #[.int .i64 0, .int .i64 0, .int .i64 0, .int .i64 0, .int .i64 0, .int .i64 0, .int .i64 0, .slice none 0 0, .slice none 0 0]) ∧ Hid (OwnU wr w.heap.size 125 (.slice A5 l5.length c5) l5) ∧ Hid (Rx n₀ rb V b wr t wrk) ∧ Hid (FrR rb w wr) ∧ Hid (Out (pK pN k t9) wr9 l t wrk)) (fun i _ => n9 - (intOf i).toNat)
      case atStart => exact ⟨0, [], t9, wr9, _, Nat.zero_le _, rfl, Lib.hid rfl, Lib.hid (World.ownsRow_nil _ _ _ _), Y9, Z9, P9, H9, F9, Lib.hid (Out.pure _ _ _)⟩
      case round =>
        obtain ⟨k, l, t, wrk, U, hk, rfl, HL, HV, HY, HZ, HP, HR, HF, HO⟩ := hrel
        obtain ⟨p0, hB, _⟩ := HR.out
        have c2 := hB.cell 2
        have hlt0 := hB.lt
        clear hB
        by_cases hlt : k < n9
        · cases wrk
          · go_upto_region 15 with (fail)
            have HRd : Hid (Rx n₀ rb V b wr.drew t false) := Lib.hid (HR.out.on (Below.drewN' (Below.refl _ _) 1))
            have HFd : Hid (FrR rb w wr.drew) := Lib.hid HF.out.drew
            have HVd : Hid (LIntV w.heap.size wr.drew (U) (l)) := HV
            have HYd : Hid (Blk wr.drew yb 78 #[.int .i64 x1, .int .i64 x2, .int .i64 x3, .int .i64 x4, .int .i64 x5, .int .i64 x6, .int .i64 x7, .slice A5 l5.length c5, U]) := HY
            have HZd : Hid (Blk wr.drew w.heap.size 78 #[.int .i64 0, .int .i64 0, .int .i64 0, .int .i64 0, .int .i64 0, .int .i64 0, .int .i64 0, .slice none 0 0, .slice none 0 0]) := HZ
            have HPd : Hid (OwnU wr.drew w.heap.size 125 (.slice A5 l5.length c5) l5) := HP
            refine wp_region_held_drew (S := fun _ => True) (by kernel_rfl) trivial (fun hHeld => ?_)
            refine take_d 0 67 (.pointer (some ⟨yb, 3, none⟩)) _ rfl rfl (by kernel_rfl) (by kernel_rfl) (by kernel_rfl) (fun _ _ _ h => h) (Or.inl ⟨by rfl, fun w' hSw => ?_⟩) hHeld ?_
            · go_simp
            simp only [List.setIfInBounds_toArray, List.set_cons_zero, List.set_cons_succ]
            refine take_d 1 68 (.pointer (some ⟨yb, 8, none⟩)) _ rfl rfl (by kernel_rfl) (by kernel_rfl) (by kernel_rfl) (fun _ _ _ h => h) (Or.inl ⟨by rfl, fun w' hSw => ?_⟩) hHeld ?_
            · go_simp
            simp only [List.setIfInBounds_toArray, List.set_cons_zero, List.set_cons_succ]
            refine take_d 3 70 (.pointer (some ⟨rb, 0, none⟩)) _ rfl rfl (by kernel_rfl) (by kernel_rfl) (by kernel_rfl) (fun _ _ _ h => h) (Or.inl ⟨by rfl, fun w' hSw => ?_⟩) hHeld ?_
            · go_simp
            simp only [List.setIfInBounds_toArray, List.set_cons_zero, List.set_cons_succ]
            refine wpAnyH_ready (rs := [2, 4]) (by kernel_rfl) (by simp) ?_
            refine AllReadyH.cons rfl (fun K hK => ?_) (AllReadyH.cons rfl (fun K hK => ?_) (AllReadyH.nil))
            · have q := HYd.out.cell 8
              go_simp
              refine hK.out _ _ trivial (fun hHeld => ?_)
              clear hK K q
              refine wpAnyH_ready (rs := [4]) (by kernel_rfl) (by simp) ?_
              refine AllReadyH.cons rfl (fun K hK => ?_) AllReadyH.nil
              go_simp
              refine (xrnum_any HRd.out).mono ?_
              rintro e w2 ⟨x, u, wr2, _, rfl, ⟨rfl, _, _⟩, h1, h2, h3⟩
              have HR2 := Lib.hid h1
              have HF2 := Lib.hid (HFd.out.trans h2)
              have HO2 := Lib.hid (out_snoc HO.out h3)
              have HV2 := Lib.hid (show LIntV w.heap.size w2 (U) (l) from orow_fr HVd.out h2 hrb)
              have HY2 := Lib.hid (HYd.out.blk0 h2 hyr)
              have HZ2 := Lib.hid (HZd.out.blk0 h2 hrb)
              have hsw2 : w.heap.size ≤ w2.heap.size := HF2.out.size
              have HL1 : Hid ((l ++ [x]).length = k + 1) := Lib.hid (by have := HL.out; simp; omega)
              have HP2 := Lib.hid (show OwnU w2 w.heap.size 125 (.slice A5 l5.length c5) l5 from orow_fr HPd.out h2 hrb)
              clear h1 h2 h3
              refine hK.out _ _ trivial (fun hHeld => ?_)
              clear hK K
              refine wpAnyH_ready (rs := [5]) (by kernel_rfl) (by simp) ?_
              refine AllReadyH.cons rfl (fun K hK => ?_) AllReadyH.nil
              go_simp
              have HR3 := Lib.hid (HR2.out.alloc (.cells #[.int .i64 x] 3))
              have HF3 := Lib.hid (HF2.out.alloc (.cells #[.int .i64 x] 3))
              have HV3 := Lib.hid (show LIntV w.heap.size (w2.alloc (.cells #[.int .i64 x] 3)) (U) (l) from World.ownsRow.alloc HV2.out _)
              have HY3 := Lib.hid (HY2.out.alloc (.cells #[.int .i64 x] 3))
              have HZ3 := Lib.hid (HZ2.out.alloc (.cells #[.int .i64 x] 3))
              have HP3 := Lib.hid (show OwnU (w2.alloc (.cells #[.int .i64 x] 3)) w.heap.size 125 (.slice A5 l5.length c5) l5 from World.ownsRow.alloc HP2.out _)
              refine hK.out _ _ trivial (fun hHeld => ?_)
              clear hK K
              refine wpAnyH_ready (rs := [6]) (by kernel_rfl) (by simp) ?_
              refine AllReadyH.cons rfl (fun K hK => ?_) AllReadyH.nil
              refine step_append_intX _ rfl 73 rfl (.tmp 69) (.tmp 72) rfl w.heap.size i1 hj hj0 hj1 hj2 U l (by simp [Act.eval]) HV3.out w2.heap.size 1 x (by simp [Act.eval]) (Blk.at_new _ _ rfl _ _) (by have := HL.out; omega) (by simp; omega) ?_
              intro v7 w7 o7 g7
              obtain ⟨A7, c7, hv7⟩ := orow_form o7
              rw [show (l ++ [x]).length = l.length + 1 by simp] at hv7
              subst hv7
              have HY7 := Lib.hid (HY3.out.grown g7 (fun e => own_ne HV3.out HY3.out (by decide) e.symm))
              have HZ7 := Lib.hid (HZ3.out.grown g7 (fun e => own_ne HV3.out HZ3.out (by decide) e.symm))
              have HR7 := Lib.hid (Rx.grown HR3.out g7 (fun k hk => by have := (World.ownsRow.lt HV3.out k hk.symm).1; omega))
              have HF7 := Lib.hid (HF3.out.grown g7 (fun k hk => (World.ownsRow.lt HV3.out k hk.symm).1))
              have HV7 := Lib.hid o7
              have HP7 := Lib.hid (show OwnU w7 w.heap.size 125 (.slice A5 l5.length c5) l5 from own_grown HP3.out HV3.out (by decide) g7)
              simp only [List.setIfInBounds_toArray, List.set_cons_zero, List.set_cons_succ]
              refine hK.out _ _ trivial (fun hHeld => ?_)
              clear hK K o7 g7
              refine take_d 7 74 (.pointer (some ⟨yb, 3, none⟩)) _ rfl rfl (by kernel_rfl) (by kernel_rfl) (by kernel_rfl) (fun _ _ _ h => h) (Or.inl ⟨by rfl, fun w' hSw => ?_⟩) hHeld ?_
              · go_simp
              simp only [List.setIfInBounds_toArray, List.set_cons_zero, List.set_cons_succ]
              refine take_d 8 75 (.pointer (some ⟨yb, 8, none⟩)) _ rfl rfl (by kernel_rfl) (by kernel_rfl) (by kernel_rfl) (fun _ _ _ h => h) (Or.inl ⟨by rfl, fun w' hSw => ?_⟩) hHeld ?_
              · go_simp
              simp only [List.setIfInBounds_toArray, List.set_cons_zero, List.set_cons_succ]
              refine wpAnyH_ready (rs := [9]) (by kernel_rfl) (by simp) ?_
              refine AllReadyH.cons rfl (fun K hK => ?_) AllReadyH.nil
              have q := HY7.out.cell 8
              have fr := HY7.out.frozen
              have ly := HY7.out.lt
              go_simp
              refine hK.out _ _ trivial (fun hHeld => ?_)
              clear hK K q fr ly
              refine wpAnyH_done (by kernel_rfl) ?_ _
              have HY8 : Hid (Blk (w7.setCell ⟨yb, 8, none⟩ (.slice A7 (l.length + 1) c7)) yb 78 #[.int .i64 x1, .int .i64 x2, .int .i64 x3, .int .i64 x4, .int .i64 x5, .int .i64 x6, .int .i64 x7, .slice A5 l5.length c5, .slice A7 (l.length + 1) c7]) := Lib.hid (HY7.out.set_ 8 _)
              have HV8 := Lib.hid (show LIntV w.heap.size (w7.setCell ⟨yb, 8, none⟩ (.slice A7 (l.length + 1) c7)) (.slice A7 (l.length + 1) c7) (l ++ [x]) from ownsRow_setCell_other HV7.out (a := ⟨yb, 8, none⟩) (own_ne HV7.out HY7.out (by decide)) (.slice A7 (l.length + 1) c7))
              have HZ8 := Lib.hid (HZ7.out.far (p := ⟨yb, 8, none⟩) hyw (.slice A7 (l.length + 1) c7))
              have HR8 := Lib.hid (HR7.out.far (q := ⟨yb, 8, none⟩) hyr (.slice A7 (l.length + 1) c7))
              have HF8 := Lib.hid (HF7.out.set_ (q := ⟨yb, 8, none⟩) (.inr (by simp only; omega)) (.slice A7 (l.length + 1) c7))
              have HP8 := Lib.hid (show OwnU (w7.setCell ⟨yb, 8, none⟩ (.slice A7 (l.length + 1) c7)) w.heap.size 125 (.slice A5 l5.length c5) l5 from ownsRow_setCell_other HP7.out (a := ⟨yb, 8, none⟩) (own_ne HP7.out HY7.out (by decide)) (.slice A7 (l.length + 1) c7))
              go_wp2
              go_roundw
              case rel => exact ⟨k + 1, l ++ [x], u, wr2, _, by omega, by go_num, HL1, HV8, HY8, HZ8, HP8, HR8, HF8, HO2⟩
              case measure => simp [intOf]; omega
            · go_simp
              refine (xrnum_any HRd.out).mono ?_
              rintro e w2 ⟨x, u, wr2, _, rfl, ⟨rfl, _, _⟩, h1, h2, h3⟩
              have HR2 := Lib.hid h1
              have HF2 := Lib.hid (HFd.out.trans h2)
              have HO2 := Lib.hid (out_snoc HO.out h3)
              have HV2 := Lib.hid (show LIntV w.heap.size w2 (U) (l) from orow_fr HVd.out h2 hrb)
              have HY2 := Lib.hid (HYd.out.blk0 h2 hyr)
              have HZ2 := Lib.hid (HZd.out.blk0 h2 hrb)
              have hsw2 : w.heap.size ≤ w2.heap.size := HF2.out.size
              have HL1 : Hid ((l ++ [x]).length = k + 1) := Lib.hid (by have := HL.out; simp; omega)
              have HP2 := Lib.hid (show OwnU w2 w.heap.size 125 (.slice A5 l5.length c5) l5 from orow_fr HPd.out h2 hrb)
              clear h1 h2 h3
              refine hK.out _ _ trivial (fun hHeld => ?_)
              clear hK K
              refine wpAnyH_ready (rs := [2, 5]) (by kernel_rfl) (by simp) ?_
              refine AllReadyH.cons rfl (fun K hK => ?_) (AllReadyH.cons rfl (fun K hK => ?_) (AllReadyH.nil))
              · have q := HY2.out.cell 8
                go_simp
                refine hK.out _ _ trivial (fun hHeld => ?_)
                clear hK K q
                refine wpAnyH_ready (rs := [5]) (by kernel_rfl) (by simp) ?_
                refine AllReadyH.cons rfl (fun K hK => ?_) AllReadyH.nil
                go_simp
                have HR3 := Lib.hid (HR2.out.alloc (.cells #[.int .i64 x] 3))
                have HF3 := Lib.hid (HF2.out.alloc (.cells #[.int .i64 x] 3))
                have HV3 := Lib.hid (show LIntV w.heap.size (w2.alloc (.cells #[.int .i64 x] 3)) (U) (l) from World.ownsRow.alloc HV2.out _)
                have HY3 := Lib.hid (HY2.out.alloc (.cells #[.int .i64 x] 3))
                have HZ3 := Lib.hid (HZ2.out.alloc (.cells #[.int .i64 x] 3))
                have HP3 := Lib.hid (show OwnU (w2.alloc (.cells #[.int .i64 x] 3)) w.heap.size 125 (.slice A5 l5.length c5) l5 from World.ownsRow.alloc HP2.out _)
                refine hK.out _ _ trivial (fun hHeld => ?_)
                clear hK K
                refine wpAnyH_ready (rs := [6]) (by kernel_rfl) (by simp) ?_
                refine AllReadyH.cons rfl (fun K hK => ?_) AllReadyH.nil
                refine step_append_intX _ rfl 73 rfl (.tmp 69) (.tmp 72) rfl w.heap.size i1 hj hj0 hj1 hj2 U l (by simp [Act.eval]) HV3.out w2.heap.size 1 x (by simp [Act.eval]) (Blk.at_new _ _ rfl _ _) (by have := HL.out; omega) (by simp; omega) ?_
                intro v7 w7 o7 g7
                obtain ⟨A7, c7, hv7⟩ := orow_form o7
                rw [show (l ++ [x]).length = l.length + 1 by simp] at hv7
                subst hv7
                have HY7 := Lib.hid (HY3.out.grown g7 (fun e => own_ne HV3.out HY3.out (by decide) e.symm))
                have HZ7 := Lib.hid (HZ3.out.grown g7 (fun e => own_ne HV3.out HZ3.out (by decide) e.symm))
                have HR7 := Lib.hid (Rx.grown HR3.out g7 (fun k hk => by have := (World.ownsRow.lt HV3.out k hk.symm).1; omega))
                have HF7 := Lib.hid (HF3.out.grown g7 (fun k hk => (World.ownsRow.lt HV3.out k hk.symm).1))
                have HV7 := Lib.hid o7
                have HP7 := Lib.hid (show OwnU w7 w.heap.size 125 (.slice A5 l5.length c5) l5 from own_grown HP3.out HV3.out (by decide) g7)
                simp only [List.setIfInBounds_toArray, List.set_cons_zero, List.set_cons_succ]
                refine hK.out _ _ trivial (fun hHeld => ?_)
                clear hK K o7 g7
                refine take_d 7 74 (.pointer (some ⟨yb, 3, none⟩)) _ rfl rfl (by kernel_rfl) (by kernel_rfl) (by kernel_rfl) (fun _ _ _ h => h) (Or.inl ⟨by rfl, fun w' hSw => ?_⟩) hHeld ?_
                · go_simp
                simp only [List.setIfInBounds_toArray, List.set_cons_zero, List.set_cons_succ]
                refine take_d 8 75 (.pointer (some ⟨yb, 8, none⟩)) _ rfl rfl (by kernel_rfl) (by kernel_rfl) (by kernel_rfl) (fun _ _ _ h => h) (Or.inl ⟨by rfl, fun w' hSw => ?_⟩) hHeld ?_
                · go_simp
                simp only [List.setIfInBounds_toArray, List.set_cons_zero, List.set_cons_succ]
                refine wpAnyH_ready (rs := [9]) (by kernel_rfl) (by simp) ?_
                refine AllReadyH.cons rfl (fun K hK => ?_) AllReadyH.nil
                have q := HY7.out.cell 8
                have fr := HY7.out.frozen
                have ly := HY7.out.lt
                go_simp
                refine hK.out _ _ trivial (fun hHeld => ?_)
                clear hK K q fr ly
                refine wpAnyH_done (by kernel_rfl) ?_ _
                have HY8 : Hid (Blk (w7.setCell ⟨yb, 8, none⟩ (.slice A7 (l.length + 1) c7)) yb 78 #[.int .i64 x1, .int .i64 x2, .int .i64 x3, .int .i64 x4, .int .i64 x5, .int .i64 x6, .int .i64 x7, .slice A5 l5.length c5, .slice A7 (l.length + 1) c7]) := Lib.hid (HY7.out.set_ 8 _)
                have HV8 := Lib.hid (show LIntV w.heap.size (w7.setCell ⟨yb, 8, none⟩ (.slice A7 (l.length + 1) c7)) (.slice A7 (l.length + 1) c7) (l ++ [x]) from ownsRow_setCell_other HV7.out (a := ⟨yb, 8, none⟩) (own_ne HV7.out HY7.out (by decide)) (.slice A7 (l.length + 1) c7))
                have HZ8 := Lib.hid (HZ7.out.far (p := ⟨yb, 8, none⟩) hyw (.slice A7 (l.length + 1) c7))
                have HR8 := Lib.hid (HR7.out.far (q := ⟨yb, 8, none⟩) hyr (.slice A7 (l.length + 1) c7))
                have HF8 := Lib.hid (HF7.out.set_ (q := ⟨yb, 8, none⟩) (.inr (by simp only; omega)) (.slice A7 (l.length + 1) c7))
                have HP8 := Lib.hid (show OwnU (w7.setCell ⟨yb, 8, none⟩ (.slice A7 (l.length + 1) c7)) w.heap.size 125 (.slice A5 l5.length c5) l5 from ownsRow_setCell_other HP7.out (a := ⟨yb, 8, none⟩) (own_ne HP7.out HY7.out (by decide)) (.slice A7 (l.length + 1) c7))
                go_wp2
                go_roundw
                case rel => exact ⟨k + 1, l ++ [x], u, wr2, _, by omega, by go_num, HL1, HV8, HY8, HZ8, HP8, HR8, HF8, HO2⟩
                case measure => simp [intOf]; omega
              · go_simp
                have HR3 := Lib.hid (HR2.out.alloc (.cells #[.int .i64 x] 3))
                have HF3 := Lib.hid (HF2.out.alloc (.cells #[.int .i64 x] 3))
                have HV3 := Lib.hid (show LIntV w.heap.size (w2.alloc (.cells #[.int .i64 x] 3)) (U) (l) from World.ownsRow.alloc HV2.out _)
                have HY3 := Lib.hid (HY2.out.alloc (.cells #[.int .i64 x] 3))
                have HZ3 := Lib.hid (HZ2.out.alloc (.cells #[.int .i64 x] 3))
                have HP3 := Lib.hid (show OwnU (w2.alloc (.cells #[.int .i64 x] 3)) w.heap.size 125 (.slice A5 l5.length c5) l5 from World.ownsRow.alloc HP2.out _)
                refine hK.out _ _ trivial (fun hHeld => ?_)
                clear hK K
                refine wpAnyH_ready (rs := [2]) (by kernel_rfl) (by simp) ?_
                refine AllReadyH.cons rfl (fun K hK => ?_) AllReadyH.nil
                have q := HY3.out.cell 8
                go_simp
                refine hK.out _ _ trivial (fun hHeld => ?_)
                clear hK K q
                refine wpAnyH_ready (rs := [6]) (by kernel_rfl) (by simp) ?_
                refine AllReadyH.cons rfl (fun K hK => ?_) AllReadyH.nil
                refine step_append_intX _ rfl 73 rfl (.tmp 69) (.tmp 72) rfl w.heap.size i1 hj hj0 hj1 hj2 U l (by simp [Act.eval]) HV3.out w2.heap.size 1 x (by simp [Act.eval]) (Blk.at_new _ _ rfl _ _) (by have := HL.out; omega) (by simp; omega) ?_
                intro v7 w7 o7 g7
                obtain ⟨A7, c7, hv7⟩ := orow_form o7
                rw [show (l ++ [x]).length = l.length + 1 by simp] at hv7
                subst hv7
                have HY7 := Lib.hid (HY3.out.grown g7 (fun e => own_ne HV3.out HY3.out (by decide) e.symm))
                have HZ7 := Lib.hid (HZ3.out.grown g7 (fun e => own_ne HV3.out HZ3.out (by decide) e.symm))
                have HR7 := Lib.hid (Rx.grown HR3.out g7 (fun k hk => by have := (World.ownsRow.lt HV3.out k hk.symm).1; omega))
                have HF7 := Lib.hid (HF3.out.grown g7 (fun k hk => (World.ownsRow.lt HV3.out k hk.symm).1))
                have HV7 := Lib.hid o7
                have HP7 := Lib.hid (show OwnU w7 w.heap.size 125 (.slice A5 l5.length c5) l5 from own_grown HP3.out HV3.out (by decide) g7)
                simp only [List.setIfInBounds_toArray, List.set_cons_zero, List.set_cons_succ]
                refine hK.out _ _ trivial (fun hHeld => ?_)
                clear hK K o7 g7
                refine take_d 7 74 (.pointer (some ⟨yb, 3, none⟩)) _ rfl rfl (by kernel_rfl) (by kernel_rfl) (by kernel_rfl) (fun _ _ _ h => h) (Or.inl ⟨by rfl, fun w' hSw => ?_⟩) hHeld ?_
                · go_simp
                simp only [List.setIfInBounds_toArray, List.set_cons_zero, List.set_cons_succ]
                refine take_d 8 75 (.pointer (some ⟨yb, 8, none⟩)) _ rfl rfl (by kernel_rfl) (by kernel_rfl) (by kernel_rfl) (fun _ _ _ h => h) (Or.inl ⟨by rfl, fun w' hSw => ?_⟩) hHeld ?_
                · go_simp
                simp only [List.setIfInBounds_toArray, List.set_cons_zero, List.set_cons_succ]
                refine wpAnyH_ready (rs := [9]) (by kernel_rfl) (by simp) ?_
                refine AllReadyH.cons rfl (fun K hK => ?_) AllReadyH.nil
                have q := HY7.out.cell 8
                have fr := HY7.out.frozen
                have ly := HY7.out.lt
                go_simp
                refine hK.out _ _ trivial (fun hHeld => ?_)
                clear hK K q fr ly
                refine wpAnyH_done (by kernel_rfl) ?_ _
                have HY8 : Hid (Blk (w7.setCell ⟨yb, 8, none⟩ (.slice A7 (l.length + 1) c7)) yb 78 #[.int .i64 x1, .int .i64 x2, .int .i64 x3, .int .i64 x4, .int .i64 x5, .int .i64 x6, .int .i64 x7, .slice A5 l5.length c5, .slice A7 (l.length + 1) c7]) := Lib.hid (HY7.out.set_ 8 _)
                have HV8 := Lib.hid (show LIntV w.heap.size (w7.setCell ⟨yb, 8, none⟩ (.slice A7 (l.length + 1) c7)) (.slice A7 (l.length + 1) c7) (l ++ [x]) from ownsRow_setCell_other HV7.out (a := ⟨yb, 8, none⟩) (own_ne HV7.out HY7.out (by decide)) (.slice A7 (l.length + 1) c7))
                have HZ8 := Lib.hid (HZ7.out.far (p := ⟨yb, 8, none⟩) hyw (.slice A7 (l.length + 1) c7))
                have HR8 := Lib.hid (HR7.out.far (q := ⟨yb, 8, none⟩) hyr (.slice A7 (l.length + 1) c7))
                have HF8 := Lib.hid (HF7.out.set_ (q := ⟨yb, 8, none⟩) (.inr (by simp only; omega)) (.slice A7 (l.length + 1) c7))
                have HP8 := Lib.hid (show OwnU (w7.setCell ⟨yb, 8, none⟩ (.slice A7 (l.length + 1) c7)) w.heap.size 125 (.slice A5 l5.length c5) l5 from ownsRow_setCell_other HP7.out (a := ⟨yb, 8, none⟩) (own_ne HP7.out HY7.out (by decide)) (.slice A7 (l.length + 1) c7))
                go_wp2
                go_roundw
                case rel => exact ⟨k + 1, l ++ [x], u, wr2, _, by omega, by go_num, HL1, HV8, HY8, HZ8, HP8, HR8, HF8, HO2⟩
                case measure => simp [intOf]; omega
          · have HOL : Hid (Out (pL pN tA) wA l t true) := Lib.hid (Out.bind O9.out (out_gone HO.out hk l t))
            obtain ⟨A6, c6, hv6⟩ := orow_form HV.out
            subst hv6
            have OD : Hid (Out (pD t3) wr3 ⟨x4, x5, x6, x7, l5, l⟩ t true) := Lib.hid (by unfold pD; exact Out.bind O4.out (Out.bind O5.out (Out.bind O6.out (Out.bind O7.out (Out.bind HOL5.out (Out.bind HOL.out (Out.pure _ _ _)))))))
            have HN1 := Lib.hid (own_ne HP.out HZ.out (by decide))
            have HN2 := Lib.hid (own_ne HV.out HZ.out (by decide))
            have z0 := HZ.out.cell 0
            have z1 := HZ.out.cell 1
            have z2 := HZ.out.cell 2
            have z3 := HZ.out.cell 3
            have z4 := HZ.out.cell 4
            have z5 := HZ.out.cell 5
            have z6 := HZ.out.cell 6
            have z7 := HZ.out.cell 7
            have z8 := HZ.out.cell 8
            have y0 := HY.out.cell 0
            have y1 := HY.out.cell 1
            have y2 := HY.out.cell 2
            have y3 := HY.out.cell 3
            have y4 := HY.out.cell 4
            have y5 := HY.out.cell 5
            have y6 := HY.out.cell 6
            have y7 := HY.out.cell 7
            have y8 := HY.out.cell 8
            have fz := HZ.out.frozen
            have lz := HZ.out.lt
            have ly := HY.out.lt
            go_wp2
            refine bodyPost_ret (v := .agg #[.int .i64 x1, .int .i64 x2, .int .i64 x3, .int .i64 x4, .int .i64 x5, .int .i64 x6, .int .i64 x7, .slice A5 l5.length c5, .slice A6 l.length c6]) (by simp [results, Tryz.results48, go_sem, *]) rfl ⟨⟨x1, x2, x3, x4, x5, x6, x7, l5, l⟩, t, true, _, rfl, ⟨A5, c5, A6, c6, rfl, ?_, ?_⟩, (((((((((HR.out).far (q := ⟨w.heap.size, 0, none⟩) hrb _).far (q := ⟨w.heap.size, 1, none⟩) hrb _).far (q := ⟨w.heap.size, 2, none⟩) hrb _).far (q := ⟨w.heap.size, 3, none⟩) hrb _).far (q := ⟨w.heap.size, 4, none⟩) hrb _).far (q := ⟨w.heap.size, 5, none⟩) hrb _).far (q := ⟨w.heap.size, 6, none⟩) hrb _).far (q := ⟨w.heap.size, 7, none⟩) hrb _).far (q := ⟨w.heap.size, 8, none⟩) hrb _, (((((((((HF.out).set_ (q := ⟨w.heap.size, 0, none⟩) (.inr (Nat.le_refl _)) _).set_ (q := ⟨w.heap.size, 1, none⟩) (.inr (Nat.le_refl _)) _).set_ (q := ⟨w.heap.size, 2, none⟩) (.inr (Nat.le_refl _)) _).set_ (q := ⟨w.heap.size, 3, none⟩) (.inr (Nat.le_refl _)) _).set_ (q := ⟨w.heap.size, 4, none⟩) (.inr (Nat.le_refl _)) _).set_ (q := ⟨w.heap.size, 5, none⟩) (.inr (Nat.le_refl _)) _).set_ (q := ⟨w.heap.size, 6, none⟩) (.inr (Nat.le_refl _)) _).set_ (q := ⟨w.heap.size, 7, none⟩) (.inr (Nat.le_refl _)) _).set_ (q := ⟨w.heap.size, 8, none⟩) (.inr (Nat.le_refl _)) _, Out.bind O1.out (Out.bind O2.out (Out.bind O3.out (Out.bind OD.out (Out.pure _ _ _))))⟩
            · exact ownsRow_setCell_other (ownsRow_setCell_other (ownsRow_setCell_other (ownsRow_setCell_other (ownsRow_setCell_other (ownsRow_setCell_other (ownsRow_setCell_other (ownsRow_setCell_other (ownsRow_setCell_other (HP.out) (a := ⟨w.heap.size, 0, none⟩) HN1.out _) (a := ⟨w.heap.size, 1, none⟩) HN1.out _) (a := ⟨w.heap.size, 2, none⟩) HN1.out _) (a := ⟨w.heap.size, 3, none⟩) HN1.out _) (a := ⟨w.heap.size, 4, none⟩) HN1.out _) (a := ⟨w.heap.size, 5, none⟩) HN1.out _) (a := ⟨w.heap.size, 6, none⟩) HN1.out _) (a := ⟨w.heap.size, 7, none⟩) HN1.out _) (a := ⟨w.heap.size, 8, none⟩) HN1.out _
            · exact ownsRow_setCell_other (ownsRow_setCell_other (ownsRow_setCell_other (ownsRow_setCell_other (ownsRow_setCell_other (ownsRow_setCell_other (ownsRow_setCell_other (ownsRow_setCell_other (ownsRow_setCell_other (HV.out) (a := ⟨w.heap.size, 0, none⟩) HN2.out _) (a := ⟨w.heap.size, 1, none⟩) HN2.out _) (a := ⟨w.heap.size, 2, none⟩) HN2.out _) (a := ⟨w.heap.size, 3, none⟩) HN2.out _) (a := ⟨w.heap.size, 4, none⟩) HN2.out _) (a := ⟨w.heap.size, 5, none⟩) HN2.out _) (a := ⟨w.heap.size, 6, none⟩) HN2.out _) (a := ⟨w.heap.size, 7, none⟩) HN2.out _) (a := ⟨w.heap.size, 8, none⟩) HN2.out _
        · obtain rfl : k = n9 := by omega
          have HOL : Hid (Out (pL pN tA) wA l t wrk) := Lib.hid (Out.bind O9.out HO.out)
          obtain ⟨A6, c6, hv6⟩ := orow_form HV.out
          subst hv6
          have OD : Hid (Out (pD t3) wr3 ⟨x4, x5, x6, x7, l5, l⟩ t wrk) := Lib.hid (by unfold pD; exact Out.bind O4.out (Out.bind O5.out (Out.bind O6.out (Out.bind O7.out (Out.bind HOL5.out (Out.bind HOL.out (Out.pure _ _ _)))))))
          have HN1 := Lib.hid (own_ne HP.out HZ.out (by decide))
          have HN2 := Lib.hid (own_ne HV.out HZ.out (by decide))
          have z0 := HZ.out.cell 0
          have z1 := HZ.out.cell 1
          have z2 := HZ.out.cell 2
          have z3 := HZ.out.cell 3
          have z4 := HZ.out.cell 4
          have z5 := HZ.out.cell 5
          have z6 := HZ.out.cell 6
          have z7 := HZ.out.cell 7
          have z8 := HZ.out.cell 8
          have y0 := HY.out.cell 0
          have y1 := HY.out.cell 1
          have y2 := HY.out.cell 2
          have y3 := HY.out.cell 3
          have y4 := HY.out.cell 4
          have y5 := HY.out.cell 5
          have y6 := HY.out.cell 6
          have y7 := HY.out.cell 7
          have y8 := HY.out.cell 8
          have fz := HZ.out.frozen
          have lz := HZ.out.lt
          have ly := HY.out.lt
          go_wp2
          refine bodyPost_ret (v := .agg #[.int .i64 x1, .int .i64 x2, .int .i64 x3, .int .i64 x4, .int .i64 x5, .int .i64 x6, .int .i64 x7, .slice A5 l5.length c5, .slice A6 l.length c6]) (by simp [results, Tryz.results48, go_sem, *]) rfl ⟨⟨x1, x2, x3, x4, x5, x6, x7, l5, l⟩, t, wrk, _, rfl, ⟨A5, c5, A6, c6, rfl, ?_, ?_⟩, (((((((((HR.out).far (q := ⟨w.heap.size, 0, none⟩) hrb _).far (q := ⟨w.heap.size, 1, none⟩) hrb _).far (q := ⟨w.heap.size, 2, none⟩) hrb _).far (q := ⟨w.heap.size, 3, none⟩) hrb _).far (q := ⟨w.heap.size, 4, none⟩) hrb _).far (q := ⟨w.heap.size, 5, none⟩) hrb _).far (q := ⟨w.heap.size, 6, none⟩) hrb _).far (q := ⟨w.heap.size, 7, none⟩) hrb _).far (q := ⟨w.heap.size, 8, none⟩) hrb _, (((((((((HF.out).set_ (q := ⟨w.heap.size, 0, none⟩) (.inr (Nat.le_refl _)) _).set_ (q := ⟨w.heap.size, 1, none⟩) (.inr (Nat.le_refl _)) _).set_ (q := ⟨w.heap.size, 2, none⟩) (.inr (Nat.le_refl _)) _).set_ (q := ⟨w.heap.size, 3, none⟩) (.inr (Nat.le_refl _)) _).set_ (q := ⟨w.heap.size, 4, none⟩) (.inr (Nat.le_refl _)) _).set_ (q := ⟨w.heap.size, 5, none⟩) (.inr (Nat.le_refl _)) _).set_ (q := ⟨w.heap.size, 6, none⟩) (.inr (Nat.le_refl _)) _).set_ (q := ⟨w.heap.size, 7, none⟩) (.inr (Nat.le_refl _)) _).set_ (q := ⟨w.heap.size, 8, none⟩) (.inr (Nat.le_refl _)) _, Out.bind O1.out (Out.bind O2.out (Out.bind O3.out (Out.bind OD.out (Out.pure _ _ _))))⟩
          · exact ownsRow_setCell_other (ownsRow_setCell_other (ownsRow_setCell_other (ownsRow_setCell_other (ownsRow_setCell_other (ownsRow_setCell_other (ownsRow_setCell_other (ownsRow_setCell_other (ownsRow_setCell_other (HP.out) (a := ⟨w.heap.size, 0, none⟩) HN1.out _) (a := ⟨w.heap.size, 1, none⟩) HN1.out _) (a := ⟨w.heap.size, 2, none⟩) HN1.out _) (a := ⟨w.heap.size, 3, none⟩) HN1.out _) (a := ⟨w.heap.size, 4, none⟩) HN1.out _) (a := ⟨w.heap.size, 5, none⟩) HN1.out _) (a := ⟨w.heap.size, 6, none⟩) HN1.out _) (a := ⟨w.heap.size, 7, none⟩) HN1.out _) (a := ⟨w.heap.size, 8, none⟩) HN1.out _
          · exact ownsRow_setCell_other (ownsRow_setCell_other (ownsRow_setCell_other (ownsRow_setCell_other (ownsRow_setCell_other (ownsRow_setCell_other (ownsRow_setCell_other (ownsRow_setCell_other (ownsRow_setCell_other (HV.out) (a := ⟨w.heap.size, 0, none⟩) HN2.out _) (a := ⟨w.heap.size, 1, none⟩) HN2.out _) (a := ⟨w.heap.size, 2, none⟩) HN2.out _) (a := ⟨w.heap.size, 3, none⟩) HN2.out _) (a := ⟨w.heap.size, 4, none⟩) HN2.out _) (a := ⟨w.heap.size, 5, none⟩) HN2.out _) (a := ⟨w.heap.size, 6, none⟩) HN2.out _) (a := ⟨w.heap.size, 7, none⟩) HN2.out _) (a := ⟨w.heap.size, 8, none⟩) HN2.out _
end Go.Proofs.YtefgobmpleoafaaGreat

/- The document's reader: a list of entries. -/
namespace Go.Proofs.YtefgobmpleoafaaGreat
open Go.RowKit
variable {w w' w'' : World} {n₀ rb : Nat} {V : Value} {b s : List UInt8} {wr : Bool}

set_option maxRecDepth 100000 in
set_option maxHeartbeats 8000000 in
theorem xrlog_any (h : Rx n₀ rb V b w s wr) : Calls Tryz.prog 33 #[.pointer (some ⟨rb, 0, none⟩)] w (RxP n₀ rb V b w (pL pE s) wr (OwnE 78 125 w.heap.size)) := by
  have H := Lib.hid h
  have hrb := h.lt
  obtain ⟨i0, hi, hz0, hz1, hz2⟩ := info_three info_xentry
  clear h
  go_enter Tryz.func33, Tryz.ntmps33
  go_wp2_with fail
  refine (xrcount_any H.out).mono ?_
  rintro e w1 ⟨n, t0, wr1, rfl, hn, h1, h2, h3⟩
  have H1 := Lib.hid h1
  have H2 := Lib.hid h2
  have H3 := Lib.hid h3
  have hn2 : n ≤ 100000 := by obtain ⟨_, _, _, _, _, hl, hs⟩ := h1; rw [hs, List.length_drop] at hn; omega
  clear h1 h2 h3 hn
  go_wp2
  go_loopw [3, 5] (fun U i wr => ∃ (k : Nat) (l : List En) (t : S) (wrk : Bool), k ≤ n ∧ i = .int .i64 (k : Int) ∧ Hid (l.length = k) ∧ Hid (OwnE 78 125 w.heap.size wr U l) ∧ Hid (Rx n₀ rb V b wr t wrk) ∧ Hid (FrR rb w wr) ∧ Hid (Out (pK pE k t0) wr1 l t wrk)) (fun _ i _ => n - (intOf i).toNat)
  case atStart => exact ⟨0, [], t0, wr1, Nat.zero_le _, rfl, Lib.hid rfl, Lib.hid (OwnE.nil _ _ _ _), H1, H2, Lib.hid (Out.pure _ _ _)⟩
  case round =>
    obtain ⟨k, l, t, wrk, hk, rfl, HL, HV, HR, HF, HO⟩ := hrel
    obtain ⟨p0, hB, _⟩ := HR.out
    have c2 := hB.cell 2
    have hlt0 := hB.lt
    clear hB
    by_cases hlt : k < n
    · cases wrk
      · have hsz : w.heap.size ≤ wr.heap.size := HF.out.size
        go_wp2_with fail
        refine (xrentry_any HR.out).mono ?_
        rintro e w2 ⟨x, u, wr2, v2, rfl, ⟨Ap, cp, Ad, cd, rfl, hpv, hdv⟩, h1, h2, h3⟩
        have HR2 := Lib.hid h1
        have HF2 := Lib.hid (HF.out.trans h2)
        have HO2 := Lib.hid (out_snoc HO.out h3)
        have HV2 : Hid (OwnE 78 125 w.heap.size w2 u3 l) := Lib.hid (HV.out.fr h2 hrb)
        have hsz2 : w.heap.size ≤ w2.heap.size := HF2.out.size
        have HL1 : Hid ((l ++ [x]).length = k + 1) := Lib.hid (by have := HL.out; simp; omega)
        have HPV := Lib.hid (orow_low hpv hsz)
        have HDV := Lib.hid (orow_low hdv hsz)
        clear hpv hdv
        clear h1 h2 h3
        go_wp2_with (at_builtin
                     refine wpList_append_ent _ rfl (.tmp 20) (.tmp 23) 29 rfl w.heap.size 78 125 i0 _ 104 Tryz.underlying29 hi hz0 hz1 hz2 rfl (by decide) (by decide) u3 l rfl (HV2.out.alloc _) _ 1 x Ap Ad _ cp _ cd rfl (Blk.at_new _ _ rfl _ _) (World.ownsRow.alloc HPV.out _) (World.ownsRow.alloc HDV.out _) (by have := HL.out; omega) (by decide) (by simp; omega) ?_
                     intro V' w3 hown' hgrow
                     have HR3 := Lib.hid (Rx.grown (HR2.out.alloc (.cells #[.int .i64 x.vi, .int .i64 x.cl, .int .i64 x.re, .int .i64 x.d.de, .int .i64 x.d.cl, .int .i64 x.d.fu, .int .i64 x.d.st, .slice Ap x.d.put.length cp, .slice Ad x.d.drop.length cd] 78)) hgrow (fun k hk => by have := (OwnE.lt (HV2.out) k hk.symm).1; omega))
                     have HF3 := Lib.hid ((HF2.out.alloc (.cells #[.int .i64 x.vi, .int .i64 x.cl, .int .i64 x.re, .int .i64 x.d.de, .int .i64 x.d.cl, .int .i64 x.d.fu, .int .i64 x.d.st, .slice Ap x.d.put.length cp, .slice Ad x.d.drop.length cd] 78)).grown hgrow (fun k hk => by have := (OwnE.lt (HV2.out) k hk.symm).1; omega))
                     have HV3 : Hid (OwnE 78 125 w.heap.size w3 V' (l ++ [x])) := Lib.hid hown'
                     clear hgrow hown')
        go_roundw
        case rel => exact ⟨k + 1, l ++ [x], u, wr2, by omega, by go_num, HL1, HV3, HR3, HF3, HO2⟩
        case measure => simp [intOf]; omega
      · obtain ⟨A, c, hv⟩ := HV.out.len
        subst hv
        go_wp2
        go_ret
        exact ⟨l, t, true, _, rfl, HV.out, HR.out, HF.out, Out.bind H3.out (out_gone HO.out hk _ _)⟩
    · obtain rfl : k = n := by omega
      obtain ⟨A, c, hv⟩ := HV.out.len
      subst hv
      go_wp2
      go_ret
      exact ⟨l, t, wrk, _, rfl, HV.out, HR.out, HF.out, Out.bind H3.out HO.out⟩
end Go.Proofs.YtefgobmpleoafaaGreat

