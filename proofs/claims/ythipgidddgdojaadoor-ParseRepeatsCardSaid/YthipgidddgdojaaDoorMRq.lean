/- Joined: PRn2, PRp2. -/
import Derived.Test.YthipgidddgdojaaDoorMPf
/- ParseRepeats' walk, where the quantifier has no end, mode 2. -/
namespace Go.Proofs.YthipgidddgdojaaDoor
open Go.RowKit
open Go.Proofs.YthipgidddgdojaaDoor.Cl (Rg SetV SetAt rgCells hasB setHas_any same_any sameB_refl)
variable {w w' : World}

theorem rep_eq_neg2 (s : List UInt8) (l : Nat) : (⟨s.toArray⟩ : ByteArray) ++ (⟨#[123]⟩ : ByteArray) ++ (⟨(dd l).toArray⟩ : ByteArray) ++ (⟨#[44]⟩ : ByteArray) ++ ((⟨#[125]⟩ : ByteArray) ++ (⟨#[43]⟩ : ByteArray)) = ⟨(s ++ braceT l (-1) 2).toArray⟩ := by
  apply ByteArray.ext
  simp [ByteArray.data_append, braceT, hiB, modeB]
set_option maxRecDepth 100000 in
set_option maxHeartbeats 2000000 in
theorem rep_neg2 (c : Nat) (hc : isCh c) (hs : isSign (c : Int) = false) (ha : (c : Int) < 128 → hasB [((48 : Int), (57 : Int)), (65, 90), (97, 122)] (c : Int) = true) (l : Nat) (hl : l ≤ 99) (hT : TabsAt w.heap.size w) :
    Calls Tryd.prog 5 #[.int .i64 (c : Int), .int .i64 (l : Int), .int .i64 (-1), .int .i64 2] w fun e w' => e = .returned (.bool true) ∧ Below w.heap.size w w' := by
  have HT := Lib.hid hT
  have HA := Lib.hid (anchor_any hT)
  clear hT
  have HCH : Hid (charB (c : Int) = true) := Lib.hid (by obtain ⟨q1, q2⟩ := hc; simp [charB]; omega)
  have l0 : ¬ (l : Int) < 0 := by omega
  have l9 : ¬ (99 : Int) < (l : Int) := by omega
  have hby := bytes_any c hc
  have hpy := fun hr => parse_rep 1026 hc hs (lo := l) (hi := (-1)) (m := 2) hl (by omega) (by omega) (by omega) hr
  have hpn := fun hr => parse_rep_no 1026 hc hs (lo := l) (hi := (-1)) (m := 2) hl (by omega) (by omega) hr
  obtain ⟨n, hn⟩ : ∃ n, n = (encN c).length := ⟨_, rfl⟩
  rw [← hn] at hpn
  have hnl : (toB (encN c)).length = n := by rw [toB_len, hn]
  have hn4 : n ≤ 4 := by have := (encN_len c).2; omega
  have hn4' : (n : Int) ≤ 4 := by omega
  obtain ⟨s, hse⟩ : ∃ s, s = toB (encN c) := ⟨_, rfl⟩
  rw [← hse] at hby hpy hpn hnl
  obtain ⟨sB, hsB⟩ : ∃ sB : ByteArray, sB = ⟨s.toArray⟩ := ⟨_, rfl⟩
  obtain ⟨lB, hlB⟩ : ∃ lB : ByteArray, lB = ⟨(dd l).toArray⟩ := ⟨_, rfl⟩
  have hsz : sB.size ≤ 4 := by
    rw [hsB]
    show s.toArray.size ≤ 4
    rw [List.size_toArray, hnl]
    exact hn4
  have hlz : lB.size ≤ 2 := by rw [hlB]; exact Nat.le_refl _
  have htl := two_any l hl
  rw [← hlB] at htl
  have HP : Hid (∀ W : World, TabsAt W.heap.size W → Calls Tryd.prog 10 #[.string (sB ++ (⟨#[123]⟩ : ByteArray) ++ lB ++ (⟨#[44]⟩ : ByteArray) ++ ((⟨#[125]⟩ : ByteArray) ++ (⟨#[43]⟩ : ByteArray)))] W (ParsePost W (parse 1030 (s ++ braceT l (-1) 2)))) := Lib.hid (fun W hW => by
    rw [hsB, hlB, rep_eq_neg2]
    exact parse_any (s := s ++ braceT l (-1) 2) 1030 (by omega) (by have := brace_len l (-1) 2; simp; omega) hW)
  have HSB := Lib.hid hsB
  have HTL := Lib.hid htl
  have HPY := Lib.hid hpy
  have HPN := Lib.hid hpn
  have HBY := Lib.hid hby
  have HN := Lib.hid hnl
  have HAL := Lib.hid ha
  clear hse hby hpy hpn hnl hn hn4 hc hs ha hsB hlB htl
  by_cases h128 : (c : Int) < 128
  · have HAL := Lib.hid (HAL.out h128)
    go_enter Tryd.func5, Tryd.ntmps5
    go_wp2_with fail
    refine HA.out.mono ?_
    rintro e w0 ⟨rfl, hb0⟩
    go_wp2_with fail
    refine (char_is (c : Int) true HCH.out _).mono ?_
    rintro e wy ⟨rfl, hwy⟩
    rw [hwy]
    clear hwy wy
    have HL : Hid (SetV (w0.heap.size + 1) (w0.alloc (.cells #[.int .i64 48, .int .i64 57, .int .i64 65, .int .i64 90, .int .i64 97, .int .i64 122] 39)) (.slice (some ⟨w0.heap.size, 0, none⟩) 3 3) [((48 : Int), (57 : Int)), (65, 90), (97, 122)]) := Lib.hid (set_lit w0 [((48 : Int), (57 : Int)), (65, 90), (97, 122)] 3 rfl)
    have hal := (Below.refl w0.heap.size w0).alloc (Nat.le_refl _) (.cells #[.int .i64 48, .int .i64 57, .int .i64 65, .int .i64 90, .int .i64 97, .int .i64 122] 39)
    go_wp2_with fail
    refine (setHas_any _ [((48 : Int), (57 : Int)), (65, 90), (97, 122)] (c : Int) _ (by simp) (by rw [World.size_alloc]; exact HL.out)).mono ?_
    rintro e wx ⟨rfl, hbh⟩
    have hbx := hb0.trans ((hal.trans (hbh.mono hal.size)).mono hb0.size)
    rw [HAL.out]
    clear hal hbh HL hb0
    go_upto_region 5 with (fail)
    refine wp_region_held_drew (S := fun _ => True) (by kernel_rfl) trivial (fun hHeld => ?_)
    have hb5 := hbx.drew
    generalize wx.drew = W5 at *
    refine take_d 0 55 (.int .i64 (c : Int)) _ rfl rfl (by kernel_rfl) (by kernel_rfl) (by kernel_rfl) (fun _ _ _ h => h) (Or.inl ⟨by rfl, fun w' hSw => ?_⟩) hHeld ?_
    · go_simp
    simp only [List.setIfInBounds_toArray, List.set_cons_zero, List.set_cons_succ]
    refine take_d 4 59 (.int .i64 (l : Int)) _ rfl rfl (by kernel_rfl) (by kernel_rfl) (by kernel_rfl) (fun _ _ _ h => h) (Or.inl ⟨by rfl, fun w' hSw => ?_⟩) hHeld ?_
    · go_simp
    simp only [List.setIfInBounds_toArray, List.set_cons_zero, List.set_cons_succ]
    refine wpAnyH_ready (rs := [1]) (by kernel_rfl) (by simp) ?_
    refine AllReadyH.cons rfl (fun K hK => ?_) AllReadyH.nil
    go_simp
    refine (HBY.out _).mono ?_
    rintro e w6 ⟨v, rfl, hmv, hb6⟩
    refine hK.out _ _ trivial (fun hHeld => ?_)
    clear hHeld
    clear hK K
    have hb56 := hb5.trans (hb6.mono hb5.size)
    refine held_more (S' := fun W => (convert 40 9 v).run Tryd.prog W = .ok (.string sB) W) (fun _ _ => trivial) ?_
    have hHeld := run_string_bytes hmv
    rw [← HSB.out] at hHeld
    refine take_d 2 57 (.string sB) _ rfl rfl (by kernel_rfl) (by kernel_rfl) (by kernel_rfl) (fun _ _ _ h => h) (Or.inl ⟨by rfl, fun w' hSw => ?_⟩) hHeld ?_
    · go_simp
    simp only [List.setIfInBounds_toArray, List.set_cons_zero, List.set_cons_succ]
    refine take_d 3 58 (.string (sB ++ (⟨#[123]⟩ : ByteArray))) _ rfl rfl (by kernel_rfl) (by kernel_rfl) (by kernel_rfl) (fun _ _ _ h => h) (Or.inl ⟨by rfl, fun w' hSw => ?_⟩) hHeld ?_
    · go_simp
      omega
    simp only [List.setIfInBounds_toArray, List.set_cons_zero, List.set_cons_succ]
    refine wpAnyH_ready (rs := [5]) (by kernel_rfl) (by simp) ?_
    refine AllReadyH.cons rfl (fun K hK => ?_) AllReadyH.nil
    go_simp
    refine (HTL.out _).mono ?_
    rintro e w7 ⟨rfl, hb7⟩
    refine hK.out _ _ (by rw [HSB.out]; exact run_string_bytes (hmv.below hb7)) (fun hHeld => ?_)
    clear hK K
    refine take_d 6 61 (.string (sB ++ (⟨#[123]⟩ : ByteArray) ++ lB)) _ rfl rfl (by kernel_rfl) (by kernel_rfl) (by kernel_rfl) (fun _ _ _ h => h) (Or.inl ⟨by rfl, fun w' hSw => ?_⟩) hHeld ?_
    · go_simp
      omega
    simp only [List.setIfInBounds_toArray, List.set_cons_zero, List.set_cons_succ]
    refine take_d 7 62 (.string (sB ++ (⟨#[123]⟩ : ByteArray) ++ lB ++ (⟨#[44]⟩ : ByteArray))) _ rfl rfl (by kernel_rfl) (by kernel_rfl) (by kernel_rfl) (fun _ _ _ h => h) (Or.inl ⟨by rfl, fun w' hSw => ?_⟩) hHeld ?_
    · go_simp
      omega
    simp only [List.setIfInBounds_toArray, List.set_cons_zero, List.set_cons_succ]
    refine take_d 8 9 (.string (sB ++ (⟨#[123]⟩ : ByteArray) ++ lB ++ (⟨#[44]⟩ : ByteArray))) _ rfl rfl (by kernel_rfl) (by kernel_rfl) (by kernel_rfl) (fun _ _ _ h => h) (Or.inl ⟨by rfl, fun w' hSw => ?_⟩) hHeld ?_
    · go_simp
    simp only [List.setIfInBounds_toArray, List.set_cons_zero, List.set_cons_succ]
    refine wpAnyH_done (by kernel_rfl) ?_ _
    clear hHeld
    have hbx7 := hb56.trans (hb7.mono hb56.size)
    clear hmv hb56 hb5 hb6 hb7
    go_wp2_with fail
    have hbx8 := hbx7.trans (((Below.refl w7.heap.size w7).alloc (Nat.le_refl _) (.cells #[.string ⟨#[]⟩, .string ⟨#[63]⟩, .string ⟨#[43]⟩] 9)).mono hbx7.size)
    generalize w7.alloc (.cells #[.string ⟨#[]⟩, .string ⟨#[63]⟩, .string ⟨#[43]⟩] 9) = W8 at *
    have HT9 := Lib.hid (tabs_on HT.out hbx8 hbx8.size)
    by_cases hr : rightQ l (-1)
    · have HP' := HPY.out hr
      rw [HP'] at HP
      refine (HP.out _ HT9.out).mono ?_
      rintro e w9 ⟨E1, E2, t1, t2, rfl, hN, hb9⟩
      obtain ⟨_, _, b, off, he, -, -, -, -, hk⟩ := hN.parts
      obtain ⟨rfl, -, rfl⟩ := Value.slice.inj he
      obtain ⟨hA, hbk, D1, D2, s1, s2, hND, hC⟩ := hk 0 _ rfl
      subst hA
      rw [Nat.zero_mul, Nat.add_zero] at hC
      obtain ⟨-, -, -, -, -, h5, -⟩ := hC.seven_
      obtain ⟨_, _, _, _, -, -, -, -, hs, -⟩ := hND.parts
      have HSV := Lib.hid (SetK.to_setV hs)
      rw [set_set] at h5 HSV
      have hpo := put_on w9 #[.int .i64 4, .int .i64 (l : Int), .int .i64 (-1), .int .i64 2, .int .i64 0, .slice E1 0 t1, .slice (some ⟨b, off, none⟩) 1 t2, .int .i64 0, .bool false] #[.int .i64 0, .int .i64 0]
      have HC5 := Lib.hid ((hpo.cell (p := ⟨b, off + 5, none⟩) hbk).trans h5)
      have HBK := Lib.hid (Nat.lt_of_lt_of_le hbk hpo.size)
      have HSV2 := Lib.hid (HSV.out.on hpo)
      clear hN hk he hND hC hs h5 HSV
      unfold pCells
      simp only [rep_kind, rep_lo, rep_hi, rep_mode, rep_ref, rep_set, rep_kids, Int.cast_ofNat_Int]
      have P3 := Lib.hid (put_new W8 w9 #[.int .i64 4, .int .i64 (l : Int), .int .i64 (-1), .int .i64 2, .int .i64 0, .slice E1 0 t1, .slice (some ⟨b, off, none⟩) 1 t2, .int .i64 0, .bool false] #[.int .i64 0, .int .i64 0] hb9)
      go_upto_region 10 with (fail)
      generalize (w9.alloc (.cells #[.int .i64 4, .int .i64 (l : Int), .int .i64 (-1), .int .i64 2, .int .i64 0, .slice E1 0 t1, .slice (some ⟨b, off, none⟩) 1 t2, .int .i64 0, .bool false] 29)).alloc (.cells #[.int .i64 0, .int .i64 0] 32) = v9 at *
      have hbv9 := hbx8.trans (P3.out.keep.mono hbx8.size)
      have hc9 := P3.out.node.nine
      have e1 : ¬ (64 : Int) < (l : Int) := by have := hr.1; omega
      have hal := (Below.refl v9.heap.size v9).alloc (Nat.le_refl _) (.cells #[.int .i64 4, .int .i64 (l : Int), .int .i64 (-1), .int .i64 2, .int .i64 0, .slice E1 0 t1, .slice (some ⟨b, off, none⟩) 1 t2] 27)
      have HR := Lib.hid (Blk.new v9 27 #[.int .i64 4, .int .i64 (l : Int), .int .i64 (-1), .int .i64 2, .int .i64 0, .slice E1 0 t1, .slice (some ⟨b, off, none⟩) 1 t2])
      have hf0 := (P3.out.flt.on hal).cell 0
      have hk5 := (hal.cell (p := ⟨b, off + 5, none⟩) HBK.out).trans HC5.out
      have HS10 := Lib.hid (HSV2.out.on hal)
      have hb10 := hbv9.trans (hal.mono hbv9.size)
      simp at hf0
      clear HSV2 HC5 hpo hb9
      go_upto_region 13 with (fail)
      clear hc9 hal P3 HP' HP
      generalize v9.alloc (.cells #[.int .i64 4, .int .i64 (l : Int), .int .i64 (-1), .int .i64 2, .int .i64 0, .slice E1 0 t1, .slice (some ⟨b, off, none⟩) 1 t2] 27) = v10 at *
      have hc7 := HR.out.seven
      have hal := (Below.refl v10.heap.size v10).alloc (Nat.le_refl _) (.cells #[.int .i64 (c : Int), .int .i64 (c : Int)] 39)
      have HL1 := Lib.hid (HS10.out.on hal)
      have HL2 : Hid (SetV (v10.heap.size + 1) (v10.alloc (.cells #[.int .i64 (c : Int), .int .i64 (c : Int)] 39)) (.slice (some ⟨v10.heap.size, 0, none⟩) 1 1) [((c : Int), (c : Int))]) := Lib.hid (set_lit v10 [((c : Int), (c : Int))] 1 rfl)
      have hb14 := hb10.trans (hal.mono hb10.size)
      clear hal HS10
      go_wp2_with fail
      refine (same_any _ _ [((c : Int), (c : Int))] [((c : Int), (c : Int))] _ (by simp) (by simp) HL1.out (by rw [World.size_alloc]; exact HL2.out)).mono ?_
      rintro e w15 ⟨rfl, hb15⟩
      rw [sameB_refl]
      have hb16 := hb14.trans (hb15.mono hb14.size)
      clear hf0 hk5 HL1 HL2
      go_wp2
      go_ret
      exact ⟨rfl, hb16⟩
    · have HP' := HPN.out hr
      rw [HP'] at HP
      refine (HP.out _ HT9.out).mono ?_
      rintro e w9 ⟨rfl, hb9⟩
      unfold zero9
      have P3 := Lib.hid (put_new W8 w9 #[.int .i64 0, .int .i64 0, .int .i64 0, .int .i64 0, .int .i64 0, .slice none 0 0, .slice none 0 0, .int .i64 0, .bool false] #[.int .i64 23, .int .i64 (n : Nat)] hb9)
      go_upto_region 10 with (fail)
      generalize (w9.alloc (.cells #[.int .i64 0, .int .i64 0, .int .i64 0, .int .i64 0, .int .i64 0, .slice none 0 0, .slice none 0 0, .int .i64 0, .bool false] 29)).alloc (.cells #[.int .i64 23, .int .i64 (n : Nat)] 32) = v9 at *
      have HF := Lib.hid P3.out.flt
      have hf0 := P3.out.flt.cell 0
      simp at hf0
      have hbv9 := hbx8.trans (P3.out.keep.mono hbx8.size)
      clear P3 HP' HP hb9
      have d1 : (64 : Int) < (l : Int) := by
        have := hr
        unfold rightQ at this
        omega
      go_upto_region 11 with (fail)
      refine wp_region_held_drew (S := (fun W => Blk W (w9.heap.size + 1) 32 #[.int .i64 23, .int .i64 (n : Nat)])) (by kernel_rfl) (HF.out.on (Below.refl _ v9).drew) (fun hHeld => ?_)
      have hb11 := hbv9.drew
      clear HF hf0
      generalize v9.drew = W11 at *
      refine take_d 0 96 (.pointer (some ⟨w9.heap.size + 1, 0, none⟩)) _ rfl rfl (by kernel_rfl) (by kernel_rfl) (by kernel_rfl) (fun _ _ _ h => h) (Or.inl ⟨by rfl, fun w' hSw => ?_⟩) hHeld ?_
      · go_simp
      simp only [List.setIfInBounds_toArray, List.set_cons_zero, List.set_cons_succ]
      refine take_d 1 97 (.int .i64 23) _ rfl rfl (by kernel_rfl) (by kernel_rfl) (by kernel_rfl) (fun _ _ _ h => h) (Or.inl ⟨by rfl, fun w' hSw => ?_⟩) hHeld ?_
      · have hS0 := hSw.cell 0
        simp at hS0
        clear hSw
        go_simp
      simp only [List.setIfInBounds_toArray, List.set_cons_zero, List.set_cons_succ]
      refine take_d 2 98 (.bool true) _ rfl rfl (by kernel_rfl) (by kernel_rfl) (by kernel_rfl) (fun _ _ _ h => h) (Or.inl ⟨by rfl, fun w' hSw => ?_⟩) hHeld ?_
      · go_simp
      simp only [List.setIfInBounds_toArray, List.set_cons_zero, List.set_cons_succ]
      refine take_d 3 99 (.bool true) _ rfl rfl (by kernel_rfl) (by kernel_rfl) (by kernel_rfl) (fun _ _ _ h => h) (Or.inl ⟨by rfl, fun w' hSw => ?_⟩) hHeld ?_
      · go_simp
      simp only [List.setIfInBounds_toArray, List.set_cons_zero, List.set_cons_succ]
      refine take_d 4 100 (.pointer (some ⟨w9.heap.size + 1, 1, none⟩)) _ rfl rfl (by kernel_rfl) (by kernel_rfl) (by kernel_rfl) (fun _ _ _ h => h) (Or.inl ⟨by rfl, fun w' hSw => ?_⟩) hHeld ?_
      · go_simp
      simp only [List.setIfInBounds_toArray, List.set_cons_zero, List.set_cons_succ]
      refine take_d 5 101 (.int .i64 (n : Nat)) _ rfl rfl (by kernel_rfl) (by kernel_rfl) (by kernel_rfl) (fun _ _ _ h => h) (Or.inl ⟨by rfl, fun w' hSw => ?_⟩) hHeld ?_
      · have hS0 := hSw.cell 1
        simp at hS0
        clear hSw
        go_simp
      simp only [List.setIfInBounds_toArray, List.set_cons_zero, List.set_cons_succ]
      refine take_d 6 102 (.int .i64 (c : Int)) _ rfl rfl (by kernel_rfl) (by kernel_rfl) (by kernel_rfl) (fun _ _ _ h => h) (Or.inl ⟨by rfl, fun w' hSw => ?_⟩) hHeld ?_
      · go_simp
      simp only [List.setIfInBounds_toArray, List.set_cons_zero, List.set_cons_succ]
      refine wpAnyH_ready (rs := [7]) (by kernel_rfl) (by simp) ?_
      refine AllReadyH.cons rfl (fun K hK => ?_) AllReadyH.nil
      go_simp
      refine (HBY.out _).mono ?_
      rintro e w12 ⟨v', rfl, hmv', hb12⟩
      obtain ⟨A', cap', rfl, -, -⟩ := hmv'
      refine hK.out _ _ (hHeld.on hb12) (fun hHeld => ?_)
      clear hK K
      rw [HN.out]
      have hb13 := hb11.trans (hb12.mono hb11.size)
      refine take_d 8 104 (.int .i64 (n : Nat)) _ rfl rfl (by kernel_rfl) (by kernel_rfl) (by kernel_rfl) (fun _ _ _ h => h) (Or.inl ⟨by rfl, fun w' hSw => ?_⟩) hHeld ?_
      · go_simp
      simp only [List.setIfInBounds_toArray, List.set_cons_zero, List.set_cons_succ]
      refine take_d 9 105 (.bool true) _ rfl rfl (by kernel_rfl) (by kernel_rfl) (by kernel_rfl) (fun _ _ _ h => h) (Or.inl ⟨by rfl, fun w' hSw => ?_⟩) hHeld ?_
      · go_simp
      simp only [List.setIfInBounds_toArray, List.set_cons_zero, List.set_cons_succ]
      refine take_d 10 106 (.bool true) _ rfl rfl (by kernel_rfl) (by kernel_rfl) (by kernel_rfl) (fun _ _ _ h => h) (Or.inl ⟨by rfl, fun w' hSw => ?_⟩) hHeld ?_
      · go_simp
      simp only [List.setIfInBounds_toArray, List.set_cons_zero, List.set_cons_succ]
      refine take_d 11 8 (.bool true) _ rfl rfl (by kernel_rfl) (by kernel_rfl) (by kernel_rfl) (fun _ _ _ h => h) (Or.inl ⟨by rfl, fun w' hSw => ?_⟩) hHeld ?_
      · go_simp
      simp only [List.setIfInBounds_toArray, List.set_cons_zero, List.set_cons_succ]
      refine wpAnyH_done (by kernel_rfl) ?_ _
      clear hHeld
      go_wp2
      go_ret
      exact ⟨rfl, hb13⟩
  · clear HAL
    go_enter Tryd.func5, Tryd.ntmps5
    go_wp2_with fail
    refine HA.out.mono ?_
    rintro e wx ⟨rfl, hbx⟩
    go_wp2_with fail
    refine (char_is (c : Int) true HCH.out _).mono ?_
    rintro e wy ⟨rfl, hwy⟩
    rw [hwy]
    clear hwy wy
    go_upto_region 5 with (fail)
    refine wp_region_held_drew (S := fun _ => True) (by kernel_rfl) trivial (fun hHeld => ?_)
    have hb5 := hbx.drew
    generalize wx.drew = W5 at *
    refine take_d 0 55 (.int .i64 (c : Int)) _ rfl rfl (by kernel_rfl) (by kernel_rfl) (by kernel_rfl) (fun _ _ _ h => h) (Or.inl ⟨by rfl, fun w' hSw => ?_⟩) hHeld ?_
    · go_simp
    simp only [List.setIfInBounds_toArray, List.set_cons_zero, List.set_cons_succ]
    refine take_d 4 59 (.int .i64 (l : Int)) _ rfl rfl (by kernel_rfl) (by kernel_rfl) (by kernel_rfl) (fun _ _ _ h => h) (Or.inl ⟨by rfl, fun w' hSw => ?_⟩) hHeld ?_
    · go_simp
    simp only [List.setIfInBounds_toArray, List.set_cons_zero, List.set_cons_succ]
    refine wpAnyH_ready (rs := [1]) (by kernel_rfl) (by simp) ?_
    refine AllReadyH.cons rfl (fun K hK => ?_) AllReadyH.nil
    go_simp
    refine (HBY.out _).mono ?_
    rintro e w6 ⟨v, rfl, hmv, hb6⟩
    refine hK.out _ _ trivial (fun hHeld => ?_)
    clear hHeld
    clear hK K
    have hb56 := hb5.trans (hb6.mono hb5.size)
    refine held_more (S' := fun W => (convert 40 9 v).run Tryd.prog W = .ok (.string sB) W) (fun _ _ => trivial) ?_
    have hHeld := run_string_bytes hmv
    rw [← HSB.out] at hHeld
    refine take_d 2 57 (.string sB) _ rfl rfl (by kernel_rfl) (by kernel_rfl) (by kernel_rfl) (fun _ _ _ h => h) (Or.inl ⟨by rfl, fun w' hSw => ?_⟩) hHeld ?_
    · go_simp
    simp only [List.setIfInBounds_toArray, List.set_cons_zero, List.set_cons_succ]
    refine take_d 3 58 (.string (sB ++ (⟨#[123]⟩ : ByteArray))) _ rfl rfl (by kernel_rfl) (by kernel_rfl) (by kernel_rfl) (fun _ _ _ h => h) (Or.inl ⟨by rfl, fun w' hSw => ?_⟩) hHeld ?_
    · go_simp
      omega
    simp only [List.setIfInBounds_toArray, List.set_cons_zero, List.set_cons_succ]
    refine wpAnyH_ready (rs := [5]) (by kernel_rfl) (by simp) ?_
    refine AllReadyH.cons rfl (fun K hK => ?_) AllReadyH.nil
    go_simp
    refine (HTL.out _).mono ?_
    rintro e w7 ⟨rfl, hb7⟩
    refine hK.out _ _ (by rw [HSB.out]; exact run_string_bytes (hmv.below hb7)) (fun hHeld => ?_)
    clear hK K
    refine take_d 6 61 (.string (sB ++ (⟨#[123]⟩ : ByteArray) ++ lB)) _ rfl rfl (by kernel_rfl) (by kernel_rfl) (by kernel_rfl) (fun _ _ _ h => h) (Or.inl ⟨by rfl, fun w' hSw => ?_⟩) hHeld ?_
    · go_simp
      omega
    simp only [List.setIfInBounds_toArray, List.set_cons_zero, List.set_cons_succ]
    refine take_d 7 62 (.string (sB ++ (⟨#[123]⟩ : ByteArray) ++ lB ++ (⟨#[44]⟩ : ByteArray))) _ rfl rfl (by kernel_rfl) (by kernel_rfl) (by kernel_rfl) (fun _ _ _ h => h) (Or.inl ⟨by rfl, fun w' hSw => ?_⟩) hHeld ?_
    · go_simp
      omega
    simp only [List.setIfInBounds_toArray, List.set_cons_zero, List.set_cons_succ]
    refine take_d 8 9 (.string (sB ++ (⟨#[123]⟩ : ByteArray) ++ lB ++ (⟨#[44]⟩ : ByteArray))) _ rfl rfl (by kernel_rfl) (by kernel_rfl) (by kernel_rfl) (fun _ _ _ h => h) (Or.inl ⟨by rfl, fun w' hSw => ?_⟩) hHeld ?_
    · go_simp
    simp only [List.setIfInBounds_toArray, List.set_cons_zero, List.set_cons_succ]
    refine wpAnyH_done (by kernel_rfl) ?_ _
    clear hHeld
    have hbx7 := hb56.trans (hb7.mono hb56.size)
    clear hmv hb56 hb5 hb6 hb7
    go_wp2_with fail
    have hbx8 := hbx7.trans (((Below.refl w7.heap.size w7).alloc (Nat.le_refl _) (.cells #[.string ⟨#[]⟩, .string ⟨#[63]⟩, .string ⟨#[43]⟩] 9)).mono hbx7.size)
    generalize w7.alloc (.cells #[.string ⟨#[]⟩, .string ⟨#[63]⟩, .string ⟨#[43]⟩] 9) = W8 at *
    have HT9 := Lib.hid (tabs_on HT.out hbx8 hbx8.size)
    by_cases hr : rightQ l (-1)
    · have HP' := HPY.out hr
      rw [HP'] at HP
      refine (HP.out _ HT9.out).mono ?_
      rintro e w9 ⟨E1, E2, t1, t2, rfl, hN, hb9⟩
      obtain ⟨_, _, b, off, he, -, -, -, -, hk⟩ := hN.parts
      obtain ⟨rfl, -, rfl⟩ := Value.slice.inj he
      obtain ⟨hA, hbk, D1, D2, s1, s2, hND, hC⟩ := hk 0 _ rfl
      subst hA
      rw [Nat.zero_mul, Nat.add_zero] at hC
      obtain ⟨-, -, -, -, -, h5, -⟩ := hC.seven_
      obtain ⟨_, _, _, _, -, -, -, -, hs, -⟩ := hND.parts
      have HSV := Lib.hid (SetK.to_setV hs)
      rw [set_set] at h5 HSV
      have hpo := put_on w9 #[.int .i64 4, .int .i64 (l : Int), .int .i64 (-1), .int .i64 2, .int .i64 0, .slice E1 0 t1, .slice (some ⟨b, off, none⟩) 1 t2, .int .i64 0, .bool false] #[.int .i64 0, .int .i64 0]
      have HC5 := Lib.hid ((hpo.cell (p := ⟨b, off + 5, none⟩) hbk).trans h5)
      have HBK := Lib.hid (Nat.lt_of_lt_of_le hbk hpo.size)
      have HSV2 := Lib.hid (HSV.out.on hpo)
      clear hN hk he hND hC hs h5 HSV
      unfold pCells
      simp only [rep_kind, rep_lo, rep_hi, rep_mode, rep_ref, rep_set, rep_kids, Int.cast_ofNat_Int]
      have P3 := Lib.hid (put_new W8 w9 #[.int .i64 4, .int .i64 (l : Int), .int .i64 (-1), .int .i64 2, .int .i64 0, .slice E1 0 t1, .slice (some ⟨b, off, none⟩) 1 t2, .int .i64 0, .bool false] #[.int .i64 0, .int .i64 0] hb9)
      go_upto_region 10 with (fail)
      generalize (w9.alloc (.cells #[.int .i64 4, .int .i64 (l : Int), .int .i64 (-1), .int .i64 2, .int .i64 0, .slice E1 0 t1, .slice (some ⟨b, off, none⟩) 1 t2, .int .i64 0, .bool false] 29)).alloc (.cells #[.int .i64 0, .int .i64 0] 32) = v9 at *
      have hbv9 := hbx8.trans (P3.out.keep.mono hbx8.size)
      have hc9 := P3.out.node.nine
      have e1 : ¬ (64 : Int) < (l : Int) := by have := hr.1; omega
      have hal := (Below.refl v9.heap.size v9).alloc (Nat.le_refl _) (.cells #[.int .i64 4, .int .i64 (l : Int), .int .i64 (-1), .int .i64 2, .int .i64 0, .slice E1 0 t1, .slice (some ⟨b, off, none⟩) 1 t2] 27)
      have HR := Lib.hid (Blk.new v9 27 #[.int .i64 4, .int .i64 (l : Int), .int .i64 (-1), .int .i64 2, .int .i64 0, .slice E1 0 t1, .slice (some ⟨b, off, none⟩) 1 t2])
      have hf0 := (P3.out.flt.on hal).cell 0
      have hk5 := (hal.cell (p := ⟨b, off + 5, none⟩) HBK.out).trans HC5.out
      have HS10 := Lib.hid (HSV2.out.on hal)
      have hb10 := hbv9.trans (hal.mono hbv9.size)
      simp at hf0
      clear HSV2 HC5 hpo hb9
      go_upto_region 13 with (fail)
      clear hc9 hal P3 HP' HP
      generalize v9.alloc (.cells #[.int .i64 4, .int .i64 (l : Int), .int .i64 (-1), .int .i64 2, .int .i64 0, .slice E1 0 t1, .slice (some ⟨b, off, none⟩) 1 t2] 27) = v10 at *
      have hc7 := HR.out.seven
      have hal := (Below.refl v10.heap.size v10).alloc (Nat.le_refl _) (.cells #[.int .i64 (c : Int), .int .i64 (c : Int)] 39)
      have HL1 := Lib.hid (HS10.out.on hal)
      have HL2 : Hid (SetV (v10.heap.size + 1) (v10.alloc (.cells #[.int .i64 (c : Int), .int .i64 (c : Int)] 39)) (.slice (some ⟨v10.heap.size, 0, none⟩) 1 1) [((c : Int), (c : Int))]) := Lib.hid (set_lit v10 [((c : Int), (c : Int))] 1 rfl)
      have hb14 := hb10.trans (hal.mono hb10.size)
      clear hal HS10
      go_wp2_with fail
      refine (same_any _ _ [((c : Int), (c : Int))] [((c : Int), (c : Int))] _ (by simp) (by simp) HL1.out (by rw [World.size_alloc]; exact HL2.out)).mono ?_
      rintro e w15 ⟨rfl, hb15⟩
      rw [sameB_refl]
      have hb16 := hb14.trans (hb15.mono hb14.size)
      clear hf0 hk5 HL1 HL2
      go_wp2
      go_ret
      exact ⟨rfl, hb16⟩
    · have HP' := HPN.out hr
      rw [HP'] at HP
      refine (HP.out _ HT9.out).mono ?_
      rintro e w9 ⟨rfl, hb9⟩
      unfold zero9
      have P3 := Lib.hid (put_new W8 w9 #[.int .i64 0, .int .i64 0, .int .i64 0, .int .i64 0, .int .i64 0, .slice none 0 0, .slice none 0 0, .int .i64 0, .bool false] #[.int .i64 23, .int .i64 (n : Nat)] hb9)
      go_upto_region 10 with (fail)
      generalize (w9.alloc (.cells #[.int .i64 0, .int .i64 0, .int .i64 0, .int .i64 0, .int .i64 0, .slice none 0 0, .slice none 0 0, .int .i64 0, .bool false] 29)).alloc (.cells #[.int .i64 23, .int .i64 (n : Nat)] 32) = v9 at *
      have HF := Lib.hid P3.out.flt
      have hf0 := P3.out.flt.cell 0
      simp at hf0
      have hbv9 := hbx8.trans (P3.out.keep.mono hbx8.size)
      clear P3 HP' HP hb9
      have d1 : (64 : Int) < (l : Int) := by
        have := hr
        unfold rightQ at this
        omega
      go_upto_region 11 with (fail)
      refine wp_region_held_drew (S := (fun W => Blk W (w9.heap.size + 1) 32 #[.int .i64 23, .int .i64 (n : Nat)])) (by kernel_rfl) (HF.out.on (Below.refl _ v9).drew) (fun hHeld => ?_)
      have hb11 := hbv9.drew
      clear HF hf0
      generalize v9.drew = W11 at *
      refine take_d 0 96 (.pointer (some ⟨w9.heap.size + 1, 0, none⟩)) _ rfl rfl (by kernel_rfl) (by kernel_rfl) (by kernel_rfl) (fun _ _ _ h => h) (Or.inl ⟨by rfl, fun w' hSw => ?_⟩) hHeld ?_
      · go_simp
      simp only [List.setIfInBounds_toArray, List.set_cons_zero, List.set_cons_succ]
      refine take_d 1 97 (.int .i64 23) _ rfl rfl (by kernel_rfl) (by kernel_rfl) (by kernel_rfl) (fun _ _ _ h => h) (Or.inl ⟨by rfl, fun w' hSw => ?_⟩) hHeld ?_
      · have hS0 := hSw.cell 0
        simp at hS0
        clear hSw
        go_simp
      simp only [List.setIfInBounds_toArray, List.set_cons_zero, List.set_cons_succ]
      refine take_d 2 98 (.bool true) _ rfl rfl (by kernel_rfl) (by kernel_rfl) (by kernel_rfl) (fun _ _ _ h => h) (Or.inl ⟨by rfl, fun w' hSw => ?_⟩) hHeld ?_
      · go_simp
      simp only [List.setIfInBounds_toArray, List.set_cons_zero, List.set_cons_succ]
      refine take_d 3 99 (.bool true) _ rfl rfl (by kernel_rfl) (by kernel_rfl) (by kernel_rfl) (fun _ _ _ h => h) (Or.inl ⟨by rfl, fun w' hSw => ?_⟩) hHeld ?_
      · go_simp
      simp only [List.setIfInBounds_toArray, List.set_cons_zero, List.set_cons_succ]
      refine take_d 4 100 (.pointer (some ⟨w9.heap.size + 1, 1, none⟩)) _ rfl rfl (by kernel_rfl) (by kernel_rfl) (by kernel_rfl) (fun _ _ _ h => h) (Or.inl ⟨by rfl, fun w' hSw => ?_⟩) hHeld ?_
      · go_simp
      simp only [List.setIfInBounds_toArray, List.set_cons_zero, List.set_cons_succ]
      refine take_d 5 101 (.int .i64 (n : Nat)) _ rfl rfl (by kernel_rfl) (by kernel_rfl) (by kernel_rfl) (fun _ _ _ h => h) (Or.inl ⟨by rfl, fun w' hSw => ?_⟩) hHeld ?_
      · have hS0 := hSw.cell 1
        simp at hS0
        clear hSw
        go_simp
      simp only [List.setIfInBounds_toArray, List.set_cons_zero, List.set_cons_succ]
      refine take_d 6 102 (.int .i64 (c : Int)) _ rfl rfl (by kernel_rfl) (by kernel_rfl) (by kernel_rfl) (fun _ _ _ h => h) (Or.inl ⟨by rfl, fun w' hSw => ?_⟩) hHeld ?_
      · go_simp
      simp only [List.setIfInBounds_toArray, List.set_cons_zero, List.set_cons_succ]
      refine wpAnyH_ready (rs := [7]) (by kernel_rfl) (by simp) ?_
      refine AllReadyH.cons rfl (fun K hK => ?_) AllReadyH.nil
      go_simp
      refine (HBY.out _).mono ?_
      rintro e w12 ⟨v', rfl, hmv', hb12⟩
      obtain ⟨A', cap', rfl, -, -⟩ := hmv'
      refine hK.out _ _ (hHeld.on hb12) (fun hHeld => ?_)
      clear hK K
      rw [HN.out]
      have hb13 := hb11.trans (hb12.mono hb11.size)
      refine take_d 8 104 (.int .i64 (n : Nat)) _ rfl rfl (by kernel_rfl) (by kernel_rfl) (by kernel_rfl) (fun _ _ _ h => h) (Or.inl ⟨by rfl, fun w' hSw => ?_⟩) hHeld ?_
      · go_simp
      simp only [List.setIfInBounds_toArray, List.set_cons_zero, List.set_cons_succ]
      refine take_d 9 105 (.bool true) _ rfl rfl (by kernel_rfl) (by kernel_rfl) (by kernel_rfl) (fun _ _ _ h => h) (Or.inl ⟨by rfl, fun w' hSw => ?_⟩) hHeld ?_
      · go_simp
      simp only [List.setIfInBounds_toArray, List.set_cons_zero, List.set_cons_succ]
      refine take_d 10 106 (.bool true) _ rfl rfl (by kernel_rfl) (by kernel_rfl) (by kernel_rfl) (fun _ _ _ h => h) (Or.inl ⟨by rfl, fun w' hSw => ?_⟩) hHeld ?_
      · go_simp
      simp only [List.setIfInBounds_toArray, List.set_cons_zero, List.set_cons_succ]
      refine take_d 11 8 (.bool true) _ rfl rfl (by kernel_rfl) (by kernel_rfl) (by kernel_rfl) (fun _ _ _ h => h) (Or.inl ⟨by rfl, fun w' hSw => ?_⟩) hHeld ?_
      · go_simp
      simp only [List.setIfInBounds_toArray, List.set_cons_zero, List.set_cons_succ]
      refine wpAnyH_done (by kernel_rfl) ?_ _
      clear hHeld
      go_wp2
      go_ret
      exact ⟨rfl, hb13⟩

end Go.Proofs.YthipgidddgdojaaDoor

/- ParseRepeats' walk, where it has one, mode 2. -/
namespace Go.Proofs.YthipgidddgdojaaDoor
open Go.RowKit
open Go.Proofs.YthipgidddgdojaaDoor.Cl (Rg SetV SetAt rgCells hasB setHas_any same_any sameB_refl)
variable {w w' : World}

theorem rep_eq_pos2 (s : List UInt8) (l : Nat) (k : Nat) : (⟨s.toArray⟩ : ByteArray) ++ (⟨#[123]⟩ : ByteArray) ++ (⟨(dd l).toArray⟩ : ByteArray) ++ (⟨#[44]⟩ : ByteArray) ++ (⟨(dd k).toArray⟩ : ByteArray) ++ ((⟨#[125]⟩ : ByteArray) ++ (⟨#[43]⟩ : ByteArray)) = ⟨(s ++ braceT l (k : Int) 2).toArray⟩ := by
  apply ByteArray.ext
  simp [ByteArray.data_append, braceT, hiB, modeB]
  intro h
  omega
set_option maxRecDepth 100000 in
set_option maxHeartbeats 2000000 in
theorem rep_pos2 (c : Nat) (hc : isCh c) (hs : isSign (c : Int) = false) (ha : (c : Int) < 128 → hasB [((48 : Int), (57 : Int)), (65, 90), (97, 122)] (c : Int) = true) (l : Nat) (hl : l ≤ 99) (k : Nat) (hk : k ≤ 99) (hT : TabsAt w.heap.size w) :
    Calls Tryd.prog 5 #[.int .i64 (c : Int), .int .i64 (l : Int), .int .i64 (k : Int), .int .i64 2] w fun e w' => e = .returned (.bool true) ∧ Below w.heap.size w w' := by
  have HT := Lib.hid hT
  have HA := Lib.hid (anchor_any hT)
  clear hT
  have HCH : Hid (charB (c : Int) = true) := Lib.hid (by obtain ⟨q1, q2⟩ := hc; simp [charB]; omega)
  have l0 : ¬ (l : Int) < 0 := by omega
  have l9 : ¬ (99 : Int) < (l : Int) := by omega
  have k0 : ¬ (k : Int) < -1 := by omega
  have k9 : ¬ (99 : Int) < (k : Int) := by omega
  have kp : (0 : Int) ≤ (k : Int) := by omega
  have hby := bytes_any c hc
  have hpy := fun hr => parse_rep 1026 hc hs (lo := l) (hi := (k : Int)) (m := 2) hl (by omega) (by omega) (by omega) hr
  have hpn := fun hr => parse_rep_no 1026 hc hs (lo := l) (hi := (k : Int)) (m := 2) hl (by omega) (by omega) hr
  obtain ⟨n, hn⟩ : ∃ n, n = (encN c).length := ⟨_, rfl⟩
  rw [← hn] at hpn
  have hnl : (toB (encN c)).length = n := by rw [toB_len, hn]
  have hn4 : n ≤ 4 := by have := (encN_len c).2; omega
  have hn4' : (n : Int) ≤ 4 := by omega
  obtain ⟨s, hse⟩ : ∃ s, s = toB (encN c) := ⟨_, rfl⟩
  rw [← hse] at hby hpy hpn hnl
  obtain ⟨sB, hsB⟩ : ∃ sB : ByteArray, sB = ⟨s.toArray⟩ := ⟨_, rfl⟩
  obtain ⟨lB, hlB⟩ : ∃ lB : ByteArray, lB = ⟨(dd l).toArray⟩ := ⟨_, rfl⟩
  have hsz : sB.size ≤ 4 := by
    rw [hsB]
    show s.toArray.size ≤ 4
    rw [List.size_toArray, hnl]
    exact hn4
  have hlz : lB.size ≤ 2 := by rw [hlB]; exact Nat.le_refl _
  have htl := two_any l hl
  rw [← hlB] at htl
  obtain ⟨kB, hkB⟩ : ∃ kB : ByteArray, kB = ⟨(dd k).toArray⟩ := ⟨_, rfl⟩
  have hkz : kB.size ≤ 2 := by rw [hkB]; exact Nat.le_refl _
  have htk := two_any k hk
  rw [← hkB] at htk
  have HTK := Lib.hid htk
  have HP : Hid (∀ W : World, TabsAt W.heap.size W → Calls Tryd.prog 10 #[.string (sB ++ (⟨#[123]⟩ : ByteArray) ++ lB ++ (⟨#[44]⟩ : ByteArray) ++ kB ++ ((⟨#[125]⟩ : ByteArray) ++ (⟨#[43]⟩ : ByteArray)))] W (ParsePost W (parse 1030 (s ++ braceT l (k : Int) 2)))) := Lib.hid (fun W hW => by
    rw [hsB, hlB, hkB, rep_eq_pos2]
    exact parse_any (s := s ++ braceT l (k : Int) 2) 1030 (by omega) (by have := brace_len l (k : Int) 2; simp; omega) hW)
  have HSB := Lib.hid hsB
  have HTL := Lib.hid htl
  have HPY := Lib.hid hpy
  have HPN := Lib.hid hpn
  have HBY := Lib.hid hby
  have HN := Lib.hid hnl
  have HAL := Lib.hid ha
  clear hse hby hpy hpn hnl hn hn4 hc hs ha hsB hlB htl hkB htk
  by_cases h128 : (c : Int) < 128
  · have HAL := Lib.hid (HAL.out h128)
    go_enter Tryd.func5, Tryd.ntmps5
    go_wp2_with fail
    refine HA.out.mono ?_
    rintro e w0 ⟨rfl, hb0⟩
    go_wp2_with fail
    refine (char_is (c : Int) true HCH.out _).mono ?_
    rintro e wy ⟨rfl, hwy⟩
    rw [hwy]
    clear hwy wy
    have HL : Hid (SetV (w0.heap.size + 1) (w0.alloc (.cells #[.int .i64 48, .int .i64 57, .int .i64 65, .int .i64 90, .int .i64 97, .int .i64 122] 39)) (.slice (some ⟨w0.heap.size, 0, none⟩) 3 3) [((48 : Int), (57 : Int)), (65, 90), (97, 122)]) := Lib.hid (set_lit w0 [((48 : Int), (57 : Int)), (65, 90), (97, 122)] 3 rfl)
    have hal := (Below.refl w0.heap.size w0).alloc (Nat.le_refl _) (.cells #[.int .i64 48, .int .i64 57, .int .i64 65, .int .i64 90, .int .i64 97, .int .i64 122] 39)
    go_wp2_with fail
    refine (setHas_any _ [((48 : Int), (57 : Int)), (65, 90), (97, 122)] (c : Int) _ (by simp) (by rw [World.size_alloc]; exact HL.out)).mono ?_
    rintro e wx ⟨rfl, hbh⟩
    have hbx := hb0.trans ((hal.trans (hbh.mono hal.size)).mono hb0.size)
    rw [HAL.out]
    clear hal hbh HL hb0
    go_upto_region 5 with (fail)
    refine wp_region_held_drew (S := fun _ => True) (by kernel_rfl) trivial (fun hHeld => ?_)
    have hb5 := hbx.drew
    generalize wx.drew = W5 at *
    refine take_d 0 55 (.int .i64 (c : Int)) _ rfl rfl (by kernel_rfl) (by kernel_rfl) (by kernel_rfl) (fun _ _ _ h => h) (Or.inl ⟨by rfl, fun w' hSw => ?_⟩) hHeld ?_
    · go_simp
    simp only [List.setIfInBounds_toArray, List.set_cons_zero, List.set_cons_succ]
    refine take_d 4 59 (.int .i64 (l : Int)) _ rfl rfl (by kernel_rfl) (by kernel_rfl) (by kernel_rfl) (fun _ _ _ h => h) (Or.inl ⟨by rfl, fun w' hSw => ?_⟩) hHeld ?_
    · go_simp
    simp only [List.setIfInBounds_toArray, List.set_cons_zero, List.set_cons_succ]
    refine wpAnyH_ready (rs := [1]) (by kernel_rfl) (by simp) ?_
    refine AllReadyH.cons rfl (fun K hK => ?_) AllReadyH.nil
    go_simp
    refine (HBY.out _).mono ?_
    rintro e w6 ⟨v, rfl, hmv, hb6⟩
    refine hK.out _ _ trivial (fun hHeld => ?_)
    clear hHeld
    clear hK K
    have hb56 := hb5.trans (hb6.mono hb5.size)
    refine held_more (S' := fun W => (convert 40 9 v).run Tryd.prog W = .ok (.string sB) W) (fun _ _ => trivial) ?_
    have hHeld := run_string_bytes hmv
    rw [← HSB.out] at hHeld
    refine take_d 2 57 (.string sB) _ rfl rfl (by kernel_rfl) (by kernel_rfl) (by kernel_rfl) (fun _ _ _ h => h) (Or.inl ⟨by rfl, fun w' hSw => ?_⟩) hHeld ?_
    · go_simp
    simp only [List.setIfInBounds_toArray, List.set_cons_zero, List.set_cons_succ]
    refine take_d 3 58 (.string (sB ++ (⟨#[123]⟩ : ByteArray))) _ rfl rfl (by kernel_rfl) (by kernel_rfl) (by kernel_rfl) (fun _ _ _ h => h) (Or.inl ⟨by rfl, fun w' hSw => ?_⟩) hHeld ?_
    · go_simp
      omega
    simp only [List.setIfInBounds_toArray, List.set_cons_zero, List.set_cons_succ]
    refine wpAnyH_ready (rs := [5]) (by kernel_rfl) (by simp) ?_
    refine AllReadyH.cons rfl (fun K hK => ?_) AllReadyH.nil
    go_simp
    refine (HTL.out _).mono ?_
    rintro e w7 ⟨rfl, hb7⟩
    refine hK.out _ _ (by rw [HSB.out]; exact run_string_bytes (hmv.below hb7)) (fun hHeld => ?_)
    clear hK K
    refine take_d 6 61 (.string (sB ++ (⟨#[123]⟩ : ByteArray) ++ lB)) _ rfl rfl (by kernel_rfl) (by kernel_rfl) (by kernel_rfl) (fun _ _ _ h => h) (Or.inl ⟨by rfl, fun w' hSw => ?_⟩) hHeld ?_
    · go_simp
      omega
    simp only [List.setIfInBounds_toArray, List.set_cons_zero, List.set_cons_succ]
    refine take_d 7 62 (.string (sB ++ (⟨#[123]⟩ : ByteArray) ++ lB ++ (⟨#[44]⟩ : ByteArray))) _ rfl rfl (by kernel_rfl) (by kernel_rfl) (by kernel_rfl) (fun _ _ _ h => h) (Or.inl ⟨by rfl, fun w' hSw => ?_⟩) hHeld ?_
    · go_simp
      omega
    simp only [List.setIfInBounds_toArray, List.set_cons_zero, List.set_cons_succ]
    refine take_d 8 9 (.string (sB ++ (⟨#[123]⟩ : ByteArray) ++ lB ++ (⟨#[44]⟩ : ByteArray))) _ rfl rfl (by kernel_rfl) (by kernel_rfl) (by kernel_rfl) (fun _ _ _ h => h) (Or.inl ⟨by rfl, fun w' hSw => ?_⟩) hHeld ?_
    · go_simp
    simp only [List.setIfInBounds_toArray, List.set_cons_zero, List.set_cons_succ]
    refine wpAnyH_done (by kernel_rfl) ?_ _
    clear hHeld
    have hbx7 := hb56.trans (hb7.mono hb56.size)
    clear hmv hb56 hb5 hb6 hb7
    go_wp2_with fail
    refine (HTK.out _).mono ?_
    rintro e w8 ⟨rfl, hb8⟩
    have hbx8 := hbx7.trans (hb8.mono hbx7.size)
    clear hb8 hbx7
    go_wp2_with fail
    have hbx8 := hbx8.trans (((Below.refl w8.heap.size w8).alloc (Nat.le_refl _) (.cells #[.string ⟨#[]⟩, .string ⟨#[63]⟩, .string ⟨#[43]⟩] 9)).mono hbx8.size)
    generalize w8.alloc (.cells #[.string ⟨#[]⟩, .string ⟨#[63]⟩, .string ⟨#[43]⟩] 9) = W8 at *
    have HT9 := Lib.hid (tabs_on HT.out hbx8 hbx8.size)
    by_cases hr : rightQ l (k : Int)
    · have HP' := HPY.out hr
      rw [HP'] at HP
      refine (HP.out _ HT9.out).mono ?_
      rintro e w9 ⟨E1, E2, t1, t2, rfl, hN, hb9⟩
      obtain ⟨_, _, b, off, he, -, -, -, -, hk⟩ := hN.parts
      obtain ⟨rfl, -, rfl⟩ := Value.slice.inj he
      obtain ⟨hA, hbk, D1, D2, s1, s2, hND, hC⟩ := hk 0 _ rfl
      subst hA
      rw [Nat.zero_mul, Nat.add_zero] at hC
      obtain ⟨-, -, -, -, -, h5, -⟩ := hC.seven_
      obtain ⟨_, _, _, _, -, -, -, -, hs, -⟩ := hND.parts
      have HSV := Lib.hid (SetK.to_setV hs)
      rw [set_set] at h5 HSV
      have hpo := put_on w9 #[.int .i64 4, .int .i64 (l : Int), .int .i64 (k : Int), .int .i64 2, .int .i64 0, .slice E1 0 t1, .slice (some ⟨b, off, none⟩) 1 t2, .int .i64 0, .bool false] #[.int .i64 0, .int .i64 0]
      have HC5 := Lib.hid ((hpo.cell (p := ⟨b, off + 5, none⟩) hbk).trans h5)
      have HBK := Lib.hid (Nat.lt_of_lt_of_le hbk hpo.size)
      have HSV2 := Lib.hid (HSV.out.on hpo)
      clear hN hk he hND hC hs h5 HSV
      unfold pCells
      simp only [rep_kind, rep_lo, rep_hi, rep_mode, rep_ref, rep_set, rep_kids, Int.cast_ofNat_Int]
      have P3 := Lib.hid (put_new W8 w9 #[.int .i64 4, .int .i64 (l : Int), .int .i64 (k : Int), .int .i64 2, .int .i64 0, .slice E1 0 t1, .slice (some ⟨b, off, none⟩) 1 t2, .int .i64 0, .bool false] #[.int .i64 0, .int .i64 0] hb9)
      go_upto_region 10 with (fail)
      generalize (w9.alloc (.cells #[.int .i64 4, .int .i64 (l : Int), .int .i64 (k : Int), .int .i64 2, .int .i64 0, .slice E1 0 t1, .slice (some ⟨b, off, none⟩) 1 t2, .int .i64 0, .bool false] 29)).alloc (.cells #[.int .i64 0, .int .i64 0] 32) = v9 at *
      have hbv9 := hbx8.trans (P3.out.keep.mono hbx8.size)
      have hc9 := P3.out.node.nine
      have e1 : ¬ (64 : Int) < (l : Int) := by have := hr.1; omega
      have e2 : ¬ (64 : Int) < (k : Int) := by have := hr.2 (by omega); omega
      have e3 : (0 : Int) ≤ (k : Int) := by omega
      have e4 : ¬ (k : Int) < (l : Int) := by have := hr.2 (by omega); omega
      have hal := (Below.refl v9.heap.size v9).alloc (Nat.le_refl _) (.cells #[.int .i64 4, .int .i64 (l : Int), .int .i64 (k : Int), .int .i64 2, .int .i64 0, .slice E1 0 t1, .slice (some ⟨b, off, none⟩) 1 t2] 27)
      have HR := Lib.hid (Blk.new v9 27 #[.int .i64 4, .int .i64 (l : Int), .int .i64 (k : Int), .int .i64 2, .int .i64 0, .slice E1 0 t1, .slice (some ⟨b, off, none⟩) 1 t2])
      have hf0 := (P3.out.flt.on hal).cell 0
      have hk5 := (hal.cell (p := ⟨b, off + 5, none⟩) HBK.out).trans HC5.out
      have HS10 := Lib.hid (HSV2.out.on hal)
      have hb10 := hbv9.trans (hal.mono hbv9.size)
      simp at hf0
      clear HSV2 HC5 hpo hb9
      go_upto_region 13 with (fail)
      clear hc9 hal P3 HP' HP
      generalize v9.alloc (.cells #[.int .i64 4, .int .i64 (l : Int), .int .i64 (k : Int), .int .i64 2, .int .i64 0, .slice E1 0 t1, .slice (some ⟨b, off, none⟩) 1 t2] 27) = v10 at *
      have hc7 := HR.out.seven
      have hal := (Below.refl v10.heap.size v10).alloc (Nat.le_refl _) (.cells #[.int .i64 (c : Int), .int .i64 (c : Int)] 39)
      have HL1 := Lib.hid (HS10.out.on hal)
      have HL2 : Hid (SetV (v10.heap.size + 1) (v10.alloc (.cells #[.int .i64 (c : Int), .int .i64 (c : Int)] 39)) (.slice (some ⟨v10.heap.size, 0, none⟩) 1 1) [((c : Int), (c : Int))]) := Lib.hid (set_lit v10 [((c : Int), (c : Int))] 1 rfl)
      have hb14 := hb10.trans (hal.mono hb10.size)
      clear hal HS10
      go_wp2_with fail
      refine (same_any _ _ [((c : Int), (c : Int))] [((c : Int), (c : Int))] _ (by simp) (by simp) HL1.out (by rw [World.size_alloc]; exact HL2.out)).mono ?_
      rintro e w15 ⟨rfl, hb15⟩
      rw [sameB_refl]
      have hb16 := hb14.trans (hb15.mono hb14.size)
      clear hf0 hk5 HL1 HL2
      go_wp2
      go_ret
      exact ⟨rfl, hb16⟩
    · have HP' := HPN.out hr
      rw [HP'] at HP
      refine (HP.out _ HT9.out).mono ?_
      rintro e w9 ⟨rfl, hb9⟩
      unfold zero9
      have P3 := Lib.hid (put_new W8 w9 #[.int .i64 0, .int .i64 0, .int .i64 0, .int .i64 0, .int .i64 0, .slice none 0 0, .slice none 0 0, .int .i64 0, .bool false] #[.int .i64 23, .int .i64 (n : Nat)] hb9)
      go_upto_region 10 with (fail)
      generalize (w9.alloc (.cells #[.int .i64 0, .int .i64 0, .int .i64 0, .int .i64 0, .int .i64 0, .slice none 0 0, .slice none 0 0, .int .i64 0, .bool false] 29)).alloc (.cells #[.int .i64 23, .int .i64 (n : Nat)] 32) = v9 at *
      have HF := Lib.hid P3.out.flt
      have hf0 := P3.out.flt.cell 0
      simp at hf0
      have hbv9 := hbx8.trans (P3.out.keep.mono hbx8.size)
      clear P3 HP' HP hb9
      by_cases d1 : (64 : Int) < (l : Int)
      · go_upto_region 11 with (fail)
        refine wp_region_held_drew (S := (fun W => Blk W (w9.heap.size + 1) 32 #[.int .i64 23, .int .i64 (n : Nat)])) (by kernel_rfl) (HF.out.on (Below.refl _ v9).drew) (fun hHeld => ?_)
        have hb11 := hbv9.drew
        clear HF hf0
        generalize v9.drew = W11 at *
        refine take_d 0 96 (.pointer (some ⟨w9.heap.size + 1, 0, none⟩)) _ rfl rfl (by kernel_rfl) (by kernel_rfl) (by kernel_rfl) (fun _ _ _ h => h) (Or.inl ⟨by rfl, fun w' hSw => ?_⟩) hHeld ?_
        · go_simp
        simp only [List.setIfInBounds_toArray, List.set_cons_zero, List.set_cons_succ]
        refine take_d 1 97 (.int .i64 23) _ rfl rfl (by kernel_rfl) (by kernel_rfl) (by kernel_rfl) (fun _ _ _ h => h) (Or.inl ⟨by rfl, fun w' hSw => ?_⟩) hHeld ?_
        · have hS0 := hSw.cell 0
          simp at hS0
          clear hSw
          go_simp
        simp only [List.setIfInBounds_toArray, List.set_cons_zero, List.set_cons_succ]
        refine take_d 2 98 (.bool true) _ rfl rfl (by kernel_rfl) (by kernel_rfl) (by kernel_rfl) (fun _ _ _ h => h) (Or.inl ⟨by rfl, fun w' hSw => ?_⟩) hHeld ?_
        · go_simp
        simp only [List.setIfInBounds_toArray, List.set_cons_zero, List.set_cons_succ]
        refine take_d 3 99 (.bool true) _ rfl rfl (by kernel_rfl) (by kernel_rfl) (by kernel_rfl) (fun _ _ _ h => h) (Or.inl ⟨by rfl, fun w' hSw => ?_⟩) hHeld ?_
        · go_simp
        simp only [List.setIfInBounds_toArray, List.set_cons_zero, List.set_cons_succ]
        refine take_d 4 100 (.pointer (some ⟨w9.heap.size + 1, 1, none⟩)) _ rfl rfl (by kernel_rfl) (by kernel_rfl) (by kernel_rfl) (fun _ _ _ h => h) (Or.inl ⟨by rfl, fun w' hSw => ?_⟩) hHeld ?_
        · go_simp
        simp only [List.setIfInBounds_toArray, List.set_cons_zero, List.set_cons_succ]
        refine take_d 5 101 (.int .i64 (n : Nat)) _ rfl rfl (by kernel_rfl) (by kernel_rfl) (by kernel_rfl) (fun _ _ _ h => h) (Or.inl ⟨by rfl, fun w' hSw => ?_⟩) hHeld ?_
        · have hS0 := hSw.cell 1
          simp at hS0
          clear hSw
          go_simp
        simp only [List.setIfInBounds_toArray, List.set_cons_zero, List.set_cons_succ]
        refine take_d 6 102 (.int .i64 (c : Int)) _ rfl rfl (by kernel_rfl) (by kernel_rfl) (by kernel_rfl) (fun _ _ _ h => h) (Or.inl ⟨by rfl, fun w' hSw => ?_⟩) hHeld ?_
        · go_simp
        simp only [List.setIfInBounds_toArray, List.set_cons_zero, List.set_cons_succ]
        refine wpAnyH_ready (rs := [7]) (by kernel_rfl) (by simp) ?_
        refine AllReadyH.cons rfl (fun K hK => ?_) AllReadyH.nil
        go_simp
        refine (HBY.out _).mono ?_
        rintro e w12 ⟨v', rfl, hmv', hb12⟩
        obtain ⟨A', cap', rfl, -, -⟩ := hmv'
        refine hK.out _ _ (hHeld.on hb12) (fun hHeld => ?_)
        clear hK K
        rw [HN.out]
        have hb13 := hb11.trans (hb12.mono hb11.size)
        refine take_d 8 104 (.int .i64 (n : Nat)) _ rfl rfl (by kernel_rfl) (by kernel_rfl) (by kernel_rfl) (fun _ _ _ h => h) (Or.inl ⟨by rfl, fun w' hSw => ?_⟩) hHeld ?_
        · go_simp
        simp only [List.setIfInBounds_toArray, List.set_cons_zero, List.set_cons_succ]
        refine take_d 9 105 (.bool true) _ rfl rfl (by kernel_rfl) (by kernel_rfl) (by kernel_rfl) (fun _ _ _ h => h) (Or.inl ⟨by rfl, fun w' hSw => ?_⟩) hHeld ?_
        · go_simp
        simp only [List.setIfInBounds_toArray, List.set_cons_zero, List.set_cons_succ]
        refine take_d 10 106 (.bool true) _ rfl rfl (by kernel_rfl) (by kernel_rfl) (by kernel_rfl) (fun _ _ _ h => h) (Or.inl ⟨by rfl, fun w' hSw => ?_⟩) hHeld ?_
        · go_simp
        simp only [List.setIfInBounds_toArray, List.set_cons_zero, List.set_cons_succ]
        refine take_d 11 8 (.bool true) _ rfl rfl (by kernel_rfl) (by kernel_rfl) (by kernel_rfl) (fun _ _ _ h => h) (Or.inl ⟨by rfl, fun w' hSw => ?_⟩) hHeld ?_
        · go_simp
        simp only [List.setIfInBounds_toArray, List.set_cons_zero, List.set_cons_succ]
        refine wpAnyH_done (by kernel_rfl) ?_ _
        clear hHeld
        go_wp2
        go_ret
        exact ⟨rfl, hb13⟩
      by_cases d2 : (64 : Int) < (k : Int)
      · go_upto_region 11 with (fail)
        refine wp_region_held_drew (S := (fun W => Blk W (w9.heap.size + 1) 32 #[.int .i64 23, .int .i64 (n : Nat)])) (by kernel_rfl) (HF.out.on (Below.refl _ v9).drew) (fun hHeld => ?_)
        have hb11 := hbv9.drew
        clear HF hf0
        generalize v9.drew = W11 at *
        refine take_d 0 96 (.pointer (some ⟨w9.heap.size + 1, 0, none⟩)) _ rfl rfl (by kernel_rfl) (by kernel_rfl) (by kernel_rfl) (fun _ _ _ h => h) (Or.inl ⟨by rfl, fun w' hSw => ?_⟩) hHeld ?_
        · go_simp
        simp only [List.setIfInBounds_toArray, List.set_cons_zero, List.set_cons_succ]
        refine take_d 1 97 (.int .i64 23) _ rfl rfl (by kernel_rfl) (by kernel_rfl) (by kernel_rfl) (fun _ _ _ h => h) (Or.inl ⟨by rfl, fun w' hSw => ?_⟩) hHeld ?_
        · have hS0 := hSw.cell 0
          simp at hS0
          clear hSw
          go_simp
        simp only [List.setIfInBounds_toArray, List.set_cons_zero, List.set_cons_succ]
        refine take_d 2 98 (.bool true) _ rfl rfl (by kernel_rfl) (by kernel_rfl) (by kernel_rfl) (fun _ _ _ h => h) (Or.inl ⟨by rfl, fun w' hSw => ?_⟩) hHeld ?_
        · go_simp
        simp only [List.setIfInBounds_toArray, List.set_cons_zero, List.set_cons_succ]
        refine take_d 3 99 (.bool true) _ rfl rfl (by kernel_rfl) (by kernel_rfl) (by kernel_rfl) (fun _ _ _ h => h) (Or.inl ⟨by rfl, fun w' hSw => ?_⟩) hHeld ?_
        · go_simp
        simp only [List.setIfInBounds_toArray, List.set_cons_zero, List.set_cons_succ]
        refine take_d 4 100 (.pointer (some ⟨w9.heap.size + 1, 1, none⟩)) _ rfl rfl (by kernel_rfl) (by kernel_rfl) (by kernel_rfl) (fun _ _ _ h => h) (Or.inl ⟨by rfl, fun w' hSw => ?_⟩) hHeld ?_
        · go_simp
        simp only [List.setIfInBounds_toArray, List.set_cons_zero, List.set_cons_succ]
        refine take_d 5 101 (.int .i64 (n : Nat)) _ rfl rfl (by kernel_rfl) (by kernel_rfl) (by kernel_rfl) (fun _ _ _ h => h) (Or.inl ⟨by rfl, fun w' hSw => ?_⟩) hHeld ?_
        · have hS0 := hSw.cell 1
          simp at hS0
          clear hSw
          go_simp
        simp only [List.setIfInBounds_toArray, List.set_cons_zero, List.set_cons_succ]
        refine take_d 6 102 (.int .i64 (c : Int)) _ rfl rfl (by kernel_rfl) (by kernel_rfl) (by kernel_rfl) (fun _ _ _ h => h) (Or.inl ⟨by rfl, fun w' hSw => ?_⟩) hHeld ?_
        · go_simp
        simp only [List.setIfInBounds_toArray, List.set_cons_zero, List.set_cons_succ]
        refine wpAnyH_ready (rs := [7]) (by kernel_rfl) (by simp) ?_
        refine AllReadyH.cons rfl (fun K hK => ?_) AllReadyH.nil
        go_simp
        refine (HBY.out _).mono ?_
        rintro e w12 ⟨v', rfl, hmv', hb12⟩
        obtain ⟨A', cap', rfl, -, -⟩ := hmv'
        refine hK.out _ _ (hHeld.on hb12) (fun hHeld => ?_)
        clear hK K
        rw [HN.out]
        have hb13 := hb11.trans (hb12.mono hb11.size)
        refine take_d 8 104 (.int .i64 (n : Nat)) _ rfl rfl (by kernel_rfl) (by kernel_rfl) (by kernel_rfl) (fun _ _ _ h => h) (Or.inl ⟨by rfl, fun w' hSw => ?_⟩) hHeld ?_
        · go_simp
        simp only [List.setIfInBounds_toArray, List.set_cons_zero, List.set_cons_succ]
        refine take_d 9 105 (.bool true) _ rfl rfl (by kernel_rfl) (by kernel_rfl) (by kernel_rfl) (fun _ _ _ h => h) (Or.inl ⟨by rfl, fun w' hSw => ?_⟩) hHeld ?_
        · go_simp
        simp only [List.setIfInBounds_toArray, List.set_cons_zero, List.set_cons_succ]
        refine take_d 10 106 (.bool true) _ rfl rfl (by kernel_rfl) (by kernel_rfl) (by kernel_rfl) (fun _ _ _ h => h) (Or.inl ⟨by rfl, fun w' hSw => ?_⟩) hHeld ?_
        · go_simp
        simp only [List.setIfInBounds_toArray, List.set_cons_zero, List.set_cons_succ]
        refine take_d 11 8 (.bool true) _ rfl rfl (by kernel_rfl) (by kernel_rfl) (by kernel_rfl) (fun _ _ _ h => h) (Or.inl ⟨by rfl, fun w' hSw => ?_⟩) hHeld ?_
        · go_simp
        simp only [List.setIfInBounds_toArray, List.set_cons_zero, List.set_cons_succ]
        refine wpAnyH_done (by kernel_rfl) ?_ _
        clear hHeld
        go_wp2
        go_ret
        exact ⟨rfl, hb13⟩
      have d3 : (k : Int) < (l : Int) := by
        have := hr
        unfold rightQ at this
        omega
      have d4 : (0 : Int) ≤ (k : Int) := by omega
      go_upto_region 11 with (fail)
      refine wp_region_held_drew (S := (fun W => Blk W (w9.heap.size + 1) 32 #[.int .i64 23, .int .i64 (n : Nat)])) (by kernel_rfl) (HF.out.on (Below.refl _ v9).drew) (fun hHeld => ?_)
      have hb11 := hbv9.drew
      clear HF hf0
      generalize v9.drew = W11 at *
      refine take_d 0 96 (.pointer (some ⟨w9.heap.size + 1, 0, none⟩)) _ rfl rfl (by kernel_rfl) (by kernel_rfl) (by kernel_rfl) (fun _ _ _ h => h) (Or.inl ⟨by rfl, fun w' hSw => ?_⟩) hHeld ?_
      · go_simp
      simp only [List.setIfInBounds_toArray, List.set_cons_zero, List.set_cons_succ]
      refine take_d 1 97 (.int .i64 23) _ rfl rfl (by kernel_rfl) (by kernel_rfl) (by kernel_rfl) (fun _ _ _ h => h) (Or.inl ⟨by rfl, fun w' hSw => ?_⟩) hHeld ?_
      · have hS0 := hSw.cell 0
        simp at hS0
        clear hSw
        go_simp
      simp only [List.setIfInBounds_toArray, List.set_cons_zero, List.set_cons_succ]
      refine take_d 2 98 (.bool true) _ rfl rfl (by kernel_rfl) (by kernel_rfl) (by kernel_rfl) (fun _ _ _ h => h) (Or.inl ⟨by rfl, fun w' hSw => ?_⟩) hHeld ?_
      · go_simp
      simp only [List.setIfInBounds_toArray, List.set_cons_zero, List.set_cons_succ]
      refine take_d 3 99 (.bool true) _ rfl rfl (by kernel_rfl) (by kernel_rfl) (by kernel_rfl) (fun _ _ _ h => h) (Or.inl ⟨by rfl, fun w' hSw => ?_⟩) hHeld ?_
      · go_simp
      simp only [List.setIfInBounds_toArray, List.set_cons_zero, List.set_cons_succ]
      refine take_d 4 100 (.pointer (some ⟨w9.heap.size + 1, 1, none⟩)) _ rfl rfl (by kernel_rfl) (by kernel_rfl) (by kernel_rfl) (fun _ _ _ h => h) (Or.inl ⟨by rfl, fun w' hSw => ?_⟩) hHeld ?_
      · go_simp
      simp only [List.setIfInBounds_toArray, List.set_cons_zero, List.set_cons_succ]
      refine take_d 5 101 (.int .i64 (n : Nat)) _ rfl rfl (by kernel_rfl) (by kernel_rfl) (by kernel_rfl) (fun _ _ _ h => h) (Or.inl ⟨by rfl, fun w' hSw => ?_⟩) hHeld ?_
      · have hS0 := hSw.cell 1
        simp at hS0
        clear hSw
        go_simp
      simp only [List.setIfInBounds_toArray, List.set_cons_zero, List.set_cons_succ]
      refine take_d 6 102 (.int .i64 (c : Int)) _ rfl rfl (by kernel_rfl) (by kernel_rfl) (by kernel_rfl) (fun _ _ _ h => h) (Or.inl ⟨by rfl, fun w' hSw => ?_⟩) hHeld ?_
      · go_simp
      simp only [List.setIfInBounds_toArray, List.set_cons_zero, List.set_cons_succ]
      refine wpAnyH_ready (rs := [7]) (by kernel_rfl) (by simp) ?_
      refine AllReadyH.cons rfl (fun K hK => ?_) AllReadyH.nil
      go_simp
      refine (HBY.out _).mono ?_
      rintro e w12 ⟨v', rfl, hmv', hb12⟩
      obtain ⟨A', cap', rfl, -, -⟩ := hmv'
      refine hK.out _ _ (hHeld.on hb12) (fun hHeld => ?_)
      clear hK K
      rw [HN.out]
      have hb13 := hb11.trans (hb12.mono hb11.size)
      refine take_d 8 104 (.int .i64 (n : Nat)) _ rfl rfl (by kernel_rfl) (by kernel_rfl) (by kernel_rfl) (fun _ _ _ h => h) (Or.inl ⟨by rfl, fun w' hSw => ?_⟩) hHeld ?_
      · go_simp
      simp only [List.setIfInBounds_toArray, List.set_cons_zero, List.set_cons_succ]
      refine take_d 9 105 (.bool true) _ rfl rfl (by kernel_rfl) (by kernel_rfl) (by kernel_rfl) (fun _ _ _ h => h) (Or.inl ⟨by rfl, fun w' hSw => ?_⟩) hHeld ?_
      · go_simp
      simp only [List.setIfInBounds_toArray, List.set_cons_zero, List.set_cons_succ]
      refine take_d 10 106 (.bool true) _ rfl rfl (by kernel_rfl) (by kernel_rfl) (by kernel_rfl) (fun _ _ _ h => h) (Or.inl ⟨by rfl, fun w' hSw => ?_⟩) hHeld ?_
      · go_simp
      simp only [List.setIfInBounds_toArray, List.set_cons_zero, List.set_cons_succ]
      refine take_d 11 8 (.bool true) _ rfl rfl (by kernel_rfl) (by kernel_rfl) (by kernel_rfl) (fun _ _ _ h => h) (Or.inl ⟨by rfl, fun w' hSw => ?_⟩) hHeld ?_
      · go_simp
      simp only [List.setIfInBounds_toArray, List.set_cons_zero, List.set_cons_succ]
      refine wpAnyH_done (by kernel_rfl) ?_ _
      clear hHeld
      go_wp2
      go_ret
      exact ⟨rfl, hb13⟩
  · clear HAL
    go_enter Tryd.func5, Tryd.ntmps5
    go_wp2_with fail
    refine HA.out.mono ?_
    rintro e wx ⟨rfl, hbx⟩
    go_wp2_with fail
    refine (char_is (c : Int) true HCH.out _).mono ?_
    rintro e wy ⟨rfl, hwy⟩
    rw [hwy]
    clear hwy wy
    go_upto_region 5 with (fail)
    refine wp_region_held_drew (S := fun _ => True) (by kernel_rfl) trivial (fun hHeld => ?_)
    have hb5 := hbx.drew
    generalize wx.drew = W5 at *
    refine take_d 0 55 (.int .i64 (c : Int)) _ rfl rfl (by kernel_rfl) (by kernel_rfl) (by kernel_rfl) (fun _ _ _ h => h) (Or.inl ⟨by rfl, fun w' hSw => ?_⟩) hHeld ?_
    · go_simp
    simp only [List.setIfInBounds_toArray, List.set_cons_zero, List.set_cons_succ]
    refine take_d 4 59 (.int .i64 (l : Int)) _ rfl rfl (by kernel_rfl) (by kernel_rfl) (by kernel_rfl) (fun _ _ _ h => h) (Or.inl ⟨by rfl, fun w' hSw => ?_⟩) hHeld ?_
    · go_simp
    simp only [List.setIfInBounds_toArray, List.set_cons_zero, List.set_cons_succ]
    refine wpAnyH_ready (rs := [1]) (by kernel_rfl) (by simp) ?_
    refine AllReadyH.cons rfl (fun K hK => ?_) AllReadyH.nil
    go_simp
    refine (HBY.out _).mono ?_
    rintro e w6 ⟨v, rfl, hmv, hb6⟩
    refine hK.out _ _ trivial (fun hHeld => ?_)
    clear hHeld
    clear hK K
    have hb56 := hb5.trans (hb6.mono hb5.size)
    refine held_more (S' := fun W => (convert 40 9 v).run Tryd.prog W = .ok (.string sB) W) (fun _ _ => trivial) ?_
    have hHeld := run_string_bytes hmv
    rw [← HSB.out] at hHeld
    refine take_d 2 57 (.string sB) _ rfl rfl (by kernel_rfl) (by kernel_rfl) (by kernel_rfl) (fun _ _ _ h => h) (Or.inl ⟨by rfl, fun w' hSw => ?_⟩) hHeld ?_
    · go_simp
    simp only [List.setIfInBounds_toArray, List.set_cons_zero, List.set_cons_succ]
    refine take_d 3 58 (.string (sB ++ (⟨#[123]⟩ : ByteArray))) _ rfl rfl (by kernel_rfl) (by kernel_rfl) (by kernel_rfl) (fun _ _ _ h => h) (Or.inl ⟨by rfl, fun w' hSw => ?_⟩) hHeld ?_
    · go_simp
      omega
    simp only [List.setIfInBounds_toArray, List.set_cons_zero, List.set_cons_succ]
    refine wpAnyH_ready (rs := [5]) (by kernel_rfl) (by simp) ?_
    refine AllReadyH.cons rfl (fun K hK => ?_) AllReadyH.nil
    go_simp
    refine (HTL.out _).mono ?_
    rintro e w7 ⟨rfl, hb7⟩
    refine hK.out _ _ (by rw [HSB.out]; exact run_string_bytes (hmv.below hb7)) (fun hHeld => ?_)
    clear hK K
    refine take_d 6 61 (.string (sB ++ (⟨#[123]⟩ : ByteArray) ++ lB)) _ rfl rfl (by kernel_rfl) (by kernel_rfl) (by kernel_rfl) (fun _ _ _ h => h) (Or.inl ⟨by rfl, fun w' hSw => ?_⟩) hHeld ?_
    · go_simp
      omega
    simp only [List.setIfInBounds_toArray, List.set_cons_zero, List.set_cons_succ]
    refine take_d 7 62 (.string (sB ++ (⟨#[123]⟩ : ByteArray) ++ lB ++ (⟨#[44]⟩ : ByteArray))) _ rfl rfl (by kernel_rfl) (by kernel_rfl) (by kernel_rfl) (fun _ _ _ h => h) (Or.inl ⟨by rfl, fun w' hSw => ?_⟩) hHeld ?_
    · go_simp
      omega
    simp only [List.setIfInBounds_toArray, List.set_cons_zero, List.set_cons_succ]
    refine take_d 8 9 (.string (sB ++ (⟨#[123]⟩ : ByteArray) ++ lB ++ (⟨#[44]⟩ : ByteArray))) _ rfl rfl (by kernel_rfl) (by kernel_rfl) (by kernel_rfl) (fun _ _ _ h => h) (Or.inl ⟨by rfl, fun w' hSw => ?_⟩) hHeld ?_
    · go_simp
    simp only [List.setIfInBounds_toArray, List.set_cons_zero, List.set_cons_succ]
    refine wpAnyH_done (by kernel_rfl) ?_ _
    clear hHeld
    have hbx7 := hb56.trans (hb7.mono hb56.size)
    clear hmv hb56 hb5 hb6 hb7
    go_wp2_with fail
    refine (HTK.out _).mono ?_
    rintro e w8 ⟨rfl, hb8⟩
    have hbx8 := hbx7.trans (hb8.mono hbx7.size)
    clear hb8 hbx7
    go_wp2_with fail
    have hbx8 := hbx8.trans (((Below.refl w8.heap.size w8).alloc (Nat.le_refl _) (.cells #[.string ⟨#[]⟩, .string ⟨#[63]⟩, .string ⟨#[43]⟩] 9)).mono hbx8.size)
    generalize w8.alloc (.cells #[.string ⟨#[]⟩, .string ⟨#[63]⟩, .string ⟨#[43]⟩] 9) = W8 at *
    have HT9 := Lib.hid (tabs_on HT.out hbx8 hbx8.size)
    by_cases hr : rightQ l (k : Int)
    · have HP' := HPY.out hr
      rw [HP'] at HP
      refine (HP.out _ HT9.out).mono ?_
      rintro e w9 ⟨E1, E2, t1, t2, rfl, hN, hb9⟩
      obtain ⟨_, _, b, off, he, -, -, -, -, hk⟩ := hN.parts
      obtain ⟨rfl, -, rfl⟩ := Value.slice.inj he
      obtain ⟨hA, hbk, D1, D2, s1, s2, hND, hC⟩ := hk 0 _ rfl
      subst hA
      rw [Nat.zero_mul, Nat.add_zero] at hC
      obtain ⟨-, -, -, -, -, h5, -⟩ := hC.seven_
      obtain ⟨_, _, _, _, -, -, -, -, hs, -⟩ := hND.parts
      have HSV := Lib.hid (SetK.to_setV hs)
      rw [set_set] at h5 HSV
      have hpo := put_on w9 #[.int .i64 4, .int .i64 (l : Int), .int .i64 (k : Int), .int .i64 2, .int .i64 0, .slice E1 0 t1, .slice (some ⟨b, off, none⟩) 1 t2, .int .i64 0, .bool false] #[.int .i64 0, .int .i64 0]
      have HC5 := Lib.hid ((hpo.cell (p := ⟨b, off + 5, none⟩) hbk).trans h5)
      have HBK := Lib.hid (Nat.lt_of_lt_of_le hbk hpo.size)
      have HSV2 := Lib.hid (HSV.out.on hpo)
      clear hN hk he hND hC hs h5 HSV
      unfold pCells
      simp only [rep_kind, rep_lo, rep_hi, rep_mode, rep_ref, rep_set, rep_kids, Int.cast_ofNat_Int]
      have P3 := Lib.hid (put_new W8 w9 #[.int .i64 4, .int .i64 (l : Int), .int .i64 (k : Int), .int .i64 2, .int .i64 0, .slice E1 0 t1, .slice (some ⟨b, off, none⟩) 1 t2, .int .i64 0, .bool false] #[.int .i64 0, .int .i64 0] hb9)
      go_upto_region 10 with (fail)
      generalize (w9.alloc (.cells #[.int .i64 4, .int .i64 (l : Int), .int .i64 (k : Int), .int .i64 2, .int .i64 0, .slice E1 0 t1, .slice (some ⟨b, off, none⟩) 1 t2, .int .i64 0, .bool false] 29)).alloc (.cells #[.int .i64 0, .int .i64 0] 32) = v9 at *
      have hbv9 := hbx8.trans (P3.out.keep.mono hbx8.size)
      have hc9 := P3.out.node.nine
      have e1 : ¬ (64 : Int) < (l : Int) := by have := hr.1; omega
      have e2 : ¬ (64 : Int) < (k : Int) := by have := hr.2 (by omega); omega
      have e3 : (0 : Int) ≤ (k : Int) := by omega
      have e4 : ¬ (k : Int) < (l : Int) := by have := hr.2 (by omega); omega
      have hal := (Below.refl v9.heap.size v9).alloc (Nat.le_refl _) (.cells #[.int .i64 4, .int .i64 (l : Int), .int .i64 (k : Int), .int .i64 2, .int .i64 0, .slice E1 0 t1, .slice (some ⟨b, off, none⟩) 1 t2] 27)
      have HR := Lib.hid (Blk.new v9 27 #[.int .i64 4, .int .i64 (l : Int), .int .i64 (k : Int), .int .i64 2, .int .i64 0, .slice E1 0 t1, .slice (some ⟨b, off, none⟩) 1 t2])
      have hf0 := (P3.out.flt.on hal).cell 0
      have hk5 := (hal.cell (p := ⟨b, off + 5, none⟩) HBK.out).trans HC5.out
      have HS10 := Lib.hid (HSV2.out.on hal)
      have hb10 := hbv9.trans (hal.mono hbv9.size)
      simp at hf0
      clear HSV2 HC5 hpo hb9
      go_upto_region 13 with (fail)
      clear hc9 hal P3 HP' HP
      generalize v9.alloc (.cells #[.int .i64 4, .int .i64 (l : Int), .int .i64 (k : Int), .int .i64 2, .int .i64 0, .slice E1 0 t1, .slice (some ⟨b, off, none⟩) 1 t2] 27) = v10 at *
      have hc7 := HR.out.seven
      have hal := (Below.refl v10.heap.size v10).alloc (Nat.le_refl _) (.cells #[.int .i64 (c : Int), .int .i64 (c : Int)] 39)
      have HL1 := Lib.hid (HS10.out.on hal)
      have HL2 : Hid (SetV (v10.heap.size + 1) (v10.alloc (.cells #[.int .i64 (c : Int), .int .i64 (c : Int)] 39)) (.slice (some ⟨v10.heap.size, 0, none⟩) 1 1) [((c : Int), (c : Int))]) := Lib.hid (set_lit v10 [((c : Int), (c : Int))] 1 rfl)
      have hb14 := hb10.trans (hal.mono hb10.size)
      clear hal HS10
      go_wp2_with fail
      refine (same_any _ _ [((c : Int), (c : Int))] [((c : Int), (c : Int))] _ (by simp) (by simp) HL1.out (by rw [World.size_alloc]; exact HL2.out)).mono ?_
      rintro e w15 ⟨rfl, hb15⟩
      rw [sameB_refl]
      have hb16 := hb14.trans (hb15.mono hb14.size)
      clear hf0 hk5 HL1 HL2
      go_wp2
      go_ret
      exact ⟨rfl, hb16⟩
    · have HP' := HPN.out hr
      rw [HP'] at HP
      refine (HP.out _ HT9.out).mono ?_
      rintro e w9 ⟨rfl, hb9⟩
      unfold zero9
      have P3 := Lib.hid (put_new W8 w9 #[.int .i64 0, .int .i64 0, .int .i64 0, .int .i64 0, .int .i64 0, .slice none 0 0, .slice none 0 0, .int .i64 0, .bool false] #[.int .i64 23, .int .i64 (n : Nat)] hb9)
      go_upto_region 10 with (fail)
      generalize (w9.alloc (.cells #[.int .i64 0, .int .i64 0, .int .i64 0, .int .i64 0, .int .i64 0, .slice none 0 0, .slice none 0 0, .int .i64 0, .bool false] 29)).alloc (.cells #[.int .i64 23, .int .i64 (n : Nat)] 32) = v9 at *
      have HF := Lib.hid P3.out.flt
      have hf0 := P3.out.flt.cell 0
      simp at hf0
      have hbv9 := hbx8.trans (P3.out.keep.mono hbx8.size)
      clear P3 HP' HP hb9
      by_cases d1 : (64 : Int) < (l : Int)
      · go_upto_region 11 with (fail)
        refine wp_region_held_drew (S := (fun W => Blk W (w9.heap.size + 1) 32 #[.int .i64 23, .int .i64 (n : Nat)])) (by kernel_rfl) (HF.out.on (Below.refl _ v9).drew) (fun hHeld => ?_)
        have hb11 := hbv9.drew
        clear HF hf0
        generalize v9.drew = W11 at *
        refine take_d 0 96 (.pointer (some ⟨w9.heap.size + 1, 0, none⟩)) _ rfl rfl (by kernel_rfl) (by kernel_rfl) (by kernel_rfl) (fun _ _ _ h => h) (Or.inl ⟨by rfl, fun w' hSw => ?_⟩) hHeld ?_
        · go_simp
        simp only [List.setIfInBounds_toArray, List.set_cons_zero, List.set_cons_succ]
        refine take_d 1 97 (.int .i64 23) _ rfl rfl (by kernel_rfl) (by kernel_rfl) (by kernel_rfl) (fun _ _ _ h => h) (Or.inl ⟨by rfl, fun w' hSw => ?_⟩) hHeld ?_
        · have hS0 := hSw.cell 0
          simp at hS0
          clear hSw
          go_simp
        simp only [List.setIfInBounds_toArray, List.set_cons_zero, List.set_cons_succ]
        refine take_d 2 98 (.bool true) _ rfl rfl (by kernel_rfl) (by kernel_rfl) (by kernel_rfl) (fun _ _ _ h => h) (Or.inl ⟨by rfl, fun w' hSw => ?_⟩) hHeld ?_
        · go_simp
        simp only [List.setIfInBounds_toArray, List.set_cons_zero, List.set_cons_succ]
        refine take_d 3 99 (.bool true) _ rfl rfl (by kernel_rfl) (by kernel_rfl) (by kernel_rfl) (fun _ _ _ h => h) (Or.inl ⟨by rfl, fun w' hSw => ?_⟩) hHeld ?_
        · go_simp
        simp only [List.setIfInBounds_toArray, List.set_cons_zero, List.set_cons_succ]
        refine take_d 4 100 (.pointer (some ⟨w9.heap.size + 1, 1, none⟩)) _ rfl rfl (by kernel_rfl) (by kernel_rfl) (by kernel_rfl) (fun _ _ _ h => h) (Or.inl ⟨by rfl, fun w' hSw => ?_⟩) hHeld ?_
        · go_simp
        simp only [List.setIfInBounds_toArray, List.set_cons_zero, List.set_cons_succ]
        refine take_d 5 101 (.int .i64 (n : Nat)) _ rfl rfl (by kernel_rfl) (by kernel_rfl) (by kernel_rfl) (fun _ _ _ h => h) (Or.inl ⟨by rfl, fun w' hSw => ?_⟩) hHeld ?_
        · have hS0 := hSw.cell 1
          simp at hS0
          clear hSw
          go_simp
        simp only [List.setIfInBounds_toArray, List.set_cons_zero, List.set_cons_succ]
        refine take_d 6 102 (.int .i64 (c : Int)) _ rfl rfl (by kernel_rfl) (by kernel_rfl) (by kernel_rfl) (fun _ _ _ h => h) (Or.inl ⟨by rfl, fun w' hSw => ?_⟩) hHeld ?_
        · go_simp
        simp only [List.setIfInBounds_toArray, List.set_cons_zero, List.set_cons_succ]
        refine wpAnyH_ready (rs := [7]) (by kernel_rfl) (by simp) ?_
        refine AllReadyH.cons rfl (fun K hK => ?_) AllReadyH.nil
        go_simp
        refine (HBY.out _).mono ?_
        rintro e w12 ⟨v', rfl, hmv', hb12⟩
        obtain ⟨A', cap', rfl, -, -⟩ := hmv'
        refine hK.out _ _ (hHeld.on hb12) (fun hHeld => ?_)
        clear hK K
        rw [HN.out]
        have hb13 := hb11.trans (hb12.mono hb11.size)
        refine take_d 8 104 (.int .i64 (n : Nat)) _ rfl rfl (by kernel_rfl) (by kernel_rfl) (by kernel_rfl) (fun _ _ _ h => h) (Or.inl ⟨by rfl, fun w' hSw => ?_⟩) hHeld ?_
        · go_simp
        simp only [List.setIfInBounds_toArray, List.set_cons_zero, List.set_cons_succ]
        refine take_d 9 105 (.bool true) _ rfl rfl (by kernel_rfl) (by kernel_rfl) (by kernel_rfl) (fun _ _ _ h => h) (Or.inl ⟨by rfl, fun w' hSw => ?_⟩) hHeld ?_
        · go_simp
        simp only [List.setIfInBounds_toArray, List.set_cons_zero, List.set_cons_succ]
        refine take_d 10 106 (.bool true) _ rfl rfl (by kernel_rfl) (by kernel_rfl) (by kernel_rfl) (fun _ _ _ h => h) (Or.inl ⟨by rfl, fun w' hSw => ?_⟩) hHeld ?_
        · go_simp
        simp only [List.setIfInBounds_toArray, List.set_cons_zero, List.set_cons_succ]
        refine take_d 11 8 (.bool true) _ rfl rfl (by kernel_rfl) (by kernel_rfl) (by kernel_rfl) (fun _ _ _ h => h) (Or.inl ⟨by rfl, fun w' hSw => ?_⟩) hHeld ?_
        · go_simp
        simp only [List.setIfInBounds_toArray, List.set_cons_zero, List.set_cons_succ]
        refine wpAnyH_done (by kernel_rfl) ?_ _
        clear hHeld
        go_wp2
        go_ret
        exact ⟨rfl, hb13⟩
      by_cases d2 : (64 : Int) < (k : Int)
      · go_upto_region 11 with (fail)
        refine wp_region_held_drew (S := (fun W => Blk W (w9.heap.size + 1) 32 #[.int .i64 23, .int .i64 (n : Nat)])) (by kernel_rfl) (HF.out.on (Below.refl _ v9).drew) (fun hHeld => ?_)
        have hb11 := hbv9.drew
        clear HF hf0
        generalize v9.drew = W11 at *
        refine take_d 0 96 (.pointer (some ⟨w9.heap.size + 1, 0, none⟩)) _ rfl rfl (by kernel_rfl) (by kernel_rfl) (by kernel_rfl) (fun _ _ _ h => h) (Or.inl ⟨by rfl, fun w' hSw => ?_⟩) hHeld ?_
        · go_simp
        simp only [List.setIfInBounds_toArray, List.set_cons_zero, List.set_cons_succ]
        refine take_d 1 97 (.int .i64 23) _ rfl rfl (by kernel_rfl) (by kernel_rfl) (by kernel_rfl) (fun _ _ _ h => h) (Or.inl ⟨by rfl, fun w' hSw => ?_⟩) hHeld ?_
        · have hS0 := hSw.cell 0
          simp at hS0
          clear hSw
          go_simp
        simp only [List.setIfInBounds_toArray, List.set_cons_zero, List.set_cons_succ]
        refine take_d 2 98 (.bool true) _ rfl rfl (by kernel_rfl) (by kernel_rfl) (by kernel_rfl) (fun _ _ _ h => h) (Or.inl ⟨by rfl, fun w' hSw => ?_⟩) hHeld ?_
        · go_simp
        simp only [List.setIfInBounds_toArray, List.set_cons_zero, List.set_cons_succ]
        refine take_d 3 99 (.bool true) _ rfl rfl (by kernel_rfl) (by kernel_rfl) (by kernel_rfl) (fun _ _ _ h => h) (Or.inl ⟨by rfl, fun w' hSw => ?_⟩) hHeld ?_
        · go_simp
        simp only [List.setIfInBounds_toArray, List.set_cons_zero, List.set_cons_succ]
        refine take_d 4 100 (.pointer (some ⟨w9.heap.size + 1, 1, none⟩)) _ rfl rfl (by kernel_rfl) (by kernel_rfl) (by kernel_rfl) (fun _ _ _ h => h) (Or.inl ⟨by rfl, fun w' hSw => ?_⟩) hHeld ?_
        · go_simp
        simp only [List.setIfInBounds_toArray, List.set_cons_zero, List.set_cons_succ]
        refine take_d 5 101 (.int .i64 (n : Nat)) _ rfl rfl (by kernel_rfl) (by kernel_rfl) (by kernel_rfl) (fun _ _ _ h => h) (Or.inl ⟨by rfl, fun w' hSw => ?_⟩) hHeld ?_
        · have hS0 := hSw.cell 1
          simp at hS0
          clear hSw
          go_simp
        simp only [List.setIfInBounds_toArray, List.set_cons_zero, List.set_cons_succ]
        refine take_d 6 102 (.int .i64 (c : Int)) _ rfl rfl (by kernel_rfl) (by kernel_rfl) (by kernel_rfl) (fun _ _ _ h => h) (Or.inl ⟨by rfl, fun w' hSw => ?_⟩) hHeld ?_
        · go_simp
        simp only [List.setIfInBounds_toArray, List.set_cons_zero, List.set_cons_succ]
        refine wpAnyH_ready (rs := [7]) (by kernel_rfl) (by simp) ?_
        refine AllReadyH.cons rfl (fun K hK => ?_) AllReadyH.nil
        go_simp
        refine (HBY.out _).mono ?_
        rintro e w12 ⟨v', rfl, hmv', hb12⟩
        obtain ⟨A', cap', rfl, -, -⟩ := hmv'
        refine hK.out _ _ (hHeld.on hb12) (fun hHeld => ?_)
        clear hK K
        rw [HN.out]
        have hb13 := hb11.trans (hb12.mono hb11.size)
        refine take_d 8 104 (.int .i64 (n : Nat)) _ rfl rfl (by kernel_rfl) (by kernel_rfl) (by kernel_rfl) (fun _ _ _ h => h) (Or.inl ⟨by rfl, fun w' hSw => ?_⟩) hHeld ?_
        · go_simp
        simp only [List.setIfInBounds_toArray, List.set_cons_zero, List.set_cons_succ]
        refine take_d 9 105 (.bool true) _ rfl rfl (by kernel_rfl) (by kernel_rfl) (by kernel_rfl) (fun _ _ _ h => h) (Or.inl ⟨by rfl, fun w' hSw => ?_⟩) hHeld ?_
        · go_simp
        simp only [List.setIfInBounds_toArray, List.set_cons_zero, List.set_cons_succ]
        refine take_d 10 106 (.bool true) _ rfl rfl (by kernel_rfl) (by kernel_rfl) (by kernel_rfl) (fun _ _ _ h => h) (Or.inl ⟨by rfl, fun w' hSw => ?_⟩) hHeld ?_
        · go_simp
        simp only [List.setIfInBounds_toArray, List.set_cons_zero, List.set_cons_succ]
        refine take_d 11 8 (.bool true) _ rfl rfl (by kernel_rfl) (by kernel_rfl) (by kernel_rfl) (fun _ _ _ h => h) (Or.inl ⟨by rfl, fun w' hSw => ?_⟩) hHeld ?_
        · go_simp
        simp only [List.setIfInBounds_toArray, List.set_cons_zero, List.set_cons_succ]
        refine wpAnyH_done (by kernel_rfl) ?_ _
        clear hHeld
        go_wp2
        go_ret
        exact ⟨rfl, hb13⟩
      have d3 : (k : Int) < (l : Int) := by
        have := hr
        unfold rightQ at this
        omega
      have d4 : (0 : Int) ≤ (k : Int) := by omega
      go_upto_region 11 with (fail)
      refine wp_region_held_drew (S := (fun W => Blk W (w9.heap.size + 1) 32 #[.int .i64 23, .int .i64 (n : Nat)])) (by kernel_rfl) (HF.out.on (Below.refl _ v9).drew) (fun hHeld => ?_)
      have hb11 := hbv9.drew
      clear HF hf0
      generalize v9.drew = W11 at *
      refine take_d 0 96 (.pointer (some ⟨w9.heap.size + 1, 0, none⟩)) _ rfl rfl (by kernel_rfl) (by kernel_rfl) (by kernel_rfl) (fun _ _ _ h => h) (Or.inl ⟨by rfl, fun w' hSw => ?_⟩) hHeld ?_
      · go_simp
      simp only [List.setIfInBounds_toArray, List.set_cons_zero, List.set_cons_succ]
      refine take_d 1 97 (.int .i64 23) _ rfl rfl (by kernel_rfl) (by kernel_rfl) (by kernel_rfl) (fun _ _ _ h => h) (Or.inl ⟨by rfl, fun w' hSw => ?_⟩) hHeld ?_
      · have hS0 := hSw.cell 0
        simp at hS0
        clear hSw
        go_simp
      simp only [List.setIfInBounds_toArray, List.set_cons_zero, List.set_cons_succ]
      refine take_d 2 98 (.bool true) _ rfl rfl (by kernel_rfl) (by kernel_rfl) (by kernel_rfl) (fun _ _ _ h => h) (Or.inl ⟨by rfl, fun w' hSw => ?_⟩) hHeld ?_
      · go_simp
      simp only [List.setIfInBounds_toArray, List.set_cons_zero, List.set_cons_succ]
      refine take_d 3 99 (.bool true) _ rfl rfl (by kernel_rfl) (by kernel_rfl) (by kernel_rfl) (fun _ _ _ h => h) (Or.inl ⟨by rfl, fun w' hSw => ?_⟩) hHeld ?_
      · go_simp
      simp only [List.setIfInBounds_toArray, List.set_cons_zero, List.set_cons_succ]
      refine take_d 4 100 (.pointer (some ⟨w9.heap.size + 1, 1, none⟩)) _ rfl rfl (by kernel_rfl) (by kernel_rfl) (by kernel_rfl) (fun _ _ _ h => h) (Or.inl ⟨by rfl, fun w' hSw => ?_⟩) hHeld ?_
      · go_simp
      simp only [List.setIfInBounds_toArray, List.set_cons_zero, List.set_cons_succ]
      refine take_d 5 101 (.int .i64 (n : Nat)) _ rfl rfl (by kernel_rfl) (by kernel_rfl) (by kernel_rfl) (fun _ _ _ h => h) (Or.inl ⟨by rfl, fun w' hSw => ?_⟩) hHeld ?_
      · have hS0 := hSw.cell 1
        simp at hS0
        clear hSw
        go_simp
      simp only [List.setIfInBounds_toArray, List.set_cons_zero, List.set_cons_succ]
      refine take_d 6 102 (.int .i64 (c : Int)) _ rfl rfl (by kernel_rfl) (by kernel_rfl) (by kernel_rfl) (fun _ _ _ h => h) (Or.inl ⟨by rfl, fun w' hSw => ?_⟩) hHeld ?_
      · go_simp
      simp only [List.setIfInBounds_toArray, List.set_cons_zero, List.set_cons_succ]
      refine wpAnyH_ready (rs := [7]) (by kernel_rfl) (by simp) ?_
      refine AllReadyH.cons rfl (fun K hK => ?_) AllReadyH.nil
      go_simp
      refine (HBY.out _).mono ?_
      rintro e w12 ⟨v', rfl, hmv', hb12⟩
      obtain ⟨A', cap', rfl, -, -⟩ := hmv'
      refine hK.out _ _ (hHeld.on hb12) (fun hHeld => ?_)
      clear hK K
      rw [HN.out]
      have hb13 := hb11.trans (hb12.mono hb11.size)
      refine take_d 8 104 (.int .i64 (n : Nat)) _ rfl rfl (by kernel_rfl) (by kernel_rfl) (by kernel_rfl) (fun _ _ _ h => h) (Or.inl ⟨by rfl, fun w' hSw => ?_⟩) hHeld ?_
      · go_simp
      simp only [List.setIfInBounds_toArray, List.set_cons_zero, List.set_cons_succ]
      refine take_d 9 105 (.bool true) _ rfl rfl (by kernel_rfl) (by kernel_rfl) (by kernel_rfl) (fun _ _ _ h => h) (Or.inl ⟨by rfl, fun w' hSw => ?_⟩) hHeld ?_
      · go_simp
      simp only [List.setIfInBounds_toArray, List.set_cons_zero, List.set_cons_succ]
      refine take_d 10 106 (.bool true) _ rfl rfl (by kernel_rfl) (by kernel_rfl) (by kernel_rfl) (fun _ _ _ h => h) (Or.inl ⟨by rfl, fun w' hSw => ?_⟩) hHeld ?_
      · go_simp
      simp only [List.setIfInBounds_toArray, List.set_cons_zero, List.set_cons_succ]
      refine take_d 11 8 (.bool true) _ rfl rfl (by kernel_rfl) (by kernel_rfl) (by kernel_rfl) (fun _ _ _ h => h) (Or.inl ⟨by rfl, fun w' hSw => ?_⟩) hHeld ?_
      · go_simp
      simp only [List.setIfInBounds_toArray, List.set_cons_zero, List.set_cons_succ]
      refine wpAnyH_done (by kernel_rfl) ?_ _
      clear hHeld
      go_wp2
      go_ret
      exact ⟨rfl, hb13⟩

end Go.Proofs.YthipgidddgdojaaDoor

