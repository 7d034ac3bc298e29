/- ParseUnits' walk. -/
import Derived.Test.YthipgidddgdojaaDoorMPf
namespace Go.Proofs.YthipgidddgdojaaDoor
open Go.RowKit
variable {w w' : World}

theorem mem_signs (x : Int) : decide (x ∈ ((((((((((((((([] : List Int) ++ [46]) ++ [94]) ++ [36]) ++ [92]) ++ [91]) ++ [93]) ++ [40]) ++ [41]) ++ [124]) ++ [42]) ++ [43]) ++ [63]) ++ [123]) ++ [125])) = isSign x := by
  apply Bool.eq_iff_iff.2
  simp [isSign]
theorem escaped_eq (s : List UInt8) : ((⟨#[92]⟩ : ByteArray) ++ ⟨s.toArray⟩) = ⟨(92 :: s).toArray⟩ := by
  apply ByteArray.ext
  simp [ByteArray.data_append]
theorem enc_small {c : Nat} (h : c < 128) : toB (encN c) = [c.toUInt8] := by simp [encN, h, toB]

set_option maxRecDepth 100000 in
set_option maxHeartbeats 2000000 in
theorem units_law (u : Int) (hT : TabsAt w.heap.size w) : Calls Tryd.prog 7 #[.int .i64 u] w fun e w' => e = .returned (.bool true) ∧ Below w.heap.size w w' := by
  have hmm := @run_makeMap Tryd.prog
  have HT := Lib.hid hT
  have HA := Lib.hid (anchor_any hT)
  clear hT
  cases hch : charB u with
  | false =>
    go_enter Tryd.func7, Tryd.ntmps7
    go_wp2_with fail
    refine HA.out.mono ?_
    rintro e w0 ⟨rfl, hb0⟩
    go_wp2_with fail
    refine (char_is u false hch _).mono ?_
    rintro e w1 ⟨rfl, hw1⟩
    rw [hw1]
    clear hw1 w1
    go_wp2
    go_ret
    exact ⟨rfl, hb0⟩
  | true =>
    have hc := isCh_of hch
    obtain ⟨c, rfl⟩ : ∃ c : Nat, u = (c : Int) := ⟨u.toNat, by simp [charB] at hch; omega⟩
    rw [Int.toNat_natCast] at hc
    have hc0 : (0 : Int) ≤ (c : Int) := by omega
    have hc9 : (c : Int) ≤ 1114111 := by have := hc.1; omega
    have HCH := Lib.hid hch
    have hby := bytes_any c hc
    have hpa : ∀ W : World, TabsAt W.heap.size W → Calls Tryd.prog 10 #[.string ⟨(toB (encN c)).toArray⟩] W (ParsePost W (parse 1030 (toB (encN c)))) := fun W hW => parse_any (s := toB (encN c)) 1030 (by omega) (by rw [toB_len]; have := (encN_len c).2; omega) hW
    have hpb : isMark c = true → ∀ W : World, TabsAt W.heap.size W → Calls Tryd.prog 10 #[.string ((⟨#[92]⟩ : ByteArray) ++ ⟨(toB (encN c)).toArray⟩)] W (ParsePost W (.ok (setN [((c : Int), (c : Int))], 0, false))) := fun hm W hW => by
      have h1 : c < 128 := by simp [isMark] at hm; omega
      rw [enc_small h1, escaped_eq, ← parse_escaped 1026 hm]
      exact parse_any (s := [92, c.toUInt8]) 1030 (by omega) (by simp) hW
    have hpc : isSign (c : Int) = false → ∀ W : World, TabsAt W.heap.size W → Calls Tryd.prog 10 #[.string ⟨(toB (encN c)).toArray⟩] W (ParsePost W (.ok (setN [((c : Int), (c : Int))], 0, false))) := fun hs W hW => by
      rw [← parse_alone 1026 hc hs]
      exact hpa W hW
    obtain ⟨s, hs⟩ : ∃ s, s = toB (encN c) := ⟨_, rfl⟩
    rw [← hs] at hby hpa hpb hpc
    obtain ⟨sB, hsB⟩ : ∃ sB : ByteArray, sB = ⟨s.toArray⟩ := ⟨_, rfl⟩
    have hsz : sB.size ≤ 4 := by
      rw [hsB]
      show s.toArray.size ≤ 4
      rw [List.size_toArray, hs, toB_len]
      exact (encN_len c).2
    rw [← hsB] at hpa hpb hpc
    have HSB := Lib.hid hsB
    have HBY := Lib.hid hby
    have HP := Lib.hid hpa
    have HP2 := Lib.hid hpb
    have HPA := Lib.hid hpc
    clear hs hsB hby hpa hpb hpc hc hch
    cases hsg : isSign (c : Int) with
    | true =>
      have HSG := Lib.hid hsg
      go_enter Tryd.func7, Tryd.ntmps7
      go_wp2_with fail
      refine HA.out.mono ?_
      rintro e w0 ⟨rfl, hb0⟩
      go_wp2_with fail
      refine (char_is (c : Int) true HCH.out _).mono ?_
      rintro e wy ⟨rfl, hwy⟩
      rw [hwy]
      clear hwy wy
      have HM0 := TrueMap.new w0
      have hbM := (Below.refl w0.heap.size w0).alloc (Nat.le_refl _) (.map #[] 0)
      go_wp2_with (refine wpList_insert_true rfl _ _ _ rfl w0.heap.size _ rfl _ rfl rfl HM0 (by decide) ?_; intro w1 HM0 hg; have hbM := hbM.grown hg hbM.size (fun j hj => by cases hj; exact Nat.le_refl _))
      refine (HBY.out _).mono ?_
      rintro e w2 ⟨v, rfl, hmv, hb2⟩
      have hbw2 := hb0.trans ((hbM.trans (hb2.mono hbM.size)).mono hb0.size)
      have HMM := Lib.hid (HM0.on hb2)
      have hcv := run_string_bytes hmv
      rw [← HSB.out] at hcv
      have HT2 := Lib.hid (tabs_on HT.out hbw2 hbw2.size)
      clear HM0 hbM hmv
      go_wp2_with fail
      obtain ⟨r, hr⟩ : ∃ r, r = parse 1030 s := ⟨_, rfl⟩
      rw [← hr] at HP
      clear hr
      refine (HP.out _ HT2.out).mono ?_
      intro e w3 hp
      obtain ⟨A1, A2, p1, p2, rfl, hN, hb3⟩ := hp.uni
      generalize ndOf r = nd at hN ⊢
      generalize gOf r = g1
      generalize foOf r = fo1
      generalize (fOf r).1 = fc1
      generalize (fOf r).2 = fp1
      unfold pCells
      have P1 := Lib.hid (put_new w2 w3 #[.int .i64 nd.kind, .int .i64 nd.lo, .int .i64 nd.hi, .int .i64 nd.mode, .int .i64 nd.ref, .slice A1 nd.set.length p1, .slice A2 nd.kids.length p2, .int .i64 (g1 : Nat), .bool fo1] #[.int .i64 (fc1 : Nat), .int .i64 (fp1 : Nat)] hb3)
      clear hN hp HP
      go_upto_region 8 with (fail)
      generalize (w3.alloc (.cells #[.int .i64 nd.kind, .int .i64 nd.lo, .int .i64 nd.hi, .int .i64 nd.mode, .int .i64 nd.ref, .slice A1 nd.set.length p1, .slice A2 nd.kids.length p2, .int .i64 (g1 : Nat), .bool fo1] 29)).alloc (.cells #[.int .i64 (fc1 : Nat), .int .i64 (fp1 : Nat)] 32) = v3 at *
      have hbv3 := hbw2.trans (P1.out.keep.mono hbw2.size)
      have HT3 := Lib.hid (tabs_on HT.out hbv3 hbv3.size)
      have hlk := run_look (HMM.out.on P1.out.keep) (c : Int)
      rw [mem_signs, HSG.out] at hlk
      clear hb3 hcv
      have hiv : (33 ≤ (c : Int) ∧ (c : Int) ≤ 47) ∨ (58 ≤ (c : Int) ∧ (c : Int) ≤ 64) ∨ (91 ≤ (c : Int) ∧ (c : Int) ≤ 96) ∨ (123 ≤ (c : Int) ∧ (c : Int) ≤ 126) := by simp [isSign] at hsg; omega
      rcases hiv with ⟨l1, l2⟩ | ⟨l1, l2⟩ | ⟨l1, l2⟩ | ⟨l1, l2⟩
      · have k0 : (c : Int) ≤ 57 := by omega
        have k1 : (c : Int) ≤ 122 := by omega
        have k2 : (c : Int) ≤ 90 := by omega
        have k3 : ¬ (c : Int) ≤ 32 := by omega
        have k4 : ¬ (48 : Int) ≤ (c : Int) := by omega
        have k5 : ¬ (97 : Int) ≤ (c : Int) := by omega
        have k6 : ¬ (65 : Int) ≤ (c : Int) := by omega
        have k7 : ¬ (127 : Int) ≤ (c : Int) := by omega
        have HP2' := Lib.hid (HP2.out (by simp [isMark]; omega))
        go_wp2_with fail
        refine (HP2'.out _ HT3.out).mono ?_
        rintro e w4 ⟨_, A2, p2, q2, rfl, hN, hbw4⟩
        obtain ⟨_, _, _, _, -, -, -, -, hs, -⟩ := hN.parts
        obtain ⟨b2, off2, rfl, hbk2, hs0, hs1, -, hp2⟩ := set_cells hs
        have hk := put_on w4 #[.int .i64 1, .int .i64 0, .int .i64 0, .int .i64 0, .int .i64 0, .slice (some ⟨b2, off2, none⟩) 1 p2, .slice A2 0 q2, .int .i64 0, .bool false] #[.int .i64 0, .int .i64 0]
        have hs0 := (hk.cell (p := ⟨b2, off2, none⟩) hbk2).trans hs0
        have hs1 := (hk.cell (p := ⟨b2, off2 + 1, none⟩) hbk2).trans hs1
        clear hN hs
        unfold pCells
        simp only [set_kind, set_lo, set_hi, set_mode, set_ref, set_set, set_kids, Int.cast_ofNat_Int]
        have P2 := Lib.hid (put_new v3 w4 #[.int .i64 1, .int .i64 0, .int .i64 0, .int .i64 0, .int .i64 0, .slice (some ⟨b2, off2, none⟩) 1 p2, .slice A2 0 q2, .int .i64 0, .bool false] #[.int .i64 0, .int .i64 0] hbw4)
        go_upto_region 14 with (fail)
        generalize (w4.alloc (.cells #[.int .i64 1, .int .i64 0, .int .i64 0, .int .i64 0, .int .i64 0, .slice (some ⟨b2, off2, none⟩) 1 p2, .slice A2 0 q2, .int .i64 0, .bool false] 29)).alloc (.cells #[.int .i64 0, .int .i64 0] 32) = v4 at *
        have hc2 := P2.out.node.nine
        have hf2 := P2.out.flt.cell 0
        simp at hf2
        have hbv4 := hbv3.trans (P2.out.keep.mono hbv3.size)
        clear HMM HBY HT2 HT3
        go_wp2
        go_ret
        exact ⟨rfl, hbv4⟩
      · have k0 : ¬ (c : Int) ≤ 57 := by omega
        have k1 : (c : Int) ≤ 122 := by omega
        have k2 : (c : Int) ≤ 90 := by omega
        have k3 : ¬ (c : Int) ≤ 32 := by omega
        have k4 : (48 : Int) ≤ (c : Int) := by omega
        have k5 : ¬ (97 : Int) ≤ (c : Int) := by omega
        have k6 : ¬ (65 : Int) ≤ (c : Int) := by omega
        have k7 : ¬ (127 : Int) ≤ (c : Int) := by omega
        have HP2' := Lib.hid (HP2.out (by simp [isMark]; omega))
        go_wp2_with fail
        refine (HP2'.out _ HT3.out).mono ?_
        rintro e w4 ⟨_, A2, p2, q2, rfl, hN, hbw4⟩
        obtain ⟨_, _, _, _, -, -, -, -, hs, -⟩ := hN.parts
        obtain ⟨b2, off2, rfl, hbk2, hs0, hs1, -, hp2⟩ := set_cells hs
        have hk := put_on w4 #[.int .i64 1, .int .i64 0, .int .i64 0, .int .i64 0, .int .i64 0, .slice (some ⟨b2, off2, none⟩) 1 p2, .slice A2 0 q2, .int .i64 0, .bool false] #[.int .i64 0, .int .i64 0]
        have hs0 := (hk.cell (p := ⟨b2, off2, none⟩) hbk2).trans hs0
        have hs1 := (hk.cell (p := ⟨b2, off2 + 1, none⟩) hbk2).trans hs1
        clear hN hs
        unfold pCells
        simp only [set_kind, set_lo, set_hi, set_mode, set_ref, set_set, set_kids, Int.cast_ofNat_Int]
        have P2 := Lib.hid (put_new v3 w4 #[.int .i64 1, .int .i64 0, .int .i64 0, .int .i64 0, .int .i64 0, .slice (some ⟨b2, off2, none⟩) 1 p2, .slice A2 0 q2, .int .i64 0, .bool false] #[.int .i64 0, .int .i64 0] hbw4)
        go_upto_region 14 with (fail)
        generalize (w4.alloc (.cells #[.int .i64 1, .int .i64 0, .int .i64 0, .int .i64 0, .int .i64 0, .slice (some ⟨b2, off2, none⟩) 1 p2, .slice A2 0 q2, .int .i64 0, .bool false] 29)).alloc (.cells #[.int .i64 0, .int .i64 0] 32) = v4 at *
        have hc2 := P2.out.node.nine
        have hf2 := P2.out.flt.cell 0
        simp at hf2
        have hbv4 := hbv3.trans (P2.out.keep.mono hbv3.size)
        clear HMM HBY HT2 HT3
        go_wp2
        go_ret
        exact ⟨rfl, hbv4⟩
      · have k0 : ¬ (c : Int) ≤ 57 := by omega
        have k1 : (c : Int) ≤ 122 := by omega
        have k2 : ¬ (c : Int) ≤ 90 := by omega
        have k3 : ¬ (c : Int) ≤ 32 := by omega
        have k4 : (48 : Int) ≤ (c : Int) := by omega
        have k5 : ¬ (97 : Int) ≤ (c : Int) := by omega
        have k6 : (65 : Int) ≤ (c : Int) := by omega
        have k7 : ¬ (127 : Int) ≤ (c : Int) := by omega
        have HP2' := Lib.hid (HP2.out (by simp [isMark]; omega))
        go_wp2_with fail
        refine (HP2'.out _ HT3.out).mono ?_
        rintro e w4 ⟨_, A2, p2, q2, rfl, hN, hbw4⟩
        obtain ⟨_, _, _, _, -, -, -, -, hs, -⟩ := hN.parts
        obtain ⟨b2, off2, rfl, hbk2, hs0, hs1, -, hp2⟩ := set_cells hs
        have hk := put_on w4 #[.int .i64 1, .int .i64 0, .int .i64 0, .int .i64 0, .int .i64 0, .slice (some ⟨b2, off2, none⟩) 1 p2, .slice A2 0 q2, .int .i64 0, .bool false] #[.int .i64 0, .int .i64 0]
        have hs0 := (hk.cell (p := ⟨b2, off2, none⟩) hbk2).trans hs0
        have hs1 := (hk.cell (p := ⟨b2, off2 + 1, none⟩) hbk2).trans hs1
        clear hN hs
        unfold pCells
        simp only [set_kind, set_lo, set_hi, set_mode, set_ref, set_set, set_kids, Int.cast_ofNat_Int]
        have P2 := Lib.hid (put_new v3 w4 #[.int .i64 1, .int .i64 0, .int .i64 0, .int .i64 0, .int .i64 0, .slice (some ⟨b2, off2, none⟩) 1 p2, .slice A2 0 q2, .int .i64 0, .bool false] #[.int .i64 0, .int .i64 0] hbw4)
        go_upto_region 14 with (fail)
        generalize (w4.alloc (.cells #[.int .i64 1, .int .i64 0, .int .i64 0, .int .i64 0, .int .i64 0, .slice (some ⟨b2, off2, none⟩) 1 p2, .slice A2 0 q2, .int .i64 0, .bool false] 29)).alloc (.cells #[.int .i64 0, .int .i64 0] 32) = v4 at *
        have hc2 := P2.out.node.nine
        have hf2 := P2.out.flt.cell 0
        simp at hf2
        have hbv4 := hbv3.trans (P2.out.keep.mono hbv3.size)
        clear HMM HBY HT2 HT3
        go_wp2
        go_ret
        exact ⟨rfl, hbv4⟩
      · have k0 : ¬ (c : Int) ≤ 57 := by omega
        have k1 : ¬ (c : Int) ≤ 122 := by omega
        have k2 : ¬ (c : Int) ≤ 90 := by omega
        have k3 : ¬ (c : Int) ≤ 32 := by omega
        have k4 : (48 : Int) ≤ (c : Int) := by omega
        have k5 : (97 : Int) ≤ (c : Int) := by omega
        have k6 : (65 : Int) ≤ (c : Int) := by omega
        have k7 : ¬ (127 : Int) ≤ (c : Int) := by omega
        have HP2' := Lib.hid (HP2.out (by simp [isMark]; omega))
        go_wp2_with fail
        refine (HP2'.out _ HT3.out).mono ?_
        rintro e w4 ⟨_, A2, p2, q2, rfl, hN, hbw4⟩
        obtain ⟨_, _, _, _, -, -, -, -, hs, -⟩ := hN.parts
        obtain ⟨b2, off2, rfl, hbk2, hs0, hs1, -, hp2⟩ := set_cells hs
        have hk := put_on w4 #[.int .i64 1, .int .i64 0, .int .i64 0, .int .i64 0, .int .i64 0, .slice (some ⟨b2, off2, none⟩) 1 p2, .slice A2 0 q2, .int .i64 0, .bool false] #[.int .i64 0, .int .i64 0]
        have hs0 := (hk.cell (p := ⟨b2, off2, none⟩) hbk2).trans hs0
        have hs1 := (hk.cell (p := ⟨b2, off2 + 1, none⟩) hbk2).trans hs1
        clear hN hs
        unfold pCells
        simp only [set_kind, set_lo, set_hi, set_mode, set_ref, set_set, set_kids, Int.cast_ofNat_Int]
        have P2 := Lib.hid (put_new v3 w4 #[.int .i64 1, .int .i64 0, .int .i64 0, .int .i64 0, .int .i64 0, .slice (some ⟨b2, off2, none⟩) 1 p2, .slice A2 0 q2, .int .i64 0, .bool false] #[.int .i64 0, .int .i64 0] hbw4)
        go_upto_region 14 with (fail)
        generalize (w4.alloc (.cells #[.int .i64 1, .int .i64 0, .int .i64 0, .int .i64 0, .int .i64 0, .slice (some ⟨b2, off2, none⟩) 1 p2, .slice A2 0 q2, .int .i64 0, .bool false] 29)).alloc (.cells #[.int .i64 0, .int .i64 0] 32) = v4 at *
        have hc2 := P2.out.node.nine
        have hf2 := P2.out.flt.cell 0
        simp at hf2
        have hbv4 := hbv3.trans (P2.out.keep.mono hbv3.size)
        clear HMM HBY HT2 HT3
        go_wp2
        go_ret
        exact ⟨rfl, hbv4⟩
    | false =>
      have HSG := Lib.hid hsg
      clear hsg
      go_enter Tryd.func7, Tryd.ntmps7
      go_wp2_with fail
      refine HA.out.mono ?_
      rintro e w0 ⟨rfl, hb0⟩
      go_wp2_with fail
      refine (char_is (c : Int) true HCH.out _).mono ?_
      rintro e wy ⟨rfl, hwy⟩
      rw [hwy]
      clear hwy wy
      have HM0 := TrueMap.new w0
      have hbM := (Below.refl w0.heap.size w0).alloc (Nat.le_refl _) (.map #[] 0)
      go_wp2_with (refine wpList_insert_true rfl _ _ _ rfl w0.heap.size _ rfl _ rfl rfl HM0 (by decide) ?_; intro w1 HM0 hg; have hbM := hbM.grown hg hbM.size (fun j hj => by cases hj; exact Nat.le_refl _))
      refine (HBY.out _).mono ?_
      rintro e w2 ⟨v, rfl, hmv, hb2⟩
      have hbw2 := hb0.trans ((hbM.trans (hb2.mono hbM.size)).mono hb0.size)
      have HMM := Lib.hid (HM0.on hb2)
      have hcv := run_string_bytes hmv
      rw [← HSB.out] at hcv
      have HT2 := Lib.hid (tabs_on HT.out hbw2 hbw2.size)
      clear HM0 hbM hmv
      go_wp2_with fail
      have HP1 := Lib.hid (HPA.out HSG.out)
      refine (HP1.out _ HT2.out).mono ?_
      rintro e w3 ⟨_, A1, p1, q1, rfl, hN, hbw3⟩
      obtain ⟨_, _, _, _, -, -, -, -, hs, -⟩ := hN.parts
      obtain ⟨b1, off1, rfl, hbk1, hs0, hs1, -, hp1⟩ := set_cells hs
      have hk := put_on w3 #[.int .i64 1, .int .i64 0, .int .i64 0, .int .i64 0, .int .i64 0, .slice (some ⟨b1, off1, none⟩) 1 p1, .slice A1 0 q1, .int .i64 0, .bool false] #[.int .i64 0, .int .i64 0]
      have hs0 := (hk.cell (p := ⟨b1, off1, none⟩) hbk1).trans hs0
      have hs1 := (hk.cell (p := ⟨b1, off1 + 1, none⟩) hbk1).trans hs1
      clear hN hs
      unfold pCells
      simp only [set_kind, set_lo, set_hi, set_mode, set_ref, set_set, set_kids, Int.cast_ofNat_Int]
      have P1 := Lib.hid (put_new w2 w3 #[.int .i64 1, .int .i64 0, .int .i64 0, .int .i64 0, .int .i64 0, .slice (some ⟨b1, off1, none⟩) 1 p1, .slice A1 0 q1, .int .i64 0, .bool false] #[.int .i64 0, .int .i64 0] hbw3)
      go_upto_region 8 with (fail)
      generalize (w3.alloc (.cells #[.int .i64 1, .int .i64 0, .int .i64 0, .int .i64 0, .int .i64 0, .slice (some ⟨b1, off1, none⟩) 1 p1, .slice A1 0 q1, .int .i64 0, .bool false] 29)).alloc (.cells #[.int .i64 0, .int .i64 0] 32) = v3 at *
      have hc1 := P1.out.node.nine
      have hf1 := P1.out.flt.cell 0
      simp at hf1
      have hbv3 := hbw2.trans (P1.out.keep.mono hbw2.size)
      have HT3 := Lib.hid (tabs_on HT.out hbv3 hbv3.size)
      have hlk := run_look (HMM.out.on P1.out.keep) (c : Int)
      rw [mem_signs, HSG.out] at hlk
      have hiv : ((c : Int) ≤ 32) ∨ (33 ≤ (c : Int) ∧ (c : Int) ≤ 47) ∨ (48 ≤ (c : Int) ∧ (c : Int) ≤ 57) ∨ (58 ≤ (c : Int) ∧ (c : Int) ≤ 64) ∨ (65 ≤ (c : Int) ∧ (c : Int) ≤ 90) ∨ (91 ≤ (c : Int) ∧ (c : Int) ≤ 96) ∨ (97 ≤ (c : Int) ∧ (c : Int) ≤ 122) ∨ (123 ≤ (c : Int) ∧ (c : Int) ≤ 126) ∨ (127 ≤ (c : Int)) := by omega
      rcases hiv with l1 | ⟨l1, l2⟩ | ⟨l1, l2⟩ | ⟨l1, l2⟩ | ⟨l1, l2⟩ | ⟨l1, l2⟩ | ⟨l1, l2⟩ | ⟨l1, l2⟩ | l1
      · have k0 : (c : Int) ≤ 57 := by omega
        have k1 : (c : Int) ≤ 122 := by omega
        have k2 : (c : Int) ≤ 90 := by omega
        have k3 : (c : Int) ≤ 32 := by omega
        have k4 : ¬ (48 : Int) ≤ (c : Int) := by omega
        have k5 : ¬ (97 : Int) ≤ (c : Int) := by omega
        have k6 : ¬ (65 : Int) ≤ (c : Int) := by omega
        have k7 : ¬ (127 : Int) ≤ (c : Int) := by omega
        go_wp2
        go_ret
        exact ⟨rfl, hbv3⟩
      · have k0 : (c : Int) ≤ 57 := by omega
        have k1 : (c : Int) ≤ 122 := by omega
        have k2 : (c : Int) ≤ 90 := by omega
        have k3 : ¬ (c : Int) ≤ 32 := by omega
        have k4 : ¬ (48 : Int) ≤ (c : Int) := by omega
        have k5 : ¬ (97 : Int) ≤ (c : Int) := by omega
        have k6 : ¬ (65 : Int) ≤ (c : Int) := by omega
        have k7 : ¬ (127 : Int) ≤ (c : Int) := by omega
        have HP2' := Lib.hid (HP2.out (by simp [isMark]; omega))
        go_wp2_with fail
        refine (HP2'.out _ HT3.out).mono ?_
        rintro e w4 ⟨_, A2, p2, q2, rfl, hN, hbw4⟩
        obtain ⟨_, _, _, _, -, -, -, -, hs, -⟩ := hN.parts
        obtain ⟨b2, off2, rfl, hbk2, hs0, hs1, -, hp2⟩ := set_cells hs
        have hk := put_on w4 #[.int .i64 1, .int .i64 0, .int .i64 0, .int .i64 0, .int .i64 0, .slice (some ⟨b2, off2, none⟩) 1 p2, .slice A2 0 q2, .int .i64 0, .bool false] #[.int .i64 0, .int .i64 0]
        have hs0 := (hk.cell (p := ⟨b2, off2, none⟩) hbk2).trans hs0
        have hs1 := (hk.cell (p := ⟨b2, off2 + 1, none⟩) hbk2).trans hs1
        clear hN hs
        unfold pCells
        simp only [set_kind, set_lo, set_hi, set_mode, set_ref, set_set, set_kids, Int.cast_ofNat_Int]
        have P2 := Lib.hid (put_new v3 w4 #[.int .i64 1, .int .i64 0, .int .i64 0, .int .i64 0, .int .i64 0, .slice (some ⟨b2, off2, none⟩) 1 p2, .slice A2 0 q2, .int .i64 0, .bool false] #[.int .i64 0, .int .i64 0] hbw4)
        go_upto_region 14 with (fail)
        generalize (w4.alloc (.cells #[.int .i64 1, .int .i64 0, .int .i64 0, .int .i64 0, .int .i64 0, .slice (some ⟨b2, off2, none⟩) 1 p2, .slice A2 0 q2, .int .i64 0, .bool false] 29)).alloc (.cells #[.int .i64 0, .int .i64 0] 32) = v4 at *
        have hc2 := P2.out.node.nine
        have hf2 := P2.out.flt.cell 0
        simp at hf2
        have hbv4 := hbv3.trans (P2.out.keep.mono hbv3.size)
        clear HMM HP HBY HT2 HT3 hcv
        go_wp2
        go_ret
        exact ⟨rfl, hbv4⟩
      · have k0 : (c : Int) ≤ 57 := by omega
        have k1 : (c : Int) ≤ 122 := by omega
        have k2 : (c : Int) ≤ 90 := by omega
        have k3 : ¬ (c : Int) ≤ 32 := by omega
        have k4 : (48 : Int) ≤ (c : Int) := by omega
        have k5 : ¬ (97 : Int) ≤ (c : Int) := by omega
        have k6 : ¬ (65 : Int) ≤ (c : Int) := by omega
        have k7 : ¬ (127 : Int) ≤ (c : Int) := by omega
        go_wp2
        go_ret
        exact ⟨rfl, hbv3⟩
      · have k0 : ¬ (c : Int) ≤ 57 := by omega
        have k1 : (c : Int) ≤ 122 := by omega
        have k2 : (c : Int) ≤ 90 := by omega
        have k3 : ¬ (c : Int) ≤ 32 := by omega
        have k4 : (48 : Int) ≤ (c : Int) := by omega
        have k5 : ¬ (97 : Int) ≤ (c : Int) := by omega
        have k6 : ¬ (65 : Int) ≤ (c : Int) := by omega
        have k7 : ¬ (127 : Int) ≤ (c : Int) := by omega
        have HP2' := Lib.hid (HP2.out (by simp [isMark]; omega))
        go_wp2_with fail
        refine (HP2'.out _ HT3.out).mono ?_
        rintro e w4 ⟨_, A2, p2, q2, rfl, hN, hbw4⟩
        obtain ⟨_, _, _, _, -, -, -, -, hs, -⟩ := hN.parts
        obtain ⟨b2, off2, rfl, hbk2, hs0, hs1, -, hp2⟩ := set_cells hs
        have hk := put_on w4 #[.int .i64 1, .int .i64 0, .int .i64 0, .int .i64 0, .int .i64 0, .slice (some ⟨b2, off2, none⟩) 1 p2, .slice A2 0 q2, .int .i64 0, .bool false] #[.int .i64 0, .int .i64 0]
        have hs0 := (hk.cell (p := ⟨b2, off2, none⟩) hbk2).trans hs0
        have hs1 := (hk.cell (p := ⟨b2, off2 + 1, none⟩) hbk2).trans hs1
        clear hN hs
        unfold pCells
        simp only [set_kind, set_lo, set_hi, set_mode, set_ref, set_set, set_kids, Int.cast_ofNat_Int]
        have P2 := Lib.hid (put_new v3 w4 #[.int .i64 1, .int .i64 0, .int .i64 0, .int .i64 0, .int .i64 0, .slice (some ⟨b2, off2, none⟩) 1 p2, .slice A2 0 q2, .int .i64 0, .bool false] #[.int .i64 0, .int .i64 0] hbw4)
        go_upto_region 14 with (fail)
        generalize (w4.alloc (.cells #[.int .i64 1, .int .i64 0, .int .i64 0, .int .i64 0, .int .i64 0, .slice (some ⟨b2, off2, none⟩) 1 p2, .slice A2 0 q2, .int .i64 0, .bool false] 29)).alloc (.cells #[.int .i64 0, .int .i64 0] 32) = v4 at *
        have hc2 := P2.out.node.nine
        have hf2 := P2.out.flt.cell 0
        simp at hf2
        have hbv4 := hbv3.trans (P2.out.keep.mono hbv3.size)
        clear HMM HP HBY HT2 HT3 hcv
        go_wp2
        go_ret
        exact ⟨rfl, hbv4⟩
      · have k0 : ¬ (c : Int) ≤ 57 := by omega
        have k1 : (c : Int) ≤ 122 := by omega
        have k2 : (c : Int) ≤ 90 := by omega
        have k3 : ¬ (c : Int) ≤ 32 := by omega
        have k4 : (48 : Int) ≤ (c : Int) := by omega
        have k5 : ¬ (97 : Int) ≤ (c : Int) := by omega
        have k6 : (65 : Int) ≤ (c : Int) := by omega
        have k7 : ¬ (127 : Int) ≤ (c : Int) := by omega
        go_wp2
        go_ret
        exact ⟨rfl, hbv3⟩
      · have k0 : ¬ (c : Int) ≤ 57 := by omega
        have k1 : (c : Int) ≤ 122 := by omega
        have k2 : ¬ (c : Int) ≤ 90 := by omega
        have k3 : ¬ (c : Int) ≤ 32 := by omega
        have k4 : (48 : Int) ≤ (c : Int) := by omega
        have k5 : ¬ (97 : Int) ≤ (c : Int) := by omega
        have k6 : (65 : Int) ≤ (c : Int) := by omega
        have k7 : ¬ (127 : Int) ≤ (c : Int) := by omega
        have HP2' := Lib.hid (HP2.out (by simp [isMark]; omega))
        go_wp2_with fail
        refine (HP2'.out _ HT3.out).mono ?_
        rintro e w4 ⟨_, A2, p2, q2, rfl, hN, hbw4⟩
        obtain ⟨_, _, _, _, -, -, -, -, hs, -⟩ := hN.parts
        obtain ⟨b2, off2, rfl, hbk2, hs0, hs1, -, hp2⟩ := set_cells hs
        have hk := put_on w4 #[.int .i64 1, .int .i64 0, .int .i64 0, .int .i64 0, .int .i64 0, .slice (some ⟨b2, off2, none⟩) 1 p2, .slice A2 0 q2, .int .i64 0, .bool false] #[.int .i64 0, .int .i64 0]
        have hs0 := (hk.cell (p := ⟨b2, off2, none⟩) hbk2).trans hs0
        have hs1 := (hk.cell (p := ⟨b2, off2 + 1, none⟩) hbk2).trans hs1
        clear hN hs
        unfold pCells
        simp only [set_kind, set_lo, set_hi, set_mode, set_ref, set_set, set_kids, Int.cast_ofNat_Int]
        have P2 := Lib.hid (put_new v3 w4 #[.int .i64 1, .int .i64 0, .int .i64 0, .int .i64 0, .int .i64 0, .slice (some ⟨b2, off2, none⟩) 1 p2, .slice A2 0 q2, .int .i64 0, .bool false] #[.int .i64 0, .int .i64 0] hbw4)
        go_upto_region 14 with (fail)
        generalize (w4.alloc (.cells #[.int .i64 1, .int .i64 0, .int .i64 0, .int .i64 0, .int .i64 0, .slice (some ⟨b2, off2, none⟩) 1 p2, .slice A2 0 q2, .int .i64 0, .bool false] 29)).alloc (.cells #[.int .i64 0, .int .i64 0] 32) = v4 at *
        have hc2 := P2.out.node.nine
        have hf2 := P2.out.flt.cell 0
        simp at hf2
        have hbv4 := hbv3.trans (P2.out.keep.mono hbv3.size)
        clear HMM HP HBY HT2 HT3 hcv
        go_wp2
        go_ret
        exact ⟨rfl, hbv4⟩
      · have k0 : ¬ (c : Int) ≤ 57 := by omega
        have k1 : (c : Int) ≤ 122 := by omega
        have k2 : ¬ (c : Int) ≤ 90 := by omega
        have k3 : ¬ (c : Int) ≤ 32 := by omega
        have k4 : (48 : Int) ≤ (c : Int) := by omega
        have k5 : (97 : Int) ≤ (c : Int) := by omega
        have k6 : (65 : Int) ≤ (c : Int) := by omega
        have k7 : ¬ (127 : Int) ≤ (c : Int) := by omega
        go_wp2
        go_ret
        exact ⟨rfl, hbv3⟩
      · have k0 : ¬ (c : Int) ≤ 57 := by omega
        have k1 : ¬ (c : Int) ≤ 122 := by omega
        have k2 : ¬ (c : Int) ≤ 90 := by omega
        have k3 : ¬ (c : Int) ≤ 32 := by omega
        have k4 : (48 : Int) ≤ (c : Int) := by omega
        have k5 : (97 : Int) ≤ (c : Int) := by omega
        have k6 : (65 : Int) ≤ (c : Int) := by omega
        have k7 : ¬ (127 : Int) ≤ (c : Int) := by omega
        have HP2' := Lib.hid (HP2.out (by simp [isMark]; omega))
        go_wp2_with fail
        refine (HP2'.out _ HT3.out).mono ?_
        rintro e w4 ⟨_, A2, p2, q2, rfl, hN, hbw4⟩
        obtain ⟨_, _, _, _, -, -, -, -, hs, -⟩ := hN.parts
        obtain ⟨b2, off2, rfl, hbk2, hs0, hs1, -, hp2⟩ := set_cells hs
        have hk := put_on w4 #[.int .i64 1, .int .i64 0, .int .i64 0, .int .i64 0, .int .i64 0, .slice (some ⟨b2, off2, none⟩) 1 p2, .slice A2 0 q2, .int .i64 0, .bool false] #[.int .i64 0, .int .i64 0]
        have hs0 := (hk.cell (p := ⟨b2, off2, none⟩) hbk2).trans hs0
        have hs1 := (hk.cell (p := ⟨b2, off2 + 1, none⟩) hbk2).trans hs1
        clear hN hs
        unfold pCells
        simp only [set_kind, set_lo, set_hi, set_mode, set_ref, set_set, set_kids, Int.cast_ofNat_Int]
        have P2 := Lib.hid (put_new v3 w4 #[.int .i64 1, .int .i64 0, .int .i64 0, .int .i64 0, .int .i64 0, .slice (some ⟨b2, off2, none⟩) 1 p2, .slice A2 0 q2, .int .i64 0, .bool false] #[.int .i64 0, .int .i64 0] hbw4)
        go_upto_region 14 with (fail)
        generalize (w4.alloc (.cells #[.int .i64 1, .int .i64 0, .int .i64 0, .int .i64 0, .int .i64 0, .slice (some ⟨b2, off2, none⟩) 1 p2, .slice A2 0 q2, .int .i64 0, .bool false] 29)).alloc (.cells #[.int .i64 0, .int .i64 0] 32) = v4 at *
        have hc2 := P2.out.node.nine
        have hf2 := P2.out.flt.cell 0
        simp at hf2
        have hbv4 := hbv3.trans (P2.out.keep.mono hbv3.size)
        clear HMM HP HBY HT2 HT3 hcv
        go_wp2
        go_ret
        exact ⟨rfl, hbv4⟩
      · have k0 : ¬ (c : Int) ≤ 57 := by omega
        have k1 : ¬ (c : Int) ≤ 122 := by omega
        have k2 : ¬ (c : Int) ≤ 90 := by omega
        have k3 : ¬ (c : Int) ≤ 32 := by omega
        have k4 : (48 : Int) ≤ (c : Int) := by omega
        have k5 : (97 : Int) ≤ (c : Int) := by omega
        have k6 : (65 : Int) ≤ (c : Int) := by omega
        have k7 : (127 : Int) ≤ (c : Int) := by omega
        go_wp2
        go_ret
        exact ⟨rfl, hbv3⟩

theorem parseUnits_law (u : Int) (w : World) (hT : TabsAt w.heap.size w) : Calls Tryd.prog 7 #[.int .i64 u] w fun e w' => e = .returned (.bool true) ∧ Below w.heap.size w w' := units_law u hT

end Go.Proofs.YthipgidddgdojaaDoor
