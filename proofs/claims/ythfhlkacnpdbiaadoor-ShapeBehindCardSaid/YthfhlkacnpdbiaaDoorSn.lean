/- ShapeBehind's walk. -/
import Derived.Test.YthfhlkacnpdbiaaDoorSf
import Derived.Test.YthfhlkacnpdbiaaDoorMPf
import Derived.Test.YthfhlkacnpdbiaaDoorMModel
import Derived.Test.YthfhlkacnpdbiaaDoorSr
namespace Go.Proofs.YthfhlkacnpdbiaaDoor
open Go.RowKit
open Go.Proofs.YthfhlkacnpdbiaaDoor.Cl (Rg)
variable {w w' : World}

theorem verdict_zero {nd : Nd} (h : verdictN nd = 0) : bounded nd = true ∧ ndSize nd + 3 ≤ 2000 := by
  unfold verdictN at h
  split at h
  · split at h
    · cases h
    · rename_i hb hz
      exact ⟨hb, by omega⟩
  · cases h
theorem verdict_bad {nd : Nd} (h : bounded nd = false) : verdictN nd = 27 := by unfold verdictN; rw [h]; rfl
theorem verdict_look {nd : Nd} {z : Int} (hz : z + 3 ≤ 2000) (hs : ndSize nd = min (z + 2) 1048576) : bounded nd = true → verdictN nd = if 1995 < z then 28 else 0 := by
  intro h
  unfold verdictN
  rw [h, hs]
  simp only [if_true]
  by_cases c : 1995 < z
  · rw [if_pos c, if_pos (by omega)]
  · rw [if_neg c, if_neg (by omega)]

set_option maxRecDepth 100000 in
set_option maxHeartbeats 2000000 in
theorem sbehind_law (x : ByteArray) (i : Int) (hT : TabsAt w.heap.size w) : Calls Tryd.prog 5 #[.string x, .int .i64 i] w fun e w' => e = .returned (.bool true) ∧ Below w.heap.size w w' := by
  have HT := Lib.hid hT
  have HA := Lib.hid (anchor_any hT)
  clear hT
  by_cases hlen : 200 < x.size
  · have hlen' : (200 : Int) < (x.size : Int) := by omega
    go_enter Tryd.func5, Tryd.ntmps5
    go_wp2_with fail
    refine HA.out.mono ?_
    rintro e w1 ⟨rfl, hb1⟩
    go_wp2
    go_ret
    exact ⟨rfl, hb1⟩
  have hlen' : ¬ (200 : Int) < (x.size : Int) := by omega
  by_cases hi0 : i < 0
  · go_enter Tryd.func5, Tryd.ntmps5
    go_wp2_with fail
    refine HA.out.mono ?_
    rintro e w1 ⟨rfl, hb1⟩
    go_wp2
    go_ret
    exact ⟨rfl, hb1⟩
  by_cases hi3 : 3 < i
  · go_enter Tryd.func5, Tryd.ntmps5
    go_wp2_with fail
    refine HA.out.mono ?_
    rintro e w1 ⟨rfl, hb1⟩
    go_wp2
    go_ret
    exact ⟨rfl, hb1⟩
  have HP1 : Hid (∀ W : World, TabsAt W.heap.size W → Calls Tryd.prog 10 #[.string x] W (ParsePost W (parse 1026 x.data.toList))) := Lib.hid (fun W hW => parse_any (s := x.data.toList) 1026 (by omega) (by have : x.data.toList.length = x.size := rfl; omega) hW)
  obtain ⟨r1, hr1⟩ : ∃ r, r = parse 1026 x.data.toList := ⟨_, rfl⟩
  rw [← hr1] at HP1
  have HR1 := Lib.hid (ok_of (by omega) hr1)
  clear hr1
  have hi : i = 0 ∨ i = 1 ∨ i = 2 ∨ i = 3 := by omega
  clear hi0 hi3
  rcases hi with rfl | rfl | rfl | rfl

  · have HP2 : Hid (∀ W : World, TabsAt W.heap.size W → Calls Tryd.prog 10 #[.string ((⟨#[40, 63, 61]⟩ : ByteArray) ++ x ++ (⟨#[41]⟩ : ByteArray))] W (ParsePost W (parse 1030 ([40, 63, 61] ++ (x.data.toList ++ [41]))))) := Lib.hid (fun W hW => by
      rw [put_eq3]
      exact parse_any 1030 (by omega) (by have : x.data.toList.length = x.size := rfl; simp; omega) hW)
    obtain ⟨r2, hr2⟩ : ∃ r, r = parse 1030 ([40, 63, 61] ++ (x.data.toList ++ [41])) := ⟨_, rfl⟩
    rw [← hr2] at HP2
    have HR2 := Lib.hid (ok_of (by omega) hr2)
    clear hr2
    go_enter Tryd.func5, Tryd.ntmps5
    go_wp2_with fail
    refine HA.out.mono ?_
    rintro e w0 ⟨rfl, hb0⟩
    have HT0 := Lib.hid (tabs_on HT.out hb0 hb0.size)
    go_wp2_with fail
    refine (HP1.out _ HT0.out).mono ?_
    intro e w1 hp
    obtain ⟨A1, B1, p1, q1, rfl, hN, hb1⟩ := hp.uni
    generalize ndOf r1 = n1 at hN HR1 ⊢
    generalize gOf r1 = g1 at HR1 ⊢
    generalize foOf r1 = fo1 at HR1 ⊢
    generalize (fOf r1).1 = fc1 at HR1 ⊢
    generalize (fOf r1).2 = fp1
    unfold pCells
    have P1 := Lib.hid (put_new w0 w1 #[.int .i64 n1.kind, .int .i64 n1.lo, .int .i64 n1.hi, .int .i64 n1.mode, .int .i64 n1.ref, .slice A1 n1.set.length p1, .slice B1 n1.kids.length q1, .int .i64 (g1 : Nat), .bool fo1] #[.int .i64 (fc1 : Nat), .int .i64 (fp1 : Nat)] hb1)
    have HN1 := Lib.hid (hN.on (put_on w1 #[.int .i64 n1.kind, .int .i64 n1.lo, .int .i64 n1.hi, .int .i64 n1.mode, .int .i64 n1.ref, .slice A1 n1.set.length p1, .slice B1 n1.kids.length q1, .int .i64 (g1 : Nat), .bool fo1] #[.int .i64 (fc1 : Nat), .int .i64 (fp1 : Nat)]))
    clear hN hp HP1
    go_upto_region 6 with (fail)
    generalize (w1.alloc (.cells #[.int .i64 n1.kind, .int .i64 n1.lo, .int .i64 n1.hi, .int .i64 n1.mode, .int .i64 n1.ref, .slice A1 n1.set.length p1, .slice B1 n1.kids.length q1, .int .i64 (g1 : Nat), .bool fo1] 29)).alloc (.cells #[.int .i64 (fc1 : Nat), .int .i64 (fp1 : Nat)] 32) = v1 at *
    have hbv1 := hb0.trans (P1.out.keep.mono hb0.size)
    have HT1 := Lib.hid (tabs_on HT.out hbv1 hbv1.size)
    go_wp2_with fail
    refine (HP2.out _ (tabs_on HT1.out (new_str v1 _) (new_str v1 _).size)).mono ?_
    intro e w2 hp
    obtain ⟨A2, B2, p2, q2, rfl, hN, hb2⟩ := hp.uni
    generalize ndOf r2 = n2 at hN HR2 ⊢
    generalize gOf r2 = g2 at HR2 ⊢
    generalize foOf r2 = fo2 at HR2 ⊢
    generalize (fOf r2).1 = fc2 at HR2 ⊢
    generalize (fOf r2).2 = fp2
    unfold pCells
    have P2 := Lib.hid (put_new v1 w2 #[.int .i64 n2.kind, .int .i64 n2.lo, .int .i64 n2.hi, .int .i64 n2.mode, .int .i64 n2.ref, .slice A2 n2.set.length p2, .slice B2 n2.kids.length q2, .int .i64 (g2 : Nat), .bool fo2] #[.int .i64 (fc2 : Nat), .int .i64 (fp2 : Nat)] ((new_str v1 _).trans (hb2.mono (new_str v1 _).size)))
    have HN2 := Lib.hid (hN.on (put_on w2 #[.int .i64 n2.kind, .int .i64 n2.lo, .int .i64 n2.hi, .int .i64 n2.mode, .int .i64 n2.ref, .slice A2 n2.set.length p2, .slice B2 n2.kids.length q2, .int .i64 (g2 : Nat), .bool fo2] #[.int .i64 (fc2 : Nat), .int .i64 (fp2 : Nat)]))
    clear hN hp HP2
    go_upto_region 7 with (fail)
    generalize (w2.alloc (.cells #[.int .i64 n2.kind, .int .i64 n2.lo, .int .i64 n2.hi, .int .i64 n2.mode, .int .i64 n2.ref, .slice A2 n2.set.length p2, .slice B2 n2.kids.length q2, .int .i64 (g2 : Nat), .bool fo2] 29)).alloc (.cells #[.int .i64 (fc2 : Nat), .int .i64 (fp2 : Nat)] 32) = v2 at *
    have hbv2 := hbv1.trans (P2.out.keep.mono hbv1.size)
    have hf1 := (P1.out.flt.on P2.out.keep).cell 0
    have hf2 := P2.out.flt.cell 0
    have hc1 := (P1.out.node.on P2.out.keep).nine
    simp at hf1 hf2
    by_cases h1 : ¬ fc1 = 0
    · have h1' := off_zero h1
      go_wp2
      go_ret
      exact ⟨rfl, hbv2⟩
    obtain rfl : fc1 = 0 := by omega
    simp only [Int.cast_ofNat_Int] at hf1
    by_cases h2 : ¬ fc2 = 0
    · have h2' := off_zero h2
      go_wp2
      go_ret
      exact ⟨rfl, hbv2⟩
    obtain rfl : fc2 = 0 := by omega
    simp only [Int.cast_ofNat_Int] at hf2
    by_cases h3 : fo1 = true
    · subst h3
      go_wp2
      go_ret
      exact ⟨rfl, hbv2⟩
    obtain rfl : fo1 = false := by simpa using h3
    have HW := Lib.hid (parse_wf (HR1.out rfl))
    have HW2 := Lib.hid (parse_wf (HR2.out rfl))
    have HCk1 := Lib.hid (fun W (hW : Below v2.heap.size v2 W) => check_any n1 HW.out g1 false W A1 B1 p1 q1 ((HN1.out.on P2.out.keep).on hW))
    by_cases hv : ¬ verdictN n1 = 0
    · have hv' := off_zero hv
      generalize verdictN n1 = vv at *
      go_wp2_with fail
      refine (HCk1.out v2 (Below.refl _ _)).mono ?_
      rintro e w3 ⟨rfl, hb3⟩
      have hbv3 := hbv2.trans (hb3.mono hbv2.size)
      go_wp2
      go_ret
      exact ⟨rfl, hbv3⟩
    have hv0 : verdictN n1 = 0 := by omega
    have HV0 := Lib.hid (verdict_zero hv0)
    rw [hv0] at HCk1
    simp only [Int.cast_ofNat_Int] at HCk1
    clear hv hv0
    have HF : Hid (ndSize n2 = min (ndSize n1 + 2) 1048576 ∧ bounded n2 = (!(decide ((2 : Int) ≤ 0) && decide (most n1 < 0 ∨ 32 < most n1)) && bounded n1)) := Lib.hid (by
      obtain ⟨nd', hw, hl⟩ := one_in open_ahead (by simp) (HR1.out rfl) (by have : x.data.toList.length = x.size := rfl; omega) (HR2.out rfl)
      exact ⟨(free_look hw hl).2.2.1, (free_look hw hl).2.2.2⟩)
    have HWd1 := Lib.hid (fun W (hW : Below v2.heap.size v2 W) => width_any n1 HW.out W A1 B1 p1 q1 ((HN1.out.on P2.out.keep).on hW))
    have HCk2 := Lib.hid (fun W (hW : Below v2.heap.size v2 W) => check_any n2 HW2.out g2 fo2 W A2 B2 p2 q2 (HN2.out.on hW))
    have HSz1 := Lib.hid (fun W (hW : Below v2.heap.size v2 W) => size_any n1 HW.out W A1 B1 p1 q1 ((HN1.out.on P2.out.keep).on hW))
    have hl0 := (least_range HW.out).1
    have hl1 : least n1 ≤ 1048576 := (least_range HW.out).2
    have hm0 := (most_range HW.out).1
    have hm1 : most n1 ≤ 1048576 := (most_range HW.out).2
    have hs0 := (ndSize_range HW.out).1
    have hs1 : ndSize n1 ≤ 1048576 := (ndSize_range HW.out).2
    have HB1 := Lib.hid (P1.out.node.on P2.out.keep)
    have HB2 := Lib.hid P2.out.node
    have HVs := Lib.hid (verdict_look (z := ndSize n1) HV0.out.2 HF.out.1)
    have HVb := Lib.hid (show bounded n2 = false → verdictN n2 = 27 from verdict_bad)
    have HFb := Lib.hid HF.out.2
    rw [HV0.out.1] at HFb
    clear HF HV0 P1 P2 HN1 HN2 HR1 HR2 HW HW2
    generalize least n1 = l at *
    generalize most n1 = m at *
    generalize ndSize n1 = z at *
    go_wp2_with fail
    refine (HCk1.out v2 (Below.refl _ _)).mono ?_
    rintro e w3 ⟨rfl, hb3⟩
    have hbv3 := hbv2.trans (hb3.mono hbv2.size)
    clear hc1 hf1 hf2
    have hc1 := (HB1.out.on hb3).nine
    go_wp2_with fail
    refine (HWd1.out w3 hb3).mono ?_
    rintro e w4 ⟨rfl, hb4⟩
    have k4 := hb3.trans (hb4.mono hb3.size)
    have hbv4 := hbv3.trans (hb4.mono hbv3.size)
    clear hc1
    have hc2 := (HB2.out.on k4).nine
    have hbd : bounded n2 = true := by rw [HFb.out]; simp
    have hvv := HVs.out hbd
    rw [hvv] at HCk2
    clear hvv hbd HFb HVs HVb
    by_cases hz : 1995 < z
    · rw [if_pos hz] at HCk2
      simp only [Int.cast_ofNat_Int] at HCk2
      go_wp2_with fail
      refine (HCk2.out w4 k4).mono ?_
      rintro e w5 ⟨rfl, hb5⟩
      have k5 := k4.trans (hb5.mono k4.size)
      have hbv5 := hbv4.trans (hb5.mono hbv4.size)
      clear hc2
      have hc1 := (HB1.out.on k5).nine
      go_wp2_with fail
      refine (HSz1.out w5 k5).mono ?_
      rintro e w6 ⟨rfl, hb6⟩
      have hbv6 := hbv5.trans (hb6.mono hbv5.size)
      clear hc1
      go_wp2
      go_ret
      exact ⟨rfl, hbv6⟩
    · rw [if_neg hz] at HCk2
      simp only [Int.cast_ofNat_Int] at HCk2
      go_wp2_with fail
      refine (HCk2.out w4 k4).mono ?_
      rintro e w5 ⟨rfl, hb5⟩
      have hbv5 := hbv4.trans (hb5.mono hbv4.size)
      clear hc2
      go_wp2
      go_ret
      exact ⟨rfl, hbv5⟩
  · have HP2 : Hid (∀ W : World, TabsAt W.heap.size W → Calls Tryd.prog 10 #[.string ((⟨#[40, 63, 33]⟩ : ByteArray) ++ x ++ (⟨#[41]⟩ : ByteArray))] W (ParsePost W (parse 1030 ([40, 63, 33] ++ (x.data.toList ++ [41]))))) := Lib.hid (fun W hW => by
      rw [put_eq3]
      exact parse_any 1030 (by omega) (by have : x.data.toList.length = x.size := rfl; simp; omega) hW)
    obtain ⟨r2, hr2⟩ : ∃ r, r = parse 1030 ([40, 63, 33] ++ (x.data.toList ++ [41])) := ⟨_, rfl⟩
    rw [← hr2] at HP2
    have HR2 := Lib.hid (ok_of (by omega) hr2)
    clear hr2
    go_enter Tryd.func5, Tryd.ntmps5
    go_wp2_with fail
    refine HA.out.mono ?_
    rintro e w0 ⟨rfl, hb0⟩
    have HT0 := Lib.hid (tabs_on HT.out hb0 hb0.size)
    go_wp2_with fail
    refine (HP1.out _ HT0.out).mono ?_
    intro e w1 hp
    obtain ⟨A1, B1, p1, q1, rfl, hN, hb1⟩ := hp.uni
    generalize ndOf r1 = n1 at hN HR1 ⊢
    generalize gOf r1 = g1 at HR1 ⊢
    generalize foOf r1 = fo1 at HR1 ⊢
    generalize (fOf r1).1 = fc1 at HR1 ⊢
    generalize (fOf r1).2 = fp1
    unfold pCells
    have P1 := Lib.hid (put_new w0 w1 #[.int .i64 n1.kind, .int .i64 n1.lo, .int .i64 n1.hi, .int .i64 n1.mode, .int .i64 n1.ref, .slice A1 n1.set.length p1, .slice B1 n1.kids.length q1, .int .i64 (g1 : Nat), .bool fo1] #[.int .i64 (fc1 : Nat), .int .i64 (fp1 : Nat)] hb1)
    have HN1 := Lib.hid (hN.on (put_on w1 #[.int .i64 n1.kind, .int .i64 n1.lo, .int .i64 n1.hi, .int .i64 n1.mode, .int .i64 n1.ref, .slice A1 n1.set.length p1, .slice B1 n1.kids.length q1, .int .i64 (g1 : Nat), .bool fo1] #[.int .i64 (fc1 : Nat), .int .i64 (fp1 : Nat)]))
    clear hN hp HP1
    go_upto_region 6 with (fail)
    generalize (w1.alloc (.cells #[.int .i64 n1.kind, .int .i64 n1.lo, .int .i64 n1.hi, .int .i64 n1.mode, .int .i64 n1.ref, .slice A1 n1.set.length p1, .slice B1 n1.kids.length q1, .int .i64 (g1 : Nat), .bool fo1] 29)).alloc (.cells #[.int .i64 (fc1 : Nat), .int .i64 (fp1 : Nat)] 32) = v1 at *
    have hbv1 := hb0.trans (P1.out.keep.mono hb0.size)
    have HT1 := Lib.hid (tabs_on HT.out hbv1 hbv1.size)
    go_wp2_with fail
    refine (HP2.out _ (tabs_on HT1.out (new_str v1 _) (new_str v1 _).size)).mono ?_
    intro e w2 hp
    obtain ⟨A2, B2, p2, q2, rfl, hN, hb2⟩ := hp.uni
    generalize ndOf r2 = n2 at hN HR2 ⊢
    generalize gOf r2 = g2 at HR2 ⊢
    generalize foOf r2 = fo2 at HR2 ⊢
    generalize (fOf r2).1 = fc2 at HR2 ⊢
    generalize (fOf r2).2 = fp2
    unfold pCells
    have P2 := Lib.hid (put_new v1 w2 #[.int .i64 n2.kind, .int .i64 n2.lo, .int .i64 n2.hi, .int .i64 n2.mode, .int .i64 n2.ref, .slice A2 n2.set.length p2, .slice B2 n2.kids.length q2, .int .i64 (g2 : Nat), .bool fo2] #[.int .i64 (fc2 : Nat), .int .i64 (fp2 : Nat)] ((new_str v1 _).trans (hb2.mono (new_str v1 _).size)))
    have HN2 := Lib.hid (hN.on (put_on w2 #[.int .i64 n2.kind, .int .i64 n2.lo, .int .i64 n2.hi, .int .i64 n2.mode, .int .i64 n2.ref, .slice A2 n2.set.length p2, .slice B2 n2.kids.length q2, .int .i64 (g2 : Nat), .bool fo2] #[.int .i64 (fc2 : Nat), .int .i64 (fp2 : Nat)]))
    clear hN hp HP2
    go_upto_region 7 with (fail)
    generalize (w2.alloc (.cells #[.int .i64 n2.kind, .int .i64 n2.lo, .int .i64 n2.hi, .int .i64 n2.mode, .int .i64 n2.ref, .slice A2 n2.set.length p2, .slice B2 n2.kids.length q2, .int .i64 (g2 : Nat), .bool fo2] 29)).alloc (.cells #[.int .i64 (fc2 : Nat), .int .i64 (fp2 : Nat)] 32) = v2 at *
    have hbv2 := hbv1.trans (P2.out.keep.mono hbv1.size)
    have hf1 := (P1.out.flt.on P2.out.keep).cell 0
    have hf2 := P2.out.flt.cell 0
    have hc1 := (P1.out.node.on P2.out.keep).nine
    simp at hf1 hf2
    by_cases h1 : ¬ fc1 = 0
    · have h1' := off_zero h1
      go_wp2
      go_ret
      exact ⟨rfl, hbv2⟩
    obtain rfl : fc1 = 0 := by omega
    simp only [Int.cast_ofNat_Int] at hf1
    by_cases h2 : ¬ fc2 = 0
    · have h2' := off_zero h2
      go_wp2
      go_ret
      exact ⟨rfl, hbv2⟩
    obtain rfl : fc2 = 0 := by omega
    simp only [Int.cast_ofNat_Int] at hf2
    by_cases h3 : fo1 = true
    · subst h3
      go_wp2
      go_ret
      exact ⟨rfl, hbv2⟩
    obtain rfl : fo1 = false := by simpa using h3
    have HW := Lib.hid (parse_wf (HR1.out rfl))
    have HW2 := Lib.hid (parse_wf (HR2.out rfl))
    have HCk1 := Lib.hid (fun W (hW : Below v2.heap.size v2 W) => check_any n1 HW.out g1 false W A1 B1 p1 q1 ((HN1.out.on P2.out.keep).on hW))
    by_cases hv : ¬ verdictN n1 = 0
    · have hv' := off_zero hv
      generalize verdictN n1 = vv at *
      go_wp2_with fail
      refine (HCk1.out v2 (Below.refl _ _)).mono ?_
      rintro e w3 ⟨rfl, hb3⟩
      have hbv3 := hbv2.trans (hb3.mono hbv2.size)
      go_wp2
      go_ret
      exact ⟨rfl, hbv3⟩
    have hv0 : verdictN n1 = 0 := by omega
    have HV0 := Lib.hid (verdict_zero hv0)
    rw [hv0] at HCk1
    simp only [Int.cast_ofNat_Int] at HCk1
    clear hv hv0
    have HF : Hid (ndSize n2 = min (ndSize n1 + 2) 1048576 ∧ bounded n2 = (!(decide ((2 : Int) ≤ 1) && decide (most n1 < 0 ∨ 32 < most n1)) && bounded n1)) := Lib.hid (by
      obtain ⟨nd', hw, hl⟩ := one_in open_not (by simp) (HR1.out rfl) (by have : x.data.toList.length = x.size := rfl; omega) (HR2.out rfl)
      exact ⟨(free_look hw hl).2.2.1, (free_look hw hl).2.2.2⟩)
    have HWd1 := Lib.hid (fun W (hW : Below v2.heap.size v2 W) => width_any n1 HW.out W A1 B1 p1 q1 ((HN1.out.on P2.out.keep).on hW))
    have HCk2 := Lib.hid (fun W (hW : Below v2.heap.size v2 W) => check_any n2 HW2.out g2 fo2 W A2 B2 p2 q2 (HN2.out.on hW))
    have HSz1 := Lib.hid (fun W (hW : Below v2.heap.size v2 W) => size_any n1 HW.out W A1 B1 p1 q1 ((HN1.out.on P2.out.keep).on hW))
    have hl0 := (least_range HW.out).1
    have hl1 : least n1 ≤ 1048576 := (least_range HW.out).2
    have hm0 := (most_range HW.out).1
    have hm1 : most n1 ≤ 1048576 := (most_range HW.out).2
    have hs0 := (ndSize_range HW.out).1
    have hs1 : ndSize n1 ≤ 1048576 := (ndSize_range HW.out).2
    have HB1 := Lib.hid (P1.out.node.on P2.out.keep)
    have HB2 := Lib.hid P2.out.node
    have HVs := Lib.hid (verdict_look (z := ndSize n1) HV0.out.2 HF.out.1)
    have HVb := Lib.hid (show bounded n2 = false → verdictN n2 = 27 from verdict_bad)
    have HFb := Lib.hid HF.out.2
    rw [HV0.out.1] at HFb
    clear HF HV0 P1 P2 HN1 HN2 HR1 HR2 HW HW2
    generalize least n1 = l at *
    generalize most n1 = m at *
    generalize ndSize n1 = z at *
    go_wp2_with fail
    refine (HCk1.out v2 (Below.refl _ _)).mono ?_
    rintro e w3 ⟨rfl, hb3⟩
    have hbv3 := hbv2.trans (hb3.mono hbv2.size)
    clear hc1 hf1 hf2
    have hc1 := (HB1.out.on hb3).nine
    go_wp2_with fail
    refine (HWd1.out w3 hb3).mono ?_
    rintro e w4 ⟨rfl, hb4⟩
    have k4 := hb3.trans (hb4.mono hb3.size)
    have hbv4 := hbv3.trans (hb4.mono hbv3.size)
    clear hc1
    have hc2 := (HB2.out.on k4).nine
    have hbd : bounded n2 = true := by rw [HFb.out]; simp
    have hvv := HVs.out hbd
    rw [hvv] at HCk2
    clear hvv hbd HFb HVs HVb
    by_cases hz : 1995 < z
    · rw [if_pos hz] at HCk2
      simp only [Int.cast_ofNat_Int] at HCk2
      go_wp2_with fail
      refine (HCk2.out w4 k4).mono ?_
      rintro e w5 ⟨rfl, hb5⟩
      have k5 := k4.trans (hb5.mono k4.size)
      have hbv5 := hbv4.trans (hb5.mono hbv4.size)
      clear hc2
      have hc1 := (HB1.out.on k5).nine
      go_wp2_with fail
      refine (HSz1.out w5 k5).mono ?_
      rintro e w6 ⟨rfl, hb6⟩
      have hbv6 := hbv5.trans (hb6.mono hbv5.size)
      clear hc1
      go_wp2
      go_ret
      exact ⟨rfl, hbv6⟩
    · rw [if_neg hz] at HCk2
      simp only [Int.cast_ofNat_Int] at HCk2
      go_wp2_with fail
      refine (HCk2.out w4 k4).mono ?_
      rintro e w5 ⟨rfl, hb5⟩
      have hbv5 := hbv4.trans (hb5.mono hbv4.size)
      clear hc2
      go_wp2
      go_ret
      exact ⟨rfl, hbv5⟩
  · have HP2 : Hid (∀ W : World, TabsAt W.heap.size W → Calls Tryd.prog 10 #[.string ((⟨#[40, 63, 60, 61]⟩ : ByteArray) ++ x ++ (⟨#[41]⟩ : ByteArray))] W (ParsePost W (parse 1030 ([40, 63, 60, 61] ++ (x.data.toList ++ [41]))))) := Lib.hid (fun W hW => by
      rw [put_eq4]
      exact parse_any 1030 (by omega) (by have : x.data.toList.length = x.size := rfl; simp; omega) hW)
    obtain ⟨r2, hr2⟩ : ∃ r, r = parse 1030 ([40, 63, 60, 61] ++ (x.data.toList ++ [41])) := ⟨_, rfl⟩
    rw [← hr2] at HP2
    have HR2 := Lib.hid (ok_of (by omega) hr2)
    clear hr2
    go_enter Tryd.func5, Tryd.ntmps5
    go_wp2_with fail
    refine HA.out.mono ?_
    rintro e w0 ⟨rfl, hb0⟩
    have HT0 := Lib.hid (tabs_on HT.out hb0 hb0.size)
    go_wp2_with fail
    refine (HP1.out _ HT0.out).mono ?_
    intro e w1 hp
    obtain ⟨A1, B1, p1, q1, rfl, hN, hb1⟩ := hp.uni
    generalize ndOf r1 = n1 at hN HR1 ⊢
    generalize gOf r1 = g1 at HR1 ⊢
    generalize foOf r1 = fo1 at HR1 ⊢
    generalize (fOf r1).1 = fc1 at HR1 ⊢
    generalize (fOf r1).2 = fp1
    unfold pCells
    have P1 := Lib.hid (put_new w0 w1 #[.int .i64 n1.kind, .int .i64 n1.lo, .int .i64 n1.hi, .int .i64 n1.mode, .int .i64 n1.ref, .slice A1 n1.set.length p1, .slice B1 n1.kids.length q1, .int .i64 (g1 : Nat), .bool fo1] #[.int .i64 (fc1 : Nat), .int .i64 (fp1 : Nat)] hb1)
    have HN1 := Lib.hid (hN.on (put_on w1 #[.int .i64 n1.kind, .int .i64 n1.lo, .int .i64 n1.hi, .int .i64 n1.mode, .int .i64 n1.ref, .slice A1 n1.set.length p1, .slice B1 n1.kids.length q1, .int .i64 (g1 : Nat), .bool fo1] #[.int .i64 (fc1 : Nat), .int .i64 (fp1 : Nat)]))
    clear hN hp HP1
    go_upto_region 6 with (fail)
    generalize (w1.alloc (.cells #[.int .i64 n1.kind, .int .i64 n1.lo, .int .i64 n1.hi, .int .i64 n1.mode, .int .i64 n1.ref, .slice A1 n1.set.length p1, .slice B1 n1.kids.length q1, .int .i64 (g1 : Nat), .bool fo1] 29)).alloc (.cells #[.int .i64 (fc1 : Nat), .int .i64 (fp1 : Nat)] 32) = v1 at *
    have hbv1 := hb0.trans (P1.out.keep.mono hb0.size)
    have HT1 := Lib.hid (tabs_on HT.out hbv1 hbv1.size)
    go_wp2_with fail
    refine (HP2.out _ (tabs_on HT1.out (new_str v1 _) (new_str v1 _).size)).mono ?_
    intro e w2 hp
    obtain ⟨A2, B2, p2, q2, rfl, hN, hb2⟩ := hp.uni
    generalize ndOf r2 = n2 at hN HR2 ⊢
    generalize gOf r2 = g2 at HR2 ⊢
    generalize foOf r2 = fo2 at HR2 ⊢
    generalize (fOf r2).1 = fc2 at HR2 ⊢
    generalize (fOf r2).2 = fp2
    unfold pCells
    have P2 := Lib.hid (put_new v1 w2 #[.int .i64 n2.kind, .int .i64 n2.lo, .int .i64 n2.hi, .int .i64 n2.mode, .int .i64 n2.ref, .slice A2 n2.set.length p2, .slice B2 n2.kids.length q2, .int .i64 (g2 : Nat), .bool fo2] #[.int .i64 (fc2 : Nat), .int .i64 (fp2 : Nat)] ((new_str v1 _).trans (hb2.mono (new_str v1 _).size)))
    have HN2 := Lib.hid (hN.on (put_on w2 #[.int .i64 n2.kind, .int .i64 n2.lo, .int .i64 n2.hi, .int .i64 n2.mode, .int .i64 n2.ref, .slice A2 n2.set.length p2, .slice B2 n2.kids.length q2, .int .i64 (g2 : Nat), .bool fo2] #[.int .i64 (fc2 : Nat), .int .i64 (fp2 : Nat)]))
    clear hN hp HP2
    go_upto_region 7 with (fail)
    generalize (w2.alloc (.cells #[.int .i64 n2.kind, .int .i64 n2.lo, .int .i64 n2.hi, .int .i64 n2.mode, .int .i64 n2.ref, .slice A2 n2.set.length p2, .slice B2 n2.kids.length q2, .int .i64 (g2 : Nat), .bool fo2] 29)).alloc (.cells #[.int .i64 (fc2 : Nat), .int .i64 (fp2 : Nat)] 32) = v2 at *
    have hbv2 := hbv1.trans (P2.out.keep.mono hbv1.size)
    have hf1 := (P1.out.flt.on P2.out.keep).cell 0
    have hf2 := P2.out.flt.cell 0
    have hc1 := (P1.out.node.on P2.out.keep).nine
    simp at hf1 hf2
    by_cases h1 : ¬ fc1 = 0
    · have h1' := off_zero h1
      go_wp2
      go_ret
      exact ⟨rfl, hbv2⟩
    obtain rfl : fc1 = 0 := by omega
    simp only [Int.cast_ofNat_Int] at hf1
    by_cases h2 : ¬ fc2 = 0
    · have h2' := off_zero h2
      go_wp2
      go_ret
      exact ⟨rfl, hbv2⟩
    obtain rfl : fc2 = 0 := by omega
    simp only [Int.cast_ofNat_Int] at hf2
    by_cases h3 : fo1 = true
    · subst h3
      go_wp2
      go_ret
      exact ⟨rfl, hbv2⟩
    obtain rfl : fo1 = false := by simpa using h3
    have HW := Lib.hid (parse_wf (HR1.out rfl))
    have HW2 := Lib.hid (parse_wf (HR2.out rfl))
    have HCk1 := Lib.hid (fun W (hW : Below v2.heap.size v2 W) => check_any n1 HW.out g1 false W A1 B1 p1 q1 ((HN1.out.on P2.out.keep).on hW))
    by_cases hv : ¬ verdictN n1 = 0
    · have hv' := off_zero hv
      generalize verdictN n1 = vv at *
      go_wp2_with fail
      refine (HCk1.out v2 (Below.refl _ _)).mono ?_
      rintro e w3 ⟨rfl, hb3⟩
      have hbv3 := hbv2.trans (hb3.mono hbv2.size)
      go_wp2
      go_ret
      exact ⟨rfl, hbv3⟩
    have hv0 : verdictN n1 = 0 := by omega
    have HV0 := Lib.hid (verdict_zero hv0)
    rw [hv0] at HCk1
    simp only [Int.cast_ofNat_Int] at HCk1
    clear hv hv0
    have HF : Hid (ndSize n2 = min (ndSize n1 + 2) 1048576 ∧ bounded n2 = (!(decide ((2 : Int) ≤ 2) && decide (most n1 < 0 ∨ 32 < most n1)) && bounded n1)) := Lib.hid (by
      obtain ⟨nd', hw, hl⟩ := one_in open_behind (by simp) (HR1.out rfl) (by have : x.data.toList.length = x.size := rfl; omega) (HR2.out rfl)
      exact ⟨(free_look hw hl).2.2.1, (free_look hw hl).2.2.2⟩)
    have HWd1 := Lib.hid (fun W (hW : Below v2.heap.size v2 W) => width_any n1 HW.out W A1 B1 p1 q1 ((HN1.out.on P2.out.keep).on hW))
    have HCk2 := Lib.hid (fun W (hW : Below v2.heap.size v2 W) => check_any n2 HW2.out g2 fo2 W A2 B2 p2 q2 (HN2.out.on hW))
    have HSz1 := Lib.hid (fun W (hW : Below v2.heap.size v2 W) => size_any n1 HW.out W A1 B1 p1 q1 ((HN1.out.on P2.out.keep).on hW))
    have hl0 := (least_range HW.out).1
    have hl1 : least n1 ≤ 1048576 := (least_range HW.out).2
    have hm0 := (most_range HW.out).1
    have hm1 : most n1 ≤ 1048576 := (most_range HW.out).2
    have hs0 := (ndSize_range HW.out).1
    have hs1 : ndSize n1 ≤ 1048576 := (ndSize_range HW.out).2
    have HB1 := Lib.hid (P1.out.node.on P2.out.keep)
    have HB2 := Lib.hid P2.out.node
    have HVs := Lib.hid (verdict_look (z := ndSize n1) HV0.out.2 HF.out.1)
    have HVb := Lib.hid (show bounded n2 = false → verdictN n2 = 27 from verdict_bad)
    have HFb := Lib.hid HF.out.2
    rw [HV0.out.1] at HFb
    clear HF HV0 P1 P2 HN1 HN2 HR1 HR2 HW HW2
    generalize least n1 = l at *
    generalize most n1 = m at *
    generalize ndSize n1 = z at *
    go_wp2_with fail
    refine (HCk1.out v2 (Below.refl _ _)).mono ?_
    rintro e w3 ⟨rfl, hb3⟩
    have hbv3 := hbv2.trans (hb3.mono hbv2.size)
    clear hc1 hf1 hf2
    have hc1 := (HB1.out.on hb3).nine
    go_wp2_with fail
    refine (HWd1.out w3 hb3).mono ?_
    rintro e w4 ⟨rfl, hb4⟩
    have k4 := hb3.trans (hb4.mono hb3.size)
    have hbv4 := hbv3.trans (hb4.mono hbv3.size)
    clear hc1
    have hc2 := (HB2.out.on k4).nine
    by_cases hneg : m < 0
    · have hbd : bounded n2 = false := by rw [HFb.out]; simp; omega
      have hvv := HVb.out hbd
      rw [hvv] at HCk2
      simp only [Int.cast_ofNat_Int] at HCk2
      clear hvv hbd HFb HVs HVb
      go_wp2_with fail
      refine (HCk2.out w4 k4).mono ?_
      rintro e w5 ⟨rfl, hb5⟩
      have hbv5 := hbv4.trans (hb5.mono hbv4.size)
      clear hc2
      go_wp2
      go_ret
      exact ⟨rfl, hbv5⟩
    by_cases hbig : 32 < m
    · have hbd : bounded n2 = false := by rw [HFb.out]; simp; omega
      have hvv := HVb.out hbd
      rw [hvv] at HCk2
      simp only [Int.cast_ofNat_Int] at HCk2
      clear hvv hbd HFb HVs HVb
      go_wp2_with fail
      refine (HCk2.out w4 k4).mono ?_
      rintro e w5 ⟨rfl, hb5⟩
      have hbv5 := hbv4.trans (hb5.mono hbv4.size)
      clear hc2
      go_wp2
      go_ret
      exact ⟨rfl, hbv5⟩
    have hbd : bounded n2 = true := by rw [HFb.out]; simp; omega
    have hvv := HVs.out hbd
    rw [hvv] at HCk2
    clear hvv hbd HFb HVs HVb
    by_cases hz : 1995 < z
    · rw [if_pos hz] at HCk2
      simp only [Int.cast_ofNat_Int] at HCk2
      go_wp2_with fail
      refine (HCk2.out w4 k4).mono ?_
      rintro e w5 ⟨rfl, hb5⟩
      have k5 := k4.trans (hb5.mono k4.size)
      have hbv5 := hbv4.trans (hb5.mono hbv4.size)
      clear hc2
      have hc1 := (HB1.out.on k5).nine
      go_wp2_with fail
      refine (HSz1.out w5 k5).mono ?_
      rintro e w6 ⟨rfl, hb6⟩
      have hbv6 := hbv5.trans (hb6.mono hbv5.size)
      clear hc1
      go_wp2
      go_ret
      exact ⟨rfl, hbv6⟩
    · rw [if_neg hz] at HCk2
      simp only [Int.cast_ofNat_Int] at HCk2
      go_wp2_with fail
      refine (HCk2.out w4 k4).mono ?_
      rintro e w5 ⟨rfl, hb5⟩
      have hbv5 := hbv4.trans (hb5.mono hbv4.size)
      clear hc2
      go_wp2
      go_ret
      exact ⟨rfl, hbv5⟩
  · have HP2 : Hid (∀ W : World, TabsAt W.heap.size W → Calls Tryd.prog 10 #[.string ((⟨#[40, 63, 60, 33]⟩ : ByteArray) ++ x ++ (⟨#[41]⟩ : ByteArray))] W (ParsePost W (parse 1030 ([40, 63, 60, 33] ++ (x.data.toList ++ [41]))))) := Lib.hid (fun W hW => by
      rw [put_eq4]
      exact parse_any 1030 (by omega) (by have : x.data.toList.length = x.size := rfl; simp; omega) hW)
    obtain ⟨r2, hr2⟩ : ∃ r, r = parse 1030 ([40, 63, 60, 33] ++ (x.data.toList ++ [41])) := ⟨_, rfl⟩
    rw [← hr2] at HP2
    have HR2 := Lib.hid (ok_of (by omega) hr2)
    clear hr2
    go_enter Tryd.func5, Tryd.ntmps5
    go_wp2_with fail
    refine HA.out.mono ?_
    rintro e w0 ⟨rfl, hb0⟩
    have HT0 := Lib.hid (tabs_on HT.out hb0 hb0.size)
    go_wp2_with fail
    refine (HP1.out _ HT0.out).mono ?_
    intro e w1 hp
    obtain ⟨A1, B1, p1, q1, rfl, hN, hb1⟩ := hp.uni
    generalize ndOf r1 = n1 at hN HR1 ⊢
    generalize gOf r1 = g1 at HR1 ⊢
    generalize foOf r1 = fo1 at HR1 ⊢
    generalize (fOf r1).1 = fc1 at HR1 ⊢
    generalize (fOf r1).2 = fp1
    unfold pCells
    have P1 := Lib.hid (put_new w0 w1 #[.int .i64 n1.kind, .int .i64 n1.lo, .int .i64 n1.hi, .int .i64 n1.mode, .int .i64 n1.ref, .slice A1 n1.set.length p1, .slice B1 n1.kids.length q1, .int .i64 (g1 : Nat), .bool fo1] #[.int .i64 (fc1 : Nat), .int .i64 (fp1 : Nat)] hb1)
    have HN1 := Lib.hid (hN.on (put_on w1 #[.int .i64 n1.kind, .int .i64 n1.lo, .int .i64 n1.hi, .int .i64 n1.mode, .int .i64 n1.ref, .slice A1 n1.set.length p1, .slice B1 n1.kids.length q1, .int .i64 (g1 : Nat), .bool fo1] #[.int .i64 (fc1 : Nat), .int .i64 (fp1 : Nat)]))
    clear hN hp HP1
    go_upto_region 6 with (fail)
    generalize (w1.alloc (.cells #[.int .i64 n1.kind, .int .i64 n1.lo, .int .i64 n1.hi, .int .i64 n1.mode, .int .i64 n1.ref, .slice A1 n1.set.length p1, .slice B1 n1.kids.length q1, .int .i64 (g1 : Nat), .bool fo1] 29)).alloc (.cells #[.int .i64 (fc1 : Nat), .int .i64 (fp1 : Nat)] 32) = v1 at *
    have hbv1 := hb0.trans (P1.out.keep.mono hb0.size)
    have HT1 := Lib.hid (tabs_on HT.out hbv1 hbv1.size)
    go_wp2_with fail
    refine (HP2.out _ (tabs_on HT1.out (new_str v1 _) (new_str v1 _).size)).mono ?_
    intro e w2 hp
    obtain ⟨A2, B2, p2, q2, rfl, hN, hb2⟩ := hp.uni
    generalize ndOf r2 = n2 at hN HR2 ⊢
    generalize gOf r2 = g2 at HR2 ⊢
    generalize foOf r2 = fo2 at HR2 ⊢
    generalize (fOf r2).1 = fc2 at HR2 ⊢
    generalize (fOf r2).2 = fp2
    unfold pCells
    have P2 := Lib.hid (put_new v1 w2 #[.int .i64 n2.kind, .int .i64 n2.lo, .int .i64 n2.hi, .int .i64 n2.mode, .int .i64 n2.ref, .slice A2 n2.set.length p2, .slice B2 n2.kids.length q2, .int .i64 (g2 : Nat), .bool fo2] #[.int .i64 (fc2 : Nat), .int .i64 (fp2 : Nat)] ((new_str v1 _).trans (hb2.mono (new_str v1 _).size)))
    have HN2 := Lib.hid (hN.on (put_on w2 #[.int .i64 n2.kind, .int .i64 n2.lo, .int .i64 n2.hi, .int .i64 n2.mode, .int .i64 n2.ref, .slice A2 n2.set.length p2, .slice B2 n2.kids.length q2, .int .i64 (g2 : Nat), .bool fo2] #[.int .i64 (fc2 : Nat), .int .i64 (fp2 : Nat)]))
    clear hN hp HP2
    go_upto_region 7 with (fail)
    generalize (w2.alloc (.cells #[.int .i64 n2.kind, .int .i64 n2.lo, .int .i64 n2.hi, .int .i64 n2.mode, .int .i64 n2.ref, .slice A2 n2.set.length p2, .slice B2 n2.kids.length q2, .int .i64 (g2 : Nat), .bool fo2] 29)).alloc (.cells #[.int .i64 (fc2 : Nat), .int .i64 (fp2 : Nat)] 32) = v2 at *
    have hbv2 := hbv1.trans (P2.out.keep.mono hbv1.size)
    have hf1 := (P1.out.flt.on P2.out.keep).cell 0
    have hf2 := P2.out.flt.cell 0
    have hc1 := (P1.out.node.on P2.out.keep).nine
    simp at hf1 hf2
    by_cases h1 : ¬ fc1 = 0
    · have h1' := off_zero h1
      go_wp2
      go_ret
      exact ⟨rfl, hbv2⟩
    obtain rfl : fc1 = 0 := by omega
    simp only [Int.cast_ofNat_Int] at hf1
    by_cases h2 : ¬ fc2 = 0
    · have h2' := off_zero h2
      go_wp2
      go_ret
      exact ⟨rfl, hbv2⟩
    obtain rfl : fc2 = 0 := by omega
    simp only [Int.cast_ofNat_Int] at hf2
    by_cases h3 : fo1 = true
    · subst h3
      go_wp2
      go_ret
      exact ⟨rfl, hbv2⟩
    obtain rfl : fo1 = false := by simpa using h3
    have HW := Lib.hid (parse_wf (HR1.out rfl))
    have HW2 := Lib.hid (parse_wf (HR2.out rfl))
    have HCk1 := Lib.hid (fun W (hW : Below v2.heap.size v2 W) => check_any n1 HW.out g1 false W A1 B1 p1 q1 ((HN1.out.on P2.out.keep).on hW))
    by_cases hv : ¬ verdictN n1 = 0
    · have hv' := off_zero hv
      generalize verdictN n1 = vv at *
      go_wp2_with fail
      refine (HCk1.out v2 (Below.refl _ _)).mono ?_
      rintro e w3 ⟨rfl, hb3⟩
      have hbv3 := hbv2.trans (hb3.mono hbv2.size)
      go_wp2
      go_ret
      exact ⟨rfl, hbv3⟩
    have hv0 : verdictN n1 = 0 := by omega
    have HV0 := Lib.hid (verdict_zero hv0)
    rw [hv0] at HCk1
    simp only [Int.cast_ofNat_Int] at HCk1
    clear hv hv0
    have HF : Hid (ndSize n2 = min (ndSize n1 + 2) 1048576 ∧ bounded n2 = (!(decide ((2 : Int) ≤ 3) && decide (most n1 < 0 ∨ 32 < most n1)) && bounded n1)) := Lib.hid (by
      obtain ⟨nd', hw, hl⟩ := one_in open_notBehind (by simp) (HR1.out rfl) (by have : x.data.toList.length = x.size := rfl; omega) (HR2.out rfl)
      exact ⟨(free_look hw hl).2.2.1, (free_look hw hl).2.2.2⟩)
    have HWd1 := Lib.hid (fun W (hW : Below v2.heap.size v2 W) => width_any n1 HW.out W A1 B1 p1 q1 ((HN1.out.on P2.out.keep).on hW))
    have HCk2 := Lib.hid (fun W (hW : Below v2.heap.size v2 W) => check_any n2 HW2.out g2 fo2 W A2 B2 p2 q2 (HN2.out.on hW))
    have HSz1 := Lib.hid (fun W (hW : Below v2.heap.size v2 W) => size_any n1 HW.out W A1 B1 p1 q1 ((HN1.out.on P2.out.keep).on hW))
    have hl0 := (least_range HW.out).1
    have hl1 : least n1 ≤ 1048576 := (least_range HW.out).2
    have hm0 := (most_range HW.out).1
    have hm1 : most n1 ≤ 1048576 := (most_range HW.out).2
    have hs0 := (ndSize_range HW.out).1
    have hs1 : ndSize n1 ≤ 1048576 := (ndSize_range HW.out).2
    have HB1 := Lib.hid (P1.out.node.on P2.out.keep)
    have HB2 := Lib.hid P2.out.node
    have HVs := Lib.hid (verdict_look (z := ndSize n1) HV0.out.2 HF.out.1)
    have HVb := Lib.hid (show bounded n2 = false → verdictN n2 = 27 from verdict_bad)
    have HFb := Lib.hid HF.out.2
    rw [HV0.out.1] at HFb
    clear HF HV0 P1 P2 HN1 HN2 HR1 HR2 HW HW2
    generalize least n1 = l at *
    generalize most n1 = m at *
    generalize ndSize n1 = z at *
    go_wp2_with fail
    refine (HCk1.out v2 (Below.refl _ _)).mono ?_
    rintro e w3 ⟨rfl, hb3⟩
    have hbv3 := hbv2.trans (hb3.mono hbv2.size)
    clear hc1 hf1 hf2
    have hc1 := (HB1.out.on hb3).nine
    go_wp2_with fail
    refine (HWd1.out w3 hb3).mono ?_
    rintro e w4 ⟨rfl, hb4⟩
    have k4 := hb3.trans (hb4.mono hb3.size)
    have hbv4 := hbv3.trans (hb4.mono hbv3.size)
    clear hc1
    have hc2 := (HB2.out.on k4).nine
    by_cases hneg : m < 0
    · have hbd : bounded n2 = false := by rw [HFb.out]; simp; omega
      have hvv := HVb.out hbd
      rw [hvv] at HCk2
      simp only [Int.cast_ofNat_Int] at HCk2
      clear hvv hbd HFb HVs HVb
      go_wp2_with fail
      refine (HCk2.out w4 k4).mono ?_
      rintro e w5 ⟨rfl, hb5⟩
      have hbv5 := hbv4.trans (hb5.mono hbv4.size)
      clear hc2
      go_wp2
      go_ret
      exact ⟨rfl, hbv5⟩
    by_cases hbig : 32 < m
    · have hbd : bounded n2 = false := by rw [HFb.out]; simp; omega
      have hvv := HVb.out hbd
      rw [hvv] at HCk2
      simp only [Int.cast_ofNat_Int] at HCk2
      clear hvv hbd HFb HVs HVb
      go_wp2_with fail
      refine (HCk2.out w4 k4).mono ?_
      rintro e w5 ⟨rfl, hb5⟩
      have hbv5 := hbv4.trans (hb5.mono hbv4.size)
      clear hc2
      go_wp2
      go_ret
      exact ⟨rfl, hbv5⟩
    have hbd : bounded n2 = true := by rw [HFb.out]; simp; omega
    have hvv := HVs.out hbd
    rw [hvv] at HCk2
    clear hvv hbd HFb HVs HVb
    by_cases hz : 1995 < z
    · rw [if_pos hz] at HCk2
      simp only [Int.cast_ofNat_Int] at HCk2
      go_wp2_with fail
      refine (HCk2.out w4 k4).mono ?_
      rintro e w5 ⟨rfl, hb5⟩
      have k5 := k4.trans (hb5.mono k4.size)
      have hbv5 := hbv4.trans (hb5.mono hbv4.size)
      clear hc2
      have hc1 := (HB1.out.on k5).nine
      go_wp2_with fail
      refine (HSz1.out w5 k5).mono ?_
      rintro e w6 ⟨rfl, hb6⟩
      have hbv6 := hbv5.trans (hb6.mono hbv5.size)
      clear hc1
      go_wp2
      go_ret
      exact ⟨rfl, hbv6⟩
    · rw [if_neg hz] at HCk2
      simp only [Int.cast_ofNat_Int] at HCk2
      go_wp2_with fail
      refine (HCk2.out w4 k4).mono ?_
      rintro e w5 ⟨rfl, hb5⟩
      have hbv5 := hbv4.trans (hb5.mono hbv4.size)
      clear hc2
      go_wp2
      go_ret
      exact ⟨rfl, hbv5⟩

theorem shapeBehind_law (x : ByteArray) (i : Int) (w : World) (hT : TabsAt w.heap.size w) : Calls Tryd.prog 5 #[.string x, .int .i64 i] w fun e w' => e = .returned (.bool true) ∧ Below w.heap.size w w' := sbehind_law x i hT

end Go.Proofs.YthfhlkacnpdbiaaDoor
