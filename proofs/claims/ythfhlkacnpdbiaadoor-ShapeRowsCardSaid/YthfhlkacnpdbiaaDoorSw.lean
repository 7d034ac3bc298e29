/- ShapeRows' walk. -/
import Derived.Test.YthfhlkacnpdbiaaDoorSf
import Derived.Test.YthfhlkacnpdbiaaDoorMPf
import Derived.Test.YthfhlkacnpdbiaaDoorMModel
namespace Go.Proofs.YthfhlkacnpdbiaaDoor
open Go.RowKit
open Go.Proofs.YthfhlkacnpdbiaaDoor.Cl (Rg)
variable {w w' : World}

theorem srows_eq (x y : ByteArray) : (⟨#[40, 63, 58]⟩ : ByteArray) ++ x ++ (⟨#[41, 40, 63, 58]⟩ : ByteArray) ++ y ++ (⟨#[41]⟩ : ByteArray) = ⟨(40 :: 63 :: 58 :: (x.data.toList ++ 41 :: 40 :: 63 :: 58 :: (y.data.toList ++ [41]))).toArray⟩ := by
  apply ByteArray.ext
  simp [ByteArray.data_append]
set_option maxRecDepth 100000 in
set_option maxHeartbeats 2000000 in
theorem srows_law (x y : ByteArray) (hT : TabsAt w.heap.size w) : Calls Tryd.prog 4 #[.string x, .string y] w fun e w' => e = .returned (.bool true) ∧ Below w.heap.size w w' := by
  have HT := Lib.hid hT
  have HA := Lib.hid (anchor_any hT)
  clear hT
  by_cases hx : 100 < x.size
  · have hx' : (100 : Int) < (x.size : Int) := by omega
    go_enter Tryd.func4, Tryd.ntmps4
    go_wp2_with fail
    refine HA.out.mono ?_
    rintro e w1 ⟨rfl, hb1⟩
    go_wp2
    go_ret
    exact ⟨rfl, hb1⟩
  have hx' : ¬ (100 : Int) < (x.size : Int) := by omega
  by_cases hy : 100 < y.size
  · have hy' : (100 : Int) < (y.size : Int) := by omega
    go_enter Tryd.func4, Tryd.ntmps4
    go_wp2_with fail
    refine HA.out.mono ?_
    rintro e w1 ⟨rfl, hb1⟩
    go_wp2
    go_ret
    exact ⟨rfl, hb1⟩
  have hy' : ¬ (100 : Int) < (y.size : Int) := by omega
  have hxl : x.data.toList.length ≤ 100 := by have : x.data.toList.length = x.size := rfl; omega
  have hyl : y.data.toList.length ≤ 100 := by have : y.data.toList.length = y.size := rfl; omega
  have HP1 : Hid (∀ W : World, TabsAt W.heap.size W → Calls Tryd.prog 10 #[.string x] W (ParsePost W (parse 1027 x.data.toList))) := Lib.hid (fun W hW => parse_any (s := x.data.toList) 1027 (by omega) (by have : x.data.toList.length = x.size := rfl; omega) hW)
  obtain ⟨r1, hr1⟩ : ∃ r, r = parse 1027 x.data.toList := ⟨_, rfl⟩
  rw [← hr1] at HP1
  have HR1 := Lib.hid (ok_of (by omega) hr1)
  clear hr1
  have HP2 : Hid (∀ W : World, TabsAt W.heap.size W → Calls Tryd.prog 10 #[.string y] W (ParsePost W (parse 1026 y.data.toList))) := Lib.hid (fun W hW => parse_any (s := y.data.toList) 1026 (by omega) (by have : y.data.toList.length = y.size := rfl; omega) hW)
  obtain ⟨r2, hr2⟩ : ∃ r, r = parse 1026 y.data.toList := ⟨_, rfl⟩
  rw [← hr2] at HP2
  have HR2 := Lib.hid (ok_of (by omega) hr2)
  clear hr2
  have HP3 : Hid (∀ W : World, TabsAt W.heap.size W → Calls Tryd.prog 10 #[.string ((⟨#[40, 63, 58]⟩ : ByteArray) ++ x ++ (⟨#[41, 40, 63, 58]⟩ : ByteArray) ++ y ++ (⟨#[41]⟩ : ByteArray))] W (ParsePost W (parse 1031 (40 :: 63 :: 58 :: (x.data.toList ++ 41 :: 40 :: 63 :: 58 :: (y.data.toList ++ [41])))))) := Lib.hid (fun W hW => by
    rw [srows_eq]
    exact parse_any 1031 (by omega) (by simp; omega) hW)
  obtain ⟨r3, hr3⟩ : ∃ r, r = parse 1031 (40 :: 63 :: 58 :: (x.data.toList ++ 41 :: 40 :: 63 :: 58 :: (y.data.toList ++ [41]))) := ⟨_, rfl⟩
  rw [← hr3] at HP3
  have HR3 := Lib.hid (ok_of (by omega) hr3)
  clear hr3
  go_enter Tryd.func4, Tryd.ntmps4
  go_wp2_with fail
  refine HA.out.mono ?_
  rintro e w0 ⟨rfl, hb0⟩
  have HT0 := Lib.hid (tabs_on HT.out hb0 hb0.size)
  go_wp2_with fail
  refine (HP1.out _ HT0.out).mono ?_
  intro e w1 hp
  obtain ⟨A1, B1, p1, q1, rfl, hN, hb1⟩ := hp.uni
  generalize ndOf r1 = n1 at hN HR1 ⊢
  generalize gOf r1 = g1 at HR1 ⊢
  generalize foOf r1 = fo1 at HR1 ⊢
  generalize (fOf r1).1 = fc1 at HR1 ⊢
  generalize (fOf r1).2 = fp1
  unfold pCells
  have P1 := Lib.hid (put_new w0 w1 #[.int .i64 n1.kind, .int .i64 n1.lo, .int .i64 n1.hi, .int .i64 n1.mode, .int .i64 n1.ref, .slice A1 n1.set.length p1, .slice B1 n1.kids.length q1, .int .i64 (g1 : Nat), .bool fo1] #[.int .i64 (fc1 : Nat), .int .i64 (fp1 : Nat)] hb1)
  have HN1 := Lib.hid (hN.on (put_on w1 #[.int .i64 n1.kind, .int .i64 n1.lo, .int .i64 n1.hi, .int .i64 n1.mode, .int .i64 n1.ref, .slice A1 n1.set.length p1, .slice B1 n1.kids.length q1, .int .i64 (g1 : Nat), .bool fo1] #[.int .i64 (fc1 : Nat), .int .i64 (fp1 : Nat)]))
  clear hN hp HP1
  go_upto_region 6 with (fail)
  generalize (w1.alloc (.cells #[.int .i64 n1.kind, .int .i64 n1.lo, .int .i64 n1.hi, .int .i64 n1.mode, .int .i64 n1.ref, .slice A1 n1.set.length p1, .slice B1 n1.kids.length q1, .int .i64 (g1 : Nat), .bool fo1] 29)).alloc (.cells #[.int .i64 (fc1 : Nat), .int .i64 (fp1 : Nat)] 32) = v1 at *
  have hbv1 := hb0.trans (P1.out.keep.mono hb0.size)
  have HT1 := Lib.hid (tabs_on HT.out hbv1 hbv1.size)
  go_wp2_with fail
  refine (HP2.out _ HT1.out).mono ?_
  intro e w2 hp
  obtain ⟨A2, B2, p2, q2, rfl, hN, hb2⟩ := hp.uni
  generalize ndOf r2 = n2 at hN HR2 ⊢
  generalize gOf r2 = g2 at HR2 ⊢
  generalize foOf r2 = fo2 at HR2 ⊢
  generalize (fOf r2).1 = fc2 at HR2 ⊢
  generalize (fOf r2).2 = fp2
  unfold pCells
  have P2 := Lib.hid (put_new v1 w2 #[.int .i64 n2.kind, .int .i64 n2.lo, .int .i64 n2.hi, .int .i64 n2.mode, .int .i64 n2.ref, .slice A2 n2.set.length p2, .slice B2 n2.kids.length q2, .int .i64 (g2 : Nat), .bool fo2] #[.int .i64 (fc2 : Nat), .int .i64 (fp2 : Nat)] hb2)
  have HN2 := Lib.hid (hN.on (put_on w2 #[.int .i64 n2.kind, .int .i64 n2.lo, .int .i64 n2.hi, .int .i64 n2.mode, .int .i64 n2.ref, .slice A2 n2.set.length p2, .slice B2 n2.kids.length q2, .int .i64 (g2 : Nat), .bool fo2] #[.int .i64 (fc2 : Nat), .int .i64 (fp2 : Nat)]))
  clear hN hp HP2
  go_upto_region 7 with (fail)
  generalize (w2.alloc (.cells #[.int .i64 n2.kind, .int .i64 n2.lo, .int .i64 n2.hi, .int .i64 n2.mode, .int .i64 n2.ref, .slice A2 n2.set.length p2, .slice B2 n2.kids.length q2, .int .i64 (g2 : Nat), .bool fo2] 29)).alloc (.cells #[.int .i64 (fc2 : Nat), .int .i64 (fp2 : Nat)] 32) = v2 at *
  have hbv2 := hbv1.trans (P2.out.keep.mono hbv1.size)
  have HT2 := Lib.hid (tabs_on HT.out hbv2 hbv2.size)
  go_wp2_with fail
  refine (HP3.out _ HT2.out).mono ?_
  intro e w3 hp
  obtain ⟨A3, B3, p3, q3, rfl, hN, hb3⟩ := hp.uni
  generalize ndOf r3 = n3 at hN HR3 ⊢
  generalize gOf r3 = g3 at HR3 ⊢
  generalize foOf r3 = fo3 at HR3 ⊢
  generalize (fOf r3).1 = fc3 at HR3 ⊢
  generalize (fOf r3).2 = fp3
  unfold pCells
  have P3 := Lib.hid (put_new v2 w3 #[.int .i64 n3.kind, .int .i64 n3.lo, .int .i64 n3.hi, .int .i64 n3.mode, .int .i64 n3.ref, .slice A3 n3.set.length p3, .slice B3 n3.kids.length q3, .int .i64 (g3 : Nat), .bool fo3] #[.int .i64 (fc3 : Nat), .int .i64 (fp3 : Nat)] hb3)
  have HN3 := Lib.hid (hN.on (put_on w3 #[.int .i64 n3.kind, .int .i64 n3.lo, .int .i64 n3.hi, .int .i64 n3.mode, .int .i64 n3.ref, .slice A3 n3.set.length p3, .slice B3 n3.kids.length q3, .int .i64 (g3 : Nat), .bool fo3] #[.int .i64 (fc3 : Nat), .int .i64 (fp3 : Nat)]))
  clear hN hp HP3
  go_upto_region 8 with (fail)
  generalize (w3.alloc (.cells #[.int .i64 n3.kind, .int .i64 n3.lo, .int .i64 n3.hi, .int .i64 n3.mode, .int .i64 n3.ref, .slice A3 n3.set.length p3, .slice B3 n3.kids.length q3, .int .i64 (g3 : Nat), .bool fo3] 29)).alloc (.cells #[.int .i64 (fc3 : Nat), .int .i64 (fp3 : Nat)] 32) = v3 at *
  have hbv3 := hbv2.trans (P3.out.keep.mono hbv2.size)
  have k13 := P2.out.keep.trans (P3.out.keep.mono P2.out.keep.size)
  have hf1 := (P1.out.flt.on k13).cell 0
  have hf2 := (P2.out.flt.on P3.out.keep).cell 0
  have hf3 := P3.out.flt.cell 0
  have hc1 := (P1.out.node.on k13).nine
  have hc2 := (P2.out.node.on P3.out.keep).nine
  simp at hf1 hf2 hf3
  by_cases h1 : ¬ fc1 = 0
  · have h1' := off_zero h1
    go_wp2
    go_ret
    exact ⟨rfl, hbv3⟩
  obtain rfl : fc1 = 0 := by omega
  simp only [Int.cast_ofNat_Int] at hf1
  by_cases h2 : ¬ fc2 = 0
  · have h2' := off_zero h2
    go_wp2
    go_ret
    exact ⟨rfl, hbv3⟩
  obtain rfl : fc2 = 0 := by omega
  simp only [Int.cast_ofNat_Int] at hf2
  by_cases h3 : ¬ fc3 = 0
  · have h3' := off_zero h3
    go_wp2
    go_ret
    exact ⟨rfl, hbv3⟩
  obtain rfl : fc3 = 0 := by omega
  simp only [Int.cast_ofNat_Int] at hf3
  by_cases hf1o : fo1 = true
  · subst hf1o
    go_wp2
    go_ret
    exact ⟨rfl, hbv3⟩
  obtain rfl : fo1 = false := by simpa using hf1o
  by_cases hf2o : fo2 = true
  · subst hf2o
    go_wp2
    go_ret
    exact ⟨rfl, hbv3⟩
  obtain rfl : fo2 = false := by simpa using hf2o
  have HW1 := Lib.hid (parse_wf (HR1.out rfl))
  have HW2 := Lib.hid (parse_wf (HR2.out rfl))
  have HW3 := Lib.hid (parse_wf (HR3.out rfl))
  have HF := Lib.hid (show _ ∧ _ ∧ _ from by
    obtain ⟨x', y', he, h1, h2⟩ := cat_like (N := 1026) (HR1.out rfl) (HR2.out rfl) hxl hyl (HR3.out rfl)
    exact rows_facts he h1 h2)
  have hl01 := (least_range HW1.out).1
  have hl11 : least n1 ≤ 1048576 := (least_range HW1.out).2
  have hm01 := (most_range HW1.out).1
  have hm11 : most n1 ≤ 1048576 := (most_range HW1.out).2
  have hs01 := (ndSize_range HW1.out).1
  have hs11 : ndSize n1 ≤ 1048576 := (ndSize_range HW1.out).2
  have hl02 := (least_range HW2.out).1
  have hl12 : least n2 ≤ 1048576 := (least_range HW2.out).2
  have hm02 := (most_range HW2.out).1
  have hm12 : most n2 ≤ 1048576 := (most_range HW2.out).2
  have hs02 := (ndSize_range HW2.out).1
  have hs12 : ndSize n2 ≤ 1048576 := (ndSize_range HW2.out).2
  have hl03 := (least_range HW3.out).1
  have hl13 : least n3 ≤ 1048576 := (least_range HW3.out).2
  have hm03 := (most_range HW3.out).1
  have hm13 : most n3 ≤ 1048576 := (most_range HW3.out).2
  have hs03 := (ndSize_range HW3.out).1
  have hs13 : ndSize n3 ≤ 1048576 := (ndSize_range HW3.out).2
  have HB1 := Lib.hid (P1.out.node.on k13)
  have HB2 := Lib.hid (P2.out.node.on P3.out.keep)
  have HB3 := Lib.hid P3.out.node
  have HWd1 := Lib.hid (fun W (hW : Below v3.heap.size v3 W) => width_any n1 HW1.out W A1 B1 p1 q1 ((HN1.out.on k13).on hW))
  have HWd2 := Lib.hid (fun W (hW : Below v3.heap.size v3 W) => width_any n2 HW2.out W A2 B2 p2 q2 ((HN2.out.on P3.out.keep).on hW))
  have HWd3 := Lib.hid (fun W (hW : Below v3.heap.size v3 W) => width_any n3 HW3.out W A3 B3 p3 q3 (HN3.out.on hW))
  have HSz1 := Lib.hid (fun W (hW : Below v3.heap.size v3 W) => size_any n1 HW1.out W A1 B1 p1 q1 ((HN1.out.on k13).on hW))
  have HSz2 := Lib.hid (fun W (hW : Below v3.heap.size v3 W) => size_any n2 HW2.out W A2 B2 p2 q2 ((HN2.out.on P3.out.keep).on hW))
  have HSz3 := Lib.hid (fun W (hW : Below v3.heap.size v3 W) => size_any n3 HW3.out W A3 B3 p3 q3 (HN3.out.on hW))
  generalize least n1 = l1 at *
  generalize most n1 = m1 at *
  generalize ndSize n1 = z1 at *
  generalize least n2 = l2 at *
  generalize most n2 = m2 at *
  generalize ndSize n2 = z2 at *
  generalize least n3 = l3 at *
  generalize most n3 = m3 at *
  generalize ndSize n3 = z3 at *
  have HL3 := Lib.hid HF.out.1
  have HM3 := Lib.hid HF.out.2.1
  have HZ3 := Lib.hid HF.out.2.2
  clear HF P1 P2 P3 HN1 HN2 HN3 HR1 HR2 HR3 HW1 HW2 HW3 k13
  go_wp2_with fail
  refine (HWd1.out v3 (Below.refl _ _)).mono ?_
  rintro e w4 ⟨rfl, hb4⟩
  have hbv4 := hbv3.trans (hb4.mono hbv3.size)
  clear hc1 hc2 hf1 hf2 hf3
  have hc2 := (HB2.out.on hb4).nine
  go_wp2_with fail
  refine (HWd2.out w4 hb4).mono ?_
  rintro e w5 ⟨rfl, hb5⟩
  have k5 := hb4.trans (hb5.mono hb4.size)
  have hbv5 := hbv4.trans (hb5.mono hbv4.size)
  have hc3 := (HB3.out.on k5).nine
  clear hc2
  go_wp2_with fail
  refine (HWd3.out w5 k5).mono ?_
  rintro e w6 ⟨rfl, hb6⟩
  have k6 := k5.trans (hb6.mono k5.size)
  have hbv6 := hbv5.trans (hb6.mono hbv5.size)
  have HS6 : Hid (Blk w6 w1.heap.size 29 #[.int .i64 n1.kind, .int .i64 n1.lo, .int .i64 n1.hi, .int .i64 n1.mode, .int .i64 n1.ref, .slice A1 n1.set.length p1, .slice B1 n1.kids.length q1, .int .i64 (g1 : Nat), .bool false] ∧ Blk w6 w2.heap.size 29 #[.int .i64 n2.kind, .int .i64 n2.lo, .int .i64 n2.hi, .int .i64 n2.mode, .int .i64 n2.ref, .slice A2 n2.set.length p2, .slice B2 n2.kids.length q2, .int .i64 (g2 : Nat), .bool false] ∧ Blk w6 w3.heap.size 29 #[.int .i64 n3.kind, .int .i64 n3.lo, .int .i64 n3.hi, .int .i64 n3.mode, .int .i64 n3.ref, .slice A3 n3.set.length p3, .slice B3 n3.kids.length q3, .int .i64 (g3 : Nat), .bool fo3]) := Lib.hid ⟨HB1.out.on k6, HB2.out.on k6, HB3.out.on k6⟩
  clear hc3 HB1 HB2 HB3 hb4 hb5 hb6 hbv4 hbv5 HA
  by_cases c1 : m1 < 0
  · have c1' : ¬ 0 ≤ m1 := by omega
    obtain rfl : m3 = -1 := by have h := HM3.out; rw [if_pos (by omega)] at h; exact h
    clear HM3
    go_upto_region 16 with (fail)
    refine wp_region_held_drew (S := fun V => Blk V w1.heap.size 29 #[.int .i64 n1.kind, .int .i64 n1.lo, .int .i64 n1.hi, .int .i64 n1.mode, .int .i64 n1.ref, .slice A1 n1.set.length p1, .slice B1 n1.kids.length q1, .int .i64 (g1 : Nat), .bool false] ∧ Blk V w2.heap.size 29 #[.int .i64 n2.kind, .int .i64 n2.lo, .int .i64 n2.hi, .int .i64 n2.mode, .int .i64 n2.ref, .slice A2 n2.set.length p2, .slice B2 n2.kids.length q2, .int .i64 (g2 : Nat), .bool false] ∧ Blk V w3.heap.size 29 #[.int .i64 n3.kind, .int .i64 n3.lo, .int .i64 n3.hi, .int .i64 n3.mode, .int .i64 n3.ref, .slice A3 n3.set.length p3, .slice B3 n3.kids.length q3, .int .i64 (g3 : Nat), .bool fo3]) (by kernel_rfl) HS6.out (fun hHeld => ?_)
    have hd : Blk w6.drew w1.heap.size 29 #[.int .i64 n1.kind, .int .i64 n1.lo, .int .i64 n1.hi, .int .i64 n1.mode, .int .i64 n1.ref, .slice A1 n1.set.length p1, .slice B1 n1.kids.length q1, .int .i64 (g1 : Nat), .bool false] ∧ Blk w6.drew w2.heap.size 29 #[.int .i64 n2.kind, .int .i64 n2.lo, .int .i64 n2.hi, .int .i64 n2.mode, .int .i64 n2.ref, .slice A2 n2.set.length p2, .slice B2 n2.kids.length q2, .int .i64 (g2 : Nat), .bool false] ∧ Blk w6.drew w3.heap.size 29 #[.int .i64 n3.kind, .int .i64 n3.lo, .int .i64 n3.hi, .int .i64 n3.mode, .int .i64 n3.ref, .slice A3 n3.set.length p3, .slice B3 n3.kids.length q3, .int .i64 (g3 : Nat), .bool fo3] := HS6.out
    have hbd : Below w.heap.size w w6.drew := hbv6.drew
    have kd : Below v3.heap.size v3 w6.drew := k6.drew
    clear HS6 k6 hbv6
    generalize w6.drew = Wd at *
    refine take_d 0 102 (.int .i64 l3) _ rfl rfl (by kernel_rfl) (by kernel_rfl) (by kernel_rfl) (fun _ _ _ h => h) (Or.inl ⟨by rfl, fun w' hSw => ?_⟩) hHeld ?_
    · go_simp
    simp only [List.setIfInBounds_toArray, List.set_cons_zero, List.set_cons_succ]
    refine take_d 1 103 (.int .i64 l1) _ rfl rfl (by kernel_rfl) (by kernel_rfl) (by kernel_rfl) (fun _ _ _ h => h) (Or.inl ⟨by rfl, fun w' hSw => ?_⟩) hHeld ?_
    · go_simp
    simp only [List.setIfInBounds_toArray, List.set_cons_zero, List.set_cons_succ]
    refine take_d 2 104 (.int .i64 l2) _ rfl rfl (by kernel_rfl) (by kernel_rfl) (by kernel_rfl) (fun _ _ _ h => h) (Or.inl ⟨by rfl, fun w' hSw => ?_⟩) hHeld ?_
    · go_simp
    simp only [List.setIfInBounds_toArray, List.set_cons_zero, List.set_cons_succ]
    refine take_d 3 105 (.int .i64 (l1 + l2)) _ rfl rfl (by kernel_rfl) (by kernel_rfl) (by kernel_rfl) (fun _ _ _ h => h) (Or.inl ⟨by rfl, fun w' hSw => ?_⟩) hHeld ?_
    · go_simp
      all_goals exact IntWalk.i64_in _ (by omega)
    simp only [List.setIfInBounds_toArray, List.set_cons_zero, List.set_cons_succ]
    refine take_d 4 106 (.int .i64 l3) _ rfl rfl (by kernel_rfl) (by kernel_rfl) (by kernel_rfl) (fun _ _ _ h => h) (Or.inl ⟨by rfl, fun w' hSw => ?_⟩) hHeld ?_
    · go_simp
      rw [HL3.out]
    simp only [List.setIfInBounds_toArray, List.set_cons_zero, List.set_cons_succ]
    refine take_d 5 107 (.bool true) _ rfl rfl (by kernel_rfl) (by kernel_rfl) (by kernel_rfl) (fun _ _ _ h => h) (Or.inl ⟨by rfl, fun w' hSw => ?_⟩) hHeld ?_
    · go_simp
    simp only [List.setIfInBounds_toArray, List.set_cons_zero, List.set_cons_succ]
    refine take_d 6 108 (.bool true) _ rfl rfl (by kernel_rfl) (by kernel_rfl) (by kernel_rfl) (fun _ _ _ h => h) (Or.inl ⟨by rfl, fun w' hSw => ?_⟩) hHeld ?_
    · go_simp
    simp only [List.setIfInBounds_toArray, List.set_cons_zero, List.set_cons_succ]
    refine take_d 7 109 (.int .i64 (-1)) _ rfl rfl (by kernel_rfl) (by kernel_rfl) (by kernel_rfl) (fun _ _ _ h => h) (Or.inl ⟨by rfl, fun w' hSw => ?_⟩) hHeld ?_
    · go_simp
    simp only [List.setIfInBounds_toArray, List.set_cons_zero, List.set_cons_succ]
    refine take_d 8 110 (.int .i64 (-1)) _ rfl rfl (by kernel_rfl) (by kernel_rfl) (by kernel_rfl) (fun _ _ _ h => h) (Or.inl ⟨by rfl, fun w' hSw => ?_⟩) hHeld ?_
    · go_simp
    simp only [List.setIfInBounds_toArray, List.set_cons_zero, List.set_cons_succ]
    refine take_d 9 111 (.bool true) _ rfl rfl (by kernel_rfl) (by kernel_rfl) (by kernel_rfl) (fun _ _ _ h => h) (Or.inl ⟨by rfl, fun w' hSw => ?_⟩) hHeld ?_
    · go_simp
    simp only [List.setIfInBounds_toArray, List.set_cons_zero, List.set_cons_succ]
    refine take_d 10 112 (.bool true) _ rfl rfl (by kernel_rfl) (by kernel_rfl) (by kernel_rfl) (fun _ _ _ h => h) (Or.inl ⟨by rfl, fun w' hSw => ?_⟩) hHeld ?_
    · go_simp
    simp only [List.setIfInBounds_toArray, List.set_cons_zero, List.set_cons_succ]
    refine take_d 11 113 (.bool true) _ rfl rfl (by kernel_rfl) (by kernel_rfl) (by kernel_rfl) (fun _ _ _ h => h) (Or.inl ⟨by rfl, fun w' hSw => ?_⟩) hHeld ?_
    · go_simp
    simp only [List.setIfInBounds_toArray, List.set_cons_zero, List.set_cons_succ]
    refine take_d 12 114 (.pointer (some ⟨w3.heap.size, 0, none⟩)) _ rfl rfl (by kernel_rfl) (by kernel_rfl) (by kernel_rfl) (fun _ _ _ h => h) (Or.inl ⟨by rfl, fun w' hSw => ?_⟩) hHeld ?_
    · go_simp
    simp only [List.setIfInBounds_toArray, List.set_cons_zero, List.set_cons_succ]
    refine take_d 13 115 (.agg #[.int .i64 n3.kind, .int .i64 n3.lo, .int .i64 n3.hi, .int .i64 n3.mode, .int .i64 n3.ref, .slice A3 n3.set.length p3, .slice B3 n3.kids.length q3]) _ rfl rfl (by kernel_rfl) (by kernel_rfl) (by kernel_rfl) (fun _ _ _ h => h) (Or.inl ⟨by rfl, fun w' hSw => ?_⟩) hHeld ?_
    · have hS9 := hSw.2.2.nine
      clear hSw
      go_simp
    simp only [List.setIfInBounds_toArray, List.set_cons_zero, List.set_cons_succ]
    refine take_d 15 117 (.pointer (some ⟨w1.heap.size, 0, none⟩)) _ rfl rfl (by kernel_rfl) (by kernel_rfl) (by kernel_rfl) (fun _ _ _ h => h) (Or.inl ⟨by rfl, fun w' hSw => ?_⟩) hHeld ?_
    · go_simp
    simp only [List.setIfInBounds_toArray, List.set_cons_zero, List.set_cons_succ]
    refine take_d 16 118 (.agg #[.int .i64 n1.kind, .int .i64 n1.lo, .int .i64 n1.hi, .int .i64 n1.mode, .int .i64 n1.ref, .slice A1 n1.set.length p1, .slice B1 n1.kids.length q1]) _ rfl rfl (by kernel_rfl) (by kernel_rfl) (by kernel_rfl) (fun _ _ _ h => h) (Or.inl ⟨by rfl, fun w' hSw => ?_⟩) hHeld ?_
    · have hS9 := hSw.1.nine
      clear hSw
      go_simp
    simp only [List.setIfInBounds_toArray, List.set_cons_zero, List.set_cons_succ]
    refine take_d 18 120 (.pointer (some ⟨w2.heap.size, 0, none⟩)) _ rfl rfl (by kernel_rfl) (by kernel_rfl) (by kernel_rfl) (fun _ _ _ h => h) (Or.inl ⟨by rfl, fun w' hSw => ?_⟩) hHeld ?_
    · go_simp
    simp only [List.setIfInBounds_toArray, List.set_cons_zero, List.set_cons_succ]
    refine take_d 19 121 (.agg #[.int .i64 n2.kind, .int .i64 n2.lo, .int .i64 n2.hi, .int .i64 n2.mode, .int .i64 n2.ref, .slice A2 n2.set.length p2, .slice B2 n2.kids.length q2]) _ rfl rfl (by kernel_rfl) (by kernel_rfl) (by kernel_rfl) (fun _ _ _ h => h) (Or.inl ⟨by rfl, fun w' hSw => ?_⟩) hHeld ?_
    · have hS9 := hSw.2.1.nine
      clear hSw
      go_simp
    simp only [List.setIfInBounds_toArray, List.set_cons_zero, List.set_cons_succ]
    refine wpAnyH_ready (rs := [14]) (by kernel_rfl) (by simp) ?_
    refine AllReadyH.cons rfl (fun K hK => ?_) AllReadyH.nil
    go_simp
    refine (HSz3.out Wd kd).mono ?_
    rintro e w7 ⟨rfl, hb7⟩
    have kd7 := kd.trans (hb7.mono kd.size)
    have hbw7 := hbd.trans (hb7.mono hbd.size)
    refine hK.out _ _ ⟨(hd.1).on hb7, (hd.2.1).on hb7, (hd.2.2).on hb7⟩ (fun hHeld => ?_)
    clear hK K
    refine wpAnyH_ready (rs := [17]) (by kernel_rfl) (by simp) ?_
    refine AllReadyH.cons rfl (fun K hK => ?_) AllReadyH.nil
    go_simp
    refine (HSz1.out w7 kd7).mono ?_
    rintro e w8 ⟨rfl, hb8⟩
    have kd8 := kd7.trans (hb8.mono kd7.size)
    have hbw8 := hbw7.trans (hb8.mono hbw7.size)
    refine hK.out _ _ ⟨((hd.1).on hb7).on hb8, ((hd.2.1).on hb7).on hb8, ((hd.2.2).on hb7).on hb8⟩ (fun hHeld => ?_)
    clear hK K
    refine wpAnyH_ready (rs := [20]) (by kernel_rfl) (by simp) ?_
    refine AllReadyH.cons rfl (fun K hK => ?_) AllReadyH.nil
    go_simp
    refine (HSz2.out w8 kd8).mono ?_
    rintro e w9 ⟨rfl, hb9⟩
    have kd9 := kd8.trans (hb9.mono kd8.size)
    have hbw9 := hbw8.trans (hb9.mono hbw8.size)
    refine hK.out _ _ ⟨(((hd.1).on hb7).on hb8).on hb9, (((hd.2.1).on hb7).on hb8).on hb9, (((hd.2.2).on hb7).on hb8).on hb9⟩ (fun hHeld => ?_)
    clear hK K
    refine take_d 21 123 (.int .i64 (z1 + z2)) _ rfl rfl (by kernel_rfl) (by kernel_rfl) (by kernel_rfl) (fun _ _ _ h => h) (Or.inl ⟨by rfl, fun w' hSw => ?_⟩) hHeld ?_
    · go_simp
      all_goals exact IntWalk.i64_in _ (by omega)
    simp only [List.setIfInBounds_toArray, List.set_cons_zero, List.set_cons_succ]
    refine take_d 22 124 (.int .i64 z3) _ rfl rfl (by kernel_rfl) (by kernel_rfl) (by kernel_rfl) (fun _ _ _ h => h) (Or.inl ⟨by rfl, fun w' hSw => ?_⟩) hHeld ?_
    · go_simp
      rw [HZ3.out]
    simp only [List.setIfInBounds_toArray, List.set_cons_zero, List.set_cons_succ]
    refine take_d 23 125 (.bool true) _ rfl rfl (by kernel_rfl) (by kernel_rfl) (by kernel_rfl) (fun _ _ _ h => h) (Or.inl ⟨by rfl, fun w' hSw => ?_⟩) hHeld ?_
    · go_simp
    simp only [List.setIfInBounds_toArray, List.set_cons_zero, List.set_cons_succ]
    refine take_d 24 126 (.bool true) _ rfl rfl (by kernel_rfl) (by kernel_rfl) (by kernel_rfl) (fun _ _ _ h => h) (Or.inl ⟨by rfl, fun w' hSw => ?_⟩) hHeld ?_
    · go_simp
    simp only [List.setIfInBounds_toArray, List.set_cons_zero, List.set_cons_succ]
    refine take_d 25 4 (.bool true) _ rfl rfl (by kernel_rfl) (by kernel_rfl) (by kernel_rfl) (fun _ _ _ h => h) (Or.inl ⟨by rfl, fun w' hSw => ?_⟩) hHeld ?_
    · go_simp
    simp only [List.setIfInBounds_toArray, List.set_cons_zero, List.set_cons_succ]
    refine wpAnyH_done (by kernel_rfl) ?_ _
    clear hHeld
    go_wp2
    go_ret
    exact ⟨rfl, hbw9⟩
  have c1' : 0 ≤ m1 := by omega
  by_cases c2 : m2 < 0
  · have c2' : ¬ 0 ≤ m2 := by omega
    obtain rfl : m3 = -1 := by have h := HM3.out; rw [if_pos (by omega)] at h; exact h
    clear HM3
    go_upto_region 16 with (fail)
    refine wp_region_held_drew (S := fun V => Blk V w1.heap.size 29 #[.int .i64 n1.kind, .int .i64 n1.lo, .int .i64 n1.hi, .int .i64 n1.mode, .int .i64 n1.ref, .slice A1 n1.set.length p1, .slice B1 n1.kids.length q1, .int .i64 (g1 : Nat), .bool false] ∧ Blk V w2.heap.size 29 #[.int .i64 n2.kind, .int .i64 n2.lo, .int .i64 n2.hi, .int .i64 n2.mode, .int .i64 n2.ref, .slice A2 n2.set.length p2, .slice B2 n2.kids.length q2, .int .i64 (g2 : Nat), .bool false] ∧ Blk V w3.heap.size 29 #[.int .i64 n3.kind, .int .i64 n3.lo, .int .i64 n3.hi, .int .i64 n3.mode, .int .i64 n3.ref, .slice A3 n3.set.length p3, .slice B3 n3.kids.length q3, .int .i64 (g3 : Nat), .bool fo3]) (by kernel_rfl) HS6.out (fun hHeld => ?_)
    have hd : Blk w6.drew w1.heap.size 29 #[.int .i64 n1.kind, .int .i64 n1.lo, .int .i64 n1.hi, .int .i64 n1.mode, .int .i64 n1.ref, .slice A1 n1.set.length p1, .slice B1 n1.kids.length q1, .int .i64 (g1 : Nat), .bool false] ∧ Blk w6.drew w2.heap.size 29 #[.int .i64 n2.kind, .int .i64 n2.lo, .int .i64 n2.hi, .int .i64 n2.mode, .int .i64 n2.ref, .slice A2 n2.set.length p2, .slice B2 n2.kids.length q2, .int .i64 (g2 : Nat), .bool false] ∧ Blk w6.drew w3.heap.size 29 #[.int .i64 n3.kind, .int .i64 n3.lo, .int .i64 n3.hi, .int .i64 n3.mode, .int .i64 n3.ref, .slice A3 n3.set.length p3, .slice B3 n3.kids.length q3, .int .i64 (g3 : Nat), .bool fo3] := HS6.out
    have hbd : Below w.heap.size w w6.drew := hbv6.drew
    have kd : Below v3.heap.size v3 w6.drew := k6.drew
    clear HS6 k6 hbv6
    generalize w6.drew = Wd at *
    refine take_d 0 102 (.int .i64 l3) _ rfl rfl (by kernel_rfl) (by kernel_rfl) (by kernel_rfl) (fun _ _ _ h => h) (Or.inl ⟨by rfl, fun w' hSw => ?_⟩) hHeld ?_
    · go_simp
    simp only [List.setIfInBounds_toArray, List.set_cons_zero, List.set_cons_succ]
    refine take_d 1 103 (.int .i64 l1) _ rfl rfl (by kernel_rfl) (by kernel_rfl) (by kernel_rfl) (fun _ _ _ h => h) (Or.inl ⟨by rfl, fun w' hSw => ?_⟩) hHeld ?_
    · go_simp
    simp only [List.setIfInBounds_toArray, List.set_cons_zero, List.set_cons_succ]
    refine take_d 2 104 (.int .i64 l2) _ rfl rfl (by kernel_rfl) (by kernel_rfl) (by kernel_rfl) (fun _ _ _ h => h) (Or.inl ⟨by rfl, fun w' hSw => ?_⟩) hHeld ?_
    · go_simp
    simp only [List.setIfInBounds_toArray, List.set_cons_zero, List.set_cons_succ]
    refine take_d 3 105 (.int .i64 (l1 + l2)) _ rfl rfl (by kernel_rfl) (by kernel_rfl) (by kernel_rfl) (fun _ _ _ h => h) (Or.inl ⟨by rfl, fun w' hSw => ?_⟩) hHeld ?_
    · go_simp
      all_goals exact IntWalk.i64_in _ (by omega)
    simp only [List.setIfInBounds_toArray, List.set_cons_zero, List.set_cons_succ]
    refine take_d 4 106 (.int .i64 l3) _ rfl rfl (by kernel_rfl) (by kernel_rfl) (by kernel_rfl) (fun _ _ _ h => h) (Or.inl ⟨by rfl, fun w' hSw => ?_⟩) hHeld ?_
    · go_simp
      rw [HL3.out]
    simp only [List.setIfInBounds_toArray, List.set_cons_zero, List.set_cons_succ]
    refine take_d 5 107 (.bool true) _ rfl rfl (by kernel_rfl) (by kernel_rfl) (by kernel_rfl) (fun _ _ _ h => h) (Or.inl ⟨by rfl, fun w' hSw => ?_⟩) hHeld ?_
    · go_simp
    simp only [List.setIfInBounds_toArray, List.set_cons_zero, List.set_cons_succ]
    refine take_d 6 108 (.bool true) _ rfl rfl (by kernel_rfl) (by kernel_rfl) (by kernel_rfl) (fun _ _ _ h => h) (Or.inl ⟨by rfl, fun w' hSw => ?_⟩) hHeld ?_
    · go_simp
    simp only [List.setIfInBounds_toArray, List.set_cons_zero, List.set_cons_succ]
    refine take_d 7 109 (.int .i64 (-1)) _ rfl rfl (by kernel_rfl) (by kernel_rfl) (by kernel_rfl) (fun _ _ _ h => h) (Or.inl ⟨by rfl, fun w' hSw => ?_⟩) hHeld ?_
    · go_simp
    simp only [List.setIfInBounds_toArray, List.set_cons_zero, List.set_cons_succ]
    refine take_d 8 110 (.int .i64 (-1)) _ rfl rfl (by kernel_rfl) (by kernel_rfl) (by kernel_rfl) (fun _ _ _ h => h) (Or.inl ⟨by rfl, fun w' hSw => ?_⟩) hHeld ?_
    · go_simp
    simp only [List.setIfInBounds_toArray, List.set_cons_zero, List.set_cons_succ]
    refine take_d 9 111 (.bool true) _ rfl rfl (by kernel_rfl) (by kernel_rfl) (by kernel_rfl) (fun _ _ _ h => h) (Or.inl ⟨by rfl, fun w' hSw => ?_⟩) hHeld ?_
    · go_simp
    simp only [List.setIfInBounds_toArray, List.set_cons_zero, List.set_cons_succ]
    refine take_d 10 112 (.bool true) _ rfl rfl (by kernel_rfl) (by kernel_rfl) (by kernel_rfl) (fun _ _ _ h => h) (Or.inl ⟨by rfl, fun w' hSw => ?_⟩) hHeld ?_
    · go_simp
    simp only [List.setIfInBounds_toArray, List.set_cons_zero, List.set_cons_succ]
    refine take_d 11 113 (.bool true) _ rfl rfl (by kernel_rfl) (by kernel_rfl) (by kernel_rfl) (fun _ _ _ h => h) (Or.inl ⟨by rfl, fun w' hSw => ?_⟩) hHeld ?_
    · go_simp
    simp only [List.setIfInBounds_toArray, List.set_cons_zero, List.set_cons_succ]
    refine take_d 12 114 (.pointer (some ⟨w3.heap.size, 0, none⟩)) _ rfl rfl (by kernel_rfl) (by kernel_rfl) (by kernel_rfl) (fun _ _ _ h => h) (Or.inl ⟨by rfl, fun w' hSw => ?_⟩) hHeld ?_
    · go_simp
    simp only [List.setIfInBounds_toArray, List.set_cons_zero, List.set_cons_succ]
    refine take_d 13 115 (.agg #[.int .i64 n3.kind, .int .i64 n3.lo, .int .i64 n3.hi, .int .i64 n3.mode, .int .i64 n3.ref, .slice A3 n3.set.length p3, .slice B3 n3.kids.length q3]) _ rfl rfl (by kernel_rfl) (by kernel_rfl) (by kernel_rfl) (fun _ _ _ h => h) (Or.inl ⟨by rfl, fun w' hSw => ?_⟩) hHeld ?_
    · have hS9 := hSw.2.2.nine
      clear hSw
      go_simp
    simp only [List.setIfInBounds_toArray, List.set_cons_zero, List.set_cons_succ]
    refine take_d 15 117 (.pointer (some ⟨w1.heap.size, 0, none⟩)) _ rfl rfl (by kernel_rfl) (by kernel_rfl) (by kernel_rfl) (fun _ _ _ h => h) (Or.inl ⟨by rfl, fun w' hSw => ?_⟩) hHeld ?_
    · go_simp
    simp only [List.setIfInBounds_toArray, List.set_cons_zero, List.set_cons_succ]
    refine take_d 16 118 (.agg #[.int .i64 n1.kind, .int .i64 n1.lo, .int .i64 n1.hi, .int .i64 n1.mode, .int .i64 n1.ref, .slice A1 n1.set.length p1, .slice B1 n1.kids.length q1]) _ rfl rfl (by kernel_rfl) (by kernel_rfl) (by kernel_rfl) (fun _ _ _ h => h) (Or.inl ⟨by rfl, fun w' hSw => ?_⟩) hHeld ?_
    · have hS9 := hSw.1.nine
      clear hSw
      go_simp
    simp only [List.setIfInBounds_toArray, List.set_cons_zero, List.set_cons_succ]
    refine take_d 18 120 (.pointer (some ⟨w2.heap.size, 0, none⟩)) _ rfl rfl (by kernel_rfl) (by kernel_rfl) (by kernel_rfl) (fun _ _ _ h => h) (Or.inl ⟨by rfl, fun w' hSw => ?_⟩) hHeld ?_
    · go_simp
    simp only [List.setIfInBounds_toArray, List.set_cons_zero, List.set_cons_succ]
    refine take_d 19 121 (.agg #[.int .i64 n2.kind, .int .i64 n2.lo, .int .i64 n2.hi, .int .i64 n2.mode, .int .i64 n2.ref, .slice A2 n2.set.length p2, .slice B2 n2.kids.length q2]) _ rfl rfl (by kernel_rfl) (by kernel_rfl) (by kernel_rfl) (fun _ _ _ h => h) (Or.inl ⟨by rfl, fun w' hSw => ?_⟩) hHeld ?_
    · have hS9 := hSw.2.1.nine
      clear hSw
      go_simp
    simp only [List.setIfInBounds_toArray, List.set_cons_zero, List.set_cons_succ]
    refine wpAnyH_ready (rs := [14]) (by kernel_rfl) (by simp) ?_
    refine AllReadyH.cons rfl (fun K hK => ?_) AllReadyH.nil
    go_simp
    refine (HSz3.out Wd kd).mono ?_
    rintro e w7 ⟨rfl, hb7⟩
    have kd7 := kd.trans (hb7.mono kd.size)
    have hbw7 := hbd.trans (hb7.mono hbd.size)
    refine hK.out _ _ ⟨(hd.1).on hb7, (hd.2.1).on hb7, (hd.2.2).on hb7⟩ (fun hHeld => ?_)
    clear hK K
    refine wpAnyH_ready (rs := [17]) (by kernel_rfl) (by simp) ?_
    refine AllReadyH.cons rfl (fun K hK => ?_) AllReadyH.nil
    go_simp
    refine (HSz1.out w7 kd7).mono ?_
    rintro e w8 ⟨rfl, hb8⟩
    have kd8 := kd7.trans (hb8.mono kd7.size)
    have hbw8 := hbw7.trans (hb8.mono hbw7.size)
    refine hK.out _ _ ⟨((hd.1).on hb7).on hb8, ((hd.2.1).on hb7).on hb8, ((hd.2.2).on hb7).on hb8⟩ (fun hHeld => ?_)
    clear hK K
    refine wpAnyH_ready (rs := [20]) (by kernel_rfl) (by simp) ?_
    refine AllReadyH.cons rfl (fun K hK => ?_) AllReadyH.nil
    go_simp
    refine (HSz2.out w8 kd8).mono ?_
    rintro e w9 ⟨rfl, hb9⟩
    have kd9 := kd8.trans (hb9.mono kd8.size)
    have hbw9 := hbw8.trans (hb9.mono hbw8.size)
    refine hK.out _ _ ⟨(((hd.1).on hb7).on hb8).on hb9, (((hd.2.1).on hb7).on hb8).on hb9, (((hd.2.2).on hb7).on hb8).on hb9⟩ (fun hHeld => ?_)
    clear hK K
    refine take_d 21 123 (.int .i64 (z1 + z2)) _ rfl rfl (by kernel_rfl) (by kernel_rfl) (by kernel_rfl) (fun _ _ _ h => h) (Or.inl ⟨by rfl, fun w' hSw => ?_⟩) hHeld ?_
    · go_simp
      all_goals exact IntWalk.i64_in _ (by omega)
    simp only [List.setIfInBounds_toArray, List.set_cons_zero, List.set_cons_succ]
    refine take_d 22 124 (.int .i64 z3) _ rfl rfl (by kernel_rfl) (by kernel_rfl) (by kernel_rfl) (fun _ _ _ h => h) (Or.inl ⟨by rfl, fun w' hSw => ?_⟩) hHeld ?_
    · go_simp
      rw [HZ3.out]
    simp only [List.setIfInBounds_toArray, List.set_cons_zero, List.set_cons_succ]
    refine take_d 23 125 (.bool true) _ rfl rfl (by kernel_rfl) (by kernel_rfl) (by kernel_rfl) (fun _ _ _ h => h) (Or.inl ⟨by rfl, fun w' hSw => ?_⟩) hHeld ?_
    · go_simp
    simp only [List.setIfInBounds_toArray, List.set_cons_zero, List.set_cons_succ]
    refine take_d 24 126 (.bool true) _ rfl rfl (by kernel_rfl) (by kernel_rfl) (by kernel_rfl) (fun _ _ _ h => h) (Or.inl ⟨by rfl, fun w' hSw => ?_⟩) hHeld ?_
    · go_simp
    simp only [List.setIfInBounds_toArray, List.set_cons_zero, List.set_cons_succ]
    refine take_d 25 4 (.bool true) _ rfl rfl (by kernel_rfl) (by kernel_rfl) (by kernel_rfl) (fun _ _ _ h => h) (Or.inl ⟨by rfl, fun w' hSw => ?_⟩) hHeld ?_
    · go_simp
    simp only [List.setIfInBounds_toArray, List.set_cons_zero, List.set_cons_succ]
    refine wpAnyH_done (by kernel_rfl) ?_ _
    clear hHeld
    go_wp2
    go_ret
    exact ⟨rfl, hbw9⟩
  have c2' : 0 ≤ m2 := by omega
  by_cases c3 : m1 + m2 ≤ 1048576
  · obtain rfl : m3 = m1 + m2 := by have h := HM3.out; rw [if_neg (by omega)] at h; rw [h]; unfold capE far; rw [if_neg (by omega)]
    clear HM3
    go_upto_region 16 with (fail)
    refine wp_region_held_drew (S := fun V => Blk V w1.heap.size 29 #[.int .i64 n1.kind, .int .i64 n1.lo, .int .i64 n1.hi, .int .i64 n1.mode, .int .i64 n1.ref, .slice A1 n1.set.length p1, .slice B1 n1.kids.length q1, .int .i64 (g1 : Nat), .bool false] ∧ Blk V w2.heap.size 29 #[.int .i64 n2.kind, .int .i64 n2.lo, .int .i64 n2.hi, .int .i64 n2.mode, .int .i64 n2.ref, .slice A2 n2.set.length p2, .slice B2 n2.kids.length q2, .int .i64 (g2 : Nat), .bool false] ∧ Blk V w3.heap.size 29 #[.int .i64 n3.kind, .int .i64 n3.lo, .int .i64 n3.hi, .int .i64 n3.mode, .int .i64 n3.ref, .slice A3 n3.set.length p3, .slice B3 n3.kids.length q3, .int .i64 (g3 : Nat), .bool fo3]) (by kernel_rfl) HS6.out (fun hHeld => ?_)
    have hd : Blk w6.drew w1.heap.size 29 #[.int .i64 n1.kind, .int .i64 n1.lo, .int .i64 n1.hi, .int .i64 n1.mode, .int .i64 n1.ref, .slice A1 n1.set.length p1, .slice B1 n1.kids.length q1, .int .i64 (g1 : Nat), .bool false] ∧ Blk w6.drew w2.heap.size 29 #[.int .i64 n2.kind, .int .i64 n2.lo, .int .i64 n2.hi, .int .i64 n2.mode, .int .i64 n2.ref, .slice A2 n2.set.length p2, .slice B2 n2.kids.length q2, .int .i64 (g2 : Nat), .bool false] ∧ Blk w6.drew w3.heap.size 29 #[.int .i64 n3.kind, .int .i64 n3.lo, .int .i64 n3.hi, .int .i64 n3.mode, .int .i64 n3.ref, .slice A3 n3.set.length p3, .slice B3 n3.kids.length q3, .int .i64 (g3 : Nat), .bool fo3] := HS6.out
    have hbd : Below w.heap.size w w6.drew := hbv6.drew
    have kd : Below v3.heap.size v3 w6.drew := k6.drew
    clear HS6 k6 hbv6
    generalize w6.drew = Wd at *
    refine take_d 0 102 (.int .i64 l3) _ rfl rfl (by kernel_rfl) (by kernel_rfl) (by kernel_rfl) (fun _ _ _ h => h) (Or.inl ⟨by rfl, fun w' hSw => ?_⟩) hHeld ?_
    · go_simp
    simp only [List.setIfInBounds_toArray, List.set_cons_zero, List.set_cons_succ]
    refine take_d 1 103 (.int .i64 l1) _ rfl rfl (by kernel_rfl) (by kernel_rfl) (by kernel_rfl) (fun _ _ _ h => h) (Or.inl ⟨by rfl, fun w' hSw => ?_⟩) hHeld ?_
    · go_simp
    simp only [List.setIfInBounds_toArray, List.set_cons_zero, List.set_cons_succ]
    refine take_d 2 104 (.int .i64 l2) _ rfl rfl (by kernel_rfl) (by kernel_rfl) (by kernel_rfl) (fun _ _ _ h => h) (Or.inl ⟨by rfl, fun w' hSw => ?_⟩) hHeld ?_
    · go_simp
    simp only [List.setIfInBounds_toArray, List.set_cons_zero, List.set_cons_succ]
    refine take_d 3 105 (.int .i64 (l1 + l2)) _ rfl rfl (by kernel_rfl) (by kernel_rfl) (by kernel_rfl) (fun _ _ _ h => h) (Or.inl ⟨by rfl, fun w' hSw => ?_⟩) hHeld ?_
    · go_simp
      all_goals exact IntWalk.i64_in _ (by omega)
    simp only [List.setIfInBounds_toArray, List.set_cons_zero, List.set_cons_succ]
    refine take_d 4 106 (.int .i64 l3) _ rfl rfl (by kernel_rfl) (by kernel_rfl) (by kernel_rfl) (fun _ _ _ h => h) (Or.inl ⟨by rfl, fun w' hSw => ?_⟩) hHeld ?_
    · go_simp
      rw [HL3.out]
    simp only [List.setIfInBounds_toArray, List.set_cons_zero, List.set_cons_succ]
    refine take_d 5 107 (.bool true) _ rfl rfl (by kernel_rfl) (by kernel_rfl) (by kernel_rfl) (fun _ _ _ h => h) (Or.inl ⟨by rfl, fun w' hSw => ?_⟩) hHeld ?_
    · go_simp
    simp only [List.setIfInBounds_toArray, List.set_cons_zero, List.set_cons_succ]
    refine take_d 6 108 (.bool true) _ rfl rfl (by kernel_rfl) (by kernel_rfl) (by kernel_rfl) (fun _ _ _ h => h) (Or.inl ⟨by rfl, fun w' hSw => ?_⟩) hHeld ?_
    · go_simp
    simp only [List.setIfInBounds_toArray, List.set_cons_zero, List.set_cons_succ]
    refine take_d 7 109 (.int .i64 (m1 + m2)) _ rfl rfl (by kernel_rfl) (by kernel_rfl) (by kernel_rfl) (fun _ _ _ h => h) (Or.inl ⟨by rfl, fun w' hSw => ?_⟩) hHeld ?_
    · go_simp
    simp only [List.setIfInBounds_toArray, List.set_cons_zero, List.set_cons_succ]
    refine take_d 8 110 (.int .i64 (m1 + m2)) _ rfl rfl (by kernel_rfl) (by kernel_rfl) (by kernel_rfl) (fun _ _ _ h => h) (Or.inl ⟨by rfl, fun w' hSw => ?_⟩) hHeld ?_
    · go_simp
    simp only [List.setIfInBounds_toArray, List.set_cons_zero, List.set_cons_succ]
    refine take_d 9 111 (.bool true) _ rfl rfl (by kernel_rfl) (by kernel_rfl) (by kernel_rfl) (fun _ _ _ h => h) (Or.inl ⟨by rfl, fun w' hSw => ?_⟩) hHeld ?_
    · go_simp
    simp only [List.setIfInBounds_toArray, List.set_cons_zero, List.set_cons_succ]
    refine take_d 10 112 (.bool true) _ rfl rfl (by kernel_rfl) (by kernel_rfl) (by kernel_rfl) (fun _ _ _ h => h) (Or.inl ⟨by rfl, fun w' hSw => ?_⟩) hHeld ?_
    · go_simp
    simp only [List.setIfInBounds_toArray, List.set_cons_zero, List.set_cons_succ]
    refine take_d 11 113 (.bool true) _ rfl rfl (by kernel_rfl) (by kernel_rfl) (by kernel_rfl) (fun _ _ _ h => h) (Or.inl ⟨by rfl, fun w' hSw => ?_⟩) hHeld ?_
    · go_simp
    simp only [List.setIfInBounds_toArray, List.set_cons_zero, List.set_cons_succ]
    refine take_d 12 114 (.pointer (some ⟨w3.heap.size, 0, none⟩)) _ rfl rfl (by kernel_rfl) (by kernel_rfl) (by kernel_rfl) (fun _ _ _ h => h) (Or.inl ⟨by rfl, fun w' hSw => ?_⟩) hHeld ?_
    · go_simp
    simp only [List.setIfInBounds_toArray, List.set_cons_zero, List.set_cons_succ]
    refine take_d 13 115 (.agg #[.int .i64 n3.kind, .int .i64 n3.lo, .int .i64 n3.hi, .int .i64 n3.mode, .int .i64 n3.ref, .slice A3 n3.set.length p3, .slice B3 n3.kids.length q3]) _ rfl rfl (by kernel_rfl) (by kernel_rfl) (by kernel_rfl) (fun _ _ _ h => h) (Or.inl ⟨by rfl, fun w' hSw => ?_⟩) hHeld ?_
    · have hS9 := hSw.2.2.nine
      clear hSw
      go_simp
    simp only [List.setIfInBounds_toArray, List.set_cons_zero, List.set_cons_succ]
    refine take_d 15 117 (.pointer (some ⟨w1.heap.size, 0, none⟩)) _ rfl rfl (by kernel_rfl) (by kernel_rfl) (by kernel_rfl) (fun _ _ _ h => h) (Or.inl ⟨by rfl, fun w' hSw => ?_⟩) hHeld ?_
    · go_simp
    simp only [List.setIfInBounds_toArray, List.set_cons_zero, List.set_cons_succ]
    refine take_d 16 118 (.agg #[.int .i64 n1.kind, .int .i64 n1.lo, .int .i64 n1.hi, .int .i64 n1.mode, .int .i64 n1.ref, .slice A1 n1.set.length p1, .slice B1 n1.kids.length q1]) _ rfl rfl (by kernel_rfl) (by kernel_rfl) (by kernel_rfl) (fun _ _ _ h => h) (Or.inl ⟨by rfl, fun w' hSw => ?_⟩) hHeld ?_
    · have hS9 := hSw.1.nine
      clear hSw
      go_simp
    simp only [List.setIfInBounds_toArray, List.set_cons_zero, List.set_cons_succ]
    refine take_d 18 120 (.pointer (some ⟨w2.heap.size, 0, none⟩)) _ rfl rfl (by kernel_rfl) (by kernel_rfl) (by kernel_rfl) (fun _ _ _ h => h) (Or.inl ⟨by rfl, fun w' hSw => ?_⟩) hHeld ?_
    · go_simp
    simp only [List.setIfInBounds_toArray, List.set_cons_zero, List.set_cons_succ]
    refine take_d 19 121 (.agg #[.int .i64 n2.kind, .int .i64 n2.lo, .int .i64 n2.hi, .int .i64 n2.mode, .int .i64 n2.ref, .slice A2 n2.set.length p2, .slice B2 n2.kids.length q2]) _ rfl rfl (by kernel_rfl) (by kernel_rfl) (by kernel_rfl) (fun _ _ _ h => h) (Or.inl ⟨by rfl, fun w' hSw => ?_⟩) hHeld ?_
    · have hS9 := hSw.2.1.nine
      clear hSw
      go_simp
    simp only [List.setIfInBounds_toArray, List.set_cons_zero, List.set_cons_succ]
    refine wpAnyH_ready (rs := [14]) (by kernel_rfl) (by simp) ?_
    refine AllReadyH.cons rfl (fun K hK => ?_) AllReadyH.nil
    go_simp
    refine (HSz3.out Wd kd).mono ?_
    rintro e w7 ⟨rfl, hb7⟩
    have kd7 := kd.trans (hb7.mono kd.size)
    have hbw7 := hbd.trans (hb7.mono hbd.size)
    refine hK.out _ _ ⟨(hd.1).on hb7, (hd.2.1).on hb7, (hd.2.2).on hb7⟩ (fun hHeld => ?_)
    clear hK K
    refine wpAnyH_ready (rs := [17]) (by kernel_rfl) (by simp) ?_
    refine AllReadyH.cons rfl (fun K hK => ?_) AllReadyH.nil
    go_simp
    refine (HSz1.out w7 kd7).mono ?_
    rintro e w8 ⟨rfl, hb8⟩
    have kd8 := kd7.trans (hb8.mono kd7.size)
    have hbw8 := hbw7.trans (hb8.mono hbw7.size)
    refine hK.out _ _ ⟨((hd.1).on hb7).on hb8, ((hd.2.1).on hb7).on hb8, ((hd.2.2).on hb7).on hb8⟩ (fun hHeld => ?_)
    clear hK K
    refine wpAnyH_ready (rs := [20]) (by kernel_rfl) (by simp) ?_
    refine AllReadyH.cons rfl (fun K hK => ?_) AllReadyH.nil
    go_simp
    refine (HSz2.out w8 kd8).mono ?_
    rintro e w9 ⟨rfl, hb9⟩
    have kd9 := kd8.trans (hb9.mono kd8.size)
    have hbw9 := hbw8.trans (hb9.mono hbw8.size)
    refine hK.out _ _ ⟨(((hd.1).on hb7).on hb8).on hb9, (((hd.2.1).on hb7).on hb8).on hb9, (((hd.2.2).on hb7).on hb8).on hb9⟩ (fun hHeld => ?_)
    clear hK K
    refine take_d 21 123 (.int .i64 (z1 + z2)) _ rfl rfl (by kernel_rfl) (by kernel_rfl) (by kernel_rfl) (fun _ _ _ h => h) (Or.inl ⟨by rfl, fun w' hSw => ?_⟩) hHeld ?_
    · go_simp
      all_goals exact IntWalk.i64_in _ (by omega)
    simp only [List.setIfInBounds_toArray, List.set_cons_zero, List.set_cons_succ]
    refine take_d 22 124 (.int .i64 z3) _ rfl rfl (by kernel_rfl) (by kernel_rfl) (by kernel_rfl) (fun _ _ _ h => h) (Or.inl ⟨by rfl, fun w' hSw => ?_⟩) hHeld ?_
    · go_simp
      rw [HZ3.out]
    simp only [List.setIfInBounds_toArray, List.set_cons_zero, List.set_cons_succ]
    refine take_d 23 125 (.bool true) _ rfl rfl (by kernel_rfl) (by kernel_rfl) (by kernel_rfl) (fun _ _ _ h => h) (Or.inl ⟨by rfl, fun w' hSw => ?_⟩) hHeld ?_
    · go_simp
    simp only [List.setIfInBounds_toArray, List.set_cons_zero, List.set_cons_succ]
    refine take_d 24 126 (.bool true) _ rfl rfl (by kernel_rfl) (by kernel_rfl) (by kernel_rfl) (fun _ _ _ h => h) (Or.inl ⟨by rfl, fun w' hSw => ?_⟩) hHeld ?_
    · go_simp
    simp only [List.setIfInBounds_toArray, List.set_cons_zero, List.set_cons_succ]
    refine take_d 25 4 (.bool true) _ rfl rfl (by kernel_rfl) (by kernel_rfl) (by kernel_rfl) (fun _ _ _ h => h) (Or.inl ⟨by rfl, fun w' hSw => ?_⟩) hHeld ?_
    · go_simp
    simp only [List.setIfInBounds_toArray, List.set_cons_zero, List.set_cons_succ]
    refine wpAnyH_done (by kernel_rfl) ?_ _
    clear hHeld
    go_wp2
    go_ret
    exact ⟨rfl, hbw9⟩
  obtain rfl : m3 = -1 := by have h := HM3.out; rw [if_neg (by omega)] at h; rw [h]; unfold capE far; rw [if_pos (by omega)]
  clear HM3
  go_upto_region 16 with (fail)
  refine wp_region_held_drew (S := fun V => Blk V w1.heap.size 29 #[.int .i64 n1.kind, .int .i64 n1.lo, .int .i64 n1.hi, .int .i64 n1.mode, .int .i64 n1.ref, .slice A1 n1.set.length p1, .slice B1 n1.kids.length q1, .int .i64 (g1 : Nat), .bool false] ∧ Blk V w2.heap.size 29 #[.int .i64 n2.kind, .int .i64 n2.lo, .int .i64 n2.hi, .int .i64 n2.mode, .int .i64 n2.ref, .slice A2 n2.set.length p2, .slice B2 n2.kids.length q2, .int .i64 (g2 : Nat), .bool false] ∧ Blk V w3.heap.size 29 #[.int .i64 n3.kind, .int .i64 n3.lo, .int .i64 n3.hi, .int .i64 n3.mode, .int .i64 n3.ref, .slice A3 n3.set.length p3, .slice B3 n3.kids.length q3, .int .i64 (g3 : Nat), .bool fo3]) (by kernel_rfl) HS6.out (fun hHeld => ?_)
  have hd : Blk w6.drew w1.heap.size 29 #[.int .i64 n1.kind, .int .i64 n1.lo, .int .i64 n1.hi, .int .i64 n1.mode, .int .i64 n1.ref, .slice A1 n1.set.length p1, .slice B1 n1.kids.length q1, .int .i64 (g1 : Nat), .bool false] ∧ Blk w6.drew w2.heap.size 29 #[.int .i64 n2.kind, .int .i64 n2.lo, .int .i64 n2.hi, .int .i64 n2.mode, .int .i64 n2.ref, .slice A2 n2.set.length p2, .slice B2 n2.kids.length q2, .int .i64 (g2 : Nat), .bool false] ∧ Blk w6.drew w3.heap.size 29 #[.int .i64 n3.kind, .int .i64 n3.lo, .int .i64 n3.hi, .int .i64 n3.mode, .int .i64 n3.ref, .slice A3 n3.set.length p3, .slice B3 n3.kids.length q3, .int .i64 (g3 : Nat), .bool fo3] := HS6.out
  have hbd : Below w.heap.size w w6.drew := hbv6.drew
  have kd : Below v3.heap.size v3 w6.drew := k6.drew
  clear HS6 k6 hbv6
  generalize w6.drew = Wd at *
  refine take_d 0 102 (.int .i64 l3) _ rfl rfl (by kernel_rfl) (by kernel_rfl) (by kernel_rfl) (fun _ _ _ h => h) (Or.inl ⟨by rfl, fun w' hSw => ?_⟩) hHeld ?_
  · go_simp
  simp only [List.setIfInBounds_toArray, List.set_cons_zero, List.set_cons_succ]
  refine take_d 1 103 (.int .i64 l1) _ rfl rfl (by kernel_rfl) (by kernel_rfl) (by kernel_rfl) (fun _ _ _ h => h) (Or.inl ⟨by rfl, fun w' hSw => ?_⟩) hHeld ?_
  · go_simp
  simp only [List.setIfInBounds_toArray, List.set_cons_zero, List.set_cons_succ]
  refine take_d 2 104 (.int .i64 l2) _ rfl rfl (by kernel_rfl) (by kernel_rfl) (by kernel_rfl) (fun _ _ _ h => h) (Or.inl ⟨by rfl, fun w' hSw => ?_⟩) hHeld ?_
  · go_simp
  simp only [List.setIfInBounds_toArray, List.set_cons_zero, List.set_cons_succ]
  refine take_d 3 105 (.int .i64 (l1 + l2)) _ rfl rfl (by kernel_rfl) (by kernel_rfl) (by kernel_rfl) (fun _ _ _ h => h) (Or.inl ⟨by rfl, fun w' hSw => ?_⟩) hHeld ?_
  · go_simp
    all_goals exact IntWalk.i64_in _ (by omega)
  simp only [List.setIfInBounds_toArray, List.set_cons_zero, List.set_cons_succ]
  refine take_d 4 106 (.int .i64 l3) _ rfl rfl (by kernel_rfl) (by kernel_rfl) (by kernel_rfl) (fun _ _ _ h => h) (Or.inl ⟨by rfl, fun w' hSw => ?_⟩) hHeld ?_
  · go_simp
    rw [HL3.out]
  simp only [List.setIfInBounds_toArray, List.set_cons_zero, List.set_cons_succ]
  refine take_d 5 107 (.bool true) _ rfl rfl (by kernel_rfl) (by kernel_rfl) (by kernel_rfl) (fun _ _ _ h => h) (Or.inl ⟨by rfl, fun w' hSw => ?_⟩) hHeld ?_
  · go_simp
  simp only [List.setIfInBounds_toArray, List.set_cons_zero, List.set_cons_succ]
  refine take_d 6 108 (.bool true) _ rfl rfl (by kernel_rfl) (by kernel_rfl) (by kernel_rfl) (fun _ _ _ h => h) (Or.inl ⟨by rfl, fun w' hSw => ?_⟩) hHeld ?_
  · go_simp
  simp only [List.setIfInBounds_toArray, List.set_cons_zero, List.set_cons_succ]
  refine take_d 7 109 (.int .i64 (-1)) _ rfl rfl (by kernel_rfl) (by kernel_rfl) (by kernel_rfl) (fun _ _ _ h => h) (Or.inl ⟨by rfl, fun w' hSw => ?_⟩) hHeld ?_
  · go_simp
  simp only [List.setIfInBounds_toArray, List.set_cons_zero, List.set_cons_succ]
  refine take_d 8 110 (.int .i64 (-1)) _ rfl rfl (by kernel_rfl) (by kernel_rfl) (by kernel_rfl) (fun _ _ _ h => h) (Or.inl ⟨by rfl, fun w' hSw => ?_⟩) hHeld ?_
  · go_simp
  simp only [List.setIfInBounds_toArray, List.set_cons_zero, List.set_cons_succ]
  refine take_d 9 111 (.bool true) _ rfl rfl (by kernel_rfl) (by kernel_rfl) (by kernel_rfl) (fun _ _ _ h => h) (Or.inl ⟨by rfl, fun w' hSw => ?_⟩) hHeld ?_
  · go_simp
  simp only [List.setIfInBounds_toArray, List.set_cons_zero, List.set_cons_succ]
  refine take_d 10 112 (.bool true) _ rfl rfl (by kernel_rfl) (by kernel_rfl) (by kernel_rfl) (fun _ _ _ h => h) (Or.inl ⟨by rfl, fun w' hSw => ?_⟩) hHeld ?_
  · go_simp
  simp only [List.setIfInBounds_toArray, List.set_cons_zero, List.set_cons_succ]
  refine take_d 11 113 (.bool true) _ rfl rfl (by kernel_rfl) (by kernel_rfl) (by kernel_rfl) (fun _ _ _ h => h) (Or.inl ⟨by rfl, fun w' hSw => ?_⟩) hHeld ?_
  · go_simp
  simp only [List.setIfInBounds_toArray, List.set_cons_zero, List.set_cons_succ]
  refine take_d 12 114 (.pointer (some ⟨w3.heap.size, 0, none⟩)) _ rfl rfl (by kernel_rfl) (by kernel_rfl) (by kernel_rfl) (fun _ _ _ h => h) (Or.inl ⟨by rfl, fun w' hSw => ?_⟩) hHeld ?_
  · go_simp
  simp only [List.setIfInBounds_toArray, List.set_cons_zero, List.set_cons_succ]
  refine take_d 13 115 (.agg #[.int .i64 n3.kind, .int .i64 n3.lo, .int .i64 n3.hi, .int .i64 n3.mode, .int .i64 n3.ref, .slice A3 n3.set.length p3, .slice B3 n3.kids.length q3]) _ rfl rfl (by kernel_rfl) (by kernel_rfl) (by kernel_rfl) (fun _ _ _ h => h) (Or.inl ⟨by rfl, fun w' hSw => ?_⟩) hHeld ?_
  · have hS9 := hSw.2.2.nine
    clear hSw
    go_simp
  simp only [List.setIfInBounds_toArray, List.set_cons_zero, List.set_cons_succ]
  refine take_d 15 117 (.pointer (some ⟨w1.heap.size, 0, none⟩)) _ rfl rfl (by kernel_rfl) (by kernel_rfl) (by kernel_rfl) (fun _ _ _ h => h) (Or.inl ⟨by rfl, fun w' hSw => ?_⟩) hHeld ?_
  · go_simp
  simp only [List.setIfInBounds_toArray, List.set_cons_zero, List.set_cons_succ]
  refine take_d 16 118 (.agg #[.int .i64 n1.kind, .int .i64 n1.lo, .int .i64 n1.hi, .int .i64 n1.mode, .int .i64 n1.ref, .slice A1 n1.set.length p1, .slice B1 n1.kids.length q1]) _ rfl rfl (by kernel_rfl) (by kernel_rfl) (by kernel_rfl) (fun _ _ _ h => h) (Or.inl ⟨by rfl, fun w' hSw => ?_⟩) hHeld ?_
  · have hS9 := hSw.1.nine
    clear hSw
    go_simp
  simp only [List.setIfInBounds_toArray, List.set_cons_zero, List.set_cons_succ]
  refine take_d 18 120 (.pointer (some ⟨w2.heap.size, 0, none⟩)) _ rfl rfl (by kernel_rfl) (by kernel_rfl) (by kernel_rfl) (fun _ _ _ h => h) (Or.inl ⟨by rfl, fun w' hSw => ?_⟩) hHeld ?_
  · go_simp
  simp only [List.setIfInBounds_toArray, List.set_cons_zero, List.set_cons_succ]
  refine take_d 19 121 (.agg #[.int .i64 n2.kind, .int .i64 n2.lo, .int .i64 n2.hi, .int .i64 n2.mode, .int .i64 n2.ref, .slice A2 n2.set.length p2, .slice B2 n2.kids.length q2]) _ rfl rfl (by kernel_rfl) (by kernel_rfl) (by kernel_rfl) (fun _ _ _ h => h) (Or.inl ⟨by rfl, fun w' hSw => ?_⟩) hHeld ?_
  · have hS9 := hSw.2.1.nine
    clear hSw
    go_simp
  simp only [List.setIfInBounds_toArray, List.set_cons_zero, List.set_cons_succ]
  refine wpAnyH_ready (rs := [14]) (by kernel_rfl) (by simp) ?_
  refine AllReadyH.cons rfl (fun K hK => ?_) AllReadyH.nil
  go_simp
  refine (HSz3.out Wd kd).mono ?_
  rintro e w7 ⟨rfl, hb7⟩
  have kd7 := kd.trans (hb7.mono kd.size)
  have hbw7 := hbd.trans (hb7.mono hbd.size)
  refine hK.out _ _ ⟨(hd.1).on hb7, (hd.2.1).on hb7, (hd.2.2).on hb7⟩ (fun hHeld => ?_)
  clear hK K
  refine wpAnyH_ready (rs := [17]) (by kernel_rfl) (by simp) ?_
  refine AllReadyH.cons rfl (fun K hK => ?_) AllReadyH.nil
  go_simp
  refine (HSz1.out w7 kd7).mono ?_
  rintro e w8 ⟨rfl, hb8⟩
  have kd8 := kd7.trans (hb8.mono kd7.size)
  have hbw8 := hbw7.trans (hb8.mono hbw7.size)
  refine hK.out _ _ ⟨((hd.1).on hb7).on hb8, ((hd.2.1).on hb7).on hb8, ((hd.2.2).on hb7).on hb8⟩ (fun hHeld => ?_)
  clear hK K
  refine wpAnyH_ready (rs := [20]) (by kernel_rfl) (by simp) ?_
  refine AllReadyH.cons rfl (fun K hK => ?_) AllReadyH.nil
  go_simp
  refine (HSz2.out w8 kd8).mono ?_
  rintro e w9 ⟨rfl, hb9⟩
  have kd9 := kd8.trans (hb9.mono kd8.size)
  have hbw9 := hbw8.trans (hb9.mono hbw8.size)
  refine hK.out _ _ ⟨(((hd.1).on hb7).on hb8).on hb9, (((hd.2.1).on hb7).on hb8).on hb9, (((hd.2.2).on hb7).on hb8).on hb9⟩ (fun hHeld => ?_)
  clear hK K
  refine take_d 21 123 (.int .i64 (z1 + z2)) _ rfl rfl (by kernel_rfl) (by kernel_rfl) (by kernel_rfl) (fun _ _ _ h => h) (Or.inl ⟨by rfl, fun w' hSw => ?_⟩) hHeld ?_
  · go_simp
    all_goals exact IntWalk.i64_in _ (by omega)
  simp only [List.setIfInBounds_toArray, List.set_cons_zero, List.set_cons_succ]
  refine take_d 22 124 (.int .i64 z3) _ rfl rfl (by kernel_rfl) (by kernel_rfl) (by kernel_rfl) (fun _ _ _ h => h) (Or.inl ⟨by rfl, fun w' hSw => ?_⟩) hHeld ?_
  · go_simp
    rw [HZ3.out]
  simp only [List.setIfInBounds_toArray, List.set_cons_zero, List.set_cons_succ]
  refine take_d 23 125 (.bool true) _ rfl rfl (by kernel_rfl) (by kernel_rfl) (by kernel_rfl) (fun _ _ _ h => h) (Or.inl ⟨by rfl, fun w' hSw => ?_⟩) hHeld ?_
  · go_simp
  simp only [List.setIfInBounds_toArray, List.set_cons_zero, List.set_cons_succ]
  refine take_d 24 126 (.bool true) _ rfl rfl (by kernel_rfl) (by kernel_rfl) (by kernel_rfl) (fun _ _ _ h => h) (Or.inl ⟨by rfl, fun w' hSw => ?_⟩) hHeld ?_
  · go_simp
  simp only [List.setIfInBounds_toArray, List.set_cons_zero, List.set_cons_succ]
  refine take_d 25 4 (.bool true) _ rfl rfl (by kernel_rfl) (by kernel_rfl) (by kernel_rfl) (fun _ _ _ h => h) (Or.inl ⟨by rfl, fun w' hSw => ?_⟩) hHeld ?_
  · go_simp
  simp only [List.setIfInBounds_toArray, List.set_cons_zero, List.set_cons_succ]
  refine wpAnyH_done (by kernel_rfl) ?_ _
  clear hHeld
  go_wp2
  go_ret
  exact ⟨rfl, hbw9⟩

theorem shapeRows_law (x y : ByteArray) (w : World) (hT : TabsAt w.heap.size w) : Calls Tryd.prog 4 #[.string x, .string y] w fun e w' => e = .returned (.bool true) ∧ Below w.heap.size w w' := srows_law x y hT

end Go.Proofs.YthfhlkacnpdbiaaDoor
