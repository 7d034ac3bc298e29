/- ShapeFree's walk. -/
import Derived.Test.YthfhlkacnpdbiaaDoorSf
import Derived.Test.YthfhlkacnpdbiaaDoorMPf
import Derived.Test.YthfhlkacnpdbiaaDoorMModel
namespace Go.Proofs.YthfhlkacnpdbiaaDoor
open Go.RowKit
open Go.Proofs.YthfhlkacnpdbiaaDoor.Cl (Rg)
variable {w w' : World}

theorem put_eq3 (a b c : UInt8) (x : ByteArray) : ((⟨#[a, b, c]⟩ : ByteArray) ++ x ++ (⟨#[41]⟩ : ByteArray)) = ⟨([a, b, c] ++ (x.data.toList ++ [41])).toArray⟩ := by
  apply ByteArray.ext
  simp [ByteArray.data_append]
theorem put_eq1 (a : UInt8) (x : ByteArray) : ((⟨#[a]⟩ : ByteArray) ++ x ++ (⟨#[41]⟩ : ByteArray)) = ⟨([a] ++ (x.data.toList ++ [41])).toArray⟩ := by
  apply ByteArray.ext
  simp [ByteArray.data_append]
theorem put_eq4 (a b c d : UInt8) (x : ByteArray) : ((⟨#[a, b, c, d]⟩ : ByteArray) ++ x ++ (⟨#[41]⟩ : ByteArray)) = ⟨([a, b, c, d] ++ (x.data.toList ++ [41])).toArray⟩ := by
  apply ByteArray.ext
  simp [ByteArray.data_append]
theorem new_str (v : World) (o : Obj) : Below v.heap.size v (v.alloc o) := (Below.refl _ _).alloc (Nat.le_refl _) _
set_option maxRecDepth 100000 in
set_option maxHeartbeats 2000000 in
theorem free_law (x : ByteArray) (i : Int) (hT : TabsAt w.heap.size w) : Calls Tryd.prog 8 #[.string x, .int .i64 i] w fun e w' => e = .returned (.bool true) ∧ Below w.heap.size w w' := by
  have HT := Lib.hid hT
  have HA := Lib.hid (anchor_any hT)
  clear hT
  by_cases hlen : 100 < x.size
  · have hlen' : (100 : Int) < (x.size : Int) := by omega
    go_enter Tryd.func8, Tryd.ntmps8
    go_wp2_with fail
    refine HA.out.mono ?_
    rintro e w1 ⟨rfl, hb1⟩
    go_wp2
    go_ret
    exact ⟨rfl, hb1⟩
  have hlen' : ¬ (100 : Int) < (x.size : Int) := by omega
  by_cases hi0 : i < 0
  · go_enter Tryd.func8, Tryd.ntmps8
    go_wp2_with fail
    refine HA.out.mono ?_
    rintro e w1 ⟨rfl, hb1⟩
    go_wp2
    go_ret
    exact ⟨rfl, hb1⟩
  by_cases hi3 : 3 < i
  · go_enter Tryd.func8, Tryd.ntmps8
    go_wp2_with fail
    refine HA.out.mono ?_
    rintro e w1 ⟨rfl, hb1⟩
    go_wp2
    go_ret
    exact ⟨rfl, hb1⟩
  have HP1 : Hid (∀ W : World, TabsAt W.heap.size W → Calls Tryd.prog 10 #[.string x] W (ParsePost W (parse 1026 x.data.toList))) := Lib.hid (fun W hW => parse_any (s := x.data.toList) 1026 (by omega) (by have : x.data.toList.length = x.size := rfl; omega) hW)
  obtain ⟨r1, hr1⟩ : ∃ r, r = parse 1026 x.data.toList := ⟨_, rfl⟩
  rw [← hr1] at HP1
  have HR1 := Lib.hid (ok_of (by omega) hr1)
  clear hr1
  have hi : i = 0 ∨ i = 1 ∨ i = 2 ∨ i = 3 := by omega
  clear hi0 hi3
  rcases hi with rfl | rfl | rfl | rfl

  · have HP2 : Hid (∀ W : World, TabsAt W.heap.size W → Calls Tryd.prog 10 #[.string ((⟨#[40, 63, 58]⟩ : ByteArray) ++ x ++ (⟨#[41]⟩ : ByteArray))] W (ParsePost W (parse 1030 ([40, 63, 58] ++ (x.data.toList ++ [41]))))) := Lib.hid (fun W hW => by
      rw [put_eq3]
      exact parse_any 1030 (by omega) (by have : x.data.toList.length = x.size := rfl; simp; omega) hW)
    obtain ⟨r2, hr2⟩ : ∃ r, r = parse 1030 ([40, 63, 58] ++ (x.data.toList ++ [41])) := ⟨_, rfl⟩
    rw [← hr2] at HP2
    have HR2 := Lib.hid (ok_of (by omega) hr2)
    clear hr2
    go_enter Tryd.func8, Tryd.ntmps8
    go_wp2_with fail
    refine HA.out.mono ?_
    rintro e w0 ⟨rfl, hb0⟩
    have HT0 := Lib.hid (tabs_on HT.out hb0 hb0.size)
    go_wp2_with fail
    refine (HP1.out _ HT0.out).mono ?_
    intro e w1 hp
    obtain ⟨A1, B1, p1, q1, rfl, hN, hb1⟩ := hp.uni
    generalize ndOf r1 = n1 at hN HR1 ⊢
    generalize gOf r1 = g1 at HR1 ⊢
    generalize foOf r1 = fo1 at HR1 ⊢
    generalize (fOf r1).1 = fc1 at HR1 ⊢
    generalize (fOf r1).2 = fp1
    unfold pCells
    have P1 := Lib.hid (put_new w0 w1 #[.int .i64 n1.kind, .int .i64 n1.lo, .int .i64 n1.hi, .int .i64 n1.mode, .int .i64 n1.ref, .slice A1 n1.set.length p1, .slice B1 n1.kids.length q1, .int .i64 (g1 : Nat), .bool fo1] #[.int .i64 (fc1 : Nat), .int .i64 (fp1 : Nat)] hb1)
    have HN1 := Lib.hid (hN.on (put_on w1 #[.int .i64 n1.kind, .int .i64 n1.lo, .int .i64 n1.hi, .int .i64 n1.mode, .int .i64 n1.ref, .slice A1 n1.set.length p1, .slice B1 n1.kids.length q1, .int .i64 (g1 : Nat), .bool fo1] #[.int .i64 (fc1 : Nat), .int .i64 (fp1 : Nat)]))
    clear hN hp HP1
    go_upto_region 6 with (fail)
    generalize (w1.alloc (.cells #[.int .i64 n1.kind, .int .i64 n1.lo, .int .i64 n1.hi, .int .i64 n1.mode, .int .i64 n1.ref, .slice A1 n1.set.length p1, .slice B1 n1.kids.length q1, .int .i64 (g1 : Nat), .bool fo1] 29)).alloc (.cells #[.int .i64 (fc1 : Nat), .int .i64 (fp1 : Nat)] 32) = v1 at *
    have hbv1 := hb0.trans (P1.out.keep.mono hb0.size)
    have HT1 := Lib.hid (tabs_on HT.out hbv1 hbv1.size)
    go_wp2_with fail
    refine (HP2.out _ (tabs_on HT1.out (new_str v1 _) (new_str v1 _).size)).mono ?_
    intro e w2 hp
    obtain ⟨A2, B2, p2, q2, rfl, hN, hb2⟩ := hp.uni
    generalize ndOf r2 = n2 at hN HR2 ⊢
    generalize gOf r2 = g2 at HR2 ⊢
    generalize foOf r2 = fo2 at HR2 ⊢
    generalize (fOf r2).1 = fc2 at HR2 ⊢
    generalize (fOf r2).2 = fp2
    unfold pCells
    have P2 := Lib.hid (put_new v1 w2 #[.int .i64 n2.kind, .int .i64 n2.lo, .int .i64 n2.hi, .int .i64 n2.mode, .int .i64 n2.ref, .slice A2 n2.set.length p2, .slice B2 n2.kids.length q2, .int .i64 (g2 : Nat), .bool fo2] #[.int .i64 (fc2 : Nat), .int .i64 (fp2 : Nat)] ((new_str v1 _).trans (hb2.mono (new_str v1 _).size)))
    have HN2 := Lib.hid (hN.on (put_on w2 #[.int .i64 n2.kind, .int .i64 n2.lo, .int .i64 n2.hi, .int .i64 n2.mode, .int .i64 n2.ref, .slice A2 n2.set.length p2, .slice B2 n2.kids.length q2, .int .i64 (g2 : Nat), .bool fo2] #[.int .i64 (fc2 : Nat), .int .i64 (fp2 : Nat)]))
    clear hN hp HP2
    go_upto_region 7 with (fail)
    generalize (w2.alloc (.cells #[.int .i64 n2.kind, .int .i64 n2.lo, .int .i64 n2.hi, .int .i64 n2.mode, .int .i64 n2.ref, .slice A2 n2.set.length p2, .slice B2 n2.kids.length q2, .int .i64 (g2 : Nat), .bool fo2] 29)).alloc (.cells #[.int .i64 (fc2 : Nat), .int .i64 (fp2 : Nat)] 32) = v2 at *
    have hbv2 := hbv1.trans (P2.out.keep.mono hbv1.size)
    have hf1 := (P1.out.flt.on P2.out.keep).cell 0
    have hf2 := P2.out.flt.cell 0
    have hc1 := (P1.out.node.on P2.out.keep).nine
    simp at hf1 hf2
    by_cases h1 : ¬ fc1 = 0
    · have h1' := off_zero h1
      go_wp2
      go_ret
      exact ⟨rfl, hbv2⟩
    obtain rfl : fc1 = 0 := by omega
    simp only [Int.cast_ofNat_Int] at hf1
    by_cases h2 : ¬ fc2 = 0
    · have h2' := off_zero h2
      go_wp2
      go_ret
      exact ⟨rfl, hbv2⟩
    obtain rfl : fc2 = 0 := by omega
    simp only [Int.cast_ofNat_Int] at hf2
    by_cases h3 : fo1 = true
    · subst h3
      go_wp2
      go_ret
      exact ⟨rfl, hbv2⟩
    obtain rfl : fo1 = false := by simpa using h3
    have HW := Lib.hid (parse_wf (HR1.out rfl))
    have HW2 := Lib.hid (parse_wf (HR2.out rfl))
    have HF : Hid (least n2 = least n1 ∧ most n2 = most n1 ∧ ndSize n2 = min (ndSize n1 + 0) 1048576) := Lib.hid (by
      obtain ⟨nd', hw, hl⟩ := one_in open_only (by simp) (HR1.out rfl) (by have : x.data.toList.length = x.size := rfl; omega) (HR2.out rfl)
      exact free_only hw hl HW.out)
    have hl0 := (least_range HW.out).1
    have hl1 : least n1 ≤ 1048576 := (least_range HW.out).2
    have hm0 := (most_range HW.out).1
    have hm1 : most n1 ≤ 1048576 := (most_range HW.out).2
    have hs0 := (ndSize_range HW.out).1
    have hs1 : ndSize n1 ≤ 1048576 := (ndSize_range HW.out).2
    have hc2 := P2.out.node.nine
    have HWd1 := Lib.hid (fun W (hW : Below v2.heap.size v2 W) => width_any n1 HW.out W A1 B1 p1 q1 ((HN1.out.on P2.out.keep).on hW))
    have HWd2 := Lib.hid (fun W (hW : Below v2.heap.size v2 W) => width_any n2 HW2.out W A2 B2 p2 q2 (HN2.out.on hW))
    have HSz1 := Lib.hid (fun W (hW : Below v2.heap.size v2 W) => size_any n1 HW.out W A1 B1 p1 q1 ((HN1.out.on P2.out.keep).on hW))
    have HSz2 := Lib.hid (fun W (hW : Below v2.heap.size v2 W) => size_any n2 HW2.out W A2 B2 p2 q2 (HN2.out.on hW))
    rw [HF.out.1, HF.out.2.1] at HWd2
    have HZ := Lib.hid HF.out.2.2
    clear HF
    generalize ndSize n2 = z2 at *
    generalize least n1 = l at *
    generalize most n1 = m at *
    generalize ndSize n1 = z at *
    have HB1 := Lib.hid (P1.out.node.on P2.out.keep)
    have HB2 := Lib.hid P2.out.node
    clear hc2 P1 P2 HN1 HN2 HR1 HR2
    go_wp2_with fail
    refine (HWd1.out v2 (Below.refl _ _)).mono ?_
    rintro e w3 ⟨rfl, hb3⟩
    have hbv3 := hbv2.trans (hb3.mono hbv2.size)
    have hc2 := (HB2.out.on hb3).nine
    clear hc1 hf1 hf2
    go_wp2_with fail
    refine (HWd2.out w3 hb3).mono ?_
    rintro e w4 ⟨rfl, hb4⟩
    have k4 := hb3.trans (hb4.mono hb3.size)
    have hbv4 := hbv3.trans (hb4.mono hbv3.size)
    have HS4 : Hid (Blk w4 w1.heap.size 29 #[.int .i64 n1.kind, .int .i64 n1.lo, .int .i64 n1.hi, .int .i64 n1.mode, .int .i64 n1.ref, .slice A1 n1.set.length p1, .slice B1 n1.kids.length q1, .int .i64 (g1 : Nat), .bool false] ∧ Blk w4 w2.heap.size 29 #[.int .i64 n2.kind, .int .i64 n2.lo, .int .i64 n2.hi, .int .i64 n2.mode, .int .i64 n2.ref, .slice A2 n2.set.length p2, .slice B2 n2.kids.length q2, .int .i64 (g2 : Nat), .bool fo2]) := Lib.hid ⟨HB1.out.on k4, HB2.out.on k4⟩
    clear hc2
    go_upto_region 16 with (fail)
    refine wp_region_held_drew (S := fun V => Blk V w1.heap.size 29 #[.int .i64 n1.kind, .int .i64 n1.lo, .int .i64 n1.hi, .int .i64 n1.mode, .int .i64 n1.ref, .slice A1 n1.set.length p1, .slice B1 n1.kids.length q1, .int .i64 (g1 : Nat), .bool false] ∧ Blk V w2.heap.size 29 #[.int .i64 n2.kind, .int .i64 n2.lo, .int .i64 n2.hi, .int .i64 n2.mode, .int .i64 n2.ref, .slice A2 n2.set.length p2, .slice B2 n2.kids.length q2, .int .i64 (g2 : Nat), .bool fo2]) (by kernel_rfl) HS4.out (fun hHeld => ?_)
    have hd : Blk w4.drew w1.heap.size 29 #[.int .i64 n1.kind, .int .i64 n1.lo, .int .i64 n1.hi, .int .i64 n1.mode, .int .i64 n1.ref, .slice A1 n1.set.length p1, .slice B1 n1.kids.length q1, .int .i64 (g1 : Nat), .bool false] ∧ Blk w4.drew w2.heap.size 29 #[.int .i64 n2.kind, .int .i64 n2.lo, .int .i64 n2.hi, .int .i64 n2.mode, .int .i64 n2.ref, .slice A2 n2.set.length p2, .slice B2 n2.kids.length q2, .int .i64 (g2 : Nat), .bool fo2] := HS4.out
    have hbd : Below w.heap.size w w4.drew := hbv4.drew
    have kd : Below v2.heap.size v2 w4.drew := k4.drew
    clear HS4 HB1 HB2
    generalize w4.drew = Wd at *
    refine take_d 0 71 (.int .i64 l) _ rfl rfl (by kernel_rfl) (by kernel_rfl) (by kernel_rfl) (fun _ _ _ h => h) (Or.inl ⟨by rfl, fun w' hSw => ?_⟩) hHeld ?_
    · go_simp
    simp only [List.setIfInBounds_toArray, List.set_cons_zero, List.set_cons_succ]
    refine take_d 1 72 (.int .i64 l) _ rfl rfl (by kernel_rfl) (by kernel_rfl) (by kernel_rfl) (fun _ _ _ h => h) (Or.inl ⟨by rfl, fun w' hSw => ?_⟩) hHeld ?_
    · go_simp
    simp only [List.setIfInBounds_toArray, List.set_cons_zero, List.set_cons_succ]
    refine take_d 2 73 (.bool true) _ rfl rfl (by kernel_rfl) (by kernel_rfl) (by kernel_rfl) (fun _ _ _ h => h) (Or.inl ⟨by rfl, fun w' hSw => ?_⟩) hHeld ?_
    · go_simp
    simp only [List.setIfInBounds_toArray, List.set_cons_zero, List.set_cons_succ]
    refine take_d 3 74 (.bool true) _ rfl rfl (by kernel_rfl) (by kernel_rfl) (by kernel_rfl) (fun _ _ _ h => h) (Or.inl ⟨by rfl, fun w' hSw => ?_⟩) hHeld ?_
    · go_simp
    simp only [List.setIfInBounds_toArray, List.set_cons_zero, List.set_cons_succ]
    refine take_d 4 75 (.int .i64 m) _ rfl rfl (by kernel_rfl) (by kernel_rfl) (by kernel_rfl) (fun _ _ _ h => h) (Or.inl ⟨by rfl, fun w' hSw => ?_⟩) hHeld ?_
    · go_simp
    simp only [List.setIfInBounds_toArray, List.set_cons_zero, List.set_cons_succ]
    refine take_d 5 76 (.int .i64 m) _ rfl rfl (by kernel_rfl) (by kernel_rfl) (by kernel_rfl) (fun _ _ _ h => h) (Or.inl ⟨by rfl, fun w' hSw => ?_⟩) hHeld ?_
    · go_simp
    simp only [List.setIfInBounds_toArray, List.set_cons_zero, List.set_cons_succ]
    refine take_d 6 77 (.bool true) _ rfl rfl (by kernel_rfl) (by kernel_rfl) (by kernel_rfl) (fun _ _ _ h => h) (Or.inl ⟨by rfl, fun w' hSw => ?_⟩) hHeld ?_
    · go_simp
    simp only [List.setIfInBounds_toArray, List.set_cons_zero, List.set_cons_succ]
    refine take_d 7 78 (.bool true) _ rfl rfl (by kernel_rfl) (by kernel_rfl) (by kernel_rfl) (fun _ _ _ h => h) (Or.inl ⟨by rfl, fun w' hSw => ?_⟩) hHeld ?_
    · go_simp
    simp only [List.setIfInBounds_toArray, List.set_cons_zero, List.set_cons_succ]
    refine take_d 8 79 (.bool true) _ rfl rfl (by kernel_rfl) (by kernel_rfl) (by kernel_rfl) (fun _ _ _ h => h) (Or.inl ⟨by rfl, fun w' hSw => ?_⟩) hHeld ?_
    · go_simp
    simp only [List.setIfInBounds_toArray, List.set_cons_zero, List.set_cons_succ]
    refine take_d 9 80 (.pointer (some ⟨w2.heap.size, 0, none⟩)) _ rfl rfl (by kernel_rfl) (by kernel_rfl) (by kernel_rfl) (fun _ _ _ h => h) (Or.inl ⟨by rfl, fun w' hSw => ?_⟩) hHeld ?_
    · go_simp
    simp only [List.setIfInBounds_toArray, List.set_cons_zero, List.set_cons_succ]
    refine take_d 10 81 (.agg #[.int .i64 n2.kind, .int .i64 n2.lo, .int .i64 n2.hi, .int .i64 n2.mode, .int .i64 n2.ref, .slice A2 n2.set.length p2, .slice B2 n2.kids.length q2]) _ rfl rfl (by kernel_rfl) (by kernel_rfl) (by kernel_rfl) (fun _ _ _ h => h) (Or.inl ⟨by rfl, fun w' hSw => ?_⟩) hHeld ?_
    · have hS9 := hSw.2.nine
      clear hSw
      go_simp
    simp only [List.setIfInBounds_toArray, List.set_cons_zero, List.set_cons_succ]
    refine take_d 12 83 (.pointer (some ⟨w1.heap.size, 0, none⟩)) _ rfl rfl (by kernel_rfl) (by kernel_rfl) (by kernel_rfl) (fun _ _ _ h => h) (Or.inl ⟨by rfl, fun w' hSw => ?_⟩) hHeld ?_
    · go_simp
    simp only [List.setIfInBounds_toArray, List.set_cons_zero, List.set_cons_succ]
    refine take_d 13 84 (.agg #[.int .i64 n1.kind, .int .i64 n1.lo, .int .i64 n1.hi, .int .i64 n1.mode, .int .i64 n1.ref, .slice A1 n1.set.length p1, .slice B1 n1.kids.length q1]) _ rfl rfl (by kernel_rfl) (by kernel_rfl) (by kernel_rfl) (fun _ _ _ h => h) (Or.inl ⟨by rfl, fun w' hSw => ?_⟩) hHeld ?_
    · have hS9 := hSw.1.nine
      clear hSw
      go_simp
    simp only [List.setIfInBounds_toArray, List.set_cons_zero, List.set_cons_succ]
    refine take_d 15 86 (.int .i64 0) _ rfl rfl (by kernel_rfl) (by kernel_rfl) (by kernel_rfl) (fun _ _ _ h => h) (Or.inl ⟨by rfl, fun w' hSw => ?_⟩) hHeld ?_
    · go_simp
    simp only [List.setIfInBounds_toArray, List.set_cons_zero, List.set_cons_succ]
    refine wpAnyH_ready (rs := [11]) (by kernel_rfl) (by simp) ?_
    refine AllReadyH.cons rfl (fun K hK => ?_) AllReadyH.nil
    go_simp
    refine (HSz2.out Wd kd).mono ?_
    rintro e w5 ⟨rfl, hb5⟩
    have kd5 := kd.trans (hb5.mono kd.size)
    have hbw5 := hbd.trans (hb5.mono hbd.size)
    refine hK.out _ _ ⟨hd.1.on hb5, hd.2.on hb5⟩ (fun hHeld => ?_)
    clear hK K
    refine wpAnyH_ready (rs := [14]) (by kernel_rfl) (by simp) ?_
    refine AllReadyH.cons rfl (fun K hK => ?_) AllReadyH.nil
    go_simp
    refine (HSz1.out w5 kd5).mono ?_
    rintro e w6 ⟨rfl, hb6⟩
    have hbw6 := hbw5.trans (hb6.mono hbw5.size)
    refine hK.out _ _ ⟨(hd.1.on hb5).on hb6, (hd.2.on hb5).on hb6⟩ (fun hHeld => ?_)
    clear hK K
    refine take_d 16 87 (.int .i64 z) _ rfl rfl (by kernel_rfl) (by kernel_rfl) (by kernel_rfl) (fun _ _ _ h => h) (Or.inl ⟨by rfl, fun w' hSw => ?_⟩) hHeld ?_
    · go_simp
      all_goals exact IntWalk.i64_in _ (by omega)
    simp only [List.setIfInBounds_toArray, List.set_cons_zero, List.set_cons_succ]
    refine take_d 17 88 (.int .i64 z2) _ rfl rfl (by kernel_rfl) (by kernel_rfl) (by kernel_rfl) (fun _ _ _ h => h) (Or.inl ⟨by rfl, fun w' hSw => ?_⟩) hHeld ?_
    · go_simp
      rw [HZ.out]; simp
    simp only [List.setIfInBounds_toArray, List.set_cons_zero, List.set_cons_succ]
    refine take_d 18 89 (.bool true) _ rfl rfl (by kernel_rfl) (by kernel_rfl) (by kernel_rfl) (fun _ _ _ h => h) (Or.inl ⟨by rfl, fun w' hSw => ?_⟩) hHeld ?_
    · go_simp
    simp only [List.setIfInBounds_toArray, List.set_cons_zero, List.set_cons_succ]
    refine take_d 19 90 (.bool true) _ rfl rfl (by kernel_rfl) (by kernel_rfl) (by kernel_rfl) (fun _ _ _ h => h) (Or.inl ⟨by rfl, fun w' hSw => ?_⟩) hHeld ?_
    · go_simp
    simp only [List.setIfInBounds_toArray, List.set_cons_zero, List.set_cons_succ]
    refine take_d 20 4 (.bool true) _ rfl rfl (by kernel_rfl) (by kernel_rfl) (by kernel_rfl) (fun _ _ _ h => h) (Or.inl ⟨by rfl, fun w' hSw => ?_⟩) hHeld ?_
    · go_simp
    simp only [List.setIfInBounds_toArray, List.set_cons_zero, List.set_cons_succ]
    refine wpAnyH_done (by kernel_rfl) ?_ _
    clear hHeld
    go_wp2
    go_ret
    exact ⟨rfl, hbw6⟩
  · have HP2 : Hid (∀ W : World, TabsAt W.heap.size W → Calls Tryd.prog 10 #[.string ((⟨#[40, 63, 62]⟩ : ByteArray) ++ x ++ (⟨#[41]⟩ : ByteArray))] W (ParsePost W (parse 1030 ([40, 63, 62] ++ (x.data.toList ++ [41]))))) := Lib.hid (fun W hW => by
      rw [put_eq3]
      exact parse_any 1030 (by omega) (by have : x.data.toList.length = x.size := rfl; simp; omega) hW)
    obtain ⟨r2, hr2⟩ : ∃ r, r = parse 1030 ([40, 63, 62] ++ (x.data.toList ++ [41])) := ⟨_, rfl⟩
    rw [← hr2] at HP2
    have HR2 := Lib.hid (ok_of (by omega) hr2)
    clear hr2
    go_enter Tryd.func8, Tryd.ntmps8
    go_wp2_with fail
    refine HA.out.mono ?_
    rintro e w0 ⟨rfl, hb0⟩
    have HT0 := Lib.hid (tabs_on HT.out hb0 hb0.size)
    go_wp2_with fail
    refine (HP1.out _ HT0.out).mono ?_
    intro e w1 hp
    obtain ⟨A1, B1, p1, q1, rfl, hN, hb1⟩ := hp.uni
    generalize ndOf r1 = n1 at hN HR1 ⊢
    generalize gOf r1 = g1 at HR1 ⊢
    generalize foOf r1 = fo1 at HR1 ⊢
    generalize (fOf r1).1 = fc1 at HR1 ⊢
    generalize (fOf r1).2 = fp1
    unfold pCells
    have P1 := Lib.hid (put_new w0 w1 #[.int .i64 n1.kind, .int .i64 n1.lo, .int .i64 n1.hi, .int .i64 n1.mode, .int .i64 n1.ref, .slice A1 n1.set.length p1, .slice B1 n1.kids.length q1, .int .i64 (g1 : Nat), .bool fo1] #[.int .i64 (fc1 : Nat), .int .i64 (fp1 : Nat)] hb1)
    have HN1 := Lib.hid (hN.on (put_on w1 #[.int .i64 n1.kind, .int .i64 n1.lo, .int .i64 n1.hi, .int .i64 n1.mode, .int .i64 n1.ref, .slice A1 n1.set.length p1, .slice B1 n1.kids.length q1, .int .i64 (g1 : Nat), .bool fo1] #[.int .i64 (fc1 : Nat), .int .i64 (fp1 : Nat)]))
    clear hN hp HP1
    go_upto_region 6 with (fail)
    generalize (w1.alloc (.cells #[.int .i64 n1.kind, .int .i64 n1.lo, .int .i64 n1.hi, .int .i64 n1.mode, .int .i64 n1.ref, .slice A1 n1.set.length p1, .slice B1 n1.kids.length q1, .int .i64 (g1 : Nat), .bool fo1] 29)).alloc (.cells #[.int .i64 (fc1 : Nat), .int .i64 (fp1 : Nat)] 32) = v1 at *
    have hbv1 := hb0.trans (P1.out.keep.mono hb0.size)
    have HT1 := Lib.hid (tabs_on HT.out hbv1 hbv1.size)
    go_wp2_with fail
    refine (HP2.out _ (tabs_on HT1.out (new_str v1 _) (new_str v1 _).size)).mono ?_
    intro e w2 hp
    obtain ⟨A2, B2, p2, q2, rfl, hN, hb2⟩ := hp.uni
    generalize ndOf r2 = n2 at hN HR2 ⊢
    generalize gOf r2 = g2 at HR2 ⊢
    generalize foOf r2 = fo2 at HR2 ⊢
    generalize (fOf r2).1 = fc2 at HR2 ⊢
    generalize (fOf r2).2 = fp2
    unfold pCells
    have P2 := Lib.hid (put_new v1 w2 #[.int .i64 n2.kind, .int .i64 n2.lo, .int .i64 n2.hi, .int .i64 n2.mode, .int .i64 n2.ref, .slice A2 n2.set.length p2, .slice B2 n2.kids.length q2, .int .i64 (g2 : Nat), .bool fo2] #[.int .i64 (fc2 : Nat), .int .i64 (fp2 : Nat)] ((new_str v1 _).trans (hb2.mono (new_str v1 _).size)))
    have HN2 := Lib.hid (hN.on (put_on w2 #[.int .i64 n2.kind, .int .i64 n2.lo, .int .i64 n2.hi, .int .i64 n2.mode, .int .i64 n2.ref, .slice A2 n2.set.length p2, .slice B2 n2.kids.length q2, .int .i64 (g2 : Nat), .bool fo2] #[.int .i64 (fc2 : Nat), .int .i64 (fp2 : Nat)]))
    clear hN hp HP2
    go_upto_region 7 with (fail)
    generalize (w2.alloc (.cells #[.int .i64 n2.kind, .int .i64 n2.lo, .int .i64 n2.hi, .int .i64 n2.mode, .int .i64 n2.ref, .slice A2 n2.set.length p2, .slice B2 n2.kids.length q2, .int .i64 (g2 : Nat), .bool fo2] 29)).alloc (.cells #[.int .i64 (fc2 : Nat), .int .i64 (fp2 : Nat)] 32) = v2 at *
    have hbv2 := hbv1.trans (P2.out.keep.mono hbv1.size)
    have hf1 := (P1.out.flt.on P2.out.keep).cell 0
    have hf2 := P2.out.flt.cell 0
    have hc1 := (P1.out.node.on P2.out.keep).nine
    simp at hf1 hf2
    by_cases h1 : ¬ fc1 = 0
    · have h1' := off_zero h1
      go_wp2
      go_ret
      exact ⟨rfl, hbv2⟩
    obtain rfl : fc1 = 0 := by omega
    simp only [Int.cast_ofNat_Int] at hf1
    by_cases h2 : ¬ fc2 = 0
    · have h2' := off_zero h2
      go_wp2
      go_ret
      exact ⟨rfl, hbv2⟩
    obtain rfl : fc2 = 0 := by omega
    simp only [Int.cast_ofNat_Int] at hf2
    by_cases h3 : fo1 = true
    · subst h3
      go_wp2
      go_ret
      exact ⟨rfl, hbv2⟩
    obtain rfl : fo1 = false := by simpa using h3
    have HW := Lib.hid (parse_wf (HR1.out rfl))
    have HW2 := Lib.hid (parse_wf (HR2.out rfl))
    have HF : Hid (least n2 = least n1 ∧ most n2 = most n1 ∧ ndSize n2 = min (ndSize n1 + 2) 1048576) := Lib.hid (by
      obtain ⟨nd', hw, hl⟩ := one_in open_atomic (by simp) (HR1.out rfl) (by have : x.data.toList.length = x.size := rfl; omega) (HR2.out rfl)
      exact free_wrap (by omega) hw hl HW.out)
    have hl0 := (least_range HW.out).1
    have hl1 : least n1 ≤ 1048576 := (least_range HW.out).2
    have hm0 := (most_range HW.out).1
    have hm1 : most n1 ≤ 1048576 := (most_range HW.out).2
    have hs0 := (ndSize_range HW.out).1
    have hs1 : ndSize n1 ≤ 1048576 := (ndSize_range HW.out).2
    have hc2 := P2.out.node.nine
    have HWd1 := Lib.hid (fun W (hW : Below v2.heap.size v2 W) => width_any n1 HW.out W A1 B1 p1 q1 ((HN1.out.on P2.out.keep).on hW))
    have HWd2 := Lib.hid (fun W (hW : Below v2.heap.size v2 W) => width_any n2 HW2.out W A2 B2 p2 q2 (HN2.out.on hW))
    have HSz1 := Lib.hid (fun W (hW : Below v2.heap.size v2 W) => size_any n1 HW.out W A1 B1 p1 q1 ((HN1.out.on P2.out.keep).on hW))
    have HSz2 := Lib.hid (fun W (hW : Below v2.heap.size v2 W) => size_any n2 HW2.out W A2 B2 p2 q2 (HN2.out.on hW))
    rw [HF.out.1, HF.out.2.1] at HWd2
    have HZ := Lib.hid HF.out.2.2
    clear HF
    generalize ndSize n2 = z2 at *
    generalize least n1 = l at *
    generalize most n1 = m at *
    generalize ndSize n1 = z at *
    have HB1 := Lib.hid (P1.out.node.on P2.out.keep)
    have HB2 := Lib.hid P2.out.node
    clear hc2 P1 P2 HN1 HN2 HR1 HR2
    go_wp2_with fail
    refine (HWd1.out v2 (Below.refl _ _)).mono ?_
    rintro e w3 ⟨rfl, hb3⟩
    have hbv3 := hbv2.trans (hb3.mono hbv2.size)
    have hc2 := (HB2.out.on hb3).nine
    clear hc1 hf1 hf2
    go_wp2_with fail
    refine (HWd2.out w3 hb3).mono ?_
    rintro e w4 ⟨rfl, hb4⟩
    have k4 := hb3.trans (hb4.mono hb3.size)
    have hbv4 := hbv3.trans (hb4.mono hbv3.size)
    have HS4 : Hid (Blk w4 w1.heap.size 29 #[.int .i64 n1.kind, .int .i64 n1.lo, .int .i64 n1.hi, .int .i64 n1.mode, .int .i64 n1.ref, .slice A1 n1.set.length p1, .slice B1 n1.kids.length q1, .int .i64 (g1 : Nat), .bool false] ∧ Blk w4 w2.heap.size 29 #[.int .i64 n2.kind, .int .i64 n2.lo, .int .i64 n2.hi, .int .i64 n2.mode, .int .i64 n2.ref, .slice A2 n2.set.length p2, .slice B2 n2.kids.length q2, .int .i64 (g2 : Nat), .bool fo2]) := Lib.hid ⟨HB1.out.on k4, HB2.out.on k4⟩
    clear hc2
    go_upto_region 16 with (fail)
    refine wp_region_held_drew (S := fun V => Blk V w1.heap.size 29 #[.int .i64 n1.kind, .int .i64 n1.lo, .int .i64 n1.hi, .int .i64 n1.mode, .int .i64 n1.ref, .slice A1 n1.set.length p1, .slice B1 n1.kids.length q1, .int .i64 (g1 : Nat), .bool false] ∧ Blk V w2.heap.size 29 #[.int .i64 n2.kind, .int .i64 n2.lo, .int .i64 n2.hi, .int .i64 n2.mode, .int .i64 n2.ref, .slice A2 n2.set.length p2, .slice B2 n2.kids.length q2, .int .i64 (g2 : Nat), .bool fo2]) (by kernel_rfl) HS4.out (fun hHeld => ?_)
    have hd : Blk w4.drew w1.heap.size 29 #[.int .i64 n1.kind, .int .i64 n1.lo, .int .i64 n1.hi, .int .i64 n1.mode, .int .i64 n1.ref, .slice A1 n1.set.length p1, .slice B1 n1.kids.length q1, .int .i64 (g1 : Nat), .bool false] ∧ Blk w4.drew w2.heap.size 29 #[.int .i64 n2.kind, .int .i64 n2.lo, .int .i64 n2.hi, .int .i64 n2.mode, .int .i64 n2.ref, .slice A2 n2.set.length p2, .slice B2 n2.kids.length q2, .int .i64 (g2 : Nat), .bool fo2] := HS4.out
    have hbd : Below w.heap.size w w4.drew := hbv4.drew
    have kd : Below v2.heap.size v2 w4.drew := k4.drew
    clear HS4 HB1 HB2
    generalize w4.drew = Wd at *
    refine take_d 0 71 (.int .i64 l) _ rfl rfl (by kernel_rfl) (by kernel_rfl) (by kernel_rfl) (fun _ _ _ h => h) (Or.inl ⟨by rfl, fun w' hSw => ?_⟩) hHeld ?_
    · go_simp
    simp only [List.setIfInBounds_toArray, List.set_cons_zero, List.set_cons_succ]
    refine take_d 1 72 (.int .i64 l) _ rfl rfl (by kernel_rfl) (by kernel_rfl) (by kernel_rfl) (fun _ _ _ h => h) (Or.inl ⟨by rfl, fun w' hSw => ?_⟩) hHeld ?_
    · go_simp
    simp only [List.setIfInBounds_toArray, List.set_cons_zero, List.set_cons_succ]
    refine take_d 2 73 (.bool true) _ rfl rfl (by kernel_rfl) (by kernel_rfl) (by kernel_rfl) (fun _ _ _ h => h) (Or.inl ⟨by rfl, fun w' hSw => ?_⟩) hHeld ?_
    · go_simp
    simp only [List.setIfInBounds_toArray, List.set_cons_zero, List.set_cons_succ]
    refine take_d 3 74 (.bool true) _ rfl rfl (by kernel_rfl) (by kernel_rfl) (by kernel_rfl) (fun _ _ _ h => h) (Or.inl ⟨by rfl, fun w' hSw => ?_⟩) hHeld ?_
    · go_simp
    simp only [List.setIfInBounds_toArray, List.set_cons_zero, List.set_cons_succ]
    refine take_d 4 75 (.int .i64 m) _ rfl rfl (by kernel_rfl) (by kernel_rfl) (by kernel_rfl) (fun _ _ _ h => h) (Or.inl ⟨by rfl, fun w' hSw => ?_⟩) hHeld ?_
    · go_simp
    simp only [List.setIfInBounds_toArray, List.set_cons_zero, List.set_cons_succ]
    refine take_d 5 76 (.int .i64 m) _ rfl rfl (by kernel_rfl) (by kernel_rfl) (by kernel_rfl) (fun _ _ _ h => h) (Or.inl ⟨by rfl, fun w' hSw => ?_⟩) hHeld ?_
    · go_simp
    simp only [List.setIfInBounds_toArray, List.set_cons_zero, List.set_cons_succ]
    refine take_d 6 77 (.bool true) _ rfl rfl (by kernel_rfl) (by kernel_rfl) (by kernel_rfl) (fun _ _ _ h => h) (Or.inl ⟨by rfl, fun w' hSw => ?_⟩) hHeld ?_
    · go_simp
    simp only [List.setIfInBounds_toArray, List.set_cons_zero, List.set_cons_succ]
    refine take_d 7 78 (.bool true) _ rfl rfl (by kernel_rfl) (by kernel_rfl) (by kernel_rfl) (fun _ _ _ h => h) (Or.inl ⟨by rfl, fun w' hSw => ?_⟩) hHeld ?_
    · go_simp
    simp only [List.setIfInBounds_toArray, List.set_cons_zero, List.set_cons_succ]
    refine take_d 8 79 (.bool true) _ rfl rfl (by kernel_rfl) (by kernel_rfl) (by kernel_rfl) (fun _ _ _ h => h) (Or.inl ⟨by rfl, fun w' hSw => ?_⟩) hHeld ?_
    · go_simp
    simp only [List.setIfInBounds_toArray, List.set_cons_zero, List.set_cons_succ]
    refine take_d 9 80 (.pointer (some ⟨w2.heap.size, 0, none⟩)) _ rfl rfl (by kernel_rfl) (by kernel_rfl) (by kernel_rfl) (fun _ _ _ h => h) (Or.inl ⟨by rfl, fun w' hSw => ?_⟩) hHeld ?_
    · go_simp
    simp only [List.setIfInBounds_toArray, List.set_cons_zero, List.set_cons_succ]
    refine take_d 10 81 (.agg #[.int .i64 n2.kind, .int .i64 n2.lo, .int .i64 n2.hi, .int .i64 n2.mode, .int .i64 n2.ref, .slice A2 n2.set.length p2, .slice B2 n2.kids.length q2]) _ rfl rfl (by kernel_rfl) (by kernel_rfl) (by kernel_rfl) (fun _ _ _ h => h) (Or.inl ⟨by rfl, fun w' hSw => ?_⟩) hHeld ?_
    · have hS9 := hSw.2.nine
      clear hSw
      go_simp
    simp only [List.setIfInBounds_toArray, List.set_cons_zero, List.set_cons_succ]
    refine take_d 12 83 (.pointer (some ⟨w1.heap.size, 0, none⟩)) _ rfl rfl (by kernel_rfl) (by kernel_rfl) (by kernel_rfl) (fun _ _ _ h => h) (Or.inl ⟨by rfl, fun w' hSw => ?_⟩) hHeld ?_
    · go_simp
    simp only [List.setIfInBounds_toArray, List.set_cons_zero, List.set_cons_succ]
    refine take_d 13 84 (.agg #[.int .i64 n1.kind, .int .i64 n1.lo, .int .i64 n1.hi, .int .i64 n1.mode, .int .i64 n1.ref, .slice A1 n1.set.length p1, .slice B1 n1.kids.length q1]) _ rfl rfl (by kernel_rfl) (by kernel_rfl) (by kernel_rfl) (fun _ _ _ h => h) (Or.inl ⟨by rfl, fun w' hSw => ?_⟩) hHeld ?_
    · have hS9 := hSw.1.nine
      clear hSw
      go_simp
    simp only [List.setIfInBounds_toArray, List.set_cons_zero, List.set_cons_succ]
    refine take_d 15 86 (.int .i64 2) _ rfl rfl (by kernel_rfl) (by kernel_rfl) (by kernel_rfl) (fun _ _ _ h => h) (Or.inl ⟨by rfl, fun w' hSw => ?_⟩) hHeld ?_
    · go_simp
    simp only [List.setIfInBounds_toArray, List.set_cons_zero, List.set_cons_succ]
    refine wpAnyH_ready (rs := [11]) (by kernel_rfl) (by simp) ?_
    refine AllReadyH.cons rfl (fun K hK => ?_) AllReadyH.nil
    go_simp
    refine (HSz2.out Wd kd).mono ?_
    rintro e w5 ⟨rfl, hb5⟩
    have kd5 := kd.trans (hb5.mono kd.size)
    have hbw5 := hbd.trans (hb5.mono hbd.size)
    refine hK.out _ _ ⟨hd.1.on hb5, hd.2.on hb5⟩ (fun hHeld => ?_)
    clear hK K
    refine wpAnyH_ready (rs := [14]) (by kernel_rfl) (by simp) ?_
    refine AllReadyH.cons rfl (fun K hK => ?_) AllReadyH.nil
    go_simp
    refine (HSz1.out w5 kd5).mono ?_
    rintro e w6 ⟨rfl, hb6⟩
    have hbw6 := hbw5.trans (hb6.mono hbw5.size)
    refine hK.out _ _ ⟨(hd.1.on hb5).on hb6, (hd.2.on hb5).on hb6⟩ (fun hHeld => ?_)
    clear hK K
    refine take_d 16 87 (.int .i64 (z + 2)) _ rfl rfl (by kernel_rfl) (by kernel_rfl) (by kernel_rfl) (fun _ _ _ h => h) (Or.inl ⟨by rfl, fun w' hSw => ?_⟩) hHeld ?_
    · go_simp
      all_goals exact IntWalk.i64_in _ (by omega)
    simp only [List.setIfInBounds_toArray, List.set_cons_zero, List.set_cons_succ]
    refine take_d 17 88 (.int .i64 z2) _ rfl rfl (by kernel_rfl) (by kernel_rfl) (by kernel_rfl) (fun _ _ _ h => h) (Or.inl ⟨by rfl, fun w' hSw => ?_⟩) hHeld ?_
    · go_simp
      rw [HZ.out]
    simp only [List.setIfInBounds_toArray, List.set_cons_zero, List.set_cons_succ]
    refine take_d 18 89 (.bool true) _ rfl rfl (by kernel_rfl) (by kernel_rfl) (by kernel_rfl) (fun _ _ _ h => h) (Or.inl ⟨by rfl, fun w' hSw => ?_⟩) hHeld ?_
    · go_simp
    simp only [List.setIfInBounds_toArray, List.set_cons_zero, List.set_cons_succ]
    refine take_d 19 90 (.bool true) _ rfl rfl (by kernel_rfl) (by kernel_rfl) (by kernel_rfl) (fun _ _ _ h => h) (Or.inl ⟨by rfl, fun w' hSw => ?_⟩) hHeld ?_
    · go_simp
    simp only [List.setIfInBounds_toArray, List.set_cons_zero, List.set_cons_succ]
    refine take_d 20 4 (.bool true) _ rfl rfl (by kernel_rfl) (by kernel_rfl) (by kernel_rfl) (fun _ _ _ h => h) (Or.inl ⟨by rfl, fun w' hSw => ?_⟩) hHeld ?_
    · go_simp
    simp only [List.setIfInBounds_toArray, List.set_cons_zero, List.set_cons_succ]
    refine wpAnyH_done (by kernel_rfl) ?_ _
    clear hHeld
    go_wp2
    go_ret
    exact ⟨rfl, hbw6⟩
  · have HP2 : Hid (∀ W : World, TabsAt W.heap.size W → Calls Tryd.prog 10 #[.string ((⟨#[40]⟩ : ByteArray) ++ x ++ (⟨#[41]⟩ : ByteArray))] W (ParsePost W (parse 1030 ([40] ++ (x.data.toList ++ [41]))))) := Lib.hid (fun W hW => by
      rw [put_eq1]
      exact parse_any 1030 (by omega) (by have : x.data.toList.length = x.size := rfl; simp; omega) hW)
    obtain ⟨r2, hr2⟩ : ∃ r, r = parse 1030 ([40] ++ (x.data.toList ++ [41])) := ⟨_, rfl⟩
    rw [← hr2] at HP2
    have HR2 := Lib.hid (ok_of (by omega) hr2)
    clear hr2
    go_enter Tryd.func8, Tryd.ntmps8
    go_wp2_with fail
    refine HA.out.mono ?_
    rintro e w0 ⟨rfl, hb0⟩
    have HT0 := Lib.hid (tabs_on HT.out hb0 hb0.size)
    go_wp2_with fail
    refine (HP1.out _ HT0.out).mono ?_
    intro e w1 hp
    obtain ⟨A1, B1, p1, q1, rfl, hN, hb1⟩ := hp.uni
    generalize ndOf r1 = n1 at hN HR1 ⊢
    generalize gOf r1 = g1 at HR1 ⊢
    generalize foOf r1 = fo1 at HR1 ⊢
    generalize (fOf r1).1 = fc1 at HR1 ⊢
    generalize (fOf r1).2 = fp1
    unfold pCells
    have P1 := Lib.hid (put_new w0 w1 #[.int .i64 n1.kind, .int .i64 n1.lo, .int .i64 n1.hi, .int .i64 n1.mode, .int .i64 n1.ref, .slice A1 n1.set.length p1, .slice B1 n1.kids.length q1, .int .i64 (g1 : Nat), .bool fo1] #[.int .i64 (fc1 : Nat), .int .i64 (fp1 : Nat)] hb1)
    have HN1 := Lib.hid (hN.on (put_on w1 #[.int .i64 n1.kind, .int .i64 n1.lo, .int .i64 n1.hi, .int .i64 n1.mode, .int .i64 n1.ref, .slice A1 n1.set.length p1, .slice B1 n1.kids.length q1, .int .i64 (g1 : Nat), .bool fo1] #[.int .i64 (fc1 : Nat), .int .i64 (fp1 : Nat)]))
    clear hN hp HP1
    go_upto_region 6 with (fail)
    generalize (w1.alloc (.cells #[.int .i64 n1.kind, .int .i64 n1.lo, .int .i64 n1.hi, .int .i64 n1.mode, .int .i64 n1.ref, .slice A1 n1.set.length p1, .slice B1 n1.kids.length q1, .int .i64 (g1 : Nat), .bool fo1] 29)).alloc (.cells #[.int .i64 (fc1 : Nat), .int .i64 (fp1 : Nat)] 32) = v1 at *
    have hbv1 := hb0.trans (P1.out.keep.mono hb0.size)
    have HT1 := Lib.hid (tabs_on HT.out hbv1 hbv1.size)
    go_wp2_with fail
    refine (HP2.out _ (tabs_on HT1.out (new_str v1 _) (new_str v1 _).size)).mono ?_
    intro e w2 hp
    obtain ⟨A2, B2, p2, q2, rfl, hN, hb2⟩ := hp.uni
    generalize ndOf r2 = n2 at hN HR2 ⊢
    generalize gOf r2 = g2 at HR2 ⊢
    generalize foOf r2 = fo2 at HR2 ⊢
    generalize (fOf r2).1 = fc2 at HR2 ⊢
    generalize (fOf r2).2 = fp2
    unfold pCells
    have P2 := Lib.hid (put_new v1 w2 #[.int .i64 n2.kind, .int .i64 n2.lo, .int .i64 n2.hi, .int .i64 n2.mode, .int .i64 n2.ref, .slice A2 n2.set.length p2, .slice B2 n2.kids.length q2, .int .i64 (g2 : Nat), .bool fo2] #[.int .i64 (fc2 : Nat), .int .i64 (fp2 : Nat)] ((new_str v1 _).trans (hb2.mono (new_str v1 _).size)))
    have HN2 := Lib.hid (hN.on (put_on w2 #[.int .i64 n2.kind, .int .i64 n2.lo, .int .i64 n2.hi, .int .i64 n2.mode, .int .i64 n2.ref, .slice A2 n2.set.length p2, .slice B2 n2.kids.length q2, .int .i64 (g2 : Nat), .bool fo2] #[.int .i64 (fc2 : Nat), .int .i64 (fp2 : Nat)]))
    clear hN hp HP2
    go_upto_region 7 with (fail)
    generalize (w2.alloc (.cells #[.int .i64 n2.kind, .int .i64 n2.lo, .int .i64 n2.hi, .int .i64 n2.mode, .int .i64 n2.ref, .slice A2 n2.set.length p2, .slice B2 n2.kids.length q2, .int .i64 (g2 : Nat), .bool fo2] 29)).alloc (.cells #[.int .i64 (fc2 : Nat), .int .i64 (fp2 : Nat)] 32) = v2 at *
    have hbv2 := hbv1.trans (P2.out.keep.mono hbv1.size)
    have hf1 := (P1.out.flt.on P2.out.keep).cell 0
    have hf2 := P2.out.flt.cell 0
    have hc1 := (P1.out.node.on P2.out.keep).nine
    simp at hf1 hf2
    by_cases h1 : ¬ fc1 = 0
    · have h1' := off_zero h1
      go_wp2
      go_ret
      exact ⟨rfl, hbv2⟩
    obtain rfl : fc1 = 0 := by omega
    simp only [Int.cast_ofNat_Int] at hf1
    by_cases h2 : ¬ fc2 = 0
    · have h2' := off_zero h2
      go_wp2
      go_ret
      exact ⟨rfl, hbv2⟩
    obtain rfl : fc2 = 0 := by omega
    simp only [Int.cast_ofNat_Int] at hf2
    by_cases h3 : fo1 = true
    · subst h3
      go_wp2
      go_ret
      exact ⟨rfl, hbv2⟩
    obtain rfl : fo1 = false := by simpa using h3
    have HW := Lib.hid (parse_wf (HR1.out rfl))
    have HW2 := Lib.hid (parse_wf (HR2.out rfl))
    have HF : Hid (least n2 = least n1 ∧ most n2 = most n1 ∧ ndSize n2 = min (ndSize n1 + 2) 1048576) := Lib.hid (by
      obtain ⟨nd', hw, hl⟩ := one_in open_group (by simp) (HR1.out rfl) (by have : x.data.toList.length = x.size := rfl; omega) (HR2.out rfl)
      exact free_wrap (by omega) hw hl HW.out)
    have hl0 := (least_range HW.out).1
    have hl1 : least n1 ≤ 1048576 := (least_range HW.out).2
    have hm0 := (most_range HW.out).1
    have hm1 : most n1 ≤ 1048576 := (most_range HW.out).2
    have hs0 := (ndSize_range HW.out).1
    have hs1 : ndSize n1 ≤ 1048576 := (ndSize_range HW.out).2
    have hc2 := P2.out.node.nine
    have HWd1 := Lib.hid (fun W (hW : Below v2.heap.size v2 W) => width_any n1 HW.out W A1 B1 p1 q1 ((HN1.out.on P2.out.keep).on hW))
    have HWd2 := Lib.hid (fun W (hW : Below v2.heap.size v2 W) => width_any n2 HW2.out W A2 B2 p2 q2 (HN2.out.on hW))
    have HSz1 := Lib.hid (fun W (hW : Below v2.heap.size v2 W) => size_any n1 HW.out W A1 B1 p1 q1 ((HN1.out.on P2.out.keep).on hW))
    have HSz2 := Lib.hid (fun W (hW : Below v2.heap.size v2 W) => size_any n2 HW2.out W A2 B2 p2 q2 (HN2.out.on hW))
    rw [HF.out.1, HF.out.2.1] at HWd2
    have HZ := Lib.hid HF.out.2.2
    clear HF
    generalize ndSize n2 = z2 at *
    generalize least n1 = l at *
    generalize most n1 = m at *
    generalize ndSize n1 = z at *
    have HB1 := Lib.hid (P1.out.node.on P2.out.keep)
    have HB2 := Lib.hid P2.out.node
    clear hc2 P1 P2 HN1 HN2 HR1 HR2
    go_wp2_with fail
    refine (HWd1.out v2 (Below.refl _ _)).mono ?_
    rintro e w3 ⟨rfl, hb3⟩
    have hbv3 := hbv2.trans (hb3.mono hbv2.size)
    have hc2 := (HB2.out.on hb3).nine
    clear hc1 hf1 hf2
    go_wp2_with fail
    refine (HWd2.out w3 hb3).mono ?_
    rintro e w4 ⟨rfl, hb4⟩
    have k4 := hb3.trans (hb4.mono hb3.size)
    have hbv4 := hbv3.trans (hb4.mono hbv3.size)
    have HS4 : Hid (Blk w4 w1.heap.size 29 #[.int .i64 n1.kind, .int .i64 n1.lo, .int .i64 n1.hi, .int .i64 n1.mode, .int .i64 n1.ref, .slice A1 n1.set.length p1, .slice B1 n1.kids.length q1, .int .i64 (g1 : Nat), .bool false] ∧ Blk w4 w2.heap.size 29 #[.int .i64 n2.kind, .int .i64 n2.lo, .int .i64 n2.hi, .int .i64 n2.mode, .int .i64 n2.ref, .slice A2 n2.set.length p2, .slice B2 n2.kids.length q2, .int .i64 (g2 : Nat), .bool fo2]) := Lib.hid ⟨HB1.out.on k4, HB2.out.on k4⟩
    clear hc2
    go_upto_region 16 with (fail)
    refine wp_region_held_drew (S := fun V => Blk V w1.heap.size 29 #[.int .i64 n1.kind, .int .i64 n1.lo, .int .i64 n1.hi, .int .i64 n1.mode, .int .i64 n1.ref, .slice A1 n1.set.length p1, .slice B1 n1.kids.length q1, .int .i64 (g1 : Nat), .bool false] ∧ Blk V w2.heap.size 29 #[.int .i64 n2.kind, .int .i64 n2.lo, .int .i64 n2.hi, .int .i64 n2.mode, .int .i64 n2.ref, .slice A2 n2.set.length p2, .slice B2 n2.kids.length q2, .int .i64 (g2 : Nat), .bool fo2]) (by kernel_rfl) HS4.out (fun hHeld => ?_)
    have hd : Blk w4.drew w1.heap.size 29 #[.int .i64 n1.kind, .int .i64 n1.lo, .int .i64 n1.hi, .int .i64 n1.mode, .int .i64 n1.ref, .slice A1 n1.set.length p1, .slice B1 n1.kids.length q1, .int .i64 (g1 : Nat), .bool false] ∧ Blk w4.drew w2.heap.size 29 #[.int .i64 n2.kind, .int .i64 n2.lo, .int .i64 n2.hi, .int .i64 n2.mode, .int .i64 n2.ref, .slice A2 n2.set.length p2, .slice B2 n2.kids.length q2, .int .i64 (g2 : Nat), .bool fo2] := HS4.out
    have hbd : Below w.heap.size w w4.drew := hbv4.drew
    have kd : Below v2.heap.size v2 w4.drew := k4.drew
    clear HS4 HB1 HB2
    generalize w4.drew = Wd at *
    refine take_d 0 71 (.int .i64 l) _ rfl rfl (by kernel_rfl) (by kernel_rfl) (by kernel_rfl) (fun _ _ _ h => h) (Or.inl ⟨by rfl, fun w' hSw => ?_⟩) hHeld ?_
    · go_simp
    simp only [List.setIfInBounds_toArray, List.set_cons_zero, List.set_cons_succ]
    refine take_d 1 72 (.int .i64 l) _ rfl rfl (by kernel_rfl) (by kernel_rfl) (by kernel_rfl) (fun _ _ _ h => h) (Or.inl ⟨by rfl, fun w' hSw => ?_⟩) hHeld ?_
    · go_simp
    simp only [List.setIfInBounds_toArray, List.set_cons_zero, List.set_cons_succ]
    refine take_d 2 73 (.bool true) _ rfl rfl (by kernel_rfl) (by kernel_rfl) (by kernel_rfl) (fun _ _ _ h => h) (Or.inl ⟨by rfl, fun w' hSw => ?_⟩) hHeld ?_
    · go_simp
    simp only [List.setIfInBounds_toArray, List.set_cons_zero, List.set_cons_succ]
    refine take_d 3 74 (.bool true) _ rfl rfl (by kernel_rfl) (by kernel_rfl) (by kernel_rfl) (fun _ _ _ h => h) (Or.inl ⟨by rfl, fun w' hSw => ?_⟩) hHeld ?_
    · go_simp
    simp only [List.setIfInBounds_toArray, List.set_cons_zero, List.set_cons_succ]
    refine take_d 4 75 (.int .i64 m) _ rfl rfl (by kernel_rfl) (by kernel_rfl) (by kernel_rfl) (fun _ _ _ h => h) (Or.inl ⟨by rfl, fun w' hSw => ?_⟩) hHeld ?_
    · go_simp
    simp only [List.setIfInBounds_toArray, List.set_cons_zero, List.set_cons_succ]
    refine take_d 5 76 (.int .i64 m) _ rfl rfl (by kernel_rfl) (by kernel_rfl) (by kernel_rfl) (fun _ _ _ h => h) (Or.inl ⟨by rfl, fun w' hSw => ?_⟩) hHeld ?_
    · go_simp
    simp only [List.setIfInBounds_toArray, List.set_cons_zero, List.set_cons_succ]
    refine take_d 6 77 (.bool true) _ rfl rfl (by kernel_rfl) (by kernel_rfl) (by kernel_rfl) (fun _ _ _ h => h) (Or.inl ⟨by rfl, fun w' hSw => ?_⟩) hHeld ?_
    · go_simp
    simp only [List.setIfInBounds_toArray, List.set_cons_zero, List.set_cons_succ]
    refine take_d 7 78 (.bool true) _ rfl rfl (by kernel_rfl) (by kernel_rfl) (by kernel_rfl) (fun _ _ _ h => h) (Or.inl ⟨by rfl, fun w' hSw => ?_⟩) hHeld ?_
    · go_simp
    simp only [List.setIfInBounds_toArray, List.set_cons_zero, List.set_cons_succ]
    refine take_d 8 79 (.bool true) _ rfl rfl (by kernel_rfl) (by kernel_rfl) (by kernel_rfl) (fun _ _ _ h => h) (Or.inl ⟨by rfl, fun w' hSw => ?_⟩) hHeld ?_
    · go_simp
    simp only [List.setIfInBounds_toArray, List.set_cons_zero, List.set_cons_succ]
    refine take_d 9 80 (.pointer (some ⟨w2.heap.size, 0, none⟩)) _ rfl rfl (by kernel_rfl) (by kernel_rfl) (by kernel_rfl) (fun _ _ _ h => h) (Or.inl ⟨by rfl, fun w' hSw => ?_⟩) hHeld ?_
    · go_simp
    simp only [List.setIfInBounds_toArray, List.set_cons_zero, List.set_cons_succ]
    refine take_d 10 81 (.agg #[.int .i64 n2.kind, .int .i64 n2.lo, .int .i64 n2.hi, .int .i64 n2.mode, .int .i64 n2.ref, .slice A2 n2.set.length p2, .slice B2 n2.kids.length q2]) _ rfl rfl (by kernel_rfl) (by kernel_rfl) (by kernel_rfl) (fun _ _ _ h => h) (Or.inl ⟨by rfl, fun w' hSw => ?_⟩) hHeld ?_
    · have hS9 := hSw.2.nine
      clear hSw
      go_simp
    simp only [List.setIfInBounds_toArray, List.set_cons_zero, List.set_cons_succ]
    refine take_d 12 83 (.pointer (some ⟨w1.heap.size, 0, none⟩)) _ rfl rfl (by kernel_rfl) (by kernel_rfl) (by kernel_rfl) (fun _ _ _ h => h) (Or.inl ⟨by rfl, fun w' hSw => ?_⟩) hHeld ?_
    · go_simp
    simp only [List.setIfInBounds_toArray, List.set_cons_zero, List.set_cons_succ]
    refine take_d 13 84 (.agg #[.int .i64 n1.kind, .int .i64 n1.lo, .int .i64 n1.hi, .int .i64 n1.mode, .int .i64 n1.ref, .slice A1 n1.set.length p1, .slice B1 n1.kids.length q1]) _ rfl rfl (by kernel_rfl) (by kernel_rfl) (by kernel_rfl) (fun _ _ _ h => h) (Or.inl ⟨by rfl, fun w' hSw => ?_⟩) hHeld ?_
    · have hS9 := hSw.1.nine
      clear hSw
      go_simp
    simp only [List.setIfInBounds_toArray, List.set_cons_zero, List.set_cons_succ]
    refine take_d 15 86 (.int .i64 2) _ rfl rfl (by kernel_rfl) (by kernel_rfl) (by kernel_rfl) (fun _ _ _ h => h) (Or.inl ⟨by rfl, fun w' hSw => ?_⟩) hHeld ?_
    · go_simp
    simp only [List.setIfInBounds_toArray, List.set_cons_zero, List.set_cons_succ]
    refine wpAnyH_ready (rs := [11]) (by kernel_rfl) (by simp) ?_
    refine AllReadyH.cons rfl (fun K hK => ?_) AllReadyH.nil
    go_simp
    refine (HSz2.out Wd kd).mono ?_
    rintro e w5 ⟨rfl, hb5⟩
    have kd5 := kd.trans (hb5.mono kd.size)
    have hbw5 := hbd.trans (hb5.mono hbd.size)
    refine hK.out _ _ ⟨hd.1.on hb5, hd.2.on hb5⟩ (fun hHeld => ?_)
    clear hK K
    refine wpAnyH_ready (rs := [14]) (by kernel_rfl) (by simp) ?_
    refine AllReadyH.cons rfl (fun K hK => ?_) AllReadyH.nil
    go_simp
    refine (HSz1.out w5 kd5).mono ?_
    rintro e w6 ⟨rfl, hb6⟩
    have hbw6 := hbw5.trans (hb6.mono hbw5.size)
    refine hK.out _ _ ⟨(hd.1.on hb5).on hb6, (hd.2.on hb5).on hb6⟩ (fun hHeld => ?_)
    clear hK K
    refine take_d 16 87 (.int .i64 (z + 2)) _ rfl rfl (by kernel_rfl) (by kernel_rfl) (by kernel_rfl) (fun _ _ _ h => h) (Or.inl ⟨by rfl, fun w' hSw => ?_⟩) hHeld ?_
    · go_simp
      all_goals exact IntWalk.i64_in _ (by omega)
    simp only [List.setIfInBounds_toArray, List.set_cons_zero, List.set_cons_succ]
    refine take_d 17 88 (.int .i64 z2) _ rfl rfl (by kernel_rfl) (by kernel_rfl) (by kernel_rfl) (fun _ _ _ h => h) (Or.inl ⟨by rfl, fun w' hSw => ?_⟩) hHeld ?_
    · go_simp
      rw [HZ.out]
    simp only [List.setIfInBounds_toArray, List.set_cons_zero, List.set_cons_succ]
    refine take_d 18 89 (.bool true) _ rfl rfl (by kernel_rfl) (by kernel_rfl) (by kernel_rfl) (fun _ _ _ h => h) (Or.inl ⟨by rfl, fun w' hSw => ?_⟩) hHeld ?_
    · go_simp
    simp only [List.setIfInBounds_toArray, List.set_cons_zero, List.set_cons_succ]
    refine take_d 19 90 (.bool true) _ rfl rfl (by kernel_rfl) (by kernel_rfl) (by kernel_rfl) (fun _ _ _ h => h) (Or.inl ⟨by rfl, fun w' hSw => ?_⟩) hHeld ?_
    · go_simp
    simp only [List.setIfInBounds_toArray, List.set_cons_zero, List.set_cons_succ]
    refine take_d 20 4 (.bool true) _ rfl rfl (by kernel_rfl) (by kernel_rfl) (by kernel_rfl) (fun _ _ _ h => h) (Or.inl ⟨by rfl, fun w' hSw => ?_⟩) hHeld ?_
    · go_simp
    simp only [List.setIfInBounds_toArray, List.set_cons_zero, List.set_cons_succ]
    refine wpAnyH_done (by kernel_rfl) ?_ _
    clear hHeld
    go_wp2
    go_ret
    exact ⟨rfl, hbw6⟩
  · have HP2 : Hid (∀ W : World, TabsAt W.heap.size W → Calls Tryd.prog 10 #[.string ((⟨#[40, 63, 61]⟩ : ByteArray) ++ x ++ (⟨#[41]⟩ : ByteArray))] W (ParsePost W (parse 1030 ([40, 63, 61] ++ (x.data.toList ++ [41]))))) := Lib.hid (fun W hW => by
      rw [put_eq3]
      exact parse_any 1030 (by omega) (by have : x.data.toList.length = x.size := rfl; simp; omega) hW)
    obtain ⟨r2, hr2⟩ : ∃ r, r = parse 1030 ([40, 63, 61] ++ (x.data.toList ++ [41])) := ⟨_, rfl⟩
    rw [← hr2] at HP2
    have HR2 := Lib.hid (ok_of (by omega) hr2)
    clear hr2
    go_enter Tryd.func8, Tryd.ntmps8
    go_wp2_with fail
    refine HA.out.mono ?_
    rintro e w0 ⟨rfl, hb0⟩
    have HT0 := Lib.hid (tabs_on HT.out hb0 hb0.size)
    go_wp2_with fail
    refine (HP1.out _ HT0.out).mono ?_
    intro e w1 hp
    obtain ⟨A1, B1, p1, q1, rfl, hN, hb1⟩ := hp.uni
    generalize ndOf r1 = n1 at hN HR1 ⊢
    generalize gOf r1 = g1 at HR1 ⊢
    generalize foOf r1 = fo1 at HR1 ⊢
    generalize (fOf r1).1 = fc1 at HR1 ⊢
    generalize (fOf r1).2 = fp1
    unfold pCells
    have P1 := Lib.hid (put_new w0 w1 #[.int .i64 n1.kind, .int .i64 n1.lo, .int .i64 n1.hi, .int .i64 n1.mode, .int .i64 n1.ref, .slice A1 n1.set.length p1, .slice B1 n1.kids.length q1, .int .i64 (g1 : Nat), .bool fo1] #[.int .i64 (fc1 : Nat), .int .i64 (fp1 : Nat)] hb1)
    have HN1 := Lib.hid (hN.on (put_on w1 #[.int .i64 n1.kind, .int .i64 n1.lo, .int .i64 n1.hi, .int .i64 n1.mode, .int .i64 n1.ref, .slice A1 n1.set.length p1, .slice B1 n1.kids.length q1, .int .i64 (g1 : Nat), .bool fo1] #[.int .i64 (fc1 : Nat), .int .i64 (fp1 : Nat)]))
    clear hN hp HP1
    go_upto_region 6 with (fail)
    generalize (w1.alloc (.cells #[.int .i64 n1.kind, .int .i64 n1.lo, .int .i64 n1.hi, .int .i64 n1.mode, .int .i64 n1.ref, .slice A1 n1.set.length p1, .slice B1 n1.kids.length q1, .int .i64 (g1 : Nat), .bool fo1] 29)).alloc (.cells #[.int .i64 (fc1 : Nat), .int .i64 (fp1 : Nat)] 32) = v1 at *
    have hbv1 := hb0.trans (P1.out.keep.mono hb0.size)
    have HT1 := Lib.hid (tabs_on HT.out hbv1 hbv1.size)
    go_wp2_with fail
    refine (HP2.out _ (tabs_on HT1.out (new_str v1 _) (new_str v1 _).size)).mono ?_
    intro e w2 hp
    obtain ⟨A2, B2, p2, q2, rfl, hN, hb2⟩ := hp.uni
    generalize ndOf r2 = n2 at hN HR2 ⊢
    generalize gOf r2 = g2 at HR2 ⊢
    generalize foOf r2 = fo2 at HR2 ⊢
    generalize (fOf r2).1 = fc2 at HR2 ⊢
    generalize (fOf r2).2 = fp2
    unfold pCells
    have P2 := Lib.hid (put_new v1 w2 #[.int .i64 n2.kind, .int .i64 n2.lo, .int .i64 n2.hi, .int .i64 n2.mode, .int .i64 n2.ref, .slice A2 n2.set.length p2, .slice B2 n2.kids.length q2, .int .i64 (g2 : Nat), .bool fo2] #[.int .i64 (fc2 : Nat), .int .i64 (fp2 : Nat)] ((new_str v1 _).trans (hb2.mono (new_str v1 _).size)))
    have HN2 := Lib.hid (hN.on (put_on w2 #[.int .i64 n2.kind, .int .i64 n2.lo, .int .i64 n2.hi, .int .i64 n2.mode, .int .i64 n2.ref, .slice A2 n2.set.length p2, .slice B2 n2.kids.length q2, .int .i64 (g2 : Nat), .bool fo2] #[.int .i64 (fc2 : Nat), .int .i64 (fp2 : Nat)]))
    clear hN hp HP2
    go_upto_region 7 with (fail)
    generalize (w2.alloc (.cells #[.int .i64 n2.kind, .int .i64 n2.lo, .int .i64 n2.hi, .int .i64 n2.mode, .int .i64 n2.ref, .slice A2 n2.set.length p2, .slice B2 n2.kids.length q2, .int .i64 (g2 : Nat), .bool fo2] 29)).alloc (.cells #[.int .i64 (fc2 : Nat), .int .i64 (fp2 : Nat)] 32) = v2 at *
    have hbv2 := hbv1.trans (P2.out.keep.mono hbv1.size)
    have hf1 := (P1.out.flt.on P2.out.keep).cell 0
    have hf2 := P2.out.flt.cell 0
    have hc1 := (P1.out.node.on P2.out.keep).nine
    simp at hf1 hf2
    by_cases h1 : ¬ fc1 = 0
    · have h1' := off_zero h1
      go_wp2
      go_ret
      exact ⟨rfl, hbv2⟩
    obtain rfl : fc1 = 0 := by omega
    simp only [Int.cast_ofNat_Int] at hf1
    by_cases h2 : ¬ fc2 = 0
    · have h2' := off_zero h2
      go_wp2
      go_ret
      exact ⟨rfl, hbv2⟩
    obtain rfl : fc2 = 0 := by omega
    simp only [Int.cast_ofNat_Int] at hf2
    by_cases h3 : fo1 = true
    · subst h3
      go_wp2
      go_ret
      exact ⟨rfl, hbv2⟩
    obtain rfl : fo1 = false := by simpa using h3
    have HW := Lib.hid (parse_wf (HR1.out rfl))
    have HW2 := Lib.hid (parse_wf (HR2.out rfl))
    have HF : Hid (least n2 = 0 ∧ most n2 = 0 ∧ ndSize n2 = min (ndSize n1 + 2) 1048576) := Lib.hid (by
      obtain ⟨nd', hw, hl⟩ := one_in open_ahead (by simp) (HR1.out rfl) (by have : x.data.toList.length = x.size := rfl; omega) (HR2.out rfl)
      exact ⟨(free_look hw hl).1, (free_look hw hl).2.1, (free_look hw hl).2.2.1⟩)
    have hl0 := (least_range HW.out).1
    have hl1 : least n1 ≤ 1048576 := (least_range HW.out).2
    have hm0 := (most_range HW.out).1
    have hm1 : most n1 ≤ 1048576 := (most_range HW.out).2
    have hs0 := (ndSize_range HW.out).1
    have hs1 : ndSize n1 ≤ 1048576 := (ndSize_range HW.out).2
    have hc2 := P2.out.node.nine
    have HWd1 := Lib.hid (fun W (hW : Below v2.heap.size v2 W) => width_any n1 HW.out W A1 B1 p1 q1 ((HN1.out.on P2.out.keep).on hW))
    have HWd2 := Lib.hid (fun W (hW : Below v2.heap.size v2 W) => width_any n2 HW2.out W A2 B2 p2 q2 (HN2.out.on hW))
    have HSz1 := Lib.hid (fun W (hW : Below v2.heap.size v2 W) => size_any n1 HW.out W A1 B1 p1 q1 ((HN1.out.on P2.out.keep).on hW))
    have HSz2 := Lib.hid (fun W (hW : Below v2.heap.size v2 W) => size_any n2 HW2.out W A2 B2 p2 q2 (HN2.out.on hW))
    rw [HF.out.1, HF.out.2.1] at HWd2
    have HZ := Lib.hid HF.out.2.2
    clear HF
    generalize ndSize n2 = z2 at *
    generalize least n1 = l at *
    generalize most n1 = m at *
    generalize ndSize n1 = z at *
    have HB1 := Lib.hid (P1.out.node.on P2.out.keep)
    have HB2 := Lib.hid P2.out.node
    clear hc2 P1 P2 HN1 HN2 HR1 HR2
    go_wp2_with fail
    refine (HWd1.out v2 (Below.refl _ _)).mono ?_
    rintro e w3 ⟨rfl, hb3⟩
    have hbv3 := hbv2.trans (hb3.mono hbv2.size)
    have hc2 := (HB2.out.on hb3).nine
    clear hc1 hf1 hf2
    go_wp2_with fail
    refine (HWd2.out w3 hb3).mono ?_
    rintro e w4 ⟨rfl, hb4⟩
    have k4 := hb3.trans (hb4.mono hb3.size)
    have hbv4 := hbv3.trans (hb4.mono hbv3.size)
    have HS4 : Hid (Blk w4 w1.heap.size 29 #[.int .i64 n1.kind, .int .i64 n1.lo, .int .i64 n1.hi, .int .i64 n1.mode, .int .i64 n1.ref, .slice A1 n1.set.length p1, .slice B1 n1.kids.length q1, .int .i64 (g1 : Nat), .bool false] ∧ Blk w4 w2.heap.size 29 #[.int .i64 n2.kind, .int .i64 n2.lo, .int .i64 n2.hi, .int .i64 n2.mode, .int .i64 n2.ref, .slice A2 n2.set.length p2, .slice B2 n2.kids.length q2, .int .i64 (g2 : Nat), .bool fo2]) := Lib.hid ⟨HB1.out.on k4, HB2.out.on k4⟩
    clear hc2
    go_upto_region 16 with (fail)
    refine wp_region_held_drew (S := fun V => Blk V w1.heap.size 29 #[.int .i64 n1.kind, .int .i64 n1.lo, .int .i64 n1.hi, .int .i64 n1.mode, .int .i64 n1.ref, .slice A1 n1.set.length p1, .slice B1 n1.kids.length q1, .int .i64 (g1 : Nat), .bool false] ∧ Blk V w2.heap.size 29 #[.int .i64 n2.kind, .int .i64 n2.lo, .int .i64 n2.hi, .int .i64 n2.mode, .int .i64 n2.ref, .slice A2 n2.set.length p2, .slice B2 n2.kids.length q2, .int .i64 (g2 : Nat), .bool fo2]) (by kernel_rfl) HS4.out (fun hHeld => ?_)
    have hd : Blk w4.drew w1.heap.size 29 #[.int .i64 n1.kind, .int .i64 n1.lo, .int .i64 n1.hi, .int .i64 n1.mode, .int .i64 n1.ref, .slice A1 n1.set.length p1, .slice B1 n1.kids.length q1, .int .i64 (g1 : Nat), .bool false] ∧ Blk w4.drew w2.heap.size 29 #[.int .i64 n2.kind, .int .i64 n2.lo, .int .i64 n2.hi, .int .i64 n2.mode, .int .i64 n2.ref, .slice A2 n2.set.length p2, .slice B2 n2.kids.length q2, .int .i64 (g2 : Nat), .bool fo2] := HS4.out
    have hbd : Below w.heap.size w w4.drew := hbv4.drew
    have kd : Below v2.heap.size v2 w4.drew := k4.drew
    clear HS4 HB1 HB2
    generalize w4.drew = Wd at *
    refine take_d 0 71 (.int .i64 0) _ rfl rfl (by kernel_rfl) (by kernel_rfl) (by kernel_rfl) (fun _ _ _ h => h) (Or.inl ⟨by rfl, fun w' hSw => ?_⟩) hHeld ?_
    · go_simp
    simp only [List.setIfInBounds_toArray, List.set_cons_zero, List.set_cons_succ]
    refine take_d 1 72 (.int .i64 0) _ rfl rfl (by kernel_rfl) (by kernel_rfl) (by kernel_rfl) (fun _ _ _ h => h) (Or.inl ⟨by rfl, fun w' hSw => ?_⟩) hHeld ?_
    · go_simp
    simp only [List.setIfInBounds_toArray, List.set_cons_zero, List.set_cons_succ]
    refine take_d 2 73 (.bool true) _ rfl rfl (by kernel_rfl) (by kernel_rfl) (by kernel_rfl) (fun _ _ _ h => h) (Or.inl ⟨by rfl, fun w' hSw => ?_⟩) hHeld ?_
    · go_simp
    simp only [List.setIfInBounds_toArray, List.set_cons_zero, List.set_cons_succ]
    refine take_d 3 74 (.bool true) _ rfl rfl (by kernel_rfl) (by kernel_rfl) (by kernel_rfl) (fun _ _ _ h => h) (Or.inl ⟨by rfl, fun w' hSw => ?_⟩) hHeld ?_
    · go_simp
    simp only [List.setIfInBounds_toArray, List.set_cons_zero, List.set_cons_succ]
    refine take_d 4 75 (.int .i64 0) _ rfl rfl (by kernel_rfl) (by kernel_rfl) (by kernel_rfl) (fun _ _ _ h => h) (Or.inl ⟨by rfl, fun w' hSw => ?_⟩) hHeld ?_
    · go_simp
    simp only [List.setIfInBounds_toArray, List.set_cons_zero, List.set_cons_succ]
    refine take_d 5 76 (.int .i64 0) _ rfl rfl (by kernel_rfl) (by kernel_rfl) (by kernel_rfl) (fun _ _ _ h => h) (Or.inl ⟨by rfl, fun w' hSw => ?_⟩) hHeld ?_
    · go_simp
    simp only [List.setIfInBounds_toArray, List.set_cons_zero, List.set_cons_succ]
    refine take_d 6 77 (.bool true) _ rfl rfl (by kernel_rfl) (by kernel_rfl) (by kernel_rfl) (fun _ _ _ h => h) (Or.inl ⟨by rfl, fun w' hSw => ?_⟩) hHeld ?_
    · go_simp
    simp only [List.setIfInBounds_toArray, List.set_cons_zero, List.set_cons_succ]
    refine take_d 7 78 (.bool true) _ rfl rfl (by kernel_rfl) (by kernel_rfl) (by kernel_rfl) (fun _ _ _ h => h) (Or.inl ⟨by rfl, fun w' hSw => ?_⟩) hHeld ?_
    · go_simp
    simp only [List.setIfInBounds_toArray, List.set_cons_zero, List.set_cons_succ]
    refine take_d 8 79 (.bool true) _ rfl rfl (by kernel_rfl) (by kernel_rfl) (by kernel_rfl) (fun _ _ _ h => h) (Or.inl ⟨by rfl, fun w' hSw => ?_⟩) hHeld ?_
    · go_simp
    simp only [List.setIfInBounds_toArray, List.set_cons_zero, List.set_cons_succ]
    refine take_d 9 80 (.pointer (some ⟨w2.heap.size, 0, none⟩)) _ rfl rfl (by kernel_rfl) (by kernel_rfl) (by kernel_rfl) (fun _ _ _ h => h) (Or.inl ⟨by rfl, fun w' hSw => ?_⟩) hHeld ?_
    · go_simp
    simp only [List.setIfInBounds_toArray, List.set_cons_zero, List.set_cons_succ]
    refine take_d 10 81 (.agg #[.int .i64 n2.kind, .int .i64 n2.lo, .int .i64 n2.hi, .int .i64 n2.mode, .int .i64 n2.ref, .slice A2 n2.set.length p2, .slice B2 n2.kids.length q2]) _ rfl rfl (by kernel_rfl) (by kernel_rfl) (by kernel_rfl) (fun _ _ _ h => h) (Or.inl ⟨by rfl, fun w' hSw => ?_⟩) hHeld ?_
    · have hS9 := hSw.2.nine
      clear hSw
      go_simp
    simp only [List.setIfInBounds_toArray, List.set_cons_zero, List.set_cons_succ]
    refine take_d 12 83 (.pointer (some ⟨w1.heap.size, 0, none⟩)) _ rfl rfl (by kernel_rfl) (by kernel_rfl) (by kernel_rfl) (fun _ _ _ h => h) (Or.inl ⟨by rfl, fun w' hSw => ?_⟩) hHeld ?_
    · go_simp
    simp only [List.setIfInBounds_toArray, List.set_cons_zero, List.set_cons_succ]
    refine take_d 13 84 (.agg #[.int .i64 n1.kind, .int .i64 n1.lo, .int .i64 n1.hi, .int .i64 n1.mode, .int .i64 n1.ref, .slice A1 n1.set.length p1, .slice B1 n1.kids.length q1]) _ rfl rfl (by kernel_rfl) (by kernel_rfl) (by kernel_rfl) (fun _ _ _ h => h) (Or.inl ⟨by rfl, fun w' hSw => ?_⟩) hHeld ?_
    · have hS9 := hSw.1.nine
      clear hSw
      go_simp
    simp only [List.setIfInBounds_toArray, List.set_cons_zero, List.set_cons_succ]
    refine take_d 15 86 (.int .i64 2) _ rfl rfl (by kernel_rfl) (by kernel_rfl) (by kernel_rfl) (fun _ _ _ h => h) (Or.inl ⟨by rfl, fun w' hSw => ?_⟩) hHeld ?_
    · go_simp
    simp only [List.setIfInBounds_toArray, List.set_cons_zero, List.set_cons_succ]
    refine wpAnyH_ready (rs := [11]) (by kernel_rfl) (by simp) ?_
    refine AllReadyH.cons rfl (fun K hK => ?_) AllReadyH.nil
    go_simp
    refine (HSz2.out Wd kd).mono ?_
    rintro e w5 ⟨rfl, hb5⟩
    have kd5 := kd.trans (hb5.mono kd.size)
    have hbw5 := hbd.trans (hb5.mono hbd.size)
    refine hK.out _ _ ⟨hd.1.on hb5, hd.2.on hb5⟩ (fun hHeld => ?_)
    clear hK K
    refine wpAnyH_ready (rs := [14]) (by kernel_rfl) (by simp) ?_
    refine AllReadyH.cons rfl (fun K hK => ?_) AllReadyH.nil
    go_simp
    refine (HSz1.out w5 kd5).mono ?_
    rintro e w6 ⟨rfl, hb6⟩
    have hbw6 := hbw5.trans (hb6.mono hbw5.size)
    refine hK.out _ _ ⟨(hd.1.on hb5).on hb6, (hd.2.on hb5).on hb6⟩ (fun hHeld => ?_)
    clear hK K
    refine take_d 16 87 (.int .i64 (z + 2)) _ rfl rfl (by kernel_rfl) (by kernel_rfl) (by kernel_rfl) (fun _ _ _ h => h) (Or.inl ⟨by rfl, fun w' hSw => ?_⟩) hHeld ?_
    · go_simp
      all_goals exact IntWalk.i64_in _ (by omega)
    simp only [List.setIfInBounds_toArray, List.set_cons_zero, List.set_cons_succ]
    refine take_d 17 88 (.int .i64 z2) _ rfl rfl (by kernel_rfl) (by kernel_rfl) (by kernel_rfl) (fun _ _ _ h => h) (Or.inl ⟨by rfl, fun w' hSw => ?_⟩) hHeld ?_
    · go_simp
      rw [HZ.out]
    simp only [List.setIfInBounds_toArray, List.set_cons_zero, List.set_cons_succ]
    refine take_d 18 89 (.bool true) _ rfl rfl (by kernel_rfl) (by kernel_rfl) (by kernel_rfl) (fun _ _ _ h => h) (Or.inl ⟨by rfl, fun w' hSw => ?_⟩) hHeld ?_
    · go_simp
    simp only [List.setIfInBounds_toArray, List.set_cons_zero, List.set_cons_succ]
    refine take_d 19 90 (.bool true) _ rfl rfl (by kernel_rfl) (by kernel_rfl) (by kernel_rfl) (fun _ _ _ h => h) (Or.inl ⟨by rfl, fun w' hSw => ?_⟩) hHeld ?_
    · go_simp
    simp only [List.setIfInBounds_toArray, List.set_cons_zero, List.set_cons_succ]
    refine take_d 20 4 (.bool true) _ rfl rfl (by kernel_rfl) (by kernel_rfl) (by kernel_rfl) (fun _ _ _ h => h) (Or.inl ⟨by rfl, fun w' hSw => ?_⟩) hHeld ?_
    · go_simp
    simp only [List.setIfInBounds_toArray, List.set_cons_zero, List.set_cons_succ]
    refine wpAnyH_done (by kernel_rfl) ?_ _
    clear hHeld
    go_wp2
    go_ret
    exact ⟨rfl, hbw6⟩

theorem shapeFree_law (x : ByteArray) (i : Int) (w : World) (hT : TabsAt w.heap.size w) : Calls Tryd.prog 8 #[.string x, .int .i64 i] w fun e w' => e = .returned (.bool true) ∧ Below w.heap.size w w' := free_law x i hT

end Go.Proofs.YthfhlkacnpdbiaaDoor
