/- ParseGroups' walk. -/
import Derived.Test.YthipgidddgdojaaDoorPWr
namespace Go.Proofs.YthipgidddgdojaaDoor
open Go.RowKit
variable {w w' : World}

theorem grp_kind (nd : Nd) : (grpN nd).kind = 5 := rfl
theorem grp_lo (nd : Nd) : (grpN nd).lo = 0 := rfl
theorem grp_hi (nd : Nd) : (grpN nd).hi = 0 := rfl
theorem grp_mode (nd : Nd) : (grpN nd).mode = 0 := rfl
theorem grp_ref (nd : Nd) : (grpN nd).ref = 1 := rfl
theorem grp_set (nd : Nd) : (grpN nd).set.length = 0 := rfl
theorem grp_kids (nd : Nd) : (grpN nd).kids.length = 1 := rfl
theorem group_eq (x : ByteArray) : ((⟨#[40]⟩ : ByteArray) ++ x ++ (⟨#[41]⟩ : ByteArray)) = ⟨(40 :: (x.data.toList ++ [41])).toArray⟩ := by
  apply ByteArray.ext
  simp [ByteArray.data_append]
theorem fold_eq (x : ByteArray) : ((⟨#[40, 63, 105, 41]⟩ : ByteArray) ++ x) = ⟨(40 :: 63 :: 105 :: 41 :: x.data.toList).toArray⟩ := by
  apply ByteArray.ext
  simp [ByteArray.data_append]

set_option maxRecDepth 100000 in
set_option maxHeartbeats 2000000 in
theorem groups_law (x : ByteArray) (hT : TabsAt w.heap.size w) : Calls Tryd.prog 4 #[.string x] w fun e w' => e = .returned (.bool true) ∧ Below w.heap.size w w' := by
  have HT := Lib.hid hT
  have HA := Lib.hid (anchor_any hT)
  clear hT
  by_cases hlen : 400 < x.size
  · have hlen' : (400 : Int) < (x.size : Int) := by omega
    go_enter Tryd.func4, Tryd.ntmps4
    go_wp2_with fail
    refine HA.out.mono ?_
    rintro e w1 ⟨rfl, hb1⟩
    go_wp2
    go_ret
    exact ⟨rfl, hb1⟩
  · have hlen' : ¬ (400 : Int) < (x.size : Int) := by omega
    have hmx : x.size ≤ 400 := by omega
    have HP : Hid (∀ W : World, TabsAt W.heap.size W → Calls Tryd.prog 10 #[.string x] W (ParsePost W (parse 1026 x.data.toList))) := Lib.hid (fun W hW => parse_any (s := x.data.toList) 1026 (Nat.le_refl _) (by have : x.data.toList.length = x.size := rfl; omega) hW)
    obtain ⟨r, hr⟩ : ∃ r, r = parse 1026 x.data.toList := ⟨_, rfl⟩
    rw [← hr] at HP
    have HR := Lib.hid hr
    clear hr
    cases r with
    | error f =>
      obtain ⟨fc, fp⟩ := f
      have hfc := parse_code (Nat.le_refl _) HR.out.symm
      have hfc' := off_zero hfc
      simp only at hfc hfc'
      go_enter Tryd.func4, Tryd.ntmps4
      go_wp2_with fail
      refine HA.out.mono ?_
      rintro e w0 ⟨rfl, hb0⟩
      have HT0 := Lib.hid (tabs_on HT.out hb0 hb0.size)
      go_wp2_with fail
      refine (HP.out _ HT0.out).mono ?_
      rintro e w1 ⟨rfl, hb1⟩
      unfold zero9
      simp only
      have P1 := Lib.hid (put_new w0 w1 #[.int .i64 0, .int .i64 0, .int .i64 0, .int .i64 0, .int .i64 0, .slice none 0 0, .slice none 0 0, .int .i64 0, .bool false] #[.int .i64 (fc : Nat), .int .i64 (fp : Nat)] hb1)
      go_upto_region 6 with (fail)
      generalize (w1.alloc (.cells #[.int .i64 0, .int .i64 0, .int .i64 0, .int .i64 0, .int .i64 0, .slice none 0 0, .slice none 0 0, .int .i64 0, .bool false] 29)).alloc (.cells #[.int .i64 (fc : Nat), .int .i64 (fp : Nat)] 32) = v1 at *
      have hbv := hb0.trans (P1.out.keep.mono hb0.size)
      have hf1a := P1.out.flt.cell 0
      have hf1b := P1.out.flt.cell 1
      simp at hf1a hf1b
      go_wp2
      go_ret
      exact ⟨rfl, hbv⟩
    | ok y =>
      obtain ⟨nd, g, fo⟩ := y
      go_enter Tryd.func4, Tryd.ntmps4
      go_wp2_with fail
      refine HA.out.mono ?_
      rintro e w0 ⟨rfl, hb0⟩
      have HT0 := Lib.hid (tabs_on HT.out hb0 hb0.size)
      go_wp2_with fail
      refine (HP.out _ HT0.out).mono ?_
      rintro e w1 ⟨A1, A2, p1, p2, rfl, hN, hb1⟩
      unfold pCells
      simp only at hN ⊢
      have P1 := Lib.hid (put_new w0 w1 #[.int .i64 nd.kind, .int .i64 nd.lo, .int .i64 nd.hi, .int .i64 nd.mode, .int .i64 nd.ref, .slice A1 nd.set.length p1, .slice A2 nd.kids.length p2, .int .i64 (g : Nat), .bool fo] #[.int .i64 0, .int .i64 0] hb1)
      have HN1 := Lib.hid (hN.on (put_on w1 #[.int .i64 nd.kind, .int .i64 nd.lo, .int .i64 nd.hi, .int .i64 nd.mode, .int .i64 nd.ref, .slice A1 nd.set.length p1, .slice A2 nd.kids.length p2, .int .i64 (g : Nat), .bool fo] #[.int .i64 0, .int .i64 0]))
      clear hN
      go_upto_region 6 with (fail)
      generalize (w1.alloc (.cells #[.int .i64 nd.kind, .int .i64 nd.lo, .int .i64 nd.hi, .int .i64 nd.mode, .int .i64 nd.ref, .slice A1 nd.set.length p1, .slice A2 nd.kids.length p2, .int .i64 (g : Nat), .bool fo] 29)).alloc (.cells #[.int .i64 0, .int .i64 0] 32) = v1 at *
      have hbv := hb0.trans (P1.out.keep.mono hb0.size)
      have hc1 := P1.out.node.nine
      have hf1a := P1.out.flt.cell 0
      have hf1b := P1.out.flt.cell 1
      simp at hf1a hf1b
      cases fo with
      | true =>
        go_wp2
        go_ret
        exact ⟨rfl, hbv⟩
      | false =>
        by_cases hg : 0 < g
        · have hg' : (0 : Int) < (g : Int) := by omega
          go_wp2
          go_ret
          exact ⟨rfl, hbv⟩
        · obtain rfl : g = 0 := by omega
          simp only [Int.cast_ofNat_Int] at P1 hc1 ⊢
          have HT1 := Lib.hid (tabs_on HT.out hbv hbv.size)
          have HP2 : Hid (∀ W : World, TabsAt W.heap.size W → Calls Tryd.prog 10 #[.string ((⟨#[40]⟩ : ByteArray) ++ x ++ (⟨#[41]⟩ : ByteArray))] W (ParsePost W (parse 1030 (40 :: (x.data.toList ++ [41]))))) := Lib.hid (fun W hW => by
            rw [group_eq]
            exact parse_any (s := 40 :: (x.data.toList ++ [41])) 1030 (by omega) (by have : x.data.toList.length = x.size := rfl; simp; omega) hW)
          have HP3 : Hid (∀ W : World, TabsAt W.heap.size W → Calls Tryd.prog 10 #[.string ((⟨#[40, 63, 105, 41]⟩ : ByteArray) ++ x)] W (ParsePost W (parse 1026 (40 :: 63 :: 105 :: 41 :: x.data.toList)))) := Lib.hid (fun W hW => by
            rw [fold_eq]
            exact parse_any (s := 40 :: 63 :: 105 :: 41 :: x.data.toList) 1026 (by omega) (by have : x.data.toList.length = x.size := rfl; simp; omega) hW)
          by_cases hl : 252 < x.size
          · have hl' : (252 : Int) < (x.size : Int) := by omega
            obtain ⟨r2, hr2⟩ : ∃ r2, r2 = parse 1030 (40 :: (x.data.toList ++ [41])) := ⟨_, rfl⟩
            rw [← hr2] at HP2
            clear hr2
            have e3 : parse 1026 (40 :: 63 :: 105 :: 41 :: x.data.toList) = .error (12, 0) := by
              unfold parse
              rw [if_pos (by have : x.data.toList.length = x.size := rfl; simp; omega)]
            rw [e3] at HP3
            clear e3
            go_wp2_with fail
            refine (HP2.out _ HT1.out).mono ?_
            intro e w2 hp
            obtain ⟨B1, B2, q1, q2, rfl, hN, hb2⟩ := hp.uni
            generalize ndOf r2 = nd2 at hN ⊢
            generalize gOf r2 = g2
            generalize foOf r2 = fo2
            generalize (fOf r2).1 = fc2
            generalize (fOf r2).2 = fp2
            unfold pCells
            have P2 := Lib.hid (put_new v1 w2 #[.int .i64 nd2.kind, .int .i64 nd2.lo, .int .i64 nd2.hi, .int .i64 nd2.mode, .int .i64 nd2.ref, .slice B1 nd2.set.length q1, .slice B2 nd2.kids.length q2, .int .i64 (g2 : Nat), .bool fo2] #[.int .i64 (fc2 : Nat), .int .i64 (fp2 : Nat)] hb2)
            clear hN hp HP2
            go_upto_region 9 with (fail)
            generalize (w2.alloc (.cells #[.int .i64 nd2.kind, .int .i64 nd2.lo, .int .i64 nd2.hi, .int .i64 nd2.mode, .int .i64 nd2.ref, .slice B1 nd2.set.length q1, .slice B2 nd2.kids.length q2, .int .i64 (g2 : Nat), .bool fo2] 29)).alloc (.cells #[.int .i64 (fc2 : Nat), .int .i64 (fp2 : Nat)] 32) = v2 at *
            have hbv2 := hbv.trans (P2.out.keep.mono hbv.size)
            have HT2 := Lib.hid (tabs_on HT.out hbv2 hbv2.size)

            go_wp2_with fail
            refine (HP3.out _ HT2.out).mono ?_
            rintro e w3 ⟨rfl, hb3⟩
            unfold zero9
            have P3 := Lib.hid (put_new v2 w3 #[.int .i64 0, .int .i64 0, .int .i64 0, .int .i64 0, .int .i64 0, .slice none 0 0, .slice none 0 0, .int .i64 0, .bool false] #[.int .i64 12, .int .i64 0] hb3)
            go_upto_region 10 with (fail)
            generalize (w3.alloc (.cells #[.int .i64 0, .int .i64 0, .int .i64 0, .int .i64 0, .int .i64 0, .slice none 0 0, .slice none 0 0, .int .i64 0, .bool false] 29)).alloc (.cells #[.int .i64 12, .int .i64 0] 32) = v3 at *
            have hbv3 := hbv2.trans (P3.out.keep.mono hbv2.size)
            have HT3 := Lib.hid (tabs_on HT.out hbv3 hbv3.size)

            have hf3a := P3.out.flt.cell 0
            have hf3b := P3.out.flt.cell 1
            simp at hf3a hf3b
            go_wp2
            go_ret
            exact ⟨rfl, hbv3⟩
          · have hl' : ¬ (252 : Int) < (x.size : Int) := by omega
            have hxl : x.data.toList.length ≤ 252 := by have : x.data.toList.length = x.size := rfl; omega
            have e3 := parse_fold HR.out.symm hxl
            rw [e3] at HP3
            clear e3
            rcases parse_group (N := 1026) HR.out.symm hxl with h2 | ⟨p, h2⟩
            · rw [h2] at HP2
              clear h2
              go_wp2_with fail
              refine (HP2.out _ HT1.out).mono ?_
              rintro e w2 ⟨B1, B2, q1, q2, rfl, hN, hb2⟩
              obtain ⟨_, _, b, off, he, -, -, -, -, hk⟩ := hN.parts
              obtain ⟨rfl, -, rfl⟩ := Value.slice.inj he
              obtain ⟨hA, hbk, D1, D2, s1, s2, hND, hC⟩ := hk 0 nd rfl
              subst hA
              rw [Nat.zero_mul, Nat.add_zero] at hC
              have HK2 : Hid (NodeV (fun b => b < w2.heap.size) w2 nd (.slice D1 nd.set.length s1) (.slice D2 nd.kids.length s2) ∧ NCells w2 b off nd (.slice D1 nd.set.length s1) (.slice D2 nd.kids.length s2) ∧ b < w2.heap.size) := Lib.hid ⟨hND, hC, hbk⟩
              clear hN hND hk hC he
              unfold pCells
              simp only [grp_kind, grp_lo, grp_hi, grp_mode, grp_ref, grp_set, grp_kids]
              have P2 := Lib.hid (put_new v1 w2 #[.int .i64 5, .int .i64 0, .int .i64 0, .int .i64 0, .int .i64 1, .slice B1 0 q1, .slice (some ⟨b, off, none⟩) 1 q2, .int .i64 1, .bool false] #[.int .i64 0, .int .i64 0] hb2)
              have hk2 := put_on w2 #[.int .i64 5, .int .i64 0, .int .i64 0, .int .i64 0, .int .i64 1, .slice B1 0 q1, .slice (some ⟨b, off, none⟩) 1 q2, .int .i64 1, .bool false] #[.int .i64 0, .int .i64 0]
              go_upto_region 9 with (fail)
              generalize (w2.alloc (.cells #[.int .i64 5, .int .i64 0, .int .i64 0, .int .i64 0, .int .i64 1, .slice B1 0 q1, .slice (some ⟨b, off, none⟩) 1 q2, .int .i64 1, .bool false] 29)).alloc (.cells #[.int .i64 0, .int .i64 0] 32) = v2 at *
              have HK3 : Hid (NodeV (fun b => b < v2.heap.size) v2 nd (.slice D1 nd.set.length s1) (.slice D2 nd.kids.length s2) ∧ NCells v2 b off nd (.slice D1 nd.set.length s1) (.slice D2 nd.kids.length s2) ∧ b < v2.heap.size) := Lib.hid ⟨HK2.out.1.on hk2, HK2.out.2.1.on (hk2.block b HK2.out.2.2), Nat.lt_of_lt_of_le HK2.out.2.2 hk2.size⟩
              clear HK2 hk2
              have hbv2 := hbv.trans (P2.out.keep.mono hbv.size)
              have HT2 := Lib.hid (tabs_on HT.out hbv2 hbv2.size)

              go_wp2_with fail
              refine (HP3.out _ HT2.out).mono ?_
              rintro e w3 ⟨C1, C2, r1, r2, rfl, hN, hb3⟩
              unfold pCells
              simp only at hN ⊢
              have P3 := Lib.hid (put_new v2 w3 #[.int .i64 nd.kind, .int .i64 nd.lo, .int .i64 nd.hi, .int .i64 nd.mode, .int .i64 nd.ref, .slice C1 nd.set.length r1, .slice C2 nd.kids.length r2, .int .i64 0, .bool true] #[.int .i64 0, .int .i64 0] hb3)
              have HN3 := Lib.hid (hN.on (put_on w3 #[.int .i64 nd.kind, .int .i64 nd.lo, .int .i64 nd.hi, .int .i64 nd.mode, .int .i64 nd.ref, .slice C1 nd.set.length r1, .slice C2 nd.kids.length r2, .int .i64 0, .bool true] #[.int .i64 0, .int .i64 0]))
              clear hN
              go_upto_region 12 with (fail)
              generalize (w3.alloc (.cells #[.int .i64 nd.kind, .int .i64 nd.lo, .int .i64 nd.hi, .int .i64 nd.mode, .int .i64 nd.ref, .slice C1 nd.set.length r1, .slice C2 nd.kids.length r2, .int .i64 0, .bool true] 29)).alloc (.cells #[.int .i64 0, .int .i64 0] 32) = v3 at *
              have hbv3 := hbv2.trans (P3.out.keep.mono hbv2.size)

              have k13 := P2.out.keep.trans (P3.out.keep.mono P2.out.keep.size)

              have hc1 := (P1.out.node.on k13).nine
              have hc3 := P3.out.node.nine
              have hf3a := P3.out.flt.cell 0
              have hf3b := P3.out.flt.cell 1
              simp at hf3a hf3b
              have HS := Lib.hid (same_nodes nd v3 C1 C2 A1 A2 r1 r2 p1 p2 HN3.out (HN1.out.on k13))

              have HF2 := Lib.hid (P2.out.flt.on P3.out.keep)
              have HG2 := Lib.hid (P2.out.node.on P3.out.keep)
              have HG1 := Lib.hid (P1.out.node.on k13)
              have HM1 := Lib.hid (HN1.out.on k13)
              have k23 := P3.out.keep
              clear P1 P2 P3 HN1 HN3
              go_wp2_with fail
              refine HS.out.mono ?_
              rintro e w4 ⟨rfl, hb4⟩
              have hb5 := hbv3.trans (hb4.mono hbv3.size)
              have hf2a := (HF2.out.on hb4).cell 0
              have hf2b := (HF2.out.on hb4).cell 1
              simp at hf2a hf2b
              have k24 := k23.trans (hb4.mono k23.size)
              have HSS : Hid ((fun W => Blk W w2.heap.size 29 #[.int .i64 5, .int .i64 0, .int .i64 0, .int .i64 0, .int .i64 1, .slice B1 0 q1, .slice (some ⟨b, off, none⟩) 1 q2, .int .i64 1, .bool false] ∧ Blk W w1.heap.size 29 #[.int .i64 nd.kind, .int .i64 nd.lo, .int .i64 nd.hi, .int .i64 nd.mode, .int .i64 nd.ref, .slice A1 nd.set.length p1, .slice A2 nd.kids.length p2, .int .i64 0, .bool false] ∧ NCells W b off nd (.slice D1 nd.set.length s1) (.slice D2 nd.kids.length s2)) w4) := Lib.hid ⟨HG2.out.on hb4, HG1.out.on hb4, HK3.out.2.1.on (k24.block b HK3.out.2.2)⟩
              have HM2 := Lib.hid (HM1.out.on hb4)
              have HM3 := Lib.hid (HK3.out.1.on k24)
              have HK4 := Lib.hid HK3.out.2.2
              have k24s := k24.size
              clear HG1 HG2 HM1 HK3 HS hc1 hc3 hf3a hf3b
              go_upto_region 16 with (fail)
              refine wp_region_held_drew (S := (fun W => Blk W w2.heap.size 29 #[.int .i64 5, .int .i64 0, .int .i64 0, .int .i64 0, .int .i64 1, .slice B1 0 q1, .slice (some ⟨b, off, none⟩) 1 q2, .int .i64 1, .bool false] ∧ Blk W w1.heap.size 29 #[.int .i64 nd.kind, .int .i64 nd.lo, .int .i64 nd.hi, .int .i64 nd.mode, .int .i64 nd.ref, .slice A1 nd.set.length p1, .slice A2 nd.kids.length p2, .int .i64 0, .bool false] ∧ NCells W b off nd (.slice D1 nd.set.length s1) (.slice D2 nd.kids.length s2))) (by kernel_rfl) HSS.out (fun hHeld => ?_)
              have hb5w := hb5.drew
              have HN5 : Hid (NodeV (fun b => b < w4.drew.heap.size) w4.drew nd (.slice D1 nd.set.length s1) (.slice D2 nd.kids.length s2)) := Lib.hid (HM3.out.on (Below.refl _ w4).drew)
              have HM5 : Hid (NodeV (fun b => b < w4.drew.heap.size) w4.drew nd (.slice A1 nd.set.length p1) (.slice A2 nd.kids.length p2)) := Lib.hid (HM2.out.on (Below.refl _ w4).drew)
              have HB5 : Hid (b < w4.drew.heap.size) := Lib.hid (Nat.lt_of_lt_of_le HK4.out k24s)
              clear HSS HM2 HM3
              generalize w4.drew = W5 at *
              refine take_d 0 77 (.pointer (some ⟨w2.heap.size, 7, none⟩)) _ rfl rfl (by kernel_rfl) (by kernel_rfl) (by kernel_rfl) (fun _ _ _ h => h) (Or.inl ⟨by rfl, fun w' hSw => ?_⟩) hHeld ?_
              · go_simp
              simp only [List.setIfInBounds_toArray, List.set_cons_zero, List.set_cons_succ]
              refine take_d 1 78 (.int .i64 1) _ rfl rfl (by kernel_rfl) (by kernel_rfl) (by kernel_rfl) (fun _ _ _ h => h) (Or.inl ⟨by rfl, fun w' hSw => ?_⟩) hHeld ?_
              · have hS9 := hSw.1.nine
                clear hSw
                go_simp
              simp only [List.setIfInBounds_toArray, List.set_cons_zero, List.set_cons_succ]
              refine take_d 2 79 (.bool true) _ rfl rfl (by kernel_rfl) (by kernel_rfl) (by kernel_rfl) (fun _ _ _ h => h) (Or.inl ⟨by rfl, fun w' hSw => ?_⟩) hHeld ?_
              · go_simp
              simp only [List.setIfInBounds_toArray, List.set_cons_zero, List.set_cons_succ]
              refine take_d 3 80 (.bool true) _ rfl rfl (by kernel_rfl) (by kernel_rfl) (by kernel_rfl) (fun _ _ _ h => h) (Or.inl ⟨by rfl, fun w' hSw => ?_⟩) hHeld ?_
              · go_simp
              simp only [List.setIfInBounds_toArray, List.set_cons_zero, List.set_cons_succ]
              refine take_d 4 81 (.pointer (some ⟨w2.heap.size, 0, none⟩)) _ rfl rfl (by kernel_rfl) (by kernel_rfl) (by kernel_rfl) (fun _ _ _ h => h) (Or.inl ⟨by rfl, fun w' hSw => ?_⟩) hHeld ?_
              · go_simp
              simp only [List.setIfInBounds_toArray, List.set_cons_zero, List.set_cons_succ]
              refine take_d 5 82 (.pointer (some ⟨w2.heap.size, 0, none⟩)) _ rfl rfl (by kernel_rfl) (by kernel_rfl) (by kernel_rfl) (fun _ _ _ h => h) (Or.inl ⟨by rfl, fun w' hSw => ?_⟩) hHeld ?_
              · go_simp
              simp only [List.setIfInBounds_toArray, List.set_cons_zero, List.set_cons_succ]
              refine take_d 6 83 (.int .i64 5) _ rfl rfl (by kernel_rfl) (by kernel_rfl) (by kernel_rfl) (fun _ _ _ h => h) (Or.inl ⟨by rfl, fun w' hSw => ?_⟩) hHeld ?_
              · have hS9 := hSw.1.nine
                clear hSw
                go_simp
              simp only [List.setIfInBounds_toArray, List.set_cons_zero, List.set_cons_succ]
              refine take_d 7 84 (.bool true) _ rfl rfl (by kernel_rfl) (by kernel_rfl) (by kernel_rfl) (fun _ _ _ h => h) (Or.inl ⟨by rfl, fun w' hSw => ?_⟩) hHeld ?_
              · go_simp
              simp only [List.setIfInBounds_toArray, List.set_cons_zero, List.set_cons_succ]
              refine take_d 8 85 (.bool true) _ rfl rfl (by kernel_rfl) (by kernel_rfl) (by kernel_rfl) (fun _ _ _ h => h) (Or.inl ⟨by rfl, fun w' hSw => ?_⟩) hHeld ?_
              · go_simp
              simp only [List.setIfInBounds_toArray, List.set_cons_zero, List.set_cons_succ]
              refine take_d 9 86 (.bool true) _ rfl rfl (by kernel_rfl) (by kernel_rfl) (by kernel_rfl) (fun _ _ _ h => h) (Or.inl ⟨by rfl, fun w' hSw => ?_⟩) hHeld ?_
              · go_simp
              simp only [List.setIfInBounds_toArray, List.set_cons_zero, List.set_cons_succ]
              refine take_d 10 87 (.pointer (some ⟨w2.heap.size, 0, none⟩)) _ rfl rfl (by kernel_rfl) (by kernel_rfl) (by kernel_rfl) (fun _ _ _ h => h) (Or.inl ⟨by rfl, fun w' hSw => ?_⟩) hHeld ?_
              · go_simp
              simp only [List.setIfInBounds_toArray, List.set_cons_zero, List.set_cons_succ]
              refine take_d 11 88 (.pointer (some ⟨w2.heap.size, 4, none⟩)) _ rfl rfl (by kernel_rfl) (by kernel_rfl) (by kernel_rfl) (fun _ _ _ h => h) (Or.inl ⟨by rfl, fun w' hSw => ?_⟩) hHeld ?_
              · go_simp
              simp only [List.setIfInBounds_toArray, List.set_cons_zero, List.set_cons_succ]
              refine take_d 12 89 (.int .i64 1) _ rfl rfl (by kernel_rfl) (by kernel_rfl) (by kernel_rfl) (fun _ _ _ h => h) (Or.inl ⟨by rfl, fun w' hSw => ?_⟩) hHeld ?_
              · have hS9 := hSw.1.nine
                clear hSw
                go_simp
              simp only [List.setIfInBounds_toArray, List.set_cons_zero, List.set_cons_succ]
              refine take_d 13 90 (.bool true) _ rfl rfl (by kernel_rfl) (by kernel_rfl) (by kernel_rfl) (fun _ _ _ h => h) (Or.inl ⟨by rfl, fun w' hSw => ?_⟩) hHeld ?_
              · go_simp
              simp only [List.setIfInBounds_toArray, List.set_cons_zero, List.set_cons_succ]
              refine take_d 14 91 (.bool true) _ rfl rfl (by kernel_rfl) (by kernel_rfl) (by kernel_rfl) (fun _ _ _ h => h) (Or.inl ⟨by rfl, fun w' hSw => ?_⟩) hHeld ?_
              · go_simp
              simp only [List.setIfInBounds_toArray, List.set_cons_zero, List.set_cons_succ]
              refine take_d 15 92 (.bool true) _ rfl rfl (by kernel_rfl) (by kernel_rfl) (by kernel_rfl) (fun _ _ _ h => h) (Or.inl ⟨by rfl, fun w' hSw => ?_⟩) hHeld ?_
              · go_simp
              simp only [List.setIfInBounds_toArray, List.set_cons_zero, List.set_cons_succ]
              refine take_d 16 93 (.pointer (some ⟨w2.heap.size, 0, none⟩)) _ rfl rfl (by kernel_rfl) (by kernel_rfl) (by kernel_rfl) (fun _ _ _ h => h) (Or.inl ⟨by rfl, fun w' hSw => ?_⟩) hHeld ?_
              · go_simp
              simp only [List.setIfInBounds_toArray, List.set_cons_zero, List.set_cons_succ]
              refine take_d 17 94 (.pointer (some ⟨w2.heap.size, 6, none⟩)) _ rfl rfl (by kernel_rfl) (by kernel_rfl) (by kernel_rfl) (fun _ _ _ h => h) (Or.inl ⟨by rfl, fun w' hSw => ?_⟩) hHeld ?_
              · go_simp
              simp only [List.setIfInBounds_toArray, List.set_cons_zero, List.set_cons_succ]
              refine take_d 18 95 (.slice (some ⟨b, off, none⟩) 1 q2) _ rfl rfl (by kernel_rfl) (by kernel_rfl) (by kernel_rfl) (fun _ _ _ h => h) (Or.inl ⟨by rfl, fun w' hSw => ?_⟩) hHeld ?_
              · have hS9 := hSw.1.nine
                clear hSw
                go_simp
              simp only [List.setIfInBounds_toArray, List.set_cons_zero, List.set_cons_succ]
              refine take_d 19 96 (.int .i64 1) _ rfl rfl (by kernel_rfl) (by kernel_rfl) (by kernel_rfl) (fun _ _ _ h => h) (Or.inl ⟨by rfl, fun w' hSw => ?_⟩) hHeld ?_
              · go_simp
              simp only [List.setIfInBounds_toArray, List.set_cons_zero, List.set_cons_succ]
              refine take_d 20 97 (.bool true) _ rfl rfl (by kernel_rfl) (by kernel_rfl) (by kernel_rfl) (fun _ _ _ h => h) (Or.inl ⟨by rfl, fun w' hSw => ?_⟩) hHeld ?_
              · go_simp
              simp only [List.setIfInBounds_toArray, List.set_cons_zero, List.set_cons_succ]
              refine take_d 21 98 (.bool true) _ rfl rfl (by kernel_rfl) (by kernel_rfl) (by kernel_rfl) (fun _ _ _ h => h) (Or.inl ⟨by rfl, fun w' hSw => ?_⟩) hHeld ?_
              · go_simp
              simp only [List.setIfInBounds_toArray, List.set_cons_zero, List.set_cons_succ]
              refine take_d 22 99 (.bool true) _ rfl rfl (by kernel_rfl) (by kernel_rfl) (by kernel_rfl) (fun _ _ _ h => h) (Or.inl ⟨by rfl, fun w' hSw => ?_⟩) hHeld ?_
              · go_simp
              simp only [List.setIfInBounds_toArray, List.set_cons_zero, List.set_cons_succ]
              refine take_d 23 100 (.pointer (some ⟨w2.heap.size, 0, none⟩)) _ rfl rfl (by kernel_rfl) (by kernel_rfl) (by kernel_rfl) (fun _ _ _ h => h) (Or.inl ⟨by rfl, fun w' hSw => ?_⟩) hHeld ?_
              · go_simp
              simp only [List.setIfInBounds_toArray, List.set_cons_zero, List.set_cons_succ]
              refine take_d 24 101 (.pointer (some ⟨w2.heap.size, 6, none⟩)) _ rfl rfl (by kernel_rfl) (by kernel_rfl) (by kernel_rfl) (fun _ _ _ h => h) (Or.inl ⟨by rfl, fun w' hSw => ?_⟩) hHeld ?_
              · go_simp
              simp only [List.setIfInBounds_toArray, List.set_cons_zero, List.set_cons_succ]
              refine take_d 25 102 (.slice (some ⟨b, off, none⟩) 1 q2) _ rfl rfl (by kernel_rfl) (by kernel_rfl) (by kernel_rfl) (fun _ _ _ h => h) (Or.inl ⟨by rfl, fun w' hSw => ?_⟩) hHeld ?_
              · have hS9 := hSw.1.nine
                clear hSw
                go_simp
              simp only [List.setIfInBounds_toArray, List.set_cons_zero, List.set_cons_succ]
              refine take_d 26 103 (.pointer (some ⟨b, off, none⟩)) _ rfl rfl (by kernel_rfl) (by kernel_rfl) (by kernel_rfl) (fun _ _ _ h => h) (Or.inl ⟨by rfl, fun w' hSw => ?_⟩) hHeld ?_
              · go_simp
              simp only [List.setIfInBounds_toArray, List.set_cons_zero, List.set_cons_succ]
              refine take_d 27 104 (.agg #[.int .i64 nd.kind, .int .i64 nd.lo, .int .i64 nd.hi, .int .i64 nd.mode, .int .i64 nd.ref, .slice D1 nd.set.length s1, .slice D2 nd.kids.length s2]) _ rfl rfl (by kernel_rfl) (by kernel_rfl) (by kernel_rfl) (fun _ _ _ h => h) (Or.inl ⟨by rfl, fun w' hSw => ?_⟩) hHeld ?_
              · have hS7 := hSw.2.2.seven_
                clear hSw
                go_simp
              simp only [List.setIfInBounds_toArray, List.set_cons_zero, List.set_cons_succ]
              refine take_d 28 105 (.pointer (some ⟨w1.heap.size, 0, none⟩)) _ rfl rfl (by kernel_rfl) (by kernel_rfl) (by kernel_rfl) (fun _ _ _ h => h) (Or.inl ⟨by rfl, fun w' hSw => ?_⟩) hHeld ?_
              · go_simp
              simp only [List.setIfInBounds_toArray, List.set_cons_zero, List.set_cons_succ]
              refine take_d 29 106 (.agg #[.int .i64 nd.kind, .int .i64 nd.lo, .int .i64 nd.hi, .int .i64 nd.mode, .int .i64 nd.ref, .slice A1 nd.set.length p1, .slice A2 nd.kids.length p2]) _ rfl rfl (by kernel_rfl) (by kernel_rfl) (by kernel_rfl) (fun _ _ _ h => h) (Or.inl ⟨by rfl, fun w' hSw => ?_⟩) hHeld ?_
              · have hS9 := hSw.2.1.nine
                clear hSw
                go_simp
              simp only [List.setIfInBounds_toArray, List.set_cons_zero, List.set_cons_succ]
              refine wpAnyH_ready (rs := [30]) (by kernel_rfl) (by simp) ?_
              refine AllReadyH.cons rfl (fun K hK => ?_) AllReadyH.nil
              go_simp
              refine (same_nodes nd W5 D1 D2 A1 A2 s1 s2 p1 p2 HN5.out HM5.out).mono ?_
              rintro e w6 ⟨rfl, hb6⟩
              refine hK.out _ _ ⟨hHeld.1.on hb6, hHeld.2.1.on hb6, hHeld.2.2.on (hb6.block b HB5.out)⟩ (fun hHeld => ?_)
              clear hK K
              have hb7 := hb5w.trans (hb6.mono hb5w.size)
              refine take_d 31 108 (.bool true) _ rfl rfl (by kernel_rfl) (by kernel_rfl) (by kernel_rfl) (fun _ _ _ h => h) (Or.inl ⟨by rfl, fun w' hSw => ?_⟩) hHeld ?_
              · go_simp
              simp only [List.setIfInBounds_toArray, List.set_cons_zero, List.set_cons_succ]
              refine take_d 32 2 (.bool true) _ rfl rfl (by kernel_rfl) (by kernel_rfl) (by kernel_rfl) (fun _ _ _ h => h) (Or.inl ⟨by rfl, fun w' hSw => ?_⟩) hHeld ?_
              · go_simp
              simp only [List.setIfInBounds_toArray, List.set_cons_zero, List.set_cons_succ]
              refine wpAnyH_done (by kernel_rfl) ?_ _
              clear hHeld
              go_wp2
              go_ret
              exact ⟨rfl, hb7⟩
            · rw [h2] at HP2
              clear h2

              go_wp2_with fail
              refine (HP2.out _ HT1.out).mono ?_
              rintro e w2 ⟨rfl, hb2⟩
              unfold zero9
              have P2 := Lib.hid (put_new v1 w2 #[.int .i64 0, .int .i64 0, .int .i64 0, .int .i64 0, .int .i64 0, .slice none 0 0, .slice none 0 0, .int .i64 0, .bool false] #[.int .i64 25, .int .i64 (p : Nat)] hb2)
              go_upto_region 9 with (fail)
              generalize (w2.alloc (.cells #[.int .i64 0, .int .i64 0, .int .i64 0, .int .i64 0, .int .i64 0, .slice none 0 0, .slice none 0 0, .int .i64 0, .bool false] 29)).alloc (.cells #[.int .i64 25, .int .i64 (p : Nat)] 32) = v2 at *
              have hbv2 := hbv.trans (P2.out.keep.mono hbv.size)
              have HT2 := Lib.hid (tabs_on HT.out hbv2 hbv2.size)

              go_wp2_with fail
              refine (HP3.out _ HT2.out).mono ?_
              rintro e w3 ⟨C1, C2, r1, r2, rfl, hN, hb3⟩
              unfold pCells
              simp only at hN ⊢
              have P3 := Lib.hid (put_new v2 w3 #[.int .i64 nd.kind, .int .i64 nd.lo, .int .i64 nd.hi, .int .i64 nd.mode, .int .i64 nd.ref, .slice C1 nd.set.length r1, .slice C2 nd.kids.length r2, .int .i64 0, .bool true] #[.int .i64 0, .int .i64 0] hb3)
              have HN3 := Lib.hid (hN.on (put_on w3 #[.int .i64 nd.kind, .int .i64 nd.lo, .int .i64 nd.hi, .int .i64 nd.mode, .int .i64 nd.ref, .slice C1 nd.set.length r1, .slice C2 nd.kids.length r2, .int .i64 0, .bool true] #[.int .i64 0, .int .i64 0]))
              clear hN
              go_upto_region 12 with (fail)
              generalize (w3.alloc (.cells #[.int .i64 nd.kind, .int .i64 nd.lo, .int .i64 nd.hi, .int .i64 nd.mode, .int .i64 nd.ref, .slice C1 nd.set.length r1, .slice C2 nd.kids.length r2, .int .i64 0, .bool true] 29)).alloc (.cells #[.int .i64 0, .int .i64 0] 32) = v3 at *
              have hbv3 := hbv2.trans (P3.out.keep.mono hbv2.size)

              have k13 := P2.out.keep.trans (P3.out.keep.mono P2.out.keep.size)

              have hc1 := (P1.out.node.on k13).nine
              have hc3 := P3.out.node.nine
              have hf3a := P3.out.flt.cell 0
              have hf3b := P3.out.flt.cell 1
              simp at hf3a hf3b
              have HS := Lib.hid (same_nodes nd v3 C1 C2 A1 A2 r1 r2 p1 p2 HN3.out (HN1.out.on k13))

              have HF2 := Lib.hid (P2.out.flt.on P3.out.keep)
              clear P1 P2 P3 HN1 HN3
              go_wp2_with fail
              refine HS.out.mono ?_
              rintro e w4 ⟨rfl, hb4⟩
              have hb5 := hbv3.trans (hb4.mono hbv3.size)
              have hf2a := (HF2.out.on hb4).cell 0
              have hf2b := (HF2.out.on hb4).cell 1
              simp at hf2a hf2b
              go_wp2
              go_ret
              exact ⟨rfl, hb5⟩

theorem parseGroups_law (x : ByteArray) (w : World) (hT : TabsAt w.heap.size w) : Calls Tryd.prog 4 #[.string x] w fun e w' => e = .returned (.bool true) ∧ Below w.heap.size w w' := groups_law x hT

end Go.Proofs.YthipgidddgdojaaDoor
