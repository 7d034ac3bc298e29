/- The law ShapeTells, as a contract: true, and nothing that lay has turned. -/
import Derived.Test.YtpginkdkblmnbaaGreatDoorZMQz
import Derived.Test.YtpginkdkblmnbaaGreatDoorZMQw
import Derived.Test.YtpginkdkblmnbaaGreatDoorZSf
namespace Go.Proofs.YtpginkdkblmnbaaGreatDoor
open Go.RowKit
open Go.Proofs.YtpginkdkblmnbaaGreatDoor.Cl (Rg)
variable {w w' : World}

/-- What the document's own reader answers, by the model's answer. -/
def XPR (r : Except Flt (Nd × Nat × Bool)) (w' : World) (e : Ending) : Prop := match r with
  | .error f => e = .returned (.tuple #[.agg #[.int .i64 0, .int .i64 0, .int .i64 0, .int .i64 0, .int .i64 0, .slice none 0 0, .bool false, .slice none 0 0], .int .i64 0, .bool false, .int .i64 (f.1 : Nat), .int .i64 (f.2 : Nat)])
  | .ok x => ∃ A1 n1 p1 nb A2 p2, e = .returned (.tuple #[.agg #[.int .i64 x.1.kind, .int .i64 x.1.lo, .int .i64 x.1.hi, .int .i64 x.1.mode, .int .i64 x.1.ref, .slice A1 n1 p1, .bool nb, .slice A2 x.1.kids.length p2], .int .i64 (x.2.1 : Nat), .bool x.2.2, .int .i64 0, .int .i64 0]) ∧
      NodeQ (fun b => b < w'.heap.size) w' x.1 (.slice A1 n1 p1) nb (.slice A2 x.1.kids.length p2)
theorem xparse_bytes (n : Nat) (x : ByteArray) (h : 4 * x.size + 2 ≤ n) (w : World) : Calls Tryz.prog 9 #[.string x] w fun e w' => Below w.heap.size w w' ∧ XPR (parse n x.data.toList) w' e := by
  have hx : (⟨x.data.toList.toArray⟩ : ByteArray) = x := by cases x; simp
  have h1 := xparse_any n x.data.toList h w
  rw [hx] at h1
  refine h1.mono ?_
  intro e w' h2
  unfold XPP at h2
  refine ⟨h2.1, ?_⟩
  revert h2
  cases parse n x.data.toList with
  | error f => exact fun h2 => h2.2
  | ok y =>
    rintro ⟨_, A1, n1, p1, nb, A2, p2, he, hN⟩
    exact ⟨A1, n1, p1, nb, A2, p2, he, hN.keep fun b hb => ⟨hb.2, rfl⟩⟩
set_option maxRecDepth 100000 in
set_option maxHeartbeats 8000000 in
theorem tells_law (x : ByteArray) (hT : TabsAt w.heap.size w) : Calls Tryz.prog 3 #[.string x] w fun e w' => e = .returned (.bool true) ∧ Below w.heap.size w w' := by
  have HT := Lib.hid hT
  have HA := Lib.hid (anchor_any hT)
  clear hT
  by_cases hlen : 400 < x.size
  · have hlen' : (400 : Int) < (x.size : Int) := by omega
    go_enter Tryz.func3, Tryz.ntmps3
    go_wp2_with fail
    refine HA.out.mono ?_
    rintro e w1 ⟨rfl, hb1⟩
    go_wp2
    go_ret
    exact ⟨rfl, hb1⟩
  have hlen' : ¬ (400 : Int) < (x.size : Int) := by omega
  have hsz : x.data.toList.length = x.size := rfl
  have HP1 : Hid (∀ W : World, TabsAt W.heap.size W → Calls Tryz.prog 8 #[.string x] W (ParsePost W (parse 1700 x.data.toList))) := Lib.hid (fun W hW => parse_any (s := x.data.toList) 1700 (by omega) (by omega) hW)
  have HX1 : Hid (∀ W : World, Calls Tryz.prog 9 #[.string x] W fun e w' => Below W.heap.size W w' ∧ XPR (parse 1700 x.data.toList) w' e) := Lib.hid (fun W => xparse_bytes 1700 x (by omega) W)
  obtain ⟨r1, hr1⟩ : ∃ r, r = parse 1700 x.data.toList := ⟨_, rfl⟩
  rw [← hr1] at HP1 HX1
  have HR := Lib.hid hr1
  clear hr1 hsz hlen
  go_enter Tryz.func3, Tryz.ntmps3
  go_wp2_with fail
  refine HA.out.mono ?_
  rintro e w0 ⟨rfl, hb0⟩
  have HT0 := Lib.hid (tabs_on HT.out hb0 hb0.size)
  have HB0 := Lib.hid hb0
  clear hb0
  go_wp2_with fail
  refine (HP1.out _ HT0.out).mono ?_
  clear HP1
  cases r1 with
  | error f =>
    rintro e w1 ⟨rfl, hb1⟩
    have hf : f.1 ≠ 0 := parse_code (by omega) HR.out.symm
    have hf1 : ((f.1 : Int) != 0) = true := by simp [hf]
    unfold zero9
    have P1 := Lib.hid (put_new w0 w1 #[.int .i64 0, .int .i64 0, .int .i64 0, .int .i64 0, .int .i64 0, .slice none 0 0, .slice none 0 0, .int .i64 0, .bool false] #[.int .i64 (f.1 : Nat), .int .i64 (f.2 : Nat)] hb1)
    go_upto_region 6 with (fail)
    generalize (w1.alloc (.cells #[.int .i64 0, .int .i64 0, .int .i64 0, .int .i64 0, .int .i64 0, .slice none 0 0, .slice none 0 0, .int .i64 0, .bool false] 29)).alloc (.cells #[.int .i64 (f.1 : Nat), .int .i64 (f.2 : Nat)] 32) = v1 at *
    have HBv := Lib.hid (HB0.out.trans (P1.out.keep.mono HB0.out.size))
    clear hf
    go_wp2_with fail
    refine (HX1.out v1).mono ?_
    intro e w2 h2
    obtain ⟨hb2, he⟩ := h2
    have he' : e = .returned (.tuple #[.agg #[.int .i64 0, .int .i64 0, .int .i64 0, .int .i64 0, .int .i64 0, .slice none 0 0, .bool false, .slice none 0 0], .int .i64 0, .bool false, .int .i64 (f.1 : Nat), .int .i64 (f.2 : Nat)]) := he
    clear he
    subst he'
    have hb3 := hb2.alloc hb2.size (.cells #[.int .i64 0, .int .i64 0, .int .i64 0, .int .i64 0, .int .i64 0, .slice none 0 0, .bool false, .slice none 0 0] 38)
    have HFl := Lib.hid (P1.out.flt.on hb3)
    have HBe := Lib.hid (HBv.out.trans (hb3.mono HBv.out.size))
    clear hb2 hb3
    go_upto_region 7 with (fail)
    generalize w2.alloc (.cells #[.int .i64 0, .int .i64 0, .int .i64 0, .int .i64 0, .int .i64 0, .slice none 0 0, .bool false, .slice none 0 0] 38) = v2 at *
    have hc0 := HFl.out.cell 0
    go_wp2
    go_ret
    exact ⟨rfl, HBe.out⟩
  | ok y =>
    rintro e w1 ⟨A1, A2, p1, p2, rfl, hN, hb1⟩
    obtain ⟨nd, g, fo⟩ := y
    simp only at hN ⊢
    have HW := Lib.hid (parse_wf HR.out.symm)
    unfold pCells
    have P1 := Lib.hid (put_new w0 w1 #[.int .i64 nd.kind, .int .i64 nd.lo, .int .i64 nd.hi, .int .i64 nd.mode, .int .i64 nd.ref, .slice A1 nd.set.length p1, .slice A2 nd.kids.length p2, .int .i64 (g : Nat), .bool fo] #[.int .i64 0, .int .i64 0] hb1)
    have HN1 := Lib.hid (hN.on (put_on w1 #[.int .i64 nd.kind, .int .i64 nd.lo, .int .i64 nd.hi, .int .i64 nd.mode, .int .i64 nd.ref, .slice A1 nd.set.length p1, .slice A2 nd.kids.length p2, .int .i64 (g : Nat), .bool fo] #[.int .i64 0, .int .i64 0]))
    clear hN HR
    go_upto_region 6 with (fail)
    generalize (w1.alloc (.cells #[.int .i64 nd.kind, .int .i64 nd.lo, .int .i64 nd.hi, .int .i64 nd.mode, .int .i64 nd.ref, .slice A1 nd.set.length p1, .slice A2 nd.kids.length p2, .int .i64 (g : Nat), .bool fo] 29)).alloc (.cells #[.int .i64 0, .int .i64 0] 32) = v1 at *
    have HBv := Lib.hid (HB0.out.trans (P1.out.keep.mono HB0.out.size))
    go_wp2_with fail
    refine (HX1.out v1).mono ?_
    intro e w2 h2
    obtain ⟨hb2, B1, n1, q1, nb, B2, q2, rfl, hQ⟩ := h2
    have hb3 := hb2.alloc hb2.size (.cells #[.int .i64 nd.kind, .int .i64 nd.lo, .int .i64 nd.hi, .int .i64 nd.mode, .int .i64 nd.ref, .slice B1 n1 q1, .bool nb, .slice B2 nd.kids.length q2] 38)
    have HFl := Lib.hid (P1.out.flt.on hb3)
    have HPn := Lib.hid (P1.out.node.on hb3)
    have HQn := Lib.hid (Blk.new w2 38 #[.int .i64 nd.kind, .int .i64 nd.lo, .int .i64 nd.hi, .int .i64 nd.mode, .int .i64 nd.ref, .slice B1 n1 q1, .bool nb, .slice B2 nd.kids.length q2])
    have HNv := Lib.hid (HN1.out.on hb3)
    have HQv := Lib.hid (hQ.on_ (new_blkQ w2 #[.int .i64 nd.kind, .int .i64 nd.lo, .int .i64 nd.hi, .int .i64 nd.mode, .int .i64 nd.ref, .slice B1 n1 q1, .bool nb, .slice B2 nd.kids.length q2]))
    have HBe := Lib.hid (HBv.out.trans (hb3.mono HBv.out.size))
    clear hb2 hb3 hQ HX1 P1 HN1 HBv
    simp only
    go_upto_region 7 with (fail)
    generalize w2.alloc (.cells #[.int .i64 nd.kind, .int .i64 nd.lo, .int .i64 nd.hi, .int .i64 nd.mode, .int .i64 nd.ref, .slice B1 n1 q1, .bool nb, .slice B2 nd.kids.length q2] 38) = v2 at *
    obtain ⟨gP, hgP⟩ : ∃ gP, gP = w1.heap.size := ⟨_, rfl⟩
    obtain ⟨gQ, hgQ⟩ : ∃ gQ, gQ = w2.heap.size := ⟨_, rfl⟩
    rw [← hgP] at HFl HPn ⊢
    rw [← hgQ] at HQn ⊢
    clear hgP hgQ
    have hc0 := HFl.out.cell 0
    have hn9 := HPn.out.nine
    have HWd := Lib.hid (fun W (hW : Below v2.heap.size v2 W) => width_any nd HW.out W A1 A2 p1 p2 (HNv.out.on hW))
    have HSz := Lib.hid (fun W (hW : Below v2.heap.size v2 W) => size_any nd HW.out W A1 A2 p1 p2 (HNv.out.on hW))
    have HCh := Lib.hid (fun W (hW : Below v2.heap.size v2 W) => check_any nd HW.out (g : Int) fo W A1 A2 p1 p2 (HNv.out.on hW))
    have HLe := Lib.hid (fun W (hW : Below v2.heap.size v2 W) => leastQ_any nd HW.out W B1 B2 n1 q1 q2 nb (HQv.out.on_ hW))
    have HMo := Lib.hid (fun W (hW : Below v2.heap.size v2 W) => mostQ_any nd HW.out W B1 B2 n1 q1 q2 nb (HQv.out.on_ hW))
    have HSq := Lib.hid (fun W (hW : Below v2.heap.size v2 W) => sizeQ_any nd HW.out W B1 B2 n1 q1 q2 nb (HQv.out.on_ hW))
    have HCq := Lib.hid (fun W (hW : Below v2.heap.size v2 W) => checkQ_any nd HW.out W B1 B2 n1 q1 q2 nb (HQv.out.on_ hW))
    generalize least nd = l at *
    generalize most nd = m at *
    generalize ndSize nd = z at *
    generalize verdictN nd = vd at *
    clear HNv HQv
    go_wp2_with fail
    refine (HWd.out v2 (Below.refl _ _)).mono ?_
    rintro e w5 ⟨rfl, hb5⟩
    have HB5 := Lib.hid hb5
    have HQ5 := Lib.hid (HQn.out.on hb5)
    have HP5 := Lib.hid (HPn.out.on hb5)
    clear hb5 hc0 hn9 HFl HPn HQn HWd
    go_wp2_with fail
    refine wp_region_held_drew (S := fun w' => Below w5.heap.size w5 w') (by kernel_rfl) (qdrew w5) (fun hHeld => ?_)
    refine take_dq 0 47 (.int .i64 l) _ rfl rfl (by kernel_rfl) (by kernel_rfl) (by kernel_rfl) (fun _ _ _ h => h) (Or.inl ⟨by rfl, fun w' hSw => ?_⟩) hHeld ?_
    · go_simp
    simp only [List.setIfInBounds_toArray, List.set_cons_zero, List.set_cons_succ]
    refine take_dq 1 48 (.agg #[.int .i64 nd.kind, .int .i64 nd.lo, .int .i64 nd.hi, .int .i64 nd.mode, .int .i64 nd.ref, .slice B1 n1 q1, .bool nb, .slice B2 nd.kids.length q2]) _ rfl rfl (by kernel_rfl) (by kernel_rfl) (by kernel_rfl) (fun _ _ _ h => h) (Or.inl ⟨by rfl, fun w' hSw => ?_⟩) hHeld ?_
    · have zz := (HQ5.out.on hSw).c8
      go_simp
    simp only [List.setIfInBounds_toArray, List.set_cons_zero, List.set_cons_succ]
    refine wpAnyH_ready (rs := [2]) (by kernel_rfl) (by simp) ?_
    refine AllReadyH.cons rfl (fun K hK => ?_) AllReadyH.nil
    go_simp
    refine (HLe.out _ (HB5.out.trans (hHeld.mono HB5.out.size))).mono ?_
    rintro e wk ⟨rfl, hbk⟩
    have hSk := hHeld.trans (hbk.mono hHeld.size)
    refine hK.out _ _ hSk (fun hHeld => ?_)
    clear hK K hbk hSk
    refine take_dq 3 50 (.bool true) _ rfl rfl (by kernel_rfl) (by kernel_rfl) (by kernel_rfl) (fun _ _ _ h => h) (Or.inl ⟨by rfl, fun w' hSw => ?_⟩) hHeld ?_
    · go_simp
    simp only [List.setIfInBounds_toArray, List.set_cons_zero, List.set_cons_succ]
    refine take_dq 4 51 (.bool true) _ rfl rfl (by kernel_rfl) (by kernel_rfl) (by kernel_rfl) (fun _ _ _ h => h) (Or.inl ⟨by rfl, fun w' hSw => ?_⟩) hHeld ?_
    · go_simp
    simp only [List.setIfInBounds_toArray, List.set_cons_zero, List.set_cons_succ]
    refine take_dq 5 52 (.int .i64 m) _ rfl rfl (by kernel_rfl) (by kernel_rfl) (by kernel_rfl) (fun _ _ _ h => h) (Or.inl ⟨by rfl, fun w' hSw => ?_⟩) hHeld ?_
    · go_simp
    simp only [List.setIfInBounds_toArray, List.set_cons_zero, List.set_cons_succ]
    refine take_dq 6 53 (.agg #[.int .i64 nd.kind, .int .i64 nd.lo, .int .i64 nd.hi, .int .i64 nd.mode, .int .i64 nd.ref, .slice B1 n1 q1, .bool nb, .slice B2 nd.kids.length q2]) _ rfl rfl (by kernel_rfl) (by kernel_rfl) (by kernel_rfl) (fun _ _ _ h => h) (Or.inl ⟨by rfl, fun w' hSw => ?_⟩) hHeld ?_
    · have zz := (HQ5.out.on hSw).c8
      go_simp
    simp only [List.setIfInBounds_toArray, List.set_cons_zero, List.set_cons_succ]
    refine wpAnyH_ready (rs := [7]) (by kernel_rfl) (by simp) ?_
    refine AllReadyH.cons rfl (fun K hK => ?_) AllReadyH.nil
    go_simp
    refine (HMo.out _ (HB5.out.trans (hHeld.mono HB5.out.size))).mono ?_
    rintro e wk ⟨rfl, hbk⟩
    have hSk := hHeld.trans (hbk.mono hHeld.size)
    refine hK.out _ _ hSk (fun hHeld => ?_)
    clear hK K hbk hSk
    refine take_dq 8 55 (.bool true) _ rfl rfl (by kernel_rfl) (by kernel_rfl) (by kernel_rfl) (fun _ _ _ h => h) (Or.inl ⟨by rfl, fun w' hSw => ?_⟩) hHeld ?_
    · go_simp
    simp only [List.setIfInBounds_toArray, List.set_cons_zero, List.set_cons_succ]
    refine take_dq 9 56 (.bool true) _ rfl rfl (by kernel_rfl) (by kernel_rfl) (by kernel_rfl) (fun _ _ _ h => h) (Or.inl ⟨by rfl, fun w' hSw => ?_⟩) hHeld ?_
    · go_simp
    simp only [List.setIfInBounds_toArray, List.set_cons_zero, List.set_cons_succ]
    refine take_dq 10 57 (.bool true) _ rfl rfl (by kernel_rfl) (by kernel_rfl) (by kernel_rfl) (fun _ _ _ h => h) (Or.inl ⟨by rfl, fun w' hSw => ?_⟩) hHeld ?_
    · go_simp
    simp only [List.setIfInBounds_toArray, List.set_cons_zero, List.set_cons_succ]
    refine take_dq 11 58 (.pointer (some ⟨gP, 0, none⟩)) _ rfl rfl (by kernel_rfl) (by kernel_rfl) (by kernel_rfl) (fun _ _ _ h => h) (Or.inl ⟨by rfl, fun w' hSw => ?_⟩) hHeld ?_
    · go_simp
    simp only [List.setIfInBounds_toArray, List.set_cons_zero, List.set_cons_succ]
    refine take_dq 12 59 (.agg #[.int .i64 nd.kind, .int .i64 nd.lo, .int .i64 nd.hi, .int .i64 nd.mode, .int .i64 nd.ref, .slice A1 nd.set.length p1, .slice A2 nd.kids.length p2]) _ rfl rfl (by kernel_rfl) (by kernel_rfl) (by kernel_rfl) (fun _ _ _ h => h) (Or.inl ⟨by rfl, fun w' hSw => ?_⟩) hHeld ?_
    · have zz := (HP5.out.on hSw).nine
      go_simp
    simp only [List.setIfInBounds_toArray, List.set_cons_zero, List.set_cons_succ]
    refine take_dq 14 61 (.agg #[.int .i64 nd.kind, .int .i64 nd.lo, .int .i64 nd.hi, .int .i64 nd.mode, .int .i64 nd.ref, .slice B1 n1 q1, .bool nb, .slice B2 nd.kids.length q2]) _ rfl rfl (by kernel_rfl) (by kernel_rfl) (by kernel_rfl) (fun _ _ _ h => h) (Or.inl ⟨by rfl, fun w' hSw => ?_⟩) hHeld ?_
    · have zz := (HQ5.out.on hSw).c8
      go_simp
    simp only [List.setIfInBounds_toArray, List.set_cons_zero, List.set_cons_succ]
    refine wpAnyH_ready (rs := [13]) (by kernel_rfl) (by simp) ?_
    refine AllReadyH.cons rfl (fun K hK => ?_) AllReadyH.nil
    go_simp
    refine (HSz.out _ (HB5.out.trans (hHeld.mono HB5.out.size))).mono ?_
    rintro e wk ⟨rfl, hbk⟩
    have hSk := hHeld.trans (hbk.mono hHeld.size)
    refine hK.out _ _ hSk (fun hHeld => ?_)
    clear hK K hbk hSk
    refine wpAnyH_ready (rs := [15]) (by kernel_rfl) (by simp) ?_
    refine AllReadyH.cons rfl (fun K hK => ?_) AllReadyH.nil
    go_simp
    refine (HSq.out _ (HB5.out.trans (hHeld.mono HB5.out.size))).mono ?_
    rintro e wk ⟨rfl, hbk⟩
    have hSk := hHeld.trans (hbk.mono hHeld.size)
    refine hK.out _ _ hSk (fun hHeld => ?_)
    clear hK K hbk hSk
    refine take_dq 16 63 (.bool true) _ rfl rfl (by kernel_rfl) (by kernel_rfl) (by kernel_rfl) (fun _ _ _ h => h) (Or.inl ⟨by rfl, fun w' hSw => ?_⟩) hHeld ?_
    · go_simp
    simp only [List.setIfInBounds_toArray, List.set_cons_zero, List.set_cons_succ]
    refine take_dq 17 64 (.bool true) _ rfl rfl (by kernel_rfl) (by kernel_rfl) (by kernel_rfl) (fun _ _ _ h => h) (Or.inl ⟨by rfl, fun w' hSw => ?_⟩) hHeld ?_
    · go_simp
    simp only [List.setIfInBounds_toArray, List.set_cons_zero, List.set_cons_succ]
    refine take_dq 18 65 (.bool true) _ rfl rfl (by kernel_rfl) (by kernel_rfl) (by kernel_rfl) (fun _ _ _ h => h) (Or.inl ⟨by rfl, fun w' hSw => ?_⟩) hHeld ?_
    · go_simp
    simp only [List.setIfInBounds_toArray, List.set_cons_zero, List.set_cons_succ]
    refine take_dq 19 66 (.agg #[.int .i64 nd.kind, .int .i64 nd.lo, .int .i64 nd.hi, .int .i64 nd.mode, .int .i64 nd.ref, .slice A1 nd.set.length p1, .slice A2 nd.kids.length p2, .int .i64 (g : Nat), .bool fo]) _ rfl rfl (by kernel_rfl) (by kernel_rfl) (by kernel_rfl) (fun _ _ _ h => h) (Or.inl ⟨by rfl, fun w' hSw => ?_⟩) hHeld ?_
    · have zz := (HP5.out.on hSw).nine
      go_simp
    simp only [List.setIfInBounds_toArray, List.set_cons_zero, List.set_cons_succ]
    refine take_dq 21 68 (.agg #[.int .i64 nd.kind, .int .i64 nd.lo, .int .i64 nd.hi, .int .i64 nd.mode, .int .i64 nd.ref, .slice B1 n1 q1, .bool nb, .slice B2 nd.kids.length q2]) _ rfl rfl (by kernel_rfl) (by kernel_rfl) (by kernel_rfl) (fun _ _ _ h => h) (Or.inl ⟨by rfl, fun w' hSw => ?_⟩) hHeld ?_
    · have zz := (HQ5.out.on hSw).c8
      go_simp
    simp only [List.setIfInBounds_toArray, List.set_cons_zero, List.set_cons_succ]
    refine wpAnyH_ready (rs := [20]) (by kernel_rfl) (by simp) ?_
    refine AllReadyH.cons rfl (fun K hK => ?_) AllReadyH.nil
    go_simp
    refine (HCh.out _ (HB5.out.trans (hHeld.mono HB5.out.size))).mono ?_
    rintro e wk ⟨rfl, hbk⟩
    have hSk := hHeld.trans (hbk.mono hHeld.size)
    refine hK.out _ _ hSk (fun hHeld => ?_)
    clear hK K hbk hSk
    refine wpAnyH_ready (rs := [22]) (by kernel_rfl) (by simp) ?_
    refine AllReadyH.cons rfl (fun K hK => ?_) AllReadyH.nil
    go_simp
    refine (HCq.out _ (HB5.out.trans (hHeld.mono HB5.out.size))).mono ?_
    rintro e wk ⟨rfl, hbk⟩
    have hSk := hHeld.trans (hbk.mono hHeld.size)
    refine hK.out _ _ hSk (fun hHeld => ?_)
    clear hK K hbk hSk
    refine take_dq 23 70 (.bool true) _ rfl rfl (by kernel_rfl) (by kernel_rfl) (by kernel_rfl) (fun _ _ _ h => h) (Or.inl ⟨by rfl, fun w' hSw => ?_⟩) hHeld ?_
    · go_simp
    simp only [List.setIfInBounds_toArray, List.set_cons_zero, List.set_cons_succ]
    refine take_dq 24 71 (.bool true) _ rfl rfl (by kernel_rfl) (by kernel_rfl) (by kernel_rfl) (fun _ _ _ h => h) (Or.inl ⟨by rfl, fun w' hSw => ?_⟩) hHeld ?_
    · go_simp
    simp only [List.setIfInBounds_toArray, List.set_cons_zero, List.set_cons_succ]
    refine take_dq 25 2 (.bool true) _ rfl rfl (by kernel_rfl) (by kernel_rfl) (by kernel_rfl) (fun _ _ _ h => h) (Or.inl ⟨by rfl, fun w' hSw => ?_⟩) hHeld ?_
    · go_simp
    simp only [List.setIfInBounds_toArray, List.set_cons_zero, List.set_cons_succ]
    refine wpAnyH_done (by kernel_rfl) ?_ _
    go_wp2
    go_ret
    exact ⟨rfl, HBe.out.trans ((HB5.out.trans (hHeld.mono HB5.out.size)).mono HBe.out.size)⟩
theorem shapeTells_law (x : ByteArray) (w : World) (hT : TabsAt w.heap.size w) : Calls Tryz.prog 3 #[.string x] w fun e w' => e = .returned (.bool true) ∧ Below w.heap.size w w' := tells_law x hT
end Go.Proofs.YtpginkdkblmnbaaGreatDoor
