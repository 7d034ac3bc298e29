/- The document's bytes: a list of entries, a message, a record. -/
import Derived.Test.YtiheeafmplccoaaPkBb
namespace Go.Proofs.Ytiheeafmplccoaa
open Go.RowKit
variable {w w' w'' : World} {base : Nat} {s : List UInt8}

set_option maxRecDepth 100000 in
set_option maxHeartbeats 8000000 in
theorem xlog_any (v lv : Value) (l : List En) (hV : EntsV base w lv l) (hok : ∀ e ∈ l, e.ok = true) (hm : l.length ≤ 64) (h : Own w base v s) (hb : base ≤ w.heap.size) (hl : s.length ≤ 300000000) :
    Calls Try.prog 41 #[v, lv] w fun e w' => ∃ v', e = .returned v' ∧ Own w' base v' (s ++ eL eE l) ∧ Fr8 base w w' := by
  obtain ⟨A, cap, rfl⟩ := hV.form
  obtain ⟨n, hn⟩ : ∃ n, n = l.length := ⟨_, rfl⟩
  have heL : eL eE l = n6 (n : Int) ++ l.flatMap eE := by rw [hn]; rfl
  rw [heL]
  rw [← hn] at hV hm ⊢
  have HN := Lib.hid hn
  have HV := Lib.hid hV
  have HO := Lib.hid hok
  have H := Lib.hid h
  clear h hV hok heL hn
  go_enter Try.func41, Try.ntmps41
  go_wp2_with fail
  refine (xnum_any (base := base) _ (n : Int) (by omega) H.out hb (by omega)).mono ?_
  rintro e w1 ⟨v1, rfl, h1, h2⟩
  have H1 := Lib.hid h1
  have H2 := Lib.hid h2
  clear h1 h2
  go_wp2
  go_loopw [0, 5] (fun u i wr => ∃ k : Nat, k ≤ n ∧ i = .int .i64 (k : Int) ∧ Hid (Own wr base u (s ++ (n6 (n : Int) ++ (l.take k).flatMap eE))) ∧ Hid (Fr8 base w wr)) (fun _ i _ => n - (intOf i).toNat)
  case atStart => exact ⟨0, by omega, rfl, Lib.hid (by simpa using H1.out), H2⟩
  case round =>
    obtain ⟨k, hk, rfl, HW, HF⟩ := hrel
    have hbw : base ≤ wr.heap.size := Nat.le_trans hb HF.out.size
    by_cases hlt : k < n
    · have hkl : k < l.length := by rw [← HN.out]; exact hlt
      have hlti : (k : Int) < (n : Int) := by omega
      obtain ⟨b, off, p, d, rfl, hbb, ⟨c0, c1, c2, c3, c4, c5, c6, c7, c8⟩, hp, hd⟩ := (HV.out.below (HF.out.old hb)).at_ hkl
      have HG := Lib.hid (List.getElem?_eq_getElem hkl)
      have hr := HO.out l[k] (List.getElem_mem _)
      generalize l[k] = r at HG hr c0 c1 c2 c3 c4 c5 c6 c7 c8 hp hd
      have HR := Lib.hid hr
      have HS : Hid ((s ++ (n6 (n : Int) ++ (l.take k).flatMap eE)).length ≤ 400000000) := Lib.hid (by
        have := ents_flat HO.out (by rw [← HN.out]; exact hm) k
        simp only [List.length_append, n6_len]
        omega)
      have HP := Lib.hid hp
      have HD := Lib.hid hd
      obtain ⟨Ap, cp, rfl⟩ := hp.form
      obtain ⟨Ad, cd, rfl⟩ := hd.form
      clear hr hp hd hkl
      go_wp2_with fail
      refine (xentryB_any (base := base) r _ _ _ HR.out HP.out HD.out HW.out hbw HS.out).mono ?_
      rintro e w2 ⟨v2, rfl, h1, h2⟩
      have H3 := Lib.hid h1
      have H4 := Lib.hid (HF.out.trans h2)
      clear h1 h2
      go_wp2
      go_roundw
      case rel => exact ⟨k + 1, by omega, by go_num, by rw [flat_take HG.out]; simpa only [List.append_assoc] using H3, H4⟩
      case measure => simp [intOf]; omega
    · obtain rfl : n = k := by omega
      have ho := HW.out
      rw [List.take_of_length_le (by rw [← HN.out]; omega)] at ho
      have HOf := Lib.hid ho
      clear ho
      go_wp2
      go_ret
      exact ⟨_, rfl, HOf.out, HF.out⟩
set_option maxRecDepth 100000 in
set_option maxHeartbeats 16000000 in
theorem xbytesM_any (m : Ms) (v : Value) (w : World) (hok : m.ok = true) (hV : EntsV w.heap.size w v m.log) :
    Calls Try.prog 16 #[m.val v] w fun e w' => ∃ v', e = .returned v' ∧ Own w' w.heap.size v' (eM m) ∧ Below w.heap.size w w' := by
  have hlen := (Ms.ok_len hok).1
  have hmo := most_le m.k
  obtain ⟨h1, h2, h7, h3, h4, h5, h6, h8, h9⟩ := Ms.ok_iff.1 hok
  have he : eM m = n6 m.k ++ n6 m.vi ++ n6 m.fr ++ n6 m.to ++ n6 m.op ++ n6 m.co ++ n6 m.no ++ eL eE m.log := by simp [eM]
  rw [he]
  obtain ⟨A, cp, rfl⟩ := hV.form
  obtain ⟨n, hn⟩ : ∃ n, n = m.log.length := ⟨_, rfl⟩
  rw [← hn] at hV ⊢
  have N1 : Hid (-1 ≤ m.k ∧ m.k ≤ 1099511627776) := Lib.hid (by omega)
  have N2 : Hid (-1 ≤ m.vi ∧ m.vi ≤ 1099511627776) := Lib.hid (by omega)
  have N3 : Hid (-1 ≤ m.fr ∧ m.fr ≤ 1099511627776) := Lib.hid (by omega)
  have N4 : Hid (-1 ≤ m.to ∧ m.to ≤ 1099511627776) := Lib.hid (by omega)
  have N5 : Hid (-1 ≤ m.op ∧ m.op ≤ 1099511627776) := Lib.hid (by omega)
  have N6 : Hid (-1 ≤ m.co ∧ m.co ≤ 1099511627776) := Lib.hid (by omega)
  have N7 : Hid (-1 ≤ m.no ∧ m.no ≤ 1099511627776) := Lib.hid (by omega)
  obtain ⟨base, hbase⟩ : ∃ base, base = w.heap.size + 1 := ⟨_, rfl⟩
  have hB := (Below.refl w.heap.size w).alloc (Nat.le_refl _) (.cells #[.int .i64 m.k, .int .i64 m.vi, .int .i64 m.fr, .int .i64 m.to, .int .i64 m.op, .int .i64 m.co, .int .i64 m.no, .slice A n cp] 29)
  have HOk := Lib.hid h9
  have HLen := Lib.hid hlen
  have HVx := Lib.hid ((hV.below hB).more (show w.heap.size ≤ base by omega))
  have XB0 := Lib.hid (Blk.new w 29 #[.int .i64 m.k, .int .i64 m.vi, .int .i64 m.fr, .int .i64 m.to, .int .i64 m.op, .int .i64 m.co, .int .i64 m.no, .slice A n cp])
  have HB := Lib.hid hB
  have hs0 : base ≤ (w.alloc (.cells #[.int .i64 m.k, .int .i64 m.vi, .int .i64 m.fr, .int .i64 m.to, .int .i64 m.op, .int .i64 m.co, .int .i64 m.no, .slice A n cp] 29)).heap.size := by simp; omega
  clear hok h1 h2 h3 h8 h9 hV hB hn he hlen h4 h5 h6 h7 hmo
  go_enter Try.func16, Try.ntmps16
  go_upto_region 2 with (fail)
  generalize w.alloc _ = wx at *
  have XB : Hid (Blk wx.drew w.heap.size 29 #[.int .i64 m.k, .int .i64 m.vi, .int .i64 m.fr, .int .i64 m.to, .int .i64 m.op, .int .i64 m.co, .int .i64 m.no, .slice A n cp]) := Lib.hid XB0.out
  have HV : Hid (EntsV base wx.drew (.slice A n cp) m.log) := Lib.hid (HVx.out.below (Below.drewN' (Below.refl _ _) 1))
  have OX : Hid (Own wx.drew base (.slice none 0 0) []) := Lib.hid (World.ownsRow_nil _ _ _ _)
  have FX : Hid (Fr8 base wx.drew wx.drew) := Lib.hid (Fr8.refl _)
  have FT : Hid (Fr8 base wx.drew wx.drew) := Lib.hid (Fr8.refl _)
  have zx : base ≤ wx.drew.heap.size := hs0
  have hb0 : base ≤ wx.drew.heap.size := hs0
  have hl0 : ([] : List UInt8).length ≤ 100 := by simp
  go_wp2_with fail
  refine wp_region_held_drew (S := fun w' => Blk w' w.heap.size 29 #[.int .i64 m.k, .int .i64 m.vi, .int .i64 m.fr, .int .i64 m.to, .int .i64 m.op, .int .i64 m.co, .int .i64 m.no, .slice A n cp]) (by kernel_rfl) XB.out (fun hHeld => ?_)
  refine take_d 0 4 (.slice none 0 0) _ rfl rfl (by kernel_rfl) (by kernel_rfl) (by kernel_rfl) (fun _ _ _ h => h) (Or.inl ⟨by rfl, fun w' hSw => ?_⟩) hHeld ?_
  · go_simp
  simp only [List.setIfInBounds_toArray, List.set_cons_zero, List.set_cons_succ]
  refine take_d 1 5 (.pointer (some ⟨w.heap.size, 0, none⟩)) _ rfl rfl (by kernel_rfl) (by kernel_rfl) (by kernel_rfl) (fun _ _ _ h => h) (Or.inl ⟨by rfl, fun w' hSw => ?_⟩) hHeld ?_
  · go_simp
  simp only [List.setIfInBounds_toArray, List.set_cons_zero, List.set_cons_succ]
  refine take_d 2 6 (.int .i64 m.k) _ rfl rfl (by kernel_rfl) (by kernel_rfl) (by kernel_rfl) (fun _ _ _ h => h) (Or.inl ⟨by rfl, fun w' hSw => ?_⟩) hHeld ?_
  · have q := Blk.cell hSw 0
    go_simp
  simp only [List.setIfInBounds_toArray, List.set_cons_zero, List.set_cons_succ]
  refine take_d 4 8 (.pointer (some ⟨w.heap.size, 1, none⟩)) _ rfl rfl (by kernel_rfl) (by kernel_rfl) (by kernel_rfl) (fun _ _ _ h => h) (Or.inl ⟨by rfl, fun w' hSw => ?_⟩) hHeld ?_
  · go_simp
  simp only [List.setIfInBounds_toArray, List.set_cons_zero, List.set_cons_succ]
  refine take_d 5 9 (.int .i64 m.vi) _ rfl rfl (by kernel_rfl) (by kernel_rfl) (by kernel_rfl) (fun _ _ _ h => h) (Or.inl ⟨by rfl, fun w' hSw => ?_⟩) hHeld ?_
  · have q := Blk.cell hSw 1
    go_simp
  simp only [List.setIfInBounds_toArray, List.set_cons_zero, List.set_cons_succ]
  refine take_d 7 11 (.pointer (some ⟨w.heap.size, 2, none⟩)) _ rfl rfl (by kernel_rfl) (by kernel_rfl) (by kernel_rfl) (fun _ _ _ h => h) (Or.inl ⟨by rfl, fun w' hSw => ?_⟩) hHeld ?_
  · go_simp
  simp only [List.setIfInBounds_toArray, List.set_cons_zero, List.set_cons_succ]
  refine take_d 8 12 (.int .i64 m.fr) _ rfl rfl (by kernel_rfl) (by kernel_rfl) (by kernel_rfl) (fun _ _ _ h => h) (Or.inl ⟨by rfl, fun w' hSw => ?_⟩) hHeld ?_
  · have q := Blk.cell hSw 2
    go_simp
  simp only [List.setIfInBounds_toArray, List.set_cons_zero, List.set_cons_succ]
  refine take_d 10 14 (.pointer (some ⟨w.heap.size, 3, none⟩)) _ rfl rfl (by kernel_rfl) (by kernel_rfl) (by kernel_rfl) (fun _ _ _ h => h) (Or.inl ⟨by rfl, fun w' hSw => ?_⟩) hHeld ?_
  · go_simp
  simp only [List.setIfInBounds_toArray, List.set_cons_zero, List.set_cons_succ]
  refine take_d 11 15 (.int .i64 m.to) _ rfl rfl (by kernel_rfl) (by kernel_rfl) (by kernel_rfl) (fun _ _ _ h => h) (Or.inl ⟨by rfl, fun w' hSw => ?_⟩) hHeld ?_
  · have q := Blk.cell hSw 3
    go_simp
  simp only [List.setIfInBounds_toArray, List.set_cons_zero, List.set_cons_succ]
  refine wpAnyH_ready (rs := [3]) (by kernel_rfl) (by simp) ?_
  refine AllReadyH.cons rfl (fun K hK => ?_) AllReadyH.nil
  go_simp
  refine (xnum_any (base := base) _ _ N1.out OX.out (by omega) (by omega)).mono ?_
  rintro e wa0 ⟨va0, rfl, hOa0, hFa0⟩
  have Sa0 := Fr8.blk hFa0 hHeld (by decide)
  have Oa0 := Lib.hid hOa0
  have Fa0 := Lib.hid (FX.out.trans hFa0)
  have za0 : base ≤ wa0.heap.size := Nat.le_trans (by omega) hFa0.size
  refine hK.out _ _ Sa0 (fun hHeld => ?_)
  clear hK K hOa0 hFa0 Sa0
  refine wpAnyH_ready (rs := [6]) (by kernel_rfl) (by simp) ?_
  refine AllReadyH.cons rfl (fun K hK => ?_) AllReadyH.nil
  go_simp
  refine (xnum_any (base := base) _ _ N2.out Oa0.out (by omega) (by simp only [List.length_append, n6_len]; omega)).mono ?_
  rintro e wa1 ⟨va1, rfl, hOa1, hFa1⟩
  have Sa1 := Fr8.blk hFa1 hHeld (by decide)
  have Oa1 := Lib.hid hOa1
  have Fa1 := Lib.hid (Fa0.out.trans hFa1)
  have za1 : base ≤ wa1.heap.size := Nat.le_trans (by omega) hFa1.size
  refine hK.out _ _ Sa1 (fun hHeld => ?_)
  clear hK K hOa1 hFa1 Sa1
  refine wpAnyH_ready (rs := [9]) (by kernel_rfl) (by simp) ?_
  refine AllReadyH.cons rfl (fun K hK => ?_) AllReadyH.nil
  go_simp
  refine (xnum_any (base := base) _ _ N3.out Oa1.out (by omega) (by simp only [List.length_append, n6_len]; omega)).mono ?_
  rintro e wa2 ⟨va2, rfl, hOa2, hFa2⟩
  have Sa2 := Fr8.blk hFa2 hHeld (by decide)
  have Oa2 := Lib.hid hOa2
  have Fa2 := Lib.hid (Fa1.out.trans hFa2)
  have za2 : base ≤ wa2.heap.size := Nat.le_trans (by omega) hFa2.size
  refine hK.out _ _ Sa2 (fun hHeld => ?_)
  clear hK K hOa2 hFa2 Sa2
  refine wpAnyH_ready (rs := [12]) (by kernel_rfl) (by simp) ?_
  refine AllReadyH.cons rfl (fun K hK => ?_) AllReadyH.nil
  go_simp
  refine (xnum_any (base := base) _ _ N4.out Oa2.out (by omega) (by simp only [List.length_append, n6_len]; omega)).mono ?_
  rintro e wa3 ⟨va3, rfl, hOa3, hFa3⟩
  have Sa3 := Fr8.blk hFa3 hHeld (by decide)
  have Oa3 := Lib.hid hOa3
  have Fa3 := Lib.hid (Fa2.out.trans hFa3)
  have za3 : base ≤ wa3.heap.size := Nat.le_trans (by omega) hFa3.size
  refine hK.out _ _ Sa3 (fun hHeld => ?_)
  clear hK K hOa3 hFa3 Sa3
  refine take_d 13 3 (va3) _ rfl rfl (by kernel_rfl) (by kernel_rfl) (by kernel_rfl) (fun _ _ _ h => h) (Or.inl ⟨by rfl, fun w' hSw => ?_⟩) hHeld ?_
  · go_simp
  simp only [List.setIfInBounds_toArray, List.set_cons_zero, List.set_cons_succ]
  refine wpAnyH_done (by kernel_rfl) ?_ _
  have XB2 : Hid (Blk wa3.drew w.heap.size 29 #[.int .i64 m.k, .int .i64 m.vi, .int .i64 m.fr, .int .i64 m.to, .int .i64 m.op, .int .i64 m.co, .int .i64 m.no, .slice A n cp]) := Lib.hid (Fr8.blk Fa3.out XB.out (by decide))
  have OB : Hid (Own wa3.drew base va3 ([] ++ n6 m.k ++ n6 m.vi ++ n6 m.fr ++ n6 m.to)) := Lib.hid Oa3.out
  have FB : Hid (Fr8 base wa3.drew wa3.drew) := Lib.hid (Fr8.refl _)
  have FT : Hid (Fr8 base wx.drew wa3.drew) := Lib.hid Fa3.out.drew
  have zb : base ≤ wa3.drew.heap.size := za3
  obtain ⟨s2, hs2⟩ : ∃ s2, s2 = [] ++ n6 m.k ++ n6 m.vi ++ n6 m.fr ++ n6 m.to := ⟨_, rfl⟩
  have hl2 : s2.length ≤ 500 := by rw [hs2]; simp only [List.length_append, n6_len, List.length_nil]; omega
  rw [← hs2] at OB
  have HS2 := Lib.hid hs2
  clear hs2
  go_wp2_with fail
  refine wp_region_held_drew (S := fun w' => Blk w' w.heap.size 29 #[.int .i64 m.k, .int .i64 m.vi, .int .i64 m.fr, .int .i64 m.to, .int .i64 m.op, .int .i64 m.co, .int .i64 m.no, .slice A n cp]) (by kernel_rfl) XB2.out (fun hHeld => ?_)
  refine take_d 0 17 (va3) _ rfl rfl (by kernel_rfl) (by kernel_rfl) (by kernel_rfl) (fun _ _ _ h => h) (Or.inl ⟨by rfl, fun w' hSw => ?_⟩) hHeld ?_
  · go_simp
  simp only [List.setIfInBounds_toArray, List.set_cons_zero, List.set_cons_succ]
  refine take_d 1 18 (.pointer (some ⟨w.heap.size, 4, none⟩)) _ rfl rfl (by kernel_rfl) (by kernel_rfl) (by kernel_rfl) (fun _ _ _ h => h) (Or.inl ⟨by rfl, fun w' hSw => ?_⟩) hHeld ?_
  · go_simp
  simp only [List.setIfInBounds_toArray, List.set_cons_zero, List.set_cons_succ]
  refine take_d 2 19 (.int .i64 m.op) _ rfl rfl (by kernel_rfl) (by kernel_rfl) (by kernel_rfl) (fun _ _ _ h => h) (Or.inl ⟨by rfl, fun w' hSw => ?_⟩) hHeld ?_
  · have q := Blk.cell hSw 4
    go_simp
  simp only [List.setIfInBounds_toArray, List.set_cons_zero, List.set_cons_succ]
  refine take_d 4 21 (.pointer (some ⟨w.heap.size, 5, none⟩)) _ rfl rfl (by kernel_rfl) (by kernel_rfl) (by kernel_rfl) (fun _ _ _ h => h) (Or.inl ⟨by rfl, fun w' hSw => ?_⟩) hHeld ?_
  · go_simp
  simp only [List.setIfInBounds_toArray, List.set_cons_zero, List.set_cons_succ]
  refine take_d 5 22 (.int .i64 m.co) _ rfl rfl (by kernel_rfl) (by kernel_rfl) (by kernel_rfl) (fun _ _ _ h => h) (Or.inl ⟨by rfl, fun w' hSw => ?_⟩) hHeld ?_
  · have q := Blk.cell hSw 5
    go_simp
  simp only [List.setIfInBounds_toArray, List.set_cons_zero, List.set_cons_succ]
  refine take_d 7 24 (.pointer (some ⟨w.heap.size, 6, none⟩)) _ rfl rfl (by kernel_rfl) (by kernel_rfl) (by kernel_rfl) (fun _ _ _ h => h) (Or.inl ⟨by rfl, fun w' hSw => ?_⟩) hHeld ?_
  · go_simp
  simp only [List.setIfInBounds_toArray, List.set_cons_zero, List.set_cons_succ]
  refine take_d 8 25 (.int .i64 m.no) _ rfl rfl (by kernel_rfl) (by kernel_rfl) (by kernel_rfl) (fun _ _ _ h => h) (Or.inl ⟨by rfl, fun w' hSw => ?_⟩) hHeld ?_
  · have q := Blk.cell hSw 6
    go_simp
  simp only [List.setIfInBounds_toArray, List.set_cons_zero, List.set_cons_succ]
  refine take_d 10 27 (.pointer (some ⟨w.heap.size, 7, none⟩)) _ rfl rfl (by kernel_rfl) (by kernel_rfl) (by kernel_rfl) (fun _ _ _ h => h) (Or.inl ⟨by rfl, fun w' hSw => ?_⟩) hHeld ?_
  · go_simp
  simp only [List.setIfInBounds_toArray, List.set_cons_zero, List.set_cons_succ]
  refine take_d 11 28 (.slice A n cp) _ rfl rfl (by kernel_rfl) (by kernel_rfl) (by kernel_rfl) (fun _ _ _ h => h) (Or.inl ⟨by rfl, fun w' hSw => ?_⟩) hHeld ?_
  · have q := Blk.cell hSw 7
    go_simp
  simp only [List.setIfInBounds_toArray, List.set_cons_zero, List.set_cons_succ]
  refine wpAnyH_ready (rs := [3]) (by kernel_rfl) (by simp) ?_
  refine AllReadyH.cons rfl (fun K hK => ?_) AllReadyH.nil
  go_simp
  refine (xnum_any (base := base) _ _ N5.out OB.out (by omega) (by omega)).mono ?_
  rintro e wb0 ⟨vb0, rfl, hOb0, hFb0⟩
  have Sb0 := Fr8.blk hFb0 hHeld (by decide)
  have Ob0 := Lib.hid hOb0
  have Fb0 := Lib.hid (FB.out.trans hFb0)
  have zb0 : base ≤ wb0.heap.size := Nat.le_trans (by omega) hFb0.size
  refine hK.out _ _ Sb0 (fun hHeld => ?_)
  clear hK K hOb0 hFb0 Sb0
  refine wpAnyH_ready (rs := [6]) (by kernel_rfl) (by simp) ?_
  refine AllReadyH.cons rfl (fun K hK => ?_) AllReadyH.nil
  go_simp
  refine (xnum_any (base := base) _ _ N6.out Ob0.out (by omega) (by simp only [List.length_append, n6_len]; omega)).mono ?_
  rintro e wb1 ⟨vb1, rfl, hOb1, hFb1⟩
  have Sb1 := Fr8.blk hFb1 hHeld (by decide)
  have Ob1 := Lib.hid hOb1
  have Fb1 := Lib.hid (Fb0.out.trans hFb1)
  have zb1 : base ≤ wb1.heap.size := Nat.le_trans (by omega) hFb1.size
  refine hK.out _ _ Sb1 (fun hHeld => ?_)
  clear hK K hOb1 hFb1 Sb1
  refine wpAnyH_ready (rs := [9]) (by kernel_rfl) (by simp) ?_
  refine AllReadyH.cons rfl (fun K hK => ?_) AllReadyH.nil
  go_simp
  refine (xnum_any (base := base) _ _ N7.out Ob1.out (by omega) (by simp only [List.length_append, n6_len]; omega)).mono ?_
  rintro e wb2 ⟨vb2, rfl, hOb2, hFb2⟩
  have Sb2 := Fr8.blk hFb2 hHeld (by decide)
  have Ob2 := Lib.hid hOb2
  have Fb2 := Lib.hid (Fb1.out.trans hFb2)
  have zb2 : base ≤ wb2.heap.size := Nat.le_trans (by omega) hFb2.size
  refine hK.out _ _ Sb2 (fun hHeld => ?_)
  clear hK K hOb2 hFb2 Sb2
  refine wpAnyH_ready (rs := [12]) (by kernel_rfl) (by simp) ?_
  refine AllReadyH.cons rfl (fun K hK => ?_) AllReadyH.nil
  go_simp
  refine (xlog_any (base := base) _ _ m.log (HV.out.below (Fr8.old (FT.out.trans Fb2.out) hb0)) HOk.out HLen.out Ob2.out (by omega) (by simp only [List.length_append, n6_len]; omega)).mono ?_
  rintro e wz ⟨vz, rfl, hOz, hFz⟩
  have Sz := Fr8.blk hFz hHeld (by decide)
  have Oz := Lib.hid hOz
  have Fz := Lib.hid ((FT.out.trans Fb2.out).trans hFz)
  refine hK.out _ _ Sz (fun hHeld => ?_)
  clear hK K hOz hFz Sz
  refine take_d 13 2 (vz) _ rfl rfl (by kernel_rfl) (by kernel_rfl) (by kernel_rfl) (fun _ _ _ h => h) (Or.inl ⟨by rfl, fun w' hSw => ?_⟩) hHeld ?_
  · go_simp
  simp only [List.setIfInBounds_toArray, List.set_cons_zero, List.set_cons_succ]
  refine wpAnyH_done (by kernel_rfl) ?_ _
  go_wp2
  go_ret
  refine ⟨_, rfl, ?_, HB.out.trans (show Below w.heap.size wx wz from (Below.drewN' (Below.refl _ wx) 1).trans ((Fz.out.old hb0).mono (by omega)))⟩
  have := Own.lower Oz.out (b := w.heap.size) (by omega)
  rw [HS2.out] at this
  simp only [List.nil_append] at this
  exact this
set_option maxRecDepth 100000 in
set_option maxHeartbeats 16000000 in
theorem xbytesC_any (m : Rc) (v : Value) (w : World) (hok : m.ok = true) (hV : EntsV w.heap.size w v m.log) :
    Calls Try.prog 25 #[m.val v] w fun e w' => ∃ v', e = .returned v' ∧ Own w' w.heap.size v' (eC m) ∧ Below w.heap.size w w' := by
  have hlen : m.log.length ≤ 64 := by have := (Rc.ok_len hok).1; omega
  obtain ⟨h1, h2, h3, h8, h9⟩ := Rc.ok_iff.1 hok
  have he : eC m = n6 m.k ++ n6 m.a ++ n6 m.b ++ eL eE m.log := by simp [eC]
  rw [he]
  obtain ⟨A, cp, rfl⟩ := hV.form
  obtain ⟨n, hn⟩ : ∃ n, n = m.log.length := ⟨_, rfl⟩
  rw [← hn] at hV ⊢
  have N1 : Hid (-1 ≤ m.k ∧ m.k ≤ 1099511627776) := Lib.hid (by omega)
  have N2 : Hid (-1 ≤ m.a ∧ m.a ≤ 1099511627776) := Lib.hid (by omega)
  have N3 : Hid (-1 ≤ m.b ∧ m.b ≤ 1099511627776) := Lib.hid (by omega)
  obtain ⟨base, hbase⟩ : ∃ base, base = w.heap.size + 1 := ⟨_, rfl⟩
  have hB := (Below.refl w.heap.size w).alloc (Nat.le_refl _) (.cells #[.int .i64 m.k, .int .i64 m.a, .int .i64 m.b, .slice A n cp] 46)
  have HOk := Lib.hid h9
  have HLen := Lib.hid hlen
  have HVx := Lib.hid ((hV.below hB).more (show w.heap.size ≤ base by omega))
  have XB0 := Lib.hid (Blk.new w 46 #[.int .i64 m.k, .int .i64 m.a, .int .i64 m.b, .slice A n cp])
  have HB := Lib.hid hB
  have hs0 : base ≤ (w.alloc (.cells #[.int .i64 m.k, .int .i64 m.a, .int .i64 m.b, .slice A n cp] 46)).heap.size := by simp; omega
  clear hok h1 h2 h3 h8 h9 hV hB hn he hlen
  go_enter Try.func25, Try.ntmps25
  go_upto_region 2 with (fail)
  generalize w.alloc _ = wx at *
  have XB : Hid (Blk wx.drew w.heap.size 46 #[.int .i64 m.k, .int .i64 m.a, .int .i64 m.b, .slice A n cp]) := Lib.hid XB0.out
  have HV : Hid (EntsV base wx.drew (.slice A n cp) m.log) := Lib.hid (HVx.out.below (Below.drewN' (Below.refl _ _) 1))
  have OX : Hid (Own wx.drew base (.slice none 0 0) []) := Lib.hid (World.ownsRow_nil _ _ _ _)
  have FX : Hid (Fr8 base wx.drew wx.drew) := Lib.hid (Fr8.refl _)
  have FT : Hid (Fr8 base wx.drew wx.drew) := Lib.hid (Fr8.refl _)
  have zx : base ≤ wx.drew.heap.size := hs0
  have hb0 : base ≤ wx.drew.heap.size := hs0
  have hl0 : ([] : List UInt8).length ≤ 100 := by simp
  go_wp2_with fail
  refine wp_region_held_drew (S := fun w' => Blk w' w.heap.size 46 #[.int .i64 m.k, .int .i64 m.a, .int .i64 m.b, .slice A n cp]) (by kernel_rfl) XB.out (fun hHeld => ?_)
  refine take_d 0 4 (.slice none 0 0) _ rfl rfl (by kernel_rfl) (by kernel_rfl) (by kernel_rfl) (fun _ _ _ h => h) (Or.inl ⟨by rfl, fun w' hSw => ?_⟩) hHeld ?_
  · go_simp
  simp only [List.setIfInBounds_toArray, List.set_cons_zero, List.set_cons_succ]
  refine take_d 1 5 (.pointer (some ⟨w.heap.size, 0, none⟩)) _ rfl rfl (by kernel_rfl) (by kernel_rfl) (by kernel_rfl) (fun _ _ _ h => h) (Or.inl ⟨by rfl, fun w' hSw => ?_⟩) hHeld ?_
  · go_simp
  simp only [List.setIfInBounds_toArray, List.set_cons_zero, List.set_cons_succ]
  refine take_d 2 6 (.int .i64 m.k) _ rfl rfl (by kernel_rfl) (by kernel_rfl) (by kernel_rfl) (fun _ _ _ h => h) (Or.inl ⟨by rfl, fun w' hSw => ?_⟩) hHeld ?_
  · have q := Blk.cell hSw 0
    go_simp
  simp only [List.setIfInBounds_toArray, List.set_cons_zero, List.set_cons_succ]
  refine take_d 4 8 (.pointer (some ⟨w.heap.size, 1, none⟩)) _ rfl rfl (by kernel_rfl) (by kernel_rfl) (by kernel_rfl) (fun _ _ _ h => h) (Or.inl ⟨by rfl, fun w' hSw => ?_⟩) hHeld ?_
  · go_simp
  simp only [List.setIfInBounds_toArray, List.set_cons_zero, List.set_cons_succ]
  refine take_d 5 9 (.int .i64 m.a) _ rfl rfl (by kernel_rfl) (by kernel_rfl) (by kernel_rfl) (fun _ _ _ h => h) (Or.inl ⟨by rfl, fun w' hSw => ?_⟩) hHeld ?_
  · have q := Blk.cell hSw 1
    go_simp
  simp only [List.setIfInBounds_toArray, List.set_cons_zero, List.set_cons_succ]
  refine take_d 7 11 (.pointer (some ⟨w.heap.size, 2, none⟩)) _ rfl rfl (by kernel_rfl) (by kernel_rfl) (by kernel_rfl) (fun _ _ _ h => h) (Or.inl ⟨by rfl, fun w' hSw => ?_⟩) hHeld ?_
  · go_simp
  simp only [List.setIfInBounds_toArray, List.set_cons_zero, List.set_cons_succ]
  refine take_d 8 12 (.int .i64 m.b) _ rfl rfl (by kernel_rfl) (by kernel_rfl) (by kernel_rfl) (fun _ _ _ h => h) (Or.inl ⟨by rfl, fun w' hSw => ?_⟩) hHeld ?_
  · have q := Blk.cell hSw 2
    go_simp
  simp only [List.setIfInBounds_toArray, List.set_cons_zero, List.set_cons_succ]
  refine take_d 10 14 (.pointer (some ⟨w.heap.size, 3, none⟩)) _ rfl rfl (by kernel_rfl) (by kernel_rfl) (by kernel_rfl) (fun _ _ _ h => h) (Or.inl ⟨by rfl, fun w' hSw => ?_⟩) hHeld ?_
  · go_simp
  simp only [List.setIfInBounds_toArray, List.set_cons_zero, List.set_cons_succ]
  refine take_d 11 15 (.slice A n cp) _ rfl rfl (by kernel_rfl) (by kernel_rfl) (by kernel_rfl) (fun _ _ _ h => h) (Or.inl ⟨by rfl, fun w' hSw => ?_⟩) hHeld ?_
  · have q := Blk.cell hSw 3
    go_simp
  simp only [List.setIfInBounds_toArray, List.set_cons_zero, List.set_cons_succ]
  refine wpAnyH_ready (rs := [3]) (by kernel_rfl) (by simp) ?_
  refine AllReadyH.cons rfl (fun K hK => ?_) AllReadyH.nil
  go_simp
  refine (xnum_any (base := base) _ _ N1.out OX.out (by omega) (by omega)).mono ?_
  rintro e wa0 ⟨va0, rfl, hOa0, hFa0⟩
  have Sa0 := Fr8.blk hFa0 hHeld (by decide)
  have Oa0 := Lib.hid hOa0
  have Fa0 := Lib.hid (FX.out.trans hFa0)
  have za0 : base ≤ wa0.heap.size := Nat.le_trans (by omega) hFa0.size
  refine hK.out _ _ Sa0 (fun hHeld => ?_)
  clear hK K hOa0 hFa0 Sa0
  refine wpAnyH_ready (rs := [6]) (by kernel_rfl) (by simp) ?_
  refine AllReadyH.cons rfl (fun K hK => ?_) AllReadyH.nil
  go_simp
  refine (xnum_any (base := base) _ _ N2.out Oa0.out (by omega) (by simp only [List.length_append, n6_len]; omega)).mono ?_
  rintro e wa1 ⟨va1, rfl, hOa1, hFa1⟩
  have Sa1 := Fr8.blk hFa1 hHeld (by decide)
  have Oa1 := Lib.hid hOa1
  have Fa1 := Lib.hid (Fa0.out.trans hFa1)
  have za1 : base ≤ wa1.heap.size := Nat.le_trans (by omega) hFa1.size
  refine hK.out _ _ Sa1 (fun hHeld => ?_)
  clear hK K hOa1 hFa1 Sa1
  refine wpAnyH_ready (rs := [9]) (by kernel_rfl) (by simp) ?_
  refine AllReadyH.cons rfl (fun K hK => ?_) AllReadyH.nil
  go_simp
  refine (xnum_any (base := base) _ _ N3.out Oa1.out (by omega) (by simp only [List.length_append, n6_len]; omega)).mono ?_
  rintro e wa2 ⟨va2, rfl, hOa2, hFa2⟩
  have Sa2 := Fr8.blk hFa2 hHeld (by decide)
  have Oa2 := Lib.hid hOa2
  have Fa2 := Lib.hid (Fa1.out.trans hFa2)
  have za2 : base ≤ wa2.heap.size := Nat.le_trans (by omega) hFa2.size
  refine hK.out _ _ Sa2 (fun hHeld => ?_)
  clear hK K hOa2 hFa2 Sa2
  refine wpAnyH_ready (rs := [12]) (by kernel_rfl) (by simp) ?_
  refine AllReadyH.cons rfl (fun K hK => ?_) AllReadyH.nil
  go_simp
  refine (xlog_any (base := base) _ _ m.log (HV.out.below (Fr8.old (FT.out.trans Fa2.out) hb0)) HOk.out HLen.out Oa2.out (by omega) (by simp only [List.length_append, n6_len]; omega)).mono ?_
  rintro e wz ⟨vz, rfl, hOz, hFz⟩
  have Sz := Fr8.blk hFz hHeld (by decide)
  have Oz := Lib.hid hOz
  have Fz := Lib.hid ((FT.out.trans Fa2.out).trans hFz)
  refine hK.out _ _ Sz (fun hHeld => ?_)
  clear hK K hOz hFz Sz
  refine take_d 13 2 (vz) _ rfl rfl (by kernel_rfl) (by kernel_rfl) (by kernel_rfl) (fun _ _ _ h => h) (Or.inl ⟨by rfl, fun w' hSw => ?_⟩) hHeld ?_
  · go_simp
  simp only [List.setIfInBounds_toArray, List.set_cons_zero, List.set_cons_succ]
  refine wpAnyH_done (by kernel_rfl) ?_ _
  go_wp2
  go_ret
  refine ⟨_, rfl, ?_, HB.out.trans (show Below w.heap.size wx wz from (Below.drewN' (Below.refl _ wx) 1).trans ((Fz.out.old hb0).mono (by omega)))⟩
  have := Own.lower Oz.out (b := w.heap.size) (by omega)
  simp only [List.nil_append] at this
  exact this
end Go.Proofs.Ytiheeafmplccoaa
