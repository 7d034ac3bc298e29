/- TapePlays: the law's walk. -/
import Derived.Test.YtjnhjpjebklalaaTpL
namespace Go.Proofs.Ytjnhjpjebklalaa
open Go.RowKit
variable {w w' : World} {n₀ : Nat} {S : Nat → Prop} {g : Nat} {T : Tp}

theorem Tp.does_room (T : Tp) (o : Op12) : (T.does o).room = T.room := by
  unfold Tp.does Tp.app Tp.sync Tp.trim Tp.arm Tp.crash Tp.more Tp.kept
  repeat' split
  all_goals first | rfl | exact Tp.spent_room
theorem str_cat (a b : List UInt8) : (⟨a.toArray⟩ : ByteArray) ++ ⟨b.toArray⟩ = ⟨(a ++ b).toArray⟩ := by
  apply ByteArray.ext
  simp [ByteArray.data_append]
set_option maxRecDepth 100000 in
set_option maxHeartbeats 16000000 in
theorem tapePlays_in (room : Int) (h1 : 0 ≤ room) (h2 : room ≤ 1048576) (v : Value) (l : List Op12) (w : World) (hn : l.length ≤ 80) (h : OpsV w.heap.size w v l) :
    Calls Try.prog 3 #[.int .i64 room, v] w fun e w' => e = .returned (.bool true) ∧ Below w.heap.size w w' := by
  obtain ⟨A, cap, rfl⟩ := h.form
  have H := Lib.hid h
  obtain ⟨n, hN⟩ : ∃ n, n = l.length := ⟨_, rfl⟩
  rw [← hN] at H hn ⊢
  have HN := Lib.hid hN
  clear h hN
  have i1 : ¬ (80 : Int) < (n : Int) := by omega
  have i2 : ¬ room < 0 := by omega
  have i3 : ¬ (1048576 : Int) < room := by omega
  go_enter Try.func3, Try.ntmps3
  go_wp2_with fail
  refine (anchor12_any w).mono ?_
  rintro e w1 ⟨rfl, b1⟩
  have B1 := Lib.hid b1
  clear b1
  go_wp2_with fail
  refine (new_any room h1 h2 w1).mono ?_
  rintro e w2 ⟨rfl, t2, b2⟩
  have B2 := Lib.hid (B1.out.trans (b2.mono B1.out.size))
  have hg : w.heap.size ≤ w1.heap.size := B1.out.size
  have hgl : w1.heap.size < w2.heap.size := t2.lt
  have B3 := Lib.hid (B2.out.alloc B2.out.size (.cells #[.slice none 0 0, .slice none 0 0, .int .i64 room, .int .i64 0, .bool false, .bool false] 29))
  have T3 := Lib.hid (t2.alloc (.cells #[.slice none 0 0, .slice none 0 0, .int .i64 room, .int .i64 0, .bool false, .bool false] 29))
  have V3 : Hid (TwV (w2.alloc (.cells #[.slice none 0 0, .slice none 0 0, .int .i64 room, .int .i64 0, .bool false, .bool false] 29)) w2.heap.size (.slice none 0 0) (.slice none 0 0) (Tw.new room)) := Lib.hid ⟨⟨Blk.new w2 _ _, own_nil _ _, own_nil _ _, fun i e => by cases e⟩, Tw.new_ok h1 h2⟩
  have D3 : Hid (∀ i, i = w1.heap.size → w.heap.size ≤ i ∧ ¬ Ft w2.heap.size (.slice none 0 0) (.slice none 0 0) i) := Lib.hid fun i hi => ⟨by omega, fun e => by
    rcases e with e | e | e
    · omega
    · cases e
    · cases e⟩
  have E3 : Hid (∀ i, Ft w2.heap.size (.slice none 0 0) (.slice none 0 0) i → w.heap.size ≤ i) := Lib.hid fun i hi => by
    rcases hi with e | e | e
    · omega
    · cases e
    · cases e
  clear b2 t2 hg hgl
  go_upto_region 11 with (fail)
  generalize w2.alloc _ = w3 at *
  generalize w1.heap.size = g at *
  generalize w2.heap.size = hb at *
  go_wp2
  go_loopw [32] (fun i wr => ∃ (k : Nat) (T : Tp) (W : Tw) (As : Option Addr) (ls cs : Nat) (Al : Option Addr) (ll cl : Nat) (S : Nat → Prop), k ≤ n ∧ i = .int .i64 k ∧ Hid (Alike T W) ∧ Hid (T.room = room) ∧ Hid (TapeAt wr g S T) ∧ Hid (TwV wr hb (.slice As ls cs) (.slice Al ll cl) W) ∧ Hid (∀ i, S i → w.heap.size ≤ i ∧ ¬ Ft hb (.slice As ls cs) (.slice Al ll cl) i) ∧ Hid (∀ i, Ft hb (.slice As ls cs) (.slice Al ll cl) i → w.heap.size ≤ i) ∧ Hid (Below w.heap.size w wr)) (fun i _ => n - (intOf i).toNat)
  case atStart => exact ⟨0, Tp.new room, Tw.new room, none, 0, 0, none, 0, 0, _, Nat.zero_le _, rfl, Lib.hid (Alike.new room), Lib.hid rfl, T3, V3, D3, E3, B3⟩
  case round =>
    obtain ⟨k, T, W, As0, ls0, cs0, Al0, ll0, cl0, S, hk, rfl, HA, HR, HT, HV, HD, HE, HB⟩ := hrel
    have hsz : w.heap.size ≤ wr.heap.size := HB.out.size
    by_cases hlt : k < n
    · have hkl : k < l.length := by rw [← HN.out]; exact hlt
      obtain ⟨b, off, u, rfl, hb1, ⟨d0, d1, d2⟩, hu, hd1, hn1⟩ := H.out.at_ hkl
      have c0 := (HB.out.cell (p := ⟨b, off + k * 3, none⟩) hb1).trans d0
      have c1 := (HB.out.cell (p := ⟨b, off + k * 3 + 1, none⟩) hb1).trans d1
      have c2 := (HB.out.cell (p := ⟨b, off + k * 3 + 2, none⟩) hb1).trans d2
      clear d0 d1 d2
      generalize l[k] = o at c0 c1 c2 hu hd1 hn1
      obtain ⟨ok, on, od⟩ := o
      simp only at c0 c1 c2 hu hd1 hn1
      have HU := Lib.hid hu
      obtain ⟨Au, cu, rfl, _, _⟩ := hu
      have HN1 := Lib.hid hn1
      obtain ⟨m, hm⟩ : ∃ m, m = od.length := ⟨_, rfl⟩
      rw [← hm] at c2 hd1 HU
      have HM := Lib.hid hm
      have BO := Lib.hid (HB.out.alloc hsz (.cells #[.int .i64 ok, .int .i64 on, .slice Au m cu] 31))
      have ZO := Lib.hid ((Below.refl wr.heap.size wr).alloc (Nat.le_refl _) (.cells #[.int .i64 ok, .int .i64 on, .slice Au m cu] 31))
      clear hm hkl hn1
      by_cases hd : 300 < m
      · go_wp2
        go_ret
        exact ⟨rfl, BO.out⟩
      have HTo := Lib.hid (HT.out.on ZO.out)
      have HVo := Lib.hid (HV.out.on ZO.out)
      have XO := Lib.hid (Blk.new wr 31 #[.int .i64 ok, .int .i64 on, .slice Au m cu])
      have NXS : Hid (∀ i, S i → i < wr.heap.size) := Lib.hid fun i hi => (HT.out.old i hi).2
      have NXF : Hid (∀ i, Ft hb (.slice As0 ls0 cs0) (.slice Al0 ll0 cl0) i → i < wr.heap.size) := Lib.hid fun i hi => (HV.out.old i hi).2
      have UO : Hid (∀ w', Below w.heap.size w w' → Bytes w.heap.size w' (.slice Au m cu) od) := Lib.hid fun w' hb => HU.out.below hb
      go_upto_region 16 with (fail)
      have x0 := XO.out.cell 0
      have x1 := XO.out.cell 1
      have x2 := XO.out.cell 2
      generalize hxb : wr.heap.size = xb at *
      generalize wr.alloc _ = w4 at *
      clear c0 c1 c2
      have ST := Lib.hid (step_any (n₀ := w.heap.size) ⟨ok, on, od⟩ (.slice Au m cu) (by rw [← HM.out]; omega) HN1.out (fun w' hf => UO.out w' (BO.out.trans (hf.old BO.out.size HE.out))) HVo.out)
      go_wp2_with fail
      refine ST.out.mono ?_
      rintro e w5 ⟨rfl, vs5, vl5, hft, v5, f5⟩
      have hx4 : xb < w4.heap.size := XO.out.lt
      have T5 := Lib.hid (HTo.out.fr f5 (fun i hi => (HD.out i hi).2))
      have X5 := Lib.hid (f5.blk XO.out (fun e => by have := NXF.out _ e; omega))
      have B5 := Lib.hid (BO.out.trans (f5.old BO.out.size HE.out))
      have D5 : Hid (∀ i, S i → w.heap.size ≤ i ∧ ¬ Ft hb vs5 vl5 i) := Lib.hid fun i hi => ⟨(HD.out i hi).1, fun e => by
        rcases hft i e with e | e
        · exact (HD.out i hi).2 e
        · have := NXS.out i hi; omega⟩
      have E5 : Hid (∀ i, Ft hb vs5 vl5 i → w.heap.size ≤ i ∧ i ≠ xb) := Lib.hid fun i hi => by
        rcases hft i hi with e | e
        · exact ⟨HE.out i e, by have := NXF.out i e; omega⟩
        · exact ⟨Nat.le_trans BO.out.size e, by omega⟩
      obtain ⟨As, cs, rfl⟩ := v5.os.one
      obtain ⟨Al, cl, rfl⟩ := v5.ol.one
      have V5 := Lib.hid v5
      have AL := Lib.hid (HA.out.step ⟨ok, on, od⟩)
      have RM := Lib.hid ((Tp.does_room T ⟨ok, on, od⟩).trans HR.out)
      have DO := does_any (n₀ := w.heap.size) ⟨ok, on, od⟩ (.slice Au m cu) (by rw [← HM.out]; omega) HN1.out (fun w' hf => UO.out w' ((show Below w.heap.size w w5.drew from Below.drewN' B5.out 1).trans (hf.old B5.out.size (fun i hi => (HD.out i hi).1)))) (T5.out.on (Below.drewN' (Below.refl _ w5) 1))
      rw [AL.out.1] at DO
      have DO := Lib.hid DO
      have AK := Lib.hid AL.out.2
      clear hft v5 f5 ST AL
      generalize Tp.does T ⟨ok, on, od⟩ = T9 at *
      generalize Tw.step W ⟨ok, on, od⟩ = W9 at *
      generalize Tw.stepE W ⟨ok, on, od⟩ = E9 at *
      obtain ⟨ls, hls⟩ : ∃ ls, ls = W9.safe.length := ⟨_, rfl⟩
      obtain ⟨ll, hll⟩ : ∃ ll, ll = W9.loose.length := ⟨_, rfl⟩
      rw [← hls, ← hll] at V5 D5 E5
      obtain ⟨s1, hs1⟩ : ∃ s1 : ByteArray, s1 = ⟨W9.safe.toArray⟩ := ⟨_, rfl⟩
      obtain ⟨s2, hs2⟩ : ∃ s2 : ByteArray, s2 = ⟨W9.loose.toArray⟩ := ⟨_, rfl⟩
      obtain ⟨sb, hsb⟩ : ∃ sb : ByteArray, sb = ⟨T9.bs.toArray⟩ := ⟨_, rfl⟩
      have hcat : s1 ++ s2 = sb := by rw [hs1, hs2, hsb, str_cat, AK.out.bs]
      have hfit := V5.out.ok.fits
      have hrm : W9.room = room := AK.out.room.symm.trans RM.out
      rw [← hls, ← hll, hrm] at hfit
      have z1 : s1.size ≤ 2000000 := by rw [hs1, str_size, ← hls]; omega
      have z2 : s2.size ≤ 2000000 := by rw [hs2, str_size, ← hll]; omega
      have S1 := Lib.hid hs1
      have S2 := Lib.hid hs2
      have LS := Lib.hid hls
      have LL := Lib.hid hll
      have BYT : Hid (∀ S' w', TapeAt w' g S' T9 → Calls Try.prog 12 #[.pointer (some ⟨g, 0, none⟩)] w' fun e w'' => ∃ v, e = .returned v ∧ Below w'.heap.size w' w'' ∧ (convert 27 9 v).run Try.prog w'' = .ok (.string sb) w'') := Lib.hid fun S' w' ht => (bytes_any ht).mono fun e w'' ⟨v, he, ho, hb⟩ => ⟨v, he, hb, by rw [hsb]; exact run_string_bytes ho.bytes⟩
      have SAF : Hid (∀ S' w', TapeAt w' g S' T9 → Calls Try.prog 13 #[.pointer (some ⟨g, 0, none⟩)] w' fun e w'' => e = .returned (.int .i64 (ls : Int)) ∧ w'' = w') := Lib.hid fun S' w' ht => by
        have := safe_any ht
        rwa [AK.out.safe, ← hls] at this
      have ROO : Hid (∀ S' w', TapeAt w' g S' T9 → Calls Try.prog 14 #[.pointer (some ⟨g, 0, none⟩)] w' fun e w'' => e = .returned (.int .i64 (room - (ls : Int) - (ll : Int))) ∧ Below w'.heap.size w' w'') := Lib.hid fun S' w' ht => by
        have := room_any ht
        rwa [RM.out, AK.out.bs, List.length_append, Int.natCast_add, ← hls, ← hll, ← Int.sub_sub] at this
      have DOW : Hid (∀ S' w', TapeAt w' g S' T9 → Calls Try.prog 15 #[.pointer (some ⟨g, 0, none⟩)] w' fun e w'' => e = .returned (.bool W9.down) ∧ w'' = w') := Lib.hid fun S' w' ht => by
        have := down_any ht
        rwa [AK.out.down] at this
      clear hls hll hs1 hs2 hsb hrm x0 x1 x2
      go_wp2_with fail
      have H5 : TwV w5.drew hb (.slice As ls cs) (.slice Al ll cl) W9 ∧ Blk w5.drew xb 31 #[.int .i64 ok, .int .i64 on, .slice Au m cu] := ⟨V5.out.on (Below.drewN' (Below.refl _ w5) 1), X5.out.on (Below.drewN' (Below.refl _ w5) 1)⟩
      refine wp_region_held_drew (S := fun w' => TwV w' hb (.slice As ls cs) (.slice Al ll cl) W9 ∧ Blk w' xb 31 #[.int .i64 ok, .int .i64 on, .slice Au m cu]) (by kernel_rfl) H5 (fun hHeld => ?_)
      refine take_d 0 43 (.pointer (some ⟨g, 0, none⟩)) _ rfl rfl (by kernel_rfl) (by kernel_rfl) (by kernel_rfl) (fun _ _ _ h => h) (Or.inl ⟨by rfl, fun w' hSw => ?_⟩) hHeld ?_
      · go_simp
      simp only [List.setIfInBounds_toArray, List.set_cons_zero, List.set_cons_succ]
      refine take_d 1 44 (.agg #[.int .i64 ok, .int .i64 on, .slice Au m cu]) _ rfl rfl (by kernel_rfl) (by kernel_rfl) (by kernel_rfl) (fun _ _ _ h => h) (Or.inl ⟨by rfl, fun w' hSw => ?_⟩) hHeld ?_
      · have q0 := hSw.2.cell 0
        have q1 := hSw.2.cell 1
        have q2 := hSw.2.cell 2
        go_simp
      simp only [List.setIfInBounds_toArray, List.set_cons_zero, List.set_cons_succ]
      refine take_d 3 46 (.int .i64 (E9 : Int)) _ rfl rfl (by kernel_rfl) (by kernel_rfl) (by kernel_rfl) (fun _ _ _ h => h) (Or.inl ⟨by rfl, fun w' hSw => ?_⟩) hHeld ?_
      · go_simp
      simp only [List.setIfInBounds_toArray, List.set_cons_zero, List.set_cons_succ]
      refine wpAnyH_ready (rs := [2]) (by kernel_rfl) (by simp) ?_
      refine AllReadyH.cons rfl (fun K hK => ?_) AllReadyH.nil
      go_simp
      refine DO.out.mono ?_
      rintro e w6 ⟨rfl, S6, hs6, t6, f6⟩
      have T6 := Lib.hid t6
      have B6 := Lib.hid ((show Below w.heap.size w w5.drew from Below.drewN' B5.out 1).trans (f6.old B5.out.size (fun i hi => (HD.out i hi).1)))
      have D6 : Hid (∀ i, S6 i → w.heap.size ≤ i ∧ ¬ Ft hb (.slice As ls cs) (.slice Al ll cl) i) := Lib.hid fun i hi => by
        rcases hs6 i hi with e | e
        · exact D5.out i e
        · exact ⟨Nat.le_trans B5.out.size e, fun h => Nat.not_lt.2 e (hHeld.1.old i h).2⟩
      have H6 : TwV w6 hb (.slice As ls cs) (.slice Al ll cl) W9 ∧ Blk w6 xb 31 #[.int .i64 ok, .int .i64 on, .slice Au m cu] := ⟨hHeld.1.fr f6 (fun i hi h => (D5.out i h).2 hi), f6.blk hHeld.2 (fun h => by have := NXS.out _ h; omega)⟩
      refine hK.out _ _ H6 (fun hHeld => ?_)
      clear hK K H6 f6 t6 hs6
      refine take_d 4 47 (.bool false) _ rfl rfl (by kernel_rfl) (by kernel_rfl) (by kernel_rfl) (fun _ _ _ h => h) (Or.inl ⟨by rfl, fun w' hSw => ?_⟩) hHeld ?_
      · go_simp
      simp only [List.setIfInBounds_toArray, List.set_cons_zero, List.set_cons_succ]
      refine take_d 5 48 (.bool false) _ rfl rfl (by kernel_rfl) (by kernel_rfl) (by kernel_rfl) (fun _ _ _ h => h) (Or.inl ⟨by rfl, fun w' hSw => ?_⟩) hHeld ?_
      · go_simp
      simp only [List.setIfInBounds_toArray, List.set_cons_zero, List.set_cons_succ]
      refine take_d 6 49 (.pointer (some ⟨g, 0, none⟩)) _ rfl rfl (by kernel_rfl) (by kernel_rfl) (by kernel_rfl) (fun _ _ _ h => h) (Or.inl ⟨by rfl, fun w' hSw => ?_⟩) hHeld ?_
      · go_simp
      simp only [List.setIfInBounds_toArray, List.set_cons_zero, List.set_cons_succ]
      refine take_d 9 52 (.pointer (some ⟨hb, 0, none⟩)) _ rfl rfl (by kernel_rfl) (by kernel_rfl) (by kernel_rfl) (fun _ _ _ h => h) (Or.inl ⟨by rfl, fun w' hSw => ?_⟩) hHeld ?_
      · go_simp
      simp only [List.setIfInBounds_toArray, List.set_cons_zero, List.set_cons_succ]
      refine take_d 10 53 (.pointer (some ⟨hb, 0, none⟩)) _ rfl rfl (by kernel_rfl) (by kernel_rfl) (by kernel_rfl) (fun _ _ _ h => h) (Or.inl ⟨by rfl, fun w' hSw => ?_⟩) hHeld ?_
      · go_simp
      simp only [List.setIfInBounds_toArray, List.set_cons_zero, List.set_cons_succ]
      refine take_d 11 54 (.pointer (some ⟨hb, 0, none⟩)) _ rfl rfl (by kernel_rfl) (by kernel_rfl) (by kernel_rfl) (fun _ _ _ h => h) (Or.inl ⟨by rfl, fun w' hSw => ?_⟩) hHeld ?_
      · go_simp
      simp only [List.setIfInBounds_toArray, List.set_cons_zero, List.set_cons_succ]
      refine take_d 12 55 (.slice As ls cs) _ rfl rfl (by kernel_rfl) (by kernel_rfl) (by kernel_rfl) (fun _ _ _ h => h) (Or.inl ⟨by rfl, fun w' hSw => ?_⟩) hHeld ?_
      · have q := hSw.1.blk.cell 0
        go_simp
      simp only [List.setIfInBounds_toArray, List.set_cons_zero, List.set_cons_succ]
      refine take_d 13 56 (.string s1) _ rfl rfl (by kernel_rfl) (by kernel_rfl) (by kernel_rfl) (fun _ _ _ h => h) (Or.inl ⟨by rfl, fun w' hSw => ?_⟩) hHeld ?_
      · have q := run_string_bytes hSw.1.os.bytes
        rw [← S1.out] at q
        go_simp
      simp only [List.setIfInBounds_toArray, List.set_cons_zero, List.set_cons_succ]
      refine take_d 14 57 (.pointer (some ⟨hb, 0, none⟩)) _ rfl rfl (by kernel_rfl) (by kernel_rfl) (by kernel_rfl) (fun _ _ _ h => h) (Or.inl ⟨by rfl, fun w' hSw => ?_⟩) hHeld ?_
      · go_simp
      simp only [List.setIfInBounds_toArray, List.set_cons_zero, List.set_cons_succ]
      refine take_d 15 58 (.pointer (some ⟨hb, 0, none⟩)) _ rfl rfl (by kernel_rfl) (by kernel_rfl) (by kernel_rfl) (fun _ _ _ h => h) (Or.inl ⟨by rfl, fun w' hSw => ?_⟩) hHeld ?_
      · go_simp
      simp only [List.setIfInBounds_toArray, List.set_cons_zero, List.set_cons_succ]
      refine take_d 16 59 (.pointer (some ⟨hb, 1, none⟩)) _ rfl rfl (by kernel_rfl) (by kernel_rfl) (by kernel_rfl) (fun _ _ _ h => h) (Or.inl ⟨by rfl, fun w' hSw => ?_⟩) hHeld ?_
      · go_simp
      simp only [List.setIfInBounds_toArray, List.set_cons_zero, List.set_cons_succ]
      refine take_d 17 60 (.slice Al ll cl) _ rfl rfl (by kernel_rfl) (by kernel_rfl) (by kernel_rfl) (fun _ _ _ h => h) (Or.inl ⟨by rfl, fun w' hSw => ?_⟩) hHeld ?_
      · have q := hSw.1.blk.cell 1
        go_simp
      simp only [List.setIfInBounds_toArray, List.set_cons_zero, List.set_cons_succ]
      refine take_d 18 61 (.string s2) _ rfl rfl (by kernel_rfl) (by kernel_rfl) (by kernel_rfl) (fun _ _ _ h => h) (Or.inl ⟨by rfl, fun w' hSw => ?_⟩) hHeld ?_
      · have q := run_string_bytes hSw.1.ol.bytes
        rw [← S2.out] at q
        go_simp
      simp only [List.setIfInBounds_toArray, List.set_cons_zero, List.set_cons_succ]
      refine take_d 19 62 (.string sb) _ rfl rfl (by kernel_rfl) (by kernel_rfl) (by kernel_rfl) (fun _ _ _ h => h) (Or.inl ⟨by rfl, fun w' hSw => ?_⟩) hHeld ?_
      · have z7 := hcat
        have z8 : s1.size + s2.size ≤ 9223372036854775807 := by omega
        go_simp
      simp only [List.setIfInBounds_toArray, List.set_cons_zero, List.set_cons_succ]
      refine wpAnyH_ready (rs := [7]) (by kernel_rfl) (by simp) ?_
      refine AllReadyH.cons rfl (fun K hK => ?_) AllReadyH.nil
      go_simp
      refine (BYT.out _ _ T6.out).mono ?_
      rintro e w7 ⟨v7, rfl, b7, q7⟩
      have T7 := Lib.hid (T6.out.on b7)
      have B7 := Lib.hid (B6.out.trans (b7.mono B6.out.size))
      have H7 : TwV w7 hb (.slice As ls cs) (.slice Al ll cl) W9 ∧ Blk w7 xb 31 #[.int .i64 ok, .int .i64 on, .slice Au m cu] := ⟨hHeld.1.on b7, hHeld.2.on b7⟩
      refine hK.out _ _ H7 (fun hHeld => ?_)
      clear hK K H7 b7
      refine wpAnyH_ready (rs := [8]) (by kernel_rfl) (by simp) ?_
      refine AllReadyH.cons rfl (fun K hK => ?_) AllReadyH.nil
      go_simp
      refine hK.out _ _ hHeld (fun hHeld => ?_)
      clear hK K q7
      refine take_d 20 63 (.bool false) _ rfl rfl (by kernel_rfl) (by kernel_rfl) (by kernel_rfl) (fun _ _ _ h => h) (Or.inl ⟨by rfl, fun w' hSw => ?_⟩) hHeld ?_
      · go_simp
      simp only [List.setIfInBounds_toArray, List.set_cons_zero, List.set_cons_succ]
      refine take_d 21 64 (.bool false) _ rfl rfl (by kernel_rfl) (by kernel_rfl) (by kernel_rfl) (fun _ _ _ h => h) (Or.inl ⟨by rfl, fun w' hSw => ?_⟩) hHeld ?_
      · go_simp
      simp only [List.setIfInBounds_toArray, List.set_cons_zero, List.set_cons_succ]
      refine take_d 22 65 (.bool false) _ rfl rfl (by kernel_rfl) (by kernel_rfl) (by kernel_rfl) (fun _ _ _ h => h) (Or.inl ⟨by rfl, fun w' hSw => ?_⟩) hHeld ?_
      · go_simp
      simp only [List.setIfInBounds_toArray, List.set_cons_zero, List.set_cons_succ]
      refine take_d 23 66 (.pointer (some ⟨g, 0, none⟩)) _ rfl rfl (by kernel_rfl) (by kernel_rfl) (by kernel_rfl) (fun _ _ _ h => h) (Or.inl ⟨by rfl, fun w' hSw => ?_⟩) hHeld ?_
      · go_simp
      simp only [List.setIfInBounds_toArray, List.set_cons_zero, List.set_cons_succ]
      refine take_d 25 68 (.pointer (some ⟨hb, 0, none⟩)) _ rfl rfl (by kernel_rfl) (by kernel_rfl) (by kernel_rfl) (fun _ _ _ h => h) (Or.inl ⟨by rfl, fun w' hSw => ?_⟩) hHeld ?_
      · go_simp
      simp only [List.setIfInBounds_toArray, List.set_cons_zero, List.set_cons_succ]
      refine take_d 26 69 (.pointer (some ⟨hb, 0, none⟩)) _ rfl rfl (by kernel_rfl) (by kernel_rfl) (by kernel_rfl) (fun _ _ _ h => h) (Or.inl ⟨by rfl, fun w' hSw => ?_⟩) hHeld ?_
      · go_simp
      simp only [List.setIfInBounds_toArray, List.set_cons_zero, List.set_cons_succ]
      refine take_d 27 70 (.pointer (some ⟨hb, 0, none⟩)) _ rfl rfl (by kernel_rfl) (by kernel_rfl) (by kernel_rfl) (fun _ _ _ h => h) (Or.inl ⟨by rfl, fun w' hSw => ?_⟩) hHeld ?_
      · go_simp
      simp only [List.setIfInBounds_toArray, List.set_cons_zero, List.set_cons_succ]
      refine take_d 28 71 (.slice As ls cs) _ rfl rfl (by kernel_rfl) (by kernel_rfl) (by kernel_rfl) (fun _ _ _ h => h) (Or.inl ⟨by rfl, fun w' hSw => ?_⟩) hHeld ?_
      · have q := hSw.1.blk.cell 0
        go_simp
      simp only [List.setIfInBounds_toArray, List.set_cons_zero, List.set_cons_succ]
      refine take_d 29 72 (.int .i64 (ls : Int)) _ rfl rfl (by kernel_rfl) (by kernel_rfl) (by kernel_rfl) (fun _ _ _ h => h) (Or.inl ⟨by rfl, fun w' hSw => ?_⟩) hHeld ?_
      · go_simp
      simp only [List.setIfInBounds_toArray, List.set_cons_zero, List.set_cons_succ]
      refine wpAnyH_ready (rs := [24]) (by kernel_rfl) (by simp) ?_
      refine AllReadyH.cons rfl (fun K hK => ?_) AllReadyH.nil
      go_simp
      refine (SAF.out _ _ T7.out).mono ?_
      rintro e w8 ⟨rfl, rfl⟩
      refine hK.out _ _ hHeld (fun hHeld => ?_)
      clear hK K
      refine take_d 30 73 (.bool false) _ rfl rfl (by kernel_rfl) (by kernel_rfl) (by kernel_rfl) (fun _ _ _ h => h) (Or.inl ⟨by rfl, fun w' hSw => ?_⟩) hHeld ?_
      · go_simp
      simp only [List.setIfInBounds_toArray, List.set_cons_zero, List.set_cons_succ]
      refine take_d 31 74 (.bool false) _ rfl rfl (by kernel_rfl) (by kernel_rfl) (by kernel_rfl) (fun _ _ _ h => h) (Or.inl ⟨by rfl, fun w' hSw => ?_⟩) hHeld ?_
      · go_simp
      simp only [List.setIfInBounds_toArray, List.set_cons_zero, List.set_cons_succ]
      refine take_d 32 75 (.bool false) _ rfl rfl (by kernel_rfl) (by kernel_rfl) (by kernel_rfl) (fun _ _ _ h => h) (Or.inl ⟨by rfl, fun w' hSw => ?_⟩) hHeld ?_
      · go_simp
      simp only [List.setIfInBounds_toArray, List.set_cons_zero, List.set_cons_succ]
      refine take_d 33 76 (.pointer (some ⟨g, 0, none⟩)) _ rfl rfl (by kernel_rfl) (by kernel_rfl) (by kernel_rfl) (fun _ _ _ h => h) (Or.inl ⟨by rfl, fun w' hSw => ?_⟩) hHeld ?_
      · go_simp
      simp only [List.setIfInBounds_toArray, List.set_cons_zero, List.set_cons_succ]
      refine take_d 35 78 (.int .i64 room) _ rfl rfl (by kernel_rfl) (by kernel_rfl) (by kernel_rfl) (fun _ _ _ h => h) (Or.inl ⟨by rfl, fun w' hSw => ?_⟩) hHeld ?_
      · go_simp
      simp only [List.setIfInBounds_toArray, List.set_cons_zero, List.set_cons_succ]
      refine take_d 36 79 (.pointer (some ⟨hb, 0, none⟩)) _ rfl rfl (by kernel_rfl) (by kernel_rfl) (by kernel_rfl) (fun _ _ _ h => h) (Or.inl ⟨by rfl, fun w' hSw => ?_⟩) hHeld ?_
      · go_simp
      simp only [List.setIfInBounds_toArray, List.set_cons_zero, List.set_cons_succ]
      refine take_d 37 80 (.pointer (some ⟨hb, 0, none⟩)) _ rfl rfl (by kernel_rfl) (by kernel_rfl) (by kernel_rfl) (fun _ _ _ h => h) (Or.inl ⟨by rfl, fun w' hSw => ?_⟩) hHeld ?_
      · go_simp
      simp only [List.setIfInBounds_toArray, List.set_cons_zero, List.set_cons_succ]
      refine take_d 38 81 (.pointer (some ⟨hb, 0, none⟩)) _ rfl rfl (by kernel_rfl) (by kernel_rfl) (by kernel_rfl) (fun _ _ _ h => h) (Or.inl ⟨by rfl, fun w' hSw => ?_⟩) hHeld ?_
      · go_simp
      simp only [List.setIfInBounds_toArray, List.set_cons_zero, List.set_cons_succ]
      refine take_d 39 82 (.slice As ls cs) _ rfl rfl (by kernel_rfl) (by kernel_rfl) (by kernel_rfl) (fun _ _ _ h => h) (Or.inl ⟨by rfl, fun w' hSw => ?_⟩) hHeld ?_
      · have q := hSw.1.blk.cell 0
        go_simp
      simp only [List.setIfInBounds_toArray, List.set_cons_zero, List.set_cons_succ]
      refine take_d 40 83 (.int .i64 (ls : Int)) _ rfl rfl (by kernel_rfl) (by kernel_rfl) (by kernel_rfl) (fun _ _ _ h => h) (Or.inl ⟨by rfl, fun w' hSw => ?_⟩) hHeld ?_
      · go_simp
      simp only [List.setIfInBounds_toArray, List.set_cons_zero, List.set_cons_succ]
      refine take_d 41 84 (.int .i64 (room - (ls : Int))) _ rfl rfl (by kernel_rfl) (by kernel_rfl) (by kernel_rfl) (fun _ _ _ h => h) (Or.inl ⟨by rfl, fun w' hSw => ?_⟩) hHeld ?_
      · have z7 : IntKind.i64.wrap (room - (ls : Int)) = room - (ls : Int) := IntWalk.i64_in _ (by omega)
        go_simp
      simp only [List.setIfInBounds_toArray, List.set_cons_zero, List.set_cons_succ]
      refine take_d 42 85 (.pointer (some ⟨hb, 0, none⟩)) _ rfl rfl (by kernel_rfl) (by kernel_rfl) (by kernel_rfl) (fun _ _ _ h => h) (Or.inl ⟨by rfl, fun w' hSw => ?_⟩) hHeld ?_
      · go_simp
      simp only [List.setIfInBounds_toArray, List.set_cons_zero, List.set_cons_succ]
      refine take_d 43 86 (.pointer (some ⟨hb, 0, none⟩)) _ rfl rfl (by kernel_rfl) (by kernel_rfl) (by kernel_rfl) (fun _ _ _ h => h) (Or.inl ⟨by rfl, fun w' hSw => ?_⟩) hHeld ?_
      · go_simp
      simp only [List.setIfInBounds_toArray, List.set_cons_zero, List.set_cons_succ]
      refine take_d 44 87 (.pointer (some ⟨hb, 1, none⟩)) _ rfl rfl (by kernel_rfl) (by kernel_rfl) (by kernel_rfl) (fun _ _ _ h => h) (Or.inl ⟨by rfl, fun w' hSw => ?_⟩) hHeld ?_
      · go_simp
      simp only [List.setIfInBounds_toArray, List.set_cons_zero, List.set_cons_succ]
      refine take_d 45 88 (.slice Al ll cl) _ rfl rfl (by kernel_rfl) (by kernel_rfl) (by kernel_rfl) (fun _ _ _ h => h) (Or.inl ⟨by rfl, fun w' hSw => ?_⟩) hHeld ?_
      · have q := hSw.1.blk.cell 1
        go_simp
      simp only [List.setIfInBounds_toArray, List.set_cons_zero, List.set_cons_succ]
      refine take_d 46 89 (.int .i64 (ll : Int)) _ rfl rfl (by kernel_rfl) (by kernel_rfl) (by kernel_rfl) (fun _ _ _ h => h) (Or.inl ⟨by rfl, fun w' hSw => ?_⟩) hHeld ?_
      · go_simp
      simp only [List.setIfInBounds_toArray, List.set_cons_zero, List.set_cons_succ]
      refine take_d 47 90 (.int .i64 (room - (ls : Int) - (ll : Int))) _ rfl rfl (by kernel_rfl) (by kernel_rfl) (by kernel_rfl) (fun _ _ _ h => h) (Or.inl ⟨by rfl, fun w' hSw => ?_⟩) hHeld ?_
      · have z7 : IntKind.i64.wrap (room - (ls : Int) - (ll : Int)) = room - (ls : Int) - (ll : Int) := IntWalk.i64_in _ (by omega)
        go_simp
      simp only [List.setIfInBounds_toArray, List.set_cons_zero, List.set_cons_succ]
      refine wpAnyH_ready (rs := [34]) (by kernel_rfl) (by simp) ?_
      refine AllReadyH.cons rfl (fun K hK => ?_) AllReadyH.nil
      go_simp
      refine (ROO.out _ _ T7.out).mono ?_
      rintro e w9 ⟨rfl, b9⟩
      have T9_ := Lib.hid (T7.out.on b9)
      have B9 := Lib.hid (B7.out.trans (b9.mono B7.out.size))
      have H9 : TwV w9 hb (.slice As ls cs) (.slice Al ll cl) W9 ∧ Blk w9 xb 31 #[.int .i64 ok, .int .i64 on, .slice Au m cu] := ⟨hHeld.1.on b9, hHeld.2.on b9⟩
      refine hK.out _ _ H9 (fun hHeld => ?_)
      clear hK K H9 b9
      refine take_d 48 91 (.bool false) _ rfl rfl (by kernel_rfl) (by kernel_rfl) (by kernel_rfl) (fun _ _ _ h => h) (Or.inl ⟨by rfl, fun w' hSw => ?_⟩) hHeld ?_
      · go_simp
      simp only [List.setIfInBounds_toArray, List.set_cons_zero, List.set_cons_succ]
      refine take_d 49 92 (.bool false) _ rfl rfl (by kernel_rfl) (by kernel_rfl) (by kernel_rfl) (fun _ _ _ h => h) (Or.inl ⟨by rfl, fun w' hSw => ?_⟩) hHeld ?_
      · go_simp
      simp only [List.setIfInBounds_toArray, List.set_cons_zero, List.set_cons_succ]
      refine take_d 50 93 (.bool false) _ rfl rfl (by kernel_rfl) (by kernel_rfl) (by kernel_rfl) (fun _ _ _ h => h) (Or.inl ⟨by rfl, fun w' hSw => ?_⟩) hHeld ?_
      · go_simp
      simp only [List.setIfInBounds_toArray, List.set_cons_zero, List.set_cons_succ]
      refine take_d 51 94 (.pointer (some ⟨g, 0, none⟩)) _ rfl rfl (by kernel_rfl) (by kernel_rfl) (by kernel_rfl) (fun _ _ _ h => h) (Or.inl ⟨by rfl, fun w' hSw => ?_⟩) hHeld ?_
      · go_simp
      simp only [List.setIfInBounds_toArray, List.set_cons_zero, List.set_cons_succ]
      refine take_d 53 96 (.pointer (some ⟨hb, 0, none⟩)) _ rfl rfl (by kernel_rfl) (by kernel_rfl) (by kernel_rfl) (fun _ _ _ h => h) (Or.inl ⟨by rfl, fun w' hSw => ?_⟩) hHeld ?_
      · go_simp
      simp only [List.setIfInBounds_toArray, List.set_cons_zero, List.set_cons_succ]
      refine take_d 54 97 (.pointer (some ⟨hb, 0, none⟩)) _ rfl rfl (by kernel_rfl) (by kernel_rfl) (by kernel_rfl) (fun _ _ _ h => h) (Or.inl ⟨by rfl, fun w' hSw => ?_⟩) hHeld ?_
      · go_simp
      simp only [List.setIfInBounds_toArray, List.set_cons_zero, List.set_cons_succ]
      refine take_d 55 98 (.pointer (some ⟨hb, 5, none⟩)) _ rfl rfl (by kernel_rfl) (by kernel_rfl) (by kernel_rfl) (fun _ _ _ h => h) (Or.inl ⟨by rfl, fun w' hSw => ?_⟩) hHeld ?_
      · go_simp
      simp only [List.setIfInBounds_toArray, List.set_cons_zero, List.set_cons_succ]
      refine take_d 56 99 (.bool W9.down) _ rfl rfl (by kernel_rfl) (by kernel_rfl) (by kernel_rfl) (fun _ _ _ h => h) (Or.inl ⟨by rfl, fun w' hSw => ?_⟩) hHeld ?_
      · have q := hSw.1.blk.cell 5
        go_simp
      simp only [List.setIfInBounds_toArray, List.set_cons_zero, List.set_cons_succ]
      refine wpAnyH_ready (rs := [52]) (by kernel_rfl) (by simp) ?_
      refine AllReadyH.cons rfl (fun K hK => ?_) AllReadyH.nil
      go_simp
      refine (DOW.out _ _ T9_.out).mono ?_
      rintro e wz ⟨rfl, rfl⟩
      refine hK.out _ _ hHeld (fun hHeld => ?_)
      clear hK K
      refine take_d 57 100 (.bool false) _ rfl rfl (by kernel_rfl) (by kernel_rfl) (by kernel_rfl) (fun _ _ _ h => h) (Or.inl ⟨by rfl, fun w' hSw => ?_⟩) hHeld ?_
      · go_simp
      simp only [List.setIfInBounds_toArray, List.set_cons_zero, List.set_cons_succ]
      refine take_d 58 101 (.bool false) _ rfl rfl (by kernel_rfl) (by kernel_rfl) (by kernel_rfl) (fun _ _ _ h => h) (Or.inl ⟨by rfl, fun w' hSw => ?_⟩) hHeld ?_
      · go_simp
      simp only [List.setIfInBounds_toArray, List.set_cons_zero, List.set_cons_succ]
      refine wpAnyH_done (by kernel_rfl) ?_ _
      have V10 := Lib.hid hHeld.1
      go_wp2
      go_roundw
      case rel => exact ⟨k + 1, T9, W9, As, ls, cs, Al, ll, cl, S6, by omega, by go_num, AK, RM, T9_, V10, D6, Lib.hid (fun i hi => (E5.out i hi).1), B9⟩
      case measure => simp [intOf]; omega
    · obtain rfl : n = k := by omega
      go_wp2
      go_ret
      exact ⟨rfl, HB.out⟩
set_option maxRecDepth 100000 in
theorem tapePlays_law (room : Int) (v : Value) (l : List Op12) (w : World) (hr : -9223372036854775808 ≤ room ∧ room ≤ 9223372036854775807) (h : OpsV w.heap.size w v l) (hl : l.length ≤ 9223372036854775807) :
    Calls Try.prog 3 #[.int .i64 room, v] w fun e w' => e = .returned (.bool true) ∧ Below w.heap.size w w' := by
  by_cases hn : l.length ≤ 80
  · by_cases h1 : room < 0
    · obtain ⟨A, cap, rfl⟩ := h.form
      clear h
      generalize l.length = n at *
      have i1 : ¬ (80 : Int) < (n : Int) := by omega
      have HNB := Lib.hid (fun w => new_bad room (.inl h1) w)
      go_enter Try.func3, Try.ntmps3
      go_wp2_with fail
      refine (anchor12_any w).mono ?_
      rintro e w1 ⟨rfl, b1⟩
      go_wp2_with fail
      refine (HNB.out w1).mono ?_
      rintro e w2 ⟨rfl, rfl⟩
      go_wp2
      go_ret
      exact ⟨rfl, b1⟩
    · by_cases h2 : 1048576 < room
      · obtain ⟨A, cap, rfl⟩ := h.form
        clear h
        generalize l.length = n at *
        have i1 : ¬ (80 : Int) < (n : Int) := by omega
        have HNB := Lib.hid (fun w => new_bad room (.inr h2) w)
        go_enter Try.func3, Try.ntmps3
        go_wp2_with fail
        refine (anchor12_any w).mono ?_
        rintro e w1 ⟨rfl, b1⟩
        go_wp2_with fail
        refine (HNB.out w1).mono ?_
        rintro e w2 ⟨rfl, rfl⟩
        go_wp2
        go_ret
        exact ⟨rfl, b1⟩
      · exact tapePlays_in room (by omega) (by omega) v l w hn h
  · obtain ⟨A, cap, rfl⟩ := h.form
    clear h
    generalize l.length = n at *
    have i1 : (80 : Int) < (n : Int) := by omega
    go_enter Try.func3, Try.ntmps3
    go_wp2_with fail
    refine (anchor12_any w).mono ?_
    rintro e w1 ⟨rfl, b1⟩
    go_wp2
    go_ret
    exact ⟨rfl, b1⟩
end Go.Proofs.Ytjnhjpjebklalaa
