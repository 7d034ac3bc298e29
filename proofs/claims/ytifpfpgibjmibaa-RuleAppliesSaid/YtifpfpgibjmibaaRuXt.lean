/- colanderref07: twice. -/
import Derived.Test.YtifpfpgibjmibaaRuXp
import Derived.Test.YtifpfpgibjmibaaRuOi
import Derived.Test.YtifpfpgibjmibaaRuH
namespace Go.Proofs.Ytifpfpgibjmibaa
open Go.RowKit Go.Maps
variable {w w' : World}

set_option maxRecDepth 100000 in
set_option maxHeartbeats 8000000 in
theorem xtwice_any (d : Dl) (pv dv : Value) (w : World) (hm1 : d.put.length ≤ 1000) (hm2 : d.drop.length ≤ 1000) (hP : RulesV w.heap.size w pv d.put) (hD : Row w.heap.size w dv (zI d.drop)) :
    Calls Try.prog 24 #[.agg #[.int .i64 d.de, .int .i64 d.cl, .int .i64 d.fu, .int .i64 d.st, pv, dv]] w
      fun e w' => e = .returned (.bool (decide (¬ d.ids.Nodup))) ∧ Below w.heap.size w w' := by
  obtain ⟨A1, cap1, rfl⟩ := hP.form
  obtain ⟨A2, cap2, rfl⟩ : ∃ A c, dv = .slice A d.drop.length c := by obtain ⟨A, c, h, _⟩ := hD; exact ⟨A, c, by simpa [zI] using h⟩
  obtain ⟨i0, hi, hz0, hz1, hz2⟩ := info_three infoInt
  obtain ⟨w0, hw0⟩ : ∃ w0, w0 = w.alloc (.cells #[.int .i64 d.de, .int .i64 d.cl, .int .i64 d.fu, .int .i64 d.st, .slice A1 d.put.length cap1, .slice A2 d.drop.length cap2] 40) := ⟨_, rfl⟩
  have hb0 : Below w.heap.size w w0 := by rw [hw0]; exact (Below.refl _ _).alloc (Nat.le_refl _) _
  have hx : Blk w0 w.heap.size 40 #[.int .i64 d.de, .int .i64 d.cl, .int .i64 d.fu, .int .i64 d.st, .slice A1 d.put.length cap1, .slice A2 d.drop.length cap2] := by rw [hw0]; exact Blk.new _ _ _
  have hs0 : w0.heap.size = w.heap.size + 1 := by rw [hw0]; simp
  have HP := Lib.hid hP
  have HD := Lib.hid hD
  have HB0 := Lib.hid hb0
  have HX0 := Lib.hid hx
  clear hP hD hb0 hx
  obtain ⟨L, hL⟩ : ∃ L, L = d.ids := ⟨_, rfl⟩
  rw [← hL]
  have HL := Lib.hid hL
  have HLl : Hid (L.length ≤ 2000) := Lib.hid (by rw [hL]; simp [Dl.ids]; omega)
  clear hL
  obtain ⟨k0, hk0⟩ : ∃ k, k = decide (¬ L.Nodup) := ⟨_, rfl⟩
  rw [← hk0]
  have HK0 := Lib.hid hk0
  clear hk0
  go_enter Try.func24, Try.ntmps24
  go_upto_region 3 with (fail)
  rw [← hw0]
  clear hw0
  go_loopw [3, 4] (fun o i wr => ∃ k : Nat, k ≤ d.put.length ∧ i = .int .i64 k ∧ Hid (OwnI wr w0.heap.size o ((d.put.take k).map Ru.id)) ∧ Hid (Below w0.heap.size w0 wr)) (fun _ i _ => d.put.length - (intOf i).toNat)
  case atStart => exact ⟨0, Nat.zero_le _, rfl, Lib.hid (OwnI.nil _ _), Lib.hid (Below.refl _ _)⟩
  case round =>
    obtain ⟨k, hk, rfl, HO, HB⟩ := hrel
    have HX := Lib.hid (HX0.out.on HB.out)
    obtain ⟨x0, x1, x2, x3, x4, x5⟩ := HX.out.c6
    have hlx := HX.out.lt
    have HW := Lib.hid (HB0.out.trans (HB.out.mono HB0.out.size))
    obtain ⟨OA, OC, hof⟩ := HO.out.form
    subst hof
    by_cases hlt : k < d.put.length
    · obtain ⟨b, off, rfl, hb, c0, c1, c2, c3, c4⟩ := (HP.out.below HW.out).at_ hlt
      have HG := Lib.hid (List.getElem?_eq_getElem hlt)
      generalize d.put[k] = r at HG c0 c1 c2 c3 c4
      have HLt := Lib.hid hlt
      have hb2 : b < wr.heap.size := by have := HB.out.size; omega
      have HLn : Hid (((d.put.take k).map Ru.id).length ≤ 1000) := Lib.hid (by simp; omega)
      have hk1 : k ≤ 1000 := by omega
      go_wp2_with (first
        | (at_builtin
           refine wpList_append_row _ rfl (.tmp 14) (.tmp 21) 25 rfl w0.heap.size 3 i0 (.int .i64 0) 8 Try.underlying25 hi hz0 hz1 hz2 rfl (.slice OA ((d.put.take k).map Ru.id).length OC) ((d.put.take k).map Ru.id).length (zI ((d.put.take k).map Ru.id)) rfl (World.ownsRow.alloc HO.out _) _ (.slice (some ⟨wr.heap.size, 0, none⟩) 1 1) (zI [r.id]) rfl (Row.lit wr #[.int .i64 r.id] 3 (0, 0)) (zI_one _) (by have := HLn.out; simp [zI, maxLen]; omega) (by have := HLn.out; simp [zI]; omega) (by have := HB.out.size; simp; omega) ?_
           intro v2 w2 h1 h2)
        | go_in)
      go_roundw
      case rel => exact ⟨k + 1, HLt.out, by go_num, Lib.hid (by
          unfold OwnI
          rw [ru_take HG.out]
          simpa [zI, Nat.add_assoc] using h1), Lib.hid ((HB.out.alloc HB.out.size _).grown h2 (by have := HB.out.size; simp; omega) (fun k hk => (World.ownsRow.lt HO.out k hk).1))⟩
      case measure => have := HLt.out; simp [intOf]; omega
    · obtain rfl : k = d.put.length := by omega
      have hln : ((d.put.take d.put.length).map Ru.id).length = d.put.length := by simp
      have HLn : Hid (((d.put.take d.put.length).map Ru.id).length ≤ 1000) := Lib.hid (by rw [hln]; omega)
      clear hln
      have hdw := (HD.out.below HW.out)
      go_upto_region 8 with (first
        | (at_builtin
           refine wpList_append_row _ rfl (.tmp 23) (.tmp 25) 25 rfl w0.heap.size 3 i0 (.int .i64 0) 8 Try.underlying25 hi hz0 hz1 hz2 rfl (.slice OA ((d.put.take d.put.length).map Ru.id).length OC) ((d.put.take d.put.length).map Ru.id).length (zI ((d.put.take d.put.length).map Ru.id)) rfl HO.out w.heap.size (.slice A2 d.drop.length cap2) (zI d.drop) rfl hdw (zI_one _) (by have := HLn.out; simp [zI, maxLen]; omega) (by have := HLn.out; simp [zI]; omega) (by have := HB.out.size; omega) ?_
           intro v2 w2 h1 h2
           have HV2 : Hid (OwnI w2 w0.heap.size v2 L) := Lib.hid (by
             rw [HL.out]
             unfold OwnI Dl.ids
             rw [List.take_length] at h1
             simpa [zI] using h1)
           have HB2 := Lib.hid (HB.out.grown h2 HB.out.size (fun j hj => (World.ownsRow.lt HO.out j hj).1))
           clear h1 h2)
        | fail)
      clear x0 x1 x2 x3 x4 x5 hlx hdw HX HO HB HW
      obtain ⟨OB, OD, hof⟩ := HV2.out.form
      subst hof
      go_loopw [5] (fun i wx => ∃ k : Nat, k ≤ L.length ∧ i = .int .i64 k ∧ Hid ((L.take k).Nodup) ∧ Hid (OwnI wx w0.heap.size (.slice OB L.length OD) L) ∧ Hid (Below w0.heap.size w0 wx)) (fun i _ => L.length - (intOf i).toNat)
      case atStart => exact ⟨0, Nat.zero_le _, rfl, Lib.hid (by simp), HV2, HB2⟩
      case round =>
        clear HV2 HB2
        obtain ⟨k, hk, rfl, HN, HV, HB⟩ := hrel
        by_cases hlt : k < L.length
        · have HLt := Lib.hid hlt
          go_upto_region 11 with (fail)
          go_loopw [6] (fun i wy => ∃ j : Nat, j ≤ k ∧ i = .int .i64 j ∧ Hid (L[k] ∉ L.take j) ∧ Hid (OwnI wy w0.heap.size (.slice OB L.length OD) L) ∧ Hid (Below w0.heap.size w0 wy)) (fun i _ => k - (intOf i).toNat)
          case atStart => exact ⟨0, Nat.zero_le _, rfl, Lib.hid (by simp), HV, HB⟩
          case round =>
            clear HV HB
            obtain ⟨j, hj, rfl, HNj, HV, HB⟩ := hrel
            by_cases hjk : j < k
            · have hjl : j < L.length := by omega
              obtain ⟨b, off, hA, hb, c0⟩ := (HV.out.row).at_ hlt
              obtain ⟨b', off', hA', hb', c1⟩ := (HV.out.row).at_ hjl
              rw [hA] at hA'
              obtain ⟨rfl, rfl⟩ : b = b' ∧ off = off' := by injection hA' with h; injection h with h1 h2; exact ⟨h1, h2⟩
              subst hA
              clear hA'
              have hte : L.take (j + 1) = L.take j ++ [L[j]] := by rw [List.take_add_one, List.getElem?_eq_getElem hjl]; rfl
              have HTe := Lib.hid hte
              clear hte
              by_cases he : L[k] = L[j]
              · have heb : (L[k] == L[j]) = true := by simp [he]
                have HE : Hid (k0 = true) := Lib.hid (by
                  rw [HK0.out, decide_eq_true_eq]
                  intro hn
                  exact (List.pairwise_iff_getElem.1 hn) j k hjl hlt hjk he.symm)
                go_upto_region 13 with (fail)
                go_region
                have HBd : Hid (Below w0.heap.size w0 wr.drew) := Lib.hid HB.out.drew
                generalize wr.drew = wd at *
                go_wp2
                go_ret
                exact ⟨by rw [HE.out]; rfl, HB0.out.trans (HBd.out.mono HB0.out.size)⟩
              · have heb : (L[k] == L[j]) = false := by simp [he]
                have HNx : Hid (L[k] ∉ L.take (j + 1)) := Lib.hid (by
                  rw [HTe.out]
                  simp only [List.mem_append, List.mem_singleton, not_or]
                  exact ⟨HNj.out, he⟩)
                have HJk := Lib.hid hjk
                have HWr : Hid (wrap64 ((j : Int) + 1) = ((j + 1 : Nat) : Int)) := Lib.hid (by have := HLl.out; unfold wrap64; omega)
                go_upto_region 13 with (fail)
                go_region
                have HBd : Hid (Below w0.heap.size w0 wr.drew) := Lib.hid HB.out.drew
                have HVd : Hid (OwnI wr.drew w0.heap.size (.slice (some ⟨b, off, none⟩) L.length OD) L) := HV
                generalize wr.drew = wd at *
                go_wp2
                go_roundw
                case rel => exact ⟨j + 1, HJk.out, by rw [HWr.out], HNx, HVd, HBd⟩
                case measure => have := HJk.out; rw [HWr.out]; simp [intOf]; omega
            · obtain rfl : j = k := by omega
              have HTe : Hid ((L.take (j + 1)).Nodup) := Lib.hid (by
                rw [show L.take (j + 1) = L.take j ++ [L[j]] by rw [List.take_add_one, List.getElem?_eq_getElem hlt]; rfl]
                exact nodup_snoc.2 ⟨HN.out, HNj.out⟩)
              have HWr : Hid (wrap64 ((j : Int) + 1) = ((j + 1 : Nat) : Int)) := Lib.hid (by have := HLl.out; unfold wrap64; omega)
              go_wp2
              go_roundw
              case rel => exact ⟨j + 1, HLt.out, by rw [HWr.out], HTe, HV, HB⟩
              case measure => have := HLt.out; rw [HWr.out]; simp [intOf]; omega
        · obtain rfl : k = L.length := by omega
          rw [List.take_length] at HN
          have HE : Hid (k0 = false) := Lib.hid (by rw [HK0.out]; simpa using HN.out)
          go_wp2
          go_ret
          exact ⟨by rw [HE.out]; rfl, HB0.out.trans (HB.out.mono HB0.out.size)⟩

end Go.Proofs.Ytifpfpgibjmibaa
