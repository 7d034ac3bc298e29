/- Package rule: Apply is the document's. -/
import Derived.Test.YtifpfpgibjmibaaRuI
namespace Go.Proofs.Ytifpfpgibjmibaa
open Go.RowKit Go.Maps
variable {w w' : World}

set_option maxRecDepth 100000 in
set_option maxHeartbeats 16000000 in
theorem apply_any (s : RS) (d : Dl) (v pv dv : Value) (w : World) (hm0 : s.rs.length ≤ 1000) (hm1 : d.put.length ≤ 1000) (hm2 : d.drop.length ≤ 1000) (hdr : ∀ z ∈ d.drop, (Lit.int .i64 z).wf = true)
    (hS : RulesV w.heap.size w v s.rs) (hP : RulesV w.heap.size w pv d.put) (hD : Row w.heap.size w dv (zI d.drop)) :
    Calls Try.prog 6 #[.agg #[.int .i64 s.de, .int .i64 s.cl, .int .i64 s.fu, .int .i64 s.st, v], .agg #[.int .i64 d.de, .int .i64 d.cl, .int .i64 d.fu, .int .i64 d.st, pv, dv]] w
      fun e w' => ∃ rv, e = .returned (.tuple #[.agg #[.int .i64 (applyM s d).1.de, .int .i64 (applyM s d).1.cl, .int .i64 (applyM s d).1.fu, .int .i64 (applyM s d).1.st, rv], .int .i64 (applyM s d).2]) ∧
        RulesV w'.heap.size w' rv (applyM s d).1.rs ∧ Far w.heap.size rv ∧ Below w.heap.size w w' := by
  obtain ⟨A, cap, rfl⟩ := hS.form
  obtain ⟨A1, cap1, rfl⟩ := hP.form
  obtain ⟨A2, cap2, rfl⟩ := hD.form
  rw [zI_len] at hD ⊢
  have HDr := Lib.hid hdr
  have HS := Lib.hid hS
  have HP := Lib.hid hP
  have HD := Lib.hid hD
  clear hS hP hD hdr
  go_enter Try.func6, Try.ntmps6
  go_wp2_with fail
  generalize hw0 : ((w.alloc (.cells #[.int .i64 s.de, .int .i64 s.cl, .int .i64 s.fu, .int .i64 s.st, .slice A s.rs.length cap] 24)).alloc (.cells #[.int .i64 d.de, .int .i64 d.cl, .int .i64 d.fu, .int .i64 d.st, .slice A1 d.put.length cap1, .slice A2 d.drop.length cap2] 27)).alloc (.cells #[.int .i64 0, .int .i64 0, .int .i64 0, .int .i64 0, .slice none 0 0] 24) = w0
  have hb0 : Below w.heap.size w w0 := by rw [← hw0]; exact (((Below.refl _ _).alloc (Nat.le_refl _) _).alloc (by simp) _).alloc (by simp; omega) _
  have HX0 : Hid (Blk w0 w.heap.size 24 #[.int .i64 s.de, .int .i64 s.cl, .int .i64 s.fu, .int .i64 s.st, .slice A s.rs.length cap]) := Lib.hid (by rw [← hw0]; exact ((Blk.new _ _ _).alloc _).alloc _)
  have HY0 : Hid (Blk w0 (w.heap.size + 1) 27 #[.int .i64 d.de, .int .i64 d.cl, .int .i64 d.fu, .int .i64 d.st, .slice A1 d.put.length cap1, .slice A2 d.drop.length cap2]) := Lib.hid (by rw [← hw0]; exact (Blk.at_new _ _ (by simp) _ _).alloc _)
  have HZ0 : Hid (Blk w0 (w.heap.size + 2) 24 #[.int .i64 0, .int .i64 0, .int .i64 0, .int .i64 0, .slice none 0 0]) := Lib.hid (by rw [← hw0]; exact Blk.at_new _ _ (by simp) _ _)
  clear hw0
  refine (setRight_any s _ w0 (by omega) (HS.out.on hb0)).mono ?_
  rintro e w1 ⟨rfl, hb1⟩
  have HB1 := Lib.hid (hb0.trans (hb1.mono hb0.size))
  have HX1 := Lib.hid (HX0.out.on hb1)
  have HY1 := Lib.hid (HY0.out.on hb1)
  have HZ1 := Lib.hid (HZ0.out.on hb1)
  clear hb0 hb1 HX0 HY0 HZ0
  by_cases h1 : s.Ok
  · rw [decide_eq_true h1]
    have H1 := Lib.hid h1
    clear h1
    obtain ⟨x0, x1, x2, x3, x4⟩ := HX1.out.c5
    obtain ⟨y0, y1, y2, y3, y4, y5⟩ := HY1.out.c6
    go_wp2_with fail
    refine (numbered_any s d _ _ _ ⟨_, _, _, rfl⟩ ⟨_, _, _, rfl⟩ ⟨_, _, _, rfl⟩ w1).mono ?_
    rintro e w2 ⟨rfl, hb2⟩
    have HB2 := Lib.hid (HB1.out.trans (hb2.mono HB1.out.size))
    have HX2 := Lib.hid (HX1.out.on hb2)
    have HY2 := Lib.hid (HY1.out.on hb2)
    have HZ2 := Lib.hid (HZ1.out.on hb2)
    clear x0 x1 x2 x3 x4 y0 y1 y2 y3 y4 y5 hb2 HX1 HY1 HZ1
    go_wp2_with fail
    generalize hw3 : w2.alloc (.cells #[.int .i64 (orK d.de s.de), .int .i64 (orK d.cl s.cl), .int .i64 (orK d.fu s.fu), .int .i64 (orK d.st s.st), .slice none 0 0] 24) = w3
    have hb3 : Below w2.heap.size w2 w3 := by rw [← hw3]; exact (Below.refl _ _).alloc (Nat.le_refl _) _
    have HC3 : Hid (Blk w3 w2.heap.size 24 #[.int .i64 (orK d.de s.de), .int .i64 (orK d.cl s.cl), .int .i64 (orK d.fu s.fu), .int .i64 (orK d.st s.st), .slice none 0 0]) := Lib.hid (by rw [← hw3]; exact Blk.new _ _ _)
    have HB3 := Lib.hid (HB2.out.trans (hb3.mono HB2.out.size))
    have HX3 := Lib.hid (HX2.out.on hb3)
    have HY3 := Lib.hid (HY2.out.on hb3)
    have HZ3 := Lib.hid (HZ2.out.on hb3)
    have HL2 := Lib.hid HC3.out.lt
    have HZl := Lib.hid HZ2.out.lt
    clear hw3 hb3 HX2 HY2 HZ2
    refine (setRight_any (nums s d) (.slice none 0 0) w3 (by simp [nums]) (RulesV.nil _ _)).mono ?_
    rintro e w4 ⟨rfl, hb4⟩
    have HB4 := Lib.hid (HB3.out.trans (hb4.mono HB3.out.size))
    have HX4 := Lib.hid (HX3.out.on hb4)
    have HY4 := Lib.hid (HY3.out.on hb4)
    have HZ4 := Lib.hid (HZ3.out.on hb4)
    have HC4 := Lib.hid (HC3.out.on hb4)
    clear hb4 HX3 HY3 HZ3 HC3
    by_cases h2 : (nums s d).Ok
    · rw [decide_eq_true h2]
      have H2 := Lib.hid (nums_Ok.1 h2)
      clear h2
      obtain ⟨y0, y1, y2, y3, y4, y5⟩ := HY4.out.c6
      go_wp2_with fail
      refine (ruall_any _ d.put w4 (by omega) (HP.out.on HB4.out)).mono ?_
      rintro e w5 ⟨rfl, hb5⟩
      have HB5 := Lib.hid (HB4.out.trans (hb5.mono HB4.out.size))
      have HX5 := Lib.hid (HX4.out.on hb5)
      have HY5 := Lib.hid (HY4.out.on hb5)
      have HZ5 := Lib.hid (HZ4.out.on hb5)
      have HC5 := Lib.hid (HC4.out.on hb5)
      clear hb5 HX4 HY4 HZ4 HC4 y0 y1 y2 y3 y4 y5
      by_cases h3 : d.put.all Ru.ok = true
      · rw [h3]
        have H3 : Hid (∀ r ∈ d.put, r.ok = true) := Lib.hid (List.all_eq_true.1 h3)
        have H23 : Hid (¬ ((nums s d).num = false ∨ ∃ r ∈ d.put, r.ok = false)) := Lib.hid (by
          rintro (h | ⟨r, hr, h⟩)
          · rw [H2.out] at h; cases h
          · rw [H3.out r hr] at h; cases h)
        clear h3
        obtain ⟨y0, y1, y2, y3, y4, y5⟩ := HY5.out.c6
        go_wp2_with fail
        refine (twice_any d _ _ w5 (by omega) (by omega) H3.out HDr.out (HP.out.on HB5.out) ((HD.out.below HB5.out).more HB5.out.size)).mono ?_
        rintro e w6 ⟨rfl, hb6⟩
        have HB6 := Lib.hid (HB5.out.trans (hb6.mono HB5.out.size))
        have HX6 := Lib.hid (HX5.out.on hb6)
        have HY6 := Lib.hid (HY5.out.on hb6)
        have HZ6 := Lib.hid (HZ5.out.on hb6)
        have HC6 := Lib.hid (HC5.out.on hb6)
        clear hb6 HX5 HY5 HZ5 HC5 y0 y1 y2 y3 y4 y5
        by_cases h4 : d.ids.Nodup
        · rw [decide_eq_true h4]
          have H4 := Lib.hid h4
          clear h4
          obtain ⟨x0, x1, x2, x3, x4⟩ := HX6.out.c5
          go_wp2_with fail
          refine (byID_any _ s.rs w6 (by omega) H1.out.2.2.1 H1.out.2.2.2 (HS.out.on HB6.out)).mono ?_
          rintro e w7 ⟨rfl, hown, hb7⟩
          have HW7 := Lib.hid hown
          have HB7 := Lib.hid hb7
          have y5 := (HY6.out.on hb7).c6.2.2.2.2.2
          clear x0 x1 x2 x3 x4 hown hb7
          go_wp2
          go_loopw [40] (fun i wr => ∃ k : Nat, k ≤ d.drop.length ∧ i = .int .i64 k ∧ wr.ownsMap Try.prog 3 ruR w6.heap.size s.rs.length (dm (drops s.rs (d.drop.take k))) ∧ Hid (∀ i ∈ d.drop.take k, i ∈ s.rs.map Ru.id) ∧ Below w6.heap.size w6 wr) (fun i _ => d.drop.length - (intOf i).toNat)
          case atStart => exact ⟨0, Nat.zero_le _, rfl, by rw [List.take_zero, drops_nil]; exact HW7.out, Lib.hid (by simp), HB7.out⟩
          case round =>
            clear y5
            obtain ⟨k, hk, rfl, hown, HIn, hbel⟩ := hrel
            have hsz := hbel.size
            by_cases hlt : k < d.drop.length
            · obtain ⟨b, off, rfl, hb, c0⟩ := ((HD.out.below (HB6.out.trans (hbel.mono HB6.out.size))).at_ hlt)
              have HG := Lib.hid (List.getElem?_eq_getElem hlt)
              have hz := HDr.out _ (List.getElem_mem hlt)
              have hnin : d.drop[k] ∉ d.drop.take k := fun h => by
                have hn := (List.nodup_append.1 H4.out).2.1
                obtain ⟨j, hj, e⟩ := List.getElem_of_mem h
                rw [List.getElem_take] at e
                rw [List.length_take] at hj
                have := (List.getElem_inj hn).1 e
                omega
              have HNin := Lib.hid hnin
              generalize d.drop[k] = z at HG c0 hz HNin hnin
              clear hnin
              have HLt := Lib.hid hlt
              by_cases hin : z ∈ (drops s.rs (d.drop.take k)).map Ru.id
              · have HK := Lib.hid (keyI z hz)
                have HInz := Lib.hid ((mem_drops_ids HNin.out).1 hin)
                have HZz := Lib.hid hz
                have HHin := Lib.hid hin
                clear hz hin
                go_wp2_with (first
                  | (at_lookup; refine wpList_lookup_ru _ rfl _ _ rfl w6.heap.size s.rs.length _ rfl hown z rfl HZz.out ?_; intro r _; rw [decide_eq_true HHin.out])
                  | (at_delete; refine wpList_delete_own _ rfl _ _ 53 3 rfl 44 (int_keyed Try.underlying3) Try.underlying53 _ w6.heap.size s.rs.length _ rfl (hown.alloc _) _ _ rfl HK.out ?_; intro w8 hown8 hturn8)
                  | go_in)
                have hb8 : Below w6.heap.size w6 w8 := (hbel.alloc hsz _).grown hturn8.grown (by simp; omega) (fun j hj => by cases hj; exact Nat.le_refl _)
                rw [dm_del, ← drops_snoc, ← ints_take HG.out] at hown8
                have HB8 := Lib.hid hb8
                have HW8 := Lib.hid hown8
                clear hb8 hown8 hturn8
                go_roundw
                case rel => exact ⟨k + 1, HLt.out, by go_num, HW8.out, Lib.hid (by
                  rw [ints_take HG.out]
                  intro i hi
                  rcases List.mem_append.1 hi with h | h
                  · exact HIn.out i h
                  · rw [List.mem_singleton.1 h]; exact HInz.out), HB8.out⟩
                case measure => have := HLt.out; simp [intOf]; omega
              · have HEx : Hid (∃ i ∈ d.drop, i ∉ s.rs.map Ru.id) := Lib.hid ⟨z, List.mem_of_getElem? HG.out, fun h => hin ((mem_drops_ids HNin.out).2 h)⟩
                have HZz := Lib.hid hz
                have HHin := Lib.hid hin
                have HBe := Lib.hid hbel
                obtain ⟨z0, z1, z2, z3, z4⟩ := (HZ6.out.on hbel).c5
                obtain ⟨f0, f1, f2, f3, f4⟩ := (HZ6.out.on hbel).f5
                have hlr := (HZ6.out.on hbel).lt
                clear hz hin
                go_wp2_with (first
                  | (at_lookup; refine wpList_lookup_ru _ rfl _ _ rfl w6.heap.size s.rs.length _ rfl hown z rfl HZz.out ?_; intro r _; rw [decide_eq_false HHin.out])
                  | go_in)
                refine bodyPost_ret (v := .tuple #[.agg #[.int .i64 0, .int .i64 0, .int .i64 0, .int .i64 0, .slice none 0 0], .int .i64 32]) (by simp [results, Try.results6, go_sem, *]) rfl ⟨.slice none 0 0, by rw [applyM_none H1.out H23.out H4.out HEx.out]; rfl, by rw [applyM_none H1.out H23.out H4.out HEx.out]; exact RulesV.nil _ _, Far.nil _, ?_⟩
                refine Below.alloc ?_ (by have := (HB6.out.trans (HBe.out.mono HB6.out.size)).size; simp; omega) _
                refine Below.setCell ?_ (show w.heap.size ≤ w.heap.size + 2 by omega) _
                refine Below.setCell ?_ (show w.heap.size ≤ w.heap.size + 2 by omega) _
                refine Below.setCell ?_ (show w.heap.size ≤ w.heap.size + 2 by omega) _
                refine Below.setCell ?_ (show w.heap.size ≤ w.heap.size + 2 by omega) _
                refine Below.setCell ?_ (show w.heap.size ≤ w.heap.size + 2 by omega) _
                exact HB6.out.trans (HBe.out.mono HB6.out.size)
            · obtain rfl : k = d.drop.length := by omega
              rw [List.take_length] at hown HIn
              have HW9 := Lib.hid hown
              have HB9 := Lib.hid hbel
              have y4 := (HY6.out.on hbel).c6.2.2.2.2.1
              clear hown hbel hlt hk
              go_wp2
              go_loopw [59] (fun i wx => ∃ k : Nat, k ≤ d.put.length ∧ i = .int .i64 k ∧ wx.ownsMap Try.prog 3 ruR w6.heap.size (s.rs.length + k) (dm (puts (drops s.rs d.drop) (d.put.take k))) ∧ Below w6.heap.size w6 wx) (fun i _ => d.put.length - (intOf i).toNat)
              case atStart => exact ⟨0, Nat.zero_le _, rfl, by rw [List.take_zero, puts_nil]; exact HW9.out, HB9.out⟩
              case round =>
                clear y4 hsz
                obtain ⟨k, hk, rfl, hown, hbel⟩ := hrel
                have hsz := hbel.size
                by_cases hlt : k < d.put.length
                · obtain ⟨b, off, rfl, hb, c0, c1, c2, c3, c4⟩ := ((HP.out.on HB6.out).below hbel).at_ hlt
                  have HG := Lib.hid (List.getElem?_eq_getElem hlt)
                  have hro := H3.out _ (List.getElem_mem hlt)
                  generalize d.put[k] = r at HG c0 c1 c2 c3 c4 hro
                  have HK := Lib.hid (keyI r.id (wfId hro))
                  have HLt := Lib.hid hlt
                  clear hro
                  go_wp2_with (first
                    | (at_mapUpdate; refine wpList_mapUpdate_own _ rfl _ _ _ 53 rfl 3 44 (int_keyed Try.underlying3) Try.underlying53 _ w6.heap.size (s.rs.length + k) _ rfl (hown.alloc _) (by unfold maxLen; omega) _ _ _ rfl rfl HK.out _ [] (ruR_agg r) ?_; intro w8 hown8 hgrow8)
                    | go_in)
                  have hb8 : Below w6.heap.size w6 w8 := (hbel.alloc hsz _).grown hgrow8 (by simp; omega) (fun j hj => by cases hj; exact Nat.le_refl _)
                  rw [dm_put ((H1.out.2.2.2.drops _).puts _), ← puts_snoc, ← ru_take HG.out] at hown8
                  have HB8 := Lib.hid hb8
                  have HW8 := Lib.hid hown8
                  clear hb8 hown8 hgrow8
                  go_roundw
                  case rel => exact ⟨k + 1, HLt.out, by go_num, by rw [← Nat.add_assoc]; exact HW8.out, HB8.out⟩
                  case measure => have := HLt.out; simp [intOf]; omega
                · obtain rfl : k = d.put.length := by omega
                  rw [List.take_length] at hown
                  have hle : ∀ ty, (Builtin.len_ #[53] ty #[.map (some w6.heap.size)]).run Try.prog wr = .ok (.int .i64 ((after s d).length : Nat)) wr := fun ty => by
                    have := hown.len Try.underlying53 ty
                    rw [dm_size] at this
                    exact this
                  have HW10 := Lib.hid hown
                  have HBe := Lib.hid hbel
                  clear hown hbel hlt hk
                  have HI : Hid (∀ i ∈ d.drop, i ∈ s.rs.map Ru.id) := HIn
                  by_cases h5 : 16 < (after s d).length
                  · have h5i : (16 : Int) < ((after s d).length : Int) := by omega
                    obtain ⟨z0, z1, z2, z3, z4⟩ := (HZ6.out.on HBe.out).c5
                    obtain ⟨f0, f1, f2, f3, f4⟩ := (HZ6.out.on HBe.out).f5
                    have hlr := (HZ6.out.on HBe.out).lt
                    have EA := Lib.hid (applyM_full H1.out H23.out H4.out HI.out h5)
                    clear h5
                    go_wp2
                    refine bodyPost_ret (v := .tuple #[.agg #[.int .i64 0, .int .i64 0, .int .i64 0, .int .i64 0, .slice none 0 0], .int .i64 33]) (by simp [results, Try.results6, go_sem, *]) rfl ⟨.slice none 0 0, by rw [EA.out]; rfl, by rw [EA.out]; exact RulesV.nil _ _, Far.nil _, ?_⟩
                    exact (((((HB6.out.trans (HBe.out.mono HB6.out.size)).setCell (p := ⟨w.heap.size + 2, 0, none⟩) (show w.heap.size ≤ w.heap.size + 2 by omega) _).setCell (p := ⟨w.heap.size + 2, 1, none⟩) (show w.heap.size ≤ w.heap.size + 2 by omega) _).setCell (p := ⟨w.heap.size + 2, 2, none⟩) (show w.heap.size ≤ w.heap.size + 2 by omega) _).setCell (p := ⟨w.heap.size + 2, 3, none⟩) (show w.heap.size ≤ w.heap.size + 2 by omega) _).setCell (p := ⟨w.heap.size + 2, 4, none⟩) (show w.heap.size ≤ w.heap.size + 2 by omega) _
                  · have h5i : ¬ (16 : Int) < ((after s d).length : Int) := by omega
                    have EA := Lib.hid (applyM_ok H1.out H23.out H4.out HI.out h5)
                    have hln : (after s d).length ≤ 16 := by omega
                    have HIO := Lib.hid (inOrder_any w6.heap.size _ (after s d) ((H1.out.2.2.2.drops _).puts _) (by omega) wr HW10.out)
                    clear h5 hln
                    go_wp2_with fail
                    refine HIO.out.mono ?_
                    rintro e w10 ⟨rv, rfl, hrv, hfar, hb10⟩
                    obtain ⟨RA, rcap, rfl⟩ := hrv.form
                    have hz10 := (HZ6.out.on HBe.out).on hb10
                    have hc10 := (HC6.out.on HBe.out).on hb10
                    obtain ⟨z0, z1, z2, z3, z4⟩ := hz10.c5
                    obtain ⟨f0, f1, f2, f3, f4⟩ := hz10.f5
                    obtain ⟨c0, c1, c2, c3, c4⟩ := hc10.c5
                    obtain ⟨g0, g1, g2, g3, g4⟩ := hc10.f5
                    have hlr := hz10.lt
                    have hlc := hc10.lt
                    have hzl := HZl.out
                    have hne : ¬ w.heap.size + 2 = w2.heap.size := by omega
                    have hne' : ¬ w2.heap.size = w.heap.size + 2 := by omega
                    have HRv := Lib.hid hrv
                    have HFar := Lib.hid hfar
                    have HB10 := Lib.hid (((HB6.out.trans (HBe.out.mono HB6.out.size))).trans (hb10.mono (Nat.le_trans HB6.out.size HBe.out.size)))
                    have HSz := Lib.hid (show w2.heap.size < wr.heap.size from Nat.lt_of_lt_of_le HC6.out.lt HBe.out.size)
                    clear hrv hfar hb10 hz10 hc10 hle
                    go_wp2
                    refine bodyPost_ret (v := .tuple #[.agg #[.int .i64 (orK d.de s.de), .int .i64 (orK d.cl s.cl), .int .i64 (orK d.fu s.fu), .int .i64 (orK d.st s.st), .slice RA (after s d).length rcap], .int .i64 0]) (by simp [results, Try.results6, go_sem, *]) rfl ⟨.slice RA (after s d).length rcap, by rw [EA.out]; rfl, ?_, HFar.out.mono (Nat.le_trans HB6.out.size HBe.out.size), ?_⟩
                    · rw [EA.out]
                      refine RulesV.more (n₀ := w10.heap.size) ?_ (by simp)
                      have hsz' := HSz.out
                      refine RulesV.store (base := wr.heap.size) ?_ HFar.out (by omega)
                      refine RulesV.store (base := wr.heap.size) ?_ HFar.out (by omega)
                      refine RulesV.store (base := wr.heap.size) ?_ HFar.out (by omega)
                      refine RulesV.store (base := wr.heap.size) ?_ HFar.out (by omega)
                      refine RulesV.store (base := wr.heap.size) ?_ HFar.out (by omega)
                      refine RulesV.store (base := wr.heap.size) ?_ HFar.out (by omega)
                      exact HRv.out
                    · refine Below.setCell ?_ (show w.heap.size ≤ w.heap.size + 2 by omega) _
                      refine Below.setCell ?_ (show w.heap.size ≤ w.heap.size + 2 by omega) _
                      refine Below.setCell ?_ (show w.heap.size ≤ w.heap.size + 2 by omega) _
                      refine Below.setCell ?_ (show w.heap.size ≤ w.heap.size + 2 by omega) _
                      refine Below.setCell ?_ (show w.heap.size ≤ w.heap.size + 2 by omega) _
                      refine Below.setCell ?_ (show w.heap.size ≤ w2.heap.size by omega) _
                      exact HB10.out
        · rw [decide_eq_false h4]
          obtain ⟨z0, z1, z2, z3, z4⟩ := HZ6.out.c5
          obtain ⟨f0, f1, f2, f3, f4⟩ := HZ6.out.f5
          have hlr := HZ6.out.lt
          go_wp2
          refine bodyPost_ret (v := .tuple #[.agg #[.int .i64 0, .int .i64 0, .int .i64 0, .int .i64 0, .slice none 0 0], .int .i64 31]) (by simp [results, Try.results6, go_sem, *]) rfl ⟨.slice none 0 0, by rw [applyM_twice H1.out H23.out h4]; rfl, by rw [applyM_twice H1.out H23.out h4]; exact RulesV.nil _ _, Far.nil _, ?_⟩
          exact ((((HB6.out.setCell (show w.heap.size ≤ w.heap.size + 2 by omega) _).setCell (show w.heap.size ≤ w.heap.size + 2 by omega) _).setCell (show w.heap.size ≤ w.heap.size + 2 by omega) _).setCell (show w.heap.size ≤ w.heap.size + 2 by omega) _).setCell (show w.heap.size ≤ w.heap.size + 2 by omega) _
      · rw [Bool.eq_false_iff.2 h3]
        have h3' : ∃ r ∈ d.put, r.ok = false := by
          have := Bool.eq_false_iff.2 h3
          rw [List.all_eq_false] at this
          obtain ⟨r, hr, h⟩ := this
          exact ⟨r, hr, by simpa using h⟩
        obtain ⟨z0, z1, z2, z3, z4⟩ := HZ5.out.c5
        obtain ⟨f0, f1, f2, f3, f4⟩ := HZ5.out.f5
        have hlr := HZ5.out.lt
        go_wp2
        refine bodyPost_ret (v := .tuple #[.agg #[.int .i64 0, .int .i64 0, .int .i64 0, .int .i64 0, .slice none 0 0], .int .i64 30]) (by simp [results, Try.results6, go_sem, *]) rfl ⟨.slice none 0 0, by rw [applyM_rule H1.out (.inr h3')]; rfl, by rw [applyM_rule H1.out (.inr h3')]; exact RulesV.nil _ _, Far.nil _, ?_⟩
        exact ((((HB5.out.setCell (show w.heap.size ≤ w.heap.size + 2 by omega) _).setCell (show w.heap.size ≤ w.heap.size + 2 by omega) _).setCell (show w.heap.size ≤ w.heap.size + 2 by omega) _).setCell (show w.heap.size ≤ w.heap.size + 2 by omega) _).setCell (show w.heap.size ≤ w.heap.size + 2 by omega) _
    · rw [decide_eq_false h2]
      have h2' : (nums s d).num = false := by
        cases h : (nums s d).num with
        | false => rfl
        | true => exact absurd (nums_Ok.2 h) h2
      obtain ⟨z0, z1, z2, z3, z4⟩ := HZ4.out.c5
      obtain ⟨f0, f1, f2, f3, f4⟩ := HZ4.out.f5
      have hlr := HZ4.out.lt
      go_wp2
      refine bodyPost_ret (v := .tuple #[.agg #[.int .i64 0, .int .i64 0, .int .i64 0, .int .i64 0, .slice none 0 0], .int .i64 30]) (by simp [results, Try.results6, go_sem, *]) rfl ⟨.slice none 0 0, by rw [applyM_rule H1.out (.inl h2')]; rfl, by rw [applyM_rule H1.out (.inl h2')]; exact RulesV.nil _ _, Far.nil _, ?_⟩
      exact ((((HB4.out.setCell (show w.heap.size ≤ w.heap.size + 2 by omega) _).setCell (show w.heap.size ≤ w.heap.size + 2 by omega) _).setCell (show w.heap.size ≤ w.heap.size + 2 by omega) _).setCell (show w.heap.size ≤ w.heap.size + 2 by omega) _).setCell (show w.heap.size ≤ w.heap.size + 2 by omega) _
  · rw [decide_eq_false h1]
    obtain ⟨z0, z1, z2, z3, z4⟩ := HZ1.out.c5
    obtain ⟨f0, f1, f2, f3, f4⟩ := HZ1.out.f5
    have hlr := HZ1.out.lt
    go_wp2
    refine bodyPost_ret (v := .tuple #[.agg #[.int .i64 0, .int .i64 0, .int .i64 0, .int .i64 0, .slice none 0 0], .int .i64 10]) (by simp [results, Try.results6, go_sem, *]) rfl ⟨.slice none 0 0, by rw [applyM_form h1]; rfl, by rw [applyM_form h1]; exact RulesV.nil _ _, Far.nil _, ?_⟩
    exact ((((HB1.out.setCell (show w.heap.size ≤ w.heap.size + 2 by omega) _).setCell (show w.heap.size ≤ w.heap.size + 2 by omega) _).setCell (show w.heap.size ≤ w.heap.size + 2 by omega) _).setCell (show w.heap.size ≤ w.heap.size + 2 by omega) _).setCell (show w.heap.size ≤ w.heap.size + 2 by omega) _

end Go.Proofs.Ytifpfpgibjmibaa
