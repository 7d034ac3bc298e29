/- Set.And, of any two sets. -/
import Derived.Test.YtjdboindeikhhaaDoorNorm
import Derived.Test.YtjdboindeikhhaaDoorBox
import Derived.Deep.DeepCutAuto
import Derived.Deep.RegionWith
import Derived.Deep.LoopGhost
import Derived.BigQuiet
import Derived.Deep.QuietTactic
namespace Go.Proofs.YtjdboindeikhhaaDoor
open Go.RowKit

theorem bcell {W w1 : World} (hb : Below W.heap.size W w1) : (∀ b o, b < W.heap.size → w1.cell? ⟨b, o, none⟩ = W.cell? ⟨b, o, none⟩) ∧ (∀ b o, b < W.heap.size → w1.frozen? ⟨b, o, none⟩ = W.frozen? ⟨b, o, none⟩) :=
  ⟨fun b o h => hb.cell (p := ⟨b, o, none⟩) h, fun b o h => hb.frozen (p := ⟨b, o, none⟩) h⟩
theorem meet_new {wr w1 : World} (x y : Int) (hb : Below wr.drew.heap.size wr.drew w1) :
    (w1.alloc (.cells #[.int .i64 x, .int .i64 y] 46)).cell? ⟨w1.heap.size, 0, none⟩ = some (.int .i64 x) ∧ (w1.alloc (.cells #[.int .i64 x, .int .i64 y] 46)).cell? ⟨w1.heap.size, 1, none⟩ = some (.int .i64 y) ∧
    wr.heap.size ≤ w1.heap.size ∧ w1.heap.size < (w1.alloc (.cells #[.int .i64 x, .int .i64 y] 46)).heap.size ∧ Below wr.heap.size wr (w1.alloc (.cells #[.int .i64 x, .int .i64 y] 46)) := by
  have h := Box2.new w1 x y
  have hs := hb.size
  have hb' : Below wr.heap.size wr w1 := ((Below.refl wr.heap.size wr).drew).trans hb
  exact ⟨h.cell0, h.cell1, hb'.size, by simp, hb'.alloc hb'.size _⟩
theorem meet_old {wr w1 : World} (x y : Int) (hb : Below (wr.alloc (.cells #[.int .i64 0, .int .i64 0] 46)).drew.heap.size (wr.alloc (.cells #[.int .i64 0, .int .i64 0] 46)).drew w1) :
    ((w1.setCell ⟨wr.heap.size, 0, none⟩ (.int .i64 x)).setCell ⟨wr.heap.size, 1, none⟩ (.int .i64 y)).cell? ⟨wr.heap.size, 0, none⟩ = some (.int .i64 x) ∧
    ((w1.setCell ⟨wr.heap.size, 0, none⟩ (.int .i64 x)).setCell ⟨wr.heap.size, 1, none⟩ (.int .i64 y)).cell? ⟨wr.heap.size, 1, none⟩ = some (.int .i64 y) ∧
    wr.heap.size ≤ wr.heap.size ∧ wr.heap.size < ((w1.setCell ⟨wr.heap.size, 0, none⟩ (.int .i64 x)).setCell ⟨wr.heap.size, 1, none⟩ (.int .i64 y)).heap.size ∧
    Below wr.heap.size wr ((w1.setCell ⟨wr.heap.size, 0, none⟩ (.int .i64 x)).setCell ⟨wr.heap.size, 1, none⟩ (.int .i64 y)) := by
  have h0 : Box2 w1 wr.heap.size 0 0 := (hb.block wr.heap.size (by show _ < (wr.alloc (.cells #[.int .i64 0, .int .i64 0] 46)).heap.size; simp)).trans (Box2.new wr 0 0)
  have h1 : Box2 (w1.setCell ⟨wr.heap.size, 0, none⟩ (.int .i64 x)) wr.heap.size x 0 := by
    have := heap_setCell_same w1 wr.heap.size 0 _ _ (.int .i64 x) h0
    simpa [Box2] using this
  have h2 := h1.store y
  have hb' : Below wr.heap.size wr w1 := (((Below.refl wr.heap.size wr).alloc (Nat.le_refl _) _).drew).trans (hb.mono (by show _ ≤ (wr.alloc (.cells #[.int .i64 0, .int .i64 0] 46)).heap.size; simp))
  exact ⟨h2.cell0, h2.cell1, Nat.le_refl _, h2.lt, (hb'.setCell (Nat.le_refl _) _).setCell (Nat.le_refl _) _⟩
theorem ands_drop (s o : List Rg) (i j : Nat) (a b : Rg) (hs : s[i]? = some a) (ho : o[j]? = some b) :
    ands (s.drop i) (o.drop j) = part a b ++ if a.2 < b.2 then ands (s.drop (i + 1)) (o.drop j) else ands (s.drop i) (o.drop (j + 1)) := by
  obtain ⟨hk, rfl⟩ := List.getElem?_eq_some_iff.1 hs
  obtain ⟨hk', rfl⟩ := List.getElem?_eq_some_iff.1 ho
  rw [List.drop_eq_getElem_cons hk, List.drop_eq_getElem_cons hk', ands]
theorem ands_out (s o : List Rg) (i j : Nat) (h : s.length ≤ i ∨ o.length ≤ j) : ands (s.drop i) (o.drop j) = [] := by
  rcases h with h | h
  · rw [List.drop_eq_nil_of_le h, ands]
  · rw [List.drop_eq_nil_of_le h, ands_nil_right]

set_option maxHeartbeats 1000000 in
theorem and_wrong (v1 v2 : Value) (s o : List Rg) (w : World) (hs : SetV w.heap.size w v1 s) (ho : SetV w.heap.size w v2 o) (hms : s.length ≤ 1000000) (hmo : o.length ≤ 1000000) (hn : ¬ (Norm s ∧ Norm o)) :
    Calls Tryd.prog 23 #[v1, v2] w fun e w' => e = .returned (.tuple #[.slice none 0 0, .int .i64 10]) ∧ Below w.heap.size w w' := by
  have HS := Lib.hid hs
  have HO := Lib.hid ho
  obtain ⟨A1, cap1, rfl, _, _⟩ := id hs
  obtain ⟨A2, cap2, rfl, _, _⟩ := id ho
  by_cases h1 : Norm s
  · have h2 : ¬ Norm o := fun h2 => hn ⟨h1, h2⟩
    have b1 := normB_true h1
    have b2 := normB_false h2
    clear h1 h2 hn hs ho
    go_enter Tryd.func23, Tryd.ntmps23
    go_wp2_with fail
    refine (normal_any _ s _ hms HS.out).mono ?_
    rintro e w1 ⟨rfl, hb1⟩
    have HO1 := Lib.hid (HO.out.on hb1)
    go_wp2_with fail
    refine (normal_any _ o _ hmo HO1.out).mono ?_
    rintro e w2 ⟨rfl, hb2⟩
    go_wp2
    go_ret2
    exact ⟨rfl, hb1.trans (hb2.mono hb1.size)⟩
  · have b1 := normB_false h1
    clear h1 hn hs ho
    go_enter Tryd.func23, Tryd.ntmps23
    go_wp2_with fail
    refine (normal_any _ s _ hms HS.out).mono ?_
    rintro e w1 ⟨rfl, hb1⟩
    go_wp2
    go_ret2
    exact ⟨rfl, hb1⟩

set_option maxRecDepth 100000 in
set_option maxHeartbeats 2000000 in
theorem and_right (v1 v2 : Value) (s o : List Rg) (w : World) (hs : SetV w.heap.size w v1 s) (ho : SetV w.heap.size w v2 o) (hms : s.length ≤ 400000) (hmo : o.length ≤ 400000) (h1 : Norm s) (h2 : Norm o) :
    Calls Tryd.prog 23 #[v1, v2] w (Gives (fun m => Norm m ∧ (∀ u, hasB m u = (hasB s u && hasB o u)) ∧ m.length ≤ s.length + o.length) w) := by
  have HS := Lib.hid hs
  have HO := Lib.hid ho
  obtain ⟨A1, cap1, rfl, _, _⟩ := id hs
  obtain ⟨A2, cap2, rfl, _, _⟩ := id ho
  have b1 := normB_true h1
  have b2 := normB_true h2
  have HN := Lib.hid (And.intro h1 h2)
  clear h1 h2 hs ho
  obtain ⟨i0, hi, hz0, hz1, hz2⟩ := info_three info46
  go_enter Tryd.func23, Tryd.ntmps23
  go_wp2_with fail
  refine (normal_any _ s _ (by omega) HS.out).mono ?_
  rintro e w1 ⟨rfl, hb1⟩
  have HO1 := Lib.hid (HO.out.on hb1)
  go_wp2_with fail
  refine (normal_any _ o _ (by omega) HO1.out).mono ?_
  rintro e w2 ⟨rfl, hb2⟩
  have hbw := hb1.trans (hb2.mono hb1.size)
  clear hb1 hb2 HO1
  go_wp2
  clear b1 b2
  go_loopg [6, 7, 8] (s.length + o.length) (fun g r i j wr => ∃ (i' j' : Nat) (acc : List Rg), i' ≤ s.length ∧ j' ≤ o.length ∧ i = .int .i64 i' ∧ j = .int .i64 j' ∧ s.length + o.length ≤ i' + j' + g ∧ acc.length ≤ i' + j' ∧ Own wr w.heap.size 46 r acc ∧ Hid (ands s o = acc ++ ands (s.drop i') (o.drop j')) ∧ Below w.heap.size w wr)
  case atStart => exact ⟨0, 0, [], Nat.zero_le _, Nat.zero_le _, rfl, rfl, by omega, Nat.le_refl _, Own.nil _ _ _, Lib.hid rfl, hbw⟩
  case round =>
    obtain ⟨i, j, acc, hi', hj', rfl, rfl, hgh, hacc, hown, HH, hbel⟩ := hrel
    have hsz := hbel.size
    by_cases hlt : i < s.length
    · have hltc : (i : Int) < s.length := by omega
      by_cases hlt2 : j < o.length
      · have hltc2 : (j : Int) < o.length := by omega
        obtain ⟨b, off, a0, a1, rfl, hb, hget, c0, c1⟩ := HS.out.at_ hlt
        obtain ⟨b', off', e0, e1, rfl, hb', hget', d0, d1⟩ := HO.out.at_ hlt2
        have HG := Lib.hid (ands_drop s o i j _ _ hget hget')
        have ra := HN.out.1.1 _ (List.mem_of_getElem? hget)
        have ro := HN.out.2.1 _ (List.mem_of_getElem? hget')
        clear hget hget'
        have C1 := Lib.hid c1
        have D1 := Lib.hid d1
        replace c0 := (hbel.cell (p := ⟨b, off + i * 2, none⟩) hb).trans c0
        replace c1 := (hbel.cell (p := ⟨b, off + i * 2 + 1, none⟩) hb).trans c1
        replace d0 := (hbel.cell (p := ⟨b', off' + j * 2, none⟩) hb').trans d0
        replace d1 := (hbel.cell (p := ⟨b', off' + j * 2 + 1, none⟩) hb').trans d1
        have f0 := (World.cell?_alloc_lt wr (.cells #[.int .i64 0, .int .i64 0] 46) ⟨b, off + i * 2, none⟩ (by simp; omega)).trans c0
        have f1 := (World.cell?_alloc_lt wr (.cells #[.int .i64 0, .int .i64 0] 46) ⟨b, off + i * 2 + 1, none⟩ (by simp; omega)).trans c1
        have g0 := (World.cell?_alloc_lt wr (.cells #[.int .i64 0, .int .i64 0] 46) ⟨b', off' + j * 2, none⟩ (by simp; omega)).trans d0
        have g1 := (World.cell?_alloc_lt wr (.cells #[.int .i64 0, .int .i64 0] 46) ⟨b', off' + j * 2 + 1, none⟩ (by simp; omega)).trans d1
        obtain ⟨x, hxe⟩ : ∃ x, x = max a0 e0 := ⟨_, rfl⟩
        obtain ⟨y, hye⟩ : ∃ y, y = min a1 e1 := ⟨_, rfl⟩
        have hsh := shared_any a0 a1 e0 e1
        rw [← hxe, ← hye] at hsh
        have HX := Lib.hid hxe
        have HY := Lib.hid hye
        clear hxe hye
        go_upto_region 6 with (fail)
        go_cut [9, 10] (fun s9 s10 wx => ∃ B : Nat, s9 = .pointer (some ⟨B, 0, none⟩) ∧ s10 = .bool (decide (x ≤ y)) ∧ wx.cell? ⟨B, 0, none⟩ = some (.int .i64 x) ∧ wx.cell? ⟨B, 1, none⟩ = some (.int .i64 y) ∧ wr.heap.size ≤ B ∧ B < wx.heap.size ∧ Below wr.heap.size wr wx)
        case first =>
          go_region_with (go_at_call 35; refine (hsh _).mono ?_; rintro e w1 ⟨rfl, hb1⟩; obtain ⟨hcc, hff⟩ := bcell hb1)
          all_goals
            go_wp2_with fail
            go_meet
            first | exact ⟨_, rfl, rfl, meet_new x y hb1⟩ | exact ⟨_, rfl, rfl, meet_old x y hb1⟩
        case rest =>
          obtain ⟨B, rfl, rfl, x0, x1, hB0, hB1, hbx⟩ := hcut
          clear c0 c1 d0 d1 f0 f1 g0 g1 hsh
          have hbel2 := hbel.trans (hbx.mono hsz)
          have hown2 := hown.below hbx
          have hsz2 := hbel2.size
          have hpart : Hid (part (a0, a1) (e0, e1) = if x ≤ y then [(x, y)] else []) := Lib.hid (by unfold part shr; simp only; rw [HX.out, HY.out])
          by_cases hxy : x ≤ y
          · skip
            have hsl : acc.length ≤ 800000 := by omega
            have hA2 := hown2.alloc (.cells #[.int .i64 x, .int .i64 y] 46)
            have hbA := hbel2.alloc hsz2 (.cells #[.int .i64 x, .int .i64 y] 46)
            have hszA : w.heap.size ≤ (wc.alloc (.cells #[.int .i64 x, .int .i64 y] 46)).heap.size := by simp; omega
            by_cases hlt3 : a1 < e1
            · go_wp2_with (at_builtin; refine wpList_append_one _ rfl _ _ 24 rfl w.heap.size 46 i0 (.agg #[.int .i64 0, .int .i64 0]) 16 Tryd.underlying24 hi hz0 hz1 hz2 rfl _ _ rfl hA2 wc.heap.size 1 (x, y) rfl (cell_two_at _ _ _ _ _ rfl) (by omega) rfl hszA ?_; intro v' w3 hown' hgrow; have hbel3 := below_append hbA hA2 (Nat.le_refl _) hgrow hszA; have c1 := (hbel3.cell (p := ⟨b, off + i * 2 + 1, none⟩) hb).trans C1.out; have d1 := (hbel3.cell (p := ⟨b', off' + j * 2 + 1, none⟩) hb').trans D1.out)
              go_quiet (fail)
              go_wp2
              go_roundg (s.length + o.length - (i + 1 + j))
              case measure => omega
              case rel => exact ⟨i + 1, j, acc ++ [(x, y)], by omega, by omega, by go_num, rfl, by omega, by simp; omega, hown', Lib.hid (by rw [HH.out, HG.out, hpart.out, if_pos hxy, if_pos (show (a0, a1).2 < (e0, e1).2 from hlt3), List.append_assoc]), below_drewN hbel3 _⟩
            · go_wp2_with (at_builtin; refine wpList_append_one _ rfl _ _ 24 rfl w.heap.size 46 i0 (.agg #[.int .i64 0, .int .i64 0]) 16 Tryd.underlying24 hi hz0 hz1 hz2 rfl _ _ rfl hA2 wc.heap.size 1 (x, y) rfl (cell_two_at _ _ _ _ _ rfl) (by omega) rfl hszA ?_; intro v' w3 hown' hgrow; have hbel3 := below_append hbA hA2 (Nat.le_refl _) hgrow hszA; have c1 := (hbel3.cell (p := ⟨b, off + i * 2 + 1, none⟩) hb).trans C1.out; have d1 := (hbel3.cell (p := ⟨b', off' + j * 2 + 1, none⟩) hb').trans D1.out)
              go_quiet (fail)
              go_wp2
              go_roundg (s.length + o.length - (i + (j + 1)))
              case measure => omega
              case rel => exact ⟨i, j + 1, acc ++ [(x, y)], by omega, by omega, rfl, by go_num, by omega, by simp; omega, hown', Lib.hid (by rw [HH.out, HG.out, hpart.out, if_pos hxy, if_neg (show ¬ (a0, a1).2 < (e0, e1).2 from by simp only; omega), List.append_assoc]), below_drewN hbel3 _⟩
          · have c1 := (hbel2.cell (p := ⟨b, off + i * 2 + 1, none⟩) hb).trans C1.out
            have d1 := (hbel2.cell (p := ⟨b', off' + j * 2 + 1, none⟩) hb').trans D1.out
            by_cases hlt3 : a1 < e1
            · go_wp2
              go_quiet (fail)
              go_wp2
              go_roundg (s.length + o.length - (i + 1 + j))
              case measure => omega
              case rel => exact ⟨i + 1, j, acc, by omega, by omega, by go_num, rfl, by omega, by omega, hown2, Lib.hid (by rw [HH.out, HG.out, hpart.out, if_neg (show ¬ x ≤ y by omega), if_pos (show (a0, a1).2 < (e0, e1).2 from hlt3), List.nil_append]), below_drewN hbel2 _⟩
            · go_wp2
              go_quiet (fail)
              go_wp2
              go_roundg (s.length + o.length - (i + (j + 1)))
              case measure => omega
              case rel => exact ⟨i, j + 1, acc, by omega, by omega, rfl, by go_num, by omega, by omega, hown2, Lib.hid (by rw [HH.out, HG.out, hpart.out, if_neg (show ¬ x ≤ y by omega), if_neg (show ¬ (a0, a1).2 < (e0, e1).2 from by simp only; omega), List.nil_append]), below_drewN hbel2 _⟩
      · have hltc2 : ¬ (j : Int) < o.length := by omega
        have HE : Hid (ands s o = acc) := Lib.hid (by rw [HH.out, ands_out s o i j (.inr (by omega)), List.append_nil])
        have AO := Lib.hid (ands_ok s o HN.out.1 HN.out.2)
        have AL := ands_len s o
        go_wp2
        go_ret2
        exact ⟨_, ands s o, rfl, by rw [HE.out]; exact hown.set, ⟨AO.out.1, AO.out.2, AL⟩, hbel⟩
    · have hltc : ¬ (i : Int) < s.length := by omega
      have HE : Hid (ands s o = acc) := Lib.hid (by rw [HH.out, ands_out s o i j (.inl (by omega)), List.append_nil])
      have AO := Lib.hid (ands_ok s o HN.out.1 HN.out.2)
      have AL := ands_len s o
      go_wp2
      go_ret2
      exact ⟨_, ands s o, rfl, by rw [HE.out]; exact hown.set, ⟨AO.out.1, AO.out.2, AL⟩, hbel⟩

end Go.Proofs.YtjdboindeikhhaaDoor
