/- slices.Grow of no set, and slices.Concat of two sets. -/
import Derived.Test.YtjdboindeikhhaaDoorClone
import Derived.Test.YtjdboindeikhhaaDoorShelfG
namespace Go.Proofs.YtjdboindeikhhaaDoor
open Go.RowKit Go.Shelf

theorem grow_any (n : Nat) (hn : n ≤ 4000000) (w : World) :
    Calls Tryd.prog 40 #[.slice none 0 0, .int .i64 n] w fun e w' => ∃ v', e = .returned v' ∧ Own w' w.heap.size 46 v' [] ∧ Below w.heap.size w w' := by
  obtain ⟨i0, hi, hz0, hz1, hz2⟩ := info_three info46
  by_cases h0 : n = 0
  · subst h0
    have hcon := Any8.slices_Grow_room Tryd.growSet none 0 0 0 w (Nat.le_refl _) (by omega) (by omega) (by omega)
    change Calls Tryd.prog 40 _ _ _ at hcon
    refine hcon.mono ?_
    rintro e w' ⟨rfl, rfl⟩
    exact ⟨_, rfl, Own.nil _ _ _, Below.refl _ _⟩
  · have hcon := Any8.slices_Grow_grow Tryd.growSet i0 (.agg #[.int .i64 0, .int .i64 0]) hi hz0 (by omega) none 0 0 n [] w (Nat.le_refl _) (by omega) (by rw [hz2]; omega) (by omega) (by simp) (fun _ => rfl) (fun a h => by cases h)
    change Calls Tryd.prog 40 #[.slice none 0 0, .int .i64 n] w _ at hcon
    refine hcon.mono ?_
    rintro e w' ⟨rfl, rfl⟩
    have hge := grownCap_ge w (0 + n) 0 46
    have hle := grownCap_le_maxLen w (0 + n) 0 46 (by unfold maxLen; omega)
    refine ⟨_, rfl, ?_, ((Below.refl _ w).drew).alloc (by simp) _⟩
    exact World.ownsRow_made w.drew _ _ (Nat.le_refl _) hle (by
      change (([] : List Value).toArray ++ Builtin.zeroCells (Value.agg #[.int .i64 0, .int .i64 0]).cells (0 + n - 0) ++ Builtin.zeroCells (Value.agg #[.int .i64 0, .int .i64 0]).cells (grownCap w (0 + n) 0 46 - (0 + n))).size = _
      rw [Array.size_append, Array.size_append, size_zeroCells, size_zeroCells]
      have ht : Tryd.growSet_ren.t 25 = 46 := rfl
      rw [ht]
      simp [Value.cells]
      rw [Nat.zero_add] at hge
      omega)

set_option maxRecDepth 100000 in
set_option maxHeartbeats 1000000 in
theorem concat_any (v1 v2 : Value) (s o : List Rg) (B : Nat) (w : World) (hB : w.heap[B]? = some (.cells #[v1, v2] 24)) (hs : SetV w.heap.size w v1 s) (ho : SetV w.heap.size w v2 o) (hms : s.length ≤ 1000000) (hmo : o.length ≤ 1000000) :
    Calls Tryd.prog 34 #[.slice (some ⟨B, 0, none⟩) 2 2] w fun e w' => ∃ v', e = .returned v' ∧ SetV w'.heap.size w' v' (s ++ o) ∧ Below w.heap.size w w' := by
  have hBlt : B < w.heap.size := by
    rcases Nat.lt_or_ge B w.heap.size with hlt | hge
    · exact hlt
    · rw [Array.getElem?_eq_none hge] at hB
      cases hB
  have hc0 : w.cell? ⟨B, 0, none⟩ = some v1 := by rw [cell_of_row w B 0 _ _ _ hB]; rfl
  have hc1 : w.cell? ⟨B, 1, none⟩ = some v2 := by rw [cell_of_row w B 1 _ _ _ hB]; rfl
  clear hB
  obtain ⟨i0, hi, hz0, hz1, hz2⟩ := info_three info46
  obtain ⟨A1, cap1, hv1, _, _⟩ := id hs
  obtain ⟨A2, cap2, hv2, _, _⟩ := id ho
  subst hv1 hv2
  go_enter Tryd.func34, Tryd.ntmps34
  go_wp2
  go_loop [3, 11] (fun z i => (i = .int .i64 0 ∧ z = .int .i64 0) ∨ (i = .int .i64 1 ∧ z = .int .i64 s.length) ∨ (i = .int .i64 2 ∧ z = .int .i64 ((s.length + o.length : Nat) : Int))) (fun _ i => 2 - (intOf i).toNat)
  case atStart => exact .inl ⟨rfl, rfl⟩
  case round =>
    have q1 : (s.length : Int) ≤ 1000000 := by omega
    have q2 : (o.length : Int) ≤ 1000000 := by omega
    rcases hrel with ⟨rfl, rfl⟩ | ⟨rfl, rfl⟩ | ⟨rfl, rfl⟩
    · go_wp2
      go_round
      case rel => exact .inr (.inl ⟨rfl, by go_num⟩)
      case measure => simp [intOf]
    · go_wp2
      go_round
      case rel => exact .inr (.inr ⟨rfl, by go_num⟩)
      case measure => simp [intOf]
    · have hg := grow_any (s.length + o.length) (by omega) w
      go_wp2_with fail
      refine hg.mono ?_
      rintro e w1 ⟨v1, rfl, hown1, hb1⟩
      clear hg
      have hsz := hb1.size
      have d0 := (hb1.cell (p := ⟨B, 0, none⟩) hBlt).trans hc0
      have d1 := (hb1.cell (p := ⟨B, 1, none⟩) hBlt).trans hc1
      have hs1 := hs.below hb1
      have ho1 := ho.below hb1
      clear hc0 hc1
      go_wp2
      go_loopw [6, 27] (fun z i wr => ((i = .int .i64 0 ∧ Own wr w.heap.size 46 z []) ∨ (i = .int .i64 1 ∧ Own wr w.heap.size 46 z s) ∨ (i = .int .i64 2 ∧ Own wr w.heap.size 46 z (s ++ o))) ∧ Below w.heap.size w wr) (fun _ i _ => 2 - (intOf i).toNat)
      case atStart => exact ⟨.inl ⟨rfl, hown1⟩, hb1⟩
      case round =>
        obtain ⟨h3, hbel⟩ := hrel
        have hszr := hbel.size
        have e0 := (hbel.cell (p := ⟨B, 0, none⟩) hBlt).trans ((hb1.cell (p := ⟨B, 0, none⟩) hBlt).symm.trans d0)
        have e1 := (hbel.cell (p := ⟨B, 1, none⟩) hBlt).trans ((hb1.cell (p := ⟨B, 1, none⟩) hBlt).symm.trans d1)
        have hsr := hs.below hbel
        have hor := ho.below hbel
        rcases h3 with ⟨rfl, hown⟩ | ⟨rfl, hown⟩ | ⟨rfl, hown⟩
        · go_wp2_with (at_builtin; refine wpList_append_set _ rfl _ _ 24 rfl w.heap.size 46 i0 (.agg #[.int .i64 0, .int .i64 0]) 16 Tryd.underlying24 hi hz0 hz1 hz2 rfl _ _ rfl hown w.heap.size _ s rfl hsr (by unfold maxLen; simp; omega) (by simp; omega) hszr ?_; intro v' w2 hown' hgrow)
          go_roundw
          case rel => exact ⟨.inr (.inl ⟨rfl, hown'⟩), below_append hbel hown (Nat.le_refl _) hgrow hszr⟩
          case measure => simp [intOf]
        · go_wp2_with (at_builtin; refine wpList_append_set _ rfl _ _ 24 rfl w.heap.size 46 i0 (.agg #[.int .i64 0, .int .i64 0]) 16 Tryd.underlying24 hi hz0 hz1 hz2 rfl _ _ rfl hown w.heap.size _ o rfl hor (by unfold maxLen; omega) (by omega) hszr ?_; intro v' w2 hown' hgrow)
          go_roundw
          case rel => exact ⟨.inr (.inr ⟨rfl, hown'⟩), below_append hbel hown (Nat.le_refl _) hgrow hszr⟩
          case measure => simp [intOf]
        · go_wp2
          go_ret
          exact ⟨_, rfl, hown.set, hbel⟩

end Go.Proofs.YtjdboindeikhhaaDoor
