/- Layer 13: two logs one behind the other (slices.Grow, slices.Concat). -/
import Derived.Test.YtefgobmpleoafaaGreatLdE
import Derived.Test.YtefgobmpleoafaaGreatLdShelf
namespace Go.Proofs.YtefgobmpleoafaaGreat
open Go.RowKit Go.Shelf
variable {w w' : World} {S : Nat → Prop}

theorem enCells_len : ∀ (L : List EnV), (enCells L).length = L.length * 9
  | [] => rfl
  | x :: L => by
    have := enCells_len L
    show (x.1.cells x.2.1 x.2.2 ++ enCells L).length = _
    rw [List.length_append, this]
    simp [En.cells]
    omega
theorem enCells_inv (L : List EnV) (j : Nat) (u : Value) (h : (enCells L)[j]? = some u) : ∃ x, L[j / 9]? = some x ∧ (x.1.cells x.2.1 x.2.2)[j % 9]? = some u := by
  have hj : j < (enCells L).length := (List.getElem?_eq_some_iff.1 h).1
  rw [enCells_len] at hj
  have hd : j / 9 < L.length := by omega
  have hg := enCells_get L (j / 9) (j % 9) _ (List.getElem?_eq_getElem hd) (by omega)
  rw [show j / 9 * 9 + j % 9 = j by omega, h] at hg
  exact ⟨_, List.getElem?_eq_getElem hd, hg.symm⟩
theorem EnAt.get {b o : Nat} {e : En} {p d : Value} (h : EnAt w b o e p d) (k : Nat) (u : Value) (hu : (e.cells p d)[k]? = some u) : w.cell? ⟨b, o + k, none⟩ = some u := by
  obtain ⟨h0, h1, h2, h3, h4, h5, h6, h7, h8⟩ := h
  match k, hu with
  | 0, hu => simp [En.cells] at hu; subst hu; exact h0
  | 1, hu => simp [En.cells] at hu; subst hu; exact h1
  | 2, hu => simp [En.cells] at hu; subst hu; exact h2
  | 3, hu => simp [En.cells] at hu; subst hu; exact h3
  | 4, hu => simp [En.cells] at hu; subst hu; exact h4
  | 5, hu => simp [En.cells] at hu; subst hu; exact h5
  | 6, hu => simp [En.cells] at hu; subst hu; exact h6
  | 7, hu => simp [En.cells] at hu; subst hu; exact h7
  | 8, hu => simp [En.cells] at hu; subst hu; exact h8
  | k + 9, hu => simp [En.cells] at hu
theorem EntsP.src {n₀ n c : Nat} {A : Option Addr} {L : List EnV} (h : EntsP n₀ w (.slice A n c) L) : n = L.length ∧ (A = none → n = 0) ∧ (∀ a, A = some a → ∀ j u, (enCells L)[j]? = some u → w.cell? (a.add j) = some u) ∧ ∀ y ∈ enCells L, y.oneCell' = true := by
  obtain ⟨A', c', hv, _, ht⟩ := h
  injection hv with e1 e2 e3
  subst e1 e2
  refine ⟨rfl, fun h => ?_, fun a ha j u hj => ?_, fun y hy => ?_⟩
  · by_cases hl : L = []
    · rw [hl]; rfl
    · obtain ⟨b, off, hA, _⟩ := ht hl
      rw [hA] at h; cases h
  · obtain ⟨r, hr, hu⟩ := enCells_inv L j u hj
    obtain ⟨b, off, hA, _, hx⟩ := ht (by rintro rfl; simp at hr)
    rw [hA] at ha
    injection ha with ha
    subst ha
    have := (hx (j / 9) r hr).1.get (j % 9) u hu
    have hadd : (⟨b, off, none⟩ : Addr).add j = ⟨b, off + j, none⟩ := by unfold Addr.add; split <;> simp_all
    rw [hadd, show off + j = off + j / 9 * 9 + j % 9 by omega]
    exact this
  · obtain ⟨x, hx, hy⟩ := List.mem_flatMap.1 hy
    obtain ⟨i, hi⟩ := List.getElem?_of_mem hx
    obtain ⟨b, off, _, _, hh⟩ := ht (by rintro rfl; simp at hi)
    obtain ⟨_, h2, h3⟩ := hh i x hi
    obtain ⟨e, p, d⟩ := x
    obtain ⟨A1, c1, h4⟩ := h2.form
    obtain ⟨A2, c2, h5⟩ := h3.form
    simp only at h4 h5 hy
    rw [h4, h5] at hy
    exact en_one e _ _ _ _ _ _ y hy
theorem EntsP.lists {n₀ : Nat} {v : Value} {L : List EnV} (h : EntsP n₀ w v L) {x : EnV} (hx : x ∈ L) : RulesV n₀ w x.2.1 x.1.d.put ∧ Row n₀ w x.2.2 (zI x.1.d.drop) := by
  obtain ⟨A', c', hv, _, ht⟩ := h
  obtain ⟨i, hi⟩ := List.getElem?_of_mem hx
  obtain ⟨b, off, _, _, hh⟩ := ht (by rintro rfl; simp at hi)
  exact (hh i x hi).2
theorem grow_any (n : Nat) (hn : n ≤ 4000000) (w : World) :
    Calls Tryz.prog 73 #[.slice none 0 0, .int .i64 n] w fun e w' => ∃ v', e = .returned v' ∧ w'.ownsRow w.heap.size 93 9 v' 0 [] ∧ Below w.heap.size w w' := by
  obtain ⟨i0, hi, hz0, hz1, hz2⟩ := info_three info_entry13
  by_cases h0 : n = 0
  · subst h0
    have hcon := Any8.slices_Grow_room Tryz.growEnts none 0 0 0 w (Nat.le_refl _) (by omega) (by omega) (by omega)
    change Calls Tryz.prog 73 _ _ _ at hcon
    refine hcon.mono ?_
    rintro e w' ⟨rfl, rfl⟩
    exact ⟨_, rfl, World.ownsRow_nil _ _ _ _, Below.refl _ _⟩
  · have hcon := Any8.slices_Grow_grow Tryz.growEnts i0 (.agg #[.int .i64 0, .int .i64 0, .int .i64 0, .int .i64 0, .int .i64 0, .int .i64 0, .int .i64 0, .slice none 0 0, .slice none 0 0]) hi hz0 (by omega) none 0 0 n [] w (Nat.le_refl _) (by omega) (by rw [hz2]; omega) (by omega) (by simp) (fun _ => rfl) (fun a h => by cases h)
    change Calls Tryz.prog 73 #[.slice none 0 0, .int .i64 n] w _ at hcon
    refine hcon.mono ?_
    rintro e w' ⟨rfl, rfl⟩
    have hge := grownCap_ge w (0 + n) 0 93
    have hle := grownCap_le_maxLen w (0 + n) 0 93 (by unfold maxLen; omega)
    refine ⟨_, rfl, ?_, ((Below.refl _ w).drew).alloc (by simp) _⟩
    exact World.ownsRow_made w.drew _ _ (Nat.le_refl _) hle (by
      change (([] : List Value).toArray ++ Builtin.zeroCells (Value.agg #[.int .i64 0, .int .i64 0, .int .i64 0, .int .i64 0, .int .i64 0, .int .i64 0, .int .i64 0, .slice none 0 0, .slice none 0 0]).cells (0 + n - 0) ++ Builtin.zeroCells (Value.agg #[.int .i64 0, .int .i64 0, .int .i64 0, .int .i64 0, .int .i64 0, .int .i64 0, .int .i64 0, .slice none 0 0, .slice none 0 0]).cells (grownCap w (0 + n) 0 93 - (0 + n))).size = _
      rw [Array.size_append, Array.size_append, size_zeroCells, size_zeroCells]
      have ht : Tryz.growEnts_ren.t 25 = 93 := rfl
      rw [ht]
      simp [Value.cells]
      rw [Nat.zero_add] at hge
      omega)
set_option maxRecDepth 100000 in
set_option maxHeartbeats 4000000 in
theorem concat_any (v1 v2 : Value) (s o : List En) (B : Nat) (w : World) (hB : Blk w B 39 #[v1, v2]) (hs : LogV S w v1 s) (ho : LogV S w v2 o) (hS : ∀ i, S i → i < w.heap.size) (hms : s.length ≤ 1000000) (hmo : o.length ≤ 1000000) :
    Calls Tryz.prog 57 #[.slice (some ⟨B, 0, none⟩) 2 2] w fun e w' => ∃ A c, e = .returned (.slice A (s ++ o).length c) ∧ LogV S w' (.slice A (s ++ o).length c) (s ++ o) ∧ Below w.heap.size w w' := by
  obtain ⟨i0, hi, hz0, hz1, hz2⟩ := info_three info_entry13
  obtain ⟨A1, cap1, rfl⟩ := hs.form
  obtain ⟨A2, cap2, rfl⟩ := ho.form
  obtain ⟨L1, rfl, h1⟩ := hs
  obtain ⟨L2, rfl, h2⟩ := ho
  rw [List.length_map] at h1 hB hms
  rw [List.length_map] at h2 hB hmo
  have H1 := Lib.hid h1
  have H2 := Lib.hid h2
  have HS := Lib.hid hS
  have hBlt := hB.lt
  have hc0 := hB.cell 0
  have hc1 := hB.cell 1
  simp at hc0 hc1
  clear hB h1 h2 hS
  obtain ⟨n1, hn1⟩ : ∃ n, n = L1.length := ⟨_, rfl⟩
  obtain ⟨n2, hn2⟩ : ∃ n, n = L2.length := ⟨_, rfl⟩
  rw [← hn1] at hc0 H1 hms
  rw [← hn2] at hc1 H2 hmo
  have N1 := Lib.hid hn1
  have N2 := Lib.hid hn2
  clear hn1 hn2
  go_enter Tryz.func57, Tryz.ntmps57
  go_wp2
  go_loop [3, 11] (fun z i => (i = .int .i64 0 ∧ z = .int .i64 0) ∨ (i = .int .i64 1 ∧ z = .int .i64 (n1 : Int)) ∨ (i = .int .i64 2 ∧ z = .int .i64 ((n1 + n2 : Nat) : Int))) (fun _ i => 2 - (intOf i).toNat)
  case atStart => exact .inl ⟨rfl, rfl⟩
  case round =>
    have q1 : (n1 : Int) ≤ 1000000 := by omega
    have q2 : (n2 : Int) ≤ 1000000 := by omega
    rcases hrel with ⟨rfl, rfl⟩ | ⟨rfl, rfl⟩ | ⟨rfl, rfl⟩
    · go_wp2
      go_round
      case rel => exact .inr (.inl ⟨rfl, by go_num⟩)
      case measure => simp [intOf]
    · go_wp2
      go_round
      case rel => exact .inr (.inr ⟨rfl, by go_num⟩)
      case measure => simp [intOf]
    · have hg := grow_any (n1 + n2) (by omega) w
      go_wp2_with fail
      refine hg.mono ?_
      rintro e w1 ⟨v1, rfl, hown1, hb1⟩
      clear hg
      have hsz := hb1.size
      have d0 := (hb1.cell (p := ⟨B, 0, none⟩) hBlt).trans hc0
      have d1 := (hb1.cell (p := ⟨B, 1, none⟩) hBlt).trans hc1
      clear hc0 hc1
      go_wp2
      go_loopw [6, 27] (fun z i wr => ((i = .int .i64 0 ∧ Hid (wr.ownsRow w.heap.size 93 9 z 0 [])) ∨ (i = .int .i64 1 ∧ Hid (wr.ownsRow w.heap.size 93 9 z n1 (enCells L1))) ∨ (i = .int .i64 2 ∧ Hid (wr.ownsRow w.heap.size 93 9 z (n1 + n2) (enCells L1 ++ enCells L2)))) ∧ Hid (Below w.heap.size w wr)) (fun _ i _ => 2 - (intOf i).toNat)
      case atStart => exact ⟨.inl ⟨rfl, Lib.hid hown1⟩, Lib.hid hb1⟩
      case round =>
        obtain ⟨h3, HB⟩ := hrel
        have hszr := HB.out.size
        have e0 := (HB.out.cell (p := ⟨B, 0, none⟩) hBlt).trans ((hb1.cell (p := ⟨B, 0, none⟩) hBlt).symm.trans d0)
        have e1 := (HB.out.cell (p := ⟨B, 1, none⟩) hBlt).trans ((hb1.cell (p := ⟨B, 1, none⟩) hBlt).symm.trans d1)
        have P1 := Lib.hid (H1.out wr (Fr.of_below HB.out)).src
        have P2 := Lib.hid (H2.out wr (Fr.of_below HB.out)).src
        rcases h3 with ⟨rfl, hown⟩ | ⟨rfl, hown⟩ | ⟨rfl, hown⟩
        · go_wp2_with (at_builtin
                       refine wpList_append_gen _ rfl _ _ 39 rfl w.heap.size 93 i0 _ 9 104 Tryz.underlying39 hi hz0 hz1 hz2 rfl (by decide) _ 0 [] rfl hown.out _ _ _ (enCells L1) rfl (by rw [enCells_len, N1.out]) P1.out.2.1 P1.out.2.2.1 P1.out.2.2.2 (by unfold maxLen; omega) (by omega) hszr ?_
                       intro v' w2 o2 g2
                       have B2 : Hid (Below w.heap.size w w2) := Lib.hid (HB.out.grown g2 hszr (fun j hj => (World.ownsRow.lt hown.out j hj).1))
                       rw [List.nil_append, Nat.zero_add] at o2
                       have O2 := Lib.hid o2
                       clear o2 g2)
          go_roundw
          case rel => exact ⟨.inr (.inl ⟨rfl, O2⟩), B2⟩
          case measure => simp [intOf]
        · go_wp2_with (at_builtin
                       refine wpList_append_gen _ rfl _ _ 39 rfl w.heap.size 93 i0 _ 9 104 Tryz.underlying39 hi hz0 hz1 hz2 rfl (by decide) _ n1 (enCells L1) rfl hown.out _ _ _ (enCells L2) rfl (by rw [enCells_len, N2.out]) P2.out.2.1 P2.out.2.2.1 P2.out.2.2.2 (by unfold maxLen; omega) (by omega) hszr ?_
                       intro v' w2 o2 g2
                       have B2 : Hid (Below w.heap.size w w2) := Lib.hid (HB.out.grown g2 hszr (fun j hj => (World.ownsRow.lt hown.out j hj).1))
                       have O2 := Lib.hid o2
                       clear o2 g2)
          go_roundw
          case rel => exact ⟨.inr (.inr ⟨rfl, O2⟩), B2⟩
          case measure => simp [intOf]
        · have hown2 := hown.out
          obtain ⟨A3, c3, hv3⟩ := orow_form hown2
          subst hv3
          have O3 := Lib.hid hown2
          clear hown hown2
          go_wp2
          go_ret
          refine ⟨A3, c3, ?_, ?_, HB.out⟩
          · rw [List.length_append, List.length_map, List.length_map, ← N1.out, ← N2.out]
            rfl
          · rw [List.length_append, List.length_map, List.length_map, ← N1.out, ← N2.out, ← List.map_append]
            refine LogV.of_row (base := w.heap.size) (te := 93) (by rw [List.length_append, enCells_append, ← N1.out, ← N2.out]; exact O3.out) HS.out fun x hx w2 k2 => ?_
            have F2 : Fr S w w2 := (Fr.of_below HB.out).next k2
            rcases List.mem_append.1 hx with hx | hx
            · obtain ⟨q1, q2⟩ := (H1.out w2 F2).lists hx
              exact ⟨q1.more hszr, q2.more hszr⟩
            · obtain ⟨q1, q2⟩ := (H2.out w2 F2).lists hx
              exact ⟨q1.more hszr, q2.more hszr⟩
end Go.Proofs.YtefgobmpleoafaaGreat
