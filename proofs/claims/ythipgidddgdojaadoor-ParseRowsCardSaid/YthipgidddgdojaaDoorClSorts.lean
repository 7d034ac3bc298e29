/- slices.SortFunc by Lo over a row of the call's own, and slices.Clone, at this program. -/
import Derived.Test.YthipgidddgdojaaDoorClSmall
import Derived.Test.YthipgidddgdojaaDoorClShelf
import Derived.Shelf.SlSortCmp.NoneTotal
namespace Go.Proofs.YthipgidddgdojaaDoor.Cl
open Go.RowKit Go.Shelf Go.Lib

def encRg (r : Rg) : List Value := [.int .i64 r.1, .int .i64 r.2]
def cfLo (x y : Rg) : Int := Lib.compareInt x.1 y.1

theorem ltLo (x y : Rg) : ltOf cfLo x y = decide (x.1 < y.1) := by
  unfold ltOf cfLo Lib.compareInt
  by_cases h1 : x.1 < y.1
  · simp [h1]
  · by_cases h2 : y.1 < x.1 <;> simp [h1, h2]
theorem swoLo : Sort.SWO (ltOf cfLo) where
  irrefl x := by rw [ltLo]; simp
  trans x y z h1 h2 := by rw [ltLo] at *; simp at *; omega
  ntrans x y z h1 h2 := by rw [ltLo] at *; simp at *; omega

set_option maxHeartbeats 1000000 in
/-- The comparison's literal: in whatever world: two blocks are laid. -/
theorem cmp_any (x y : Rg) (W : World) : Calls Tryd.prog 54 #[.agg #[.int .i64 x.1, .int .i64 x.2], .agg #[.int .i64 y.1, .int .i64 y.2]] W fun e w' => e = .returned (.int .i64 (cfLo x y)) ∧ ∃ q os', w' = Sort.grow (W.drewN q) os' := by
  have hcon := fun W' => AnyG.cmp_Compare_int Tryd.cmpInt x.1 y.1 W'
  change ∀ W', Calls Tryd.prog 55 _ _ _ at hcon
  unfold cfLo
  generalize Lib.compareInt x.1 y.1 = r at hcon ⊢
  go_enter Tryd.func54, Tryd.ntmps54
  go_wp2_with (go_at_call 55; refine (hcon _).mono ?_; rintro e w' ⟨rfl, rfl⟩)
  go_ret
  exact ⟨rfl, 0, _, by rw [Sort.alloc_eq_grow, Sort.alloc_eq_grow, Sort.grow_grow]; rfl⟩
theorem cmp_lays (blk off size : Nat) (w : World) : CmpLays Tryd.prog 54 #[] encRg 2 cfLo blk off size w :=
  fun _ _ _ _ x y => cmp_any x y _

theorem flat_get (d : Array Rg) (j : Nat) (h : j < d.size * 2) : (Sort.flatK encRg 2 d)[j]! = if j % 2 = 0 then .int .i64 d[j / 2]!.1 else .int .i64 d[j / 2]!.2 := by
  rw [Sort.get_flatK _ _ _ _ h]
  have h2 : j % 2 = 0 ∨ j % 2 = 1 := by omega
  rcases h2 with h2 | h2 <;> simp [h2, encRg]
theorem get_of_toList (d : Array Rg) (i : Nat) (r : Rg) (h : d.toList[i]? = some r) : i < d.size ∧ d[i]! = r := by
  obtain ⟨hi, rfl⟩ := List.getElem?_eq_some_iff.1 h
  have hi' : i < d.size := by simpa using hi
  exact ⟨hi', by rw [getElem!_pos d i hi']; simp⟩

theorem below_sortWorld (w : World) (base g n : Nat) (d : Array Rg) (os : Array Obj) (hg : base ≤ g) (hb : base ≤ w.heap.size) : Below base w (sortWorldK encRg 2 w g 0 n d os) := by
  refine ⟨rfl, rfl, rfl, size_sortWorldK_c encRg 2 w g 0 n d os, fun k hk => ?_⟩
  unfold sortWorldK
  rw [Sort.heap_grow_old _ _ (by rw [Sort.size_putRowK]; show k < w.heap.size; omega)]
  unfold Sort.putRowK Sort.putRow Sort.mapBlock
  simp only [Sort.heap_ahead]
  rw [Array.getElem?_modify, if_neg (by omega)]

theorem sort_own (v : Value) (l : List Rg) (base : Nat) (w : World) (hb : base ≤ w.heap.size) (hmax : l.length ≤ 1000000) (h : Own w base 39 v l) :
    Calls Tryd.prog 53 #[v, .func (.func 54) #[] #[]] w fun e w' => e = .returned (.tuple #[]) ∧ ∃ l', l'.Perm l ∧ l'.Pairwise (fun a b => a.1 ≤ b.1) ∧ SetV w'.heap.size w' v l' ∧ Below base w w' := by
  by_cases hl : l = []
  · subst hl
    obtain ⟨p, cap, rfl⟩ : ∃ p cap, v = .slice p 0 cap := by
      obtain ⟨A, cap, hv, _⟩ := h.set
      exact ⟨A, cap, hv⟩
    have hs := h.set
    have hcon := AnyF.slices_SortFunc_none { Tryd.sortRg with } p cap (.func (.func 54) #[] #[]) w
    change Calls Tryd.prog 53 _ _ _ at hcon
    refine hcon.mono ?_
    rintro e w' ⟨rfl, rfl⟩
    exact ⟨rfl, [], List.Perm.refl _, List.Pairwise.nil, hs, Below.refl _ _⟩
  · have hlen : 0 < l.length := List.length_pos_iff.2 hl
    obtain ⟨g, cap, rfl, hg1, hg2⟩ := World.ownsRow.form h hlen
    have hH : Sort.HoldsK encRg 2 w g 0 l.toArray := by
      intro j hj
      rw [Sort.size_flatK] at hj
      have hj' : j < l.length * 2 := by simpa using hj
      refine ⟨?_, World.ownsRow.frozenAt h (0 + j)⟩
      rw [World.ownsRow.cellAt h (0 + j) (by omega), flat_get _ _ hj, Nat.zero_add]
      have hlt : j / 2 < l.length := by omega
      have hg := rgCells_get l (j / 2) l[j / 2] (List.getElem?_eq_getElem hlt)
      have he : l.toArray[j / 2]! = l[j / 2] := by rw [getElem!_pos l.toArray (j / 2) (by simpa using hlt)]; simp
      by_cases h2 : j % 2 = 0
      · rw [if_pos h2, he, show (rgCells l)[j]? = (rgCells l)[j / 2 * 2]? by rw [show j / 2 * 2 = j by omega]]
        exact hg.1
      · rw [if_neg h2, he, show (rgCells l)[j]? = (rgCells l)[j / 2 * 2 + 1]? by rw [show j / 2 * 2 + 1 = j by omega]]
        exact hg.2
    have eg : ∀ args w, (callFunc 54 args).run Tryd.prog w = .ok (.enter 54 args) w := enters_of Tryd.func54 (by kernel_rfl) rfl
    have hcon := AnyQ.slices_SortFunc Tryd.sortRg 2 Tryd.isAgg39 Tryd.sizeOf39 encRg (fun _ => rfl) (fun x v hv => by simp [encRg] at hv; rcases hv with rfl | rfl <;> rfl) cfLo swoLo 54 #[] g 0 cap l.toArray w eg (cmp_lays g 0 l.toArray.size w) hH hg2 (by simp; omega)
    change Calls Tryd.prog 53 #[.slice (some ⟨g, 0, none⟩) l.length cap, _] _ _ at hcon
    refine hcon.mono ?_
    rintro e w' ⟨rfl, d', n, os, hp, hs, rfl⟩
    obtain ⟨hp1, _, hp3⟩ := hp
    have hsz : d'.size = l.length := by simpa using hp1
    have hperm : d'.toList.Perm l := by
      have h3 := hp3
      simp only [Array.toList_extract, List.extract_eq_take_drop, List.drop_zero, Nat.sub_zero] at h3
      rw [List.take_of_length_le (by rw [Array.length_toList, hp1]; exact Nat.le_refl _), List.take_of_length_le (by simp)] at h3
      exact h3
    refine ⟨rfl, d'.toList, hperm, ?_, ?_, below_sortWorld w base g n d' os hg1 hb⟩
    · rw [List.pairwise_iff_getElem]
      intro i j hi hj hij
      have hj' : j < d'.size := by simpa using hj
      have hi' : i < d'.size := by simpa using hi
      have := hs i j (Nat.zero_le _) hij (by rw [← hp1]; exact hj')
      rw [ltLo, getElem!_pos d' i hi', getElem!_pos d' j hj'] at this
      simp only [decide_eq_false_iff_not, Array.getElem_toList] at this ⊢
      omega
    · have hHo := holdsK_sortWorldK_c encRg 2 w g 0 l.toArray d' n os hH hg2 hp1
      have hlt := size_sortWorldK_c encRg 2 w g 0 n d' os
      have hlen' : d'.toList.length = l.length := by simpa using hsz
      have hcapn : l.length ≤ cap := by
        obtain ⟨A, c, hv, hc, _⟩ := h.set
        have : cap = c := by injection hv
        omega
      refine ⟨some ⟨g, 0, none⟩, cap, by rw [hlen'], by rw [hlen']; exact hcapn, fun _ => ⟨g, 0, rfl, by omega, fun i r hr => ?_⟩⟩
      obtain ⟨hi, hr⟩ := get_of_toList d' i r hr
      have c0 := (hHo (i * 2) (by rw [Sort.size_flatK]; omega)).1
      have c1 := (hHo (i * 2 + 1) (by rw [Sort.size_flatK]; omega)).1
      rw [flat_get _ _ (by omega)] at c0 c1
      rw [if_pos (by omega), show i * 2 / 2 = i by omega, hr] at c0
      rw [if_neg (by omega), show (i * 2 + 1) / 2 = i by omega, hr] at c1
      exact ⟨c0, c1⟩

end Go.Proofs.YthipgidddgdojaaDoor.Cl
