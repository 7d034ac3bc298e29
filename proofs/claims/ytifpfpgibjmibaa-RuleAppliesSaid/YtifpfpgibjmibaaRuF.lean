/- slices.SortFunc by ID over a row of rules of the call's own. -/
import Derived.Test.YtifpfpgibjmibaaRuW
import Derived.Test.YtifpfpgibjmibaaRuShelf
import Derived.Shelf.SlSortCmp.NoneTotal
namespace Go.Proofs.Ytifpfpgibjmibaa
open Go.RowKit Go.Shelf Go.Lib

def cfId (x y : Ru) : Int := Lib.compareInt x.id y.id
instance : Inhabited Ru := ⟨Ru.none⟩

theorem ltId (x y : Ru) : ltOf cfId x y = decide (x.id < y.id) := by
  unfold ltOf cfId Lib.compareInt
  by_cases h1 : x.id < y.id
  · simp [h1]
  · by_cases h2 : y.id < x.id <;> simp [h1, h2]
theorem swoId : Sort.SWO (ltOf cfId) where
  irrefl x := by rw [ltId]; simp
  trans x y z h1 h2 := by rw [ltId] at *; simp at *; omega
  ntrans x y z h1 h2 := by rw [ltId] at *; simp at *; omega

set_option maxHeartbeats 1000000 in
/-- The comparison's literal: in whatever world: two blocks are laid. -/
theorem cmpId_any (x y : Ru) (W : World) : Calls Try.prog 32 #[.agg x.cells.toArray, .agg y.cells.toArray] W fun e w' => e = .returned (.int .i64 (cfId x y)) ∧ ∃ q os', w' = Sort.grow (W.drewN q) os' := by
  have hcon := fun W' => AnyG.cmp_Compare_int Try.cmpInt x.id y.id W'
  change ∀ W', Calls Try.prog 33 _ _ _ at hcon
  unfold cfId
  generalize Lib.compareInt x.id y.id = r at hcon ⊢
  simp only [Ru.cells, List.toArray]
  go_enter Try.func32, Try.ntmps32
  go_wp2_with (go_at_call 33; refine (hcon _).mono ?_; rintro e w' ⟨rfl, rfl⟩)
  go_ret
  exact ⟨rfl, 0, _, by rw [Sort.alloc_eq_grow, Sort.alloc_eq_grow, Sort.grow_grow]; rfl⟩
theorem cmpId_lays (blk off size : Nat) (w : World) : CmpLays Try.prog 32 #[] Ru.cells 5 cfId blk off size w :=
  fun _ _ _ _ x y => cmpId_any x y _

theorem flat_get (d : Array Ru) (j : Nat) (h : j < d.size * 5) : some (Sort.flatK Ru.cells 5 d)[j]! = d[j / 5]!.cells[j % 5]? := by
  rw [Sort.get_flatK _ _ _ _ h]
  have : j % 5 < (d[j / 5]!).cells.length := by simp [Ru.cells]; omega
  rw [List.getElem?_eq_getElem this, getElem!_pos (d[j / 5]!).cells (j % 5) this]
theorem get_of_toList (d : Array Ru) (i : Nat) (r : Ru) (h : d.toList[i]? = some r) : i < d.size ∧ d[i]! = r := by
  obtain ⟨hi, rfl⟩ := List.getElem?_eq_some_iff.1 h
  have hi' : i < d.size := by simpa using hi
  exact ⟨hi', by rw [getElem!_pos d i hi']; simp⟩

theorem below_sortWorld (w : World) (base g n : Nat) (d : Array Ru) (os : Array Obj) (hg : base ≤ g) (hb : base ≤ w.heap.size) : Below base w (sortWorldK Ru.cells 5 w g 0 n d os) := by
  refine ⟨rfl, rfl, rfl, size_sortWorldK_c Ru.cells 5 w g 0 n d os, fun k hk => ?_⟩
  unfold sortWorldK
  rw [Sort.heap_grow_old _ _ (by rw [Sort.size_putRowK]; show k < w.heap.size; omega)]
  unfold Sort.putRowK Sort.putRow Sort.mapBlock
  simp only [Sort.heap_ahead]
  rw [Array.getElem?_modify, if_neg (by omega)]

theorem sort_ownU (v : Value) (l : List Ru) (base : Nat) (w : World) (hb : base ≤ w.heap.size) (hmax : l.length ≤ 1000000) (h : OwnU w base 44 v l) :
    Calls Try.prog 35 #[v, .func (.func 32) #[] #[]] w fun e w' => e = .returned (.tuple #[]) ∧ ∃ l', l'.Perm l ∧ l'.Pairwise (fun a b => a.id ≤ b.id) ∧ RulesV w'.heap.size w' v l' ∧ Below base w w' := by
  by_cases hl : l = []
  · subst hl
    obtain ⟨p, cap, rfl⟩ : ∃ p cap, v = .slice p 0 cap := by
      obtain ⟨A, cap, hv, _⟩ := h.set
      exact ⟨A, cap, hv⟩
    have hs := h.set
    have hcon := AnyF.slices_SortFunc_none { Try.sortRu with } p cap (.func (.func 32) #[] #[]) w
    change Calls Try.prog 35 _ _ _ at hcon
    refine hcon.mono ?_
    rintro e w' ⟨rfl, rfl⟩
    exact ⟨rfl, [], List.Perm.refl _, List.Pairwise.nil, hs, Below.refl _ _⟩
  · have hlen : 0 < l.length := List.length_pos_iff.2 hl
    obtain ⟨g, cap, rfl, hg1, hg2⟩ := World.ownsRow.form h hlen
    have hH : Sort.HoldsK Ru.cells 5 w g 0 l.toArray := by
      intro j hj
      rw [Sort.size_flatK] at hj
      have hj' : j < l.length * 5 := by simpa using hj
      refine ⟨?_, World.ownsRow.frozenAt h (0 + j)⟩
      rw [World.ownsRow.cellAt h (0 + j) (by omega), id_eq, flat_get _ _ hj, Nat.zero_add]
      have hlt : j / 5 < l.length := by omega
      have hg := ruCells_get l (j / 5) (j % 5) l[j / 5] (List.getElem?_eq_getElem hlt) (by omega)
      have he : l.toArray[j / 5]! = l[j / 5] := by rw [getElem!_pos l.toArray (j / 5) (by simpa using hlt)]; simp
      rw [he, ← hg]
      congr 1
      omega
    have eg : ∀ args w, (callFunc 32 args).run Try.prog w = .ok (.enter 32 args) w := enters_of Try.func32 (by kernel_rfl) rfl
    have hcon := AnyQ.slices_SortFunc Try.sortRu 5 Try.isAgg44 Try.sizeOf44 Ru.cells (fun _ => rfl) (fun x v hv => ru_one x v hv) cfId swoId 32 #[] g 0 cap l.toArray w eg (cmpId_lays g 0 l.toArray.size w) hH hg2 (by simp; omega)
    change Calls Try.prog 35 #[.slice (some ⟨g, 0, none⟩) l.length cap, _] _ _ at hcon
    refine hcon.mono ?_
    rintro e w' ⟨rfl, d', n, os, hp, hs, rfl⟩
    obtain ⟨hp1, _, hp3⟩ := hp
    have hsz : d'.size = l.length := by simpa using hp1
    have hperm : d'.toList.Perm l := by
      have h3 := hp3
      simp only [Array.toList_extract, List.extract_eq_take_drop, List.drop_zero, Nat.sub_zero] at h3
      rw [List.take_of_length_le (by rw [Array.length_toList, hp1]; exact Nat.le_refl _), List.take_of_length_le (by simp)] at h3
      exact h3
    refine ⟨rfl, d'.toList, hperm, ?_, ?_, below_sortWorld w base g n d' os hg1 hb⟩
    · rw [List.pairwise_iff_getElem]
      intro i j hi hj hij
      have hj' : j < d'.size := by simpa using hj
      have hi' : i < d'.size := by simpa using hi
      have := hs i j (Nat.zero_le _) hij (by rw [← hp1]; exact hj')
      rw [ltId, getElem!_pos d' i hi', getElem!_pos d' j hj'] at this
      simp only [decide_eq_false_iff_not, Array.getElem_toList] at this ⊢
      omega
    · have hHo := holdsK_sortWorldK_c Ru.cells 5 w g 0 l.toArray d' n os hH hg2 hp1
      have hlt := size_sortWorldK_c Ru.cells 5 w g 0 n d' os
      have hlen' : d'.toList.length = l.length := by simpa using hsz
      have hcapn : l.length ≤ cap := by
        obtain ⟨A, c, hv, hc, _⟩ := h.set
        have : cap = c := by injection hv
        omega
      refine ⟨some ⟨g, 0, none⟩, cap, by rw [hlen'], by rw [hlen']; exact hcapn, fun _ => ⟨g, 0, rfl, by omega, fun i r hr => ?_⟩⟩
      obtain ⟨hi, hr⟩ := get_of_toList d' i r hr
      have c : ∀ k u, k < 5 → r.cells[k]? = some u → (sortWorldK Ru.cells 5 w g 0 n d' os).cell? ⟨g, 0 + (i * 5 + k), none⟩ = some u := fun k u hk hu => by
        rw [(hHo (i * 5 + k) (by rw [Sort.size_flatK]; omega)).1, id_eq, flat_get _ _ (by omega), show (i * 5 + k) / 5 = i by omega, show (i * 5 + k) % 5 = k by omega, hr, hu]
      exact ⟨c 0 _ (by omega) rfl, c 1 _ (by omega) rfl, c 2 _ (by omega) rfl, c 3 _ (by omega) rfl, c 4 _ (by omega) rfl⟩

end Go.Proofs.Ytifpfpgibjmibaa
