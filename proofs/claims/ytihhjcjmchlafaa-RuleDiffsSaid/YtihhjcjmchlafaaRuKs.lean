/- slices.Sorted(maps.Keys(m)) of a map of rules: its IDs, rising. -/
import Derived.Test.YtihhjcjmchlafaaRuOi
import Derived.Test.YtihhjcjmchlafaaRuShelfK
namespace Go.Proofs.Ytihhjcjmchlafaa
open Go.RowKit Go.Maps Go.Sort Go.Shelf
variable {w w' : World}

theorem sortsRu (m : Nat) : AnyZI.SortsIn Try.prog Try.sortedI_ren Fence.wide m :=
  ⟨fun blk off cap ss W hH hblk hsz => callsIn_wide.2 (AnyM.slices_Sort_int Try.sortI blk off cap ss W hH hblk hsz),
   fun p cap W => callsIn_wide.2 (AnyM.slices_Sort_int_none Try.sortI p cap W)⟩
theorem intKeys_dm (L : List Ru) : intKeys (dm L) = L.map Ru.id := by
  simp [intKeys, dm, Function.comp_def]
  intro a _
  rfl
theorem perm_rise {ss : List Int} {L : List Ru} (hL : Rise L) (hp : ss.Perm (L.map Ru.id)) : ss.mergeSort (fun x y => decide (x ≤ y)) = L.map Ru.id := by
  have hr : (L.map Ru.id).Pairwise (· < ·) := List.pairwise_map.2 hL
  have hp2 := (List.mergeSort_perm ss (fun x y => decide (x ≤ y))).trans hp
  have hn : (ss.mergeSort (fun x y => decide (x ≤ y))).Nodup := hp2.nodup_iff.2 (hr.imp fun h => by omega)
  have hs : (ss.mergeSort (fun x y => decide (x ≤ y))).Pairwise (fun x y => decide (x ≤ y) = true) := List.pairwise_mergeSort (fun a b c h1 h2 => by simp at *; omega) (fun a b => by simp; omega) ss
  refine strict_ext (lt := fun x y => decide (x < y)) ⟨fun x => by simp, fun x y z h1 h2 => by simp at *; omega, fun x y z h1 h2 => by simp at *; omega⟩ ?_ (hr.imp fun h => by simpa using h) fun x => hp2.mem_iff
  exact (hs.and hn).imp fun {a b} h => by
    obtain ⟨h1, h2⟩ := h
    have h1' : a ≤ b := by simpa using h1
    simp
    omega

theorem keys_any (mb : Option Nat) (w : World) : Calls Try.prog 36 #[.map mb] w fun e w' => e = .returned (.func (.func 46) #[] #[.pointer (some ⟨w.heap.size, 0, none⟩)]) ∧ w' = w.alloc (.cells #[.map mb] 58) :=
  (callsIn_wide (n := 5)).1 (AnyZI.keys_in Try.keysRu Fence.wide 5 trivial rfl mb w)

set_option maxHeartbeats 1000000 in
theorem sorted_any (b nn : Nat) (L : List Ru) (hL : Rise L) (hmax : L.length ≤ 1000000) (w : World) (hown : w.ownsMap Try.prog 3 ruR b nn (dm L)) :
    Calls Try.prog 35 #[.func (.func 46) #[] #[.pointer (some ⟨w.heap.size, 0, none⟩)]] (w.alloc (.cells #[.map (some b)] 58)) fun e w' => ∃ v, e = .returned v ∧ OwnI w' w.heap.size v (L.map Ru.id) ∧ Below w.heap.size w w' := by
  refine (callsIn_wide (n := 5)).1 ?_
  have hbl := hown.lt
  have hms : Maps.size (dm L) = L.length := dm_size L
  have hseq : SeqGives Fence.wide 2 Try.prog 46 #[.pointer (some ⟨w.heap.size, 0, none⟩)] encZ (fun ss => ss.Perm (intKeys (dm L))) (Maps.size (dm L)) (w.alloc (.cells #[.map (some b)] 58)) :=
    AnyZI.keys_gives (ρ := Try.keysRu_ren) { Try.keysRu with } Fence.wide _ trivial rfl (by omega) w.heap.size b nn (dm L) _ (by simp) (by simp) (by
      obtain ⟨es, clock, hb, Ft, hs, hD⟩ := hown
      exact ⟨es, clock, (Below.heap_alloc _ _ b hbl).trans hb, Ft, hs, hD⟩)
  have cS := AnyZI.sorted_in Try.sortedI Fence.wide 5 trivial trivial trivial trivial rfl (by omega) (sortsRu _) (enters_of Try.func45 (by kernel_rfl) rfl) 46 #[.pointer (some ⟨w.heap.size, 0, none⟩)] trivial (enters_of Try.func46 (by kernel_rfl) rfl) _ _ (by rw [hms]; unfold maxLen; omega) (by rw [hms]; omega) _ hseq
  change CallsIn _ _ Try.prog 35 _ _ _ at cS
  refine cS.mono ?_
  rintro e w' ⟨v, ss, rfl, hS, hrow, hnil, hb⟩
  rw [intKeys_dm] at hS
  refine ⟨v, rfl, ?_, ((Below.refl _ w).alloc (Nat.le_refl _) _).trans (hb.mono (by simp))⟩
  have hlen : ss.length = (L.map Ru.id).length := hS.length_eq
  unfold OwnI
  rw [← hlen, ← perm_rise hL hS]
  exact World.ownsRow.mono hrow (by simp)

end Go.Proofs.Ytihhjcjmchlafaa
