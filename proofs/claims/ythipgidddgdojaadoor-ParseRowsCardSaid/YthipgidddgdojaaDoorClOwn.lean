/- Make and Not once more: the very list that comes of it, in a row of the call's own. -/
import Derived.Test.YthipgidddgdojaaDoorClMake
import Derived.Test.YthipgidddgdojaaDoorClNot
import Derived.Test.YthipgidddgdojaaDoorPm
namespace Go.Proofs.YthipgidddgdojaaDoor.Cl
open Go.RowKit

theorem mkSet_of {l l' : List Rg} (hp : l'.Perm l) (hs : l'.Pairwise fun a b => a.1 ≤ b.1) (hr : ∀ r ∈ l, Rt r) : together l' = mkSet l := by
  have h1 := together_ok l' (fun r h => hr r (hp.mem_iff.1 h)) hs
  have hq : (l.mergeSort fun a b => decide (a.1 ≤ b.1)).Perm l := List.mergeSort_perm _ _
  have hs2 : (l.mergeSort fun a b => decide (a.1 ≤ b.1)).Pairwise fun a b => a.1 ≤ b.1 := by
    have := List.pairwise_mergeSort (le := fun (a b : Rg) => decide (a.1 ≤ b.1)) (fun a b c h1 h2 => by simp at *; omega) (fun a b => by simp; omega) l
    exact this.imp (fun h => by simpa using h)
  have h2 := together_ok _ (fun r h => hr r (hq.mem_iff.1 h)) hs2
  unfold mkSet
  exact norm_ext h1.1 h2.1 fun u => by rw [h1.2, h2.2, hasB_perm hp, hasB_perm hq]
theorem mkSet_norm {l : List Rg} (hr : ∀ r ∈ l, Rt r) : Norm (mkSet l) ∧ (mkSet l).length ≤ l.length := by
  have hq : (l.mergeSort fun a b => decide (a.1 ≤ b.1)).Perm l := List.mergeSort_perm _ _
  have hs2 : (l.mergeSort fun a b => decide (a.1 ≤ b.1)).Pairwise fun a b => a.1 ≤ b.1 := by
    have := List.pairwise_mergeSort (le := fun (a b : Rg) => decide (a.1 ≤ b.1)) (fun a b c h1 h2 => by simp at *; omega) (fun a b => by simp; omega) l
    exact this.imp (fun h => by simpa using h)
  refine ⟨(together_ok _ (fun r h => hr r (hq.mem_iff.1 h)) hs2).1, ?_⟩
  have := together_len (l.mergeSort fun a b => decide (a.1 ≤ b.1))
  rw [hq.length_eq] at this
  exact this
/-- A set of the call's own, and OK. -/
def GivesO (l : List Rg) (w : World) (e : Ending) (w' : World) : Prop :=
  ∃ v', e = .returned (.tuple #[v', .int .i64 0]) ∧ Own w' w.heap.size 39 v' l ∧ Below w.heap.size w w'

set_option maxRecDepth 100000 in
set_option maxHeartbeats 2000000 in
theorem not_own (v : Value) (l : List Rg) (w : World) (hmax : l.length ≤ 1000000) (hS : SetV w.heap.size w v l) (hN : Norm l) :
    Calls Tryd.prog 43 #[v] w (GivesO (gaps 0 l) w) := by
  have HS := Lib.hid hS
  obtain ⟨A, cap, rfl, _, _⟩ := id hS
  have b1 := normB_true hN
  have HN := Lib.hid hN
  clear hN hS
  obtain ⟨i0, hi, hz0, hz1, hz2⟩ := info_three info46
  go_enter Tryd.func43, Tryd.ntmps43
  go_wp2_with fail
  refine (normal_any _ l _ hmax HS.out).mono ?_
  rintro e w1 ⟨rfl, hb1⟩
  go_wp2
  go_loopw [4, 5, 13] (fun s f i wr => ∃ (k : Nat) (acc : List Rg) (f0 : Int), k ≤ l.length ∧ i = .int .i64 k ∧ f = .int .i64 f0 ∧ 0 ≤ f0 ∧ f0 ≤ 1114368 ∧ acc.length ≤ k ∧ Own wr w.heap.size 39 s acc ∧ Hid (gaps 0 l = acc ++ gaps f0 (l.drop k)) ∧ Below w.heap.size w wr) (fun _ _ i _ => l.length - (intOf i).toNat)
  case atStart => exact ⟨0, [], 0, Nat.zero_le _, rfl, rfl, by omega, by omega, Nat.le_refl _, Own.nil _ _ _, Lib.hid rfl, hb1⟩
  case round =>
    obtain ⟨k, acc, f0, hk, rfl, rfl, hf0, hf1, hacc, hown, HH, hbel⟩ := hrel
    have hsz := hbel.size
    by_cases hlt : k < l.length
    · obtain ⟨b, off, lo, hi', rfl, hb, hget, c0, c1⟩ := (HS.out.below hbel).at_ hlt
      have hr := HN.out.1 _ (List.mem_of_getElem? hget)
      unfold Rt at hr
      simp only at hr
      obtain ⟨r0, r1, r2⟩ := hr
      have HG := Lib.hid (gaps_drop l k _ f0 hget)
      clear hget
      have hx := Box2.new wr lo hi'
      by_cases hfl : f0 < lo
      · go_wp2_with (at_builtin; refine wpList_append_one _ rfl _ _ 24 rfl w.heap.size 39 i0 (.agg #[.int .i64 0, .int .i64 0]) 16 Tryd.underlying24 hi hz0 hz1 hz2 rfl _ _ rfl ((hown.alloc _).alloc _) (wr.heap.size + 1) 1 (f0, lo - 1) rfl (cell_two_at _ _ _ _ _ (by simp)) (by omega) rfl (by simp; omega) ?_; intro v' w2 hown' hgrow; have hxk := (hx.alloc _).kept hgrow (Own.far hown (.inr (Nat.le_refl _))); have x1 := hxk.cell1)
        go_roundw
        case rel =>
          exact ⟨k + 1, acc ++ [(f0, lo - 1)], hi' + 1, by omega, by go_num, rfl, by omega, by omega, by simp; omega, hown', Lib.hid (by rw [HH.out, HG.out]; simp only; rw [if_pos hfl, List.append_assoc]),
            below_append ((hbel.alloc hsz _).alloc (by simp; omega) _) ((hown.alloc _).alloc _) (Nat.le_refl _) hgrow (by simp; omega)⟩
        case measure => simp [intOf]; omega
      · go_wp2
        go_roundw
        case rel =>
          exact ⟨k + 1, acc, hi' + 1, by omega, by go_num, rfl, by omega, by omega, by omega, hown.alloc _, Lib.hid (by rw [HH.out, HG.out]; simp only; rw [if_neg (by omega), List.nil_append]), hbel.alloc hsz _⟩
        case measure => simp [intOf]; omega
    · have hk' : k = l.length := by omega
      have HK := Lib.hid hk'
      clear hk'
      by_cases hfl : f0 ≤ 1114367
      · have HE : Hid (gaps 0 l = acc ++ [(f0, 1114367)]) := Lib.hid (by rw [HH.out, HK.out, List.drop_length, gaps, if_pos hfl])
        go_wp2_with (at_builtin; refine wpList_append_one _ rfl _ _ 24 rfl w.heap.size 39 i0 (.agg #[.int .i64 0, .int .i64 0]) 16 Tryd.underlying24 hi hz0 hz1 hz2 rfl _ _ rfl (hown.alloc _) wr.heap.size 1 (f0, 1114367) rfl (cell_two_at _ _ _ _ _ rfl) (by omega) rfl (by simp; omega) ?_; intro v' w2 hown' hgrow)
        go_ret2
        exact ⟨_, rfl, by rw [HE.out]; exact hown', below_append (hbel.alloc hsz _) (hown.alloc _) (Nat.le_refl _) hgrow (by simp; omega)⟩
      · have HE : Hid (gaps 0 l = acc) := Lib.hid (by rw [HH.out, HK.out, List.drop_length, gaps, if_neg hfl, List.append_nil])
        go_wp2
        go_ret2
        exact ⟨_, rfl, by rw [HE.out]; exact hown, hbel⟩

set_option maxRecDepth 100000 in
set_option maxHeartbeats 1000000 in
/-- All are right: their numbers as a normal set. -/
theorem make_own (v : Value) (l : List Rg) (w : World) (hmax : l.length ≤ 1000000) (hR : ∀ r ∈ l, Rt r) (hS : SetV w.heap.size w v l) :
    Calls Tryd.prog 42 #[v] w (GivesO (mkSet l) w) := by
  obtain ⟨A, cap, rfl, hcap, hS0⟩ := id hS
  clear hS0
  have HR := Lib.hid hR
  clear hR
  go_enter Tryd.func42, Tryd.ntmps42
  go_wp2
  go_loopw [9] (fun i wr => ∃ k : Nat, k ≤ l.length ∧ i = .int .i64 k ∧ Below w.heap.size w wr) (fun i _ => l.length - (intOf i).toNat)
  case atStart => exact ⟨0, Nat.zero_le _, rfl, Below.refl _ _⟩
  case round =>
    obtain ⟨k, hk, rfl, hbel⟩ := hrel
    have hsz := hbel.size
    by_cases hlt : k < l.length
    · obtain ⟨b, off, lo, hi, rfl, hb, hget, c0, c1⟩ := (hS.below hbel).at_ hlt
      have hin : rightB (lo, hi) = true := (rightB_iff _).2 (HR.out _ (List.mem_of_getElem? hget))
      clear hget
      go_wp2_with (go_at_call 51; refine (right_any _ _ _).mono ?_; rintro e w1 ⟨rfl, hb1⟩)
      go_roundw
      case rel => exact ⟨k + 1, by omega, by go_num, below_call hbel hsz hb1⟩
      case measure => simp [intOf]; omega
    · have hSr := (hS.below hbel).more hsz
      have HS := Lib.hid hSr
      clear hSr
      go_wp2_with fail
      refine (clone_any _ l _ hmax HS.out).mono ?_
      rintro e w1 ⟨v1, rfl, hown1, hb1⟩
      have hsz1 := hb1.size
      go_wp2_with fail
      refine (sort_own _ l wr.heap.size _ hsz1 hmax hown1).mono ?_
      rintro e w2 ⟨rfl, l', hp, hs, hS2, hb2⟩
      have hsz2 := hb2.size
      have hl' : l'.length ≤ 1000000 := by rw [hp.length_eq]; exact hmax
      have HP := Lib.hid hp
      have HSo := Lib.hid hs
      clear hp hs
      go_wp2_with fail
      refine (together_any _ l' _ hl' (fun r hr => HR.out r (HP.out.mem_iff.1 hr)) hS2).mono ?_
      rintro e w3 ⟨v3, rfl, hown3, hb3⟩
      go_wp2
      go_ret2
      have e := mkSet_of HP.out HSo.out HR.out
      rw [e] at hown3
      exact ⟨_, rfl, World.ownsRow.mono hown3 (by have := hbel.size; omega), ((hbel.trans (hb1.mono hsz)).trans (hb2.mono hsz)).trans (hb3.mono (by omega))⟩

end Go.Proofs.YthipgidddgdojaaDoor.Cl
