/- class.together: ranges that rise, put together, in a row of the call's own. -/
import Derived.Test.YthipgidddgdojaaDoorClSmall
import Derived.Test.YthipgidddgdojaaDoorClBox
import Derived.Deep.LoopGhost
import Derived.WalkMore
import Derived.Deep.DeepCutAuto
namespace Go.Proofs.YthipgidddgdojaaDoor.Cl
open Go.RowKit

theorem drop_cons (l : List Rg) (k : Nat) (r : Rg) (h : l[k]? = some r) : l.drop k = r :: l.drop (k + 1) := by
  obtain ⟨hk, rfl⟩ := List.getElem?_eq_some_iff.1 h
  exact List.drop_eq_getElem_cons hk
theorem tog_drop (l : List Rg) (k : Nat) (r : Rg) (h : l[k]? = some r) : together (l.drop k) = merge r (l.drop (k + 1)) := by
  rw [drop_cons l k r h]
  rfl
theorem merge_apart (l : List Rg) (j : Nat) (r n : Rg) (h : l[j]? = some n) (hlt : r.2 + 1 < n.1) : merge r (l.drop j) = r :: together (l.drop j) := by
  rw [drop_cons l j n h, merge, if_pos hlt]
  rfl
theorem merge_on (l : List Rg) (j : Nat) (r n : Rg) (h : l[j]? = some n) (hlt : ¬ r.2 + 1 < n.1) : merge r (l.drop j) = merge (r.1, max r.2 n.2) (l.drop (j + 1)) := by
  rw [drop_cons l j n h, merge, if_neg hlt]
theorem merge_end (l : List Rg) (r : Rg) : merge r (l.drop l.length) = r :: together (l.drop l.length) := by
  rw [List.drop_length]
  rfl

set_option maxRecDepth 100000 in
set_option maxHeartbeats 2000000 in
theorem together_any (v : Value) (l : List Rg) (w : World) (hmax : l.length ≤ 1000000) (hR : ∀ r ∈ l, Rt r) (hS : SetV w.heap.size w v l) :
    Calls Tryd.prog 56 #[v] w fun e w' => ∃ v', e = .returned v' ∧ Own w' w.heap.size 39 v' (together l) ∧ Below w.heap.size w w' := by
  obtain ⟨A, cap, rfl, hcap, hS0⟩ := id hS
  clear hS0
  have HR := Lib.hid hR
  clear hR
  obtain ⟨i0, hi, hz0, hz1, hz2⟩ := info_three info46
  go_enter Tryd.func56, Tryd.ntmps56
  go_wp2
  go_step3
  go_wp2
  go_step3
  go_wp2
  go_loopg [3, 4] l.length (fun g s i wr => ∃ (k : Nat) (acc : List Rg), k + g = l.length ∧ i = .int .i64 k ∧ acc.length ≤ k ∧ Own wr w.heap.size 39 s acc ∧ Hid (together l = acc ++ together (l.drop k)) ∧ Below w.heap.size w wr)
  case atStart => exact ⟨0, [], by omega, rfl, Nat.le_refl _, Own.nil _ _ _, Lib.hid rfl, Below.refl _ _⟩
  case round =>
    obtain ⟨k, acc, hk, rfl, hacc, hown, HH, hbel⟩ := hrel
    have hsz := hbel.size
    by_cases hlt : k < l.length
    · obtain ⟨b, off, lo, hi0, rfl, hb, hget, c0, c1⟩ := (hS.below hbel).at_ hlt
      have hr := HR.out _ (List.mem_of_getElem? hget)
      unfold Rt at hr
      simp only at hr
      obtain ⟨r0, r1, r2⟩ := hr
      have HG := Lib.hid hget
      clear hget
      have hkl : l.length ≤ 1000000 := hmax
      have hk2 : (k : Int) + 1 ≤ 2000000 := by omega
      have hk3 : l.length ≤ k + gk := by omega
      have hk4 : k + gk ≤ l.length := by omega
      clear hk
      have hne : u3.ownBlock ≠ some wr.heap.size := fun e => by have := (World.ownsRow.lt hown _ e).2; omega
      have HN := Lib.hid hne
      clear hne
      go_wp2
      go_loopg [3, 4] (l.length - (k + 1)) (fun g2 s i W => ∃ (j : Nat) (h : Int), j + g2 = l.length ∧ k + 1 ≤ j ∧ i = .int .i64 j ∧ s = u3 ∧ 0 ≤ lo ∧ lo ≤ h ∧ h ≤ 1114367 ∧ Box2 W wr.heap.size lo h ∧
        Own W w.heap.size 39 u3 acc ∧ Hid (together (l.drop k) = merge (lo, h) (l.drop j)) ∧ Below w.heap.size w W ∧ wr.heap.size < W.heap.size)
      case atStart => exact ⟨k + 1, hi0, by omega, by omega, by go_num, rfl, r0, r1, r2, Box2.new _ _ _, hown.alloc _, Lib.hid (tog_drop l k _ HG.out), hbel.alloc hsz _, by simp⟩
      case round =>
        obtain ⟨j, h, hj, hjk, rfl, rfl, q0, q1, q2, hx, hownW, HM, hbelW, hszW⟩ := hrel
        have hj3 : l.length ≤ j + gk := by omega
        have x0 := hx.cell0
        have x1 := hx.cell1
        have x2 := hx.frozen 1
        have hj4 : j ≤ l.length := by omega
        clear hj
        have hszw : w.heap.size ≤ wr.heap.size := by omega
        by_cases hlj : j < l.length
        · obtain ⟨b', off', nlo, nhi, hA', hb', hget', d0, d1⟩ := (hS.below hbelW).at_ hlj
          obtain ⟨rfl, rfl⟩ : b = b' ∧ off = off' := by simpa using hA'
          have hnr := HR.out _ (List.mem_of_getElem? hget')
          unfold Rt at hnr
          simp only at hnr
          obtain ⟨n0, n1, n2⟩ := hnr
          have HG' := Lib.hid hget'
          clear hget' hA'
          have hj2 : (j : Int) + 1 ≤ 2000000 := by omega
          by_cases hgap : h + 1 < nlo
          · go_wp2_with (at_builtin; refine wpList_append_one _ rfl _ _ 24 rfl w.heap.size 39 i0 (.agg #[.int .i64 0, .int .i64 0]) 16 Tryd.underlying24 hi hz0 hz1 hz2 rfl _ _ rfl ((hownW.alloc _).alloc _) (wr.heap.size + 1) 1 (lo, h) rfl (cell_two_at _ _ _ _ _ (by simp)) (by omega) rfl (by simp; omega) ?_; intro v' w1 hown' hgrow)
            go_roundg (l.length - j)
            case measure => omega
            case rel =>
              exact ⟨j, acc ++ [(lo, h)], by omega, by go_num, by simp; omega, hown', Lib.hid (by rw [HH.out, HM.out, merge_apart l j (lo, h) (nlo, nhi) HG'.out hgap]; simp),
                below_append ((hbelW.alloc hszw _).alloc (by simp; omega) _) ((hownW.alloc _).alloc _) (Nat.le_refl _) hgrow (by simp; omega)⟩
          · go_upto_region 11 with (fail)
            replace hx := hx.alloc (.cells #[.int .i64 nlo, .int .i64 nhi] 39)
            have hy := Box2.new wr nlo nhi
            replace hbelW := hbelW.alloc hszw (.cells #[.int .i64 nlo, .int .i64 nhi] 39)
            replace hownW := hownW.alloc (.cells #[.int .i64 nlo, .int .i64 nhi] 39)
            have hsz2 : wr.heap.size < (wr.alloc (.cells #[.int .i64 nlo, .int .i64 nhi] 39)).heap.size := by simp
            generalize wr.alloc (Obj.cells #[Value.int IntKind.i64 nlo, Value.int IntKind.i64 nhi] 39) = W2 at hx hy hbelW hownW hsz2 ⊢
            have y1 := hy.cell1
            have x1 := hx.cell1
            have x2 := hx.frozen 1
            clear x0 c0 c1 d0 d1
            by_cases hle : h < nhi
            · skip
              go_wp2
              go_roundg (l.length - (j + 1))
              case measure => omega
              case rel =>
                exact ⟨j + 1, nhi, by omega, by omega, by go_num, rfl, q0, by omega, by omega, hx.store nhi, hownW.setCell HN.out _, Lib.hid (by rw [HM.out, merge_on l j (lo, h) (nlo, nhi) HG'.out (by simp only; omega)]; simp only; rw [Int.max_eq_right (by omega)]), hbelW.setCell hsz _, by simp; omega⟩
            · skip
              go_wp2
              go_roundg (l.length - (j + 1))
              case measure => omega
              case rel =>
                exact ⟨j + 1, h, by omega, by omega, by go_num, rfl, q0, by omega, by omega, hx.store h, hownW.setCell HN.out _, Lib.hid (by rw [HM.out, merge_on l j (lo, h) (nlo, nhi) HG'.out (by simp only; omega)]; simp only; rw [Int.max_eq_left (by omega)]), hbelW.setCell hsz _, by simp; omega⟩
        · have hje : j = l.length := by omega
          have HJ := Lib.hid hje
          clear hje
          go_wp2_with (at_builtin; refine wpList_append_one _ rfl _ _ 24 rfl w.heap.size 39 i0 (.agg #[.int .i64 0, .int .i64 0]) 16 Tryd.underlying24 hi hz0 hz1 hz2 rfl _ _ rfl (hownW.alloc _) wr.heap.size 1 (lo, h) rfl (cell_two_at _ _ _ _ _ (by simp)) (by omega) rfl (by simp; omega) ?_; intro v' w1 hown' hgrow)
          go_roundg (l.length - j)
          case measure => omega
          case rel =>
            exact ⟨j, acc ++ [(lo, h)], by omega, by go_num, by simp; omega, hown', Lib.hid (by rw [HH.out, HM.out, HJ.out, merge_end]; simp),
              below_append (hbelW.alloc hszw _) (hownW.alloc _) (Nat.le_refl _) hgrow (by simp; omega)⟩
    · have hk' : k = l.length := by omega
      have HK := Lib.hid hk'
      clear hk'
      go_wp2
      try rw [Exit.noGoto_ret]
      go_ret
      exact ⟨_, rfl, by have := HH.out; rw [HK.out, List.drop_length, together, List.append_nil] at this; rw [this]; exact hown, hbel⟩

end Go.Proofs.YthipgidddgdojaaDoor.Cl
