/- Joined: ClClone, ClNorm, ClShelf, ClSorts, ClMake, ClNot, ClOwn. -/
import Derived.Test.YtefgobmpleoafaaGreatDoorJClass
import Derived.Lib.SliceRun
import Derived.BigQuiet
import Derived.Deep.QuietTactic
import Derived.IntWalk
import Derived.Shelf.SlGeneric
import Derived.Shelf.SlSortCmp.WholeK
import Derived.Shelf.SlicesG.Cmp
import Derived.Ground.SlsfProg
import Derived.Ground.SlgcProg
import Derived.Test.YtefgobmpleoafaaGreatDoorProg
import Derived.Shelf.SlSortCmp.NoneTotal
import Derived.Test.YtefgobmpleoafaaGreatDoorJModel
/- slices.Clone of a set, at both instances: the same ranges in a row of the call's own. -/
namespace Go.Proofs.YtefgobmpleoafaaGreatDoor.Cl
open Go.RowKit

theorem own_empty (w : World) (base : Nat) (e : TypeId) (h : base ≤ w.heap.size) : Own (w.alloc (.cells #[] e)) base e (.slice (some ⟨w.heap.size, 0, none⟩) 0 0) [] :=
  World.ownsRow_made w #[] 0 h (by unfold maxLen; omega) (by simp)

set_option maxHeartbeats 1000000 in
theorem clone_any (v : Value) (l : List Rg) (w : World) (hmax : l.length ≤ 1000000) (hS : SetV w.heap.size w v l) :
    Calls Tryz.prog 170 #[v] w fun e w' => ∃ v', e = .returned v' ∧ Own w' w.heap.size 223 v' l ∧ Below w.heap.size w w' := by
  obtain ⟨A, cap, rfl, hcap, hS0⟩ := id hS
  obtain ⟨i0, hi, hz0, hz1, hz2⟩ := info_three info46
  have q : ∀ (w : World) (a : Option Addr) (n c n' c' : Nat), (binOp .eql 113 (.slice a n c) (.slice none n' c')).run Tryz.prog w = .ok (.bool a.isNone) w := fun w a n c n' c' => Lib.run_eql_slice_nil w _ _ a n c n' c' Tryz.underlying113
  cases A with
  | none =>
    obtain rfl : l = [] := by
      refine Decidable.byContradiction fun hne => ?_
      obtain ⟨b, off, h, _⟩ := hS0 hne
      cases h
    clear hS0 hS
    go_enter Tryz.func170, Tryz.ntmps170
    go_wp2
    go_ret
    exact ⟨_, rfl, Own.nil _ _ _, Below.refl _ _⟩
  | some a =>
    clear hS0
    have hB := (Below.refl w.heap.size w).alloc (Nat.le_refl _) (.cells #[] 223)
    have hO := own_empty w w.heap.size 223 (Nat.le_refl _)
    have hS1 := hS.below hB
    go_enter Tryz.func170, Tryz.ntmps170
    go_wp2_with (at_builtin; refine wpList_append_set _ rfl _ _ 113 rfl w.heap.size 223 i0 (.agg #[.int .i64 0, .int .i64 0]) 16 Tryz.underlying113 hi hz0 hz1 hz2 rfl _ _ rfl hO w.heap.size _ l rfl hS1 (by unfold maxLen; simp; omega) (by simp; omega) (by simp) ?_; intro v' w1 hown' hgrow)
    go_ret
    exact ⟨_, rfl, hown', below_append hB hO (Nat.le_refl _) hgrow (by simp)⟩

end Go.Proofs.YtefgobmpleoafaaGreatDoor.Cl

/- Set.Normal and the reference's Normal, of any ranges. -/
namespace Go.Proofs.YtefgobmpleoafaaGreatDoor.Cl
open Go.RowKit

theorem ok_zero {l : List Rg} {r : Rg} (h : l[0]? = some r) (hr : rightB r = true) : okAt l 0 := by
  intro x hx
  rw [h] at hx
  cases hx
  exact ⟨(rightB_iff _).1 hr, fun s h0 => absurd h0 (by omega)⟩
theorem ok_succ {l : List Rg} {k : Nat} {r s : Rg} (h : l[k]? = some r) (hs : l[k - 1]? = some s) (hr : rightB r = true) (hd : s.2 + 2 ≤ r.1) : okAt l k := by
  intro x hx
  rw [h] at hx
  cases hx
  refine ⟨(rightB_iff _).1 hr, fun y _ hy => ?_⟩
  rw [hs] at hy
  cases hy
  exact hd
theorem ok_all {l : List Rg} (h : ∀ j, j < l.length → okAt l j) : Norm l := norm_of_ok l fun k => by
  by_cases hk : k < l.length
  · exact h k hk
  · intro r hr
    rw [List.getElem?_eq_none (by omega)] at hr
    cases hr
theorem ok_more {l : List Rg} {k : Nat} (h : ∀ j, j < k → okAt l j) (hk : okAt l k) : ∀ j, j < k + 1 → okAt l j := fun j hj => by
  rcases Nat.lt_succ_iff_lt_or_eq.1 hj with h1 | rfl
  · exact h j h1
  · exact hk
theorem not_ok_right {l : List Rg} {k : Nat} {r : Rg} (h : l[k]? = some r) (hr : rightB r = false) : ¬ Norm l := fun hn => by
  have := (ok_of_norm hn k r h).1
  rw [← rightB_iff, hr] at this
  cases this
theorem not_ok_gap {l : List Rg} {k : Nat} {r s : Rg} (hk : 0 < k) (h : l[k]? = some r) (hs : l[k - 1]? = some s) (hd : ¬ s.2 + 2 ≤ r.1) : ¬ Norm l := fun hn =>
  hd ((ok_of_norm hn k r h).2 s hk hs)

set_option maxHeartbeats 1000000 in
theorem normal_any (v : Value) (l : List Rg) (w : World) (hmax : l.length ≤ 1000000) (hS : SetV w.heap.size w v l) :
    Calls Tryz.prog 174 #[v] w fun e w' => e = .returned (.bool (normB l)) ∧ Below w.heap.size w w' := by
  obtain ⟨A, cap, rfl, hcap, hS0⟩ := id hS
  clear hS0
  go_enter Tryz.func174, Tryz.ntmps174
  go_wp2
  go_loopw [7] (fun i wr => ∃ k : Nat, k ≤ l.length ∧ i = .int .i64 k ∧ Hid (∀ j, j < k → okAt l j) ∧ Below w.heap.size w wr) (fun i _ => l.length - (intOf i).toNat)
  case atStart => exact ⟨0, Nat.zero_le _, rfl, Lib.hid (fun j hj => absurd hj (by omega)), Below.refl _ _⟩
  case round =>
    obtain ⟨k, hk, rfl, HH, hbel⟩ := hrel
    have hsz := hbel.size
    by_cases hlt : k < l.length
    · have hSr := hS.below hbel
      obtain ⟨b, off, lo, hi, rfl, hb, hget, c0, c1⟩ := hSr.at_ hlt
      have HG := Lib.hid hget
      clear hget
      cases hin : rightB (lo, hi)
      · have HI := Lib.hid hin
        go_wp2_with (go_at_call 169; refine (right_any _ _ _).mono ?_; rintro e w1 ⟨rfl, hb1⟩)
        go_ret
        exact ⟨ret_bool (normB_false (not_ok_right HG.out HI.out)).symm, below_call hbel hsz hb1⟩
      · have HI := Lib.hid hin
        have hR := (rightB_iff _).1 hin
        unfold Rt at hR
        simp only at hR
        obtain ⟨r0, r1, r2⟩ := hR
        by_cases hk0 : 0 < k
        · obtain ⟨b', off', lo', hi', hA', hb', hget', d0, d1⟩ := hSr.at_ (show k - 1 < l.length by omega)
          obtain ⟨rfl, rfl⟩ : b = b' ∧ off = off' := by simpa using hA'
          have hp := (HH.out (k - 1) (by omega) _ hget').1
          unfold Rt at hp
          simp only at hp
          obtain ⟨p0, p1, p2⟩ := hp
          have HG' := Lib.hid hget'
          clear hget' hA'
          have h3 : (0 : Int) < k := by omega
          have s1 : IntKind.i64.wrap ((k : Int) - 1) = (k : Int) - 1 := IntWalk.i64_in _ (by omega)
          have s2 : (0 : Int) ≤ (k : Int) - 1 := by omega
          have s3 : ((k : Int) - 1).toNat = k - 1 := by omega
          have s4 : IntKind.i64.wrap (lo - hi') = lo - hi' := IntWalk.i64_in _ (by omega)
          by_cases hd : lo - hi' < 2
          all_goals
            go_wp2_with (go_at_call 169; refine (right_any _ _ _).mono ?_; rintro e w1 ⟨rfl, hb1⟩)
            have x0 : w1.cell? ⟨wr.heap.size, 0, none⟩ = some (.int .i64 lo) := (hb1.cell (p := ⟨wr.heap.size, 0, none⟩) (by simp)).trans (by simp)
            have x1 : w1.cell? ⟨b, off + (k - 1) * 2 + 1, none⟩ = some (.int .i64 hi') := (hb1.cell (p := ⟨b, off + (k - 1) * 2 + 1, none⟩) (by simp; omega)).trans ((World.cell?_alloc_lt _ _ _ (by simp; omega)).trans d1)
            have hB := below_call hbel hsz hb1
            clear hb1 d0 d1 c0 c1
            go_quiet (fail)
            go_wp2
          · go_ret
            exact ⟨ret_bool (normB_false (not_ok_gap hk0 HG.out HG'.out (by simp only; omega))).symm, below_drewN hB _⟩
          · go_roundw
            case rel => exact ⟨k + 1, by omega, by go_num, Lib.hid (ok_more HH.out (ok_succ HG.out HG'.out HI.out (by simp only; omega))), below_drewN hB _⟩
            case measure => simp [intOf]; omega
        · have hd : decide ((0 : Int) < (k : Int)) = false := by simp; omega
          have HK : Hid (k = 0) := Lib.hid (by omega)
          go_wp2_with (go_at_call 169; refine (right_any _ _ _).mono ?_; rintro e w1 ⟨rfl, hb1⟩)
          have hB := below_call hbel hsz hb1
          go_quiet (fail)
          go_wp2
          go_roundw
          case rel => exact ⟨k + 1, by omega, by go_num, Lib.hid (ok_more HH.out (by have h0 := HK.out; have hg := HG.out; rw [h0] at hg ⊢; exact ok_zero hg HI.out)), below_drewN hB _⟩
          case measure => simp [intOf]; omega
    · obtain rfl : k = l.length := by omega
      go_wp2
      go_ret
      exact ⟨ret_bool (normB_true (ok_all HH.out)).symm, hbel⟩

end Go.Proofs.YtefgobmpleoafaaGreatDoor.Cl

/-
  DERIVED: THE SHELF's CONTRACTS AT THIS DUMP, IN PLAIN WORDS (tools/lay-plain.mjs out of 'YtefgobmpleoafaaGreatDoorClShelf.lean', which tools/lay-shelf.mjs wrote): THE SAME DECLARATIONS UNDER THE SAME NAMES: 'import', 'namespace', 'open', 'def', 'theorem' AND NOTHING ELSE: no command of the shelf's: FOR A HAND-IN. Each laying: the table of numbers ('.._ren') and one theorem, a field a fact of the dump's own or the kernel's comparison; each contract: ONE APPLICATION.
-/
namespace Go.Proofs
open Go.Shelf
def Tryz.sortRg_ren : Go.Shelf.Ren := ⟨fun | 6 => 171 | 15 => 91 | 14 => 182 | 28 => 111 | 29 => 112 | 20 => 185 | 21 => 186 | 22 => 187 | 23 => 188 | 24 => 189 | 25 => 190 | 26 => 191 | 27 => 192 | 46 => 193 | 47 => 124 | 48 => 125 | 49 => 194 | 50 => 195 | 57 => 196 | n => n, fun | 22 => 113 | 24 => 223 | 25 => 228 | 3 => 3 | 39 => 174 | 0 => 0 | 53 => 190 | 55 => 192 | 4 => 4 | 46 => 183 | 45 => 182 | 50 => 187 | 5 => 5 | 9 => 9 | 66 => 199 | 70 => 203 | 76 => 210 | 77 => 64 | n => n, fun | n => n⟩
theorem Tryz.sortRg : Go.Proofs.SlLaysF0.n6 Tryz.prog Tryz.sortRg_ren := {
  mixed := by kernel_rfl
  f6 := ⟨Tryz.f171.name, by decide, Tryz.func171.trans (congrArg some (by kernel_rfl))⟩
  f14 := ⟨Tryz.f182.name, by decide, Tryz.func182.trans (congrArg some (by kernel_rfl))⟩
  f15 := Tryz.func91.trans (congrArg some (by kernel_rfl))
  f20 := ⟨Tryz.f185.name, by decide, Tryz.func185.trans (congrArg some (by kernel_rfl))⟩
  f21 := ⟨Tryz.f186.name, by decide, Tryz.func186.trans (congrArg some (by kernel_rfl))⟩
  f22 := ⟨Tryz.f187.name, by decide, Tryz.func187.trans (congrArg some (by kernel_rfl))⟩
  f23 := ⟨Tryz.f188.name, by decide, Tryz.func188.trans (congrArg some (by kernel_rfl))⟩
  f24 := ⟨Tryz.f189.name, by decide, Tryz.func189.trans (congrArg some (by kernel_rfl))⟩
  f25 := ⟨Tryz.f190.name, by decide, Tryz.func190.trans (congrArg some (by kernel_rfl))⟩
  f26 := ⟨Tryz.f191.name, by decide, Tryz.func191.trans (congrArg some (by kernel_rfl))⟩
  f27 := ⟨Tryz.f192.name, by decide, Tryz.func192.trans (congrArg some (by kernel_rfl))⟩
  f28 := Tryz.func111.trans (congrArg some (by kernel_rfl))
  f29 := Tryz.func112.trans (congrArg some (by kernel_rfl))
  f46 := ⟨Tryz.f193.name, by decide, Tryz.func193.trans (congrArg some (by kernel_rfl))⟩
  f47 := Tryz.func124.trans (congrArg some (by kernel_rfl))
  f48 := Tryz.func125.trans (congrArg some (by kernel_rfl))
  f49 := ⟨Tryz.f194.name, by decide, Tryz.func194.trans (congrArg some (by kernel_rfl))⟩
  f50 := ⟨Tryz.f195.name, by decide, Tryz.func195.trans (congrArg some (by kernel_rfl))⟩
  f57 := ⟨Tryz.f196.name, by decide, Tryz.func196.trans (congrArg some (by kernel_rfl))⟩
  t0 := Tryz.underlying0
  a0 := Tryz.isAgg0
  z0 := Tryz.sizeOf0
  v0 := Tryz.zeroValue0
  t3 := Tryz.underlying3
  a3 := Tryz.isAgg3
  z3 := Tryz.sizeOf3
  v3 := Tryz.zeroValue3
  t4 := Tryz.underlying4
  a4 := Tryz.isAgg4
  z4 := Tryz.sizeOf4
  v4 := Tryz.zeroValue4
  t5 := Tryz.underlying5
  a5 := Tryz.isAgg5
  z5 := Tryz.sizeOf5
  v5 := Tryz.zeroValue5
  t9 := Tryz.underlying9
  a9 := Tryz.isAgg9
  z9 := Tryz.sizeOf9
  v9 := Tryz.zeroValue9
  t22 := Tryz.underlying113
  a22 := Tryz.isAgg113
  z22 := Tryz.sizeOf113
  v22 := Tryz.zeroValue113
  t25 := Tryz.underlying228
  a25 := Tryz.isAgg228
  z25 := Tryz.sizeOf228
  v25 := Tryz.zeroValue228
  t39 := Tryz.underlying174
  a39 := Tryz.isAgg174
  z39 := Tryz.sizeOf174
  v39 := Tryz.zeroValue174
  t45 := Tryz.underlying182
  a45 := Tryz.isAgg182
  z45 := Tryz.sizeOf182
  v45 := Tryz.zeroValue182
  t46 := Tryz.underlying183
  a46 := Tryz.isAgg183
  z46 := Tryz.sizeOf183
  v46 := Tryz.zeroValue183
  t50 := Tryz.underlying187
  a50 := Tryz.isAgg187
  z50 := Tryz.sizeOf187
  v50 := Tryz.zeroValue187
  t53 := Tryz.underlying190
  a53 := Tryz.isAgg190
  z53 := Tryz.sizeOf190
  v53 := Tryz.zeroValue190
  t55 := Tryz.underlying192
  a55 := Tryz.isAgg192
  z55 := Tryz.sizeOf192
  v55 := Tryz.zeroValue192
  t66 := Tryz.underlying199
  a66 := Tryz.isAgg199
  z66 := Tryz.sizeOf199
  v66 := Tryz.zeroValue199
  t70 := Tryz.underlying203
  a70 := Tryz.isAgg203
  z70 := Tryz.sizeOf203
  v70 := Tryz.zeroValue203
  t76 := Tryz.underlying210
  a76 := Tryz.isAgg210
  z76 := Tryz.sizeOf210
  v76 := Tryz.zeroValue210
  t77 := Tryz.underlying64
  a77 := Tryz.isAgg64
  z77 := Tryz.sizeOf64
  v77 := Tryz.zeroValue64 }
def Tryz.cmpInt_ren : Go.Shelf.Ren := ⟨fun | 5 => 65 | 7 => 74 | n => n, fun | 22 => 3 | 3 => 3 | 4 => 4 | n => n, fun | n => n⟩
theorem Tryz.cmpInt : Go.Proofs.SlLaysC2.n5 Tryz.prog Tryz.cmpInt_ren := {
  mixed := by kernel_rfl
  f5 := ⟨Tryz.f65.name, by decide, Tryz.func65.trans (congrArg some (by kernel_rfl))⟩
  f7 := ⟨Tryz.f74.name, by decide, Tryz.func74.trans (congrArg some (by kernel_rfl))⟩
  t3 := Tryz.underlying3
  a3 := Tryz.isAgg3
  z3 := Tryz.sizeOf3
  v3 := Tryz.zeroValue3
  t4 := Tryz.underlying4
  a4 := Tryz.isAgg4
  z4 := Tryz.sizeOf4
  v4 := Tryz.zeroValue4
  t22 := Tryz.underlying3
  a22 := Tryz.isAgg3
  z22 := Tryz.sizeOf3
  v22 := Tryz.zeroValue3 }
end Go.Proofs

/- slices.SortFunc by Lo over a row of the call's own, and slices.Clone, at this program. -/
namespace Go.Proofs.YtefgobmpleoafaaGreatDoor.Cl
open Go.RowKit Go.Shelf Go.Lib

def encRg (r : Rg) : List Value := [.int .i64 r.1, .int .i64 r.2]
def cfLo (x y : Rg) : Int := Lib.compareInt x.1 y.1

theorem ltLo (x y : Rg) : ltOf cfLo x y = decide (x.1 < y.1) := by
  unfold ltOf cfLo Lib.compareInt
  by_cases h1 : x.1 < y.1
  · simp [h1]
  · by_cases h2 : y.1 < x.1 <;> simp [h1, h2]
theorem swoLo : Sort.SWO (ltOf cfLo) where
  irrefl x := by rw [ltLo]; simp
  trans x y z h1 h2 := by rw [ltLo] at *; simp at *; omega
  ntrans x y z h1 h2 := by rw [ltLo] at *; simp at *; omega

set_option maxHeartbeats 1000000 in
/-- The comparison's literal: in whatever world: two blocks are laid. -/
theorem cmp_any (x y : Rg) (W : World) : Calls Tryz.prog 172 #[.agg #[.int .i64 x.1, .int .i64 x.2], .agg #[.int .i64 y.1, .int .i64 y.2]] W fun e w' => e = .returned (.int .i64 (cfLo x y)) ∧ ∃ q os', w' = Sort.grow (W.drewN q) os' := by
  have hcon := fun W' => AnyG.cmp_Compare_int Tryz.cmpInt x.1 y.1 W'
  change ∀ W', Calls Tryz.prog 65 _ _ _ at hcon
  unfold cfLo
  generalize Lib.compareInt x.1 y.1 = r at hcon ⊢
  go_enter Tryz.func172, Tryz.ntmps172
  go_wp2_with (go_at_call 65; refine (hcon _).mono ?_; rintro e w' ⟨rfl, rfl⟩)
  go_ret
  exact ⟨rfl, 0, _, by rw [Sort.alloc_eq_grow, Sort.alloc_eq_grow, Sort.grow_grow]; rfl⟩
theorem cmp_lays (blk off size : Nat) (w : World) : CmpLays Tryz.prog 172 #[] encRg 2 cfLo blk off size w :=
  fun _ _ _ _ x y => cmp_any x y _

theorem flat_get (d : Array Rg) (j : Nat) (h : j < d.size * 2) : (Sort.flatK encRg 2 d)[j]! = if j % 2 = 0 then .int .i64 d[j / 2]!.1 else .int .i64 d[j / 2]!.2 := by
  rw [Sort.get_flatK _ _ _ _ h]
  have h2 : j % 2 = 0 ∨ j % 2 = 1 := by omega
  rcases h2 with h2 | h2 <;> simp [h2, encRg]
theorem get_of_toList (d : Array Rg) (i : Nat) (r : Rg) (h : d.toList[i]? = some r) : i < d.size ∧ d[i]! = r := by
  obtain ⟨hi, rfl⟩ := List.getElem?_eq_some_iff.1 h
  have hi' : i < d.size := by simpa using hi
  exact ⟨hi', by rw [getElem!_pos d i hi']; simp⟩

theorem below_sortWorld (w : World) (base g n : Nat) (d : Array Rg) (os : Array Obj) (hg : base ≤ g) (hb : base ≤ w.heap.size) : Below base w (sortWorldK encRg 2 w g 0 n d os) := by
  refine ⟨rfl, rfl, rfl, size_sortWorldK_c encRg 2 w g 0 n d os, fun k hk => ?_⟩
  unfold sortWorldK
  rw [Sort.heap_grow_old _ _ (by rw [Sort.size_putRowK]; show k < w.heap.size; omega)]
  unfold Sort.putRowK Sort.putRow Sort.mapBlock
  simp only [Sort.heap_ahead]
  rw [Array.getElem?_modify, if_neg (by omega)]

theorem sort_own (v : Value) (l : List Rg) (base : Nat) (w : World) (hb : base ≤ w.heap.size) (hmax : l.length ≤ 1000000) (h : Own w base 223 v l) :
    Calls Tryz.prog 171 #[v, .func (.func 172) #[] #[]] w fun e w' => e = .returned (.tuple #[]) ∧ ∃ l', l'.Perm l ∧ l'.Pairwise (fun a b => a.1 ≤ b.1) ∧ SetV w'.heap.size w' v l' ∧ Below base w w' := by
  by_cases hl : l = []
  · subst hl
    obtain ⟨p, cap, rfl⟩ : ∃ p cap, v = .slice p 0 cap := by
      obtain ⟨A, cap, hv, _⟩ := h.set
      exact ⟨A, cap, hv⟩
    have hs := h.set
    have hcon := AnyF.slices_SortFunc_none { Tryz.sortRg with } p cap (.func (.func 172) #[] #[]) w
    change Calls Tryz.prog 171 _ _ _ at hcon
    refine hcon.mono ?_
    rintro e w' ⟨rfl, rfl⟩
    exact ⟨rfl, [], List.Perm.refl _, List.Pairwise.nil, hs, Below.refl _ _⟩
  · have hlen : 0 < l.length := List.length_pos_iff.2 hl
    obtain ⟨g, cap, rfl, hg1, hg2⟩ := World.ownsRow.form h hlen
    have hH : Sort.HoldsK encRg 2 w g 0 l.toArray := by
      intro j hj
      rw [Sort.size_flatK] at hj
      have hj' : j < l.length * 2 := by simpa using hj
      refine ⟨?_, World.ownsRow.frozenAt h (0 + j)⟩
      rw [World.ownsRow.cellAt h (0 + j) (by omega), flat_get _ _ hj, Nat.zero_add]
      have hlt : j / 2 < l.length := by omega
      have hg := rgCells_get l (j / 2) l[j / 2] (List.getElem?_eq_getElem hlt)
      have he : l.toArray[j / 2]! = l[j / 2] := by rw [getElem!_pos l.toArray (j / 2) (by simpa using hlt)]; simp
      by_cases h2 : j % 2 = 0
      · rw [if_pos h2, he, show (rgCells l)[j]? = (rgCells l)[j / 2 * 2]? by rw [show j / 2 * 2 = j by omega]]
        exact hg.1
      · rw [if_neg h2, he, show (rgCells l)[j]? = (rgCells l)[j / 2 * 2 + 1]? by rw [show j / 2 * 2 + 1 = j by omega]]
        exact hg.2
    have eg : ∀ args w, (callFunc 172 args).run Tryz.prog w = .ok (.enter 172 args) w := enters_of Tryz.func172 (by kernel_rfl) rfl
    have hcon := AnyQ.slices_SortFunc Tryz.sortRg 2 Tryz.isAgg223 Tryz.sizeOf223 encRg (fun _ => rfl) (fun x v hv => by simp [encRg] at hv; rcases hv with rfl | rfl <;> rfl) cfLo swoLo 172 #[] g 0 cap l.toArray w eg (cmp_lays g 0 l.toArray.size w) hH hg2 (by simp; omega)
    change Calls Tryz.prog 171 #[.slice (some ⟨g, 0, none⟩) l.length cap, _] _ _ at hcon
    refine hcon.mono ?_
    rintro e w' ⟨rfl, d', n, os, hp, hs, rfl⟩
    obtain ⟨hp1, _, hp3⟩ := hp
    have hsz : d'.size = l.length := by simpa using hp1
    have hperm : d'.toList.Perm l := by
      have h3 := hp3
      simp only [Array.toList_extract, List.extract_eq_take_drop, List.drop_zero, Nat.sub_zero] at h3
      rw [List.take_of_length_le (by rw [Array.length_toList, hp1]; exact Nat.le_refl _), List.take_of_length_le (by simp)] at h3
      exact h3
    refine ⟨rfl, d'.toList, hperm, ?_, ?_, below_sortWorld w base g n d' os hg1 hb⟩
    · rw [List.pairwise_iff_getElem]
      intro i j hi hj hij
      have hj' : j < d'.size := by simpa using hj
      have hi' : i < d'.size := by simpa using hi
      have := hs i j (Nat.zero_le _) hij (by rw [← hp1]; exact hj')
      rw [ltLo, getElem!_pos d' i hi', getElem!_pos d' j hj'] at this
      simp only [decide_eq_false_iff_not, Array.getElem_toList] at this ⊢
      omega
    · have hHo := holdsK_sortWorldK_c encRg 2 w g 0 l.toArray d' n os hH hg2 hp1
      have hlt := size_sortWorldK_c encRg 2 w g 0 n d' os
      have hlen' : d'.toList.length = l.length := by simpa using hsz
      have hcapn : l.length ≤ cap := by
        obtain ⟨A, c, hv, hc, _⟩ := h.set
        have : cap = c := by injection hv
        omega
      refine ⟨some ⟨g, 0, none⟩, cap, by rw [hlen'], by rw [hlen']; exact hcapn, fun _ => ⟨g, 0, rfl, by omega, fun i r hr => ?_⟩⟩
      obtain ⟨hi, hr⟩ := get_of_toList d' i r hr
      have c0 := (hHo (i * 2) (by rw [Sort.size_flatK]; omega)).1
      have c1 := (hHo (i * 2 + 1) (by rw [Sort.size_flatK]; omega)).1
      rw [flat_get _ _ (by omega)] at c0 c1
      rw [if_pos (by omega), show i * 2 / 2 = i by omega, hr] at c0
      rw [if_neg (by omega), show (i * 2 + 1) / 2 = i by omega, hr] at c1
      exact ⟨c0, c1⟩

end Go.Proofs.YtefgobmpleoafaaGreatDoor.Cl

/- class.Make, of any ranges. -/
namespace Go.Proofs.YtefgobmpleoafaaGreatDoor.Cl
open Go.RowKit

theorem ret_set {v : Value} {a b : Int} (h : a = b) : Ending.returned (.tuple #[v, .int .i64 a]) = .returned (.tuple #[v, .int .i64 b]) := by rw [h]

set_option maxRecDepth 100000 in
set_option maxHeartbeats 1000000 in
/-- One range isn't right: ErrRange. -/
theorem make_wrong (v : Value) (l : List Rg) (w : World) (hmax : l.length ≤ 1000000) (hW : ¬ ∀ r ∈ l, Rt r) (hS : SetV w.heap.size w v l) :
    Calls Tryz.prog 156 #[v] w fun e w' => e = .returned (.tuple #[.slice none 0 0, .int .i64 13]) ∧ Below w.heap.size w w' := by
  obtain ⟨A, cap, rfl, hcap, hS0⟩ := id hS
  clear hS0
  have HW := Lib.hid hW
  clear hW
  go_enter Tryz.func156, Tryz.ntmps156
  go_wp2
  go_loopw [9] (fun i wr => ∃ k : Nat, k ≤ l.length ∧ i = .int .i64 k ∧ Hid (∀ r ∈ l.take k, Rt r) ∧ Below w.heap.size w wr) (fun i _ => l.length - (intOf i).toNat)
  case atStart => exact ⟨0, Nat.zero_le _, rfl, Lib.hid (by simp), Below.refl _ _⟩
  case round =>
    obtain ⟨k, hk, rfl, HH, hbel⟩ := hrel
    have hsz := hbel.size
    by_cases hlt : k < l.length
    · obtain ⟨b, off, lo, hi, rfl, hb, hget, c0, c1⟩ := (hS.below hbel).at_ hlt
      have HG := Lib.hid hget
      clear hget
      cases hin : rightB (lo, hi)
      · have HI := Lib.hid hin
        go_wp2_with (go_at_call 169; refine (right_any _ _ _).mono ?_; rintro e w1 ⟨rfl, hb1⟩)
        go_ret2
        exact ⟨rfl, below_call hbel hsz hb1⟩
      · have HI := Lib.hid hin
        go_wp2_with (go_at_call 169; refine (right_any _ _ _).mono ?_; rintro e w1 ⟨rfl, hb1⟩)
        go_roundw
        case rel =>
          refine ⟨k + 1, by omega, by go_num, Lib.hid ?_, below_call hbel hsz hb1⟩
          obtain ⟨hk', he⟩ := List.getElem?_eq_some_iff.1 HG.out
          rw [List.take_succ_eq_append_getElem hk', he]
          intro r hr
          rcases List.mem_append.1 hr with hr | hr
          · exact HH.out r hr
          · obtain rfl := List.mem_singleton.1 hr
            exact (rightB_iff _).1 HI.out
        case measure => simp [intOf]; omega
    · exfalso
      obtain rfl : k = l.length := by omega
      have := HH.out
      rw [List.take_length] at this
      exact HW.out this

set_option maxRecDepth 100000 in
set_option maxHeartbeats 1000000 in
/-- All are right: their numbers as a normal set. -/
theorem make_right (v : Value) (l : List Rg) (w : World) (hmax : l.length ≤ 1000000) (hR : ∀ r ∈ l, Rt r) (hS : SetV w.heap.size w v l) :
    Calls Tryz.prog 156 #[v] w fun e w' => ∃ v' m, e = .returned (.tuple #[v', .int .i64 0]) ∧ SetV w'.heap.size w' v' m ∧ Norm m ∧ (∀ u, hasB m u = hasB l u) ∧ m.length ≤ l.length ∧ Below w.heap.size w w' := by
  obtain ⟨A, cap, rfl, hcap, hS0⟩ := id hS
  clear hS0
  have HR := Lib.hid hR
  clear hR
  go_enter Tryz.func156, Tryz.ntmps156
  go_wp2
  go_loopw [9] (fun i wr => ∃ k : Nat, k ≤ l.length ∧ i = .int .i64 k ∧ Below w.heap.size w wr) (fun i _ => l.length - (intOf i).toNat)
  case atStart => exact ⟨0, Nat.zero_le _, rfl, Below.refl _ _⟩
  case round =>
    obtain ⟨k, hk, rfl, hbel⟩ := hrel
    have hsz := hbel.size
    by_cases hlt : k < l.length
    · obtain ⟨b, off, lo, hi, rfl, hb, hget, c0, c1⟩ := (hS.below hbel).at_ hlt
      have hin : rightB (lo, hi) = true := (rightB_iff _).2 (HR.out _ (List.mem_of_getElem? hget))
      clear hget
      go_wp2_with (go_at_call 169; refine (right_any _ _ _).mono ?_; rintro e w1 ⟨rfl, hb1⟩)
      go_roundw
      case rel => exact ⟨k + 1, by omega, by go_num, below_call hbel hsz hb1⟩
      case measure => simp [intOf]; omega
    · have hSr := (hS.below hbel).more hsz
      have HS := Lib.hid hSr
      clear hSr
      go_wp2_with fail
      refine (clone_any _ l _ hmax HS.out).mono ?_
      rintro e w1 ⟨v1, rfl, hown1, hb1⟩
      have hsz1 := hb1.size
      go_wp2_with fail
      refine (sort_own _ l wr.heap.size _ hsz1 hmax hown1).mono ?_
      rintro e w2 ⟨rfl, l', hp, hs, hS2, hb2⟩
      have hsz2 := hb2.size
      have hl' : l'.length ≤ 1000000 := by rw [hp.length_eq]; exact hmax
      have HP := Lib.hid hp
      have HSo := Lib.hid hs
      clear hp hs
      go_wp2_with fail
      refine (together_any _ l' _ hl' (fun r hr => HR.out r (HP.out.mem_iff.1 hr)) hS2).mono ?_
      rintro e w3 ⟨v3, rfl, hown3, hb3⟩
      go_wp2
      go_ret2
      obtain ⟨hn, hh⟩ := together_ok l' (fun r hr => HR.out r (HP.out.mem_iff.1 hr)) HSo.out
      exact ⟨_, together l', rfl, hown3.set, hn, fun u => (hh u).trans (hasB_perm HP.out u), by have := together_len l'; rw [HP.out.length_eq] at this; exact this,
        ((hbel.trans (hb1.mono hsz)).trans (hb2.mono hsz)).trans (hb3.mono (by omega))⟩

end Go.Proofs.YtefgobmpleoafaaGreatDoor.Cl

/- Set.Not, of any set. -/
namespace Go.Proofs.YtefgobmpleoafaaGreatDoor.Cl
open Go.RowKit

def inAll (u : Int) : Bool := decide (0 ≤ u ∧ u ≤ 1114367)
theorem gaps_drop (l : List Rg) (k : Nat) (r : Rg) (f : Int) (h : l[k]? = some r) : gaps f (l.drop k) = (if f < r.1 then [(f, r.1 - 1)] else []) ++ gaps (r.2 + 1) (l.drop (k + 1)) := by
  obtain ⟨hk, rfl⟩ := List.getElem?_eq_some_iff.1 h
  rw [List.drop_eq_getElem_cons hk, gaps]

set_option maxHeartbeats 1000000 in
theorem not_wrong (v : Value) (l : List Rg) (w : World) (hmax : l.length ≤ 1000000) (hS : SetV w.heap.size w v l) (hN : ¬ Norm l) :
    Calls Tryz.prog 157 #[v] w fun e w' => e = .returned (.tuple #[.slice none 0 0, .int .i64 10]) ∧ Below w.heap.size w w' := by
  have HS := Lib.hid hS
  obtain ⟨A, cap, rfl, _, _⟩ := id hS
  have b1 := normB_false hN
  clear hN hS
  go_enter Tryz.func157, Tryz.ntmps157
  go_wp2_with fail
  refine (normal_any _ l _ hmax HS.out).mono ?_
  rintro e w1 ⟨rfl, hb1⟩
  go_wp2
  go_ret2
  exact ⟨rfl, hb1⟩

set_option maxRecDepth 100000 in
set_option maxHeartbeats 2000000 in
theorem not_right (v : Value) (l : List Rg) (w : World) (hmax : l.length ≤ 1000000) (hS : SetV w.heap.size w v l) (hN : Norm l) :
    Calls Tryz.prog 157 #[v] w (Gives (fun m => Norm m ∧ (∀ u, hasB m u = (inAll u && !hasB l u)) ∧ m.length ≤ l.length + 1) w) := by
  have HS := Lib.hid hS
  obtain ⟨A, cap, rfl, _, _⟩ := id hS
  have b1 := normB_true hN
  have HN := Lib.hid hN
  clear hN hS
  obtain ⟨i0, hi, hz0, hz1, hz2⟩ := info_three info46
  go_enter Tryz.func157, Tryz.ntmps157
  go_wp2_with fail
  refine (normal_any _ l _ hmax HS.out).mono ?_
  rintro e w1 ⟨rfl, hb1⟩
  go_wp2
  go_loopw [4, 5, 13] (fun s f i wr => ∃ (k : Nat) (acc : List Rg) (f0 : Int), k ≤ l.length ∧ i = .int .i64 k ∧ f = .int .i64 f0 ∧ 0 ≤ f0 ∧ f0 ≤ 1114368 ∧ acc.length ≤ k ∧ Own wr w.heap.size 223 s acc ∧ Hid (gaps 0 l = acc ++ gaps f0 (l.drop k)) ∧ Below w.heap.size w wr) (fun _ _ i _ => l.length - (intOf i).toNat)
  case atStart => exact ⟨0, [], 0, Nat.zero_le _, rfl, rfl, by omega, by omega, Nat.le_refl _, Own.nil _ _ _, Lib.hid rfl, hb1⟩
  case round =>
    obtain ⟨k, acc, f0, hk, rfl, rfl, hf0, hf1, hacc, hown, HH, hbel⟩ := hrel
    have hsz := hbel.size
    by_cases hlt : k < l.length
    · obtain ⟨b, off, lo, hi', rfl, hb, hget, c0, c1⟩ := (HS.out.below hbel).at_ hlt
      have hr := HN.out.1 _ (List.mem_of_getElem? hget)
      unfold Rt at hr
      simp only at hr
      obtain ⟨r0, r1, r2⟩ := hr
      have HG := Lib.hid (gaps_drop l k _ f0 hget)
      clear hget
      have hx := Box2.new wr lo hi'
      by_cases hfl : f0 < lo
      · go_wp2_with (at_builtin; refine wpList_append_one _ rfl _ _ 114 rfl w.heap.size 223 i0 (.agg #[.int .i64 0, .int .i64 0]) 16 Tryz.underlying114 hi hz0 hz1 hz2 rfl _ _ rfl ((hown.alloc _).alloc _) (wr.heap.size + 1) 1 (f0, lo - 1) rfl (cell_two_at _ _ _ _ _ (by simp)) (by omega) rfl (by simp; omega) ?_; intro v' w2 hown' hgrow; have hxk := (hx.alloc _).kept hgrow (Own.far hown (.inr (Nat.le_refl _))); have x1 := hxk.cell1)
        go_roundw
        case rel =>
          exact ⟨k + 1, acc ++ [(f0, lo - 1)], hi' + 1, by omega, by go_num, rfl, by omega, by omega, by simp; omega, hown', Lib.hid (by rw [HH.out, HG.out]; simp only; rw [if_pos hfl, List.append_assoc]),
            below_append ((hbel.alloc hsz _).alloc (by simp; omega) _) ((hown.alloc _).alloc _) (Nat.le_refl _) hgrow (by simp; omega)⟩
        case measure => simp [intOf]; omega
      · go_wp2
        go_roundw
        case rel =>
          exact ⟨k + 1, acc, hi' + 1, by omega, by go_num, rfl, by omega, by omega, by omega, hown.alloc _, Lib.hid (by rw [HH.out, HG.out]; simp only; rw [if_neg (by omega), List.nil_append]), hbel.alloc hsz _⟩
        case measure => simp [intOf]; omega
    · have hk' : k = l.length := by omega
      have HK := Lib.hid hk'
      clear hk'
      obtain ⟨g1, _, g3⟩ := gaps_ok l 0 (by omega) HN.out (fun r hr => (HN.out.1 r hr).1)
      have hgl := gaps_len l 0
      have GG := Lib.hid (And.intro g1 (And.intro g3 hgl))
      clear g1 g3 hgl
      by_cases hfl : f0 ≤ 1114367
      · have HE : Hid (gaps 0 l = acc ++ [(f0, 1114367)]) := Lib.hid (by rw [HH.out, HK.out, List.drop_length, gaps, if_pos hfl])
        go_wp2_with (at_builtin; refine wpList_append_one _ rfl _ _ 114 rfl w.heap.size 223 i0 (.agg #[.int .i64 0, .int .i64 0]) 16 Tryz.underlying114 hi hz0 hz1 hz2 rfl _ _ rfl (hown.alloc _) wr.heap.size 1 (f0, 1114367) rfl (cell_two_at _ _ _ _ _ rfl) (by omega) rfl (by simp; omega) ?_; intro v' w2 hown' hgrow)
        go_ret2
        exact ⟨_, gaps 0 l, rfl, by rw [HE.out]; exact hown'.set, ⟨GG.out.1, GG.out.2.1, GG.out.2.2⟩, below_append (hbel.alloc hsz _) (hown.alloc _) (Nat.le_refl _) hgrow (by simp; omega)⟩
      · have HE : Hid (gaps 0 l = acc) := Lib.hid (by rw [HH.out, HK.out, List.drop_length, gaps, if_neg hfl, List.append_nil])
        go_wp2
        go_ret2
        exact ⟨_, gaps 0 l, rfl, by rw [HE.out]; exact hown.set, ⟨GG.out.1, GG.out.2.1, GG.out.2.2⟩, hbel⟩

end Go.Proofs.YtefgobmpleoafaaGreatDoor.Cl

/- Make and Not once more: the very list that comes of it, in a row of the call's own. -/
namespace Go.Proofs.YtefgobmpleoafaaGreatDoor.Cl
open Go.RowKit

theorem mkSet_of {l l' : List Rg} (hp : l'.Perm l) (hs : l'.Pairwise fun a b => a.1 ≤ b.1) (hr : ∀ r ∈ l, Rt r) : together l' = mkSet l := by
  have h1 := together_ok l' (fun r h => hr r (hp.mem_iff.1 h)) hs
  have hq : (l.mergeSort fun a b => decide (a.1 ≤ b.1)).Perm l := List.mergeSort_perm _ _
  have hs2 : (l.mergeSort fun a b => decide (a.1 ≤ b.1)).Pairwise fun a b => a.1 ≤ b.1 := by
    have := List.pairwise_mergeSort (le := fun (a b : Rg) => decide (a.1 ≤ b.1)) (fun a b c h1 h2 => by simp at *; omega) (fun a b => by simp; omega) l
    exact this.imp (fun h => by simpa using h)
  have h2 := together_ok _ (fun r h => hr r (hq.mem_iff.1 h)) hs2
  unfold mkSet
  exact norm_ext h1.1 h2.1 fun u => by rw [h1.2, h2.2, hasB_perm hp, hasB_perm hq]
theorem mkSet_norm {l : List Rg} (hr : ∀ r ∈ l, Rt r) : Norm (mkSet l) ∧ (mkSet l).length ≤ l.length := by
  have hq : (l.mergeSort fun a b => decide (a.1 ≤ b.1)).Perm l := List.mergeSort_perm _ _
  have hs2 : (l.mergeSort fun a b => decide (a.1 ≤ b.1)).Pairwise fun a b => a.1 ≤ b.1 := by
    have := List.pairwise_mergeSort (le := fun (a b : Rg) => decide (a.1 ≤ b.1)) (fun a b c h1 h2 => by simp at *; omega) (fun a b => by simp; omega) l
    exact this.imp (fun h => by simpa using h)
  refine ⟨(together_ok _ (fun r h => hr r (hq.mem_iff.1 h)) hs2).1, ?_⟩
  have := together_len (l.mergeSort fun a b => decide (a.1 ≤ b.1))
  rw [hq.length_eq] at this
  exact this
/-- A set of the call's own, and OK. -/
def GivesO (l : List Rg) (w : World) (e : Ending) (w' : World) : Prop :=
  ∃ v', e = .returned (.tuple #[v', .int .i64 0]) ∧ Own w' w.heap.size 223 v' l ∧ Below w.heap.size w w'

set_option maxRecDepth 100000 in
set_option maxHeartbeats 2000000 in
theorem not_own (v : Value) (l : List Rg) (w : World) (hmax : l.length ≤ 1000000) (hS : SetV w.heap.size w v l) (hN : Norm l) :
    Calls Tryz.prog 157 #[v] w (GivesO (gaps 0 l) w) := by
  have HS := Lib.hid hS
  obtain ⟨A, cap, rfl, _, _⟩ := id hS
  have b1 := normB_true hN
  have HN := Lib.hid hN
  clear hN hS
  obtain ⟨i0, hi, hz0, hz1, hz2⟩ := info_three info46
  go_enter Tryz.func157, Tryz.ntmps157
  go_wp2_with fail
  refine (normal_any _ l _ hmax HS.out).mono ?_
  rintro e w1 ⟨rfl, hb1⟩
  go_wp2
  go_loopw [4, 5, 13] (fun s f i wr => ∃ (k : Nat) (acc : List Rg) (f0 : Int), k ≤ l.length ∧ i = .int .i64 k ∧ f = .int .i64 f0 ∧ 0 ≤ f0 ∧ f0 ≤ 1114368 ∧ acc.length ≤ k ∧ Own wr w.heap.size 223 s acc ∧ Hid (gaps 0 l = acc ++ gaps f0 (l.drop k)) ∧ Below w.heap.size w wr) (fun _ _ i _ => l.length - (intOf i).toNat)
  case atStart => exact ⟨0, [], 0, Nat.zero_le _, rfl, rfl, by omega, by omega, Nat.le_refl _, Own.nil _ _ _, Lib.hid rfl, hb1⟩
  case round =>
    obtain ⟨k, acc, f0, hk, rfl, rfl, hf0, hf1, hacc, hown, HH, hbel⟩ := hrel
    have hsz := hbel.size
    by_cases hlt : k < l.length
    · obtain ⟨b, off, lo, hi', rfl, hb, hget, c0, c1⟩ := (HS.out.below hbel).at_ hlt
      have hr := HN.out.1 _ (List.mem_of_getElem? hget)
      unfold Rt at hr
      simp only at hr
      obtain ⟨r0, r1, r2⟩ := hr
      have HG := Lib.hid (gaps_drop l k _ f0 hget)
      clear hget
      have hx := Box2.new wr lo hi'
      by_cases hfl : f0 < lo
      · go_wp2_with (at_builtin; refine wpList_append_one _ rfl _ _ 114 rfl w.heap.size 223 i0 (.agg #[.int .i64 0, .int .i64 0]) 16 Tryz.underlying114 hi hz0 hz1 hz2 rfl _ _ rfl ((hown.alloc _).alloc _) (wr.heap.size + 1) 1 (f0, lo - 1) rfl (cell_two_at _ _ _ _ _ (by simp)) (by omega) rfl (by simp; omega) ?_; intro v' w2 hown' hgrow; have hxk := (hx.alloc _).kept hgrow (Own.far hown (.inr (Nat.le_refl _))); have x1 := hxk.cell1)
        go_roundw
        case rel =>
          exact ⟨k + 1, acc ++ [(f0, lo - 1)], hi' + 1, by omega, by go_num, rfl, by omega, by omega, by simp; omega, hown', Lib.hid (by rw [HH.out, HG.out]; simp only; rw [if_pos hfl, List.append_assoc]),
            below_append ((hbel.alloc hsz _).alloc (by simp; omega) _) ((hown.alloc _).alloc _) (Nat.le_refl _) hgrow (by simp; omega)⟩
        case measure => simp [intOf]; omega
      · go_wp2
        go_roundw
        case rel =>
          exact ⟨k + 1, acc, hi' + 1, by omega, by go_num, rfl, by omega, by omega, by omega, hown.alloc _, Lib.hid (by rw [HH.out, HG.out]; simp only; rw [if_neg (by omega), List.nil_append]), hbel.alloc hsz _⟩
        case measure => simp [intOf]; omega
    · have hk' : k = l.length := by omega
      have HK := Lib.hid hk'
      clear hk'
      by_cases hfl : f0 ≤ 1114367
      · have HE : Hid (gaps 0 l = acc ++ [(f0, 1114367)]) := Lib.hid (by rw [HH.out, HK.out, List.drop_length, gaps, if_pos hfl])
        go_wp2_with (at_builtin; refine wpList_append_one _ rfl _ _ 114 rfl w.heap.size 223 i0 (.agg #[.int .i64 0, .int .i64 0]) 16 Tryz.underlying114 hi hz0 hz1 hz2 rfl _ _ rfl (hown.alloc _) wr.heap.size 1 (f0, 1114367) rfl (cell_two_at _ _ _ _ _ rfl) (by omega) rfl (by simp; omega) ?_; intro v' w2 hown' hgrow)
        go_ret2
        exact ⟨_, rfl, by rw [HE.out]; exact hown', below_append (hbel.alloc hsz _) (hown.alloc _) (Nat.le_refl _) hgrow (by simp; omega)⟩
      · have HE : Hid (gaps 0 l = acc) := Lib.hid (by rw [HH.out, HK.out, List.drop_length, gaps, if_neg hfl, List.append_nil])
        go_wp2
        go_ret2
        exact ⟨_, rfl, by rw [HE.out]; exact hown, hbel⟩

set_option maxRecDepth 100000 in
set_option maxHeartbeats 1000000 in
/-- All are right: their numbers as a normal set. -/
theorem make_own (v : Value) (l : List Rg) (w : World) (hmax : l.length ≤ 1000000) (hR : ∀ r ∈ l, Rt r) (hS : SetV w.heap.size w v l) :
    Calls Tryz.prog 156 #[v] w (GivesO (mkSet l) w) := by
  obtain ⟨A, cap, rfl, hcap, hS0⟩ := id hS
  clear hS0
  have HR := Lib.hid hR
  clear hR
  go_enter Tryz.func156, Tryz.ntmps156
  go_wp2
  go_loopw [9] (fun i wr => ∃ k : Nat, k ≤ l.length ∧ i = .int .i64 k ∧ Below w.heap.size w wr) (fun i _ => l.length - (intOf i).toNat)
  case atStart => exact ⟨0, Nat.zero_le _, rfl, Below.refl _ _⟩
  case round =>
    obtain ⟨k, hk, rfl, hbel⟩ := hrel
    have hsz := hbel.size
    by_cases hlt : k < l.length
    · obtain ⟨b, off, lo, hi, rfl, hb, hget, c0, c1⟩ := (hS.below hbel).at_ hlt
      have hin : rightB (lo, hi) = true := (rightB_iff _).2 (HR.out _ (List.mem_of_getElem? hget))
      clear hget
      go_wp2_with (go_at_call 169; refine (right_any _ _ _).mono ?_; rintro e w1 ⟨rfl, hb1⟩)
      go_roundw
      case rel => exact ⟨k + 1, by omega, by go_num, below_call hbel hsz hb1⟩
      case measure => simp [intOf]; omega
    · have hSr := (hS.below hbel).more hsz
      have HS := Lib.hid hSr
      clear hSr
      go_wp2_with fail
      refine (clone_any _ l _ hmax HS.out).mono ?_
      rintro e w1 ⟨v1, rfl, hown1, hb1⟩
      have hsz1 := hb1.size
      go_wp2_with fail
      refine (sort_own _ l wr.heap.size _ hsz1 hmax hown1).mono ?_
      rintro e w2 ⟨rfl, l', hp, hs, hS2, hb2⟩
      have hsz2 := hb2.size
      have hl' : l'.length ≤ 1000000 := by rw [hp.length_eq]; exact hmax
      have HP := Lib.hid hp
      have HSo := Lib.hid hs
      clear hp hs
      go_wp2_with fail
      refine (together_any _ l' _ hl' (fun r hr => HR.out r (HP.out.mem_iff.1 hr)) hS2).mono ?_
      rintro e w3 ⟨v3, rfl, hown3, hb3⟩
      go_wp2
      go_ret2
      have e := mkSet_of HP.out HSo.out HR.out
      rw [e] at hown3
      exact ⟨_, rfl, World.ownsRow.mono hown3 (by have := hbel.size; omega), ((hbel.trans (hb1.mono hsz)).trans (hb2.mono hsz)).trans (hb3.mono (by omega))⟩

end Go.Proofs.YtefgobmpleoafaaGreatDoor.Cl

