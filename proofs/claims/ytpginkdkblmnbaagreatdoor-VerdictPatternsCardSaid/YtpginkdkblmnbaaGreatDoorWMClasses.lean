import Derived.Test.YtpginkdkblmnbaaGreatDoorWMClass
import Derived.Lib.SliceRun
import Derived.BigQuiet
import Derived.Deep.QuietTactic
import Derived.IntWalk
import Derived.Shelf.SlGeneric
import Derived.Shelf.SlSortCmp.WholeK
import Derived.Shelf.SlicesG.Cmp
import Derived.Ground.SlsfProg
import Derived.Ground.SlgcProg
import Derived.Test.YtpginkdkblmnbaaGreatDoorProg
import Derived.Shelf.SlSortCmp.NoneTotal
import Derived.Test.YtpginkdkblmnbaaGreatDoorWMModel
namespace Go.Proofs.YtpginkdkblmnbaaGreatDoor
namespace Cl
open Go.RowKit
theorem Äv (w : World) (base : Nat) (e : TypeId) (h : base ≤ w.heap.size) : Own (w.alloc (.cells #[] e)) base e (.slice (some ⟨w.heap.size, 0, none⟩) 0 0) [] :=
 World.ownsRow_made w #[] 0 h (by unfold maxLen; omega) (by simp)
set_option maxHeartbeats 1000000 in
theorem ÌG (v : Value) (l : List Rg) (w : World) (hmax : l.length ≤ 1000000) (hS : à w.heap.size w v l) :
 Calls Tryz.prog 135 #[v] w fun e w' => ∃ v', e = .returned v' ∧ Own w' w.heap.size 164 v' l ∧ Below w.heap.size w w' := by
 obtain ⟨A, cap, rfl, hcap, hS0⟩ := id hS;obtain ⟨i0, hi, hz0, hz1, hz2⟩ := Á info46
 have q : ∀ (w : World) (a : Option Addr) (n c n' c' : Nat), (binOp .eql 23 (.slice a n c) (.slice none n' c')).run Tryz.prog w = .ok (.bool a.isNone) w := fun w a n c n' c' => Lib.run_eql_slice_nil w _ _ a n c n' c' Tryz.underlying23
 cases A with
 | none =>
  obtain rfl : l = [] := by
   refine Decidable.byContradiction fun hne => ?_
   obtain ⟨b, off, h, _⟩ := hS0 hne;cases h
  clear hS0 hS;go_enter Tryz.func135, Tryz.ntmps135;go_wp2;go_ret;exact ⟨_, rfl, Own.nil _ _ _, ā _ _⟩
 | some a =>
  clear hS0;have hB := (ā w.heap.size w).alloc (ŋ _) (.cells #[] 164);have hO := Äv w w.heap.size 164 (ŋ _);have hS1 := hS.below hB;go_enter Tryz.func135, Tryz.ntmps135
  go_wp2_with (at_builtin; refine í _ rfl _ _ 23 rfl w.heap.size 164 i0 (.agg #[.int .i64 0, .int .i64 0]) 16 Tryz.underlying23 hi hz0 hz1 hz2 rfl _ _ rfl hO w.heap.size _ l rfl hS1 (by unfold maxLen; simp; omega) (by simp; omega) (by simp) ?_; intro v' w1 hown' hgrow)
  go_ret
  exact ⟨_, rfl, hown', ö hB hO (ŋ _) hgrow (by simp)⟩
end Cl
namespace Cl
open Go.RowKit
theorem ÏA {l : List Rg} {r : Rg} (h : l[0]? = some r) (hr : Àx r = true) : Åv l 0 := by
 intro x hx;rw [h] at hx;cases hx
 exact ⟨(Áh _).1 hr, fun s h0 => absurd h0 (by omega)⟩
theorem ÏB {l : List Rg} {k : Nat} {r s : Rg} (h : l[k]? = some r) (hs : l[k - 1]? = some s) (hr : Àx r = true) (hd : s.2 + 2 ≤ r.1) : Åv l k := by
 intro x hx;rw [h] at hx;cases hx
 refine ⟨(Áh _).1 hr, fun y _ hy => ?_⟩
 rw [hs] at hy;cases hy;exact hd
theorem ÐD {l : List Rg} (h : ∀ j, j < l.length → Åv l j) : Ĩ l := Åx l fun k => by
 by_cases hk : k < l.length
 ·exact h k hk
 ·intro r hr
  rw [List.getElem?_eq_none (by omega)] at hr
  cases hr
theorem ËY {l : List Rg} {k : Nat} (h : ∀ j, j < k → Åv l j) (hk : Åv l k) : ∀ j, j < k + 1 → Åv l j := fun j hj => by
 rcases Nat.lt_succ_iff_lt_or_eq.1 hj with h1 | rfl
 ·exact h j h1
 ·exact hk
theorem Èi {l : List Rg} {k : Nat} {r : Rg} (h : l[k]? = some r) (hr : Àx r = false) : ¬ Ĩ l := fun hn => by
 have := (Ãm hn k r h).1;rw [← Áh, hr] at this;cases this
theorem ÊI {l : List Rg} {k : Nat} {r s : Rg} (hk : 0 < k) (h : l[k]? = some r) (hs : l[k - 1]? = some s) (hd : ¬ s.2 + 2 ≤ r.1) : ¬ Ĩ l := fun hn =>
 hd ((Ãm hn k r h).2 s hk hs)
set_option maxHeartbeats 1000000 in
theorem Æb (v : Value) (l : List Rg) (w : World) (hmax : l.length ≤ 1000000) (hS : à w.heap.size w v l) :
 Calls Tryz.prog 110 #[v] w fun e w' => e = .returned (.bool (ÈL l)) ∧ Below w.heap.size w w' := by
 obtain ⟨A, cap, rfl, hcap, hS0⟩ := id hS;clear hS0;go_enter Tryz.func110, Tryz.ntmps110;go_wp2
 go_loopw [7] (fun i wr => ∃ k : Nat, k ≤ l.length ∧ i = .int .i64 k ∧ Hid (∀ j, j < k → Åv l j) ∧ Below w.heap.size w wr) (fun i _ => l.length - (intOf i).toNat)
 case atStart => exact ⟨0, Ą _, rfl, ħ (fun j hj => absurd hj (by omega)), ā _ _⟩
 case round =>
  obtain ⟨k, hk, rfl, HH, hbel⟩ := hrel;have hsz := hbel.size
  by_cases hlt : k < l.length
  ·have hSr := hS.below hbel
   obtain ⟨b, off, lo, hi, rfl, hb, hget, c0, c1⟩ := hSr.at_ hlt;have HG := ħ hget;clear hget;cases hin : Àx (lo, hi)
   ·have HI := ħ hin
    go_wp2_with (go_at_call 133; refine (ÂS _ _ _).mono ?_; rintro e w1 ⟨rfl, hb1⟩)
    go_ret;exact ⟨î (ÄC (Èi HG.o HI.o)).symm, ū hbel hsz hb1⟩
   ·have HI := ħ hin
    have hR := (Áh _).1 hin;unfold Rt at hR;simp only at hR;obtain ⟨r0, r1, r2⟩ := hR
    by_cases hk0 : 0 < k
    ·obtain ⟨b', off', lo', hi', hA', hb', hget', d0, d1⟩ := hSr.at_ (show k - 1 < l.length by omega)
     obtain ⟨rfl, rfl⟩ : b = b' ∧ off = off' := by simpa using hA'
     have hp := (HH.o (k - 1) (by omega) _ hget').1
     unfold Rt at hp;simp only at hp;obtain ⟨p0, p1, p2⟩ := hp;have HG' := ħ hget';clear hget' hA'
     have h3 : (0 : Int) < k := by omega
     have s1 : IntKind.i64.wrap ((k : Int) - 1) = (k : Int) - 1 := IntWalk.i64_in _ (by omega)
     have s2 : (0 : Int) ≤ (k : Int) - 1 := by omega
     have s3 : ((k : Int) - 1).toNat = k - 1 := by omega
     have s4 : IntKind.i64.wrap (lo - hi') = lo - hi' := IntWalk.i64_in _ (by omega)
     by_cases hd : lo - hi' < 2
     all_goals
      go_wp2_with (go_at_call 133; refine (ÂS _ _ _).mono ?_; rintro e w1 ⟨rfl, hb1⟩)
      have x0 : w1.cell? ⟨wr.heap.size, 0, none⟩ = some (.int .i64 lo) := (hb1.cell (p := ⟨wr.heap.size, 0, none⟩) (by simp)).trans (by simp)
      have x1 : w1.cell? ⟨b, off + (k - 1) * 2 + 1, none⟩ = some (.int .i64 hi') := (hb1.cell (p := ⟨b, off + (k - 1) * 2 + 1, none⟩) (by simp; omega)).trans ((World.cell?_alloc_lt _ _ _ (by simp; omega)).trans d1)
      have hB := ū hbel hsz hb1;clear hb1 d0 d1 c0 c1;go_quiet (fail);go_wp2
     ·go_ret
      exact ⟨î (ÄC (ÊI hk0 HG.o HG'.o (by simp only; omega))).symm, below_drewN hB _⟩
     ·go_roundw
      case rel => exact ⟨k + 1, by omega, by go_num, ħ (ËY HH.o (ÏB HG.o HG'.o HI.o (by simp only; omega))), below_drewN hB _⟩
      case measure => simp [intOf]; omega
    ·have hd : decide ((0 : Int) < (k : Int)) = false := by simp; omega
     have HK : Hid (k = 0) := ħ (by omega)
     go_wp2_with (go_at_call 133; refine (ÂS _ _ _).mono ?_; rintro e w1 ⟨rfl, hb1⟩)
     have hB := ū hbel hsz hb1;go_quiet (fail);go_wp2;go_roundw
     case rel => exact ⟨k + 1, by omega, by go_num, ħ (ËY HH.o (by have h0 := HK.o; have hg := HG.o; rw [h0] at hg ⊢; exact ÏA hg HI.o)), below_drewN hB _⟩
     case measure => simp [intOf]; omega
  ·obtain rfl : k = l.length := by omega
   go_wp2;go_ret;exact ⟨î (Ãn (ÐD HH.o)).symm, hbel⟩
end Cl
end Go.Proofs.YtpginkdkblmnbaaGreatDoor
namespace Go.Proofs
open Go.Shelf
def Tryz.sortRg_ren : Go.Shelf.Ren := ⟨fun | 6 => 136 | 15 => 141 | 14 => 153 | 28 => 162 | 29 => 163 | 20 => 173 | 21 => 174 | 22 => 175 | 23 => 176 | 24 => 177 | 25 => 178 | 26 => 179 | 27 => 180 | 46 => 194 | 47 => 182 | 48 => 183 | 49 => 195 | 50 => 196 | 57 => 200 | n => n, fun | 22 => 23 | 24 => 164 | 25 => 175 | 3 => 3 | 39 => 180 | 0 => 0 | 53 => 195 | 55 => 197 | 4 => 4 | 46 => 188 | 45 => 187 | 50 => 192 | 5 => 5 | 9 => 9 | 66 => 207 | 70 => 211 | 76 => 220 | 77 => 41 | n => n, fun | n => n⟩
theorem Tryz.sortRg : Go.Proofs.SlLaysF0.n6 Tryz.prog Tryz.sortRg_ren := {
 mixed := by kernel_rfl
 f6 := ⟨Tryz.f136.name, by decide, Tryz.func136.trans (congrArg some (by kernel_rfl))⟩
 f14 := ⟨Tryz.f153.name, by decide, Tryz.func153.trans (congrArg some (by kernel_rfl))⟩
 f15 := Tryz.func141.trans (congrArg some (by kernel_rfl))
 f20 := ⟨Tryz.f173.name, by decide, Tryz.func173.trans (congrArg some (by kernel_rfl))⟩
 f21 := ⟨Tryz.f174.name, by decide, Tryz.func174.trans (congrArg some (by kernel_rfl))⟩
 f22 := ⟨Tryz.f175.name, by decide, Tryz.func175.trans (congrArg some (by kernel_rfl))⟩
 f23 := ⟨Tryz.f176.name, by decide, Tryz.func176.trans (congrArg some (by kernel_rfl))⟩
 f24 := ⟨Tryz.f177.name, by decide, Tryz.func177.trans (congrArg some (by kernel_rfl))⟩
 f25 := ⟨Tryz.f178.name, by decide, Tryz.func178.trans (congrArg some (by kernel_rfl))⟩
 f26 := ⟨Tryz.f179.name, by decide, Tryz.func179.trans (congrArg some (by kernel_rfl))⟩
 f27 := ⟨Tryz.f180.name, by decide, Tryz.func180.trans (congrArg some (by kernel_rfl))⟩
 f28 := Tryz.func162.trans (congrArg some (by kernel_rfl))
 f29 := Tryz.func163.trans (congrArg some (by kernel_rfl))
 f46 := ⟨Tryz.f194.name, by decide, Tryz.func194.trans (congrArg some (by kernel_rfl))⟩
 f47 := Tryz.func182.trans (congrArg some (by kernel_rfl))
 f48 := Tryz.func183.trans (congrArg some (by kernel_rfl))
 f49 := ⟨Tryz.f195.name, by decide, Tryz.func195.trans (congrArg some (by kernel_rfl))⟩
 f50 := ⟨Tryz.f196.name, by decide, Tryz.func196.trans (congrArg some (by kernel_rfl))⟩
 f57 := ⟨Tryz.f200.name, by decide, Tryz.func200.trans (congrArg some (by kernel_rfl))⟩
 t0 := Tryz.underlying0
 a0 := Tryz.isAgg0
 z0 := Tryz.sizeOf0
 v0 := Tryz.zeroValue0
 t3 := Tryz.underlying3
 a3 := Tryz.isAgg3
 z3 := Tryz.sizeOf3
 v3 := Tryz.zeroValue3
 t4 := Tryz.underlying4
 a4 := Tryz.isAgg4
 z4 := Tryz.sizeOf4
 v4 := Tryz.zeroValue4
 t5 := Tryz.underlying5
 a5 := Tryz.isAgg5
 z5 := Tryz.sizeOf5
 v5 := Tryz.zeroValue5
 t9 := Tryz.underlying9
 a9 := Tryz.isAgg9
 z9 := Tryz.sizeOf9
 v9 := Tryz.zeroValue9
 t22 := Tryz.underlying23
 a22 := Tryz.isAgg23
 z22 := Tryz.sizeOf23
 v22 := Tryz.zeroValue23
 t25 := Tryz.underlying175
 a25 := Tryz.isAgg175
 z25 := Tryz.sizeOf175
 v25 := Tryz.zeroValue175
 t39 := Tryz.underlying180
 a39 := Tryz.isAgg180
 z39 := Tryz.sizeOf180
 v39 := Tryz.zeroValue180
 t45 := Tryz.underlying187
 a45 := Tryz.isAgg187
 z45 := Tryz.sizeOf187
 v45 := Tryz.zeroValue187
 t46 := Tryz.underlying188
 a46 := Tryz.isAgg188
 z46 := Tryz.sizeOf188
 v46 := Tryz.zeroValue188
 t50 := Tryz.underlying192
 a50 := Tryz.isAgg192
 z50 := Tryz.sizeOf192
 v50 := Tryz.zeroValue192
 t53 := Tryz.underlying195
 a53 := Tryz.isAgg195
 z53 := Tryz.sizeOf195
 v53 := Tryz.zeroValue195
 t55 := Tryz.underlying197
 a55 := Tryz.isAgg197
 z55 := Tryz.sizeOf197
 v55 := Tryz.zeroValue197
 t66 := Tryz.underlying207
 a66 := Tryz.isAgg207
 z66 := Tryz.sizeOf207
 v66 := Tryz.zeroValue207
 t70 := Tryz.underlying211
 a70 := Tryz.isAgg211
 z70 := Tryz.sizeOf211
 v70 := Tryz.zeroValue211
 t76 := Tryz.underlying220
 a76 := Tryz.isAgg220
 z76 := Tryz.sizeOf220
 v76 := Tryz.zeroValue220
 t77 := Tryz.underlying41
 a77 := Tryz.isAgg41
 z77 := Tryz.sizeOf41
 v77 := Tryz.zeroValue41 }
def Tryz.cmpInt_ren : Go.Shelf.Ren := ⟨fun | 5 => 102 | 7 => 120 | n => n, fun | 22 => 3 | 3 => 3 | 4 => 4 | n => n, fun | n => n⟩
theorem Tryz.cmpInt : Go.Proofs.SlLaysC2.n5 Tryz.prog Tryz.cmpInt_ren := {
 mixed := by kernel_rfl
 f5 := ⟨Tryz.f102.name, by decide, Tryz.func102.trans (congrArg some (by kernel_rfl))⟩
 f7 := ⟨Tryz.f120.name, by decide, Tryz.func120.trans (congrArg some (by kernel_rfl))⟩
 t3 := Tryz.underlying3
 a3 := Tryz.isAgg3
 z3 := Tryz.sizeOf3
 v3 := Tryz.zeroValue3
 t4 := Tryz.underlying4
 a4 := Tryz.isAgg4
 z4 := Tryz.sizeOf4
 v4 := Tryz.zeroValue4
 t22 := Tryz.underlying3
 a22 := Tryz.isAgg3
 z22 := Tryz.sizeOf3
 v22 := Tryz.zeroValue3 }
end Go.Proofs
namespace Go.Proofs.YtpginkdkblmnbaaGreatDoor
namespace Cl
open Go.RowKit Go.Shelf Go.Lib
def Ãh (r : Rg) : List Value := [.int .i64 r.1, .int .i64 r.2]
def ÊH (x y : Rg) : Int := Lib.compareInt x.1 y.1
theorem Ïy (x y : Rg) : ltOf ÊH x y = decide (x.1 < y.1) := by
 unfold ltOf ÊH Lib.compareInt
 by_cases h1 : x.1 < y.1
 ·simp [h1]
 ·by_cases h2 : y.1 < x.1 <;> simp [h1, h2]
theorem Ñe : Sort.SWO (ltOf ÊH) where
 irrefl x := by rw [Ïy]; simp
 trans x y z h1 h2 := by rw [Ïy] at *; simp at *; omega
 ntrans x y z h1 h2 := by rw [Ïy] at *; simp at *; omega
set_option maxHeartbeats 1000000 in
theorem Ïz (x y : Rg) (W : World) : Calls Tryz.prog 137 #[.agg #[.int .i64 x.1, .int .i64 x.2], .agg #[.int .i64 y.1, .int .i64 y.2]] W fun e w' => e = .returned (.int .i64 (ÊH x y)) ∧ ∃ q os', w' = Sort.grow (W.drewN q) os' := by
 have hcon := fun W' => AnyG.cmp_Compare_int Tryz.cmpInt x.1 y.1 W'
 change ∀ W', Calls Tryz.prog 102 _ _ _ at hcon
 unfold ÊH;generalize Lib.compareInt x.1 y.1 = r at hcon ⊢;go_enter Tryz.func137, Tryz.ntmps137
 go_wp2_with (go_at_call 102; refine (hcon _).mono ?_; rintro e w' ⟨rfl, rfl⟩)
 go_ret
 exact ⟨rfl, 0, _, by rw [Sort.alloc_eq_grow, Sort.alloc_eq_grow, Sort.grow_grow]; rfl⟩
theorem Îi (blk off size : Nat) (w : World) : CmpLays Tryz.prog 137 #[] Ãh 2 ÊH blk off size w :=
 fun _ _ _ _ x y => Ïz x y _
theorem Æa (d : Array Rg) (j : Nat) (h : j < d.size * 2) : (Sort.flatK Ãh 2 d)[j]! = if j % 2 = 0 then .int .i64 d[j / 2]!.1 else .int .i64 d[j / 2]!.2 := by
 rw [Sort.get_flatK _ _ _ _ h]
 have h2 : j % 2 = 0 ∨ j % 2 = 1 := by omega
 rcases h2 with h2 | h2 <;> simp [h2, Ãh]
theorem Ãi (d : Array Rg) (i : Nat) (r : Rg) (h : d.toList[i]? = some r) : i < d.size ∧ d[i]! = r := by
 obtain ⟨hi, rfl⟩ := List.getElem?_eq_some_iff.1 h
 have hi' : i < d.size := by simpa using hi
 exact ⟨hi', by rw [getElem!_pos d i hi']; simp⟩
theorem Âo (w : World) (base g n : Nat) (d : Array Rg) (os : Array Obj) (hg : base ≤ g) (hb : base ≤ w.heap.size) : Below base w (sortWorldK Ãh 2 w g 0 n d os) := by
 refine ⟨rfl, rfl, rfl, size_sortWorldK_c Ãh 2 w g 0 n d os, fun k hk => ?_⟩
 unfold sortWorldK
 rw [Sort.heap_grow_old _ _ (by rw [Sort.size_putRowK]; show k < w.heap.size; omega)]
 unfold Sort.putRowK Sort.putRow Sort.mapBlock;simp only [Sort.heap_ahead]
 rw [Array.getElem?_modify, if_neg (by omega)]
theorem Îj (v : Value) (l : List Rg) (base : Nat) (w : World) (hb : base ≤ w.heap.size) (hmax : l.length ≤ 1000000) (h : Own w base 164 v l) :
 Calls Tryz.prog 136 #[v, .func (.func 137) #[] #[]] w fun e w' => e = .returned (.tuple #[]) ∧ ∃ l', l'.Perm l ∧ l'.Pairwise (fun a b => a.1 ≤ b.1) ∧ à w'.heap.size w' v l' ∧ Below base w w' := by
 by_cases hl : l = []
 ·subst hl
  obtain ⟨p, cap, rfl⟩ : ∃ p cap, v = .slice p 0 cap := by
   obtain ⟨A, cap, hv, _⟩ := h.set;exact ⟨A, cap, hv⟩
  have hs := h.set
  have hcon := AnyF.slices_SortFunc_none { Tryz.sortRg with } p cap (.func (.func 137) #[] #[]) w
  change Calls Tryz.prog 136 _ _ _ at hcon
  refine hcon.mono ?_;rintro e w' ⟨rfl, rfl⟩;exact ⟨rfl, [], List.Perm.refl _, List.Pairwise.nil, hs, ā _ _⟩
 ·have hlen : 0 < l.length := List.length_pos_iff.2 hl
  obtain ⟨g, cap, rfl, hg1, hg2⟩ := World.ownsRow.form h hlen
  have hH : Sort.HoldsK Ãh 2 w g 0 l.toArray := by
   intro j hj;rw [Sort.size_flatK] at hj
   have hj' : j < l.length * 2 := by simpa using hj
   refine ⟨?_, World.ownsRow.frozenAt h (0 + j)⟩
   rw [World.ownsRow.cellAt h (0 + j) (by omega), Æa _ _ hj, ĉ]
   have hlt : j / 2 < l.length := by omega
   have hg := ü l (j / 2) l[j / 2] (Ā hlt)
   have he : l.toArray[j / 2]! = l[j / 2] := by rw [getElem!_pos l.toArray (j / 2) (by simpa using hlt)]; simp
   by_cases h2 : j % 2 = 0
   ·rw [if_pos h2, he, show (Ä l)[j]? = (Ä l)[j / 2 * 2]? by rw [show j / 2 * 2 = j by omega]]
    exact hg.1
   ·rw [if_neg h2, he, show (Ä l)[j]? = (Ä l)[j / 2 * 2 + 1]? by rw [show j / 2 * 2 + 1 = j by omega]]
    exact hg.2
  have eg : ∀ args w, (callFunc 137 args).run Tryz.prog w = .ok (.enter 137 args) w := enters_of Tryz.func137 (by kernel_rfl) rfl
  have hcon := AnyQ.slices_SortFunc Tryz.sortRg 2 Tryz.isAgg164 Tryz.sizeOf164 Ãh (fun _ => rfl) (fun x v hv => by simp [Ãh] at hv; rcases hv with rfl | rfl <;> rfl) ÊH Ñe 137 #[] g 0 cap l.toArray w eg (Îi g 0 l.toArray.size w) hH hg2 (by simp; omega)
  change Calls Tryz.prog 136 #[.slice (some ⟨g, 0, none⟩) l.length cap, _] _ _ at hcon
  refine hcon.mono ?_;rintro e w' ⟨rfl, d', n, os, hp, hs, rfl⟩;obtain ⟨hp1, _, hp3⟩ := hp
  have hsz : d'.size = l.length := by simpa using hp1
  have hperm : d'.toList.Perm l := by
   have h3 := hp3;simp only [Array.toList_extract, List.extract_eq_take_drop, List.drop_zero, Nat.sub_zero] at h3
   rw [List.take_of_length_le (by rw [Array.length_toList, hp1]; exact ŋ _), List.take_of_length_le (by simp)] at h3
   exact h3
  refine ⟨rfl, d'.toList, hperm, ?_, ?_, Âo w base g n d' os hg1 hb⟩
  ·rw [List.pairwise_iff_getElem]
   intro i j hi hj hij
   have hj' : j < d'.size := by simpa using hj
   have hi' : i < d'.size := by simpa using hi
   have := hs i j (Ą _) hij (by rw [← hp1]; exact hj')
   rw [Ïy, getElem!_pos d' i hi', getElem!_pos d' j hj'] at this;simp only [decide_eq_false_iff_not, Array.getElem_toList] at this ⊢;omega
  ·have hHo := holdsK_sortWorldK_c Ãh 2 w g 0 l.toArray d' n os hH hg2 hp1
   have hlt := size_sortWorldK_c Ãh 2 w g 0 n d' os
   have hlen' : d'.toList.length = l.length := by simpa using hsz
   have hcapn : l.length ≤ cap := by
    obtain ⟨A, c, hv, hc, _⟩ := h.set
    have : cap = c := by injection hv
    omega
   refine ⟨some ⟨g, 0, none⟩, cap, by rw [hlen'], by rw [hlen']; exact hcapn, fun _ => ⟨g, 0, rfl, by omega, fun i r hr => ?_⟩⟩
   obtain ⟨hi, hr⟩ := Ãi d' i r hr
   have c0 := (hHo (i * 2) (by rw [Sort.size_flatK]; omega)).1
   have c1 := (hHo (i * 2 + 1) (by rw [Sort.size_flatK]; omega)).1
   rw [Æa _ _ (by omega)] at c0 c1
   rw [if_pos (by omega), show i * 2 / 2 = i by omega, hr] at c0
   rw [if_neg (by omega), show (i * 2 + 1) / 2 = i by omega, hr] at c1
   exact ⟨c0, c1⟩
end Cl
namespace Cl
open Go.RowKit
end Cl
namespace Cl
open Go.RowKit
theorem ÌH (l : List Rg) (k : Nat) (r : Rg) (f : Int) (h : l[k]? = some r) : ò f (l.drop k) = (if f < r.1 then [(f, r.1 - 1)] else []) ++ ò (r.2 + 1) (l.drop (k + 1)) := by
 obtain ⟨hk, rfl⟩ := List.getElem?_eq_some_iff.1 h;rw [List.drop_eq_getElem_cons hk, ò]
end Cl
namespace Cl
open Go.RowKit
theorem Îk {l l' : List Rg} (hp : l'.Perm l) (hs : l'.Pairwise fun a b => a.1 ≤ b.1) (hr : ∀ r ∈ l, Rt r) : Î l' = ť l := by
 have h1 := Áv l' (fun r h => hr r (hp.mem_iff.1 h)) hs
 have hq : (l.mergeSort fun a b => decide (a.1 ≤ b.1)).Perm l := List.mergeSort_perm _ _
 have hs2 : (l.mergeSort fun a b => decide (a.1 ≤ b.1)).Pairwise fun a b => a.1 ≤ b.1 := by
  have := List.pairwise_mergeSort (le := fun (a b : Rg) => decide (a.1 ≤ b.1)) (fun a b c h1 h2 => by simp at *; omega) (fun a b => by simp; omega) l
  exact this.imp (fun h => by simpa using h)
 have h2 := Áv _ (fun r h => hr r (hq.mem_iff.1 h)) hs2
 unfold ť
 exact ÈM h1.1 h2.1 fun u => by rw [h1.2, h2.2, Äi hp, Äi hq]
theorem Ãx {l : List Rg} (hr : ∀ r ∈ l, Rt r) : Ĩ (ť l) ∧ (ť l).length ≤ l.length := by
 have hq : (l.mergeSort fun a b => decide (a.1 ≤ b.1)).Perm l := List.mergeSort_perm _ _
 have hs2 : (l.mergeSort fun a b => decide (a.1 ≤ b.1)).Pairwise fun a b => a.1 ≤ b.1 := by
  have := List.pairwise_mergeSort (le := fun (a b : Rg) => decide (a.1 ≤ b.1)) (fun a b c h1 h2 => by simp at *; omega) (fun a b => by simp; omega) l
  exact this.imp (fun h => by simpa using h)
 refine ⟨(Áv _ (fun r h => hr r (hq.mem_iff.1 h)) hs2).1, ?_⟩
 have := ÃE (l.mergeSort fun a b => decide (a.1 ≤ b.1))
 rw [hq.length_eq] at this;exact this
def ÂC (l : List Rg) (w : World) (e : Ending) (w' : World) : Prop :=
 ∃ v', e = .returned (.tuple #[v', .int .i64 0]) ∧ Own w' w.heap.size 164 v' l ∧ Below w.heap.size w w'
set_option maxRecDepth 100000 in
set_option maxHeartbeats 2000000 in
theorem ÁB (v : Value) (l : List Rg) (w : World) (hmax : l.length ≤ 1000000) (hS : à w.heap.size w v l) (hN : Ĩ l) :
 Calls Tryz.prog 166 #[v] w (ÂC (ò 0 l) w) := by
 have HS := ħ hS;obtain ⟨A, cap, rfl, _, _⟩ := id hS;have b1 := Ãn hN;have HN := ħ hN;clear hN hS;obtain ⟨i0, hi, hz0, hz1, hz2⟩ := Á info46;go_enter Tryz.func166, Tryz.ntmps166
 go_wp2_with fail
 refine (Æb _ l _ hmax HS.o).mono ?_;rintro e w1 ⟨rfl, hb1⟩;go_wp2
 go_loopw [4, 5, 13] (fun s f i wr => ∃ (k : Nat) (acc : List Rg) (f0 : Int), k ≤ l.length ∧ i = .int .i64 k ∧ f = .int .i64 f0 ∧ 0 ≤ f0 ∧ f0 ≤ 1114368 ∧ acc.length ≤ k ∧ Own wr w.heap.size 164 s acc ∧ Hid (ò 0 l = acc ++ ò f0 (l.drop k)) ∧ Below w.heap.size w wr) (fun _ _ i _ => l.length - (intOf i).toNat)
 case atStart => exact ⟨0, [], 0, Ą _, rfl, rfl, by omega, by omega, ŋ _, Own.nil _ _ _, ħ rfl, hb1⟩
 case round =>
  obtain ⟨k, acc, f0, hk, rfl, rfl, hf0, hf1, hacc, hown, HH, hbel⟩ := hrel;have hsz := hbel.size
  by_cases hlt : k < l.length
  ·obtain ⟨b, off, lo, hi', rfl, hb, hget, c0, c1⟩ := (HS.o.below hbel).at_ hlt
   have hr := HN.o.1 _ (Č hget);unfold Rt at hr;simp only at hr;obtain ⟨r0, r1, r2⟩ := hr;have HG := ħ (ÌH l k _ f0 hget);clear hget;have hx := ŵ.new wr lo hi'
   by_cases hfl : f0 < lo
   ·go_wp2_with (at_builtin; refine ı _ rfl _ _ 24 rfl w.heap.size 164 i0 (.agg #[.int .i64 0, .int .i64 0]) 16 Tryz.underlying24 hi hz0 hz1 hz2 rfl _ _ rfl ((hown.alloc _).alloc _) (wr.heap.size + 1) 1 (f0, lo - 1) rfl (Ŭ _ _ _ _ _ (by simp)) (by omega) rfl (by simp; omega) ?_; intro v' w2 hown' hgrow; have hxk := (hx.alloc _).kept hgrow (Own.far hown (.inr (ŋ _))); have x1 := hxk.cell1)
    go_roundw
    case rel =>
     exact ⟨k + 1, acc ++ [(f0, lo - 1)], hi' + 1, by omega, by go_num, rfl, by omega, by omega, by simp; omega, hown', ħ (by rw [HH.o, HG.o]; simp only; rw [if_pos hfl, List.append_assoc]),
      ö ((hbel.alloc hsz _).alloc (by simp; omega) _) ((hown.alloc _).alloc _) (ŋ _) hgrow (by simp; omega)⟩
    case measure => simp [intOf]; omega
   ·go_wp2
    go_roundw
    case rel =>
     exact ⟨k + 1, acc, hi' + 1, by omega, by go_num, rfl, by omega, by omega, by omega, hown.alloc _, ħ (by rw [HH.o, HG.o]; simp only; rw [if_neg (by omega), List.nil_append]), hbel.alloc hsz _⟩
    case measure => simp [intOf]; omega
  ·have hk' : k = l.length := by omega
   have HK := ħ hk';clear hk'
   by_cases hfl : f0 ≤ 1114367
   ·have HE : Hid (ò 0 l = acc ++ [(f0, 1114367)]) := ħ (by rw [HH.o, HK.o, List.drop_length, ò, if_pos hfl])
    go_wp2_with (at_builtin; refine ı _ rfl _ _ 24 rfl w.heap.size 164 i0 (.agg #[.int .i64 0, .int .i64 0]) 16 Tryz.underlying24 hi hz0 hz1 hz2 rfl _ _ rfl (hown.alloc _) wr.heap.size 1 (f0, 1114367) rfl (Ŭ _ _ _ _ _ rfl) (by omega) rfl (by simp; omega) ?_; intro v' w2 hown' hgrow)
    go_ret2
    exact ⟨_, rfl, by rw [HE.o]; exact hown', ö (hbel.alloc hsz _) (hown.alloc _) (ŋ _) hgrow (by simp; omega)⟩
   ·have HE : Hid (ò 0 l = acc) := ħ (by rw [HH.o, HK.o, List.drop_length, ò, if_neg hfl, List.append_nil])
    go_wp2;go_ret2
    exact ⟨_, rfl, by rw [HE.o]; exact hown, hbel⟩
set_option maxRecDepth 100000 in
set_option maxHeartbeats 1000000 in
theorem ÁT (v : Value) (l : List Rg) (w : World) (hmax : l.length ≤ 1000000) (hR : ∀ r ∈ l, Rt r) (hS : à w.heap.size w v l) :
 Calls Tryz.prog 114 #[v] w (ÂC (ť l) w) := by
 obtain ⟨A, cap, rfl, hcap, hS0⟩ := id hS;clear hS0;have HR := ħ hR;clear hR;go_enter Tryz.func114, Tryz.ntmps114;go_wp2
 go_loopw [9] (fun i wr => ∃ k : Nat, k ≤ l.length ∧ i = .int .i64 k ∧ Below w.heap.size w wr) (fun i _ => l.length - (intOf i).toNat)
 case atStart => exact ⟨0, Ą _, rfl, ā _ _⟩
 case round =>
  obtain ⟨k, hk, rfl, hbel⟩ := hrel;have hsz := hbel.size
  by_cases hlt : k < l.length
  ·obtain ⟨b, off, lo, hi, rfl, hb, hget, c0, c1⟩ := (hS.below hbel).at_ hlt
   have hin : Àx (lo, hi) = true := (Áh _).2 (HR.o _ (Č hget));clear hget
   go_wp2_with (go_at_call 133; refine (ÂS _ _ _).mono ?_; rintro e w1 ⟨rfl, hb1⟩)
   go_roundw
   case rel => exact ⟨k + 1, by omega, by go_num, ū hbel hsz hb1⟩
   case measure => simp [intOf]; omega
  ·have hSr := (hS.below hbel).more hsz
   have HS := ħ hSr;clear hSr
   go_wp2_with fail
   refine (ÌG _ l _ hmax HS.o).mono ?_;rintro e w1 ⟨v1, rfl, hown1, hb1⟩;have hsz1 := hb1.size
   go_wp2_with fail
   refine (Îj _ l wr.heap.size _ hsz1 hmax hown1).mono ?_;rintro e w2 ⟨rfl, l', hp, hs, hS2, hb2⟩;have hsz2 := hb2.size
   have hl' : l'.length ≤ 1000000 := by rw [hp.length_eq]; exact hmax
   have HP := ħ hp;have HSo := ħ hs;clear hp hs
   go_wp2_with fail
   refine (Âh _ l' _ hl' (fun r hr => HR.o r (HP.o.mem_iff.1 hr)) hS2).mono ?_
   rintro e w3 ⟨v3, rfl, hown3, hb3⟩;go_wp2;go_ret2;have e := Îk HP.o HSo.o HR.o;rw [e] at hown3
   exact ⟨_, rfl, World.ownsRow.mono hown3 (by have := hbel.size; omega), ((hbel.trans (hb1.mono hsz)).trans (hb2.mono hsz)).trans (hb3.mono (by omega))⟩
end Cl
end Go.Proofs.YtpginkdkblmnbaaGreatDoor
