/- Joined: VmY, VmZ, VmV. -/
import Derived.Test.YtdbddbelhgkelaaGreatDoorZMWc
import Derived.OwnWalk
import Derived.Lib.SliceRun
/- The machine: its start, its end. -/
namespace Go.Proofs.YtdbddbelhgkelaaGreatDoor
open Go.RowKit
open Go.Proofs.YtdbddbelhgkelaaGreatDoor.Cl (Rg SetV SetAt rgCells info_three hasB)
variable {w w' w0 : World} {n₀ mb F S : Nat} {cv uv V1 V2 V3 : Value} {s : Ms} {X : List In} {U : List Int}

set_option maxRecDepth 100000 in
set_option maxHeartbeats 4000000 in
theorem right_any (hF : 1 ≤ F ∧ F ≤ 1048576) (hS : S ≤ 4096) : Calls Tryz.prog 61 #[.agg #[.int .i64 (F : Nat), .int .i64 (S : Nat)]] w fun e w' => e = .returned (.bool true) ∧ Below w.heap.size w w' := by
  go_enter Tryz.func61, Tryz.ntmps61
  go_wp2
  go_ret
  refine ⟨by simp; omega, (Below.refl _ _).alloc (Nat.le_refl _) _⟩

set_option maxRecDepth 100000 in
set_option maxHeartbeats 4000000 in
theorem start_any (hE : EnvV w cv uv X U) (_ : X.length ≤ 2003) (hm : marks X ≤ 2003) : Calls Tryz.prog 42 #[cv, uv, .agg #[.int .i64 (F : Nat), .int .i64 (S : Nat)]] w fun e w' => ∃ mb V1, e = .returned (.pointer (some ⟨mb, 0, none⟩)) ∧ Mch w.heap.size w' mb cv uv F S (startM X) V1 (.slice none 0 0) (.slice none 0 0) ∧ Below w.heap.size w w' := by
  have HL := Lib.hid (fun (W : World) (hb : Below w.heap.size w W) => loops_any (hE.prog hb))
  obtain ⟨Av, cc, rfl, _, _⟩ := hE.pg.form
  obtain ⟨Au, cu, rfl, _, _⟩ := hE.units (Below.refl _ _)
  clear hE
  go_enter Tryz.func42, Tryz.ntmps42
  go_wp2_with fail
  refine (HL.out _ (((Below.refl _ _).alloc (Nat.le_refl _) _))).mono ?_
  rintro e w1 ⟨rfl, hb1⟩
  have e20 : ((20 + marks X : Nat) : Int) = (20 + (marks X : Int)) := by omega
  obtain ⟨i3, hi, hz0, hz1, hz2⟩ := info_three Cl.info3
  obtain ⟨w2, hmk, hown, hgr⟩ := run_make_full (P := Tryz.prog) w1 w.heap.size 48 3 i3 (.int .i64 0) 1 Tryz.underlying48 hi hz0 hz1 .i64 .i64 (20 + marks X) (by rw [hz2]; omega) (by unfold maxLen; omega) (by have := hb1.size; simp at this; omega)
  rw [e20] at hmk
  have hb1' : Below w.heap.size w w1 := ((Below.refl _ _).alloc (Nat.le_refl _) _).trans (hb1.mono (by simp))
  have hs1 : w.heap.size < w1.heap.size := by have := hb1.size; simp at this; omega
  have hb2 : Below w.heap.size w w2 := hb1'.grown hgr (by omega) (by simp)
  have HBx : Hid (Blk w2 w.heap.size 57 #[.int .i64 (F : Nat), .int .i64 (S : Nat)]) := Lib.hid ((hgr.block _ hs1 (by simp)).trans ((hb1.block _ (by simp)).trans (Blk.new w _ _)))
  clear hgr hb1
  simp only [Value.cells, Nat.mul_one, toList_madeCells_one] at hown
  generalize w1.heap.size = g at *
  go_wp2
  clear hmk
  go_loopw [8, 15] (fun _ i wr => ∃ k : Nat, k ≤ 20 + marks X ∧ i = .int .i64 k ∧ Hid (wr.ownsRow w.heap.size 3 1 (.slice (some ⟨g, 0, none⟩) (20 + marks X) (20 + marks X)) (20 + marks X) (zI (List.replicate k (-1)) ++ List.replicate (20 + marks X - k) (.int .i64 0)) ∧ Below w.heap.size w wr ∧ Blk wr w.heap.size 57 #[.int .i64 (F : Nat), .int .i64 (S : Nat)])) (fun _ i _ => 20 + marks X - (intOf i).toNat)
  case atStart => exact ⟨0, Nat.zero_le _, rfl, Lib.hid ⟨by simpa [zI] using hown, hb2, HBx.out⟩⟩
  case round =>
    obtain ⟨k, hk, rfl, HR⟩ := hrel
    by_cases hlt : k < 20 + marks X
    · have hlti : (k : Int) < 20 + (marks X : Int) := by omega
      have hka : ((zI (List.replicate k (-1)) ++ List.replicate (20 + marks X - k) (.int .i64 0)) : List Value)[k]? = some (.int .i64 0) := by
        rw [List.getElem?_append_right (by simp [zI]), List.getElem?_replicate, if_pos (by simp [zI]; omega)]
      have e0 : wr.cell? ⟨g, k, none⟩ = some (.int .i64 0) := (World.ownsRow.cellAt HR.out.1 k (by omega)).trans hka
      have f0 : wr.frozen? ⟨g, k, none⟩ = false := World.ownsRow.frozenAt HR.out.1 k
      have HK : Hid (Hid (((wr.setCell ⟨g, k, none⟩ (.int .i64 (-1))).ownsRow w.heap.size 3 1 (.slice (some ⟨g, 0, none⟩) (20 + marks X) (20 + marks X)) (20 + marks X) (zI (List.replicate (k + 1) (-1)) ++ List.replicate (20 + marks X - (k + 1)) (.int .i64 0))) ∧ Below w.heap.size w (wr.setCell ⟨g, k, none⟩ (.int .i64 (-1))) ∧ Blk (wr.setCell ⟨g, k, none⟩ (.int .i64 (-1))) w.heap.size 57 #[.int .i64 (F : Nat), .int .i64 (S : Nat)])) := by
        refine Lib.hid (Lib.hid ⟨?_, HR.out.2.1.setCell (by show w.heap.size ≤ g; omega) _, HR.out.2.2.far (by show w.heap.size ≠ g; omega) _⟩)
        have := (World.ownsRow.stored HR.out.1 k (.int .i64 (-1))).1
        have e : (zI (List.replicate k (-1)) ++ List.replicate (20 + marks X - k) (Value.int .i64 0)).set k (Value.int .i64 (-1)) = (zI (List.replicate (k + 1) (-1)) ++ List.replicate (20 + marks X - (k + 1)) (Value.int .i64 0)) := by
          rw [show 20 + marks X - k = (20 + marks X - (k + 1)) + 1 by omega, List.replicate_succ, List.set_append_right _ _ (by simp [zI])]
          simp [zI, List.replicate_succ', List.append_assoc]
        rw [e] at this
        exact this
      clear hka HR
      go_wp2
      go_roundw
      case rel => exact ⟨k + 1, hlt, by go_num, HK.out⟩
      case measure => simp [intOf]; omega
    · have hlti : ¬ (k : Int) < 20 + (marks X : Int) := by omega
      obtain rfl : k = 20 + marks X := by omega
      obtain ⟨h1, h2, h3⟩ := HR.out
      have b0 := h3.cell 0
      have b1 := h3.cell 1
      clear HR
      go_wp2
      go_ret
      have hsl : (startM X).sl.length = 20 + marks X := by simp [startM]
      rw [Nat.sub_self, List.replicate_zero, List.append_nil] at h1
      refine ⟨_, rfl, ⟨_, Blk.new wr _ _, h2.size, ?_, World.ownsRow_nil _ _ _ _, World.ownsRow_nil _ _ _ _⟩, h2.alloc h2.size _⟩
      rw [hsl]
      exact own_kept h1 fun i hi _ _ => Below.heap_alloc _ _ _ hi

set_option maxRecDepth 100000 in
set_option maxHeartbeats 4000000 in
theorem result_no {k : Nat} (h : Mch n₀ w mb cv uv F S s V1 V2 V3) (hk : k ≠ 1) : Calls Tryz.prog 44 #[.pointer (some ⟨mb, 0, none⟩), .int .i64 (k : Nat)] w fun e w' => e = .returned (.agg #[.int .i64 (k : Nat), .int .i64 (s.steps : Nat), .int .i64 (s.deep : Nat), .slice none 0 0]) ∧ Below w.heap.size w w' := by
  obtain ⟨_, _, _, _, k4, k5, k6, _⟩ := h.c9
  go_enter Tryz.func44, Tryz.ntmps44
  have hk1 : ((k : Int) == 1) = false := beq_false_of_ne (by omega)
  have hk2 : ¬ ((k : Int) = 1) := by omega
  have hmb := h.blk.lt
  go_wp2
  go_region
  go_wp2
  refine bodyPost_ret (v := .agg #[.int .i64 k, .int .i64 s.steps, .int .i64 s.deep, .slice none 0 0]) (by simp [results, Tryz.results44, go_sem]) rfl ⟨rfl, ?_⟩
  exact (((Below.refl _ _).alloc (Nat.le_refl _) _).alloc (by simp) _).drew

set_option maxHeartbeats 1000000 in
theorem cloneI_any {g n c : Nat} {l : List Int} (hl : l.length = n) (hn : n ≤ 100000) (hgl : g < w.heap.size) (hcell : ∀ j, j < n → w.cell? ⟨g, j, none⟩ = (zI l)[j]?) :
    Calls Tryz.prog 66 #[.slice (some ⟨g, 0, none⟩) n c] w fun e w' => ∃ v', e = .returned v' ∧ w'.ownsRow w.heap.size 3 1 v' n (zI l) ∧ Below w.heap.size w w' := by
  obtain ⟨i3, hi, hz0, hz1, hz2⟩ := info_three Cl.info3
  have q : ∀ (w : World) (a : Option Addr) (n c n' c' : Nat), (binOp .eql 48 (.slice a n c) (.slice none n' c')).run Tryz.prog w = .ok (.bool a.isNone) w := fun w a n c n' c' => Lib.run_eql_slice_nil w _ _ a n c n' c' Tryz.underlying48
  have hB := (Below.refl w.heap.size w).alloc (Nat.le_refl _) (.cells #[] 3)
  have hO : (w.alloc (.cells #[] 3)).ownsRow w.heap.size 3 1 (.slice (some ⟨w.heap.size, 0, none⟩) 0 0) 0 [] := World.ownsRow_made w #[] 0 (Nat.le_refl _) (by unfold maxLen; omega) (by simp)
  have hcl : ∀ j u, (zI l)[j]? = some u → (w.alloc (.cells #[] 3)).cell? ((⟨g, 0, none⟩ : Addr).add j) = some u := by
    intro j u hu
    have hj : j < n := by have := (List.getElem?_eq_some_iff.1 hu).1; simpa [zI, hl] using this
    have hadd : (⟨g, 0, none⟩ : Addr).add j = ⟨g, j, none⟩ := by unfold Addr.add; split <;> simp_all
    rw [hadd]
    exact (hB.cell (p := ⟨g, j, none⟩) hgl).trans ((hcell j hj).trans hu)
  have h1c : ∀ u ∈ zI l, u.oneCell' = true := by
    intro u hu
    simp only [zI, List.mem_map] at hu
    obtain ⟨x, _, rfl⟩ := hu
    rfl
  have hzl : (zI l).length = n * 1 := by simp [zI, hl]
  clear hcell
  go_enter Tryz.func66, Tryz.ntmps66
  go_wp2_with (at_builtin; refine wpList_append_own_at _ rfl _ _ 48 rfl w.heap.size 3 i3 (.int .i64 0) 1 8 Tryz.underlying48 hi hz0 hz1 hz2 rfl (by decide) _ 0 [] rfl hO ⟨g, 0, none⟩ n c (zI l) rfl hzl hcl h1c (by unfold maxLen; omega) (by omega) (by simp) ?_; intro v' w1 hown' hgrow _ _)
  go_ret
  rw [Nat.zero_add, List.nil_append] at hown'
  exact ⟨_, rfl, hown', Cl.below_append hB hO (Nat.le_refl _) hgrow (by simp)⟩

set_option maxRecDepth 100000 in
set_option maxHeartbeats 4000000 in
theorem result_yes (h : Mch n₀ w mb cv uv F S s V1 V2 V3) (hl : 20 ≤ s.sl.length) : Calls Tryz.prog 44 #[.pointer (some ⟨mb, 0, none⟩), .int .i64 1] w fun e w' => ∃ V, e = .returned (.agg #[.int .i64 1, .int .i64 (s.steps : Nat), .int .i64 (s.deep : Nat), V]) ∧ w'.ownsRow w.heap.size 3 1 V 20 (zI (s.sl.take 20)) ∧ Below w.heap.size w w' := by
  obtain ⟨_, _, _, _, k4, k5, k6, _⟩ := h.c9
  have hmb := h.blk.lt
  rcases own_at h.sl with ⟨_, h0⟩ | ⟨g, c, rfl, hc, _, ⟨cs, z, hg⟩, hcell, _⟩
  · omega
  have hgl := lt_of_some hg
  have hli : (20 : Int) ≤ (s.sl.length : Int) := by omega
  have hci : (20 : Int) ≤ (c : Int) := by omega
  have HC := Lib.hid (fun (W : World) (hb : Below w.heap.size w W) => cloneI_any (c := c) (w := W) (l := s.sl.take 20) (n := 20) (g := g) (by simp; omega) (by omega) (Nat.lt_of_lt_of_le hgl hb.size) (fun j hj => by
    refine (hb.cell (p := ⟨g, j, none⟩) hgl).trans ((hcell j (by omega)).trans ?_)
    simp only [zI, List.map_take]
    rw [List.getElem?_take_of_lt hj]))
  have HB0 := Lib.hid ((((Below.refl w.heap.size w).alloc (Nat.le_refl _) (.cells #[.int .i64 0, .int .i64 0, .int .i64 0, .slice none 0 0] 51)).alloc (by simp) (.cells #[.int .i64 1, .int .i64 (s.steps : Nat), .int .i64 (s.deep : Nat), .slice none 0 0] 51)).drew)
  clear hcell
  go_enter Tryz.func44, Tryz.ntmps44
  go_wp2
  go_region
  go_wp2_with fail
  refine (HC.out _ HB0.out).mono ?_
  rintro e w1 ⟨v', rfl, hown, hb1⟩
  have HB1 := Lib.hid (HB0.out.trans (hb1.mono (by have := HB0.out.size; exact this)))
  have hr0 : Blk w1 w.heap.size 51 #[.int .i64 0, .int .i64 0, .int .i64 0, .slice none 0 0] := (hb1.block _ (by simp; omega)).trans ((Blk.new w 51 _).alloc _)
  have hr1 : Blk w1 (w.heap.size + 1) 51 #[.int .i64 1, .int .i64 (s.steps : Nat), .int .i64 (s.deep : Nat), .slice none 0 0] := (hb1.block _ (by simp)).trans (Blk.new_at (w.alloc (.cells #[.int .i64 0, .int .i64 0, .int .i64 0, .slice none 0 0] 51)) (w.heap.size + 1) (by simp) 51 _)
  have hown0 : w1.ownsRow w.heap.size 3 1 v' 20 (zI (s.sl.take 20)) := hown.mono (by simp; omega)
  have c0 := hr0.cell 0
  have c1 := hr0.cell 1
  have c2 := hr0.cell 2
  have c3 := hr0.cell 3
  have d0 := hr1.cell 0
  have d1 := hr1.cell 1
  have d2 := hr1.cell 2
  have d3 := hr1.cell 3
  have f3 := hr1.frozen 3
  have g0 := hr0.frozen 0
  have g1 := hr0.frozen 1
  have g2 := hr0.frozen 2
  have g3 := hr0.frozen 3
  have hs1 := hr1.lt
  rcases own_at hown0 with ⟨_, h0⟩ | ⟨g', c', rfl, _⟩
  · omega
  have HO := Lib.hid hown0
  have HR0 := Lib.hid (And.intro hr0 hr1)
  clear hown0 hown hb1 hr0 hr1 HB0 HC
  go_wp2
  refine bodyPost_ret (v := .agg #[.int .i64 1, .int .i64 s.steps, .int .i64 s.deep, .slice (some ⟨g', 0, none⟩) 20 c']) (by simp [results, Tryz.results44, go_sem, *]) rfl ⟨_, rfl, ?_, ?_⟩
  · refine own_kept HO.out fun i hi _ ⟨cs, z, hh⟩ => ?_
    have n0 : i ≠ w.heap.size := fun e => ne_of_types HR0.out.1 hh (by decide) e.symm
    have n1 : i ≠ w.heap.size + 1 := fun e => ne_of_types HR0.out.2 hh (by decide) e.symm
    rw [Below.heap_setCell _ _ _ _ n0, Below.heap_setCell _ _ _ _ n0, Below.heap_setCell _ _ _ _ n0, Below.heap_setCell _ _ _ _ n0, Below.heap_setCell _ _ _ _ n1]
  · exact ((((HB1.out.setCell (by simp) _).setCell (by simp) _).setCell (by simp) _).setCell (by simp) _).setCell (by simp) _

end Go.Proofs.YtdbddbelhgkelaaGreatDoor

/- The machine: what Run and Find answer. -/
namespace Go.Proofs.YtdbddbelhgkelaaGreatDoor
open Go.RowKit
open Go.Proofs.YtdbddbelhgkelaaGreatDoor.Cl (Rg SetV SetAt rgCells info_three hasB)
variable {w w' w0 : World} {n₀ mb F S : Nat} {cv uv V1 V2 V3 : Value} {s : Ms} {X : List In} {U : List Int}

theorem EnvV.on {w w' : World} (h : EnvV w cv uv X U) (hb : Below w.heap.size w w') : EnvV w' cv uv X U := ⟨h.pg.on hb, own_kept h.un fun i hi _ _ => hb.block i hi, h.le⟩

set_option maxRecDepth 100000 in
set_option maxHeartbeats 4000000 in
theorem vcheck_any (hE : EnvV w0 cv uv X U) (hF : 1 ≤ F ∧ F ≤ 1048576) (hS : S ≤ 4096) : Calls Tryz.prog 41 #[uv, .agg #[.int .i64 (F : Nat), .int .i64 (S : Nat)]] w fun e w' => e = .returned (.int .i64 0) ∧ Below w.heap.size w w' := by
  have HR := Lib.hid (fun (W : World) => right_any (w := W) hF hS)
  obtain ⟨Au, cu, rfl, hcu, _⟩ := hE.units (Below.refl _ _)
  have hle := hE.le
  clear hE
  have hli : (U.length : Int) ≤ 2000 := by omega
  have hln : ¬ 2000 < (U.length : Int) := by omega
  go_enter Tryz.func41, Tryz.ntmps41
  go_wp2_with fail
  refine (HR.out _).mono ?_
  rintro e w1 ⟨rfl, hb1⟩
  go_wp2
  go_ret
  exact ⟨rfl, ((Below.refl _ _).alloc (Nat.le_refl _) _).trans (hb1.mono (by simp))⟩

/-- What is told of a match that ended so. -/
def ResP (w : World) (r : Nat × Ms) (e : Ending) (w' : World) : Prop :=
  ∃ V, e = .returned (.tuple #[.agg #[.int .i64 (r.1 : Nat), .int .i64 (r.2.steps : Nat), .int .i64 (r.2.deep : Nat), V], .int .i64 0]) ∧ (r.1 = 1 → w'.ownsRow w.heap.size 3 1 V 20 (zI (r.2.sl.take 20))) ∧ (r.1 ≠ 1 → V = .slice none 0 0) ∧ Below w.heap.size w w'
theorem result_any {k : Nat} (h : Mch n₀ w mb cv uv F S s V1 V2 V3) (hl : 20 ≤ s.sl.length) : Calls Tryz.prog 44 #[.pointer (some ⟨mb, 0, none⟩), .int .i64 (k : Nat)] w fun e w' => ∃ V, e = .returned (.agg #[.int .i64 (k : Nat), .int .i64 (s.steps : Nat), .int .i64 (s.deep : Nat), V]) ∧ (k = 1 → w'.ownsRow w.heap.size 3 1 V 20 (zI (s.sl.take 20))) ∧ (k ≠ 1 → V = .slice none 0 0) ∧ Below w.heap.size w w' := by
  by_cases hk : k = 1
  · subst hk
    refine (result_yes h hl).mono ?_
    rintro e w1 ⟨V, rfl, ho, hb⟩
    exact ⟨V, rfl, fun _ => ho, fun h => absurd rfl h, hb⟩
  · refine (result_no h hk).mono ?_
    rintro e w1 ⟨rfl, hb⟩
    exact ⟨_, rfl, fun h => absurd h hk, fun _ => rfl, hb⟩
theorem fit_start : Fit X U S (startM X) := ⟨by simp [startM], Nat.zero_le _, fun c hc => by simp [startM] at hc, Nat.zero_le _, fun c hc => by simp [startM] at hc, List.Pairwise.nil, Nat.zero_le _⟩
theorem und_new : Und s s.cho.length s.chg.length ↔ ∀ (i : Nat) (c : Nat × Nat × Nat), i < s.cho.length → s.cho[i]? = some c → c.2.2 ≤ s.chg.length := by
  constructor
  · exact fun h i c hi hg => h.old i c hi hg
  · exact fun h => ⟨Nat.le_refl _, Nat.le_refl _, fun i c hi hg => by have := (List.getElem?_eq_some_iff.1 hg).1; omega, h⟩
theorem run_gone (hX : PrOk X) {k p : Nat} {tg : Int} (h : Fit X U S s) (h0 : 0 < X.length) (hp : p ≤ U.length) : Gone X U S s s.cho.length s.chg.length (runM X U F S k tg 0 p s) :=
  go_fit hX F k tg _ _ 0 p s h (und_new.2 fun _ c _ hg => (h.kept c (List.mem_of_getElem? hg)).2.2) h0 hp

set_option maxRecDepth 100000 in
set_option maxHeartbeats 4000000 in
theorem vrun_any {p : Nat} (hE : EnvV w cv uv X U) (hX : PrOk X) (h0 : 0 < X.length) (hF : 1 ≤ F ∧ F ≤ 1048576) (hS : S ≤ 4096) (hp : p ≤ U.length) :
    Calls Tryz.prog 39 #[cv, uv, .int .i64 (p : Nat), .agg #[.int .i64 (F : Nat), .int .i64 (S : Nat)]] w (ResP w ((runM X U F S F (-1) 0 p (startM X)).1, (runM X U F S F (-1) 0 p (startM X)).2.2)) := by
  have hmk := marks_le X
  have hXl := hX.1
  have HC := Lib.hid (fun (W : World) => vcheck_any (w := W) hE hF hS)
  have hpi : (p : Int) ≤ (U.length : Int) := by omega
  have hp0 : ¬ (U.length : Int) < (p : Int) := by omega
  have hp1 : ¬ (p : Int) < 0 := by omega
  obtain ⟨Au, cu, rfl, _, _⟩ := hE.units (Below.refl _ _)
  go_enter Tryz.func39, Tryz.ntmps39
  go_wp2_with fail
  refine (HC.out _).mono ?_
  rintro e w1 ⟨rfl, hb1⟩
  have HB1 : Hid (Below w.heap.size w w1) := Lib.hid ((((Below.refl _ _).alloc (Nat.le_refl _) _).alloc (by simp) _).trans (hb1.mono (by simp; omega)))
  have hs1 : w.heap.size + 2 ≤ w1.heap.size := by have := hb1.size; simp at this; omega
  have hr1 : Blk w1 (w.heap.size + 1) 51 #[.int .i64 0, .int .i64 0, .int .i64 0, .slice none 0 0] := (hb1.block _ (by simp)).trans (Blk.new_at (w.alloc (.cells #[.int .i64 (F : Nat), .int .i64 (S : Nat)] 57)) (w.heap.size + 1) (by simp) 51 _)
  have hx1 : Blk w1 w.heap.size 57 #[.int .i64 (F : Nat), .int .i64 (S : Nat)] := (hb1.block _ (by simp; omega)).trans ((Blk.new w 57 _).alloc _)
  have HR1 := Lib.hid hr1
  have HX1 := Lib.hid hx1
  have x0 := hx1.cell 0
  have x1 := hx1.cell 1
  have HE1 := Lib.hid (hE.on HB1.out)
  clear hr1 hx1 hb1 HC
  have hg := run_gone (F := F) (S := S) (k := F) (tg := -1) hX (fit_start (X := X) (U := U) (S := S)) h0 hp
  go_wp2_with fail
  refine (start_any (F := F) (S := S) HE1.out hXl (by omega)).mono ?_
  rintro e w2 ⟨mb, V1, rfl, hm, hb2⟩
  have HD := Lib.hid (do_any (mb := mb) (V1 := V1) HE1.out hX hF.2 hS F w2 (startM X) _ _ 0 p hb2 hm fit_start h0 hp (Nat.le_add_left _ _) (Nat.zero_le _))
  have HB2 := Lib.hid hb2
  generalize runM X U F S F (-1) 0 p (startM X) = r at *
  go_wp2_with fail
  refine HD.out.mono ?_
  rintro e w3 ⟨rfl, ⟨V2, V3, hm3⟩, hf3⟩
  have hb3 : Below w1.heap.size w2 w3 := hf3.old hb2.size
  have hl3 : 20 ≤ r.2.2.sl.length := by have := hg.fit.sl; omega
  have HB3 := Lib.hid (HB2.out.trans hb3)
  have hs3 : w1.heap.size ≤ w3.heap.size := HB3.out.size
  have HQ := Lib.hid (result_any (k := r.1) hm3 hl3)
  go_wp2_with fail
  refine HQ.out.mono ?_
  rintro e w4 ⟨V, rfl, h1, h2, hb4⟩
  obtain ⟨A, n, c, rfl⟩ : ∃ A n c, V = .slice A n c := by
    by_cases hk : r.1 = 1
    · rcases own_at (h1 hk) with ⟨_, h⟩ | ⟨g, c, rfl, _⟩
      · omega
      · exact ⟨_, _, _, rfl⟩
    · exact ⟨_, _, _, h2 hk⟩
  have HB4 : Hid (Below w1.heap.size w1 w4) := Lib.hid (HB3.out.trans (hb4.mono hs3))
  have hr4 : Blk w4 (w.heap.size + 1) 51 #[.int .i64 0, .int .i64 0, .int .i64 0, .slice none 0 0] := HR1.out.below HB4.out (by omega)
  have c0 := hr4.cell 0
  have c1 := hr4.cell 1
  have c2 := hr4.cell 2
  have c3 := hr4.cell 3
  have g0 := hr4.frozen 0
  have g1 := hr4.frozen 1
  have g2 := hr4.frozen 2
  have g3 := hr4.frozen 3
  have hs4 := hr4.lt
  go_wp2
  refine bodyPost_ret (v := .tuple #[.agg #[.int .i64 r.1, .int .i64 r.2.2.steps, .int .i64 r.2.2.deep, .slice A n c], .int .i64 0]) (by simp [results, Tryz.results39, go_sem, *]) rfl ⟨_, rfl, fun hk => ?_, h2, ?_⟩
  · refine own_kept ((h1 hk).mono (by omega)) fun i hi _ ⟨cs, z, hh⟩ => ?_
    have n0 : i ≠ w.heap.size + 1 := fun e => ne_of_types hr4 hh (by decide) e.symm
    rw [Below.heap_setCell _ _ _ _ n0, Below.heap_setCell _ _ _ _ n0, Below.heap_setCell _ _ _ _ n0, Below.heap_setCell _ _ _ _ n0]
  · exact ((((HB1.out.trans (HB4.out.mono (by omega))).setCell (by simp) _).setCell (by simp) _).setCell (by simp) _).setCell (by simp) _

end Go.Proofs.YtdbddbelhgkelaaGreatDoor

/- The machine: what Find answers. -/
namespace Go.Proofs.YtdbddbelhgkelaaGreatDoor
open Go.RowKit
open Go.Proofs.YtdbddbelhgkelaaGreatDoor.Cl (Rg SetV SetAt rgCells info_three hasB)
variable {w w' w0 : World} {n₀ mb F S : Nat} {cv uv V1 V2 V3 : Value} {s : Ms} {X : List In} {U : List Int}

/-- Where a search is. -/
structure Fnd (w1 w2 : World) (mb : Nat) (cv uv V1 : Value) (F S : Nat) (X : List In) (U : List Int) (R : Nat × Ms) (p k : Nat) (s : Ms) (wr : World) : Prop where
  mch : ∃ V2 V3, Mch w1.heap.size wr mb cv uv F S s V1 V2 V3
  fit : Fit X U S s
  sF : s.steps ≤ F
  pos : p ≤ U.length + 1
  kind : k ≤ 2
  bel : Below w1.heap.size w1 wr
  ans : (if k = 0 then findM X U F S (U.length + 1 - p) p s else (k, s)) = R
variable {w1 w2 wr : World} {R : Nat × Ms} {p k : Nat}
theorem Fnd.next (hX : PrOk X) (h0 : 0 < X.length) (h : Fnd w1 w2 mb cv uv V1 F S X U R p 0 s wr) (hp : p ≤ U.length) {r : Nat × Nat × Ms} (hr : runM X U F S F (-1) 0 p s = r) (hm : ∃ V2 V3, Mch w1.heap.size w' mb cv uv F S r.2.2 V1 V2 V3) (hf : FrV w1.heap.size mb mb wr w') : Fnd w1 w2 mb cv uv V1 F S X U R (p + 1) r.1 r.2.2 w' := by
  have hg := run_gone (F := F) (S := S) (k := F) (tg := -1) hX h.fit h0 hp
  have hu := go_up (X := X) (U := U) (S := S) (fuel := F) F (-1) s.cho.length s.chg.length 0 p s h.sF
  have ha := h.ans
  rw [hr] at hg
  rw [if_pos rfl, show U.length + 1 - p = (U.length - p) + 1 by omega, findM, hr] at ha
  refine ⟨hm, hg.fit, ?_, by omega, hg.kind, h.bel.trans (hf.old h.bel.size), ?_⟩
  · have e : (goM X U F S F (-1) s.cho.length s.chg.length 0 p s) = r := hr
    rw [e] at hu
    exact hu
  · rw [show U.length + 1 - (p + 1) = U.length - p by omega]
    exact ha
theorem Fnd.done (h : Fnd w1 w2 mb cv uv V1 F S X U R p k s wr) (hk : k ≠ 0 ∨ U.length < p) : R = (k, s) := by
  have ha := h.ans
  have hp := h.pos
  by_cases h0 : k = 0
  · rw [if_pos h0, show U.length + 1 - p = 0 by omega] at ha
    rw [h0]
    exact ha.symm
  · rw [if_neg h0] at ha
    exact ha.symm

set_option maxRecDepth 100000 in
set_option maxHeartbeats 4000000 in
theorem vfind_any (hE : EnvV w cv uv X U) (hX : PrOk X) (h0 : 0 < X.length) (hF : 1 ≤ F ∧ F ≤ 1048576) (hS : S ≤ 4096) :
    Calls Tryz.prog 19 #[cv, uv, .agg #[.int .i64 (F : Nat), .int .i64 (S : Nat)]] w (ResP w (findM X U F S (U.length + 1) 0 (startM X))) := by
  have hmk := marks_le X
  have hXl := hX.1
  have HC := Lib.hid (fun (W : World) => vcheck_any (w := W) hE hF hS)
  obtain ⟨Au, cu, rfl, _, _⟩ := hE.units (Below.refl _ _)
  go_enter Tryz.func19, Tryz.ntmps19
  go_wp2_with fail
  refine (HC.out _).mono ?_
  rintro e w1 ⟨rfl, hb1⟩
  have HB1 : Hid (Below w.heap.size w w1) := Lib.hid ((((Below.refl _ _).alloc (Nat.le_refl _) _).alloc (by simp) _).trans (hb1.mono (by simp; omega)))
  have hs1 : w.heap.size + 2 ≤ w1.heap.size := by have := hb1.size; simp at this; omega
  have hr1 : Blk w1 (w.heap.size + 1) 51 #[.int .i64 0, .int .i64 0, .int .i64 0, .slice none 0 0] := (hb1.block _ (by simp)).trans (Blk.new_at (w.alloc (.cells #[.int .i64 (F : Nat), .int .i64 (S : Nat)] 57)) (w.heap.size + 1) (by simp) 51 _)
  have hx1 : Blk w1 w.heap.size 57 #[.int .i64 (F : Nat), .int .i64 (S : Nat)] := (hb1.block _ (by simp; omega)).trans ((Blk.new w 57 _).alloc _)
  have HR1 := Lib.hid hr1
  have HX1 := Lib.hid hx1
  have x0 := hx1.cell 0
  have x1 := hx1.cell 1
  have HE1 := Lib.hid (hE.on HB1.out)
  clear hr1 hx1 hb1 HC
  go_wp2_with fail
  refine (start_any (F := F) (S := S) HE1.out hXl (by omega)).mono ?_
  rintro e w2 ⟨mb, V1, rfl, hm, hb2⟩
  have HFn : Hid (Fnd w1 w2 mb cv (.slice Au U.length cu) V1 F S X U (findM X U F S (U.length + 1) 0 (startM X)) 0 0 (startM X) w2) := Lib.hid ⟨⟨_, _, hm⟩, fit_start, Nat.zero_le _, Nat.zero_le _, Nat.zero_le _, hb2, by rw [if_pos rfl, Nat.sub_zero]⟩
  generalize findM X U F S (U.length + 1) 0 (startM X) = R at *
  clear hm hb2 x0 x1
  go_wp2
  go_loopw [10, 11] (fun kd i wr => ∃ (k p : Nat) (s : Ms), kd = .int .i64 k ∧ i = .int .i64 p ∧ Hid (Fnd w1 w2 mb cv (.slice Au U.length cu) V1 F S X U R p k s wr)) (fun _ i _ => U.length + 1 - (intOf i).toNat)
  case atStart => exact ⟨0, 0, _, rfl, rfl, HFn⟩
  case round =>
    obtain ⟨k, p, s, rfl, rfl, HF⟩ := hrel
    have hp := HF.out.pos
    have hpl : (p : Int) ≤ 2001 := by have := hE.le; omega
    by_cases hgo : p ≤ U.length ∧ k = 0
    · obtain ⟨hle, rfl⟩ := hgo
      have hlei : (p : Int) ≤ (U.length : Int) := by omega
      obtain ⟨V2, V3, hm⟩ := HF.out.mch
      have HD := Lib.hid (do_any (mb := mb) (V1 := V1) HE1.out hX hF.2 hS F wr s V2 V3 0 p HF.out.bel hm HF.out.fit h0 hle (Nat.le_add_left _ _) HF.out.sF)
      obtain ⟨r, hr⟩ : ∃ r, runM X U F S F (-1) 0 p s = r := ⟨_, rfl⟩
      rw [hr] at HD
      have HN := Lib.hid (fun (w' : World) hm hf => HF.out.next (w' := w') hX h0 hle hr hm hf)
      clear hm hr
      go_wp2_with fail
      refine HD.out.mono ?_
      rintro e w3 ⟨rfl, hm3, hf3⟩
      have HF3 := Lib.hid (HN.out w3 hm3 hf3)
      clear hm3 hf3 HN HD
      go_wp2
      go_roundw
      case rel => exact ⟨r.1, p + 1, r.2.2, rfl, by go_num, HF3⟩
      case measure => simp [intOf]; omega
    · have hR := HF.out.done (by omega)
      subst hR
      obtain ⟨V2, V3, hm⟩ := HF.out.mch
      have hl3 : 20 ≤ s.sl.length := by have := HF.out.fit.sl; omega
      have HQ := Lib.hid (result_any (k := k) hm hl3)
      have HB3 := Lib.hid HF.out.bel
      have hs3 : w1.heap.size ≤ wr.heap.size := HB3.out.size
      have hb : (decide ((p : Int) ≤ (U.length : Int)) && ((k : Int) == 0)) = false := by
        by_cases h1 : p ≤ U.length
        · have h2 : k ≠ 0 := fun e => hgo ⟨h1, e⟩
          have : ((k : Int) == 0) = false := beq_false_of_ne (by omega)
          rw [this, Bool.and_false]
        · rw [decide_eq_false (by omega), Bool.false_and]
      clear hm HF
      go_wp2_with fail
      all_goals
        refine HQ.out.mono ?_
        rintro e w4 ⟨V, rfl, h1, h2, hb4⟩
        obtain ⟨A, n, c, rfl⟩ : ∃ A n c, V = .slice A n c := by
          by_cases hk : k = 1
          · rcases own_at (h1 hk) with ⟨_, h⟩ | ⟨g, c, rfl, _⟩
            · omega
            · exact ⟨_, _, _, rfl⟩
          · exact ⟨_, _, _, h2 hk⟩
        have HB4 : Hid (Below w1.heap.size w1 w4) := Lib.hid (HB3.out.trans (hb4.mono hs3))
        have hr4 : Blk w4 (w.heap.size + 1) 51 #[.int .i64 0, .int .i64 0, .int .i64 0, .slice none 0 0] := HR1.out.below HB4.out (by omega)
        have c0 := hr4.cell 0
        have c1 := hr4.cell 1
        have c2 := hr4.cell 2
        have c3 := hr4.cell 3
        have g0 := hr4.frozen 0
        have g1 := hr4.frozen 1
        have g2 := hr4.frozen 2
        have g3 := hr4.frozen 3
        have hs4 := hr4.lt
        go_wp2
        refine bodyPost_ret (v := .tuple #[.agg #[.int .i64 k, .int .i64 s.steps, .int .i64 s.deep, .slice A n c], .int .i64 0]) (by simp [results, Tryz.results19, go_sem, *]) rfl ⟨_, rfl, fun hk => ?_, h2, ?_⟩
        · refine own_kept ((h1 hk).mono (by omega)) fun i hi _ ⟨cs, z, hh⟩ => ?_
          have n0 : i ≠ w.heap.size + 1 := fun e => ne_of_types hr4 hh (by decide) e.symm
          rw [Below.heap_setCell _ _ _ _ n0, Below.heap_setCell _ _ _ _ n0, Below.heap_setCell _ _ _ _ n0, Below.heap_setCell _ _ _ _ n0]
        · exact ((((HB1.out.trans (HB4.out.mono (by omega))).setCell (by simp) _).setCell (by simp) _).setCell (by simp) _).setCell (by simp) _

end Go.Proofs.YtdbddbelhgkelaaGreatDoor

