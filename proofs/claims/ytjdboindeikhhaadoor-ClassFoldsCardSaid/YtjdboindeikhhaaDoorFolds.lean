/- ClassFolds: folded a set has its numbers, and their twins; folded again it is the same. -/
import Derived.Test.YtjdboindeikhhaaDoorLawKit
import Derived.Test.YtjdboindeikhhaaDoorEdges
import Derived.Test.YtjdboindeikhhaaDoorFold
namespace Go.Proofs.YtjdboindeikhhaaDoor
open Go.RowKit

theorem twin_back (u : Int) (w : World) (hL : LU w.heap.size w) : Calls Tryd.prog 25 #[.int .i64 (tw u)] w fun e w' => e = .returned (.int .i64 u) ∧ Below w.heap.size w w' := by
  have h := twin_any (tw u) w hL
  rwa [tw_tw] at h

set_option maxRecDepth 100000 in
set_option maxHeartbeats 4000000 in
theorem folds_main (v : Value) (s : List Rg) (ask : Int) (w : World) (hL : LU w.heap.size w) (hs : SetV w.heap.size w v s) (h40 : s.length ≤ 40) (hn : Norm s) :
    Calls Tryd.prog 6 #[v, .int .i64 ask] w fun e w' => e = .returned (.bool true) ∧ Below w.heap.size w w' := by
  have E := Lib.hid (env_start hs)
  have b1 := normB_true hn
  have HN := Lib.hid hn
  clear hn
  have HL := Lib.hid hL
  obtain ⟨A1, cap1, rfl, _, _⟩ := id hs
  clear hs hL
  go_enter Tryd.func6, Tryd.ntmps6
  go_wp2_with fail
  refine (anchor_any _ HL.out).mono ?_
  rintro e w1 ⟨rfl, hb⟩
  replace E := Lib.hid (E.out.step hb)
  clear hb
  go_wp2_with fail
  refine (ranges_gives _ s _ (by omega) (E.out.get _ s (by simp))).mono ?_
  rintro e w2 ⟨vx, rfl, hS, hb⟩
  replace E := Lib.hid ((E.out.step hb).add hS)
  clear hb hS
  go_wp2_with fail
  refine (fold_right _ s _ (by omega) ((HL.out.below E.out.1).more E.out.size) (E.out.get _ s (by simp)) HN.out).mono ?_
  rintro e w2 ⟨vf, f, rfl, hS, ⟨hna, hha, hlf⟩, hb⟩
  replace E := Lib.hid ((E.out.step hb).add hS)
  have Hf := Lib.hid (And.intro hna hha)
  clear hb hS hna hha
  go_wp2_with fail
  refine (twin_any ask _ ((HL.out.below E.out.1).more E.out.size)).mono ?_
  rintro e w2 ⟨rfl, hb⟩
  replace E := Lib.hid (E.out.step hb)
  clear hb
  go_wp2_with fail
  refine (refTwin_any ask _).mono ?_
  rintro e w2 ⟨rfl, hb⟩
  replace E := Lib.hid (E.out.step hb)
  clear hb
  go_wp2_with fail
  refine (twin_any ask _ ((HL.out.below E.out.1).more E.out.size)).mono ?_
  rintro e w2 ⟨rfl, hb⟩
  replace E := Lib.hid (E.out.step hb)
  clear hb
  have ht := Lib.hid (twin_back ask _ ((HL.out.below E.out.1).more E.out.size))
  go_wp2_with fail
  refine ht.out.mono ?_
  rintro e w2 ⟨rfl, hb⟩
  replace E := Lib.hid (E.out.step hb)
  clear hb ht
  go_wp2_with fail
  refine (refNormal_any _ s _ (by omega) (E.out.get _ s (by simp))).mono ?_
  rintro e w2 ⟨rfl, hb⟩
  replace E := Lib.hid (E.out.step hb)
  clear hb
  go_wp2_with fail
  refine (edges_any _ _ s [] _ (by omega) (by simp) (E.out.get _ s (by simp)) (SetV.nil _ _) (by simpa using HN.out.1)).mono ?_
  rintro e wE ⟨ve, L0, rfl, hO, hL0, hbE⟩
  have hbs := hbE.size
  have hbA := hbE.alloc hbs (.cells #[.int .i64 ask] 3)
  obtain ⟨i3, ji, jz0, jz1, jz2⟩ := info_three info3
  go_wp2_with (at_builtin; refine wpList_append_int _ rfl _ _ 36 rfl _ i3 Tryd.underlying36 ji jz0 jz1 jz2 _ _ rfl (hO.alloc _) wE.heap.size 1 ask rfl (cell_one_at _ _ _ _ rfl) (by omega) hbA.size ?_; intro vf wF hOf hgf hatf; obtain ⟨AF, cF, rfl, hcF⟩ := hOf.form)
  have hbF := below_append hbA (hO.alloc _) (Nat.le_refl _) hgf hbA.size
  replace E := Lib.hid (E.out.step hbF)
  clear hatf hgf hbF hbA hbE hbs hO ji jz0 jz1 jz2
  go_loopw [52] (fun i wr => ∃ k : Nat, k ≤ L0.length + 1 ∧ i = .int .i64 k ∧ Below wF.heap.size wF wr) (fun i _ => L0.length + 1 - (intOf i).toNat)
  case atStart => exact ⟨0, Nat.zero_le _, rfl, Below.refl _ _⟩
  case round =>
    obtain ⟨k, hk, rfl, hbel⟩ := hrel
    replace E := Lib.hid (E.out.step hbel)
    by_cases hlt : k < L0.length + 1
    · obtain ⟨g, n, rfl, hg1, hg2, hget, hc⟩ := (hOf.below hbel).at_ (show k < (L0 ++ [ask]).length by simp; omega)
      have hltc : (k : Int) < (L0.length : Int) + 1 := by omega
      clear hget
      have hf := Hf.out.2 n
      cases hsn : hasB s n
      · rw [hsn, Bool.false_or] at hf
        go_wp2_with fail
        refine (setHas_any _ f n _ (by omega) (E.out.get _ f (by simp))).mono ?_
        rintro e w2 ⟨rfl, hb⟩
        replace E := Lib.hid (E.out.step hb)
        replace hbel := hbel.trans (hb.mono hbel.size)
        clear hb
        go_wp2_with fail
        refine (refHas_any _ s n _ (by omega) (E.out.get _ s (by simp))).mono ?_
        rintro e w2 ⟨rfl, hb⟩
        replace E := Lib.hid (E.out.step hb)
        replace hbel := hbel.trans (hb.mono hbel.size)
        clear hb
        go_wp2_with fail
        refine (refTwin_any n _).mono ?_
        rintro e w2 ⟨rfl, hb⟩
        replace E := Lib.hid (E.out.step hb)
        replace hbel := hbel.trans (hb.mono hbel.size)
        clear hb
        go_wp2_with fail
        refine (refHas_any _ s (tw n) _ (by omega) (E.out.get _ s (by simp))).mono ?_
        rintro e w2 ⟨rfl, hb⟩
        replace E := Lib.hid (E.out.step hb)
        replace hbel := hbel.trans (hb.mono hbel.size)
        clear hb
        go_wp2
        go_roundw
        case rel => exact ⟨k + 1, by omega, by go_num, hbel⟩
        case measure => simp [intOf]; omega
      · rw [hsn, Bool.true_or] at hf
        go_wp2_with fail
        refine (setHas_any _ f n _ (by omega) (E.out.get _ f (by simp))).mono ?_
        rintro e w2 ⟨rfl, hb⟩
        replace E := Lib.hid (E.out.step hb)
        replace hbel := hbel.trans (hb.mono hbel.size)
        clear hb
        go_wp2_with fail
        refine (refHas_any _ s n _ (by omega) (E.out.get _ s (by simp))).mono ?_
        rintro e w2 ⟨rfl, hb⟩
        replace E := Lib.hid (E.out.step hb)
        replace hbel := hbel.trans (hb.mono hbel.size)
        clear hb
        go_wp2
        go_roundw
        case rel => exact ⟨k + 1, by omega, by go_num, hbel⟩
        case measure => simp [intOf]; omega
    · have hltc : ¬ (k : Int) < (L0.length : Int) + 1 := by omega
      go_wp2_with fail
      refine (fold_right _ f _ (by omega) ((HL.out.below E.out.1).more E.out.size) (E.out.get _ f (by simp)) Hf.out.1).mono ?_
      rintro e w2 ⟨vg, g, rfl, hS, ⟨hna, hha, hlg⟩, hb⟩
      replace E := Lib.hid ((E.out.step hb).add hS)
      have Hg := Lib.hid (And.intro hna hha)
      clear hb hS hna hha
      have b2 := normB_true Hf.out.1
      have q1 : sameB f g = true := sameB_of (fold_fold Hf.out.1 Hg.out.1 Hf.out.2 Hg.out.2)
      go_wp2_with fail
      refine (normal_any _ f _ (by omega) (E.out.get _ f (by simp))).mono ?_
      rintro e w2 ⟨rfl, hb⟩
      replace E := Lib.hid (E.out.step hb)
      clear hb
      go_wp2_with fail
      refine (same_any _ _ f g _ (by omega) (by omega) (E.out.get _ f (by simp)) (E.out.get _ g (by simp))).mono ?_
      rintro e w2 ⟨rfl, hb⟩
      replace E := Lib.hid (E.out.step hb)
      clear hb
      go_wp2
      go_ret
      exact ⟨rfl, E.out.1⟩

set_option maxRecDepth 100000 in
set_option maxHeartbeats 4000000 in
theorem folds_wrong (v : Value) (s : List Rg) (ask : Int) (w : World) (hL : LU w.heap.size w) (hs : SetV w.heap.size w v s) (h40 : s.length ≤ 40) (hn : ¬ Norm s) :
    Calls Tryd.prog 6 #[v, .int .i64 ask] w fun e w' => e = .returned (.bool true) ∧ Below w.heap.size w w' := by
  have E := Lib.hid (env_start hs)
  have b1 := normB_false hn
  have HN := Lib.hid hn
  clear hn
  have HL := Lib.hid hL
  obtain ⟨A1, cap1, rfl, _, _⟩ := id hs
  clear hs hL
  go_enter Tryd.func6, Tryd.ntmps6
  go_wp2_with fail
  refine (anchor_any _ HL.out).mono ?_
  rintro e w1 ⟨rfl, hb⟩
  replace E := Lib.hid (E.out.step hb)
  clear hb
  go_wp2_with fail
  refine (ranges_gives _ s _ (by omega) (E.out.get _ s (by simp))).mono ?_
  rintro e w2 ⟨vx, rfl, hS, hb⟩
  replace E := Lib.hid ((E.out.step hb).add hS)
  clear hb hS
  go_wp2_with fail
  refine (fold_wrong _ s _ (by omega) (E.out.get _ s (by simp)) HN.out).mono ?_
  rintro e w2 ⟨rfl, hb⟩
  replace E := Lib.hid (E.out.step hb)
  clear hb
  go_wp2_with fail
  refine (twin_any ask _ ((HL.out.below E.out.1).more E.out.size)).mono ?_
  rintro e w2 ⟨rfl, hb⟩
  replace E := Lib.hid (E.out.step hb)
  clear hb
  go_wp2_with fail
  refine (refTwin_any ask _).mono ?_
  rintro e w2 ⟨rfl, hb⟩
  replace E := Lib.hid (E.out.step hb)
  clear hb
  go_wp2_with fail
  refine (twin_any ask _ ((HL.out.below E.out.1).more E.out.size)).mono ?_
  rintro e w2 ⟨rfl, hb⟩
  replace E := Lib.hid (E.out.step hb)
  clear hb
  have ht := Lib.hid (twin_back ask _ ((HL.out.below E.out.1).more E.out.size))
  go_wp2_with fail
  refine ht.out.mono ?_
  rintro e w2 ⟨rfl, hb⟩
  replace E := Lib.hid (E.out.step hb)
  clear hb ht
  go_wp2_with fail
  refine (refNormal_any _ s _ (by omega) (E.out.get _ s (by simp))).mono ?_
  rintro e w2 ⟨rfl, hb⟩
  replace E := Lib.hid (E.out.step hb)
  clear hb
  go_wp2
  go_ret
  exact ⟨rfl, E.out.1⟩

theorem classFolds_law (v : Value) (s : List Rg) (ask : Int) (w : World) (hL : LU w.heap.size w) (hs : SetV w.heap.size w v s) (_hu : -9223372036854775808 ≤ ask ∧ ask ≤ 9223372036854775807) :
    Calls Tryd.prog 6 #[v, .int .i64 ask] w fun e w' => e = .returned (.bool true) ∧ Below w.heap.size w w' := by
  by_cases h40 : s.length ≤ 40
  · by_cases hn : Norm s
    · exact folds_main v s ask w hL hs h40 hn
    · exact folds_wrong v s ask w hL hs h40 hn
  · have h41 : (40 : Int) < s.length := by omega
    obtain ⟨A1, cap1, rfl, _, _⟩ := id hs
    go_enter Tryd.func6, Tryd.ntmps6
    go_wp2_with fail
    refine (anchor_any _ hL).mono ?_
    rintro e w1 ⟨rfl, hb⟩
    go_wp2
    go_ret
    exact ⟨rfl, hb⟩

end Go.Proofs.YtjdboindeikhhaaDoor
