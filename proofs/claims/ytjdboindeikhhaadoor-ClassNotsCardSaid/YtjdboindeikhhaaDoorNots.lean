/- ClassNots: what a set hasn't is just that; twice it is the set again; together they are all. -/
import Derived.Test.YtjdboindeikhhaaDoorLawKit
import Derived.Test.YtjdboindeikhhaaDoorEdges
namespace Go.Proofs.YtjdboindeikhhaaDoor
open Go.RowKit

set_option maxRecDepth 100000 in
set_option maxHeartbeats 4000000 in
theorem nots_main (v : Value) (s : List Rg) (ask : Int) (w : World) (hL : LU w.heap.size w) (hs : SetV w.heap.size w v s) (h40 : s.length ≤ 40) (hn : Norm s) :
    Calls Tryd.prog 4 #[v, .int .i64 ask] w fun e w' => e = .returned (.bool true) ∧ Below w.heap.size w w' := by
  have E := Lib.hid (env_start hs)
  have b1 := normB_true hn
  have HN := Lib.hid hn
  clear hn
  have HL := Lib.hid hL
  obtain ⟨A1, cap1, rfl, _, _⟩ := id hs
  clear hs hL
  go_enter Tryd.func4, Tryd.ntmps4
  go_wp2_with fail
  refine (anchor_any _ HL.out).mono ?_
  rintro e w1 ⟨rfl, hb⟩
  replace E := Lib.hid (E.out.step hb)
  clear hb
  go_wp2_with fail
  refine (ranges_gives _ s _ (by omega) (E.out.get _ s (by simp))).mono ?_
  rintro e w2 ⟨vx, rfl, hS, hb⟩
  replace E := Lib.hid ((E.out.step hb).add hS)
  clear hb hS
  go_wp2_with fail
  refine (not_right _ s _ (by omega) (E.out.get _ s (by simp)) HN.out).mono ?_
  rintro e w2 ⟨vm, m, rfl, hS, ⟨hna, hha, hlm⟩, hb⟩
  replace E := Lib.hid ((E.out.step hb).add hS)
  have Hm := Lib.hid (And.intro hna hha)
  clear hb hS hna hha
  go_wp2_with fail
  refine (normal_any _ s _ (by omega) (E.out.get _ s (by simp))).mono ?_
  rintro e w2 ⟨rfl, hb⟩
  replace E := Lib.hid (E.out.step hb)
  clear hb
  go_wp2_with fail
  refine (refNormal_any _ s _ (by omega) (E.out.get _ s (by simp))).mono ?_
  rintro e w2 ⟨rfl, hb⟩
  replace E := Lib.hid (E.out.step hb)
  clear hb
  go_wp2_with fail
  refine (setHas_any _ s ask _ (by omega) (E.out.get _ s (by simp))).mono ?_
  rintro e w2 ⟨rfl, hb⟩
  replace E := Lib.hid (E.out.step hb)
  clear hb
  go_wp2_with fail
  refine (refHas_any _ s ask _ (by omega) (E.out.get _ s (by simp))).mono ?_
  rintro e w2 ⟨rfl, hb⟩
  replace E := Lib.hid (E.out.step hb)
  clear hb
  go_wp2_with fail
  refine (refNormal_any _ s _ (by omega) (E.out.get _ s (by simp))).mono ?_
  rintro e w2 ⟨rfl, hb⟩
  replace E := Lib.hid (E.out.step hb)
  clear hb
  go_wp2_with fail
  refine (edges_any _ _ s [] _ (by omega) (by simp) (E.out.get _ s (by simp)) (SetV.nil _ _) (by simpa using HN.out.1)).mono ?_
  rintro e wE ⟨ve, L0, rfl, hO, hL0, hbE⟩
  have hbs := hbE.size
  have hbA := hbE.alloc hbs (.cells #[.int .i64 ask] 3)
  obtain ⟨i3, ji, jz0, jz1, jz2⟩ := info_three info3
  go_wp2_with (at_builtin; refine wpList_append_int _ rfl _ _ 36 rfl _ i3 Tryd.underlying36 ji jz0 jz1 jz2 _ _ rfl (hO.alloc _) wE.heap.size 1 ask rfl (cell_one_at _ _ _ _ rfl) (by omega) hbA.size ?_; intro vf wF hOf hgf hatf; obtain ⟨AF, cF, rfl, hcF⟩ := hOf.form)
  have hbF := below_append hbA (hO.alloc _) (Nat.le_refl _) hgf hbA.size
  replace E := Lib.hid (E.out.step hbF)
  clear hatf hgf hbF hbA hbE hbs hO ji jz0 jz1 jz2
  go_loopw [59] (fun i wr => ∃ k : Nat, k ≤ L0.length + 1 ∧ i = .int .i64 k ∧ Below wF.heap.size wF wr) (fun i _ => L0.length + 1 - (intOf i).toNat)
  case atStart => exact ⟨0, Nat.zero_le _, rfl, Below.refl _ _⟩
  case round =>
    obtain ⟨k, hk, rfl, hbel⟩ := hrel
    replace E := Lib.hid (E.out.step hbel)
    by_cases hlt : k < L0.length + 1
    · obtain ⟨g, n, rfl, hg1, hg2, hget, hc⟩ := (hOf.below hbel).at_ (show k < (L0 ++ [ask]).length by simp; omega)
      have hltc : (k : Int) < (L0.length : Int) + 1 := by omega
      clear hget
      have hm := Hm.out.2 n
      by_cases h0 : 0 ≤ n
      · by_cases h9 : n ≤ 1114367
        · rw [show inAll n = true by simp [inAll, h0, h9], Bool.true_and] at hm
          go_wp2_with fail
          refine (setHas_any _ m n _ (by omega) (E.out.get _ m (by simp))).mono ?_
          rintro e w2 ⟨rfl, hb⟩
          replace E := Lib.hid (E.out.step hb)
          replace hbel := hbel.trans (hb.mono hbel.size)
          clear hb
          go_wp2_with fail
          refine (refHas_any _ s n _ (by omega) (E.out.get _ s (by simp))).mono ?_
          rintro e w2 ⟨rfl, hb⟩
          replace E := Lib.hid (E.out.step hb)
          replace hbel := hbel.trans (hb.mono hbel.size)
          clear hb
          go_wp2
          go_roundw
          case rel => exact ⟨k + 1, by omega, by go_num, hbel⟩
          case measure => simp [intOf]; omega
        · rw [show inAll n = false by simp [inAll, h9], Bool.false_and] at hm
          go_wp2_with fail
          refine (setHas_any _ m n _ (by omega) (E.out.get _ m (by simp))).mono ?_
          rintro e w2 ⟨rfl, hb⟩
          replace E := Lib.hid (E.out.step hb)
          replace hbel := hbel.trans (hb.mono hbel.size)
          clear hb
          go_wp2
          go_roundw
          case rel => exact ⟨k + 1, by omega, by go_num, hbel⟩
          case measure => simp [intOf]; omega
      · rw [show inAll n = false by simp [inAll, h0], Bool.false_and] at hm
        go_wp2_with fail
        refine (setHas_any _ m n _ (by omega) (E.out.get _ m (by simp))).mono ?_
        rintro e w2 ⟨rfl, hb⟩
        replace E := Lib.hid (E.out.step hb)
        replace hbel := hbel.trans (hb.mono hbel.size)
        clear hb
        go_wp2
        go_roundw
        case rel => exact ⟨k + 1, by omega, by go_num, hbel⟩
        case measure => simp [intOf]; omega
    · have hltc : ¬ (k : Int) < (L0.length : Int) + 1 := by omega
      go_wp2_with fail
      refine (not_right _ m _ (by omega) (E.out.get _ m (by simp)) Hm.out.1).mono ?_
      rintro e w2 ⟨vq, q, rfl, hS, ⟨hna, hha, hlq⟩, hb⟩
      replace E := Lib.hid ((E.out.step hb).add hS)
      have Hq := Lib.hid (And.intro hna hha)
      clear hb hS hna hha
      have b2 := normB_true Hm.out.1
      have q1 : sameB q s = true := sameB_of (not_not HN.out Hq.out.1 Hm.out.2 Hq.out.2)
      have q2 : countB s + countB m = 1114368 := not_count HN.out Hm.out.1 Hm.out.2
      obtain ⟨z1, z2⟩ := countB_bound HN.out
      obtain ⟨z3, z4⟩ := countB_bound Hm.out.1
      have z5 : countB s ≤ 1114368 := by omega
      have z6 : countB m ≤ 1114368 := by omega
      clear z2 z4
      go_wp2_with fail
      refine (normal_any _ m _ (by omega) (E.out.get _ m (by simp))).mono ?_
      rintro e w2 ⟨rfl, hb⟩
      replace E := Lib.hid (E.out.step hb)
      clear hb
      go_wp2_with fail
      refine (same_any _ _ q s _ (by omega) (by omega) (E.out.get _ q (by simp)) (E.out.get _ s (by simp))).mono ?_
      rintro e w2 ⟨rfl, hb⟩
      replace E := Lib.hid (E.out.step hb)
      clear hb
      go_wp2_with fail
      refine (count_any _ s _ (by omega) (E.out.get _ s (by simp))).mono ?_
      rintro e w2 ⟨rfl, hb⟩
      replace E := Lib.hid (E.out.step hb)
      clear hb
      go_wp2_with fail
      refine (count_any _ m _ (by omega) (E.out.get _ m (by simp))).mono ?_
      rintro e w2 ⟨rfl, hb⟩
      replace E := Lib.hid (E.out.step hb)
      clear hb
      go_wp2
      go_ret
      exact ⟨rfl, E.out.1⟩

set_option maxRecDepth 100000 in
set_option maxHeartbeats 4000000 in
theorem nots_wrong (v : Value) (s : List Rg) (ask : Int) (w : World) (hL : LU w.heap.size w) (hs : SetV w.heap.size w v s) (h40 : s.length ≤ 40) (hn : ¬ Norm s) :
    Calls Tryd.prog 4 #[v, .int .i64 ask] w fun e w' => e = .returned (.bool true) ∧ Below w.heap.size w w' := by
  have E := Lib.hid (env_start hs)
  have b1 := normB_false hn
  have b0 := countB_not hn
  have HN := Lib.hid hn
  clear hn
  have HL := Lib.hid hL
  obtain ⟨A1, cap1, rfl, _, _⟩ := id hs
  clear hs hL
  go_enter Tryd.func4, Tryd.ntmps4
  go_wp2_with fail
  refine (anchor_any _ HL.out).mono ?_
  rintro e w1 ⟨rfl, hb⟩
  replace E := Lib.hid (E.out.step hb)
  clear hb
  go_wp2_with fail
  refine (ranges_gives _ s _ (by omega) (E.out.get _ s (by simp))).mono ?_
  rintro e w2 ⟨vx, rfl, hS, hb⟩
  replace E := Lib.hid ((E.out.step hb).add hS)
  clear hb hS
  go_wp2_with fail
  refine (not_wrong _ s _ (by omega) (E.out.get _ s (by simp)) HN.out).mono ?_
  rintro e w2 ⟨rfl, hb⟩
  replace E := Lib.hid (E.out.step hb)
  clear hb
  go_wp2_with fail
  refine (normal_any _ s _ (by omega) (E.out.get _ s (by simp))).mono ?_
  rintro e w2 ⟨rfl, hb⟩
  replace E := Lib.hid (E.out.step hb)
  clear hb
  go_wp2_with fail
  refine (refNormal_any _ s _ (by omega) (E.out.get _ s (by simp))).mono ?_
  rintro e w2 ⟨rfl, hb⟩
  replace E := Lib.hid (E.out.step hb)
  clear hb
  go_wp2_with fail
  refine (setHas_any _ s ask _ (by omega) (E.out.get _ s (by simp))).mono ?_
  rintro e w2 ⟨rfl, hb⟩
  replace E := Lib.hid (E.out.step hb)
  clear hb
  go_wp2_with fail
  refine (refHas_any _ s ask _ (by omega) (E.out.get _ s (by simp))).mono ?_
  rintro e w2 ⟨rfl, hb⟩
  replace E := Lib.hid (E.out.step hb)
  clear hb
  go_wp2_with fail
  refine (refNormal_any _ s _ (by omega) (E.out.get _ s (by simp))).mono ?_
  rintro e w2 ⟨rfl, hb⟩
  replace E := Lib.hid (E.out.step hb)
  clear hb
  go_wp2_with fail
  refine (count_any _ s _ (by omega) (E.out.get _ s (by simp))).mono ?_
  rintro e w2 ⟨rfl, hb⟩
  replace E := Lib.hid (E.out.step hb)
  clear hb
  go_wp2
  go_ret
  exact ⟨rfl, E.out.1⟩

theorem classNots_law (v : Value) (s : List Rg) (ask : Int) (w : World) (hL : LU w.heap.size w) (hs : SetV w.heap.size w v s) (_hu : -9223372036854775808 ≤ ask ∧ ask ≤ 9223372036854775807) :
    Calls Tryd.prog 4 #[v, .int .i64 ask] w fun e w' => e = .returned (.bool true) ∧ Below w.heap.size w w' := by
  by_cases h40 : s.length ≤ 40
  · by_cases hn : Norm s
    · exact nots_main v s ask w hL hs h40 hn
    · exact nots_wrong v s ask w hL hs h40 hn
  · have h41 : (40 : Int) < s.length := by omega
    obtain ⟨A1, cap1, rfl, _, _⟩ := id hs
    go_enter Tryd.func4, Tryd.ntmps4
    go_wp2_with fail
    refine (anchor_any _ hL).mono ?_
    rintro e w1 ⟨rfl, hb⟩
    go_wp2
    go_ret
    exact ⟨rfl, hb⟩

end Go.Proofs.YtjdboindeikhhaaDoor
