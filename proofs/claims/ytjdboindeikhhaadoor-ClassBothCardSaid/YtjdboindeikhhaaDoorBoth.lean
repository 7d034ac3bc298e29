/- ClassBoth: what one, and what both sets have, is just that, as normal sets; how many these are adds up. -/
import Derived.Test.YtjdboindeikhhaaDoorLawKit
import Derived.Test.YtjdboindeikhhaaDoorEdges
namespace Go.Proofs.YtjdboindeikhhaaDoor
open Go.RowKit

set_option maxRecDepth 100000 in
set_option maxHeartbeats 4000000 in
theorem both_main (v : Value) (s : List Rg) (v' : Value) (o : List Rg) (ask : Int) (w : World) (hL : LU w.heap.size w) (hs : SetV w.heap.size w v s) (ho : SetV w.heap.size w v' o) (h40 : s.length ≤ 40) (h40' : o.length ≤ 40) (hn : Norm s) (hn' : Norm o) :
    Calls Tryd.prog 5 #[v, v', .int .i64 ask] w fun e w' => e = .returned (.bool true) ∧ Below w.heap.size w w' := by
  have E := Lib.hid ((env_start hs).add ho)
  have b1 := normB_true hn
  have b2 := normB_true hn'
  have HN := Lib.hid hn
  have HN' := Lib.hid hn'
  clear hn hn'
  have HL := Lib.hid hL
  obtain ⟨A1, cap1, rfl, _, _⟩ := id hs
  obtain ⟨A2, cap2, rfl, _, _⟩ := id ho
  clear hs hL ho
  go_enter Tryd.func5, Tryd.ntmps5
  go_wp2_with fail
  refine (anchor_any _ HL.out).mono ?_
  rintro e w1 ⟨rfl, hb⟩
  replace E := Lib.hid (E.out.step hb)
  clear hb
  go_wp2_with fail
  refine (ranges_gives _ s _ (by omega) (E.out.get _ s (by simp))).mono ?_
  rintro e w2 ⟨vx, rfl, hS, hb⟩
  replace E := Lib.hid ((E.out.step hb).add hS)
  clear hb hS
  go_wp2_with fail
  refine (ranges_gives _ o _ (by omega) (E.out.get _ o (by simp))).mono ?_
  rintro e w2 ⟨vy, rfl, hS, hb⟩
  replace E := Lib.hid ((E.out.step hb).add hS)
  clear hb hS
  go_wp2_with fail
  refine (or_gives _ _ s o _ (E.out.get _ s (by simp)) (E.out.get _ o (by simp)) (by omega) (by omega) HN.out HN'.out).mono ?_
  rintro e w2 ⟨va, a, rfl, hS, ⟨hna, hha, hla⟩, hb⟩
  replace E := Lib.hid ((E.out.step hb).add hS)
  have Ha := Lib.hid (And.intro hna hha)
  clear hb hS hna hha
  go_wp2_with fail
  refine (and_right _ _ s o _ (E.out.get _ s (by simp)) (E.out.get _ o (by simp)) (by omega) (by omega) HN.out HN'.out).mono ?_
  rintro e w2 ⟨vb, b, rfl, hS, ⟨hna, hha, hlb⟩, hb⟩
  replace E := Lib.hid ((E.out.step hb).add hS)
  have Hb := Lib.hid (And.intro hna hha)
  clear hb hS hna hha
  go_wp2_with fail
  refine (refNormal_any _ s _ (by omega) (E.out.get _ s (by simp))).mono ?_
  rintro e w2 ⟨rfl, hb⟩
  replace E := Lib.hid (E.out.step hb)
  clear hb
  go_wp2_with fail
  refine (refNormal_any _ o _ (by omega) (E.out.get _ o (by simp))).mono ?_
  rintro e w2 ⟨rfl, hb⟩
  replace E := Lib.hid (E.out.step hb)
  clear hb
  go_wp2_with fail
  refine (edges_any _ _ s o _ (by omega) (by omega) (E.out.get _ s (by simp)) (E.out.get _ o (by simp)) (fun r hr => (List.mem_append.1 hr).elim (HN.out.1 r) (HN'.out.1 r))).mono ?_
  rintro e wE ⟨ve, L0, rfl, hO, hL0, hbE⟩
  have hbs := hbE.size
  have hbA := hbE.alloc hbs (.cells #[.int .i64 ask] 3)
  obtain ⟨i3, ji, jz0, jz1, jz2⟩ := info_three info3
  go_wp2_with (at_builtin; refine wpList_append_int _ rfl _ _ 36 rfl _ i3 Tryd.underlying36 ji jz0 jz1 jz2 _ _ rfl (hO.alloc _) wE.heap.size 1 ask rfl (cell_one_at _ _ _ _ rfl) (by omega) hbA.size ?_; intro vf wF hOf hgf hatf; obtain ⟨AF, cF, rfl, hcF⟩ := hOf.form)
  have hbF := below_append hbA (hO.alloc _) (Nat.le_refl _) hgf hbA.size
  replace E := Lib.hid (E.out.step hbF)
  clear hatf hgf hbF hbA hbE hbs hO ji jz0 jz1 jz2
  go_loopw [72] (fun i wr => ∃ k : Nat, k ≤ L0.length + 1 ∧ i = .int .i64 k ∧ Below wF.heap.size wF wr) (fun i _ => L0.length + 1 - (intOf i).toNat)
  case atStart => exact ⟨0, Nat.zero_le _, rfl, Below.refl _ _⟩
  case round =>
    obtain ⟨k, hk, rfl, hbel⟩ := hrel
    replace E := Lib.hid (E.out.step hbel)
    by_cases hlt : k < L0.length + 1
    · obtain ⟨g, n, rfl, hg1, hg2, hget, hc⟩ := (hOf.below hbel).at_ (show k < (L0 ++ [ask]).length by simp; omega)
      have hltc : (k : Int) < (L0.length : Int) + 1 := by omega
      clear hget
      have ha := Ha.out.2 n
      have hb' := Hb.out.2 n
      go_wp2_with fail
      refine (refHas_any _ s n _ (by omega) (E.out.get _ s (by simp))).mono ?_
      rintro e w2 ⟨rfl, hb⟩
      replace E := Lib.hid (E.out.step hb)
      replace hbel := hbel.trans (hb.mono hbel.size)
      clear hb
      go_wp2_with fail
      refine (refHas_any _ o n _ (by omega) (E.out.get _ o (by simp))).mono ?_
      rintro e w2 ⟨rfl, hb⟩
      replace E := Lib.hid (E.out.step hb)
      replace hbel := hbel.trans (hb.mono hbel.size)
      clear hb
      cases hsn : hasB s n <;> cases hon : hasB o n <;> rw [hsn, hon] at ha hb'
      all_goals
        simp only [Bool.or_false, Bool.or_true, Bool.and_false, Bool.and_true] at ha hb'
        go_wp2_with fail
        refine (setHas_any _ a n _ (by omega) (E.out.get _ a (by simp))).mono ?_
        rintro e w2 ⟨rfl, hb⟩
        replace E := Lib.hid (E.out.step hb)
        replace hbel := hbel.trans (hb.mono hbel.size)
        clear hb
        go_wp2_with fail
        refine (setHas_any _ b n _ (by omega) (E.out.get _ b (by simp))).mono ?_
        rintro e w2 ⟨rfl, hb⟩
        replace E := Lib.hid (E.out.step hb)
        replace hbel := hbel.trans (hb.mono hbel.size)
        clear hb
        go_wp2
        go_roundw
        case rel => exact ⟨k + 1, by omega, by go_num, hbel⟩
        case measure => simp [intOf]; omega
    · have hltc : ¬ (k : Int) < (L0.length : Int) + 1 := by omega
      have b3 := normB_true Ha.out.1
      have b4 := normB_true Hb.out.1
      have q2 := both_count HN.out HN'.out Ha.out.1 Hb.out.1 Ha.out.2 Hb.out.2
      obtain ⟨z1, z2⟩ := countB_bound HN.out
      obtain ⟨z3, z4⟩ := countB_bound HN'.out
      obtain ⟨z5, z6⟩ := countB_bound Ha.out.1
      obtain ⟨z7, z8⟩ := countB_bound Hb.out.1
      have y1 : countB s ≤ 1114368 * 40 := by omega
      have y2 : countB o ≤ 1114368 * 40 := by omega
      have y3 : countB a ≤ 1114368 * 80 := by omega
      have y4 : countB b ≤ 1114368 * 80 := by omega
      clear z2 z4 z6 z8
      go_wp2_with fail
      refine (normal_any _ a _ (by omega) (E.out.get _ a (by simp))).mono ?_
      rintro e w2 ⟨rfl, hb⟩
      replace E := Lib.hid (E.out.step hb)
      clear hb
      go_wp2_with fail
      refine (normal_any _ b _ (by omega) (E.out.get _ b (by simp))).mono ?_
      rintro e w2 ⟨rfl, hb⟩
      replace E := Lib.hid (E.out.step hb)
      clear hb
      go_wp2_with fail
      refine (count_any _ a _ (by omega) (E.out.get _ a (by simp))).mono ?_
      rintro e w2 ⟨rfl, hb⟩
      replace E := Lib.hid (E.out.step hb)
      clear hb
      go_wp2_with fail
      refine (count_any _ b _ (by omega) (E.out.get _ b (by simp))).mono ?_
      rintro e w2 ⟨rfl, hb⟩
      replace E := Lib.hid (E.out.step hb)
      clear hb
      go_wp2_with fail
      refine (count_any _ s _ (by omega) (E.out.get _ s (by simp))).mono ?_
      rintro e w2 ⟨rfl, hb⟩
      replace E := Lib.hid (E.out.step hb)
      clear hb
      go_wp2_with fail
      refine (count_any _ o _ (by omega) (E.out.get _ o (by simp))).mono ?_
      rintro e w2 ⟨rfl, hb⟩
      replace E := Lib.hid (E.out.step hb)
      clear hb
      go_wp2
      go_ret
      exact ⟨rfl, E.out.1⟩

set_option maxRecDepth 100000 in
set_option maxHeartbeats 4000000 in
theorem both_wrong (v : Value) (s : List Rg) (v' : Value) (o : List Rg) (ask : Int) (w : World) (hL : LU w.heap.size w) (hs : SetV w.heap.size w v s) (ho : SetV w.heap.size w v' o) (h40 : s.length ≤ 40) (h40' : o.length ≤ 40) (hn : ¬ (Norm s ∧ Norm o)) :
    Calls Tryd.prog 5 #[v, v', .int .i64 ask] w fun e w' => e = .returned (.bool true) ∧ Below w.heap.size w w' := by
  have HN := Lib.hid hn
  by_cases h1 : Norm s
  · have b2 := normB_false (fun h2 => hn ⟨h1, h2⟩)
    have E := Lib.hid ((env_start hs).add ho)
    have b1 := normB_true h1
    clear h1 hn
    have HL := Lib.hid hL
    obtain ⟨A1, cap1, rfl, _, _⟩ := id hs
    obtain ⟨A2, cap2, rfl, _, _⟩ := id ho
    clear hs hL ho
    go_enter Tryd.func5, Tryd.ntmps5
    go_wp2_with fail
    refine (anchor_any _ HL.out).mono ?_
    rintro e w1 ⟨rfl, hb⟩
    replace E := Lib.hid (E.out.step hb)
    clear hb
    go_wp2_with fail
    refine (ranges_gives _ s _ (by omega) (E.out.get _ s (by simp))).mono ?_
    rintro e w2 ⟨vx, rfl, hS, hb⟩
    replace E := Lib.hid ((E.out.step hb).add hS)
    clear hb hS
    go_wp2_with fail
    refine (ranges_gives _ o _ (by omega) (E.out.get _ o (by simp))).mono ?_
    rintro e w2 ⟨vy, rfl, hS, hb⟩
    replace E := Lib.hid ((E.out.step hb).add hS)
    clear hb hS
    go_wp2_with fail
    refine (or_wrong _ _ s o _ (E.out.get _ s (by simp)) (E.out.get _ o (by simp)) (by omega) (by omega) HN.out).mono ?_
    rintro e w2 ⟨rfl, hb⟩
    replace E := Lib.hid (E.out.step hb)
    clear hb
    go_wp2_with fail
    refine (and_wrong _ _ s o _ (E.out.get _ s (by simp)) (E.out.get _ o (by simp)) (by omega) (by omega) HN.out).mono ?_
    rintro e w2 ⟨rfl, hb⟩
    replace E := Lib.hid (E.out.step hb)
    clear hb
    go_wp2_with fail
    refine (refNormal_any _ s _ (by omega) (E.out.get _ s (by simp))).mono ?_
    rintro e w2 ⟨rfl, hb⟩
    replace E := Lib.hid (E.out.step hb)
    clear hb
    go_wp2_with fail
    refine (refNormal_any _ o _ (by omega) (E.out.get _ o (by simp))).mono ?_
    rintro e w2 ⟨rfl, hb⟩
    replace E := Lib.hid (E.out.step hb)
    clear hb
    go_wp2
    go_ret
    exact ⟨rfl, E.out.1⟩
  · have E := Lib.hid ((env_start hs).add ho)
    have b1 := normB_false h1
    clear h1 hn
    have HL := Lib.hid hL
    obtain ⟨A1, cap1, rfl, _, _⟩ := id hs
    obtain ⟨A2, cap2, rfl, _, _⟩ := id ho
    clear hs hL ho
    go_enter Tryd.func5, Tryd.ntmps5
    go_wp2_with fail
    refine (anchor_any _ HL.out).mono ?_
    rintro e w1 ⟨rfl, hb⟩
    replace E := Lib.hid (E.out.step hb)
    clear hb
    go_wp2_with fail
    refine (ranges_gives _ s _ (by omega) (E.out.get _ s (by simp))).mono ?_
    rintro e w2 ⟨vx, rfl, hS, hb⟩
    replace E := Lib.hid ((E.out.step hb).add hS)
    clear hb hS
    go_wp2_with fail
    refine (ranges_gives _ o _ (by omega) (E.out.get _ o (by simp))).mono ?_
    rintro e w2 ⟨vy, rfl, hS, hb⟩
    replace E := Lib.hid ((E.out.step hb).add hS)
    clear hb hS
    go_wp2_with fail
    refine (or_wrong _ _ s o _ (E.out.get _ s (by simp)) (E.out.get _ o (by simp)) (by omega) (by omega) HN.out).mono ?_
    rintro e w2 ⟨rfl, hb⟩
    replace E := Lib.hid (E.out.step hb)
    clear hb
    go_wp2_with fail
    refine (and_wrong _ _ s o _ (E.out.get _ s (by simp)) (E.out.get _ o (by simp)) (by omega) (by omega) HN.out).mono ?_
    rintro e w2 ⟨rfl, hb⟩
    replace E := Lib.hid (E.out.step hb)
    clear hb
    go_wp2_with fail
    refine (refNormal_any _ s _ (by omega) (E.out.get _ s (by simp))).mono ?_
    rintro e w2 ⟨rfl, hb⟩
    replace E := Lib.hid (E.out.step hb)
    clear hb
    go_wp2
    go_ret
    exact ⟨rfl, E.out.1⟩

theorem classBoth_law (v : Value) (s : List Rg) (v' : Value) (o : List Rg) (ask : Int) (w : World) (hL : LU w.heap.size w) (hs : SetV w.heap.size w v s) (ho : SetV w.heap.size w v' o) (_hu : -9223372036854775808 ≤ ask ∧ ask ≤ 9223372036854775807) :
    Calls Tryd.prog 5 #[v, v', .int .i64 ask] w fun e w' => e = .returned (.bool true) ∧ Below w.heap.size w w' := by
  by_cases h40 : s.length ≤ 40
  · by_cases h40' : o.length ≤ 40
    · by_cases hn : Norm s ∧ Norm o
      · exact both_main v s v' o ask w hL hs ho h40 h40' hn.1 hn.2
      · exact both_wrong v s v' o ask w hL hs ho h40 h40' hn
    · have h41 : (40 : Int) < o.length := by omega
      obtain ⟨A1, cap1, rfl, _, _⟩ := id hs
      obtain ⟨A2, cap2, rfl, _, _⟩ := id ho
      go_enter Tryd.func5, Tryd.ntmps5
      go_wp2_with fail
      refine (anchor_any _ hL).mono ?_
      rintro e w1 ⟨rfl, hb⟩
      go_wp2
      go_ret
      exact ⟨rfl, hb⟩
  · have h41 : (40 : Int) < s.length := by omega
    obtain ⟨A1, cap1, rfl, _, _⟩ := id hs
    obtain ⟨A2, cap2, rfl, _, _⟩ := id ho
    go_enter Tryd.func5, Tryd.ntmps5
    go_wp2_with fail
    refine (anchor_any _ hL).mono ?_
    rintro e w1 ⟨rfl, hb⟩
    go_wp2
    go_ret
    exact ⟨rfl, hb⟩

end Go.Proofs.YtjdboindeikhhaaDoor
