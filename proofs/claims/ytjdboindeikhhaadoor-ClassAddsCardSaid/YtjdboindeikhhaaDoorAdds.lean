/- ClassAdds: one unit more is one more, and it is taken away again by what hasn't it. -/
import Derived.Test.YtjdboindeikhhaaDoorLawKit
namespace Go.Proofs.YtjdboindeikhhaaDoor
open Go.RowKit

set_option maxRecDepth 100000 in
set_option maxHeartbeats 4000000 in
theorem adds_main (v : Value) (s : List Rg) (u : Int) (w : World) (hL : LU w.heap.size w) (hs : SetV w.heap.size w v s) (h40 : s.length ≤ 40) (hn : Norm s) (h0 : 0 ≤ u) (h9 : u ≤ 1114367) :
    Calls Tryd.prog 9 #[v, .int .i64 u] w fun e w' => e = .returned (.bool true) ∧ Below w.heap.size w w' := by
  have E := Lib.hid (env_start hs)
  have b1 := normB_true hn
  have HL := Lib.hid hL
  have HN := Lib.hid hn
  have H1 := Lib.hid (one_norm h0 h9)
  obtain ⟨A1, cap1, rfl, _, _⟩ := id hs
  clear hs hL hn
  go_enter Tryd.func9, Tryd.ntmps9
  go_wp2_with fail
  refine (anchor_any _ HL.out).mono ?_
  rintro e w1 ⟨rfl, hb⟩
  replace E := Lib.hid (E.out.step hb)
  clear hb
  go_wp2_with fail
  refine (normal_any _ s _ (by omega) (E.out.get _ s (by simp))).mono ?_
  rintro e w2 ⟨rfl, hb⟩
  replace E := Lib.hid (E.out.step hb)
  clear hb
  have hone := lit_own w2 [(u, u)] 46 (by simp)
  replace E := Lib.hid ((E.out.alloc (.cells (rgCells [(u, u)]).toArray 46)).add hone.set)
  clear hone
  go_wp2_with fail
  refine (or_gives _ _ s [(u, u)] _ (E.out.get _ s (by simp)) (E.out.get _ [(u, u)] (by simp)) (by omega) (by simp) HN.out H1.out).mono ?_
  rintro e w2 ⟨vm, m, rfl, hS, ⟨hna, hha, hlm⟩, hb⟩
  replace E := Lib.hid ((E.out.step hb).add hS)
  have Hm := Lib.hid (And.intro hna hha)
  clear hb hS hna hha
  go_wp2_with fail
  refine (not_right _ [(u, u)] _ (by simp) (E.out.get _ [(u, u)] (by simp)) H1.out).mono ?_
  rintro e w2 ⟨vr, r, rfl, hS, ⟨hna, hha, hlr⟩, hb⟩
  replace E := Lib.hid ((E.out.step hb).add hS)
  have Hr := Lib.hid (And.intro hna hha)
  clear hb hS hna hha
  have hr2 : r.length ≤ 2 := hlr
  go_wp2_with fail
  refine (and_right _ _ s r _ (E.out.get _ s (by simp)) (E.out.get _ r (by simp)) (by omega) (by omega) HN.out Hr.out.1).mono ?_
  rintro e w2 ⟨vl, l, rfl, hS, ⟨hna, hha, hll⟩, hb⟩
  replace E := Lib.hid ((E.out.step hb).add hS)
  have Hl := Lib.hid (And.intro hna hha)
  clear hb hS hna hha
  have hm2 : m.length ≤ 41 := by simp at hlm; omega
  have k1 : hasB m u = true := adds_more Hm.out.2
  have k2 : hasB l u = false := adds_less Hr.out.2 Hl.out.2
  have z0 := countB_bound HN.out
  obtain ⟨z1, z2⟩ := z0
  have z3 : countB s ≤ 1114368 * 40 := by omega
  clear z2
  cases hu : hasB s u
  · have q1 : sameB l s = true := sameB_of (adds_out HN.out Hl.out.1 Hr.out.2 Hl.out.2 hu)
    have q2 : countB m = countB s + 1 := adds_count_out h0 h9 HN.out Hm.out.1 Hm.out.2 hu
    go_wp2_with fail
    refine (setHas_any _ m u _ (by omega) (E.out.get _ m (by simp))).mono ?_
    rintro e w2 ⟨rfl, hb⟩
    replace E := Lib.hid (E.out.step hb)
    clear hb
    go_wp2_with fail
    refine (setHas_any _ l u _ (by omega) (E.out.get _ l (by simp))).mono ?_
    rintro e w2 ⟨rfl, hb⟩
    replace E := Lib.hid (E.out.step hb)
    clear hb
    go_wp2_with fail
    refine (setHas_any _ s u _ (by omega) (E.out.get _ s (by simp))).mono ?_
    rintro e w2 ⟨rfl, hb⟩
    replace E := Lib.hid (E.out.step hb)
    clear hb
    go_wp2_with fail
    refine (same_any _ _ l s _ (by omega) (by omega) (E.out.get _ l (by simp)) (E.out.get _ s (by simp))).mono ?_
    rintro e w2 ⟨rfl, hb⟩
    replace E := Lib.hid (E.out.step hb)
    clear hb
    go_wp2_with fail
    refine (count_any _ m _ (by omega) (E.out.get _ m (by simp))).mono ?_
    rintro e w2 ⟨rfl, hb⟩
    replace E := Lib.hid (E.out.step hb)
    clear hb
    go_wp2_with fail
    refine (count_any _ s _ (by omega) (E.out.get _ s (by simp))).mono ?_
    rintro e w2 ⟨rfl, hb⟩
    replace E := Lib.hid (E.out.step hb)
    clear hb
    go_wp2
    go_ret
    exact ⟨rfl, E.out.1⟩
  · have q1 : sameB m s = true := sameB_of (adds_in HN.out Hm.out.1 Hm.out.2 hu)
    have q2 : countB l = countB s - 1 := adds_count_in h0 h9 HN.out Hl.out.1 Hr.out.2 Hl.out.2 hu
    go_wp2_with fail
    refine (setHas_any _ m u _ (by omega) (E.out.get _ m (by simp))).mono ?_
    rintro e w2 ⟨rfl, hb⟩
    replace E := Lib.hid (E.out.step hb)
    clear hb
    go_wp2_with fail
    refine (setHas_any _ l u _ (by omega) (E.out.get _ l (by simp))).mono ?_
    rintro e w2 ⟨rfl, hb⟩
    replace E := Lib.hid (E.out.step hb)
    clear hb
    go_wp2_with fail
    refine (setHas_any _ s u _ (by omega) (E.out.get _ s (by simp))).mono ?_
    rintro e w2 ⟨rfl, hb⟩
    replace E := Lib.hid (E.out.step hb)
    clear hb
    go_wp2_with fail
    refine (same_any _ _ m s _ (by omega) (by omega) (E.out.get _ m (by simp)) (E.out.get _ s (by simp))).mono ?_
    rintro e w2 ⟨rfl, hb⟩
    replace E := Lib.hid (E.out.step hb)
    clear hb
    go_wp2_with fail
    refine (count_any _ l _ (by omega) (E.out.get _ l (by simp))).mono ?_
    rintro e w2 ⟨rfl, hb⟩
    replace E := Lib.hid (E.out.step hb)
    clear hb
    go_wp2_with fail
    refine (count_any _ s _ (by omega) (E.out.get _ s (by simp))).mono ?_
    rintro e w2 ⟨rfl, hb⟩
    replace E := Lib.hid (E.out.step hb)
    clear hb
    go_wp2
    go_ret
    exact ⟨rfl, E.out.1⟩

set_option maxRecDepth 100000 in
set_option maxHeartbeats 2000000 in
theorem classAdds_law (v : Value) (s : List Rg) (u : Int) (w : World) (hL : LU w.heap.size w) (hs : SetV w.heap.size w v s) (_hu : -9223372036854775808 ≤ u ∧ u ≤ 9223372036854775807) :
    Calls Tryd.prog 9 #[v, .int .i64 u] w fun e w' => e = .returned (.bool true) ∧ Below w.heap.size w w' := by
  by_cases h40 : s.length ≤ 40
  · by_cases hn : Norm s
    · by_cases h0 : 0 ≤ u
      · by_cases h9 : u ≤ 1114367
        · exact adds_main v s u w hL hs h40 hn h0 h9
        · have E := Lib.hid (env_start hs)
          have b1 := normB_true hn
          have HL := Lib.hid hL
          obtain ⟨A1, cap1, rfl, _, _⟩ := id hs
          clear hs hL hn
          go_enter Tryd.func9, Tryd.ntmps9
          go_wp2_with fail
          refine (anchor_any _ HL.out).mono ?_
          rintro e w1 ⟨rfl, hb⟩
          replace E := Lib.hid (E.out.step hb)
          clear hb
          go_wp2_with fail
          refine (normal_any _ s _ (by omega) (E.out.get _ s (by simp))).mono ?_
          rintro e w2 ⟨rfl, hb⟩
          replace E := Lib.hid (E.out.step hb)
          clear hb
          go_wp2
          go_ret
          exact ⟨rfl, E.out.1⟩
      · have E := Lib.hid (env_start hs)
        have b1 := normB_true hn
        have HL := Lib.hid hL
        obtain ⟨A1, cap1, rfl, _, _⟩ := id hs
        clear hs hL hn
        go_enter Tryd.func9, Tryd.ntmps9
        go_wp2_with fail
        refine (anchor_any _ HL.out).mono ?_
        rintro e w1 ⟨rfl, hb⟩
        replace E := Lib.hid (E.out.step hb)
        clear hb
        go_wp2_with fail
        refine (normal_any _ s _ (by omega) (E.out.get _ s (by simp))).mono ?_
        rintro e w2 ⟨rfl, hb⟩
        replace E := Lib.hid (E.out.step hb)
        clear hb
        go_wp2
        go_ret
        exact ⟨rfl, E.out.1⟩
    · have E := Lib.hid (env_start hs)
      have b1 := normB_false hn
      have HL := Lib.hid hL
      obtain ⟨A1, cap1, rfl, _, _⟩ := id hs
      clear hs hL hn
      go_enter Tryd.func9, Tryd.ntmps9
      go_wp2_with fail
      refine (anchor_any _ HL.out).mono ?_
      rintro e w1 ⟨rfl, hb⟩
      replace E := Lib.hid (E.out.step hb)
      clear hb
      go_wp2_with fail
      refine (normal_any _ s _ (by omega) (E.out.get _ s (by simp))).mono ?_
      rintro e w2 ⟨rfl, hb⟩
      replace E := Lib.hid (E.out.step hb)
      clear hb
      go_wp2
      go_ret
      exact ⟨rfl, E.out.1⟩
  · have h41 : (40 : Int) < s.length := by omega
    obtain ⟨A1, cap1, rfl, _, _⟩ := id hs
    go_enter Tryd.func9, Tryd.ntmps9
    go_wp2_with fail
    refine (anchor_any _ hL).mono ?_
    rintro e w1 ⟨rfl, hb⟩
    go_wp2
    go_ret
    exact ⟨rfl, hb⟩

end Go.Proofs.YtjdboindeikhhaaDoor
