/- ClassLaws: not of either is both nots, and the order of two plays no part. -/
import Derived.Test.YtjdboindeikhhaaDoorLawKit
namespace Go.Proofs.YtjdboindeikhhaaDoor
open Go.RowKit

set_option maxRecDepth 100000 in
set_option maxHeartbeats 4000000 in
theorem laws_main (v v' : Value) (s o : List Rg) (w : World) (hL : LU w.heap.size w) (hs : SetV w.heap.size w v s) (ho : SetV w.heap.size w v' o) (h40 : s.length ≤ 40) (h40' : o.length ≤ 40) (hn : Norm s) (hn' : Norm o) :
    Calls Tryd.prog 7 #[v, v'] w fun e w' => e = .returned (.bool true) ∧ Below w.heap.size w w' := by
  have E := Lib.hid ((env_start hs).add ho)
  have b1 := normB_true hn
  have b2 := normB_true hn'
  have HL := Lib.hid hL
  have HN := Lib.hid hn
  have HN' := Lib.hid hn'
  obtain ⟨A1, cap1, rfl, _, _⟩ := id hs
  obtain ⟨A2, cap2, rfl, _, _⟩ := id ho
  clear hs ho hL hn hn'
  go_enter Tryd.func7, Tryd.ntmps7
  go_wp2_with fail
  refine (anchor_any _ HL.out).mono ?_
  rintro e w1 ⟨rfl, hb⟩
  replace E := Lib.hid (E.out.step hb)
  clear hb
  go_wp2_with fail
  refine (normal_any _ s _ (by omega) (E.out.get _ s (by simp))).mono ?_
  rintro e w2 ⟨rfl, hb⟩
  replace E := Lib.hid (E.out.step hb)
  clear hb
  go_wp2_with fail
  refine (normal_any _ o _ (by omega) (E.out.get _ o (by simp))).mono ?_
  rintro e w3 ⟨rfl, hb⟩
  replace E := Lib.hid (E.out.step hb)
  clear hb
  go_wp2_with fail
  refine (or_gives _ _ s o _ (E.out.get _ s (by simp)) (E.out.get _ o (by simp)) (by omega) (by omega) HN.out HN'.out).mono ?_
  rintro e w4 ⟨va, a, rfl, hS, ⟨hna, hha, hla⟩, hb⟩
  replace E := Lib.hid ((E.out.step hb).add hS)
  have Ha := Lib.hid (And.intro hna hha)
  clear hb hS hna hha
  go_wp2_with fail
  refine (or_gives _ _ o s _ (E.out.get _ o (by simp)) (E.out.get _ s (by simp)) (by omega) (by omega) HN'.out HN.out).mono ?_
  rintro e w5 ⟨vb, b, rfl, hS, ⟨hna, hha, hlb⟩, hb⟩
  replace E := Lib.hid ((E.out.step hb).add hS)
  have Hb := Lib.hid (And.intro hna hha)
  clear hb hS hna hha
  go_wp2_with fail
  refine (and_right _ _ s o _ (E.out.get _ s (by simp)) (E.out.get _ o (by simp)) (by omega) (by omega) HN.out HN'.out).mono ?_
  rintro e w6 ⟨vc, c, rfl, hS, ⟨hna, hha, hlc⟩, hb⟩
  replace E := Lib.hid ((E.out.step hb).add hS)
  have Hc := Lib.hid (And.intro hna hha)
  clear hb hS hna hha
  go_wp2_with fail
  refine (and_right _ _ o s _ (E.out.get _ o (by simp)) (E.out.get _ s (by simp)) (by omega) (by omega) HN'.out HN.out).mono ?_
  rintro e w7 ⟨vd, d, rfl, hS, ⟨hna, hha, hld⟩, hb⟩
  replace E := Lib.hid ((E.out.step hb).add hS)
  have Hd := Lib.hid (And.intro hna hha)
  clear hb hS hna hha
  go_wp2_with fail
  refine (not_right _ a _ (by omega) (E.out.get _ a (by simp)) Ha.out.1).mono ?_
  rintro e w8 ⟨vp, p, rfl, hS, ⟨hna, hha, hlp⟩, hb⟩
  replace E := Lib.hid ((E.out.step hb).add hS)
  have Hp := Lib.hid (And.intro hna hha)
  clear hb hS hna hha
  go_wp2_with fail
  refine (not_right _ s _ (by omega) (E.out.get _ s (by simp)) HN.out).mono ?_
  rintro e w9 ⟨vx, x, rfl, hS, ⟨hna, hha, hlx⟩, hb⟩
  replace E := Lib.hid ((E.out.step hb).add hS)
  have Hx := Lib.hid (And.intro hna hha)
  clear hb hS hna hha
  go_wp2_with fail
  refine (not_right _ o _ (by omega) (E.out.get _ o (by simp)) HN'.out).mono ?_
  rintro e w10 ⟨vy, y, rfl, hS, ⟨hna, hha, hly⟩, hb⟩
  replace E := Lib.hid ((E.out.step hb).add hS)
  have Hy := Lib.hid (And.intro hna hha)
  clear hb hS hna hha
  go_wp2_with fail
  refine (and_right _ _ x y _ (E.out.get _ x (by simp)) (E.out.get _ y (by simp)) (by omega) (by omega) Hx.out.1 Hy.out.1).mono ?_
  rintro e w11 ⟨vq, q, rfl, hS, ⟨hna, hha, hlq⟩, hb⟩
  replace E := Lib.hid ((E.out.step hb).add hS)
  have Hq := Lib.hid (And.intro hna hha)
  clear hb hS hna hha
  go_wp2_with fail
  refine (or_gives _ _ s s _ (E.out.get _ s (by simp)) (E.out.get _ s (by simp)) (by omega) (by omega) HN.out HN.out).mono ?_
  rintro e w12 ⟨vr, r, rfl, hS, ⟨hna, hha, hlr⟩, hb⟩
  replace E := Lib.hid ((E.out.step hb).add hS)
  have Hr := Lib.hid (And.intro hna hha)
  clear hb hS hna hha
  go_wp2_with fail
  refine (and_right _ _ s a _ (E.out.get _ s (by simp)) (E.out.get _ a (by simp)) (by omega) (by omega) HN.out Ha.out.1).mono ?_
  rintro e w13 ⟨vt, t, rfl, hS, ⟨hna, hha, hlt⟩, hb⟩
  replace E := Lib.hid ((E.out.step hb).add hS)
  have Ht := Lib.hid (And.intro hna hha)
  clear hb hS hna hha
  have q1 : sameB a b = true := sameB_of (or_comm Ha.out.1 Hb.out.1 Ha.out.2 Hb.out.2)
  have q2 : sameB c d = true := sameB_of (and_comm' Hc.out.1 Hd.out.1 Hc.out.2 Hd.out.2)
  have q3 : sameB p q = true := sameB_of (de_morgan Hp.out.1 Hq.out.1 Ha.out.2 Hp.out.2 Hx.out.2 Hy.out.2 Hq.out.2)
  have q4 : sameB r s = true := sameB_of (or_self' Hr.out.1 HN.out Hr.out.2)
  have q5 : sameB t s = true := sameB_of (absorb Ht.out.1 HN.out Ha.out.2 Ht.out.2)
  go_wp2_with fail
  refine (same_any _ _ a b _ (by omega) (by omega) (E.out.get _ a (by simp)) (E.out.get _ b (by simp))).mono ?_
  rintro e w14 ⟨rfl, hb⟩
  replace E := Lib.hid (E.out.step hb)
  clear hb
  go_wp2_with fail
  refine (same_any _ _ c d _ (by omega) (by omega) (E.out.get _ c (by simp)) (E.out.get _ d (by simp))).mono ?_
  rintro e w15 ⟨rfl, hb⟩
  replace E := Lib.hid (E.out.step hb)
  clear hb
  go_wp2_with fail
  refine (same_any _ _ p q _ (by omega) (by omega) (E.out.get _ p (by simp)) (E.out.get _ q (by simp))).mono ?_
  rintro e w16 ⟨rfl, hb⟩
  replace E := Lib.hid (E.out.step hb)
  clear hb
  go_wp2_with fail
  refine (same_any _ _ r s _ (by omega) (by omega) (E.out.get _ r (by simp)) (E.out.get _ s (by simp))).mono ?_
  rintro e w17 ⟨rfl, hb⟩
  replace E := Lib.hid (E.out.step hb)
  clear hb
  go_wp2_with fail
  refine (same_any _ _ t s _ (by omega) (by omega) (E.out.get _ t (by simp)) (E.out.get _ s (by simp))).mono ?_
  rintro e w18 ⟨rfl, hb⟩
  replace E := Lib.hid (E.out.step hb)
  clear hb
  go_wp2
  go_ret
  exact ⟨rfl, E.out.1⟩

set_option maxRecDepth 100000 in
set_option maxHeartbeats 2000000 in
theorem classLaws_law (v : Value) (s : List Rg) (v' : Value) (o : List Rg) (w : World) (hL : LU w.heap.size w) (hs : SetV w.heap.size w v s) (ho : SetV w.heap.size w v' o) :
    Calls Tryd.prog 7 #[v, v'] w fun e w' => e = .returned (.bool true) ∧ Below w.heap.size w w' := by
  by_cases h40 : s.length ≤ 40
  · by_cases h40' : o.length ≤ 40
    · by_cases hn : Norm s
      · by_cases hn' : Norm o
        · exact laws_main v v' s o w hL hs ho h40 h40' hn hn'
        · have E := Lib.hid ((env_start hs).add ho)
          have b1 := normB_true hn
          have b2 := normB_false hn'
          have HL := Lib.hid hL
          obtain ⟨A1, cap1, rfl, _, _⟩ := id hs
          obtain ⟨A2, cap2, rfl, _, _⟩ := id ho
          clear hs ho hL hn hn'
          go_enter Tryd.func7, Tryd.ntmps7
          go_wp2_with fail
          refine (anchor_any _ HL.out).mono ?_
          rintro e w1 ⟨rfl, hb⟩
          replace E := Lib.hid (E.out.step hb)
          clear hb
          go_wp2_with fail
          refine (normal_any _ s _ (by omega) (E.out.get _ s (by simp))).mono ?_
          rintro e w2 ⟨rfl, hb⟩
          replace E := Lib.hid (E.out.step hb)
          clear hb
          go_wp2_with fail
          refine (normal_any _ o _ (by omega) (E.out.get _ o (by simp))).mono ?_
          rintro e w3 ⟨rfl, hb⟩
          replace E := Lib.hid (E.out.step hb)
          clear hb
          go_wp2
          go_ret
          exact ⟨rfl, E.out.1⟩
      · have E := Lib.hid ((env_start hs).add ho)
        have b1 := normB_false hn
        have HL := Lib.hid hL
        obtain ⟨A1, cap1, rfl, _, _⟩ := id hs
        obtain ⟨A2, cap2, rfl, _, _⟩ := id ho
        clear hs ho hL hn
        go_enter Tryd.func7, Tryd.ntmps7
        go_wp2_with fail
        refine (anchor_any _ HL.out).mono ?_
        rintro e w1 ⟨rfl, hb⟩
        replace E := Lib.hid (E.out.step hb)
        clear hb
        go_wp2_with fail
        refine (normal_any _ s _ (by omega) (E.out.get _ s (by simp))).mono ?_
        rintro e w2 ⟨rfl, hb⟩
        replace E := Lib.hid (E.out.step hb)
        clear hb
        go_wp2
        go_ret
        exact ⟨rfl, E.out.1⟩
    · have h41 : (40 : Int) < o.length := by omega
      obtain ⟨A1, cap1, rfl, _, _⟩ := id hs
      obtain ⟨A2, cap2, rfl, _, _⟩ := id ho
      go_enter Tryd.func7, Tryd.ntmps7
      go_wp2_with fail
      refine (anchor_any _ hL).mono ?_
      rintro e w1 ⟨rfl, hb⟩
      go_wp2
      go_ret
      exact ⟨rfl, hb⟩
  · have h41 : (40 : Int) < s.length := by omega
    obtain ⟨A1, cap1, rfl, _, _⟩ := id hs
    obtain ⟨A2, cap2, rfl, _, _⟩ := id ho
    go_enter Tryd.func7, Tryd.ntmps7
    go_wp2_with fail
    refine (anchor_any _ hL).mono ?_
    rintro e w1 ⟨rfl, hb⟩
    go_wp2
    go_ret
    exact ⟨rfl, hb⟩

end Go.Proofs.YtjdboindeikhhaaDoor
