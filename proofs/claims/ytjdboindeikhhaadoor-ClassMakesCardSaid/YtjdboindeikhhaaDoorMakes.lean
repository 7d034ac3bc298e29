/- ClassMakes: any ranges are made a normal set of just their numbers, or refused. -/
import Derived.Test.YtjdboindeikhhaaDoorLawKit
import Derived.Test.YtjdboindeikhhaaDoorEdges
namespace Go.Proofs.YtjdboindeikhhaaDoor
open Go.RowKit

set_option maxRecDepth 100000 in
set_option maxHeartbeats 4000000 in
theorem makes_main (v : Value) (s : List Rg) (ask : Int) (w : World) (hL : LU w.heap.size w) (hs : SetV w.heap.size w v s) (h40 : s.length ≤ 40) (hn : ∀ r ∈ s, Rt r) :
    Calls Tryd.prog 3 #[v, .int .i64 ask] w fun e w' => e = .returned (.bool true) ∧ Below w.heap.size w w' := by
  have E := Lib.hid (env_start hs)
  have HN := Lib.hid hn
  clear hn
  have HL := Lib.hid hL
  obtain ⟨A1, cap1, rfl, _, _⟩ := id hs
  clear hs hL
  go_enter Tryd.func3, Tryd.ntmps3
  go_wp2_with fail
  refine (anchor_any _ HL.out).mono ?_
  rintro e w1 ⟨rfl, hb⟩
  replace E := Lib.hid (E.out.step hb)
  clear hb
  go_wp2_with fail
  refine (make_gives _ s _ (by omega) HN.out (E.out.get _ s (by simp))).mono ?_
  rintro e w2 ⟨vm, m, rfl, hS, ⟨hna, hha, hlm⟩, hb⟩
  replace E := Lib.hid ((E.out.step hb).add hS)
  have Hm := Lib.hid (And.intro hna hha)
  clear hb hS hna hha
  go_wp2_with fail
  refine (ranges_gives _ s _ (by omega) (E.out.get _ s (by simp))).mono ?_
  rintro e wX ⟨vx, rfl, hS, hb⟩
  replace E := Lib.hid ((E.out.step hb).add hS)
  obtain ⟨AX, cX, rfl, _, _⟩ := id hS
  clear hb
  go_wp2
  go_loopw [26] (fun i wr => ∃ k : Nat, k ≤ s.length ∧ i = .int .i64 k ∧ Below wX.heap.size wX wr) (fun i _ => s.length - (intOf i).toNat)
  case atStart => exact ⟨0, Nat.zero_le _, rfl, Below.refl _ _⟩
  case round =>
    obtain ⟨k, hk, rfl, hbel⟩ := hrel
    have hsz := hbel.size
    by_cases hlt : k < s.length
    · obtain ⟨b, off, lo, hi, rfl, hb, hget, c0, c1⟩ := (hS.below hbel).at_ hlt
      have hin : rightB (lo, hi) = true := (rightB_iff _).2 (HN.out _ (List.mem_of_getElem? hget))
      clear hget
      go_wp2_with (go_at_call 13; refine (refRight_any _ _ _).mono ?_; rintro e w1 ⟨rfl, hb1⟩)
      go_roundw
      case rel => exact ⟨k + 1, by omega, by go_num, below_call hbel hsz hb1⟩
      case measure => simp [intOf]; omega
    · obtain rfl : k = s.length := by omega
      replace E := Lib.hid (E.out.step hbel)
      clear hbel hS
      have b1 := normB_true Hm.out.1
      have hma := Hm.out.2 ask
      go_wp2_with fail
      refine (normal_any _ m _ (by omega) (E.out.get _ m (by simp))).mono ?_
      rintro e w2 ⟨rfl, hb⟩
      replace E := Lib.hid (E.out.step hb)
      clear hb
      go_wp2_with fail
      refine (ranges_gives _ m _ (by omega) (E.out.get _ m (by simp))).mono ?_
      rintro e w2 ⟨vy, rfl, hS, hb⟩
      replace E := Lib.hid ((E.out.step hb).add hS)
      clear hb hS
      go_wp2_with fail
      refine (refNormal_any _ m _ (by omega) (E.out.get _ m (by simp))).mono ?_
      rintro e w2 ⟨rfl, hb⟩
      replace E := Lib.hid (E.out.step hb)
      clear hb
      go_wp2_with fail
      refine (setHas_any _ m ask _ (by omega) (E.out.get _ m (by simp))).mono ?_
      rintro e w2 ⟨rfl, hb⟩
      replace E := Lib.hid (E.out.step hb)
      clear hb
      go_wp2_with fail
      refine (refHas_any _ s ask _ (by omega) (E.out.get _ s (by simp))).mono ?_
      rintro e w2 ⟨rfl, hb⟩
      replace E := Lib.hid (E.out.step hb)
      clear hb
      go_wp2_with fail
      refine (edges_any _ _ s [] _ (by omega) (by simp) (E.out.get _ s (by simp)) (SetV.nil _ _) (by simpa using HN.out)).mono ?_
      rintro e wE ⟨ve, L, rfl, hO, hL0, hbE⟩
      replace E := Lib.hid (E.out.step hbE)
      obtain ⟨AF, cF, rfl, hcF⟩ := hO.form
      have hOf := hO
      have hlen : L.length ≤ 2000001 := by omega
      clear hbE hO
      go_wp2
      go_loopw [66] (fun i wr => ∃ k : Nat, k ≤ L.length ∧ i = .int .i64 k ∧ Below wE.heap.size wE wr) (fun i _ => L.length - (intOf i).toNat)
      case atStart => exact ⟨0, Nat.zero_le _, rfl, Below.refl _ _⟩
      case round =>
        obtain ⟨k, hk, rfl, hbel⟩ := hrel
        replace E := Lib.hid (E.out.step hbel)
        by_cases hlt : k < L.length
        · obtain ⟨g, n, rfl, hg1, hg2, hget, hc⟩ := (hOf.below hbel).at_ hlt
          have hltc : (k : Int) < (L.length : Int) := by omega
          clear hget
          have hm := Hm.out.2 n
          go_wp2_with fail
          refine (setHas_any _ m n _ (by omega) (E.out.get _ m (by simp))).mono ?_
          rintro e w2 ⟨rfl, hb⟩
          replace E := Lib.hid (E.out.step hb)
          replace hbel := hbel.trans (hb.mono hbel.size)
          clear hb
          go_wp2_with fail
          refine (refHas_any _ s n _ (by omega) (E.out.get _ s (by simp))).mono ?_
          rintro e w2 ⟨rfl, hb⟩
          replace E := Lib.hid (E.out.step hb)
          replace hbel := hbel.trans (hb.mono hbel.size)
          clear hb
          go_wp2
          go_roundw
          case rel => exact ⟨k + 1, by omega, by go_num, hbel⟩
          case measure => simp [intOf]; omega
        · have hltc : ¬ (k : Int) < (L.length : Int) := by omega
          go_wp2
          go_ret
          exact ⟨rfl, E.out.1⟩

set_option maxRecDepth 100000 in
set_option maxHeartbeats 4000000 in
theorem makes_wrong (v : Value) (s : List Rg) (ask : Int) (w : World) (hL : LU w.heap.size w) (hs : SetV w.heap.size w v s) (h40 : s.length ≤ 40) (hn : ¬ ∀ r ∈ s, Rt r) :
    Calls Tryd.prog 3 #[v, .int .i64 ask] w fun e w' => e = .returned (.bool true) ∧ Below w.heap.size w w' := by
  have E := Lib.hid (env_start hs)
  have HN := Lib.hid hn
  clear hn
  have HL := Lib.hid hL
  obtain ⟨A1, cap1, rfl, _, _⟩ := id hs
  clear hs hL
  go_enter Tryd.func3, Tryd.ntmps3
  go_wp2_with fail
  refine (anchor_any _ HL.out).mono ?_
  rintro e w1 ⟨rfl, hb⟩
  replace E := Lib.hid (E.out.step hb)
  clear hb
  go_wp2_with fail
  refine (make_wrong _ s _ (by omega) HN.out (E.out.get _ s (by simp))).mono ?_
  rintro e w2 ⟨rfl, hb⟩
  replace E := Lib.hid (E.out.step hb)
  clear hb
  go_wp2_with fail
  refine (ranges_gives _ s _ (by omega) (E.out.get _ s (by simp))).mono ?_
  rintro e wX ⟨vx, rfl, hS, hb⟩
  replace E := Lib.hid ((E.out.step hb).add hS)
  obtain ⟨AX, cX, rfl, _, _⟩ := id hS
  clear hb
  go_wp2
  go_loopw [26] (fun i wr => ∃ k : Nat, k ≤ s.length ∧ i = .int .i64 k ∧ Hid (∀ r ∈ s.take k, Rt r) ∧ Below wX.heap.size wX wr) (fun i _ => s.length - (intOf i).toNat)
  case atStart => exact ⟨0, Nat.zero_le _, rfl, Lib.hid (by simp), Below.refl _ _⟩
  case round =>
    obtain ⟨k, hk, rfl, HH, hbel⟩ := hrel
    have hsz := hbel.size
    by_cases hlt : k < s.length
    · obtain ⟨b, off, lo, hi, rfl, hb, hget, c0, c1⟩ := (hS.below hbel).at_ hlt
      have HG := Lib.hid hget
      clear hget
      cases hin : rightB (lo, hi)
      · have HI := Lib.hid hin
        go_wp2_with (go_at_call 13; refine (refRight_any _ _ _).mono ?_; rintro e w1 ⟨rfl, hb1⟩)
        go_ret
        exact ⟨rfl, (E.out.step (below_call hbel hsz hb1)).1⟩
      · have HI := Lib.hid hin
        go_wp2_with (go_at_call 13; refine (refRight_any _ _ _).mono ?_; rintro e w1 ⟨rfl, hb1⟩)
        go_roundw
        case rel =>
          refine ⟨k + 1, by omega, by go_num, Lib.hid ?_, below_call hbel hsz hb1⟩
          obtain ⟨hk', he⟩ := List.getElem?_eq_some_iff.1 HG.out
          rw [List.take_succ_eq_append_getElem hk', he]
          intro r hr
          rcases List.mem_append.1 hr with hr | hr
          · exact HH.out r hr
          · obtain rfl := List.mem_singleton.1 hr
            exact (rightB_iff _).1 HI.out
        case measure => simp [intOf]; omega
    · exfalso
      obtain rfl : k = s.length := by omega
      have := HH.out
      rw [List.take_length] at this
      exact HN.out this

theorem classMakes_law (v : Value) (s : List Rg) (ask : Int) (w : World) (hL : LU w.heap.size w) (hs : SetV w.heap.size w v s) (_hu : -9223372036854775808 ≤ ask ∧ ask ≤ 9223372036854775807) :
    Calls Tryd.prog 3 #[v, .int .i64 ask] w fun e w' => e = .returned (.bool true) ∧ Below w.heap.size w w' := by
  by_cases h40 : s.length ≤ 40
  · by_cases hn : ∀ r ∈ s, Rt r
    · exact makes_main v s ask w hL hs h40 hn
    · exact makes_wrong v s ask w hL hs h40 hn
  · have h41 : (40 : Int) < s.length := by omega
    obtain ⟨A1, cap1, rfl, _, _⟩ := id hs
    go_enter Tryd.func3, Tryd.ntmps3
    go_wp2_with fail
    refine (anchor_any _ hL).mono ?_
    rintro e w1 ⟨rfl, hb⟩
    go_wp2
    go_ret
    exact ⟨rfl, hb⟩

end Go.Proofs.YtjdboindeikhhaaDoor
