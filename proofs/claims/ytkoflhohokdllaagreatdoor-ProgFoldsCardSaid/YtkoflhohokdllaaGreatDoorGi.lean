/- The writer: a repeat's kid, so often. -/
import Derived.Test.YtkoflhohokdllaaGreatDoorGh
namespace Go.Proofs.YtkoflhohokdllaaGreatDoor
open Go.RowKit
open Go.Proofs.YtkoflhohokdllaaGreatDoor.Cl (Rg SetV SetAt rgCells info_three info3)
variable {w w' w0 : World} {n₀ wb lp lp' base : Nat} {fo : Bool} {M : List In} {G : Int}

theorem repC_snoc (X : List In) : ∀ (n : Nat), repC (n + 1) X = app (repC n X) X
  | 0 => by simp [repC, app_nil, nil_app]
  | n + 1 => by
    have ih := repC_snoc X n
    have e : repC (n + 1) X = app X (repC n X) := rfl
    rw [repC, ih, ← app_assoc, ← e, ih]
theorem repC_nil : ∀ (n : Nat), repC n [] = []
  | 0 => rfl
  | n + 1 => by rw [repC, repC_nil n]; rfl
def timesOk (nd : Nd) : Prop := 0 ≤ nd.lo ∧ nd.lo ≤ 64 ∧ nd.hi ≤ 64 ∧ (nd.hi = -1 ∨ nd.lo ≤ nd.hi)
/-- Behind those that must be there. -/
def restC (fo : Bool) (nd : Nd) : List In := if nd.hi = -1 then loopC (nd.mode == 1) (kidsC fo nd) else optC (nd.mode == 1) (nd.hi - nd.lo).toNat (kidsC fo nd)
def timesN (fo : Bool) (nd : Nd) : List In := app (repC nd.lo.toNat (kidsC fo nd)) (restC fo nd)

set_option maxRecDepth 100000 in
set_option maxHeartbeats 1000000 in
theorem times_step (n : Nat) (ih : RowG n₀ wb fo G n) : AtG n₀ wb fo G n 95 timesOk (timesN fo) := by
  have hLoop := loop_step n ih
  have hOpt := options_step n ih
  intro nd hok hkids w M A1 A2 p1 p2 hE hN hW hlen
  obtain ⟨ho1, ho2, ho3, ho4⟩ := hok
  obtain ⟨b, off, hkv, hm⟩ := NodeB.kids hN
  obtain ⟨hlow1, hlow2⟩ := Wr.low hW
  obtain ⟨cnt, hcnt⟩ : ∃ cnt, cnt = nd.lo.toNat := ⟨_, rfl⟩
  have hci : nd.lo = (cnt : Int) := by omega
  have hc64 : cnt ≤ 64 := by omega
  have HRow := Lib.hid (fun W M' (h1 : Env5 n₀ W) (h2 : KidsB n₀ W nd.kids A2 b off) (h3 : Wm n₀ wb fo W M') h4 => ih nd.kids hkids hm W M' A2 p2 b off h1 h2 h3 h4)
  have HB0 := Lib.hid (Blk.new w 27 #[.int .i64 nd.kind, .int .i64 nd.lo, .int .i64 nd.hi, .int .i64 nd.mode, .int .i64 nd.ref, .slice A1 nd.set.length p1, .slice A2 nd.kids.length p2])
  have hb0 := new_blk w #[.int .i64 nd.kind, .int .i64 nd.lo, .int .i64 nd.hi, .int .i64 nd.mode, .int .i64 nd.ref, .slice A1 nd.set.length p1, .slice A2 nd.kids.length p2]
  have HE := Lib.hid hE
  have HK := Lib.hid hkv
  have HN := Lib.hid hN
  have HW0 := Lib.hid (hW.on hb0)
  have HF0 := Lib.hid (FrW.of_below (n₀ := n₀) (wb := wb) hb0)
  have HLoop := Lib.hid (fun (_ : nd.hi = -1) W M' (h1 : Env5 n₀ W) (h2 : NodeB n₀ W nd A1 A2 p1 p2) (h3 : Wm n₀ wb fo W M') h4 => hLoop nd trivial hkids W M' A1 A2 p1 p2 h1 h2 h3 h4)
  have HOpt := Lib.hid (fun (hh : ¬ nd.hi = -1) W M' (h1 : Env5 n₀ W) (h2 : NodeB n₀ W nd A1 A2 p1 p2) (h3 : Wm n₀ wb fo W M') h4 => hOpt nd ⟨ho1, by omega, ho3⟩ hkids W M' A1 A2 p1 p2 h1 h2 h3 h4)
  have HCnt := Lib.hid hcnt
  have HCi := Lib.hid hci
  clear hci
  unfold timesN at hlen
  rw [← hcnt, app_len] at hlen
  have hrl := repC_len cnt (kidsC fo nd)
  have hrl' : (repC cnt (kidsC fo nd)).length = cnt * (kidsC fo nd).length := by
    unfold len at hrl
    have : (((cnt * (kidsC fo nd).length : Nat)) : Int) = (cnt : Int) * ((kidsC fo nd).length : Int) := by simp
    omega
  have HRl := Lib.hid hrl'
  have HLen := Lib.hid hlen
  clear ih hLoop hOpt hkids hE hN hW hkv hm hcnt hrl hrl' hlen
  go_enter Tryz.func95, Tryz.ntmps95
  go_upto_region 1 with (fail)
  have hs0 := hb0.size
  generalize w.alloc _ = W at *
  obtain ⟨X, hXe⟩ : ∃ X, X = kidsC fo nd := ⟨_, rfl⟩
  have HXe := Lib.hid hXe
  have HRow' : Hid (∀ W M', Env5 n₀ W → KidsB n₀ W nd.kids A2 b off → Wm n₀ wb fo W M' → M'.length + X.length ≤ 90000 → Calls Tryz.prog 76 #[.pointer (some ⟨wb, 0, none⟩), .slice A2 nd.kids.length p2] W (WmP n₀ wb fo W (app M' X))) := Lib.hid (by rw [hXe]; exact HRow.out)
  have HRl' : Hid ((repC cnt X).length = cnt * X.length) := Lib.hid (by rw [hXe]; exact HRl.out)
  have hlen : M.length + ((repC cnt X).length + (restC fo nd).length) ≤ 90000 := by rw [hXe]; exact HLen.out
  clear hXe HRow HRl HLen
  rw [HRl'.out] at hlen
  have h7 := HB0.out.c7
  go_wp2
  clear h7
  obtain ⟨bx, hbx⟩ : ∃ bx, bx = w.heap.size := ⟨_, rfl⟩
  rw [← hbx] at HB0 ⊢
  have hbx1 : wb < bx := by omega
  have hbx2 : w.heap.size ≤ bx := by omega
  have HBx := Lib.hid hbx
  clear hbx
  have HEnd : Hid (∀ W', Wr n₀ wb fo W' (app (app M (repC cnt X)) (restC fo nd)) (marks (app (app M (repC cnt X)) (restC fo nd))) → Wm n₀ wb fo W' (app M (timesN fo nd))) := Lib.hid (fun W' h => by
    unfold timesN
    rw [← HCnt.out, ← HXe.out, ← app_assoc]
    exact h)
  by_cases hX0 : X.length = 0
  · have hXn : X = [] := List.length_eq_zero_iff.1 hX0
    have HXn := Lib.hid hXn
    clear hXn hX0
    go_loopw [7] (fun i wr => ∃ (k : Nat), k ≤ cnt ∧ i = .int .i64 k ∧ Hid (k = 0) ∧ Hid (Wm n₀ wb fo wr M ∧ FrW n₀ wb w wr ∧ Blk wr bx 27 #[.int .i64 nd.kind, .int .i64 nd.lo, .int .i64 nd.hi, .int .i64 nd.mode, .int .i64 nd.ref, .slice A1 nd.set.length p1, .slice A2 nd.kids.length p2])) (fun i _ => cnt - (intOf i).toNat)
    case atStart => exact ⟨0, Nat.zero_le _, rfl, Lib.hid rfl, Lib.hid ⟨HW0.out, HF0.out, HB0.out⟩⟩
    case round =>
      obtain ⟨k, hk, rfl, HK0, HR⟩ := hrel
      have hsz := HR.out.2.1.size
      by_cases hlt : k < cnt
      · have hlti : (k : Int) < nd.lo := by have := HCi.out; omega
        have h7 := HR.out.2.2.c7
        go_wp2_with fail
        refine (here_any HR.out.1).mono ?_
        rintro e w2 ⟨rfl, rfl⟩
        go_wp2_with fail
        refine (HRow'.out wr M (HE.out.low (HR.out.2.1.old (by omega))) (HK.out.low (HR.out.2.1.old (by omega))) HR.out.1 (by rw [HXn.out]; simp; omega)).mono ?_
        rintro e w3 ⟨rfl, hW3, hF3⟩
        rw [HXn.out, app_nil] at hW3
        have hs3 := hF3.size
        have HB3 := Lib.hid (hF3.blk HR.out.2.2 (by decide) (by omega))
        have HF3 := Lib.hid (HR.out.2.1.trans hF3)
        have HW3 := Lib.hid hW3
        clear hW3 hF3 h7
        have h7 := HB3.out.c7
        go_wp2_with fail
        refine (here_any HW3.out).mono ?_
        rintro e w4 ⟨rfl, rfl⟩
        have HWz : Hid (Wm n₀ wb fo w3 (app M (repC cnt X))) := Lib.hid (by rw [HXn.out, repC_nil, app_nil]; exact HW3.out)
        have HFz := HF3
        have hLz : (app M (repC cnt X)).length + (restC fo nd).length ≤ 90000 := by rw [app_len, HRl'.out]; omega
        by_cases hhi : nd.hi = -1
        · have hhb : (nd.hi == -1) = true := by simp [hhi]
          have HC := Lib.hid (HLoop.out hhi w3 _ (HE.out.low (HFz.out.old (by omega))) (HN.out.lowB (HFz.out.old (by omega))) HWz.out (by have := hLz; unfold restC at this; rw [if_pos hhi] at this; exact this))
          have HRc : Hid (loopC (nd.mode == 1) (kidsC fo nd) = restC fo nd) := Lib.hid (by unfold restC; rw [if_pos hhi])
          clear hhi hLz
          go_wp2_with fail
          refine HC.out.mono ?_
          rintro e w9 ⟨rfl, hW9, hF9⟩
          rw [HRc.out] at hW9
          have HW9 := Lib.hid (HEnd.out w9 hW9)
          have HF9 := Lib.hid (HFz.out.trans hF9)
          clear hW9 hF9
          go_wp2
          exact ⟨rfl, .tuple #[], by simp [results, Tryz.results95, go_sem], rfl, HW9.out, HF9.out⟩
        · have hhb : (nd.hi == -1) = false := by simp [hhi]
          have HC := Lib.hid (HOpt.out hhi w3 _ (HE.out.low (HFz.out.old (by omega))) (HN.out.lowB (HFz.out.old (by omega))) HWz.out (by have := hLz; unfold restC at this; rw [if_neg hhi] at this; exact this))
          have HRc : Hid (optC (nd.mode == 1) (nd.hi - nd.lo).toNat (kidsC fo nd) = restC fo nd) := Lib.hid (by unfold restC; rw [if_neg hhi])
          clear hLz
          go_wp2_with fail
          refine HC.out.mono ?_
          rintro e w9 ⟨rfl, hW9, hF9⟩
          rw [HRc.out] at hW9
          have HW9 := Lib.hid (HEnd.out w9 hW9)
          have HF9 := Lib.hid (HFz.out.trans hF9)
          clear hW9 hF9
          go_wp2
          exact ⟨rfl, .tuple #[], by simp [results, Tryz.results95, go_sem], rfl, HW9.out, HF9.out⟩
      · have HWz : Hid (Wm n₀ wb fo wr (app M (repC cnt X))) := Lib.hid (by rw [HXn.out, repC_nil, app_nil]; exact HR.out.1)
        have HFz := Lib.hid HR.out.2.1
        have hLz : (app M (repC cnt X)).length + (restC fo nd).length ≤ 90000 := by rw [app_len, HRl'.out]; omega
        have hkc : ¬ (k : Int) < nd.lo := by have := HCi.out; omega
        have h7 := HR.out.2.2.c7
        by_cases hhi : nd.hi = -1
        · have hhb : (nd.hi == -1) = true := by simp [hhi]
          have HC := Lib.hid (HLoop.out hhi wr _ (HE.out.low (HFz.out.old (by omega))) (HN.out.lowB (HFz.out.old (by omega))) HWz.out (by have := hLz; unfold restC at this; rw [if_pos hhi] at this; exact this))
          have HRc : Hid (loopC (nd.mode == 1) (kidsC fo nd) = restC fo nd) := Lib.hid (by unfold restC; rw [if_pos hhi])
          clear hhi hLz
          go_wp2_with fail
          refine HC.out.mono ?_
          rintro e w9 ⟨rfl, hW9, hF9⟩
          rw [HRc.out] at hW9
          have HW9 := Lib.hid (HEnd.out w9 hW9)
          have HF9 := Lib.hid (HFz.out.trans hF9)
          clear hW9 hF9
          go_wp2
          exact ⟨rfl, .tuple #[], by simp [results, Tryz.results95, go_sem], rfl, HW9.out, HF9.out⟩
        · have hhb : (nd.hi == -1) = false := by simp [hhi]
          have HC := Lib.hid (HOpt.out hhi wr _ (HE.out.low (HFz.out.old (by omega))) (HN.out.lowB (HFz.out.old (by omega))) HWz.out (by have := hLz; unfold restC at this; rw [if_neg hhi] at this; exact this))
          have HRc : Hid (optC (nd.mode == 1) (nd.hi - nd.lo).toNat (kidsC fo nd) = restC fo nd) := Lib.hid (by unfold restC; rw [if_neg hhi])
          clear hLz
          go_wp2_with fail
          refine HC.out.mono ?_
          rintro e w9 ⟨rfl, hW9, hF9⟩
          rw [HRc.out] at hW9
          have HW9 := Lib.hid (HEnd.out w9 hW9)
          have HF9 := Lib.hid (HFz.out.trans hF9)
          clear hW9 hF9
          go_wp2
          exact ⟨rfl, .tuple #[], by simp [results, Tryz.results95, go_sem], rfl, HW9.out, HF9.out⟩
  · go_loopw [7] (fun i wr => ∃ (k : Nat), k ≤ cnt ∧ i = .int .i64 k ∧ Hid (Wm n₀ wb fo wr (app M (repC k X)) ∧ FrW n₀ wb w wr ∧ Blk wr bx 27 #[.int .i64 nd.kind, .int .i64 nd.lo, .int .i64 nd.hi, .int .i64 nd.mode, .int .i64 nd.ref, .slice A1 nd.set.length p1, .slice A2 nd.kids.length p2])) (fun i _ => cnt - (intOf i).toNat)
    case atStart => exact ⟨0, Nat.zero_le _, rfl, Lib.hid ⟨by rw [repC, app_nil]; exact HW0.out, HF0.out, HB0.out⟩⟩
    case round =>
      obtain ⟨k, hk, rfl, HR⟩ := hrel
      have hsz := HR.out.2.1.size
      by_cases hlt : k < cnt
      · have hlti : (k : Int) < nd.lo := by have := HCi.out; omega
        have HLt := Lib.hid hlt
        have HSn : Hid (app (app M (repC k X)) X = app M (repC (k + 1) X)) := Lib.hid (by rw [repC_snoc, app_assoc])
        have hQb : (app M (repC k X)).length + X.length ≤ 90000 := by
          have h1 := repC_len k X
          have h2 : (repC k X).length = k * X.length := by
            unfold len at h1
            have : (((k * X.length : Nat)) : Int) = (k : Int) * (X.length : Int) := by simp
            omega
          have : (k + 1) * X.length ≤ cnt * X.length := Nat.mul_le_mul_right _ hlt
          rw [Nat.add_mul] at this
          rw [app_len]
          omega
        have hne := app_len (app M (repC k X)) X
        generalize app M (repC k X) = Q at *
        have h7 := HR.out.2.2.c7
        go_wp2_with fail
        refine (here_any HR.out.1).mono ?_
        rintro e w2 ⟨rfl, rfl⟩
        go_wp2_with fail
        refine (HRow'.out wr Q (HE.out.low (HR.out.2.1.old (by omega))) (HK.out.low (HR.out.2.1.old (by omega))) HR.out.1 hQb).mono ?_
        rintro e w3 ⟨rfl, hW3, hF3⟩
        have hs3 := hF3.size
        have HB3 := Lib.hid (hF3.blk HR.out.2.2 (by decide) (by omega))
        have HF3 := Lib.hid (HR.out.2.1.trans hF3)
        have HW3 := Lib.hid hW3
        obtain ⟨ln, hln⟩ : ∃ ln, ln = (app Q X).length := ⟨_, rfl⟩
        have HHr : Hid (Calls Tryz.prog 74 #[.pointer (some ⟨wb, 0, none⟩)] w3 fun e w' => e = .returned (.int .i64 ((ln : Nat) : Int)) ∧ w3 = w') := Lib.hid (by rw [hln]; exact here_any hW3)
        have hlq : ((ln : Int) == (Q.length : Int)) = false := by simp; omega
        clear hW3 hF3 h7 hln hne
        go_wp2_with fail
        refine HHr.out.mono ?_
        rintro e w4 ⟨rfl, rfl⟩
        go_wp2
        go_roundw
        case rel => exact ⟨k + 1, HLt.out, by go_num, Lib.hid ⟨by rw [← HSn.out]; exact HW3.out, HF3.out, HB3.out⟩⟩
        case measure => have := HLt.out; simp [intOf]; omega
      · have hkc : ¬ (k : Int) < nd.lo := by have := HCi.out; omega
        obtain rfl : k = cnt := by omega
        have HWz : Hid (Wm n₀ wb fo wr (app M (repC k X))) := Lib.hid HR.out.1
        have HFz := Lib.hid HR.out.2.1
        have hLz : (app M (repC k X)).length + (restC fo nd).length ≤ 90000 := by rw [app_len, HRl'.out]; omega
        have h7 := HR.out.2.2.c7
        by_cases hhi : nd.hi = -1
        · have hhb : (nd.hi == -1) = true := by simp [hhi]
          have HC := Lib.hid (HLoop.out hhi wr _ (HE.out.low (HFz.out.old (by omega))) (HN.out.lowB (HFz.out.old (by omega))) HWz.out (by have := hLz; unfold restC at this; rw [if_pos hhi] at this; exact this))
          have HRc : Hid (loopC (nd.mode == 1) (kidsC fo nd) = restC fo nd) := Lib.hid (by unfold restC; rw [if_pos hhi])
          clear hhi hLz
          go_wp2_with fail
          refine HC.out.mono ?_
          rintro e w9 ⟨rfl, hW9, hF9⟩
          rw [HRc.out] at hW9
          have HW9 := Lib.hid (HEnd.out w9 hW9)
          have HF9 := Lib.hid (HFz.out.trans hF9)
          clear hW9 hF9
          go_wp2
          exact ⟨rfl, .tuple #[], by simp [results, Tryz.results95, go_sem], rfl, HW9.out, HF9.out⟩
        · have hhb : (nd.hi == -1) = false := by simp [hhi]
          have HC := Lib.hid (HOpt.out hhi wr _ (HE.out.low (HFz.out.old (by omega))) (HN.out.lowB (HFz.out.old (by omega))) HWz.out (by have := hLz; unfold restC at this; rw [if_neg hhi] at this; exact this))
          have HRc : Hid (optC (nd.mode == 1) (nd.hi - nd.lo).toNat (kidsC fo nd) = restC fo nd) := Lib.hid (by unfold restC; rw [if_neg hhi])
          clear hLz
          go_wp2_with fail
          refine HC.out.mono ?_
          rintro e w9 ⟨rfl, hW9, hF9⟩
          rw [HRc.out] at hW9
          have HW9 := Lib.hid (HEnd.out w9 hW9)
          have HF9 := Lib.hid (HFz.out.trans hF9)
          clear hW9 hF9
          go_wp2
          exact ⟨rfl, .tuple #[], by simp [results, Tryz.results95, go_sem], rfl, HW9.out, HF9.out⟩

end Go.Proofs.YtkoflhohokdllaaGreatDoor
