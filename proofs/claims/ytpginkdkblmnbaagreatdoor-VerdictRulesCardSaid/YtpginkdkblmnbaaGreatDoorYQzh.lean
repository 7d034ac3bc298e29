/- The law VerdictRules, as a contract: true, and nothing that lay has turned. -/
import Derived.Test.YtpginkdkblmnbaaGreatDoorYMQf
import Derived.Test.YtpginkdkblmnbaaGreatDoorYMVe
import Derived.Test.YtpginkdkblmnbaaGreatDoorYMRc
namespace Go.Proofs.YtpginkdkblmnbaaGreatDoor
open Go.RowKit
variable {w w' : World}

theorem rul_nilR (n : Nat) (w : World) : RulesV n w (.slice none 0 0) [] := ⟨none, 0, rfl, Nat.le_refl _, fun h => absurd rfl h⟩
set_option maxHeartbeats 1000000 in
theorem like_true (a b c : Int) (w : World) : Calls Tryz.prog 19 #[.agg #[.int .i64 a, .int .i64 b, .int .i64 c], .agg #[.int .i64 a, .int .i64 b, .int .i64 c]] w fun e w' => e = .returned (.bool true) ∧ Below w.heap.size w w' := by
  obtain ⟨w0, hw0⟩ : ∃ w0, w0 = ((w.alloc (.cells #[.int .i64 a, .int .i64 b, .int .i64 c] 48)).alloc (.cells #[.int .i64 a, .int .i64 b, .int .i64 c] 52)) := ⟨_, rfl⟩
  have hb0 : Below w.heap.size w w0 := by rw [hw0]; exact ((Below.refl _ _).alloc (Nat.le_refl _) _).alloc (by simp) _
  have hx0 : Blk w0 w.heap.size 48 #[.int .i64 a, .int .i64 b, .int .i64 c] := by rw [hw0]; exact (Blk.new _ _ _).alloc _
  have hz0 : Blk w0 (w.heap.size + 1) 52 #[.int .i64 a, .int .i64 b, .int .i64 c] := by rw [hw0]; exact Blk.at_new _ _ (by simp) _ _
  have x0 := hx0.cell 0
  have x1 := hx0.cell 1
  have x2 := hx0.cell 2
  have z0 := hz0.cell 0
  have z1 := hz0.cell 1
  have z2 := hz0.cell 2
  clear hx0 hz0
  go_enter Tryz.func19, Tryz.ntmps19
  go_upto_region 1 with (fail)
  rw [← hw0]
  clear hw0
  go_wp2
  go_ret
  exact ⟨rfl, hb0⟩
/-- The verdict names a rule just if that is the first bad one. -/
theorem bad_at {p : ByteArray → Int × Int} {s : RS} (h : s.Ok) {k : Nat} {r : Ru} (hr : s.rs[k]? = some r) (hn : ∀ x ∈ s.rs.take k, (p x.pat).1 = 0) :
    ((p r.pat).1 ≠ 0 → badR p s.rs = ((p r.pat).1, r.id, (p r.pat).2)) ∧ ((p r.pat).1 = 0 → (badR p s.rs).2.1 ≠ r.id) := by
  refine ⟨fun h1 => badR_take hr hn h1, fun h1 h2 => ?_⟩
  have hm : r ∈ s.rs := List.mem_of_getElem? hr
  have hpos : 1 ≤ r.id := by
    have := h.2.2.1 r hm
    simp [Ru.ok] at this
    omega
  by_cases hz : (badR p s.rs).1 = 0
  · have := badR_none (badR_zero.1 hz)
    rw [this] at h2
    simp at h2
    omega
  · obtain ⟨j, q, h3, _, h5, h6⟩ := badR_some hz
    rw [h6] at h2
    have := rise_inj h.2.2.2 (List.mem_of_getElem? h3) hm h2
    rw [this] at h5
    exact h5 h1
set_option maxRecDepth 100000 in
set_option maxHeartbeats 8000000 in
theorem verdictRules_law (s : RS) (v : Value) (w : World) (hm1 : s.rs.length ≤ 9223372036854775807) (hT : TabsAt w.heap.size w) (hS : RulesV w.heap.size w v s.rs) :
    Calls Tryz.prog 5 #[.agg #[.int .i64 s.de, .int .i64 s.cl, .int .i64 s.fu, .int .i64 s.st, v]] w fun e w' => e = .returned (.bool true) ∧ Below w.heap.size w w' := by
  obtain ⟨A, cap, rfl⟩ := hS.form
  obtain ⟨w0, hw0⟩ : ∃ w0, w0 = (w.alloc (.cells #[.int .i64 s.de, .int .i64 s.cl, .int .i64 s.fu, .int .i64 s.st, .slice A s.rs.length cap] 59)) := ⟨_, rfl⟩
  have hb0 : Below w.heap.size w w0 := by rw [hw0]; exact (Below.refl _ _).alloc (Nat.le_refl _) _
  have hx : Blk w0 w.heap.size 59 #[.int .i64 s.de, .int .i64 s.cl, .int .i64 s.fu, .int .i64 s.st, .slice A s.rs.length cap] := by rw [hw0]; exact Blk.new _ _ _
  have HS := Lib.hid hS
  have HT := Lib.hid hT
  have HM := Lib.hid hm1
  clear hS hT hm1
  go_enter Tryz.func5, Tryz.ntmps5
  go_wp2_with fail
  rw [← hw0]
  clear hw0
  refine (anchor8_any w0 (tabs_on HT.out hb0 hb0.size)).mono ?_
  rintro e w1 ⟨rfl, hb1⟩
  have HB1 := Lib.hid (hb0.trans (hb1.mono hb0.size))
  have SX1 := Lib.hid (hx.on hb1)
  clear hb0 hx hb1
  obtain ⟨a0, a1, a2, a3, a4⟩ := SX1.out.c5
  go_wp2_with fail
  have hsm := small8_any s ⟨0, 0, 0, 0, [], []⟩ (.slice A s.rs.length cap) (.slice none 0 0) (.slice none 0 0) w1 HM.out (by simp) ⟨_, _, rfl⟩ (rul_on HS.out HB1.out HB1.out.size) (rul_nilR _ _)
  refine hsm.mono ?_
  clear hsm a0 a1 a2 a3 a4
  rintro e w2 ⟨b, rfl, hb, hb2⟩
  have HB2 := Lib.hid (HB1.out.trans (hb2.mono HB1.out.size))
  have SX2 := Lib.hid (SX1.out.on hb2)
  clear hb2
  cases b with
  | false =>
    clear hb
    go_wp2_with fail
    go_ret
    exact ⟨rfl, HB2.out⟩
  | true =>
    have HSm := Lib.hid (hb rfl).1
    clear hb
    obtain ⟨a0, a1, a2, a3, a4⟩ := SX2.out.c5
    go_wp2_with fail
    refine (vrules_any s _ w2 (by have := HSm.out; omega) (tabs_on HT.out HB2.out HB2.out.size) (rul_on HS.out HB2.out HB2.out.size)).mono ?_
    clear a0 a1 a2 a3 a4
    rintro e w3 ⟨rfl, hb3⟩
    obtain ⟨R, hR⟩ : ∃ R, R = rulesM pvM s := ⟨_, rfl⟩
    rw [← hR]
    obtain ⟨r0, r1, r2⟩ := R
    simp only
    have HRM : Hid ((r0, r1, r2) = rulesM pvM s) := Lib.hid hR
    clear hR
    have hb4 := hb3.alloc hb3.size (.cells #[.int .i64 r0, .int .i64 r1, .int .i64 r2] 48)
    have hv5 : Blk (w3.alloc (.cells #[.int .i64 r0, .int .i64 r1, .int .i64 r2] 48)) w3.heap.size 48 #[.int .i64 r0, .int .i64 r1, .int .i64 r2] := Blk.new _ _ _
    go_upto_region 6 with (fail)
    generalize w3.alloc (.cells #[.int .i64 r0, .int .i64 r1, .int .i64 r2] 48) = w5 at *
    have HB5 := Lib.hid (HB2.out.trans (hb4.mono HB2.out.size))
    have SX5 := Lib.hid (SX2.out.on hb4)
    have VX5 := Lib.hid hv5
    have HR5 := Lib.hid (rul_on HS.out HB5.out HB5.out.size)
    clear hb3 hb4 hv5 HB1 SX1 HB2 SX2
    have fin : ∀ (wq : World), Below w5.heap.size w5 wq → Below w.heap.size w wq := fun wq h => HB5.out.trans (h.mono HB5.out.size)
    have FIN := Lib.hid fin
    clear fin
    obtain ⟨gv, hgv⟩ : ∃ gv, gv = w3.heap.size := ⟨_, rfl⟩
    rw [← hgv] at VX5 ⊢
    clear hgv
    have main : True := trivial
    · refine wp_region_held_drew (S := fun w' => Below w5.heap.size w5 w') (by kernel_rfl) (qdrew w5) (fun hHeld => ?_)
      refine take_dq 0 15 (.agg #[.int .i64 r0, .int .i64 r1, .int .i64 r2]) _ rfl rfl (by kernel_rfl) (by kernel_rfl) (by kernel_rfl) (fun _ _ _ h => h) (Or.inl ⟨by rfl, fun w' hSw => ?_⟩) hHeld ?_
      · have zz := VX5.out.on hSw
        have z0 := zz.cell 0
        have z1 := zz.cell 1
        have z2 := zz.cell 2
        clear zz
        go_simp
      simp only [List.setIfInBounds_toArray, List.set_cons_zero, List.set_cons_succ]
      refine take_dq 1 16 (.agg #[.int .i64 s.de, .int .i64 s.cl, .int .i64 s.fu, .int .i64 s.st, .slice A s.rs.length cap]) _ rfl rfl (by kernel_rfl) (by kernel_rfl) (by kernel_rfl) (fun _ _ _ h => h) (Or.inl ⟨by rfl, fun w' hSw => ?_⟩) hHeld ?_
      · have zz := (SX5.out.on hSw).c5
        go_simp
      simp only [List.setIfInBounds_toArray, List.set_cons_zero, List.set_cons_succ]
      refine wpAnyH_ready (rs := [2]) (by kernel_rfl) (by simp) ?_
      refine AllReadyH.cons rfl (fun K hK => ?_) AllReadyH.nil
      go_simp
      refine (madeSet_any s _ _ (by have := HSm.out; omega) (rul_on HR5.out hHeld hHeld.size)).mono ?_
      rintro e wk ⟨XV, rfl, ox, hbk⟩
      have HOX : Hid (RulesV wk.heap.size wk XV s.rs) := Lib.hid ox.set
      clear ox
      have hSk := hHeld.trans (hbk.mono hHeld.size)
      refine hK.out _ _ hSk (fun hHeld => ?_)
      clear hK K hbk hSk
      refine wpAnyH_ready (rs := [3]) (by kernel_rfl) (by simp) ?_
      refine AllReadyH.cons rfl (fun K hK => ?_) AllReadyH.nil
      go_simp
      refine (xvrules_any s XV _ (by have := HSm.out; omega) HOX.out).mono ?_
      rw [← HRM.out]
      rintro e wk2 ⟨rfl, hbk⟩
      clear HOX
      have hSk := hHeld.trans (hbk.mono hHeld.size)
      refine hK.out _ _ hSk (fun hHeld => ?_)
      clear hK K hbk hSk
      refine wpAnyH_ready (rs := [4]) (by kernel_rfl) (by simp) ?_
      refine AllReadyH.cons rfl (fun K hK => ?_) AllReadyH.nil
      go_simp
      refine (like_true r0 r1 r2 _).mono ?_
      rintro e wk3 ⟨rfl, hbk⟩
      have hSk := hHeld.trans (hbk.mono hHeld.size)
      refine hK.out _ _ hSk (fun hHeld => ?_)
      clear hK K hbk hSk
      refine take_dq 5 20 (.bool false) _ rfl rfl (by kernel_rfl) (by kernel_rfl) (by kernel_rfl) (fun _ _ _ h => h) (Or.inl ⟨by rfl, fun w' hSw => ?_⟩) hHeld ?_
      · go_simp
      simp only [List.setIfInBounds_toArray, List.set_cons_zero, List.set_cons_succ]
      refine wpAnyH_done (by kernel_rfl) ?_ _
      have SX6 := Lib.hid (SX5.out.on hHeld)
      have VX6 := Lib.hid (VX5.out.on hHeld)
      have HR6 := Lib.hid (rul_on HR5.out hHeld hHeld.size)
      have HB6 := Lib.hid (FIN.out _ hHeld)
      clear hHeld HB5 SX5 VX5 HR5 FIN main
      obtain ⟨a0, a1, a2, a3, a4⟩ := SX6.out.c5
      go_wp2_with fail
      refine (setRight_any s _ wk3 (by have := HSm.out; omega) HR6.out).mono ?_
      clear a0 a1 a2 a3 a4
      rintro e w6 ⟨rfl, hb6⟩
      have HB7 := Lib.hid (HB6.out.trans (hb6.mono HB6.out.size))
      have SX7 := Lib.hid (SX6.out.on hb6)
      have VX7 := Lib.hid (VX6.out.on hb6)
      have HR7 := Lib.hid (rul_on HR6.out hb6 hb6.size)
      clear hb6 HB6 SX6 VX6 HR6
      by_cases h1 : s.Ok
      · rw [decide_eq_true h1]
        have H1 := Lib.hid h1
        have HBd : Hid ((r0, r1, r2) = badR pvM s.rs) := Lib.hid (by rw [HRM.out]; unfold rulesM; rw [if_pos h1])
        clear h1 HRM
        have HT7 := Lib.hid (tabs_on HT.out HB7.out HB7.out.size)
        obtain ⟨a0, a1, a2, a3, a4⟩ := SX7.out.c5
        have hls := SX7.out.lt
        go_wp2
        clear a0 a1 a2 a3 a4 hls
        go_loopw [30] (fun i wr => ∃ k : Nat, k ≤ s.rs.length ∧ i = .int .i64 k ∧ Hid (∀ x ∈ s.rs.take k, (pvM x.pat).1 = 0) ∧ Hid (Below w6.heap.size w6 wr)) (fun i _ => s.rs.length - (intOf i).toNat)
        case atStart => exact ⟨0, Nat.zero_le _, rfl, Lib.hid (by simp), Lib.hid (Below.refl _ _)⟩
        case round =>
          obtain ⟨k, hk, rfl, HN, HB⟩ := hrel
          have hsz := HB.out.size
          by_cases hlt : k < s.rs.length
          · obtain ⟨b, off, rfl, hb, c0, c1, c2, c3, c4⟩ := (HR7.out.below HB.out).at_ hlt
            have HG := Lib.hid (List.getElem?_eq_getElem hlt)
            have HRo := Lib.hid (rule_small (H1.out.2.2.1 _ (List.getElem_mem hlt)))
            generalize s.rs[k] = r at HG HRo c0 c1 c2 c3 c4
            have HLt := Lib.hid hlt
            have hb2 : Below w6.heap.size w6 (wr.alloc (.cells #[.int .i64 r.id, .int .i64 r.pr, .int .i64 r.ac, .int .i64 r.sc, .string r.pat] 71)) := HB.out.alloc hsz _
            have hr2 : Blk (wr.alloc (.cells #[.int .i64 r.id, .int .i64 r.pr, .int .i64 r.ac, .int .i64 r.sc, .string r.pat] 71)) wr.heap.size 71 #[.int .i64 r.id, .int .i64 r.pr, .int .i64 r.ac, .int .i64 r.sc, .string r.pat] := Blk.new _ _ _
            go_upto_region 13 with (fail)
            generalize wr.alloc (.cells #[.int .i64 r.id, .int .i64 r.pr, .int .i64 r.ac, .int .i64 r.sc, .string r.pat] 71) = w8 at *
            obtain ⟨gr, hgr⟩ : ∃ gr, gr = wr.heap.size := ⟨_, rfl⟩
            rw [← hgr] at hr2 ⊢
            clear hgr
            have HB8 := Lib.hid hb2
            have HR8 := Lib.hid hr2
            have HT8 := Lib.hid (tabs_on HT7.out hb2 hb2.size)
            have r4 := hr2.cell 4
            have hlr := hr2.lt
            clear hb2 hr2 c0 c1 c2 c3 c4
            have HPt := Lib.hid (vpat_any r.pat HRo.out w8 HT8.out)
            obtain ⟨c, hc⟩ : ∃ c, c = (pvM r.pat).1 := ⟨_, rfl⟩
            obtain ⟨a, ha⟩ : ∃ a, a = (pvM r.pat).2 := ⟨_, rfl⟩
            rw [← hc, ← ha] at HPt
            have hba := bad_at (p := pvM) H1.out HG.out HN.out
            rw [← hc, ← ha, ← HBd.out] at hba
            have HC := Lib.hid hc
            clear hc ha
            have HBa := Lib.hid hba
            clear hba
            go_wp2_with fail
            refine HPt.out.mono ?_
            rintro e w9 ⟨rfl, hb9⟩
            clear r4 hlr HPt
            have HB9 := Lib.hid (HB8.out.trans (hb9.mono HB8.out.size))
            have HR9 := Lib.hid (HR8.out.on hb9)
            clear hb9 HB8 HR8 HB
            go_upto_region 14 with (fail)
            have hbA : Below w6.heap.size w6 (w9.alloc (.cells #[.int .i64 c, .int .i64 0, .int .i64 a] 48)) := HB9.out.alloc HB9.out.size _
            have hrA : Blk (w9.alloc (.cells #[.int .i64 c, .int .i64 0, .int .i64 a] 48)) gr 71 #[.int .i64 r.id, .int .i64 r.pr, .int .i64 r.ac, .int .i64 r.sc, .string r.pat] := HR9.out.alloc _
            have hqA : Blk (w9.alloc (.cells #[.int .i64 c, .int .i64 0, .int .i64 a] 48)) w9.heap.size 48 #[.int .i64 c, .int .i64 0, .int .i64 a] := Blk.new _ _ _
            generalize w9.alloc (.cells #[.int .i64 c, .int .i64 0, .int .i64 a] 48) = wA at *
            obtain ⟨gq, hgq⟩ : ∃ gq, gq = w9.heap.size := ⟨_, rfl⟩
            rw [← hgq] at hqA ⊢
            clear hgq
            have HBA := Lib.hid hbA
            have hvA : Blk wA gv 48 #[.int .i64 r0, .int .i64 r1, .int .i64 r2] := VX7.out.on hbA
            have x0 := hrA.cell 0
            have v0 := hvA.cell 0
            have v1 := hvA.cell 1
            have v2 := hvA.cell 2
            have q0 := hqA.cell 0
            have q2 := hqA.cell 2
            have hl1 := hrA.lt
            have hl2 := hvA.lt
            have hl3 := hqA.lt
            clear hbA hrA hqA hvA HB9 HR9
            by_cases h0 : c = 0
            · have hne := HBa.out.2 h0
              have hb : (r1 == r.id) = false := by simpa using hne
              clear hne HBa
              have H0 := Lib.hid h0
              subst h0
              go_wp2
              have hwr : wrap64 ((k : Int) + 1) = ((k + 1 : Nat) : Int) := by have := HLt.out; have := HSm.out; unfold wrap64; omega
              go_roundw
              case rel => exact ⟨k + 1, HLt.out, by rw [hwr], Lib.hid (by
                rw [ru_take HG.out]
                intro x hx
                rcases List.mem_append.1 hx with h | h
                · exact HN.out x h
                · rw [List.mem_singleton.1 h, ← HC.out]), HBA⟩
              case measure =>
                have := HLt.out
                rw [hwr]
                simp [intOf]
                omega
            · have he := HBa.out.1 h0
              obtain ⟨e0, e'⟩ := Prod.mk.inj he
              obtain ⟨e1, e2⟩ := Prod.mk.inj e'
              subst e0 e1 e2
              clear he e' HBa
              have h0b : (r0 != 0) = true := by simpa using h0
              clear h0
              go_wp2
              go_ret
              exact ⟨by simp, HB7.out.trans (HBA.out.mono HB7.out.size)⟩
          · obtain rfl : k = s.rs.length := by omega
            have hz : (r0, r1, r2) = ((0, 0, 0) : Int × Int × Int) := by
              have := HN.out
              rw [List.take_length] at this
              rw [HBd.out, badR_none this]
            obtain ⟨rfl, hz'⟩ := Prod.mk.inj hz
            obtain ⟨rfl, rfl⟩ := Prod.mk.inj hz'
            clear hz hz'
            have hv := VX7.out.on HB.out
            have v0 := hv.cell 0
            have v1 := hv.cell 1
            have v2 := hv.cell 2
            have hlv := hv.lt
            clear hv
            have e1 := fun w => run_eql_verdict 0 0 0 0 0 0 w
            go_wp2_with fail
            go_ret
            exact ⟨by simp, HB7.out.trans (HB.out.mono HB7.out.size)⟩
      · rw [decide_eq_false h1]
        have hz : (r0, r1, r2) = ((10, 0, 0) : Int × Int × Int) := by rw [HRM.out]; unfold rulesM; rw [if_neg h1]
        obtain ⟨rfl, hz'⟩ := Prod.mk.inj hz
        obtain ⟨rfl, rfl⟩ := Prod.mk.inj hz'
        clear hz hz' h1 HRM
        have v0 := VX7.out.cell 0
        have v1 := VX7.out.cell 1
        have v2 := VX7.out.cell 2
        have hlv := VX7.out.lt
        have e1 := fun w => run_eql_verdict 10 0 0 10 0 0 w
        go_wp2_with fail
        go_ret
        exact ⟨by simp, HB7.out⟩
end Go.Proofs.YtpginkdkblmnbaaGreatDoor
