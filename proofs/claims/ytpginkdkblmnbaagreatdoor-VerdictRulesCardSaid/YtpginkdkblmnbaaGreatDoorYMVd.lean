/- Joined: VdM, VdP, VdR, VdC. -/
import Derived.Test.YtpginkdkblmnbaaGreatDoorYMRc
import Derived.Test.YtpginkdkblmnbaaGreatDoorYSf
import Derived.Test.YtpginkdkblmnbaaGreatDoorYMModel
import Derived.Test.YtpginkdkblmnbaaGreatDoorYMRb
/- Layer 8, as functions over a pattern's verdict: a set's, and a change's. Of no program. -/
namespace Go.Proofs.YtpginkdkblmnbaaGreatDoor

/-- of the first rule whose pattern isn't right: code, ID, byte -/
def badR (p : ByteArray → Int × Int) : List Ru → Int × Int × Int
  | [] => (0, 0, 0)
  | r :: l => if (p r.pat).1 = 0 then badR p l else ((p r.pat).1, r.id, (p r.pat).2)
def rulesM (p : ByteArray → Int × Int) (s : RS) : Int × Int × Int := if s.Ok then badR p s.rs else (10, 0, 0)
section
variable {p : ByteArray → Int × Int}
theorem badR_zero {l : List Ru} : (badR p l).1 = 0 ↔ ∀ r ∈ l, (p r.pat).1 = 0 := by
  induction l with
  | nil => simp [badR]
  | cons r l ih =>
    unfold badR
    by_cases h : (p r.pat).1 = 0
    · rw [if_pos h, ih]; simp [h]
    · rw [if_neg h]; simp [h]
theorem badR_none {l : List Ru} (h : ∀ r ∈ l, (p r.pat).1 = 0) : badR p l = (0, 0, 0) := by
  induction l with
  | nil => rfl
  | cons r l ih =>
    unfold badR
    rw [if_pos (h r (List.mem_cons_self ..))]
    exact ih fun x hx => h x (List.mem_cons_of_mem _ hx)
theorem badR_take {l : List Ru} {k : Nat} {r : Ru} (h : l[k]? = some r) (hn : ∀ x ∈ l.take k, (p x.pat).1 = 0) (hr : (p r.pat).1 ≠ 0) : badR p l = ((p r.pat).1, r.id, (p r.pat).2) := by
  induction l generalizing k with
  | nil => simp at h
  | cons x l ih =>
    cases k with
    | zero =>
      simp at h
      subst h
      unfold badR
      rw [if_neg hr]
    | succ k =>
      unfold badR
      rw [if_pos (hn x (by simp))]
      exact ih (by simpa using h) fun y hy => hn y (by simp [hy])
theorem badR_some {l : List Ru} (h : (badR p l).1 ≠ 0) : ∃ k r, l[k]? = some r ∧ (∀ x ∈ l.take k, (p x.pat).1 = 0) ∧ (p r.pat).1 ≠ 0 ∧ badR p l = ((p r.pat).1, r.id, (p r.pat).2) := by
  induction l with
  | nil => exact absurd rfl h
  | cons x l ih =>
    by_cases hx : (p x.pat).1 = 0
    · have e : badR p (x :: l) = badR p l := by
        show (if _ then _ else _) = _
        rw [if_pos hx]
      rw [e] at h ⊢
      obtain ⟨k, r, h1, h2, h3, h4⟩ := ih h
      refine ⟨k + 1, r, by simpa using h1, fun y hy => ?_, h3, h4⟩
      rw [List.take_succ_cons] at hy
      rcases List.mem_cons.1 hy with rfl | hy
      · exact hx
      · exact h2 y hy
    · exact ⟨0, x, rfl, by simp, hx, by show (if _ then _ else _) = _; rw [if_neg hx]⟩
end

end Go.Proofs.YtpginkdkblmnbaaGreatDoor

/- Package verdict: Pattern. -/
namespace Go.Proofs.YtpginkdkblmnbaaGreatDoor
open Go.RowKit
open Go.Proofs.YtpginkdkblmnbaaGreatDoor.Cl (Rg)
variable {w w' : World}

/-- a pattern's verdict: code and byte -/
def pvR : Except Flt (Nd × Nat × Bool) → Int × Int
  | .error f => (((f.1 : Nat) : Int), ((f.2 : Nat) : Int))
  | .ok y => (((verdictN y.1 : Nat) : Int), 0)
def pvM (x : ByteArray) : Int × Int := pvR (parse 1026 x.data.toList)
theorem rul_on {n₀ : Nat} {v : Value} {l : List Ru} (h : RulesV n₀ w v l) (hB : Below n₀ w w') (hn : n₀ ≤ w'.heap.size) : RulesV w'.heap.size w' v l := (h.below hB).more hn

set_option maxRecDepth 100000 in
set_option maxHeartbeats 4000000 in
theorem vpat_any (x : ByteArray) (hx : x.size ≤ 1000000) (w : World) (hT : TabsAt w.heap.size w) :
    Calls Tryz.prog 18 #[.string x] w fun e w' => e = .returned (.agg #[.int .i64 (pvM x).1, .int .i64 0, .int .i64 (pvM x).2]) ∧ Below w.heap.size w w' := by
  have hb0 : Below w.heap.size w (w.alloc (.cells #[.int .i64 0, .int .i64 0, .int .i64 0] 48)) := (Below.refl _ _).alloc (Nat.le_refl _) _
  have hz0 : Blk (w.alloc (.cells #[.int .i64 0, .int .i64 0, .int .i64 0] 48)) w.heap.size 48 #[.int .i64 0, .int .i64 0, .int .i64 0] := Blk.new _ _ _
  have HT := Lib.hid (tabs_on hT hb0 hb0.size)
  have HB0 := Lib.hid hb0
  have HZ0 := Lib.hid hz0
  clear hb0 hz0 hT
  have HP : Hid (∀ W : World, TabsAt W.heap.size W → Calls Tryz.prog 8 #[.string x] W (ParsePost W (parse 1026 x.data.toList))) := Lib.hid (fun W hW => parse_any (s := x.data.toList) 1026 (by omega) (by have : x.data.toList.length = x.size := rfl; omega) hW)
  obtain ⟨v, hv⟩ : ∃ v, v = pvM x := ⟨_, rfl⟩
  rw [← hv]
  obtain ⟨r, hr⟩ : ∃ r, r = parse 1026 x.data.toList := ⟨_, rfl⟩
  have HV : Hid (v = pvR r) := Lib.hid (by rw [hv, hr]; rfl)
  rw [← hr] at HP
  have HR := Lib.hid hr
  clear hv hr
  go_enter Tryz.func18, Tryz.ntmps18
  go_wp2_with fail
  generalize w.alloc (.cells #[.int .i64 0, .int .i64 0, .int .i64 0] 48) = w0 at *
  refine (HP.out _ HT.out).mono ?_
  clear HP
  cases r with
  | error f =>
    rintro e w1 ⟨rfl, hb1⟩
    have hf : f.1 ≠ 0 := parse_code (Nat.le_refl _) HR.out.symm
    have hf1 : ((f.1 : Int) != 0) = true := by simp [hf]
    have HV1 : Hid (v = (((f.1 : Nat) : Int), ((f.2 : Nat) : Int))) := HV
    unfold zero9
    have P1 := Lib.hid (put_new w0 w1 #[.int .i64 0, .int .i64 0, .int .i64 0, .int .i64 0, .int .i64 0, .slice none 0 0, .slice none 0 0, .int .i64 0, .bool false] #[.int .i64 (f.1 : Nat), .int .i64 (f.2 : Nat)] hb1)
    go_upto_region 2 with (fail)
    generalize (w1.alloc (.cells #[.int .i64 0, .int .i64 0, .int .i64 0, .int .i64 0, .int .i64 0, .slice none 0 0, .slice none 0 0, .int .i64 0, .bool false] 29)).alloc (.cells #[.int .i64 (f.1 : Nat), .int .i64 (f.2 : Nat)] 32) = v1 at *
    have hc0 := P1.out.flt.cell 0
    have hc1 := P1.out.flt.cell 1
    have hlt := P1.out.flt.lt
    have hz := HZ0.out.on P1.out.keep
    have z0 := hz.cell 0
    have z1 := hz.cell 1
    have z2 := hz.cell 2
    have fz := hz.frozen
    have hlz := hz.lt
    have HBv := Lib.hid (HB0.out.trans (P1.out.keep.mono HB0.out.size))
    clear hz hf
    go_wp2
    refine bodyPost_ret (v := .agg #[.int .i64 (f.1 : Nat), .int .i64 0, .int .i64 (f.2 : Nat)]) (by simp [results, Tryz.results18, go_sem, *]) rfl ⟨by rw [HV1.out], ?_⟩
    exact ((HBv.out.setCell (Nat.le_refl _) _).setCell (Nat.le_refl _) _).setCell (Nat.le_refl _) _
  | ok y =>
    rintro e w1 ⟨A1, A2, p1, p2, rfl, hN, hb1⟩
    have HV1 : Hid (v = (((verdictN y.1 : Nat) : Int), 0)) := HV
    obtain ⟨nd, g, fo⟩ := y
    simp only at hN HV1 ⊢
    have HW := Lib.hid (parse_wf HR.out.symm)
    unfold pCells
    have P1 := Lib.hid (put_new w0 w1 #[.int .i64 nd.kind, .int .i64 nd.lo, .int .i64 nd.hi, .int .i64 nd.mode, .int .i64 nd.ref, .slice A1 nd.set.length p1, .slice A2 nd.kids.length p2, .int .i64 (g : Nat), .bool fo] #[.int .i64 0, .int .i64 0] hb1)
    have HN1 := Lib.hid (hN.on (put_on w1 #[.int .i64 nd.kind, .int .i64 nd.lo, .int .i64 nd.hi, .int .i64 nd.mode, .int .i64 nd.ref, .slice A1 nd.set.length p1, .slice A2 nd.kids.length p2, .int .i64 (g : Nat), .bool fo] #[.int .i64 0, .int .i64 0]))
    clear hN HR HV
    go_upto_region 2 with (fail)
    generalize (w1.alloc (.cells #[.int .i64 nd.kind, .int .i64 nd.lo, .int .i64 nd.hi, .int .i64 nd.mode, .int .i64 nd.ref, .slice A1 nd.set.length p1, .slice A2 nd.kids.length p2, .int .i64 (g : Nat), .bool fo] 29)).alloc (.cells #[.int .i64 0, .int .i64 0] 32) = v1 at *
    have hc0 := P1.out.flt.cell 0
    have hn := P1.out.node.nine
    have hln := P1.out.node.lt
    have hlt := P1.out.flt.lt
    have HC := Lib.hid (check_any nd HW.out (g : Nat) fo v1 A1 A2 p1 p2 HN1.out)
    obtain ⟨vc, hvc⟩ : ∃ vc, vc = verdictN nd := ⟨_, rfl⟩
    rw [← hvc] at HC HV1
    clear hvc
    have HBv := Lib.hid (HB0.out.trans (P1.out.keep.mono HB0.out.size))
    have HZ1 := Lib.hid (HZ0.out.on P1.out.keep)
    go_wp2_with fail
    refine HC.out.mono ?_
    rintro e w2 ⟨rfl, hb2⟩
    have hz := HZ1.out.on hb2
    have z0 := hz.cell 0
    have z1 := hz.cell 1
    have z2 := hz.cell 2
    have fz := hz.frozen
    have hlz := hz.lt
    have HB2 := Lib.hid (HBv.out.trans (hb2.mono HBv.out.size))
    clear hz hc0 hn hln hlt
    go_wp2
    refine bodyPost_ret (v := .agg #[.int .i64 (vc : Nat), .int .i64 0, .int .i64 0]) (by simp [results, Tryz.results18, go_sem, *]) rfl ⟨by rw [HV1.out], ?_⟩
    exact ((HB2.out.setCell (Nat.le_refl _) _).setCell (Nat.le_refl _) _).setCell (Nat.le_refl _) _

end Go.Proofs.YtpginkdkblmnbaaGreatDoor

/- Package verdict: Rules. -/
namespace Go.Proofs.YtpginkdkblmnbaaGreatDoor
open Go.RowKit
variable {w w' : World}

theorem rule_small {r : Ru} (h : r.ok = true) : r.pat.size ≤ 1000000 := by
  simp only [Ru.ok, decide_eq_true_eq] at h
  omega

set_option maxRecDepth 100000 in
set_option maxHeartbeats 4000000 in
theorem vrules_any (s : RS) (v : Value) (w : World) (hmax : s.rs.length ≤ 1000000) (hT : TabsAt w.heap.size w) (hS : RulesV w.heap.size w v s.rs) :
    Calls Tryz.prog 23 #[.agg #[.int .i64 s.de, .int .i64 s.cl, .int .i64 s.fu, .int .i64 s.st, v]] w
      fun e w' => e = .returned (.agg #[.int .i64 (rulesM pvM s).1, .int .i64 (rulesM pvM s).2.1, .int .i64 (rulesM pvM s).2.2]) ∧ Below w.heap.size w w' := by
  obtain ⟨A, cap, rfl⟩ := hS.form
  obtain ⟨w0, hw0⟩ : ∃ w0, w0 = ((w.alloc (.cells #[.int .i64 s.de, .int .i64 s.cl, .int .i64 s.fu, .int .i64 s.st, .slice A s.rs.length cap] 59)).alloc (.cells #[.int .i64 0, .int .i64 0, .int .i64 0] 48)) := ⟨_, rfl⟩
  have hb0 : Below w.heap.size w w0 := by rw [hw0]; exact ((Below.refl _ _).alloc (Nat.le_refl _) _).alloc (by simp) _
  have hx0 : Blk w0 w.heap.size 59 #[.int .i64 s.de, .int .i64 s.cl, .int .i64 s.fu, .int .i64 s.st, .slice A s.rs.length cap] := by rw [hw0]; exact (Blk.new _ _ _).alloc _
  have hz0 : Blk w0 (w.heap.size + 1) 48 #[.int .i64 0, .int .i64 0, .int .i64 0] := by rw [hw0]; exact Blk.at_new _ _ (by simp) _ _
  have HT0 := Lib.hid (tabs_on hT hb0 hb0.size)
  have HS0 := Lib.hid (hS.on hb0)
  have HB0 := Lib.hid hb0
  have HX0 := Lib.hid hx0
  have HZ0 := Lib.hid hz0
  clear hS hT hb0 hx0 hz0
  obtain ⟨V, hV⟩ : ∃ V, V = rulesM pvM s := ⟨_, rfl⟩
  rw [← hV]
  have HV := Lib.hid hV
  clear hV
  go_enter Tryz.func23, Tryz.ntmps23
  go_wp2_with fail
  rw [← hw0]
  clear hw0
  refine (setRight_any s _ w0 hmax HS0.out).mono ?_
  rintro e w1 ⟨rfl, hb1⟩
  have HT1 := Lib.hid (tabs_on HT0.out hb1 hb1.size)
  have HS1 := Lib.hid (HS0.out.on hb1)
  have HB1 := Lib.hid (HB0.out.trans (hb1.mono HB0.out.size))
  have HX1 := Lib.hid (HX0.out.on hb1)
  have HZ1 := Lib.hid (HZ0.out.on hb1)
  clear hb1 HT0 HS0 HB0 HX0 HZ0
  by_cases h1 : s.Ok
  · rw [decide_eq_true h1]
    have H1 := Lib.hid h1
    have HVb : Hid (V = badR pvM s.rs) := Lib.hid (by rw [HV.out]; unfold rulesM; rw [if_pos h1])
    clear h1 HV
    have x4 := HX1.out.cell 4
    have hlx := HX1.out.lt
    go_wp2
    clear x4 hlx
    go_loopw [13] (fun i wr => ∃ k : Nat, k ≤ s.rs.length ∧ i = .int .i64 k ∧ Hid (∀ x ∈ s.rs.take k, (pvM x.pat).1 = 0) ∧ Hid (Below w1.heap.size w1 wr)) (fun i _ => s.rs.length - (intOf i).toNat)
    case atStart => exact ⟨0, Nat.zero_le _, rfl, Lib.hid (by simp), Lib.hid (Below.refl _ _)⟩
    case round =>
      obtain ⟨k, hk, rfl, HN, HB⟩ := hrel
      have hsz := HB.out.size
      by_cases hlt : k < s.rs.length
      · obtain ⟨b, off, rfl, hb, c0, c1, c2, c3, c4⟩ := (HS1.out.below HB.out).at_ hlt
        have HG := Lib.hid (List.getElem?_eq_getElem hlt)
        have HRo := Lib.hid (rule_small (H1.out.2.2.1 _ (List.getElem_mem hlt)))
        generalize s.rs[k] = r at HG HRo c0 c1 c2 c3 c4
        have HLt := Lib.hid hlt
        have hb2 : Below w1.heap.size w1 (wr.alloc (.cells #[.int .i64 r.id, .int .i64 r.pr, .int .i64 r.ac, .int .i64 r.sc, .string r.pat] 71)) := HB.out.alloc hsz _
        have hr2 : Blk (wr.alloc (.cells #[.int .i64 r.id, .int .i64 r.pr, .int .i64 r.ac, .int .i64 r.sc, .string r.pat] 71)) wr.heap.size 71 #[.int .i64 r.id, .int .i64 r.pr, .int .i64 r.ac, .int .i64 r.sc, .string r.pat] := Blk.new _ _ _
        go_upto_region 6 with (fail)
        have hs2 : (wr.alloc (.cells #[.int .i64 r.id, .int .i64 r.pr, .int .i64 r.ac, .int .i64 r.sc, .string r.pat] 71)).heap.size = wr.heap.size + 1 := by simp
        generalize wr.alloc (.cells #[.int .i64 r.id, .int .i64 r.pr, .int .i64 r.ac, .int .i64 r.sc, .string r.pat] 71) = w2 at *
        have HB2 := Lib.hid hb2
        have HR2 := Lib.hid hr2
        have HT2 := Lib.hid (tabs_on HT1.out hb2 hb2.size)
        have r4 := hr2.cell 4
        have hlr := hr2.lt
        clear hb2 hr2 c0 c1 c2 c3 c4
        have HPt := Lib.hid (vpat_any r.pat HRo.out w2 HT2.out)
        obtain ⟨c, hc⟩ : ∃ c, c = (pvM r.pat).1 := ⟨_, rfl⟩
        obtain ⟨a, ha⟩ : ∃ a, a = (pvM r.pat).2 := ⟨_, rfl⟩
        rw [← hc, ← ha] at HPt
        have HC := Lib.hid hc
        have HA := Lib.hid ha
        clear hc ha
        go_wp2_with fail
        refine HPt.out.mono ?_
        rintro e w3 ⟨rfl, hb3⟩
        have HB3 := Lib.hid (HB2.out.trans (hb3.mono HB2.out.size))
        have HR3 := Lib.hid (HR2.out.on hb3)
        have hs3 := hb3.size
        clear hb3 r4 hlr HPt
        by_cases h0 : c = 0
        · have h0' : (c != 0) = false := by simp [h0]
          have H0 := Lib.hid h0
          clear h0
          go_wp2
          go_roundw
          case rel => exact ⟨k + 1, HLt.out, by go_num, Lib.hid (by
            rw [ru_take HG.out]
            intro x hx
            rcases List.mem_append.1 hx with h | h
            · exact HN.out x h
            · rw [List.mem_singleton.1 h, ← HC.out]; exact H0.out), Lib.hid (HB3.out.alloc HB3.out.size _)⟩
          case measure => have := HLt.out; simp [intOf]; omega
        · have h0' : (c != 0) = true := by simp [h0]
          have HBad : Hid (V = (c, r.id, a)) := Lib.hid (by
            rw [HVb.out, badR_take HG.out HN.out (by rw [← HC.out]; exact h0), ← HC.out, ← HA.out])
          clear h0
          have r0 := HR3.out.cell 0
          have hlr := HR3.out.lt
          go_upto_region 9 with (fail)
          have hz3 := HZ1.out.on HB3.out
          have hzl := hz3.lt
          obtain ⟨W, hW⟩ : ∃ W, W = w3.alloc (.cells #[.int .i64 c, .int .i64 r.id, .int .i64 a] 48) := ⟨_, rfl⟩
          rw [← hW]
          have hvW : Blk W w3.heap.size 48 #[.int .i64 c, .int .i64 r.id, .int .i64 a] := by rw [hW]; exact Blk.new _ _ _
          have hzW : Blk W (w.heap.size + 1) 48 #[.int .i64 0, .int .i64 0, .int .i64 0] := by rw [hW]; exact hz3.alloc _
          have hBW : Below w.heap.size w W := by
            have h1 := HB1.out.size
            rw [hW]
            exact HB1.out.trans ((HB3.out.alloc HB3.out.size _).mono h1)
          have HBW := Lib.hid hBW
          clear hW hBW r0 hlr hzl
          have v0 := hvW.cell 0
          have v1 := hvW.cell 1
          have v2 := hvW.cell 2
          have z0 := hzW.cell 0
          have z1 := hzW.cell 1
          have z2 := hzW.cell 2
          have fz := hzW.frozen
          have hlz := hzW.lt
          have hlv := hvW.lt
          clear hz3
          go_wp2
          refine bodyPost_ret (v := .agg #[.int .i64 c, .int .i64 r.id, .int .i64 a]) (by simp [results, Tryz.results23, go_sem, *]) rfl ⟨by rw [HBad.out], ?_⟩
          exact ((HBW.out.setCell (show w.heap.size ≤ w.heap.size + 1 by omega) _).setCell (show w.heap.size ≤ w.heap.size + 1 by omega) _).setCell (show w.heap.size ≤ w.heap.size + 1 by omega) _
      · obtain rfl : k = s.rs.length := by omega
        have HBad : Hid (V = (0, 0, 0)) := Lib.hid (by
          have := HN.out
          rw [List.take_length] at this
          rw [HVb.out, badR_none this])
        have hz := HZ1.out.on HB.out
        have z0 := hz.cell 0
        have z1 := hz.cell 1
        have z2 := hz.cell 2
        have fz := hz.frozen
        have hlz := hz.lt
        clear hz
        have HBW := Lib.hid (HB1.out.trans (HB.out.mono HB1.out.size))
        go_wp2
        refine bodyPost_ret (v := .agg #[.int .i64 0, .int .i64 0, .int .i64 0]) (by simp [results, Tryz.results23, go_sem, *]) rfl ⟨by rw [HBad.out], ?_⟩
        exact ((HBW.out.setCell (show w.heap.size ≤ w.heap.size + 1 by omega) _).setCell (show w.heap.size ≤ w.heap.size + 1 by omega) _).setCell (show w.heap.size ≤ w.heap.size + 1 by omega) _
  · rw [decide_eq_false h1]
    have HBad : Hid (V = (10, 0, 0)) := Lib.hid (by rw [HV.out]; unfold rulesM; rw [if_neg h1])
    clear h1 HV
    have hz := HZ1.out
    have z0 := hz.cell 0
    have z1 := hz.cell 1
    have z2 := hz.cell 2
    have fz := hz.frozen
    have hlz := hz.lt
    clear hz
    go_wp2
    refine bodyPost_ret (v := .agg #[.int .i64 10, .int .i64 0, .int .i64 0]) (by simp [results, Tryz.results23, go_sem, *]) rfl ⟨by rw [HBad.out], ?_⟩
    exact ((HB1.out.setCell (show w.heap.size ≤ w.heap.size + 1 by omega) _).setCell (show w.heap.size ≤ w.heap.size + 1 by omega) _).setCell (show w.heap.size ≤ w.heap.size + 1 by omega) _

end Go.Proofs.YtpginkdkblmnbaaGreatDoor

/- Package verdict: Change. -/
namespace Go.Proofs.YtpginkdkblmnbaaGreatDoor
open Go.RowKit
variable {w w' : World}

end Go.Proofs.YtpginkdkblmnbaaGreatDoor

