/- Joined: Qzf, Qzg. -/
import Derived.Test.YtpginkdkblmnbaaGreatDoorYQze
import Derived.Test.YtpginkdkblmnbaaGreatDoorYMVd
import Derived.Test.YtpginkdkblmnbaaGreatDoorYMRd
/- The document's own verdict of a pattern, and of a set: as contracts. -/
namespace Go.Proofs.YtpginkdkblmnbaaGreatDoor
open Go.RowKit
open Go.Proofs.YtpginkdkblmnbaaGreatDoor.Cl (Rg)
variable {w w' : World}

theorem xparse_1026 (x : ByteArray) (w : World) : Calls Tryz.prog 9 #[.string x] w fun e w' => Below w.heap.size w w' ∧ XPR (parse 1026 x.data.toList) w' e := by
  by_cases h : x.size ≤ 256
  · exact xparse_bytes 1026 x (by omega) w
  · have hl : 256 < x.data.toList.length := by have : x.data.toList.length = x.size := rfl; omega
    have e : parse 1026 x.data.toList = parse (4 * x.size + 2) x.data.toList := by unfold parse; rw [if_pos hl, if_pos hl]
    rw [e]
    exact xparse_bytes _ x (Nat.le_refl _) w
set_option maxRecDepth 100000 in
set_option maxHeartbeats 4000000 in
theorem xvpat_any (x : ByteArray) (w : World) :
    Calls Tryz.prog 20 #[.string x] w fun e w' => e = .returned (.agg #[.int .i64 (pvM x).1, .int .i64 0, .int .i64 (pvM x).2]) ∧ Below w.heap.size w w' := by
  have hb0 : Below w.heap.size w (w.alloc (.cells #[.int .i64 0, .int .i64 0, .int .i64 0] 52)) := (Below.refl _ _).alloc (Nat.le_refl _) _
  have hz0 : Blk (w.alloc (.cells #[.int .i64 0, .int .i64 0, .int .i64 0] 52)) w.heap.size 52 #[.int .i64 0, .int .i64 0, .int .i64 0] := Blk.new _ _ _
  have HB0 := Lib.hid hb0
  have HZ0 := Lib.hid hz0
  clear hb0 hz0
  have HP : Hid (∀ W : World, Calls Tryz.prog 9 #[.string x] W fun e w' => Below W.heap.size W w' ∧ XPR (parse 1026 x.data.toList) w' e) := Lib.hid (fun W => xparse_1026 x W)
  obtain ⟨v, hv⟩ : ∃ v, v = pvM x := ⟨_, rfl⟩
  rw [← hv]
  obtain ⟨r, hr⟩ : ∃ r, r = parse 1026 x.data.toList := ⟨_, rfl⟩
  have HV : Hid (v = pvR r) := Lib.hid (by rw [hv, hr]; rfl)
  rw [← hr] at HP
  have HR := Lib.hid hr
  clear hv hr
  go_enter Tryz.func20, Tryz.ntmps20
  go_wp2_with fail
  generalize w.alloc (.cells #[.int .i64 0, .int .i64 0, .int .i64 0] 52) = w0 at *
  refine (HP.out w0).mono ?_
  clear HP
  cases r with
  | error f =>
    intro e w1 h1
    obtain ⟨hb1, he⟩ := h1
    have he' : e = .returned (.tuple #[.agg #[.int .i64 0, .int .i64 0, .int .i64 0, .int .i64 0, .int .i64 0, .slice none 0 0, .bool false, .slice none 0 0], .int .i64 0, .bool false, .int .i64 (f.1 : Nat), .int .i64 (f.2 : Nat)]) := he
    clear he
    subst he'
    have hf : f.1 ≠ 0 := parse_code (Nat.le_refl _) HR.out.symm
    have hf1 : ((f.1 : Int) != 0) = true := by simp [hf]
    have HV1 : Hid (v = (((f.1 : Nat) : Int), ((f.2 : Nat) : Int))) := HV
    have hb3 := hb1.alloc hb1.size (.cells #[.int .i64 0, .int .i64 0, .int .i64 0, .int .i64 0, .int .i64 0, .slice none 0 0, .bool false, .slice none 0 0] 38)
    go_upto_region 2 with (fail)
    generalize w1.alloc (.cells #[.int .i64 0, .int .i64 0, .int .i64 0, .int .i64 0, .int .i64 0, .slice none 0 0, .bool false, .slice none 0 0] 38) = v1 at *
    have hz := HZ0.out.on hb3
    have z0 := hz.cell 0
    have z1 := hz.cell 1
    have z2 := hz.cell 2
    have fz := hz.frozen
    have hlz := hz.lt
    have HBv := Lib.hid (HB0.out.trans (hb3.mono HB0.out.size))
    clear hz hf hb1 hb3
    go_wp2
    refine bodyPost_ret (v := .agg #[.int .i64 (f.1 : Nat), .int .i64 0, .int .i64 (f.2 : Nat)]) (by simp [results, Tryz.results20, go_sem, *]) rfl ⟨by rw [HV1.out], ?_⟩
    exact ((HBv.out.setCell (Nat.le_refl _) _).setCell (Nat.le_refl _) _).setCell (Nat.le_refl _) _
  | ok y =>
    intro e w1 h1
    obtain ⟨nd, g, fo⟩ := y
    have HV1 : Hid (v = (((verdictN nd : Nat) : Int), 0)) := HV
    have HW := Lib.hid (parse_wf HR.out.symm)
    obtain ⟨hb1, B1, n1, q1, nb, B2, q2, rfl, hQ⟩ := h1
    have hb3 := hb1.alloc hb1.size (.cells #[.int .i64 nd.kind, .int .i64 nd.lo, .int .i64 nd.hi, .int .i64 nd.mode, .int .i64 nd.ref, .slice B1 n1 q1, .bool nb, .slice B2 nd.kids.length q2] 38)
    have HQn := Lib.hid (Blk.new w1 38 #[.int .i64 nd.kind, .int .i64 nd.lo, .int .i64 nd.hi, .int .i64 nd.mode, .int .i64 nd.ref, .slice B1 n1 q1, .bool nb, .slice B2 nd.kids.length q2])
    have HQv := Lib.hid (hQ.on_ (new_blkQ w1 #[.int .i64 nd.kind, .int .i64 nd.lo, .int .i64 nd.hi, .int .i64 nd.mode, .int .i64 nd.ref, .slice B1 n1 q1, .bool nb, .slice B2 nd.kids.length q2]))
    clear hQ HR HV
    simp only
    go_upto_region 2 with (fail)
    generalize w1.alloc (.cells #[.int .i64 nd.kind, .int .i64 nd.lo, .int .i64 nd.hi, .int .i64 nd.mode, .int .i64 nd.ref, .slice B1 n1 q1, .bool nb, .slice B2 nd.kids.length q2] 38) = v1 at *
    have HZ1 := Lib.hid (HZ0.out.on hb3)
    have HBv := Lib.hid (HB0.out.trans (hb3.mono HB0.out.size))
    have c8 := HQn.out.c8
    have HC := Lib.hid (checkQ_any nd HW.out v1 B1 B2 n1 q1 q2 nb HQv.out)
    generalize verdictN nd = vd at *
    clear hb1 hb3 HQv
    go_wp2_with fail
    refine HC.out.mono ?_
    rintro e w5 ⟨rfl, hb5⟩
    have hz := HZ1.out.on hb5
    have z0 := hz.cell 0
    have z1 := hz.cell 1
    have z2 := hz.cell 2
    have fz := hz.frozen
    have hlz := hz.lt
    have HB5 := Lib.hid (HBv.out.trans (hb5.mono HBv.out.size))
    clear hz hb5 c8 HC
    go_wp2
    refine bodyPost_ret (v := .agg #[.int .i64 (vd : Nat), .int .i64 0, .int .i64 0]) (by simp [results, Tryz.results20, go_sem, *]) rfl ⟨by rw [HV1.out], ?_⟩
    exact ((HB5.out.setCell (Nat.le_refl _) _).setCell (Nat.le_refl _) _).setCell (Nat.le_refl _) _
end Go.Proofs.YtpginkdkblmnbaaGreatDoor

/- The document's own verdict of a set: as a contract. -/
namespace Go.Proofs.YtpginkdkblmnbaaGreatDoor
open Go.RowKit
variable {w w' : World}

set_option maxRecDepth 100000 in
set_option maxHeartbeats 4000000 in
theorem xvrules_any (s : RS) (v : Value) (w : World) (hmax : s.rs.length ≤ 1000000) (hS : RulesV w.heap.size w v s.rs) :
    Calls Tryz.prog 24 #[.agg #[.int .i64 s.de, .int .i64 s.cl, .int .i64 s.fu, .int .i64 s.st, v]] w
      fun e w' => e = .returned (.agg #[.int .i64 (rulesM pvM s).1, .int .i64 (rulesM pvM s).2.1, .int .i64 (rulesM pvM s).2.2]) ∧ Below w.heap.size w w' := by
  obtain ⟨A, cap, rfl⟩ := hS.form
  obtain ⟨w0, hw0⟩ : ∃ w0, w0 = ((w.alloc (.cells #[.int .i64 s.de, .int .i64 s.cl, .int .i64 s.fu, .int .i64 s.st, .slice A s.rs.length cap] 68)).alloc (.cells #[.int .i64 0, .int .i64 0, .int .i64 0] 52)) := ⟨_, rfl⟩
  have hb0 : Below w.heap.size w w0 := by rw [hw0]; exact ((Below.refl _ _).alloc (Nat.le_refl _) _).alloc (by simp) _
  have hx0 : Blk w0 w.heap.size 68 #[.int .i64 s.de, .int .i64 s.cl, .int .i64 s.fu, .int .i64 s.st, .slice A s.rs.length cap] := by rw [hw0]; exact (Blk.new _ _ _).alloc _
  have hz0 : Blk w0 (w.heap.size + 1) 52 #[.int .i64 0, .int .i64 0, .int .i64 0] := by rw [hw0]; exact Blk.at_new _ _ (by simp) _ _
  have HS0 := Lib.hid (hS.on hb0)
  have HB0 := Lib.hid hb0
  have HX0 := Lib.hid hx0
  have HZ0 := Lib.hid hz0
  obtain ⟨x0, x1, x2, x3, x4⟩ := hx0.c5
  have hlx := hx0.lt
  clear hS hb0 hx0 hz0
  obtain ⟨V, hV⟩ : ∃ V, V = rulesM pvM s := ⟨_, rfl⟩
  rw [← hV]
  have HV := Lib.hid hV
  clear hV
  go_enter Tryz.func24, Tryz.ntmps24
  go_upto_region 1 with (fail)
  rw [← hw0]
  clear hw0
  go_wp2_with fail
  refine (xRight_any s _ w0 hmax HS0.out).mono ?_
  rintro e w1 ⟨rfl, hb1⟩
  have HS1 := Lib.hid (HS0.out.on hb1)
  have HB1 := Lib.hid (HB0.out.trans (hb1.mono HB0.out.size))
  have HX1 := Lib.hid (HX0.out.on hb1)
  have HZ1 := Lib.hid (HZ0.out.on hb1)
  clear hb1 HS0 HB0 HX0 HZ0 x0 x1 x2 x3 x4 hlx
  by_cases h1 : s.Ok
  · rw [decide_eq_true h1]
    have HVb : Hid (V = badR pvM s.rs) := Lib.hid (by rw [HV.out]; unfold rulesM; rw [if_pos h1])
    clear h1 HV
    go_wp2
    go_loopw [3] (fun i wr => ∃ k : Nat, k ≤ s.rs.length ∧ i = .int .i64 k ∧ Hid (∀ x ∈ s.rs.take k, (pvM x.pat).1 = 0) ∧ Hid (Below w1.heap.size w1 wr)) (fun i _ => s.rs.length - (intOf i).toNat)
    case atStart => exact ⟨0, Nat.zero_le _, rfl, Lib.hid (by simp), Lib.hid (Below.refl _ _)⟩
    case round =>
      obtain ⟨k, hk, rfl, HN, HB⟩ := hrel
      have hsz := HB.out.size
      have hxr := HX1.out.on HB.out
      have x4 := hxr.cell 4
      have hlx := hxr.lt
      clear hxr
      by_cases hlt : k < s.rs.length
      · have hat := (HS1.out.below HB.out).at_ hlt
        obtain ⟨b, off, rfl, hb, hra⟩ := hat
        have HRA := Lib.hid hra
        obtain ⟨c0, c1, c2, c3, c4⟩ := hra
        have HG := Lib.hid (List.getElem?_eq_getElem hlt)
        generalize s.rs[k] = r at HG HRA c0 c1 c2 c3 c4
        have HLt := Lib.hid hlt
        have HPt := Lib.hid (xvpat_any r.pat wr)
        obtain ⟨c, hc⟩ : ∃ c, c = (pvM r.pat).1 := ⟨_, rfl⟩
        obtain ⟨a, ha⟩ : ∃ a, a = (pvM r.pat).2 := ⟨_, rfl⟩
        rw [← hc, ← ha] at HPt
        have HC := Lib.hid hc
        have HA := Lib.hid ha
        have hlti : (k : Int) < s.rs.length := by omega
        clear hc ha
        go_wp2_with fail
        refine HPt.out.mono ?_
        rintro e w3 ⟨rfl, hb3⟩
        have HB3 := Lib.hid (HB.out.trans (hb3.mono hsz))
        have hbw3 : b < wr.heap.size := by omega
        have d0 := (hb3.cell (p := ⟨b, off + k * 5, none⟩) hbw3).trans c0
        have hs3 := hb3.size
        have hx3 := HX1.out.on HB3.out
        clear c0 c1 c2 c3 c4 HPt x4 hlx
        have x4 := hx3.cell 4
        have hlx := hx3.lt
        clear hx3 hb3
        by_cases h0 : c = 0
        · have h0' : (c != 0) = false := by simp [h0]
          have H0 := Lib.hid h0
          clear h0 d0 x4 hlx
          go_wp2
          go_roundw
          case rel => exact ⟨k + 1, HLt.out, by go_num, Lib.hid (by
            rw [ru_take HG.out]
            intro x hx
            rcases List.mem_append.1 hx with h | h
            · exact HN.out x h
            · rw [List.mem_singleton.1 h, ← HC.out]; exact H0.out), Lib.hid (HB3.out.alloc HB3.out.size _)⟩
          case measure => have := HLt.out; simp [intOf]; omega
        · have h0' : (c != 0) = true := by simp [h0]
          have HBad : Hid (V = (c, r.id, a)) := Lib.hid (by
            rw [HVb.out, badR_take HG.out HN.out (by rw [← HC.out]; exact h0), ← HC.out, ← HA.out])
          have hbl3 : b < w3.heap.size := by omega
          have d0' := (((Below.refl w3.heap.size w3).alloc (Nat.le_refl _) (.cells #[.int .i64 c, .int .i64 0, .int .i64 a] 52)).cell (p := ⟨b, off + k * 5, none⟩) hbl3).trans d0
          clear h0
          go_upto_region 9 with (fail)
          have hz3 := HZ1.out.on HB3.out
          have hzl := hz3.lt
          obtain ⟨W, hW⟩ : ∃ W, W = w3.alloc (.cells #[.int .i64 c, .int .i64 r.id, .int .i64 a] 52) := ⟨_, rfl⟩
          rw [← hW]
          have hvW : Blk W w3.heap.size 52 #[.int .i64 c, .int .i64 r.id, .int .i64 a] := by rw [hW]; exact Blk.new _ _ _
          have hzW : Blk W (w.heap.size + 1) 52 #[.int .i64 0, .int .i64 0, .int .i64 0] := by rw [hW]; exact hz3.alloc _
          have hBW : Below w.heap.size w W := by
            have h1 := HB1.out.size
            rw [hW]
            exact HB1.out.trans ((HB3.out.alloc HB3.out.size _).mono h1)
          have HBW := Lib.hid hBW
          clear hW hBW hzl d0 d0' x4 hlx
          have v0 := hvW.cell 0
          have v1 := hvW.cell 1
          have v2 := hvW.cell 2
          have z0 := hzW.cell 0
          have z1 := hzW.cell 1
          have z2 := hzW.cell 2
          have fz := hzW.frozen
          have hlz := hzW.lt
          have hlv := hvW.lt
          clear hz3
          go_wp2
          refine bodyPost_ret (v := .agg #[.int .i64 c, .int .i64 r.id, .int .i64 a]) (by simp [results, Tryz.results24, go_sem, *]) rfl ⟨by rw [HBad.out], ?_⟩
          exact ((HBW.out.setCell (show w.heap.size ≤ w.heap.size + 1 by omega) _).setCell (show w.heap.size ≤ w.heap.size + 1 by omega) _).setCell (show w.heap.size ≤ w.heap.size + 1 by omega) _
      · obtain rfl : k = s.rs.length := by omega
        have HBad : Hid (V = (0, 0, 0)) := Lib.hid (by
          have := HN.out
          rw [List.take_length] at this
          rw [HVb.out, badR_none this])
        have hz := HZ1.out.on HB.out
        have z0 := hz.cell 0
        have z1 := hz.cell 1
        have z2 := hz.cell 2
        have fz := hz.frozen
        have hlz := hz.lt
        clear hz
        have HBW := Lib.hid (HB1.out.trans (HB.out.mono HB1.out.size))
        go_wp2
        refine bodyPost_ret (v := .agg #[.int .i64 0, .int .i64 0, .int .i64 0]) (by simp [results, Tryz.results24, go_sem, *]) rfl ⟨by rw [HBad.out], ?_⟩
        exact ((HBW.out.setCell (show w.heap.size ≤ w.heap.size + 1 by omega) _).setCell (show w.heap.size ≤ w.heap.size + 1 by omega) _).setCell (show w.heap.size ≤ w.heap.size + 1 by omega) _
  · rw [decide_eq_false h1]
    have HBad : Hid (V = (10, 0, 0)) := Lib.hid (by rw [HV.out]; unfold rulesM; rw [if_neg h1])
    clear h1 HV
    have hz := HZ1.out
    have z0 := hz.cell 0
    have z1 := hz.cell 1
    have z2 := hz.cell 2
    have fz := hz.frozen
    have hlz := hz.lt
    clear hz
    go_wp2
    refine bodyPost_ret (v := .agg #[.int .i64 10, .int .i64 0, .int .i64 0]) (by simp [results, Tryz.results24, go_sem, *]) rfl ⟨by rw [HBad.out], ?_⟩
    exact ((HB1.out.setCell (show w.heap.size ≤ w.heap.size + 1 by omega) _).setCell (show w.heap.size ≤ w.heap.size + 1 by omega) _).setCell (show w.heap.size ≤ w.heap.size + 1 by omega) _
end Go.Proofs.YtpginkdkblmnbaaGreatDoor

