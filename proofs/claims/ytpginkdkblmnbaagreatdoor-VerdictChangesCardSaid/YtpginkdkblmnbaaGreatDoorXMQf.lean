import Derived.Test.YtpginkdkblmnbaaGreatDoorXQze
import Derived.Test.YtpginkdkblmnbaaGreatDoorXMVd
import Derived.Test.YtpginkdkblmnbaaGreatDoorXMRd
namespace Go.Proofs.YtpginkdkblmnbaaGreatDoor
section
open Go.RowKit
open Go.Proofs.YtpginkdkblmnbaaGreatDoor.Cl (Rg)
variable {w w' : World}
theorem Èr (x : ByteArray) (w : World) : Calls Tryz.prog 9 #[.string x] w fun e w' => Below w.heap.size w w' ∧ XPR (ý 1026 x.data.toList) w' e := by
 by_cases h : x.size ≤ 256
 ·exact Ãh 1026 x (by omega) w
 ·have hl : 256 < x.data.toList.length := by have : x.data.toList.length = x.size := rfl; omega
  have e : ý 1026 x.data.toList = ý (4 * x.size + 2) x.data.toList := by unfold ý; rw [if_pos hl, if_pos hl]
  rw [e];exact Ãh _ x (ŋ _) w
set_option maxRecDepth 100000 in
set_option maxHeartbeats 4000000 in
theorem ËI (x : ByteArray) (w : World) :
 Calls Tryz.prog 20 #[.string x] w fun e w' => e = .returned (.agg #[.int .i64 (pvM x).1, .int .i64 0, .int .i64 (pvM x).2]) ∧ Below w.heap.size w w' := by
 have hb0 : Below w.heap.size w (w.alloc (.cells #[.int .i64 0, .int .i64 0, .int .i64 0] 52)) := (ā _ _).alloc (ŋ _) _;have hz0 : Blk (w.alloc (.cells #[.int .i64 0, .int .i64 0, .int .i64 0] 52)) w.heap.size 52 #[.int .i64 0, .int .i64 0, .int .i64 0] := Blk.new _ _ _;have HB0 := ħ hb0;have HZ0 := ħ hz0;clear hb0 hz0
 have HP : Hid (∀ W : World, Calls Tryz.prog 9 #[.string x] W fun e w' => Below W.heap.size W w' ∧ XPR (ý 1026 x.data.toList) w' e) := ħ (fun W => Èr x W)
 obtain ⟨v, hv⟩ : ∃ v, v = pvM x := ⟨_, rfl⟩;rw [← hv];obtain ⟨r, hr⟩ : ∃ r, r = ý 1026 x.data.toList := ⟨_, rfl⟩
 have HV : Hid (v = pvR r) := ħ (by rw [hv, hr]; rfl)
 rw [← hr] at HP;have HR := ħ hr;clear hv hr;go_enter Tryz.func20, Tryz.ntmps20
 go_wp2_with fail
 generalize w.alloc (.cells #[.int .i64 0, .int .i64 0, .int .i64 0] 52) = w0 at *;refine (HP.o w0).mono ?_;clear HP
 cases r with
 | error f =>
  intro e w1 h1;obtain ⟨hb1, he⟩ := h1;have he' : e = .returned (.tuple #[.agg #[.int .i64 0, .int .i64 0, .int .i64 0, .int .i64 0, .int .i64 0, .slice none 0 0, .bool false, .slice none 0 0], .int .i64 0, .bool false, .int .i64 (f.1 : Nat), .int .i64 (f.2 : Nat)]) := he;clear he;subst he';have hf : f.1 ≠ 0 := Åq (ŋ _) HR.o.symm
  have hf1 : ((f.1 : Int) != 0) = true := by simp [hf]
  have HV1 : Hid (v = (((f.1 : Nat) : Int), ((f.2 : Nat) : Int))) := HV;have hb3 := hb1.alloc hb1.size (.cells #[.int .i64 0, .int .i64 0, .int .i64 0, .int .i64 0, .int .i64 0, .slice none 0 0, .bool false, .slice none 0 0] 38)
  go_upto_region 2 with (fail)
  generalize w1.alloc (.cells #[.int .i64 0, .int .i64 0, .int .i64 0, .int .i64 0, .int .i64 0, .slice none 0 0, .bool false, .slice none 0 0] 38) = v1 at *;have hz := HZ0.o.on hb3;have z0 := hz.cell 0;have z1 := hz.cell 1;have z2 := hz.cell 2;have fz := hz.frozen;have hlz := hz.lt;have HBv := ħ (HB0.o.trans (hb3.mono HB0.o.size));clear hz hf hb1 hb3;go_wp2
  refine bodyPost_ret (v := .agg #[.int .i64 (f.1 : Nat), .int .i64 0, .int .i64 (f.2 : Nat)]) (by simp [results, Tryz.results20, go_sem, *]) rfl ⟨by rw [HV1.o], ?_⟩
  exact ((HBv.o.setCell (ŋ _) _).setCell (ŋ _) _).setCell (ŋ _) _
 | ok y =>
  intro e w1 h1;obtain ⟨nd, g, fo⟩ := y;have HV1 : Hid (v = (((Ž nd : Nat) : Int), 0)) := HV;have HW := ħ (ÇF HR.o.symm);obtain ⟨hb1, B1, n1, q1, nb, B2, q2, rfl, hQ⟩ := h1;have hb3 := hb1.alloc hb1.size (.cells #[.int .i64 nd.kind, .int .i64 nd.lo, .int .i64 nd.hi, .int .i64 nd.mode, .int .i64 nd.ref, .slice B1 n1 q1, .bool nb, .slice B2 nd.kids.length q2] 38);have HQn := ħ (Blk.new w1 38 #[.int .i64 nd.kind, .int .i64 nd.lo, .int .i64 nd.hi, .int .i64 nd.mode, .int .i64 nd.ref, .slice B1 n1 q1, .bool nb, .slice B2 nd.kids.length q2]);have HQv := ħ (hQ.on_ (ÁW w1 #[.int .i64 nd.kind, .int .i64 nd.lo, .int .i64 nd.hi, .int .i64 nd.mode, .int .i64 nd.ref, .slice B1 n1 q1, .bool nb, .slice B2 nd.kids.length q2]));clear hQ HR HV;simp only
  go_upto_region 2 with (fail)
  generalize w1.alloc (.cells #[.int .i64 nd.kind, .int .i64 nd.lo, .int .i64 nd.hi, .int .i64 nd.mode, .int .i64 nd.ref, .slice B1 n1 q1, .bool nb, .slice B2 nd.kids.length q2] 38) = v1 at *;have HZ1 := ħ (HZ0.o.on hb3);have HBv := ħ (HB0.o.trans (hb3.mono HB0.o.size));have c8 := HQn.o.c8;have HC := ħ (Éd nd HW.o v1 B1 B2 n1 q1 q2 nb HQv.o);generalize Ž nd = vd at *;clear hb1 hb3 HQv
  go_wp2_with fail
  refine HC.o.mono ?_;rintro e w5 ⟨rfl, hb5⟩;have hz := HZ1.o.on hb5;have z0 := hz.cell 0;have z1 := hz.cell 1;have z2 := hz.cell 2;have fz := hz.frozen;have hlz := hz.lt;have HB5 := ħ (HBv.o.trans (hb5.mono HBv.o.size));clear hz hb5 c8 HC;go_wp2
  refine bodyPost_ret (v := .agg #[.int .i64 (vd : Nat), .int .i64 0, .int .i64 0]) (by simp [results, Tryz.results20, go_sem, *]) rfl ⟨by rw [HV1.o], ?_⟩
  exact ((HB5.o.setCell (ŋ _) _).setCell (ŋ _) _).setCell (ŋ _) _
end
section
open Go.RowKit
variable {w w' : World}
set_option maxRecDepth 100000 in
set_option maxHeartbeats 4000000 in
theorem Èv (s : RS) (v : Value) (w : World) (hmax : s.rs.length ≤ 1000000) (hS : Á w.heap.size w v s.rs) :
 Calls Tryz.prog 24 #[.agg #[.int .i64 s.de, .int .i64 s.cl, .int .i64 s.fu, .int .i64 s.st, v]] w
  fun e w' => e = .returned (.agg #[.int .i64 (í pvM s).1, .int .i64 (í pvM s).2.1, .int .i64 (í pvM s).2.2]) ∧ Below w.heap.size w w' := by
 obtain ⟨A, cap, rfl⟩ := hS.form;obtain ⟨w0, hw0⟩ : ∃ w0, w0 = ((w.alloc (.cells #[.int .i64 s.de, .int .i64 s.cl, .int .i64 s.fu, .int .i64 s.st, .slice A s.rs.length cap] 68)).alloc (.cells #[.int .i64 0, .int .i64 0, .int .i64 0] 52)) := ⟨_, rfl⟩
 have hb0 : Below w.heap.size w w0 := by rw [hw0]; exact ((ā _ _).alloc (ŋ _) _).alloc (by simp) _
 have hx0 : Blk w0 w.heap.size 68 #[.int .i64 s.de, .int .i64 s.cl, .int .i64 s.fu, .int .i64 s.st, .slice A s.rs.length cap] := by rw [hw0]; exact (Blk.new _ _ _).alloc _
 have hz0 : Blk w0 (w.heap.size + 1) 52 #[.int .i64 0, .int .i64 0, .int .i64 0] := by rw [hw0]; exact Blk.at_new _ _ (by simp) _ _
 have HS0 := ħ (hS.on hb0);have HB0 := ħ hb0;have HX0 := ħ hx0;have HZ0 := ħ hz0;obtain ⟨x0, x1, x2, x3, x4⟩ := hx0.c5;have hlx := hx0.lt;clear hS hb0 hx0 hz0;obtain ⟨V, hV⟩ : ∃ V, V = í pvM s := ⟨_, rfl⟩;rw [← hV];have HV := ħ hV;clear hV;go_enter Tryz.func24, Tryz.ntmps24
 go_upto_region 1 with (fail)
 rw [← hw0];clear hw0
 go_wp2_with fail
 refine (Åu s _ w0 hmax HS0.o).mono ?_;rintro e w1 ⟨rfl, hb1⟩;have HS1 := ħ (HS0.o.on hb1);have HB1 := ħ (HB0.o.trans (hb1.mono HB0.o.size));have HX1 := ħ (HX0.o.on hb1);have HZ1 := ħ (HZ0.o.on hb1);clear hb1 HS0 HB0 HX0 HZ0 x0 x1 x2 x3 x4 hlx
 by_cases h1 : s.Ok
 ·rw [decide_eq_true h1]
  have HVb : Hid (V = Çf pvM s.rs) := ħ (by rw [HV.o]; unfold í; rw [if_pos h1])
  clear h1 HV;go_wp2
  go_loopw [3] (fun i wr => ∃ k : Nat, k ≤ s.rs.length ∧ i = .int .i64 k ∧ Hid (∀ x ∈ s.rs.take k, (pvM x.pat).1 = 0) ∧ Hid (Below w1.heap.size w1 wr)) (fun i _ => s.rs.length - (intOf i).toNat)
  case atStart => exact ⟨0, Ą _, rfl, ħ (by simp), ħ (ā _ _)⟩
  case round =>
   obtain ⟨k, hk, rfl, HN, HB⟩ := hrel;have hsz := HB.o.size;have hxr := HX1.o.on HB.o;have x4 := hxr.cell 4;have hlx := hxr.lt;clear hxr
   by_cases hlt : k < s.rs.length
   ·have hat := (HS1.o.below HB.o).at_ hlt
    obtain ⟨b, off, rfl, hb, hra⟩ := hat;have HRA := ħ hra;obtain ⟨c0, c1, c2, c3, c4⟩ := hra;have HG := ħ (Ā hlt);generalize s.rs[k] = r at HG HRA c0 c1 c2 c3 c4;have HLt := ħ hlt;have HPt := ħ (ËI r.pat wr);obtain ⟨c, hc⟩ : ∃ c, c = (pvM r.pat).1 := ⟨_, rfl⟩;obtain ⟨a, ha⟩ : ∃ a, a = (pvM r.pat).2 := ⟨_, rfl⟩;rw [← hc, ← ha] at HPt;have HC := ħ hc;have HA := ħ ha
    have hlti : (k : Int) < s.rs.length := by omega
    clear hc ha
    go_wp2_with fail
    refine HPt.o.mono ?_;rintro e w3 ⟨rfl, hb3⟩;have HB3 := ħ (HB.o.trans (hb3.mono hsz))
    have hbw3 : b < wr.heap.size := by omega
    have d0 := (hb3.cell (p := ⟨b, off + k * 5, none⟩) hbw3).trans c0;have hs3 := hb3.size;have hx3 := HX1.o.on HB3.o;clear c0 c1 c2 c3 c4 HPt x4 hlx;have x4 := hx3.cell 4;have hlx := hx3.lt;clear hx3 hb3
    by_cases h0 : c = 0
    ·have h0' : (c != 0) = false := by simp [h0]
     have H0 := ħ h0;clear h0 d0 x4 hlx;go_wp2;go_roundw
     case rel => exact ⟨k + 1, HLt.o, by go_num, ħ (by
      rw [Ő HG.o];intro x hx
      rcases List.mem_append.1 hx with h | h
      ·exact HN.o x h
      ·rw [List.mem_singleton.1 h, ← HC.o]; exact H0.o), ħ (HB3.o.alloc HB3.o.size _)⟩
     case measure => have := HLt.o; simp [intOf]; omega
    ·have h0' : (c != 0) = true := by simp [h0]
     have HBad : Hid (V = (c, r.id, a)) := ħ (by
      rw [HVb.o, Æp HG.o HN.o (by rw [← HC.o]; exact h0), ← HC.o, ← HA.o])
     have hbl3 : b < w3.heap.size := by omega
     have d0' := (((ā w3.heap.size w3).alloc (ŋ _) (.cells #[.int .i64 c, .int .i64 0, .int .i64 a] 52)).cell (p := ⟨b, off + k * 5, none⟩) hbl3).trans d0;clear h0
     go_upto_region 9 with (fail)
     have hz3 := HZ1.o.on HB3.o;have hzl := hz3.lt;obtain ⟨W, hW⟩ : ∃ W, W = w3.alloc (.cells #[.int .i64 c, .int .i64 r.id, .int .i64 a] 52) := ⟨_, rfl⟩;rw [← hW]
     have hvW : Blk W w3.heap.size 52 #[.int .i64 c, .int .i64 r.id, .int .i64 a] := by rw [hW]; exact Blk.new _ _ _
     have hzW : Blk W (w.heap.size + 1) 52 #[.int .i64 0, .int .i64 0, .int .i64 0] := by rw [hW]; exact hz3.alloc _
     have hBW : Below w.heap.size w W := by
      have h1 := HB1.o.size;rw [hW];exact HB1.o.trans ((HB3.o.alloc HB3.o.size _).mono h1)
     have HBW := ħ hBW;clear hW hBW hzl d0 d0' x4 hlx;have v0 := hvW.cell 0;have v1 := hvW.cell 1;have v2 := hvW.cell 2;have z0 := hzW.cell 0;have z1 := hzW.cell 1;have z2 := hzW.cell 2;have fz := hzW.frozen;have hlz := hzW.lt;have hlv := hvW.lt;clear hz3;go_wp2
     refine bodyPost_ret (v := .agg #[.int .i64 c, .int .i64 r.id, .int .i64 a]) (by simp [results, Tryz.results24, go_sem, *]) rfl ⟨by rw [HBad.o], ?_⟩
     exact ((HBW.o.setCell (show w.heap.size ≤ w.heap.size + 1 by omega) _).setCell (show w.heap.size ≤ w.heap.size + 1 by omega) _).setCell (show w.heap.size ≤ w.heap.size + 1 by omega) _
   ·obtain rfl : k = s.rs.length := by omega
    have HBad : Hid (V = (0, 0, 0)) := ħ (by
     have := HN.o;rw [Ă] at this
     rw [HVb.o, Æo this])
    have hz := HZ1.o.on HB.o;have z0 := hz.cell 0;have z1 := hz.cell 1;have z2 := hz.cell 2;have fz := hz.frozen;have hlz := hz.lt;clear hz;have HBW := ħ (HB1.o.trans (HB.o.mono HB1.o.size));go_wp2
    refine bodyPost_ret (v := .agg #[.int .i64 0, .int .i64 0, .int .i64 0]) (by simp [results, Tryz.results24, go_sem, *]) rfl ⟨by rw [HBad.o], ?_⟩
    exact ((HBW.o.setCell (show w.heap.size ≤ w.heap.size + 1 by omega) _).setCell (show w.heap.size ≤ w.heap.size + 1 by omega) _).setCell (show w.heap.size ≤ w.heap.size + 1 by omega) _
 ·rw [decide_eq_false h1]
  have HBad : Hid (V = (10, 0, 0)) := ħ (by rw [HV.o]; unfold í; rw [if_neg h1])
  clear h1 HV;have hz := HZ1.o;have z0 := hz.cell 0;have z1 := hz.cell 1;have z2 := hz.cell 2;have fz := hz.frozen;have hlz := hz.lt;clear hz;go_wp2
  refine bodyPost_ret (v := .agg #[.int .i64 10, .int .i64 0, .int .i64 0]) (by simp [results, Tryz.results24, go_sem, *]) rfl ⟨by rw [HBad.o], ?_⟩
  exact ((HB1.o.setCell (show w.heap.size ≤ w.heap.size + 1 by omega) _).setCell (show w.heap.size ≤ w.heap.size + 1 by omega) _).setCell (show w.heap.size ≤ w.heap.size + 1 by omega) _
end
end Go.Proofs.YtpginkdkblmnbaaGreatDoor
