import Derived.Test.YtpginkdkblmnbaaGreatDoorWMRc
import Derived.Test.YtpginkdkblmnbaaGreatDoorWSf
namespace Go.Proofs.YtpginkdkblmnbaaGreatDoor
section
def ÉM (p : ByteArray → Int × Int) : List Ru → Int × Int × Int
 | [] => (0, 0, 0)
 | r :: l => if (p r.pat).1 = 0 then ÉM p l else ((p r.pat).1, r.id, (p r.pat).2)
def ÁI (p : ByteArray → Int × Int) (s : RS) : Int × Int × Int := if s.Ok then ÉM p s.rs else (10, 0, 0)
section
variable {p : ByteArray → Int × Int}
theorem Íg {l : List Ru} (h : ∀ r ∈ l, (p r.pat).1 = 0) : ÉM p l = (0, 0, 0) := by
 induction l with
 | nil => rfl
 | cons r l ih =>
  unfold ÉM;rw [if_pos (h r (List.mem_cons_self ..))]
  exact ih fun x hx => h x (List.mem_cons_of_mem _ hx)
theorem Íh {l : List Ru} {k : Nat} {r : Ru} (h : l[k]? = some r) (hn : ∀ x ∈ l.take k, (p x.pat).1 = 0) (hr : (p r.pat).1 ≠ 0) : ÉM p l = ((p r.pat).1, r.id, (p r.pat).2) := by
 induction l generalizing k with
 | nil => simp at h
 | cons x l ih =>
  cases k with
  | zero =>
   simp at h;subst h;unfold ÉM;rw [if_neg hr]
  | succ k =>
   unfold ÉM
   rw [if_pos (hn x (by simp))]
   exact ih (by simpa using h) fun y hy => hn y (by simp [hy])
end
end
section
open Go.RowKit
open Go.Proofs.YtpginkdkblmnbaaGreatDoor.Cl (Rg)
variable {w w' : World}
def pvR : Except Flt (Nd × Nat × Bool) → Int × Int
 | .error f => (((f.1 : Nat) : Int), ((f.2 : Nat) : Int))
 | .ok y => (((ì y.1 : Nat) : Int), 0)
def pvM (x : ByteArray) : Int × Int := pvR (ñ 1026 x.data.toList)
set_option maxRecDepth 100000 in
set_option maxHeartbeats 4000000 in
theorem Æq (x : ByteArray) (hx : x.size ≤ 1000000) (w : World) (hT : ś w.heap.size w) :
 Calls Tryz.prog 18 #[.string x] w fun e w' => e = .returned (.agg #[.int .i64 (pvM x).1, .int .i64 0, .int .i64 (pvM x).2]) ∧ Below w.heap.size w w' := by
 have hb0 : Below w.heap.size w (w.alloc (.cells #[.int .i64 0, .int .i64 0, .int .i64 0] 48)) := (ā _ _).alloc (ŋ _) _;have hz0 : Blk (w.alloc (.cells #[.int .i64 0, .int .i64 0, .int .i64 0] 48)) w.heap.size 48 #[.int .i64 0, .int .i64 0, .int .i64 0] := Blk.new _ _ _;have HT := ħ (ÀF hT hb0 hb0.size);have HB0 := ħ hb0;have HZ0 := ħ hz0;clear hb0 hz0 hT
 have HP : Hid (∀ W : World, ś W.heap.size W → Calls Tryz.prog 8 #[.string x] W (ÁY W (ñ 1026 x.data.toList))) := ħ (fun W hW => ÇC (s := x.data.toList) 1026 (by omega) (by have : x.data.toList.length = x.size := rfl; omega) hW)
 obtain ⟨v, hv⟩ : ∃ v, v = pvM x := ⟨_, rfl⟩;rw [← hv];obtain ⟨r, hr⟩ : ∃ r, r = ñ 1026 x.data.toList := ⟨_, rfl⟩
 have HV : Hid (v = pvR r) := ħ (by rw [hv, hr]; rfl)
 rw [← hr] at HP;have HR := ħ hr;clear hv hr;go_enter Tryz.func18, Tryz.ntmps18
 go_wp2_with fail
 generalize w.alloc (.cells #[.int .i64 0, .int .i64 0, .int .i64 0] 48) = w0 at *;refine (HP.o _ HT.o).mono ?_;clear HP
 cases r with
 | error f =>
  rintro e w1 ⟨rfl, hb1⟩;have hf : f.1 ≠ 0 := Ãy (ŋ _) HR.o.symm
  have hf1 : ((f.1 : Int) != 0) = true := by simp [hf]
  have HV1 : Hid (v = (((f.1 : Nat) : Int), ((f.2 : Nat) : Int))) := HV;unfold ź;have P1 := ħ (År w0 w1 #[.int .i64 0, .int .i64 0, .int .i64 0, .int .i64 0, .int .i64 0, .slice none 0 0, .slice none 0 0, .int .i64 0, .bool false] #[.int .i64 (f.1 : Nat), .int .i64 (f.2 : Nat)] hb1)
  go_upto_region 2 with (fail)
  generalize (w1.alloc (.cells #[.int .i64 0, .int .i64 0, .int .i64 0, .int .i64 0, .int .i64 0, .slice none 0 0, .slice none 0 0, .int .i64 0, .bool false] 29)).alloc (.cells #[.int .i64 (f.1 : Nat), .int .i64 (f.2 : Nat)] 32) = v1 at *;have hc0 := P1.o.flt.cell 0;have hc1 := P1.o.flt.cell 1;have hlt := P1.o.flt.lt;have hz := HZ0.o.on P1.o.keep;have z0 := hz.cell 0;have z1 := hz.cell 1;have z2 := hz.cell 2;have fz := hz.frozen;have hlz := hz.lt;have HBv := ħ (HB0.o.trans (P1.o.keep.mono HB0.o.size));clear hz hf;go_wp2
  refine bodyPost_ret (v := .agg #[.int .i64 (f.1 : Nat), .int .i64 0, .int .i64 (f.2 : Nat)]) (by simp [results, Tryz.results18, go_sem, *]) rfl ⟨by rw [HV1.o], ?_⟩
  exact ((HBv.o.setCell (ŋ _) _).setCell (ŋ _) _).setCell (ŋ _) _
 | ok y =>
  rintro e w1 ⟨A1, A2, p1, p2, rfl, hN, hb1⟩;have HV1 : Hid (v = (((ì y.1 : Nat) : Int), 0)) := HV;obtain ⟨nd, g, fo⟩ := y;simp only at hN HV1 ⊢;have HW := ħ (ÅD HR.o.symm);unfold Ëh;have P1 := ħ (År w0 w1 #[.int .i64 nd.kind, .int .i64 nd.lo, .int .i64 nd.hi, .int .i64 nd.mode, .int .i64 nd.ref, .slice A1 nd.set.length p1, .slice A2 nd.kids.length p2, .int .i64 (g : Nat), .bool fo] #[.int .i64 0, .int .i64 0] hb1);have HN1 := ħ (hN.on (ÎH w1 #[.int .i64 nd.kind, .int .i64 nd.lo, .int .i64 nd.hi, .int .i64 nd.mode, .int .i64 nd.ref, .slice A1 nd.set.length p1, .slice A2 nd.kids.length p2, .int .i64 (g : Nat), .bool fo] #[.int .i64 0, .int .i64 0]));clear hN HR HV
  go_upto_region 2 with (fail)
  generalize (w1.alloc (.cells #[.int .i64 nd.kind, .int .i64 nd.lo, .int .i64 nd.hi, .int .i64 nd.mode, .int .i64 nd.ref, .slice A1 nd.set.length p1, .slice A2 nd.kids.length p2, .int .i64 (g : Nat), .bool fo] 29)).alloc (.cells #[.int .i64 0, .int .i64 0] 32) = v1 at *;have hc0 := P1.o.flt.cell 0;have hn := P1.o.node.nine;have hln := P1.o.node.lt;have hlt := P1.o.flt.lt;have HC := ħ (Çv nd HW.o (g : Nat) fo v1 A1 A2 p1 p2 HN1.o);obtain ⟨vc, hvc⟩ : ∃ vc, vc = ì nd := ⟨_, rfl⟩;rw [← hvc] at HC HV1;clear hvc;have HBv := ħ (HB0.o.trans (P1.o.keep.mono HB0.o.size));have HZ1 := ħ (HZ0.o.on P1.o.keep)
  go_wp2_with fail
  refine HC.o.mono ?_;rintro e w2 ⟨rfl, hb2⟩;have hz := HZ1.o.on hb2;have z0 := hz.cell 0;have z1 := hz.cell 1;have z2 := hz.cell 2;have fz := hz.frozen;have hlz := hz.lt;have HB2 := ħ (HBv.o.trans (hb2.mono HBv.o.size));clear hz hc0 hn hln hlt;go_wp2
  refine bodyPost_ret (v := .agg #[.int .i64 (vc : Nat), .int .i64 0, .int .i64 0]) (by simp [results, Tryz.results18, go_sem, *]) rfl ⟨by rw [HV1.o], ?_⟩
  exact ((HB2.o.setCell (ŋ _) _).setCell (ŋ _) _).setCell (ŋ _) _
end
section
open Go.RowKit
variable {w w' : World}
theorem Ël {r : Ru} (h : r.ok = true) : r.pat.size ≤ 1000000 := by
 simp only [Ru.ok, decide_eq_true_eq] at h;omega
set_option maxRecDepth 100000 in
set_option maxHeartbeats 4000000 in
theorem Ær (s : RS) (v : Value) (w : World) (hmax : s.rs.length ≤ 1000000) (hT : ś w.heap.size w) (hS : Ĭ w.heap.size w v s.rs) :
 Calls Tryz.prog 23 #[.agg #[.int .i64 s.de, .int .i64 s.cl, .int .i64 s.fu, .int .i64 s.st, v]] w
  fun e w' => e = .returned (.agg #[.int .i64 (ÁI pvM s).1, .int .i64 (ÁI pvM s).2.1, .int .i64 (ÁI pvM s).2.2]) ∧ Below w.heap.size w w' := by
 obtain ⟨A, cap, rfl⟩ := hS.form;obtain ⟨w0, hw0⟩ : ∃ w0, w0 = ((w.alloc (.cells #[.int .i64 s.de, .int .i64 s.cl, .int .i64 s.fu, .int .i64 s.st, .slice A s.rs.length cap] 59)).alloc (.cells #[.int .i64 0, .int .i64 0, .int .i64 0] 48)) := ⟨_, rfl⟩
 have hb0 : Below w.heap.size w w0 := by rw [hw0]; exact ((ā _ _).alloc (ŋ _) _).alloc (by simp) _
 have hx0 : Blk w0 w.heap.size 59 #[.int .i64 s.de, .int .i64 s.cl, .int .i64 s.fu, .int .i64 s.st, .slice A s.rs.length cap] := by rw [hw0]; exact (Blk.new _ _ _).alloc _
 have hz0 : Blk w0 (w.heap.size + 1) 48 #[.int .i64 0, .int .i64 0, .int .i64 0] := by rw [hw0]; exact Blk.at_new _ _ (by simp) _ _
 have HT0 := ħ (ÀF hT hb0 hb0.size);have HS0 := ħ (hS.on hb0);have HB0 := ħ hb0;have HX0 := ħ hx0;have HZ0 := ħ hz0;clear hS hT hb0 hx0 hz0;obtain ⟨V, hV⟩ : ∃ V, V = ÁI pvM s := ⟨_, rfl⟩;rw [← hV];have HV := ħ hV;clear hV;go_enter Tryz.func23, Tryz.ntmps23
 go_wp2_with fail
 rw [← hw0];clear hw0;refine (Èw s _ w0 hmax HS0.o).mono ?_;rintro e w1 ⟨rfl, hb1⟩;have HT1 := ħ (ÀF HT0.o hb1 hb1.size);have HS1 := ħ (HS0.o.on hb1);have HB1 := ħ (HB0.o.trans (hb1.mono HB0.o.size));have HX1 := ħ (HX0.o.on hb1);have HZ1 := ħ (HZ0.o.on hb1);clear hb1 HT0 HS0 HB0 HX0 HZ0
 by_cases h1 : s.Ok
 ·rw [decide_eq_true h1]
  have H1 := ħ h1
  have HVb : Hid (V = ÉM pvM s.rs) := ħ (by rw [HV.o]; unfold ÁI; rw [if_pos h1])
  clear h1 HV;have x4 := HX1.o.cell 4;have hlx := HX1.o.lt;go_wp2;clear x4 hlx
  go_loopw [13] (fun i wr => ∃ k : Nat, k ≤ s.rs.length ∧ i = .int .i64 k ∧ Hid (∀ x ∈ s.rs.take k, (pvM x.pat).1 = 0) ∧ Hid (Below w1.heap.size w1 wr)) (fun i _ => s.rs.length - (intOf i).toNat)
  case atStart => exact ⟨0, Ą _, rfl, ħ (by simp), ħ (ā _ _)⟩
  case round =>
   obtain ⟨k, hk, rfl, HN, HB⟩ := hrel;have hsz := HB.o.size
   by_cases hlt : k < s.rs.length
   ·obtain ⟨b, off, rfl, hb, c0, c1, c2, c3, c4⟩ := (HS1.o.below HB.o).at_ hlt
    have HG := ħ (Ā hlt);have HRo := ħ (Ël (H1.o.2.2.1 _ (Ē hlt)));generalize s.rs[k] = r at HG HRo c0 c1 c2 c3 c4;have HLt := ħ hlt;have hb2 : Below w1.heap.size w1 (wr.alloc (.cells #[.int .i64 r.id, .int .i64 r.pr, .int .i64 r.ac, .int .i64 r.sc, .string r.pat] 71)) := HB.o.alloc hsz _;have hr2 : Blk (wr.alloc (.cells #[.int .i64 r.id, .int .i64 r.pr, .int .i64 r.ac, .int .i64 r.sc, .string r.pat] 71)) wr.heap.size 71 #[.int .i64 r.id, .int .i64 r.pr, .int .i64 r.ac, .int .i64 r.sc, .string r.pat] := Blk.new _ _ _
    go_upto_region 6 with (fail)
    have hs2 : (wr.alloc (.cells #[.int .i64 r.id, .int .i64 r.pr, .int .i64 r.ac, .int .i64 r.sc, .string r.pat] 71)).heap.size = wr.heap.size + 1 := by simp
    generalize wr.alloc (.cells #[.int .i64 r.id, .int .i64 r.pr, .int .i64 r.ac, .int .i64 r.sc, .string r.pat] 71) = w2 at *;have HB2 := ħ hb2;have HR2 := ħ hr2;have HT2 := ħ (ÀF HT1.o hb2 hb2.size);have r4 := hr2.cell 4;have hlr := hr2.lt;clear hb2 hr2 c0 c1 c2 c3 c4;have HPt := ħ (Æq r.pat HRo.o w2 HT2.o);obtain ⟨c, hc⟩ : ∃ c, c = (pvM r.pat).1 := ⟨_, rfl⟩;obtain ⟨a, ha⟩ : ∃ a, a = (pvM r.pat).2 := ⟨_, rfl⟩;rw [← hc, ← ha] at HPt;have HC := ħ hc;have HA := ħ ha;clear hc ha
    go_wp2_with fail
    refine HPt.o.mono ?_;rintro e w3 ⟨rfl, hb3⟩;have HB3 := ħ (HB2.o.trans (hb3.mono HB2.o.size));have HR3 := ħ (HR2.o.on hb3);have hs3 := hb3.size;clear hb3 r4 hlr HPt
    by_cases h0 : c = 0
    ·have h0' : (c != 0) = false := by simp [h0]
     have H0 := ħ h0;clear h0;go_wp2;go_roundw
     case rel => exact ⟨k + 1, HLt.o, by go_num, ħ (by
      rw [ÏP HG.o];intro x hx
      rcases List.mem_append.1 hx with h | h
      ·exact HN.o x h
      ·rw [List.mem_singleton.1 h, ← HC.o]; exact H0.o), ħ (HB3.o.alloc HB3.o.size _)⟩
     case measure => have := HLt.o; simp [intOf]; omega
    ·have h0' : (c != 0) = true := by simp [h0]
     have HBad : Hid (V = (c, r.id, a)) := ħ (by
      rw [HVb.o, Íh HG.o HN.o (by rw [← HC.o]; exact h0), ← HC.o, ← HA.o])
     clear h0;have r0 := HR3.o.cell 0;have hlr := HR3.o.lt
     go_upto_region 9 with (fail)
     have hz3 := HZ1.o.on HB3.o;have hzl := hz3.lt;obtain ⟨W, hW⟩ : ∃ W, W = w3.alloc (.cells #[.int .i64 c, .int .i64 r.id, .int .i64 a] 48) := ⟨_, rfl⟩;rw [← hW]
     have hvW : Blk W w3.heap.size 48 #[.int .i64 c, .int .i64 r.id, .int .i64 a] := by rw [hW]; exact Blk.new _ _ _
     have hzW : Blk W (w.heap.size + 1) 48 #[.int .i64 0, .int .i64 0, .int .i64 0] := by rw [hW]; exact hz3.alloc _
     have hBW : Below w.heap.size w W := by
      have h1 := HB1.o.size;rw [hW];exact HB1.o.trans ((HB3.o.alloc HB3.o.size _).mono h1)
     have HBW := ħ hBW;clear hW hBW r0 hlr hzl;have v0 := hvW.cell 0;have v1 := hvW.cell 1;have v2 := hvW.cell 2;have z0 := hzW.cell 0;have z1 := hzW.cell 1;have z2 := hzW.cell 2;have fz := hzW.frozen;have hlz := hzW.lt;have hlv := hvW.lt;clear hz3;go_wp2
     refine bodyPost_ret (v := .agg #[.int .i64 c, .int .i64 r.id, .int .i64 a]) (by simp [results, Tryz.results23, go_sem, *]) rfl ⟨by rw [HBad.o], ?_⟩
     exact ((HBW.o.setCell (show w.heap.size ≤ w.heap.size + 1 by omega) _).setCell (show w.heap.size ≤ w.heap.size + 1 by omega) _).setCell (show w.heap.size ≤ w.heap.size + 1 by omega) _
   ·obtain rfl : k = s.rs.length := by omega
    have HBad : Hid (V = (0, 0, 0)) := ħ (by
     have := HN.o;rw [Ă] at this
     rw [HVb.o, Íg this])
    have hz := HZ1.o.on HB.o;have z0 := hz.cell 0;have z1 := hz.cell 1;have z2 := hz.cell 2;have fz := hz.frozen;have hlz := hz.lt;clear hz;have HBW := ħ (HB1.o.trans (HB.o.mono HB1.o.size));go_wp2
    refine bodyPost_ret (v := .agg #[.int .i64 0, .int .i64 0, .int .i64 0]) (by simp [results, Tryz.results23, go_sem, *]) rfl ⟨by rw [HBad.o], ?_⟩
    exact ((HBW.o.setCell (show w.heap.size ≤ w.heap.size + 1 by omega) _).setCell (show w.heap.size ≤ w.heap.size + 1 by omega) _).setCell (show w.heap.size ≤ w.heap.size + 1 by omega) _
 ·rw [decide_eq_false h1]
  have HBad : Hid (V = (10, 0, 0)) := ħ (by rw [HV.o]; unfold ÁI; rw [if_neg h1])
  clear h1 HV;have hz := HZ1.o;have z0 := hz.cell 0;have z1 := hz.cell 1;have z2 := hz.cell 2;have fz := hz.frozen;have hlz := hz.lt;clear hz;go_wp2
  refine bodyPost_ret (v := .agg #[.int .i64 10, .int .i64 0, .int .i64 0]) (by simp [results, Tryz.results23, go_sem, *]) rfl ⟨by rw [HBad.o], ?_⟩
  exact ((HB1.o.setCell (show w.heap.size ≤ w.heap.size + 1 by omega) _).setCell (show w.heap.size ≤ w.heap.size + 1 by omega) _).setCell (show w.heap.size ≤ w.heap.size + 1 by omega) _
end
section
open Go.RowKit
variable {w w' : World}
end
end Go.Proofs.YtpginkdkblmnbaaGreatDoor
