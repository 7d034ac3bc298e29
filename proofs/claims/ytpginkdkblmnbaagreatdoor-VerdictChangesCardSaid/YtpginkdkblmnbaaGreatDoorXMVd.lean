import Derived.Test.YtpginkdkblmnbaaGreatDoorXMRc
import Derived.Test.YtpginkdkblmnbaaGreatDoorXSf
namespace Go.Proofs.YtpginkdkblmnbaaGreatDoor
section
def Çf (p : ByteArray → Int × Int) : List Ru → Int × Int × Int
 | [] => (0, 0, 0)
 | r :: l => if (p r.pat).1 = 0 then Çf p l else ((p r.pat).1, r.id, (p r.pat).2)
def í (p : ByteArray → Int × Int) (s : RS) : Int × Int × Int := if s.Ok then Çf p s.rs else (10, 0, 0)
def ö (p : ByteArray → Int × Int) (s : RS) (d : Dl) : RS × (Int × Int × Int) :=
 if (Õ s d).2 = 0 then (if (í p (Õ s d).1).1 = 0 then ((Õ s d).1, (0, 0, 0)) else (.zero, í p (Õ s d).1)) else (.zero, ((Õ s d).2, 0, 0))
section
variable {p : ByteArray → Int × Int}
theorem Æo {l : List Ru} (h : ∀ r ∈ l, (p r.pat).1 = 0) : Çf p l = (0, 0, 0) := by
 induction l with
 | nil => rfl
 | cons r l ih =>
  unfold Çf;rw [if_pos (h r (List.mem_cons_self ..))]
  exact ih fun x hx => h x (List.mem_cons_of_mem _ hx)
theorem Æp {l : List Ru} {k : Nat} {r : Ru} (h : l[k]? = some r) (hn : ∀ x ∈ l.take k, (p x.pat).1 = 0) (hr : (p r.pat).1 ≠ 0) : Çf p l = ((p r.pat).1, r.id, (p r.pat).2) := by
 induction l generalizing k with
 | nil => simp at h
 | cons x l ih =>
  cases k with
  | zero =>
   simp at h;subst h;unfold Çf;rw [if_neg hr]
  | succ k =>
   unfold Çf
   rw [if_pos (hn x (by simp))]
   exact ih (by simpa using h) fun y hy => hn y (by simp [hy])
end
end
section
open Go.RowKit
open Go.Proofs.YtpginkdkblmnbaaGreatDoor.Cl (Rg)
variable {w w' : World}
def pvR : Except Flt (Nd × Nat × Bool) → Int × Int
 | .error f => (((f.1 : Nat) : Int), ((f.2 : Nat) : Int))
 | .ok y => (((Ž y.1 : Nat) : Int), 0)
def pvM (x : ByteArray) : Int × Int := pvR (ý 1026 x.data.toList)
theorem Àv {n₀ : Nat} {v : Value} {l : List Ru} (h : Á n₀ w v l) (hB : Below n₀ w w') (hn : n₀ ≤ w'.heap.size) : Á w'.heap.size w' v l := (h.below hB).more hn
set_option maxRecDepth 100000 in
set_option maxHeartbeats 4000000 in
theorem Èq (x : ByteArray) (hx : x.size ≤ 1000000) (w : World) (hT : Ō w.heap.size w) :
 Calls Tryz.prog 18 #[.string x] w fun e w' => e = .returned (.agg #[.int .i64 (pvM x).1, .int .i64 0, .int .i64 (pvM x).2]) ∧ Below w.heap.size w w' := by
 have hb0 : Below w.heap.size w (w.alloc (.cells #[.int .i64 0, .int .i64 0, .int .i64 0] 48)) := (ā _ _).alloc (ŋ _) _;have hz0 : Blk (w.alloc (.cells #[.int .i64 0, .int .i64 0, .int .i64 0] 48)) w.heap.size 48 #[.int .i64 0, .int .i64 0, .int .i64 0] := Blk.new _ _ _;have HT := ħ (ŏ hT hb0 hb0.size);have HB0 := ħ hb0;have HZ0 := ħ hz0;clear hb0 hz0 hT
 have HP : Hid (∀ W : World, Ō W.heap.size W → Calls Tryz.prog 8 #[.string x] W (Ât W (ý 1026 x.data.toList))) := ħ (fun W hW => ËC (s := x.data.toList) 1026 (by omega) (by have : x.data.toList.length = x.size := rfl; omega) hW)
 obtain ⟨v, hv⟩ : ∃ v, v = pvM x := ⟨_, rfl⟩;rw [← hv];obtain ⟨r, hr⟩ : ∃ r, r = ý 1026 x.data.toList := ⟨_, rfl⟩
 have HV : Hid (v = pvR r) := ħ (by rw [hv, hr]; rfl)
 rw [← hr] at HP;have HR := ħ hr;clear hv hr;go_enter Tryz.func18, Tryz.ntmps18
 go_wp2_with fail
 generalize w.alloc (.cells #[.int .i64 0, .int .i64 0, .int .i64 0] 48) = w0 at *;refine (HP.o _ HT.o).mono ?_;clear HP
 cases r with
 | error f =>
  rintro e w1 ⟨rfl, hb1⟩;have hf : f.1 ≠ 0 := Åq (ŋ _) HR.o.symm
  have hf1 : ((f.1 : Int) != 0) = true := by simp [hf]
  have HV1 : Hid (v = (((f.1 : Nat) : Int), ((f.2 : Nat) : Int))) := HV;unfold Ŭ;have P1 := ħ (Êz w0 w1 #[.int .i64 0, .int .i64 0, .int .i64 0, .int .i64 0, .int .i64 0, .slice none 0 0, .slice none 0 0, .int .i64 0, .bool false] #[.int .i64 (f.1 : Nat), .int .i64 (f.2 : Nat)] hb1)
  go_upto_region 2 with (fail)
  generalize (w1.alloc (.cells #[.int .i64 0, .int .i64 0, .int .i64 0, .int .i64 0, .int .i64 0, .slice none 0 0, .slice none 0 0, .int .i64 0, .bool false] 29)).alloc (.cells #[.int .i64 (f.1 : Nat), .int .i64 (f.2 : Nat)] 32) = v1 at *;have hc0 := P1.o.flt.cell 0;have hc1 := P1.o.flt.cell 1;have hlt := P1.o.flt.lt;have hz := HZ0.o.on P1.o.keep;have z0 := hz.cell 0;have z1 := hz.cell 1;have z2 := hz.cell 2;have fz := hz.frozen;have hlz := hz.lt;have HBv := ħ (HB0.o.trans (P1.o.keep.mono HB0.o.size));clear hz hf;go_wp2
  refine bodyPost_ret (v := .agg #[.int .i64 (f.1 : Nat), .int .i64 0, .int .i64 (f.2 : Nat)]) (by simp [results, Tryz.results18, go_sem, *]) rfl ⟨by rw [HV1.o], ?_⟩
  exact ((HBv.o.setCell (ŋ _) _).setCell (ŋ _) _).setCell (ŋ _) _
 | ok y =>
  rintro e w1 ⟨A1, A2, p1, p2, rfl, hN, hb1⟩;have HV1 : Hid (v = (((Ž y.1 : Nat) : Int), 0)) := HV;obtain ⟨nd, g, fo⟩ := y;simp only at hN HV1 ⊢;have HW := ħ (ÇF HR.o.symm);unfold ÌZ;have P1 := ħ (Êz w0 w1 #[.int .i64 nd.kind, .int .i64 nd.lo, .int .i64 nd.hi, .int .i64 nd.mode, .int .i64 nd.ref, .slice A1 nd.set.length p1, .slice A2 nd.kids.length p2, .int .i64 (g : Nat), .bool fo] #[.int .i64 0, .int .i64 0] hb1);have HN1 := ħ (hN.on (ÎZ w1 #[.int .i64 nd.kind, .int .i64 nd.lo, .int .i64 nd.hi, .int .i64 nd.mode, .int .i64 nd.ref, .slice A1 nd.set.length p1, .slice A2 nd.kids.length p2, .int .i64 (g : Nat), .bool fo] #[.int .i64 0, .int .i64 0]));clear hN HR HV
  go_upto_region 2 with (fail)
  generalize (w1.alloc (.cells #[.int .i64 nd.kind, .int .i64 nd.lo, .int .i64 nd.hi, .int .i64 nd.mode, .int .i64 nd.ref, .slice A1 nd.set.length p1, .slice A2 nd.kids.length p2, .int .i64 (g : Nat), .bool fo] 29)).alloc (.cells #[.int .i64 0, .int .i64 0] 32) = v1 at *;have hc0 := P1.o.flt.cell 0;have hn := P1.o.node.nine;have hln := P1.o.node.lt;have hlt := P1.o.flt.lt;have HC := ħ (Ëq nd HW.o (g : Nat) fo v1 A1 A2 p1 p2 HN1.o);obtain ⟨vc, hvc⟩ : ∃ vc, vc = Ž nd := ⟨_, rfl⟩;rw [← hvc] at HC HV1;clear hvc;have HBv := ħ (HB0.o.trans (P1.o.keep.mono HB0.o.size));have HZ1 := ħ (HZ0.o.on P1.o.keep)
  go_wp2_with fail
  refine HC.o.mono ?_;rintro e w2 ⟨rfl, hb2⟩;have hz := HZ1.o.on hb2;have z0 := hz.cell 0;have z1 := hz.cell 1;have z2 := hz.cell 2;have fz := hz.frozen;have hlz := hz.lt;have HB2 := ħ (HBv.o.trans (hb2.mono HBv.o.size));clear hz hc0 hn hln hlt;go_wp2
  refine bodyPost_ret (v := .agg #[.int .i64 (vc : Nat), .int .i64 0, .int .i64 0]) (by simp [results, Tryz.results18, go_sem, *]) rfl ⟨by rw [HV1.o], ?_⟩
  exact ((HB2.o.setCell (ŋ _) _).setCell (ŋ _) _).setCell (ŋ _) _
end
section
open Go.RowKit
variable {w w' : World}
theorem ÉU {r : Ru} (h : r.ok = true) : r.pat.size ≤ 1000000 := by
 simp only [Ru.ok, decide_eq_true_eq] at h;omega
set_option maxRecDepth 100000 in
set_option maxHeartbeats 4000000 in
theorem ÁE (s : RS) (v : Value) (w : World) (hmax : s.rs.length ≤ 1000000) (hT : Ō w.heap.size w) (hS : Á w.heap.size w v s.rs) :
 Calls Tryz.prog 23 #[.agg #[.int .i64 s.de, .int .i64 s.cl, .int .i64 s.fu, .int .i64 s.st, v]] w
  fun e w' => e = .returned (.agg #[.int .i64 (í pvM s).1, .int .i64 (í pvM s).2.1, .int .i64 (í pvM s).2.2]) ∧ Below w.heap.size w w' := by
 obtain ⟨A, cap, rfl⟩ := hS.form;obtain ⟨w0, hw0⟩ : ∃ w0, w0 = ((w.alloc (.cells #[.int .i64 s.de, .int .i64 s.cl, .int .i64 s.fu, .int .i64 s.st, .slice A s.rs.length cap] 59)).alloc (.cells #[.int .i64 0, .int .i64 0, .int .i64 0] 48)) := ⟨_, rfl⟩
 have hb0 : Below w.heap.size w w0 := by rw [hw0]; exact ((ā _ _).alloc (ŋ _) _).alloc (by simp) _
 have hx0 : Blk w0 w.heap.size 59 #[.int .i64 s.de, .int .i64 s.cl, .int .i64 s.fu, .int .i64 s.st, .slice A s.rs.length cap] := by rw [hw0]; exact (Blk.new _ _ _).alloc _
 have hz0 : Blk w0 (w.heap.size + 1) 48 #[.int .i64 0, .int .i64 0, .int .i64 0] := by rw [hw0]; exact Blk.at_new _ _ (by simp) _ _
 have HT0 := ħ (ŏ hT hb0 hb0.size);have HS0 := ħ (hS.on hb0);have HB0 := ħ hb0;have HX0 := ħ hx0;have HZ0 := ħ hz0;clear hS hT hb0 hx0 hz0;obtain ⟨V, hV⟩ : ∃ V, V = í pvM s := ⟨_, rfl⟩;rw [← hV];have HV := ħ hV;clear hV;go_enter Tryz.func23, Tryz.ntmps23
 go_wp2_with fail
 rw [← hw0];clear hw0;refine (ÁD s _ w0 hmax HS0.o).mono ?_;rintro e w1 ⟨rfl, hb1⟩;have HT1 := ħ (ŏ HT0.o hb1 hb1.size);have HS1 := ħ (HS0.o.on hb1);have HB1 := ħ (HB0.o.trans (hb1.mono HB0.o.size));have HX1 := ħ (HX0.o.on hb1);have HZ1 := ħ (HZ0.o.on hb1);clear hb1 HT0 HS0 HB0 HX0 HZ0
 by_cases h1 : s.Ok
 ·rw [decide_eq_true h1]
  have H1 := ħ h1
  have HVb : Hid (V = Çf pvM s.rs) := ħ (by rw [HV.o]; unfold í; rw [if_pos h1])
  clear h1 HV;have x4 := HX1.o.cell 4;have hlx := HX1.o.lt;go_wp2;clear x4 hlx
  go_loopw [13] (fun i wr => ∃ k : Nat, k ≤ s.rs.length ∧ i = .int .i64 k ∧ Hid (∀ x ∈ s.rs.take k, (pvM x.pat).1 = 0) ∧ Hid (Below w1.heap.size w1 wr)) (fun i _ => s.rs.length - (intOf i).toNat)
  case atStart => exact ⟨0, Ą _, rfl, ħ (by simp), ħ (ā _ _)⟩
  case round =>
   obtain ⟨k, hk, rfl, HN, HB⟩ := hrel;have hsz := HB.o.size
   by_cases hlt : k < s.rs.length
   ·obtain ⟨b, off, rfl, hb, c0, c1, c2, c3, c4⟩ := (HS1.o.below HB.o).at_ hlt
    have HG := ħ (Ā hlt);have HRo := ħ (ÉU (H1.o.2.2.1 _ (Ē hlt)));generalize s.rs[k] = r at HG HRo c0 c1 c2 c3 c4;have HLt := ħ hlt;have hb2 : Below w1.heap.size w1 (wr.alloc (.cells #[.int .i64 r.id, .int .i64 r.pr, .int .i64 r.ac, .int .i64 r.sc, .string r.pat] 71)) := HB.o.alloc hsz _;have hr2 : Blk (wr.alloc (.cells #[.int .i64 r.id, .int .i64 r.pr, .int .i64 r.ac, .int .i64 r.sc, .string r.pat] 71)) wr.heap.size 71 #[.int .i64 r.id, .int .i64 r.pr, .int .i64 r.ac, .int .i64 r.sc, .string r.pat] := Blk.new _ _ _
    go_upto_region 6 with (fail)
    have hs2 : (wr.alloc (.cells #[.int .i64 r.id, .int .i64 r.pr, .int .i64 r.ac, .int .i64 r.sc, .string r.pat] 71)).heap.size = wr.heap.size + 1 := by simp
    generalize wr.alloc (.cells #[.int .i64 r.id, .int .i64 r.pr, .int .i64 r.ac, .int .i64 r.sc, .string r.pat] 71) = w2 at *;have HB2 := ħ hb2;have HR2 := ħ hr2;have HT2 := ħ (ŏ HT1.o hb2 hb2.size);have r4 := hr2.cell 4;have hlr := hr2.lt;clear hb2 hr2 c0 c1 c2 c3 c4;have HPt := ħ (Èq r.pat HRo.o w2 HT2.o);obtain ⟨c, hc⟩ : ∃ c, c = (pvM r.pat).1 := ⟨_, rfl⟩;obtain ⟨a, ha⟩ : ∃ a, a = (pvM r.pat).2 := ⟨_, rfl⟩;rw [← hc, ← ha] at HPt;have HC := ħ hc;have HA := ħ ha;clear hc ha
    go_wp2_with fail
    refine HPt.o.mono ?_;rintro e w3 ⟨rfl, hb3⟩;have HB3 := ħ (HB2.o.trans (hb3.mono HB2.o.size));have HR3 := ħ (HR2.o.on hb3);have hs3 := hb3.size;clear hb3 r4 hlr HPt
    by_cases h0 : c = 0
    ·have h0' : (c != 0) = false := by simp [h0]
     have H0 := ħ h0;clear h0;go_wp2;go_roundw
     case rel => exact ⟨k + 1, HLt.o, by go_num, ħ (by
      rw [Ő HG.o];intro x hx
      rcases List.mem_append.1 hx with h | h
      ·exact HN.o x h
      ·rw [List.mem_singleton.1 h, ← HC.o]; exact H0.o), ħ (HB3.o.alloc HB3.o.size _)⟩
     case measure => have := HLt.o; simp [intOf]; omega
    ·have h0' : (c != 0) = true := by simp [h0]
     have HBad : Hid (V = (c, r.id, a)) := ħ (by
      rw [HVb.o, Æp HG.o HN.o (by rw [← HC.o]; exact h0), ← HC.o, ← HA.o])
     clear h0;have r0 := HR3.o.cell 0;have hlr := HR3.o.lt
     go_upto_region 9 with (fail)
     have hz3 := HZ1.o.on HB3.o;have hzl := hz3.lt;obtain ⟨W, hW⟩ : ∃ W, W = w3.alloc (.cells #[.int .i64 c, .int .i64 r.id, .int .i64 a] 48) := ⟨_, rfl⟩;rw [← hW]
     have hvW : Blk W w3.heap.size 48 #[.int .i64 c, .int .i64 r.id, .int .i64 a] := by rw [hW]; exact Blk.new _ _ _
     have hzW : Blk W (w.heap.size + 1) 48 #[.int .i64 0, .int .i64 0, .int .i64 0] := by rw [hW]; exact hz3.alloc _
     have hBW : Below w.heap.size w W := by
      have h1 := HB1.o.size;rw [hW];exact HB1.o.trans ((HB3.o.alloc HB3.o.size _).mono h1)
     have HBW := ħ hBW;clear hW hBW r0 hlr hzl;have v0 := hvW.cell 0;have v1 := hvW.cell 1;have v2 := hvW.cell 2;have z0 := hzW.cell 0;have z1 := hzW.cell 1;have z2 := hzW.cell 2;have fz := hzW.frozen;have hlz := hzW.lt;have hlv := hvW.lt;clear hz3;go_wp2
     refine bodyPost_ret (v := .agg #[.int .i64 c, .int .i64 r.id, .int .i64 a]) (by simp [results, Tryz.results23, go_sem, *]) rfl ⟨by rw [HBad.o], ?_⟩
     exact ((HBW.o.setCell (show w.heap.size ≤ w.heap.size + 1 by omega) _).setCell (show w.heap.size ≤ w.heap.size + 1 by omega) _).setCell (show w.heap.size ≤ w.heap.size + 1 by omega) _
   ·obtain rfl : k = s.rs.length := by omega
    have HBad : Hid (V = (0, 0, 0)) := ħ (by
     have := HN.o;rw [Ă] at this
     rw [HVb.o, Æo this])
    have hz := HZ1.o.on HB.o;have z0 := hz.cell 0;have z1 := hz.cell 1;have z2 := hz.cell 2;have fz := hz.frozen;have hlz := hz.lt;clear hz;have HBW := ħ (HB1.o.trans (HB.o.mono HB1.o.size));go_wp2
    refine bodyPost_ret (v := .agg #[.int .i64 0, .int .i64 0, .int .i64 0]) (by simp [results, Tryz.results23, go_sem, *]) rfl ⟨by rw [HBad.o], ?_⟩
    exact ((HBW.o.setCell (show w.heap.size ≤ w.heap.size + 1 by omega) _).setCell (show w.heap.size ≤ w.heap.size + 1 by omega) _).setCell (show w.heap.size ≤ w.heap.size + 1 by omega) _
 ·rw [decide_eq_false h1]
  have HBad : Hid (V = (10, 0, 0)) := ħ (by rw [HV.o]; unfold í; rw [if_neg h1])
  clear h1 HV;have hz := HZ1.o;have z0 := hz.cell 0;have z1 := hz.cell 1;have z2 := hz.cell 2;have fz := hz.frozen;have hlz := hz.lt;clear hz;go_wp2
  refine bodyPost_ret (v := .agg #[.int .i64 10, .int .i64 0, .int .i64 0]) (by simp [results, Tryz.results23, go_sem, *]) rfl ⟨by rw [HBad.o], ?_⟩
  exact ((HB1.o.setCell (show w.heap.size ≤ w.heap.size + 1 by omega) _).setCell (show w.heap.size ≤ w.heap.size + 1 by omega) _).setCell (show w.heap.size ≤ w.heap.size + 1 by omega) _
end
section
open Go.RowKit
variable {w w' : World}
theorem ÏC {W1 : World} {g b : Nat} {t : TypeId} {cs : Array Value} {c0 c1 c2 : Value} (h : Blk W1 g t cs) (hne : g ≠ b) : Blk (((W1.setCell ⟨b, 0, none⟩ c0).setCell ⟨b, 1, none⟩ c1).setCell ⟨b, 2, none⟩ c2) g t cs := by
 have k : ∀ {W : World}, Blk W g t cs → ∀ (i : Nat) (u : Value), Blk (W.setCell ⟨b, i, none⟩ u) g t cs := fun h i u => h.far (p := ⟨b, i, none⟩) hne u
 exact k (k (k h 0 c0) 1 c1) 2 c2
theorem Ãz {w W : World} {g : Nat} {a0 a1 a2 a3 a4 b0 b1 b2 : Value} (h : Below w.heap.size w W) (hg : w.heap.size ≤ g) : Below w.heap.size w ((((((((W.setCell ⟨g, 0, none⟩ a0).setCell ⟨g, 1, none⟩ a1).setCell ⟨g, 2, none⟩ a2).setCell ⟨g, 3, none⟩ a3).setCell ⟨g, 4, none⟩ a4).setCell ⟨g + 1, 0, none⟩ b0).setCell ⟨g + 1, 1, none⟩ b1).setCell ⟨g + 1, 2, none⟩ b2) := by
 have k : ∀ {V : World}, Below w.heap.size w V → ∀ (b i : Nat) (u : Value), w.heap.size ≤ b → Below w.heap.size w (V.setCell ⟨b, i, none⟩ u) := fun h b i u hb => h.setCell (p := ⟨b, i, none⟩) hb u
 exact k (k (k (k (k (k (k (k h g 0 a0 hg) g 1 a1 hg) g 2 a2 hg) g 3 a3 hg) g 4 a4 hg) (g + 1) 0 b0 (by omega)) (g + 1) 1 b1 (by omega)) (g + 1) 2 b2 (by omega)
theorem Íj {W : World} {n base g : Nat} {v : Value} {l : List Ru} {a0 a1 a2 a3 a4 b0 b1 b2 : Value} (h : Á n W v l) (hf : Far base v) (hg : g + 1 < base) : Á n ((((((((W.setCell ⟨g, 0, none⟩ a0).setCell ⟨g, 1, none⟩ a1).setCell ⟨g, 2, none⟩ a2).setCell ⟨g, 3, none⟩ a3).setCell ⟨g, 4, none⟩ a4).setCell ⟨g + 1, 0, none⟩ b0).setCell ⟨g + 1, 1, none⟩ b1).setCell ⟨g + 1, 2, none⟩ b2) v l := by
 have k : ∀ {V : World}, Á n V v l → ∀ (b i : Nat) (u : Value), b < base → Á n (V.setCell ⟨b, i, none⟩ u) v l := fun h b i u hb => h.store (g := b) (i := i) (u := u) hf hb
 exact k (k (k (k (k (k (k (k h g 0 a0 (by omega)) g 1 a1 (by omega)) g 2 a2 (by omega)) g 3 a3 (by omega)) g 4 a4 (by omega)) (g + 1) 0 b0 hg) (g + 1) 1 b1 hg) (g + 1) 2 b2 hg
theorem Äc {s : RS} {d : Dl} (h : (Õ s d).2 ≠ 0) : (Õ s d).1 = .zero := by
 unfold Õ at h ⊢;split
 ·rfl
 split
 ·rfl
 split
 ·rfl
 split
 ·rfl
 split
 ·rfl
 ·rename_i h1 h2 h3 h4 h5
  rw [if_neg h1, if_neg h2, if_neg h3, if_neg h4, if_neg h5] at h;exact absurd rfl h
set_option maxRecDepth 100000 in
set_option maxHeartbeats 8000000 in
theorem Èx (s : RS) (d : Dl) (v pv dv : Value) (w : World) (hmax : s.rs.length ≤ 1000) (hm1 : d.put.length ≤ 1000) (hm2 : d.drop.length ≤ 1000) (hdr : ∀ z ∈ d.drop, (Lit.int .i64 z).wf = true) (hT : Ō w.heap.size w)
 (hS : Á w.heap.size w v s.rs) (hP : Á w.heap.size w pv d.put) (hD : Row w.heap.size w dv (zI d.drop)) :
 Calls Tryz.prog 27 #[.agg #[.int .i64 s.de, .int .i64 s.cl, .int .i64 s.fu, .int .i64 s.st, v], .agg #[.int .i64 d.de, .int .i64 d.cl, .int .i64 d.fu, .int .i64 d.st, pv, dv]] w
  fun e w' => ∃ rv, e = .returned (.tuple #[.agg #[.int .i64 (ö pvM s d).1.de, .int .i64 (ö pvM s d).1.cl, .int .i64 (ö pvM s d).1.fu, .int .i64 (ö pvM s d).1.st, rv], .agg #[.int .i64 (ö pvM s d).2.1, .int .i64 (ö pvM s d).2.2.1, .int .i64 (ö pvM s d).2.2.2]]) ∧
   Á w'.heap.size w' rv (ö pvM s d).1.rs ∧ Far w.heap.size rv ∧ Below w.heap.size w w' := by
 obtain ⟨A, cap, rfl⟩ := hS.form;obtain ⟨PA, pcap, rfl⟩ := hP.form;obtain ⟨DA, dcap, hdv⟩ := hD.form;rw [ÆB] at hdv;subst hdv;obtain ⟨w0, hw0⟩ : ∃ w0, w0 = ((((w.alloc (.cells #[.int .i64 s.de, .int .i64 s.cl, .int .i64 s.fu, .int .i64 s.st, .slice A s.rs.length cap] 59)).alloc (.cells #[.int .i64 d.de, .int .i64 d.cl, .int .i64 d.fu, .int .i64 d.st, .slice PA d.put.length pcap, .slice DA d.drop.length dcap] 63)).alloc (.cells #[.int .i64 0, .int .i64 0, .int .i64 0, .int .i64 0, .slice none 0 0] 59)).alloc (.cells #[.int .i64 0, .int .i64 0, .int .i64 0] 48)) := ⟨_, rfl⟩
 have hb0 : Below w.heap.size w w0 := by rw [hw0]; exact ((((ā _ _).alloc (ŋ _) _).alloc (by simp) _).alloc (by simp; omega) _).alloc (by simp; omega) _
 have hy0 : Blk w0 (w.heap.size + 2) 59 #[.int .i64 0, .int .i64 0, .int .i64 0, .int .i64 0, .slice none 0 0] := by rw [hw0]; exact (Blk.at_new _ _ (by simp) _ _).alloc _
 have hz0 : Blk w0 (w.heap.size + 3) 48 #[.int .i64 0, .int .i64 0, .int .i64 0] := by rw [hw0]; exact Blk.at_new _ _ (by simp) _ _
 have hs0 : w0.heap.size = w.heap.size + 4 := by rw [hw0]; simp
 have HT0 := ħ (ŏ hT hb0 hb0.size);have HS0 := ħ (hS.on hb0);have HP0 := ħ (hP.on hb0);have HD0 := ħ ((hD.below hb0).more hb0.size);have HB0 := ħ hb0;have HY0 := ħ hy0;have HZ0 := ħ hz0;clear hS hP hD hT hb0 hy0 hz0;have hap := ËF s d (.slice A s.rs.length cap) (.slice PA d.put.length pcap) (.slice DA d.drop.length dcap) w0 hmax hm1 hm2 hdr HS0.o HP0.o HD0.o;obtain ⟨R, hR⟩ : ∃ R, R = ö pvM s d := ⟨_, rfl⟩;rw [← hR];obtain ⟨X, hX⟩ : ∃ X, X = Õ s d := ⟨_, rfl⟩;rw [← hX] at hap
 have HR : Hid (R = if X.2 = 0 then (if (í pvM X.1).1 = 0 then (X.1, (0, 0, 0)) else (.zero, í pvM X.1)) else (.zero, (X.2, 0, 0))) := ħ (by rw [hR, hX]; rfl)
 have HXl : Hid (X.1.rs.length ≤ 1000000) := ħ (by
  rw [hX]
  by_cases h0 : (Õ s d).2 = 0
  ·have := (ÀI.1 h0).few
   rw [Ãj (ÀI.1 h0)];simp only;omega
  ·rw [Äc h0]
   simp [RS.zero])
 have HAp := ħ hap;clear hap hR hX;go_enter Tryz.func27, Tryz.ntmps27
 go_wp2_with fail
 rw [← hw0];clear hw0;refine HAp.o.mono ?_;rintro e w1 ⟨rv, rfl, hrv, hfar, hb1⟩;obtain ⟨RA, rcap, rfl⟩ := hrv.form;obtain ⟨⟨xde, xcl, xfu, xst, xrs⟩, xe⟩ := X;simp only at hrv HR HXl ⊢;have HRv := ħ hrv;have HFa := ħ hfar;have HT1 := ħ (ŏ HT0.o hb1 hb1.size);have HB1 := ħ (HB0.o.trans (hb1.mono HB0.o.size));have HY1 := ħ (HY0.o.on hb1);have HZ1 := ħ (HZ0.o.on hb1);have hs1 := hb1.size;clear hrv hfar hb1 HT0 HS0 HP0 HD0 HB0 HY0 HZ0 HAp
 go_upto_region 2 with (fail)
 have hb2 : Below w1.heap.size w1 (w1.alloc (.cells #[.int .i64 xde, .int .i64 xcl, .int .i64 xfu, .int .i64 xst, .slice RA xrs.length rcap] 59)) := (ā _ _).alloc (ŋ _) _;have hx2 : Blk (w1.alloc (.cells #[.int .i64 xde, .int .i64 xcl, .int .i64 xfu, .int .i64 xst, .slice RA xrs.length rcap] 59)) w1.heap.size 59 #[.int .i64 xde, .int .i64 xcl, .int .i64 xfu, .int .i64 xst, .slice RA xrs.length rcap] := Blk.new _ _ _;generalize w1.alloc (.cells #[.int .i64 xde, .int .i64 xcl, .int .i64 xfu, .int .i64 xst, .slice RA xrs.length rcap] 59) = w2 at *;have HRv2 := ħ (HRv.o.on hb2);have HT2 := ħ (ŏ HT1.o hb2 hb2.size);have HB2 := ħ (HB1.o.trans (hb2.mono HB1.o.size));have HY2 := ħ (HY1.o.on hb2);have HZ2 := ħ (HZ1.o.on hb2);have HX2 := ħ hx2;have hs2 := hb2.size;clear hb2 hx2 HT1 HB1 HY1 HZ1 HRv
 by_cases he : xe = 0
 ·have he' : (xe != 0) = false := by simp [he]
  have HR1 : Hid (R = if (í pvM ⟨xde, xcl, xfu, xst, xrs⟩).1 = 0 then (⟨xde, xcl, xfu, xst, xrs⟩, (0, 0, 0)) else (.zero, í pvM ⟨xde, xcl, xfu, xst, xrs⟩)) := ħ (by rw [HR.o, if_pos he])
  clear HR he;have HRu := ħ (ÁE ⟨xde, xcl, xfu, xst, xrs⟩ (.slice RA xrs.length rcap) w2 HXl.o HT2.o HRv2.o);obtain ⟨V, hV⟩ : ∃ V, V = í pvM ⟨xde, xcl, xfu, xst, xrs⟩ := ⟨_, rfl⟩;rw [← hV] at HRu HR1;clear hV;obtain ⟨vc, vr, va⟩ := V;simp only at HRu HR1;obtain ⟨x0, x1, x2, x3, x4⟩ := HX2.o.c5;have hlx := HX2.o.lt
  go_wp2_with fail
  refine HRu.o.mono ?_;rintro e w3 ⟨rfl, hb3⟩;have HRv3 := ħ (HRv2.o.on hb3);have HB3 := ħ (HB2.o.trans (hb3.mono HB2.o.size));have HY3 := ħ (HY2.o.on hb3);have HZ3 := ħ (HZ2.o.on hb3);have HX3 := ħ (HX2.o.on hb3);have hs3 := hb3.size;clear hb3 x0 x1 x2 x3 x4 hlx HRu HRv2 HB2 HY2 HZ2 HX2 HT2
  go_upto_region 5 with (fail)
  have hb4 : Below w3.heap.size w3 (w3.alloc (.cells #[.int .i64 vc, .int .i64 vr, .int .i64 va] 48)) := (ā _ _).alloc (ŋ _) _;have hv4 : Blk (w3.alloc (.cells #[.int .i64 vc, .int .i64 vr, .int .i64 va] 48)) w3.heap.size 48 #[.int .i64 vc, .int .i64 vr, .int .i64 va] := Blk.new _ _ _;generalize w3.alloc (.cells #[.int .i64 vc, .int .i64 vr, .int .i64 va] 48) = w4 at *;have HRv4 := ħ (HRv3.o.on hb4);have HB4 := ħ (HB3.o.trans (hb4.mono HB3.o.size));have hy := HY3.o.on hb4;have hz := HZ3.o.on hb4;have hx := HX3.o.on hb4;clear HRv3 HB3 HY3 HZ3 HX3;obtain ⟨y0, y1, y2, y3, y4⟩ := hy.c5;have fy := hy.frozen;have z0 := hz.cell 0;have z1 := hz.cell 1;have z2 := hz.cell 2;have fz := hz.frozen;have v0 := hv4.cell 0;have v1 := hv4.cell 1;have v2 := hv4.cell 2;have hly := hy.lt;have hlz := hz.lt;have hlv := hv4.lt
  by_cases h0 : vc = 0
  ·have h0' : (vc != 0) = false := by simp [h0]
   have HR2 : Hid (R = (⟨xde, xcl, xfu, xst, xrs⟩, (0, 0, 0))) := ħ (by rw [HR1.o, if_pos h0])
   obtain ⟨x0, x1, x2, x3, x4⟩ := hx.c5;have hlx := hx.lt;clear h0 HR1;go_wp2
   refine bodyPost_ret (v := .tuple #[.agg #[.int .i64 xde, .int .i64 xcl, .int .i64 xfu, .int .i64 xst, .slice RA xrs.length rcap], .agg #[.int .i64 0, .int .i64 0, .int .i64 0]]) (by simp [results, Tryz.results27, go_sem, *]) rfl ⟨_, by rw [HR2.o], ?_, HFa.o.mono (by omega), Ãz HB4.o (by omega)⟩
   rw [HR2.o]
   exact Á.more (Íj HRv4.o HFa.o (by omega)) (by simp [World.setCell])
  ·have h0' : (vc != 0) = true := by simp [h0]
   have HR2 : Hid (R = (.zero, (vc, vr, va))) := ħ (by rw [HR1.o, if_neg h0])
   clear h0 HR1
   have hn1 : ¬ w3.heap.size = w.heap.size + 2 := by omega
   have hn2 : ¬ w.heap.size + 2 = w3.heap.size := by omega
   have hn3 : ¬ w3.heap.size = w.heap.size + 3 := by omega
   have hn4 : ¬ w.heap.size + 3 = w3.heap.size := by omega
   go_upto_region 6 with (fail)
   go_region
   go_wp2
   refine bodyPost_ret (v := .tuple #[.agg #[.int .i64 0, .int .i64 0, .int .i64 0, .int .i64 0, .slice none 0 0], .agg #[.int .i64 vc, .int .i64 vr, .int .i64 va]]) (by simp [results, Tryz.results27, go_sem, *]) rfl ⟨.slice none 0 0, by rw [HR2.o]; rfl, by rw [HR2.o]; exact Á.nil _ _, Far.nil _, (Ãz HB4.o (by omega)).drew⟩
 ·have he' : (xe != 0) = true := by simp [he]
  have HR1 : Hid (R = (.zero, (xe, 0, 0))) := ħ (by rw [HR.o, if_neg he])
  clear HR he;have hy := HY2.o;have hz := HZ2.o;obtain ⟨y0, y1, y2, y3, y4⟩ := hy.c5;have fy := hy.frozen;have z0 := hz.cell 0;have z1 := hz.cell 1;have z2 := hz.cell 2;have fz := hz.frozen;have hly := hy.lt;have hlz := hz.lt;clear hy hz;go_wp2
  refine bodyPost_ret (v := .tuple #[.agg #[.int .i64 0, .int .i64 0, .int .i64 0, .int .i64 0, .slice none 0 0], .agg #[.int .i64 xe, .int .i64 0, .int .i64 0]]) (by simp [results, Tryz.results27, go_sem, *]) rfl ⟨.slice none 0 0, by rw [HR1.o]; rfl, by rw [HR1.o]; exact Á.nil _ _, Far.nil _, Ãz HB2.o (by omega)⟩
end
end Go.Proofs.YtpginkdkblmnbaaGreatDoor
