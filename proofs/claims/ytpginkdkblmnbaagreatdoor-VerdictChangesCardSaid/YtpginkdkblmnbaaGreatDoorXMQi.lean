import Derived.Test.YtpginkdkblmnbaaGreatDoorXMQf
import Derived.Test.YtpginkdkblmnbaaGreatDoorXMRx
namespace Go.Proofs.YtpginkdkblmnbaaGreatDoor
section
open Go.RowKit
variable {w w' : World}
set_option maxRecDepth 100000 in
set_option maxHeartbeats 8000000 in
theorem Çi (s : RS) (d : Dl) (v pv dv : Value) (w : World) (hmax : s.rs.length ≤ 1000) (hm1 : d.put.length ≤ 1000) (hm2 : d.drop.length ≤ 1000) (hdr : ∀ z ∈ d.drop, (Lit.int .i64 z).wf = true)
 (hS : Á w.heap.size w v s.rs) (hP : Á w.heap.size w pv d.put) (hD : Row w.heap.size w dv (zI d.drop)) :
 Calls Tryz.prog 28 #[.agg #[.int .i64 s.de, .int .i64 s.cl, .int .i64 s.fu, .int .i64 s.st, v], .agg #[.int .i64 d.de, .int .i64 d.cl, .int .i64 d.fu, .int .i64 d.st, pv, dv]] w
  fun e w' => ∃ rv, e = .returned (.tuple #[.agg #[.int .i64 (ö pvM s d).1.de, .int .i64 (ö pvM s d).1.cl, .int .i64 (ö pvM s d).1.fu, .int .i64 (ö pvM s d).1.st, rv], .agg #[.int .i64 (ö pvM s d).2.1, .int .i64 (ö pvM s d).2.2.1, .int .i64 (ö pvM s d).2.2.2]]) ∧
   Á w'.heap.size w' rv (ö pvM s d).1.rs ∧ Far w.heap.size rv ∧ (∀ q, rv.ownBlock = some q → q < w'.heap.size) ∧ Below w.heap.size w w' := by
 obtain ⟨A, cap, rfl⟩ := hS.form;obtain ⟨PA, pcap, rfl⟩ := hP.form;obtain ⟨DA, dcap, hdv⟩ := hD.form;rw [ÆB] at hdv;subst hdv;obtain ⟨w0, hw0⟩ : ∃ w0, w0 = ((((w.alloc (.cells #[.int .i64 s.de, .int .i64 s.cl, .int .i64 s.fu, .int .i64 s.st, .slice A s.rs.length cap] 68)).alloc (.cells #[.int .i64 d.de, .int .i64 d.cl, .int .i64 d.fu, .int .i64 d.st, .slice PA d.put.length pcap, .slice DA d.drop.length dcap] 78)).alloc (.cells #[.int .i64 0, .int .i64 0, .int .i64 0, .int .i64 0, .slice none 0 0] 68)).alloc (.cells #[.int .i64 0, .int .i64 0, .int .i64 0] 52)) := ⟨_, rfl⟩
 have hb0 : Below w.heap.size w w0 := by rw [hw0]; exact ((((ā _ _).alloc (ŋ _) _).alloc (by simp) _).alloc (by simp; omega) _).alloc (by simp; omega) _
 have hy0 : Blk w0 (w.heap.size + 2) 68 #[.int .i64 0, .int .i64 0, .int .i64 0, .int .i64 0, .slice none 0 0] := by rw [hw0]; exact (Blk.at_new _ _ (by simp) _ _).alloc _
 have hz0 : Blk w0 (w.heap.size + 3) 52 #[.int .i64 0, .int .i64 0, .int .i64 0] := by rw [hw0]; exact Blk.at_new _ _ (by simp) _ _
 have hs0 : w0.heap.size = w.heap.size + 4 := by rw [hw0]; simp
 have HS0 := ħ (hS.on hb0);have HP0 := ħ (hP.on hb0);have HD0 := ħ ((hD.below hb0).more hb0.size);have HB0 := ħ hb0;have HY0 := ħ hy0;have HZ0 := ħ hz0;clear hS hP hD hb0 hy0 hz0;have hap := ÉX s d (.slice A s.rs.length cap) (.slice PA d.put.length pcap) (.slice DA d.drop.length dcap) w0 hmax hm1 hm2 hdr HS0.o HP0.o HD0.o;obtain ⟨R, hR⟩ : ∃ R, R = ö pvM s d := ⟨_, rfl⟩;rw [← hR];obtain ⟨X, hX⟩ : ∃ X, X = Õ s d := ⟨_, rfl⟩;rw [← hX] at hap
 have HR : Hid (R = if X.2 = 0 then (if (í pvM X.1).1 = 0 then (X.1, (0, 0, 0)) else (.zero, í pvM X.1)) else (.zero, (X.2, 0, 0))) := ħ (by rw [hR, hX]; rfl)
 have HXl : Hid (X.1.rs.length ≤ 1000000) := ħ (by
  rw [hX]
  by_cases h0 : (Õ s d).2 = 0
  ·have := (ÀI.1 h0).few
   rw [Ãj (ÀI.1 h0)];simp only;omega
  ·rw [Äc h0]
   simp [RS.zero])
 have HAp := ħ hap;clear hap hR hX;go_enter Tryz.func28, Tryz.ntmps28
 go_wp2_with fail
 rw [← hw0];clear hw0;refine HAp.o.mono ?_;rintro e w1 ⟨rv, rfl, hrv, hfar, hb1⟩;obtain ⟨RA, rcap, rfl⟩ := hrv.form;obtain ⟨⟨xde, xcl, xfu, xst, xrs⟩, xe⟩ := X;simp only at hrv HR HXl ⊢;have HRv := ħ hrv
 have HFa : Hid (Far w0.heap.size (.slice RA xrs.length rcap)) := ħ (fun q hq => (hfar q hq).1)
 have HFb : Hid (∀ q, (Value.slice RA xrs.length rcap).ownBlock = some q → q < w1.heap.size) := ħ (fun q hq => (hfar q hq).2)
 have HB1 := ħ (HB0.o.trans (hb1.mono HB0.o.size));have HY1 := ħ (HY0.o.on hb1);have HZ1 := ħ (HZ0.o.on hb1);have hs1 := hb1.size;clear hrv hfar hb1 HS0 HP0 HD0 HB0 HY0 HZ0 HAp
 go_upto_region 2 with (fail)
 have hb2 : Below w1.heap.size w1 (w1.alloc (.cells #[.int .i64 xde, .int .i64 xcl, .int .i64 xfu, .int .i64 xst, .slice RA xrs.length rcap] 68)) := (ā _ _).alloc (ŋ _) _;have hx2 : Blk (w1.alloc (.cells #[.int .i64 xde, .int .i64 xcl, .int .i64 xfu, .int .i64 xst, .slice RA xrs.length rcap] 68)) w1.heap.size 68 #[.int .i64 xde, .int .i64 xcl, .int .i64 xfu, .int .i64 xst, .slice RA xrs.length rcap] := Blk.new _ _ _;generalize w1.alloc (.cells #[.int .i64 xde, .int .i64 xcl, .int .i64 xfu, .int .i64 xst, .slice RA xrs.length rcap] 68) = w2 at *;have HRv2 := ħ (HRv.o.on hb2);have HB2 := ħ (HB1.o.trans (hb2.mono HB1.o.size));have HY2 := ħ (HY1.o.on hb2);have HZ2 := ħ (HZ1.o.on hb2);have HX2 := ħ hx2;have hs2 := hb2.size;clear hb2 hx2 HB1 HY1 HZ1 HRv
 by_cases he : xe = 0
 ·have he' : (xe != 0) = false := by simp [he]
  have HR1 : Hid (R = if (í pvM ⟨xde, xcl, xfu, xst, xrs⟩).1 = 0 then (⟨xde, xcl, xfu, xst, xrs⟩, (0, 0, 0)) else (.zero, í pvM ⟨xde, xcl, xfu, xst, xrs⟩)) := ħ (by rw [HR.o, if_pos he])
  clear HR he;have HRu := ħ (Èv ⟨xde, xcl, xfu, xst, xrs⟩ (.slice RA xrs.length rcap) w2 HXl.o HRv2.o);obtain ⟨V, hV⟩ : ∃ V, V = í pvM ⟨xde, xcl, xfu, xst, xrs⟩ := ⟨_, rfl⟩;rw [← hV] at HRu HR1;clear hV;obtain ⟨vc, vr, va⟩ := V;simp only at HRu HR1;obtain ⟨x0, x1, x2, x3, x4⟩ := HX2.o.c5;have hlx := HX2.o.lt
  go_wp2_with fail
  refine HRu.o.mono ?_;rintro e w3 ⟨rfl, hb3⟩;have HRv3 := ħ (HRv2.o.on hb3);have HB3 := ħ (HB2.o.trans (hb3.mono HB2.o.size));have HY3 := ħ (HY2.o.on hb3);have HZ3 := ħ (HZ2.o.on hb3);have HX3 := ħ (HX2.o.on hb3);have hs3 := hb3.size;clear hb3 x0 x1 x2 x3 x4 hlx HRu HRv2 HB2 HY2 HZ2 HX2
  go_upto_region 5 with (fail)
  have hb4 : Below w3.heap.size w3 (w3.alloc (.cells #[.int .i64 vc, .int .i64 vr, .int .i64 va] 52)) := (ā _ _).alloc (ŋ _) _;have hv4 : Blk (w3.alloc (.cells #[.int .i64 vc, .int .i64 vr, .int .i64 va] 52)) w3.heap.size 52 #[.int .i64 vc, .int .i64 vr, .int .i64 va] := Blk.new _ _ _;generalize w3.alloc (.cells #[.int .i64 vc, .int .i64 vr, .int .i64 va] 52) = w4 at *;have HRv4 := ħ (HRv3.o.on hb4);have HB4 := ħ (HB3.o.trans (hb4.mono HB3.o.size));have hy := HY3.o.on hb4;have hz := HZ3.o.on hb4;have hx := HX3.o.on hb4;clear HRv3 HB3 HY3 HZ3 HX3;obtain ⟨y0, y1, y2, y3, y4⟩ := hy.c5;have fy := hy.frozen;have z0 := hz.cell 0;have z1 := hz.cell 1;have z2 := hz.cell 2;have fz := hz.frozen;have v0 := hv4.cell 0;have v1 := hv4.cell 1;have v2 := hv4.cell 2;have hly := hy.lt;have hlz := hz.lt;have hlv := hv4.lt
  by_cases h0 : vc = 0
  ·have h0' : (vc != 0) = false := by simp [h0]
   have HR2 : Hid (R = (⟨xde, xcl, xfu, xst, xrs⟩, (0, 0, 0))) := ħ (by rw [HR1.o, if_pos h0])
   obtain ⟨x0, x1, x2, x3, x4⟩ := hx.c5;have hlx := hx.lt;clear h0 HR1;go_wp2
   refine bodyPost_ret (v := .tuple #[.agg #[.int .i64 xde, .int .i64 xcl, .int .i64 xfu, .int .i64 xst, .slice RA xrs.length rcap], .agg #[.int .i64 0, .int .i64 0, .int .i64 0]]) (by simp [results, Tryz.results28, go_sem, *]) rfl ⟨_, by rw [HR2.o], ?_, HFa.o.mono (by omega), fun q hq => by have := HFb.o q hq; simp [World.setCell]; omega, Ãz HB4.o (by omega)⟩
   rw [HR2.o]
   exact Á.more (Íj HRv4.o HFa.o (by omega)) (by simp [World.setCell])
  ·have h0' : (vc != 0) = true := by simp [h0]
   have HR2 : Hid (R = (.zero, (vc, vr, va))) := ħ (by rw [HR1.o, if_neg h0])
   clear h0 HR1
   have hn1 : ¬ w3.heap.size = w.heap.size + 2 := by omega
   have hn2 : ¬ w.heap.size + 2 = w3.heap.size := by omega
   have hn3 : ¬ w3.heap.size = w.heap.size + 3 := by omega
   have hn4 : ¬ w.heap.size + 3 = w3.heap.size := by omega
   go_upto_region 6 with (fail)
   go_region
   go_wp2
   refine bodyPost_ret (v := .tuple #[.agg #[.int .i64 0, .int .i64 0, .int .i64 0, .int .i64 0, .slice none 0 0], .agg #[.int .i64 vc, .int .i64 vr, .int .i64 va]]) (by simp [results, Tryz.results28, go_sem, *]) rfl ⟨.slice none 0 0, by rw [HR2.o]; rfl, by rw [HR2.o]; exact Á.nil _ _, Far.nil _, (fun q hq => by cases hq), (Ãz HB4.o (by omega)).drew⟩
 ·have he' : (xe != 0) = true := by simp [he]
  have HR1 : Hid (R = (.zero, (xe, 0, 0))) := ħ (by rw [HR.o, if_neg he])
  clear HR he;have hy := HY2.o;have hz := HZ2.o;obtain ⟨y0, y1, y2, y3, y4⟩ := hy.c5;have fy := hy.frozen;have z0 := hz.cell 0;have z1 := hz.cell 1;have z2 := hz.cell 2;have fz := hz.frozen;have hly := hy.lt;have hlz := hz.lt;clear hy hz;go_wp2
  refine bodyPost_ret (v := .tuple #[.agg #[.int .i64 0, .int .i64 0, .int .i64 0, .int .i64 0, .slice none 0 0], .agg #[.int .i64 xe, .int .i64 0, .int .i64 0]]) (by simp [results, Tryz.results28, go_sem, *]) rfl ⟨.slice none 0 0, by rw [HR1.o]; rfl, by rw [HR1.o]; exact Á.nil _ _, Far.nil _, (fun q hq => by cases hq), Ãz HB2.o (by omega)⟩
end
end Go.Proofs.YtpginkdkblmnbaaGreatDoor
