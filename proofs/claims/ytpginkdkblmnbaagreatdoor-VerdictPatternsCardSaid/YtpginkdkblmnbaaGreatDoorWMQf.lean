import Derived.Test.YtpginkdkblmnbaaGreatDoorWQze
import Derived.Test.YtpginkdkblmnbaaGreatDoorWMVd
import Derived.Test.YtpginkdkblmnbaaGreatDoorWMRd
namespace Go.Proofs.YtpginkdkblmnbaaGreatDoor
section
open Go.RowKit
open Go.Proofs.YtpginkdkblmnbaaGreatDoor.Cl (Rg)
variable {w w' : World}
theorem Êh (x : ByteArray) (w : World) : Calls Tryz.prog 9 #[.string x] w fun e w' => Below w.heap.size w w' ∧ XPR (ñ 1026 x.data.toList) w' e := by
 by_cases h : x.size ≤ 256
 ·exact Äg 1026 x (by omega) w
 ·have hl : 256 < x.data.toList.length := by have : x.data.toList.length = x.size := rfl; omega
  have e : ñ 1026 x.data.toList = ñ (4 * x.size + 2) x.data.toList := by unfold ñ; rw [if_pos hl, if_pos hl]
  rw [e];exact Äg _ x (ŋ _) w
set_option maxRecDepth 100000 in
set_option maxHeartbeats 4000000 in
theorem ÍA (x : ByteArray) (w : World) :
 Calls Tryz.prog 20 #[.string x] w fun e w' => e = .returned (.agg #[.int .i64 (pvM x).1, .int .i64 0, .int .i64 (pvM x).2]) ∧ Below w.heap.size w w' := by
 have hb0 : Below w.heap.size w (w.alloc (.cells #[.int .i64 0, .int .i64 0, .int .i64 0] 52)) := (ā _ _).alloc (ŋ _) _;have hz0 : Blk (w.alloc (.cells #[.int .i64 0, .int .i64 0, .int .i64 0] 52)) w.heap.size 52 #[.int .i64 0, .int .i64 0, .int .i64 0] := Blk.new _ _ _;have HB0 := ħ hb0;have HZ0 := ħ hz0;clear hb0 hz0
 have HP : Hid (∀ W : World, Calls Tryz.prog 9 #[.string x] W fun e w' => Below W.heap.size W w' ∧ XPR (ñ 1026 x.data.toList) w' e) := ħ (fun W => Êh x W)
 obtain ⟨v, hv⟩ : ∃ v, v = pvM x := ⟨_, rfl⟩;rw [← hv];obtain ⟨r, hr⟩ : ∃ r, r = ñ 1026 x.data.toList := ⟨_, rfl⟩
 have HV : Hid (v = pvR r) := ħ (by rw [hv, hr]; rfl)
 rw [← hr] at HP;have HR := ħ hr;clear hv hr;go_enter Tryz.func20, Tryz.ntmps20
 go_wp2_with fail
 generalize w.alloc (.cells #[.int .i64 0, .int .i64 0, .int .i64 0] 52) = w0 at *;refine (HP.o w0).mono ?_;clear HP
 cases r with
 | error f =>
  intro e w1 h1;obtain ⟨hb1, he⟩ := h1;have he' : e = .returned (.tuple #[.agg #[.int .i64 0, .int .i64 0, .int .i64 0, .int .i64 0, .int .i64 0, .slice none 0 0, .bool false, .slice none 0 0], .int .i64 0, .bool false, .int .i64 (f.1 : Nat), .int .i64 (f.2 : Nat)]) := he;clear he;subst he';have hf : f.1 ≠ 0 := Ãy (ŋ _) HR.o.symm
  have hf1 : ((f.1 : Int) != 0) = true := by simp [hf]
  have HV1 : Hid (v = (((f.1 : Nat) : Int), ((f.2 : Nat) : Int))) := HV;have hb3 := hb1.alloc hb1.size (.cells #[.int .i64 0, .int .i64 0, .int .i64 0, .int .i64 0, .int .i64 0, .slice none 0 0, .bool false, .slice none 0 0] 38)
  go_upto_region 2 with (fail)
  generalize w1.alloc (.cells #[.int .i64 0, .int .i64 0, .int .i64 0, .int .i64 0, .int .i64 0, .slice none 0 0, .bool false, .slice none 0 0] 38) = v1 at *;have hz := HZ0.o.on hb3;have z0 := hz.cell 0;have z1 := hz.cell 1;have z2 := hz.cell 2;have fz := hz.frozen;have hlz := hz.lt;have HBv := ħ (HB0.o.trans (hb3.mono HB0.o.size));clear hz hf hb1 hb3;go_wp2
  refine bodyPost_ret (v := .agg #[.int .i64 (f.1 : Nat), .int .i64 0, .int .i64 (f.2 : Nat)]) (by simp [results, Tryz.results20, go_sem, *]) rfl ⟨by rw [HV1.o], ?_⟩
  exact ((HBv.o.setCell (ŋ _) _).setCell (ŋ _) _).setCell (ŋ _) _
 | ok y =>
  intro e w1 h1;obtain ⟨nd, g, fo⟩ := y;have HV1 : Hid (v = (((ì nd : Nat) : Int), 0)) := HV;have HW := ħ (ÅD HR.o.symm);obtain ⟨hb1, B1, n1, q1, nb, B2, q2, rfl, hQ⟩ := h1;have hb3 := hb1.alloc hb1.size (.cells #[.int .i64 nd.kind, .int .i64 nd.lo, .int .i64 nd.hi, .int .i64 nd.mode, .int .i64 nd.ref, .slice B1 n1 q1, .bool nb, .slice B2 nd.kids.length q2] 38);have HQn := ħ (Blk.new w1 38 #[.int .i64 nd.kind, .int .i64 nd.lo, .int .i64 nd.hi, .int .i64 nd.mode, .int .i64 nd.ref, .slice B1 n1 q1, .bool nb, .slice B2 nd.kids.length q2]);have HQv := ħ (hQ.on_ (ÂK w1 #[.int .i64 nd.kind, .int .i64 nd.lo, .int .i64 nd.hi, .int .i64 nd.mode, .int .i64 nd.ref, .slice B1 n1 q1, .bool nb, .slice B2 nd.kids.length q2]));clear hQ HR HV;simp only
  go_upto_region 2 with (fail)
  generalize w1.alloc (.cells #[.int .i64 nd.kind, .int .i64 nd.lo, .int .i64 nd.hi, .int .i64 nd.mode, .int .i64 nd.ref, .slice B1 n1 q1, .bool nb, .slice B2 nd.kids.length q2] 38) = v1 at *;have HZ1 := ħ (HZ0.o.on hb3);have HBv := ħ (HB0.o.trans (hb3.mono HB0.o.size));have c8 := HQn.o.c8;have HC := ħ (Ëq nd HW.o v1 B1 B2 n1 q1 q2 nb HQv.o);generalize ì nd = vd at *;clear hb1 hb3 HQv
  go_wp2_with fail
  refine HC.o.mono ?_;rintro e w5 ⟨rfl, hb5⟩;have hz := HZ1.o.on hb5;have z0 := hz.cell 0;have z1 := hz.cell 1;have z2 := hz.cell 2;have fz := hz.frozen;have hlz := hz.lt;have HB5 := ħ (HBv.o.trans (hb5.mono HBv.o.size));clear hz hb5 c8 HC;go_wp2
  refine bodyPost_ret (v := .agg #[.int .i64 (vd : Nat), .int .i64 0, .int .i64 0]) (by simp [results, Tryz.results20, go_sem, *]) rfl ⟨by rw [HV1.o], ?_⟩
  exact ((HB5.o.setCell (ŋ _) _).setCell (ŋ _) _).setCell (ŋ _) _
end
section
open Go.RowKit
variable {w w' : World}
end
end Go.Proofs.YtpginkdkblmnbaaGreatDoor
