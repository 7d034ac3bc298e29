import Derived.Test.YtpginkdkblmnbaaGreatDoorWGn
import Derived.Test.YtpginkdkblmnbaaGreatDoorWQzh
namespace Go.Proofs.YtpginkdkblmnbaaGreatDoor
section
open Go.RowKit
open Go.Proofs.YtpginkdkblmnbaaGreatDoor.Cl (Rg)
variable {w w' : World}
structure Ïi (n : Nat) (w : World) : Prop where
 tabs : ś n w
 lu : Cl.LU n w
theorem Ïi.on (h : Ïi w.heap.size w) (hb : Below w.heap.size w w') : Ïi w'.heap.size w' := ⟨ÀF h.tabs hb hb.size, h.lu.on hb⟩
theorem ËH (fo : Bool) {nd : Nd} (hw : Wf nd) (h : ì nd = 0) : 3 ≤ (ÃJ fo nd).length ∧ (ÃJ fo nd).length ≤ 2000 := by
 have := Ît fo hw h;unfold ÃJ;rw [Ø, Ø, Ø];simp only [ć, Ď];omega
theorem ËI (nd : Nd) (h : ì nd ≠ 0) : ì nd = 27 ∨ ì nd = 28 := by
 unfold ì at *;split at h
 ·split at h
  ·rename_i h1 h2; rw [if_pos h1, if_pos h2]; exact .inr rfl
  ·exact absurd rfl h
 ·rename_i h1; rw [if_neg h1]; exact .inl rfl
theorem Ïj {a b : Int} (h : a ≠ b) : (a == b) = false := by simpa using h
set_option maxRecDepth 100000 in
set_option maxHeartbeats 8000000 in
theorem Ãc (x : ByteArray) (w : World) (hT : Ïi w.heap.size w) :
 Calls Tryz.prog 4 #[.string x] w fun e w' => e = .returned (.bool true) ∧ Below w.heap.size w w' := by
 have AN := ħ (ÉN w hT.tabs);have HT := ħ hT;clear hT
 by_cases hx : x.size ≤ 400
 ·have i1 : ¬ (400 : Int) < (x.size : Int) := by omega
  have VP : Hid (∀ W : World, ś W.heap.size W → Calls Tryz.prog 18 #[.string x] W fun e w' => e = .returned (.agg #[.int .i64 (pvM x).1, .int .i64 0, .int .i64 (pvM x).2]) ∧ Below W.heap.size W w') := ħ fun W hW => Æq x (by omega) W hW
  have XP : Hid (∀ W : World, Calls Tryz.prog 20 #[.string x] W fun e w' => e = .returned (.agg #[.int .i64 (pvM x).1, .int .i64 0, .int .i64 (pvM x).2]) ∧ Below W.heap.size W w') := ħ fun W => ÍA x W
  have PP : Hid (∀ W : World, ś W.heap.size W → Calls Tryz.prog 8 #[.string x] W (ÁY W (ñ 1026 x.data.toList))) := ħ (fun W hW => ÇC (s := x.data.toList) 1026 (by omega) (by have : x.data.toList.length = x.size := rfl; omega) hW)
  obtain ⟨v, hv⟩ : ∃ v, v = pvM x := ⟨_, rfl⟩;obtain ⟨r, hr⟩ : ∃ r, r = ñ 1026 x.data.toList := ⟨_, rfl⟩
  have HV : Hid (v = pvR r) := ħ (by rw [hv, hr]; rfl)
  rw [← hv] at VP XP;rw [← hr] at PP;have HR := ħ hr
  have LK : Hid (∀ W : World, Calls Tryz.prog 19 #[.agg #[.int .i64 v.1, .int .i64 0, .int .i64 v.2], .agg #[.int .i64 v.1, .int .i64 0, .int .i64 v.2]] W fun e w' => e = .returned (.bool true) ∧ Below W.heap.size W w') := ħ fun W => ÍB v.1 0 v.2 W
  clear hv hr;go_enter Tryz.func4, Tryz.ntmps4
  go_wp2_with fail
  refine AN.o.mono ?_;rintro e w1 ⟨rfl, b1⟩;have B1 := ħ b1;clear b1
  go_wp2_with fail
  refine (VP.o w1 (HT.o.on B1.o).tabs).mono ?_;rintro e w2 ⟨rfl, b2⟩;have B2 := ħ (B1.o.trans (b2.mono B1.o.size));have B3 := ħ (B2.o.alloc B2.o.size (.cells #[.int .i64 v.1, .int .i64 0, .int .i64 v.2] 48));have X3 := ħ (Blk.new w2 48 #[.int .i64 v.1, .int .i64 0, .int .i64 v.2]);clear b2
  go_upto_region 6 with (fail)
  generalize w2.alloc (.cells #[.int .i64 v.1, .int .i64 0, .int .i64 v.2] 48) = w3 at *;generalize w2.heap.size = vb at *
  refine wp_region_held_drew (S := fun W => Below w3.heap.size w3 W) (by kernel_rfl) (Ñr w3) (fun hHeld => ?_)
  refine ŧ 0 15 (.agg #[.int .i64 v.1, .int .i64 0, .int .i64 v.2]) _ rfl rfl hHeld (fun w' hSw => ?_) ?_
  ·have zz := X3.o.on hSw
   have z0 := zz.cell 0;have z1 := zz.cell 1;have z2 := zz.cell 2;clear zz;go_simp
  simp only [ł, ø, đ]
  refine ŧ 1 16 (.string x) _ rfl rfl hHeld (fun w' hSw => ?_) ?_
  ·clear hSw
   go_simp
  simp only [ł, ø, đ]
  refine ŝ 2 (fun K hK => ?_)
  go_simp;refine (XP.o _).mono ?_;rintro e wk ⟨rfl, hbk⟩;have hSk := hHeld.trans (hbk.mono hHeld.size)
  refine hK.o _ _ hSk (fun hHeld => ?_)
  clear hK K hbk hSk
  refine ŝ 3 (fun K hK => ?_)
  go_simp;refine (LK.o _).mono ?_;rintro e wj ⟨rfl, hbk⟩;have hSk := hHeld.trans (hbk.mono hHeld.size)
  refine hK.o _ _ hSk (fun hHeld => ?_)
  clear hK K hbk hSk
  refine ŧ 4 19 (.bool false) _ rfl rfl hHeld (fun w' hSw => ?_) ?_
  ·clear hSw
   go_simp
  simp only [ł, ø, đ]
  refine wpAnyH_done (by kernel_rfl) ?_ _
  have B4 := ħ (B3.o.trans (hHeld.mono B3.o.size));have X4 := ħ (X3.o.on hHeld);clear hHeld B3 X3 VP XP LK
  go_wp2_with fail
  refine (PP.o wj (HT.o.on B4.o).tabs).mono ?_;clear PP
  cases r with
  | error f =>
   rintro e w5 ⟨rfl, hb5⟩;have hf : f.1 ≠ 0 := Ãy (ŋ _) HR.o.symm;have HV1 : Hid (v = (((f.1 : Nat) : Int), ((f.2 : Nat) : Int))) := HV;unfold ź;have P1 := ħ (År wj w5 #[.int .i64 0, .int .i64 0, .int .i64 0, .int .i64 0, .int .i64 0, .slice none 0 0, .slice none 0 0, .int .i64 0, .bool false] #[.int .i64 (f.1 : Nat), .int .i64 (f.2 : Nat)] hb5)
   go_upto_region 9 with (fail)
   generalize (w5.alloc (.cells #[.int .i64 0, .int .i64 0, .int .i64 0, .int .i64 0, .int .i64 0, .slice none 0 0, .slice none 0 0, .int .i64 0, .bool false] 29)).alloc (.cells #[.int .i64 (f.1 : Nat), .int .i64 (f.2 : Nat)] 32) = v1 at *;have hc0 := P1.o.flt.cell 0;have hc1 := P1.o.flt.cell 1;have hx1 := X4.o.on P1.o.keep;have x0 := hx1.cell 0;have x2 := hx1.cell 2;rw [HV1.o] at x0 x2
   have hf1 : (((f.1 : Nat) : Int) == 0) = false := Ïj (by omega)
   have B5 := ħ (B4.o.trans (P1.o.keep.mono B4.o.size));clear hx1 hf;go_wp2;go_ret;exact ⟨rfl, B5.o⟩
  | ok y =>
   rintro e w5 ⟨A1, A2, p1, p2, rfl, hN, hb5⟩;have HV1 : Hid (v = (((ì y.1 : Nat) : Int), 0)) := HV;obtain ⟨nd, g, fo⟩ := y;simp only at hN HV1 ⊢;have HW := ħ (ÅD HR.o.symm);have HWn := ħ (ÍV HR.o.symm);have HG := ħ (ÊS HR.o.symm);unfold Ëh;have P1 := ħ (År wj w5 #[.int .i64 nd.kind, .int .i64 nd.lo, .int .i64 nd.hi, .int .i64 nd.mode, .int .i64 nd.ref, .slice A1 nd.set.length p1, .slice A2 nd.kids.length p2, .int .i64 (g : Nat), .bool fo] #[.int .i64 0, .int .i64 0] hb5);have HN1 := ħ (hN.on (ÎH w5 #[.int .i64 nd.kind, .int .i64 nd.lo, .int .i64 nd.hi, .int .i64 nd.mode, .int .i64 nd.ref, .slice A1 nd.set.length p1, .slice A2 nd.kids.length p2, .int .i64 (g : Nat), .bool fo] #[.int .i64 0, .int .i64 0]));clear hN HR HV
   go_upto_region 9 with (fail)
   generalize (w5.alloc (.cells #[.int .i64 nd.kind, .int .i64 nd.lo, .int .i64 nd.hi, .int .i64 nd.mode, .int .i64 nd.ref, .slice A1 nd.set.length p1, .slice A2 nd.kids.length p2, .int .i64 (g : Nat), .bool fo] 29)).alloc (.cells #[.int .i64 0, .int .i64 0] 32) = v1 at *;have hc0 := P1.o.flt.cell 0;have hc1 := P1.o.flt.cell 1;have hx1 := X4.o.on P1.o.keep;have x0 := hx1.cell 0;have x2 := hx1.cell 2;rw [HV1.o] at x0 x2;have B5 := ħ (B4.o.trans (P1.o.keep.mono B4.o.size))
   have HC := ħ (Éw (w := v1) (fo := fo) (G := (g : Nat)) (by have := HG.o; omega) HW.o HWn.o (g : Nat) (HT.o.on B5.o).lu HN1.o)
   have h9 := P1.o.node.nine;have HF := ħ P1.o.flt;clear hx1
   by_cases hvd : ì nd = 0
   ·have HLn := ħ (ËH fo HW.o hvd)
    have HVD := ħ hvd;rw [hvd] at x0;clear hvd
    go_wp2_with fail
    refine HC.o.mono ?_;rintro e w6 ⟨hb6, hc⟩
    rcases hc with ⟨hv, _⟩ | ⟨_, A, c, rfl, hP⟩
    ·exact absurd HVD.o hv
    have B6 := ħ (B5.o.trans (hb6.mono B5.o.size));have hc2 := (HF.o.on hb6).cell 0;obtain ⟨q, hq⟩ : ∃ q, q = (ÃJ fo nd).length := ⟨_, rfl⟩;have hl := HLn.o;rw [← hq] at hl ⊢;obtain ⟨hl1, hl2⟩ := hl
    have hl3 : (3 : Int) ≤ (q : Int) := by omega
    have hl4 : (q : Int) ≤ 2000 := by omega
    clear hc0 hc1 x0 x2 h9 hP hb6 hq hl1 hl2;go_wp2;go_ret;exact ⟨rfl, B6.o⟩
   ·have hv0 : (((ì nd : Nat) : Int) == 0) = false := Ïj (by omega)
    have hv1 : ((0 : Int) == ((ì nd : Nat) : Int)) = false := Ïj (by omega)
    rcases ËI nd hvd with h27 | h27
    ·rw [h27] at x0
     clear hvd hv0 hv1 HC h9;go_wp2;go_ret;exact ⟨rfl, B5.o⟩
    ·rw [h27] at x0
     clear hvd hv0 hv1 HC h9;go_wp2;go_ret;exact ⟨rfl, B5.o⟩
 ·have i1 : (400 : Int) < (x.size : Int) := by omega
  go_enter Tryz.func4, Tryz.ntmps4
  go_wp2_with fail
  refine AN.o.mono ?_;rintro e w1 ⟨rfl, b1⟩;go_wp2;go_ret;exact ⟨rfl, b1⟩
end
end Go.Proofs.YtpginkdkblmnbaaGreatDoor
