import Derived.Test.YtpginkdkblmnbaaGreatDoorWMSa
namespace Go.Proofs.YtpginkdkblmnbaaGreatDoor
section
open Go.RowKit
open Go.Proofs.YtpginkdkblmnbaaGreatDoor.Cl (Rg à Ý Ä)
variable {w w' : World}
def Ìa (n : Nat) : Prop := ∀ (nd : Nd), SizeOf.sizeOf nd ≤ n → Wf nd → ∀ (w : World) (A1 A2 : Option Addr) (p1 p2 : Nat), Ê (fun b => b < w.heap.size) w nd (.slice A1 nd.set.length p1) (.slice A2 nd.kids.length p2) →
 Calls Tryz.prog 13 #[.agg #[.int .i64 nd.kind, .int .i64 nd.lo, .int .i64 nd.hi, .int .i64 nd.mode, .int .i64 nd.ref, .slice A1 nd.set.length p1, .slice A2 nd.kids.length p2]] w fun e w' => e = .returned (.int .i64 (Å nd)) ∧ Below w.heap.size w w'
def Ìb (n : Nat) : Prop := ∀ (L : List Nd), (∀ x ∈ L, Wf x ∧ SizeOf.sizeOf x ≤ n) → L.length ≤ 1000000 → ∀ (w : World) (A : Option Addr) (p b off : Nat), Ài w L A b off →
 Calls Tryz.prog 40 #[.slice A L.length p] w fun e w' => e = .returned (.int .i64 (Ķ L)) ∧ Below w.heap.size w w'
set_option maxRecDepth 100000 in
set_option maxHeartbeats 2000000 in
theorem ÃT (n : Nat) (ih : Ìa n) : Ìb n := by
 intro L hL hm w A p b off hK;have HK := ħ hK;have HIH := ħ ih;have HL := ħ hL;clear hK ih hL;go_enter Tryz.func40, Tryz.ntmps40;go_wp2
 go_loopw [3, 8] (fun lo i wr => ∃ (k : Nat) (l0 : Int), k ≤ L.length ∧ i = .int .i64 k ∧ lo = .int .i64 l0 ∧ Hid (l0 = Ķ (L.take k)) ∧ Below w.heap.size w wr) (fun _ i _ => L.length - (intOf i).toNat)
 case atStart => exact ⟨0, 0, Ą _, rfl, rfl, ħ rfl, ā _ _⟩
 case round =>
  obtain ⟨k, l0, hk, rfl, rfl, HE, hbel⟩ := hrel;have hsz := hbel.size
  by_cases hlt : k < L.length
  ·have hlti : (k : Int) < L.length := by omega
   obtain ⟨hA, hb, a1, a2, r1, r2, hN, hC⟩ := HK.o k _ (Ā hlt);subst hA;have HX := ħ (HL.o _ (Ē hlt));have HT := ħ (Š hlt)
   have HW := ħ (fun x (hx : x ∈ L.take k) => (HL.o x (ÅU hx)).1)
   generalize L[k] = x at hN hC HX HT;have h7 := (hC.on (hbel.block b hb)).seven_;have HN := ħ ((hN.on_ hbel).on_ (Ĳ wr #[.int .i64 x.kind, .int .i64 x.lo, .int .i64 x.hi, .int .i64 x.mode, .int .i64 x.ref, .slice a1 x.set.length r1, .slice a2 x.kids.length r2]));have HB := ħ (Blk.new wr 27 #[.int .i64 x.kind, .int .i64 x.lo, .int .i64 x.hi, .int .i64 x.mode, .int .i64 x.ref, .slice a1 x.set.length r1, .slice a2 x.kids.length r2]);have hb6 := hbel.alloc hsz (.cells #[.int .i64 x.kind, .int .i64 x.lo, .int .i64 x.hi, .int .i64 x.mode, .int .i64 x.ref, .slice a1 x.set.length r1, .slice a2 x.kids.length r2] 27);clear hN hC
   have hr0 : 0 ≤ l0 ∧ l0 ≤ 1048576 := by
    have r1 := Âu HW.o;rw [HE.o];unfold far at r1;omega
   obtain ⟨c1, c2⟩ := hr0;obtain ⟨l1, hl1⟩ : ∃ l1, l1 = Å x := ⟨_, rfl⟩
   have hr1 : 0 ≤ l1 ∧ l1 ≤ 1048576 := by
    have r1 := Ö HX.o.1;rw [hl1];unfold far at r1;omega
   obtain ⟨d1, d2⟩ := hr1;have HE1 := ħ hl1;clear hl1
   go_upto_region 5 with (fail)
   have h77 := HB.o.c7;generalize wr.alloc (.cells #[.int .i64 x.kind, .int .i64 x.lo, .int .i64 x.hi, .int .i64 x.mode, .int .i64 x.ref, .slice a1 x.set.length r1, .slice a2 x.kids.length r2] 27) = W at *
   go_wp2_with fail
   refine (HIH.o x HX.o.2 HX.o.1 W a1 a2 r1 r2 HN.o).mono ?_;rw [← HE1.o];rintro e w1 ⟨rfl, hb1⟩;have hbw := hb6.trans (hb1.mono hb6.size);clear HN HB h77
   go_wp2_with fail
   refine (ň (l0 + l1)).mono ?_;rintro e w2 ⟨rfl, rfl⟩;go_wp2;go_roundw
   case rel =>
    refine ⟨k + 1, _, by omega, by go_num, rfl, ħ ?_, hbw⟩
    rw [HT.o, Êt HW.o HX.o.1, ← HE.o, ← HE1.o]
   case measure => simp [intOf]; omega
  ·obtain rfl : k = L.length := by omega
   go_wp2;go_ret;refine ⟨?_, hbel⟩;rw [HE.o, Ă];rfl
def ÂE (lo hi m c : Int) : Int := lo * c + (if hi = -1 then c + 4 else (hi - lo) * (c + 1)) + (if m = 2 then 2 else 0)
set_option maxRecDepth 100000 in
set_option maxHeartbeats 2000000 in
theorem Æg (n : Nat) (ihr : Ìb n) (nd : Nd) (hsz : SizeOf.sizeOf nd ≤ n + 1) (hw : Wf nd) (hk : nd.kind = 4) (w : World) (A1 A2 : Option Addr) (p1 p2 : Nat) (hN : Ê (fun b => b < w.heap.size) w nd (.slice A1 nd.set.length p1) (.slice A2 nd.kids.length p2)) :
 Calls Tryz.prog 41 #[.agg #[.int .i64 4, .int .i64 nd.lo, .int .i64 nd.hi, .int .i64 nd.mode, .int .i64 nd.ref, .slice A1 nd.set.length p1, .slice A2 nd.kids.length p2]] w fun e w' => e = .returned (.int .i64 (ÂE nd.lo nd.hi nd.mode (Ķ nd.kids))) ∧ Below w.heap.size w w' := by
 obtain ⟨b, off, hkv, hm⟩ := hN.kidsV;obtain ⟨_, g1, g2, g3, g4, g5⟩ := ÅS hw hk;have hr1 := Âu hw.kids;unfold far at hr1;obtain ⟨r1, r2⟩ := hr1;have HO := ħ (ÀX hw hsz)
 have HRow := ħ (fun W (hW : Ài W nd.kids A2 b off) => ihr nd.kids HO.o hm W A2 p2 b off hW)
 have HB0 := ħ (Blk.new w 27 #[.int .i64 4, .int .i64 nd.lo, .int .i64 nd.hi, .int .i64 nd.mode, .int .i64 nd.ref, .slice A1 nd.set.length p1, .slice A2 nd.kids.length p2]);have hb0 := Ĳ w #[.int .i64 4, .int .i64 nd.lo, .int .i64 nd.hi, .int .i64 nd.mode, .int .i64 nd.ref, .slice A1 nd.set.length p1, .slice A2 nd.kids.length p2];have HV := ħ (hkv.on hb0);have q0 : 0 ≤ nd.lo * Ķ nd.kids := Int.mul_nonneg g1 r1
 have q1 : nd.lo * Ķ nd.kids ≤ 64 * 1048576 := Int.mul_le_mul g2 r2 r1 (by omega)
 have q2 : nd.hi ≠ -1 → 0 ≤ (nd.hi - nd.lo) * (Ķ nd.kids + 1) ∧ (nd.hi - nd.lo) * (Ķ nd.kids + 1) ≤ 64 * 1048577 := fun h =>
  have := g5 h
  ⟨Int.mul_nonneg (by omega) (by omega), Int.mul_le_mul (by omega) (by omega) (by omega) (by omega)⟩
 clear hkv hN ihr hw hsz HO hk;generalize Ķ nd.kids = c at *;generalize nd.mode = m at *;generalize nd.hi = hi at *
 by_cases hh : hi = -1
 ·subst hh
  clear q2 g5
  by_cases hm2 : m = 2
  ·subst hm2
   have e : ÂE nd.lo (-1) 2 c = nd.lo * c + (c + 4) + 2 := by simp [ÂE]
   rw [e];clear e;go_enter Tryz.func41, Tryz.ntmps41
   go_upto_region 1 with (fail)
   have h7 := HB0.o.c7;generalize w.alloc (.cells #[.int .i64 4, .int .i64 nd.lo, .int .i64 (-1), .int .i64 2, .int .i64 nd.ref, .slice A1 nd.set.length p1, .slice A2 nd.kids.length p2] 27) = W at *
   go_wp2_with fail
   refine (HRow.o W HV.o).mono ?_;rintro e w1 ⟨rfl, hb1⟩;have hbw := hb0.trans (hb1.mono hb0.size);have h77 := (HB0.o.on hb1).c7;clear h7;go_wp2;go_ret;exact ⟨rfl, hbw⟩
  ·have hm2' : (m == 2) = false := by simp [hm2]
   have e : ÂE nd.lo (-1) m c = nd.lo * c + (c + 4) := by simp [ÂE, hm2]
   rw [e];clear e;go_enter Tryz.func41, Tryz.ntmps41
   go_upto_region 1 with (fail)
   have h7 := HB0.o.c7;generalize w.alloc (.cells #[.int .i64 4, .int .i64 nd.lo, .int .i64 (-1), .int .i64 m, .int .i64 nd.ref, .slice A1 nd.set.length p1, .slice A2 nd.kids.length p2] 27) = W at *
   go_wp2_with fail
   refine (HRow.o W HV.o).mono ?_;rintro e w1 ⟨rfl, hb1⟩;have hbw := hb0.trans (hb1.mono hb0.size);have h77 := (HB0.o.on hb1).c7;clear h7;go_wp2;go_ret;exact ⟨rfl, hbw⟩
 ·have hh' : (hi == -1) = false := by simp [hh]
  obtain ⟨q3, q4⟩ := q2 hh;have g6 := g5 hh;clear q2 g5
  by_cases hm2 : m = 2
  ·subst hm2
   have e : ÂE nd.lo hi 2 c = nd.lo * c + (hi - nd.lo) * (c + 1) + 2 := by simp [ÂE, hh]
   rw [e];clear e;go_enter Tryz.func41, Tryz.ntmps41
   go_upto_region 1 with (fail)
   have h7 := HB0.o.c7;generalize w.alloc (.cells #[.int .i64 4, .int .i64 nd.lo, .int .i64 hi, .int .i64 2, .int .i64 nd.ref, .slice A1 nd.set.length p1, .slice A2 nd.kids.length p2] 27) = W at *
   go_wp2_with fail
   refine (HRow.o W HV.o).mono ?_;rintro e w1 ⟨rfl, hb1⟩;have hbw := hb0.trans (hb1.mono hb0.size);have h77 := (HB0.o.on hb1).c7;clear h7;go_wp2;go_ret;exact ⟨rfl, hbw⟩
  ·have hm2' : (m == 2) = false := by simp [hm2]
   have e : ÂE nd.lo hi m c = nd.lo * c + (hi - nd.lo) * (c + 1) := by simp [ÂE, hh, hm2]
   rw [e];clear e;go_enter Tryz.func41, Tryz.ntmps41
   go_upto_region 1 with (fail)
   have h7 := HB0.o.c7;generalize w.alloc (.cells #[.int .i64 4, .int .i64 nd.lo, .int .i64 hi, .int .i64 m, .int .i64 nd.ref, .slice A1 nd.set.length p1, .slice A2 nd.kids.length p2] 27) = W at *
   go_wp2_with fail
   refine (HRow.o W HV.o).mono ?_;rintro e w1 ⟨rfl, hb1⟩;have hbw := hb0.trans (hb1.mono hb0.size);have h77 := (HB0.o.on hb1).c7;clear h7;go_wp2;go_ret;exact ⟨rfl, hbw⟩
set_option maxRecDepth 100000 in
set_option maxHeartbeats 2000000 in
theorem ÌO (n : Nat) (ihr : Ìb n) : Ìa (n + 1) := by
 intro nd hsz hw w A1 A2 p1 p2 hN;obtain ⟨b, off, hkv, hm⟩ := hN.kidsV;have HW := ħ hw;have HO := ħ (ÀX hw hsz);have HR := ħ ihr;have HS := ħ hsz;have hkd := ÃO hw.shape;obtain ⟨k, hk⟩ : ∃ k, k = nd.kind := ⟨_, rfl⟩;rw [← hk] at hkd ⊢;have hk' := hk.symm;have HB0 := ħ (Blk.new w 27 #[.int .i64 k, .int .i64 nd.lo, .int .i64 nd.hi, .int .i64 nd.mode, .int .i64 nd.ref, .slice A1 nd.set.length p1, .slice A2 nd.kids.length p2]);have hb0 := Ĳ w #[.int .i64 k, .int .i64 nd.lo, .int .i64 nd.hi, .int .i64 nd.mode, .int .i64 nd.ref, .slice A1 nd.set.length p1, .slice A2 nd.kids.length p2];have HN := ħ (hN.on_ hb0);have HV := ħ (hkv.on hb0);have hr1 := Âu hw.kids;unfold far at hr1;obtain ⟨r1, r2⟩ := hr1;clear hkv hN ihr hw hsz hk
 have hkd' : (k = 1 ∨ k = 6 ∨ k = 9) ∨ k = 0 ∨ k = 2 ∨ k = 3 ∨ (k = 5 ∨ k = 7 ∨ k = 8) ∨ k = 4 := by omega
 clear hkd
 rcases hkd' with h | rfl | rfl | rfl | h | rfl
 ·rcases h with rfl | rfl | rfl
  ·have e := ÁP (nd := nd) (by omega)
   rw [e];have HK' := ħ hk';clear e hk';go_enter Tryz.func13, Tryz.ntmps13
   go_upto_region 1 with (fail)
   have h7 := HB0.o.c7;generalize w.alloc (.cells #[.int .i64 1, .int .i64 nd.lo, .int .i64 nd.hi, .int .i64 nd.mode, .int .i64 nd.ref, .slice A1 nd.set.length p1, .slice A2 nd.kids.length p2] 27) = W at *;go_wp2;go_ret;exact ⟨rfl, hb0⟩
  ·have e := ÁP (nd := nd) (by omega)
   rw [e];have HK' := ħ hk';clear e hk';go_enter Tryz.func13, Tryz.ntmps13
   go_upto_region 1 with (fail)
   have h7 := HB0.o.c7;generalize w.alloc (.cells #[.int .i64 6, .int .i64 nd.lo, .int .i64 nd.hi, .int .i64 nd.mode, .int .i64 nd.ref, .slice A1 nd.set.length p1, .slice A2 nd.kids.length p2] 27) = W at *;go_wp2;go_ret;exact ⟨rfl, hb0⟩
  ·have e := ÁP (nd := nd) (by omega)
   rw [e];have HK' := ħ hk';clear e hk';go_enter Tryz.func13, Tryz.ntmps13
   go_upto_region 1 with (fail)
   have h7 := HB0.o.c7;generalize w.alloc (.cells #[.int .i64 9, .int .i64 nd.lo, .int .i64 nd.hi, .int .i64 nd.mode, .int .i64 nd.ref, .slice A1 nd.set.length p1, .slice A2 nd.kids.length p2] 27) = W at *;go_wp2;go_ret;exact ⟨rfl, hb0⟩
 ·have e := Äs (nd := nd) (by omega) (by omega) (by omega) (by omega) (by omega) (by omega) (by omega) (by omega) (by omega)
  rw [e];have HK' := ħ hk';clear e hk';go_enter Tryz.func13, Tryz.ntmps13
  go_upto_region 1 with (fail)
  have h7 := HB0.o.c7;generalize w.alloc (.cells #[.int .i64 0, .int .i64 nd.lo, .int .i64 nd.hi, .int .i64 nd.mode, .int .i64 nd.ref, .slice A1 nd.set.length p1, .slice A2 nd.kids.length p2] 27) = W at *;go_wp2;go_ret;exact ⟨rfl, hb0⟩
 ·have e := Éh hk'
  rw [e];have HK' := ħ hk';clear e hk'
  have HRow := ħ (fun W (hW : Ài W nd.kids A2 b off) => HR.o nd.kids HO.o hm W A2 p2 b off hW)
  generalize Ķ nd.kids = c at *;go_enter Tryz.func13, Tryz.ntmps13
  go_upto_region 1 with (fail)
  have h7 := HB0.o.c7;generalize w.alloc (.cells #[.int .i64 2, .int .i64 nd.lo, .int .i64 nd.hi, .int .i64 nd.mode, .int .i64 nd.ref, .slice A1 nd.set.length p1, .slice A2 nd.kids.length p2] 27) = W at *
  go_wp2_with fail
  refine (HRow.o W HV.o).mono ?_;rintro e w1 ⟨rfl, hb1⟩;have hbw := hb0.trans (hb1.mono hb0.size);go_wp2;go_ret;exact ⟨rfl, hbw⟩
 ·have e := Çi HW.o hk'
  rw [e];have HK' := ħ hk';clear e hk'
  have HRow := ħ (fun W (hW : Ài W nd.kids A2 b off) => HR.o nd.kids HO.o hm W A2 p2 b off hW)
  generalize Ķ nd.kids = c at *;go_enter Tryz.func13, Tryz.ntmps13
  go_upto_region 1 with (fail)
  have h7 := HB0.o.c7;generalize w.alloc (.cells #[.int .i64 3, .int .i64 nd.lo, .int .i64 nd.hi, .int .i64 nd.mode, .int .i64 nd.ref, .slice A1 nd.set.length p1, .slice A2 nd.kids.length p2] 27) = W at *
  have hl2 : 1 ≤ (nd.kids.length : Int) := by
   have hs := HW.o.shape;rw [HK'.o] at hs;unfold Ü at hs;omega
  have hmi : (nd.kids.length : Int) ≤ 1000000 := by omega
  go_upto_region 9 with (fail)
  refine wp_region_held_drew (S := fun V => Blk V w.heap.size 27 #[.int .i64 3, .int .i64 nd.lo, .int .i64 nd.hi, .int .i64 nd.mode, .int .i64 nd.ref, .slice A1 nd.set.length p1, .slice A2 nd.kids.length p2]) (by kernel_rfl) HB0.o (fun hHeld => ?_)
  have hd : Blk W.drew w.heap.size 27 #[.int .i64 3, .int .i64 nd.lo, .int .i64 nd.hi, .int .i64 nd.mode, .int .i64 nd.ref, .slice A1 nd.set.length p1, .slice A2 nd.kids.length p2] := HB0.o;have hbd : Below w.heap.size w W.drew := hb0.drew
  have HVd := ħ (show Ài W.drew nd.kids A2 b off from HV.o.on (ÁC W 1))
  clear h7;generalize W.drew = Wd at *
  refine ŧ 0 16 (.pointer (some ⟨w.heap.size, 6, none⟩)) _ rfl rfl hHeld (fun w' hSw => ?_) ?_
  ·go_simp
  simp only [ł, ø, đ]
  refine ŧ 1 17 (.slice A2 nd.kids.length p2) _ rfl rfl hHeld (fun w' hSw => ?_) ?_
  ·have hS7 := hSw.c7
   clear hSw;go_simp
  simp only [ł, ø, đ]
  refine ŧ 3 19 (.pointer (some ⟨w.heap.size, 6, none⟩)) _ rfl rfl hHeld (fun w' hSw => ?_) ?_
  ·go_simp
  simp only [ł, ø, đ]
  refine ŧ 4 20 (.slice A2 nd.kids.length p2) _ rfl rfl hHeld (fun w' hSw => ?_) ?_
  ·have hS7 := hSw.c7
   clear hSw;go_simp
  simp only [ł, ø, đ]
  refine ŧ 5 21 (.int .i64 nd.kids.length) _ rfl rfl hHeld (fun w' hSw => ?_) ?_
  ·go_simp
  simp only [ł, ø, đ]
  refine ŧ 6 22 (.int .i64 ((nd.kids.length : Int) - 1)) _ rfl rfl hHeld (fun w' hSw => ?_) ?_
  ·go_simp
   exact IntWalk.i64_in _ (by omega)
  simp only [ł, ø, đ]
  refine ŧ 7 23 (.int .i64 (2 * ((nd.kids.length : Int) - 1))) _ rfl rfl hHeld (fun w' hSw => ?_) ?_
  ·go_simp
   exact IntWalk.i64_in _ (by omega)
  simp only [ł, ø, đ]
  refine ŝ 2 (fun K hK => ?_)
  go_simp;refine (HRow.o Wd HVd.o).mono ?_;rintro e w1 ⟨rfl, hb1⟩;have hbw := hbd.trans (hb1.mono hbd.size)
  refine hK.o _ _ (hd.on hb1) (fun hHeld => ?_)
  clear hK K
  refine ŧ 8 24 (.int .i64 (c + 2 * ((nd.kids.length : Int) - 1))) _ rfl rfl hHeld (fun w' hSw => ?_) ?_
  ·go_simp
   exact IntWalk.i64_in _ (by omega)
  simp only [ł, ø, đ]
  refine ŝ 9 (fun K hK => ?_)
  go_simp;refine (ň (c + 2 * ((nd.kids.length : Int) - 1))).mono ?_;rintro e w2 ⟨rfl, rfl⟩
  refine hK.o _ _ (hd.on hb1) (fun hHeld => ?_)
  clear hK K
  refine ŧ 10 2 (.int .i64 (Ï (c + 2 * ((nd.kids.length : Int) - 1)))) _ rfl rfl hHeld (fun w' hSw => ?_) ?_
  ·go_simp
  simp only [ł, ø, đ]
  refine wpAnyH_done (by kernel_rfl) ?_ _
  clear hHeld;go_wp2;go_ret;exact ⟨rfl, hbw⟩
 ·rcases h with rfl | rfl | rfl
  ·have e := Áe (nd := nd) HW.o (by omega)
   rw [e];have HK' := ħ hk';clear e hk'
   have HRow := ħ (fun W (hW : Ài W nd.kids A2 b off) => HR.o nd.kids HO.o hm W A2 p2 b off hW)
   generalize Ķ nd.kids = c at *;go_enter Tryz.func13, Tryz.ntmps13
   go_upto_region 1 with (fail)
   have h7 := HB0.o.c7;generalize w.alloc (.cells #[.int .i64 5, .int .i64 nd.lo, .int .i64 nd.hi, .int .i64 nd.mode, .int .i64 nd.ref, .slice A1 nd.set.length p1, .slice A2 nd.kids.length p2] 27) = W at *
   go_wp2_with fail
   refine (HRow.o W HV.o).mono ?_;rintro e w1 ⟨rfl, hb1⟩;have hbw := hb0.trans (hb1.mono hb0.size)
   go_wp2_with fail
   refine (ň (c + 2)).mono ?_;rintro e w2 ⟨rfl, rfl⟩;go_wp2;go_ret;exact ⟨rfl, hbw⟩
  ·have e := Áe (nd := nd) HW.o (by omega)
   rw [e];have HK' := ħ hk';clear e hk'
   have HRow := ħ (fun W (hW : Ài W nd.kids A2 b off) => HR.o nd.kids HO.o hm W A2 p2 b off hW)
   generalize Ķ nd.kids = c at *;go_enter Tryz.func13, Tryz.ntmps13
   go_upto_region 1 with (fail)
   have h7 := HB0.o.c7;generalize w.alloc (.cells #[.int .i64 7, .int .i64 nd.lo, .int .i64 nd.hi, .int .i64 nd.mode, .int .i64 nd.ref, .slice A1 nd.set.length p1, .slice A2 nd.kids.length p2] 27) = W at *
   go_wp2_with fail
   refine (HRow.o W HV.o).mono ?_;rintro e w1 ⟨rfl, hb1⟩;have hbw := hb0.trans (hb1.mono hb0.size)
   go_wp2_with fail
   refine (ň (c + 2)).mono ?_;rintro e w2 ⟨rfl, rfl⟩;go_wp2;go_ret;exact ⟨rfl, hbw⟩
  ·have e := Áe (nd := nd) HW.o (by omega)
   rw [e];have HK' := ħ hk';clear e hk'
   have HRow := ħ (fun W (hW : Ài W nd.kids A2 b off) => HR.o nd.kids HO.o hm W A2 p2 b off hW)
   generalize Ķ nd.kids = c at *;go_enter Tryz.func13, Tryz.ntmps13
   go_upto_region 1 with (fail)
   have h7 := HB0.o.c7;generalize w.alloc (.cells #[.int .i64 8, .int .i64 nd.lo, .int .i64 nd.hi, .int .i64 nd.mode, .int .i64 nd.ref, .slice A1 nd.set.length p1, .slice A2 nd.kids.length p2] 27) = W at *
   go_wp2_with fail
   refine (HRow.o W HV.o).mono ?_;rintro e w1 ⟨rfl, hb1⟩;have hbw := hb0.trans (hb1.mono hb0.size)
   go_wp2_with fail
   refine (ň (c + 2)).mono ?_;rintro e w2 ⟨rfl, rfl⟩;go_wp2;go_ret;exact ⟨rfl, hbw⟩
 ·have e : Å nd = Ï (ÂE nd.lo nd.hi nd.mode (Ķ nd.kids)) := (ÅS HW.o hk').1
  rw [e];have HK' := ħ hk'
  have HRep := ħ (fun W (hW : Ê (fun b => b < W.heap.size) W nd (.slice A1 nd.set.length p1) (.slice A2 nd.kids.length p2)) => Æg n HR.o nd HS.o HW.o HK'.o W A1 A2 p1 p2 hW)
  clear e hk';generalize ÂE nd.lo nd.hi nd.mode (Ķ nd.kids) = z at *;go_enter Tryz.func13, Tryz.ntmps13
  go_upto_region 1 with (fail)
  have h7 := HB0.o.c7;generalize w.alloc (.cells #[.int .i64 4, .int .i64 nd.lo, .int .i64 nd.hi, .int .i64 nd.mode, .int .i64 nd.ref, .slice A1 nd.set.length p1, .slice A2 nd.kids.length p2] 27) = W at *
  go_wp2_with fail
  refine (HRep.o W HN.o).mono ?_;rintro e w1 ⟨rfl, hb1⟩;have hbw := hb0.trans (hb1.mono hb0.size)
  go_wp2_with fail
  refine (ň z).mono ?_;rintro e w2 ⟨rfl, rfl⟩;go_wp2;go_ret;exact ⟨rfl, hbw⟩
theorem ÌP (n : Nat) : Ìa n ∧ Ìb n := by
 induction n with
 | zero =>
  have h : Ìa 0 := by
   intro nd h
   cases nd with
   | mk a b c d e f g => simp only [Nd.mk.sizeOf_spec] at h; omega
  exact ⟨h, ÃT 0 h⟩
 | succ n ih =>
  have h := ÌO n ih.2;exact ⟨h, ÃT _ h⟩
theorem Îq (nd : Nd) (hw : Wf nd) (w : World) (A1 A2 : Option Addr) (p1 p2 : Nat) (h : Ê (fun b => b < w.heap.size) w nd (.slice A1 nd.set.length p1) (.slice A2 nd.kids.length p2)) :
 Calls Tryz.prog 13 #[.agg #[.int .i64 nd.kind, .int .i64 nd.lo, .int .i64 nd.hi, .int .i64 nd.mode, .int .i64 nd.ref, .slice A1 nd.set.length p1, .slice A2 nd.kids.length p2]] w fun e w' => e = .returned (.int .i64 (Å nd)) ∧ Below w.heap.size w w' :=
 (ÌP _).1 nd (ŋ _) hw w A1 A2 p1 p2 h
end
section
open Go.RowKit
open Go.Proofs.YtpginkdkblmnbaaGreatDoor.Cl (Rg à Ý Ä)
variable {w w' : World}
def ÊO (n : Nat) : Prop := ∀ (nd : Nd), SizeOf.sizeOf nd ≤ n → Wf nd → ∀ (w : World) (A1 A2 : Option Addr) (p1 p2 : Nat), Ê (fun b => b < w.heap.size) w nd (.slice A1 nd.set.length p1) (.slice A2 nd.kids.length p2) →
 Calls Tryz.prog 42 #[.agg #[.int .i64 nd.kind, .int .i64 nd.lo, .int .i64 nd.hi, .int .i64 nd.mode, .int .i64 nd.ref, .slice A1 nd.set.length p1, .slice A2 nd.kids.length p2]] w fun e w' => e = .returned (.bool (!Ë nd)) ∧ Below w.heap.size w w'
theorem Îr {k m : Int} {l : List Int} (h : ¬ (k = 7 ∧ 2 ≤ m)) : Ál k m l = true := by simp [Ál, h]
theorem ÊP {nd : Nd} (hw : Wf nd) (hk : nd.kind = 7) (hm : 2 ≤ nd.mode) : Ál nd.kind nd.mode (nd.kids.map å) = !(decide (ê nd.kids = -1 ∨ 32 < ê nd.kids)) := by
 have hs := hw.shape
 have hl : nd.kids.length = 1 := by unfold Ü at hs; omega
 obtain ⟨x, hx⟩ := Ào hl
 have hwx : Wf x := hw.kids x (by rw [hx]; simp)
 have := ĳ hwx;rw [hx, Ád hwx];simp only [Ál, hk, hm, hd, List.map_cons, List.map_nil, List.headD_cons, and_self, decide_true, Bool.true_and]
 congr 1
 rw [decide_eq_decide];omega
theorem ÄR (nd : Nd) (b : Bool) (h : Ál nd.kind nd.mode (nd.kids.map å) = b) : Ë nd = (b && nd.kids.all Ë) := by rw [ÅO, h]
set_option maxRecDepth 100000 in
set_option maxHeartbeats 2000000 in
theorem ÊQ (n : Nat) (ih : ÊO n) : ÊO (n + 1) := by
 intro nd hsz hw w A1 A2 p1 p2 hN;obtain ⟨b, off, hkv, hm⟩ := hN.kidsV;have HO := ħ (ÀX hw hsz);have HIH := ħ ih;have hs := hw.shape
 have hmm : nd.kind = 7 → 0 ≤ nd.mode ∧ nd.mode ≤ 3 := by unfold Ü at hs; omega
 have HK := ħ hkv;clear hkv hN ih hsz
 by_cases hk : nd.kind = 7 ∧ 2 ≤ nd.mode
 ·have hm4 := hmm hk.1
  have HBdd := ħ (ÄR nd _ (ÊP hw hk.1 hk.2));have hr2 := Âv (l := nd.kids);unfold far at hr2;obtain ⟨r3, r4⟩ := hr2
  have HRow := ħ (fun W (hW : Ài W nd.kids A2 b off) => ÃP nd.kids hw.kids hm W A2 p2 b off hW)
  generalize ê nd.kids = hs at *;generalize û nd.kids = ls at *
  have hmode : nd.mode = 2 ∨ nd.mode = 3 := by omega
  obtain ⟨m, hm1⟩ : ∃ m, m = nd.mode := ⟨_, rfl⟩;rw [hk.1, ← hm1];rw [← hm1] at hmode;clear hm1 hk hm4 hmm
  rcases hmode with rfl | rfl
  ·have HB0 := ħ (Blk.new w 27 #[.int .i64 7, .int .i64 nd.lo, .int .i64 nd.hi, .int .i64 2, .int .i64 nd.ref, .slice A1 nd.set.length p1, .slice A2 nd.kids.length p2])
   have hb0 := Ĳ w #[.int .i64 7, .int .i64 nd.lo, .int .i64 nd.hi, .int .i64 2, .int .i64 nd.ref, .slice A1 nd.set.length p1, .slice A2 nd.kids.length p2]
   by_cases hfar : hs = -1 ∨ 32 < hs
   ·have HBd : Hid (Ë nd = false) := ħ (by rw [HBdd.o, decide_eq_true hfar]; rfl)
    rw [HBd.o];clear HBdd
    by_cases h1 : hs = -1
    ·subst h1
     go_enter Tryz.func42, Tryz.ntmps42
     go_upto_region 1 with (fail)
     have h7 := HB0.o.c7;have HV := ħ (HK.o.on hb0);generalize w.alloc (.cells #[.int .i64 7, .int .i64 nd.lo, .int .i64 nd.hi, .int .i64 2, .int .i64 nd.ref, .slice A1 nd.set.length p1, .slice A2 nd.kids.length p2] 27) = W at *
     go_wp2_with fail
     refine (HRow.o W HV.o).mono ?_;rintro e w1 ⟨rfl, hb1⟩;have hbw := hb0.trans (hb1.mono hb0.size);go_wp2;go_ret;exact ⟨rfl, hbw⟩
    ·have h1' : (hs == -1) = false := by simp [h1]
     have h2 : 32 < hs := by omega
     go_enter Tryz.func42, Tryz.ntmps42
     go_upto_region 1 with (fail)
     have h7 := HB0.o.c7;have HV := ħ (HK.o.on hb0);generalize w.alloc (.cells #[.int .i64 7, .int .i64 nd.lo, .int .i64 nd.hi, .int .i64 2, .int .i64 nd.ref, .slice A1 nd.set.length p1, .slice A2 nd.kids.length p2] 27) = W at *
     go_wp2_with fail
     refine (HRow.o W HV.o).mono ?_;rintro e w1 ⟨rfl, hb1⟩;have hbw := hb0.trans (hb1.mono hb0.size);go_wp2;go_ret;exact ⟨rfl, hbw⟩
   ·have HBd : Hid (Ë nd = nd.kids.all Ë) := ħ (by rw [HBdd.o, decide_eq_false hfar]; rfl)
    clear HBdd
    have h1' : (hs == -1) = false := by simp; omega
    have h2 : ¬ 32 < hs := by omega
    obtain ⟨rb, hrb⟩ : ∃ rb, rb = Ë nd := ⟨_, rfl⟩;go_enter Tryz.func42, Tryz.ntmps42
    go_upto_region 1 with (fail)
    have h7 := HB0.o.c7;have HV := ħ (HK.o.on hb0);generalize w.alloc (.cells #[.int .i64 7, .int .i64 nd.lo, .int .i64 nd.hi, .int .i64 2, .int .i64 nd.ref, .slice A1 nd.set.length p1, .slice A2 nd.kids.length p2] 27) = W at *
    go_wp2_with fail
    refine (HRow.o W HV.o).mono ?_;rintro e w1 ⟨rfl, hb1⟩;have hbw := hb0.trans (hb1.mono hb0.size);have h77 := (HB0.o.on hb1).c7;clear h7;go_wp2
    go_loopw [35] (fun i wr => ∃ k : Nat, k ≤ nd.kids.length ∧ i = .int .i64 k ∧ Hid ((nd.kids.take k).all Ë = true) ∧ Below w.heap.size w wr) (fun i _ => nd.kids.length - (intOf i).toNat)
    case atStart => exact ⟨0, Ą _, rfl, ħ rfl, hbw⟩
    case round =>
     clear h77;obtain ⟨j, hj, rfl, HE, hbel⟩ := hrel;have hsz := hbel.size
     by_cases hlt : j < nd.kids.length
     ·have hlti : (j : Int) < nd.kids.length := by omega
      obtain ⟨hA, hb, a1, a2, r1, r2, hN, hC⟩ := HK.o j _ (Ā hlt);subst hA;have HX := ħ (HO.o _ (Ē hlt));have HT := ħ (Š hlt);have HM := ħ (Ē hlt);generalize nd.kids[j] = x at hN hC HX HT HM;have h7 := (hC.on (hbel.block b hb)).seven_;have HN := ħ ((hN.on_ hbel).on_ (Ĳ wr #[.int .i64 x.kind, .int .i64 x.lo, .int .i64 x.hi, .int .i64 x.mode, .int .i64 x.ref, .slice a1 x.set.length r1, .slice a2 x.kids.length r2]));have HB := ħ (Blk.new wr 27 #[.int .i64 x.kind, .int .i64 x.lo, .int .i64 x.hi, .int .i64 x.mode, .int .i64 x.ref, .slice a1 x.set.length r1, .slice a2 x.kids.length r2]);have hb6 := hbel.alloc hsz (.cells #[.int .i64 x.kind, .int .i64 x.lo, .int .i64 x.hi, .int .i64 x.mode, .int .i64 x.ref, .slice a1 x.set.length r1, .slice a2 x.kids.length r2] 27);clear hN hC
      go_upto_region 8 with (fail)
      have h77 := HB.o.c7;generalize wr.alloc (.cells #[.int .i64 x.kind, .int .i64 x.lo, .int .i64 x.hi, .int .i64 x.mode, .int .i64 x.ref, .slice a1 x.set.length r1, .slice a2 x.kids.length r2] 27) = W at *;have HI := ħ (HIH.o x HX.o.2 HX.o.1 W a1 a2 r1 r2 HN.o);obtain ⟨bx, hbx⟩ : ∃ bx, bx = Ë x := ⟨_, rfl⟩;rw [← hbx] at HI;have HBX := ħ hbx;clear hbx
      cases bx with
      | true =>
       go_wp2_with fail
       refine HI.o.mono ?_;rintro e w1 ⟨rfl, hb1⟩;have hbw := hb6.trans (hb1.mono hb6.size);clear HN HB h77 HI;go_wp2;go_roundw
       case rel =>
        refine ⟨j + 1, by omega, by go_num, ħ ?_, hbw⟩
        rw [HT.o, List.all_append, HE.o];simp [← HBX.o]
       case measure => simp [intOf]; omega
      | false =>
       go_wp2_with fail
       refine HI.o.mono ?_;rintro e w1 ⟨rfl, hb1⟩;have hbw := hb6.trans (hb1.mono hb6.size);clear HN HB h77 HI;go_wp2;go_ret;refine ⟨?_, hbw⟩
       have : nd.kids.all Ë = false := by
        rw [List.all_eq_false]
        exact ⟨x, HM.o, by rw [← HBX.o]; simp⟩
       rw [HBd.o, this];simp
     ·obtain rfl : j = nd.kids.length := by omega
      go_wp2;go_ret;refine ⟨?_, hbel⟩;have := HE.o;rw [Ă] at this;rw [HBd.o, this];simp
  ·have HB0 := ħ (Blk.new w 27 #[.int .i64 7, .int .i64 nd.lo, .int .i64 nd.hi, .int .i64 3, .int .i64 nd.ref, .slice A1 nd.set.length p1, .slice A2 nd.kids.length p2])
   have hb0 := Ĳ w #[.int .i64 7, .int .i64 nd.lo, .int .i64 nd.hi, .int .i64 3, .int .i64 nd.ref, .slice A1 nd.set.length p1, .slice A2 nd.kids.length p2]
   by_cases hfar : hs = -1 ∨ 32 < hs
   ·have HBd : Hid (Ë nd = false) := ħ (by rw [HBdd.o, decide_eq_true hfar]; rfl)
    rw [HBd.o];clear HBdd
    by_cases h1 : hs = -1
    ·subst h1
     go_enter Tryz.func42, Tryz.ntmps42
     go_upto_region 1 with (fail)
     have h7 := HB0.o.c7;have HV := ħ (HK.o.on hb0);generalize w.alloc (.cells #[.int .i64 7, .int .i64 nd.lo, .int .i64 nd.hi, .int .i64 3, .int .i64 nd.ref, .slice A1 nd.set.length p1, .slice A2 nd.kids.length p2] 27) = W at *
     go_wp2_with fail
     refine (HRow.o W HV.o).mono ?_;rintro e w1 ⟨rfl, hb1⟩;have hbw := hb0.trans (hb1.mono hb0.size);go_wp2;go_ret;exact ⟨rfl, hbw⟩
    ·have h1' : (hs == -1) = false := by simp [h1]
     have h2 : 32 < hs := by omega
     go_enter Tryz.func42, Tryz.ntmps42
     go_upto_region 1 with (fail)
     have h7 := HB0.o.c7;have HV := ħ (HK.o.on hb0);generalize w.alloc (.cells #[.int .i64 7, .int .i64 nd.lo, .int .i64 nd.hi, .int .i64 3, .int .i64 nd.ref, .slice A1 nd.set.length p1, .slice A2 nd.kids.length p2] 27) = W at *
     go_wp2_with fail
     refine (HRow.o W HV.o).mono ?_;rintro e w1 ⟨rfl, hb1⟩;have hbw := hb0.trans (hb1.mono hb0.size);go_wp2;go_ret;exact ⟨rfl, hbw⟩
   ·have HBd : Hid (Ë nd = nd.kids.all Ë) := ħ (by rw [HBdd.o, decide_eq_false hfar]; rfl)
    clear HBdd
    have h1' : (hs == -1) = false := by simp; omega
    have h2 : ¬ 32 < hs := by omega
    obtain ⟨rb, hrb⟩ : ∃ rb, rb = Ë nd := ⟨_, rfl⟩;go_enter Tryz.func42, Tryz.ntmps42
    go_upto_region 1 with (fail)
    have h7 := HB0.o.c7;have HV := ħ (HK.o.on hb0);generalize w.alloc (.cells #[.int .i64 7, .int .i64 nd.lo, .int .i64 nd.hi, .int .i64 3, .int .i64 nd.ref, .slice A1 nd.set.length p1, .slice A2 nd.kids.length p2] 27) = W at *
    go_wp2_with fail
    refine (HRow.o W HV.o).mono ?_;rintro e w1 ⟨rfl, hb1⟩;have hbw := hb0.trans (hb1.mono hb0.size);have h77 := (HB0.o.on hb1).c7;clear h7;go_wp2
    go_loopw [35] (fun i wr => ∃ k : Nat, k ≤ nd.kids.length ∧ i = .int .i64 k ∧ Hid ((nd.kids.take k).all Ë = true) ∧ Below w.heap.size w wr) (fun i _ => nd.kids.length - (intOf i).toNat)
    case atStart => exact ⟨0, Ą _, rfl, ħ rfl, hbw⟩
    case round =>
     clear h77;obtain ⟨j, hj, rfl, HE, hbel⟩ := hrel;have hsz := hbel.size
     by_cases hlt : j < nd.kids.length
     ·have hlti : (j : Int) < nd.kids.length := by omega
      obtain ⟨hA, hb, a1, a2, r1, r2, hN, hC⟩ := HK.o j _ (Ā hlt);subst hA;have HX := ħ (HO.o _ (Ē hlt));have HT := ħ (Š hlt);have HM := ħ (Ē hlt);generalize nd.kids[j] = x at hN hC HX HT HM;have h7 := (hC.on (hbel.block b hb)).seven_;have HN := ħ ((hN.on_ hbel).on_ (Ĳ wr #[.int .i64 x.kind, .int .i64 x.lo, .int .i64 x.hi, .int .i64 x.mode, .int .i64 x.ref, .slice a1 x.set.length r1, .slice a2 x.kids.length r2]));have HB := ħ (Blk.new wr 27 #[.int .i64 x.kind, .int .i64 x.lo, .int .i64 x.hi, .int .i64 x.mode, .int .i64 x.ref, .slice a1 x.set.length r1, .slice a2 x.kids.length r2]);have hb6 := hbel.alloc hsz (.cells #[.int .i64 x.kind, .int .i64 x.lo, .int .i64 x.hi, .int .i64 x.mode, .int .i64 x.ref, .slice a1 x.set.length r1, .slice a2 x.kids.length r2] 27);clear hN hC
      go_upto_region 8 with (fail)
      have h77 := HB.o.c7;generalize wr.alloc (.cells #[.int .i64 x.kind, .int .i64 x.lo, .int .i64 x.hi, .int .i64 x.mode, .int .i64 x.ref, .slice a1 x.set.length r1, .slice a2 x.kids.length r2] 27) = W at *;have HI := ħ (HIH.o x HX.o.2 HX.o.1 W a1 a2 r1 r2 HN.o);obtain ⟨bx, hbx⟩ : ∃ bx, bx = Ë x := ⟨_, rfl⟩;rw [← hbx] at HI;have HBX := ħ hbx;clear hbx
      cases bx with
      | true =>
       go_wp2_with fail
       refine HI.o.mono ?_;rintro e w1 ⟨rfl, hb1⟩;have hbw := hb6.trans (hb1.mono hb6.size);clear HN HB h77 HI;go_wp2;go_roundw
       case rel =>
        refine ⟨j + 1, by omega, by go_num, ħ ?_, hbw⟩
        rw [HT.o, List.all_append, HE.o];simp [← HBX.o]
       case measure => simp [intOf]; omega
      | false =>
       go_wp2_with fail
       refine HI.o.mono ?_;rintro e w1 ⟨rfl, hb1⟩;have hbw := hb6.trans (hb1.mono hb6.size);clear HN HB h77 HI;go_wp2;go_ret;refine ⟨?_, hbw⟩
       have : nd.kids.all Ë = false := by
        rw [List.all_eq_false]
        exact ⟨x, HM.o, by rw [← HBX.o]; simp⟩
       rw [HBd.o, this];simp
     ·obtain rfl : j = nd.kids.length := by omega
      go_wp2;go_ret;refine ⟨?_, hbel⟩;have := HE.o;rw [Ă] at this;rw [HBd.o, this];simp
 ·have HBd : Hid (Ë nd = nd.kids.all Ë) := ħ (by rw [ÄR nd true (Îr hk)]; rfl)
  by_cases hk7 : nd.kind = 7
  ·have hmode : nd.mode = 0 ∨ nd.mode = 1 := by have := hmm hk7; omega
   obtain ⟨m, hm1⟩ : ∃ m, m = nd.mode := ⟨_, rfl⟩;rw [hk7, ← hm1];rw [← hm1] at hmode;clear hm1 hmm hk
   rcases hmode with rfl | rfl
   ·have HB0 := ħ (Blk.new w 27 #[.int .i64 7, .int .i64 nd.lo, .int .i64 nd.hi, .int .i64 0, .int .i64 nd.ref, .slice A1 nd.set.length p1, .slice A2 nd.kids.length p2])
    have hb0 := Ĳ w #[.int .i64 7, .int .i64 nd.lo, .int .i64 nd.hi, .int .i64 0, .int .i64 nd.ref, .slice A1 nd.set.length p1, .slice A2 nd.kids.length p2];go_enter Tryz.func42, Tryz.ntmps42
    go_upto_region 1 with (fail)
    have h7 := HB0.o.c7;generalize w.alloc (.cells #[.int .i64 7, .int .i64 nd.lo, .int .i64 nd.hi, .int .i64 0, .int .i64 nd.ref, .slice A1 nd.set.length p1, .slice A2 nd.kids.length p2] 27) = W at *;go_wp2
    go_loopw [35] (fun i wr => ∃ k : Nat, k ≤ nd.kids.length ∧ i = .int .i64 k ∧ Hid ((nd.kids.take k).all Ë = true) ∧ Below w.heap.size w wr) (fun i _ => nd.kids.length - (intOf i).toNat)
    case atStart => exact ⟨0, Ą _, rfl, ħ rfl, hb0⟩
    case round =>
     clear h7;obtain ⟨j, hj, rfl, HE, hbel⟩ := hrel;have hsz := hbel.size
     by_cases hlt : j < nd.kids.length
     ·have hlti : (j : Int) < nd.kids.length := by omega
      obtain ⟨hA, hb, a1, a2, r1, r2, hN, hC⟩ := HK.o j _ (Ā hlt);subst hA;have HX := ħ (HO.o _ (Ē hlt));have HT := ħ (Š hlt);have HM := ħ (Ē hlt);generalize nd.kids[j] = x at hN hC HX HT HM;have h7 := (hC.on (hbel.block b hb)).seven_;have HN := ħ ((hN.on_ hbel).on_ (Ĳ wr #[.int .i64 x.kind, .int .i64 x.lo, .int .i64 x.hi, .int .i64 x.mode, .int .i64 x.ref, .slice a1 x.set.length r1, .slice a2 x.kids.length r2]));have HB := ħ (Blk.new wr 27 #[.int .i64 x.kind, .int .i64 x.lo, .int .i64 x.hi, .int .i64 x.mode, .int .i64 x.ref, .slice a1 x.set.length r1, .slice a2 x.kids.length r2]);have hb6 := hbel.alloc hsz (.cells #[.int .i64 x.kind, .int .i64 x.lo, .int .i64 x.hi, .int .i64 x.mode, .int .i64 x.ref, .slice a1 x.set.length r1, .slice a2 x.kids.length r2] 27);clear hN hC
      go_upto_region 8 with (fail)
      have h77 := HB.o.c7;generalize wr.alloc (.cells #[.int .i64 x.kind, .int .i64 x.lo, .int .i64 x.hi, .int .i64 x.mode, .int .i64 x.ref, .slice a1 x.set.length r1, .slice a2 x.kids.length r2] 27) = W at *;have HI := ħ (HIH.o x HX.o.2 HX.o.1 W a1 a2 r1 r2 HN.o);obtain ⟨bx, hbx⟩ : ∃ bx, bx = Ë x := ⟨_, rfl⟩;rw [← hbx] at HI;have HBX := ħ hbx;clear hbx
      cases bx with
      | true =>
       go_wp2_with fail
       refine HI.o.mono ?_;rintro e w1 ⟨rfl, hb1⟩;have hbw := hb6.trans (hb1.mono hb6.size);clear HN HB h77 HI;go_wp2;go_roundw
       case rel =>
        refine ⟨j + 1, by omega, by go_num, ħ ?_, hbw⟩
        rw [HT.o, List.all_append, HE.o];simp [← HBX.o]
       case measure => simp [intOf]; omega
      | false =>
       go_wp2_with fail
       refine HI.o.mono ?_;rintro e w1 ⟨rfl, hb1⟩;have hbw := hb6.trans (hb1.mono hb6.size);clear HN HB h77 HI;go_wp2;go_ret;refine ⟨?_, hbw⟩
       have : nd.kids.all Ë = false := by
        rw [List.all_eq_false]
        exact ⟨x, HM.o, by rw [← HBX.o]; simp⟩
       rw [HBd.o, this];simp
     ·obtain rfl : j = nd.kids.length := by omega
      go_wp2;go_ret;refine ⟨?_, hbel⟩;have := HE.o;rw [Ă] at this;rw [HBd.o, this];simp
   ·have HB0 := ħ (Blk.new w 27 #[.int .i64 7, .int .i64 nd.lo, .int .i64 nd.hi, .int .i64 1, .int .i64 nd.ref, .slice A1 nd.set.length p1, .slice A2 nd.kids.length p2])
    have hb0 := Ĳ w #[.int .i64 7, .int .i64 nd.lo, .int .i64 nd.hi, .int .i64 1, .int .i64 nd.ref, .slice A1 nd.set.length p1, .slice A2 nd.kids.length p2];go_enter Tryz.func42, Tryz.ntmps42
    go_upto_region 1 with (fail)
    have h7 := HB0.o.c7;generalize w.alloc (.cells #[.int .i64 7, .int .i64 nd.lo, .int .i64 nd.hi, .int .i64 1, .int .i64 nd.ref, .slice A1 nd.set.length p1, .slice A2 nd.kids.length p2] 27) = W at *;go_wp2
    go_loopw [35] (fun i wr => ∃ k : Nat, k ≤ nd.kids.length ∧ i = .int .i64 k ∧ Hid ((nd.kids.take k).all Ë = true) ∧ Below w.heap.size w wr) (fun i _ => nd.kids.length - (intOf i).toNat)
    case atStart => exact ⟨0, Ą _, rfl, ħ rfl, hb0⟩
    case round =>
     clear h7;obtain ⟨j, hj, rfl, HE, hbel⟩ := hrel;have hsz := hbel.size
     by_cases hlt : j < nd.kids.length
     ·have hlti : (j : Int) < nd.kids.length := by omega
      obtain ⟨hA, hb, a1, a2, r1, r2, hN, hC⟩ := HK.o j _ (Ā hlt);subst hA;have HX := ħ (HO.o _ (Ē hlt));have HT := ħ (Š hlt);have HM := ħ (Ē hlt);generalize nd.kids[j] = x at hN hC HX HT HM;have h7 := (hC.on (hbel.block b hb)).seven_;have HN := ħ ((hN.on_ hbel).on_ (Ĳ wr #[.int .i64 x.kind, .int .i64 x.lo, .int .i64 x.hi, .int .i64 x.mode, .int .i64 x.ref, .slice a1 x.set.length r1, .slice a2 x.kids.length r2]));have HB := ħ (Blk.new wr 27 #[.int .i64 x.kind, .int .i64 x.lo, .int .i64 x.hi, .int .i64 x.mode, .int .i64 x.ref, .slice a1 x.set.length r1, .slice a2 x.kids.length r2]);have hb6 := hbel.alloc hsz (.cells #[.int .i64 x.kind, .int .i64 x.lo, .int .i64 x.hi, .int .i64 x.mode, .int .i64 x.ref, .slice a1 x.set.length r1, .slice a2 x.kids.length r2] 27);clear hN hC
      go_upto_region 8 with (fail)
      have h77 := HB.o.c7;generalize wr.alloc (.cells #[.int .i64 x.kind, .int .i64 x.lo, .int .i64 x.hi, .int .i64 x.mode, .int .i64 x.ref, .slice a1 x.set.length r1, .slice a2 x.kids.length r2] 27) = W at *;have HI := ħ (HIH.o x HX.o.2 HX.o.1 W a1 a2 r1 r2 HN.o);obtain ⟨bx, hbx⟩ : ∃ bx, bx = Ë x := ⟨_, rfl⟩;rw [← hbx] at HI;have HBX := ħ hbx;clear hbx
      cases bx with
      | true =>
       go_wp2_with fail
       refine HI.o.mono ?_;rintro e w1 ⟨rfl, hb1⟩;have hbw := hb6.trans (hb1.mono hb6.size);clear HN HB h77 HI;go_wp2;go_roundw
       case rel =>
        refine ⟨j + 1, by omega, by go_num, ħ ?_, hbw⟩
        rw [HT.o, List.all_append, HE.o];simp [← HBX.o]
       case measure => simp [intOf]; omega
      | false =>
       go_wp2_with fail
       refine HI.o.mono ?_;rintro e w1 ⟨rfl, hb1⟩;have hbw := hb6.trans (hb1.mono hb6.size);clear HN HB h77 HI;go_wp2;go_ret;refine ⟨?_, hbw⟩
       have : nd.kids.all Ë = false := by
        rw [List.all_eq_false]
        exact ⟨x, HM.o, by rw [← HBX.o]; simp⟩
       rw [HBd.o, this];simp
     ·obtain rfl : j = nd.kids.length := by omega
      go_wp2;go_ret;refine ⟨?_, hbel⟩;have := HE.o;rw [Ă] at this;rw [HBd.o, this];simp
  ·have hk7' : (nd.kind == 7) = false := by simp [hk7]
   clear hmm hk hs hw;generalize nd.kind = k at *;have HB0 := ħ (Blk.new w 27 #[.int .i64 k, .int .i64 nd.lo, .int .i64 nd.hi, .int .i64 nd.mode, .int .i64 nd.ref, .slice A1 nd.set.length p1, .slice A2 nd.kids.length p2]);have hb0 := Ĳ w #[.int .i64 k, .int .i64 nd.lo, .int .i64 nd.hi, .int .i64 nd.mode, .int .i64 nd.ref, .slice A1 nd.set.length p1, .slice A2 nd.kids.length p2];go_enter Tryz.func42, Tryz.ntmps42
   go_upto_region 1 with (fail)
   have h7 := HB0.o.c7;generalize w.alloc (.cells #[.int .i64 k, .int .i64 nd.lo, .int .i64 nd.hi, .int .i64 nd.mode, .int .i64 nd.ref, .slice A1 nd.set.length p1, .slice A2 nd.kids.length p2] 27) = W at *;go_wp2
   go_loopw [35] (fun i wr => ∃ k : Nat, k ≤ nd.kids.length ∧ i = .int .i64 k ∧ Hid ((nd.kids.take k).all Ë = true) ∧ Below w.heap.size w wr) (fun i _ => nd.kids.length - (intOf i).toNat)
   case atStart => exact ⟨0, Ą _, rfl, ħ rfl, hb0⟩
   case round =>
    clear h7;obtain ⟨j, hj, rfl, HE, hbel⟩ := hrel;have hsz := hbel.size
    by_cases hlt : j < nd.kids.length
    ·have hlti : (j : Int) < nd.kids.length := by omega
     obtain ⟨hA, hb, a1, a2, r1, r2, hN, hC⟩ := HK.o j _ (Ā hlt);subst hA;have HX := ħ (HO.o _ (Ē hlt));have HT := ħ (Š hlt);have HM := ħ (Ē hlt);generalize nd.kids[j] = x at hN hC HX HT HM;have h7 := (hC.on (hbel.block b hb)).seven_;have HN := ħ ((hN.on_ hbel).on_ (Ĳ wr #[.int .i64 x.kind, .int .i64 x.lo, .int .i64 x.hi, .int .i64 x.mode, .int .i64 x.ref, .slice a1 x.set.length r1, .slice a2 x.kids.length r2]));have HB := ħ (Blk.new wr 27 #[.int .i64 x.kind, .int .i64 x.lo, .int .i64 x.hi, .int .i64 x.mode, .int .i64 x.ref, .slice a1 x.set.length r1, .slice a2 x.kids.length r2]);have hb6 := hbel.alloc hsz (.cells #[.int .i64 x.kind, .int .i64 x.lo, .int .i64 x.hi, .int .i64 x.mode, .int .i64 x.ref, .slice a1 x.set.length r1, .slice a2 x.kids.length r2] 27);clear hN hC
     go_upto_region 8 with (fail)
     have h77 := HB.o.c7;generalize wr.alloc (.cells #[.int .i64 x.kind, .int .i64 x.lo, .int .i64 x.hi, .int .i64 x.mode, .int .i64 x.ref, .slice a1 x.set.length r1, .slice a2 x.kids.length r2] 27) = W at *;have HI := ħ (HIH.o x HX.o.2 HX.o.1 W a1 a2 r1 r2 HN.o);obtain ⟨bx, hbx⟩ : ∃ bx, bx = Ë x := ⟨_, rfl⟩;rw [← hbx] at HI;have HBX := ħ hbx;clear hbx
     cases bx with
     | true =>
      go_wp2_with fail
      refine HI.o.mono ?_;rintro e w1 ⟨rfl, hb1⟩;have hbw := hb6.trans (hb1.mono hb6.size);clear HN HB h77 HI;go_wp2;go_roundw
      case rel =>
       refine ⟨j + 1, by omega, by go_num, ħ ?_, hbw⟩
       rw [HT.o, List.all_append, HE.o];simp [← HBX.o]
      case measure => simp [intOf]; omega
     | false =>
      go_wp2_with fail
      refine HI.o.mono ?_;rintro e w1 ⟨rfl, hb1⟩;have hbw := hb6.trans (hb1.mono hb6.size);clear HN HB h77 HI;go_wp2;go_ret;refine ⟨?_, hbw⟩
      have : nd.kids.all Ë = false := by
       rw [List.all_eq_false]
       exact ⟨x, HM.o, by rw [← HBX.o]; simp⟩
      rw [HBd.o, this];simp
    ·obtain rfl : j = nd.kids.length := by omega
     go_wp2;go_ret;refine ⟨?_, hbel⟩;have := HE.o;rw [Ă] at this;rw [HBd.o, this];simp
theorem ÌQ (n : Nat) : ÊO n := by
 induction n with
 | zero =>
  intro nd h
  cases nd with
  | mk a b c d e f g => simp only [Nd.mk.sizeOf_spec] at h; omega
 | succ n ih => exact ÊQ n ih
theorem ÌR (nd : Nd) (hw : Wf nd) (w : World) (A1 A2 : Option Addr) (p1 p2 : Nat) (h : Ê (fun b => b < w.heap.size) w nd (.slice A1 nd.set.length p1) (.slice A2 nd.kids.length p2)) :
 Calls Tryz.prog 42 #[.agg #[.int .i64 nd.kind, .int .i64 nd.lo, .int .i64 nd.hi, .int .i64 nd.mode, .int .i64 nd.ref, .slice A1 nd.set.length p1, .slice A2 nd.kids.length p2]] w fun e w' => e = .returned (.bool (!Ë nd)) ∧ Below w.heap.size w w' := ÌQ _ nd (ŋ _) hw w A1 A2 p1 p2 h
set_option maxRecDepth 100000 in
set_option maxHeartbeats 2000000 in
theorem Åj (nd : Nd) (hw : Wf nd) (g : Int) (fo : Bool) (w : World) (A1 A2 : Option Addr) (p1 p2 : Nat) (h : Ê (fun b => b < w.heap.size) w nd (.slice A1 nd.set.length p1) (.slice A2 nd.kids.length p2)) :
 Calls Tryz.prog 43 #[.agg #[.int .i64 nd.kind, .int .i64 nd.lo, .int .i64 nd.hi, .int .i64 nd.mode, .int .i64 nd.ref, .slice A1 nd.set.length p1, .slice A2 nd.kids.length p2, .int .i64 g, .bool fo]] w fun e w' => e = .returned (.int .i64 (Ï (Å nd + 3))) ∧ Below w.heap.size w w' := by
 have HB0 := ħ (Blk.new w 29 #[.int .i64 nd.kind, .int .i64 nd.lo, .int .i64 nd.hi, .int .i64 nd.mode, .int .i64 nd.ref, .slice A1 nd.set.length p1, .slice A2 nd.kids.length p2, .int .i64 g, .bool fo]);have hb0 : Below w.heap.size w (w.alloc (.cells #[.int .i64 nd.kind, .int .i64 nd.lo, .int .i64 nd.hi, .int .i64 nd.mode, .int .i64 nd.ref, .slice A1 nd.set.length p1, .slice A2 nd.kids.length p2, .int .i64 g, .bool fo] 29)) := (ā _ _).alloc (ŋ _) _
 have HS := ħ (fun W (hW : Ê (fun b => b < W.heap.size) W nd (.slice A1 nd.set.length p1) (.slice A2 nd.kids.length p2)) => Îq nd hw W A1 A2 p1 p2 hW)
 have HN := ħ (h.on_ hb0);have hr := Ö hw;unfold far at hr;obtain ⟨r1, r2⟩ := hr;generalize Å nd = z at *;clear h hw;go_enter Tryz.func43, Tryz.ntmps43
 go_upto_region 1 with (fail)
 have h9 := HB0.o.c9;generalize w.alloc (.cells #[.int .i64 nd.kind, .int .i64 nd.lo, .int .i64 nd.hi, .int .i64 nd.mode, .int .i64 nd.ref, .slice A1 nd.set.length p1, .slice A2 nd.kids.length p2, .int .i64 g, .bool fo] 29) = W at *
 go_wp2_with fail
 refine (HS.o W HN.o).mono ?_;rintro e w1 ⟨rfl, hb1⟩;have hbw := hb0.trans (hb1.mono hb0.size)
 go_wp2_with fail
 refine (ň (z + 3)).mono ?_;rintro e w2 ⟨rfl, rfl⟩;go_wp2;go_ret;exact ⟨rfl, hbw⟩
set_option maxRecDepth 100000 in
set_option maxHeartbeats 2000000 in
theorem Çv (nd : Nd) (hw : Wf nd) (g : Int) (fo : Bool) (w : World) (A1 A2 : Option Addr) (p1 p2 : Nat) (h : Ê (fun b => b < w.heap.size) w nd (.slice A1 nd.set.length p1) (.slice A2 nd.kids.length p2)) :
 Calls Tryz.prog 15 #[.agg #[.int .i64 nd.kind, .int .i64 nd.lo, .int .i64 nd.hi, .int .i64 nd.mode, .int .i64 nd.ref, .slice A1 nd.set.length p1, .slice A2 nd.kids.length p2, .int .i64 g, .bool fo]] w fun e w' => e = .returned (.int .i64 (ì nd : Nat)) ∧ Below w.heap.size w w' := by
 have HB0 := ħ (Blk.new w 29 #[.int .i64 nd.kind, .int .i64 nd.lo, .int .i64 nd.hi, .int .i64 nd.mode, .int .i64 nd.ref, .slice A1 nd.set.length p1, .slice A2 nd.kids.length p2, .int .i64 g, .bool fo]);have hb0 : Below w.heap.size w (w.alloc (.cells #[.int .i64 nd.kind, .int .i64 nd.lo, .int .i64 nd.hi, .int .i64 nd.mode, .int .i64 nd.ref, .slice A1 nd.set.length p1, .slice A2 nd.kids.length p2, .int .i64 g, .bool fo] 29)) := (ā _ _).alloc (ŋ _) _
 have HP := ħ (fun W (hW : Ê (fun b => b < W.heap.size) W nd (.slice A1 nd.set.length p1) (.slice A2 nd.kids.length p2)) => Åj nd hw g fo W A1 A2 p1 p2 hW)
 have HL := ħ (fun W (hW : Ê (fun b => b < W.heap.size) W nd (.slice A1 nd.set.length p1) (.slice A2 nd.kids.length p2)) => ÌR nd hw W A1 A2 p1 p2 hW)
 have HN := ħ (h.on_ hb0);have hr := Ö hw;unfold far at hr;obtain ⟨r1, r2⟩ := hr
 have hv : ì nd = if Ë nd then (if 2000 < Å nd + 3 then 28 else 0) else 27 := rfl
 rw [hv];generalize Å nd = z at *;generalize Ë nd = bd at *;clear h hw hv
 have hc : (2000 < Ï (z + 3)) ↔ 2000 < z + 3 := by unfold Ï far; split <;> omega
 cases bd with
 | false =>
  simp only [Ċ, if_false];go_enter Tryz.func15, Tryz.ntmps15
  go_upto_region 1 with (fail)
  have h9 := HB0.o.c9;generalize w.alloc (.cells #[.int .i64 nd.kind, .int .i64 nd.lo, .int .i64 nd.hi, .int .i64 nd.mode, .int .i64 nd.ref, .slice A1 nd.set.length p1, .slice A2 nd.kids.length p2, .int .i64 g, .bool fo] 29) = W at *
  go_wp2_with fail
  refine (HL.o W HN.o).mono ?_;rintro e w1 ⟨rfl, hb1⟩;have hbw := hb0.trans (hb1.mono hb0.size);go_wp2;go_ret;exact ⟨rfl, hbw⟩
 | true =>
  simp only [if_true];generalize Ï (z + 3) = y at *
  by_cases hz : 2000 < z + 3
  ·rw [if_pos hz]
   have hy := hc.2 hz;clear hc;go_enter Tryz.func15, Tryz.ntmps15
   go_upto_region 1 with (fail)
   have h9 := HB0.o.c9;generalize w.alloc (.cells #[.int .i64 nd.kind, .int .i64 nd.lo, .int .i64 nd.hi, .int .i64 nd.mode, .int .i64 nd.ref, .slice A1 nd.set.length p1, .slice A2 nd.kids.length p2, .int .i64 g, .bool fo] 29) = W at *
   go_wp2_with fail
   refine (HL.o W HN.o).mono ?_;rintro e w1 ⟨rfl, hb1⟩;have hbw := hb0.trans (hb1.mono hb0.size);have HN1 := ħ (HN.o.on_ hb1);have h99 := (HB0.o.on hb1).c9;clear h9
   go_wp2_with fail
   refine (HP.o w1 HN1.o).mono ?_;rintro e w2 ⟨rfl, hb2⟩;have hbw2 := hbw.trans (hb2.mono hbw.size);go_wp2;go_ret;exact ⟨rfl, hbw2⟩
  ·rw [if_neg hz]
   have hy : ¬ 2000 < y := fun h => hz (hc.1 h)
   clear hc;go_enter Tryz.func15, Tryz.ntmps15
   go_upto_region 1 with (fail)
   have h9 := HB0.o.c9;generalize w.alloc (.cells #[.int .i64 nd.kind, .int .i64 nd.lo, .int .i64 nd.hi, .int .i64 nd.mode, .int .i64 nd.ref, .slice A1 nd.set.length p1, .slice A2 nd.kids.length p2, .int .i64 g, .bool fo] 29) = W at *
   go_wp2_with fail
   refine (HL.o W HN.o).mono ?_;rintro e w1 ⟨rfl, hb1⟩;have hbw := hb0.trans (hb1.mono hb0.size);have HN1 := ħ (HN.o.on_ hb1);have h99 := (HB0.o.on hb1).c9;clear h9
   go_wp2_with fail
   refine (HP.o w1 HN1.o).mono ?_;rintro e w2 ⟨rfl, hb2⟩;have hbw2 := hbw.trans (hb2.mono hbw.size);go_wp2;go_ret;exact ⟨rfl, hbw2⟩
end
end Go.Proofs.YtpginkdkblmnbaaGreatDoor
