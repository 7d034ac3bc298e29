import Derived.Test.YtpginkdkblmnbaaGreatDoorWMQy
namespace Go.Proofs.YtpginkdkblmnbaaGreatDoor
section
open Go.RowKit
open Go.Proofs.YtpginkdkblmnbaaGreatDoor.Cl (Rg à Ý Ä)
variable {w w' : World}
theorem Äe (a b : Int) (_ha : 0 ≤ a) (hb : 0 ≤ b) : Ï (Ï a + b) = Ï (a + b) := by
 unfold Ï far; split <;> split <;> (try split) <;> omega
abbrev ÎP := QC 14 (fun nd => .int .i64 (Å nd))
set_option maxRecDepth 100000 in
set_option maxHeartbeats 16000000 in
theorem Ëo (n : Nat) (ih : ÎP n) : ÎP (n + 1) := by
 intro nd hsz hw w A1 A2 n1 p1 p2 nb hN
 show Calls _ _ _ w fun e w' => e = .returned (.int .i64 (Å nd)) ∧ Below w.heap.size w w'
 obtain ⟨b, off, hkv, hm⟩ := hN.kidsQ;have HW := ħ hw;have HO := ħ (ÀX hw hsz);have HI := ħ ih;have hkd := ÃO hw.shape;obtain ⟨k, hk⟩ : ∃ k, k = nd.kind := ⟨_, rfl⟩;rw [← hk] at hkd ⊢;have hk' := hk.symm;have HB0 := ħ (Blk.new w 38 #[.int .i64 k, .int .i64 nd.lo, .int .i64 nd.hi, .int .i64 nd.mode, .int .i64 nd.ref, .slice A1 n1 p1, .bool nb, .slice A2 nd.kids.length p2]);have hb0 := ÂK w #[.int .i64 k, .int .i64 nd.lo, .int .i64 nd.hi, .int .i64 nd.mode, .int .i64 nd.ref, .slice A1 n1 p1, .bool nb, .slice A2 nd.kids.length p2];have HV := ħ (hkv.on hb0)
 have hall := Àt nd.kids (fun x hx => (HO.o x hx).1) Å (fun x hx => by have := Ö hx; unfold far at this; exact this)
 obtain ⟨z, hz⟩ : ∃ z, z = Å nd := ⟨_, rfl⟩;rw [← hz];obtain ⟨c, hc⟩ : ∃ c, c = (nd.kids.map Å).sum := ⟨_, rfl⟩;rw [← hc] at hall
 have hcc : Ķ nd.kids = Ï c := by rw [hc]; rfl
 have HCC := ħ hc
 have hl0 : (nd.kids.length : Int) ≤ 1000000 := by omega
 obtain ⟨hc1, hc2⟩ := hall
 have hc3 : c ≤ 1048576000000 := by omega
 clear hkv hN ih hw hsz hk hc
 have goal : Calls Tryz.prog 14 #[.agg #[.int .i64 k, .int .i64 nd.lo, .int .i64 nd.hi, .int .i64 nd.mode, .int .i64 nd.ref, .slice A1 n1 p1, .bool nb, .slice A2 nd.kids.length p2]] w fun e w' => e = .returned (.int .i64 z) ∧ Below w.heap.size w w' := by
  rcases hkd with h | rfl | rfl | h | rfl | rfl
  ·rcases h with rfl | rfl | rfl
   ·have HZ0 : Hid (z = 0) := ħ (by rw [hz]; exact Äs (nd := nd) (by omega) (by omega) (by omega) (by omega) (by omega) (by omega) (by omega) (by omega) (by omega))
    have e : z = c := by have hs := HW.o.shape; rw [hk'] at hs; have : nd.kids = [] := ď (by unfold Ü at hs; omega); rw [hz, Äs (nd := nd) (by omega) (by omega) (by omega) (by omega) (by omega) (by omega) (by omega) (by omega) (by omega), HCC.o, this]; rfl
    have E := ħ e;have HK' := ħ hk';clear e hz hcc hk';go_enter Tryz.func14, Tryz.ntmps14
    go_upto_region 1 with (fail)
    have h8 := HB0.o.c8;generalize w.alloc (.cells #[.int .i64 0, .int .i64 nd.lo, .int .i64 nd.hi, .int .i64 nd.mode, .int .i64 nd.ref, .slice A1 n1 p1, .bool nb, .slice A2 nd.kids.length p2] 38) = W at *;go_wp2
    go_loopw [3, 4] (fun a i wr => ∃ (j : Nat) (l0 : Int), j ≤ nd.kids.length ∧ i = .int .i64 j ∧ a = .int .i64 l0 ∧ 0 ≤ l0 ∧ l0 ≤ 1048576000000 ∧ Hid (l0 = ((nd.kids.take j).map Å).sum) ∧ Below W.heap.size W wr) (fun _ i _ => nd.kids.length - (intOf i).toNat)
    case atStart => exact ⟨0, 0, Ą _, rfl, rfl, by omega, by omega, ħ rfl, ā _ _⟩
    case round =>
     obtain ⟨j, l0, hj, rfl, rfl, hs1, hs2, HE, hbel⟩ := hrel;have hbr := HB0.o.on hbel;have c7 := hbr.c8;clear hbr
     by_cases hlt : j < nd.kids.length
     ·obtain ⟨x, hx⟩ : ∃ x, nd.kids[j]? = some x := ⟨_, Ā hlt⟩
      obtain ⟨hA, hb, k0, k1, k2, k3, k4, B1, B2, m1, q1, m2, q2, nb2, KQ⟩ := Ġ HI.o HV.o HO.o hx;subst hA;have HX := ħ hx;obtain ⟨l1, hl1⟩ : ∃ l1, l1 = Å x := ⟨_, rfl⟩;rw [← hl1] at KQ
      have HN1 : Hid (l0 + l1 = ((nd.kids.take (j + 1)).map Å).sum) := ħ (by rw [ú HX.o, Ĕ, List.sum_append, ← HE.o, hl1]; simp)
      have hs3 := Àt (nd.kids.take (j + 1)) (fun x hx => (HO.o x (List.mem_of_mem_take hx)).1) Å (fun x hx => by have := Ö hx; unfold far at this; exact this)
      rw [← HN1.o] at hs3
      have hlen : (nd.kids.take (j + 1)).length ≤ nd.kids.length := by simp; omega
      have hs4 : 0 ≤ l0 + l1 ∧ l0 + l1 ≤ 1048576000000 := by omega
      obtain ⟨hs5, hs6⟩ := hs4;have KQ' := ħ KQ;have hc8 := KQ.cells wr hbel
      have hlti : (j : Int) < nd.kids.length := by omega
      clear hx hl1 KQ hs3 hlen
      go_wp2_with fail
      refine (KQ'.o.call wr hbel).mono ?_;rintro e w1 ⟨rfl, hb1⟩;have hbw := hbel.trans (hb1.mono hbel.size);clear hc8 c7;go_wp2;go_roundw
      case rel => exact ⟨j + 1, _, by omega, by go_num, rfl, by omega, by omega, HN1.o, hbw⟩
      case measure => simp [intOf]; omega
     ·have hjl : j = nd.kids.length := by omega
      have hlc : l0 = c := by rw [HE.o, hjl, Ă, HCC.o]
      subst hjl hlc;clear HE hlt
      have hnf : ¬ (1048576 : Int) < l0 := by have h1 := E.o; have h2 := HZ0.o; omega
      go_wp2;go_ret;exact ⟨Õ E.o.symm, hb0.trans (hbel.mono hb0.size)⟩
   ·have e : z = Ï (c + 2) := by rw [hz, Áe HW.o (by omega), hcc, Äe _ _ hc1 (by omega)]
    have HZ := ħ e;have HK' := ħ hk';clear e hz hcc hk';go_enter Tryz.func14, Tryz.ntmps14
    go_upto_region 1 with (fail)
    have h8 := HB0.o.c8;generalize w.alloc (.cells #[.int .i64 7, .int .i64 nd.lo, .int .i64 nd.hi, .int .i64 nd.mode, .int .i64 nd.ref, .slice A1 n1 p1, .bool nb, .slice A2 nd.kids.length p2] 38) = W at *;go_wp2
    go_loopw [3, 4] (fun a i wr => ∃ (j : Nat) (l0 : Int), j ≤ nd.kids.length ∧ i = .int .i64 j ∧ a = .int .i64 l0 ∧ 0 ≤ l0 ∧ l0 ≤ 1048576000000 ∧ Hid (l0 = ((nd.kids.take j).map Å).sum) ∧ Below W.heap.size W wr) (fun _ i _ => nd.kids.length - (intOf i).toNat)
    case atStart => exact ⟨0, 0, Ą _, rfl, rfl, by omega, by omega, ħ rfl, ā _ _⟩
    case round =>
     obtain ⟨j, l0, hj, rfl, rfl, hs1, hs2, HE, hbel⟩ := hrel;have hbr := HB0.o.on hbel;have c7 := hbr.c8;clear hbr
     by_cases hlt : j < nd.kids.length
     ·obtain ⟨x, hx⟩ : ∃ x, nd.kids[j]? = some x := ⟨_, Ā hlt⟩
      obtain ⟨hA, hb, k0, k1, k2, k3, k4, B1, B2, m1, q1, m2, q2, nb2, KQ⟩ := Ġ HI.o HV.o HO.o hx;subst hA;have HX := ħ hx;obtain ⟨l1, hl1⟩ : ∃ l1, l1 = Å x := ⟨_, rfl⟩;rw [← hl1] at KQ
      have HN1 : Hid (l0 + l1 = ((nd.kids.take (j + 1)).map Å).sum) := ħ (by rw [ú HX.o, Ĕ, List.sum_append, ← HE.o, hl1]; simp)
      have hs3 := Àt (nd.kids.take (j + 1)) (fun x hx => (HO.o x (List.mem_of_mem_take hx)).1) Å (fun x hx => by have := Ö hx; unfold far at this; exact this)
      rw [← HN1.o] at hs3
      have hlen : (nd.kids.take (j + 1)).length ≤ nd.kids.length := by simp; omega
      have hs4 : 0 ≤ l0 + l1 ∧ l0 + l1 ≤ 1048576000000 := by omega
      obtain ⟨hs5, hs6⟩ := hs4;have KQ' := ħ KQ;have hc8 := KQ.cells wr hbel
      have hlti : (j : Int) < nd.kids.length := by omega
      clear hx hl1 KQ hs3 hlen
      go_wp2_with fail
      refine (KQ'.o.call wr hbel).mono ?_;rintro e w1 ⟨rfl, hb1⟩;have hbw := hbel.trans (hb1.mono hbel.size);clear hc8 c7;go_wp2;go_roundw
      case rel => exact ⟨j + 1, _, by omega, by go_num, rfl, by omega, by omega, HN1.o, hbw⟩
      case measure => simp [intOf]; omega
     ·have hjl : j = nd.kids.length := by omega
      have hlc : l0 = c := by rw [HE.o, hjl, Ă, HCC.o]
      subst hjl hlc;clear HE hlt
      by_cases hbig : (1048576 : Int) < l0 + 2
      ·have e : z = 1048576 := by rw [HZ.o]; unfold Ï far; rw [if_pos (by omega)]
       have E := ħ e;clear e;go_wp2;go_ret;exact ⟨Õ E.o.symm, hb0.trans (hbel.mono hb0.size)⟩
      ·have e : z = l0 + 2 := by have h := HZ.o; unfold Ï far at h; rw [if_neg (by omega)] at h; omega
       have E := ħ e;clear e;go_wp2;go_ret;exact ⟨Õ E.o.symm, hb0.trans (hbel.mono hb0.size)⟩
   ·have e : z = 1 := by rw [hz]; exact ÁP (by omega)
    have E := ħ e;have HK' := ħ hk';clear e hz hcc hk';go_enter Tryz.func14, Tryz.ntmps14
    go_upto_region 1 with (fail)
    have h8 := HB0.o.c8;generalize w.alloc (.cells #[.int .i64 9, .int .i64 nd.lo, .int .i64 nd.hi, .int .i64 nd.mode, .int .i64 nd.ref, .slice A1 n1 p1, .bool nb, .slice A2 nd.kids.length p2] 38) = W at *;go_wp2
    go_loopw [3, 4] (fun a i wr => ∃ (j : Nat) (l0 : Int), j ≤ nd.kids.length ∧ i = .int .i64 j ∧ a = .int .i64 l0 ∧ 0 ≤ l0 ∧ l0 ≤ 1048576000000 ∧ Hid (l0 = ((nd.kids.take j).map Å).sum) ∧ Below W.heap.size W wr) (fun _ i _ => nd.kids.length - (intOf i).toNat)
    case atStart => exact ⟨0, 0, Ą _, rfl, rfl, by omega, by omega, ħ rfl, ā _ _⟩
    case round =>
     obtain ⟨j, l0, hj, rfl, rfl, hs1, hs2, HE, hbel⟩ := hrel;have hbr := HB0.o.on hbel;have c7 := hbr.c8;clear hbr
     by_cases hlt : j < nd.kids.length
     ·obtain ⟨x, hx⟩ : ∃ x, nd.kids[j]? = some x := ⟨_, Ā hlt⟩
      obtain ⟨hA, hb, k0, k1, k2, k3, k4, B1, B2, m1, q1, m2, q2, nb2, KQ⟩ := Ġ HI.o HV.o HO.o hx;subst hA;have HX := ħ hx;obtain ⟨l1, hl1⟩ : ∃ l1, l1 = Å x := ⟨_, rfl⟩;rw [← hl1] at KQ
      have HN1 : Hid (l0 + l1 = ((nd.kids.take (j + 1)).map Å).sum) := ħ (by rw [ú HX.o, Ĕ, List.sum_append, ← HE.o, hl1]; simp)
      have hs3 := Àt (nd.kids.take (j + 1)) (fun x hx => (HO.o x (List.mem_of_mem_take hx)).1) Å (fun x hx => by have := Ö hx; unfold far at this; exact this)
      rw [← HN1.o] at hs3
      have hlen : (nd.kids.take (j + 1)).length ≤ nd.kids.length := by simp; omega
      have hs4 : 0 ≤ l0 + l1 ∧ l0 + l1 ≤ 1048576000000 := by omega
      obtain ⟨hs5, hs6⟩ := hs4;have KQ' := ħ KQ;have hc8 := KQ.cells wr hbel
      have hlti : (j : Int) < nd.kids.length := by omega
      clear hx hl1 KQ hs3 hlen
      go_wp2_with fail
      refine (KQ'.o.call wr hbel).mono ?_;rintro e w1 ⟨rfl, hb1⟩;have hbw := hbel.trans (hb1.mono hbel.size);clear hc8 c7;go_wp2;go_roundw
      case rel => exact ⟨j + 1, _, by omega, by go_num, rfl, by omega, by omega, HN1.o, hbw⟩
      case measure => simp [intOf]; omega
     ·have hjl : j = nd.kids.length := by omega
      have hlc : l0 = c := by rw [HE.o, hjl, Ă, HCC.o]
      subst hjl hlc;clear HE hlt;go_wp2;go_ret;exact ⟨Õ E.o.symm, hb0.trans (hbel.mono hb0.size)⟩
  ·have e : z = 1 := by rw [hz]; exact ÁP (by omega)
   have E := ħ e;have HK' := ħ hk';clear e hz hcc hk';go_enter Tryz.func14, Tryz.ntmps14
   go_upto_region 1 with (fail)
   have h8 := HB0.o.c8;generalize w.alloc (.cells #[.int .i64 1, .int .i64 nd.lo, .int .i64 nd.hi, .int .i64 nd.mode, .int .i64 nd.ref, .slice A1 n1 p1, .bool nb, .slice A2 nd.kids.length p2] 38) = W at *;go_wp2
   go_loopw [3, 4] (fun a i wr => ∃ (j : Nat) (l0 : Int), j ≤ nd.kids.length ∧ i = .int .i64 j ∧ a = .int .i64 l0 ∧ 0 ≤ l0 ∧ l0 ≤ 1048576000000 ∧ Hid (l0 = ((nd.kids.take j).map Å).sum) ∧ Below W.heap.size W wr) (fun _ i _ => nd.kids.length - (intOf i).toNat)
   case atStart => exact ⟨0, 0, Ą _, rfl, rfl, by omega, by omega, ħ rfl, ā _ _⟩
   case round =>
    obtain ⟨j, l0, hj, rfl, rfl, hs1, hs2, HE, hbel⟩ := hrel;have hbr := HB0.o.on hbel;have c7 := hbr.c8;clear hbr
    by_cases hlt : j < nd.kids.length
    ·obtain ⟨x, hx⟩ : ∃ x, nd.kids[j]? = some x := ⟨_, Ā hlt⟩
     obtain ⟨hA, hb, k0, k1, k2, k3, k4, B1, B2, m1, q1, m2, q2, nb2, KQ⟩ := Ġ HI.o HV.o HO.o hx;subst hA;have HX := ħ hx;obtain ⟨l1, hl1⟩ : ∃ l1, l1 = Å x := ⟨_, rfl⟩;rw [← hl1] at KQ
     have HN1 : Hid (l0 + l1 = ((nd.kids.take (j + 1)).map Å).sum) := ħ (by rw [ú HX.o, Ĕ, List.sum_append, ← HE.o, hl1]; simp)
     have hs3 := Àt (nd.kids.take (j + 1)) (fun x hx => (HO.o x (List.mem_of_mem_take hx)).1) Å (fun x hx => by have := Ö hx; unfold far at this; exact this)
     rw [← HN1.o] at hs3
     have hlen : (nd.kids.take (j + 1)).length ≤ nd.kids.length := by simp; omega
     have hs4 : 0 ≤ l0 + l1 ∧ l0 + l1 ≤ 1048576000000 := by omega
     obtain ⟨hs5, hs6⟩ := hs4;have KQ' := ħ KQ;have hc8 := KQ.cells wr hbel
     have hlti : (j : Int) < nd.kids.length := by omega
     clear hx hl1 KQ hs3 hlen
     go_wp2_with fail
     refine (KQ'.o.call wr hbel).mono ?_;rintro e w1 ⟨rfl, hb1⟩;have hbw := hbel.trans (hb1.mono hbel.size);clear hc8 c7;go_wp2;go_roundw
     case rel => exact ⟨j + 1, _, by omega, by go_num, rfl, by omega, by omega, HN1.o, hbw⟩
     case measure => simp [intOf]; omega
    ·have hjl : j = nd.kids.length := by omega
     have hlc : l0 = c := by rw [HE.o, hjl, Ă, HCC.o]
     subst hjl hlc;clear HE hlt;go_wp2;go_ret;exact ⟨Õ E.o.symm, hb0.trans (hbel.mono hb0.size)⟩
  ·have e : z = 1 := by rw [hz]; exact ÁP (by omega)
   have E := ħ e;have HK' := ħ hk';clear e hz hcc hk';go_enter Tryz.func14, Tryz.ntmps14
   go_upto_region 1 with (fail)
   have h8 := HB0.o.c8;generalize w.alloc (.cells #[.int .i64 6, .int .i64 nd.lo, .int .i64 nd.hi, .int .i64 nd.mode, .int .i64 nd.ref, .slice A1 n1 p1, .bool nb, .slice A2 nd.kids.length p2] 38) = W at *;go_wp2
   go_loopw [3, 4] (fun a i wr => ∃ (j : Nat) (l0 : Int), j ≤ nd.kids.length ∧ i = .int .i64 j ∧ a = .int .i64 l0 ∧ 0 ≤ l0 ∧ l0 ≤ 1048576000000 ∧ Hid (l0 = ((nd.kids.take j).map Å).sum) ∧ Below W.heap.size W wr) (fun _ i _ => nd.kids.length - (intOf i).toNat)
   case atStart => exact ⟨0, 0, Ą _, rfl, rfl, by omega, by omega, ħ rfl, ā _ _⟩
   case round =>
    obtain ⟨j, l0, hj, rfl, rfl, hs1, hs2, HE, hbel⟩ := hrel;have hbr := HB0.o.on hbel;have c7 := hbr.c8;clear hbr
    by_cases hlt : j < nd.kids.length
    ·obtain ⟨x, hx⟩ : ∃ x, nd.kids[j]? = some x := ⟨_, Ā hlt⟩
     obtain ⟨hA, hb, k0, k1, k2, k3, k4, B1, B2, m1, q1, m2, q2, nb2, KQ⟩ := Ġ HI.o HV.o HO.o hx;subst hA;have HX := ħ hx;obtain ⟨l1, hl1⟩ : ∃ l1, l1 = Å x := ⟨_, rfl⟩;rw [← hl1] at KQ
     have HN1 : Hid (l0 + l1 = ((nd.kids.take (j + 1)).map Å).sum) := ħ (by rw [ú HX.o, Ĕ, List.sum_append, ← HE.o, hl1]; simp)
     have hs3 := Àt (nd.kids.take (j + 1)) (fun x hx => (HO.o x (List.mem_of_mem_take hx)).1) Å (fun x hx => by have := Ö hx; unfold far at this; exact this)
     rw [← HN1.o] at hs3
     have hlen : (nd.kids.take (j + 1)).length ≤ nd.kids.length := by simp; omega
     have hs4 : 0 ≤ l0 + l1 ∧ l0 + l1 ≤ 1048576000000 := by omega
     obtain ⟨hs5, hs6⟩ := hs4;have KQ' := ħ KQ;have hc8 := KQ.cells wr hbel
     have hlti : (j : Int) < nd.kids.length := by omega
     clear hx hl1 KQ hs3 hlen
     go_wp2_with fail
     refine (KQ'.o.call wr hbel).mono ?_;rintro e w1 ⟨rfl, hb1⟩;have hbw := hbel.trans (hb1.mono hbel.size);clear hc8 c7;go_wp2;go_roundw
     case rel => exact ⟨j + 1, _, by omega, by go_num, rfl, by omega, by omega, HN1.o, hbw⟩
     case measure => simp [intOf]; omega
    ·have hjl : j = nd.kids.length := by omega
     have hlc : l0 = c := by rw [HE.o, hjl, Ă, HCC.o]
     subst hjl hlc;clear HE hlt;go_wp2;go_ret;exact ⟨Õ E.o.symm, hb0.trans (hbel.mono hb0.size)⟩
  ·rcases h with rfl | rfl | rfl
   ·have e : z = Ï c := by rw [hz, Éh (by omega), hcc]
    have HZ := ħ e;have HK' := ħ hk';clear e hz hcc hk';go_enter Tryz.func14, Tryz.ntmps14
    go_upto_region 1 with (fail)
    have h8 := HB0.o.c8;generalize w.alloc (.cells #[.int .i64 2, .int .i64 nd.lo, .int .i64 nd.hi, .int .i64 nd.mode, .int .i64 nd.ref, .slice A1 n1 p1, .bool nb, .slice A2 nd.kids.length p2] 38) = W at *;go_wp2
    go_loopw [3, 4] (fun a i wr => ∃ (j : Nat) (l0 : Int), j ≤ nd.kids.length ∧ i = .int .i64 j ∧ a = .int .i64 l0 ∧ 0 ≤ l0 ∧ l0 ≤ 1048576000000 ∧ Hid (l0 = ((nd.kids.take j).map Å).sum) ∧ Below W.heap.size W wr) (fun _ i _ => nd.kids.length - (intOf i).toNat)
    case atStart => exact ⟨0, 0, Ą _, rfl, rfl, by omega, by omega, ħ rfl, ā _ _⟩
    case round =>
     obtain ⟨j, l0, hj, rfl, rfl, hs1, hs2, HE, hbel⟩ := hrel;have hbr := HB0.o.on hbel;have c7 := hbr.c8;clear hbr
     by_cases hlt : j < nd.kids.length
     ·obtain ⟨x, hx⟩ : ∃ x, nd.kids[j]? = some x := ⟨_, Ā hlt⟩
      obtain ⟨hA, hb, k0, k1, k2, k3, k4, B1, B2, m1, q1, m2, q2, nb2, KQ⟩ := Ġ HI.o HV.o HO.o hx;subst hA;have HX := ħ hx;obtain ⟨l1, hl1⟩ : ∃ l1, l1 = Å x := ⟨_, rfl⟩;rw [← hl1] at KQ
      have HN1 : Hid (l0 + l1 = ((nd.kids.take (j + 1)).map Å).sum) := ħ (by rw [ú HX.o, Ĕ, List.sum_append, ← HE.o, hl1]; simp)
      have hs3 := Àt (nd.kids.take (j + 1)) (fun x hx => (HO.o x (List.mem_of_mem_take hx)).1) Å (fun x hx => by have := Ö hx; unfold far at this; exact this)
      rw [← HN1.o] at hs3
      have hlen : (nd.kids.take (j + 1)).length ≤ nd.kids.length := by simp; omega
      have hs4 : 0 ≤ l0 + l1 ∧ l0 + l1 ≤ 1048576000000 := by omega
      obtain ⟨hs5, hs6⟩ := hs4;have KQ' := ħ KQ;have hc8 := KQ.cells wr hbel
      have hlti : (j : Int) < nd.kids.length := by omega
      clear hx hl1 KQ hs3 hlen
      go_wp2_with fail
      refine (KQ'.o.call wr hbel).mono ?_;rintro e w1 ⟨rfl, hb1⟩;have hbw := hbel.trans (hb1.mono hbel.size);clear hc8 c7;go_wp2;go_roundw
      case rel => exact ⟨j + 1, _, by omega, by go_num, rfl, by omega, by omega, HN1.o, hbw⟩
      case measure => simp [intOf]; omega
     ·have hjl : j = nd.kids.length := by omega
      have hlc : l0 = c := by rw [HE.o, hjl, Ă, HCC.o]
      subst hjl hlc;clear HE hlt
      by_cases hbig : (1048576 : Int) < l0
      ·have e : z = 1048576 := by rw [HZ.o]; unfold Ï far; rw [if_pos (by omega)]
       have E := ħ e;clear e;go_wp2;go_ret;exact ⟨Õ E.o.symm, hb0.trans (hbel.mono hb0.size)⟩
      ·have e : z = l0 := by have h := HZ.o; unfold Ï far at h; rw [if_neg (by omega)] at h; omega
       have E := ħ e;clear e;go_wp2;go_ret;exact ⟨Õ E.o.symm, hb0.trans (hbel.mono hb0.size)⟩
   ·have e : z = Ï (c + 2) := by rw [hz, Áe HW.o (by omega), hcc, Äe _ _ hc1 (by omega)]
    have HZ := ħ e;have HK' := ħ hk';clear e hz hcc hk';go_enter Tryz.func14, Tryz.ntmps14
    go_upto_region 1 with (fail)
    have h8 := HB0.o.c8;generalize w.alloc (.cells #[.int .i64 5, .int .i64 nd.lo, .int .i64 nd.hi, .int .i64 nd.mode, .int .i64 nd.ref, .slice A1 n1 p1, .bool nb, .slice A2 nd.kids.length p2] 38) = W at *;go_wp2
    go_loopw [3, 4] (fun a i wr => ∃ (j : Nat) (l0 : Int), j ≤ nd.kids.length ∧ i = .int .i64 j ∧ a = .int .i64 l0 ∧ 0 ≤ l0 ∧ l0 ≤ 1048576000000 ∧ Hid (l0 = ((nd.kids.take j).map Å).sum) ∧ Below W.heap.size W wr) (fun _ i _ => nd.kids.length - (intOf i).toNat)
    case atStart => exact ⟨0, 0, Ą _, rfl, rfl, by omega, by omega, ħ rfl, ā _ _⟩
    case round =>
     obtain ⟨j, l0, hj, rfl, rfl, hs1, hs2, HE, hbel⟩ := hrel;have hbr := HB0.o.on hbel;have c7 := hbr.c8;clear hbr
     by_cases hlt : j < nd.kids.length
     ·obtain ⟨x, hx⟩ : ∃ x, nd.kids[j]? = some x := ⟨_, Ā hlt⟩
      obtain ⟨hA, hb, k0, k1, k2, k3, k4, B1, B2, m1, q1, m2, q2, nb2, KQ⟩ := Ġ HI.o HV.o HO.o hx;subst hA;have HX := ħ hx;obtain ⟨l1, hl1⟩ : ∃ l1, l1 = Å x := ⟨_, rfl⟩;rw [← hl1] at KQ
      have HN1 : Hid (l0 + l1 = ((nd.kids.take (j + 1)).map Å).sum) := ħ (by rw [ú HX.o, Ĕ, List.sum_append, ← HE.o, hl1]; simp)
      have hs3 := Àt (nd.kids.take (j + 1)) (fun x hx => (HO.o x (List.mem_of_mem_take hx)).1) Å (fun x hx => by have := Ö hx; unfold far at this; exact this)
      rw [← HN1.o] at hs3
      have hlen : (nd.kids.take (j + 1)).length ≤ nd.kids.length := by simp; omega
      have hs4 : 0 ≤ l0 + l1 ∧ l0 + l1 ≤ 1048576000000 := by omega
      obtain ⟨hs5, hs6⟩ := hs4;have KQ' := ħ KQ;have hc8 := KQ.cells wr hbel
      have hlti : (j : Int) < nd.kids.length := by omega
      clear hx hl1 KQ hs3 hlen
      go_wp2_with fail
      refine (KQ'.o.call wr hbel).mono ?_;rintro e w1 ⟨rfl, hb1⟩;have hbw := hbel.trans (hb1.mono hbel.size);clear hc8 c7;go_wp2;go_roundw
      case rel => exact ⟨j + 1, _, by omega, by go_num, rfl, by omega, by omega, HN1.o, hbw⟩
      case measure => simp [intOf]; omega
     ·have hjl : j = nd.kids.length := by omega
      have hlc : l0 = c := by rw [HE.o, hjl, Ă, HCC.o]
      subst hjl hlc;clear HE hlt
      by_cases hbig : (1048576 : Int) < l0 + 2
      ·have e : z = 1048576 := by rw [HZ.o]; unfold Ï far; rw [if_pos (by omega)]
       have E := ħ e;clear e;go_wp2;go_ret;exact ⟨Õ E.o.symm, hb0.trans (hbel.mono hb0.size)⟩
      ·have e : z = l0 + 2 := by have h := HZ.o; unfold Ï far at h; rw [if_neg (by omega)] at h; omega
       have E := ħ e;clear e;go_wp2;go_ret;exact ⟨Õ E.o.symm, hb0.trans (hbel.mono hb0.size)⟩
   ·have e : z = Ï (c + 2) := by rw [hz, Áe HW.o (by omega), hcc, Äe _ _ hc1 (by omega)]
    have HZ := ħ e;have HK' := ħ hk';clear e hz hcc hk';go_enter Tryz.func14, Tryz.ntmps14
    go_upto_region 1 with (fail)
    have h8 := HB0.o.c8;generalize w.alloc (.cells #[.int .i64 8, .int .i64 nd.lo, .int .i64 nd.hi, .int .i64 nd.mode, .int .i64 nd.ref, .slice A1 n1 p1, .bool nb, .slice A2 nd.kids.length p2] 38) = W at *;go_wp2
    go_loopw [3, 4] (fun a i wr => ∃ (j : Nat) (l0 : Int), j ≤ nd.kids.length ∧ i = .int .i64 j ∧ a = .int .i64 l0 ∧ 0 ≤ l0 ∧ l0 ≤ 1048576000000 ∧ Hid (l0 = ((nd.kids.take j).map Å).sum) ∧ Below W.heap.size W wr) (fun _ i _ => nd.kids.length - (intOf i).toNat)
    case atStart => exact ⟨0, 0, Ą _, rfl, rfl, by omega, by omega, ħ rfl, ā _ _⟩
    case round =>
     obtain ⟨j, l0, hj, rfl, rfl, hs1, hs2, HE, hbel⟩ := hrel;have hbr := HB0.o.on hbel;have c7 := hbr.c8;clear hbr
     by_cases hlt : j < nd.kids.length
     ·obtain ⟨x, hx⟩ : ∃ x, nd.kids[j]? = some x := ⟨_, Ā hlt⟩
      obtain ⟨hA, hb, k0, k1, k2, k3, k4, B1, B2, m1, q1, m2, q2, nb2, KQ⟩ := Ġ HI.o HV.o HO.o hx;subst hA;have HX := ħ hx;obtain ⟨l1, hl1⟩ : ∃ l1, l1 = Å x := ⟨_, rfl⟩;rw [← hl1] at KQ
      have HN1 : Hid (l0 + l1 = ((nd.kids.take (j + 1)).map Å).sum) := ħ (by rw [ú HX.o, Ĕ, List.sum_append, ← HE.o, hl1]; simp)
      have hs3 := Àt (nd.kids.take (j + 1)) (fun x hx => (HO.o x (List.mem_of_mem_take hx)).1) Å (fun x hx => by have := Ö hx; unfold far at this; exact this)
      rw [← HN1.o] at hs3
      have hlen : (nd.kids.take (j + 1)).length ≤ nd.kids.length := by simp; omega
      have hs4 : 0 ≤ l0 + l1 ∧ l0 + l1 ≤ 1048576000000 := by omega
      obtain ⟨hs5, hs6⟩ := hs4;have KQ' := ħ KQ;have hc8 := KQ.cells wr hbel
      have hlti : (j : Int) < nd.kids.length := by omega
      clear hx hl1 KQ hs3 hlen
      go_wp2_with fail
      refine (KQ'.o.call wr hbel).mono ?_;rintro e w1 ⟨rfl, hb1⟩;have hbw := hbel.trans (hb1.mono hbel.size);clear hc8 c7;go_wp2;go_roundw
      case rel => exact ⟨j + 1, _, by omega, by go_num, rfl, by omega, by omega, HN1.o, hbw⟩
      case measure => simp [intOf]; omega
     ·have hjl : j = nd.kids.length := by omega
      have hlc : l0 = c := by rw [HE.o, hjl, Ă, HCC.o]
      subst hjl hlc;clear HE hlt
      by_cases hbig : (1048576 : Int) < l0 + 2
      ·have e : z = 1048576 := by rw [HZ.o]; unfold Ï far; rw [if_pos (by omega)]
       have E := ħ e;clear e;go_wp2;go_ret;exact ⟨Õ E.o.symm, hb0.trans (hbel.mono hb0.size)⟩
      ·have e : z = l0 + 2 := by have h := HZ.o; unfold Ï far at h; rw [if_neg (by omega)] at h; omega
       have E := ħ e;clear e;go_wp2;go_ret;exact ⟨Õ E.o.symm, hb0.trans (hbel.mono hb0.size)⟩
  ·have e : z = Ï (c + 2 * (nd.kids.length : Int) - 2) := by
    have hs := HW.o.shape;rw [hk'] at hs
    have h2 : 2 ≤ nd.kids.length := by unfold Ü at hs; omega
    have h3 := Äe c (2 * ((nd.kids.length : Int) - 1)) hc1 (by omega)
    rw [hz, Çi HW.o hk', hcc, h3]
    congr 1
    omega
   have HZ := ħ e;have HK' := ħ hk';clear e hz hcc hk';go_enter Tryz.func14, Tryz.ntmps14
   go_upto_region 1 with (fail)
   have h8 := HB0.o.c8;generalize w.alloc (.cells #[.int .i64 3, .int .i64 nd.lo, .int .i64 nd.hi, .int .i64 nd.mode, .int .i64 nd.ref, .slice A1 n1 p1, .bool nb, .slice A2 nd.kids.length p2] 38) = W at *;go_wp2
   go_loopw [3, 4] (fun a i wr => ∃ (j : Nat) (l0 : Int), j ≤ nd.kids.length ∧ i = .int .i64 j ∧ a = .int .i64 l0 ∧ 0 ≤ l0 ∧ l0 ≤ 1048576000000 ∧ Hid (l0 = ((nd.kids.take j).map Å).sum) ∧ Below W.heap.size W wr) (fun _ i _ => nd.kids.length - (intOf i).toNat)
   case atStart => exact ⟨0, 0, Ą _, rfl, rfl, by omega, by omega, ħ rfl, ā _ _⟩
   case round =>
    obtain ⟨j, l0, hj, rfl, rfl, hs1, hs2, HE, hbel⟩ := hrel;have hbr := HB0.o.on hbel;have c7 := hbr.c8;clear hbr
    by_cases hlt : j < nd.kids.length
    ·obtain ⟨x, hx⟩ : ∃ x, nd.kids[j]? = some x := ⟨_, Ā hlt⟩
     obtain ⟨hA, hb, k0, k1, k2, k3, k4, B1, B2, m1, q1, m2, q2, nb2, KQ⟩ := Ġ HI.o HV.o HO.o hx;subst hA;have HX := ħ hx;obtain ⟨l1, hl1⟩ : ∃ l1, l1 = Å x := ⟨_, rfl⟩;rw [← hl1] at KQ
     have HN1 : Hid (l0 + l1 = ((nd.kids.take (j + 1)).map Å).sum) := ħ (by rw [ú HX.o, Ĕ, List.sum_append, ← HE.o, hl1]; simp)
     have hs3 := Àt (nd.kids.take (j + 1)) (fun x hx => (HO.o x (List.mem_of_mem_take hx)).1) Å (fun x hx => by have := Ö hx; unfold far at this; exact this)
     rw [← HN1.o] at hs3
     have hlen : (nd.kids.take (j + 1)).length ≤ nd.kids.length := by simp; omega
     have hs4 : 0 ≤ l0 + l1 ∧ l0 + l1 ≤ 1048576000000 := by omega
     obtain ⟨hs5, hs6⟩ := hs4;have KQ' := ħ KQ;have hc8 := KQ.cells wr hbel
     have hlti : (j : Int) < nd.kids.length := by omega
     clear hx hl1 KQ hs3 hlen
     go_wp2_with fail
     refine (KQ'.o.call wr hbel).mono ?_;rintro e w1 ⟨rfl, hb1⟩;have hbw := hbel.trans (hb1.mono hbel.size);clear hc8 c7;go_wp2;go_roundw
     case rel => exact ⟨j + 1, _, by omega, by go_num, rfl, by omega, by omega, HN1.o, hbw⟩
     case measure => simp [intOf]; omega
    ·have hjl : j = nd.kids.length := by omega
     have hlc : l0 = c := by rw [HE.o, hjl, Ă, HCC.o]
     subst hjl hlc;clear HE hlt
     by_cases hbig : (1048576 : Int) < l0 + 2 * (nd.kids.length : Int) - 2
     ·have e : z = 1048576 := by rw [HZ.o]; unfold Ï far; rw [if_pos (by omega)]
      have E := ħ e;clear e;go_wp2;go_ret;exact ⟨Õ E.o.symm, hb0.trans (hbel.mono hb0.size)⟩
     ·have e : z = l0 + 2 * (nd.kids.length : Int) - 2 := by have h := HZ.o; unfold Ï far at h; rw [if_neg (by omega)] at h; omega
      have E := ħ e;clear e;go_wp2;go_ret;exact ⟨Õ E.o.symm, hb0.trans (hbel.mono hb0.size)⟩
  ·obtain ⟨e, g1, g2, g3, g4, g5⟩ := ÅS HW.o hk'
   have hl1 : nd.kids.length = 1 := by have hs := HW.o.shape; rw [hk'] at hs; unfold Ü at hs; omega
   obtain ⟨x, hx⟩ := Ào hl1
   have hwx : Wf x := HW.o.kids x (by rw [hx]; simp)
   have hxr := Ö hwx;unfold far at hxr
   have hcx : c = Å x := by rw [HCC.o, hx]; simp
   have hcs : Ķ nd.kids = c := by rw [hcc, hcx]; unfold Ï far; rw [if_neg (by omega)]
   have hc4 : c ≤ 1048576 := by rw [hcx]; exact hxr.2
   rw [hcs, ← hz] at e;have HZ := ħ e;have HK' := ħ hk';have q0 : 0 ≤ nd.lo * c := Int.mul_nonneg g1 hc1
   have q1 : nd.lo * c ≤ 64 * 1048576 := Int.mul_le_mul g2 hc4 hc1 (by omega)
   have q2 : nd.hi ≠ -1 → 0 ≤ (nd.hi - nd.lo) * (c + 1) := fun h => by
    have := g5 h
    exact Int.mul_nonneg (by omega) (by omega)
   have q3 : (nd.hi - nd.lo) * (c + 1) ≤ 64 * 1048577 := by
    by_cases h : nd.hi - nd.lo < 0
    ·have : (nd.hi - nd.lo) * (c + 1) ≤ 0 := Int.mul_nonpos_of_nonpos_of_nonneg (by omega) (by omega)
     omega
    ·exact Int.mul_le_mul (by omega) (by omega) (by omega) (by omega)
   have q4 : -(65 * 1048577) ≤ (nd.hi - nd.lo) * (c + 1) := by
    have h1 : (nd.lo - nd.hi) * (c + 1) ≤ 65 * 1048577 := by
     by_cases h : nd.lo - nd.hi < 0
     ·have : (nd.lo - nd.hi) * (c + 1) ≤ 0 := Int.mul_nonpos_of_nonpos_of_nonneg (by omega) (by omega)
      omega
     ·exact Int.mul_le_mul (by omega) (by omega) (by omega) (by omega)
    have h2 : (nd.hi - nd.lo) * (c + 1) = -((nd.lo - nd.hi) * (c + 1)) := by rw [← Int.neg_mul]; congr 1; omega
    omega
   have Q2 := ħ q2;have HG5 := ħ g5;clear e hz hcc hk' hl1 hx hwx hxr hcx hcs q2 g5;go_enter Tryz.func14, Tryz.ntmps14
   go_upto_region 1 with (fail)
   have h8 := HB0.o.c8;generalize w.alloc (.cells #[.int .i64 4, .int .i64 nd.lo, .int .i64 nd.hi, .int .i64 nd.mode, .int .i64 nd.ref, .slice A1 n1 p1, .bool nb, .slice A2 nd.kids.length p2] 38) = W at *;go_wp2
   go_loopw [3, 4] (fun a i wr => ∃ (j : Nat) (l0 : Int), j ≤ nd.kids.length ∧ i = .int .i64 j ∧ a = .int .i64 l0 ∧ 0 ≤ l0 ∧ l0 ≤ 1048576000000 ∧ Hid (l0 = ((nd.kids.take j).map Å).sum) ∧ Below W.heap.size W wr) (fun _ i _ => nd.kids.length - (intOf i).toNat)
   case atStart => exact ⟨0, 0, Ą _, rfl, rfl, by omega, by omega, ħ rfl, ā _ _⟩
   case round =>
    obtain ⟨j, l0, hj, rfl, rfl, hs1, hs2, HE, hbel⟩ := hrel;have hbr := HB0.o.on hbel;have c7 := hbr.c8;clear hbr
    by_cases hlt : j < nd.kids.length
    ·obtain ⟨x, hx⟩ : ∃ x, nd.kids[j]? = some x := ⟨_, Ā hlt⟩
     obtain ⟨hA, hb, k0, k1, k2, k3, k4, B1, B2, m1, q1, m2, q2, nb2, KQ⟩ := Ġ HI.o HV.o HO.o hx;subst hA;have HX := ħ hx;obtain ⟨l1, hl1⟩ : ∃ l1, l1 = Å x := ⟨_, rfl⟩;rw [← hl1] at KQ
     have HN1 : Hid (l0 + l1 = ((nd.kids.take (j + 1)).map Å).sum) := ħ (by rw [ú HX.o, Ĕ, List.sum_append, ← HE.o, hl1]; simp)
     have hs3 := Àt (nd.kids.take (j + 1)) (fun x hx => (HO.o x (List.mem_of_mem_take hx)).1) Å (fun x hx => by have := Ö hx; unfold far at this; exact this)
     rw [← HN1.o] at hs3
     have hlen : (nd.kids.take (j + 1)).length ≤ nd.kids.length := by simp; omega
     have hs4 : 0 ≤ l0 + l1 ∧ l0 + l1 ≤ 1048576000000 := by omega
     obtain ⟨hs5, hs6⟩ := hs4;have KQ' := ħ KQ;have hc8 := KQ.cells wr hbel
     have hlti : (j : Int) < nd.kids.length := by omega
     clear hx hl1 KQ hs3 hlen
     go_wp2_with fail
     refine (KQ'.o.call wr hbel).mono ?_;rintro e w1 ⟨rfl, hb1⟩;have hbw := hbel.trans (hb1.mono hbel.size);clear hc8 c7;go_wp2;go_roundw
     case rel => exact ⟨j + 1, _, by omega, by go_num, rfl, by omega, by omega, HN1.o, hbw⟩
     case measure => simp [intOf]; omega
    ·have hjl : j = nd.kids.length := by omega
     have hlc : l0 = c := by rw [HE.o, hjl, Ă, HCC.o]
     subst hjl hlc;clear HE hlt;generalize hU : nd.lo * l0 = U at *;generalize hV2 : (nd.hi - nd.lo) * (l0 + 1) = V at *
     by_cases hh : nd.hi < 0
     ·have hh1 : nd.hi = -1 := by omega
      by_cases hm2 : nd.mode = 2
      ·have hm2' : (nd.mode == 2) = true := by simp [hm2]
       have HZ2 : Hid (z = Ï (U + (l0 + 4) + 2)) := ħ (by rw [HZ.o, if_pos hh1, if_pos hm2])
       clear hh1 hm2
       by_cases hbig : (1048576 : Int) < U + l0 + 4 + 2
       ·have e : z = 1048576 := by rw [HZ2.o]; unfold Ï far; rw [if_pos (by omega)]
        have E := ħ e;clear e;go_wp2;go_ret;exact ⟨Õ E.o.symm, hb0.trans (hbel.mono hb0.size)⟩
       ·have e : z = U + l0 + 4 + 2 := by have h := HZ2.o; unfold Ï far at h; rw [if_neg (by omega)] at h; omega
        have E := ħ e;clear e;go_wp2;go_ret;exact ⟨Õ E.o.symm, hb0.trans (hbel.mono hb0.size)⟩
      ·have hm2' : (nd.mode == 2) = false := by simp [hm2]
       have HZ2 : Hid (z = Ï (U + (l0 + 4))) := ħ (by rw [HZ.o, if_pos hh1, if_neg hm2, Int.add_zero])
       clear hh1 hm2
       by_cases hbig : (1048576 : Int) < U + l0 + 4
       ·have e : z = 1048576 := by rw [HZ2.o]; unfold Ï far; rw [if_pos (by omega)]
        have E := ħ e;clear e;go_wp2;go_ret;exact ⟨Õ E.o.symm, hb0.trans (hbel.mono hb0.size)⟩
       ·have e : z = U + l0 + 4 := by have h := HZ2.o; unfold Ï far at h; rw [if_neg (by omega)] at h; omega
        have E := ħ e;clear e;go_wp2;go_ret;exact ⟨Õ E.o.symm, hb0.trans (hbel.mono hb0.size)⟩
     ·have hh1 : ¬ nd.hi = -1 := by omega
      have hV0 : 0 ≤ V := Q2.o hh1
      by_cases hm2 : nd.mode = 2
      ·have hm2' : (nd.mode == 2) = true := by simp [hm2]
       have HZ2 : Hid (z = Ï (U + V + 2)) := ħ (by rw [HZ.o, if_neg hh1, if_pos hm2])
       clear hh1 hm2
       by_cases hbig : (1048576 : Int) < U + V + 2
       ·have e : z = 1048576 := by rw [HZ2.o]; unfold Ï far; rw [if_pos (by omega)]
        have E := ħ e;clear e;go_wp2;go_ret;exact ⟨Õ E.o.symm, hb0.trans (hbel.mono hb0.size)⟩
       ·have e : z = U + V + 2 := by have h := HZ2.o; unfold Ï far at h; rw [if_neg (by omega)] at h; omega
        have E := ħ e;clear e;go_wp2;go_ret;exact ⟨Õ E.o.symm, hb0.trans (hbel.mono hb0.size)⟩
      ·have hm2' : (nd.mode == 2) = false := by simp [hm2]
       have HZ2 : Hid (z = Ï (U + V)) := ħ (by rw [HZ.o, if_neg hh1, if_neg hm2, Int.add_zero])
       clear hh1 hm2
       by_cases hbig : (1048576 : Int) < U + V
       ·have e : z = 1048576 := by rw [HZ2.o]; unfold Ï far; rw [if_pos (by omega)]
        have E := ħ e;clear e;go_wp2;go_ret;exact ⟨Õ E.o.symm, hb0.trans (hbel.mono hb0.size)⟩
       ·have e : z = U + V := by have h := HZ2.o; unfold Ï far at h; rw [if_neg (by omega)] at h; omega
        have E := ħ e;clear e;go_wp2;go_ret;exact ⟨Õ E.o.symm, hb0.trans (hbel.mono hb0.size)⟩
 exact goal
theorem Íl (n : Nat) : ÎP n := by
 induction n with
 | zero =>
  intro nd h
  cases nd with
  | mk a b c d e f g => simp only [Nd.mk.sizeOf_spec] at h; omega
 | succ n ih => exact Ëo n ih
end
section
open Go.RowKit
open Go.Proofs.YtpginkdkblmnbaaGreatDoor.Cl (Rg à Ý Ä)
variable {w w' : World}
theorem Àk {a b : Bool} (h : a = b) : Ending.returned (.bool a) = .returned (.bool b) := by rw [h]
abbrev Ëp := QC 44 (fun nd => .bool (Ë nd))
set_option maxRecDepth 100000 in
set_option maxHeartbeats 8000000 in
theorem ÉS (n : Nat) (ih : Ëp n) : Ëp (n + 1) := by
 intro nd hsz hw w A1 A2 n1 p1 p2 nb hN
 show Calls _ _ _ w fun e w' => e = .returned (.bool (Ë nd)) ∧ Below w.heap.size w w'
 obtain ⟨b, off, hkv, hm⟩ := hN.kidsQ;have HW := ħ hw;have HO := ħ (ÀX hw hsz);have HI := ħ ih;have hnb := ÅO nd;have HB0 := ħ (Blk.new w 38 #[.int .i64 nd.kind, .int .i64 nd.lo, .int .i64 nd.hi, .int .i64 nd.mode, .int .i64 nd.ref, .slice A1 n1 p1, .bool nb, .slice A2 nd.kids.length p2]);have hb0 := ÂK w #[.int .i64 nd.kind, .int .i64 nd.lo, .int .i64 nd.hi, .int .i64 nd.mode, .int .i64 nd.ref, .slice A1 n1 p1, .bool nb, .slice A2 nd.kids.length p2];have HV := ħ (hkv.on hb0);clear hkv hN ih hw hsz;obtain ⟨bv, hbv⟩ : ∃ bv, bv = Ë nd := ⟨_, rfl⟩;rw [← hbv];rw [← hbv] at hnb;clear hbv;obtain ⟨k, hk⟩ : ∃ k, k = nd.kind := ⟨_, rfl⟩;rw [← hk] at hnb HB0 hb0 HV ⊢;have HK0 := ħ hk
 by_cases hl : k = 7 ∧ 2 ≤ nd.mode
 ·obtain ⟨h7, hmo⟩ := hl
  have hl1 : nd.kids.length = 1 := by have hs := HW.o.shape; rw [← hk, h7] at hs; unfold Ü at hs; omega
  obtain ⟨x, hx⟩ := Ào hl1
  have hx0 : nd.kids[0]? = some x := by rw [hx]; rfl
  have hwx : Wf x := HW.o.kids x (by rw [hx]; simp)
  have hpos : (0 : Int) < (nd.kids.length : Int) := by omega
  have hbf : Ál k nd.mode (nd.kids.map å) = !decide (å x < 0 ∨ 32 < å x) := by
   rw [hx]; unfold Ál; simp [h7, hmo, hd]
  rw [hbf] at hnb;obtain ⟨hA, hb, k0, k1, k2, k3, k4, B1, B2, m1, q1, m2, q2, nb2, KQ⟩ := Ġ (ÎO n) HV.o HO.o hx0
  have KQ' : Hid (Ík 12 (.int .i64 (å x)) _ b off (.int .i64 k0) (.int .i64 k1) (.int .i64 k2) (.int .i64 k3) (.int .i64 k4) (.slice B1 m1 q1) (.bool nb2) (.slice B2 m2 q2)) := ħ (by rw [Nat.zero_mul, Nat.add_zero] at KQ; exact KQ)
  subst h7 hA;clear hx hl1 hx0 hwx KQ hbf hk;generalize å x = l1 at *
  by_cases hf : l1 < 0 ∨ 32 < l1
  ·have E : Hid (bv = false) := ħ (by rw [hnb]; simp [hf])
   clear hnb
   by_cases h1 : l1 < 0
   ·clear hf
    go_enter Tryz.func44, Tryz.ntmps44
    go_upto_region 1 with (fail)
    have h8 := HB0.o.c8;generalize w.alloc (.cells #[.int .i64 7, .int .i64 nd.lo, .int .i64 nd.hi, .int .i64 nd.mode, .int .i64 nd.ref, .slice A1 n1 p1, .bool nb, .slice (some ⟨b, off, none⟩) nd.kids.length p2] 38) = W at *;have hc8 := KQ'.o.cells W (ā _ _)
    go_wp2_with fail
    refine (KQ'.o.call W (ā _ _)).mono ?_;rintro e w1 ⟨rfl, hb1⟩;have hbw := hb0.trans (hb1.mono hb0.size);go_wp2;go_ret;exact ⟨Àk E.o.symm, hbw⟩
   ·have h2 : 32 < l1 := by omega
    clear hf;go_enter Tryz.func44, Tryz.ntmps44
    go_upto_region 1 with (fail)
    have h8 := HB0.o.c8;generalize w.alloc (.cells #[.int .i64 7, .int .i64 nd.lo, .int .i64 nd.hi, .int .i64 nd.mode, .int .i64 nd.ref, .slice A1 n1 p1, .bool nb, .slice (some ⟨b, off, none⟩) nd.kids.length p2] 38) = W at *;have hc8 := KQ'.o.cells W (ā _ _)
    go_wp2_with fail
    refine (KQ'.o.call W (ā _ _)).mono ?_;rintro e w1 ⟨rfl, hb1⟩;have hbw := hb0.trans (hb1.mono hb0.size);go_wp2;go_ret;exact ⟨Àk E.o.symm, hbw⟩
  ·have HNB : Hid (bv = nd.kids.all Ë) := ħ (by rw [hnb]; simp [hf])
   have h1 : ¬ l1 < 0 := by omega
   have h2 : ¬ 32 < l1 := by omega
   clear hnb hf;go_enter Tryz.func44, Tryz.ntmps44
   go_upto_region 1 with (fail)
   have h8 := HB0.o.c8;generalize w.alloc (.cells #[.int .i64 7, .int .i64 nd.lo, .int .i64 nd.hi, .int .i64 nd.mode, .int .i64 nd.ref, .slice A1 n1 p1, .bool nb, .slice (some ⟨b, off, none⟩) nd.kids.length p2] 38) = W at *;have hc8 := KQ'.o.cells W (ā _ _)
   go_wp2_with fail
   refine (KQ'.o.call W (ā _ _)).mono ?_;rintro e w1 ⟨rfl, hb1⟩;have HBS := ħ hb1;have h88 := (HB0.o.on hb1).c8;clear hc8 h8 hb1 KQ';go_wp2
   go_loopw [4] (fun i wr => ∃ (j : Nat), j ≤ nd.kids.length ∧ i = .int .i64 j ∧ Hid ((nd.kids.take j).all Ë = true) ∧ Below W.heap.size W wr) (fun i _ => nd.kids.length - (intOf i).toNat)
   case atStart => exact ⟨0, Ą _, rfl, ħ rfl, HBS.o⟩
   case round =>
    obtain ⟨j, hj, rfl, HE, hbel⟩ := hrel;have hbr := HB0.o.on hbel;have c7 := hbr.c8.2.2.2.2.2.2.2;clear hbr
    by_cases hlt : j < nd.kids.length
    ·obtain ⟨x, hx⟩ : ∃ x, nd.kids[j]? = some x := ⟨_, Ā hlt⟩
     obtain ⟨hA, hb, k0, k1, k2, k3, k4, B1, B2, m1, q1, m2, q2, nb2, KQ⟩ := Ġ HI.o HV.o HO.o hx;clear hA;have HX := ħ hx;obtain ⟨bx, hbx⟩ : ∃ bx, bx = Ë x := ⟨_, rfl⟩
     have KQ2 : Ík 44 (.bool bx) W b (off + j * 8) (.int .i64 k0) (.int .i64 k1) (.int .i64 k2) (.int .i64 k3) (.int .i64 k4) (.slice B1 m1 q1) (.bool nb2) (.slice B2 m2 q2) := by rw [hbx]; exact KQ
     have HBX := ħ hbx;have KQ' := ħ KQ2;have hc8 := KQ.cells wr hbel
     have hlti : (j : Int) < nd.kids.length := by omega
     clear hx hbx KQ KQ2
     cases bx with
     | true =>
      have hf : Hid ((nd.kids.take (j + 1)).all Ë = true) := ħ (by rw [ú HX.o, List.all_append, HE.o]; simp [← HBX.o])
      go_wp2_with fail
      refine (KQ'.o.call wr hbel).mono ?_;rintro e w1 ⟨rfl, hb1⟩;have hbw := hbel.trans (hb1.mono hbel.size);clear hc8 c7;go_wp2;go_roundw
      case rel => exact ⟨j + 1, by omega, by go_num, hf, hbw⟩
      case measure => simp [intOf]; omega
     | false =>
      have E : Hid (bv = false) := ħ (by rw [HNB.o, List.all_eq_false]; exact ⟨x, Č HX.o, by rw [← HBX.o]; simp⟩)
      go_wp2_with fail
      refine (KQ'.o.call wr hbel).mono ?_;rintro e w1 ⟨rfl, hb1⟩;have hbw := hbel.trans (hb1.mono hbel.size);clear hc8 c7;go_wp2;go_ret;exact ⟨Àk E.o.symm, hb0.trans (hbw.mono hb0.size)⟩
    ·have hjl : j = nd.kids.length := by omega
     have E : Hid (bv = true) := ħ (by rw [HNB.o]; have := HE.o; rwa [hjl, Ă] at this)
     subst hjl;clear HE hlt;go_wp2;go_ret;exact ⟨Àk E.o.symm, hb0.trans (hbel.mono hb0.size)⟩
 ·have HNB : Hid (bv = nd.kids.all Ë) := ħ (by rw [hnb]; unfold Ál; simp [hl])
  clear hnb
  by_cases h7 : k = 7
  ·have hmo : ¬ 2 ≤ nd.mode := fun h => hl ⟨h7, h⟩
   subst h7;clear hl hk;go_enter Tryz.func44, Tryz.ntmps44
   go_upto_region 1 with (fail)
   have h8 := HB0.o.c8;generalize w.alloc (.cells #[.int .i64 7, .int .i64 nd.lo, .int .i64 nd.hi, .int .i64 nd.mode, .int .i64 nd.ref, .slice A1 n1 p1, .bool nb, .slice A2 nd.kids.length p2] 38) = W at *;have HBS := ħ (ā W.heap.size W);go_wp2
   go_loopw [4] (fun i wr => ∃ (j : Nat), j ≤ nd.kids.length ∧ i = .int .i64 j ∧ Hid ((nd.kids.take j).all Ë = true) ∧ Below W.heap.size W wr) (fun i _ => nd.kids.length - (intOf i).toNat)
   case atStart => exact ⟨0, Ą _, rfl, ħ rfl, HBS.o⟩
   case round =>
    obtain ⟨j, hj, rfl, HE, hbel⟩ := hrel;have hbr := HB0.o.on hbel;have c7 := hbr.c8.2.2.2.2.2.2.2;clear hbr
    by_cases hlt : j < nd.kids.length
    ·obtain ⟨x, hx⟩ : ∃ x, nd.kids[j]? = some x := ⟨_, Ā hlt⟩
     obtain ⟨hA, hb, k0, k1, k2, k3, k4, B1, B2, m1, q1, m2, q2, nb2, KQ⟩ := Ġ HI.o HV.o HO.o hx;subst hA;have HX := ħ hx;obtain ⟨bx, hbx⟩ : ∃ bx, bx = Ë x := ⟨_, rfl⟩
     have KQ2 : Ík 44 (.bool bx) W b (off + j * 8) (.int .i64 k0) (.int .i64 k1) (.int .i64 k2) (.int .i64 k3) (.int .i64 k4) (.slice B1 m1 q1) (.bool nb2) (.slice B2 m2 q2) := by rw [hbx]; exact KQ
     have HBX := ħ hbx;have KQ' := ħ KQ2;have hc8 := KQ.cells wr hbel
     have hlti : (j : Int) < nd.kids.length := by omega
     clear hx hbx KQ KQ2
     cases bx with
     | true =>
      have hf : Hid ((nd.kids.take (j + 1)).all Ë = true) := ħ (by rw [ú HX.o, List.all_append, HE.o]; simp [← HBX.o])
      go_wp2_with fail
      refine (KQ'.o.call wr hbel).mono ?_;rintro e w1 ⟨rfl, hb1⟩;have hbw := hbel.trans (hb1.mono hbel.size);clear hc8 c7;go_wp2;go_roundw
      case rel => exact ⟨j + 1, by omega, by go_num, hf, hbw⟩
      case measure => simp [intOf]; omega
     | false =>
      have E : Hid (bv = false) := ħ (by rw [HNB.o, List.all_eq_false]; exact ⟨x, Č HX.o, by rw [← HBX.o]; simp⟩)
      go_wp2_with fail
      refine (KQ'.o.call wr hbel).mono ?_;rintro e w1 ⟨rfl, hb1⟩;have hbw := hbel.trans (hb1.mono hbel.size);clear hc8 c7;go_wp2;go_ret;exact ⟨Àk E.o.symm, hb0.trans (hbw.mono hb0.size)⟩
    ·have hjl : j = nd.kids.length := by omega
     have E : Hid (bv = true) := ħ (by rw [HNB.o]; have := HE.o; rwa [hjl, Ă] at this)
     subst hjl;clear HE hlt;go_wp2;go_ret;exact ⟨Àk E.o.symm, hb0.trans (hbel.mono hb0.size)⟩
  ·have h7' : (k == 7) = false := by simp [h7]
   clear hl hk h7;go_enter Tryz.func44, Tryz.ntmps44
   go_upto_region 1 with (fail)
   have h8 := HB0.o.c8;generalize w.alloc (.cells #[.int .i64 k, .int .i64 nd.lo, .int .i64 nd.hi, .int .i64 nd.mode, .int .i64 nd.ref, .slice A1 n1 p1, .bool nb, .slice A2 nd.kids.length p2] 38) = W at *;have HBS := ħ (ā W.heap.size W);go_wp2
   go_loopw [4] (fun i wr => ∃ (j : Nat), j ≤ nd.kids.length ∧ i = .int .i64 j ∧ Hid ((nd.kids.take j).all Ë = true) ∧ Below W.heap.size W wr) (fun i _ => nd.kids.length - (intOf i).toNat)
   case atStart => exact ⟨0, Ą _, rfl, ħ rfl, HBS.o⟩
   case round =>
    obtain ⟨j, hj, rfl, HE, hbel⟩ := hrel;have hbr := HB0.o.on hbel;have c7 := hbr.c8.2.2.2.2.2.2.2;clear hbr
    by_cases hlt : j < nd.kids.length
    ·obtain ⟨x, hx⟩ : ∃ x, nd.kids[j]? = some x := ⟨_, Ā hlt⟩
     obtain ⟨hA, hb, k0, k1, k2, k3, k4, B1, B2, m1, q1, m2, q2, nb2, KQ⟩ := Ġ HI.o HV.o HO.o hx;subst hA;have HX := ħ hx;obtain ⟨bx, hbx⟩ : ∃ bx, bx = Ë x := ⟨_, rfl⟩
     have KQ2 : Ík 44 (.bool bx) W b (off + j * 8) (.int .i64 k0) (.int .i64 k1) (.int .i64 k2) (.int .i64 k3) (.int .i64 k4) (.slice B1 m1 q1) (.bool nb2) (.slice B2 m2 q2) := by rw [hbx]; exact KQ
     have HBX := ħ hbx;have KQ' := ħ KQ2;have hc8 := KQ.cells wr hbel
     have hlti : (j : Int) < nd.kids.length := by omega
     clear hx hbx KQ KQ2
     cases bx with
     | true =>
      have hf : Hid ((nd.kids.take (j + 1)).all Ë = true) := ħ (by rw [ú HX.o, List.all_append, HE.o]; simp [← HBX.o])
      go_wp2_with fail
      refine (KQ'.o.call wr hbel).mono ?_;rintro e w1 ⟨rfl, hb1⟩;have hbw := hbel.trans (hb1.mono hbel.size);clear hc8 c7;go_wp2;go_roundw
      case rel => exact ⟨j + 1, by omega, by go_num, hf, hbw⟩
      case measure => simp [intOf]; omega
     | false =>
      have E : Hid (bv = false) := ħ (by rw [HNB.o, List.all_eq_false]; exact ⟨x, Č HX.o, by rw [← HBX.o]; simp⟩)
      go_wp2_with fail
      refine (KQ'.o.call wr hbel).mono ?_;rintro e w1 ⟨rfl, hb1⟩;have hbw := hbel.trans (hb1.mono hbel.size);clear hc8 c7;go_wp2;go_ret;exact ⟨Àk E.o.symm, hb0.trans (hbw.mono hb0.size)⟩
    ·have hjl : j = nd.kids.length := by omega
     have E : Hid (bv = true) := ħ (by rw [HNB.o]; have := HE.o; rwa [hjl, Ă] at this)
     subst hjl;clear HE hlt;go_wp2;go_ret;exact ⟨Àk E.o.symm, hb0.trans (hbel.mono hb0.size)⟩
theorem Ím (n : Nat) : Ëp n := by
 induction n with
 | zero =>
  intro nd h
  cases nd with
  | mk a b c d e f g => simp only [Nd.mk.sizeOf_spec] at h; omega
 | succ n ih => exact ÉS n ih
set_option maxRecDepth 100000 in
set_option maxHeartbeats 8000000 in
theorem Ëq (nd : Nd) (hw : Wf nd) (w : World) (A1 A2 : Option Addr) (n1 p1 p2 : Nat) (nb : Bool) (hN : Ó (fun b => b < w.heap.size) w nd (.slice A1 n1 p1) nb (.slice A2 nd.kids.length p2)) :
 Calls Tryz.prog 16 #[.agg #[.int .i64 nd.kind, .int .i64 nd.lo, .int .i64 nd.hi, .int .i64 nd.mode, .int .i64 nd.ref, .slice A1 n1 p1, .bool nb, .slice A2 nd.kids.length p2]] w fun e w' => e = .returned (.int .i64 ((ì nd : Nat) : Int)) ∧ Below w.heap.size w w' := by
 have HB0 := ħ (Blk.new w 38 #[.int .i64 nd.kind, .int .i64 nd.lo, .int .i64 nd.hi, .int .i64 nd.mode, .int .i64 nd.ref, .slice A1 n1 p1, .bool nb, .slice A2 nd.kids.length p2]);have hb0 := ÂK w #[.int .i64 nd.kind, .int .i64 nd.lo, .int .i64 nd.hi, .int .i64 nd.mode, .int .i64 nd.ref, .slice A1 n1 p1, .bool nb, .slice A2 nd.kids.length p2];have HN := ħ (hN.on_ hb0)
 have HBd : Hid (∀ W : World, Ó (fun b => b < W.heap.size) W nd (.slice A1 n1 p1) nb (.slice A2 nd.kids.length p2) → Calls Tryz.prog 44 #[.agg #[.int .i64 nd.kind, .int .i64 nd.lo, .int .i64 nd.hi, .int .i64 nd.mode, .int .i64 nd.ref, .slice A1 n1 p1, .bool nb, .slice A2 nd.kids.length p2]] W fun e w' => e = .returned (.bool (Ë nd)) ∧ Below W.heap.size W w') := ħ (fun W h => Ím _ nd (ŋ _) hw W A1 A2 n1 p1 p2 nb h)
 have HSz : Hid (∀ W : World, Ó (fun b => b < W.heap.size) W nd (.slice A1 n1 p1) nb (.slice A2 nd.kids.length p2) → Calls Tryz.prog 14 #[.agg #[.int .i64 nd.kind, .int .i64 nd.lo, .int .i64 nd.hi, .int .i64 nd.mode, .int .i64 nd.ref, .slice A1 n1 p1, .bool nb, .slice A2 nd.kids.length p2]] W fun e w' => e = .returned (.int .i64 (Å nd)) ∧ Below W.heap.size W w') := ħ (fun W h => Íl _ nd (ŋ _) hw W A1 A2 n1 p1 p2 nb h)
 have hr := Ö hw;unfold far at hr;obtain ⟨r1, r2⟩ := hr
 have hv : ì nd = if Ë nd then (if 2000 < Å nd + 3 then 28 else 0) else 27 := rfl
 rw [hv];generalize Å nd = z at *;generalize Ë nd = bd at *;clear hN hw hv
 cases bd with
 | false =>
  simp only [Ċ, if_false];go_enter Tryz.func16, Tryz.ntmps16
  go_upto_region 1 with (fail)
  have h8 := HB0.o.c8;generalize w.alloc (.cells #[.int .i64 nd.kind, .int .i64 nd.lo, .int .i64 nd.hi, .int .i64 nd.mode, .int .i64 nd.ref, .slice A1 n1 p1, .bool nb, .slice A2 nd.kids.length p2] 38) = W at *
  go_wp2_with fail
  refine (HBd.o W HN.o).mono ?_;rintro e w1 ⟨rfl, hb1⟩;have hbw := hb0.trans (hb1.mono hb0.size);go_wp2;go_ret;exact ⟨rfl, hbw⟩
 | true =>
  simp only [if_true]
  by_cases hz : 2000 < z + 3
  ·rw [if_pos hz]
   go_enter Tryz.func16, Tryz.ntmps16
   go_upto_region 1 with (fail)
   have h8 := HB0.o.c8;generalize w.alloc (.cells #[.int .i64 nd.kind, .int .i64 nd.lo, .int .i64 nd.hi, .int .i64 nd.mode, .int .i64 nd.ref, .slice A1 n1 p1, .bool nb, .slice A2 nd.kids.length p2] 38) = W at *
   go_wp2_with fail
   refine (HBd.o W HN.o).mono ?_;rintro e w1 ⟨rfl, hb1⟩;have hbw := hb0.trans (hb1.mono hb0.size);have h88 := (HB0.o.on hb1).c8;have HN1 := ħ (HN.o.on_ hb1);clear h8
   go_wp2_with fail
   refine (HSz.o w1 HN1.o).mono ?_;rintro e w2 ⟨rfl, hb2⟩;have hbw2 := hbw.trans (hb2.mono hbw.size);go_wp2;go_ret;exact ⟨rfl, hbw2⟩
  ·rw [if_neg hz]
   go_enter Tryz.func16, Tryz.ntmps16
   go_upto_region 1 with (fail)
   have h8 := HB0.o.c8;generalize w.alloc (.cells #[.int .i64 nd.kind, .int .i64 nd.lo, .int .i64 nd.hi, .int .i64 nd.mode, .int .i64 nd.ref, .slice A1 n1 p1, .bool nb, .slice A2 nd.kids.length p2] 38) = W at *
   go_wp2_with fail
   refine (HBd.o W HN.o).mono ?_;rintro e w1 ⟨rfl, hb1⟩;have hbw := hb0.trans (hb1.mono hb0.size);have h88 := (HB0.o.on hb1).c8;have HN1 := ħ (HN.o.on_ hb1);clear h8
   go_wp2_with fail
   refine (HSz.o w1 HN1.o).mono ?_;rintro e w2 ⟨rfl, hb2⟩;have hbw2 := hbw.trans (hb2.mono hbw.size);go_wp2;go_ret;exact ⟨rfl, hbw2⟩
end
end Go.Proofs.YtpginkdkblmnbaaGreatDoor
