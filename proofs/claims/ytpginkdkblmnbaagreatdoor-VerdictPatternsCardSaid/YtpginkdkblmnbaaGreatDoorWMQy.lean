import Derived.Test.YtpginkdkblmnbaaGreatDoorWMQa
import Derived.Test.YtpginkdkblmnbaaGreatDoorWMSa
import Derived.Deep.RegionHeld
namespace Go.Proofs.YtpginkdkblmnbaaGreatDoor
section
open Go.RowKit
open Go.Proofs.YtpginkdkblmnbaaGreatDoor.Cl (Rg à Ý Ä)
variable {w w' : World}
theorem Blk.c8 {g : Nat} {t : TypeId} {x0 x1 x2 x3 x4 x5 x6 x7 : Value} (h : Blk w g t #[x0, x1, x2, x3, x4, x5, x6, x7]) : w.cell? ⟨g, 0, none⟩ = some x0 ∧ w.cell? ⟨g, 1, none⟩ = some x1 ∧ w.cell? ⟨g, 2, none⟩ = some x2 ∧ w.cell? ⟨g, 3, none⟩ = some x3 ∧ w.cell? ⟨g, 4, none⟩ = some x4 ∧
 w.cell? ⟨g, 5, none⟩ = some x5 ∧ w.cell? ⟨g, 6, none⟩ = some x6 ∧ w.cell? ⟨g, 7, none⟩ = some x7 :=
 ⟨h.cell 0, h.cell 1, h.cell 2, h.cell 3, h.cell 4, h.cell 5, h.cell 6, h.cell 7⟩
def ÉQ (w : World) (L : List Nd) (A : Option Addr) (b off : Nat) : Prop := ∀ i x, L[i]? = some x → A = some ⟨b, off, none⟩ ∧ b < w.heap.size ∧
 ∃ A1 n1 p1 nb A2 p2, Ó (fun b => b < w.heap.size) w x (.slice A1 n1 p1) nb (.slice A2 x.kids.length p2) ∧ Ás w b (off + i * 8) x (.slice A1 n1 p1) nb (.slice A2 x.kids.length p2)
theorem Ó.on_ {nd : Nd} {sv kv : Value} {nb : Bool} (h : Ó (fun b => b < w.heap.size) w nd sv nb kv) (hb : Below w.heap.size w w') : Ó (fun b => b < w'.heap.size) w' nd sv nb kv :=
 h.keep fun b hk => ⟨Ć hk hb.size, hb.block b hk⟩
theorem ÉQ.on {L : List Nd} {A : Option Addr} {b off : Nat} (h : ÉQ w L A b off) (hb : Below w.heap.size w w') : ÉQ w' L A b off := fun i x hx => by
 obtain ⟨h1, h2, A1, n1, p1, nb, A2, p2, h3, h4⟩ := h i x hx;exact ⟨h1, Ć h2 hb.size, A1, n1, p1, nb, A2, p2, h3.on_ hb, h4.on (hb.block b h2)⟩
theorem Ó.kidsQ {nd : Nd} {A1 A2 : Option Addr} {n1 p1 p2 : Nat} {nb : Bool} (h : Ó (fun b => b < w.heap.size) w nd (.slice A1 n1 p1) nb (.slice A2 nd.kids.length p2)) : ∃ b off, ÉQ w nd.kids A2 b off ∧ nd.kids.length ≤ 1000000 := by
 obtain ⟨A, cap, b, off, he, _, hm, hk⟩ := h.parts;obtain ⟨rfl, _, rfl⟩ := Value.slice.inj he
 exact ⟨b, off, fun i x hx => hk i x hx, hm⟩
def QC (f : FuncId) (r : Nd → Value) (n : Nat) : Prop := ∀ (nd : Nd), SizeOf.sizeOf nd ≤ n → Wf nd → ∀ (w : World) (A1 A2 : Option Addr) (n1 p1 p2 : Nat) (nb : Bool), Ó (fun b => b < w.heap.size) w nd (.slice A1 n1 p1) nb (.slice A2 nd.kids.length p2) →
 Calls Tryz.prog f #[.agg #[.int .i64 nd.kind, .int .i64 nd.lo, .int .i64 nd.hi, .int .i64 nd.mode, .int .i64 nd.ref, .slice A1 n1 p1, .bool nb, .slice A2 nd.kids.length p2]] w fun e w' => e = .returned (r nd) ∧ Below w.heap.size w w'
structure Ík (f : FuncId) (v : Value) (w : World) (b o : Nat) (x0 x1 x2 x3 x4 x5 x6 x7 : Value) : Prop where
 cells : ∀ wr, Below w.heap.size w wr → wr.cell? ⟨b, o, none⟩ = some x0 ∧ wr.cell? ⟨b, o + 1, none⟩ = some x1 ∧ wr.cell? ⟨b, o + 2, none⟩ = some x2 ∧ wr.cell? ⟨b, o + 3, none⟩ = some x3 ∧ wr.cell? ⟨b, o + 4, none⟩ = some x4 ∧ wr.cell? ⟨b, o + 5, none⟩ = some x5 ∧ wr.cell? ⟨b, o + 6, none⟩ = some x6 ∧ wr.cell? ⟨b, o + 7, none⟩ = some x7
 call : ∀ wr, Below w.heap.size w wr → Calls Tryz.prog f #[.agg #[x0, x1, x2, x3, x4, x5, x6, x7]] wr fun e w' => e = .returned v ∧ Below wr.heap.size wr w'
theorem Ġ {f : FuncId} {r : Nd → Value} {n : Nat} (ih : QC f r n) {L : List Nd} {A : Option Addr} {b off : Nat} (hK : ÉQ w L A b off) (hL : ∀ x ∈ L, Wf x ∧ SizeOf.sizeOf x ≤ n) {k : Nat} {x : Nd} (hx : L[k]? = some x) :
 A = some ⟨b, off, none⟩ ∧ b < w.heap.size ∧ ∃ (k0 k1 k2 k3 k4 : Int) (A1 A2 : Option Addr) (n1 p1 n2 p2 : Nat) (nb : Bool), Ík f (r x) w b (off + k * 8) (.int .i64 k0) (.int .i64 k1) (.int .i64 k2) (.int .i64 k3) (.int .i64 k4) (.slice A1 n1 p1) (.bool nb) (.slice A2 n2 p2) := by
 obtain ⟨h1, h2, A1, n1, p1, nb, A2, p2, h3, h4⟩ := hK k x hx;obtain ⟨hw, hs⟩ := hL x (Č hx)
 exact ⟨h1, h2, _, _, _, _, _, A1, A2, n1, p1, _, p2, nb, fun wr hb => (h4.on (hb.block b h2)).eight, fun wr hb => ih x hs hw wr A1 A2 n1 p1 p2 nb (h3.on_ hb)⟩
theorem Õ {k : IntKind} {a b : Int} (h : a = b) : Ending.returned (.int k a) = .returned (.int k b) := by rw [h]
theorem Ñr (w : World) : Below w.heap.size w (w.drewN 1) := ⟨rfl, rfl, rfl, ŋ _, fun _ _ => rfl⟩
theorem ú {L : List Nd} {k : Nat} {x : Nd} (h : L[k]? = some x) : L.take (k + 1) = L.take k ++ [x] := by
 obtain ⟨hk, rfl⟩ := List.getElem?_eq_some_iff.1 h;rw [ĕ hk]
theorem ÂK (w : World) (cs : Array Value) : Below w.heap.size w (w.alloc (.cells cs 38)) := (ā _ _).alloc (ŋ _) _
theorem Àt (l : List Nd) (h : ∀ x ∈ l, Wf x) (f : Nd → Int) (hf : ∀ x, Wf x → 0 ≤ f x ∧ f x ≤ 1048576) : 0 ≤ (l.map f).sum ∧ (l.map f).sum ≤ 1048576 * l.length := by
 induction l with
 | nil => simp
 | cons x l ih =>
  have h1 := ih fun y hy => h y (by simp [hy])
  have h2 := hf x (h x (by simp))
  simp only [List.map_cons, List.sum_cons, ć];omega
end
section
open Go.RowKit
open Go.Proofs.YtpginkdkblmnbaaGreatDoor.Cl (Rg à Ý Ä)
variable {w w' : World}
theorem ÏT (b : Int) : Ãq (-1) b = -1 := by simp [Ãq]
theorem ÏU (b : Int) : Âp (-1) b = -1 := by simp [Âp]
theorem Æv : ∀ (b a : List Nd), (∀ x ∈ b, Wf x) → ê a = -1 → ê (a ++ b) = -1
 | [], a, _, h => by rw [List.append_nil]; exact h
 | x :: b, a, hb, h => by
  have := Æv b (a ++ [x]) (fun y hy => hb y (by simp [hy])) (by rw [Ãr (hb x (by simp)), h, ÏT])
  rwa [List.append_assoc] at this
theorem Æw : ∀ (b a : List Nd), (∀ x ∈ b, Wf x) → Ŧ a = -1 → Ŧ (a ++ b) = -1
 | [], a, _, h => by rw [List.append_nil]; exact h
 | x :: b, a, hb, h => by
  have := Æw b (a ++ [x]) (fun y hy => hb y (by simp [hy])) (by rw [Ãs (hb x (by simp)), h, ÏU])
  rwa [List.append_assoc] at this
theorem ÉR {L : List Nd} (h : ∀ x ∈ L, Wf x) (k : Nat) (h1 : ê (L.take k) = -1) : ê L = -1 := by
 have := Æv (L.drop k) (L.take k) (fun x hx => h x (List.mem_of_mem_drop hx)) h1
 rwa [List.take_append_drop] at this
theorem ÎM {L : List Nd} (h : ∀ x ∈ L, Wf x) (k : Nat) (h1 : Ŧ (L.take k) = -1) : Ŧ L = -1 := by
 have := Æw (L.drop k) (L.take k) (fun x hx => h x (List.mem_of_mem_drop hx)) h1
 rwa [List.take_append_drop] at this
abbrev ÎN := QC 12 (fun nd => .int .i64 (å nd))
set_option maxRecDepth 100000 in
set_option maxHeartbeats 8000000 in
theorem Ën (n : Nat) (ih : ÎN n) : ÎN (n + 1) := by
 intro nd hsz hw w A1 A2 n1 p1 p2 nb hN
 show Calls _ _ _ w fun e w' => e = .returned (.int .i64 (å nd)) ∧ Below w.heap.size w w'
 obtain ⟨b, off, hkv, hm⟩ := hN.kidsQ;have HW := ħ hw;have HO := ħ (ÀX hw hsz);have HI := ħ ih;have hkd := ÃO hw.shape;obtain ⟨k, hk⟩ : ∃ k, k = nd.kind := ⟨_, rfl⟩;rw [← hk] at hkd ⊢;have hk' := hk.symm;have HB0 := ħ (Blk.new w 38 #[.int .i64 k, .int .i64 nd.lo, .int .i64 nd.hi, .int .i64 nd.mode, .int .i64 nd.ref, .slice A1 n1 p1, .bool nb, .slice A2 nd.kids.length p2]);have hb0 := ÂK w #[.int .i64 k, .int .i64 nd.lo, .int .i64 nd.hi, .int .i64 nd.mode, .int .i64 nd.ref, .slice A1 n1 p1, .bool nb, .slice A2 nd.kids.length p2];have HV := ħ (hkv.on hb0);clear hkv hN ih hw hsz hk
 rcases hkd with h | rfl | rfl | h | rfl | rfl
 ·rcases h with rfl | rfl | rfl
  ·have e := Àh (nd := nd) (by omega) (by omega) (by omega) (by omega) (by omega) (by omega) (by omega)
   rw [e.2];have HK' := ħ hk';clear e hk';go_enter Tryz.func12, Tryz.ntmps12
   go_upto_region 1 with (fail)
   have h8 := HB0.o.c8;generalize w.alloc (.cells #[.int .i64 0, .int .i64 nd.lo, .int .i64 nd.hi, .int .i64 nd.mode, .int .i64 nd.ref, .slice A1 n1 p1, .bool nb, .slice A2 nd.kids.length p2] 38) = W at *;go_wp2;go_ret;exact ⟨rfl, hb0⟩
  ·have e := Àh (nd := nd) (by omega) (by omega) (by omega) (by omega) (by omega) (by omega) (by omega)
   rw [e.2];have HK' := ħ hk';clear e hk';go_enter Tryz.func12, Tryz.ntmps12
   go_upto_region 1 with (fail)
   have h8 := HB0.o.c8;generalize w.alloc (.cells #[.int .i64 7, .int .i64 nd.lo, .int .i64 nd.hi, .int .i64 nd.mode, .int .i64 nd.ref, .slice A1 n1 p1, .bool nb, .slice A2 nd.kids.length p2] 38) = W at *;go_wp2;go_ret;exact ⟨rfl, hb0⟩
  ·have e := Àh (nd := nd) (by omega) (by omega) (by omega) (by omega) (by omega) (by omega) (by omega)
   rw [e.2];have HK' := ħ hk';clear e hk';go_enter Tryz.func12, Tryz.ntmps12
   go_upto_region 1 with (fail)
   have h8 := HB0.o.c8;generalize w.alloc (.cells #[.int .i64 9, .int .i64 nd.lo, .int .i64 nd.hi, .int .i64 nd.mode, .int .i64 nd.ref, .slice A1 n1 p1, .bool nb, .slice A2 nd.kids.length p2] 38) = W at *;go_wp2;go_ret;exact ⟨rfl, hb0⟩
 ·have e := ÅP hk'
  rw [e.2];have HK' := ħ hk';clear e hk';go_enter Tryz.func12, Tryz.ntmps12
  go_upto_region 1 with (fail)
  have h8 := HB0.o.c8;generalize w.alloc (.cells #[.int .i64 1, .int .i64 nd.lo, .int .i64 nd.hi, .int .i64 nd.mode, .int .i64 nd.ref, .slice A1 n1 p1, .bool nb, .slice A2 nd.kids.length p2] 38) = W at *;go_wp2;go_ret;exact ⟨rfl, hb0⟩
 ·have e := ÄO hk'
  rw [e.2];have HK' := ħ hk';clear e hk';go_enter Tryz.func12, Tryz.ntmps12
  go_upto_region 1 with (fail)
  have h8 := HB0.o.c8;generalize w.alloc (.cells #[.int .i64 6, .int .i64 nd.lo, .int .i64 nd.hi, .int .i64 nd.mode, .int .i64 nd.ref, .slice A1 n1 p1, .bool nb, .slice A2 nd.kids.length p2] 38) = W at *;go_wp2;go_ret;exact ⟨rfl, hb0⟩
 ·rcases h with rfl | rfl | rfl
  ·have e := ÀB HW.o (by omega)
   rw [e.2];have HK' := ħ hk';clear e hk';go_enter Tryz.func12, Tryz.ntmps12
   go_upto_region 1 with (fail)
   have h8 := HB0.o.c8;generalize w.alloc (.cells #[.int .i64 2, .int .i64 nd.lo, .int .i64 nd.hi, .int .i64 nd.mode, .int .i64 nd.ref, .slice A1 n1 p1, .bool nb, .slice A2 nd.kids.length p2] 38) = W at *;go_wp2
   go_loopw [3, 4] (fun a i wr => ∃ (j : Nat) (l0 : Int), j ≤ nd.kids.length ∧ i = .int .i64 j ∧ a = .int .i64 l0 ∧ 0 ≤ l0 ∧ l0 ≤ 1048576 ∧ Hid (l0 = ê (nd.kids.take j)) ∧ Below W.heap.size W wr) (fun _ i _ => nd.kids.length - (intOf i).toNat)
   case atStart => exact ⟨0, 0, Ą _, rfl, rfl, by omega, by omega, ħ rfl, ā _ _⟩
   case round =>
    obtain ⟨j, l0, hj, rfl, rfl, hs1, hs2, HE, hbel⟩ := hrel;have hbr := HB0.o.on hbel;have c7 := hbr.c8.2.2.2.2.2.2.2;clear hbr
    by_cases hlt : j < nd.kids.length
    ·obtain ⟨x, hx⟩ : ∃ x, nd.kids[j]? = some x := ⟨_, Ā hlt⟩
     obtain ⟨hA, hb, k0, k1, k2, k3, k4, B1, B2, m1, q1, m2, q2, nb2, KQ⟩ := Ġ HI.o HV.o HO.o hx;subst hA;have HX := ħ hx;have HWX := ħ (HO.o x (Č hx)).1;have hxr := ĳ HWX.o;unfold far at hxr;obtain ⟨l1, hl1⟩ : ∃ l1, l1 = å x := ⟨_, rfl⟩;rw [← hl1] at KQ hxr;obtain ⟨hx1, hx2⟩ := hxr;have KQ' := ħ KQ;have hc8 := KQ.cells wr hbel
     have hlti : (j : Int) < nd.kids.length := by omega
     have HN1 : Hid (ê (nd.kids.take (j + 1)) = Ãq l0 l1) := ħ (by rw [ú HX.o, Ãr HWX.o, ← HE.o, hl1])
     clear hx hl1 KQ
     by_cases hneg : l1 < 0
     ·have E : Hid (ê nd.kids = -1) := ħ (ÉR (fun y hy => (HO.o y hy).1) (j + 1) (by rw [HN1.o]; unfold Ãq; rw [if_pos (by omega)]))
      go_wp2_with fail
      refine (KQ'.o.call wr hbel).mono ?_;rintro e w1 ⟨rfl, hb1⟩;have hbw := hbel.trans (hb1.mono hbel.size);clear hc8 c7;go_wp2;go_ret;exact ⟨Õ E.o.symm, hb0.trans (hbw.mono hb0.size)⟩
     ·go_wp2_with fail
      refine (KQ'.o.call wr hbel).mono ?_;rintro e w1 ⟨rfl, hb1⟩;have hbw := hbel.trans (hb1.mono hbel.size);have c0 := (HB0.o.on hbw).c8.1;clear hc8 c7
      by_cases hbig : (1048576 : Int) < l0 + l1
      ·have E : Hid (ê nd.kids = -1) := ħ (ÉR (fun y hy => (HO.o y hy).1) (j + 1) (by rw [HN1.o]; unfold Ãq ÀM far; rw [if_neg (by omega), if_pos (by omega)]))
       go_wp2;go_ret;exact ⟨Õ E.o.symm, hb0.trans (hbw.mono hb0.size)⟩
      ·have hf : Hid (l0 + l1 = ê (nd.kids.take (j + 1))) := ħ (by rw [HN1.o]; unfold Ãq ÀM far; rw [if_neg (by omega), if_neg (by omega)])
       go_wp2;go_roundw
       case rel => exact ⟨j + 1, _, by omega, by go_num, rfl, by omega, by omega, hf, hbw⟩
       case measure => simp [intOf]; omega
    ·have hjl : j = nd.kids.length := by omega
     have E : Hid (ê nd.kids = l0) := ħ (by rw [HE.o, hjl, Ă])
     have hnf : ¬ (1048576 : Int) < l0 := by omega
     subst hjl;clear HE hlt;go_wp2;go_ret;exact ⟨Õ E.o.symm, hb0.trans (hbel.mono hb0.size)⟩
  ·have e := ÀB HW.o (by omega)
   have HK' := ħ hk'
   have hl1 : nd.kids.length = 1 := by have hs := HW.o.shape; rw [HK'.o] at hs; unfold Ü at hs; omega
   obtain ⟨x, hx⟩ := Ào hl1
   have hx0 : nd.kids[0]? = some x := by rw [hx]; rfl
   have hwx : Wf x := HW.o.kids x (by rw [hx]; simp)
   have e' : å nd = å x := by rw [e.2, hx, Ád hwx]
   have hpos : (0 : Int) < (nd.kids.length : Int) := by omega
   rw [e'];clear e e' hk' hx hl1;go_enter Tryz.func12, Tryz.ntmps12
   go_upto_region 1 with (fail)
   have h8 := HB0.o.c8;generalize w.alloc (.cells #[.int .i64 5, .int .i64 nd.lo, .int .i64 nd.hi, .int .i64 nd.mode, .int .i64 nd.ref, .slice A1 n1 p1, .bool nb, .slice A2 nd.kids.length p2] 38) = W at *;obtain ⟨hA, hb, k0, k1, k2, k3, k4, B1, B2, m1, q1, m2, q2, nb2, KQ⟩ := Ġ HI.o HV.o HO.o hx0;have hc8 := KQ.cells W (ā _ _);rw [Nat.zero_mul, Nat.add_zero] at hc8;have KQ' := ħ KQ;subst hA;clear hx0 hwx KQ
   go_wp2_with fail
   refine (KQ'.o.call W (ā _ _)).mono ?_;rintro e w1 ⟨rfl, hb1⟩;have hbw := hb0.trans (hb1.mono hb0.size);go_wp2;go_ret;exact ⟨rfl, hbw⟩
  ·have e := ÀB HW.o (by omega)
   have HK' := ħ hk'
   have hl1 : nd.kids.length = 1 := by have hs := HW.o.shape; rw [HK'.o] at hs; unfold Ü at hs; omega
   obtain ⟨x, hx⟩ := Ào hl1
   have hx0 : nd.kids[0]? = some x := by rw [hx]; rfl
   have hwx : Wf x := HW.o.kids x (by rw [hx]; simp)
   have e' : å nd = å x := by rw [e.2, hx, Ád hwx]
   have hpos : (0 : Int) < (nd.kids.length : Int) := by omega
   rw [e'];clear e e' hk' hx hl1;go_enter Tryz.func12, Tryz.ntmps12
   go_upto_region 1 with (fail)
   have h8 := HB0.o.c8;generalize w.alloc (.cells #[.int .i64 8, .int .i64 nd.lo, .int .i64 nd.hi, .int .i64 nd.mode, .int .i64 nd.ref, .slice A1 n1 p1, .bool nb, .slice A2 nd.kids.length p2] 38) = W at *;obtain ⟨hA, hb, k0, k1, k2, k3, k4, B1, B2, m1, q1, m2, q2, nb2, KQ⟩ := Ġ HI.o HV.o HO.o hx0;have hc8 := KQ.cells W (ā _ _);rw [Nat.zero_mul, Nat.add_zero] at hc8;have KQ' := ħ KQ;subst hA;clear hx0 hwx KQ
   go_wp2_with fail
   refine (KQ'.o.call W (ā _ _)).mono ?_;rintro e w1 ⟨rfl, hb1⟩;have hbw := hb0.trans (hb1.mono hb0.size);go_wp2;go_ret;exact ⟨rfl, hbw⟩
 ·have e := (ÅQ HW.o hk').2
  have HK' := ħ hk';rw [e];clear e hk';go_enter Tryz.func12, Tryz.ntmps12
  go_upto_region 1 with (fail)
  have h8 := HB0.o.c8;generalize w.alloc (.cells #[.int .i64 3, .int .i64 nd.lo, .int .i64 nd.hi, .int .i64 nd.mode, .int .i64 nd.ref, .slice A1 n1 p1, .bool nb, .slice A2 nd.kids.length p2] 38) = W at *;go_wp2
  go_loopw [3, 4] (fun a i wr => ∃ (j : Nat) (l0 : Int), j ≤ nd.kids.length ∧ i = .int .i64 j ∧ a = .int .i64 l0 ∧ 0 ≤ l0 ∧ l0 ≤ 1048576 ∧ Hid (l0 = Ŧ (nd.kids.take j)) ∧ Below W.heap.size W wr) (fun _ i _ => nd.kids.length - (intOf i).toNat)
  case atStart => exact ⟨0, 0, Ą _, rfl, rfl, by omega, by omega, ħ rfl, ā _ _⟩
  case round =>
   obtain ⟨j, l0, hj, rfl, rfl, hs1, hs2, HE, hbel⟩ := hrel;have hbr := HB0.o.on hbel;have c7 := hbr.c8.2.2.2.2.2.2.2;clear hbr
   by_cases hlt : j < nd.kids.length
   ·obtain ⟨x, hx⟩ : ∃ x, nd.kids[j]? = some x := ⟨_, Ā hlt⟩
    obtain ⟨hA, hb, k0, k1, k2, k3, k4, B1, B2, m1, q1, m2, q2, nb2, KQ⟩ := Ġ HI.o HV.o HO.o hx;subst hA;have HX := ħ hx;have HWX := ħ (HO.o x (Č hx)).1;have hxr := ĳ HWX.o;unfold far at hxr;obtain ⟨l1, hl1⟩ : ∃ l1, l1 = å x := ⟨_, rfl⟩;rw [← hl1] at KQ hxr;obtain ⟨hx1, hx2⟩ := hxr;have KQ' := ħ KQ;have hc8 := KQ.cells wr hbel
    have hlti : (j : Int) < nd.kids.length := by omega
    have HN1 : Hid (Ŧ (nd.kids.take (j + 1)) = Âp l0 l1) := ħ (by rw [ú HX.o, Ãs HWX.o, ← HE.o, hl1])
    clear hx hl1 KQ
    by_cases hneg : l1 < 0
    ·have E : Hid (Ŧ nd.kids = -1) := ħ (ÎM (fun y hy => (HO.o y hy).1) (j + 1) (by rw [HN1.o]; unfold Âp; rw [if_pos (by omega)]))
     go_wp2_with fail
     refine (KQ'.o.call wr hbel).mono ?_;rintro e w1 ⟨rfl, hb1⟩;have hbw := hbel.trans (hb1.mono hbel.size);clear hc8 c7;go_wp2;go_ret;exact ⟨Õ E.o.symm, hb0.trans (hbw.mono hb0.size)⟩
    ·go_wp2_with fail
     refine (KQ'.o.call wr hbel).mono ?_;rintro e w1 ⟨rfl, hb1⟩;have hbw := hbel.trans (hb1.mono hbel.size);have c0 := (HB0.o.on hbw).c8.1;clear hc8 c7
     by_cases hbig : l0 < l1
     ·have hf : Hid (l1 = Ŧ (nd.kids.take (j + 1))) := ħ (by rw [HN1.o]; unfold Âp; rw [if_neg (by omega)]; omega)
      have hnf : ¬ (1048576 : Int) < l1 := by omega
      go_wp2;go_roundw
      case rel => exact ⟨j + 1, _, by omega, by go_num, rfl, by omega, by omega, hf, hbw⟩
      case measure => simp [intOf]; omega
     ·have hf : Hid (l0 = Ŧ (nd.kids.take (j + 1))) := ħ (by rw [HN1.o]; unfold Âp; rw [if_neg (by omega)]; omega)
      have hnf : ¬ (1048576 : Int) < l0 := by omega
      go_wp2;go_roundw
      case rel => exact ⟨j + 1, _, by omega, by go_num, rfl, by omega, by omega, hf, hbw⟩
      case measure => simp [intOf]; omega
   ·have hjl : j = nd.kids.length := by omega
    have E : Hid (Ŧ nd.kids = l0) := ħ (by rw [HE.o, hjl, Ă])
    have hnf : ¬ (1048576 : Int) < l0 := by omega
    subst hjl;clear HE hlt;go_wp2;go_ret;exact ⟨Õ E.o.symm, hb0.trans (hbel.mono hb0.size)⟩
 ·obtain ⟨_, e, _, _, g3, g4⟩ := ÅR HW.o hk'
  have hl1 : nd.kids.length = 1 := by have hs := HW.o.shape; rw [hk'] at hs; unfold Ü at hs; omega
  obtain ⟨x, hx⟩ := Ào hl1
  have hx0 : nd.kids[0]? = some x := by rw [hx]; rfl
  have hwx : Wf x := HW.o.kids x (by rw [hx]; simp)
  rw [hx, Ád hwx] at e
  have hpos : (0 : Int) < (nd.kids.length : Int) := by omega
  obtain ⟨hA, hb, k0, k1, k2, k3, k4, B1, B2, m1, q1, m2, q2, nb2, KQ⟩ := Ġ HI.o HV.o HO.o hx0;have hxr := ĳ hwx;unfold far at hxr;obtain ⟨hx1, hx2⟩ := hxr
  have KQ' : Hid (Ík 12 (.int .i64 (å x)) _ b off (.int .i64 k0) (.int .i64 k1) (.int .i64 k2) (.int .i64 k3) (.int .i64 k4) (.slice B1 m1 q1) (.bool nb2) (.slice B2 m2 q2)) := ħ (by rw [Nat.zero_mul, Nat.add_zero] at KQ; exact KQ)
  have E := ħ e;subst hA;clear e hk' hx hl1 hx0 hwx KQ HW HO HI HV;rw [E.o];clear E;generalize å x = l1 at *;generalize nd.hi = hi at *
  by_cases z1 : l1 = 0
  ·subst z1
   have e : ÀN hi 0 = 0 := by simp [ÀN]
   have E := ħ e;clear e;go_enter Tryz.func12, Tryz.ntmps12
   go_upto_region 1 with (fail)
   have h8 := HB0.o.c8;generalize w.alloc (.cells #[.int .i64 4, .int .i64 nd.lo, .int .i64 hi, .int .i64 nd.mode, .int .i64 nd.ref, .slice A1 n1 p1, .bool nb, .slice (some ⟨b, off, none⟩) nd.kids.length p2] 38) = W at *;have hc8 := KQ'.o.cells W (ā _ _)
   go_wp2_with fail
   refine (KQ'.o.call W (ā _ _)).mono ?_;rintro e w1 ⟨rfl, hb1⟩;have hbw := hb0.trans (hb1.mono hb0.size);have h88 := (HB0.o.on hb1).c8;clear hc8 h8;go_wp2;go_ret;exact ⟨Õ E.o.symm, hbw⟩
  have z1' : (l1 == 0) = false := by simp [z1]
  by_cases z2 : hi = 0
  ·subst z2
   have e : ÀN 0 l1 = 0 := by simp [ÀN]
   have E := ħ e;clear e;go_enter Tryz.func12, Tryz.ntmps12
   go_upto_region 1 with (fail)
   have h8 := HB0.o.c8;generalize w.alloc (.cells #[.int .i64 4, .int .i64 nd.lo, .int .i64 0, .int .i64 nd.mode, .int .i64 nd.ref, .slice A1 n1 p1, .bool nb, .slice (some ⟨b, off, none⟩) nd.kids.length p2] 38) = W at *;have hc8 := KQ'.o.cells W (ā _ _)
   go_wp2_with fail
   refine (KQ'.o.call W (ā _ _)).mono ?_;rintro e w1 ⟨rfl, hb1⟩;have hbw := hb0.trans (hb1.mono hb0.size);have h88 := (HB0.o.on hb1).c8;clear hc8 h8;go_wp2;go_ret;exact ⟨Õ E.o.symm, hbw⟩
  have z2' : (hi == 0) = false := by simp [z2]
  by_cases z3 : l1 < 0
  ·have e : ÀN hi l1 = -1 := by unfold ÀN; rw [if_neg (by omega), if_pos (by omega)]
   have E := ħ e;clear e;go_enter Tryz.func12, Tryz.ntmps12
   go_upto_region 1 with (fail)
   have h8 := HB0.o.c8;generalize w.alloc (.cells #[.int .i64 4, .int .i64 nd.lo, .int .i64 hi, .int .i64 nd.mode, .int .i64 nd.ref, .slice A1 n1 p1, .bool nb, .slice (some ⟨b, off, none⟩) nd.kids.length p2] 38) = W at *;have hc8 := KQ'.o.cells W (ā _ _)
   go_wp2_with fail
   refine (KQ'.o.call W (ā _ _)).mono ?_;rintro e w1 ⟨rfl, hb1⟩;have hbw := hb0.trans (hb1.mono hb0.size);have h88 := (HB0.o.on hb1).c8;clear hc8 h8;go_wp2;go_ret;exact ⟨Õ E.o.symm, hbw⟩
  by_cases z4 : hi < 0
  ·have e : ÀN hi l1 = -1 := by unfold ÀN; rw [if_neg (by omega), if_pos (by omega)]
   have E := ħ e;clear e;go_enter Tryz.func12, Tryz.ntmps12
   go_upto_region 1 with (fail)
   have h8 := HB0.o.c8;generalize w.alloc (.cells #[.int .i64 4, .int .i64 nd.lo, .int .i64 hi, .int .i64 nd.mode, .int .i64 nd.ref, .slice A1 n1 p1, .bool nb, .slice (some ⟨b, off, none⟩) nd.kids.length p2] 38) = W at *;have hc8 := KQ'.o.cells W (ā _ _)
   go_wp2_with fail
   refine (KQ'.o.call W (ā _ _)).mono ?_;rintro e w1 ⟨rfl, hb1⟩;have hbw := hb0.trans (hb1.mono hb0.size);have h88 := (HB0.o.on hb1).c8;clear hc8 h8;go_wp2;go_ret;exact ⟨Õ E.o.symm, hbw⟩
  have r0 : 0 ≤ l1 * hi := Int.mul_nonneg (by omega) (by omega)
  have r1 : l1 * hi ≤ 1048576 * 64 := Int.mul_le_mul hx2 g4 (by omega) (by omega)
  have e0 : ÀN hi l1 = ÀM (l1 * hi) := by unfold ÀN; rw [if_neg (by omega), if_neg (by omega), Int.mul_comm]
  by_cases hbig : (1048576 : Int) < l1 * hi
  ·have e : ÀN hi l1 = -1 := by rw [e0]; unfold ÀM far; rw [if_pos (by omega)]
   have E := ħ e;clear e e0;go_enter Tryz.func12, Tryz.ntmps12
   go_upto_region 1 with (fail)
   have h8 := HB0.o.c8;generalize w.alloc (.cells #[.int .i64 4, .int .i64 nd.lo, .int .i64 hi, .int .i64 nd.mode, .int .i64 nd.ref, .slice A1 n1 p1, .bool nb, .slice (some ⟨b, off, none⟩) nd.kids.length p2] 38) = W at *;have hc8 := KQ'.o.cells W (ā _ _)
   go_wp2_with fail
   refine (KQ'.o.call W (ā _ _)).mono ?_;rintro e w1 ⟨rfl, hb1⟩;have hbw := hb0.trans (hb1.mono hb0.size);have h88 := (HB0.o.on hb1).c8;clear hc8 h8;go_wp2;go_ret;exact ⟨Õ E.o.symm, hbw⟩
  ·have e : ÀN hi l1 = l1 * hi := by rw [e0]; unfold ÀM far; rw [if_neg (by omega)]
   have E := ħ e;clear e e0;go_enter Tryz.func12, Tryz.ntmps12
   go_upto_region 1 with (fail)
   have h8 := HB0.o.c8;generalize w.alloc (.cells #[.int .i64 4, .int .i64 nd.lo, .int .i64 hi, .int .i64 nd.mode, .int .i64 nd.ref, .slice A1 n1 p1, .bool nb, .slice (some ⟨b, off, none⟩) nd.kids.length p2] 38) = W at *;have hc8 := KQ'.o.cells W (ā _ _)
   go_wp2_with fail
   refine (KQ'.o.call W (ā _ _)).mono ?_;rintro e w1 ⟨rfl, hb1⟩;have hbw := hb0.trans (hb1.mono hb0.size);have h88 := (HB0.o.on hb1).c8;clear hc8 h8;go_wp2;go_ret;exact ⟨Õ E.o.symm, hbw⟩
theorem ÎO (n : Nat) : ÎN n := by
 induction n with
 | zero =>
  intro nd h
  cases nd with
  | mk a b c d e f g => simp only [Nd.mk.sizeOf_spec] at h; omega
 | succ n ih => exact Ën n ih
end
end Go.Proofs.YtpginkdkblmnbaaGreatDoor
