import Derived.Test.YtpginkdkblmnbaaGreatDoorXMVd
import Derived.Laws.StructEq
namespace Go.Proofs.YtpginkdkblmnbaaGreatDoor
section
open Go.RowKit
variable {w w' : World}
theorem Àw (a b c a' b' c' : Int) (w : World) : (binOp .eql 48 (.agg #[.int .i64 a, .int .i64 b, .int .i64 c]) (.agg #[.int .i64 a', .int .i64 b', .int .i64 c'])).run Tryz.prog w = .ok (.bool (a == a' && b == b' && c == c')) w := by
 have u3 := Tryz.underlying3;have a3 := Tryz.isAgg3;have z3 := Tryz.sizeOf3;have u30 := Tryz.underlying30
 have hS : Tryz.prog.underlying 48 = some (.struct (Tryz.prog.fieldsOf 48)) := by kernel_rfl
 have hp : Tryz.prog.stoodInHeld 48 = false := by kernel_rfl
 rw [run_eql_struct, show (10000 : Nat) = 9999 + 1 from rfl, run_equalIn_agg w 9999 48 _ _ hS hp]
 simp only [Program.fieldsOf, Tryz.underlying48];go_simp
 by_cases h1 : a = a' <;> by_cases h2 : b = b' <;> by_cases h3 : c = c' <;> simp [h1, h2, h3]
theorem Îj : ý 1026 [40] = .error (20, 0) := by kernel_rfl
theorem Îk : pvM ⟨#[97, 42, 42]⟩ = (23, 2) := by
 show pvR (ý 1026 [97, 42, 42]) = _
 rw [show ý 1026 [97, 42, 42] = .error (23, 2) by kernel_rfl]
 rfl
theorem Ík : pvM ⟨#[40]⟩ = (20, 0) := by
 show pvR (ý 1026 [40]) = _
 rw [Îj];rfl
def s8 : RS := ⟨0, 255, 10000, 500, [⟨3, 0, 0, 1, ⟨#[40]⟩⟩, ⟨7, 0, 0, 1, ⟨#[41]⟩⟩]⟩
theorem Îl : í pvM s8 = (20, 3, 0) := by
 have h : s8.Ok := by
  refine ⟨by decide, by decide, ?_, by simp [s8]⟩
  intro r hr;simp only [s8, ė, List.not_mem_nil, or_false] at hr
  rcases hr with rfl | rfl <;> decide
 unfold í;rw [if_pos h]
 show (if (pvM ⟨#[40]⟩).1 = 0 then _ else ((pvM ⟨#[40]⟩).1, (3 : Int), (pvM ⟨#[40]⟩).2)) = _
 rw [Ík];rfl
theorem ÉY : í pvM RS.first = (0, 0, 0) := by
 have h1 : RS.first.Ok := by refine ⟨by decide, by decide, by simp [RS.first], by simp [RS.first]⟩
 unfold í;rw [if_pos h1];rfl
theorem ËM (w : World) (r q : Ru) : Á (w.alloc (.cells #[.int .i64 r.id, .int .i64 r.pr, .int .i64 r.ac, .int .i64 r.sc, .string r.pat, .int .i64 q.id, .int .i64 q.pr, .int .i64 q.ac, .int .i64 q.sc, .string q.pat] 71)).heap.size (w.alloc (.cells #[.int .i64 r.id, .int .i64 r.pr, .int .i64 r.ac, .int .i64 r.sc, .string r.pat, .int .i64 q.id, .int .i64 q.pr, .int .i64 q.ac, .int .i64 q.sc, .string q.pat] 71)) (.slice (some ⟨w.heap.size, 0, none⟩) 2 2) [r, q] := by
 refine ⟨_, 2, rfl, ŋ _, fun _ => ⟨w.heap.size, 0, rfl, by simp, fun i x hx => ?_⟩⟩
 have h := Blk.new w 71 #[.int .i64 r.id, .int .i64 r.pr, .int .i64 r.ac, .int .i64 r.sc, .string r.pat, .int .i64 q.id, .int .i64 q.pr, .int .i64 q.ac, .int .i64 q.sc, .string q.pat]
 match i, hx with
 | 0, hx =>
  simp at hx;subst hx;exact ⟨h.cell 0, h.cell 1, h.cell 2, h.cell 3, h.cell 4⟩
 | 1, hx =>
  simp at hx;subst hx;exact ⟨h.cell 5, h.cell 6, h.cell 7, h.cell 8, h.cell 9⟩
 | i + 2, hx => simp at hx
set_option maxRecDepth 100000 in
set_option maxHeartbeats 4000000 in
theorem Èy (w : World) (hT : Ō w.heap.size w) : Calls Tryz.prog 17 #[] w fun e w' => e = .returned (.bool true) ∧ Below w.heap.size w w' := by
 have HT := ħ hT;clear hT
 have e1 := fun w => Àw 23 0 2 23 0 2 w
 have e2 := fun w => Àw 20 3 0 20 3 0 w
 have e3 := fun w => Àw 0 0 0 0 0 0 w
 go_enter Tryz.func17, Tryz.ntmps17
 go_wp2_with fail
 refine (Æm w).mono ?_;rintro e w1 ⟨rfl, hb1⟩;have HB1 := ħ hb1;have HT1 := ħ (ŏ HT.o hb1 hb1.size);clear hb1
 go_upto_region 3 with (fail)
 have hs2 : (w1.alloc (.cells #[.int .i64 0, .int .i64 255, .int .i64 10000, .int .i64 500, .slice (some ⟨w1.heap.size + 1, 0, none⟩) 2 2] 59)).heap.size = w1.heap.size + 1 := by simp
 have hb2 : Below w1.heap.size w1 ((w1.alloc (.cells #[.int .i64 0, .int .i64 255, .int .i64 10000, .int .i64 500, .slice (some ⟨w1.heap.size + 1, 0, none⟩) 2 2] 59)).alloc (.cells #[.int .i64 3, .int .i64 0, .int .i64 0, .int .i64 1, .string ⟨#[40]⟩, .int .i64 7, .int .i64 0, .int .i64 0, .int .i64 1, .string ⟨#[41]⟩] 71)) := ((ā _ _).alloc (ŋ _) _).alloc (by simp) _
 have hx2 : Blk ((w1.alloc (.cells #[.int .i64 0, .int .i64 255, .int .i64 10000, .int .i64 500, .slice (some ⟨w1.heap.size + 1, 0, none⟩) 2 2] 59)).alloc (.cells #[.int .i64 3, .int .i64 0, .int .i64 0, .int .i64 1, .string ⟨#[40]⟩, .int .i64 7, .int .i64 0, .int .i64 0, .int .i64 1, .string ⟨#[41]⟩] 71)) w1.heap.size 59 #[.int .i64 0, .int .i64 255, .int .i64 10000, .int .i64 500, .slice (some ⟨w1.heap.size + 1, 0, none⟩) 2 2] := (Blk.new _ _ _).alloc _;have hr2 := ËM (w1.alloc (.cells #[.int .i64 0, .int .i64 255, .int .i64 10000, .int .i64 500, .slice (some ⟨w1.heap.size + 1, 0, none⟩) 2 2] 59)) ⟨3, 0, 0, 1, ⟨#[40]⟩⟩ ⟨7, 0, 0, 1, ⟨#[41]⟩⟩;rw [hs2] at hr2;simp only at hr2;generalize (w1.alloc (.cells #[.int .i64 0, .int .i64 255, .int .i64 10000, .int .i64 500, .slice (some ⟨w1.heap.size + 1, 0, none⟩) 2 2] 59)).alloc (.cells #[.int .i64 3, .int .i64 0, .int .i64 0, .int .i64 1, .string ⟨#[40]⟩, .int .i64 7, .int .i64 0, .int .i64 0, .int .i64 1, .string ⟨#[41]⟩] 71) = w2 at *;have HB2 := ħ (HB1.o.trans (hb2.mono HB1.o.size));have HT2 := ħ (ŏ HT1.o hb2 hb2.size);have HX2 := ħ hx2;have HR2 := ħ hr2;clear hs2 hb2 hx2 hr2
 have HP2 := ħ (Èq ⟨#[97, 42, 42]⟩ (by decide) w2 HT2.o)
 rw [Îk] at HP2
 go_wp2_with fail
 refine HP2.o.mono ?_;rintro e w3 ⟨rfl, hb3⟩;have HB3 := ħ (HB2.o.trans (hb3.mono HB2.o.size));have HT3 := ħ (ŏ HT2.o hb3 hb3.size);have HX3 := ħ (HX2.o.on hb3);have HR3 := ħ (HR2.o.on hb3);clear hb3 HP2
 have HV3 := ħ (ÁE s8 (.slice (some ⟨w1.heap.size + 1, 0, none⟩) 2 2) w3 (by decide) HT3.o HR3.o)
 rw [Îl] at HV3;obtain ⟨x0, x1, x2, x3, x4⟩ := HX3.o.c5;have hlx := HX3.o.lt
 go_wp2_with fail
 refine HV3.o.mono ?_;rintro e w4 ⟨rfl, hb4⟩;have HB4 := ħ (HB3.o.trans (hb4.mono HB3.o.size));have HT4 := ħ (ŏ HT3.o hb4 hb4.size);clear hb4 HV3 x0 x1 x2 x3 x4 hlx
 go_wp2_with fail
 refine (Æm w4).mono ?_;rintro e w5 ⟨rfl, hb5⟩;have HB5 := ħ (HB4.o.trans (hb5.mono HB4.o.size));have HT5 := ħ (ŏ HT4.o hb5 hb5.size);clear hb5
 have HV5 := ħ (ÁE RS.first (.slice none 0 0) w5 (by decide) HT5.o (Á.nil _ _))
 rw [ÉY] at HV5
 go_wp2_with fail
 refine HV5.o.mono ?_;rintro e w6 ⟨rfl, hb6⟩;have HB6 := ħ (HB5.o.trans (hb6.mono HB5.o.size));clear hb6 HV5;go_wp2;go_ret;exact ⟨rfl, HB6.o⟩
end
section
open Go.RowKit
variable {w w' : World}
theorem Íl (A B : Option Addr) (n m c d : Nat) (w : World) : (Instr.index 108 (.agg #[.slice A n c, .slice B m d]) (.int .i64 0)).run Tryz.prog w = .ok (.slice A n c) w := by kernel_rfl
theorem Ím (A B : Option Addr) (n m c d : Nat) (w : World) : (Instr.index 108 (.agg #[.slice A n c, .slice B m d]) (.int .i64 1)).run Tryz.prog w = .ok (.slice B m d) w := by kernel_rfl
def Ïb (e : Ending) (s : RS) (d : Dl) (w w' : World) : Prop := ∃ b, e = .returned (.bool b) ∧ (b = true → s.rs.length ≤ 20 ∧ d.put.length ≤ 20 ∧ d.drop.length ≤ 40) ∧ Below w.heap.size w w'
set_option maxRecDepth 100000 in
set_option maxHeartbeats 4000000 in
theorem ÉZ (s : RS) (d : Dl) (v pv dv : Value) (w : World) (hm1 : s.rs.length ≤ 9223372036854775807) (hm2 : d.put.length ≤ 9223372036854775807) (hdv : ∃ A c, dv = .slice A d.drop.length c) (hS : Á w.heap.size w v s.rs) (hP : Á w.heap.size w pv d.put) :
 Calls Tryz.prog 22 #[.agg #[.int .i64 s.de, .int .i64 s.cl, .int .i64 s.fu, .int .i64 s.st, v], .agg #[.int .i64 d.de, .int .i64 d.cl, .int .i64 d.fu, .int .i64 d.st, pv, dv]] w
  fun e w' => Ïb e s d w w' := by
 obtain ⟨A, cap, rfl⟩ := hS.form;obtain ⟨PA, pcap, rfl⟩ := hP.form;obtain ⟨DA, dcap, rfl⟩ := hdv;obtain ⟨w0, hw0⟩ : ∃ w0, w0 = ((w.alloc (.cells #[.int .i64 s.de, .int .i64 s.cl, .int .i64 s.fu, .int .i64 s.st, .slice A s.rs.length cap] 59)).alloc (.cells #[.int .i64 d.de, .int .i64 d.cl, .int .i64 d.fu, .int .i64 d.st, .slice PA d.put.length pcap, .slice DA d.drop.length dcap] 63)) := ⟨_, rfl⟩
 have hb0 : Below w.heap.size w w0 := by rw [hw0]; exact ((ā _ _).alloc (ŋ _) _).alloc (by simp) _
 have hd0 : Blk w0 (w.heap.size + 1) 63 #[.int .i64 d.de, .int .i64 d.cl, .int .i64 d.fu, .int .i64 d.st, .slice PA d.put.length pcap, .slice DA d.drop.length dcap] := by rw [hw0]; exact Blk.at_new _ _ (by simp) _ _
 have HS0 := ħ (hS.on hb0);have HP0 := ħ (hP.on hb0);have HB0 := ħ hb0;have HD0 := ħ hd0;clear hS hP hb0 hd0;go_enter Tryz.func22, Tryz.ntmps22
 go_upto_region 2 with (fail)
 rw [← hw0];clear hw0
 go_loopw [14] (fun i wr => ∃ k : Nat, k ≤ 2 ∧ i = .int .i64 k ∧ Hid ((1 ≤ k → s.rs.length ≤ 20) ∧ (2 ≤ k → d.put.length ≤ 20)) ∧ Hid (Below w0.heap.size w0 wr)) (fun i _ => 2 - (intOf i).toNat)
 case atStart => exact ⟨0, by omega, rfl, ħ ⟨fun h => by omega, fun h => by omega⟩, ħ (ā _ _)⟩
 case round =>
  obtain ⟨k, hk, rfl, HK, HB⟩ := hrel
  rcases (show k = 0 ∨ k = 1 ∨ k = 2 by omega) with rfl | rfl | rfl
  ·simp only [Int.cast_ofNat_Int]
   have hix := Íl A PA s.rs.length d.put.length cap pcap
   by_cases hl20 : s.rs.length ≤ 20
   ·have hl20i : ¬ (20 : Int) < (s.rs.length : Int) := by omega
    have HL20 := ħ hl20;go_wp2
    go_loopw [22] (fun i2 wr2 => ∃ j : Nat, j ≤ s.rs.length ∧ i2 = .int .i64 j ∧ Hid (Below w0.heap.size w0 wr2)) (fun i2 _ => s.rs.length - (intOf i2).toNat)
    case atStart => exact ⟨0, Ą _, rfl, HB⟩
    case round =>
     clear HB hix;obtain ⟨j, hj, rfl, HB⟩ := hrel
     by_cases hlt : j < s.rs.length
     ·obtain ⟨b, off, hA, hb, c0, c1, c2, c3, c4⟩ := (HS0.o.below HB.o).at_ hlt
      subst hA;generalize s.rs[j] = r at c0 c1 c2 c3 c4;have HLt := ħ hlt
      by_cases hp : r.pat.size ≤ 300
      ·have hpi : ¬ (300 : Int) < (r.pat.size : Int) := by omega
       clear hp;go_wp2;go_roundw
       case rel => exact ⟨j + 1, HLt.o, by go_num, ħ (HB.o.alloc HB.o.size _)⟩
       case measure => have := HLt.o; simp [intOf]; omega
      ·have hpi : (300 : Int) < (r.pat.size : Int) := by omega
       clear hp;go_wp2;go_ret
       exact ⟨false, rfl, by simp, (HB0.o.trans (HB.o.mono HB0.o.size)).alloc (by have := HB0.o.size; have := HB.o.size; omega) _⟩
     ·obtain rfl : j = s.rs.length := by omega
      go_wp2;go_roundw
      case rel => exact ⟨1, by omega, by go_num, ħ (⟨fun _ => HL20.o, fun h => by omega⟩), HB⟩
      case measure => simp [intOf]
   ·have hl20i : (20 : Int) < (s.rs.length : Int) := by omega
    clear hl20;go_wp2;go_ret
    exact ⟨false, rfl, by simp, HB0.o.trans (HB.o.mono HB0.o.size)⟩
  ·simp only [Int.cast_ofNat_Int]
   have hix := Ím A PA s.rs.length d.put.length cap pcap
   by_cases hl20 : d.put.length ≤ 20
   ·have hl20i : ¬ (20 : Int) < (d.put.length : Int) := by omega
    have HL20 := ħ hl20;go_wp2
    go_loopw [22] (fun i2 wr2 => ∃ j : Nat, j ≤ d.put.length ∧ i2 = .int .i64 j ∧ Hid (Below w0.heap.size w0 wr2)) (fun i2 _ => d.put.length - (intOf i2).toNat)
    case atStart => exact ⟨0, Ą _, rfl, HB⟩
    case round =>
     clear HB hix;obtain ⟨j, hj, rfl, HB⟩ := hrel
     by_cases hlt : j < d.put.length
     ·obtain ⟨b, off, hA, hb, c0, c1, c2, c3, c4⟩ := (HP0.o.below HB.o).at_ hlt
      subst hA;generalize d.put[j] = r at c0 c1 c2 c3 c4;have HLt := ħ hlt
      by_cases hp : r.pat.size ≤ 300
      ·have hpi : ¬ (300 : Int) < (r.pat.size : Int) := by omega
       clear hp;go_wp2;go_roundw
       case rel => exact ⟨j + 1, HLt.o, by go_num, ħ (HB.o.alloc HB.o.size _)⟩
       case measure => have := HLt.o; simp [intOf]; omega
      ·have hpi : (300 : Int) < (r.pat.size : Int) := by omega
       clear hp;go_wp2;go_ret
       exact ⟨false, rfl, by simp, (HB0.o.trans (HB.o.mono HB0.o.size)).alloc (by have := HB0.o.size; have := HB.o.size; omega) _⟩
     ·obtain rfl : j = d.put.length := by omega
      go_wp2;go_roundw
      case rel => exact ⟨2, by omega, by go_num, ħ (⟨fun _ => HK.o.1 (by omega), fun _ => HL20.o⟩), HB⟩
      case measure => simp [intOf]
   ·have hl20i : (20 : Int) < (d.put.length : Int) := by omega
    clear hl20;go_wp2;go_ret
    exact ⟨false, rfl, by simp, HB0.o.trans (HB.o.mono HB0.o.size)⟩
  ·simp only [Int.cast_ofNat_Int]
   have hd := HD0.o.on HB.o;have d5 := hd.cell 5;have hld := hd.lt;clear hd
   by_cases h40 : d.drop.length ≤ 40
   ·have h40i : (d.drop.length : Int) ≤ 40 := by omega
    have H40 := ħ h40;clear h40;go_wp2;go_ret
    exact ⟨true, rfl, fun _ => ⟨HK.o.1 (by omega), HK.o.2 (by omega), H40.o⟩, HB0.o.trans (HB.o.mono HB0.o.size)⟩
   ·have h40i : ¬ (d.drop.length : Int) ≤ 40 := by omega
    clear h40;go_wp2;go_ret
    exact ⟨false, rfl, by simp, HB0.o.trans (HB.o.mono HB0.o.size)⟩
end
end Go.Proofs.YtpginkdkblmnbaaGreatDoor
