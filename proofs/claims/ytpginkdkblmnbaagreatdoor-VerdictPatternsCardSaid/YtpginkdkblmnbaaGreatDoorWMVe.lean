import Derived.Test.YtpginkdkblmnbaaGreatDoorWMVd
import Derived.Laws.StructEq
namespace Go.Proofs.YtpginkdkblmnbaaGreatDoor
section
open Go.RowKit
variable {w w' : World}
theorem ÀO (a b c a' b' c' : Int) (w : World) : (binOp .eql 48 (.agg #[.int .i64 a, .int .i64 b, .int .i64 c]) (.agg #[.int .i64 a', .int .i64 b', .int .i64 c'])).run Tryz.prog w = .ok (.bool (a == a' && b == b' && c == c')) w := by
 have u3 := Tryz.underlying3;have a3 := Tryz.isAgg3;have z3 := Tryz.sizeOf3;have u30 := Tryz.underlying30
 have hS : Tryz.prog.underlying 48 = some (.struct (Tryz.prog.fieldsOf 48)) := by kernel_rfl
 have hp : Tryz.prog.stoodInHeld 48 = false := by kernel_rfl
 rw [run_eql_struct, show (10000 : Nat) = 9999 + 1 from rfl, run_equalIn_agg w 9999 48 _ _ hS hp]
 simp only [Program.fieldsOf, Tryz.underlying48];go_simp
 by_cases h1 : a = a' <;> by_cases h2 : b = b' <;> by_cases h3 : c = c' <;> simp [h1, h2, h3]
theorem ÏQ : ñ 1026 [40] = .error (20, 0) := by kernel_rfl
theorem ÏR : pvM ⟨#[97, 42, 42]⟩ = (23, 2) := by
 show pvR (ñ 1026 [97, 42, 42]) = _
 rw [show ñ 1026 [97, 42, 42] = .error (23, 2) by kernel_rfl]
 rfl
theorem ÎK : pvM ⟨#[40]⟩ = (20, 0) := by
 show pvR (ñ 1026 [40]) = _
 rw [ÏQ];rfl
def s8 : RS := ⟨0, 255, 10000, 500, [⟨3, 0, 0, 1, ⟨#[40]⟩⟩, ⟨7, 0, 0, 1, ⟨#[41]⟩⟩]⟩
theorem ÏS : ÁI pvM s8 = (20, 3, 0) := by
 have h : s8.Ok := by
  refine ⟨by decide, by decide, ?_, by simp [s8]⟩
  intro r hr;simp only [s8, ė, List.not_mem_nil, or_false] at hr
  rcases hr with rfl | rfl <;> decide
 unfold ÁI;rw [if_pos h]
 show (if (pvM ⟨#[40]⟩).1 = 0 then _ else ((pvM ⟨#[40]⟩).1, (3 : Int), (pvM ⟨#[40]⟩).2)) = _
 rw [ÎK];rfl
theorem Ëm : ÁI pvM RS.first = (0, 0, 0) := by
 have h1 : RS.first.Ok := by refine ⟨by decide, by decide, by simp [RS.first], by simp [RS.first]⟩
 unfold ÁI;rw [if_pos h1];rfl
theorem Íi (w : World) (r q : Ru) : Ĭ (w.alloc (.cells #[.int .i64 r.id, .int .i64 r.pr, .int .i64 r.ac, .int .i64 r.sc, .string r.pat, .int .i64 q.id, .int .i64 q.pr, .int .i64 q.ac, .int .i64 q.sc, .string q.pat] 71)).heap.size (w.alloc (.cells #[.int .i64 r.id, .int .i64 r.pr, .int .i64 r.ac, .int .i64 r.sc, .string r.pat, .int .i64 q.id, .int .i64 q.pr, .int .i64 q.ac, .int .i64 q.sc, .string q.pat] 71)) (.slice (some ⟨w.heap.size, 0, none⟩) 2 2) [r, q] := by
 refine ⟨_, 2, rfl, ŋ _, fun _ => ⟨w.heap.size, 0, rfl, by simp, fun i x hx => ?_⟩⟩
 have h := Blk.new w 71 #[.int .i64 r.id, .int .i64 r.pr, .int .i64 r.ac, .int .i64 r.sc, .string r.pat, .int .i64 q.id, .int .i64 q.pr, .int .i64 q.ac, .int .i64 q.sc, .string q.pat]
 match i, hx with
 | 0, hx =>
  simp at hx;subst hx;exact ⟨h.cell 0, h.cell 1, h.cell 2, h.cell 3, h.cell 4⟩
 | 1, hx =>
  simp at hx;subst hx;exact ⟨h.cell 5, h.cell 6, h.cell 7, h.cell 8, h.cell 9⟩
 | i + 2, hx => simp at hx
set_option maxRecDepth 100000 in
set_option maxHeartbeats 4000000 in
theorem ÉN (w : World) (hT : ś w.heap.size w) : Calls Tryz.prog 17 #[] w fun e w' => e = .returned (.bool true) ∧ Below w.heap.size w w' := by
 have HT := ħ hT;clear hT
 have e1 := fun w => ÀO 23 0 2 23 0 2 w
 have e2 := fun w => ÀO 20 3 0 20 3 0 w
 have e3 := fun w => ÀO 0 0 0 0 0 0 w
 go_enter Tryz.func17, Tryz.ntmps17
 go_wp2_with fail
 refine (ÇE w).mono ?_;rintro e w1 ⟨rfl, hb1⟩;have HB1 := ħ hb1;have HT1 := ħ (ÀF HT.o hb1 hb1.size);clear hb1
 go_upto_region 3 with (fail)
 have hs2 : (w1.alloc (.cells #[.int .i64 0, .int .i64 255, .int .i64 10000, .int .i64 500, .slice (some ⟨w1.heap.size + 1, 0, none⟩) 2 2] 59)).heap.size = w1.heap.size + 1 := by simp
 have hb2 : Below w1.heap.size w1 ((w1.alloc (.cells #[.int .i64 0, .int .i64 255, .int .i64 10000, .int .i64 500, .slice (some ⟨w1.heap.size + 1, 0, none⟩) 2 2] 59)).alloc (.cells #[.int .i64 3, .int .i64 0, .int .i64 0, .int .i64 1, .string ⟨#[40]⟩, .int .i64 7, .int .i64 0, .int .i64 0, .int .i64 1, .string ⟨#[41]⟩] 71)) := ((ā _ _).alloc (ŋ _) _).alloc (by simp) _
 have hx2 : Blk ((w1.alloc (.cells #[.int .i64 0, .int .i64 255, .int .i64 10000, .int .i64 500, .slice (some ⟨w1.heap.size + 1, 0, none⟩) 2 2] 59)).alloc (.cells #[.int .i64 3, .int .i64 0, .int .i64 0, .int .i64 1, .string ⟨#[40]⟩, .int .i64 7, .int .i64 0, .int .i64 0, .int .i64 1, .string ⟨#[41]⟩] 71)) w1.heap.size 59 #[.int .i64 0, .int .i64 255, .int .i64 10000, .int .i64 500, .slice (some ⟨w1.heap.size + 1, 0, none⟩) 2 2] := (Blk.new _ _ _).alloc _;have hr2 := Íi (w1.alloc (.cells #[.int .i64 0, .int .i64 255, .int .i64 10000, .int .i64 500, .slice (some ⟨w1.heap.size + 1, 0, none⟩) 2 2] 59)) ⟨3, 0, 0, 1, ⟨#[40]⟩⟩ ⟨7, 0, 0, 1, ⟨#[41]⟩⟩;rw [hs2] at hr2;simp only at hr2;generalize (w1.alloc (.cells #[.int .i64 0, .int .i64 255, .int .i64 10000, .int .i64 500, .slice (some ⟨w1.heap.size + 1, 0, none⟩) 2 2] 59)).alloc (.cells #[.int .i64 3, .int .i64 0, .int .i64 0, .int .i64 1, .string ⟨#[40]⟩, .int .i64 7, .int .i64 0, .int .i64 0, .int .i64 1, .string ⟨#[41]⟩] 71) = w2 at *;have HB2 := ħ (HB1.o.trans (hb2.mono HB1.o.size));have HT2 := ħ (ÀF HT1.o hb2 hb2.size);have HX2 := ħ hx2;have HR2 := ħ hr2;clear hs2 hb2 hx2 hr2
 have HP2 := ħ (Æq ⟨#[97, 42, 42]⟩ (by decide) w2 HT2.o)
 rw [ÏR] at HP2
 go_wp2_with fail
 refine HP2.o.mono ?_;rintro e w3 ⟨rfl, hb3⟩;have HB3 := ħ (HB2.o.trans (hb3.mono HB2.o.size));have HT3 := ħ (ÀF HT2.o hb3 hb3.size);have HX3 := ħ (HX2.o.on hb3);have HR3 := ħ (HR2.o.on hb3);clear hb3 HP2
 have HV3 := ħ (Ær s8 (.slice (some ⟨w1.heap.size + 1, 0, none⟩) 2 2) w3 (by decide) HT3.o HR3.o)
 rw [ÏS] at HV3;obtain ⟨x0, x1, x2, x3, x4⟩ := HX3.o.c5;have hlx := HX3.o.lt
 go_wp2_with fail
 refine HV3.o.mono ?_;rintro e w4 ⟨rfl, hb4⟩;have HB4 := ħ (HB3.o.trans (hb4.mono HB3.o.size));have HT4 := ħ (ÀF HT3.o hb4 hb4.size);clear hb4 HV3 x0 x1 x2 x3 x4 hlx
 go_wp2_with fail
 refine (ÇE w4).mono ?_;rintro e w5 ⟨rfl, hb5⟩;have HB5 := ħ (HB4.o.trans (hb5.mono HB4.o.size));have HT5 := ħ (ÀF HT4.o hb5 hb5.size);clear hb5
 have HV5 := ħ (Ær RS.first (.slice none 0 0) w5 (by decide) HT5.o (Ĭ.nil _ _))
 rw [Ëm] at HV5
 go_wp2_with fail
 refine HV5.o.mono ?_;rintro e w6 ⟨rfl, hb6⟩;have HB6 := ħ (HB5.o.trans (hb6.mono HB5.o.size));clear hb6 HV5;go_wp2;go_ret;exact ⟨rfl, HB6.o⟩
end
section
open Go.RowKit
variable {w w' : World}
end
end Go.Proofs.YtpginkdkblmnbaaGreatDoor
