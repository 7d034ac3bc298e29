/- The shape law's anchor; what the laws need of Parse. -/
import Derived.Test.YtpginkdkblmnbaaGreatDoorZMSd
import Derived.Test.YtpginkdkblmnbaaGreatDoorZPY
import Derived.Test.YtpginkdkblmnbaaGreatDoorZMModel
namespace Go.Proofs.YtpginkdkblmnbaaGreatDoor
open Go.RowKit
open Go.Proofs.YtpginkdkblmnbaaGreatDoor.Cl (Rg)
variable {w w' : World}

def shapeNd : Nd := .mk 3 0 0 0 0 [] [.mk 4 2 3 0 0 [] [.mk 1 0 0 0 0 [(97, 97)] []], .mk 4 0 (-1) 0 0 [] [.mk 1 0 0 0 0 [(98, 98)] []]]
theorem shape1 : parse 1026 [97, 123, 50, 44, 51, 125, 124, 98, 42] = .ok (shapeNd, 0, false) := by kernel_rfl
def starNd : Nd := .mk 4 0 (-1) 0 0 [] [.mk 1 0 0 0 0 [(97, 97)] []]
theorem shape2 : parse 1026 [97, 42] = .ok (starNd, 0, false) := by kernel_rfl
theorem shape_wf : Wf shapeNd := parse_wf shape1
theorem shape_least : least shapeNd = 0 := by kernel_rfl
theorem shape_most : most shapeNd = -1 := by kernel_rfl
theorem shape_size : ndSize shapeNd = 11 := by kernel_rfl
theorem shape_verdict : verdictN shapeNd = 0 := by kernel_rfl
theorem run_eql_errno (a b : Int) : (binOp .eql 30 (.int .i64 a) (.int .i64 b)).run Tryz.prog w = .ok (.bool (a == b)) w := by rfl

set_option maxRecDepth 100000 in
set_option maxHeartbeats 2000000 in
theorem anchor_any (hT : TabsAt w.heap.size w) : Calls Tryz.prog 7 #[] w fun e w' => e = .returned (.bool true) ∧ Below w.heap.size w w' := by
  have HT := Lib.hid hT
  clear hT
  go_enter Tryz.func7, Tryz.ntmps7
  go_wp2_with fail
  refine (parse_any (s := [97, 123, 50, 44, 51, 125, 124, 98, 42]) 1026 (Nat.le_refl _) (by simp) HT.out).mono ?_
  rw [shape1]
  rintro e w1 ⟨A1, A2, p1, p2, rfl, hN, hb1⟩
  have P1 := Lib.hid (put_new w w1 #[.int .i64 3, .int .i64 0, .int .i64 0, .int .i64 0, .int .i64 0, .slice A1 0 p1, .slice A2 2 p2, .int .i64 0, .bool false] #[.int .i64 0, .int .i64 0] hb1)
  have HN1 := Lib.hid (hN.on (put_on w1 #[.int .i64 3, .int .i64 0, .int .i64 0, .int .i64 0, .int .i64 0, .slice A1 0 p1, .slice A2 2 p2, .int .i64 0, .bool false] #[.int .i64 0, .int .i64 0]))
  clear hN
  unfold pCells
  simp only [shapeNd, Nd.kind, Nd.lo, Nd.hi, Nd.mode, Nd.ref, Nd.set, Nd.kids, List.length_cons, List.length_nil, Nat.zero_add, Nat.reduceAdd]
  go_upto_region 2 with (fail)
  generalize (w1.alloc (.cells #[.int .i64 3, .int .i64 0, .int .i64 0, .int .i64 0, .int .i64 0, .slice A1 0 p1, .slice A2 2 p2, .int .i64 0, .bool false] 29)).alloc (.cells #[.int .i64 0, .int .i64 0] 32) = v1 at *
  have hbv1 : Below w.heap.size w v1 := P1.out.keep
  have hc1 := P1.out.node.nine
  have HW : Hid (Calls Tryz.prog 10 #[.agg #[.int .i64 3, .int .i64 0, .int .i64 0, .int .i64 0, .int .i64 0, .slice A1 0 p1, .slice A2 2 p2]] v1 fun e w' => e = .returned (.tuple #[.int .i64 0, .int .i64 (-1)]) ∧ Below v1.heap.size v1 w') := Lib.hid (by
    have := width_any shapeNd shape_wf v1 A1 A2 p1 p2 HN1.out
    rw [shape_least, shape_most] at this
    exact this)
  go_wp2_with fail
  refine HW.out.mono ?_
  rintro e w2 ⟨rfl, hb2⟩
  have hbw2 := hbv1.trans (hb2.mono hbv1.size)
  have HT3 := Lib.hid (tabs_on HT.out hbw2 hbw2.size)
  clear hc1 HW
  go_wp2_with fail
  refine (parse_any (w := w2) (s := [97, 42]) 1026 (Nat.le_refl _) (by simp) HT3.out).mono ?_
  rw [shape2]
  rintro e w3 ⟨B1, B2, q1, q2, rfl, _, hb3⟩
  have P2 := Lib.hid (put_new w2 w3 #[.int .i64 4, .int .i64 0, .int .i64 (-1), .int .i64 0, .int .i64 0, .slice B1 0 q1, .slice B2 1 q2, .int .i64 0, .bool false] #[.int .i64 0, .int .i64 0] hb3)
  unfold pCells
  simp only [starNd, Nd.kind, Nd.lo, Nd.hi, Nd.mode, Nd.ref, Nd.set, Nd.kids, List.length_cons, List.length_nil, Nat.zero_add]
  go_upto_region 4 with (fail)
  generalize (w3.alloc (.cells #[.int .i64 4, .int .i64 0, .int .i64 (-1), .int .i64 0, .int .i64 0, .slice B1 0 q1, .slice B2 1 q2, .int .i64 0, .bool false] 29)).alloc (.cells #[.int .i64 0, .int .i64 0] 32) = v2 at *
  have k12 := hb2.trans (P2.out.keep.mono hb2.size)
  have hbv2 := hbv1.trans (k12.mono hbv1.size)
  have HB := Lib.hid (P1.out.node.on k12)
  have hc1 := HB.out.nine
  have hf1 := (P1.out.flt.on k12).cell 0
  have hf2 := P2.out.flt.cell 0
  simp at hf1 hf2
  have HN2 := Lib.hid (HN1.out.on k12)
  have HS : Hid (Calls Tryz.prog 13 #[.agg #[.int .i64 3, .int .i64 0, .int .i64 0, .int .i64 0, .int .i64 0, .slice A1 0 p1, .slice A2 2 p2]] v2 fun e w' => e = .returned (.int .i64 11) ∧ Below v2.heap.size v2 w') := Lib.hid (by
    have := size_any shapeNd shape_wf v2 A1 A2 p1 p2 HN2.out
    rw [shape_size] at this
    exact this)
  have HC : Hid (∀ W, Below v2.heap.size v2 W → Calls Tryz.prog 15 #[.agg #[.int .i64 3, .int .i64 0, .int .i64 0, .int .i64 0, .int .i64 0, .slice A1 0 p1, .slice A2 2 p2, .int .i64 0, .bool false]] W fun e w' => e = .returned (.int .i64 0) ∧ Below W.heap.size W w') := Lib.hid (fun W hW => by
    have := check_any shapeNd shape_wf 0 false W A1 A2 p1 p2 (HN2.out.on hW)
    rw [shape_verdict] at this
    exact this)
  go_wp2_with fail
  refine HS.out.mono ?_
  rintro e w4 ⟨rfl, hb4⟩
  have hbv4 := hbv2.trans (hb4.mono hbv2.size)
  have hc4 := (HB.out.on hb4).nine
  clear hc1 hf1 hf2 HS
  go_wp2_with fail
  refine (HC.out w4 hb4).mono ?_
  rintro e w5 ⟨rfl, hb5⟩
  have hbv5 := hbv4.trans (hb5.mono hbv4.size)
  go_wp2
  go_ret
  exact ⟨rfl, hbv5⟩

end Go.Proofs.YtpginkdkblmnbaaGreatDoor
