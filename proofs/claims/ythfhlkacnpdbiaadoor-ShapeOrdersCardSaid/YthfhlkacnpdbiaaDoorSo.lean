/- ShapeOrders' walk. -/
import Derived.Test.YthfhlkacnpdbiaaDoorSf
import Derived.Test.YthfhlkacnpdbiaaDoorMPf
import Derived.Test.YthfhlkacnpdbiaaDoorMModel
namespace Go.Proofs.YthfhlkacnpdbiaaDoor
open Go.RowKit
open Go.Proofs.YthfhlkacnpdbiaaDoor.Cl (Rg)
variable {w w' : World}

set_option maxRecDepth 100000 in
set_option maxHeartbeats 2000000 in
theorem orders_law (x : ByteArray) (hT : TabsAt w.heap.size w) : Calls Tryd.prog 3 #[.string x] w fun e w' => e = .returned (.bool true) ∧ Below w.heap.size w w' := by
  have HT := Lib.hid hT
  have HA := Lib.hid (anchor_any hT)
  clear hT
  by_cases hlen : 400 < x.size
  · have hlen' : (400 : Int) < (x.size : Int) := by omega
    go_enter Tryd.func3, Tryd.ntmps3
    go_wp2_with fail
    refine HA.out.mono ?_
    rintro e w1 ⟨rfl, hb1⟩
    go_wp2
    go_ret
    exact ⟨rfl, hb1⟩
  have hlen' : ¬ (400 : Int) < (x.size : Int) := by omega
  have HP1 : Hid (∀ W : World, TabsAt W.heap.size W → Calls Tryd.prog 10 #[.string x] W (ParsePost W (parse 1026 x.data.toList))) := Lib.hid (fun W hW => parse_any (s := x.data.toList) 1026 (by omega) (by have : x.data.toList.length = x.size := rfl; omega) hW)
  obtain ⟨r1, hr1⟩ : ∃ r, r = parse 1026 x.data.toList := ⟨_, rfl⟩
  rw [← hr1] at HP1
  have HR1 := Lib.hid (ok_of (by omega) hr1)
  clear hr1
  go_enter Tryd.func3, Tryd.ntmps3
  go_wp2_with fail
  refine HA.out.mono ?_
  rintro e w0 ⟨rfl, hb0⟩
  have HT0 := Lib.hid (tabs_on HT.out hb0 hb0.size)
  go_wp2_with fail
  refine (HP1.out _ HT0.out).mono ?_
  intro e w1 hp
  obtain ⟨A1, B1, p1, q1, rfl, hN, hb1⟩ := hp.uni
  generalize ndOf r1 = n1 at hN HR1 ⊢
  generalize gOf r1 = g1 at HR1 ⊢
  generalize foOf r1 = fo1 at HR1 ⊢
  generalize (fOf r1).1 = fc1 at HR1 ⊢
  generalize (fOf r1).2 = fp1
  unfold pCells
  have P1 := Lib.hid (put_new w0 w1 #[.int .i64 n1.kind, .int .i64 n1.lo, .int .i64 n1.hi, .int .i64 n1.mode, .int .i64 n1.ref, .slice A1 n1.set.length p1, .slice B1 n1.kids.length q1, .int .i64 (g1 : Nat), .bool fo1] #[.int .i64 (fc1 : Nat), .int .i64 (fp1 : Nat)] hb1)
  have HN1 := Lib.hid (hN.on (put_on w1 #[.int .i64 n1.kind, .int .i64 n1.lo, .int .i64 n1.hi, .int .i64 n1.mode, .int .i64 n1.ref, .slice A1 n1.set.length p1, .slice B1 n1.kids.length q1, .int .i64 (g1 : Nat), .bool fo1] #[.int .i64 (fc1 : Nat), .int .i64 (fp1 : Nat)]))
  clear hN hp HP1
  go_upto_region 6 with (fail)
  generalize (w1.alloc (.cells #[.int .i64 n1.kind, .int .i64 n1.lo, .int .i64 n1.hi, .int .i64 n1.mode, .int .i64 n1.ref, .slice A1 n1.set.length p1, .slice B1 n1.kids.length q1, .int .i64 (g1 : Nat), .bool fo1] 29)).alloc (.cells #[.int .i64 (fc1 : Nat), .int .i64 (fp1 : Nat)] 32) = v1 at *
  have hbv1 := hb0.trans (P1.out.keep.mono hb0.size)
  have hf1 := P1.out.flt.cell 0
  simp at hf1
  by_cases h1 : ¬ fc1 = 0
  · have h1' := off_zero h1
    go_wp2
    go_ret
    exact ⟨rfl, hbv1⟩
  obtain rfl : fc1 = 0 := by omega
  simp only [Int.cast_ofNat_Int] at hf1
  have HW := Lib.hid (parse_wf (HR1.out rfl))
  have HL := Lib.hid (least_le HW.out)
  have hl0 := (least_range HW.out).1
  have hl1 : least n1 ≤ 1048576 := (least_range HW.out).2
  have hm0 := (most_range HW.out).1
  have hm1 : most n1 ≤ 1048576 := (most_range HW.out).2
  have hs0 := (ndSize_range HW.out).1
  have hs1 : ndSize n1 ≤ 1048576 := (ndSize_range HW.out).2
  have hc1 := P1.out.node.nine
  have HWd := Lib.hid (fun W (hW : Below v1.heap.size v1 W) => width_any n1 HW.out W A1 B1 p1 q1 (HN1.out.on hW))
  have HSz := Lib.hid (fun W (hW : Below v1.heap.size v1 W) => size_any n1 HW.out W A1 B1 p1 q1 (HN1.out.on hW))
  generalize least n1 = l at *
  generalize most n1 = m at *
  generalize ndSize n1 = z at *
  go_wp2_with fail
  refine (HWd.out v1 (Below.refl _ _)).mono ?_
  rintro e w2 ⟨rfl, hb2⟩
  have hbv2 := hbv1.trans (hb2.mono hbv1.size)
  have hc2 := (P1.out.node.on hb2).nine
  clear hc1 hf1
  go_wp2_with fail
  refine (HSz.out w2 hb2).mono ?_
  rintro e w3 ⟨rfl, hb3⟩
  have hbv3 := hbv2.trans (hb3.mono hbv2.size)
  clear hc2
  by_cases hneg : m < 0
  · go_wp2
    go_ret
    exact ⟨rfl, hbv3⟩
  · have hle : l ≤ m := by
      rcases HL.out with h | h
      · exact absurd h hneg
      · exact h
    go_wp2
    go_ret
    exact ⟨rfl, hbv3⟩

theorem shapeOrders_law (x : ByteArray) (w : World) (hT : TabsAt w.heap.size w) : Calls Tryd.prog 3 #[.string x] w fun e w' => e = .returned (.bool true) ∧ Below w.heap.size w w' := orders_law x hT

end Go.Proofs.YthfhlkacnpdbiaaDoor
