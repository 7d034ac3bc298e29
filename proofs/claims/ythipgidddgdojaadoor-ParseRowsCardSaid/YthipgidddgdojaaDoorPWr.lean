/- ParseWraps' walk. -/
import Derived.Test.YthipgidddgdojaaDoorPY
import Derived.Test.YthipgidddgdojaaDoorPCode
namespace Go.Proofs.YthipgidddgdojaaDoor
open Go.RowKit
variable {w w' : World}

theorem bytes_app (a b : List UInt8) : ((⟨a.toArray⟩ : ByteArray) ++ (⟨b.toArray⟩ : ByteArray)) = ⟨(a ++ b).toArray⟩ := by
  apply ByteArray.ext
  simp [ByteArray.data_append]
theorem wrap_eq (x : ByteArray) : ((⟨#[40, 63, 58]⟩ : ByteArray) ++ x ++ (⟨#[41]⟩ : ByteArray)) = ⟨(40 :: 63 :: 58 :: (x.data.toList ++ [41])).toArray⟩ := by
  apply ByteArray.ext
  simp [ByteArray.data_append]
theorem off_zero {n : Nat} (h : n ≠ 0) : ((n : Int) != 0) = true := by simp [h]

set_option maxRecDepth 100000 in
set_option maxHeartbeats 2000000 in
theorem wraps_law (x : ByteArray) (hT : TabsAt w.heap.size w) : Calls Tryd.prog 3 #[.string x] w fun e w' => e = .returned (.bool true) ∧ Below w.heap.size w w' := by
  have HT := Lib.hid hT
  have HA := Lib.hid (anchor_any hT)
  clear hT
  by_cases hlen : 400 < x.size
  · have hlen' : (400 : Int) < (x.size : Int) := by omega
    go_enter Tryd.func3, Tryd.ntmps3
    go_wp2_with fail
    refine HA.out.mono ?_
    rintro e w1 ⟨rfl, hb1⟩
    go_wp2
    go_ret
    exact ⟨rfl, hb1⟩
  · have hlen' : ¬ (400 : Int) < (x.size : Int) := by omega
    have hmx : x.size ≤ 400 := by omega
    have HP : Hid (∀ W : World, TabsAt W.heap.size W → Calls Tryd.prog 10 #[.string x] W (ParsePost W (parse 1026 x.data.toList))) := Lib.hid (fun W hW => parse_any (s := x.data.toList) 1026 (Nat.le_refl _) (by have : x.data.toList.length = x.size := rfl; omega) hW)
    obtain ⟨r, hr⟩ : ∃ r, r = parse 1026 x.data.toList := ⟨_, rfl⟩
    rw [← hr] at HP
    have HR := Lib.hid hr
    clear hr
    cases r with
    | error f =>
      obtain ⟨fc, fp⟩ := f
      have hfc := parse_code (Nat.le_refl _) HR.out.symm
      have hfc' := off_zero hfc
      simp only at hfc hfc'
      go_enter Tryd.func3, Tryd.ntmps3
      go_wp2_with fail
      refine HA.out.mono ?_
      rintro e w0 ⟨rfl, hb0⟩
      have HT0 := Lib.hid (tabs_on HT.out hb0 hb0.size)
      go_wp2_with fail
      refine (HP.out _ HT0.out).mono ?_
      rintro e w1 ⟨rfl, hb1⟩
      unfold zero9
      simp only
      have P1 := Lib.hid (put_new w0 w1 #[.int .i64 0, .int .i64 0, .int .i64 0, .int .i64 0, .int .i64 0, .slice none 0 0, .slice none 0 0, .int .i64 0, .bool false] #[.int .i64 (fc : Nat), .int .i64 (fp : Nat)] hb1)
      go_upto_region 6 with (fail)
      generalize (w1.alloc (.cells #[.int .i64 0, .int .i64 0, .int .i64 0, .int .i64 0, .int .i64 0, .slice none 0 0, .slice none 0 0, .int .i64 0, .bool false] 29)).alloc (.cells #[.int .i64 (fc : Nat), .int .i64 (fp : Nat)] 32) = v1 at *
      have hbv := hb0.trans (P1.out.keep.mono hb0.size)
      have hf1a := P1.out.flt.cell 0
      have hf1b := P1.out.flt.cell 1
      simp at hf1a hf1b
      go_wp2
      go_ret
      exact ⟨rfl, hbv⟩
    | ok y =>
      obtain ⟨nd, g, fo⟩ := y
      go_enter Tryd.func3, Tryd.ntmps3
      go_wp2_with fail
      refine HA.out.mono ?_
      rintro e w0 ⟨rfl, hb0⟩
      have HT0 := Lib.hid (tabs_on HT.out hb0 hb0.size)
      go_wp2_with fail
      refine (HP.out _ HT0.out).mono ?_
      rintro e w1 ⟨A1, A2, p1, p2, rfl, hN, hb1⟩
      unfold pCells
      simp only at hN ⊢
      have P1 := Lib.hid (put_new w0 w1 #[.int .i64 nd.kind, .int .i64 nd.lo, .int .i64 nd.hi, .int .i64 nd.mode, .int .i64 nd.ref, .slice A1 nd.set.length p1, .slice A2 nd.kids.length p2, .int .i64 (g : Nat), .bool fo] #[.int .i64 0, .int .i64 0] hb1)
      have HN1 := Lib.hid (hN.on (put_on w1 #[.int .i64 nd.kind, .int .i64 nd.lo, .int .i64 nd.hi, .int .i64 nd.mode, .int .i64 nd.ref, .slice A1 nd.set.length p1, .slice A2 nd.kids.length p2, .int .i64 (g : Nat), .bool fo] #[.int .i64 0, .int .i64 0]))
      clear hN
      go_upto_region 6 with (fail)
      generalize (w1.alloc (.cells #[.int .i64 nd.kind, .int .i64 nd.lo, .int .i64 nd.hi, .int .i64 nd.mode, .int .i64 nd.ref, .slice A1 nd.set.length p1, .slice A2 nd.kids.length p2, .int .i64 (g : Nat), .bool fo] 29)).alloc (.cells #[.int .i64 0, .int .i64 0] 32) = v1 at *
      have hbv := hb0.trans (P1.out.keep.mono hb0.size)
      have hc1 := P1.out.node.nine
      have hf1a := P1.out.flt.cell 0
      have hf1b := P1.out.flt.cell 1
      simp at hf1a hf1b
      cases fo with
      | true =>
        go_wp2
        go_ret
        exact ⟨rfl, hbv⟩
      | false =>
        have HT1 := Lib.hid (tabs_on HT.out hbv hbv.size)
        have HP2 : Hid (∀ W : World, TabsAt W.heap.size W → Calls Tryd.prog 10 #[.string ((⟨#[40, 63, 58]⟩ : ByteArray) ++ x ++ (⟨#[41]⟩ : ByteArray))] W (ParsePost W (parse 1030 (40 :: 63 :: 58 :: (x.data.toList ++ [41]))))) := Lib.hid (fun W hW => by
          rw [wrap_eq]
          exact parse_any (s := 40 :: 63 :: 58 :: (x.data.toList ++ [41])) 1030 (by omega) (by have : x.data.toList.length = x.size := rfl; simp; omega) hW)
        rcases parse_wrap (N := 1026) HR.out.symm with h2 | ⟨hl2, h2⟩ | ⟨p, h2⟩
        · rw [h2] at HP2
          clear h2
          go_wp2_with fail
          refine (HP2.out _ HT1.out).mono ?_
          rintro e w2 ⟨B1, B2, q1, q2, rfl, hN, hb2⟩
          unfold pCells
          simp only at hN ⊢
          have P2 := Lib.hid (put_new v1 w2 #[.int .i64 nd.kind, .int .i64 nd.lo, .int .i64 nd.hi, .int .i64 nd.mode, .int .i64 nd.ref, .slice B1 nd.set.length q1, .slice B2 nd.kids.length q2, .int .i64 (g : Nat), .bool false] #[.int .i64 0, .int .i64 0] hb2)
          have HN2 := Lib.hid (hN.on (put_on w2 #[.int .i64 nd.kind, .int .i64 nd.lo, .int .i64 nd.hi, .int .i64 nd.mode, .int .i64 nd.ref, .slice B1 nd.set.length q1, .slice B2 nd.kids.length q2, .int .i64 (g : Nat), .bool false] #[.int .i64 0, .int .i64 0]))
          clear hN
          go_upto_region 9 with (fail)
          generalize (w2.alloc (.cells #[.int .i64 nd.kind, .int .i64 nd.lo, .int .i64 nd.hi, .int .i64 nd.mode, .int .i64 nd.ref, .slice B1 nd.set.length q1, .slice B2 nd.kids.length q2, .int .i64 (g : Nat), .bool false] 29)).alloc (.cells #[.int .i64 0, .int .i64 0] 32) = v2 at *
          have hbv2 := hbv.trans (P2.out.keep.mono hbv.size)
          have hc1 := (P1.out.node.on P2.out.keep).nine
          have hc2 := P2.out.node.nine
          have hf2a := P2.out.flt.cell 0
          have hf2b := P2.out.flt.cell 1
          simp at hf2a hf2b
          have HS := Lib.hid (same_nodes nd v2 A1 A2 B1 B2 p1 p2 q1 q2 (HN1.out.on P2.out.keep) HN2.out)
          clear P1 P2 HN1 HN2
          go_wp2_with fail
          refine HS.out.mono ?_
          rintro e w3 ⟨rfl, hb3⟩
          have hb4 := hbv2.trans (hb3.mono hbv2.size)
          go_wp2
          go_ret
          exact ⟨rfl, hb4⟩
        · have hl2' : (252 : Int) < (x.size : Int) := by have : x.data.toList.length = x.size := rfl; omega
          rw [h2] at HP2
          clear h2
          go_wp2_with fail
          refine (HP2.out _ HT1.out).mono ?_
          rintro e w2 ⟨rfl, hb2⟩
          unfold zero9
          have P2 := Lib.hid (put_new v1 w2 #[.int .i64 0, .int .i64 0, .int .i64 0, .int .i64 0, .int .i64 0, .slice none 0 0, .slice none 0 0, .int .i64 0, .bool false] #[.int .i64 12, .int .i64 0] hb2)
          go_upto_region 9 with (fail)
          generalize (w2.alloc (.cells #[.int .i64 0, .int .i64 0, .int .i64 0, .int .i64 0, .int .i64 0, .slice none 0 0, .slice none 0 0, .int .i64 0, .bool false] 29)).alloc (.cells #[.int .i64 12, .int .i64 0] 32) = v2 at *
          have hbv2 := hbv.trans (P2.out.keep.mono hbv.size)
          have hf2a := P2.out.flt.cell 0
          have hf2b := P2.out.flt.cell 1
          simp at hf2a hf2b
          go_wp2
          go_ret
          exact ⟨rfl, hbv2⟩
        · rw [h2] at HP2
          clear h2
          go_wp2_with fail
          refine (HP2.out _ HT1.out).mono ?_
          rintro e w2 ⟨rfl, hb2⟩
          unfold zero9
          have P2 := Lib.hid (put_new v1 w2 #[.int .i64 0, .int .i64 0, .int .i64 0, .int .i64 0, .int .i64 0, .slice none 0 0, .slice none 0 0, .int .i64 0, .bool false] #[.int .i64 25, .int .i64 (p : Nat)] hb2)
          go_upto_region 9 with (fail)
          generalize (w2.alloc (.cells #[.int .i64 0, .int .i64 0, .int .i64 0, .int .i64 0, .int .i64 0, .slice none 0 0, .slice none 0 0, .int .i64 0, .bool false] 29)).alloc (.cells #[.int .i64 25, .int .i64 (p : Nat)] 32) = v2 at *
          have hbv2 := hbv.trans (P2.out.keep.mono hbv.size)
          have hf2a := P2.out.flt.cell 0
          have hf2b := P2.out.flt.cell 1
          simp at hf2a hf2b
          go_wp2
          go_ret
          exact ⟨rfl, hbv2⟩

theorem parseWraps_law (x : ByteArray) (w : World) (hT : TabsAt w.heap.size w) : Calls Tryd.prog 3 #[.string x] w fun e w' => e = .returned (.bool true) ∧ Below w.heap.size w w' := wraps_law x hT

end Go.Proofs.YthipgidddgdojaaDoor
