/- ParseTwice's walk. -/
import Derived.Test.YthipgidddgdojaaDoorPY
namespace Go.Proofs.YthipgidddgdojaaDoor
open Go.RowKit
open Go.Proofs.YthipgidddgdojaaDoor.Cl (Rg)
variable {w w' : World}

set_option maxRecDepth 100000 in
set_option maxHeartbeats 2000000 in
theorem twice_law (x : ByteArray) (hT : TabsAt w.heap.size w) : Calls Tryd.prog 8 #[.string x] w fun e w' => e = .returned (.bool true) ∧ Below w.heap.size w w' := by
  have keq := run_eql_fault
  have HT := Lib.hid hT
  have HA := Lib.hid (anchor_any hT)
  clear hT
  by_cases hlen : 300 < x.size
  · have hlen' : (300 : Int) < (x.size : Int) := by omega
    go_enter Tryd.func8, Tryd.ntmps8
    go_wp2_with fail
    refine HA.out.mono ?_
    rintro e w1 ⟨rfl, hb1⟩
    go_wp2
    go_ret
    exact ⟨rfl, hb1⟩
  · have hlen' : ¬ (300 : Int) < (x.size : Int) := by omega
    have HP : Hid (∀ W : World, TabsAt W.heap.size W → Calls Tryd.prog 10 #[.string x] W (ParsePost W (parse 1026 x.data.toList))) := Lib.hid (fun W hW => parse_any (s := x.data.toList) 1026 (Nat.le_refl _) (by have : x.data.toList.length = x.size := rfl; omega) hW)
    generalize parse 1026 x.data.toList = r at HP
    go_enter Tryd.func8, Tryd.ntmps8
    go_wp2_with fail
    refine HA.out.mono ?_
    rintro e w0 ⟨rfl, hb0⟩
    have HT0 := Lib.hid (tabs_on HT.out hb0 hb0.size)
    go_wp2_with fail
    refine (HP.out _ HT0.out).mono ?_
    intro e w1 hp
    obtain ⟨A1, A2, p1, p2, rfl, hN, hb1⟩ := hp.uni
    obtain ⟨nd, hnd⟩ : ∃ nd, nd = ndOf r := ⟨_, rfl⟩
    obtain ⟨g, hg⟩ : ∃ g, g = gOf r := ⟨_, rfl⟩
    obtain ⟨fo, hfo⟩ : ∃ fo, fo = foOf r := ⟨_, rfl⟩
    obtain ⟨fc, hfc⟩ : ∃ fc, fc = (fOf r).1 := ⟨_, rfl⟩
    obtain ⟨fp, hfp⟩ : ∃ fp, fp = (fOf r).2 := ⟨_, rfl⟩
    rw [← hnd] at hN
    rw [← hnd, ← hg, ← hfo, ← hfc, ← hfp]
    have HE := Lib.hid (And.intro hnd (And.intro hg (And.intro hfo (And.intro hfc hfp))))
    unfold pCells
    have P1 := Lib.hid (put_new w0 w1 #[.int .i64 nd.kind, .int .i64 nd.lo, .int .i64 nd.hi, .int .i64 nd.mode, .int .i64 nd.ref, .slice A1 nd.set.length p1, .slice A2 nd.kids.length p2, .int .i64 (g : Nat), .bool fo] #[.int .i64 (fc : Nat), .int .i64 (fp : Nat)] hb1)
    have HN1 := Lib.hid (hN.on (put_on w1 #[.int .i64 nd.kind, .int .i64 nd.lo, .int .i64 nd.hi, .int .i64 nd.mode, .int .i64 nd.ref, .slice A1 nd.set.length p1, .slice A2 nd.kids.length p2, .int .i64 (g : Nat), .bool fo] #[.int .i64 (fc : Nat), .int .i64 (fp : Nat)]))
    clear hN hp hnd hg hfo hfc hfp
    go_upto_region 6 with (fail)
    generalize (w1.alloc (.cells #[.int .i64 nd.kind, .int .i64 nd.lo, .int .i64 nd.hi, .int .i64 nd.mode, .int .i64 nd.ref, .slice A1 nd.set.length p1, .slice A2 nd.kids.length p2, .int .i64 (g : Nat), .bool fo] 29)).alloc (.cells #[.int .i64 (fc : Nat), .int .i64 (fp : Nat)] 32) = v1 at *
    have hbv := hb0.trans (P1.out.keep.mono hb0.size)
    have HT1 := Lib.hid (tabs_on HT.out hbv hbv.size)
    go_wp2_with fail
    refine (HP.out _ HT1.out).mono ?_
    intro e w2 hp
    obtain ⟨B1, B2, q1, q2, rfl, hN, hb2⟩ := hp.uni
    obtain ⟨hnd, hg, hfo, hfc, hfp⟩ := HE.out
    rw [← hnd] at hN
    rw [← hnd, ← hg, ← hfo, ← hfc, ← hfp]
    clear hnd hg hfo hfc hfp HE hp
    unfold pCells
    have P2 := Lib.hid (put_new v1 w2 #[.int .i64 nd.kind, .int .i64 nd.lo, .int .i64 nd.hi, .int .i64 nd.mode, .int .i64 nd.ref, .slice B1 nd.set.length q1, .slice B2 nd.kids.length q2, .int .i64 (g : Nat), .bool fo] #[.int .i64 (fc : Nat), .int .i64 (fp : Nat)] hb2)
    have HN2 := Lib.hid (hN.on (put_on w2 #[.int .i64 nd.kind, .int .i64 nd.lo, .int .i64 nd.hi, .int .i64 nd.mode, .int .i64 nd.ref, .slice B1 nd.set.length q1, .slice B2 nd.kids.length q2, .int .i64 (g : Nat), .bool fo] #[.int .i64 (fc : Nat), .int .i64 (fp : Nat)]))
    clear hN
    go_upto_region 7 with (fail)
    generalize (w2.alloc (.cells #[.int .i64 nd.kind, .int .i64 nd.lo, .int .i64 nd.hi, .int .i64 nd.mode, .int .i64 nd.ref, .slice B1 nd.set.length q1, .slice B2 nd.kids.length q2, .int .i64 (g : Nat), .bool fo] 29)).alloc (.cells #[.int .i64 (fc : Nat), .int .i64 (fp : Nat)] 32) = v2 at *
    have hbv2 := hbv.trans (P2.out.keep.mono hbv.size)
    have hc1 := (P1.out.node.on P2.out.keep).nine
    have hc2 := P2.out.node.nine
    have hf1a := (P1.out.flt.on P2.out.keep).cell 0
    have hf1b := (P1.out.flt.on P2.out.keep).cell 1
    have hf2a := P2.out.flt.cell 0
    have hf2b := P2.out.flt.cell 1
    simp at hf1a hf1b hf2a hf2b
    have HS := Lib.hid (same_nodes nd v2 A1 A2 B1 B2 p1 p2 q1 q2 (HN1.out.on P2.out.keep) HN2.out)
    clear P1 P2 HN1 HN2
    go_wp2_with fail
    refine HS.out.mono ?_
    rintro e w3 ⟨rfl, hb3⟩
    have hb4 := hbv2.trans (hb3.mono hbv2.size)
    go_wp2
    go_ret
    exact ⟨rfl, hb4⟩

theorem parseTwice_law (x : ByteArray) (w : World) (hT : TabsAt w.heap.size w) : Calls Tryd.prog 8 #[.string x] w fun e w' => e = .returned (.bool true) ∧ Below w.heap.size w w' := twice_law x hT

end Go.Proofs.YthipgidddgdojaaDoor
