/- The document's reader: how many. -/
import Derived.Test.YtiheeafmplccoaaPkRa
namespace Go.Proofs.Ytiheeafmplccoaa
open Go.RowKit
variable {w w' w'' : World} {n₀ rb : Nat} {V : Value} {b s : List UInt8} {wr : Bool}

set_option maxRecDepth 100000 in
set_option maxHeartbeats 4000000 in
theorem xrcount_any (h : Rx n₀ rb V b w s wr) : Calls Try.prog 64 #[.pointer (some ⟨rb, 0, none⟩)] w fun e w' => ∃ (k : Nat) (t : S) (wr' : Bool), e = .returned (.int .i64 (k : Int)) ∧ k ≤ t.length ∧ Rx n₀ rb V b w' t wr' ∧ FrR rb w w' ∧ Out (pC s) wr k t wr' := by
  have H := Lib.hid h
  clear h
  go_enter Try.func64, Try.ntmps64
  go_wp2_with fail
  refine (xrnum_any H.out).mono ?_
  rintro e w1 ⟨x, t, wr1, _, rfl, ⟨rfl, hx1, hx2⟩, h1, h2, h3⟩
  have H1 := Lib.hid h1
  have H2 := Lib.hid h2
  have H3 := Lib.hid h3
  obtain ⟨p, hB, hS, hn0, hp, hl, hs⟩ := h1
  obtain ⟨A, cap, hv, hcap, ht⟩ := hS
  obtain ⟨m, hm⟩ : ∃ m, m = b.length := ⟨_, rfl⟩
  have c0 := hB.cell 0
  rw [hv, ← hm] at c0
  have c1 := hB.cell 1
  have c2 := hB.cell 2
  have f2 := hB.frozen 2
  have hlt := hB.lt
  have htl : (t.length : Int) = (m : Int) - (p : Int) := by rw [hs, List.length_drop, hm]; omega
  rw [← hm] at hp hl hcap
  have HTL := Lib.hid htl
  clear hB h2 h3 hs ht htl H hn0 hv hm
  have BAD : Hid (∀ k, Rx n₀ rb V b ((w1.drewN k).setCell ⟨rb, 2, none⟩ (.bool true)) t true ∧ FrR rb w ((w1.drewN k).setCell ⟨rb, 2, none⟩ (.bool true))) := Lib.hid fun k =>
    ⟨(H1.out.on (Below.drewN' (Below.refl _ _) _)).bad, (H2.out.trans (FrR.of_below (Below.drewN' (Below.refl _ _) _))).set_ (q := ⟨rb, 2, none⟩) (.inl rfl) _⟩
  have hw : IntKind.i64.wrap ((m : Int) - (p : Int)) = (m : Int) - (p : Int) := IntWalk.i64_in _ (by omega)
  cases wr1 with
  | true =>
    go_wp2
    go_quiet (fail)
    go_wp2
    go_ret
    exact ⟨0, t, true, rfl, Nat.zero_le _, (BAD.out _).1, (BAD.out _).2, Out.bind H3.out (Out.wrong _ _)⟩
  | false =>
    by_cases h0 : x < 0
    · obtain rfl : x = -1 := by omega
      have hc := c_none (x := -1) (t := t) (by omega)
      have HC := Lib.hid hc
      clear hc
      go_wp2
      go_quiet (fail)
      go_wp2
      go_ret
      exact ⟨0, t, true, rfl, Nat.zero_le _, (BAD.out _).1, (BAD.out _).2, Out.bind H3.out (Out.none HC.out _ _ _)⟩
    · by_cases h1 : (m : Int) - (p : Int) < x
      · have hc := c_none (x := x) (t := t) (by rw [HTL.out]; omega)
        have HC := Lib.hid hc
        clear hc
        go_wp2
        go_quiet (fail)
        go_wp2
        go_ret
        exact ⟨0, t, true, rfl, Nat.zero_le _, (BAD.out _).1, (BAD.out _).2, Out.bind H3.out (Out.none HC.out _ _ _)⟩
      · have d0 : decide (x < 0) = false := decide_eq_false h0
        have d1 : decide ((m : Int) - (p : Int) < x) = false := decide_eq_false h1
        go_wp2
        go_quiet (fail)
        go_wp2
        go_ret
        have hx0 : (0 : Int) ≤ x := by omega
        obtain ⟨k, rfl⟩ : ∃ k : Nat, x = (k : Int) := ⟨x.toNat, by omega⟩
        refine ⟨k, t, false, rfl, by have := HTL.out; omega, H1.out.on (Below.drewN' (Below.refl _ _) _), H2.out.trans (FrR.of_below (Below.drewN' (Below.refl _ _) _)), Out.bind H3.out ?_⟩
        rw [if_pos (by have := HTL.out; simp only; omega)]
        exact Out.pure _ _ _
end Go.Proofs.Ytiheeafmplccoaa
