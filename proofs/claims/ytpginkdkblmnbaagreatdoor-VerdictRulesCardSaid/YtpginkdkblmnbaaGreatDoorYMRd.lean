/- Joined: RuAa, RuAb. -/
import Derived.Test.YtpginkdkblmnbaaGreatDoorYMRc
import Derived.Shelf.SlSortCmp.QuietGrown
/- The document's rules: Rule.Right, Set.Numbered, or, find. -/
namespace Go.Proofs.YtpginkdkblmnbaaGreatDoor
open Go.RowKit
variable {w w' : World}

set_option maxRecDepth 100000 in
set_option maxHeartbeats 4000000 in
theorem xruleRight_at (r : Ru) (w : World) : Calls Tryz.prog 77 #[.agg #[.int .i64 r.id, .int .i64 r.pr, .int .i64 r.ac, .int .i64 r.sc, .string r.pat]] w fun e w' => e = .returned (.bool r.ok) ∧ w' = w.alloc (.cells #[.int .i64 r.id, .int .i64 r.pr, .int .i64 r.ac, .int .i64 r.sc, .string r.pat] 109) := by
  obtain ⟨id, pr, ac, sc, pat⟩ := r
  simp only
  obtain ⟨k, hk⟩ : ∃ k, k = Ru.ok ⟨id, pr, ac, sc, pat⟩ := ⟨_, rfl⟩
  rw [← hk]
  unfold Ru.ok at hk
  simp only at hk
  have fin : ∀ {b : Bool} {w1 : World}, b = k → w1 = w.alloc (.cells #[.int .i64 id, .int .i64 pr, .int .i64 ac, .int .i64 sc, .string pat] 109) → Ending.returned (.bool b) = Ending.returned (.bool k) ∧ w1 = w.alloc (.cells #[.int .i64 id, .int .i64 pr, .int .i64 ac, .int .i64 sc, .string pat] 109) := fun e e' => ⟨by rw [e], e'⟩
  by_cases h0 : 1 ≤ id
  · by_cases h1 : id ≤ 1099511627776
    · by_cases h2 : 0 ≤ pr
      · by_cases h3 : pr ≤ 1000
        · by_cases h4 : 0 ≤ ac
          · by_cases h5 : ac ≤ 255
            · by_cases h6 : 1 ≤ sc
              · by_cases h7 : sc ≤ 65535
                · by_cases h8 : (pat.size : Int) ≤ 256
                  · go_enter Tryz.func77, Tryz.ntmps77
                    go_wp2
                    go_ret
                    exact fin (by rw [hk]; exact (decide_eq_true (by omega)).symm) rfl
                  · go_enter Tryz.func77, Tryz.ntmps77
                    go_wp2
                    go_ret
                    exact fin (by rw [hk]; exact (decide_eq_false (by omega)).symm) rfl
                · go_enter Tryz.func77, Tryz.ntmps77
                  go_wp2
                  go_ret
                  exact fin (by rw [hk]; exact (decide_eq_false (by omega)).symm) rfl
              · go_enter Tryz.func77, Tryz.ntmps77
                go_wp2
                go_ret
                exact fin (by rw [hk]; exact (decide_eq_false (by omega)).symm) rfl
            · go_enter Tryz.func77, Tryz.ntmps77
              go_wp2
              go_ret
              exact fin (by rw [hk]; exact (decide_eq_false (by omega)).symm) rfl
          · go_enter Tryz.func77, Tryz.ntmps77
            go_wp2
            go_ret
            exact fin (by rw [hk]; exact (decide_eq_false (by omega)).symm) rfl
        · go_enter Tryz.func77, Tryz.ntmps77
          go_wp2
          go_ret
          exact fin (by rw [hk]; exact (decide_eq_false (by omega)).symm) rfl
      · go_enter Tryz.func77, Tryz.ntmps77
        go_wp2
        go_ret
        exact fin (by rw [hk]; exact (decide_eq_false (by omega)).symm) rfl
    · go_enter Tryz.func77, Tryz.ntmps77
      go_wp2
      go_ret
      exact fin (by rw [hk]; exact (decide_eq_false (by omega)).symm) rfl
  · go_enter Tryz.func77, Tryz.ntmps77
    go_wp2
    go_ret
    exact fin (by rw [hk]; exact (decide_eq_false (by omega)).symm) rfl

set_option maxRecDepth 100000 in
set_option maxHeartbeats 4000000 in
theorem numR_any (s : RS) (v : Value) (hv : ∃ A n c, v = .slice A n c) (w : World) : Calls Tryz.prog 76 #[.agg #[.int .i64 s.de, .int .i64 s.cl, .int .i64 s.fu, .int .i64 s.st, v]] w fun e w' => e = .returned (.bool s.num) ∧ Below w.heap.size w w' := by
  obtain ⟨A, n, c, rfl⟩ := hv
  obtain ⟨de, cl, fu, st, rs⟩ := s
  simp only
  have HB := Lib.hid ((Below.refl w.heap.size w).alloc (Nat.le_refl _) (.cells #[.int .i64 de, .int .i64 cl, .int .i64 fu, .int .i64 st, .slice A n c] 68))
  obtain ⟨k, hk⟩ : ∃ k, k = RS.num ⟨de, cl, fu, st, rs⟩ := ⟨_, rfl⟩
  rw [← hk]
  unfold RS.num at hk
  simp only at hk
  have fin : ∀ {b : Bool} {w1 : World}, b = k → w1 = w.alloc (.cells #[.int .i64 de, .int .i64 cl, .int .i64 fu, .int .i64 st, .slice A n c] 68) → Ending.returned (.bool b) = Ending.returned (.bool k) ∧ Below w.heap.size w w1 := fun e e' => ⟨by rw [e], by rw [e']; exact HB.out⟩
  by_cases h0 : 0 ≤ de
  · by_cases h1 : de ≤ 255
    · by_cases h2 : 0 ≤ cl
      · by_cases h3 : cl ≤ 255
        · by_cases h4 : 1 ≤ fu
          · by_cases h5 : fu ≤ 1048576
            · by_cases h6 : 0 ≤ st
              · by_cases h7 : st ≤ 4096
                · go_enter Tryz.func76, Tryz.ntmps76
                  go_wp2
                  go_ret
                  exact fin (by rw [hk]; exact (decide_eq_true (by omega)).symm) rfl
                · go_enter Tryz.func76, Tryz.ntmps76
                  go_wp2
                  go_ret
                  exact fin (by rw [hk]; exact (decide_eq_false (by omega)).symm) rfl
              · go_enter Tryz.func76, Tryz.ntmps76
                go_wp2
                go_ret
                exact fin (by rw [hk]; exact (decide_eq_false (by omega)).symm) rfl
            · go_enter Tryz.func76, Tryz.ntmps76
              go_wp2
              go_ret
              exact fin (by rw [hk]; exact (decide_eq_false (by omega)).symm) rfl
          · go_enter Tryz.func76, Tryz.ntmps76
            go_wp2
            go_ret
            exact fin (by rw [hk]; exact (decide_eq_false (by omega)).symm) rfl
        · go_enter Tryz.func76, Tryz.ntmps76
          go_wp2
          go_ret
          exact fin (by rw [hk]; exact (decide_eq_false (by omega)).symm) rfl
      · go_enter Tryz.func76, Tryz.ntmps76
        go_wp2
        go_ret
        exact fin (by rw [hk]; exact (decide_eq_false (by omega)).symm) rfl
    · go_enter Tryz.func76, Tryz.ntmps76
      go_wp2
      go_ret
      exact fin (by rw [hk]; exact (decide_eq_false (by omega)).symm) rfl
  · go_enter Tryz.func76, Tryz.ntmps76
    go_wp2
    go_ret
    exact fin (by rw [hk]; exact (decide_eq_false (by omega)).symm) rfl

end Go.Proofs.YtpginkdkblmnbaaGreatDoor

/- The document's rules: Set.Right. -/
namespace Go.Proofs.YtpginkdkblmnbaaGreatDoor
open Go.RowKit
variable {w w' : World}

section
variable {P : Program} {ops : Array Oper} {C : World → Prop} {Q K : Act → Prop} {o : Oper} {rest : List Oper} {a : Act}
/-- an operation of a quiet region that isn't wanted; what follows stays behind a variable -/
theorem quiet_skipK (hK : ∀ a, wpQuiet P ops C Q (o :: rest) a → K a) (hw : Region.wanted o (yielded ops a.tmps) = false) (h : ∀ K' : Act → Prop, (∀ a, wpQuiet P ops C Q rest a → K' a) → K' (a.put o.dst undef)) : K a :=
  hK _ (by unfold wpQuiet; rw [hw]; exact h _ (fun _ h => h))
theorem quiet_stepK (hK : ∀ a, wpQuiet P ops C Q (o :: rest) a → K a) (h : ∀ K' : Act → Prop, (∀ a, wpQuiet P ops C Q rest a → K' a) → if Region.wanted o (yielded ops a.tmps) then o.quiet P a C K' else K' (a.put o.dst undef)) : K a :=
  hK _ (wpQuiet_step h)
end
theorem RuAt.at_rule {b o : Nat} {r : Ru} (h : RuAt w b o r) (hb : b < w.heap.size) (n : Nat) (os : Array Obj) : RuAt (Sort.grow (w.drewN n) os) b o r :=
  ⟨cell_grown hb h.1 n os, cell_grown hb h.2.1 n os, cell_grown hb h.2.2.1 n os, cell_grown hb h.2.2.2.1 n os, cell_grown hb h.2.2.2.2 n os⟩
theorem below_grow (w : World) (n : Nat) (os : Array Obj) : Below w.heap.size w (Sort.grow (w.drewN n) os) :=
  ⟨rfl, rfl, rfl, by simp [Sort.grow], fun i hi => Sort.heap_grow_old _ _ (by exact hi)⟩
theorem xruleRight_g (r : Ru) (w : World) : Calls Tryz.prog 77 #[.agg #[.int .i64 r.id, .int .i64 r.pr, .int .i64 r.ac, .int .i64 r.sc, .string r.pat]] w fun e w' => e = .returned (.bool r.ok) ∧ ∃ q os', w' = Sort.grow (w.drewN q) os' :=
  (xruleRight_at r w).mono (by rintro e w' ⟨rfl, rfl⟩; exact ⟨rfl, 0, _, by rw [Sort.alloc_eq_grow]; rfl⟩)
theorem rise_take_succ {l : List Ru} {k : Nat} {r : Ru} (h : l[k]? = some r) (hr : Rise (l.take k)) (hk : ∀ p, k = p + 1 → ∀ q, l[p]? = some q → q.id < r.id) : Rise (l.take (k + 1)) := by
  rw [ru_take h]
  refine List.pairwise_append.2 ⟨hr, by simp, fun x hx y hy => ?_⟩
  rw [List.mem_singleton.1 hy]
  obtain ⟨i, hi, rfl⟩ := List.getElem_of_mem hx
  obtain ⟨hkl, _⟩ := List.getElem?_eq_some_iff.1 h
  have hi' : i < k := by rw [List.length_take] at hi; omega
  have hp := hk (k - 1) (by omega) l[k - 1] (List.getElem?_eq_getElem (by omega))
  rw [List.getElem_take]
  by_cases e : i = k - 1
  · subst e; exact hp
  · have := List.pairwise_iff_getElem.1 hr i (k - 1) hi (by rw [List.length_take]; omega) (by omega)
    rw [List.getElem_take, List.getElem_take] at this
    omega

set_option maxRecDepth 100000 in
set_option maxHeartbeats 4000000 in
theorem xRight_any (s : RS) (v : Value) (w : World) (hmax : s.rs.length ≤ 1000000) (hS : RulesV w.heap.size w v s.rs) :
    Calls Tryz.prog 48 #[.agg #[.int .i64 s.de, .int .i64 s.cl, .int .i64 s.fu, .int .i64 s.st, v]] w fun e w' => e = .returned (.bool (decide s.Ok)) ∧ Below w.heap.size w w' := by
  obtain ⟨A, cap, rfl⟩ := hS.form
  have mixed : Tryz.prog.follows .mixedOrders = true := by kernel_rfl
  have hb0 : Below w.heap.size w (w.alloc (.cells #[.int .i64 s.de, .int .i64 s.cl, .int .i64 s.fu, .int .i64 s.st, .slice A s.rs.length cap] 68)) := (Below.refl _ _).alloc (Nat.le_refl _) _
  have hx0 : Blk (w.alloc (.cells #[.int .i64 s.de, .int .i64 s.cl, .int .i64 s.fu, .int .i64 s.st, .slice A s.rs.length cap] 68)) w.heap.size 68 #[.int .i64 s.de, .int .i64 s.cl, .int .i64 s.fu, .int .i64 s.st, .slice A s.rs.length cap] := Blk.new _ _ _
  have HS := Lib.hid (hS.on hb0)
  have HB0 := Lib.hid hb0
  have HX0 := Lib.hid hx0
  clear hS hb0 hx0
  obtain ⟨k0, hk0⟩ : ∃ k, k = decide s.Ok := ⟨_, rfl⟩
  rw [← hk0]
  have HK := Lib.hid hk0
  clear hk0
  have fin : ∀ {b : Bool} {w1 : World}, b = k0 → Below w.heap.size w w1 → Ending.returned (.bool b) = Ending.returned (.bool k0) ∧ Below w.heap.size w w1 := fun e e' => ⟨by rw [e], e'⟩
  go_enter Tryz.func48, Tryz.ntmps48
  go_wp2_with fail
  generalize w.alloc (.cells #[.int .i64 s.de, .int .i64 s.cl, .int .i64 s.fu, .int .i64 s.st, .slice A s.rs.length cap] 68) = w0 at *
  refine (numR_any s _ ⟨_, _, _, rfl⟩ w0).mono ?_
  rintro e w1 ⟨rfl, hb1⟩
  have HB1 := Lib.hid (HB0.out.trans (hb1.mono HB0.out.size))
  have HS1 := Lib.hid (HS.out.on hb1)
  have HX1 := Lib.hid (HX0.out.on hb1)
  clear hb1 HS HB0 HX0
  have x4 := HX1.out.cell 4
  have hlx := HX1.out.lt
  cases hn : s.num with
  | false =>
    have HN := Lib.hid hn
    clear hn
    go_wp2
    go_ret
    exact fin (by rw [HK.out]; exact (decide_eq_false fun h => by rw [h.1] at HN; cases HN.out).symm) HB1.out
  | true =>
    have HN := Lib.hid hn
    clear hn
    by_cases hl : s.rs.length ≤ 16
    · have hl' : ¬ (16 : Int) < (s.rs.length : Int) := by omega
      have HL := Lib.hid hl
      clear hl
      go_wp2
      clear x4 hlx
      go_loopw [3] (fun i wr => ∃ k : Nat, k ≤ s.rs.length ∧ i = .int .i64 k ∧ Hid ((∀ r ∈ s.rs.take k, r.ok = true) ∧ Rise (s.rs.take k)) ∧ Hid (Below w1.heap.size w1 wr)) (fun i _ => s.rs.length - (intOf i).toNat)
      case atStart => exact ⟨0, Nat.zero_le _, rfl, Lib.hid (by simp), Lib.hid (Below.refl _ _)⟩
      case round =>
        obtain ⟨k, hk, rfl, HH, HB⟩ := hrel
        have hX := HX1.out.on HB.out
        have x4 := hX.cell 4
        have hlx := hX.lt
        by_cases hlt : k < s.rs.length
        · obtain ⟨b, off, rfl, hb, hr⟩ := (HS1.out.on HB.out).at_ hlt
          have HG := Lib.hid (List.getElem?_eq_getElem hlt)
          generalize s.rs[k] = r at HG hr
          have HLt := Lib.hid hlt
          have hq := fun n os => RuAt.at_rule hr hb n os
          have q0 := fun n os => (hq n os).1
          have q1 := fun n os => (hq n os).2.1
          have q2 := fun n os => (hq n os).2.2.1
          have q3 := fun n os => (hq n os).2.2.2.1
          have q4 := fun n os => (hq n os).2.2.2.2
          have y4 := fun n os => cell_grown hlx x4 n os
          have hcon := fun W => xruleRight_g r W
          clear hq
          cases hok : r.ok with
          | false =>
            have HI := Lib.hid hok
            rw [hok] at hcon
            clear hok
            go_wp2_with fail
            refine wp_region_quiet_grown (by assumption) (by kernel_rfl) ?_
            iterate 5 quiet_step (fail)
            quiet_step (first | (go_at_call 77; exact Calls.grown_of (hcon _)))
            iterate 1 quiet_step (fail)
            refine wpQuiet_step (fun K hK => ?_)
            go_simp
            iterate 18 (refine quiet_skipK hK (by kernel_rfl) (fun K hK => ?_); simp only [Act.put, List.setIfInBounds_toArray, List.set_cons_zero, List.set_cons_succ])
            refine quiet_stepK hK (fun K hK => ?_)
            go_simp
            refine hK _ (wpQuiet_nil ?_)
            clear hK
            intro _ hw'
            obtain ⟨⟨nq, osq⟩, hw''⟩ := hw'
            subst hw''
            clear q0 q1 q2 q3 q4 y4 x4
            have HW := Lib.hid (below_grow wr nq osq)
            generalize Sort.grow (wr.drewN nq) osq = w2 at HW ⊢
            go_wp2
            go_ret
            exact fin (by rw [HK.out]; exact (decide_eq_false fun h => by rw [h.2.2.1 r (List.mem_of_getElem? HG.out)] at HI; cases HI.out).symm) (HB1.out.trans ((HB.out.trans (HW.out.mono HB.out.size)).mono HB1.out.size))
          | true =>
            have HI := Lib.hid hok
            rw [hok] at hcon
            clear hok
            by_cases h0 : k = 0
            · subst h0
              simp only [Nat.zero_mul, Nat.add_zero] at q0 q1 q2 q3 q4
              go_wp2_with fail
              refine wp_region_quiet_grown (by assumption) (by kernel_rfl) ?_
              iterate 5 quiet_step (fail)
              quiet_step (first | (go_at_call 77; exact Calls.grown_of (hcon _)))
              iterate 4 quiet_step (fail)
              refine wpQuiet_step (fun K hK => ?_)
              go_simp
              iterate 14 (refine quiet_skipK hK (by kernel_rfl) (fun K hK => ?_); simp only [Act.put, List.setIfInBounds_toArray, List.set_cons_zero, List.set_cons_succ])
              refine quiet_stepK hK (fun K hK => ?_)
              go_simp
              refine quiet_stepK hK (fun K hK => ?_)
              go_simp
              refine hK _ (wpQuiet_nil ?_)
              clear hK
              intro _ hw'
              obtain ⟨⟨nq, osq⟩, hw''⟩ := hw'
              subst hw''
              clear q0 q1 q2 q3 q4 y4 x4
              have HW := Lib.hid (below_grow wr nq osq)
              generalize Sort.grow (wr.drewN nq) osq = w2 at HW ⊢
              go_wp2
              go_roundw
              case rel => exact ⟨1, HLt.out, by go_num, Lib.hid (by
                rw [show 1 = 0 + 1 from rfl, ru_take HG.out]
                simpa using HI.out), Lib.hid (HB.out.trans (HW.out.mono HB.out.size))⟩
              case measure => have := HLt.out; simp [intOf]; omega
            · obtain ⟨p, hkp⟩ : ∃ p, k = p + 1 := ⟨k - 1, by omega⟩
              obtain ⟨b', off', hA, hb', hr'⟩ := (HS1.out.on HB.out).at_ (k := p) (by omega)
              injection hA with hA
              injection hA with hA1 hA2
              subst hA1 hA2
              have HG' := Lib.hid (List.getElem?_eq_getElem (l := s.rs) (i := p) (by omega))
              generalize s.rs[p] = r' at HG' hr'
              have p0 := fun n os => (RuAt.at_rule hr' hb n os).1
              have hsub : (k : Int) - 1 = (p : Int) := by omega
              have hkpos : (0 : Int) < (k : Int) := by omega
              have hpl : p < s.rs.length := by omega
              have hkn : 0 < k := by omega
              have hwr : IntKind.i64.wrap (p : Int) = (p : Int) := by have := HL.out; rw [IntKind.wrap_i64]; omega
              have hkd : decide (0 < k) = true := decide_eq_true hkn
              have HKp := Lib.hid hkp
              clear hkp h0
              by_cases hle : r.id ≤ r'.id
              · have HE := Lib.hid hle
                go_wp2_with fail
                go_quiet_grown (first | (go_at_call 77; exact Calls.grown_of (hcon _)))
                clear q0 q1 q2 q3 q4 y4 x4 p0
                have HW := Lib.hid (below_grow wr nq osq)
                generalize Sort.grow (wr.drewN nq) osq = w2 at HW ⊢
                go_wp2
                go_ret
                exact fin (by rw [HK.out]; exact (decide_eq_false fun h => by
                  obtain ⟨u1, e1⟩ := List.getElem?_eq_some_iff.1 HG.out
                  obtain ⟨u2, e2⟩ := List.getElem?_eq_some_iff.1 HG'.out
                  have := List.pairwise_iff_getElem.1 h.2.2.2 p k u2 u1 (by have := HKp.out; omega)
                  rw [e1, e2] at this
                  have := HE.out
                  omega).symm) (HB1.out.trans ((HB.out.trans (HW.out.mono HB.out.size)).mono HB1.out.size))
              · have HE := Lib.hid hle
                go_wp2_with fail
                go_quiet_grown (first | (go_at_call 77; exact Calls.grown_of (hcon _)))
                clear q0 q1 q2 q3 q4 y4 x4 p0
                have HW := Lib.hid (below_grow wr nq osq)
                generalize Sort.grow (wr.drewN nq) osq = w2 at HW ⊢
                go_wp2
                go_roundw
                case rel => exact ⟨k + 1, HLt.out, by go_num, Lib.hid (by
                  refine ⟨?_, rise_take_succ HG.out HH.out.2 fun q hq y hy => ?_⟩
                  · rw [ru_take HG.out]
                    intro x hx
                    rcases List.mem_append.1 hx with h | h
                    · exact HH.out.1 x h
                    · rw [List.mem_singleton.1 h]; exact HI.out
                  · obtain rfl : p = q := by have := HKp.out; omega
                    rw [HG'.out] at hy
                    have := HE.out
                    rw [← Option.some.inj hy]; omega), Lib.hid (HB.out.trans (HW.out.mono HB.out.size))⟩
                case measure => have := HLt.out; simp [intOf]; omega
        · obtain rfl : k = s.rs.length := by omega
          have hh := HH.out
          rw [List.take_length] at hh
          have HF : Hid (s.Ok) := Lib.hid ⟨HN.out, HL.out, hh.1, hh.2⟩
          clear hh
          go_wp2
          go_ret
          exact fin (by rw [HK.out]; exact (decide_eq_true HF.out).symm) (HB1.out.trans (HB.out.mono HB1.out.size))
    · have hl' : (16 : Int) < (s.rs.length : Int) := by omega
      have HL := Lib.hid hl
      clear hl
      go_wp2
      go_ret
      exact fin (by rw [HK.out]; exact (decide_eq_false fun h => HL.out h.2.1).symm) HB1.out

end Go.Proofs.YtpginkdkblmnbaaGreatDoor

