/- The document's Same, of any two sets; equality of rules. -/
import Derived.Test.YtifpfpgibjmibaaRuI
import Derived.BigQuiet
import Derived.Deep.QuietTactic
import Derived.Laws.StructEq
namespace Go.Proofs.Ytifpfpgibjmibaa
open Go.RowKit Go.Maps
variable {w w' : World}

def ruEq (a b : Ru) : Bool := a.id == b.id && a.pr == b.pr && a.ac == b.ac && a.sc == b.sc && a.pat.toList == b.pat.toList
theorem ruEq_iff (a b : Ru) : ruEq a b = true ↔ a = b := by
  obtain ⟨a1, a2, a3, a4, a5⟩ := a
  obtain ⟨b1, b2, b3, b4, b5⟩ := b
  simp only [ruEq, Bool.and_eq_true, beq_iff_eq, Ru.mk.injEq, and_assoc]
  constructor
  · rintro ⟨h1, h2, h3, h4, h5⟩
    refine ⟨h1, h2, h3, h4, ?_⟩
    rw [ByteArray.toList_eq, ByteArray.toList_eq] at h5
    obtain ⟨⟨x⟩⟩ := a5
    obtain ⟨⟨y⟩⟩ := b5
    simp at h5
    rw [h5]
  · rintro ⟨h1, h2, h3, h4, rfl⟩
    exact ⟨h1, h2, h3, h4, rfl⟩
theorem ruEq_refl (a : Ru) : ruEq a a = true := (ruEq_iff a a).2 rfl
theorem run_neq_ru (a b : Ru) (w : World) : (binOp .neq 44 (.agg #[.int .i64 a.id, .int .i64 a.pr, .int .i64 a.ac, .int .i64 a.sc, .string a.pat]) (.agg #[.int .i64 b.id, .int .i64 b.pr, .int .i64 b.ac, .int .i64 b.sc, .string b.pat])).run Try.prog w = .ok (.bool (!ruEq a b)) w := by
  have u3 := Try.underlying3
  have a3 := Try.isAgg3
  have z3 := Try.sizeOf3
  have u9 := Try.underlying9
  have a9 := Try.isAgg9
  have z9 := Try.sizeOf9
  have hS : Try.prog.underlying 44 = some (.struct (Try.prog.fieldsOf 44)) := by kernel_rfl
  have hp : Try.prog.stoodInHeld 44 = false := by kernel_rfl
  rw [run_neq_struct, show (10000 : Nat) = 9999 + 1 from rfl, run_equalIn_agg w 9999 44 _ _ hS hp]
  simp only [Program.fieldsOf, Try.underlying44]
  go_simp
  by_cases h1 : a.id = b.id <;> by_cases h2 : a.pr = b.pr <;> by_cases h3 : a.ac = b.ac <;> by_cases h4 : a.sc = b.sc <;> by_cases h5 : a.pat.toList = b.pat.toList <;> simp [ruEq, h1, h2, h3, h4, h5]
theorem run_eql_ru (a b : Ru) (w : World) : (binOp .eql 44 (.agg #[.int .i64 a.id, .int .i64 a.pr, .int .i64 a.ac, .int .i64 a.sc, .string a.pat]) (.agg #[.int .i64 b.id, .int .i64 b.pr, .int .i64 b.ac, .int .i64 b.sc, .string b.pat])).run Try.prog w = .ok (.bool (ruEq a b)) w := by
  have u3 := Try.underlying3
  have a3 := Try.isAgg3
  have z3 := Try.sizeOf3
  have u9 := Try.underlying9
  have a9 := Try.isAgg9
  have z9 := Try.sizeOf9
  have hS : Try.prog.underlying 44 = some (.struct (Try.prog.fieldsOf 44)) := by kernel_rfl
  have hp : Try.prog.stoodInHeld 44 = false := by kernel_rfl
  rw [run_eql_struct, show (10000 : Nat) = 9999 + 1 from rfl, run_equalIn_agg w 9999 44 _ _ hS hp]
  simp only [Program.fieldsOf, Try.underlying44]
  go_simp
  by_cases h1 : a.id = b.id <;> by_cases h2 : a.pr = b.pr <;> by_cases h3 : a.ac = b.ac <;> by_cases h4 : a.sc = b.sc <;> by_cases h5 : a.pat.toList = b.pat.toList <;> simp [ruEq, h1, h2, h3, h4, h5]
theorem run_neq_xr (a b : Ru) (w : World) : (binOp .neq 57 (.agg #[.int .i64 a.id, .int .i64 a.pr, .int .i64 a.ac, .int .i64 a.sc, .string a.pat]) (.agg #[.int .i64 b.id, .int .i64 b.pr, .int .i64 b.ac, .int .i64 b.sc, .string b.pat])).run Try.prog w = .ok (.bool (!ruEq a b)) w := by
  have u3 := Try.underlying3
  have a3 := Try.isAgg3
  have z3 := Try.sizeOf3
  have u9 := Try.underlying9
  have a9 := Try.isAgg9
  have z9 := Try.sizeOf9
  have hS : Try.prog.underlying 57 = some (.struct (Try.prog.fieldsOf 57)) := by kernel_rfl
  have hp : Try.prog.stoodInHeld 57 = false := by kernel_rfl
  rw [run_neq_struct, show (10000 : Nat) = 9999 + 1 from rfl, run_equalIn_agg w 9999 57 _ _ hS hp]
  simp only [Program.fieldsOf, Try.underlying57]
  go_simp
  by_cases h1 : a.id = b.id <;> by_cases h2 : a.pr = b.pr <;> by_cases h3 : a.ac = b.ac <;> by_cases h4 : a.sc = b.sc <;> by_cases h5 : a.pat.toList = b.pat.toList <;> simp [ruEq, h1, h2, h3, h4, h5]
theorem run_eql_xr (a b : Ru) (w : World) : (binOp .eql 57 (.agg #[.int .i64 a.id, .int .i64 a.pr, .int .i64 a.ac, .int .i64 a.sc, .string a.pat]) (.agg #[.int .i64 b.id, .int .i64 b.pr, .int .i64 b.ac, .int .i64 b.sc, .string b.pat])).run Try.prog w = .ok (.bool (ruEq a b)) w := by
  have u3 := Try.underlying3
  have a3 := Try.isAgg3
  have z3 := Try.sizeOf3
  have u9 := Try.underlying9
  have a9 := Try.isAgg9
  have z9 := Try.sizeOf9
  have hS : Try.prog.underlying 57 = some (.struct (Try.prog.fieldsOf 57)) := by kernel_rfl
  have hp : Try.prog.stoodInHeld 57 = false := by kernel_rfl
  rw [run_eql_struct, show (10000 : Nat) = 9999 + 1 from rfl, run_equalIn_agg w 9999 57 _ _ hS hp]
  simp only [Program.fieldsOf, Try.underlying57]
  go_simp
  by_cases h1 : a.id = b.id <;> by_cases h2 : a.pr = b.pr <;> by_cases h3 : a.ac = b.ac <;> by_cases h4 : a.sc = b.sc <;> by_cases h5 : a.pat.toList = b.pat.toList <;> simp [ruEq, h1, h2, h3, h4, h5]

set_option maxRecDepth 100000 in
set_option maxHeartbeats 8000000 in
theorem same_any (a b : RS) (va vb : Value) (w : World) (hma : a.rs.length ≤ 1000000) (hmb : b.rs.length ≤ 1000000) (hS : RulesV w.heap.size w va a.rs) (hO : RulesV w.heap.size w vb b.rs) :
    Calls Try.prog 12 #[.agg #[.int .i64 a.de, .int .i64 a.cl, .int .i64 a.fu, .int .i64 a.st, va], .agg #[.int .i64 b.de, .int .i64 b.cl, .int .i64 b.fu, .int .i64 b.st, vb]] w
      fun e w' => ∃ c, e = .returned (.bool c) ∧ (c = true ↔ a = b) ∧ Below w.heap.size w w' := by
  obtain ⟨A, cap, rfl⟩ := hS.form
  obtain ⟨B, cap', rfl⟩ := hO.form
  have hb0 : Below w.heap.size w ((w.alloc (.cells #[.int .i64 a.de, .int .i64 a.cl, .int .i64 a.fu, .int .i64 a.st, .slice A a.rs.length cap] 35)).alloc (.cells #[.int .i64 b.de, .int .i64 b.cl, .int .i64 b.fu, .int .i64 b.st, .slice B b.rs.length cap'] 35)) := ((Below.refl _ _).alloc (Nat.le_refl _) _).alloc (by simp) _
  have HB0 := Lib.hid hb0
  clear hb0
  by_cases h0 : a.de = b.de
  · have p0 : (a.de != b.de) = false := by simp [h0]
    have H0 := Lib.hid h0
    clear h0
    by_cases h1 : a.cl = b.cl
    · have p1 : (a.cl != b.cl) = false := by simp [h1]
      have H1 := Lib.hid h1
      clear h1
      by_cases h2 : a.fu = b.fu
      · have p2 : (a.fu != b.fu) = false := by simp [h2]
        have H2 := Lib.hid h2
        clear h2
        by_cases h3 : a.st = b.st
        · have p3 : (a.st != b.st) = false := by simp [h3]
          have H3 := Lib.hid h3
          clear h3
          by_cases hl : a.rs.length = b.rs.length
          · have pl : ((a.rs.length : Int) != (b.rs.length : Int)) = false := by simp [hl]
            have HL := Lib.hid hl
            clear hl
            go_enter Try.func12, Try.ntmps12
            go_wp2
            generalize hw0 : (w.alloc (.cells #[.int .i64 a.de, .int .i64 a.cl, .int .i64 a.fu, .int .i64 a.st, .slice A a.rs.length cap] 35)).alloc (.cells #[.int .i64 b.de, .int .i64 b.cl, .int .i64 b.fu, .int .i64 b.st, .slice B b.rs.length cap'] 35) = w0
            have hb0 : Below w.heap.size w w0 := by rw [← hw0]; exact HB0.out
            have hx : Blk w0 w.heap.size 35 #[.int .i64 a.de, .int .i64 a.cl, .int .i64 a.fu, .int .i64 a.st, .slice A a.rs.length cap] := by rw [← hw0]; exact (Blk.new _ _ _).alloc _
            have hy : Blk w0 (w.heap.size + 1) 35 #[.int .i64 b.de, .int .i64 b.cl, .int .i64 b.fu, .int .i64 b.st, .slice B b.rs.length cap'] := by rw [← hw0]; exact Blk.at_new _ _ (by simp) _ _
            have HSA := Lib.hid (hS.on hb0)
            have HSB := Lib.hid (hO.on hb0)
            have HX := Lib.hid hx
            have HY := Lib.hid hy
            have HBw := Lib.hid hb0
            clear hw0 hb0 hx hy HB0 hS hO
            go_loopw [5] (fun i wr => ∃ k : Nat, k ≤ a.rs.length ∧ i = .int .i64 k ∧ Hid (a.rs.take k = b.rs.take k) ∧ Below w0.heap.size w0 wr) (fun i _ => a.rs.length - (intOf i).toNat)
            case atStart => exact ⟨0, Nat.zero_le _, rfl, Lib.hid rfl, Below.refl _ _⟩
            case round =>
              obtain ⟨k, hk, rfl, HH, hbel⟩ := hrel
              have hsz := hbel.size
              have x4 := (HX.out.on hbel).cell 4
              have y4 := (HY.out.on hbel).cell 4
              by_cases hlt : k < a.rs.length
              · have hlt' : k < b.rs.length := by have := HL.out; omega
                have hlti : (k : Int) < (b.rs.length : Int) := by omega
                have hltj : (k : Int) < (a.rs.length : Int) := by omega
                obtain ⟨b1, off, hA1, hb, c0, c1, c2, c3, c4⟩ := (HSA.out.below hbel).at_ hlt
                obtain ⟨b2, off', hA2, hb', d0, d1, d2, d3, d4⟩ := (HSB.out.below hbel).at_ hlt'
                subst hA1 hA2
                have HG := Lib.hid (List.getElem?_eq_getElem hlt)
                have HG' := Lib.hid (List.getElem?_eq_getElem hlt')
                generalize a.rs[k] = r at HG c0 c1 c2 c3 c4
                generalize b.rs[k] = r' at HG' d0 d1 d2 d3 d4
                have HLt := Lib.hid hlt
                clear hlt hlt'
                have hneq := run_neq_xr r r'
                cases hin : ruEq r r'
                · have HI := Lib.hid hin
                  rw [hin] at hneq
                  go_wp2
                  go_quiet (fail)
                  go_wp2
                  go_ret
                  refine ⟨false, rfl, ?_, HBw.out.trans ((hbel.mono HBw.out.size).trans ?_)⟩
                  · constructor
                    · intro h; cases h
                    · intro h
                      subst h
                      rw [HG.out] at HG'
                      have := Option.some.inj HG'.out
                      subst this
                      rw [ruEq_refl] at HI
                      cases HI.out
                  · exact Below.drewN' (Below.refl _ _) _
                · have HI := Lib.hid ((ruEq_iff r r').1 hin)
                  rw [hin] at hneq
                  go_wp2
                  go_quiet (fail)
                  go_wp2
                  go_roundw
                  case rel => exact ⟨k + 1, HLt.out, by go_num, Lib.hid (by rw [ru_take HG.out, ru_take HG'.out, HH.out, HI.out]), Below.drewN' hbel _⟩
                  case measure => have := HLt.out; simp [intOf]; omega
              · obtain rfl : k = a.rs.length := by omega
                have HE : Hid (a = b) := Lib.hid (by
                  have h := HH.out
                  rw [List.take_length, HL.out, List.take_length] at h
                  cases a; cases b
                  simp only at h H0 H1 H2 H3
                  rw [h, H0.out, H1.out, H2.out, H3.out])
                go_wp2
                go_ret
                exact ⟨true, rfl, by simp [HE.out], HBw.out.trans (hbel.mono HBw.out.size)⟩
          · have pl : ((a.rs.length : Int) != (b.rs.length : Int)) = true := by simp; omega
            have HH := Lib.hid hl
            clear hl
            go_enter Try.func12, Try.ntmps12
            go_wp2
            go_ret
            exact ⟨false, rfl, by constructor; (intro h; cases h); (intro h; exact absurd (congrArg (fun s => s.rs.length) h) HH.out), HB0.out⟩
        · have p3 : (a.st != b.st) = true := by simp [h3]
          have HH := Lib.hid h3
          clear h3
          go_enter Try.func12, Try.ntmps12
          go_wp2
          go_ret
          exact ⟨false, rfl, by constructor; (intro h; cases h); (intro h; exact absurd (congrArg RS.st h) HH.out), HB0.out⟩
      · have p2 : (a.fu != b.fu) = true := by simp [h2]
        have HH := Lib.hid h2
        clear h2
        go_enter Try.func12, Try.ntmps12
        go_wp2
        go_ret
        exact ⟨false, rfl, by constructor; (intro h; cases h); (intro h; exact absurd (congrArg RS.fu h) HH.out), HB0.out⟩
    · have p1 : (a.cl != b.cl) = true := by simp [h1]
      have HH := Lib.hid h1
      clear h1
      go_enter Try.func12, Try.ntmps12
      go_wp2
      go_ret
      exact ⟨false, rfl, by constructor; (intro h; cases h); (intro h; exact absurd (congrArg RS.cl h) HH.out), HB0.out⟩
  · have p0 : (a.de != b.de) = true := by simp [h0]
    have HH := Lib.hid h0
    clear h0
    go_enter Try.func12, Try.ntmps12
    go_wp2
    go_ret
    exact ⟨false, rfl, by constructor; (intro h; cases h); (intro h; exact absurd (congrArg RS.de h) HH.out), HB0.out⟩

end Go.Proofs.Ytifpfpgibjmibaa
