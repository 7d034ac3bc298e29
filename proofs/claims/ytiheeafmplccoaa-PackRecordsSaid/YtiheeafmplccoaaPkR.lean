/- The document's Same of two deltas. -/
import Derived.Test.YtiheeafmplccoaaPkQ
import Derived.BigQuiet
import Derived.Deep.QuietTactic
namespace Go.Proofs.Ytiheeafmplccoaa
open Go.RowKit
variable {w w' : World}

def ruEq (a b : Ru) : Bool := a.id == b.id && a.pr == b.pr && a.ac == b.ac && a.sc == b.sc && a.pat.toList == b.pat.toList
theorem ruEq_iff (a b : Ru) : ruEq a b = true ↔ a = b := by
  obtain ⟨a1, a2, a3, a4, a5⟩ := a
  obtain ⟨b1, b2, b3, b4, b5⟩ := b
  simp only [ruEq, Bool.and_eq_true, beq_iff_eq, Ru.mk.injEq, and_assoc]
  constructor
  · rintro ⟨h1, h2, h3, h4, h5⟩
    refine ⟨h1, h2, h3, h4, ?_⟩
    rw [ByteArray.toList_eq, ByteArray.toList_eq] at h5
    obtain ⟨⟨x⟩⟩ := a5
    obtain ⟨⟨y⟩⟩ := b5
    simp at h5
    rw [h5]
  · rintro ⟨h1, h2, h3, h4, rfl⟩
    exact ⟨h1, h2, h3, h4, rfl⟩
theorem ruEq_refl (a : Ru) : ruEq a a = true := (ruEq_iff a a).2 rfl
theorem run_neq_xr (a b : Ru) (w : World) : (binOp .neq 104 (.agg #[.int .i64 a.id, .int .i64 a.pr, .int .i64 a.ac, .int .i64 a.sc, .string a.pat]) (.agg #[.int .i64 b.id, .int .i64 b.pr, .int .i64 b.ac, .int .i64 b.sc, .string b.pat])).run Try.prog w = .ok (.bool (!ruEq a b)) w := by
  have u3 := Try.underlying3
  have a3 := Try.isAgg3
  have z3 := Try.sizeOf3
  have u9 := Try.underlying9
  have a9 := Try.isAgg9
  have z9 := Try.sizeOf9
  have hS : Try.prog.underlying 104 = some (.struct (Try.prog.fieldsOf 104)) := by kernel_rfl
  have hp : Try.prog.stoodInHeld 104 = false := by kernel_rfl
  rw [run_neq_struct, show (10000 : Nat) = 9999 + 1 from rfl, run_equalIn_agg w 9999 104 _ _ hS hp]
  simp only [Program.fieldsOf, Try.underlying104]
  go_simp
  by_cases h1 : a.id = b.id <;> by_cases h2 : a.pr = b.pr <;> by_cases h3 : a.ac = b.ac <;> by_cases h4 : a.sc = b.sc <;> by_cases h5 : a.pat.toList = b.pat.toList <;> simp [ruEq, h1, h2, h3, h4, h5]
theorem Row.on_ {w w' : World} {v : Value} {xs : List Value} (h : Row w.heap.size w v xs) (hB : Below w.heap.size w w') : Row w'.heap.size w' v xs := (h.below hB).more hB.size
theorem int_take {l : List Int} {k : Nat} {r : Int} (h : l[k]? = some r) : l.take (k + 1) = l.take k ++ [r] := by
  obtain ⟨hk, rfl⟩ := List.getElem?_eq_some_iff.1 h
  rw [List.take_succ_eq_append_getElem hk]
set_option maxRecDepth 100000 in
set_option maxHeartbeats 8000000 in
theorem sameDelta_any (a b : Dl) (pa da pb db : Value) (w : World) (hma : a.put.length ≤ 1000000) (hmb : b.put.length ≤ 1000000) (hna : a.drop.length ≤ 1000000) (hnb : b.drop.length ≤ 1000000) (hS : RulesV w.heap.size w pa a.put) (hO : RulesV w.heap.size w pb b.put) (hSd : Row w.heap.size w da (zI a.drop)) (hOd : Row w.heap.size w db (zI b.drop)) :
    Calls Try.prog 53 #[a.val pa da, b.val pb db] w fun e w' => ∃ c, e = .returned (.bool c) ∧ (c = true ↔ a = b) ∧ Below w.heap.size w w' := by
  obtain ⟨A, cap, rfl⟩ := hS.form
  obtain ⟨B, cap', rfl⟩ := hO.form
  obtain ⟨Ad, cad, rfl⟩ := hSd.form
  obtain ⟨Bd, cbd, rfl⟩ := hOd.form
  rw [zI_len] at hSd hOd ⊢
  rw [zI_len]
  have hb0 : Below w.heap.size w ((w.alloc (.cells #[.int .i64 a.de, .int .i64 a.cl, .int .i64 a.fu, .int .i64 a.st, .slice A a.put.length cap, .slice Ad a.drop.length cad] 66)).alloc (.cells #[.int .i64 b.de, .int .i64 b.cl, .int .i64 b.fu, .int .i64 b.st, .slice B b.put.length cap', .slice Bd b.drop.length cbd] 66)) := ((Below.refl _ _).alloc (Nat.le_refl _) _).alloc (by simp) _
  have HB0 := Lib.hid hb0
  clear hb0
  by_cases h0 : a.de = b.de
  · have p0 : (a.de != b.de) = false := by simp [h0]
    have H0 := Lib.hid h0
    clear h0
    by_cases h1 : a.cl = b.cl
    · have p1 : (a.cl != b.cl) = false := by simp [h1]
      have H1 := Lib.hid h1
      clear h1
      by_cases h2 : a.fu = b.fu
      · have p2 : (a.fu != b.fu) = false := by simp [h2]
        have H2 := Lib.hid h2
        clear h2
        by_cases h3 : a.st = b.st
        · have p3 : (a.st != b.st) = false := by simp [h3]
          have H3 := Lib.hid h3
          clear h3
          by_cases hl0 : a.put.length = b.put.length
          · have pl0 : ((a.put.length : Int) != (b.put.length : Int)) = false := by simp [hl0]
            have HL := Lib.hid hl0
            clear hl0
            by_cases hl1 : a.drop.length = b.drop.length
            · have pl1 : ((a.drop.length : Int) != (b.drop.length : Int)) = false := by simp [hl1]
              have HLd := Lib.hid hl1
              clear hl1
              go_enter Try.func53, Try.ntmps53
              go_wp2
              generalize hw0 : ((w.alloc (.cells #[.int .i64 a.de, .int .i64 a.cl, .int .i64 a.fu, .int .i64 a.st, .slice A a.put.length cap, .slice Ad a.drop.length cad] 66)).alloc (.cells #[.int .i64 b.de, .int .i64 b.cl, .int .i64 b.fu, .int .i64 b.st, .slice B b.put.length cap', .slice Bd b.drop.length cbd] 66)) = w0
              have hb0 : Below w.heap.size w w0 := by rw [← hw0]; exact HB0.out
              have hx : Blk w0 w.heap.size 66 #[.int .i64 a.de, .int .i64 a.cl, .int .i64 a.fu, .int .i64 a.st, .slice A a.put.length cap, .slice Ad a.drop.length cad] := by rw [← hw0]; exact (Blk.new _ _ _).alloc _
              have hy : Blk w0 (w.heap.size + 1) 66 #[.int .i64 b.de, .int .i64 b.cl, .int .i64 b.fu, .int .i64 b.st, .slice B b.put.length cap', .slice Bd b.drop.length cbd] := by rw [← hw0]; exact Blk.at_new _ _ (by simp) _ _
              have HSA := Lib.hid (hS.on hb0)
              have HSB := Lib.hid (hO.on hb0)
              have HDA := Lib.hid (hSd.on_ hb0)
              have HDB := Lib.hid (hOd.on_ hb0)
              have HX := Lib.hid hx
              have HY := Lib.hid hy
              have HBw := Lib.hid hb0
              clear hw0 hb0 hx hy HB0 hS hO hSd hOd
              go_loopw [5] (fun i wr => ∃ k : Nat, k ≤ a.put.length ∧ i = .int .i64 k ∧ Hid (a.put.take k = b.put.take k) ∧ Below w0.heap.size w0 wr) (fun i _ => a.put.length - (intOf i).toNat)
              case atStart => exact ⟨0, Nat.zero_le _, rfl, Lib.hid rfl, Below.refl _ _⟩
              case round =>
                obtain ⟨k, hk, rfl, HH, hbel⟩ := hrel
                have hsz := hbel.size
                have x4 := (HX.out.on hbel).cell 4
                have y4 := (HY.out.on hbel).cell 4
                by_cases hlt : k < a.put.length
                · have hlt' : k < b.put.length := by have := HL.out; omega
                  have hlti : (k : Int) < (b.put.length : Int) := by omega
                  have hltj : (k : Int) < (a.put.length : Int) := by omega
                  obtain ⟨b1, off, hA1, hb, c0, c1, c2, c3, c4⟩ := (HSA.out.below hbel).at_ hlt
                  obtain ⟨b2, off', hA2, hb', d0, d1, d2, d3, d4⟩ := (HSB.out.below hbel).at_ hlt'
                  subst hA1 hA2
                  have HG := Lib.hid (List.getElem?_eq_getElem hlt)
                  have HG' := Lib.hid (List.getElem?_eq_getElem hlt')
                  generalize a.put[k] = r at HG c0 c1 c2 c3 c4
                  generalize b.put[k] = r' at HG' d0 d1 d2 d3 d4
                  have HLt := Lib.hid hlt
                  clear hlt hlt'
                  have hneq := run_neq_xr r r'
                  cases hin : ruEq r r'
                  · have HI := Lib.hid hin
                    rw [hin] at hneq
                    go_wp2
                    go_quiet (fail)
                    go_wp2
                    go_ret
                    refine ⟨false, rfl, ?_, HBw.out.trans ((hbel.mono HBw.out.size).trans ?_)⟩
                    · constructor
                      · intro h; cases h
                      · intro h
                        subst h
                        rw [HG.out] at HG'
                        have := Option.some.inj HG'.out
                        subst this
                        rw [ruEq_refl] at HI
                        cases HI.out
                    · exact Below.drewN' (Below.refl _ _) _
                  · have HI := Lib.hid ((ruEq_iff r r').1 hin)
                    rw [hin] at hneq
                    go_wp2
                    go_quiet (fail)
                    go_wp2
                    go_roundw
                    case rel => exact ⟨k + 1, HLt.out, by go_num, Lib.hid (by rw [ru_take HG.out, ru_take HG'.out, HH.out, HI.out]), Below.drewN' hbel _⟩
                    case measure => have := HLt.out; simp [intOf]; omega
                · obtain rfl : k = a.put.length := by omega
                  have HP : Hid (a.put = b.put) := Lib.hid (by
                    have h := HH.out
                    rwa [List.take_length, HL.out, List.take_length] at h)
                  have hlt0 : ¬ ((a.put.length : Int) < (a.put.length : Int)) := by omega
                  clear hlt hk HH
                  go_wp2
                  go_loopw [6] (fun i wr => ∃ k : Nat, k ≤ a.drop.length ∧ i = .int .i64 k ∧ Hid (a.drop.take k = b.drop.take k) ∧ Below w0.heap.size w0 wr) (fun i _ => a.drop.length - (intOf i).toNat)
                  case atStart => exact ⟨0, Nat.zero_le _, rfl, Lib.hid rfl, hbel⟩
                  case round =>
                    clear hbel hsz x4 y4
                    obtain ⟨k, hk, rfl, HH, hbel⟩ := hrel
                    have hsz := hbel.size
                    have x5 := (HX.out.on hbel).cell 5
                    have y5 := (HY.out.on hbel).cell 5
                    by_cases hlt : k < a.drop.length
                    · have hlt' : k < b.drop.length := by have := HLd.out; omega
                      have hlti : (k : Int) < (b.drop.length : Int) := by omega
                      have hltj : (k : Int) < (a.drop.length : Int) := by omega
                      obtain ⟨b1, off, hA1, hb, c0⟩ := (HDA.out.below hbel).at_ hlt
                      obtain ⟨b2, off', hA2, hb', d0⟩ := (HDB.out.below hbel).at_ hlt'
                      subst hA1 hA2
                      have HG := Lib.hid (List.getElem?_eq_getElem hlt)
                      have HG' := Lib.hid (List.getElem?_eq_getElem hlt')
                      generalize a.drop[k] = r at HG c0
                      generalize b.drop[k] = r' at HG' d0
                      have HLt := Lib.hid hlt
                      clear hlt hlt'
                      by_cases hin : r = r'
                      · have pin : (r != r') = false := by simp [hin]
                        have HI := Lib.hid hin
                        clear hin
                        go_wp2
                        go_quiet (fail)
                        go_wp2
                        go_roundw
                        case rel => exact ⟨k + 1, HLt.out, by go_num, Lib.hid (by rw [int_take HG.out, int_take HG'.out, HH.out, HI.out]), Below.drewN' hbel _⟩
                        case measure => have := HLt.out; simp [intOf]; omega
                      · have pin : (r != r') = true := by simp [hin]
                        have HI := Lib.hid hin
                        clear hin
                        go_wp2
                        go_quiet (fail)
                        go_wp2
                        go_ret
                        refine ⟨false, rfl, ?_, HBw.out.trans ((hbel.mono HBw.out.size).trans (Below.drewN' (Below.refl _ _) _))⟩
                        constructor
                        · intro h; cases h
                        · intro h
                          subst h
                          rw [HG.out] at HG'
                          exact absurd (Option.some.inj HG'.out) HI.out
                    · obtain rfl : k = a.drop.length := by omega
                      have HE : Hid (a = b) := Lib.hid (by
                        have h := HH.out
                        have h' := HP.out
                        rw [List.take_length, HLd.out, List.take_length] at h
                        cases a; cases b
                        simp only at h h' H0 H1 H2 H3
                        rw [h, h', H0.out, H1.out, H2.out, H3.out])
                      go_wp2
                      go_ret
                      exact ⟨true, rfl, by simp [HE.out], HBw.out.trans (hbel.mono HBw.out.size)⟩
            · have pl1 : ((a.drop.length : Int) != (b.drop.length : Int)) = true := by simp; omega
              have HH := Lib.hid hl1
              clear hl1
              go_enter Try.func53, Try.ntmps53
              go_wp2
              go_ret
              exact ⟨false, rfl, by constructor; (intro h; cases h); (intro h; exact absurd (congrArg (fun s => s.drop.length) h) HH.out), HB0.out⟩
          · have pl0 : ((a.put.length : Int) != (b.put.length : Int)) = true := by simp; omega
            have HH := Lib.hid hl0
            clear hl0
            go_enter Try.func53, Try.ntmps53
            go_wp2
            go_ret
            exact ⟨false, rfl, by constructor; (intro h; cases h); (intro h; exact absurd (congrArg (fun s => s.put.length) h) HH.out), HB0.out⟩
        · have p3 : (a.st != b.st) = true := by simp [h3]
          have HH := Lib.hid h3
          clear h3
          go_enter Try.func53, Try.ntmps53
          go_wp2
          go_ret
          exact ⟨false, rfl, by constructor; (intro h; cases h); (intro h; exact absurd (congrArg Dl.st h) HH.out), HB0.out⟩
      · have p2 : (a.fu != b.fu) = true := by simp [h2]
        have HH := Lib.hid h2
        clear h2
        go_enter Try.func53, Try.ntmps53
        go_wp2
        go_ret
        exact ⟨false, rfl, by constructor; (intro h; cases h); (intro h; exact absurd (congrArg Dl.fu h) HH.out), HB0.out⟩
    · have p1 : (a.cl != b.cl) = true := by simp [h1]
      have HH := Lib.hid h1
      clear h1
      go_enter Try.func53, Try.ntmps53
      go_wp2
      go_ret
      exact ⟨false, rfl, by constructor; (intro h; cases h); (intro h; exact absurd (congrArg Dl.cl h) HH.out), HB0.out⟩
  · have p0 : (a.de != b.de) = true := by simp [h0]
    have HH := Lib.hid h0
    clear h0
    go_enter Try.func53, Try.ntmps53
    go_wp2
    go_ret
    exact ⟨false, rfl, by constructor; (intro h; cases h); (intro h; exact absurd (congrArg Dl.de h) HH.out), HB0.out⟩
end Go.Proofs.Ytiheeafmplccoaa
