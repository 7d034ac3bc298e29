/- Joined: PkR, PkS, PkT. -/
import Derived.Test.YtefgobmpleoafaaGreatPkQ
import Derived.BigQuiet
import Derived.Deep.QuietTactic
/- The document's Same of two deltas. -/
namespace Go.Proofs.YtefgobmpleoafaaGreat
open Go.RowKit
variable {w w' : World}

def ruEq (a b : Ru) : Bool := a.id == b.id && a.pr == b.pr && a.ac == b.ac && a.sc == b.sc && a.pat.toList == b.pat.toList
theorem ruEq_iff (a b : Ru) : ruEq a b = true ↔ a = b := by
  obtain ⟨a1, a2, a3, a4, a5⟩ := a
  obtain ⟨b1, b2, b3, b4, b5⟩ := b
  simp only [ruEq, Bool.and_eq_true, beq_iff_eq, Ru.mk.injEq, and_assoc]
  constructor
  · rintro ⟨h1, h2, h3, h4, h5⟩
    refine ⟨h1, h2, h3, h4, ?_⟩
    rw [ByteArray.toList_eq, ByteArray.toList_eq] at h5
    obtain ⟨⟨x⟩⟩ := a5
    obtain ⟨⟨y⟩⟩ := b5
    simp at h5
    rw [h5]
  · rintro ⟨h1, h2, h3, h4, rfl⟩
    exact ⟨h1, h2, h3, h4, rfl⟩
theorem ruEq_refl (a : Ru) : ruEq a a = true := (ruEq_iff a a).2 rfl
theorem run_neq_xr (a b : Ru) (w : World) : (binOp .neq 125 (.agg #[.int .i64 a.id, .int .i64 a.pr, .int .i64 a.ac, .int .i64 a.sc, .string a.pat]) (.agg #[.int .i64 b.id, .int .i64 b.pr, .int .i64 b.ac, .int .i64 b.sc, .string b.pat])).run Tryz.prog w = .ok (.bool (!ruEq a b)) w := by
  have u3 := Tryz.underlying3
  have a3 := Tryz.isAgg3
  have z3 := Tryz.sizeOf3
  have u9 := Tryz.underlying9
  have a9 := Tryz.isAgg9
  have z9 := Tryz.sizeOf9
  have hS : Tryz.prog.underlying 125 = some (.struct (Tryz.prog.fieldsOf 125)) := by kernel_rfl
  have hp : Tryz.prog.stoodInHeld 125 = false := by kernel_rfl
  rw [run_neq_struct, show (10000 : Nat) = 9999 + 1 from rfl, run_equalIn_agg w 9999 125 _ _ hS hp]
  simp only [Program.fieldsOf, Tryz.underlying125]
  go_simp
  by_cases h1 : a.id = b.id <;> by_cases h2 : a.pr = b.pr <;> by_cases h3 : a.ac = b.ac <;> by_cases h4 : a.sc = b.sc <;> by_cases h5 : a.pat.toList = b.pat.toList <;> simp [ruEq, h1, h2, h3, h4, h5]
theorem Row.on_ {w w' : World} {v : Value} {xs : List Value} (h : Row w.heap.size w v xs) (hB : Below w.heap.size w w') : Row w'.heap.size w' v xs := (h.below hB).more hB.size
theorem int_take {l : List Int} {k : Nat} {r : Int} (h : l[k]? = some r) : l.take (k + 1) = l.take k ++ [r] := by
  obtain ⟨hk, rfl⟩ := List.getElem?_eq_some_iff.1 h
  rw [List.take_succ_eq_append_getElem hk]
set_option maxRecDepth 100000 in
set_option maxHeartbeats 8000000 in
theorem sameDelta_any (a b : Dl) (pa da pb db : Value) (w : World) (hma : a.put.length ≤ 1000000) (hmb : b.put.length ≤ 1000000) (hna : a.drop.length ≤ 1000000) (hnb : b.drop.length ≤ 1000000) (hS : RulesV w.heap.size w pa a.put) (hO : RulesV w.heap.size w pb b.put) (hSd : Row w.heap.size w da (zI a.drop)) (hOd : Row w.heap.size w db (zI b.drop)) :
    Calls Tryz.prog 58 #[a.val pa da, b.val pb db] w fun e w' => ∃ c, e = .returned (.bool c) ∧ (c = true ↔ a = b) ∧ Below w.heap.size w w' := by
  obtain ⟨A, cap, rfl⟩ := hS.form
  obtain ⟨B, cap', rfl⟩ := hO.form
  obtain ⟨Ad, cad, rfl⟩ := hSd.form
  obtain ⟨Bd, cbd, rfl⟩ := hOd.form
  rw [zI_len] at hSd hOd ⊢
  rw [zI_len]
  have hb0 : Below w.heap.size w ((w.alloc (.cells #[.int .i64 a.de, .int .i64 a.cl, .int .i64 a.fu, .int .i64 a.st, .slice A a.put.length cap, .slice Ad a.drop.length cad] 76)).alloc (.cells #[.int .i64 b.de, .int .i64 b.cl, .int .i64 b.fu, .int .i64 b.st, .slice B b.put.length cap', .slice Bd b.drop.length cbd] 76)) := ((Below.refl _ _).alloc (Nat.le_refl _) _).alloc (by simp) _
  have HB0 := Lib.hid hb0
  clear hb0
  by_cases h0 : a.de = b.de
  · have p0 : (a.de != b.de) = false := by simp [h0]
    have H0 := Lib.hid h0
    clear h0
    by_cases h1 : a.cl = b.cl
    · have p1 : (a.cl != b.cl) = false := by simp [h1]
      have H1 := Lib.hid h1
      clear h1
      by_cases h2 : a.fu = b.fu
      · have p2 : (a.fu != b.fu) = false := by simp [h2]
        have H2 := Lib.hid h2
        clear h2
        by_cases h3 : a.st = b.st
        · have p3 : (a.st != b.st) = false := by simp [h3]
          have H3 := Lib.hid h3
          clear h3
          by_cases hl0 : a.put.length = b.put.length
          · have pl0 : ((a.put.length : Int) != (b.put.length : Int)) = false := by simp [hl0]
            have HL := Lib.hid hl0
            clear hl0
            by_cases hl1 : a.drop.length = b.drop.length
            · have pl1 : ((a.drop.length : Int) != (b.drop.length : Int)) = false := by simp [hl1]
              have HLd := Lib.hid hl1
              clear hl1
              go_enter Tryz.func58, Tryz.ntmps58
              go_wp2
              generalize hw0 : ((w.alloc (.cells #[.int .i64 a.de, .int .i64 a.cl, .int .i64 a.fu, .int .i64 a.st, .slice A a.put.length cap, .slice Ad a.drop.length cad] 76)).alloc (.cells #[.int .i64 b.de, .int .i64 b.cl, .int .i64 b.fu, .int .i64 b.st, .slice B b.put.length cap', .slice Bd b.drop.length cbd] 76)) = w0
              have hb0 : Below w.heap.size w w0 := by rw [← hw0]; exact HB0.out
              have hx : Blk w0 w.heap.size 76 #[.int .i64 a.de, .int .i64 a.cl, .int .i64 a.fu, .int .i64 a.st, .slice A a.put.length cap, .slice Ad a.drop.length cad] := by rw [← hw0]; exact (Blk.new _ _ _).alloc _
              have hy : Blk w0 (w.heap.size + 1) 76 #[.int .i64 b.de, .int .i64 b.cl, .int .i64 b.fu, .int .i64 b.st, .slice B b.put.length cap', .slice Bd b.drop.length cbd] := by rw [← hw0]; exact Blk.at_new _ _ (by simp) _ _
              have HSA := Lib.hid (hS.on hb0)
              have HSB := Lib.hid (hO.on hb0)
              have HDA := Lib.hid (hSd.on_ hb0)
              have HDB := Lib.hid (hOd.on_ hb0)
              have HX := Lib.hid hx
              have HY := Lib.hid hy
              have HBw := Lib.hid hb0
              clear hw0 hb0 hx hy HB0 hS hO hSd hOd
              go_loopw [5] (fun i wr => ∃ k : Nat, k ≤ a.put.length ∧ i = .int .i64 k ∧ Hid (a.put.take k = b.put.take k) ∧ Below w0.heap.size w0 wr) (fun i _ => a.put.length - (intOf i).toNat)
              case atStart => exact ⟨0, Nat.zero_le _, rfl, Lib.hid rfl, Below.refl _ _⟩
              case round =>
                obtain ⟨k, hk, rfl, HH, hbel⟩ := hrel
                have hsz := hbel.size
                have x4 := (HX.out.on hbel).cell 4
                have y4 := (HY.out.on hbel).cell 4
                by_cases hlt : k < a.put.length
                · have hlt' : k < b.put.length := by have := HL.out; omega
                  have hlti : (k : Int) < (b.put.length : Int) := by omega
                  have hltj : (k : Int) < (a.put.length : Int) := by omega
                  obtain ⟨b1, off, hA1, hb, c0, c1, c2, c3, c4⟩ := (HSA.out.below hbel).at_ hlt
                  obtain ⟨b2, off', hA2, hb', d0, d1, d2, d3, d4⟩ := (HSB.out.below hbel).at_ hlt'
                  subst hA1 hA2
                  have HG := Lib.hid (List.getElem?_eq_getElem hlt)
                  have HG' := Lib.hid (List.getElem?_eq_getElem hlt')
                  generalize a.put[k] = r at HG c0 c1 c2 c3 c4
                  generalize b.put[k] = r' at HG' d0 d1 d2 d3 d4
                  have HLt := Lib.hid hlt
                  clear hlt hlt'
                  have hneq := run_neq_xr r r'
                  cases hin : ruEq r r'
                  · have HI := Lib.hid hin
                    rw [hin] at hneq
                    go_wp2
                    go_quiet (fail)
                    go_wp2
                    go_ret
                    refine ⟨false, rfl, ?_, HBw.out.trans ((hbel.mono HBw.out.size).trans ?_)⟩
                    · constructor
                      · intro h; cases h
                      · intro h
                        subst h
                        rw [HG.out] at HG'
                        have := Option.some.inj HG'.out
                        subst this
                        rw [ruEq_refl] at HI
                        cases HI.out
                    · exact Below.drewN' (Below.refl _ _) _
                  · have HI := Lib.hid ((ruEq_iff r r').1 hin)
                    rw [hin] at hneq
                    go_wp2
                    go_quiet (fail)
                    go_wp2
                    go_roundw
                    case rel => exact ⟨k + 1, HLt.out, by go_num, Lib.hid (by rw [ru_take HG.out, ru_take HG'.out, HH.out, HI.out]), Below.drewN' hbel _⟩
                    case measure => have := HLt.out; simp [intOf]; omega
                · obtain rfl : k = a.put.length := by omega
                  have HP : Hid (a.put = b.put) := Lib.hid (by
                    have h := HH.out
                    rwa [List.take_length, HL.out, List.take_length] at h)
                  have hlt0 : ¬ ((a.put.length : Int) < (a.put.length : Int)) := by omega
                  clear hlt hk HH
                  go_wp2
                  go_loopw [6] (fun i wr => ∃ k : Nat, k ≤ a.drop.length ∧ i = .int .i64 k ∧ Hid (a.drop.take k = b.drop.take k) ∧ Below w0.heap.size w0 wr) (fun i _ => a.drop.length - (intOf i).toNat)
                  case atStart => exact ⟨0, Nat.zero_le _, rfl, Lib.hid rfl, hbel⟩
                  case round =>
                    clear hbel hsz x4 y4
                    obtain ⟨k, hk, rfl, HH, hbel⟩ := hrel
                    have hsz := hbel.size
                    have x5 := (HX.out.on hbel).cell 5
                    have y5 := (HY.out.on hbel).cell 5
                    by_cases hlt : k < a.drop.length
                    · have hlt' : k < b.drop.length := by have := HLd.out; omega
                      have hlti : (k : Int) < (b.drop.length : Int) := by omega
                      have hltj : (k : Int) < (a.drop.length : Int) := by omega
                      obtain ⟨b1, off, hA1, hb, c0⟩ := (HDA.out.below hbel).at_ hlt
                      obtain ⟨b2, off', hA2, hb', d0⟩ := (HDB.out.below hbel).at_ hlt'
                      subst hA1 hA2
                      have HG := Lib.hid (List.getElem?_eq_getElem hlt)
                      have HG' := Lib.hid (List.getElem?_eq_getElem hlt')
                      generalize a.drop[k] = r at HG c0
                      generalize b.drop[k] = r' at HG' d0
                      have HLt := Lib.hid hlt
                      clear hlt hlt'
                      by_cases hin : r = r'
                      · have pin : (r != r') = false := by simp [hin]
                        have HI := Lib.hid hin
                        clear hin
                        go_wp2
                        go_quiet (fail)
                        go_wp2
                        go_roundw
                        case rel => exact ⟨k + 1, HLt.out, by go_num, Lib.hid (by rw [int_take HG.out, int_take HG'.out, HH.out, HI.out]), Below.drewN' hbel _⟩
                        case measure => have := HLt.out; simp [intOf]; omega
                      · have pin : (r != r') = true := by simp [hin]
                        have HI := Lib.hid hin
                        clear hin
                        go_wp2
                        go_quiet (fail)
                        go_wp2
                        go_ret
                        refine ⟨false, rfl, ?_, HBw.out.trans ((hbel.mono HBw.out.size).trans (Below.drewN' (Below.refl _ _) _))⟩
                        constructor
                        · intro h; cases h
                        · intro h
                          subst h
                          rw [HG.out] at HG'
                          exact absurd (Option.some.inj HG'.out) HI.out
                    · obtain rfl : k = a.drop.length := by omega
                      have HE : Hid (a = b) := Lib.hid (by
                        have h := HH.out
                        have h' := HP.out
                        rw [List.take_length, HLd.out, List.take_length] at h
                        cases a; cases b
                        simp only at h h' H0 H1 H2 H3
                        rw [h, h', H0.out, H1.out, H2.out, H3.out])
                      go_wp2
                      go_ret
                      exact ⟨true, rfl, by simp [HE.out], HBw.out.trans (hbel.mono HBw.out.size)⟩
            · have pl1 : ((a.drop.length : Int) != (b.drop.length : Int)) = true := by simp; omega
              have HH := Lib.hid hl1
              clear hl1
              go_enter Tryz.func58, Tryz.ntmps58
              go_wp2
              go_ret
              exact ⟨false, rfl, by constructor; (intro h; cases h); (intro h; exact absurd (congrArg (fun s => s.drop.length) h) HH.out), HB0.out⟩
          · have pl0 : ((a.put.length : Int) != (b.put.length : Int)) = true := by simp; omega
            have HH := Lib.hid hl0
            clear hl0
            go_enter Tryz.func58, Tryz.ntmps58
            go_wp2
            go_ret
            exact ⟨false, rfl, by constructor; (intro h; cases h); (intro h; exact absurd (congrArg (fun s => s.put.length) h) HH.out), HB0.out⟩
        · have p3 : (a.st != b.st) = true := by simp [h3]
          have HH := Lib.hid h3
          clear h3
          go_enter Tryz.func58, Tryz.ntmps58
          go_wp2
          go_ret
          exact ⟨false, rfl, by constructor; (intro h; cases h); (intro h; exact absurd (congrArg Dl.st h) HH.out), HB0.out⟩
      · have p2 : (a.fu != b.fu) = true := by simp [h2]
        have HH := Lib.hid h2
        clear h2
        go_enter Tryz.func58, Tryz.ntmps58
        go_wp2
        go_ret
        exact ⟨false, rfl, by constructor; (intro h; cases h); (intro h; exact absurd (congrArg Dl.fu h) HH.out), HB0.out⟩
    · have p1 : (a.cl != b.cl) = true := by simp [h1]
      have HH := Lib.hid h1
      clear h1
      go_enter Tryz.func58, Tryz.ntmps58
      go_wp2
      go_ret
      exact ⟨false, rfl, by constructor; (intro h; cases h); (intro h; exact absurd (congrArg Dl.cl h) HH.out), HB0.out⟩
  · have p0 : (a.de != b.de) = true := by simp [h0]
    have HH := Lib.hid h0
    clear h0
    go_enter Tryz.func58, Tryz.ntmps58
    go_wp2
    go_ret
    exact ⟨false, rfl, by constructor; (intro h; cases h); (intro h; exact absurd (congrArg Dl.de h) HH.out), HB0.out⟩
end Go.Proofs.YtefgobmpleoafaaGreat

/- The document's Same of two lists of entries. -/
namespace Go.Proofs.YtefgobmpleoafaaGreat
open Go.RowKit
variable {w w' : World}

set_option maxRecDepth 100000 in
set_option maxHeartbeats 16000000 in
theorem xsame_any (la lb : List En) (va vb : Value) (w : World) (hm : la.length ≤ 1000000) (hsa : ∀ e ∈ la, e.d.put.length ≤ 1000000 ∧ e.d.drop.length ≤ 1000000) (hsb : ∀ e ∈ lb, e.d.put.length ≤ 1000000 ∧ e.d.drop.length ≤ 1000000) (hS : EntsV w.heap.size w va la) (hO : EntsV w.heap.size w vb lb) :
    Calls Tryz.prog 39 #[va, vb] w fun e w' => ∃ c, e = .returned (.bool c) ∧ (c = true ↔ la = lb) ∧ Below w.heap.size w w' := by
  obtain ⟨A, cap, rfl⟩ := hS.form
  obtain ⟨B, cap', rfl⟩ := hO.form
  by_cases hl : la.length = lb.length
  · have HL := Lib.hid hl
    obtain ⟨n, hn⟩ : ∃ n, n = la.length := ⟨_, rfl⟩
    rw [← hl]
    rw [← hl] at hO
    rw [← hn] at hS hO hm ⊢
    have HN := Lib.hid hn
    have HSA := Lib.hid hS
    have HSB := Lib.hid hO
    have HA := Lib.hid hsa
    have HB := Lib.hid hsb
    clear hl hn hS hO hsa hsb
    go_enter Tryz.func39, Tryz.ntmps39
    go_wp2
    go_loopw [5] (fun i wr => ∃ k : Nat, k ≤ n ∧ i = .int .i64 k ∧ Hid (la.take k = lb.take k) ∧ Below w.heap.size w wr) (fun i _ => n - (intOf i).toNat)
    case atStart => exact ⟨0, Nat.zero_le _, rfl, Lib.hid rfl, Below.refl _ _⟩
    case round =>
      obtain ⟨k, hk, rfl, HH, hbel⟩ := hrel
      have hsz := hbel.size
      by_cases hlt : k < n
      · have hla : k < la.length := by rw [← HN.out]; exact hlt
        have hlb : k < lb.length := by rw [← HL.out, ← HN.out]; exact hlt
        have hlti : (k : Int) < (n : Int) := by omega
        obtain ⟨b1, off, p1, d1, hA1, hb1, hE1, hp1, hd1⟩ := (HSA.out.below hbel).at_ hla
        obtain ⟨b2, off', p2, d2, hA2, hb2, hE2, hp2, hd2⟩ := (HSB.out.below hbel).at_ hlb
        subst hA1 hA2
        have HG := Lib.hid (List.getElem?_eq_getElem hla)
        have HG' := Lib.hid (List.getElem?_eq_getElem hlb)
        have hra := HA.out la[k] (List.getElem_mem _)
        have hrb := HB.out lb[k] (List.getElem_mem _)
        generalize la[k] = r at HG hE1 hp1 hd1 hra
        generalize lb[k] = q at HG' hE2 hp2 hd2 hrb
        obtain ⟨Ap, cp, rfl⟩ := hp1.form
        obtain ⟨Ad, cd, rfl⟩ := hd1.form
        obtain ⟨Bp, ep, rfl⟩ := hp2.form
        obtain ⟨Bd, ed, rfl⟩ := hd2.form
        rw [zI_len] at hE1 hE2 hd1 hd2
        have hb1 : b1 < wr.heap.size := by omega
        have hb2 : b2 < wr.heap.size := by omega
        have sd : ∃ c, (c = true ↔ r.d = q.d) ∧ ∀ W, Below wr.heap.size wr W → Calls Tryz.prog 58 #[.agg #[.int .i64 r.d.de, .int .i64 r.d.cl, .int .i64 r.d.fu, .int .i64 r.d.st, .slice Ap r.d.put.length cp, .slice Ad r.d.drop.length cd], .agg #[.int .i64 q.d.de, .int .i64 q.d.cl, .int .i64 q.d.fu, .int .i64 q.d.st, .slice Bp q.d.put.length ep, .slice Bd q.d.drop.length ed]] W fun e w' => e = .returned (.bool c) ∧ Below W.heap.size W w' := by
          by_cases hc : r.d = q.d
          · refine ⟨true, by simp [hc], fun W hW => (sameDelta_any r.d q.d _ _ _ _ W hra.1 hrb.1 hra.2 hrb.2 ((hp1.more hsz).on_ hW) ((hp2.more hsz).on_ hW) ((hd1.more hsz).on_ hW) ((hd2.more hsz).on_ hW)).mono ?_⟩
            rintro e w' ⟨c, rfl, h1, h2⟩
            exact ⟨by rw [h1.2 hc], h2⟩
          · refine ⟨false, by simp [hc], fun W hW => (sameDelta_any r.d q.d _ _ _ _ W hra.1 hrb.1 hra.2 hrb.2 ((hp1.more hsz).on_ hW) ((hp2.more hsz).on_ hW) ((hd1.more hsz).on_ hW) ((hd2.more hsz).on_ hW)).mono ?_⟩
            rintro e w' ⟨c, rfl, h1, h2⟩
            exact ⟨by cases c; rfl; exact absurd (h1.1 rfl) hc, h2⟩
        obtain ⟨c, hc, hsd⟩ := sd
        have SD := Lib.hid hsd
        have HC := Lib.hid hc
        have E1 := Lib.hid hE1
        have E2 := Lib.hid hE2
        have no : r ≠ q → ¬ la = lb := by
          intro h1 h2
          subst h2
          have := HG.out.symm.trans HG'.out
          exact h1 (Option.some.inj this)
        have NO := Lib.hid no
        clear hla hlb hra hrb hp1 hp2 hd1 hd2 hsd hc no
        have done : r.vi = q.vi → r.cl = q.cl → r.re = q.re → r.d = q.d → la.take (k + 1) = lb.take (k + 1) := by
          intro h1 h2 h3 h4
          have : r = q := by cases r; cases q; simp only at h1 h2 h3 h4; rw [h1, h2, h3, h4]
          rw [take_snocE HG.out, take_snocE HG'.out, HH.out, this]
        have DONE := Lib.hid done
        clear done
        by_cases hv : r.vi = q.vi
        · have v0 : (r.vi != q.vi) = false := by simp [hv]
          have HV := Lib.hid hv
          clear hv
          by_cases hcl : r.cl = q.cl
          · have v1 : (r.cl != q.cl) = false := by simp [hcl]
            have HCl := Lib.hid hcl
            clear hcl
            by_cases hre : r.re = q.re
            · have v2 : (r.re != q.re) = false := by simp [hre]
              have HRe := Lib.hid hre
              clear hre
              clear hE1 hE2
              cases c
              · go_wp2_with fail
                refine wp_region_held_drew (S := fun w' => Below wr.heap.size wr w') (by kernel_rfl) (Below.drewN' (Below.refl _ wr) 1) (fun hHeld => ?_)
                refine take_d 0 17 (.slice (some ⟨b1, off, none⟩) n cap) _ rfl rfl (by kernel_rfl) (by kernel_rfl) (by kernel_rfl) (fun _ _ _ h => h) (Or.inl ⟨by rfl, fun w' hSw => ?_⟩) hHeld ?_
                · go_simp
                simp only [List.setIfInBounds_toArray, List.set_cons_zero, List.set_cons_succ]
                refine take_d 1 18 (.int .i64 (k : Int)) _ rfl rfl (by kernel_rfl) (by kernel_rfl) (by kernel_rfl) (fun _ _ _ h => h) (Or.inl ⟨by rfl, fun w' hSw => ?_⟩) hHeld ?_
                · go_simp
                simp only [List.setIfInBounds_toArray, List.set_cons_zero, List.set_cons_succ]
                refine take_d 2 19 (.pointer (some ⟨b1, off + k * 9, none⟩)) _ rfl rfl (by kernel_rfl) (by kernel_rfl) (by kernel_rfl) (fun _ _ _ h => h) (Or.inl ⟨by rfl, fun w' hSw => ?_⟩) hHeld ?_
                · go_simp
                simp only [List.setIfInBounds_toArray, List.set_cons_zero, List.set_cons_succ]
                refine take_d 3 20 (.pointer (some ⟨b1, off + k * 9, none⟩)) _ rfl rfl (by kernel_rfl) (by kernel_rfl) (by kernel_rfl) (fun _ _ _ h => h) (Or.inl ⟨by rfl, fun w' hSw => ?_⟩) hHeld ?_
                · go_simp
                simp only [List.setIfInBounds_toArray, List.set_cons_zero, List.set_cons_succ]
                refine take_d 4 21 (.int .i64 r.vi) _ rfl rfl (by kernel_rfl) (by kernel_rfl) (by kernel_rfl) (fun _ _ _ h => h) (Or.inl ⟨by rfl, fun w' hSw => ?_⟩) hHeld ?_
                · obtain ⟨e0, e1, e2, e3, e4, e5, e6, e7, e8⟩ := EnAt.below E1.out hb1 hSw
                  go_simp
                simp only [List.setIfInBounds_toArray, List.set_cons_zero, List.set_cons_succ]
                refine take_d 5 22 (.slice (some ⟨b2, off', none⟩) n cap') _ rfl rfl (by kernel_rfl) (by kernel_rfl) (by kernel_rfl) (fun _ _ _ h => h) (Or.inl ⟨by rfl, fun w' hSw => ?_⟩) hHeld ?_
                · go_simp
                simp only [List.setIfInBounds_toArray, List.set_cons_zero, List.set_cons_succ]
                refine take_d 6 23 (.int .i64 (k : Int)) _ rfl rfl (by kernel_rfl) (by kernel_rfl) (by kernel_rfl) (fun _ _ _ h => h) (Or.inl ⟨by rfl, fun w' hSw => ?_⟩) hHeld ?_
                · go_simp
                simp only [List.setIfInBounds_toArray, List.set_cons_zero, List.set_cons_succ]
                refine take_d 7 24 (.pointer (some ⟨b2, off' + k * 9, none⟩)) _ rfl rfl (by kernel_rfl) (by kernel_rfl) (by kernel_rfl) (fun _ _ _ h => h) (Or.inl ⟨by rfl, fun w' hSw => ?_⟩) hHeld ?_
                · go_simp
                simp only [List.setIfInBounds_toArray, List.set_cons_zero, List.set_cons_succ]
                refine take_d 8 25 (.pointer (some ⟨b2, off' + k * 9, none⟩)) _ rfl rfl (by kernel_rfl) (by kernel_rfl) (by kernel_rfl) (fun _ _ _ h => h) (Or.inl ⟨by rfl, fun w' hSw => ?_⟩) hHeld ?_
                · go_simp
                simp only [List.setIfInBounds_toArray, List.set_cons_zero, List.set_cons_succ]
                refine take_d 9 26 (.int .i64 q.vi) _ rfl rfl (by kernel_rfl) (by kernel_rfl) (by kernel_rfl) (fun _ _ _ h => h) (Or.inl ⟨by rfl, fun w' hSw => ?_⟩) hHeld ?_
                · obtain ⟨e0, e1, e2, e3, e4, e5, e6, e7, e8⟩ := EnAt.below E2.out hb2 hSw
                  go_simp
                simp only [List.setIfInBounds_toArray, List.set_cons_zero, List.set_cons_succ]
                refine take_d 10 27 (.bool false) _ rfl rfl (by kernel_rfl) (by kernel_rfl) (by kernel_rfl) (fun _ _ _ h => h) (Or.inl ⟨by rfl, fun w' hSw => ?_⟩) hHeld ?_
                · go_simp
                simp only [List.setIfInBounds_toArray, List.set_cons_zero, List.set_cons_succ]
                refine take_d 11 28 (.bool false) _ rfl rfl (by kernel_rfl) (by kernel_rfl) (by kernel_rfl) (fun _ _ _ h => h) (Or.inl ⟨by rfl, fun w' hSw => ?_⟩) hHeld ?_
                · go_simp
                simp only [List.setIfInBounds_toArray, List.set_cons_zero, List.set_cons_succ]
                refine take_d 12 29 (.slice (some ⟨b1, off, none⟩) n cap) _ rfl rfl (by kernel_rfl) (by kernel_rfl) (by kernel_rfl) (fun _ _ _ h => h) (Or.inl ⟨by rfl, fun w' hSw => ?_⟩) hHeld ?_
                · go_simp
                simp only [List.setIfInBounds_toArray, List.set_cons_zero, List.set_cons_succ]
                refine take_d 13 30 (.int .i64 (k : Int)) _ rfl rfl (by kernel_rfl) (by kernel_rfl) (by kernel_rfl) (fun _ _ _ h => h) (Or.inl ⟨by rfl, fun w' hSw => ?_⟩) hHeld ?_
                · go_simp
                simp only [List.setIfInBounds_toArray, List.set_cons_zero, List.set_cons_succ]
                refine take_d 14 31 (.pointer (some ⟨b1, off + k * 9, none⟩)) _ rfl rfl (by kernel_rfl) (by kernel_rfl) (by kernel_rfl) (fun _ _ _ h => h) (Or.inl ⟨by rfl, fun w' hSw => ?_⟩) hHeld ?_
                · go_simp
                simp only [List.setIfInBounds_toArray, List.set_cons_zero, List.set_cons_succ]
                refine take_d 15 32 (.pointer (some ⟨b1, off + k * 9 + 1, none⟩)) _ rfl rfl (by kernel_rfl) (by kernel_rfl) (by kernel_rfl) (fun _ _ _ h => h) (Or.inl ⟨by rfl, fun w' hSw => ?_⟩) hHeld ?_
                · go_simp
                simp only [List.setIfInBounds_toArray, List.set_cons_zero, List.set_cons_succ]
                refine take_d 16 33 (.int .i64 r.cl) _ rfl rfl (by kernel_rfl) (by kernel_rfl) (by kernel_rfl) (fun _ _ _ h => h) (Or.inl ⟨by rfl, fun w' hSw => ?_⟩) hHeld ?_
                · obtain ⟨e0, e1, e2, e3, e4, e5, e6, e7, e8⟩ := EnAt.below E1.out hb1 hSw
                  go_simp
                simp only [List.setIfInBounds_toArray, List.set_cons_zero, List.set_cons_succ]
                refine take_d 17 34 (.slice (some ⟨b2, off', none⟩) n cap') _ rfl rfl (by kernel_rfl) (by kernel_rfl) (by kernel_rfl) (fun _ _ _ h => h) (Or.inl ⟨by rfl, fun w' hSw => ?_⟩) hHeld ?_
                · go_simp
                simp only [List.setIfInBounds_toArray, List.set_cons_zero, List.set_cons_succ]
                refine take_d 18 35 (.int .i64 (k : Int)) _ rfl rfl (by kernel_rfl) (by kernel_rfl) (by kernel_rfl) (fun _ _ _ h => h) (Or.inl ⟨by rfl, fun w' hSw => ?_⟩) hHeld ?_
                · go_simp
                simp only [List.setIfInBounds_toArray, List.set_cons_zero, List.set_cons_succ]
                refine take_d 19 36 (.pointer (some ⟨b2, off' + k * 9, none⟩)) _ rfl rfl (by kernel_rfl) (by kernel_rfl) (by kernel_rfl) (fun _ _ _ h => h) (Or.inl ⟨by rfl, fun w' hSw => ?_⟩) hHeld ?_
                · go_simp
                simp only [List.setIfInBounds_toArray, List.set_cons_zero, List.set_cons_succ]
                refine take_d 20 37 (.pointer (some ⟨b2, off' + k * 9 + 1, none⟩)) _ rfl rfl (by kernel_rfl) (by kernel_rfl) (by kernel_rfl) (fun _ _ _ h => h) (Or.inl ⟨by rfl, fun w' hSw => ?_⟩) hHeld ?_
                · go_simp
                simp only [List.setIfInBounds_toArray, List.set_cons_zero, List.set_cons_succ]
                refine take_d 21 38 (.int .i64 q.cl) _ rfl rfl (by kernel_rfl) (by kernel_rfl) (by kernel_rfl) (fun _ _ _ h => h) (Or.inl ⟨by rfl, fun w' hSw => ?_⟩) hHeld ?_
                · obtain ⟨e0, e1, e2, e3, e4, e5, e6, e7, e8⟩ := EnAt.below E2.out hb2 hSw
                  go_simp
                simp only [List.setIfInBounds_toArray, List.set_cons_zero, List.set_cons_succ]
                refine take_d 22 39 (.bool false) _ rfl rfl (by kernel_rfl) (by kernel_rfl) (by kernel_rfl) (fun _ _ _ h => h) (Or.inl ⟨by rfl, fun w' hSw => ?_⟩) hHeld ?_
                · go_simp
                simp only [List.setIfInBounds_toArray, List.set_cons_zero, List.set_cons_succ]
                refine take_d 23 40 (.bool false) _ rfl rfl (by kernel_rfl) (by kernel_rfl) (by kernel_rfl) (fun _ _ _ h => h) (Or.inl ⟨by rfl, fun w' hSw => ?_⟩) hHeld ?_
                · go_simp
                simp only [List.setIfInBounds_toArray, List.set_cons_zero, List.set_cons_succ]
                refine take_d 24 41 (.bool false) _ rfl rfl (by kernel_rfl) (by kernel_rfl) (by kernel_rfl) (fun _ _ _ h => h) (Or.inl ⟨by rfl, fun w' hSw => ?_⟩) hHeld ?_
                · go_simp
                simp only [List.setIfInBounds_toArray, List.set_cons_zero, List.set_cons_succ]
                refine take_d 25 42 (.slice (some ⟨b1, off, none⟩) n cap) _ rfl rfl (by kernel_rfl) (by kernel_rfl) (by kernel_rfl) (fun _ _ _ h => h) (Or.inl ⟨by rfl, fun w' hSw => ?_⟩) hHeld ?_
                · go_simp
                simp only [List.setIfInBounds_toArray, List.set_cons_zero, List.set_cons_succ]
                refine take_d 26 43 (.int .i64 (k : Int)) _ rfl rfl (by kernel_rfl) (by kernel_rfl) (by kernel_rfl) (fun _ _ _ h => h) (Or.inl ⟨by rfl, fun w' hSw => ?_⟩) hHeld ?_
                · go_simp
                simp only [List.setIfInBounds_toArray, List.set_cons_zero, List.set_cons_succ]
                refine take_d 27 44 (.pointer (some ⟨b1, off + k * 9, none⟩)) _ rfl rfl (by kernel_rfl) (by kernel_rfl) (by kernel_rfl) (fun _ _ _ h => h) (Or.inl ⟨by rfl, fun w' hSw => ?_⟩) hHeld ?_
                · go_simp
                simp only [List.setIfInBounds_toArray, List.set_cons_zero, List.set_cons_succ]
                refine take_d 28 45 (.pointer (some ⟨b1, off + k * 9 + 2, none⟩)) _ rfl rfl (by kernel_rfl) (by kernel_rfl) (by kernel_rfl) (fun _ _ _ h => h) (Or.inl ⟨by rfl, fun w' hSw => ?_⟩) hHeld ?_
                · go_simp
                simp only [List.setIfInBounds_toArray, List.set_cons_zero, List.set_cons_succ]
                refine take_d 29 46 (.int .i64 r.re) _ rfl rfl (by kernel_rfl) (by kernel_rfl) (by kernel_rfl) (fun _ _ _ h => h) (Or.inl ⟨by rfl, fun w' hSw => ?_⟩) hHeld ?_
                · obtain ⟨e0, e1, e2, e3, e4, e5, e6, e7, e8⟩ := EnAt.below E1.out hb1 hSw
                  go_simp
                simp only [List.setIfInBounds_toArray, List.set_cons_zero, List.set_cons_succ]
                refine take_d 30 47 (.slice (some ⟨b2, off', none⟩) n cap') _ rfl rfl (by kernel_rfl) (by kernel_rfl) (by kernel_rfl) (fun _ _ _ h => h) (Or.inl ⟨by rfl, fun w' hSw => ?_⟩) hHeld ?_
                · go_simp
                simp only [List.setIfInBounds_toArray, List.set_cons_zero, List.set_cons_succ]
                refine take_d 31 48 (.int .i64 (k : Int)) _ rfl rfl (by kernel_rfl) (by kernel_rfl) (by kernel_rfl) (fun _ _ _ h => h) (Or.inl ⟨by rfl, fun w' hSw => ?_⟩) hHeld ?_
                · go_simp
                simp only [List.setIfInBounds_toArray, List.set_cons_zero, List.set_cons_succ]
                refine take_d 32 49 (.pointer (some ⟨b2, off' + k * 9, none⟩)) _ rfl rfl (by kernel_rfl) (by kernel_rfl) (by kernel_rfl) (fun _ _ _ h => h) (Or.inl ⟨by rfl, fun w' hSw => ?_⟩) hHeld ?_
                · go_simp
                simp only [List.setIfInBounds_toArray, List.set_cons_zero, List.set_cons_succ]
                refine take_d 33 50 (.pointer (some ⟨b2, off' + k * 9 + 2, none⟩)) _ rfl rfl (by kernel_rfl) (by kernel_rfl) (by kernel_rfl) (fun _ _ _ h => h) (Or.inl ⟨by rfl, fun w' hSw => ?_⟩) hHeld ?_
                · go_simp
                simp only [List.setIfInBounds_toArray, List.set_cons_zero, List.set_cons_succ]
                refine take_d 34 51 (.int .i64 q.re) _ rfl rfl (by kernel_rfl) (by kernel_rfl) (by kernel_rfl) (fun _ _ _ h => h) (Or.inl ⟨by rfl, fun w' hSw => ?_⟩) hHeld ?_
                · obtain ⟨e0, e1, e2, e3, e4, e5, e6, e7, e8⟩ := EnAt.below E2.out hb2 hSw
                  go_simp
                simp only [List.setIfInBounds_toArray, List.set_cons_zero, List.set_cons_succ]
                refine take_d 35 52 (.bool false) _ rfl rfl (by kernel_rfl) (by kernel_rfl) (by kernel_rfl) (fun _ _ _ h => h) (Or.inl ⟨by rfl, fun w' hSw => ?_⟩) hHeld ?_
                · go_simp
                simp only [List.setIfInBounds_toArray, List.set_cons_zero, List.set_cons_succ]
                refine take_d 36 53 (.bool false) _ rfl rfl (by kernel_rfl) (by kernel_rfl) (by kernel_rfl) (fun _ _ _ h => h) (Or.inl ⟨by rfl, fun w' hSw => ?_⟩) hHeld ?_
                · go_simp
                simp only [List.setIfInBounds_toArray, List.set_cons_zero, List.set_cons_succ]
                refine take_d 37 54 (.bool false) _ rfl rfl (by kernel_rfl) (by kernel_rfl) (by kernel_rfl) (fun _ _ _ h => h) (Or.inl ⟨by rfl, fun w' hSw => ?_⟩) hHeld ?_
                · go_simp
                simp only [List.setIfInBounds_toArray, List.set_cons_zero, List.set_cons_succ]
                refine take_d 38 55 (.slice (some ⟨b1, off, none⟩) n cap) _ rfl rfl (by kernel_rfl) (by kernel_rfl) (by kernel_rfl) (fun _ _ _ h => h) (Or.inl ⟨by rfl, fun w' hSw => ?_⟩) hHeld ?_
                · go_simp
                simp only [List.setIfInBounds_toArray, List.set_cons_zero, List.set_cons_succ]
                refine take_d 39 56 (.int .i64 (k : Int)) _ rfl rfl (by kernel_rfl) (by kernel_rfl) (by kernel_rfl) (fun _ _ _ h => h) (Or.inl ⟨by rfl, fun w' hSw => ?_⟩) hHeld ?_
                · go_simp
                simp only [List.setIfInBounds_toArray, List.set_cons_zero, List.set_cons_succ]
                refine take_d 40 57 (.pointer (some ⟨b1, off + k * 9, none⟩)) _ rfl rfl (by kernel_rfl) (by kernel_rfl) (by kernel_rfl) (fun _ _ _ h => h) (Or.inl ⟨by rfl, fun w' hSw => ?_⟩) hHeld ?_
                · go_simp
                simp only [List.setIfInBounds_toArray, List.set_cons_zero, List.set_cons_succ]
                refine take_d 41 58 (.pointer (some ⟨b1, off + k * 9 + 3, none⟩)) _ rfl rfl (by kernel_rfl) (by kernel_rfl) (by kernel_rfl) (fun _ _ _ h => h) (Or.inl ⟨by rfl, fun w' hSw => ?_⟩) hHeld ?_
                · go_simp
                simp only [List.setIfInBounds_toArray, List.set_cons_zero, List.set_cons_succ]
                refine take_d 42 59 (.agg #[.int .i64 r.d.de, .int .i64 r.d.cl, .int .i64 r.d.fu, .int .i64 r.d.st, .slice Ap r.d.put.length cp, .slice Ad r.d.drop.length cd]) _ rfl rfl (by kernel_rfl) (by kernel_rfl) (by kernel_rfl) (fun _ _ _ h => h) (Or.inl ⟨by rfl, fun w' hSw => ?_⟩) hHeld ?_
                · obtain ⟨e0, e1, e2, e3, e4, e5, e6, e7, e8⟩ := EnAt.below E1.out hb1 hSw
                  go_simp
                simp only [List.setIfInBounds_toArray, List.set_cons_zero, List.set_cons_succ]
                refine take_d 43 60 (.slice (some ⟨b2, off', none⟩) n cap') _ rfl rfl (by kernel_rfl) (by kernel_rfl) (by kernel_rfl) (fun _ _ _ h => h) (Or.inl ⟨by rfl, fun w' hSw => ?_⟩) hHeld ?_
                · go_simp
                simp only [List.setIfInBounds_toArray, List.set_cons_zero, List.set_cons_succ]
                refine take_d 44 61 (.int .i64 (k : Int)) _ rfl rfl (by kernel_rfl) (by kernel_rfl) (by kernel_rfl) (fun _ _ _ h => h) (Or.inl ⟨by rfl, fun w' hSw => ?_⟩) hHeld ?_
                · go_simp
                simp only [List.setIfInBounds_toArray, List.set_cons_zero, List.set_cons_succ]
                refine take_d 45 62 (.pointer (some ⟨b2, off' + k * 9, none⟩)) _ rfl rfl (by kernel_rfl) (by kernel_rfl) (by kernel_rfl) (fun _ _ _ h => h) (Or.inl ⟨by rfl, fun w' hSw => ?_⟩) hHeld ?_
                · go_simp
                simp only [List.setIfInBounds_toArray, List.set_cons_zero, List.set_cons_succ]
                refine take_d 46 63 (.pointer (some ⟨b2, off' + k * 9 + 3, none⟩)) _ rfl rfl (by kernel_rfl) (by kernel_rfl) (by kernel_rfl) (fun _ _ _ h => h) (Or.inl ⟨by rfl, fun w' hSw => ?_⟩) hHeld ?_
                · go_simp
                simp only [List.setIfInBounds_toArray, List.set_cons_zero, List.set_cons_succ]
                refine take_d 47 64 (.agg #[.int .i64 q.d.de, .int .i64 q.d.cl, .int .i64 q.d.fu, .int .i64 q.d.st, .slice Bp q.d.put.length ep, .slice Bd q.d.drop.length ed]) _ rfl rfl (by kernel_rfl) (by kernel_rfl) (by kernel_rfl) (fun _ _ _ h => h) (Or.inl ⟨by rfl, fun w' hSw => ?_⟩) hHeld ?_
                · obtain ⟨e0, e1, e2, e3, e4, e5, e6, e7, e8⟩ := EnAt.below E2.out hb2 hSw
                  go_simp
                simp only [List.setIfInBounds_toArray, List.set_cons_zero, List.set_cons_succ]
                refine wpAnyH_ready (rs := [48]) (by kernel_rfl) (by simp) ?_
                refine AllReadyH.cons rfl (fun K hK => ?_) AllReadyH.nil
                go_simp
                refine (SD.out _ hHeld).mono ?_
                rintro e w6 ⟨rfl, hB6⟩
                have hS6 := Below.trans hHeld (hB6.mono hHeld.size)
                refine hK.out _ _ hS6 (fun hHeld => ?_)
                clear hK K hB6
                refine take_d 49 66 (.bool true) _ rfl rfl (by kernel_rfl) (by kernel_rfl) (by kernel_rfl) (fun _ _ _ h => h) (Or.inl ⟨by rfl, fun w' hSw => ?_⟩) hHeld ?_
                · go_simp
                simp only [List.setIfInBounds_toArray, List.set_cons_zero, List.set_cons_succ]
                refine take_d 50 67 (.bool true) _ rfl rfl (by kernel_rfl) (by kernel_rfl) (by kernel_rfl) (fun _ _ _ h => h) (Or.inl ⟨by rfl, fun w' hSw => ?_⟩) hHeld ?_
                · go_simp
                simp only [List.setIfInBounds_toArray, List.set_cons_zero, List.set_cons_succ]
                refine wpAnyH_done (by kernel_rfl) ?_ _
                go_wp2
                go_ret
                exact ⟨false, rfl, ⟨fun h => Bool.noConfusion h, fun h => absurd h (NO.out (fun e => by have := HC.out.2 (by rw [e]); cases this))⟩, hbel.trans (Below.mono hHeld hsz)⟩
              · go_wp2_with fail
                refine wp_region_held_drew (S := fun w' => Below wr.heap.size wr w') (by kernel_rfl) (Below.drewN' (Below.refl _ wr) 1) (fun hHeld => ?_)
                refine take_d 0 17 (.slice (some ⟨b1, off, none⟩) n cap) _ rfl rfl (by kernel_rfl) (by kernel_rfl) (by kernel_rfl) (fun _ _ _ h => h) (Or.inl ⟨by rfl, fun w' hSw => ?_⟩) hHeld ?_
                · go_simp
                simp only [List.setIfInBounds_toArray, List.set_cons_zero, List.set_cons_succ]
                refine take_d 1 18 (.int .i64 (k : Int)) _ rfl rfl (by kernel_rfl) (by kernel_rfl) (by kernel_rfl) (fun _ _ _ h => h) (Or.inl ⟨by rfl, fun w' hSw => ?_⟩) hHeld ?_
                · go_simp
                simp only [List.setIfInBounds_toArray, List.set_cons_zero, List.set_cons_succ]
                refine take_d 2 19 (.pointer (some ⟨b1, off + k * 9, none⟩)) _ rfl rfl (by kernel_rfl) (by kernel_rfl) (by kernel_rfl) (fun _ _ _ h => h) (Or.inl ⟨by rfl, fun w' hSw => ?_⟩) hHeld ?_
                · go_simp
                simp only [List.setIfInBounds_toArray, List.set_cons_zero, List.set_cons_succ]
                refine take_d 3 20 (.pointer (some ⟨b1, off + k * 9, none⟩)) _ rfl rfl (by kernel_rfl) (by kernel_rfl) (by kernel_rfl) (fun _ _ _ h => h) (Or.inl ⟨by rfl, fun w' hSw => ?_⟩) hHeld ?_
                · go_simp
                simp only [List.setIfInBounds_toArray, List.set_cons_zero, List.set_cons_succ]
                refine take_d 4 21 (.int .i64 r.vi) _ rfl rfl (by kernel_rfl) (by kernel_rfl) (by kernel_rfl) (fun _ _ _ h => h) (Or.inl ⟨by rfl, fun w' hSw => ?_⟩) hHeld ?_
                · obtain ⟨e0, e1, e2, e3, e4, e5, e6, e7, e8⟩ := EnAt.below E1.out hb1 hSw
                  go_simp
                simp only [List.setIfInBounds_toArray, List.set_cons_zero, List.set_cons_succ]
                refine take_d 5 22 (.slice (some ⟨b2, off', none⟩) n cap') _ rfl rfl (by kernel_rfl) (by kernel_rfl) (by kernel_rfl) (fun _ _ _ h => h) (Or.inl ⟨by rfl, fun w' hSw => ?_⟩) hHeld ?_
                · go_simp
                simp only [List.setIfInBounds_toArray, List.set_cons_zero, List.set_cons_succ]
                refine take_d 6 23 (.int .i64 (k : Int)) _ rfl rfl (by kernel_rfl) (by kernel_rfl) (by kernel_rfl) (fun _ _ _ h => h) (Or.inl ⟨by rfl, fun w' hSw => ?_⟩) hHeld ?_
                · go_simp
                simp only [List.setIfInBounds_toArray, List.set_cons_zero, List.set_cons_succ]
                refine take_d 7 24 (.pointer (some ⟨b2, off' + k * 9, none⟩)) _ rfl rfl (by kernel_rfl) (by kernel_rfl) (by kernel_rfl) (fun _ _ _ h => h) (Or.inl ⟨by rfl, fun w' hSw => ?_⟩) hHeld ?_
                · go_simp
                simp only [List.setIfInBounds_toArray, List.set_cons_zero, List.set_cons_succ]
                refine take_d 8 25 (.pointer (some ⟨b2, off' + k * 9, none⟩)) _ rfl rfl (by kernel_rfl) (by kernel_rfl) (by kernel_rfl) (fun _ _ _ h => h) (Or.inl ⟨by rfl, fun w' hSw => ?_⟩) hHeld ?_
                · go_simp
                simp only [List.setIfInBounds_toArray, List.set_cons_zero, List.set_cons_succ]
                refine take_d 9 26 (.int .i64 q.vi) _ rfl rfl (by kernel_rfl) (by kernel_rfl) (by kernel_rfl) (fun _ _ _ h => h) (Or.inl ⟨by rfl, fun w' hSw => ?_⟩) hHeld ?_
                · obtain ⟨e0, e1, e2, e3, e4, e5, e6, e7, e8⟩ := EnAt.below E2.out hb2 hSw
                  go_simp
                simp only [List.setIfInBounds_toArray, List.set_cons_zero, List.set_cons_succ]
                refine take_d 10 27 (.bool false) _ rfl rfl (by kernel_rfl) (by kernel_rfl) (by kernel_rfl) (fun _ _ _ h => h) (Or.inl ⟨by rfl, fun w' hSw => ?_⟩) hHeld ?_
                · go_simp
                simp only [List.setIfInBounds_toArray, List.set_cons_zero, List.set_cons_succ]
                refine take_d 11 28 (.bool false) _ rfl rfl (by kernel_rfl) (by kernel_rfl) (by kernel_rfl) (fun _ _ _ h => h) (Or.inl ⟨by rfl, fun w' hSw => ?_⟩) hHeld ?_
                · go_simp
                simp only [List.setIfInBounds_toArray, List.set_cons_zero, List.set_cons_succ]
                refine take_d 12 29 (.slice (some ⟨b1, off, none⟩) n cap) _ rfl rfl (by kernel_rfl) (by kernel_rfl) (by kernel_rfl) (fun _ _ _ h => h) (Or.inl ⟨by rfl, fun w' hSw => ?_⟩) hHeld ?_
                · go_simp
                simp only [List.setIfInBounds_toArray, List.set_cons_zero, List.set_cons_succ]
                refine take_d 13 30 (.int .i64 (k : Int)) _ rfl rfl (by kernel_rfl) (by kernel_rfl) (by kernel_rfl) (fun _ _ _ h => h) (Or.inl ⟨by rfl, fun w' hSw => ?_⟩) hHeld ?_
                · go_simp
                simp only [List.setIfInBounds_toArray, List.set_cons_zero, List.set_cons_succ]
                refine take_d 14 31 (.pointer (some ⟨b1, off + k * 9, none⟩)) _ rfl rfl (by kernel_rfl) (by kernel_rfl) (by kernel_rfl) (fun _ _ _ h => h) (Or.inl ⟨by rfl, fun w' hSw => ?_⟩) hHeld ?_
                · go_simp
                simp only [List.setIfInBounds_toArray, List.set_cons_zero, List.set_cons_succ]
                refine take_d 15 32 (.pointer (some ⟨b1, off + k * 9 + 1, none⟩)) _ rfl rfl (by kernel_rfl) (by kernel_rfl) (by kernel_rfl) (fun _ _ _ h => h) (Or.inl ⟨by rfl, fun w' hSw => ?_⟩) hHeld ?_
                · go_simp
                simp only [List.setIfInBounds_toArray, List.set_cons_zero, List.set_cons_succ]
                refine take_d 16 33 (.int .i64 r.cl) _ rfl rfl (by kernel_rfl) (by kernel_rfl) (by kernel_rfl) (fun _ _ _ h => h) (Or.inl ⟨by rfl, fun w' hSw => ?_⟩) hHeld ?_
                · obtain ⟨e0, e1, e2, e3, e4, e5, e6, e7, e8⟩ := EnAt.below E1.out hb1 hSw
                  go_simp
                simp only [List.setIfInBounds_toArray, List.set_cons_zero, List.set_cons_succ]
                refine take_d 17 34 (.slice (some ⟨b2, off', none⟩) n cap') _ rfl rfl (by kernel_rfl) (by kernel_rfl) (by kernel_rfl) (fun _ _ _ h => h) (Or.inl ⟨by rfl, fun w' hSw => ?_⟩) hHeld ?_
                · go_simp
                simp only [List.setIfInBounds_toArray, List.set_cons_zero, List.set_cons_succ]
                refine take_d 18 35 (.int .i64 (k : Int)) _ rfl rfl (by kernel_rfl) (by kernel_rfl) (by kernel_rfl) (fun _ _ _ h => h) (Or.inl ⟨by rfl, fun w' hSw => ?_⟩) hHeld ?_
                · go_simp
                simp only [List.setIfInBounds_toArray, List.set_cons_zero, List.set_cons_succ]
                refine take_d 19 36 (.pointer (some ⟨b2, off' + k * 9, none⟩)) _ rfl rfl (by kernel_rfl) (by kernel_rfl) (by kernel_rfl) (fun _ _ _ h => h) (Or.inl ⟨by rfl, fun w' hSw => ?_⟩) hHeld ?_
                · go_simp
                simp only [List.setIfInBounds_toArray, List.set_cons_zero, List.set_cons_succ]
                refine take_d 20 37 (.pointer (some ⟨b2, off' + k * 9 + 1, none⟩)) _ rfl rfl (by kernel_rfl) (by kernel_rfl) (by kernel_rfl) (fun _ _ _ h => h) (Or.inl ⟨by rfl, fun w' hSw => ?_⟩) hHeld ?_
                · go_simp
                simp only [List.setIfInBounds_toArray, List.set_cons_zero, List.set_cons_succ]
                refine take_d 21 38 (.int .i64 q.cl) _ rfl rfl (by kernel_rfl) (by kernel_rfl) (by kernel_rfl) (fun _ _ _ h => h) (Or.inl ⟨by rfl, fun w' hSw => ?_⟩) hHeld ?_
                · obtain ⟨e0, e1, e2, e3, e4, e5, e6, e7, e8⟩ := EnAt.below E2.out hb2 hSw
                  go_simp
                simp only [List.setIfInBounds_toArray, List.set_cons_zero, List.set_cons_succ]
                refine take_d 22 39 (.bool false) _ rfl rfl (by kernel_rfl) (by kernel_rfl) (by kernel_rfl) (fun _ _ _ h => h) (Or.inl ⟨by rfl, fun w' hSw => ?_⟩) hHeld ?_
                · go_simp
                simp only [List.setIfInBounds_toArray, List.set_cons_zero, List.set_cons_succ]
                refine take_d 23 40 (.bool false) _ rfl rfl (by kernel_rfl) (by kernel_rfl) (by kernel_rfl) (fun _ _ _ h => h) (Or.inl ⟨by rfl, fun w' hSw => ?_⟩) hHeld ?_
                · go_simp
                simp only [List.setIfInBounds_toArray, List.set_cons_zero, List.set_cons_succ]
                refine take_d 24 41 (.bool false) _ rfl rfl (by kernel_rfl) (by kernel_rfl) (by kernel_rfl) (fun _ _ _ h => h) (Or.inl ⟨by rfl, fun w' hSw => ?_⟩) hHeld ?_
                · go_simp
                simp only [List.setIfInBounds_toArray, List.set_cons_zero, List.set_cons_succ]
                refine take_d 25 42 (.slice (some ⟨b1, off, none⟩) n cap) _ rfl rfl (by kernel_rfl) (by kernel_rfl) (by kernel_rfl) (fun _ _ _ h => h) (Or.inl ⟨by rfl, fun w' hSw => ?_⟩) hHeld ?_
                · go_simp
                simp only [List.setIfInBounds_toArray, List.set_cons_zero, List.set_cons_succ]
                refine take_d 26 43 (.int .i64 (k : Int)) _ rfl rfl (by kernel_rfl) (by kernel_rfl) (by kernel_rfl) (fun _ _ _ h => h) (Or.inl ⟨by rfl, fun w' hSw => ?_⟩) hHeld ?_
                · go_simp
                simp only [List.setIfInBounds_toArray, List.set_cons_zero, List.set_cons_succ]
                refine take_d 27 44 (.pointer (some ⟨b1, off + k * 9, none⟩)) _ rfl rfl (by kernel_rfl) (by kernel_rfl) (by kernel_rfl) (fun _ _ _ h => h) (Or.inl ⟨by rfl, fun w' hSw => ?_⟩) hHeld ?_
                · go_simp
                simp only [List.setIfInBounds_toArray, List.set_cons_zero, List.set_cons_succ]
                refine take_d 28 45 (.pointer (some ⟨b1, off + k * 9 + 2, none⟩)) _ rfl rfl (by kernel_rfl) (by kernel_rfl) (by kernel_rfl) (fun _ _ _ h => h) (Or.inl ⟨by rfl, fun w' hSw => ?_⟩) hHeld ?_
                · go_simp
                simp only [List.setIfInBounds_toArray, List.set_cons_zero, List.set_cons_succ]
                refine take_d 29 46 (.int .i64 r.re) _ rfl rfl (by kernel_rfl) (by kernel_rfl) (by kernel_rfl) (fun _ _ _ h => h) (Or.inl ⟨by rfl, fun w' hSw => ?_⟩) hHeld ?_
                · obtain ⟨e0, e1, e2, e3, e4, e5, e6, e7, e8⟩ := EnAt.below E1.out hb1 hSw
                  go_simp
                simp only [List.setIfInBounds_toArray, List.set_cons_zero, List.set_cons_succ]
                refine take_d 30 47 (.slice (some ⟨b2, off', none⟩) n cap') _ rfl rfl (by kernel_rfl) (by kernel_rfl) (by kernel_rfl) (fun _ _ _ h => h) (Or.inl ⟨by rfl, fun w' hSw => ?_⟩) hHeld ?_
                · go_simp
                simp only [List.setIfInBounds_toArray, List.set_cons_zero, List.set_cons_succ]
                refine take_d 31 48 (.int .i64 (k : Int)) _ rfl rfl (by kernel_rfl) (by kernel_rfl) (by kernel_rfl) (fun _ _ _ h => h) (Or.inl ⟨by rfl, fun w' hSw => ?_⟩) hHeld ?_
                · go_simp
                simp only [List.setIfInBounds_toArray, List.set_cons_zero, List.set_cons_succ]
                refine take_d 32 49 (.pointer (some ⟨b2, off' + k * 9, none⟩)) _ rfl rfl (by kernel_rfl) (by kernel_rfl) (by kernel_rfl) (fun _ _ _ h => h) (Or.inl ⟨by rfl, fun w' hSw => ?_⟩) hHeld ?_
                · go_simp
                simp only [List.setIfInBounds_toArray, List.set_cons_zero, List.set_cons_succ]
                refine take_d 33 50 (.pointer (some ⟨b2, off' + k * 9 + 2, none⟩)) _ rfl rfl (by kernel_rfl) (by kernel_rfl) (by kernel_rfl) (fun _ _ _ h => h) (Or.inl ⟨by rfl, fun w' hSw => ?_⟩) hHeld ?_
                · go_simp
                simp only [List.setIfInBounds_toArray, List.set_cons_zero, List.set_cons_succ]
                refine take_d 34 51 (.int .i64 q.re) _ rfl rfl (by kernel_rfl) (by kernel_rfl) (by kernel_rfl) (fun _ _ _ h => h) (Or.inl ⟨by rfl, fun w' hSw => ?_⟩) hHeld ?_
                · obtain ⟨e0, e1, e2, e3, e4, e5, e6, e7, e8⟩ := EnAt.below E2.out hb2 hSw
                  go_simp
                simp only [List.setIfInBounds_toArray, List.set_cons_zero, List.set_cons_succ]
                refine take_d 35 52 (.bool false) _ rfl rfl (by kernel_rfl) (by kernel_rfl) (by kernel_rfl) (fun _ _ _ h => h) (Or.inl ⟨by rfl, fun w' hSw => ?_⟩) hHeld ?_
                · go_simp
                simp only [List.setIfInBounds_toArray, List.set_cons_zero, List.set_cons_succ]
                refine take_d 36 53 (.bool false) _ rfl rfl (by kernel_rfl) (by kernel_rfl) (by kernel_rfl) (fun _ _ _ h => h) (Or.inl ⟨by rfl, fun w' hSw => ?_⟩) hHeld ?_
                · go_simp
                simp only [List.setIfInBounds_toArray, List.set_cons_zero, List.set_cons_succ]
                refine take_d 37 54 (.bool false) _ rfl rfl (by kernel_rfl) (by kernel_rfl) (by kernel_rfl) (fun _ _ _ h => h) (Or.inl ⟨by rfl, fun w' hSw => ?_⟩) hHeld ?_
                · go_simp
                simp only [List.setIfInBounds_toArray, List.set_cons_zero, List.set_cons_succ]
                refine take_d 38 55 (.slice (some ⟨b1, off, none⟩) n cap) _ rfl rfl (by kernel_rfl) (by kernel_rfl) (by kernel_rfl) (fun _ _ _ h => h) (Or.inl ⟨by rfl, fun w' hSw => ?_⟩) hHeld ?_
                · go_simp
                simp only [List.setIfInBounds_toArray, List.set_cons_zero, List.set_cons_succ]
                refine take_d 39 56 (.int .i64 (k : Int)) _ rfl rfl (by kernel_rfl) (by kernel_rfl) (by kernel_rfl) (fun _ _ _ h => h) (Or.inl ⟨by rfl, fun w' hSw => ?_⟩) hHeld ?_
                · go_simp
                simp only [List.setIfInBounds_toArray, List.set_cons_zero, List.set_cons_succ]
                refine take_d 40 57 (.pointer (some ⟨b1, off + k * 9, none⟩)) _ rfl rfl (by kernel_rfl) (by kernel_rfl) (by kernel_rfl) (fun _ _ _ h => h) (Or.inl ⟨by rfl, fun w' hSw => ?_⟩) hHeld ?_
                · go_simp
                simp only [List.setIfInBounds_toArray, List.set_cons_zero, List.set_cons_succ]
                refine take_d 41 58 (.pointer (some ⟨b1, off + k * 9 + 3, none⟩)) _ rfl rfl (by kernel_rfl) (by kernel_rfl) (by kernel_rfl) (fun _ _ _ h => h) (Or.inl ⟨by rfl, fun w' hSw => ?_⟩) hHeld ?_
                · go_simp
                simp only [List.setIfInBounds_toArray, List.set_cons_zero, List.set_cons_succ]
                refine take_d 42 59 (.agg #[.int .i64 r.d.de, .int .i64 r.d.cl, .int .i64 r.d.fu, .int .i64 r.d.st, .slice Ap r.d.put.length cp, .slice Ad r.d.drop.length cd]) _ rfl rfl (by kernel_rfl) (by kernel_rfl) (by kernel_rfl) (fun _ _ _ h => h) (Or.inl ⟨by rfl, fun w' hSw => ?_⟩) hHeld ?_
                · obtain ⟨e0, e1, e2, e3, e4, e5, e6, e7, e8⟩ := EnAt.below E1.out hb1 hSw
                  go_simp
                simp only [List.setIfInBounds_toArray, List.set_cons_zero, List.set_cons_succ]
                refine take_d 43 60 (.slice (some ⟨b2, off', none⟩) n cap') _ rfl rfl (by kernel_rfl) (by kernel_rfl) (by kernel_rfl) (fun _ _ _ h => h) (Or.inl ⟨by rfl, fun w' hSw => ?_⟩) hHeld ?_
                · go_simp
                simp only [List.setIfInBounds_toArray, List.set_cons_zero, List.set_cons_succ]
                refine take_d 44 61 (.int .i64 (k : Int)) _ rfl rfl (by kernel_rfl) (by kernel_rfl) (by kernel_rfl) (fun _ _ _ h => h) (Or.inl ⟨by rfl, fun w' hSw => ?_⟩) hHeld ?_
                · go_simp
                simp only [List.setIfInBounds_toArray, List.set_cons_zero, List.set_cons_succ]
                refine take_d 45 62 (.pointer (some ⟨b2, off' + k * 9, none⟩)) _ rfl rfl (by kernel_rfl) (by kernel_rfl) (by kernel_rfl) (fun _ _ _ h => h) (Or.inl ⟨by rfl, fun w' hSw => ?_⟩) hHeld ?_
                · go_simp
                simp only [List.setIfInBounds_toArray, List.set_cons_zero, List.set_cons_succ]
                refine take_d 46 63 (.pointer (some ⟨b2, off' + k * 9 + 3, none⟩)) _ rfl rfl (by kernel_rfl) (by kernel_rfl) (by kernel_rfl) (fun _ _ _ h => h) (Or.inl ⟨by rfl, fun w' hSw => ?_⟩) hHeld ?_
                · go_simp
                simp only [List.setIfInBounds_toArray, List.set_cons_zero, List.set_cons_succ]
                refine take_d 47 64 (.agg #[.int .i64 q.d.de, .int .i64 q.d.cl, .int .i64 q.d.fu, .int .i64 q.d.st, .slice Bp q.d.put.length ep, .slice Bd q.d.drop.length ed]) _ rfl rfl (by kernel_rfl) (by kernel_rfl) (by kernel_rfl) (fun _ _ _ h => h) (Or.inl ⟨by rfl, fun w' hSw => ?_⟩) hHeld ?_
                · obtain ⟨e0, e1, e2, e3, e4, e5, e6, e7, e8⟩ := EnAt.below E2.out hb2 hSw
                  go_simp
                simp only [List.setIfInBounds_toArray, List.set_cons_zero, List.set_cons_succ]
                refine wpAnyH_ready (rs := [48]) (by kernel_rfl) (by simp) ?_
                refine AllReadyH.cons rfl (fun K hK => ?_) AllReadyH.nil
                go_simp
                refine (SD.out _ hHeld).mono ?_
                rintro e w6 ⟨rfl, hB6⟩
                have hS6 := Below.trans hHeld (hB6.mono hHeld.size)
                refine hK.out _ _ hS6 (fun hHeld => ?_)
                clear hK K hB6
                refine take_d 49 66 (.bool false) _ rfl rfl (by kernel_rfl) (by kernel_rfl) (by kernel_rfl) (fun _ _ _ h => h) (Or.inl ⟨by rfl, fun w' hSw => ?_⟩) hHeld ?_
                · go_simp
                simp only [List.setIfInBounds_toArray, List.set_cons_zero, List.set_cons_succ]
                refine take_d 50 67 (.bool false) _ rfl rfl (by kernel_rfl) (by kernel_rfl) (by kernel_rfl) (fun _ _ _ h => h) (Or.inl ⟨by rfl, fun w' hSw => ?_⟩) hHeld ?_
                · go_simp
                simp only [List.setIfInBounds_toArray, List.set_cons_zero, List.set_cons_succ]
                refine wpAnyH_done (by kernel_rfl) ?_ _
                go_wp2
                go_roundw
                case rel => exact ⟨k + 1, by omega, by go_num, Lib.hid (DONE.out HV.out HCl.out HRe.out (HC.out.1 (by simp))), hbel.trans (Below.mono hHeld hsz)⟩
                case measure => simp [intOf]; omega
            · have v2 : (r.re != q.re) = true := by simp [hre]
              have HRe := Lib.hid hre
              clear hre
              obtain ⟨e0, e1, e2, e3, e4, e5, e6, e7, e8⟩ := hE1
              obtain ⟨f0, f1, f2, f3, f4, f5, f6, f7, f8⟩ := hE2
              go_wp2
              go_quiet (fail)
              go_wp2
              go_ret
              exact ⟨false, rfl, ⟨fun h => Bool.noConfusion h, fun h => absurd h (NO.out (fun e => HRe.out (by rw [e])))⟩, Below.drewN' hbel _⟩
          · have v1 : (r.cl != q.cl) = true := by simp [hcl]
            have HRe := Lib.hid hcl
            clear hcl
            obtain ⟨e0, e1, e2, e3, e4, e5, e6, e7, e8⟩ := hE1
            obtain ⟨f0, f1, f2, f3, f4, f5, f6, f7, f8⟩ := hE2
            go_wp2
            go_quiet (fail)
            go_wp2
            go_ret
            exact ⟨false, rfl, ⟨fun h => Bool.noConfusion h, fun h => absurd h (NO.out (fun e => HRe.out (by rw [e])))⟩, Below.drewN' hbel _⟩
        · have v0 : (r.vi != q.vi) = true := by simp [hv]
          have HRe := Lib.hid hv
          clear hv
          obtain ⟨e0, e1, e2, e3, e4, e5, e6, e7, e8⟩ := hE1
          obtain ⟨f0, f1, f2, f3, f4, f5, f6, f7, f8⟩ := hE2
          go_wp2
          go_quiet (fail)
          go_wp2
          go_ret
          exact ⟨false, rfl, ⟨fun h => Bool.noConfusion h, fun h => absurd h (NO.out (fun e => HRe.out (by rw [e])))⟩, Below.drewN' hbel _⟩
      · obtain rfl : k = n := by omega
        have HE : Hid (la = lb) := Lib.hid (by
          have h := HH.out
          rwa [List.take_of_length_le (by rw [← HN.out]; omega), List.take_of_length_le (by rw [← HL.out, ← HN.out]; omega)] at h)
        go_wp2
        go_ret
        exact ⟨true, rfl, by simp [HE.out], hbel⟩
  · have pl : ((la.length : Int) != (lb.length : Int)) = true := by simp; omega
    have HH := Lib.hid hl
    clear hl
    go_enter Tryz.func39, Tryz.ntmps39
    go_wp2
    go_ret
    exact ⟨false, rfl, ⟨fun h => Bool.noConfusion h, fun h => absurd (congrArg List.length h) HH.out⟩, Below.refl _ _⟩
end Go.Proofs.YtefgobmpleoafaaGreat

/- Whether a message is the document's: colandermade.LikeMessage. -/
namespace Go.Proofs.YtefgobmpleoafaaGreat
open Go.RowKit
variable {w w' : World}

theorem smallE_len {e : En} (h : smallE e = true) : e.d.put.length ≤ 1000000 ∧ e.d.drop.length ≤ 1000000 := by
  simp only [smallE, Bool.and_eq_true, decide_eq_true_eq] at h
  omega
theorem smallL_iff {l : List En} : smallL l = true ↔ (∀ e ∈ l, smallE e = true) ∧ l.length ≤ 70 := by
  simp only [smallL, Bool.and_eq_true, decide_eq_true_eq, List.all_eq_true]
theorem ok_lens {l : List En} (h : ∀ e ∈ l, e.ok = true) : ∀ e ∈ l, e.d.put.length ≤ 1000000 ∧ e.d.drop.length ≤ 1000000 := fun e he => by
  obtain ⟨_, _, _, h4⟩ := En.ok_iff.1 (h e he)
  obtain ⟨_, h5, _, h7, _⟩ := Dl.okP_iff.1 h4
  omega
end Go.Proofs.YtefgobmpleoafaaGreat

