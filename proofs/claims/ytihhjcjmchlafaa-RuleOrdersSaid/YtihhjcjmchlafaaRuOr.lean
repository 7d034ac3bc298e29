/- Package rule: Set.Order. -/
import Derived.Test.YtihhjcjmchlafaaRuOi
import Derived.Test.YtihhjcjmchlafaaRuOs
namespace Go.Proofs.Ytihhjcjmchlafaa
open Go.RowKit Go.Maps
variable {w w' : World}

set_option maxRecDepth 100000 in
set_option maxHeartbeats 4000000 in
theorem order_any (s : RS) (v : Value) (scope : Int) (w : World) (hmax : s.rs.length ≤ 1000) (hS : RulesV w.heap.size w v s.rs) :
    Calls Try.prog 17 #[.agg #[.int .i64 s.de, .int .i64 s.cl, .int .i64 s.fu, .int .i64 s.st, v], .int .i64 scope] w
      fun e w' => ∃ V, e = .returned V ∧ Row w'.heap.size w' V (zI (if s.Ok then ordR s.rs (hsB scope) 1001 else [])) ∧ Below w.heap.size w w' := by
  obtain ⟨A, cap, rfl⟩ := hS.form
  obtain ⟨i0, hi, hz0, hz1, hz2⟩ := info_three infoInt
  have hb0 : Below w.heap.size w (w.alloc (.cells #[.int .i64 s.de, .int .i64 s.cl, .int .i64 s.fu, .int .i64 s.st, .slice A s.rs.length cap] 24)) := (Below.refl _ _).alloc (Nat.le_refl _) _
  have hx0 : Blk (w.alloc (.cells #[.int .i64 s.de, .int .i64 s.cl, .int .i64 s.fu, .int .i64 s.st, .slice A s.rs.length cap] 24)) w.heap.size 24 #[.int .i64 s.de, .int .i64 s.cl, .int .i64 s.fu, .int .i64 s.st, .slice A s.rs.length cap] := Blk.new _ _ _
  have HS := Lib.hid (hS.on hb0)
  have HB0 := Lib.hid hb0
  have HX0 := Lib.hid hx0
  clear hS hb0 hx0
  obtain ⟨res, hres⟩ : ∃ res, res = (if s.Ok then ordR s.rs (hsB scope) 1001 else []) := ⟨_, rfl⟩
  rw [← hres]
  have HRes := Lib.hid hres
  clear hres
  go_enter Try.func17, Try.ntmps17
  go_wp2_with fail
  generalize w.alloc (.cells #[.int .i64 s.de, .int .i64 s.cl, .int .i64 s.fu, .int .i64 s.st, .slice A s.rs.length cap] 24) = w0 at *
  refine (setRight_any s _ w0 (by omega) HS.out).mono ?_
  rintro e w1 ⟨rfl, hb1⟩
  have HB1 := Lib.hid (HB0.out.trans (hb1.mono HB0.out.size))
  have HS1 := Lib.hid (HS.out.on hb1)
  have HX1 := Lib.hid (HX0.out.on hb1)
  clear hb1 HS HB0 HX0
  by_cases h1 : s.Ok
  · rw [decide_eq_true h1]
    have H1 := Lib.hid h1
    have HRo : Hid (res = ordR s.rs (hsB scope) 1001) := Lib.hid (by rw [HRes.out, if_pos h1])
    clear h1
    have x4 := HX1.out.cell 4
    have hlx := HX1.out.lt
    go_wp2
    clear x4 hlx
    go_loopw [14, 5] (fun i o wr => ∃ k : Nat, k ≤ s.rs.length ∧ i = .int .i64 k ∧ Hid (OwnI wr w1.heap.size o (picked s.rs (hsB scope) k)) ∧ Hid (Below w1.heap.size w1 wr)) (fun i _ _ => s.rs.length - (intOf i).toNat)
    case atStart => exact ⟨0, Nat.zero_le _, rfl, Lib.hid (OwnI.nil _ _), Lib.hid (Below.refl _ _)⟩
    case round =>
      obtain ⟨k, hk, rfl, HO, HB⟩ := hrel
      obtain ⟨OA, OC, rfl⟩ := HO.out.form
      have hpl := picked_len (l := s.rs) (hs := hsB scope) (n := k)
      have HPl := Lib.hid hpl
      by_cases hlt : k < s.rs.length
      · obtain ⟨b, off, rfl, hb, c0, c1, c2, c3, c4⟩ := (HS1.out.below HB.out).at_ hlt
        have HG := Lib.hid (List.getElem?_eq_getElem hlt)
        generalize s.rs[k] = r at HG c0 c1 c2 c3 c4
        have HLt := Lib.hid hlt
        have HHs : Hid (hasAt s.rs (hsB scope) k = (bits BinOp.and IntKind.i64 r.sc scope != 0)) := Lib.hid (by unfold hasAt; rw [HG.out]; rfl)
        have HBk : Hid (Below w1.heap.size w1 (wr.alloc (.cells #[.int .i64 r.id, .int .i64 r.pr, .int .i64 r.ac, .int .i64 r.sc, .string r.pat] 44))) := Lib.hid (HB.out.alloc HB.out.size _)
        have HOk : Hid (OwnI (wr.alloc (.cells #[.int .i64 r.id, .int .i64 r.pr, .int .i64 r.ac, .int .i64 r.sc, .string r.pat] 44)) w1.heap.size (.slice OA (picked s.rs (hsB scope) k).length OC) (picked s.rs (hsB scope) k)) := Lib.hid (HO.out.alloc _)
        clear hlt
        cases hq' : (bits BinOp.and IntKind.i64 r.sc scope != 0)
        · have HE : Hid (picked s.rs (hsB scope) (k + 1) = picked s.rs (hsB scope) k) := Lib.hid (by rw [picked_succ, HHs.out, hq']; simp)
          go_wp2
          go_roundw
          case rel => exact ⟨k + 1, HLt.out, by go_num, Lib.hid (by rw [HE.out]; exact HOk.out), HBk⟩
          case measure => have := HLt.out; simp [intOf]; omega
        · have HE : Hid (picked s.rs (hsB scope) (k + 1) = picked s.rs (hsB scope) k ++ [(k : Int)]) := Lib.hid (by rw [picked_succ, HHs.out, hq']; simp)
          have HBs := HB1.out.size
          go_wp2_with (first
            | (at_builtin
               refine wpList_append_row _ rfl (.tmp 24) (.tmp 26) 25 rfl w1.heap.size 3 i0 (.int .i64 0) 8 Try.underlying25 hi hz0 hz1 hz2 rfl (.slice OA (picked s.rs (hsB scope) k).length OC) (picked s.rs (hsB scope) k).length (zI (picked s.rs (hsB scope) k)) rfl (World.ownsRow.alloc HOk.out _) (wr.heap.size + 1 + 1) (.slice (some ⟨wr.heap.size + 1, 0, none⟩) 1 1) [.int .i64 (k : Int)] rfl (by simpa using Row.lit (wr.alloc (.cells #[.int .i64 r.id, .int .i64 r.pr, .int .i64 r.ac, .int .i64 r.sc, .string r.pat] 44)) #[.int .i64 (k : Int)] 3 (0, 0)) (by simp [Value.oneCell']) (by have := HPl.out; simp only [List.length_cons, List.length_nil, maxLen]; omega) (by have := HPl.out; simp only [List.length_cons, List.length_nil]; omega) (by have := HBk.out.size; simp at this ⊢; omega) ?_
               intro v2 w2 h1 h2)
            | go_in)
          go_roundw
          case rel => exact ⟨k + 1, HLt.out, by go_num, Lib.hid (by
            rw [HE.out]
            unfold OwnI
            simpa [zI, Nat.add_assoc] using h1), Lib.hid ((HBk.out.alloc (by have := HB.out.size; simp; omega) _).grown h2 (by have := HB.out.size; simp; omega) (fun k hk => by have := (World.ownsRow.lt HO.out k hk).1; omega))⟩
          case measure => have := HLt.out; simp [intOf]; omega
      · obtain rfl : k = s.rs.length := by omega
        have HSo := Lib.hid (sortStable_any s.rs (hsB scope) (fun r hr => by have := H1.out.2.2.1 r hr; simp only [Ru.ok, decide_eq_true_eq] at this; omega) w1.heap.size _ wr (.int .i64 s.de) (.int .i64 s.cl) (.int .i64 s.fu) (.int .i64 s.st) A cap (by have := H1.out.2.1; omega) HX1.out.lt (HX1.out.on HB.out) (HS1.out.below HB.out) HO.out HB.out.size)
        go_wp2_with fail
        refine HSo.out.mono ?_
        rintro e w3 ⟨rfl, hr3, hb3⟩
        have HR3 := Lib.hid hr3
        have HB3 := Lib.hid hb3
        clear hr3 hb3
        go_wp2
        go_ret
        exact ⟨_, rfl, by rw [HRo.out]; exact HR3.out, HB1.out.trans ((HB.out.trans HB3.out).mono HB1.out.size)⟩
  · rw [decide_eq_false h1]
    have HRo : Hid (res = []) := Lib.hid (by rw [HRes.out, if_neg h1])
    clear h1
    go_wp2
    go_ret
    exact ⟨_, rfl, by rw [HRo.out]; exact ⟨none, 0, rfl, Nat.le_refl _, fun h => absurd rfl h⟩, HB1.out⟩

end Go.Proofs.Ytihhjcjmchlafaa
