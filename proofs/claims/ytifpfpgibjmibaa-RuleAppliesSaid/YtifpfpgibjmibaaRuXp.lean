/- colanderref07: put. -/
import Derived.Test.YtifpfpgibjmibaaRuXf
import Derived.Test.YtifpfpgibjmibaaRuM2
import Derived.Test.YtifpfpgibjmibaaRuP
namespace Go.Proofs.Ytifpfpgibjmibaa
open Go.RowKit Go.Maps
variable {w w' : World}

theorem OwnU.lower {b b' : Nat} {e : TypeId} {v : Value} {l : List Ru} (h : OwnU w b e v l) (hb : b' ≤ b) : OwnU w b' e v l :=
  ⟨h.1, h.2.imp id fun ⟨g, cap, cur, hv, hg, rest⟩ => ⟨g, cap, cur, hv, Nat.le_trans hb hg, rest⟩⟩
def accP (r : Ru) (d : Bool) (l : List Ru) : List Ru := if d then ins r l else l

set_option maxRecDepth 100000 in
set_option maxHeartbeats 8000000 in
theorem xput_any (l : List Ru) (r : Ru) (v : Value) (w : World) (hmax : l.length ≤ 10000) (hR : Rise l) (hS : RulesV w.heap.size w v l) :
    Calls Try.prog 26 #[v, .agg #[.int .i64 r.id, .int .i64 r.pr, .int .i64 r.ac, .int .i64 r.sc, .string r.pat]] w
      fun e w' => ∃ V, e = .returned V ∧ OwnU w' w.heap.size 57 V (ins r l) ∧ Below w.heap.size w w' := by
  obtain ⟨A, cap, rfl⟩ := hS.form
  obtain ⟨i0, hi, hz0, hz1, hz2⟩ := info_three infoX
  obtain ⟨w0, hw0⟩ : ∃ w0, w0 = w.alloc (.cells #[.int .i64 r.id, .int .i64 r.pr, .int .i64 r.ac, .int .i64 r.sc, .string r.pat] 57) := ⟨_, rfl⟩
  have hb0 : Below w.heap.size w w0 := by rw [hw0]; exact (Below.refl _ _).alloc (Nat.le_refl _) _
  have hx : Blk w0 w.heap.size 57 #[.int .i64 r.id, .int .i64 r.pr, .int .i64 r.ac, .int .i64 r.sc, .string r.pat] := by rw [hw0]; exact Blk.new _ _ _
  have HS := Lib.hid hS
  have HB0 := Lib.hid hb0
  have HX0 := Lib.hid hx
  have hs0 : w0.heap.size = w.heap.size + 1 := by rw [hw0]; simp
  clear hS hb0 hx
  go_enter Try.func26, Try.ntmps26
  go_upto_region 4 with (fail)
  rw [← hw0]
  clear hw0
  go_loopw [5, 6, 7] (fun V d i wr => ∃ (k : Nat) (dn : Bool), k ≤ l.length ∧ i = .int .i64 k ∧ d = .bool dn ∧ Hid (OwnU wr w0.heap.size 57 V (accP r dn (l.take k))) ∧ Hid (dn = false → ∀ x ∈ l.take k, x.id < r.id) ∧ Hid (dn = true → ∀ x ∈ l.drop k, r.id < x.id) ∧ Hid (Below w0.heap.size w0 wr)) (fun _ _ i _ => l.length - (intOf i).toNat)
  case atStart => exact ⟨0, false, Nat.zero_le _, rfl, rfl, Lib.hid (OwnU.nil _ _ _), Lib.hid (by simp), Lib.hid (by simp), Lib.hid (Below.refl _ _)⟩
  case round =>
    obtain ⟨k, dn, hk, rfl, rfl, HV, HN, HD, HB⟩ := hrel
    by_cases hlt : k < l.length
    · have HW := Lib.hid (HB0.out.trans (HB.out.mono HB0.out.size))
      obtain ⟨g, off, hA, hgw, hra⟩ := HS.out.at_ hlt
      subst hA
      have hg := hgw
      have HLt := Lib.hid hlt
      have hix : k < l.length := hlt
      have hts : l.take (k + 1) = l.take k ++ [l[k]] := ru_take (List.getElem?_eq_getElem hlt)
      have hri : ∀ y ∈ l.drop (k + 1), (l[k]).id < y.id := by
        have h := hR.drop (i := k)
        rw [List.drop_eq_getElem_cons hlt] at h
        exact (List.pairwise_cons.1 h).1
      have hme : l[k] ∈ l.drop k := by rw [List.drop_eq_getElem_cons hlt]; exact List.mem_cons_self ..
      generalize l[k] = x at hra hts hri hme
      have HTs := Lib.hid hts
      have HRi := Lib.hid hri
      have HMe := Lib.hid hme
      have HTl : Hid ((l.take k).length ≤ k) := Lib.hid (by rw [List.length_take]; omega)
      clear hts hri hme
      have HRa := Lib.hid hra
      have hrw := hra.below hgw HW.out
      obtain ⟨c0, c1, c2, c3, c4⟩ := hrw
      clear hra
      have HX := Lib.hid (HX0.out.on HB.out)
      obtain ⟨x0, x1, x2, x3, x4⟩ := HX.out.c5
      have hlx := HX.out.lt
      have hg2 : g < wr.heap.size := by have := HB.out.size; omega
      cases dn with
      | false =>
        by_cases hge : x.id ≥ r.id
        · go_upto_region 6 with (fail)
          go_region
          clear c0 c1 c2 c3 c4 x0 x1 x2 x3 x4 hlx hg2
          have HVwd : Hid (OwnU wr.drew w0.heap.size 57 u5 (l.take k)) := HV
          have HXwd : Hid (Blk wr.drew w.heap.size 57 #[.int .i64 r.id, .int .i64 r.pr, .int .i64 r.ac, .int .i64 r.sc, .string r.pat]) := HX
          have HBwd : Hid (Below w0.heap.size w0 wr.drew) := Lib.hid HB.out.drew
          generalize wr.drew = wd at *
          have hra := HRa.out.below hgw (HB0.out.trans (HBwd.out.mono HB0.out.size))
          obtain ⟨q0, q1, q2, q3, q4⟩ := hra
          obtain ⟨x0, x1, x2, x3, x4⟩ := HXwd.out.c5
          have hlx := HXwd.out.lt
          have hgl : g < wd.heap.size := by have := HBwd.out.size; omega
          clear q0 q1 q2 q3 q4
          go_upto_region 9 with (first
            | (at_builtin
               refine wpList_append_rule _ rfl (.tmp 26) (.tmp 28) 33 rfl w0.heap.size 57 i0 (.agg #[.int .i64 0, .int .i64 0, .int .i64 0, .int .i64 0, .string ⟨#[]⟩]) 48 Try.underlying33 hi hz0 hz1 hz2 rfl u5 (l.take k) rfl (HVwd.out.alloc _) _ 1 r rfl (Blk.at_new _ _ rfl _ _) (by have := HLt.out; have := HTl.out; simp only [List.length_append, List.length_singleton, List.length_cons, List.length_nil] at *; omega) (by decide) (by have := HBwd.out.size; simp; omega) ?_
               intro Vw1 w1 hownw1 hgroww1
               have HVw1 := Lib.hid hownw1
               have HXw1 := Lib.hid ((HXwd.out.alloc (.cells #[.int .i64 r.id, .int .i64 r.pr, .int .i64 r.ac, .int .i64 r.sc, .string r.pat] 57)).grown hgroww1 (fun e => by have := (World.ownsRow.lt HVwd.out _ e.symm).1; omega))
               have HBw1 := Lib.hid ((HBwd.out.alloc HBwd.out.size (.cells #[.int .i64 r.id, .int .i64 r.pr, .int .i64 r.ac, .int .i64 r.sc, .string r.pat] 57)).grown hgroww1 (by have := HBwd.out.size; simp; omega) (fun j hj => (World.ownsRow.lt HVwd.out j hj).1))
               clear hownw1 hgroww1)
            | fail)
          clear x0 x1 x2 x3 x4 hlx hgl
          have hra := HRa.out.below hgw (HB0.out.trans (HBw1.out.mono HB0.out.size))
          obtain ⟨q0, q1, q2, q3, q4⟩ := hra
          obtain ⟨x0, x1, x2, x3, x4⟩ := HXw1.out.c5
          have hlx := HXw1.out.lt
          have hgl : g < w1.heap.size := by have := HBw1.out.size; omega
          by_cases heq : x.id = r.id
          · have hnb : (x.id != r.id) = false := by simp [heq]
            go_region
            have HVw2 : Hid (OwnU w1.drew w0.heap.size 57 Vw1 (l.take k ++ [r])) := HVw1
            have HXw2 : Hid (Blk w1.drew w.heap.size 57 #[.int .i64 r.id, .int .i64 r.pr, .int .i64 r.ac, .int .i64 r.sc, .string r.pat]) := HXw1
            have HBw2 : Hid (Below w0.heap.size w0 w1.drew) := Lib.hid HBw1.out.drew
            generalize w1.drew = w2 at *
            clear q0 q1 q2 q3 q4 x0 x1 x2 x3 x4 hlx hgl
            have hra := HRa.out.below hgw (HB0.out.trans (HBw2.out.mono HB0.out.size))
            obtain ⟨q0, q1, q2, q3, q4⟩ := hra
            obtain ⟨x0, x1, x2, x3, x4⟩ := HXw2.out.c5
            have hlx := HXw2.out.lt
            have hgl : g < w2.heap.size := by have := HBw2.out.size; omega
            have HV3 : Hid (OwnU w2 w0.heap.size 57 Vw1 (accP r true (l.take (k + 1)))) := Lib.hid (by
              show OwnU w2 w0.heap.size 57 Vw1 (ins r (l.take (k + 1)))
              rw [HTs.out, ins_same (HN.out rfl) heq]
              exact HVw2.out)
            have HD3 : Hid (true = true → ∀ y ∈ l.drop (k + 1), r.id < y.id) := Lib.hid (fun _ y hy => by have := HRi.out y hy; omega)
            clear q0 q1 q2 q3 q4 x0 x1 x2 x3 x4 hlx hgl
            go_wp2
            go_roundw
            case rel => exact ⟨k + 1, true, HLt.out, by go_num, rfl, HV3, Lib.hid (fun h => by cases h), HD3, HBw2⟩
            case measure => have := HLt.out; simp [intOf]; omega
          · have hnb : (x.id != r.id) = true := by simp [heq]
            go_region
            have HVw2 : Hid (OwnU w1.drew w0.heap.size 57 Vw1 (l.take k ++ [r])) := HVw1
            have HXw2 : Hid (Blk w1.drew w.heap.size 57 #[.int .i64 r.id, .int .i64 r.pr, .int .i64 r.ac, .int .i64 r.sc, .string r.pat]) := HXw1
            have HBw2 : Hid (Below w0.heap.size w0 w1.drew) := Lib.hid HBw1.out.drew
            generalize w1.drew = w2 at *
            clear q0 q1 q2 q3 q4 x0 x1 x2 x3 x4 hlx hgl
            have hra := HRa.out.below hgw (HB0.out.trans (HBw2.out.mono HB0.out.size))
            obtain ⟨q0, q1, q2, q3, q4⟩ := hra
            obtain ⟨x0, x1, x2, x3, x4⟩ := HXw2.out.c5
            have hlx := HXw2.out.lt
            have hgl : g < w2.heap.size := by have := HBw2.out.size; omega
            go_wp2_with (first
              | (at_builtin
                 refine wpList_append_rule _ rfl (.tmp 38) (.tmp 43) 33 rfl w0.heap.size 57 i0 (.agg #[.int .i64 0, .int .i64 0, .int .i64 0, .int .i64 0, .string ⟨#[]⟩]) 48 Try.underlying33 hi hz0 hz1 hz2 rfl Vw1 (l.take k ++ [r]) rfl (HVw2.out.alloc _) _ 1 x rfl (Blk.at_new _ _ rfl _ _) (by have := HLt.out; have := HTl.out; simp only [List.length_append, List.length_singleton, List.length_cons, List.length_nil] at *; omega) (by decide) (by have := HBw2.out.size; simp; omega) ?_
                 intro Vw3 w3 hownw3 hgroww3
                 have HVw3 := Lib.hid hownw3
                 have HXw3 := Lib.hid ((HXw2.out.alloc (.cells #[.int .i64 x.id, .int .i64 x.pr, .int .i64 x.ac, .int .i64 x.sc, .string x.pat] 57)).grown hgroww3 (fun e => by have := (World.ownsRow.lt HVw2.out _ e.symm).1; omega))
                 have HBw3 := Lib.hid ((HBw2.out.alloc HBw2.out.size (.cells #[.int .i64 x.id, .int .i64 x.pr, .int .i64 x.ac, .int .i64 x.sc, .string x.pat] 57)).grown hgroww3 (by have := HBw2.out.size; simp; omega) (fun j hj => (World.ownsRow.lt HVw2.out j hj).1))
                 clear hownw3 hgroww3)
              | go_in)
            have HV3 : Hid (OwnU w3 w0.heap.size 57 Vw3 (accP r true (l.take (k + 1)))) := Lib.hid (by
              show OwnU w3 w0.heap.size 57 Vw3 (ins r (l.take (k + 1)))
              rw [HTs.out, ins_above (show r.id < x.id by omega), ins_end (HN.out rfl)]
              exact HVw3.out)
            have HD3 : Hid (true = true → ∀ y ∈ l.drop (k + 1), r.id < y.id) := Lib.hid (fun _ y hy => by have := HRi.out y hy; omega)
            clear q0 q1 q2 q3 q4 x0 x1 x2 x3 x4 hlx hgl
            go_roundw
            case rel => exact ⟨k + 1, true, HLt.out, by go_num, rfl, HV3, Lib.hid (fun h => by cases h), HD3, HBw3⟩
            case measure => have := HLt.out; simp [intOf]; omega
        · have hgb : decide (x.id ≥ r.id) = false := by simp; omega
          go_upto_region 6 with (fail)
          go_region
          clear c0 c1 c2 c3 c4 x0 x1 x2 x3 x4 hlx hg2
          have HVwd : Hid (OwnU wr.drew w0.heap.size 57 u5 (l.take k)) := HV
          have HXwd : Hid (Blk wr.drew w.heap.size 57 #[.int .i64 r.id, .int .i64 r.pr, .int .i64 r.ac, .int .i64 r.sc, .string r.pat]) := HX
          have HBwd : Hid (Below w0.heap.size w0 wr.drew) := Lib.hid HB.out.drew
          generalize wr.drew = wd at *
          have hra := HRa.out.below hgw (HB0.out.trans (HBwd.out.mono HB0.out.size))
          obtain ⟨q0, q1, q2, q3, q4⟩ := hra
          obtain ⟨x0, x1, x2, x3, x4⟩ := HXwd.out.c5
          have hlx := HXwd.out.lt
          have hgl : g < wd.heap.size := by have := HBwd.out.size; omega
          have hnb : (x.id != r.id) = true := by simp; omega
          go_upto_region 9 with (fail)
          go_region
          have HVw2 : Hid (OwnU wd.drew w0.heap.size 57 u5 (l.take k)) := HVwd
          have HXw2 : Hid (Blk wd.drew w.heap.size 57 #[.int .i64 r.id, .int .i64 r.pr, .int .i64 r.ac, .int .i64 r.sc, .string r.pat]) := HXwd
          have HBw2 : Hid (Below w0.heap.size w0 wd.drew) := Lib.hid HBwd.out.drew
          generalize wd.drew = w2 at *
          clear q0 q1 q2 q3 q4 x0 x1 x2 x3 x4 hlx hgl
          have hra := HRa.out.below hgw (HB0.out.trans (HBw2.out.mono HB0.out.size))
          obtain ⟨q0, q1, q2, q3, q4⟩ := hra
          obtain ⟨x0, x1, x2, x3, x4⟩ := HXw2.out.c5
          have hlx := HXw2.out.lt
          have hgl : g < w2.heap.size := by have := HBw2.out.size; omega
          go_wp2_with (first
            | (at_builtin
               refine wpList_append_rule _ rfl (.tmp 38) (.tmp 43) 33 rfl w0.heap.size 57 i0 (.agg #[.int .i64 0, .int .i64 0, .int .i64 0, .int .i64 0, .string ⟨#[]⟩]) 48 Try.underlying33 hi hz0 hz1 hz2 rfl u5 (l.take k) rfl (HVw2.out.alloc _) _ 1 x rfl (Blk.at_new _ _ rfl _ _) (by have := HLt.out; have := HTl.out; simp only [List.length_append, List.length_singleton, List.length_cons, List.length_nil] at *; omega) (by decide) (by have := HBw2.out.size; simp; omega) ?_
               intro Vw3 w3 hownw3 hgroww3
               have HVw3 := Lib.hid hownw3
               have HXw3 := Lib.hid ((HXw2.out.alloc (.cells #[.int .i64 x.id, .int .i64 x.pr, .int .i64 x.ac, .int .i64 x.sc, .string x.pat] 57)).grown hgroww3 (fun e => by have := (World.ownsRow.lt HVw2.out _ e.symm).1; omega))
               have HBw3 := Lib.hid ((HBw2.out.alloc HBw2.out.size (.cells #[.int .i64 x.id, .int .i64 x.pr, .int .i64 x.ac, .int .i64 x.sc, .string x.pat] 57)).grown hgroww3 (by have := HBw2.out.size; simp; omega) (fun j hj => (World.ownsRow.lt HVw2.out j hj).1))
               clear hownw3 hgroww3)
            | go_in)
          have HV3 : Hid (OwnU w3 w0.heap.size 57 Vw3 (accP r false (l.take (k + 1)))) := Lib.hid (by
            show OwnU w3 w0.heap.size 57 Vw3 (l.take (k + 1))
            rw [HTs.out]
            exact HVw3.out)
          have HN3 : Hid (false = false → ∀ y ∈ l.take (k + 1), y.id < r.id) := Lib.hid (fun _ y hy => by
            rw [HTs.out] at hy
            rcases List.mem_append.1 hy with hy | hy
            · exact HN.out rfl y hy
            · rw [List.mem_singleton.1 hy]; omega)
          clear q0 q1 q2 q3 q4 x0 x1 x2 x3 x4 hlx hgl
          go_roundw
          case rel => exact ⟨k + 1, false, HLt.out, by go_num, rfl, HV3, HN3, Lib.hid (fun h => by cases h), HBw3⟩
          case measure => have := HLt.out; simp [intOf]; omega
      | true =>
        have hgt := HD.out rfl x HMe.out
        go_upto_region 6 with (fail)
        go_region
        clear c0 c1 c2 c3 c4 x0 x1 x2 x3 x4 hlx hg2
        have HVwd : Hid (OwnU wr.drew w0.heap.size 57 u5 (ins r (l.take k))) := HV
        have HXwd : Hid (Blk wr.drew w.heap.size 57 #[.int .i64 r.id, .int .i64 r.pr, .int .i64 r.ac, .int .i64 r.sc, .string r.pat]) := HX
        have HBwd : Hid (Below w0.heap.size w0 wr.drew) := Lib.hid HB.out.drew
        generalize wr.drew = wd at *
        have hra := HRa.out.below hgw (HB0.out.trans (HBwd.out.mono HB0.out.size))
        obtain ⟨q0, q1, q2, q3, q4⟩ := hra
        obtain ⟨x0, x1, x2, x3, x4⟩ := HXwd.out.c5
        have hlx := HXwd.out.lt
        have hgl : g < wd.heap.size := by have := HBwd.out.size; omega
        have hnb : (x.id != r.id) = true := by simp; omega
        go_upto_region 9 with (fail)
        go_region
        have HVw2 : Hid (OwnU wd.drew w0.heap.size 57 u5 (ins r (l.take k))) := HVwd
        have HXw2 : Hid (Blk wd.drew w.heap.size 57 #[.int .i64 r.id, .int .i64 r.pr, .int .i64 r.ac, .int .i64 r.sc, .string r.pat]) := HXwd
        have HBw2 : Hid (Below w0.heap.size w0 wd.drew) := Lib.hid HBwd.out.drew
        generalize wd.drew = w2 at *
        clear q0 q1 q2 q3 q4 x0 x1 x2 x3 x4 hlx hgl
        have hra := HRa.out.below hgw (HB0.out.trans (HBw2.out.mono HB0.out.size))
        obtain ⟨q0, q1, q2, q3, q4⟩ := hra
        obtain ⟨x0, x1, x2, x3, x4⟩ := HXw2.out.c5
        have hlx := HXw2.out.lt
        have hgl : g < w2.heap.size := by have := HBw2.out.size; omega
        go_wp2_with (first
          | (at_builtin
             refine wpList_append_rule _ rfl (.tmp 38) (.tmp 43) 33 rfl w0.heap.size 57 i0 (.agg #[.int .i64 0, .int .i64 0, .int .i64 0, .int .i64 0, .string ⟨#[]⟩]) 48 Try.underlying33 hi hz0 hz1 hz2 rfl u5 (ins r (l.take k)) rfl (HVw2.out.alloc _) _ 1 x rfl (Blk.at_new _ _ rfl _ _) (by have := HLt.out; have := ins_len r (l.take k); simp only [List.length_take] at *; omega) (by decide) (by have := HBw2.out.size; simp; omega) ?_
             intro Vw3 w3 hownw3 hgroww3
             have HVw3 := Lib.hid hownw3
             have HXw3 := Lib.hid ((HXw2.out.alloc (.cells #[.int .i64 x.id, .int .i64 x.pr, .int .i64 x.ac, .int .i64 x.sc, .string x.pat] 57)).grown hgroww3 (fun e => by have := (World.ownsRow.lt HVw2.out _ e.symm).1; omega))
             have HBw3 := Lib.hid ((HBw2.out.alloc HBw2.out.size (.cells #[.int .i64 x.id, .int .i64 x.pr, .int .i64 x.ac, .int .i64 x.sc, .string x.pat] 57)).grown hgroww3 (by have := HBw2.out.size; simp; omega) (fun j hj => (World.ownsRow.lt HVw2.out j hj).1))
             clear hownw3 hgroww3)
          | go_in)
        have HV3 : Hid (OwnU w3 w0.heap.size 57 Vw3 (accP r true (l.take (k + 1)))) := Lib.hid (by
          show OwnU w3 w0.heap.size 57 Vw3 (ins r (l.take (k + 1)))
          rw [HTs.out, ins_above hgt]
          exact HVw3.out)
        have HD3 : Hid (true = true → ∀ y ∈ l.drop (k + 1), r.id < y.id) := Lib.hid (fun _ y hy => by have := HRi.out y hy; omega)
        clear q0 q1 q2 q3 q4 x0 x1 x2 x3 x4 hlx hgl
        go_roundw
        case rel => exact ⟨k + 1, true, HLt.out, by go_num, rfl, HV3, Lib.hid (fun h => by cases h), HD3, HBw3⟩
        case measure => have := HLt.out; simp [intOf]; omega
    · obtain rfl : k = l.length := by omega
      rw [List.take_length] at HV HN
      have HX := Lib.hid (HX0.out.on HB.out)
      obtain ⟨x0, x1, x2, x3, x4⟩ := HX.out.c5
      have hlx := HX.out.lt
      cases dn with
      | true =>
        go_wp2
        go_ret
        exact ⟨_, rfl, OwnU.lower (show OwnU wr w0.heap.size 57 u5 (ins r l) from HV.out) (by omega), HB0.out.trans (HB.out.mono HB0.out.size)⟩
      | false =>
        have HV0 : Hid (OwnU wr w0.heap.size 57 u5 l) := HV
        have HIe : Hid (ins r l = l ++ [r]) := Lib.hid (ins_end (HN.out rfl))
        go_wp2_with (first
          | (at_builtin
             refine wpList_append_rule _ rfl (.tmp 47) (.tmp 49) 33 rfl w0.heap.size 57 i0 (.agg #[.int .i64 0, .int .i64 0, .int .i64 0, .int .i64 0, .string ⟨#[]⟩]) 48 Try.underlying33 hi hz0 hz1 hz2 rfl u5 (l) rfl (HV0.out.alloc _) _ 1 r rfl (Blk.at_new _ _ rfl _ _) (by omega) (by decide) (by have := HB.out.size; simp; omega) ?_
             intro Vw3 w3 hownw3 hgroww3
             have HVw3 := Lib.hid hownw3
             have HXw3 := Lib.hid ((HX.out.alloc (.cells #[.int .i64 r.id, .int .i64 r.pr, .int .i64 r.ac, .int .i64 r.sc, .string r.pat] 57)).grown hgroww3 (fun e => by have := (World.ownsRow.lt HV0.out _ e.symm).1; omega))
             have HBw3 := Lib.hid ((HB.out.alloc HB.out.size (.cells #[.int .i64 r.id, .int .i64 r.pr, .int .i64 r.ac, .int .i64 r.sc, .string r.pat] 57)).grown hgroww3 (by have := HB.out.size; simp; omega) (fun j hj => (World.ownsRow.lt HV0.out j hj).1))
             clear hownw3 hgroww3)
          | go_in)
        go_ret
        exact ⟨_, rfl, OwnU.lower (show OwnU w3 w0.heap.size 57 Vw3 (ins r l) by rw [HIe.out]; exact HVw3.out) (by omega), HB0.out.trans (HBw3.out.mono HB0.out.size)⟩

end Go.Proofs.Ytifpfpgibjmibaa
