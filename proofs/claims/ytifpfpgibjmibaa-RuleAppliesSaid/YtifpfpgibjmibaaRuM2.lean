/- colandermade.Set. -/
import Derived.Test.YtifpfpgibjmibaaRuE
import Derived.Test.YtifpfpgibjmibaaRuI
namespace Go.Proofs.Ytifpfpgibjmibaa
open Go.RowKit Go.Maps
variable {w w' : World}

theorem infoX : (Try.prog.info? 57).map (fun i => (i.zero, i.size, i.bytes)) = some (some (.agg #[.int .i64 0, .int .i64 0, .int .i64 0, .int .i64 0, .string ⟨#[]⟩]), 5, 48) := by kernel_rfl
theorem OwnU.farset {base : Nat} {e : TypeId} {V : Value} {l : List Ru} (h : OwnU w base e V l) {a : Addr} (ha : V.ownBlock ≠ some a.block) (u : Value) : OwnU (w.setCell a u) base e V l := ownsRow_setCell_other h ha u
theorem OwnU.form {base : Nat} {e : TypeId} {V : Value} {l : List Ru} (h : OwnU w base e V l) : ∃ A c, V = .slice A l.length c := by
  obtain ⟨A, c, hv, _⟩ := h.set
  exact ⟨A, c, hv⟩

set_option maxRecDepth 100000 in
set_option maxHeartbeats 4000000 in
theorem madeSet_any (s : RS) (v : Value) (w : World) (hmax : s.rs.length ≤ 1000) (hS : RulesV w.heap.size w v s.rs) :
    Calls Try.prog 8 #[.agg #[.int .i64 s.de, .int .i64 s.cl, .int .i64 s.fu, .int .i64 s.st, v]] w
      fun e w' => ∃ V, e = .returned (.agg #[.int .i64 s.de, .int .i64 s.cl, .int .i64 s.fu, .int .i64 s.st, V]) ∧ OwnU w' w.heap.size 57 V s.rs ∧ Below w.heap.size w w' := by
  obtain ⟨A, cap, rfl⟩ := hS.form
  obtain ⟨i0, hi, hz0, hz1, hz2⟩ := info_three infoX
  have HS := Lib.hid hS
  clear hS
  go_enter Try.func8, Try.ntmps8
  go_wp2_with fail
  go_upto_region 3 with (fail)
  have hb0 : Below w.heap.size w (((w.alloc (.cells #[.int .i64 s.de, .int .i64 s.cl, .int .i64 s.fu, .int .i64 s.st, .slice A s.rs.length cap] 24)).alloc (.cells #[.int .i64 0, .int .i64 0, .int .i64 0, .int .i64 0, .slice none 0 0] 35)).alloc (.cells #[.int .i64 s.de, .int .i64 s.cl, .int .i64 s.fu, .int .i64 s.st, .slice none 0 0] 35)) := (((Below.refl _ _).alloc (Nat.le_refl _) _).alloc (by simp) _).alloc (by simp; omega) _
  have hz : Blk (((w.alloc (.cells #[.int .i64 s.de, .int .i64 s.cl, .int .i64 s.fu, .int .i64 s.st, .slice A s.rs.length cap] 24)).alloc (.cells #[.int .i64 0, .int .i64 0, .int .i64 0, .int .i64 0, .slice none 0 0] 35)).alloc (.cells #[.int .i64 s.de, .int .i64 s.cl, .int .i64 s.fu, .int .i64 s.st, .slice none 0 0] 35)) (w.heap.size + 1) 35 #[.int .i64 0, .int .i64 0, .int .i64 0, .int .i64 0, .slice none 0 0] := (Blk.at_new _ _ (by simp) _ _).alloc _
  have hx : Blk (((w.alloc (.cells #[.int .i64 s.de, .int .i64 s.cl, .int .i64 s.fu, .int .i64 s.st, .slice A s.rs.length cap] 24)).alloc (.cells #[.int .i64 0, .int .i64 0, .int .i64 0, .int .i64 0, .slice none 0 0] 35)).alloc (.cells #[.int .i64 s.de, .int .i64 s.cl, .int .i64 s.fu, .int .i64 s.st, .slice none 0 0] 35)) (w.heap.size + 2) 35 #[.int .i64 s.de, .int .i64 s.cl, .int .i64 s.fu, .int .i64 s.st, .slice none 0 0] := Blk.at_new _ _ (by simp) _ _
  generalize ((w.alloc (.cells #[.int .i64 s.de, .int .i64 s.cl, .int .i64 s.fu, .int .i64 s.st, .slice A s.rs.length cap] 24)).alloc (.cells #[.int .i64 0, .int .i64 0, .int .i64 0, .int .i64 0, .slice none 0 0] 35)).alloc (.cells #[.int .i64 s.de, .int .i64 s.cl, .int .i64 s.fu, .int .i64 s.st, .slice none 0 0] 35) = w0 at *
  have HB0 := Lib.hid hb0
  have HZ0 := Lib.hid hz
  have HX0 := Lib.hid hx
  clear hb0 hz hx
  go_loopw [18] (fun i wr => ∃ (k : Nat) (V : Value), k ≤ s.rs.length ∧ i = .int .i64 k ∧ Hid (Blk wr (w.heap.size + 2) 35 #[.int .i64 s.de, .int .i64 s.cl, .int .i64 s.fu, .int .i64 s.st, V]) ∧ Hid (Blk wr (w.heap.size + 1) 35 #[.int .i64 0, .int .i64 0, .int .i64 0, .int .i64 0, .slice none 0 0]) ∧ Hid (OwnU wr w.heap.size 57 V (s.rs.take k)) ∧ Hid (Below w.heap.size w wr)) (fun i _ => s.rs.length - (intOf i).toNat)
  case atStart => exact ⟨0, _, Nat.zero_le _, rfl, HX0, HZ0, Lib.hid (OwnU.nil _ _ _), HB0⟩
  case round =>
    obtain ⟨k, V, hk, rfl, HX, HZ, HO, HB⟩ := hrel
    by_cases hlt : k < s.rs.length
    · obtain ⟨b, off, rfl, hb, c0, c1, c2, c3, c4⟩ := (HS.out.below HB.out).at_ hlt
      have HG := Lib.hid (List.getElem?_eq_getElem hlt)
      generalize s.rs[k] = r at HG c0 c1 c2 c3 c4
      have HLt := Lib.hid hlt
      have HLen : Hid ((s.rs.take k ++ [r]).length = k + 1) := Lib.hid (by simp; omega)
      have d4 := HX.out.cell 4
      have hlx := HX.out.lt
      have hne := own_ne HO.out HX.out (by decide)
      have HNe := Lib.hid hne
      clear hne hlt
      go_wp2_with (first
        | (at_builtin
           refine wpList_append_rule _ rfl (.tmp 23) (.tmp 25) 33 rfl w.heap.size 57 i0 (.agg #[.int .i64 0, .int .i64 0, .int .i64 0, .int .i64 0, .string ⟨#[]⟩]) 48 Try.underlying33 hi hz0 hz1 hz2 rfl V (s.rs.take k) rfl ((HO.out.alloc _).alloc _) _ 1 r rfl (Blk.at_new _ _ (by simp) _ _) (by simp; omega) (by decide) (by have := HB.out.size; simp; omega) ?_
           intro V' w1 hown' hgrow'
           obtain ⟨VA, VC, hV⟩ := hown'.form
           rw [HLen.out] at hV
           subst hV
           have hX1 := ((HX.out.alloc (.cells #[.int .i64 r.id, .int .i64 r.pr, .int .i64 r.ac, .int .i64 r.sc, .string r.pat] 44)).alloc (.cells #[.int .i64 r.id, .int .i64 r.pr, .int .i64 r.ac, .int .i64 r.sc, .string r.pat] 57)).grown hgrow' (fun e => HNe.out e.symm)
           have g4 := hX1.frozen 4
           have e4 := hX1.cell 4
           have hl1 := hX1.lt)
        | go_in)
      have hne1 := own_ne hown' hX1 (by decide)
      have hX2 : Blk (w1.setCell ⟨w.heap.size + 2, 4, none⟩ (.slice VA (k + 1) VC)) (w.heap.size + 2) 35 #[.int .i64 s.de, .int .i64 s.cl, .int .i64 s.fu, .int .i64 s.st, .slice VA (k + 1) VC] := hX1.set_ 4 _
      have hO2 : OwnU (w1.setCell ⟨w.heap.size + 2, 4, none⟩ (.slice VA (k + 1) VC)) w.heap.size 57 (.slice VA (k + 1) VC) (s.rs.take (k + 1)) := by
        rw [ru_take HG.out]
        exact hown'.farset hne1 _
      have hB1 : Below w.heap.size w w1 := ((HB.out.alloc HB.out.size _).alloc (by have := HB.out.size; simp; omega) _).grown hgrow' (by have := HB.out.size; simp; omega) (fun j hj => (World.ownsRow.lt HO.out j hj).1)
      have hZ1 : Blk w1 (w.heap.size + 1) 35 #[.int .i64 0, .int .i64 0, .int .i64 0, .int .i64 0, .slice none 0 0] := ((HZ.out.alloc _).alloc _).grown hgrow' (fun e => by
        have := own_ne HO.out HZ.out (by decide)
        exact this e.symm)
      have HX2 := Lib.hid hX2
      have HO2 := Lib.hid hO2
      have HB2 := Lib.hid (hB1.setCell (p := ⟨w.heap.size + 2, 4, none⟩) (show w.heap.size ≤ w.heap.size + 2 by omega) (.slice VA (k + 1) VC))
      have HZ2 := Lib.hid (hZ1.far (p := ⟨w.heap.size + 2, 4, none⟩) (show w.heap.size + 1 ≠ w.heap.size + 2 by omega) (.slice VA (k + 1) VC))
      clear hne1 hX2 hO2 hB1 hZ1 hX1 hown' hgrow' g4 e4
      go_roundw
      case rel => exact ⟨k + 1, _, HLt.out, by go_num, HX2, HZ2, HO2, HB2⟩
      case measure => have := HLt.out; simp [intOf]; omega
    · obtain rfl : k = s.rs.length := by omega
      have hO := HO.out
      rw [List.take_length] at hO
      obtain ⟨VA, VC, rfl⟩ := hO.form
      obtain ⟨z0, z1, z2, z3, z4⟩ := HZ.out.c5
      obtain ⟨f0, f1, f2, f3, f4⟩ := HZ.out.f5
      obtain ⟨x0, x1, x2, x3, x4⟩ := HX.out.c5
      have hlr := HZ.out.lt
      have hlx := HX.out.lt
      have HOf := Lib.hid hO
      have hne := own_ne hO HZ.out (by decide)
      have HNe := Lib.hid hne
      clear hO hne
      go_wp2
      refine bodyPost_ret (v := .agg #[.int .i64 s.de, .int .i64 s.cl, .int .i64 s.fu, .int .i64 s.st, .slice VA s.rs.length VC]) (by simp [results, Try.results8, go_sem, *]) rfl ⟨_, rfl, ?_, ?_⟩
      · exact ((((HOf.out.farset HNe.out _).farset HNe.out _).farset HNe.out _).farset HNe.out _).farset HNe.out _
      · refine Below.setCell ?_ (show w.heap.size ≤ w.heap.size + 1 by omega) _
        refine Below.setCell ?_ (show w.heap.size ≤ w.heap.size + 1 by omega) _
        refine Below.setCell ?_ (show w.heap.size ≤ w.heap.size + 1 by omega) _
        refine Below.setCell ?_ (show w.heap.size ≤ w.heap.size + 1 by omega) _
        refine Below.setCell ?_ (show w.heap.size ≤ w.heap.size + 1 by omega) _
        exact HB.out

end Go.Proofs.Ytifpfpgibjmibaa
