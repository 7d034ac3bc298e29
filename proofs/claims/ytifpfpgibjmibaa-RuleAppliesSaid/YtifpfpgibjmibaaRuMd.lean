/- colandermade.Delta. -/
import Derived.Test.YtifpfpgibjmibaaRuM2
namespace Go.Proofs.Ytifpfpgibjmibaa
open Go.RowKit Go.Maps
variable {w w' : World}

set_option maxRecDepth 100000 in
set_option maxHeartbeats 4000000 in
theorem madeDelta_any (s : Dl) (v : Value) (D : Option Addr) (dn dc : Nat) (w : World) (hmax : s.put.length ≤ 1000) (hS : RulesV w.heap.size w v s.put) :
    Calls Try.prog 9 #[.agg #[.int .i64 s.de, .int .i64 s.cl, .int .i64 s.fu, .int .i64 s.st, v, .slice D dn dc]] w
      fun e w' => ∃ V, e = .returned (.agg #[.int .i64 s.de, .int .i64 s.cl, .int .i64 s.fu, .int .i64 s.st, V, .slice D dn dc]) ∧ OwnU w' w.heap.size 57 V s.put ∧ Below w.heap.size w w' := by
  obtain ⟨A, cap, rfl⟩ := hS.form
  obtain ⟨i0, hi, hz0, hz1, hz2⟩ := info_three infoX
  have HS := Lib.hid hS
  clear hS
  go_enter Try.func9, Try.ntmps9
  go_wp2_with fail
  go_upto_region 3 with (fail)
  have hb0 : Below w.heap.size w (((w.alloc (.cells #[.int .i64 s.de, .int .i64 s.cl, .int .i64 s.fu, .int .i64 s.st, .slice A s.put.length cap, .slice D dn dc] 27)).alloc (.cells #[.int .i64 0, .int .i64 0, .int .i64 0, .int .i64 0, .slice none 0 0, .slice none 0 0] 40)).alloc (.cells #[.int .i64 s.de, .int .i64 s.cl, .int .i64 s.fu, .int .i64 s.st, .slice none 0 0, .slice D dn dc] 40)) := (((Below.refl _ _).alloc (Nat.le_refl _) _).alloc (by simp) _).alloc (by simp; omega) _
  have hz : Blk (((w.alloc (.cells #[.int .i64 s.de, .int .i64 s.cl, .int .i64 s.fu, .int .i64 s.st, .slice A s.put.length cap, .slice D dn dc] 27)).alloc (.cells #[.int .i64 0, .int .i64 0, .int .i64 0, .int .i64 0, .slice none 0 0, .slice none 0 0] 40)).alloc (.cells #[.int .i64 s.de, .int .i64 s.cl, .int .i64 s.fu, .int .i64 s.st, .slice none 0 0, .slice D dn dc] 40)) (w.heap.size + 1) 40 #[.int .i64 0, .int .i64 0, .int .i64 0, .int .i64 0, .slice none 0 0, .slice none 0 0] := (Blk.at_new _ _ (by simp) _ _).alloc _
  have hx : Blk (((w.alloc (.cells #[.int .i64 s.de, .int .i64 s.cl, .int .i64 s.fu, .int .i64 s.st, .slice A s.put.length cap, .slice D dn dc] 27)).alloc (.cells #[.int .i64 0, .int .i64 0, .int .i64 0, .int .i64 0, .slice none 0 0, .slice none 0 0] 40)).alloc (.cells #[.int .i64 s.de, .int .i64 s.cl, .int .i64 s.fu, .int .i64 s.st, .slice none 0 0, .slice D dn dc] 40)) (w.heap.size + 2) 40 #[.int .i64 s.de, .int .i64 s.cl, .int .i64 s.fu, .int .i64 s.st, .slice none 0 0, .slice D dn dc] := Blk.at_new _ _ (by simp) _ _
  generalize ((w.alloc (.cells #[.int .i64 s.de, .int .i64 s.cl, .int .i64 s.fu, .int .i64 s.st, .slice A s.put.length cap, .slice D dn dc] 27)).alloc (.cells #[.int .i64 0, .int .i64 0, .int .i64 0, .int .i64 0, .slice none 0 0, .slice none 0 0] 40)).alloc (.cells #[.int .i64 s.de, .int .i64 s.cl, .int .i64 s.fu, .int .i64 s.st, .slice none 0 0, .slice D dn dc] 40) = w0 at *
  have HB0 := Lib.hid hb0
  have HZ0 := Lib.hid hz
  have HX0 := Lib.hid hx
  clear hb0 hz hx
  go_loopw [20] (fun i wr => ∃ (k : Nat) (V : Value), k ≤ s.put.length ∧ i = .int .i64 k ∧ Hid (Blk wr (w.heap.size + 2) 40 #[.int .i64 s.de, .int .i64 s.cl, .int .i64 s.fu, .int .i64 s.st, V, .slice D dn dc]) ∧ Hid (Blk wr (w.heap.size + 1) 40 #[.int .i64 0, .int .i64 0, .int .i64 0, .int .i64 0, .slice none 0 0, .slice none 0 0]) ∧ Hid (OwnU wr w.heap.size 57 V (s.put.take k)) ∧ Hid (Below w.heap.size w wr)) (fun i _ => s.put.length - (intOf i).toNat)
  case atStart => exact ⟨0, _, Nat.zero_le _, rfl, HX0, HZ0, Lib.hid (OwnU.nil _ _ _), HB0⟩
  case round =>
    obtain ⟨k, V, hk, rfl, HX, HZ, HO, HB⟩ := hrel
    by_cases hlt : k < s.put.length
    · obtain ⟨b, off, rfl, hb, c0, c1, c2, c3, c4⟩ := (HS.out.below HB.out).at_ hlt
      have HG := Lib.hid (List.getElem?_eq_getElem hlt)
      generalize s.put[k] = r at HG c0 c1 c2 c3 c4
      have HLt := Lib.hid hlt
      have HLen : Hid ((s.put.take k ++ [r]).length = k + 1) := Lib.hid (by simp; omega)
      have d4 := HX.out.cell 4
      have hlx := HX.out.lt
      have hne := own_ne HO.out HX.out (by decide)
      have HNe := Lib.hid hne
      clear hne hlt
      go_wp2_with (first
        | (at_builtin
           refine wpList_append_rule _ rfl (.tmp 25) (.tmp 27) 33 rfl w.heap.size 57 i0 (.agg #[.int .i64 0, .int .i64 0, .int .i64 0, .int .i64 0, .string ⟨#[]⟩]) 48 Try.underlying33 hi hz0 hz1 hz2 rfl V (s.put.take k) rfl ((HO.out.alloc _).alloc _) _ 1 r rfl (Blk.at_new _ _ (by simp) _ _) (by simp; omega) (by decide) (by have := HB.out.size; simp; omega) ?_
           intro V' w1 hown' hgrow'
           obtain ⟨VA, VC, hV⟩ := hown'.form
           rw [HLen.out] at hV
           subst hV
           have hX1 := ((HX.out.alloc (.cells #[.int .i64 r.id, .int .i64 r.pr, .int .i64 r.ac, .int .i64 r.sc, .string r.pat] 44)).alloc (.cells #[.int .i64 r.id, .int .i64 r.pr, .int .i64 r.ac, .int .i64 r.sc, .string r.pat] 57)).grown hgrow' (fun e => HNe.out e.symm)
           have g4 := hX1.frozen 4
           have e4 := hX1.cell 4
           have hl1 := hX1.lt)
        | go_in)
      have hne1 := own_ne hown' hX1 (by decide)
      have hX2 : Blk (w1.setCell ⟨w.heap.size + 2, 4, none⟩ (.slice VA (k + 1) VC)) (w.heap.size + 2) 40 #[.int .i64 s.de, .int .i64 s.cl, .int .i64 s.fu, .int .i64 s.st, .slice VA (k + 1) VC, .slice D dn dc] := hX1.set_ 4 _
      have hO2 : OwnU (w1.setCell ⟨w.heap.size + 2, 4, none⟩ (.slice VA (k + 1) VC)) w.heap.size 57 (.slice VA (k + 1) VC) (s.put.take (k + 1)) := by
        rw [ru_take HG.out]
        exact hown'.farset hne1 _
      have hB1 : Below w.heap.size w w1 := ((HB.out.alloc HB.out.size _).alloc (by have := HB.out.size; simp; omega) _).grown hgrow' (by have := HB.out.size; simp; omega) (fun j hj => (World.ownsRow.lt HO.out j hj).1)
      have hZ1 : Blk w1 (w.heap.size + 1) 40 #[.int .i64 0, .int .i64 0, .int .i64 0, .int .i64 0, .slice none 0 0, .slice none 0 0] := ((HZ.out.alloc _).alloc _).grown hgrow' (fun e => by
        have := own_ne HO.out HZ.out (by decide)
        exact this e.symm)
      have HX2 := Lib.hid hX2
      have HO2 := Lib.hid hO2
      have HB2 := Lib.hid (hB1.setCell (p := ⟨w.heap.size + 2, 4, none⟩) (show w.heap.size ≤ w.heap.size + 2 by omega) (.slice VA (k + 1) VC))
      have HZ2 := Lib.hid (hZ1.far (p := ⟨w.heap.size + 2, 4, none⟩) (show w.heap.size + 1 ≠ w.heap.size + 2 by omega) (.slice VA (k + 1) VC))
      clear hne1 hX2 hO2 hB1 hZ1 hX1 hown' hgrow' g4 e4
      go_roundw
      case rel => exact ⟨k + 1, _, HLt.out, by go_num, HX2, HZ2, HO2, HB2⟩
      case measure => have := HLt.out; simp [intOf]; omega
    · obtain rfl : k = s.put.length := by omega
      have hO := HO.out
      rw [List.take_length] at hO
      obtain ⟨VA, VC, rfl⟩ := hO.form
      obtain ⟨z0, z1, z2, z3, z4, z5⟩ := HZ.out.c6
      have f := HZ.out.frozen
      obtain ⟨x0, x1, x2, x3, x4, x5⟩ := HX.out.c6
      have hlr := HZ.out.lt
      have hlx := HX.out.lt
      have HOf := Lib.hid hO
      have hne := own_ne hO HZ.out (by decide)
      have HNe := Lib.hid hne
      clear hO hne
      go_wp2
      refine bodyPost_ret (v := .agg #[.int .i64 s.de, .int .i64 s.cl, .int .i64 s.fu, .int .i64 s.st, .slice VA s.put.length VC, .slice D dn dc]) (by simp [results, Try.results9, go_sem, *]) rfl ⟨_, rfl, ?_, ?_⟩
      · have k : ∀ {W : World} {V : Value} {l : List Ru}, OwnU W w.heap.size 57 V l → V.ownBlock ≠ some (w.heap.size + 1) → ∀ (i : Nat) (u : Value), OwnU (W.setCell ⟨w.heap.size + 1, i, none⟩ u) w.heap.size 57 V l := fun h ha i u => OwnU.farset h (a := ⟨w.heap.size + 1, i, none⟩) ha u
        have n := HNe.out
        exact k (k (k (k (k (k HOf.out n 0 _) n 1 _) n 2 _) n 3 _) n 4 _) n 5 _
      · have k : ∀ {W : World}, Below w.heap.size w W → ∀ (i : Nat) (u : Value), Below w.heap.size w (W.setCell ⟨w.heap.size + 1, i, none⟩ u) := fun h i u => h.setCell (p := ⟨w.heap.size + 1, i, none⟩) (by simp) u
        exact k (k (k (k (k (k HB.out 0 _) 1 _) 2 _) 3 _) 4 _) 5 _

end Go.Proofs.Ytifpfpgibjmibaa
