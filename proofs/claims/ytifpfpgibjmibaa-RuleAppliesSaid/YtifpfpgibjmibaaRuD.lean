/- Package rule: changedTo, numbered. -/
import Derived.Test.YtifpfpgibjmibaaRuC
import Derived.StillTailTactics
namespace Go.Proofs.Ytifpfpgibjmibaa
open Go.RowKit
variable {w w' : World}

theorem changedTo_any (old asked : Int) (w : World) : Calls Try.prog 29 #[.int .i64 old, .int .i64 asked] w fun e w' => e = .returned (.int .i64 (orK asked old)) ∧ w' = w := by
  go_enter Try.func29, Try.ntmps29
  unfold orK
  by_cases h : asked = -1
  · subst h
    go_wp2
    go_ret
    exact ⟨rfl, rfl⟩
  · rw [if_neg h]
    go_wp2
    go_ret
    exact ⟨rfl, rfl⟩

set_option maxRecDepth 100000 in
set_option maxHeartbeats 4000000 in
theorem numbered_any (s : RS) (d : Dl) (v pv dv : Value) (hv : ∃ A n c, v = .slice A n c) (hp : ∃ A n c, pv = .slice A n c) (hd : ∃ A n c, dv = .slice A n c) (w : World) :
    Calls Try.prog 15 #[.agg #[.int .i64 s.de, .int .i64 s.cl, .int .i64 s.fu, .int .i64 s.st, v], .agg #[.int .i64 d.de, .int .i64 d.cl, .int .i64 d.fu, .int .i64 d.st, pv, dv]] w
      fun e w' => e = .returned (.agg #[.int .i64 (orK d.de s.de), .int .i64 (orK d.cl s.cl), .int .i64 (orK d.fu s.fu), .int .i64 (orK d.st s.st), .slice none 0 0]) ∧ Below w.heap.size w w' := by
  obtain ⟨A, n, c, rfl⟩ := hv
  obtain ⟨A', n', c', rfl⟩ := hp
  obtain ⟨A'', n'', c'', rfl⟩ := hd
  obtain ⟨sde, scl, sfu, sst, rs⟩ := s
  obtain ⟨de, cl, fu, st, pu, dr⟩ := d
  simp only
  have c1 := changedTo_any sde de
  have c2 := changedTo_any scl cl
  have c3 := changedTo_any sfu fu
  have c4 := changedTo_any sst st
  generalize orK de sde = n1 at c1
  generalize orK cl scl = n2 at c2
  generalize orK fu sfu = n3 at c3
  generalize orK st sst = n4 at c4
  have C1 := Lib.hid c1
  have C2 := Lib.hid c2
  have C3 := Lib.hid c3
  have C4 := Lib.hid c4
  clear c1 c2 c3 c4
  go_enter Try.func15, Try.ntmps15
  go_wp2_with fail

  refine wp_region_still_tail 21 (by kernel_rfl) (by kernel_rfl) ?_
  simp only [List.take_succ_cons, List.take_zero, List.drop_succ_cons, List.drop_zero]
  change wpStill _ _ (((w.drew.alloc (.cells #[.int .i64 sde, .int .i64 scl, .int .i64 sfu, .int .i64 sst, .slice A n c] 24)).alloc (.cells #[.int .i64 de, .int .i64 cl, .int .i64 fu, .int .i64 st, .slice A' n' c', .slice A'' n'' c''] 27)).alloc (.cells #[.int .i64 0, .int .i64 0, .int .i64 0, .int .i64 0, .slice none 0 0] 24)) (fun a' => wpList _ _ _ _ a' (((w.drew.alloc (.cells #[.int .i64 sde, .int .i64 scl, .int .i64 sfu, .int .i64 sst, .slice A n c] 24)).alloc (.cells #[.int .i64 de, .int .i64 cl, .int .i64 fu, .int .i64 st, .slice A' n' c', .slice A'' n'' c''] 27)).alloc (.cells #[.int .i64 0, .int .i64 0, .int .i64 0, .int .i64 0, .slice none 0 0] 24))) _ _
  have hs : w.heap.size = w.drew.heap.size := rfl
  rw [hs]
  clear hs
  have hB : Below w.heap.size w w.drew := (Below.refl _ w).drew
  have HB := Lib.hid hB
  clear hB
  generalize w.drew = w0 at HB ⊢
  repeat still_step
  still_call (C1.out _)
  repeat still_step
  still_call (C2.out _)
  repeat still_step
  still_call (C3.out _)
  repeat still_step
  still_call (C4.out _)
  repeat still_step
  refine wpStill_nil ?_
  go_wp2
  refine bodyPost_ret (v := .agg #[.int .i64 n1, .int .i64 n2, .int .i64 n3, .int .i64 n4, .slice none 0 0]) (by simp [results, Try.results15, go_sem]) rfl ⟨rfl, ?_⟩
  have h0 := HB.out.size
  exact ((HB.out.alloc h0 _).alloc (by simp; omega) _).alloc (by simp; omega) _

end Go.Proofs.Ytifpfpgibjmibaa
