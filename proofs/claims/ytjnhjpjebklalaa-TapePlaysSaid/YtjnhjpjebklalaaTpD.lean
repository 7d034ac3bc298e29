/- A step of the program's tape; the laws' anchor. -/
import Derived.Test.YtjnhjpjebklalaaTpC
namespace Go.Proofs.Ytjnhjpjebklalaa
open Go.RowKit
variable {w w' : World} {S : Nat → Prop} {g : Nat} {T : Tp}

theorem Did.below {w1 w2 : World} (hB : Below w.heap.size w w1) (h : Did g S T w1 w2) : Did g S T w w2 := by
  obtain ⟨S', hs, ht, hf⟩ := h
  exact ⟨S', fun i hi => (hs i hi).imp id (fun e => Nat.le_trans hB.size e), ht, (Fr.of_below hB).next hf⟩
theorem Did.at {w2 : World} (h : TapeAt w2 g S T ∧ Fr S w w2) : Did g S T w w2 := Did.same h.1 h.2
theorem does_ne {k : Int} {j : Int} (h : k ≠ j) : (k == j) = false := by simpa using h
set_option maxRecDepth 100000 in
set_option maxHeartbeats 2000000 in
theorem does_any {n₀ : Nat} (o : Op12) (u : Value) (hl : o.d.length ≤ 9223372036854775807) (hn : -9223372036854775808 ≤ o.n ∧ o.n ≤ 9223372036854775807) (hu : ∀ w', Fr S w w' → Bytes n₀ w' u o.d) (h : TapeAt w g S T) :
    Calls Try.prog 11 #[.pointer (some ⟨g, 0, none⟩), .agg #[.int .i64 o.k, .int .i64 o.n, u]] w fun e w' => e = .returned (.int .i64 (T.doesE o : Int)) ∧ Did g S (T.does o) w w' := by
  obtain ⟨k, n, d⟩ := o
  simp only at hl hn hu ⊢
  obtain ⟨A, c, rfl, _, _⟩ := hu w (Fr.refl w)
  have B1 := Lib.hid ((Below.refl w.heap.size w).alloc (Nat.le_refl _) (.cells #[.int .i64 k, .int .i64 n, .slice A d.length c] 31))
  have H1 := Lib.hid (h.on B1.out)
  have HU := Lib.hid (fun w' (hf : Fr S (w.alloc (.cells #[.int .i64 k, .int .i64 n, .slice A d.length c] 31)) w') => hu w' ((Fr.of_below B1.out).next hf))
  have X1 := Lib.hid (Blk.new w 31 #[.int .i64 k, .int .i64 n, .slice A d.length c])
  have x0 := X1.out.cell 0
  have x1 := X1.out.cell 1
  have x2 := X1.out.cell 2
  have HT := Lib.hid h
  have HL := Lib.hid hl
  clear hu h hl
  have E0 : Hid (T.does ⟨k, n, d⟩ = if k = 1 then T.app d else if k = 2 then T.sync else if k = 3 then T.trim n else if k = 4 then T.arm n else if k = 5 then T.crash n d else T) := Lib.hid rfl
  have E1 : Hid (T.doesE ⟨k, n, d⟩ = if k = 1 then T.appE d else if k = 2 then T.syncE else if k = 3 then T.trimE n else 0) := Lib.hid rfl
  rw [E0.out, E1.out]
  clear E0 E1
  obtain ⟨m, hm⟩ : ∃ m, m = d.length := ⟨_, rfl⟩
  rw [← hm] at B1 H1 HU X1 x0 x1 x2 ⊢
  clear hm
  by_cases h1 : k = 1
  · subst h1
    simp only [if_true, Int.reduceEq, if_false]
    have CL := Lib.hid (append_any _ d HU.out H1.out)
    go_enter Try.func11, Try.ntmps11
    go_wp2_with fail
    refine CL.out.mono ?_
    rintro e w2 ⟨rfl, d2⟩
    go_wp2
    go_ret
    exact ⟨rfl, Did.below B1.out (d2)⟩
  by_cases h2 : k = 2
  · subst h2
    simp only [if_true, Int.reduceEq, if_false]
    have CL := Lib.hid (sync_any H1.out)
    go_enter Try.func11, Try.ntmps11
    go_wp2_with fail
    refine CL.out.mono ?_
    rintro e w2 ⟨rfl, t2, f2⟩
    go_wp2
    go_ret
    exact ⟨rfl, Did.below B1.out (Did.at ⟨t2, f2⟩)⟩
  by_cases h3 : k = 3
  · subst h3
    simp only [if_true, Int.reduceEq, if_false]
    have CL := Lib.hid (trim_any n H1.out)
    go_enter Try.func11, Try.ntmps11
    go_wp2_with fail
    refine CL.out.mono ?_
    rintro e w2 ⟨rfl, t2, f2⟩
    go_wp2
    go_ret
    exact ⟨rfl, Did.below B1.out (Did.at ⟨t2, f2⟩)⟩
  by_cases h4 : k = 4
  · subst h4
    simp only [if_true, Int.reduceEq, if_false]
    have CL := Lib.hid (arm_any n hn H1.out)
    go_enter Try.func11, Try.ntmps11
    go_wp2_with fail
    refine CL.out.mono ?_
    rintro e w2 ⟨rfl, t2, f2⟩
    go_wp2
    go_ret
    exact ⟨rfl, Did.below B1.out (Did.at ⟨t2, f2⟩)⟩
  by_cases h5 : k = 5
  · subst h5
    simp only [if_true, Int.reduceEq, if_false]
    have CL := Lib.hid (crash_any n _ d HL.out HU.out H1.out)
    go_enter Try.func11, Try.ntmps11
    go_wp2_with fail
    refine CL.out.mono ?_
    rintro e w2 ⟨rfl, t2, f2⟩
    go_wp2
    go_ret
    exact ⟨rfl, Did.below B1.out (Did.at ⟨t2, f2⟩)⟩
  rw [if_neg h1, if_neg h2, if_neg h3, if_neg h4, if_neg h5, if_neg h1, if_neg h2, if_neg h3]
  have n1 := does_ne h1
  have n2 := does_ne h2
  have n3 := does_ne h3
  have n4 := does_ne h4
  have n5 := does_ne h5
  have R := Lib.hid (Did.same HT.out (Fr.refl w))
  have R2 := Lib.hid (Did.same H1.out (Fr.refl _))
  clear h1 h2 h3 h4 h5
  go_enter Try.func11, Try.ntmps11
  go_wp2
  go_ret
  exact ⟨rfl, Did.below B1.out R2.out⟩
end Go.Proofs.Ytjnhjpjebklalaa
