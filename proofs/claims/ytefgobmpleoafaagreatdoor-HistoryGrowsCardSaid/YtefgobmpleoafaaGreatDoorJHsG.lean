/- Layer 14's laws: two outcomes the same; an entry that puts a rule; the anchor. -/
import Derived.Test.YtefgobmpleoafaaGreatDoorJHsF
import Derived.Test.YtefgobmpleoafaaGreatDoorJVdA
namespace Go.Proofs.YtefgobmpleoafaaGreatDoor
open Go.RowKit Go.Maps
variable {w w' : World} {S U : Nat → Prop} {g : Nat} {H : Hs}

theorem eq_verdict (b c d b' c' d' : Int) (w : World) : (Op.equalIn 9999 42 (.agg #[.int .i64 b, .int .i64 c, .int .i64 d]) (.agg #[.int .i64 b', .int .i64 c', .int .i64 d'])).run Tryz.prog w = .ok (b == b' && c == c' && d == d') w := by
  have u3 := Tryz.underlying3
  have a3 := Tryz.isAgg3
  have z3 := Tryz.sizeOf3
  have u30 := Tryz.underlying40
  have hS2 : Tryz.prog.underlying 42 = some (.struct (Tryz.prog.fieldsOf 42)) := by kernel_rfl
  have hp2 : Tryz.prog.stoodInHeld 42 = false := by kernel_rfl
  rw [show (9999 : Nat) = 9998 + 1 from rfl, run_equalIn_agg w 9998 42 _ _ hS2 hp2]
  simp only [Program.fieldsOf, Tryz.underlying42]
  go_simp
  by_cases h2 : b = b' <;> by_cases h3 : c = c' <;> by_cases h4 : d = d' <;> simp [h2, h3, h4]
theorem eq_int9 (a a' : Int) (w : World) : (Op.equalIn 9999 3 (.int .i64 a) (.int .i64 a')).run Tryz.prog w = .ok (a == a') w := by
  have u3 := Tryz.underlying3
  go_simp
theorem run_eql_oc (a b c d a' b' c' d' : Int) (w : World) : (binOp .eql 44 (.agg #[.int .i64 a, .int .i64 b, .int .i64 c, .int .i64 d]) (.agg #[.int .i64 a', .int .i64 b', .int .i64 c', .int .i64 d'])).run Tryz.prog w = .ok (.bool (a == a' && (b == b' && c == c' && d == d'))) w := by
  have hS : Tryz.prog.underlying 44 = some (.struct (Tryz.prog.fieldsOf 44)) := by kernel_rfl
  have hp : Tryz.prog.stoodInHeld 44 = false := by kernel_rfl
  have p1 : ∀ (a b c d : Int), (part 3 #[.int .i64 a, .int .i64 b, .int .i64 c, .int .i64 d] 0).run Tryz.prog w = .ok (.int .i64 a) w := fun _ _ _ _ => by kernel_rfl
  have p2 : ∀ (a b c d : Int), (part 42 #[.int .i64 a, .int .i64 b, .int .i64 c, .int .i64 d] 1).run Tryz.prog w = .ok (.agg #[.int .i64 b, .int .i64 c, .int .i64 d]) w := fun _ _ _ _ => by kernel_rfl
  have e1 := eq_int9 a a' w
  have e2 := eq_verdict b c d b' c' d' w
  rw [run_eql_struct, show (10000 : Nat) = 9999 + 1 from rfl, run_equalIn_agg w 9999 44 _ _ hS hp]
  simp only [Program.fieldsOf, Tryz.underlying44]
  simp only [Op.eqFields, Sem.run_bind, Sem.run_ite, Sem.run_pure, Result.andThen_ok, p1, p2, e1, e2]
  by_cases h1 : a = a' <;> by_cases h2 : b = b' <;> by_cases h3 : c = c' <;> by_cases h4 : d = d' <;> simp [h1, h2, h3, h4]
theorem run_neq_oc (a b c d a' b' c' d' : Int) (w : World) : (binOp .neq 44 (.agg #[.int .i64 a, .int .i64 b, .int .i64 c, .int .i64 d]) (.agg #[.int .i64 a', .int .i64 b', .int .i64 c', .int .i64 d'])).run Tryz.prog w = .ok (.bool (!(a == a' && (b == b' && c == c' && d == d')))) w := by
  have hS : Tryz.prog.underlying 44 = some (.struct (Tryz.prog.fieldsOf 44)) := by kernel_rfl
  have hp : Tryz.prog.stoodInHeld 44 = false := by kernel_rfl
  have p1 : ∀ (a b c d : Int), (part 3 #[.int .i64 a, .int .i64 b, .int .i64 c, .int .i64 d] 0).run Tryz.prog w = .ok (.int .i64 a) w := fun _ _ _ _ => by kernel_rfl
  have p2 : ∀ (a b c d : Int), (part 42 #[.int .i64 a, .int .i64 b, .int .i64 c, .int .i64 d] 1).run Tryz.prog w = .ok (.agg #[.int .i64 b, .int .i64 c, .int .i64 d]) w := fun _ _ _ _ => by kernel_rfl
  have e1 := eq_int9 a a' w
  have e2 := eq_verdict b c d b' c' d' w
  rw [run_neq_struct, show (10000 : Nat) = 9999 + 1 from rfl, run_equalIn_agg w 9999 44 _ _ hS hp]
  simp only [Program.fieldsOf, Tryz.underlying44]
  simp only [Op.eqFields, Sem.run_bind, Sem.run_ite, Sem.run_pure, Result.andThen_ok, p1, p2, e1, e2]
  by_cases h1 : a = a' <;> by_cases h2 : b = b' <;> by_cases h3 : c = c' <;> by_cases h4 : d = d' <;> simp [h1, h2, h3, h4]
theorem run_neq_verdict (a b c a' b' c' : Int) (w : World) : (binOp .neq 42 (.agg #[.int .i64 a, .int .i64 b, .int .i64 c]) (.agg #[.int .i64 a', .int .i64 b', .int .i64 c'])).run Tryz.prog w = .ok (.bool (!(a == a' && b == b' && c == c'))) w := by
  have u3 := Tryz.underlying3
  have a3 := Tryz.isAgg3
  have z3 := Tryz.sizeOf3
  have u30 := Tryz.underlying40
  have hS : Tryz.prog.underlying 42 = some (.struct (Tryz.prog.fieldsOf 42)) := by kernel_rfl
  have hp : Tryz.prog.stoodInHeld 42 = false := by kernel_rfl
  rw [run_neq_struct, show (10000 : Nat) = 9999 + 1 from rfl, run_equalIn_agg w 9999 42 _ _ hS hp]
  simp only [Program.fieldsOf, Tryz.underlying42]
  go_simp
  by_cases h1 : a = a' <;> by_cases h2 : b = b' <;> by_cases h3 : c = c' <;> simp [h1, h2, h3]
def dput (i : Int) (pat : ByteArray) : Dl := ⟨-1, -1, -1, -1, [⟨i, 0, 0, 1, pat⟩], []⟩
def eput (c r i : Int) (pat : ByteArray) : En := ⟨0, c, r, dput i pat⟩
theorem put14_any (c r i : Int) (pat : ByteArray) (w : World) : Calls Tryz.prog 28 #[.int .i64 c, .int .i64 r, .int .i64 i, .string pat] w fun e w' => ∃ b, e = .returned ((eput c r i pat).val (.slice (some ⟨b, 0, none⟩) 1 1) (.slice none 0 0)) ∧ w.heap.size ≤ b ∧ RulesV w'.heap.size w' (.slice (some ⟨b, 0, none⟩) 1 1) [⟨i, 0, 0, 1, pat⟩] ∧ Below w.heap.size w w' := by
  have B := Lib.hid (((Below.refl w.heap.size w).alloc (Nat.le_refl _) (.cells #[.int .i64 0, .int .i64 c, .int .i64 r, .int .i64 (-1), .int .i64 (-1), .int .i64 (-1), .int .i64 (-1), .slice (some ⟨w.heap.size + 1, 0, none⟩) 1 1, .slice none 0 0] 39)).alloc (by simp) (.cells #[.int .i64 i, .int .i64 0, .int .i64 0, .int .i64 1, .string pat] 72))
  have R := Lib.hid (one_rule (w.alloc (.cells #[.int .i64 0, .int .i64 c, .int .i64 r, .int .i64 (-1), .int .i64 (-1), .int .i64 (-1), .int .i64 (-1), .slice (some ⟨w.heap.size + 1, 0, none⟩) 1 1, .slice none 0 0] 39)) ⟨i, 0, 0, 1, pat⟩)
  go_enter Tryz.func28, Tryz.ntmps28
  go_wp2
  refine bodyPost_ret (v := (eput c r i pat).val (.slice (some ⟨w.heap.size + 1, 0, none⟩) 1 1) (.slice none 0 0)) (by simp [results, Tryz.results28, go_sem, eput, dput, *]) rfl ⟨w.heap.size + 1, rfl, Nat.le_succ _, ?_, B.out⟩
  have := R.out
  simpa using this
theorem pv_a : pvM ⟨#[97]⟩ = (0, 0) := by
  show pvR (parse 1026 [97]) = _
  kernel_rfl
theorem ru_parsed {i : Int} (h : 1 ≤ i ∧ i ≤ 100) (p : ByteArray) (hp : p.size ≤ 256) : Ru.ok ⟨i, 0, 0, 1, p⟩ = true := by
  simp only [Ru.ok, decide_eq_true_eq]
  omega
theorem eput_ok {c r i : Int} {p : ByteArray} (hc : 1 ≤ c ∧ c ≤ 100) (hr : 1 ≤ r ∧ r ≤ 100) (hi : 1 ≤ i ∧ i ≤ 100) (hp : p.size ≤ 256) : (eput c r i p).ok = true := by
  refine En.ok_iff.2 ⟨?_, ?_, ?_, Dl.okP_iff.2 ⟨?_, ?_, ?_, ?_, ?_⟩⟩ <;> simp only [eput, dput]
  · omega
  · omega
  · omega
  · omega
  · simp
  · intro x hx
    rw [List.mem_singleton.1 hx]
    exact ru_parsed hi p hp
  · simp
  · intro n hn
    cases hn
def r14 : Ru := ⟨3, 0, 0, 1, ⟨#[97]⟩⟩
def s14 : RS := ⟨0, 255, 10000, 500, [r14]⟩
theorem ch1 : changeM pvM RS.first (dput 3 ⟨#[97]⟩) = (s14, (0, 0, 0)) := by
  have h := putsV_ok (p := pvM) (s := RS.first) (x := r14) (by rw [rulesFirst]) (ru_parsed ⟨by decide, by decide⟩ _ (by decide)) (by decide) (by show (pvM ⟨#[97]⟩).1 = 0; rw [pv_a])
  exact h
theorem ch2 : changeM pvM s14 (dput 4 ⟨#[40]⟩) = (.zero, (20, 4, 0)) := by
  have hs : (rulesM pvM s14).1 = 0 := by
    have h := changeM_top (p := pvM) (s := RS.first) (d := dput 3 ⟨#[97]⟩) (by rw [ch1])
    rw [ch1] at h
    exact h.1
  have h := putsV_bad (p := pvM) (s := s14) (x := ⟨4, 0, 0, 1, ⟨#[40]⟩⟩) hs (ru_parsed ⟨by decide, by decide⟩ _ (by decide)) (by decide) (by show (pvM ⟨#[40]⟩).1 ≠ 0; rw [pv_paren]; decide)
  rw [show pvM ⟨#[40]⟩ = (20, 0) from pv_paren] at h
  exact h
def H1 : Hs := Hs.start.add pvM (eput 1 1 3 ⟨#[97]⟩)
def H2 : Hs := H1.add pvM (eput 1 1 3 ⟨#[97]⟩)
def H3 : Hs := H2.add pvM (eput 1 2 4 ⟨#[40]⟩)
theorem o1 : Hs.start.out pvM (eput 1 1 3 ⟨#[97]⟩) = ⟨1, 0, 0, 0⟩ := by
  unfold Hs.out Hs.chg
  rw [if_neg (by decide), show Hs.start.top = RS.first from rfl, show (eput 1 1 3 ⟨#[97]⟩).d = dput 3 ⟨#[97]⟩ from rfl, ch1]
  rfl
theorem H1_eq : H1 = ⟨1, 0, [.first, s14], fun c => if c = 1 then some ⟨⟨1, 0, 0, 0⟩, 1⟩ else none⟩ := by
  unfold H1
  rw [Hs.add_ch (by decide), o1]
  unfold Hs.chL
  rw [show Hs.start.top = RS.first from rfl, show (eput 1 1 3 ⟨#[97]⟩).d = dput 3 ⟨#[97]⟩ from rfl, ch1]
  rfl
theorem o2 : H1.out pvM (eput 1 1 3 ⟨#[97]⟩) = ⟨0, 31, 0, 0⟩ := by
  unfold Hs.out
  rw [H1_eq, if_pos (by decide)]
theorem H2_eq : H2 = ⟨2, 0, [.first, s14], fun c => if c = 1 then some ⟨⟨1, 0, 0, 0⟩, 1⟩ else none⟩ := by
  unfold H2
  rw [Hs.add_tw (by rw [H1_eq]; decide), H1_eq]
theorem o3 : H2.out pvM (eput 1 2 4 ⟨#[40]⟩) = ⟨0, 20, 4, 0⟩ := by
  unfold Hs.out Hs.chg
  rw [H2_eq, if_neg (by decide), show (⟨2, 0, [.first, s14], fun c => if c = 1 then some ⟨⟨1, 0, 0, 0⟩, 1⟩ else none⟩ : Hs).top = s14 from rfl, show (eput 1 2 4 ⟨#[40]⟩).d = dput 4 ⟨#[40]⟩ from rfl, ch2]
  rfl
theorem H3_len : H3.vs.length = 1 + 1 := by
  unfold H3
  rw [Hs.add_ch (by rw [H2_eq]; decide)]
  unfold Hs.chL
  rw [H2_eq, show (⟨2, 0, [.first, s14], fun c => if c = 1 then some ⟨⟨1, 0, 0, 0⟩, 1⟩ else none⟩ : Hs).top = s14 from rfl, show (eput 1 2 4 ⟨#[40]⟩).d = dput 4 ⟨#[40]⟩ from rfl, ch2]
  rfl
end Go.Proofs.YtefgobmpleoafaaGreatDoor

