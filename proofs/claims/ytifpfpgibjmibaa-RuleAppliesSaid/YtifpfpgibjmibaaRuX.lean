/- The append of a list of rules onto a row of the call's own; a store into such a row. -/
import Derived.Test.YtifpfpgibjmibaaRuN
namespace Go.Proofs.Ytifpfpgibjmibaa
open Go.RowKit Go.Maps
variable {w w' : World}

section
variable {P : Program} (w : World)
theorem run_append_rules5 (base : Nat) (t ty e : TypeId) (i : TypeInfo) (z : Value) (bytes : Nat) (ht : P.underlying t = some (.slice e)) (hi : P.info? e = some i) (hz : i.zero = some z)
    (hsize : i.size = 5) (hby : i.bytes = bytes) (hzs : z.cells.size = 5) (v : Value) (xs : List Ru) (hown : OwnU w base e v xs)
    (n₀ : Nat) (u : Value) (ys : List Ru) (hr : RulesV n₀ w u ys) (h63 : xs.length + ys.length ≤ 1000000) (hbytes : bytes ≤ 100) (hbase : base ≤ w.heap.size) :
    ∃ v' w', (Builtin.append_ #[t, t] ty #[v, u]).run P w = .ok v' w' ∧ OwnU w' base e v' (xs ++ ys) ∧ w.grownBy w' v.ownBlock ∧ (v'.ownBlock = v.ownBlock ∨ v'.ownBlock = some w.heap.size) := by
  have hm : (xs.length + ys.length) * bytes ≤ 1000000 * 100 := Nat.mul_le_mul h63 hbytes
  obtain ⟨A, cap, rfl, _, hA⟩ := hr
  cases A with
  | none =>
    have hy : ys = [] := by
      rcases ys with _ | ⟨y, ys⟩
      · rfl
      · obtain ⟨b, off, h, _⟩ := hA (by simp)
        cases h
    subst hy
    refine ⟨v, w, ?_, by simpa using hown, World.grownBy.refl w _, .inl rfl⟩
    rcases hown.2 with ⟨rfl, _⟩ | ⟨g, c, cur, rfl, _, _, hnc, _⟩
    · simp [Builtin.append_, run_underlying ht, sizeOf, typeInfo, hi, Builtin.lenOf, Builtin.firstCells]
    · simp [Builtin.append_, run_underlying ht, sizeOf, typeInfo, hi, Builtin.lenOf, Builtin.firstCells, hnc, storeCells]
  | some a =>
    have hcells : ∀ j y, (ruCells ys)[j]? = some y → w.cell? (a.add j) = some y := by
      intro j y hy
      obtain ⟨r, hr1, hr2⟩ := ruCells_inv ys j y hy
      have hne : ys ≠ [] := by rintro rfl; simp at hr1
      obtain ⟨b, off, h, _, hc⟩ := hA hne
      cases h
      have hadd : (⟨b, off, none⟩ : Addr).add j = ⟨b, off + j, none⟩ := by unfold Addr.add; split <;> simp_all
      rw [hadd, show off + j = (off + j / 5 * 5) + j % 5 by omega]
      exact RuAt.get (hc _ _ hr1) _ _ hr2
    obtain ⟨v', w', hrun, h2, h3, _, h5⟩ := run_append_own_at (P := P) w base t ty e i z 5 bytes ht hi hz hsize hby hzs (by decide) v xs.length (ruCells xs) hown a ys.length cap (ruCells ys) (ruCells_len ys) hcells (ruCells_one ys) (by unfold maxLen; omega) (by omega) hbase
    refine ⟨v', w', hrun, ?_, h3, h5⟩
    unfold OwnU
    rw [List.length_append, ruCells_append]
    exact h2

theorem run_append_rules (base : Nat) (t ty e : TypeId) (i : TypeInfo) (z : Value) (bytes : Nat) (ht : P.underlying t = some (.slice e)) (hi : P.info? e = some i) (hz : i.zero = some z)
    (hsize : i.size = 5) (hby : i.bytes = bytes) (hzs : z.cells.size = 5) (v : Value) (xs : List Ru) (hown : OwnU w base e v xs)
    (n₀ : Nat) (u : Value) (ys : List Ru) (hr : RulesV n₀ w u ys) (h63 : xs.length + ys.length ≤ 1000000) (hbytes : bytes ≤ 100) (hbase : base ≤ w.heap.size) :
    ∃ v' w', (Builtin.append_ #[t, t] ty #[v, u]).run P w = .ok v' w' ∧ OwnU w' base e v' (xs ++ ys) ∧ w.grownBy w' v.ownBlock := by
  obtain ⟨v', w', h1, h2, h3, _⟩ := run_append_rules5 (P := P) w base t ty e i z bytes ht hi hz hsize hby hzs v xs hown n₀ u ys hr h63 hbytes hbase
  exact ⟨v', w', h1, h2, h3⟩

theorem wpList_append_rules {ops : Array Oper} {rest : List Oper} {o : Oper} {a : Act} {Q : Exit → Act → World → Prop} (hgd : o.guard = none) (s x : Operand) (t : TypeId)
    (ho : o.op = .call { callee := .builtin .append, args := #[s, x], argTypes := #[t, t] })
    (base : Nat) (e : TypeId) (i : TypeInfo) (z : Value) (bytes : Nat) (ht : P.underlying t = some (.slice e)) (hi : P.info? e = some i) (hz : i.zero = some z)
    (hsize : i.size = 5) (hby : i.bytes = bytes) (hzs : z.cells.size = 5) (v : Value) (xs : List Ru) (hs : a.eval s = v) (hown : OwnU w base e v xs)
    (n₀ : Nat) (u : Value) (ys : List Ru) (hx : a.eval x = u) (hr : RulesV n₀ w u ys) (h63 : xs.length + ys.length ≤ 1000000) (hbytes : bytes ≤ 100) (hbase : base ≤ w.heap.size)
    (h : ∀ v' w', OwnU w' base e v' (xs ++ ys) → w.grownBy w' v.ownBlock → wpList P ops Q rest (a.put o.dst v') w') : wpList P ops Q (o :: rest) a w := by
  refine wpList_plain hgd fun K hK => ?_
  obtain ⟨v', w', hrun, h2, h3⟩ := run_append_rules (P := P) w base t o.type e i z bytes ht hi hz hsize hby hzs v xs hown n₀ u ys hr h63 hbytes hbase
  unfold Oper.wp execOp
  simp only [ho, resolve, invoke, builtin, Sem.run_bind, Sem.run_pure, Result.andThen_ok, List.map_toArray, List.map_cons, List.map_nil, hs, hx, hrun]
  exact hK _ _ (h v' w' h2 h3)
end
/-- a composite literal without elements -/
theorem ownU_empty (w : World) (base : Nat) (e : TypeId) (h : base ≤ w.heap.size) : OwnU (w.alloc (.cells #[] e)) base e (.slice (some ⟨w.heap.size, 0, none⟩) 0 0) [] :=
  World.ownsRow_made w #[] 0 h (by unfold maxLen; omega) (by simp)
/-- what lies in a row of the call's own, when it isn't empty -/
theorem OwnU.held {base : Nat} {e : TypeId} {A : Option Addr} {n c : Nat} {l : List Ru} (h : OwnU w base e (.slice A n c) l) (hn : 0 < l.length) : ∃ g cs, A = some ⟨g, 0, none⟩ ∧ base ≤ g ∧ Blk w g e cs ∧ l.length * 5 ≤ cs.size := by
  rcases h.2 with ⟨_, h0⟩ | ⟨g, cap, cur, hv, hb, hg, hc, _, hs, _⟩
  · omega
  · injection hv with h1 h2 h3
    refine ⟨g, cur, h1, hb, hg, ?_⟩
    rw [hs]
    exact Nat.mul_le_mul_right 5 hc
theorem Far.of_own {base : Nat} {e : TypeId} {v : Value} {l : List Ru} (h : OwnU w base e v l) : Far base v := fun k hk => (h.lt k hk).1

set_option maxRecDepth 100000 in
set_option maxHeartbeats 4000000 in
theorem rusmall_any (a b c e a' b' c' e' : Int) (A A1 A2 : Option Addr) (n m k cap cap1 cap2 : Nat) (w : World) :
    Calls Try.prog 5 #[.agg #[.int .i64 a, .int .i64 b, .int .i64 c, .int .i64 e, .slice A n cap], .agg #[.int .i64 a', .int .i64 b', .int .i64 c', .int .i64 e', .slice A1 m cap1, .slice A2 k cap2]] w
      fun e w' => e = .returned (.bool (decide (n ≤ 40 ∧ m ≤ 40 ∧ k ≤ 40))) ∧ Below w.heap.size w w' := by
  go_enter Try.func5, Try.ntmps5
  by_cases h1 : n ≤ 40
  · have h1' : (n : Int) ≤ 40 := by omega
    by_cases h2 : m ≤ 40
    · have h2' : (m : Int) ≤ 40 := by omega
      by_cases h3 : k ≤ 40
      · have h3' : (k : Int) ≤ 40 := by omega
        rw [decide_eq_true ⟨h1, h2, h3⟩]
        clear h1 h2 h3
        go_wp2
        go_ret
        exact ⟨rfl, ((Below.refl _ _).alloc (Nat.le_refl _) _).alloc (by simp) _⟩
      · have h3' : ¬ (k : Int) ≤ 40 := by omega
        rw [decide_eq_false fun h => h3 h.2.2]
        clear h1 h2 h3
        go_wp2
        go_ret
        exact ⟨rfl, ((Below.refl _ _).alloc (Nat.le_refl _) _).alloc (by simp) _⟩
    · have h2' : ¬ (m : Int) ≤ 40 := by omega
      rw [decide_eq_false fun h => h2 h.2.1]
      clear h1 h2
      go_wp2
      go_ret
      exact ⟨rfl, ((Below.refl _ _).alloc (Nat.le_refl _) _).alloc (by simp) _⟩
  · have h1' : ¬ (n : Int) ≤ 40 := by omega
    rw [decide_eq_false fun h => h1 h.1]
    clear h1
    go_wp2
    go_ret
    exact ⟨rfl, ((Below.refl _ _).alloc (Nat.le_refl _) _).alloc (by simp) _⟩

end Go.Proofs.Ytifpfpgibjmibaa
