/- Joined: RuW, RuA, RuB. -/
import Derived.Test.YtefgobmpleoafaaGreatFrK
import Derived.Test.YtefgobmpleoafaaGreatRuM
/- Rules in memory: a slice value that reads as a list of rules; a row of rules of the call's own; append onto such a row. -/
namespace Go.Proofs.YtefgobmpleoafaaGreat
open Go.RowKit
variable {w w' : World}

def ruCells (l : List Ru) : List Value := l.flatMap Ru.cells
theorem ruCells_cons (r : Ru) (l : List Ru) : ruCells (r :: l) = .int .i64 r.id :: .int .i64 r.pr :: .int .i64 r.ac :: .int .i64 r.sc :: .string r.pat :: ruCells l := rfl
theorem ruCells_append (a b : List Ru) : ruCells (a ++ b) = ruCells a ++ ruCells b := by simp [ruCells]
theorem ruCells_len : ∀ (l : List Ru), (ruCells l).length = l.length * 5
  | [] => rfl
  | r :: l => by rw [ruCells_cons]; simp only [List.length_cons]; rw [ruCells_len l]; omega
theorem ruCells_get : ∀ (l : List Ru) (i k : Nat) (r : Ru), l[i]? = some r → k < 5 → (ruCells l)[i * 5 + k]? = r.cells[k]?
  | [], i, k, r, h, _ => by simp at h
  | x :: l, 0, k, r, h, hk => by
    simp at h
    subst h
    rw [Nat.zero_mul, Nat.zero_add]
    show (x.cells ++ ruCells l)[k]? = _
    exact List.getElem?_append_left (by simp [Ru.cells]; omega)
  | x :: l, i + 1, k, r, h, hk => by
    have := ruCells_get l i k r (by simpa using h) hk
    show (x.cells ++ ruCells l)[(i + 1) * 5 + k]? = _
    rw [List.getElem?_append_right (by simp [Ru.cells]; omega), ← this]
    congr 1
    simp [Ru.cells]
    omega
theorem ruCells_inv : ∀ (l : List Ru) (j : Nat) (u : Value), (ruCells l)[j]? = some u → ∃ r, l[j / 5]? = some r ∧ r.cells[j % 5]? = some u := by
  intro l j u h
  have hj : j < (ruCells l).length := by
    rcases Nat.lt_or_ge j (ruCells l).length with h' | h'
    · exact h'
    · rw [List.getElem?_eq_none h'] at h; cases h
  rw [ruCells_len] at hj
  have hd : j / 5 < l.length := by omega
  have hg := ruCells_get l (j / 5) (j % 5) _ (List.getElem?_eq_getElem hd) (by omega)
  rw [show j / 5 * 5 + j % 5 = j by omega, h] at hg
  exact ⟨_, List.getElem?_eq_getElem hd, hg.symm⟩
theorem ru_one (r : Ru) : ∀ y ∈ r.cells, y.oneCell' = true := by
  intro y hy
  simp [Ru.cells] at hy
  rcases hy with rfl | rfl | rfl | rfl | rfl <;> rfl
theorem ruCells_one (l : List Ru) : ∀ y ∈ ruCells l, y.oneCell' = true := by
  intro y hy
  obtain ⟨r, _, hy⟩ := List.mem_flatMap.1 hy
  exact ru_one r y hy

/-- The five cells of a rule. -/
def RuAt (w : World) (b o : Nat) (r : Ru) : Prop :=
  w.cell? ⟨b, o, none⟩ = some (.int .i64 r.id) ∧ w.cell? ⟨b, o + 1, none⟩ = some (.int .i64 r.pr) ∧ w.cell? ⟨b, o + 2, none⟩ = some (.int .i64 r.ac) ∧ w.cell? ⟨b, o + 3, none⟩ = some (.int .i64 r.sc) ∧ w.cell? ⟨b, o + 4, none⟩ = some (.string r.pat)
theorem RuAt.below {n₀ b o : Nat} {r : Ru} (h : RuAt w b o r) (hb : b < n₀) (hB : Below n₀ w w') : RuAt w' b o r :=
  ⟨(hB.cell (p := ⟨b, o, none⟩) hb).trans h.1, (hB.cell (p := ⟨b, o + 1, none⟩) hb).trans h.2.1, (hB.cell (p := ⟨b, o + 2, none⟩) hb).trans h.2.2.1, (hB.cell (p := ⟨b, o + 3, none⟩) hb).trans h.2.2.2.1, (hB.cell (p := ⟨b, o + 4, none⟩) hb).trans h.2.2.2.2⟩
theorem RuAt.get {b o : Nat} {r : Ru} (h : RuAt w b o r) (k : Nat) (u : Value) (hu : r.cells[k]? = some u) : w.cell? ⟨b, o + k, none⟩ = some u := by
  obtain ⟨h0, h1, h2, h3, h4⟩ := h
  match k, hu with
  | 0, hu => simp [Ru.cells] at hu; subst hu; exact h0
  | 1, hu => simp [Ru.cells] at hu; subst hu; exact h1
  | 2, hu => simp [Ru.cells] at hu; subst hu; exact h2
  | 3, hu => simp [Ru.cells] at hu; subst hu; exact h3
  | 4, hu => simp [Ru.cells] at hu; subst hu; exact h4
  | k + 5, hu => simp [Ru.cells] at hu
/-- A slice value that reads as a list of rules. -/
def RulesV (n₀ : Nat) (w : World) (v : Value) (l : List Ru) : Prop :=
  ∃ A cap, v = .slice A l.length cap ∧ l.length ≤ cap ∧ (l ≠ [] → ∃ b off, A = some ⟨b, off, none⟩ ∧ b < n₀ ∧ ∀ i r, l[i]? = some r → RuAt w b (off + i * 5) r)
theorem RulesV.below {n₀ : Nat} {v : Value} {l : List Ru} (h : RulesV n₀ w v l) (hB : Below n₀ w w') : RulesV n₀ w' v l := by
  obtain ⟨A, cap, hv, hc, h⟩ := h
  exact ⟨A, cap, hv, hc, fun hs => by
    obtain ⟨b, off, hA, hb, ht⟩ := h hs
    exact ⟨b, off, hA, hb, fun i r hr => (ht i r hr).below hb hB⟩⟩
theorem RulesV.more {n₀ n₁ : Nat} {v : Value} {l : List Ru} (h : RulesV n₀ w v l) (hn : n₀ ≤ n₁) : RulesV n₁ w v l := by
  obtain ⟨A, cap, hv, hc, h⟩ := h
  exact ⟨A, cap, hv, hc, fun hs => by
    obtain ⟨b, off, hA, hb, ht⟩ := h hs
    exact ⟨b, off, hA, by omega, ht⟩⟩
theorem RulesV.on {v : Value} {l : List Ru} (h : RulesV w.heap.size w v l) (hB : Below w.heap.size w w') : RulesV w'.heap.size w' v l := (h.below hB).more hB.size
theorem RulesV.nil (n₀ : Nat) (w : World) : RulesV n₀ w (.slice none 0 0) [] := ⟨none, 0, rfl, Nat.le_refl _, fun h => absurd rfl h⟩
theorem RulesV.at_ {n₀ n cap k : Nat} {A : Option Addr} {l : List Ru} (h : RulesV n₀ w (.slice A n cap) l) (hk : k < l.length) :
    ∃ b off, A = some ⟨b, off, none⟩ ∧ b < n₀ ∧ RuAt w b (off + k * 5) l[k] := by
  obtain ⟨A', cap', hv, _, h⟩ := h
  have : A = A' := by injection hv
  subst this
  obtain ⟨b, off, hA, hb, ht⟩ := h (by rintro rfl; simp at hk)
  exact ⟨b, off, hA, hb, ht k l[k] (List.getElem?_eq_getElem hk)⟩
theorem RulesV.form {n₀ : Nat} {v : Value} {l : List Ru} (h : RulesV n₀ w v l) : ∃ A cap, v = .slice A l.length cap := by
  obtain ⟨A, cap, hv, _⟩ := h
  exact ⟨A, cap, hv⟩

/-- A row of rules of the call's own. -/
def OwnU (w : World) (base : Nat) (e : TypeId) (v : Value) (l : List Ru) : Prop := w.ownsRow base e 5 v l.length (ruCells l)
theorem OwnU.nil (w : World) (base : Nat) (e : TypeId) : OwnU w base e (.slice none 0 0) [] := World.ownsRow_nil _ _ _ _
theorem OwnU.set {base : Nat} {e : TypeId} {v : Value} {l : List Ru} (h : OwnU w base e v l) : RulesV w.heap.size w v l := by
  have h0 := h
  unfold OwnU at h
  rcases h.2 with ⟨hv, hn⟩ | ⟨g, cap, cur, hv, _, _, hnc, _⟩
  · obtain rfl : l = [] := List.length_eq_zero_iff.1 hn
    subst hv
    exact RulesV.nil _ _
  · subst hv
    refine ⟨_, cap, rfl, hnc, fun _ => ⟨g, 0, rfl, (h.lt g rfl).2, fun i r hr => ?_⟩⟩
    have hadd : ∀ j, (⟨g, 0, none⟩ : Addr).add j = ⟨g, 0 + j, none⟩ := fun j => by unfold Addr.add; split <;> simp_all
    have c : ∀ k u, k < 5 → r.cells[k]? = some u → w.cell? ⟨g, 0 + (i * 5 + k), none⟩ = some u := fun k u hk hu => by
      have := h.cells (g := g) rfl _ _ ((ruCells_get l i k r hr hk).trans hu)
      rwa [hadd] at this
    exact ⟨c 0 _ (by omega) rfl, c 1 _ (by omega) rfl, c 2 _ (by omega) rfl, c 3 _ (by omega) rfl, c 4 _ (by omega) rfl⟩
theorem OwnU.on {base : Nat} {e : TypeId} {v : Value} {l : List Ru} (h : OwnU w base e v l) (hB : Below w.heap.size w w') : OwnU w' base e v l :=
  own_keep h fun i hi => hB.block i (World.ownsRow.lt h i hi.symm).2
theorem OwnU.alloc {base : Nat} {e : TypeId} {v : Value} {l : List Ru} (h : OwnU w base e v l) (o : Obj) : OwnU (w.alloc o) base e v l := World.ownsRow.alloc h o

section
variable {P : Program} (w : World)
/-- append of one rule that lies in a block of its own, onto a row of the call's own. -/
theorem wpList_append_rule {ops : Array Oper} {rest : List Oper} {o : Oper} {a : Act} {Q : Exit → Act → World → Prop} (hgd : o.guard = none) (s x : Operand) (t : TypeId)
    (ho : o.op = .call { callee := .builtin .append, args := #[s, x], argTypes := #[t, t] })
    (base : Nat) (e : TypeId) (i : TypeInfo) (z : Value) (bytes : Nat) (ht : P.underlying t = some (.slice e)) (hi : P.info? e = some i) (hz : i.zero = some z)
    (hsize : i.size = 5) (hby : i.bytes = bytes) (hzs : z.cells.size = 5) (v : Value) (xs : List Ru) (hs : a.eval s = v) (hown : OwnU w base e v xs)
    (b c : Nat) (r : Ru) (hx : a.eval x = .slice (some ⟨b, 0, none⟩) 1 c) (hr : Blk w b e #[.int .i64 r.id, .int .i64 r.pr, .int .i64 r.ac, .int .i64 r.sc, .string r.pat]) (h63 : xs.length + 1 ≤ 1000000) (hbytes : bytes ≤ 100) (hbase : base ≤ w.heap.size)
    (h : ∀ v' w', OwnU w' base e v' (xs ++ [r]) → w.grownBy w' v.ownBlock → wpList P ops Q rest (a.put o.dst v') w') : wpList P ops Q (o :: rest) a w := by
  have hm : (xs.length + 1) * bytes ≤ 1000000 * 100 := Nat.mul_le_mul h63 hbytes
  refine wpList_append_own w hgd s x t ho base e i z 5 bytes ht hi hz hsize hby hzs (by decide) v xs.length (ruCells xs) hs hown ⟨b, 0, none⟩ 1 c r.cells hx rfl (fun j u hu => ?_) (ru_one r) (by unfold maxLen; omega) (by omega) hbase fun v' w' h1 h2 _ => h v' w' ?_ h2
  · have hadd : (⟨b, 0, none⟩ : Addr).add j = ⟨b, 0 + j, none⟩ := by unfold Addr.add; split <;> simp_all
    rw [hadd, Nat.zero_add, hr.cell j, ← hu]
    rw [Ru.cells, ← List.getElem?_toArray]
  · unfold OwnU
    rw [List.length_append, ruCells_append, show ruCells [r] = r.cells by simp [ruCells]]
    exact h1
end

end Go.Proofs.YtefgobmpleoafaaGreat

/- Package rule: within, Rule.Right, all, rise, Set.Right, First. -/
namespace Go.Proofs.YtefgobmpleoafaaGreat
open Go.RowKit
variable {w w' : World}

theorem within_any (n lo hi : Int) (w : World) : Calls Tryz.prog 123 #[.int .i64 n, .int .i64 lo, .int .i64 hi] w fun e w' => e = .returned (.bool (decide (lo ≤ n ∧ n ≤ hi))) ∧ w' = w := by
  go_enter Tryz.func123, Tryz.ntmps123
  by_cases h1 : lo ≤ n
  · by_cases h2 : n ≤ hi
    · rw [decide_eq_true ⟨h1, h2⟩]
      go_wp2
      go_ret
      exact ⟨rfl, rfl⟩
    · rw [decide_eq_false (fun h => h2 h.2)]
      go_wp2
      go_ret
      exact ⟨rfl, rfl⟩
  · rw [decide_eq_false (fun h => h1 h.1)]
    go_wp2
    go_ret
    exact ⟨rfl, rfl⟩

set_option maxRecDepth 100000 in
set_option maxHeartbeats 2000000 in
theorem ruleRight_any (r : Ru) (w : World) : Calls Tryz.prog 122 #[.agg #[.int .i64 r.id, .int .i64 r.pr, .int .i64 r.ac, .int .i64 r.sc, .string r.pat]] w fun e w' => e = .returned (.bool r.ok) ∧ Below w.heap.size w w' := by
  obtain ⟨id, pr, ac, sc, pat⟩ := r
  simp only
  have hb := (Below.refl w.heap.size w).alloc (Nat.le_refl _) (.cells #[.int .i64 id, .int .i64 pr, .int .i64 ac, .int .i64 sc, .string pat] 114)
  have HB := Lib.hid hb
  clear hb
  obtain ⟨k, hk⟩ : ∃ k, k = Ru.ok ⟨id, pr, ac, sc, pat⟩ := ⟨_, rfl⟩
  rw [← hk]
  have c1 := within_any id 1 1099511627776
  have c2 := within_any pr 0 1000
  have c3 := within_any ac 0 255
  have c4 := within_any sc 1 65535
  have hok : Ru.ok ⟨id, pr, ac, sc, pat⟩ = (decide (1 ≤ id ∧ id ≤ 1099511627776) && decide (0 ≤ pr ∧ pr ≤ 1000) && decide (0 ≤ ac ∧ ac ≤ 255) && decide (1 ≤ sc ∧ sc ≤ 65535) && decide (pat.size ≤ 256)) := by
    simp only [Ru.ok, ← Bool.decide_and]
    congr 1
    simp only [eq_iff_iff]
    omega
  rw [hok] at hk
  clear hok
  generalize decide (1 ≤ id ∧ id ≤ 1099511627776) = b1 at c1 hk
  generalize decide (0 ≤ pr ∧ pr ≤ 1000) = b2 at c2 hk
  generalize decide (0 ≤ ac ∧ ac ≤ 255) = b3 at c3 hk
  generalize decide (1 ≤ sc ∧ sc ≤ 65535) = b4 at c4 hk
  have C1 := Lib.hid c1
  have C2 := Lib.hid c2
  have C3 := Lib.hid c3
  have C4 := Lib.hid c4
  clear c1 c2 c3 c4
  have fin : ∀ {b : Bool} {w1 : World}, b = k → w1 = w.alloc (.cells #[.int .i64 id, .int .i64 pr, .int .i64 ac, .int .i64 sc, .string pat] 114) → Ending.returned (.bool b) = Ending.returned (.bool k) ∧ Below w.heap.size w w1 := fun e e' => ⟨by rw [e], by rw [e']; exact HB.out⟩
  cases b1 with
  | false =>
    go_enter Tryz.func122, Tryz.ntmps122
    go_wp2_with fail
    refine (C1.out _).mono ?_
    rintro e w1 ⟨rfl, rfl⟩
    go_wp2
    go_ret
    exact fin (by rw [hk]; rfl) rfl
  | true =>
  cases b2 with
  | false =>
    go_enter Tryz.func122, Tryz.ntmps122
    go_wp2_with fail
    refine (C1.out _).mono ?_
    rintro e w1 ⟨rfl, rfl⟩
    go_wp2_with fail
    refine (C2.out _).mono ?_
    rintro e w1 ⟨rfl, rfl⟩
    go_wp2
    go_ret
    exact fin (by rw [hk]; rfl) rfl
  | true =>
  cases b3 with
  | false =>
    go_enter Tryz.func122, Tryz.ntmps122
    go_wp2_with fail
    refine (C1.out _).mono ?_
    rintro e w1 ⟨rfl, rfl⟩
    go_wp2_with fail
    refine (C2.out _).mono ?_
    rintro e w1 ⟨rfl, rfl⟩
    go_wp2_with fail
    refine (C3.out _).mono ?_
    rintro e w1 ⟨rfl, rfl⟩
    go_wp2
    go_ret
    exact fin (by rw [hk]; rfl) rfl
  | true =>
  cases b4 with
  | false =>
    go_enter Tryz.func122, Tryz.ntmps122
    go_wp2_with fail
    refine (C1.out _).mono ?_
    rintro e w1 ⟨rfl, rfl⟩
    go_wp2_with fail
    refine (C2.out _).mono ?_
    rintro e w1 ⟨rfl, rfl⟩
    go_wp2_with fail
    refine (C3.out _).mono ?_
    rintro e w1 ⟨rfl, rfl⟩
    go_wp2_with fail
    refine (C4.out _).mono ?_
    rintro e w1 ⟨rfl, rfl⟩
    go_wp2
    go_ret
    exact fin (by rw [hk]; rfl) rfl
  | true =>
    by_cases h5 : pat.size ≤ 256
    · have h5i : (pat.size : Int) ≤ 256 := by omega
      rw [decide_eq_true h5] at hk
      go_enter Tryz.func122, Tryz.ntmps122
      go_wp2_with fail
      refine (C1.out _).mono ?_
      rintro e w1 ⟨rfl, rfl⟩
      go_wp2_with fail
      refine (C2.out _).mono ?_
      rintro e w1 ⟨rfl, rfl⟩
      go_wp2_with fail
      refine (C3.out _).mono ?_
      rintro e w1 ⟨rfl, rfl⟩
      go_wp2_with fail
      refine (C4.out _).mono ?_
      rintro e w1 ⟨rfl, rfl⟩
      go_wp2
      go_ret
      exact fin (by rw [hk]; rfl) rfl
    · have h5i : ¬ (pat.size : Int) ≤ 256 := by omega
      rw [decide_eq_false h5] at hk
      go_enter Tryz.func122, Tryz.ntmps122
      go_wp2_with fail
      refine (C1.out _).mono ?_
      rintro e w1 ⟨rfl, rfl⟩
      go_wp2_with fail
      refine (C2.out _).mono ?_
      rintro e w1 ⟨rfl, rfl⟩
      go_wp2_with fail
      refine (C3.out _).mono ?_
      rintro e w1 ⟨rfl, rfl⟩
      go_wp2_with fail
      refine (C4.out _).mono ?_
      rintro e w1 ⟨rfl, rfl⟩
      go_wp2
      go_ret
      exact fin (by rw [hk, decide_eq_false (by omega)]; rfl) rfl

end Go.Proofs.YtefgobmpleoafaaGreat

/- Package rule: all, rise. -/
namespace Go.Proofs.YtefgobmpleoafaaGreat
open Go.RowKit
variable {w w' : World}

theorem all_take_succ {l : List Ru} {k : Nat} {r : Ru} (h : l[k]? = some r) : (l.take (k + 1)).all Ru.ok = ((l.take k).all Ru.ok && r.ok) := by
  obtain ⟨hk, rfl⟩ := List.getElem?_eq_some_iff.1 h
  rw [List.take_succ_eq_append_getElem hk, List.all_append]
  simp
theorem all_false {l : List Ru} {k : Nat} {r : Ru} (h : l[k]? = some r) (hr : r.ok = false) : l.all Ru.ok = false := by
  rw [List.all_eq_false]
  exact ⟨r, List.mem_of_getElem? h, by simp [hr]⟩

end Go.Proofs.YtefgobmpleoafaaGreat

