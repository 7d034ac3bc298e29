/- Package rule: Apply. -/
import Derived.Test.YtifpfpgibjmibaaRuD
import Derived.Test.YtifpfpgibjmibaaRuH
namespace Go.Proofs.Ytifpfpgibjmibaa
open Go.RowKit Go.Maps
variable {w w' : World}

section
variable {s : RS} {d : Dl}
theorem applyM_form (h : ¬ s.Ok) : applyM s d = (.zero, 10) := by unfold applyM; rw [if_pos h]
theorem applyM_rule (h : s.Ok) (h2 : (nums s d).num = false ∨ ∃ r ∈ d.put, r.ok = false) : applyM s d = (.zero, 30) := by unfold applyM; rw [if_neg (by simpa using h), if_pos h2]
theorem applyM_twice (h : s.Ok) (h2 : ¬ ((nums s d).num = false ∨ ∃ r ∈ d.put, r.ok = false)) (h3 : ¬ d.ids.Nodup) : applyM s d = (.zero, 31) := by unfold applyM; rw [if_neg (by simpa using h), if_neg h2, if_pos h3]
theorem applyM_none (h : s.Ok) (h2 : ¬ ((nums s d).num = false ∨ ∃ r ∈ d.put, r.ok = false)) (h3 : d.ids.Nodup) (h4 : ∃ i ∈ d.drop, i ∉ s.rs.map Ru.id) : applyM s d = (.zero, 32) := by
  unfold applyM; rw [if_neg (by simpa using h), if_neg h2, if_neg (by simpa using h3), if_pos h4]
theorem applyM_full (h : s.Ok) (h2 : ¬ ((nums s d).num = false ∨ ∃ r ∈ d.put, r.ok = false)) (h3 : d.ids.Nodup) (h4 : ∀ i ∈ d.drop, i ∈ s.rs.map Ru.id) (h5 : 16 < (after s d).length) : applyM s d = (.zero, 33) := by
  unfold applyM; rw [if_neg (by simpa using h), if_neg h2, if_neg (by simpa using h3), if_neg (fun ⟨i, a, b⟩ => b (h4 i a)), if_pos h5]
theorem applyM_ok (h : s.Ok) (h2 : ¬ ((nums s d).num = false ∨ ∃ r ∈ d.put, r.ok = false)) (h3 : d.ids.Nodup) (h4 : ∀ i ∈ d.drop, i ∈ s.rs.map Ru.id) (h5 : ¬ 16 < (after s d).length) : applyM s d = ({ nums s d with rs := after s d }, 0) := by
  unfold applyM; rw [if_neg (by simpa using h), if_neg h2, if_neg (by simpa using h3), if_neg (fun ⟨i, a, b⟩ => b (h4 i a)), if_neg h5]
theorem nums_Ok : (nums s d).Ok ↔ (nums s d).num = true := by
  unfold RS.Ok
  constructor
  · exact fun h => h.1
  · exact fun h => ⟨h, by simp [nums], by simp [nums], by simp [nums]⟩
end
theorem Far.mono {a b : Nat} {v : Value} (h : Far a v) (hb : b ≤ a) : Far b v := fun k hk => Nat.le_trans hb (h k hk)
theorem Far.nil (a : Nat) : Far a (.slice none 0 0) := fun b h => by simp [Value.ownBlock] at h
theorem RulesV.store {n base g i : Nat} {v u : Value} {l : List Ru} (h : RulesV n w v l) (hf : Far base v) (hg : g < base) : RulesV n (w.setCell ⟨g, i, none⟩ u) v l := by
  obtain ⟨A, cap, rfl, hc, h⟩ := h
  refine ⟨A, cap, rfl, hc, fun hs => ?_⟩
  obtain ⟨b, off, rfl, hb, ht⟩ := h hs
  have hbb := hf b rfl
  have hne : b ≠ g := by omega
  have e : ∀ o, (w.setCell ⟨g, i, none⟩ u).cell? ⟨b, o, none⟩ = w.cell? ⟨b, o, none⟩ := fun o => by
    have := Below.heap_setCell w ⟨g, i, none⟩ u b hne
    unfold World.cell?
    rw [this]
  exact ⟨b, off, rfl, hb, fun j r hr => by
    obtain ⟨h0, h1, h2, h3, h4⟩ := ht j r hr
    exact ⟨(e _).trans h0, (e _).trans h1, (e _).trans h2, (e _).trans h3, (e _).trans h4⟩⟩
theorem Blk.c5 {g : Nat} {t : TypeId} {x0 x1 x2 x3 x4 : Value} (h : Blk w g t #[x0, x1, x2, x3, x4]) : w.cell? ⟨g, 0, none⟩ = some x0 ∧ w.cell? ⟨g, 1, none⟩ = some x1 ∧ w.cell? ⟨g, 2, none⟩ = some x2 ∧ w.cell? ⟨g, 3, none⟩ = some x3 ∧ w.cell? ⟨g, 4, none⟩ = some x4 :=
  ⟨h.cell 0, h.cell 1, h.cell 2, h.cell 3, h.cell 4⟩
theorem Blk.c6 {g : Nat} {t : TypeId} {x0 x1 x2 x3 x4 x5 : Value} (h : Blk w g t #[x0, x1, x2, x3, x4, x5]) : w.cell? ⟨g, 0, none⟩ = some x0 ∧ w.cell? ⟨g, 1, none⟩ = some x1 ∧ w.cell? ⟨g, 2, none⟩ = some x2 ∧ w.cell? ⟨g, 3, none⟩ = some x3 ∧ w.cell? ⟨g, 4, none⟩ = some x4 ∧ w.cell? ⟨g, 5, none⟩ = some x5 :=
  ⟨h.cell 0, h.cell 1, h.cell 2, h.cell 3, h.cell 4, h.cell 5⟩
theorem Blk.f5 {g : Nat} {t : TypeId} {cs : Array Value} (h : Blk w g t cs) : w.frozen? ⟨g, 0, none⟩ = false ∧ w.frozen? ⟨g, 1, none⟩ = false ∧ w.frozen? ⟨g, 2, none⟩ = false ∧ w.frozen? ⟨g, 3, none⟩ = false ∧ w.frozen? ⟨g, 4, none⟩ = false :=
  ⟨h.frozen 0, h.frozen 1, h.frozen 2, h.frozen 3, h.frozen 4⟩

theorem Blk.at_new (w : World) (g : Nat) (hg : g = w.heap.size) (t : TypeId) (cs : Array Value) : Blk (w.alloc (.cells cs t)) g t cs := by
  subst hg
  exact Blk.new _ _ _

theorem ru_take {l : List Ru} {k : Nat} {r : Ru} (h : l[k]? = some r) : l.take (k + 1) = l.take k ++ [r] := by
  obtain ⟨hk, rfl⟩ := List.getElem?_eq_some_iff.1 h
  rw [List.take_succ_eq_append_getElem hk]

theorem zeroRu (w : World) : (zeroValue 44).run Try.prog w = .ok (.agg #[.int .i64 0, .int .i64 0, .int .i64 0, .int .i64 0, .string ⟨#[]⟩]) w := by kernel_rfl
/-- 'v, ok := m[k]' of a map of rules, the rule's shape written out -/
theorem wpList_lookup_ru (w : World) {ops : Array Oper} {rest : List Oper} {o : Oper} {a : Act} {Q : Exit → Act → World → Prop} (hg : o.guard = none) (m x : Operand) (hop : o.op = Op.lookup 53 m x true) (b n : Nat) (L : List Ru)
    (hm : a.eval m = .map (some b)) (hown : w.ownsMap Try.prog 3 ruR b n (dm L)) (z : Int) (hx : a.eval x = .int .i64 z) (hz : (Lit.int .i64 z).wf = true)
    (hK : ∀ r : Ru, r = look L z → wpList Try.prog ops Q rest (a.put o.dst (.tuple #[.agg #[.int .i64 r.id, .int .i64 r.pr, .int .i64 r.ac, .int .i64 r.sc, .string r.pat], .bool (decide (z ∈ L.map Ru.id))])) w) :
    wpList Try.prog ops Q (o :: rest) a w :=
  wpList_lookup_own_ok w hg m x 53 hop 3 44 (int_keyed Try.underlying3) Try.underlying53 ruR (zeroRu w) (.held .none) [] rfl b n (dm L) hm hown _ _ hx (keyI z hz) (fun v ps hv => by
    obtain ⟨r, rfl, he⟩ := ruR_inv hv
    rw [dm_atKey] at he
    obtain ⟨h1, _⟩ := Prod.mk.inj he
    rw [dm_has]
    exact hK r (by injection h1 with h1; exact h1.symm))

end Go.Proofs.Ytifpfpgibjmibaa
