/- Joined: RuK, RuM, RuP, RuO, RuW, RuA, RuB, RuC, RuD. -/
import Derived.Test.YtefgobmpleoafaaGreatDoorChecked
import Derived.WalkKit
import Derived.WalkSpells
import Derived.WalkLawsBesides
import Derived.Outline
import Derived.Below
import Derived.Laws.OwnMore
import Derived.Laws.Rows
import Derived.Deep.Draws
import Derived.Deep.AppendLies
import Derived.Deep.Onto
import Derived.Maps.AppendAt
import Derived.Lib.Hide
import Derived.OwnWalk
import Derived.Test.YtefgobmpleoafaaGreatDoorJPa
import Derived.Test.YtefgobmpleoafaaGreatDoorJWo
import Derived.Maps.OwnSet
import Derived.Maps.Views
import Derived.Sort.LotA
import Derived.StillTailTactics
/- Words for memory of no program of its own: a block that is known whole, rows of the call's own, append. (Out of the texts of stages 1 to 6.) -/
namespace Go.Proofs.YtefgobmpleoafaaGreatDoor
open Go.RowKit

theorem below_call {B : Nat} {a w w1 : World} {o : Obj} (h : Below B a w) (hB : B ≤ w.heap.size) (h1 : Below (w.alloc o).heap.size (w.alloc o) w1) : Below B a w1 :=
  (h.alloc hB o).trans (h1.mono (by simp; omega))
theorem Below.drewN' {B : Nat} {a w : World} (h : Below B a w) (n : Nat) : Below B a (w.drewN n) := ⟨h.os, h.tape, h.output, h.size, h.block⟩
theorem info_three {P : Program} {e : TypeId} {z : Value} {s b : Nat} (h : (P.info? e).map (fun i => (i.zero, i.size, i.bytes)) = some (some z, s, b)) : ∃ i, P.info? e = some i ∧ i.zero = some z ∧ i.size = s ∧ i.bytes = b := by
  obtain ⟨i, hi, h⟩ := Option.map_eq_some_iff.1 h
  simp only [Prod.mk.injEq] at h
  exact ⟨i, hi, h.1, h.2.1, h.2.2⟩
theorem ret_int {k : IntKind} {a b : Int} (h : a = b) : Ending.returned (.int k a) = .returned (.int k b) := by rw [h]
section
variable {w w' : World} {g : Nat} {t : TypeId} {cs : Array Value}
theorem own_kept {base n : Nat} {e : TypeId} {size : Nat} {v : Value} {xs : List Value} (h : w.ownsRow base e size v n xs) (hk : ∀ i, i < w.heap.size → base ≤ i → (∃ cs z, w.heap[i]? = some (.cells cs e z)) → w'.heap[i]? = w.heap[i]?) : w'.ownsRow base e size v n xs :=
  own_keep h fun i hi => by
    rcases h.2 with ⟨rfl, _⟩ | ⟨g, cap, cur, rfl, hb, hh, _⟩
    · simp [Value.ownBlock] at hi
    · obtain rfl : i = g := by simpa [Value.ownBlock] using hi
      exact hk i (lt_of_some hh) hb ⟨cur, _, hh⟩
theorem own_at {base n : Nat} {e : TypeId} {size : Nat} {v : Value} {xs : List Value} (h : w.ownsRow base e size v n xs) : (v = .slice none 0 0 ∧ n = 0) ∨ ∃ g c, v = .slice (some ⟨g, 0, none⟩) n c ∧ n ≤ c ∧ base ≤ g ∧ (∃ cs z, w.heap[g]? = some (.cells cs e z)) ∧ (∀ j, j < n * size → w.cell? ⟨g, j, none⟩ = xs[j]?) ∧ ∀ j, w.frozen? ⟨g, j, none⟩ = false := by
  rcases h.2 with h0 | ⟨g, c, cur, rfl, hb, hh, hn, _⟩
  · exact .inl h0
  · exact .inr ⟨g, c, rfl, hn, hb, ⟨cur, _, hh⟩, fun j hj => World.ownsRow.cellAt h j hj, fun j => World.ownsRow.frozenAt h j⟩
end
def zI (l : List Int) : List Value := l.map (Value.int .i64)
theorem zI_get {l : List Int} {i : Nat} {u : Int} (h : l[i]? = some u) : (zI l)[i]? = some (.int .i64 u) := by simp [zI, h]
section
variable {P : Program} (w : World)
end
end Go.Proofs.YtefgobmpleoafaaGreatDoor

/- Layer 7's rules, sets and changes, as functions; rules by ID as a map's datum. -/
namespace Go.Proofs.YtefgobmpleoafaaGreatDoor

structure Ru where
  id : Int
  pr : Int
  ac : Int
  sc : Int
  pat : ByteArray

def Ru.cells (r : Ru) : List Value := [.int .i64 r.id, .int .i64 r.pr, .int .i64 r.ac, .int .i64 r.sc, .string r.pat]
def Ru.val (r : Ru) : Value := .agg #[.int .i64 r.id, .int .i64 r.pr, .int .i64 r.ac, .int .i64 r.sc, .string r.pat]
def Ru.none : Ru := ⟨0, 0, 0, 0, .empty⟩
theorem Ru.inj {r s : Ru} (h : r.val = s.val) : r = s := by
  cases r; cases s; simp [Ru.val] at h; simpa using h
def Ru.ok (r : Ru) : Bool := decide (1 ≤ r.id ∧ r.id ≤ 1099511627776 ∧ 0 ≤ r.pr ∧ r.pr ≤ 1000 ∧ 0 ≤ r.ac ∧ r.ac ≤ 255 ∧ 1 ≤ r.sc ∧ r.sc ≤ 65535 ∧ r.pat.size ≤ 256)

structure RS where
  de : Int
  cl : Int
  fu : Int
  st : Int
  rs : List Ru
def RS.zero : RS := ⟨0, 0, 0, 0, []⟩
def RS.first : RS := ⟨0, 255, 10000, 500, []⟩
def RS.num (s : RS) : Bool := decide (0 ≤ s.de ∧ s.de ≤ 255 ∧ 0 ≤ s.cl ∧ s.cl ≤ 255 ∧ 1 ≤ s.fu ∧ s.fu ≤ 1048576 ∧ 0 ≤ s.st ∧ s.st ≤ 4096)
abbrev Rise (l : List Ru) : Prop := l.Pairwise fun a b => a.id < b.id
def RS.Ok (s : RS) : Prop := s.num = true ∧ s.rs.length ≤ 16 ∧ (∀ r ∈ s.rs, r.ok = true) ∧ Rise s.rs
instance (s : RS) : Decidable s.Ok := by unfold RS.Ok; infer_instance

structure Dl where
  de : Int
  cl : Int
  fu : Int
  st : Int
  put : List Ru
  drop : List Int
def orK (n keep : Int) : Int := if n = -1 then keep else n
def nums (s : RS) (d : Dl) : RS := ⟨orK d.de s.de, orK d.cl s.cl, orK d.fu s.fu, orK d.st s.st, []⟩
/-- a rule among others, by its ID -/
def ins (r : Ru) (l : List Ru) : List Ru := l.filter (fun x => decide (x.id < r.id)) ++ r :: l.filter (fun x => decide (r.id < x.id))
def gone (i : Int) (l : List Ru) : List Ru := l.filter fun x => decide (x.id ≠ i)
def drops (l : List Ru) (ids : List Int) : List Ru := l.filter fun x => decide (x.id ∉ ids)
def puts (l : List Ru) (p : List Ru) : List Ru := p.foldl (fun l r => ins r l) l
def Dl.ids (d : Dl) : List Int := d.put.map Ru.id ++ d.drop
def after (s : RS) (d : Dl) : List Ru := puts (drops s.rs d.drop) d.put
def applyM (s : RS) (d : Dl) : RS × Int :=
  if ¬ s.Ok then (.zero, 10) else
  if (nums s d).num = false ∨ ∃ r ∈ d.put, r.ok = false then (.zero, 30) else
  if ¬ d.ids.Nodup then (.zero, 31) else
  if ∃ i ∈ d.drop, i ∉ s.rs.map Ru.id then (.zero, 32) else
  if 16 < (after s d).length then (.zero, 33) else ({ nums s d with rs := after s d }, 0)

theorem mem_ins {r x : Ru} {l : List Ru} : x ∈ ins r l ↔ x = r ∨ (x ∈ l ∧ x.id ≠ r.id) := by
  unfold ins
  simp only [List.mem_append, List.mem_cons, List.mem_filter, decide_eq_true_eq]
  constructor
  · rintro (⟨h, hl⟩ | rfl | ⟨h, hl⟩)
    · exact .inr ⟨h, by omega⟩
    · exact .inl rfl
    · exact .inr ⟨h, by omega⟩
  · rintro (rfl | ⟨h, hl⟩)
    · exact .inr (.inl rfl)
    · rcases Int.lt_or_gt_of_ne hl with h' | h'
      · exact .inl ⟨h, h'⟩
      · exact .inr (.inr ⟨h, h'⟩)
theorem Rise.ins {r : Ru} {l : List Ru} (h : Rise l) : Rise (ins r l) := by
  unfold Go.Proofs.YtefgobmpleoafaaGreatDoor.ins
  refine List.pairwise_append.2 ⟨h.filter _, List.pairwise_cons.2 ⟨fun x hx => ?_, h.filter _⟩, fun x hx y hy => ?_⟩
  · exact of_decide_eq_true (List.mem_filter.1 hx).2
  · have h1 : x.id < r.id := of_decide_eq_true (List.mem_filter.1 hx).2
    rcases List.mem_cons.1 hy with rfl | hy
    · exact h1
    · have h2 : r.id < y.id := of_decide_eq_true (List.mem_filter.1 hy).2
      omega
theorem Rise.puts {l : List Ru} (h : Rise l) : ∀ (p : List Ru), Rise (puts l p) := by
  intro p
  induction p generalizing l with
  | nil => exact h
  | cons r p ih => exact ih h.ins
theorem Rise.drops {l : List Ru} (h : Rise l) (ids : List Int) : Rise (drops l ids) := h.filter _
theorem rise_ext : ∀ {l l' : List Ru}, Rise l → Rise l' → (∀ x, x ∈ l ↔ x ∈ l') → l = l'
  | [], [], _, _, _ => rfl
  | [], y :: _, _, _, h => by have := (h y).2 (List.mem_cons_self ..); simp at this
  | x :: _, [], _, _, h => by have := (h x).1 (List.mem_cons_self ..); simp at this
  | x :: l, y :: l', h1, h2, h => by
    obtain ⟨a1, a2⟩ := List.pairwise_cons.1 h1
    obtain ⟨b1, b2⟩ := List.pairwise_cons.1 h2
    have e : x = y := by
      rcases List.mem_cons.1 ((h x).1 (List.mem_cons_self ..)) with e | hx
      · exact e
      · rcases List.mem_cons.1 ((h y).2 (List.mem_cons_self ..)) with e | hy
        · exact e.symm
        · have := b1 x hx; have := a1 y hy; omega
    subst e
    congr 1
    refine rise_ext a2 b2 fun z => ⟨fun hz => ?_, fun hz => ?_⟩
    · rcases List.mem_cons.1 ((h z).1 (List.mem_cons_of_mem _ hz)) with e | h'
      · have := a1 z hz; rw [e] at this; omega
      · exact h'
    · rcases List.mem_cons.1 ((h z).2 (List.mem_cons_of_mem _ hz)) with e | h'
      · have := b1 z hz; rw [e] at this; omega
      · exact h'
theorem rise_inj {l : List Ru} (h : Rise l) {x y : Ru} (hx : x ∈ l) (hy : y ∈ l) (e : x.id = y.id) : x = y := by
  induction l with
  | nil => simp at hx
  | cons z l ih =>
    obtain ⟨a1, a2⟩ := List.pairwise_cons.1 h
    rcases List.mem_cons.1 hx with ex | hx'
    · rcases List.mem_cons.1 hy with ey | hy'
      · rw [ex, ey]
      · have := a1 y hy'; rw [ex] at e; omega
    · rcases List.mem_cons.1 hy with ey | hy'
      · have := a1 x hx'; rw [ey] at e; omega
      · exact ih a2 hx' hy'
theorem drops_nil (l : List Ru) : drops l [] = l := by simp [drops]
theorem drops_snoc (l : List Ru) (ids : List Int) (i : Int) : drops l (ids ++ [i]) = gone i (drops l ids) := by
  unfold drops gone
  rw [List.filter_filter]
  apply List.filter_congr
  intro x _
  simp only [List.mem_append, List.mem_singleton, not_or, ne_eq]
  rw [Bool.eq_iff_iff]
  simp [and_comm]
theorem mem_drops_ids {l : List Ru} {ids : List Int} {i : Int} (h : i ∉ ids) : i ∈ (drops l ids).map Ru.id ↔ i ∈ l.map Ru.id := by
  simp only [drops, List.mem_map, List.mem_filter, decide_eq_true_eq]
  constructor
  · rintro ⟨r, ⟨a, _⟩, e⟩; exact ⟨r, a, e⟩
  · rintro ⟨r, a, e⟩; exact ⟨r, ⟨a, by rw [e]; exact h⟩, e⟩
theorem puts_nil (l : List Ru) : puts l [] = l := rfl
theorem puts_snoc (l : List Ru) (p : List Ru) (r : Ru) : puts l (p ++ [r]) = ins r (puts l p) := by simp [puts, List.foldl_append]

/-! ### as a map's datum -/
def ruR (v : Value) : Option (DataW Ru × List MemPlace) :=
  match v with
  | .agg a => (match a.toList with | [.int .i64 i, .int .i64 p, .int .i64 c, .int .i64 s, .string t] => some (.held ⟨i, p, c, s, t⟩, []) | _ => none)
  | _ => none
theorem ruR_val (r : Ru) : ruR r.val = some (.held r, []) := rfl
theorem ruR_inv {v : Value} {z : DataW Ru × List MemPlace} (h : ruR v = some z) : ∃ r : Ru, v = r.val ∧ z = (.held r, []) := by
  unfold ruR at h
  split at h
  · rename_i a
    split at h
    · rename_i i p c s t e
      refine ⟨⟨i, p, c, s, t⟩, ?_, by cases h; rfl⟩
      unfold Ru.val
      congr 1
      exact Array.toList_inj.1 e
    · cases h
  · cases h
def dm (l : List Ru) : DataW Ru := .map (l.map fun r => (.int .i64 r.id, .held r))
theorem insert_ins {r : Ru} : ∀ {l : List Ru}, Rise l → DataW.insert ((.int .i64 r.id : Lit), (.held r : DataW Ru)) ((gone r.id l).map fun x => ((.int .i64 x.id : Lit), (.held x : DataW Ru))) = (ins r l).map fun x => (.int .i64 x.id, .held x)
  | [], _ => rfl
  | x :: l, h => by
    obtain ⟨a1, a2⟩ := List.pairwise_cons.1 h
    have ih := insert_ins a2 (r := r)
    by_cases e : x.id = r.id
    · have g : gone r.id (x :: l) = gone r.id l := by simp [gone, e]
      have i : ins r (x :: l) = ins r l := by simp [ins, e]
      rw [g, i]; exact ih
    · have g : gone r.id (x :: l) = x :: gone r.id l := by simp [gone, e]
      rw [g, List.map_cons]
      unfold DataW.insert
      by_cases hlt : r.id < x.id
      · have hg : gone r.id l = l := List.filter_eq_self.2 fun y hy => by have := a1 y hy; simp; omega
        have h1 : l.filter (fun y => decide (y.id < r.id)) = [] := List.filter_eq_nil_iff.2 fun y hy => by have := a1 y hy; simp; omega
        have h2 : l.filter (fun y => decide (r.id < y.id)) = l := List.filter_eq_self.2 fun y hy => by have := a1 y hy; simp; omega
        simp only [Lit.before, decide_eq_true_eq, hlt, if_true, hg]
        simp [ins, h1, h2, hlt, Int.lt_asymm hlt]
      · have hlt' : x.id < r.id := by omega
        simp only [Lit.before, decide_eq_true_eq, hlt, if_false, ih]
        simp [ins, hlt', hlt]
theorem dm_put {l : List Ru} (h : Rise l) (r : Ru) : (dm l).put (.int .i64 r.id) (.held r) = dm (ins r l) := by
  show DataW.map (DataW.insert _ (List.filter _ (List.map _ l))) = DataW.map _
  rw [← insert_ins h, gone, List.filter_map]
  congr 4
  funext x
  simp [Lit.sameKey]
theorem dm_del (l : List Ru) (i : Int) : (dm l).del (.int .i64 i) = dm (gone i l) := by
  show DataW.map (List.filter _ (List.map _ l)) = DataW.map (List.map _ (List.filter _ l))
  rw [List.filter_map]
  congr 3
  funext x
  simp [Lit.sameKey]
theorem dm_size (l : List Ru) : Maps.size (dm l) = l.length := by simp [dm, Maps.size]
theorem dm_has (l : List Ru) (i : Int) : Maps.has (dm l) (.int .i64 i) = decide (i ∈ l.map Ru.id) := by
  unfold dm
  rw [Maps.has_eq, List.any_map, Bool.eq_iff_iff]
  simp [Lit.sameKey]
def look (l : List Ru) (i : Int) : Ru := (l.find? fun x => decide (x.id = i)).getD .none
theorem dm_atKey (l : List Ru) (i : Int) : (dm l).atKey (.int .i64 i) (.held .none) = .held (look l i) := by
  unfold dm DataW.atKey look
  simp only [List.find?_map]
  have : ((fun p : Lit × DataW Ru => p.1.sameKey (.int .i64 i)) ∘ fun r : Ru => ((.int .i64 r.id : Lit), (.held r : DataW Ru))) = fun x : Ru => decide (x.id = i) := by
    funext x; simp [Lit.sameKey]
  rw [this]
  cases l.find? fun x => decide (x.id = i) <;> rfl
theorem dm_nil : dm [] = .map [] := rfl

end Go.Proofs.YtefgobmpleoafaaGreatDoor

/- Of layer 7, without a program: the document's put, IDs that are twice, a sort that keeps equals as they stand. -/
namespace Go.Proofs.YtefgobmpleoafaaGreatDoor

theorem ins_end {r : Ru} {l : List Ru} (h : ∀ x ∈ l, x.id < r.id) : ins r l = l ++ [r] := by
  unfold ins
  rw [List.filter_eq_self.2 fun x hx => by simpa using h x hx, List.filter_eq_nil_iff.2 fun x hx => by have := h x hx; simp; omega]
theorem ins_same {r x : Ru} {l : List Ru} (h : ∀ y ∈ l, y.id < r.id) (e : x.id = r.id) : ins r (l ++ [x]) = l ++ [r] := by
  rw [← ins_end h]
  unfold ins
  rw [List.filter_append, List.filter_append]
  simp [e]
theorem ins_above {r x : Ru} {l : List Ru} (h : r.id < x.id) : ins r (l ++ [x]) = ins r l ++ [x] := by
  unfold ins
  rw [List.filter_append, List.filter_append]
  have : ¬ x.id < r.id := by omega
  simp [h, this]
theorem ins_len (r : Ru) (l : List Ru) : (ins r l).length ≤ l.length + 1 := by
  unfold ins
  rw [List.length_append, List.length_cons]
  have h1 : (l.filter fun x => decide (x.id < r.id)).length + (l.filter fun x => !decide (x.id < r.id)).length = l.length := by
    induction l with
    | nil => rfl
    | cons x l ih =>
      by_cases h : x.id < r.id
      · simp [h] at ih ⊢; omega
      · simp [h] at ih ⊢; omega
  have h2 : (l.filter fun x => decide (r.id < x.id)).length ≤ (l.filter fun x => !decide (x.id < r.id)).length := by
    have : (l.filter fun x => decide (r.id < x.id)) = (l.filter fun x => !decide (x.id < r.id)).filter fun x => decide (r.id < x.id) := by
      rw [List.filter_filter]
      apply List.filter_congr
      intro x _
      by_cases h : r.id < x.id
      · have : ¬ x.id < r.id := by omega
        simp [h, this]
      · simp [h]
    rw [this]
    exact List.length_filter_le _ _
  omega
theorem puts_len (p : List Ru) : ∀ (l : List Ru), (puts l p).length ≤ l.length + p.length := by
  induction p with
  | nil => intro l; simp [puts]
  | cons r p ih => intro l; have h1 := ih (ins r l); have h2 := ins_len r l; simp only [puts, List.foldl_cons, List.length_cons] at h1 ⊢; omega

/-! ### IDs -/
theorem nodup_snoc {l : List Int} {x : Int} : (l ++ [x]).Nodup ↔ l.Nodup ∧ x ∉ l := by
  rw [List.nodup_append]
  constructor
  · rintro ⟨h1, _, h3⟩
    exact ⟨h1, fun h => h3 x h x (by simp) rfl⟩
  · rintro ⟨h1, h2⟩
    exact ⟨h1, by simp, fun a ha b hb e => by rw [List.mem_singleton.1 hb] at e; exact h2 (e ▸ ha)⟩
def lits (l : List Int) : List Lit := l.map fun i => .int .i64 i
theorem size_named (u : DataW Unit) : ∀ (l : List Int), Maps.size (Maps.setOf u (lits l)) ≤ l.length ∧ (Maps.size (Maps.setOf u (lits l)) = l.length ↔ l.Nodup) := by
  intro l
  generalize hn : l.length = n
  induction n generalizing l with
  | zero =>
    obtain rfl := List.eq_nil_of_length_eq_zero hn
    simp [lits, Maps.setOf, Maps.size]
  | succ n ih =>
    rcases List.eq_nil_or_concat l with rfl | ⟨m, x, rfl⟩
    · simp at hn
    · have hm : m.length = n := by simpa using hn
      obtain ⟨i1, i2⟩ := ih m hm
      have hk : ∀ y ∈ lits m, WideAt.IsKeyLit y := fun y hy => by obtain ⟨z, _, rfl⟩ := List.mem_map.1 hy; trivial
      have e : Maps.setOf u (lits (m ++ [x])) = (Maps.setOf u (lits m)).put (.int .i64 x) u := by
        rw [lits, List.map_append]; exact Maps.setOf_snoc u _ _
      rw [List.concat_eq_append, e, Maps.size_put (Maps.tidy_setOf u _ hk), Maps.has_setOf u _ _ hk, nodup_snoc]
      have hany : (lits m).any (fun y => y.sameKey (.int .i64 x)) = decide (x ∈ m) := by
        rw [Bool.eq_iff_iff]
        simp [lits, Lit.sameKey]
      rw [hany]
      by_cases h : x ∈ m
      · simp only [h, decide_true, if_true, not_true, and_false, iff_false]
        omega
      · simp only [h, decide_false, not_false_eq_true, and_true, ← i2]
        rw [if_neg (by simp)]
        omega

/-! ### a sort that keeps equals -/
open Go.Sort in
theorem insInner_eq {lt lt2 : Int → Int → Bool} (a : Nat) : ∀ (j : Nat) (d : Array Int), j < d.size → (∀ k, k < j → lt d[j]! d[k]! = lt2 d[j]! d[k]!) → insInner lt a j d = insInner lt2 a j d
  | 0, _, _, _ => rfl
  | j + 1, d, hj, h => by
    unfold insInner
    rw [h j (by omega)]
    split
    · refine insInner_eq a j _ (by simp [swp]; omega) fun k hk => ?_
      have e1 : (swp d (j + 1) j)[j]! = d[j + 1]! := by
        exact swp_right d (j + 1) j (by omega)
      have e2 : (swp d (j + 1) j)[k]! = d[k]! := by
        exact swp_other d (j + 1) j k (by omega) (by omega)
      rw [e1, e2]
      exact h k (by omega)
    · rfl

open Go.Sort in
theorem insOuter_eq {lt lt2 : Int → Int → Bool} (hS : SWO lt2) (hlt : ∀ x y, y < x → lt x y = lt2 x y) : ∀ (n i b : Nat) (d : Array Int), b - i = n → 0 < i → i ≤ b → b ≤ d.size → SortedIn lt2 0 i d → (∀ k p, k < i → i ≤ p → p < b → d[k]! < d[p]!) → (∀ k p, i ≤ k → k < p → p < b → d[k]! < d[p]!) →
    insOuter lt 0 b i d = insOuter lt2 0 b i d
  | 0, i, b, d, hn, _, hib, _, _, _, _ => by
    obtain rfl : i = b := by omega
    rw [insOuter, if_neg (by omega), insOuter, if_neg (by omega)]
  | n + 1, i, b, d, hn, h0, hib, hb, hs, hk, hr => by
    have hlt' : i < b := by omega
    rw [insOuter, if_pos hlt']
    conv => rhs; rw [insOuter, if_pos hlt']
    have e : insInner lt 0 i d = insInner lt2 0 i d := insInner_eq 0 i d (by omega) fun k h => hlt _ _ (hk k i h (Nat.le_refl _) hlt')
    rw [e]
    have h1 := insInner_spec hS swp_permIn permIn_refl permIn_trans 0 (i + 1) i (by omega) i d (Nat.zero_le _) (Nat.le_refl _) (by omega) ⟨fun p q _ hpq hqi _ hq => hs p q (Nat.zero_le _) hpq (by omega), fun q h1 h2 => by omega⟩
    obtain ⟨⟨p1, p2, p3⟩, h2⟩ := h1
    refine insOuter_eq hS hlt n (i + 1) b _ (by omega) (by omega) (by omega) (by rw [p1]; exact hb) h2 (fun k p hk1 hp1 hpb => ?_) (fun k p hk1 hp1 hpb => ?_)
    · rw [p2 p (.inr (by omega))]
      have := permIn_all d (insInner lt2 0 i d) 0 (i + 1) (fun x => x < d[p]!) (by omega) ⟨p1, p2, p3⟩ (fun q _ hq => by
        by_cases e : q = i
        · rw [e]; exact hr i p (Nat.le_refl _) (by omega) hpb
        · exact hk q p (by omega) (by omega) hpb)
      exact this k (Nat.zero_le _) hk1
    · rw [p2 p (.inr (by omega)), p2 k (.inr (by omega))]
      exact hr k p (by omega) hp1 hpb
/-- by falling keys, equals as they stand: sorted by key and place -/
def lexI (f : Int → Int) (x y : Int) : Bool := decide (f y < f x ∨ (f x = f y ∧ x < y))
theorem lex_swo (f : Int → Int) : Sort.SWO (lexI f) where
  irrefl x := by simp [lexI]
  trans x y z h1 h2 := by simp only [lexI, decide_eq_true_eq] at *; omega
  ntrans x y z h1 h2 := by simp only [lexI, decide_eq_false_iff_not] at *; omega
theorem stable {lt : Int → Int → Bool} {f : Int → Int} (hlt : ∀ x y, lt x y = decide (f y < f x)) {d : Array Int} (hd : ∀ k p, k < p → p < d.size → d[k]! < d[p]!) :
    Sort.PermIn 0 d.size d (Sort.insertionSort lt d 0 d.size) ∧ Sort.SortedIn (lexI f) 0 d.size (Sort.insertionSort lt d 0 d.size) := by
  have e : Sort.insertionSort lt d 0 d.size = Sort.insertionSort (lexI f) d 0 d.size := by
    unfold Sort.insertionSort
    by_cases h : d.size = 0
    · rw [h, Sort.insOuter, if_neg (by omega), Sort.insOuter, if_neg (by omega)]
    · refine insOuter_eq (lex_swo f) (fun x y h => ?_) _ 1 d.size d rfl (by omega) (by omega) (Nat.le_refl _) (fun i j _ h1 h2 => by omega) (fun k p h1 _ h2 => hd k p (by omega) h2) (fun k p _ h1 h2 => hd k p h1 h2)
      rw [hlt]
      unfold lexI
      rw [Bool.eq_iff_iff, decide_eq_true_eq, decide_eq_true_eq]
      omega
  rw [e]
  exact Sort.insertionSort_holds (lex_swo f) d 0 d.size (Nat.zero_le _) (Nat.le_refl _)

end Go.Proofs.YtefgobmpleoafaaGreatDoor

/- Of layer 7, without a program: the order of a scope's rules, as the document has it, and that there is one such order. -/
namespace Go.Proofs.YtefgobmpleoafaaGreatDoor

variable {l : List Ru} {hs : Ru → Bool}
/-- does the rule at a place come, and with which priority? -/
def prAt (l : List Ru) (x : Int) : Int := ((l[x.toNat]?).getD .none).pr
def hasAt (l : List Ru) (hs : Ru → Bool) (i : Nat) : Bool := match l[i]? with | some r => hs r | none => false
def rowP (l : List Ru) (hs : Ru → Bool) (p : Int) (n : Nat) : List Int := ((List.range n).filter fun i : Nat => decide (prAt l i = p) && hasAt l hs i).map fun i : Nat => (i : Int)
/-- the document's: priorities from 1000 down; n of them -/
def ordR (l : List Ru) (hs : Ru → Bool) : Nat → List Int
  | 0 => []
  | n + 1 => ordR l hs n ++ rowP l hs (1000 - n) l.length
def picked (l : List Ru) (hs : Ru → Bool) (n : Nat) : List Int := ((List.range n).filter fun i => hasAt l hs i).map fun i : Nat => (i : Int)
theorem rowP_succ {p : Int} {n : Nat} : rowP l hs p (n + 1) = rowP l hs p n ++ (if prAt l n = p ∧ hasAt l hs n = true then [(n : Int)] else []) := by
  unfold rowP
  rw [List.range_succ, List.filter_append, List.map_append]
  congr 1
  by_cases h : prAt l n = p ∧ hasAt l hs n = true
  · simp [h.1, h.2]
  · rw [if_neg h]
    rw [List.filter_cons_of_neg (by simpa using h)]
    rfl
theorem picked_succ {n : Nat} : picked l hs (n + 1) = picked l hs n ++ (if hasAt l hs n = true then [(n : Int)] else []) := by
  unfold picked
  rw [List.range_succ, List.filter_append, List.map_append]
  congr 1
  by_cases h : hasAt l hs n = true
  · simp [h]
  · rw [if_neg h, List.filter_cons_of_neg (by simpa using h)]
    rfl
theorem picked_len {n : Nat} : (picked l hs n).length ≤ n := by
  unfold picked
  rw [List.length_map]
  exact Nat.le_trans (List.length_filter_le _ _) (by simp)
theorem picked_rise {n : Nat} : (picked l hs n).Pairwise (· < ·) := by
  unfold picked
  rw [List.pairwise_map]
  exact (List.pairwise_lt_range.filter _).imp fun h => by omega
theorem mem_picked {n : Nat} {x : Int} : x ∈ picked l hs n ↔ ∃ i : Nat, x = i ∧ i < n ∧ hasAt l hs i = true := by
  unfold picked
  simp only [List.mem_map, List.mem_filter, List.mem_range]
  constructor
  · rintro ⟨i, ⟨h1, h2⟩, rfl⟩; exact ⟨i, rfl, h1, h2⟩
  · rintro ⟨i, rfl, h1, h2⟩; exact ⟨i, ⟨h1, h2⟩, rfl⟩
theorem mem_rowP {p x : Int} {n : Nat} : x ∈ rowP l hs p n ↔ ∃ i : Nat, x = i ∧ i < n ∧ prAt l i = p ∧ hasAt l hs i = true := by
  unfold rowP
  simp only [List.mem_map, List.mem_filter, List.mem_range, Bool.and_eq_true, decide_eq_true_eq]
  constructor
  · rintro ⟨i, ⟨h1, h2⟩, rfl⟩; exact ⟨i, rfl, h1, h2⟩
  · rintro ⟨i, rfl, h1, h2⟩; exact ⟨i, ⟨h1, h2⟩, rfl⟩
theorem mem_ordR {x : Int} : ∀ {n : Nat}, x ∈ ordR l hs n ↔ ∃ i : Nat, x = i ∧ i < l.length ∧ hasAt l hs i = true ∧ prAt l i ≤ 1000 ∧ 1000 - (n : Int) < prAt l i
  | 0 => by simp only [ordR, List.not_mem_nil, false_iff]; rintro ⟨i, _, _, _, h1, h2⟩; simp at h2; omega
  | n + 1 => by
    rw [ordR, List.mem_append, mem_ordR, mem_rowP]
    constructor
    · rintro (⟨i, e, h1, h2, h3, h4⟩ | ⟨i, e, h1, h2, h3⟩)
      · exact ⟨i, e, h1, h2, h3, by omega⟩
      · exact ⟨i, e, h1, h3, by omega, by omega⟩
    · rintro ⟨i, e, h1, h2, h3, h4⟩
      by_cases h : prAt l i = 1000 - (n : Int)
      · exact .inr ⟨i, e, h1, h, h2⟩
      · exact .inl ⟨i, e, h1, h2, h3, by omega⟩
theorem ordR_sorted : ∀ {n : Nat}, (ordR l hs n).Pairwise fun x y => lexI (prAt l) x y = true
  | 0 => List.Pairwise.nil
  | n + 1 => by
    refine List.pairwise_append.2 ⟨ordR_sorted, ?_, fun x hx y hy => ?_⟩
    · have : (rowP l hs (1000 - n) l.length).Pairwise (· < ·) := by
        unfold rowP
        rw [List.pairwise_map]
        exact (List.pairwise_lt_range.filter _).imp fun h => by omega
      refine this.imp_of_mem fun {a b} ha hb h => ?_
      obtain ⟨i, rfl, _, e1, _⟩ := mem_rowP.1 ha
      obtain ⟨j, rfl, _, e2, _⟩ := mem_rowP.1 hb
      simp only [lexI, decide_eq_true_eq]
      exact .inr ⟨by rw [e1, e2], h⟩
    · obtain ⟨i, rfl, _, _, _, h4⟩ := mem_ordR.1 hx
      obtain ⟨j, rfl, _, e2, _⟩ := mem_rowP.1 hy
      simp only [lexI, decide_eq_true_eq]
      exact .inl (by omega)
theorem strict_ext {lt : Int → Int → Bool} (hS : Sort.SWO lt) : ∀ {a b : List Int}, a.Pairwise (fun x y => lt x y = true) → b.Pairwise (fun x y => lt x y = true) → (∀ x, x ∈ a ↔ x ∈ b) → a = b
  | [], [], _, _, _ => rfl
  | [], y :: _, _, _, h => by have := (h y).2 (List.mem_cons_self ..); simp at this
  | x :: _, [], _, _, h => by have := (h x).1 (List.mem_cons_self ..); simp at this
  | x :: a, y :: b, h1, h2, h => by
    obtain ⟨a1, a2⟩ := List.pairwise_cons.1 h1
    obtain ⟨b1, b2⟩ := List.pairwise_cons.1 h2
    have asy : ∀ {p q}, lt p q = true → lt q p = true → False := fun {p q} u v => by have := hS.trans _ _ _ u v; rw [hS.irrefl] at this; cases this
    have e : x = y := by
      rcases List.mem_cons.1 ((h x).1 (List.mem_cons_self ..)) with e | hx
      · exact e
      · rcases List.mem_cons.1 ((h y).2 (List.mem_cons_self ..)) with e | hy
        · exact e.symm
        · exact absurd (a1 y hy) fun h' => asy h' (b1 x hx)
    subst e
    congr 1
    refine strict_ext hS a2 b2 fun z => ⟨fun hz => ?_, fun hz => ?_⟩
    · rcases List.mem_cons.1 ((h z).1 (List.mem_cons_of_mem _ hz)) with e | h'
      · have := a1 z hz; rw [e, hS.irrefl] at this; cases this
      · exact h'
    · rcases List.mem_cons.1 ((h z).2 (List.mem_cons_of_mem _ hz)) with e | h'
      · have := b1 z hz; rw [e, hS.irrefl] at this; cases this
      · exact h'
/-- what a sort that keeps equals makes of the picked places is the document's -/
theorem ord_one (hpr : ∀ r ∈ l, 0 ≤ r.pr ∧ r.pr ≤ 1000) {d d' : Array Int} (hd : d.toList = picked l hs l.length) (hp : Sort.PermIn 0 d.size d d') (hso : Sort.SortedIn (lexI (prAt l)) 0 d.size d') : d'.toList = ordR l hs 1001 := by
  obtain ⟨h1, _, h3⟩ := hp
  have hperm : d'.toList.Perm d.toList := by
    simp only [Array.toList_extract, List.extract_eq_take_drop, List.drop_zero, Nat.sub_zero] at h3
    rw [List.take_of_length_le (by rw [Array.length_toList, h1]; exact Nat.le_refl _), List.take_of_length_le (by simp)] at h3
    exact h3
  have hnd : d'.toList.Nodup := hperm.nodup_iff.2 (by rw [hd]; exact picked_rise.imp fun h => by omega)
  refine strict_ext (lex_swo (prAt l)) ?_ ordR_sorted fun x => ?_
  · rw [List.pairwise_iff_getElem]
    intro i j hi hj hij
    have hj' : j < d'.size := by simpa using hj
    have hi' : i < d'.size := by simpa using hi
    have := hso i j (Nat.zero_le _) hij (by rw [← h1]; exact hj')
    rw [getElem!_pos d' i hi', getElem!_pos d' j hj'] at this
    have hne : d'[i] ≠ d'[j] := fun e => by
      have := (List.getElem_inj hnd (h₀ := hi) (h₁ := hj)).1 (by simpa using e)
      omega
    simp only [lexI, decide_eq_false_iff_not, decide_eq_true_eq, Array.getElem_toList] at this ⊢
    omega
  · rw [hperm.mem_iff, hd, mem_picked, mem_ordR]
    constructor
    · rintro ⟨i, e, h1, h2⟩
      have : 0 ≤ prAt l i ∧ prAt l i ≤ 1000 := by
        unfold prAt
        rw [Int.toNat_natCast, List.getElem?_eq_getElem h1]
        exact hpr _ (List.getElem_mem h1)
      exact ⟨i, e, h1, h2, this.2, by omega⟩
    · rintro ⟨i, e, h1, h2, _⟩; exact ⟨i, e, h1, h2⟩

end Go.Proofs.YtefgobmpleoafaaGreatDoor

/- Rules in memory: a slice value that reads as a list of rules; a row of rules of the call's own; append onto such a row. -/
namespace Go.Proofs.YtefgobmpleoafaaGreatDoor
open Go.RowKit
variable {w w' : World}

def ruCells (l : List Ru) : List Value := l.flatMap Ru.cells
theorem ruCells_cons (r : Ru) (l : List Ru) : ruCells (r :: l) = .int .i64 r.id :: .int .i64 r.pr :: .int .i64 r.ac :: .int .i64 r.sc :: .string r.pat :: ruCells l := rfl
theorem ruCells_append (a b : List Ru) : ruCells (a ++ b) = ruCells a ++ ruCells b := by simp [ruCells]
theorem ruCells_len : ∀ (l : List Ru), (ruCells l).length = l.length * 5
  | [] => rfl
  | r :: l => by rw [ruCells_cons]; simp only [List.length_cons]; rw [ruCells_len l]; omega
theorem ruCells_get : ∀ (l : List Ru) (i k : Nat) (r : Ru), l[i]? = some r → k < 5 → (ruCells l)[i * 5 + k]? = r.cells[k]?
  | [], i, k, r, h, _ => by simp at h
  | x :: l, 0, k, r, h, hk => by
    simp at h
    subst h
    rw [Nat.zero_mul, Nat.zero_add]
    show (x.cells ++ ruCells l)[k]? = _
    exact List.getElem?_append_left (by simp [Ru.cells]; omega)
  | x :: l, i + 1, k, r, h, hk => by
    have := ruCells_get l i k r (by simpa using h) hk
    show (x.cells ++ ruCells l)[(i + 1) * 5 + k]? = _
    rw [List.getElem?_append_right (by simp [Ru.cells]; omega), ← this]
    congr 1
    simp [Ru.cells]
    omega
theorem ruCells_inv : ∀ (l : List Ru) (j : Nat) (u : Value), (ruCells l)[j]? = some u → ∃ r, l[j / 5]? = some r ∧ r.cells[j % 5]? = some u := by
  intro l j u h
  have hj : j < (ruCells l).length := by
    rcases Nat.lt_or_ge j (ruCells l).length with h' | h'
    · exact h'
    · rw [List.getElem?_eq_none h'] at h; cases h
  rw [ruCells_len] at hj
  have hd : j / 5 < l.length := by omega
  have hg := ruCells_get l (j / 5) (j % 5) _ (List.getElem?_eq_getElem hd) (by omega)
  rw [show j / 5 * 5 + j % 5 = j by omega, h] at hg
  exact ⟨_, List.getElem?_eq_getElem hd, hg.symm⟩
theorem ru_one (r : Ru) : ∀ y ∈ r.cells, y.oneCell' = true := by
  intro y hy
  simp [Ru.cells] at hy
  rcases hy with rfl | rfl | rfl | rfl | rfl <;> rfl
theorem ruCells_one (l : List Ru) : ∀ y ∈ ruCells l, y.oneCell' = true := by
  intro y hy
  obtain ⟨r, _, hy⟩ := List.mem_flatMap.1 hy
  exact ru_one r y hy

/-- The five cells of a rule. -/
def RuAt (w : World) (b o : Nat) (r : Ru) : Prop :=
  w.cell? ⟨b, o, none⟩ = some (.int .i64 r.id) ∧ w.cell? ⟨b, o + 1, none⟩ = some (.int .i64 r.pr) ∧ w.cell? ⟨b, o + 2, none⟩ = some (.int .i64 r.ac) ∧ w.cell? ⟨b, o + 3, none⟩ = some (.int .i64 r.sc) ∧ w.cell? ⟨b, o + 4, none⟩ = some (.string r.pat)
theorem RuAt.below {n₀ b o : Nat} {r : Ru} (h : RuAt w b o r) (hb : b < n₀) (hB : Below n₀ w w') : RuAt w' b o r :=
  ⟨(hB.cell (p := ⟨b, o, none⟩) hb).trans h.1, (hB.cell (p := ⟨b, o + 1, none⟩) hb).trans h.2.1, (hB.cell (p := ⟨b, o + 2, none⟩) hb).trans h.2.2.1, (hB.cell (p := ⟨b, o + 3, none⟩) hb).trans h.2.2.2.1, (hB.cell (p := ⟨b, o + 4, none⟩) hb).trans h.2.2.2.2⟩
theorem RuAt.get {b o : Nat} {r : Ru} (h : RuAt w b o r) (k : Nat) (u : Value) (hu : r.cells[k]? = some u) : w.cell? ⟨b, o + k, none⟩ = some u := by
  obtain ⟨h0, h1, h2, h3, h4⟩ := h
  match k, hu with
  | 0, hu => simp [Ru.cells] at hu; subst hu; exact h0
  | 1, hu => simp [Ru.cells] at hu; subst hu; exact h1
  | 2, hu => simp [Ru.cells] at hu; subst hu; exact h2
  | 3, hu => simp [Ru.cells] at hu; subst hu; exact h3
  | 4, hu => simp [Ru.cells] at hu; subst hu; exact h4
  | k + 5, hu => simp [Ru.cells] at hu
/-- A slice value that reads as a list of rules. -/
def RulesV (n₀ : Nat) (w : World) (v : Value) (l : List Ru) : Prop :=
  ∃ A cap, v = .slice A l.length cap ∧ l.length ≤ cap ∧ (l ≠ [] → ∃ b off, A = some ⟨b, off, none⟩ ∧ b < n₀ ∧ ∀ i r, l[i]? = some r → RuAt w b (off + i * 5) r)
theorem RulesV.below {n₀ : Nat} {v : Value} {l : List Ru} (h : RulesV n₀ w v l) (hB : Below n₀ w w') : RulesV n₀ w' v l := by
  obtain ⟨A, cap, hv, hc, h⟩ := h
  exact ⟨A, cap, hv, hc, fun hs => by
    obtain ⟨b, off, hA, hb, ht⟩ := h hs
    exact ⟨b, off, hA, hb, fun i r hr => (ht i r hr).below hb hB⟩⟩
theorem RulesV.more {n₀ n₁ : Nat} {v : Value} {l : List Ru} (h : RulesV n₀ w v l) (hn : n₀ ≤ n₁) : RulesV n₁ w v l := by
  obtain ⟨A, cap, hv, hc, h⟩ := h
  exact ⟨A, cap, hv, hc, fun hs => by
    obtain ⟨b, off, hA, hb, ht⟩ := h hs
    exact ⟨b, off, hA, by omega, ht⟩⟩
theorem RulesV.on {v : Value} {l : List Ru} (h : RulesV w.heap.size w v l) (hB : Below w.heap.size w w') : RulesV w'.heap.size w' v l := (h.below hB).more hB.size
theorem RulesV.nil (n₀ : Nat) (w : World) : RulesV n₀ w (.slice none 0 0) [] := ⟨none, 0, rfl, Nat.le_refl _, fun h => absurd rfl h⟩
theorem RulesV.at_ {n₀ n cap k : Nat} {A : Option Addr} {l : List Ru} (h : RulesV n₀ w (.slice A n cap) l) (hk : k < l.length) :
    ∃ b off, A = some ⟨b, off, none⟩ ∧ b < n₀ ∧ RuAt w b (off + k * 5) l[k] := by
  obtain ⟨A', cap', hv, _, h⟩ := h
  have : A = A' := by injection hv
  subst this
  obtain ⟨b, off, hA, hb, ht⟩ := h (by rintro rfl; simp at hk)
  exact ⟨b, off, hA, hb, ht k l[k] (List.getElem?_eq_getElem hk)⟩
theorem RulesV.form {n₀ : Nat} {v : Value} {l : List Ru} (h : RulesV n₀ w v l) : ∃ A cap, v = .slice A l.length cap := by
  obtain ⟨A, cap, hv, _⟩ := h
  exact ⟨A, cap, hv⟩

/-- A row of rules of the call's own. -/
def OwnU (w : World) (base : Nat) (e : TypeId) (v : Value) (l : List Ru) : Prop := w.ownsRow base e 5 v l.length (ruCells l)
theorem OwnU.nil (w : World) (base : Nat) (e : TypeId) : OwnU w base e (.slice none 0 0) [] := World.ownsRow_nil _ _ _ _
theorem OwnU.set {base : Nat} {e : TypeId} {v : Value} {l : List Ru} (h : OwnU w base e v l) : RulesV w.heap.size w v l := by
  have h0 := h
  unfold OwnU at h
  rcases h.2 with ⟨hv, hn⟩ | ⟨g, cap, cur, hv, _, _, hnc, _⟩
  · obtain rfl : l = [] := List.length_eq_zero_iff.1 hn
    subst hv
    exact RulesV.nil _ _
  · subst hv
    refine ⟨_, cap, rfl, hnc, fun _ => ⟨g, 0, rfl, (h.lt g rfl).2, fun i r hr => ?_⟩⟩
    have hadd : ∀ j, (⟨g, 0, none⟩ : Addr).add j = ⟨g, 0 + j, none⟩ := fun j => by unfold Addr.add; split <;> simp_all
    have c : ∀ k u, k < 5 → r.cells[k]? = some u → w.cell? ⟨g, 0 + (i * 5 + k), none⟩ = some u := fun k u hk hu => by
      have := h.cells (g := g) rfl _ _ ((ruCells_get l i k r hr hk).trans hu)
      rwa [hadd] at this
    exact ⟨c 0 _ (by omega) rfl, c 1 _ (by omega) rfl, c 2 _ (by omega) rfl, c 3 _ (by omega) rfl, c 4 _ (by omega) rfl⟩
theorem OwnU.on {base : Nat} {e : TypeId} {v : Value} {l : List Ru} (h : OwnU w base e v l) (hB : Below w.heap.size w w') : OwnU w' base e v l :=
  own_keep h fun i hi => hB.block i (World.ownsRow.lt h i hi.symm).2
theorem OwnU.alloc {base : Nat} {e : TypeId} {v : Value} {l : List Ru} (h : OwnU w base e v l) (o : Obj) : OwnU (w.alloc o) base e v l := World.ownsRow.alloc h o

section
variable {P : Program} (w : World)
/-- append of one rule that lies in a block of its own, onto a row of the call's own. -/
theorem wpList_append_rule {ops : Array Oper} {rest : List Oper} {o : Oper} {a : Act} {Q : Exit → Act → World → Prop} (hgd : o.guard = none) (s x : Operand) (t : TypeId)
    (ho : o.op = .call { callee := .builtin .append, args := #[s, x], argTypes := #[t, t] })
    (base : Nat) (e : TypeId) (i : TypeInfo) (z : Value) (bytes : Nat) (ht : P.underlying t = some (.slice e)) (hi : P.info? e = some i) (hz : i.zero = some z)
    (hsize : i.size = 5) (hby : i.bytes = bytes) (hzs : z.cells.size = 5) (v : Value) (xs : List Ru) (hs : a.eval s = v) (hown : OwnU w base e v xs)
    (b c : Nat) (r : Ru) (hx : a.eval x = .slice (some ⟨b, 0, none⟩) 1 c) (hr : Blk w b e #[.int .i64 r.id, .int .i64 r.pr, .int .i64 r.ac, .int .i64 r.sc, .string r.pat]) (h63 : xs.length + 1 ≤ 1000000) (hbytes : bytes ≤ 100) (hbase : base ≤ w.heap.size)
    (h : ∀ v' w', OwnU w' base e v' (xs ++ [r]) → w.grownBy w' v.ownBlock → wpList P ops Q rest (a.put o.dst v') w') : wpList P ops Q (o :: rest) a w := by
  have hm : (xs.length + 1) * bytes ≤ 1000000 * 100 := Nat.mul_le_mul h63 hbytes
  refine wpList_append_own w hgd s x t ho base e i z 5 bytes ht hi hz hsize hby hzs (by decide) v xs.length (ruCells xs) hs hown ⟨b, 0, none⟩ 1 c r.cells hx rfl (fun j u hu => ?_) (ru_one r) (by unfold maxLen; omega) (by omega) hbase fun v' w' h1 h2 _ => h v' w' ?_ h2
  · have hadd : (⟨b, 0, none⟩ : Addr).add j = ⟨b, 0 + j, none⟩ := by unfold Addr.add; split <;> simp_all
    rw [hadd, Nat.zero_add, hr.cell j, ← hu]
    rw [Ru.cells, ← List.getElem?_toArray]
  · unfold OwnU
    rw [List.length_append, ruCells_append, show ruCells [r] = r.cells by simp [ruCells]]
    exact h1
end

end Go.Proofs.YtefgobmpleoafaaGreatDoor

/- Package rule: within, Rule.Right, all, rise, Set.Right, First. -/
namespace Go.Proofs.YtefgobmpleoafaaGreatDoor
open Go.RowKit
variable {w w' : World}

theorem within_any (n lo hi : Int) (w : World) : Calls Tryz.prog 39 #[.int .i64 n, .int .i64 lo, .int .i64 hi] w fun e w' => e = .returned (.bool (decide (lo ≤ n ∧ n ≤ hi))) ∧ w' = w := by
  go_enter Tryz.func39, Tryz.ntmps39
  by_cases h1 : lo ≤ n
  · by_cases h2 : n ≤ hi
    · rw [decide_eq_true ⟨h1, h2⟩]
      go_wp2
      go_ret
      exact ⟨rfl, rfl⟩
    · rw [decide_eq_false (fun h => h2 h.2)]
      go_wp2
      go_ret
      exact ⟨rfl, rfl⟩
  · rw [decide_eq_false (fun h => h1 h.1)]
    go_wp2
    go_ret
    exact ⟨rfl, rfl⟩

set_option maxRecDepth 100000 in
set_option maxHeartbeats 2000000 in
theorem ruleRight_any (r : Ru) (w : World) : Calls Tryz.prog 41 #[.agg #[.int .i64 r.id, .int .i64 r.pr, .int .i64 r.ac, .int .i64 r.sc, .string r.pat]] w fun e w' => e = .returned (.bool r.ok) ∧ Below w.heap.size w w' := by
  obtain ⟨id, pr, ac, sc, pat⟩ := r
  simp only
  have hb := (Below.refl w.heap.size w).alloc (Nat.le_refl _) (.cells #[.int .i64 id, .int .i64 pr, .int .i64 ac, .int .i64 sc, .string pat] 72)
  have HB := Lib.hid hb
  clear hb
  obtain ⟨k, hk⟩ : ∃ k, k = Ru.ok ⟨id, pr, ac, sc, pat⟩ := ⟨_, rfl⟩
  rw [← hk]
  have c1 := within_any id 1 1099511627776
  have c2 := within_any pr 0 1000
  have c3 := within_any ac 0 255
  have c4 := within_any sc 1 65535
  have hok : Ru.ok ⟨id, pr, ac, sc, pat⟩ = (decide (1 ≤ id ∧ id ≤ 1099511627776) && decide (0 ≤ pr ∧ pr ≤ 1000) && decide (0 ≤ ac ∧ ac ≤ 255) && decide (1 ≤ sc ∧ sc ≤ 65535) && decide (pat.size ≤ 256)) := by
    simp only [Ru.ok, ← Bool.decide_and]
    congr 1
    simp only [eq_iff_iff]
    omega
  rw [hok] at hk
  clear hok
  generalize decide (1 ≤ id ∧ id ≤ 1099511627776) = b1 at c1 hk
  generalize decide (0 ≤ pr ∧ pr ≤ 1000) = b2 at c2 hk
  generalize decide (0 ≤ ac ∧ ac ≤ 255) = b3 at c3 hk
  generalize decide (1 ≤ sc ∧ sc ≤ 65535) = b4 at c4 hk
  have C1 := Lib.hid c1
  have C2 := Lib.hid c2
  have C3 := Lib.hid c3
  have C4 := Lib.hid c4
  clear c1 c2 c3 c4
  have fin : ∀ {b : Bool} {w1 : World}, b = k → w1 = w.alloc (.cells #[.int .i64 id, .int .i64 pr, .int .i64 ac, .int .i64 sc, .string pat] 72) → Ending.returned (.bool b) = Ending.returned (.bool k) ∧ Below w.heap.size w w1 := fun e e' => ⟨by rw [e], by rw [e']; exact HB.out⟩
  cases b1 with
  | false =>
    go_enter Tryz.func41, Tryz.ntmps41
    go_wp2_with fail
    refine (C1.out _).mono ?_
    rintro e w1 ⟨rfl, rfl⟩
    go_wp2
    go_ret
    exact fin (by rw [hk]; rfl) rfl
  | true =>
  cases b2 with
  | false =>
    go_enter Tryz.func41, Tryz.ntmps41
    go_wp2_with fail
    refine (C1.out _).mono ?_
    rintro e w1 ⟨rfl, rfl⟩
    go_wp2_with fail
    refine (C2.out _).mono ?_
    rintro e w1 ⟨rfl, rfl⟩
    go_wp2
    go_ret
    exact fin (by rw [hk]; rfl) rfl
  | true =>
  cases b3 with
  | false =>
    go_enter Tryz.func41, Tryz.ntmps41
    go_wp2_with fail
    refine (C1.out _).mono ?_
    rintro e w1 ⟨rfl, rfl⟩
    go_wp2_with fail
    refine (C2.out _).mono ?_
    rintro e w1 ⟨rfl, rfl⟩
    go_wp2_with fail
    refine (C3.out _).mono ?_
    rintro e w1 ⟨rfl, rfl⟩
    go_wp2
    go_ret
    exact fin (by rw [hk]; rfl) rfl
  | true =>
  cases b4 with
  | false =>
    go_enter Tryz.func41, Tryz.ntmps41
    go_wp2_with fail
    refine (C1.out _).mono ?_
    rintro e w1 ⟨rfl, rfl⟩
    go_wp2_with fail
    refine (C2.out _).mono ?_
    rintro e w1 ⟨rfl, rfl⟩
    go_wp2_with fail
    refine (C3.out _).mono ?_
    rintro e w1 ⟨rfl, rfl⟩
    go_wp2_with fail
    refine (C4.out _).mono ?_
    rintro e w1 ⟨rfl, rfl⟩
    go_wp2
    go_ret
    exact fin (by rw [hk]; rfl) rfl
  | true =>
    by_cases h5 : pat.size ≤ 256
    · have h5i : (pat.size : Int) ≤ 256 := by omega
      rw [decide_eq_true h5] at hk
      go_enter Tryz.func41, Tryz.ntmps41
      go_wp2_with fail
      refine (C1.out _).mono ?_
      rintro e w1 ⟨rfl, rfl⟩
      go_wp2_with fail
      refine (C2.out _).mono ?_
      rintro e w1 ⟨rfl, rfl⟩
      go_wp2_with fail
      refine (C3.out _).mono ?_
      rintro e w1 ⟨rfl, rfl⟩
      go_wp2_with fail
      refine (C4.out _).mono ?_
      rintro e w1 ⟨rfl, rfl⟩
      go_wp2
      go_ret
      exact fin (by rw [hk]; rfl) rfl
    · have h5i : ¬ (pat.size : Int) ≤ 256 := by omega
      rw [decide_eq_false h5] at hk
      go_enter Tryz.func41, Tryz.ntmps41
      go_wp2_with fail
      refine (C1.out _).mono ?_
      rintro e w1 ⟨rfl, rfl⟩
      go_wp2_with fail
      refine (C2.out _).mono ?_
      rintro e w1 ⟨rfl, rfl⟩
      go_wp2_with fail
      refine (C3.out _).mono ?_
      rintro e w1 ⟨rfl, rfl⟩
      go_wp2_with fail
      refine (C4.out _).mono ?_
      rintro e w1 ⟨rfl, rfl⟩
      go_wp2
      go_ret
      exact fin (by rw [hk, decide_eq_false (by omega)]; rfl) rfl

end Go.Proofs.YtefgobmpleoafaaGreatDoor

/- Package rule: all, rise. -/
namespace Go.Proofs.YtefgobmpleoafaaGreatDoor
open Go.RowKit
variable {w w' : World}

theorem all_take_succ {l : List Ru} {k : Nat} {r : Ru} (h : l[k]? = some r) : (l.take (k + 1)).all Ru.ok = ((l.take k).all Ru.ok && r.ok) := by
  obtain ⟨hk, rfl⟩ := List.getElem?_eq_some_iff.1 h
  rw [List.take_succ_eq_append_getElem hk, List.all_append]
  simp
theorem all_false {l : List Ru} {k : Nat} {r : Ru} (h : l[k]? = some r) (hr : r.ok = false) : l.all Ru.ok = false := by
  rw [List.all_eq_false]
  exact ⟨r, List.mem_of_getElem? h, by simp [hr]⟩

set_option maxRecDepth 100000 in
set_option maxHeartbeats 2000000 in
theorem ruall_any (v : Value) (l : List Ru) (w : World) (hmax : l.length ≤ 1000000) (hS : RulesV w.heap.size w v l) :
    Calls Tryz.prog 40 #[v, .func (.func 41) #[] #[]] w fun e w' => e = .returned (.bool (l.all Ru.ok)) ∧ Below w.heap.size w w' := by
  obtain ⟨A, cap, rfl⟩ := hS.form
  go_enter Tryz.func40, Tryz.ntmps40
  go_wp2
  go_loopw [9] (fun i wr => ∃ k : Nat, k ≤ l.length ∧ i = .int .i64 k ∧ Hid ((l.take k).all Ru.ok = true) ∧ Below w.heap.size w wr) (fun i _ => l.length - (intOf i).toNat)
  case atStart => exact ⟨0, Nat.zero_le _, rfl, rfl, Below.refl _ _⟩
  case round =>
    obtain ⟨k, hk, rfl, HH, hbel⟩ := hrel
    have hsz := hbel.size
    by_cases hlt : k < l.length
    · obtain ⟨b, off, rfl, hb, c0, c1, c2, c3, c4⟩ := (hS.below hbel).at_ hlt
      have HG := Lib.hid (List.getElem?_eq_getElem hlt)
      generalize l[k] = r at HG c0 c1 c2 c3 c4
      cases hok : r.ok
      · have HI := Lib.hid hok
        clear hok
        go_wp2_with fail
        refine (ruleRight_any r _).mono ?_
        rintro e w1 ⟨rfl, hb1⟩
        rw [HI.out]
        go_wp2
        go_ret
        exact ⟨ret_bool (all_false HG.out HI.out).symm, below_call hbel hsz hb1⟩
      · have HI := Lib.hid hok
        clear hok
        go_wp2_with fail
        refine (ruleRight_any r _).mono ?_
        rintro e w1 ⟨rfl, hb1⟩
        rw [HI.out]
        have HB := Lib.hid (below_call hbel hsz hb1)
        clear hb1
        go_wp2
        go_roundw
        case rel => exact ⟨k + 1, by omega, by go_num, Lib.hid (by rw [all_take_succ HG.out, HH.out, HI.out]; rfl), HB.out⟩
        case measure => simp [intOf]; omega
    · obtain rfl : k = l.length := by omega
      go_wp2
      go_ret
      exact ⟨ret_bool (by have := HH.out; rw [List.take_length] at this; exact this.symm), hbel⟩

/-- do the IDs rise, from a number on? -/
def riseB : Int → List Ru → Bool
  | _, [] => true
  | last, r :: l => decide (last < r.id) && riseB r.id l
theorem riseB_iff : ∀ {l : List Ru} {last : Int}, riseB last l = true ↔ Rise l ∧ ∀ r ∈ l, last < r.id
  | [], _ => by simp [riseB]
  | r :: l, last => by
    simp only [riseB, Bool.and_eq_true, decide_eq_true_eq, riseB_iff (l := l), List.mem_cons, forall_eq_or_imp]
    constructor
    · rintro ⟨h, h1, h2⟩
      exact ⟨List.pairwise_cons.2 ⟨h2, h1⟩, h, fun x hx => by have := h2 x hx; omega⟩
    · rintro ⟨h1, h, _⟩
      exact ⟨h, (List.pairwise_cons.1 h1).2, (List.pairwise_cons.1 h1).1⟩

set_option maxRecDepth 100000 in
set_option maxHeartbeats 2000000 in
theorem rise_any (v : Value) (l : List Ru) (w : World) (hmax : l.length ≤ 1000000) (hS : RulesV w.heap.size w v l) :
    Calls Tryz.prog 42 #[v] w fun e w' => e = .returned (.bool (riseB 0 l)) ∧ Below w.heap.size w w' := by
  obtain ⟨A, cap, rfl⟩ := hS.form
  go_enter Tryz.func42, Tryz.ntmps42
  go_wp2
  go_loopw [3, 8] (fun lv i wr => ∃ (k : Nat) (last : Int), k ≤ l.length ∧ i = .int .i64 k ∧ lv = .int .i64 last ∧ Hid (riseB last (l.drop k) = riseB 0 l) ∧ Below w.heap.size w wr) (fun _ i _ => l.length - (intOf i).toNat)
  case atStart => exact ⟨0, 0, Nat.zero_le _, rfl, rfl, rfl, Below.refl _ _⟩
  case round =>
    obtain ⟨k, last, hk, rfl, rfl, HH, hbel⟩ := hrel
    have hsz := hbel.size
    by_cases hlt : k < l.length
    · obtain ⟨b, off, rfl, hb, c0, c1, c2, c3, c4⟩ := (hS.below hbel).at_ hlt
      have HG := Lib.hid (List.drop_eq_getElem_cons hlt)
      generalize l[k] = r at HG c0 c1 c2 c3 c4
      by_cases hle : r.id ≤ last
      · go_wp2
        go_ret
        refine ⟨ret_bool ?_, hbel.alloc hsz _⟩
        rw [← HH.out, HG.out]
        have : ¬ last < r.id := by omega
        simp [riseB, this]
      · go_wp2
        go_roundw
        case rel => exact ⟨k + 1, r.id, by omega, by go_num, rfl, Lib.hid (by
          rw [← HH.out, HG.out]
          have : last < r.id := by omega
          simp [riseB, this]), hbel.alloc hsz _⟩
        case measure => simp [intOf]; omega
    · obtain rfl : k = l.length := by omega
      go_wp2
      go_ret
      exact ⟨ret_bool (by have := HH.out; rw [List.drop_length] at this; exact this), hbel⟩

end Go.Proofs.YtefgobmpleoafaaGreatDoor

/- Package rule: Set.Right, First. -/
namespace Go.Proofs.YtefgobmpleoafaaGreatDoor
open Go.RowKit
variable {w w' : World}

theorem ok_eq (de cl fu st : Int) (rs : List Ru) : decide (RS.Ok ⟨de, cl, fu, st, rs⟩) = (decide (0 ≤ de ∧ de ≤ 255) && decide (0 ≤ cl ∧ cl ≤ 255) && decide (1 ≤ fu ∧ fu ≤ 1048576) && decide (0 ≤ st ∧ st ≤ 4096) && decide (rs.length ≤ 16) && rs.all Ru.ok && riseB 0 rs) := by
  rw [Bool.eq_iff_iff]
  simp only [Bool.and_eq_true, decide_eq_true_eq, RS.Ok, RS.num, List.all_eq_true, riseB_iff]
  constructor
  · rintro ⟨h1, h2, h3, h4⟩
    exact ⟨⟨⟨⟨⟨⟨by omega, by omega⟩, by omega⟩, by omega⟩, h2⟩, h3⟩, h4, fun r hr => by have := h3 r hr; simp only [Ru.ok, decide_eq_true_eq] at this; omega⟩
  · rintro ⟨⟨⟨⟨⟨⟨h1, h2⟩, h3⟩, h4⟩, h5⟩, h6⟩, h7, _⟩
    exact ⟨by omega, h5, h6, h7⟩

set_option maxRecDepth 100000 in
set_option maxHeartbeats 4000000 in
theorem setRight_any (s : RS) (v : Value) (w : World) (hmax : s.rs.length ≤ 1000000) (hS : RulesV w.heap.size w v s.rs) :
    Calls Tryz.prog 27 #[.agg #[.int .i64 s.de, .int .i64 s.cl, .int .i64 s.fu, .int .i64 s.st, v]] w fun e w' => e = .returned (.bool (decide s.Ok)) ∧ Below w.heap.size w w' := by
  obtain ⟨de, cl, fu, st, rs⟩ := s
  simp only at hmax hS ⊢
  obtain ⟨A, cap, rfl⟩ := hS.form
  have hb := (Below.refl w.heap.size w).alloc (Nat.le_refl _) (.cells #[.int .i64 de, .int .i64 cl, .int .i64 fu, .int .i64 st, .slice A rs.length cap] 54)
  have hx := Blk.new w 54 #[.int .i64 de, .int .i64 cl, .int .i64 fu, .int .i64 st, .slice A rs.length cap]
  have HB := Lib.hid hb
  have HX := Lib.hid hx
  have hS1 := hS.on ((Below.refl w.heap.size w).alloc (Nat.le_refl _) (.cells #[.int .i64 de, .int .i64 cl, .int .i64 fu, .int .i64 st, .slice A rs.length cap] 54))
  have HS := Lib.hid hS1
  clear hb hx hS hS1
  obtain ⟨k, hk⟩ : ∃ k, k = decide (RS.Ok ⟨de, cl, fu, st, rs⟩) := ⟨_, rfl⟩
  rw [← hk]
  have c1 := within_any de 0 255
  have c2 := within_any cl 0 255
  have c3 := within_any fu 1 1048576
  have c4 := within_any st 0 4096
  have c6 := fun (w : World) => ruall_any (.slice A rs.length cap) rs w hmax
  have c7 := fun (w : World) => rise_any (.slice A rs.length cap) rs w hmax
  rw [ok_eq] at hk
  generalize decide (0 ≤ de ∧ de ≤ 255) = b1 at c1 hk
  generalize decide (0 ≤ cl ∧ cl ≤ 255) = b2 at c2 hk
  generalize decide (1 ≤ fu ∧ fu ≤ 1048576) = b3 at c3 hk
  generalize decide (0 ≤ st ∧ st ≤ 4096) = b4 at c4 hk
  generalize rs.all Ru.ok = b6 at c6 hk
  generalize riseB 0 rs = b7 at c7 hk
  have C1 := Lib.hid c1
  have C2 := Lib.hid c2
  have C3 := Lib.hid c3
  have C4 := Lib.hid c4
  have C6 := Lib.hid c6
  have C7 := Lib.hid c7
  clear c1 c2 c3 c4 c6 c7
  have fin : ∀ {b : Bool} {w1 : World}, b = k → Below w.heap.size w w1 → Ending.returned (.bool b) = Ending.returned (.bool k) ∧ Below w.heap.size w w1 := fun e e' => ⟨by rw [e], e'⟩
  cases b1 with
  | false =>
    go_enter Tryz.func27, Tryz.ntmps27
    go_wp2_with fail
    refine (C1.out _).mono ?_
    rintro e w1 ⟨rfl, rfl⟩
    go_wp2
    go_ret
    exact fin (by rw [hk]; rfl) HB.out
  | true =>
  cases b2 with
  | false =>
    go_enter Tryz.func27, Tryz.ntmps27
    go_wp2_with fail
    refine (C1.out _).mono ?_
    rintro e w1 ⟨rfl, rfl⟩
    go_wp2_with fail
    refine (C2.out _).mono ?_
    rintro e w1 ⟨rfl, rfl⟩
    go_wp2
    go_ret
    exact fin (by rw [hk]; rfl) HB.out
  | true =>
  cases b3 with
  | false =>
    go_enter Tryz.func27, Tryz.ntmps27
    go_wp2_with fail
    refine (C1.out _).mono ?_
    rintro e w1 ⟨rfl, rfl⟩
    go_wp2_with fail
    refine (C2.out _).mono ?_
    rintro e w1 ⟨rfl, rfl⟩
    go_wp2_with fail
    refine (C3.out _).mono ?_
    rintro e w1 ⟨rfl, rfl⟩
    go_wp2
    go_ret
    exact fin (by rw [hk]; rfl) HB.out
  | true =>
  cases b4 with
  | false =>
    go_enter Tryz.func27, Tryz.ntmps27
    go_wp2_with fail
    refine (C1.out _).mono ?_
    rintro e w1 ⟨rfl, rfl⟩
    go_wp2_with fail
    refine (C2.out _).mono ?_
    rintro e w1 ⟨rfl, rfl⟩
    go_wp2_with fail
    refine (C3.out _).mono ?_
    rintro e w1 ⟨rfl, rfl⟩
    go_wp2_with fail
    refine (C4.out _).mono ?_
    rintro e w1 ⟨rfl, rfl⟩
    go_wp2
    go_ret
    exact fin (by rw [hk]; rfl) HB.out
  | true =>
  by_cases h5 : rs.length ≤ 16
  · have h5i : (rs.length : Int) ≤ 16 := by omega
    rw [decide_eq_true h5] at hk
    cases b6 with
    | false =>
      go_enter Tryz.func27, Tryz.ntmps27
      go_wp2_with fail
      refine (C1.out _).mono ?_
      rintro e w1 ⟨rfl, rfl⟩
      go_wp2_with fail
      refine (C2.out _).mono ?_
      rintro e w1 ⟨rfl, rfl⟩
      go_wp2_with fail
      refine (C3.out _).mono ?_
      rintro e w1 ⟨rfl, rfl⟩
      go_wp2_with fail
      refine (C4.out _).mono ?_
      rintro e w1 ⟨rfl, rfl⟩
      go_wp2_with fail
      refine (C6.out _ HS.out).mono ?_
      rintro e w1 ⟨rfl, hb1⟩
      have hv : w1.cell? ⟨w.heap.size, 4, none⟩ = some (.slice A rs.length cap) := (HX.out.on hb1).cell 4
      have HB1 := Lib.hid (HB.out.trans (hb1.mono HB.out.size))
      have HS1 := Lib.hid (HS.out.on hb1)
      clear hb1
      go_wp2
      go_ret
      exact fin (by rw [hk]; rfl) HB1.out
    | true =>
    go_enter Tryz.func27, Tryz.ntmps27
    go_wp2_with fail
    refine (C1.out _).mono ?_
    rintro e w1 ⟨rfl, rfl⟩
    go_wp2_with fail
    refine (C2.out _).mono ?_
    rintro e w1 ⟨rfl, rfl⟩
    go_wp2_with fail
    refine (C3.out _).mono ?_
    rintro e w1 ⟨rfl, rfl⟩
    go_wp2_with fail
    refine (C4.out _).mono ?_
    rintro e w1 ⟨rfl, rfl⟩
    go_wp2_with fail
    refine (C6.out _ HS.out).mono ?_
    rintro e w1 ⟨rfl, hb1⟩
    have hv : w1.cell? ⟨w.heap.size, 4, none⟩ = some (.slice A rs.length cap) := (HX.out.on hb1).cell 4
    have HB1 := Lib.hid (HB.out.trans (hb1.mono HB.out.size))
    have HS1 := Lib.hid (HS.out.on hb1)
    clear hb1
    go_wp2_with fail
    refine (C7.out _ HS1.out).mono ?_
    rintro e w2 ⟨rfl, hb2⟩
    have HB2 := Lib.hid (HB1.out.trans (hb2.mono HB1.out.size))
    clear hb2
    go_wp2
    go_ret
    exact fin (by rw [hk]; simp) HB2.out
  · have h5i : ¬ (rs.length : Int) ≤ 16 := by omega
    rw [decide_eq_false h5] at hk
    go_enter Tryz.func27, Tryz.ntmps27
    go_wp2_with fail
    refine (C1.out _).mono ?_
    rintro e w1 ⟨rfl, rfl⟩
    go_wp2_with fail
    refine (C2.out _).mono ?_
    rintro e w1 ⟨rfl, rfl⟩
    go_wp2_with fail
    refine (C3.out _).mono ?_
    rintro e w1 ⟨rfl, rfl⟩
    go_wp2_with fail
    refine (C4.out _).mono ?_
    rintro e w1 ⟨rfl, rfl⟩
    go_wp2
    go_ret
    exact ⟨rfl, HB.out⟩

set_option maxRecDepth 100000 in
theorem first_any (w : World) : Calls Tryz.prog 29 #[] w fun e w' => e = .returned (.agg #[.int .i64 0, .int .i64 255, .int .i64 10000, .int .i64 500, .slice none 0 0]) ∧ Below w.heap.size w w' := by
  go_enter Tryz.func29, Tryz.ntmps29
  go_wp2
  exact bodyPost_ret (v := .agg #[.int .i64 0, .int .i64 255, .int .i64 10000, .int .i64 500, .slice none 0 0]) (by simp [results, Tryz.results29, go_sem]) rfl ⟨rfl, by first | exact (Below.refl _ _).alloc (Nat.le_refl _) _ | skip⟩

end Go.Proofs.YtefgobmpleoafaaGreatDoor

/- Package rule: changedTo, numbered. -/
namespace Go.Proofs.YtefgobmpleoafaaGreatDoor
open Go.RowKit
variable {w w' : World}

theorem changedTo_any (old asked : Int) (w : World) : Calls Tryz.prog 61 #[.int .i64 old, .int .i64 asked] w fun e w' => e = .returned (.int .i64 (orK asked old)) ∧ w' = w := by
  go_enter Tryz.func61, Tryz.ntmps61
  unfold orK
  by_cases h : asked = -1
  · subst h
    go_wp2
    go_ret
    exact ⟨rfl, rfl⟩
  · rw [if_neg h]
    go_wp2
    go_ret
    exact ⟨rfl, rfl⟩

set_option maxRecDepth 100000 in
set_option maxHeartbeats 4000000 in
theorem numbered_any (s : RS) (d : Dl) (v pv dv : Value) (hv : ∃ A n c, v = .slice A n c) (hp : ∃ A n c, pv = .slice A n c) (hd : ∃ A n c, dv = .slice A n c) (w : World) :
    Calls Tryz.prog 47 #[.agg #[.int .i64 s.de, .int .i64 s.cl, .int .i64 s.fu, .int .i64 s.st, v], .agg #[.int .i64 d.de, .int .i64 d.cl, .int .i64 d.fu, .int .i64 d.st, pv, dv]] w
      fun e w' => e = .returned (.agg #[.int .i64 (orK d.de s.de), .int .i64 (orK d.cl s.cl), .int .i64 (orK d.fu s.fu), .int .i64 (orK d.st s.st), .slice none 0 0]) ∧ Below w.heap.size w w' := by
  obtain ⟨A, n, c, rfl⟩ := hv
  obtain ⟨A', n', c', rfl⟩ := hp
  obtain ⟨A'', n'', c'', rfl⟩ := hd
  obtain ⟨sde, scl, sfu, sst, rs⟩ := s
  obtain ⟨de, cl, fu, st, pu, dr⟩ := d
  simp only
  have c1 := changedTo_any sde de
  have c2 := changedTo_any scl cl
  have c3 := changedTo_any sfu fu
  have c4 := changedTo_any sst st
  generalize orK de sde = n1 at c1
  generalize orK cl scl = n2 at c2
  generalize orK fu sfu = n3 at c3
  generalize orK st sst = n4 at c4
  have C1 := Lib.hid c1
  have C2 := Lib.hid c2
  have C3 := Lib.hid c3
  have C4 := Lib.hid c4
  clear c1 c2 c3 c4
  go_enter Tryz.func47, Tryz.ntmps47
  go_wp2_with fail

  refine wp_region_still_tail 21 (by kernel_rfl) (by kernel_rfl) ?_
  simp only [List.take_succ_cons, List.take_zero, List.drop_succ_cons, List.drop_zero]
  change wpStill _ _ (((w.drew.alloc (.cells #[.int .i64 sde, .int .i64 scl, .int .i64 sfu, .int .i64 sst, .slice A n c] 54)).alloc (.cells #[.int .i64 de, .int .i64 cl, .int .i64 fu, .int .i64 st, .slice A' n' c', .slice A'' n'' c''] 37)).alloc (.cells #[.int .i64 0, .int .i64 0, .int .i64 0, .int .i64 0, .slice none 0 0] 54)) (fun a' => wpList _ _ _ _ a' (((w.drew.alloc (.cells #[.int .i64 sde, .int .i64 scl, .int .i64 sfu, .int .i64 sst, .slice A n c] 54)).alloc (.cells #[.int .i64 de, .int .i64 cl, .int .i64 fu, .int .i64 st, .slice A' n' c', .slice A'' n'' c''] 37)).alloc (.cells #[.int .i64 0, .int .i64 0, .int .i64 0, .int .i64 0, .slice none 0 0] 54))) _ _
  have hs : w.heap.size = w.drew.heap.size := rfl
  rw [hs]
  clear hs
  have hB : Below w.heap.size w w.drew := (Below.refl _ w).drew
  have HB := Lib.hid hB
  clear hB
  generalize w.drew = w0 at HB ⊢
  repeat still_step
  still_call (C1.out _)
  repeat still_step
  still_call (C2.out _)
  repeat still_step
  still_call (C3.out _)
  repeat still_step
  still_call (C4.out _)
  repeat still_step
  refine wpStill_nil ?_
  go_wp2
  refine bodyPost_ret (v := .agg #[.int .i64 n1, .int .i64 n2, .int .i64 n3, .int .i64 n4, .slice none 0 0]) (by simp [results, Tryz.results47, go_sem]) rfl ⟨rfl, ?_⟩
  have h0 := HB.out.size
  exact ((HB.out.alloc h0 _).alloc (by simp; omega) _).alloc (by simp; omega) _

end Go.Proofs.YtefgobmpleoafaaGreatDoor

