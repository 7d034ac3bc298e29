/- Layer 7's rules, sets and changes, as functions; rules by ID as a map's datum. -/
import Derived.Maps.OwnSet
namespace Go.Proofs.YtefgobmpleoafaaGreat

structure Ru where
  id : Int
  pr : Int
  ac : Int
  sc : Int
  pat : ByteArray

def Ru.cells (r : Ru) : List Value := [.int .i64 r.id, .int .i64 r.pr, .int .i64 r.ac, .int .i64 r.sc, .string r.pat]
def Ru.val (r : Ru) : Value := .agg #[.int .i64 r.id, .int .i64 r.pr, .int .i64 r.ac, .int .i64 r.sc, .string r.pat]
def Ru.none : Ru := ⟨0, 0, 0, 0, .empty⟩
theorem Ru.inj {r s : Ru} (h : r.val = s.val) : r = s := by
  cases r; cases s; simp [Ru.val] at h; simpa using h
def Ru.ok (r : Ru) : Bool := decide (1 ≤ r.id ∧ r.id ≤ 1099511627776 ∧ 0 ≤ r.pr ∧ r.pr ≤ 1000 ∧ 0 ≤ r.ac ∧ r.ac ≤ 255 ∧ 1 ≤ r.sc ∧ r.sc ≤ 65535 ∧ r.pat.size ≤ 256)

structure RS where
  de : Int
  cl : Int
  fu : Int
  st : Int
  rs : List Ru
def RS.zero : RS := ⟨0, 0, 0, 0, []⟩
def RS.first : RS := ⟨0, 255, 10000, 500, []⟩
def RS.num (s : RS) : Bool := decide (0 ≤ s.de ∧ s.de ≤ 255 ∧ 0 ≤ s.cl ∧ s.cl ≤ 255 ∧ 1 ≤ s.fu ∧ s.fu ≤ 1048576 ∧ 0 ≤ s.st ∧ s.st ≤ 4096)
abbrev Rise (l : List Ru) : Prop := l.Pairwise fun a b => a.id < b.id
def RS.Ok (s : RS) : Prop := s.num = true ∧ s.rs.length ≤ 16 ∧ (∀ r ∈ s.rs, r.ok = true) ∧ Rise s.rs
instance (s : RS) : Decidable s.Ok := by unfold RS.Ok; infer_instance

structure Dl where
  de : Int
  cl : Int
  fu : Int
  st : Int
  put : List Ru
  drop : List Int
def orK (n keep : Int) : Int := if n = -1 then keep else n
def nums (s : RS) (d : Dl) : RS := ⟨orK d.de s.de, orK d.cl s.cl, orK d.fu s.fu, orK d.st s.st, []⟩
/-- a rule among others, by its ID -/
def ins (r : Ru) (l : List Ru) : List Ru := l.filter (fun x => decide (x.id < r.id)) ++ r :: l.filter (fun x => decide (r.id < x.id))
def gone (i : Int) (l : List Ru) : List Ru := l.filter fun x => decide (x.id ≠ i)
def drops (l : List Ru) (ids : List Int) : List Ru := l.filter fun x => decide (x.id ∉ ids)
def puts (l : List Ru) (p : List Ru) : List Ru := p.foldl (fun l r => ins r l) l
def Dl.ids (d : Dl) : List Int := d.put.map Ru.id ++ d.drop
def after (s : RS) (d : Dl) : List Ru := puts (drops s.rs d.drop) d.put
def applyM (s : RS) (d : Dl) : RS × Int :=
  if ¬ s.Ok then (.zero, 10) else
  if (nums s d).num = false ∨ ∃ r ∈ d.put, r.ok = false then (.zero, 30) else
  if ¬ d.ids.Nodup then (.zero, 31) else
  if ∃ i ∈ d.drop, i ∉ s.rs.map Ru.id then (.zero, 32) else
  if 16 < (after s d).length then (.zero, 33) else ({ nums s d with rs := after s d }, 0)

theorem mem_ins {r x : Ru} {l : List Ru} : x ∈ ins r l ↔ x = r ∨ (x ∈ l ∧ x.id ≠ r.id) := by
  unfold ins
  simp only [List.mem_append, List.mem_cons, List.mem_filter, decide_eq_true_eq]
  constructor
  · rintro (⟨h, hl⟩ | rfl | ⟨h, hl⟩)
    · exact .inr ⟨h, by omega⟩
    · exact .inl rfl
    · exact .inr ⟨h, by omega⟩
  · rintro (rfl | ⟨h, hl⟩)
    · exact .inr (.inl rfl)
    · rcases Int.lt_or_gt_of_ne hl with h' | h'
      · exact .inl ⟨h, h'⟩
      · exact .inr (.inr ⟨h, h'⟩)
theorem Rise.ins {r : Ru} {l : List Ru} (h : Rise l) : Rise (ins r l) := by
  unfold Go.Proofs.YtefgobmpleoafaaGreat.ins
  refine List.pairwise_append.2 ⟨h.filter _, List.pairwise_cons.2 ⟨fun x hx => ?_, h.filter _⟩, fun x hx y hy => ?_⟩
  · exact of_decide_eq_true (List.mem_filter.1 hx).2
  · have h1 : x.id < r.id := of_decide_eq_true (List.mem_filter.1 hx).2
    rcases List.mem_cons.1 hy with rfl | hy
    · exact h1
    · have h2 : r.id < y.id := of_decide_eq_true (List.mem_filter.1 hy).2
      omega
theorem Rise.puts {l : List Ru} (h : Rise l) : ∀ (p : List Ru), Rise (puts l p) := by
  intro p
  induction p generalizing l with
  | nil => exact h
  | cons r p ih => exact ih h.ins
theorem Rise.drops {l : List Ru} (h : Rise l) (ids : List Int) : Rise (drops l ids) := h.filter _
theorem rise_ext : ∀ {l l' : List Ru}, Rise l → Rise l' → (∀ x, x ∈ l ↔ x ∈ l') → l = l'
  | [], [], _, _, _ => rfl
  | [], y :: _, _, _, h => by have := (h y).2 (List.mem_cons_self ..); simp at this
  | x :: _, [], _, _, h => by have := (h x).1 (List.mem_cons_self ..); simp at this
  | x :: l, y :: l', h1, h2, h => by
    obtain ⟨a1, a2⟩ := List.pairwise_cons.1 h1
    obtain ⟨b1, b2⟩ := List.pairwise_cons.1 h2
    have e : x = y := by
      rcases List.mem_cons.1 ((h x).1 (List.mem_cons_self ..)) with e | hx
      · exact e
      · rcases List.mem_cons.1 ((h y).2 (List.mem_cons_self ..)) with e | hy
        · exact e.symm
        · have := b1 x hx; have := a1 y hy; omega
    subst e
    congr 1
    refine rise_ext a2 b2 fun z => ⟨fun hz => ?_, fun hz => ?_⟩
    · rcases List.mem_cons.1 ((h z).1 (List.mem_cons_of_mem _ hz)) with e | h'
      · have := a1 z hz; rw [e] at this; omega
      · exact h'
    · rcases List.mem_cons.1 ((h z).2 (List.mem_cons_of_mem _ hz)) with e | h'
      · have := b1 z hz; rw [e] at this; omega
      · exact h'
theorem rise_inj {l : List Ru} (h : Rise l) {x y : Ru} (hx : x ∈ l) (hy : y ∈ l) (e : x.id = y.id) : x = y := by
  induction l with
  | nil => simp at hx
  | cons z l ih =>
    obtain ⟨a1, a2⟩ := List.pairwise_cons.1 h
    rcases List.mem_cons.1 hx with ex | hx'
    · rcases List.mem_cons.1 hy with ey | hy'
      · rw [ex, ey]
      · have := a1 y hy'; rw [ex] at e; omega
    · rcases List.mem_cons.1 hy with ey | hy'
      · have := a1 x hx'; rw [ey] at e; omega
      · exact ih a2 hx' hy'
theorem drops_nil (l : List Ru) : drops l [] = l := by simp [drops]
theorem drops_snoc (l : List Ru) (ids : List Int) (i : Int) : drops l (ids ++ [i]) = gone i (drops l ids) := by
  unfold drops gone
  rw [List.filter_filter]
  apply List.filter_congr
  intro x _
  simp only [List.mem_append, List.mem_singleton, not_or, ne_eq]
  rw [Bool.eq_iff_iff]
  simp [and_comm]
theorem mem_drops_ids {l : List Ru} {ids : List Int} {i : Int} (h : i ∉ ids) : i ∈ (drops l ids).map Ru.id ↔ i ∈ l.map Ru.id := by
  simp only [drops, List.mem_map, List.mem_filter, decide_eq_true_eq]
  constructor
  · rintro ⟨r, ⟨a, _⟩, e⟩; exact ⟨r, a, e⟩
  · rintro ⟨r, a, e⟩; exact ⟨r, ⟨a, by rw [e]; exact h⟩, e⟩
theorem puts_nil (l : List Ru) : puts l [] = l := rfl
theorem puts_snoc (l : List Ru) (p : List Ru) (r : Ru) : puts l (p ++ [r]) = ins r (puts l p) := by simp [puts, List.foldl_append]

/-! ### as a map's datum -/
def ruR (v : Value) : Option (DataW Ru × List MemPlace) :=
  match v with
  | .agg a => (match a.toList with | [.int .i64 i, .int .i64 p, .int .i64 c, .int .i64 s, .string t] => some (.held ⟨i, p, c, s, t⟩, []) | _ => none)
  | _ => none
theorem ruR_val (r : Ru) : ruR r.val = some (.held r, []) := rfl
theorem ruR_inv {v : Value} {z : DataW Ru × List MemPlace} (h : ruR v = some z) : ∃ r : Ru, v = r.val ∧ z = (.held r, []) := by
  unfold ruR at h
  split at h
  · rename_i a
    split at h
    · rename_i i p c s t e
      refine ⟨⟨i, p, c, s, t⟩, ?_, by cases h; rfl⟩
      unfold Ru.val
      congr 1
      exact Array.toList_inj.1 e
    · cases h
  · cases h
def dm (l : List Ru) : DataW Ru := .map (l.map fun r => (.int .i64 r.id, .held r))
theorem insert_ins {r : Ru} : ∀ {l : List Ru}, Rise l → DataW.insert ((.int .i64 r.id : Lit), (.held r : DataW Ru)) ((gone r.id l).map fun x => ((.int .i64 x.id : Lit), (.held x : DataW Ru))) = (ins r l).map fun x => (.int .i64 x.id, .held x)
  | [], _ => rfl
  | x :: l, h => by
    obtain ⟨a1, a2⟩ := List.pairwise_cons.1 h
    have ih := insert_ins a2 (r := r)
    by_cases e : x.id = r.id
    · have g : gone r.id (x :: l) = gone r.id l := by simp [gone, e]
      have i : ins r (x :: l) = ins r l := by simp [ins, e]
      rw [g, i]; exact ih
    · have g : gone r.id (x :: l) = x :: gone r.id l := by simp [gone, e]
      rw [g, List.map_cons]
      unfold DataW.insert
      by_cases hlt : r.id < x.id
      · have hg : gone r.id l = l := List.filter_eq_self.2 fun y hy => by have := a1 y hy; simp; omega
        have h1 : l.filter (fun y => decide (y.id < r.id)) = [] := List.filter_eq_nil_iff.2 fun y hy => by have := a1 y hy; simp; omega
        have h2 : l.filter (fun y => decide (r.id < y.id)) = l := List.filter_eq_self.2 fun y hy => by have := a1 y hy; simp; omega
        simp only [Lit.before, decide_eq_true_eq, hlt, if_true, hg]
        simp [ins, h1, h2, hlt, Int.lt_asymm hlt]
      · have hlt' : x.id < r.id := by omega
        simp only [Lit.before, decide_eq_true_eq, hlt, if_false, ih]
        simp [ins, hlt', hlt]
theorem dm_put {l : List Ru} (h : Rise l) (r : Ru) : (dm l).put (.int .i64 r.id) (.held r) = dm (ins r l) := by
  show DataW.map (DataW.insert _ (List.filter _ (List.map _ l))) = DataW.map _
  rw [← insert_ins h, gone, List.filter_map]
  congr 4
  funext x
  simp [Lit.sameKey]
theorem dm_del (l : List Ru) (i : Int) : (dm l).del (.int .i64 i) = dm (gone i l) := by
  show DataW.map (List.filter _ (List.map _ l)) = DataW.map (List.map _ (List.filter _ l))
  rw [List.filter_map]
  congr 3
  funext x
  simp [Lit.sameKey]
theorem dm_size (l : List Ru) : Maps.size (dm l) = l.length := by simp [dm, Maps.size]
theorem dm_has (l : List Ru) (i : Int) : Maps.has (dm l) (.int .i64 i) = decide (i ∈ l.map Ru.id) := by
  unfold dm
  rw [Maps.has_eq, List.any_map, Bool.eq_iff_iff]
  simp [Lit.sameKey]
def look (l : List Ru) (i : Int) : Ru := (l.find? fun x => decide (x.id = i)).getD .none
theorem dm_atKey (l : List Ru) (i : Int) : (dm l).atKey (.int .i64 i) (.held .none) = .held (look l i) := by
  unfold dm DataW.atKey look
  simp only [List.find?_map]
  have : ((fun p : Lit × DataW Ru => p.1.sameKey (.int .i64 i)) ∘ fun r : Ru => ((.int .i64 r.id : Lit), (.held r : DataW Ru))) = fun x : Ru => decide (x.id = i) := by
    funext x; simp [Lit.sameKey]
  rw [this]
  cases l.find? fun x => decide (x.id = i) <;> rfl
theorem dm_nil : dm [] = .map [] := rfl

end Go.Proofs.YtefgobmpleoafaaGreat
